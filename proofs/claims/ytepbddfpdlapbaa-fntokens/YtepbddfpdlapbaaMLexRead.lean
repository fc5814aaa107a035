import Derived.Scope
import Derived.ScopeJumps
import Derived.WalkMore
import Derived.BigQuiet
import Derived.Deep.QuietTactic
import Derived.Test.YtepbddfpdlapbaaMLexLists
import Derived.Test.YtepbddfpdlapbaaMLitWalks
import Derived.Test.YtepbddfpdlapbaaMLexWord
namespace Go.Proofs.Ytepbddfpdlapbaa.lex
open Go.RowKit Go.Proofs.Ytepbddfpdlapbaa.bts Go.Proofs.Ytepbddfpdlapbaa.scn Go.Proofs.Ytepbddfpdlapbaa.lit
theorem ofNat_eq {c : Int} {b : Nat} (h0 : 0 ≤ c) (h1 : c ≤ 255) (hb : b < 256) : (UInt8.ofNat c.toNat == UInt8.ofNat b) = (c == (b : Int)) := by
  rw [Bool.eq_iff_iff]
  simp only [beq_iff_eq]
  constructor
  · intro h
    have := congrArg UInt8.toNat h
    simp only [UInt8.toNat_ofNat'] at this
    omega
  · rintro rfl; simp
theorem part_one {zs : List Int} {k : Nat} (h : k < zs.length) : part zs k 1 = [zs.getD k 0] := by
  unfold part
  rw [List.drop_eq_getElem_cons h]
  simp only [List.take_succ_cons, List.take_zero, List.getD_eq_getElem?_getD, List.getElem?_eq_getElem h, Option.getD_some]
theorem part_two {zs : List Int} {k : Nat} (h : k + 1 < zs.length) : part zs k 2 = [zs.getD k 0, zs.getD (k + 1) 0] := by
  unfold part
  rw [List.drop_eq_getElem_cons (by omega), List.drop_eq_getElem_cons h]
  simp only [List.take_succ_cons, List.take_zero, List.getD_eq_getElem?_getD, List.getElem?_eq_getElem h, List.getElem?_eq_getElem (show k < zs.length by omega), Option.getD_some]
theorem toList1 (a : UInt8) : (ByteArray.mk #[a]).toList = [a] := by
  unfold ByteArray.toList
  rw [ByteArray.toList.loop, ByteArray.toList.loop]
  rfl
theorem toList2 (a b : UInt8) : (ByteArray.mk #[a, b]).toList = [a, b] := by
  unfold ByteArray.toList
  rw [ByteArray.toList.loop, ByteArray.toList.loop, ByteArray.toList.loop]
  rfl
theorem stands1 {zs : List Int} (hb : Bts zs) {k : Nat} (h : k < zs.length) (b : Nat) (h256 : b < 256) : stands zs k { data := #[UInt8.ofNat b] } = (zs.getD k 0 == (b : Int)) := by
  have hz := hb k
  rw [← ofNat_eq hz.1 hz.2 h256]
  have e1 : (ByteArray.mk #[UInt8.ofNat b]).size = 1 := rfl
  unfold stands
  rw [e1, part_one h, decide_eq_true (by omega), Bool.true_and]
  rw [toList1, show strOfNums [zs.getD k 0] = ByteArray.mk #[UInt8.ofNat (zs.getD k 0).toNat] from rfl, toList1]
  rw [List.cons_beq_cons, show (([] : List UInt8) == []) = true from rfl, Bool.and_true]
theorem stands2 {zs : List Int} (hb : Bts zs) {k : Nat} (h : k + 1 < zs.length) (b d : Nat) (h256 : b < 256) (d256 : d < 256) : stands zs k { data := #[UInt8.ofNat b, UInt8.ofNat d] } = ((zs.getD k 0 == (b : Int)) && (zs.getD (k + 1) 0 == (d : Int))) := by
  have hz := hb k
  have hz' := hb (k + 1)
  rw [← ofNat_eq hz.1 hz.2 h256, ← ofNat_eq hz'.1 hz'.2 d256]
  have e1 : (ByteArray.mk #[UInt8.ofNat b, UInt8.ofNat d]).size = 2 := rfl
  unfold stands
  rw [e1, part_two h, decide_eq_true (by omega), Bool.true_and]
  rw [toList2, show strOfNums [zs.getD k 0, zs.getD (k + 1) 0] = ByteArray.mk #[UInt8.ofNat (zs.getD k 0).toNat, UInt8.ofNat (zs.getD (k + 1) 0).toNat] from rfl, toList2]
  rw [List.cons_beq_cons, List.cons_beq_cons, show (([] : List UInt8) == []) = true from rfl, Bool.and_true]
theorem stands2_short {zs : List Int} {k : Nat} (h : ¬ k + 1 < zs.length) (b d : Nat) : stands zs k { data := #[UInt8.ofNat b, UInt8.ofNat d] } = false := by
  have e1 : (ByteArray.mk #[UInt8.ofNat b, UInt8.ofNat d]).size = 2 := rfl
  unfold stands
  rw [e1, decide_eq_false (by omega), Bool.false_and]
def sgn (c : Int) : Int × Int :=
  if c = 43 ∨ c = 42 ∨ c = 37 ∨ c = 40 ∨ c = 41 ∨ c = 123 ∨ c = 125 ∨ c = 91 ∨ c = 93 ∨ c = 59 ∨ c = 44 then (1, 0)
  else if c = 61 ∨ c = 60 ∨ c = 62 then (1, 61) else if c = 46 ∨ c = 45 then (1, c) else if c = 126 then (0, 61) else if c = 47 then (0, 47) else (0, 0)
def pairs : List (Nat × Nat) := [(61, 61), (126, 61), (60, 61), (62, 61), (47, 47), (46, 46)]
def ones : List Nat := [43, 45, 42, 37, 60, 62, 61, 40, 41, 123, 125, 91, 93, 59, 44, 46]
theorem signs_are : signs = pairs.map (fun p => { data := #[UInt8.ofNat p.1, UInt8.ofNat p.2] }) ++ ones.map (fun b => { data := #[UInt8.ofNat b] }) := by rfl
theorem signLen_ones {zs : List Int} (hb : Bts zs) {k : Nat} (h : k < zs.length) : ∀ l : List Nat, (∀ b ∈ l, b < 256) → signLen zs k (l.map fun b => { data := #[UInt8.ofNat b] }) = if l.any (fun b => zs.getD k 0 == (b : Int)) then some 1 else none
  | [], _ => rfl
  | b :: r, hl => by
    rw [List.map_cons, signLen, stands1 hb h b (hl b (by simp)), signLen_ones hb h r (fun x hx => hl x (by simp [hx])), List.any_cons]
    cases (zs.getD k 0 == (b : Int))
    · rw [if_neg (by decide), Bool.false_or]
    · rfl
theorem signLen_pairs {zs : List Int} (hb : Bts zs) {k : Nat} (h : k + 1 < zs.length) (t : List ByteArray) : ∀ l : List (Nat × Nat), (∀ p ∈ l, p.1 < 256 ∧ p.2 < 256) → signLen zs k (l.map (fun p => { data := #[UInt8.ofNat p.1, UInt8.ofNat p.2] }) ++ t) = if l.any (fun p => (zs.getD k 0 == (p.1 : Int)) && (zs.getD (k + 1) 0 == (p.2 : Int))) then some 2 else signLen zs k t
  | [], _ => rfl
  | p :: r, hl => by
    rw [List.map_cons, List.cons_append, signLen, stands2 hb h p.1 p.2 (hl p (by simp)).1 (hl p (by simp)).2, signLen_pairs hb h t r (fun x hx => hl x (by simp [hx])), List.any_cons]
    cases ((zs.getD k 0 == (p.1 : Int)) && (zs.getD (k + 1) 0 == (p.2 : Int)))
    · rw [if_neg (by decide), Bool.false_or]
    · rfl
theorem signLen_pairs_short {zs : List Int} {k : Nat} (h : ¬ k + 1 < zs.length) (t : List ByteArray) : ∀ l : List (Nat × Nat), signLen zs k (l.map (fun p => { data := #[UInt8.ofNat p.1, UInt8.ofNat p.2] }) ++ t) = signLen zs k t
  | [] => rfl
  | p :: r => by rw [List.map_cons, List.cons_append, signLen, stands2_short h p.1 p.2, if_neg (by decide), signLen_pairs_short h t r]
theorem sgn_cases (c : Int) : ((c = 43 ∨ c = 42 ∨ c = 37 ∨ c = 40 ∨ c = 41 ∨ c = 123 ∨ c = 125 ∨ c = 91 ∨ c = 93 ∨ c = 59 ∨ c = 44) ∧ sgn c = (1, 0)) ∨ ((c = 61 ∨ c = 60 ∨ c = 62) ∧ sgn c = (1, 61)) ∨ ((c = 46 ∨ c = 45) ∧ sgn c = (1, c)) ∨ (c = 126 ∧ sgn c = (0, 61)) ∨ (c = 47 ∧ sgn c = (0, 47)) ∨
    (¬ (c = 43 ∨ c = 42 ∨ c = 37 ∨ c = 40 ∨ c = 41 ∨ c = 123 ∨ c = 125 ∨ c = 91 ∨ c = 93 ∨ c = 59 ∨ c = 44) ∧ ¬ (c = 61 ∨ c = 60 ∨ c = 62) ∧ ¬ (c = 46 ∨ c = 45) ∧ ¬ c = 126 ∧ ¬ c = 47 ∧ sgn c = (0, 0)) := by
  unfold sgn
  by_cases h1 : c = 43 ∨ c = 42 ∨ c = 37 ∨ c = 40 ∨ c = 41 ∨ c = 123 ∨ c = 125 ∨ c = 91 ∨ c = 93 ∨ c = 59 ∨ c = 44
  · rw [if_pos h1]; exact .inl ⟨h1, rfl⟩
  · rw [if_neg h1]
    by_cases h2 : c = 61 ∨ c = 60 ∨ c = 62
    · rw [if_pos h2]; exact .inr (.inl ⟨h2, rfl⟩)
    · rw [if_neg h2]
      by_cases h3 : c = 46 ∨ c = 45
      · rw [if_pos h3]; exact .inr (.inr (.inl ⟨h3, rfl⟩))
      · rw [if_neg h3]
        by_cases h4 : c = 126
        · rw [if_pos h4]; exact .inr (.inr (.inr (.inl ⟨h4, rfl⟩)))
        · rw [if_neg h4]
          by_cases h5 : c = 47
          · rw [if_pos h5]; exact .inr (.inr (.inr (.inr (.inl ⟨h5, rfl⟩))))
          · rw [if_neg h5]; exact .inr (.inr (.inr (.inr (.inr ⟨h1, h2, h3, h4, h5, rfl⟩))))
theorem any_ones (c : Int) : ones.any (fun b => c == (b : Int)) = true ↔ (sgn c).1 = 1 := by
  simp only [ones, List.any_cons, List.any_nil, Bool.or_false, Bool.or_eq_true, beq_iff_eq]
  rcases sgn_cases c with ⟨h, e⟩ | ⟨h, e⟩ | ⟨h, e⟩ | ⟨h, e⟩ | ⟨h, e⟩ | ⟨h1, h2, h3, h4, h5, e⟩ <;> rw [e]
  · exact ⟨fun _ => rfl, fun _ => by omega⟩
  · exact ⟨fun _ => rfl, fun _ => by omega⟩
  · exact ⟨fun _ => rfl, fun _ => by omega⟩
  · exact ⟨fun _ => by omega, fun h => by simp at h⟩
  · exact ⟨fun _ => by omega, fun h => by simp at h⟩
  · exact ⟨fun _ => by omega, fun h => by simp at h⟩
theorem any_pairs (c d : Int) : pairs.any (fun p => (c == (p.1 : Int)) && (d == (p.2 : Int))) = true ↔ ((sgn c).2 = d ∧ ¬ d = 0 ∧ ¬ c = 45) := by
  simp only [pairs, List.any_cons, List.any_nil, Bool.or_false, Bool.or_eq_true, Bool.and_eq_true, beq_iff_eq]
  rcases sgn_cases c with ⟨h, e⟩ | ⟨h, e⟩ | ⟨h, e⟩ | ⟨h, e⟩ | ⟨h, e⟩ | ⟨h1, h2, h3, h4, h5, e⟩ <;> rw [e] <;> simp only <;> omega
theorem sgn_fst (c : Int) : (sgn c).1 = 0 ∨ (sgn c).1 = 1 := by
  rcases sgn_cases c with ⟨h, e⟩ | ⟨h, e⟩ | ⟨h, e⟩ | ⟨h, e⟩ | ⟨h, e⟩ | ⟨h1, h2, h3, h4, h5, e⟩ <;> rw [e] <;> simp
theorem sgn_dash {c : Int} (h : (sgn c).2 = 45) : c = 45 := by
  rcases sgn_cases c with ⟨_, e⟩ | ⟨_, e⟩ | ⟨_, e⟩ | ⟨_, e⟩ | ⟨_, e⟩ | ⟨_, _, _, _, _, e⟩ <;> rw [e] at h <;> simp at h <;> exact h
theorem sign_short {zs : List Int} (hb : Bts zs) {k : Nat} (h : k < zs.length) (hs : (sgn (zs.getD k 0)).2 = 0 ∨ zs.length ≤ k + 1 ∨ ¬ zs.getD (k + 1) 0 = (sgn (zs.getD k 0)).2) :
    signLen zs k signs = if (sgn (zs.getD k 0)).1 = 0 then none else some 1 := by
  have h1 := sgn_fst (zs.getD k 0)
  have e : signLen zs k signs = signLen zs k (ones.map (fun b => { data := #[UInt8.ofNat b] })) := by
    rw [signs_are]
    by_cases hk : k + 1 < zs.length
    · rw [signLen_pairs hb hk _ _ (by decide), if_neg]
      rw [any_pairs]; omega
    · rw [signLen_pairs_short hk]
  rw [e, signLen_ones hb h _ (by decide)]
  rcases h1 with h1 | h1
  · rw [if_pos h1, if_neg (by rw [any_ones]; omega)]
  · rw [if_pos (by rw [any_ones]; exact h1), if_neg (by omega)]
theorem sign_long {zs : List Int} (hb : Bts zs) {k : Nat} (h : k + 1 < zs.length) (h0 : ¬ (sgn (zs.getD k 0)).2 = 0) (hs : zs.getD (k + 1) 0 = (sgn (zs.getD k 0)).2) (h45 : ¬ (sgn (zs.getD k 0)).2 = 45) :
    signLen zs k signs = some 2 := by
  have hc : ¬ zs.getD k 0 = 45 := fun e => h45 (by rw [e]; rfl)
  rw [signs_are, signLen_pairs hb h _ _ (by decide), if_pos]
  rw [any_pairs]; omega
theorem span_drop (p : Int → Bool) (zs : List Int) (k : Nat) : span p (zs.drop k) 0 = span p zs k := by unfold span; rw [List.drop_zero]
theorem rc_drop2 (zs : List Int) (k i : Nat) (h : k + i < zs.length) : rc (zs.drop k) i = rc zs (k + i) := by
  rw [← rc_drop zs (k + i) h, ← List.drop_drop, rc_drop _ _ (by rw [List.length_drop]; omega)]
theorem rl_drop {zs : List Int} (hb : Bts zs) (q : Int) (k : Nat) : ∀ (j i : Nat) (out : List Int), zs.length - (k + i) ≤ j → rl q zs (k + i) out = (rl q (zs.drop k) i out).map (fun p => (p.1, k + p.2)) := by
  intro j
  induction j with
  | zero =>
    intro i out hj
    rw [rl_end (by omega), rl_end (by rw [List.length_drop]; omega)]; rfl
  | succ j ih =>
    intro i out hj
    by_cases hi : k + i < zs.length
    · have hi' : i < (zs.drop k).length := by rw [List.length_drop]; omega
      by_cases hq : zs.getD (k + i) 0 = q
      · rw [rl_close hi hq, rl_close hi' (by rw [getD_drop]; exact hq)]; rfl
      · have hq' : ¬ (zs.drop k).getD i 0 = q := by rw [getD_drop]; exact hq
        cases hc : rc zs (k + i) with
        | none => rw [rl_bad hi hq hc, rl_bad hi' hq' (by rw [rc_drop2 _ _ _ hi]; exact hc)]; rfl
        | some p =>
          obtain ⟨c, s⟩ := p
          have f := rc_fits hb hi hc
          rw [rl_step hi hq hc (by omega), rl_step hi' hq' (by rw [rc_drop2 _ _ _ hi]; exact hc) (by omega), Nat.add_assoc]
          exact ih (i + s) _ (by omega)
    · rw [rl_end hi, rl_end (by rw [List.length_drop]; omega)]; rfl
theorem litAt_drop {zs : List Int} (hb : Bts zs) {k : Nat} (hk : k < zs.length) : litAt zs k = (litAt (zs.drop k) 0).map (fun p => (p.1, k + p.2)) := by
  unfold litAt
  rw [getD_drop, Nat.add_zero, List.length_drop]
  by_cases hq : zs.getD k 0 = 34 ∨ zs.getD k 0 = 39
  · rw [if_pos ⟨hk, hq⟩, if_pos ⟨by omega, hq⟩]
    exact rl_drop hb _ k zs.length 1 [] (by omega)
  · rw [if_neg (fun h => hq h.2), if_neg (fun h => hq h.2)]; rfl
def Leaps (J : Nat → Act → World → Prop) (Q : Exit → Act → World → Prop) : Exit → Act → World → Prop
  | .goto l, a, w => J l a w
  | e, a, w => Q e a w
section
variable {P : Program} {a : Act} {w : World} {J : Nat → Act → World → Prop} {Q : Exit → Act → World → Prop}
theorem Leaps_ret : Leaps J Q .ret a w = Q .ret a w := rfl
theorem wp_scope_labels {c : Code} (J : Nat → Nat → Act → World → Prop)
    (first : c.wp P (Leaps (fun l a w => ∃ n, J n l a w) Q) a w)
    (pass : ∀ n l a w, J n l a w → ∃ rest, findLabel c l = some rest ∧ rest.wp P (Leaps (fun l' a' w' => ∃ m, m < n ∧ J m l' a' w') Q) a w) : (Code.scope c).wp P Q a w := by
  intro b k cs
  have key : ∀ n l a w, J n l a w → ∃ rest, findLabel c l = some rest ∧ ∃ e a' w', Q e a' w' ∧ Arrives P (lone (b.at a (.code rest :: .inScope c :: k)) cs w) b k cs e a' w' := by
    intro n
    induction n using Nat.strongRecOn with
    | _ n ih =>
      intro l a w hJ
      obtain ⟨rest, hf, hp⟩ := pass n l a w hJ
      refine ⟨rest, hf, ?_⟩
      obtain ⟨e, a₁, w₁, hq, harr⟩ := hp b (.inScope c :: k) cs
      cases e with
      | normal => exact ⟨.normal, a₁, w₁, hq, Steps.trans harr (.one step_inScope)⟩
      | exit id => exact ⟨.exit id, a₁, w₁, hq, fun k' hk => harr k' (by simp [exitTo, hk])⟩
      | goto l' =>
        obtain ⟨m, hlt, hJ'⟩ := hq
        obtain ⟨rest₂, hf₂, e₂, a₂, w₂, hq₂, harr₂⟩ := ih m hlt l' a₁ w₁ hJ'
        have hg : gotoIn l' (.inScope c :: k) = some (.code rest₂ :: .inScope c :: k) := by simp [gotoIn, hf₂]
        exact ⟨e₂, a₂, w₂, hq₂, .of_steps (harr _ hg) harr₂⟩
      | ret => exact ⟨_, a₁, w₁, hq, harr⟩
      | panic ch => exact ⟨_, a₁, w₁, hq, harr⟩
      | outgrown => exact ⟨_, a₁, w₁, hq, harr⟩
  obtain ⟨e, a₁, w₁, hq, harr⟩ := first b (.inScope c :: k) cs
  cases e with
  | normal => exact ⟨.normal, a₁, w₁, hq, .head step_scope (Steps.trans harr (.one step_inScope))⟩
  | exit id => exact ⟨.exit id, a₁, w₁, hq, fun k' hk => .head step_scope (harr k' (by simp [exitTo, hk]))⟩
  | goto l' =>
    obtain ⟨n, hJ'⟩ := hq
    obtain ⟨rest₂, hf₂, e₂, a₂, w₂, hq₂, harr₂⟩ := key n l' a₁ w₁ hJ'
    have hg : gotoIn l' (.inScope c :: k) = some (.code rest₂ :: .inScope c :: k) := by simp [gotoIn, hf₂]
    exact ⟨e₂, a₂, w₂, hq₂, .of_steps (.head step_scope (harr _ hg)) harr₂⟩
  | ret => exact ⟨_, a₁, w₁, hq, .of_steps (.one step_scope) harr⟩
  | panic ch => exact ⟨_, a₁, w₁, hq, .of_steps (.one step_scope) harr⟩
  | outgrown => exact ⟨_, a₁, w₁, hq, .of_steps (.one step_scope) harr⟩
end
theorem alnum_yes {c : Int} (h : (97 ≤ c ∧ c ≤ 122) ∨ (65 ≤ c ∧ c ≤ 90) ∨ c = 95 ∨ (48 ≤ c ∧ c ≤ 57)) : alnum c = true := by
  unfold alnum letter digit
  rcases h with ⟨a, b⟩ | ⟨a, b⟩ | a | ⟨a, b⟩ <;> simp [*]
theorem alnum_no {c : Int} (h : ¬ ((97 ≤ c ∧ c ≤ 122) ∨ (65 ≤ c ∧ c ≤ 90) ∨ c = 95 ∨ (48 ≤ c ∧ c ≤ 57))) : alnum c = false := by
  unfold alnum
  rw [letter_no (by omega), digit_no (by omega)]; rfl
theorem blank_yes' {c : Int} (h : c = 32 ∨ c = 9 ∨ c = 13 ∨ c = 10) : blank c = true := by rcases h with rfl | rfl | rfl | rfl <;> rfl
theorem blank_no' {c : Int} (h : ¬ (c = 32 ∨ c = 9 ∨ c = 13 ∨ c = 10)) : blank c = false := by
  rw [Bool.eq_false_iff]
  intro hc
  unfold blank at hc
  simp only [Bool.or_eq_true, beq_iff_eq] at hc
  omega
theorem isBlank_any (c : Int) (w : World) :
    Calls Try.prog 14 #[.int .u8 c] w fun e w' => e = .returned (.bool (blank c)) ∧ w' = w := by
  by_cases hc : c = 32 ∨ c = 9 ∨ c = 13 ∨ c = 10
  · rw [blank_yes' hc]
    rcases hc with rfl | rfl | rfl | rfl
    all_goals
      go_enter Try.func14, Try.ntmps14
      go_wp2
      go_ret
      exact ⟨rfl, rfl⟩
  · rw [blank_no' hc]
    have e32 : (c == 32) = false := by simp; omega
    have e9 : (c == 9) = false := by simp; omega
    have e13 : (c == 13) = false := by simp; omega
    have e10 : (c == 10) = false := by simp; omega
    clear hc
    go_enter Try.func14, Try.ntmps14
    go_wp2
    go_ret
    exact ⟨ret_bool (by simp [*]), rfl⟩
theorem isDigit_any (c : Int) (w : World) :
    Calls Try.prog 15 #[.int .u8 c] w fun e w' => e = .returned (.bool (digit c)) ∧ w' = w := by
  have hc : c < 48 ∨ (48 ≤ c ∧ c ≤ 57) ∨ 57 < c := by omega
  rcases hc with a | ⟨a, b⟩ | a
  all_goals
    go_enter Try.func15, Try.ntmps15
    go_wp2
    go_ret
    exact ⟨ret_bool (by first | (rw [digit_yes (by omega)]; done) | (rw [digit_no (by omega)]; done) | (rw [digit_no (by omega)]; simp; omega)), rfl⟩
set_option maxHeartbeats 1000000 in
theorem isWordByte_any (c : Int) (w : World) :
    Calls Try.prog 16 #[.int .u8 c] w fun e w' => e = .returned (.bool (alnum c)) ∧ w' = w := by
  have D := isDigit_any c w
  have hc : c < 48 ∨ (48 ≤ c ∧ c ≤ 57) ∨ (57 < c ∧ c < 65) ∨ (65 ≤ c ∧ c ≤ 90) ∨ (90 < c ∧ c < 95) ∨ c = 95 ∨ c = 96 ∨ (97 ≤ c ∧ c ≤ 122) ∨ 122 < c := by omega
  rcases hc with a | ⟨a, b⟩ | ⟨a, b⟩ | ⟨a, b⟩ | ⟨a, b⟩ | rfl | rfl | ⟨a, b⟩ | a
  · have e95 : (c == 95) = false := by simp; omega
    rw [digit_no (by omega)] at D
    rw [alnum_no (by omega)]
    go_enter Try.func16, Try.ntmps16
    go_wp2_with (go_at_call 15; refine D.mono ?_; rintro e w' ⟨rfl, hw⟩; replace hw := hw.symm; subst hw)
    go_ret
    exact ⟨rfl, rfl⟩
  · have e95 : (c == 95) = false := by simp; omega
    rw [digit_yes (by omega)] at D
    rw [alnum_yes (by omega)]
    go_enter Try.func16, Try.ntmps16
    go_wp2_with (go_at_call 15; refine D.mono ?_; rintro e w' ⟨rfl, hw⟩; replace hw := hw.symm; subst hw)
    go_ret
    exact ⟨rfl, rfl⟩
  · have e95 : (c == 95) = false := by simp; omega
    rw [digit_no (by omega)] at D
    rw [alnum_no (by omega)]
    go_enter Try.func16, Try.ntmps16
    go_wp2_with (go_at_call 15; refine D.mono ?_; rintro e w' ⟨rfl, hw⟩; replace hw := hw.symm; subst hw)
    go_ret
    exact ⟨rfl, rfl⟩
  · rw [alnum_yes (by omega)]
    go_enter Try.func16, Try.ntmps16
    go_wp2
    go_ret
    exact ⟨rfl, rfl⟩
  · have e95 : (c == 95) = false := by simp; omega
    rw [digit_no (by omega)] at D
    rw [alnum_no (by omega)]
    go_enter Try.func16, Try.ntmps16
    go_wp2_with (go_at_call 15; refine D.mono ?_; rintro e w' ⟨rfl, hw⟩; replace hw := hw.symm; subst hw)
    go_ret
    exact ⟨ret_bool (by simp; omega), rfl⟩
  · rw [alnum_yes (by omega)]
    go_enter Try.func16, Try.ntmps16
    go_wp2
    go_ret
    exact ⟨rfl, rfl⟩
  · rw [digit_no (by omega)] at D
    rw [alnum_no (by omega)]
    go_enter Try.func16, Try.ntmps16
    go_wp2_with (go_at_call 15; refine D.mono ?_; rintro e w' ⟨rfl, hw⟩; replace hw := hw.symm; subst hw)
    go_ret
    exact ⟨rfl, rfl⟩
  · rw [alnum_yes (by omega)]
    go_enter Try.func16, Try.ntmps16
    go_wp2
    go_ret
    exact ⟨rfl, rfl⟩
  · have e95 : (c == 95) = false := by simp; omega
    rw [digit_no (by omega)] at D
    rw [alnum_no (by omega)]
    go_enter Try.func16, Try.ntmps16
    go_wp2_with (go_at_call 15; refine D.mono ?_; rintro e w' ⟨rfl, hw⟩; replace hw := hw.symm; subst hw)
    go_ret
    exact ⟨ret_bool (by simp; omega), rfl⟩
set_option maxHeartbeats 2000000 in
theorem readSign_any (c : Int) (w : World) :
    Calls Try.prog 19 #[.int .u8 c] w fun e w' => e = .returned (.tuple #[.int .i64 (sgn c).1, .int .u8 (sgn c).2]) ∧ w' = w := by
  rcases sgn_cases c with ⟨h, e⟩ | ⟨h, e⟩ | ⟨h, e⟩ | ⟨h, e⟩ | ⟨h, e⟩ | ⟨h1, h2, h3, h4, h5, e⟩ <;> rw [e]
  · rcases h with rfl | rfl | rfl | rfl | rfl | rfl | rfl | rfl | rfl | rfl | rfl
    all_goals
      clear e
      go_enter Try.func19, Try.ntmps19
      go_wp2
      go_ret2
      exact ⟨rfl, rfl⟩
  · rcases h with rfl | rfl | rfl
    all_goals
      clear e
      go_enter Try.func19, Try.ntmps19
      go_wp2
      go_ret2
      exact ⟨rfl, rfl⟩
  · rcases h with rfl | rfl
    all_goals
      clear e
      go_enter Try.func19, Try.ntmps19
      go_wp2
      go_ret2
      exact ⟨rfl, rfl⟩
  · subst h
    clear e
    go_enter Try.func19, Try.ntmps19
    go_wp2
    go_ret2
    exact ⟨rfl, rfl⟩
  · subst h
    clear e
    go_enter Try.func19, Try.ntmps19
    go_wp2
    go_ret2
    exact ⟨rfl, rfl⟩
  · have a43 : (c == 43) = false := by simp; omega
    have a42 : (c == 42) = false := by simp; omega
    have a37 : (c == 37) = false := by simp; omega
    have a40 : (c == 40) = false := by simp; omega
    have a41 : (c == 41) = false := by simp; omega
    have a123 : (c == 123) = false := by simp; omega
    have a125 : (c == 125) = false := by simp; omega
    have a91 : (c == 91) = false := by simp; omega
    have a93 : (c == 93) = false := by simp; omega
    have a59 : (c == 59) = false := by simp; omega
    have a44 : (c == 44) = false := by simp; omega
    have a61 : (c == 61) = false := by simp; omega
    have a60 : (c == 60) = false := by simp; omega
    have a62 : (c == 62) = false := by simp; omega
    have a46 : (c == 46) = false := by simp; omega
    have a45 : (c == 45) = false := by simp; omega
    have a126 : (c == 126) = false := by simp; omega
    have a47 : (c == 47) = false := by simp; omega
    clear h1 h2 h3 h4 h5 e
    go_enter Try.func19, Try.ntmps19
    go_wp2
    go_ret2
    exact ⟨rfl, rfl⟩
set_option maxHeartbeats 1000000 in
theorem runSize_any (b off cap n : Nat) (zs : List Int) (w : World) (hcell : ∀ i, i < zs.length → w.cell? ⟨b, off + i, none⟩ = some (.int .u8 (zs.getD i 0))) (hl : zs.length = n) (hm : n ≤ 1073741824) :
    Calls Try.prog 20 #[.slice (some ⟨b, off, none⟩) n cap] w fun e w' => e = .returned (.int .i64 (span alnum zs 0)) ∧ w' = w := by
  have HL : Hid (zs.length = n) := hl
  have HC : Hid (∀ i, i < zs.length → w.cell? ⟨b, off + i, none⟩ = some (.int .u8 (zs.getD i 0))) := hcell
  clear hl hcell
  go_enter Try.func20, Try.ntmps20
  go_wp2
  go_loop [7] (fun q => ∃ (m : Nat), m ≤ n ∧ q = .int .i64 m ∧ Hid (span alnum zs 0 = m + span alnum zs m)) (fun q => n - (intOf q).toNat)
  case atStart => exact ⟨0, by omega, rfl, by show _ = _; rw [Nat.zero_add]⟩
  case round =>
    obtain ⟨m, hm1, rfl, HR⟩ := hrel
    by_cases hlt : m < n
    · have hc := HC.out m (by rw [HL.out]; exact hlt)
      obtain ⟨z, hzz⟩ : ∃ z, z = zs.getD m 0 := ⟨_, rfl⟩
      rw [← hzz] at hc
      have HZ : Hid (zs.getD m 0 = z) := hzz.symm
      have HI : Hid (m < zs.length) := by show _ < _; rw [HL.out]; exact hlt
      clear hzz
      have W := isWordByte_any z w
      by_cases ha : alnum z = true
      · have HA : Hid (span alnum zs 0 = (m + 1) + span alnum zs (m + 1)) := by show _ = _; rw [HR.out, span_step HI.out (by rw [HZ.out]; exact ha)]; omega
        rw [ha] at W
        go_wp2_with (go_at_call 16; refine W.mono ?_; rintro e w' ⟨rfl, hw⟩; replace hw := hw.symm; subst hw)
        go_round
        case rel => exact ⟨m + 1, by omega, by go_num, HA⟩
        case measure => simp [intOf]; omega
      · have ha' : alnum z = false := by simpa using ha
        clear ha
        have HE : Hid (span alnum zs 0 = m) := by show _ = _; rw [HR.out, span_stop (by rw [HZ.out]; exact ha')]; rfl
        rw [ha'] at W
        go_wp2_with (go_at_call 16; refine W.mono ?_; rintro e w' ⟨rfl, hw⟩; replace hw := hw.symm; subst hw)
        go_ret
        exact ⟨ret_int (by rw [HE.out]), rfl⟩
    · have HE : Hid (span alnum zs 0 = m) := by show _ = _; rw [HR.out, span_end (by rw [HL.out]; omega)]; rfl
      have hmn : m = n := by omega
      subst hmn
      go_wp2
      go_ret
      exact ⟨ret_int (by rw [HE.out]), rfl⟩
def wkind (s : ByteArray) : Int := if isIn words s then 4 else 1
theorem toList_len (bs : ByteArray) : bs.data.toList.length = bs.size := Array.length_toList
theorem toList_loop (bs : ByteArray) : ∀ (j i : Nat) (r : List UInt8), bs.size - i ≤ j → ByteArray.toList.loop bs i r = r.reverse ++ bs.data.toList.drop i := by
  intro j
  induction j with
  | zero =>
    intro i r h
    rw [ByteArray.toList.loop, if_neg (by omega), List.drop_of_length_le (by rw [toList_len]; omega), List.append_nil]
  | succ j ih =>
    intro i r h
    by_cases hi : i < bs.size
    · have hs := toList_len bs
      rw [ByteArray.toList.loop, if_pos hi, ih (i + 1) _ (by omega), List.drop_eq_getElem_cons (l := bs.data.toList) (i := i) (by omega), List.reverse_cons, List.append_assoc]
      have e : bs.get! i = bs.data.toList[i]'(by omega) := by
        have hi' : i < bs.data.size := hi
        show bs.data[i]! = _
        rw [getElem!_pos bs.data i hi', Array.getElem_toList]
      rw [e]; rfl
    · rw [ByteArray.toList.loop, if_neg hi, List.drop_of_length_le (by rw [toList_len]; omega), List.append_nil]
theorem toList_mk (bs : ByteArray) : bs.toList = bs.data.toList := by
  unfold ByteArray.toList
  rw [toList_loop bs bs.size 0 [] (by omega)]; rfl
theorem wkind_hit {s : ByteArray} {l : List UInt8} (h : (s.toList == l) = true) (hl : l ∈ words.map (fun x => x.data.toList)) : wkind s = 4 := by
  unfold wkind isIn
  rw [if_pos]
  rw [List.any_eq_true]
  obtain ⟨x, hx, e⟩ := List.mem_map.mp hl
  refine ⟨x, hx, ?_⟩
  rw [toList_mk x, e]
  simp only [beq_iff_eq] at h ⊢
  exact h.symm
theorem wkind_miss {s : ByteArray} (h : ∀ l ∈ words.map (fun x => x.data.toList), (s.toList == l) = false) : wkind s = 1 := by
  unfold wkind isIn
  rw [if_neg]
  rw [List.any_eq_true]
  rintro ⟨x, hx, e⟩
  have := h _ (List.mem_map_of_mem hx)
  rw [← toList_mk x] at this
  simp only [beq_iff_eq] at e
  rw [e] at this
  simp at this
theorem conv_at (b off n cap : Nat) (zs : List Int) (w : World) (hcell : ∀ i, i < zs.length → w.cell? ⟨b, off + i, none⟩ = some (.int .u8 (zs.getD i 0))) (h : n ≤ zs.length) :
    (convert 22 9 (.slice (some ⟨b, off, none⟩) n cap)).run Try.prog w = .ok (.string (strOfNums (part zs 0 n))) w :=
  run_convert_bytes_arg w 22 5 Try.underlying22 Try.underlying5 b off n cap (part zs 0 n) (part_len (by omega)) (fun i hi => by rw [part_getD hi, Nat.zero_add]; exact hcell i (by omega)) 9 Try.underlying9
set_option maxHeartbeats 2000000 in
set_option maxRecDepth 100000 in
theorem readWord_any (b off cap n : Nat) (zs : List Int) (w : World) (hcell : ∀ i, i < zs.length → w.cell? ⟨b, off + i, none⟩ = some (.int .u8 (zs.getD i 0))) (hl : zs.length = n) (hcap : n ≤ cap) (_hm : cap ≤ 9223372036854775807) (hnb : n ≤ 1048576 := by omega) :
    Calls Try.prog 17 #[.slice (some ⟨b, off, none⟩) n cap] w fun e w' => e = .returned (.tuple #[.int .i64 (wkind (strOfNums (part zs 0 (span alnum zs 0)))), .int .i64 (span alnum zs 0)]) ∧ w' = w := by
  have R := runSize_any b off cap n zs w hcell hl (by omega)
  have hle := span_le alnum zs 0
  have CV := conv_at b off (span alnum zs 0) cap zs w hcell (by omega)
  obtain ⟨m, hmm⟩ : ∃ m, m = span alnum zs 0 := ⟨_, rfl⟩
  rw [← hmm] at R hle CV ⊢
  obtain ⟨s, hs⟩ : ∃ s, s = strOfNums (part zs 0 m) := ⟨_, rfl⟩
  rw [← hs] at CV ⊢
  have hmn : m ≤ n := by omega
  clear hle hs hmm hcell hl
  go_enter Try.func17, Try.ntmps17
  go_wp2_with fail
  refine R.mono ?_
  rintro e w' ⟨rfl, hw⟩
  replace hw := hw.symm
  subst hw
  clear R
  go_wp2_with fail
  all_goals
    first
    | (exfalso; simp_all; done)
    | (go_ret2; refine ⟨ret_two (_, _) rfl ?_ rfl, rfl⟩; exact wkind_hit (by assumption) (by decide))
    | (go_ret2; refine ⟨ret_two (_, _) rfl ?_ rfl, rfl⟩; refine wkind_miss ?_; intro l hl; simp only [words, List.map_cons, List.map_nil, List.mem_cons, List.not_mem_nil, or_false] at hl; rcases hl with rfl | rfl | rfl | rfl | rfl | rfl | rfl | rfl | rfl | rfl | rfl | rfl | rfl | rfl | rfl | rfl | rfl | rfl | rfl | rfl <;> assumption)
end Go.Proofs.Ytepbddfpdlapbaa.lex
