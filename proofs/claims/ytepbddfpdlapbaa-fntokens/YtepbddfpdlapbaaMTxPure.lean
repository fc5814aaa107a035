import Derived.Test.YtepbddfpdlapbaaMLexSpec
import Derived.Test.YtepbddfpdlapbaaMLexRead
namespace Go.Proofs.Ytepbddfpdlapbaa.lex
open Go.RowKit Go.Proofs.Ytepbddfpdlapbaa.bts Go.Proofs.Ytepbddfpdlapbaa.scn Go.Proofs.Ytepbddfpdlapbaa.lit
section
variable {P : Program} {a : Act} {w : World} {Q : Exit → Act → World → Prop}
theorem wp_skip_seq {rest : Code} (h : rest.wp P Q a w) : (Code.skip.seq rest).wp P Q a w := wp_seq (wp_skip h)
theorem wp_weaker {c : Code} {Q' : Exit → Act → World → Prop} (h : c.wp P Q a w) (hq : ∀ e a w, Q e a w → Q' e a w) : c.wp P Q' a w := by
  intro b k cs
  obtain ⟨e, a', w', hq', harr⟩ := h b k cs
  exact ⟨e, a', w', hq _ _ _ hq', harr⟩
theorem leaps_weaker {J J' : Nat → Act → World → Prop} (h : ∀ l a w, J l a w → J' l a w) : ∀ e a w, Leaps J Q e a w → Leaps J' Q e a w := by
  intro e a w hq
  cases e with
  | goto l' => exact h _ _ _ hq
  | normal => exact hq
  | exit id => exact hq
  | ret => exact hq
  | panic ch => exact hq
  | outgrown => exact hq
theorem wp_scope_enter {c : Code} (J : Nat → Nat → Act → World → Prop)
    (pass : ∀ n, (∀ m l a w, m < n → J m l a w → ∀ rest, findLabel c l = some (Code.skip.seq rest) → rest.wp P (Leaps (fun l' a' w' => ∃ m', m' < n ∧ J m' l' a' w') Q) a w) →
      ∀ l a w, J n l a w → ∃ rest, findLabel c l = some (Code.skip.seq rest) ∧ rest.wp P (Leaps (fun l' a' w' => ∃ m, m < n ∧ J m l' a' w') Q) a w)
    (first : (∀ n l a w, J n l a w → ∀ rest, findLabel c l = some (Code.skip.seq rest) → rest.wp P (Leaps (fun l a w => ∃ n, J n l a w) Q) a w) → c.wp P (Leaps (fun l a w => ∃ n, J n l a w) Q) a w) : (Code.scope c).wp P Q a w := by
  have all : ∀ n l a w, J n l a w → ∃ rest, findLabel c l = some (Code.skip.seq rest) ∧ rest.wp P (Leaps (fun l' a' w' => ∃ m, m < n ∧ J m l' a' w') Q) a w := by
    intro n
    induction n using Nat.strongRecOn with
    | _ n ih =>
      refine pass n ?_
      intro m l a w hm hJ rest hf
      obtain ⟨rest', hf', hp⟩ := ih m hm l a w hJ
      rw [hf] at hf'
      simp only [Option.some.injEq, Code.seq.injEq, true_and] at hf'
      subst hf'
      exact wp_weaker hp (leaps_weaker fun l a w ⟨m', h1, h2⟩ => ⟨m', Nat.lt_trans h1 hm, h2⟩)
  refine wp_scope_labels J (first ?_) ?_
  · intro n l a w hJ rest hf
    obtain ⟨rest', hf', hp⟩ := all n l a w hJ
    rw [hf] at hf'
    simp only [Option.some.injEq, Code.seq.injEq, true_and] at hf'
    subst hf'
    exact wp_weaker hp (leaps_weaker fun l a w ⟨m, _, hm⟩ => ⟨m, hm⟩)
  · intro n l a w hJ
    obtain ⟨rest, hf, hp⟩ := all n l a w hJ
    exact ⟨_, hf, wp_skip_seq hp⟩
end
def fr (s tk kd at_ sz : Value) (u : Nat → Value) : Act := { tmps := #[s, u 1, u 2, u 3, u 4, tk, kd, at_, sz, u 9, u 10, u 11, u 12, u 13, u 14, u 15, u 16, u 17, u 18, u 19, u 20, u 21, u 22, u 23, u 24, u 25, u 26, u 27, u 28, u 29, u 30, u 31, u 32, u 33, u 34, u 35, u 36, u 37, u 38, u 39, u 40, u 41, u 42, u 43, u 44, u 45, u 46, u 47, u 48, u 49, u 50, u 51, u 52, u 53, u 54, u 55, u 56, u 57, u 58, u 59, u 60, u 61, u 62, u 63, u 64, u 65, u 66, u 67, u 68, u 69, u 70, u 71, u 72, u 73, u 74, u 75, u 76, u 77, u 78, u 79, u 80, u 81, u 82, u 83, u 84, u 85, u 86, u 87, u 88, u 89, u 90, u 91, u 92, u 93, u 94, u 95, u 96, u 97, u 98, u 99, u 100, u 101, u 102, u 103, u 104, u 105, u 106, u 107, u 108, u 109, u 110, u 111, u 112, u 113, u 114, u 115, u 116, u 117, u 118, u 119, u 120, u 121, u 122, u 123, u 124, u 125, u 126, u 127], defers := [] }
theorem arr_all (t : Array Value) : t = ((List.range t.size).map fun i => t.getD i undef).toArray := by
  apply Array.ext
  · simp
  · intro i h1 h2
    simp [Array.getD_eq_getD_getElem?, h1]
theorem fr_of {a : Act} (hd : a.defers = []) (hs : a.tmps.size = 128) : a = fr (a.tmps.getD 0 undef) (a.tmps.getD 5 undef) (a.tmps.getD 6 undef) (a.tmps.getD 7 undef) (a.tmps.getD 8 undef) (fun i => a.tmps.getD i undef) := by
  obtain ⟨t, d⟩ := a
  simp only at hd hs
  subst hd
  have h := arr_all t
  rw [hs] at h
  unfold fr
  congr 1
  
def Base (w : World) (m c : Nat) (ao : Option Addr) (out : List (Int × Nat × Nat)) (wr : World) : Prop :=
  out.length = m ∧ wr.ownsRow w.heap.size 28 3 (.slice ao m c) m (tcells out) ∧ Below w.heap.size w wr
def cm (zs : List Int) (k : Nat) : Nat := if k < zs.length ∧ ¬ zs.getD k 0 = 10 then 2 else 4
def TokAt (zs : List Int) (n k : Nat) (out : List (Int × Nat × Nat)) (kind : Int) (q : Nat) : Prop :=
  (q = 0 ∧ lexR zs = ([], 2, (k : Int))) ∨ (0 < q ∧ k + q ≤ n ∧ lexR zs = lx zs (k + q) (out ++ [(kind, k, q)]))
def J (zs : List Int) (g n cap : Nat) (w : World) (N l : Nat) (a : Act) (wr : World) : Prop :=
  ∃ (k m c : Nat) (ao : Option Addr) (out : List (Int × Nat × Nat)) (u : Nat → Value) (kd sz : Value), k ≤ n ∧ m ≤ k ∧ Base w m c ao out wr ∧
    a = fr (.slice (some ⟨g, 0, none⟩) n cap) (.slice ao m c) kd (.int .i64 (k : Int)) sz u ∧
    ((l = 0 ∧ N = 4 * (n - k) + 3 ∧ lexR zs = lx zs k out) ∨
     (l = 1 ∧ N = 4 * (n - k) + 2 ∧ k < n ∧ blank (zs.getD k 0) = false ∧ digit (zs.getD k 0) = true ∧ lexR zs = lx zs k out) ∨
     (l = 2 ∧ N = 4 * (n - k) + 1 ∧ k < n ∧ ∃ (kind : Int) (q : Nat), kd = .int .i64 kind ∧ sz = .int .i64 (q : Int) ∧ TokAt zs n k out kind q) ∨
     (l = 3 ∧ N = 4 * (n - k) + cm zs k ∧ lexR zs = lx zs (k + span notLf zs k) out))
section
variable {zs : List Int} {g n cap : Nat} {w wr : World} {Q : Exit → Act → World → Prop} {a : Act} {k m c : Nat} {ao : Option Addr} {out : List (Int × Nat × Nat)} {x y : Int}
theorem fr_at (hd : a.defers = []) (hs : a.tmps.size = 128) (h0 : a.tmps.getD 0 undef = .slice (some ⟨g, 0, none⟩) n cap) (h5 : a.tmps.getD 5 undef = .slice ao m c) (h7 : a.tmps.getD 7 undef = .int .i64 x) (hx : x = (k : Int)) :
    a = fr (.slice (some ⟨g, 0, none⟩) n cap) (.slice ao m c) (a.tmps.getD 6 undef) (.int .i64 (k : Int)) (a.tmps.getD 8 undef) (fun i => a.tmps.getD i undef) := by
  have h := fr_of hd hs
  rw [h0, h5, h7, hx] at h
  exact h
theorem j_next (hd : a.defers = []) (hs : a.tmps.size = 128) (h0 : a.tmps.getD 0 undef = .slice (some ⟨g, 0, none⟩) n cap) (h5 : a.tmps.getD 5 undef = .slice ao m c) (h7 : a.tmps.getD 7 undef = .int .i64 x) (hx : x = (k : Int))
    (hk : k ≤ n) (hm : m ≤ k) (B : Base w m c ao out wr) (R : lexR zs = lx zs k out) : J zs g n cap w (4 * (n - k) + 3) 0 a wr :=
  ⟨k, m, c, ao, out, _, _, _, hk, hm, B, fr_at hd hs h0 h5 h7 hx, .inl ⟨rfl, rfl, R⟩⟩
theorem j_num (hd : a.defers = []) (hs : a.tmps.size = 128) (h0 : a.tmps.getD 0 undef = .slice (some ⟨g, 0, none⟩) n cap) (h5 : a.tmps.getD 5 undef = .slice ao m c) (h7 : a.tmps.getD 7 undef = .int .i64 x) (hx : x = (k : Int))
    (hk : k < n) (hm : m ≤ k) (B : Base w m c ao out wr) (hb : blank (zs.getD k 0) = false) (hdg : digit (zs.getD k 0) = true) (R : lexR zs = lx zs k out) : J zs g n cap w (4 * (n - k) + 2) 1 a wr :=
  ⟨k, m, c, ao, out, _, _, _, Nat.le_of_lt hk, hm, B, fr_at hd hs h0 h5 h7 hx, .inr (.inl ⟨rfl, rfl, hk, hb, hdg, R⟩)⟩
theorem j_tok {kind z : Int} {q : Nat} (hd : a.defers = []) (hs : a.tmps.size = 128) (h0 : a.tmps.getD 0 undef = .slice (some ⟨g, 0, none⟩) n cap) (h5 : a.tmps.getD 5 undef = .slice ao m c) (h7 : a.tmps.getD 7 undef = .int .i64 x) (hx : x = (k : Int))
    (h6 : a.tmps.getD 6 undef = .int .i64 kind) (h8 : a.tmps.getD 8 undef = .int .i64 z) (hz : z = (q : Int)) (hk : k < n) (hm : m ≤ k) (B : Base w m c ao out wr) (R : TokAt zs n k out kind q) : J zs g n cap w (4 * (n - k) + 1) 2 a wr :=
  ⟨k, m, c, ao, out, _, _, _, Nat.le_of_lt hk, hm, B, fr_at hd hs h0 h5 h7 hx, .inr (.inr (.inl ⟨rfl, rfl, hk, kind, q, h6, by rw [h8, hz], R⟩))⟩
theorem j_com (hd : a.defers = []) (hs : a.tmps.size = 128) (h0 : a.tmps.getD 0 undef = .slice (some ⟨g, 0, none⟩) n cap) (h5 : a.tmps.getD 5 undef = .slice ao m c) (h7 : a.tmps.getD 7 undef = .int .i64 x) (hx : x = (k : Int))
    (hk : k ≤ n) (hm : m ≤ k) (B : Base w m c ao out wr) (R : lexR zs = lx zs (k + span notLf zs k) out) : J zs g n cap w (4 * (n - k) + cm zs k) 3 a wr :=
  ⟨k, m, c, ao, out, _, _, _, hk, hm, B, fr_at hd hs h0 h5 h7 hx, .inr (.inr (.inr ⟨rfl, rfl, R⟩))⟩
end
theorem tokAt_of {zs : List Int} {n k q : Nat} {out : List (Int × Nat × Nat)} {kind : Int} (hb : Bts zs) (hl : zs.length = n) (hk : k < n) (hbl : blank (zs.getD k 0) = false) (hnc : ¬ (zs.getD k 0 = 45 ∧ k + 1 < zs.length ∧ zs.getD (k + 1) 0 = 45))
    (hT : tokK zs k = (kind, q, 0)) (R : lexR zs = lx zs k out) : TokAt zs n k out kind q := by
  have hk' : k < zs.length := by omega
  have f := tok_fits hb hk' (by rw [hT])
  rw [hT] at f
  refine .inr ⟨f.1, by rw [← hl]; exact f.2, ?_⟩
  rw [R, lx_tok hk' hbl hnc (by rw [hT]) (by rw [hT]; exact f.1), hT]
theorem tokAt_bad {zs : List Int} {n k : Nat} {out : List (Int × Nat × Nat)} {kind : Int} (hl : zs.length = n) (hk : k < n) (hbl : blank (zs.getD k 0) = false) (hnc : ¬ (zs.getD k 0 = 45 ∧ k + 1 < zs.length ∧ zs.getD (k + 1) 0 = 45))
    (hT : tokK zs k = (0, 0, 2)) (R : lexR zs = lx zs k out) : TokAt zs n k out kind 0 := by
  refine .inl ⟨rfl, ?_⟩
  rw [R, lx_bad (by omega) hbl hnc (by rw [hT]; simp), hT]
theorem digit_not_letter {c : Int} (h : digit c = true) : letter c = false := by
  unfold digit at h
  simp only [Bool.and_eq_true, decide_eq_true_eq] at h
  exact letter_no (by omega)
theorem digit_ne {c : Int} (h : digit c = true) : ¬ c = 45 := by
  unfold digit at h
  simp only [Bool.and_eq_true, decide_eq_true_eq] at h
  omega
theorem letter_ne {c : Int} (h : letter c = true) : ¬ c = 45 ∧ ¬ c = 34 ∧ ¬ c = 39 := by
  unfold letter at h
  simp only [Bool.or_eq_true, Bool.and_eq_true, decide_eq_true_eq, beq_iff_eq] at h
  omega
theorem tok_of_letter {zs : List Int} {k : Nat} (h : letter (zs.getD k 0) = true) : tokK zs k = (wkind (strOfNums (part zs k (span alnum zs k))), span alnum zs k, 0) := by
  unfold tokK wkind; rw [if_pos h]; split <;> rfl
theorem tok_of_digit {zs : List Int} {k : Nat} (h : digit (zs.getD k 0) = true) : tokK zs k = (2, span alnum zs k, (scan (part zs k (span alnum zs k))).2) := by
  unfold tokK; rw [if_neg (by rw [digit_not_letter h]; decide), if_pos h]
theorem tok_of_quote {zs : List Int} {k : Nat} (h1 : letter (zs.getD k 0) = false) (h2 : digit (zs.getD k 0) = false) (hq : zs.getD k 0 = 34 ∨ zs.getD k 0 = 39) : tokK zs k = ofLit k (litAt zs k) := by
  unfold tokK; rw [if_neg (by rw [h1]; decide), if_neg (by rw [h2]; decide), if_pos hq]
theorem tok_of_sign {zs : List Int} {k : Nat} (h1 : letter (zs.getD k 0) = false) (h2 : digit (zs.getD k 0) = false) (hq : ¬ (zs.getD k 0 = 34 ∨ zs.getD k 0 = 39)) : tokK zs k = ofSign (signLen zs k signs) := by
  unfold tokK; rw [if_neg (by rw [h1]; decide), if_neg (by rw [h2]; decide), if_neg hq]
theorem part_drop (zs : List Int) (k m : Nat) : part (zs.drop k) 0 m = part zs k m := by unfold part; rw [List.drop_zero]
theorem cm_go {zs : List Int} {k : Nat} (h : k < zs.length) (h1 : ¬ zs.getD k 0 = 10) : cm zs k = 2 := by unfold cm; rw [if_pos ⟨h, h1⟩]
theorem cm_end {zs : List Int} {k : Nat} (h : ¬ (k < zs.length ∧ ¬ zs.getD k 0 = 10)) : cm zs k = 4 := by unfold cm; rw [if_neg h]
theorem cm_le (zs : List Int) (k : Nat) : cm zs k ≤ 4 := by unfold cm; split <;> omega
set_option maxRecDepth 100000 in
set_option maxHeartbeats 8000000 in
theorem implLex_small (g n cap : Nat) (zs : List Int) (w : World) (hb : Bts zs) (hcell : ∀ i, i < zs.length → w.cell? ⟨g, i, none⟩ = some (.int .u8 (zs.getD i 0))) (hl : zs.length = n) (hgw0 : 0 < n → g < w.heap.size) (hm : cap ≤ 9223372036854775807) (hcap : n ≤ cap) (h6 : n ≤ 6000) :
    Calls Try.prog 6 #[.slice (some ⟨g, 0, none⟩) n cap] w (LexPost zs (lexR zs).1.length w) := by
  obtain ⟨i0, hi, hz0, hz1, hz2⟩ := info_parts info_tok
  have HR0 : Hid (lexR zs = lx zs 0 []) := by show _ = _; unfold lexR; rw [if_neg (by omega)]
  have HL : Hid (zs.length = n) := hl
  have HB : Hid (Bts zs) := hb
  have HC : Hid (∀ i, i < zs.length → w.cell? ⟨g, i, none⟩ = some (.int .u8 (zs.getD i 0))) := hcell
  have HG : Hid (0 < n → g < w.heap.size) := hgw0
  clear hl hb hcell hgw0
  obtain ⟨P, hP⟩ : ∃ P, P = LexPost zs (lexR zs).1.length w := ⟨_, rfl⟩
  rw [← hP]
  have HP : Hid (P = LexPost zs (lexR zs).1.length w) := hP
  clear hP
  go_enter Try.func6, Try.ntmps6
  go_wp2
  refine wp_scope_enter (J zs g n cap w) ?pass ?first
  case first =>
    intro HF0
    have HF : Hid _ := HF0
    clear HF0
    go_wp2
    go_step3
    rename_i hK
    refine hK _ _ (HF.out (4 * (n - 0) + 3) 0 _ _ ?_ _ rfl)
    exact j_next (k := 0) (m := 0) (c := 0) (ao := none) (out := []) rfl rfl rfl rfl rfl rfl (by omega) (by omega) ⟨rfl, World.ownsRow_nil _ _ _ _, Below.refl _ _⟩ HR0.out
  case pass =>
    rintro N IH l a wr ⟨k, m, c, ao, out, u, kd, sz, hk, hmk, B, rfl, hor⟩
    have HI : Hid _ := IH
    clear IH
    have HBs : Hid (Base w m c ao out wr) := B
    clear B
    have HCW : Hid (∀ i, i < n → wr.cell? ⟨g, i, none⟩ = some (.int .u8 (zs.getD i 0))) := fun i hi => (HBs.out.2.2.cell (p := ⟨g, i, none⟩) (HG.out (by omega))).trans (HC.out i (by rw [HL.out]; exact hi))
    have HCD : Hid (∀ i, i < (zs.drop k).length → wr.cell? ⟨g, k + i, none⟩ = some (.int .u8 ((zs.drop k).getD i 0))) := by
      intro i hi
      rw [getD_drop]
      rw [List.length_drop, HL.out] at hi
      exact HCW.out (k + i) (by omega)
    have HLD : Hid ((zs.drop k).length = n - k) := by show _ = _; rw [List.length_drop, HL.out]
    rcases hor with ⟨rfl, rfl, R⟩ | ⟨rfl, rfl, hkn, hbl, hdg, R⟩ | ⟨rfl, rfl, hkn, kind, q, rfl, rfl, R⟩ | ⟨rfl, rfl, R⟩
    · have HR : Hid (lexR zs = lx zs k out) := R
      clear R
      refine ⟨_, rfl, ?_⟩
      unfold fr
      by_cases hkn : k < n
      · have hc := HCW.out k hkn
        have HZB := HB.out k
        obtain ⟨z, hz⟩ : ∃ z, z = zs.getD k 0 := ⟨_, rfl⟩
        rw [← hz] at hc HZB
        have HZ : Hid (zs.getD k 0 = z) := hz.symm
        clear hz
        obtain ⟨hz0', hz1'⟩ := HZB
        have hne : ((k : Int) == (n : Int)) = false := by simp; omega
        have CB := isBlank_any z wr
        have CD := isDigit_any z wr
        have CA := isWordByte_any z wr
        cases hbl : blank z with
        | true =>
          rw [hbl] at CB
          go_wp2_with fail
          refine CB.mono ?_
          rintro e w' ⟨rfl, hw⟩
          replace hw := hw.symm
          subst hw
          go_wp2_with fail
          go_step3
          show ∃ m', m' < 4 * (n - k) + 3 ∧ J zs g n cap w m' 0 _ _
          exact ⟨_, by omega, j_next (k := k + 1) rfl rfl rfl rfl rfl (by omega) (by omega) (by omega) HBs.out (by rw [HR.out, lx_blank (by rw [HL.out]; exact hkn) (by rw [HZ.out]; exact hbl)])⟩
        | false =>
          rw [hbl] at CB
          have HNB : Hid (blank (zs.getD k 0) = false) := by show _ = _; rw [HZ.out]; exact hbl
          go_wp2_with fail
          refine CB.mono ?_
          rintro e w' ⟨rfl, hw⟩
          replace hw := hw.symm
          subst hw
          clear CB
          cases hdg : digit z with
          | true =>
            rw [hdg] at CD
            go_wp2_with fail
            refine CD.mono ?_
            rintro e w' ⟨rfl, hw⟩
            replace hw := hw.symm
            subst hw
            clear CD
            go_wp2_with fail
            go_step3
            show ∃ m', m' < 4 * (n - k) + 3 ∧ J zs g n cap w m' 1 _ _
            exact ⟨_, by omega, j_num (k := k) rfl rfl rfl rfl rfl rfl hkn hmk HBs.out HNB.out (by rw [HZ.out]; exact hdg) HR.out⟩
          | false =>
            rw [hdg] at CD
            go_wp2_with fail
            refine CD.mono ?_
            rintro e w' ⟨rfl, hw⟩
            replace hw := hw.symm
            subst hw
            clear CD
            cases hlt : letter z with
            | true =>
              have hal : alnum z = true := by unfold alnum; rw [hlt]; rfl
              rw [hal] at CA
              go_wp2_with fail
              refine CA.mono ?_
              rintro e w' ⟨rfl, hw⟩
              replace hw := hw.symm
              subst hw
              clear CA
              have CW := readWord_any g k (cap - k) (n - k) (zs.drop k) wr HCD.out HLD.out (by omega) (by omega)
              rw [span_drop, part_drop] at CW
              have HT : Hid (TokAt zs n k out (wkind (strOfNums (part zs k (span alnum zs k)))) (span alnum zs k)) :=
                tokAt_of HB.out HL.out hkn HNB.out (fun h => (letter_ne hlt).1 (by rw [← HZ.out]; exact h.1)) (tok_of_letter (by rw [HZ.out]; exact hlt)) HR.out
              generalize wkind (strOfNums (part zs k (span alnum zs k))) = kind at CW HT
              generalize span alnum zs k = q at CW HT
              go_wp2_with fail
              refine CW.mono ?_
              rintro e w' ⟨rfl, hw⟩
              replace hw := hw.symm
              subst hw
              clear CW
              go_wp2_with fail
              go_step3
              show ∃ m', m' < 4 * (n - k) + 3 ∧ J zs g n cap w m' 2 _ _
              exact ⟨_, by omega, j_tok (k := k) (q := q) (kind := kind) rfl rfl rfl rfl rfl rfl rfl rfl rfl hkn hmk HBs.out HT.out⟩
            | false =>
              have hal : alnum z = false := by unfold alnum; rw [hlt, hdg]; rfl
              rw [hal] at CA
              go_wp2_with fail
              refine CA.mono ?_
              rintro e w' ⟨rfl, hw⟩
              replace hw := hw.symm
              subst hw
              clear CA
              by_cases hq : z = 34 ∨ z = 39
              · have HTQ : Hid (tokK zs k = ofLit k (litAt zs k)) := tok_of_quote (by rw [HZ.out]; exact hlt) (by rw [HZ.out]; exact hdg) (by rw [HZ.out]; exact hq)
                have HNC : Hid (¬ (zs.getD k 0 = 45 ∧ k + 1 < zs.length ∧ zs.getD (k + 1) 0 = 45)) := fun h => by have := HZ.out; omega
                have CL := readLit_any g k (cap - k) (zs.drop k) wr (HB.out.drop k) HCD.out (Nat.lt_of_lt_of_le (HG.out (by omega)) HBs.out.2.2.size) (by rw [HLD.out]; omega) (by omega) (by rw [HLD.out]; omega) (by rw [getD_drop, Nat.add_zero, HZ.out]; exact hq) (by rw [HLD.out]; omega)
                rw [HLD.out] at CL
                have HLA := litAt_drop HB.out (show k < zs.length by rw [HL.out]; exact hkn)
                have HLB : Hid _ := HLA
                clear HLA
                have walked : (z == 39) = true ∨ ((z == 39) = false ∧ (z == 34) = true) := by
                  rcases hq with rfl | rfl
                  · exact .inr ⟨rfl, rfl⟩
                  · exact .inl rfl
                clear hq
                rcases walked with e39 | ⟨e39, e34⟩
                all_goals
                  go_wp2_with fail
                  refine CL.mono ?_
                  rintro x w1 ⟨hb1, hor⟩
                  clear CL
                  have HB1 : Hid (Base w m c ao out w1) := ⟨HBs.out.1, own_belowT HBs.out.2.1 hb1 (fun g h => (HBs.out.2.1.lt g h).2), HBs.out.2.2.trans (hb1.mono HBs.out.2.2.size)⟩
                  clear hb1
                  rcases hor with ⟨hn, rfl⟩ | ⟨t, e, ao', c', hs, rfl, hown⟩
                  · have HT : Hid (TokAt zs n k out 3 0) := tokAt_bad HL.out hkn HNB.out HNC.out (by rw [HTQ.out, HLB.out, hn]; rfl) HR.out
                    clear hn
                    go_wp2_with fail
                    go_step3
                    show ∃ m', m' < 4 * (n - k) + 3 ∧ J zs g n cap w m' 2 _ _
                    exact ⟨_, by omega, j_tok (k := k) (q := 0) (kind := 3) rfl rfl rfl rfl rfl rfl rfl rfl rfl hkn hmk HB1.out HT.out⟩
                  · have HT : Hid (TokAt zs n k out 3 e) := tokAt_of HB.out HL.out hkn HNB.out HNC.out (by rw [HTQ.out, HLB.out, hs]; show (3, k + e - k, (0 : Int)) = _; rw [Nat.add_sub_cancel_left]) HR.out
                    clear hs hown
                    go_wp2_with fail
                    go_step3
                    show ∃ m', m' < 4 * (n - k) + 3 ∧ J zs g n cap w m' 2 _ _
                    exact ⟨_, by omega, j_tok (k := k) (q := e) (kind := 3) rfl rfl rfl rfl rfl rfl rfl rfl rfl hkn hmk HB1.out HT.out⟩
              · have HTS : Hid (tokK zs k = ofSign (signLen zs k signs)) := tok_of_sign (by rw [HZ.out]; exact hlt) (by rw [HZ.out]; exact hdg) (by rw [HZ.out]; exact hq)
                have e39 : (z == 39) = false := by simp; omega
                have e34 : (z == 34) = false := by simp; omega
                clear hq
                have CS := readSign_any z wr
                have HSf := sgn_fst z
                have HS1 : Hid (∀ s1 s2 : Int, sgn z = (s1, s2) → (s2 = 0 ∨ n ≤ k + 1 ∨ ¬ zs.getD (k + 1) 0 = s2) → TokAt zs n k out 5 s1.toNat) := by
                  intro s1 s2 hs hw
                  have h1 := sign_short HB.out (k := k) (by rw [HL.out]; exact hkn) (by rw [HZ.out, HL.out, hs]; exact hw)
                  rw [HZ.out, hs] at h1
                  rw [hs] at HSf
                  have hnc : ¬ (zs.getD k 0 = 45 ∧ k + 1 < zs.length ∧ zs.getD (k + 1) 0 = 45) := by
                    rintro ⟨a, b, c⟩
                    rw [HZ.out] at a
                    subst a
                    have e : s2 = 45 := by have : sgn 45 = (1, 45) := rfl; rw [this] at hs; simp only [Prod.mk.injEq] at hs; exact hs.2.symm
                    rw [HL.out] at b
                    omega
                  rcases HSf with f | f
                  · simp only at f
                    subst f
                    exact tokAt_bad HL.out hkn HNB.out hnc (by rw [HTS.out, h1]; rfl) HR.out
                  · simp only at f
                    subst f
                    exact tokAt_of HB.out HL.out hkn HNB.out hnc (by rw [HTS.out, h1]; rfl) HR.out
                have HS2 : Hid (∀ s1 s2 : Int, sgn z = (s1, s2) → ¬ s2 = 0 → k + 1 < n → zs.getD (k + 1) 0 = s2 → ¬ s2 = 45 → TokAt zs n k out 5 2) := by
                  intro s1 s2 hs h0 hk1 hy h45
                  have h1 := sign_long HB.out (k := k) (by rw [HL.out]; exact hk1) (by rw [HZ.out, hs]; exact h0) (by rw [HZ.out, hs]; exact hy) (by rw [HZ.out, hs]; exact h45)
                  refine tokAt_of HB.out HL.out hkn HNB.out ?_ (by rw [HTS.out, h1]; rfl) HR.out
                  rintro ⟨a, _, b⟩
                  exact h45 (hy.symm.trans b)
                have HS3 : Hid (∀ s1 s2 : Int, sgn z = (s1, s2) → k + 1 < n → zs.getD (k + 1) 0 = s2 → s2 = 45 → lexR zs = lx zs (k + span notLf zs k) out ∧ z = 45) := by
                  intro s1 s2 hs hk1 hy h45
                  have e := sgn_dash (c := z) (by rw [hs]; exact h45)
                  exact ⟨by rw [HR.out, lx_comment (by rw [HL.out]; exact hkn) HNB.out ⟨by rw [HZ.out]; exact e, by rw [HL.out]; exact hk1, by rw [hy]; exact h45⟩], e⟩
                obtain ⟨⟨s1, s2⟩, hsg⟩ : ∃ p, p = sgn z := ⟨_, rfl⟩
                rw [← hsg] at CS HSf
                have HSG : Hid (sgn z = (s1, s2)) := hsg.symm
                clear hsg
                have hs1 : s1 = ((s1.toNat : Nat) : Int) := by simp only at HSf; omega
                have HS1' : Hid (s1 = ((s1.toNat : Nat) : Int)) := hs1
                clear hs1 HSf
                by_cases h20 : s2 = 0
                · have HT := HS1.out s1 s2 HSG.out (.inl h20)
                  have HT' : Hid _ := HT
                  clear HT
                  subst h20
                  go_wp2_with fail
                  refine CS.mono ?_
                  rintro e w' ⟨rfl, hw⟩
                  replace hw := hw.symm
                  subst hw
                  clear CS
                  go_wp2_with fail
                  go_step3
                  show ∃ m', m' < 4 * (n - k) + 3 ∧ J zs g n cap w m' 2 _ _
                  exact ⟨_, by omega, j_tok (k := k) (q := s1.toNat) (kind := 5) rfl rfl rfl rfl rfl rfl rfl rfl HS1'.out hkn hmk HBs.out HT'.out⟩
                · have e20 : (s2 == 0) = false := by simp; exact h20
                  by_cases hk1 : k + 1 < n
                  · have hc1 := HCW.out (k + 1) hk1
                    have hkne : (((k : Int) + 1) == (n : Int)) = false := by simp; omega
                    by_cases hy : zs.getD (k + 1) 0 = s2
                    · rw [hy] at hc1
                      by_cases h45 : s2 = 45
                      · have HT := HS3.out s1 s2 HSG.out hk1 hy h45
                        have HT' : Hid _ := HT
                        clear HT hy h20
                        subst h45
                        go_wp2_with fail
                        refine CS.mono ?_
                        rintro e w' ⟨rfl, hw⟩
                        replace hw := hw.symm
                        subst hw
                        clear CS
                        go_wp2_with fail
                        go_step3
                        show ∃ m', m' < 4 * (n - k) + 3 ∧ J zs g n cap w m' 3 _ _
                        exact ⟨_, by rw [cm_go (by rw [HL.out]; exact hkn) (by rw [HZ.out, HT'.out.2]; decide)]; omega, j_com (k := k) rfl rfl rfl rfl rfl rfl hk hmk HBs.out HT'.out.1⟩
                      · have HT := HS2.out s1 s2 HSG.out h20 hk1 hy h45
                        have HT' : Hid _ := HT
                        clear HT hy
                        have e45 : (s2 == 45) = false := by simp; exact h45
                        go_wp2_with fail
                        refine CS.mono ?_
                        rintro e w' ⟨rfl, hw⟩
                        replace hw := hw.symm
                        subst hw
                        clear CS
                        go_wp2_with fail
                        go_step3
                        rename_i hK
                        refine hK _ _ (HI.out (4 * (n - k) + 1) 2 _ _ (by omega) ?_ _ rfl)
                        exact j_tok (k := k) (q := 2) (kind := 5) rfl rfl rfl rfl rfl rfl rfl rfl rfl hkn hmk HBs.out HT'.out
                    · have HT := HS1.out s1 s2 HSG.out (.inr (.inr hy))
                      have HT' : Hid _ := HT
                      clear HT
                      obtain ⟨y, hyy⟩ : ∃ y, y = zs.getD (k + 1) 0 := ⟨_, rfl⟩
                      rw [← hyy] at hc1 hy
                      clear hyy
                      have ey : (y != s2) = true := bne_iff_ne.mpr hy
                      go_wp2_with fail
                      refine CS.mono ?_
                      rintro e w' ⟨rfl, hw⟩
                      replace hw := hw.symm
                      subst hw
                      clear CS
                      go_wp2_with fail
                      go_step3
                      show ∃ m', m' < 4 * (n - k) + 3 ∧ J zs g n cap w m' 2 _ _
                      exact ⟨_, by omega, j_tok (k := k) (q := s1.toNat) (kind := 5) rfl rfl rfl rfl rfl rfl rfl rfl HS1'.out hkn hmk HBs.out HT'.out⟩
                  · have HT := HS1.out s1 s2 HSG.out (.inr (.inl (by omega)))
                    have HT' : Hid _ := HT
                    clear HT
                    have hkne : (((k : Int) + 1) == (n : Int)) = true := by simp; omega
                    go_wp2_with fail
                    refine CS.mono ?_
                    rintro e w' ⟨rfl, hw⟩
                    replace hw := hw.symm
                    subst hw
                    clear CS
                    go_wp2_with fail
                    go_step3
                    show ∃ m', m' < 4 * (n - k) + 3 ∧ J zs g n cap w m' 2 _ _
                    exact ⟨_, by omega, j_tok (k := k) (q := s1.toNat) (kind := 5) rfl rfl rfl rfl rfl rfl rfl rfl HS1'.out hkn hmk HBs.out HT'.out⟩
      · have hkn' : k = n := by omega
        subst hkn'
        have HE : Hid (lexR zs = (out, 0, 0)) := by show _ = _; rw [HR.out, lx_end (by rw [HL.out]; exact hkn)]
        go_wp2
        rw [Leaps_ret]
        go_ret3
        rw [HP.out]
        exact lex_post HE.out HBs.out.1 HBs.out.2.2 HBs.out.2.1
    · have HR : Hid (lexR zs = lx zs k out) := R
      have HNB : Hid (blank (zs.getD k 0) = false) := hbl
      have HDG : Hid (digit (zs.getD k 0) = true) := hdg
      clear R hbl hdg
      refine ⟨_, rfl, ?_⟩
      unfold fr
      have HNC : Hid (¬ (zs.getD k 0 = 45 ∧ k + 1 < zs.length ∧ zs.getD (k + 1) 0 = 45)) := fun h => digit_ne HDG.out h.1
      have HTD : Hid (tokK zs k = (2, span alnum zs k, (scan (part zs k (span alnum zs k))).2)) := tok_of_digit HDG.out
      have hle := span_le alnum zs k
      rw [HL.out] at hle
      have CR := runSize_any g k (cap - k) (n - k) (zs.drop k) wr HCD.out HLD.out (by omega)
      rw [span_drop] at CR
      have SC := (scan_any g k (cap - k) (part zs k (span alnum zs k)) (part_bts HB.out _ _) wr (fun i hi => by
        rw [part_len (by rw [HL.out]; omega)] at hi
        exact ⟨g, k, rfl, by rw [part_getD hi]; exact HCW.out (k + i) (by omega)⟩) (by rw [part_len (by rw [HL.out]; omega)]; omega) (by omega) (by rw [part_len (by rw [HL.out]; omega)]; omega)).2
      rw [part_len (by rw [HL.out]; omega)] at SC
      obtain ⟨⟨p1, p2⟩, hp⟩ : ∃ p, p = scan (part zs k (span alnum zs k)) := ⟨_, rfl⟩
      rw [← hp] at SC HTD
      clear hp
      generalize span alnum zs k = q at CR SC HTD hle
      by_cases hp2 : p2 = 0
      · subst hp2
        have HT : Hid (TokAt zs n k out 2 q) := tokAt_of HB.out HL.out hkn HNB.out HNC.out HTD.out HR.out
        go_wp2_with fail
        refine CR.mono ?_
        rintro e w' ⟨rfl, hw⟩
        replace hw := hw.symm
        subst hw
        clear CR
        go_wp2_with fail
        refine SC.mono ?_
        rintro e w' ⟨rfl, hw⟩
        replace hw := hw.symm
        subst hw
        clear SC
        go_wp2_with fail
        go_step3
        show ∃ m', m' < 4 * (n - k) + 2 ∧ J zs g n cap w m' 2 _ _
        exact ⟨_, by omega, j_tok (k := k) (q := q) (kind := 2) rfl rfl rfl rfl rfl rfl rfl rfl rfl hkn hmk HBs.out HT.out⟩
      · have hne : (p2 != 0) = true := bne_iff_ne.mpr hp2
        have HE : Hid (lexR zs = ([], p2, (k : Int))) := by show _ = _; rw [HR.out, lx_bad (by rw [HL.out]; exact hkn) HNB.out HNC.out (by rw [HTD.out]; exact hp2), HTD.out]
        go_wp2_with fail
        refine CR.mono ?_
        rintro e w' ⟨rfl, hw⟩
        replace hw := hw.symm
        subst hw
        clear CR
        go_wp2_with fail
        refine SC.mono ?_
        rintro e w' ⟨rfl, hw⟩
        replace hw := hw.symm
        subst hw
        clear SC
        go_wp2_with fail
        rw [Leaps_ret]
        go_ret3
        rw [HP.out]
        exact lex_post HE.out rfl HBs.out.2.2 (World.ownsRow_nil _ _ _ _)
    · have HR : Hid (TokAt zs n k out kind q) := R
      clear R
      refine ⟨_, rfl, ?_⟩
      unfold fr
      rcases HR.out with ⟨rfl, R⟩ | ⟨hq1, hq2, R⟩
      · have HE : Hid (lexR zs = ([], 2, (k : Int))) := R
        clear R
        go_wp2
        rw [Leaps_ret]
        go_ret3
        rw [HP.out]
        exact lex_post HE.out rfl HBs.out.2.2 (World.ownsRow_nil _ _ _ _)
      · have HE : Hid (lexR zs = lx zs (k + q) (out ++ [(kind, k, q)])) := R
        clear R
        have hq0 : ((q : Int) == 0) = false := by simp; omega
        have hbu : ∀ w : World, (Instr.build 28 #[(0, .int .i64 kind), (1, .int .i64 (k : Int)), (2, .int .i64 (q : Int))]).run Try.prog w = .ok (.agg #[.int .i64 kind, .int .i64 (k : Int), .int .i64 (q : Int)]) w := fun _ => by kernel_rfl
        have hmb : m ≤ 6000 := by omega
        have hBs := HBs.out.2.2.size
        have hown1 := HBs.out.2.1
        have hgB : ∀ k, (Value.slice ao m c).ownBlock = some k → w.heap.size ≤ k := fun k hk => (hown1.lt k hk).1
        go_wp2_with (at_builtin; refine wpList_append_lies _ rfl _ _ _ rfl w.heap.size 28 i0 (.agg #[.int .i64 0, .int .i64 0, .int .i64 0]) 3 24 Try.underlying24 hi hz0 hz1 hz2 rfl (by omega) _ m (tcells out) rfl (hown1.alloc _) ⟨wr.heap.size, 0, none⟩ 1 1 [.int .i64 kind, .int .i64 (k : Int), .int .i64 (q : Int)] rfl rfl (World.news_of_block (cs := #[.int .i64 kind, .int .i64 (k : Int), .int .i64 (q : Int)]) (t := 28) (fr := (0, 0)) (heap_alloc_new wr _)) (by simp [Value.oneCell']) (by omega) (by unfold maxLen; omega) (by omega) (by simp; omega) (wr.heap.size + 1) (by simp) ?_; intro g' cap' w2 hown2 hgrow hat hlt2)
        go_step3
        show ∃ m', m' < 4 * (n - k) + 1 ∧ J zs g n cap w m' 0 _ _
        exact ⟨_, by omega, j_next (k := k + q) (m := m + 1) (c := cap') (ao := some ⟨g', 0, none⟩) (out := out ++ [(kind, k, q)]) rfl rfl rfl rfl rfl (by omega) (by omega) (by omega) ⟨by rw [List.length_append, HBs.out.1]; rfl, by rw [tcells_snoc]; exact hown2, (HBs.out.2.2.alloc (by omega) _).grown hgrow (by simp; omega) hgB⟩ HE.out⟩
    · have HR : Hid (lexR zs = lx zs (k + span notLf zs k) out) := R
      clear R
      refine ⟨_, rfl, ?_⟩
      unfold fr
      by_cases hkn : k < n
      · have hc := HCW.out k hkn
        have hne : ((k : Int) == (n : Int)) = false := by simp; omega
        by_cases h10 : zs.getD k 0 = 10
        · have HM : Hid (cm zs k = 4) := cm_end (fun h => h.2 h10)
          have HS : Hid (span notLf zs k = 0) := span_stop (by rw [h10]; rfl)
          rw [h10] at hc
          clear h10
          go_wp2
          go_step3
          show ∃ m', m' < 4 * (n - k) + cm zs k ∧ J zs g n cap w m' 0 _ _
          exact ⟨_, by rw [HM.out]; omega, j_next (k := k) rfl rfl rfl rfl rfl rfl hk hmk HBs.out (by rw [HR.out, HS.out, Nat.add_zero])⟩
        · have HM : Hid (cm zs k = 2) := cm_go (by rw [HL.out]; exact hkn) h10
          have HS : Hid (k + span notLf zs k = (k + 1) + span notLf zs (k + 1)) := by show _ = _; rw [span_step (by rw [HL.out]; exact hkn) (by unfold notLf; exact bne_iff_ne.mpr h10)]; omega
          obtain ⟨y, hy⟩ : ∃ y, y = zs.getD k 0 := ⟨_, rfl⟩
          rw [← hy] at hc h10
          clear hy
          have hy10 : (y == 10) = false := by simp; exact h10
          go_wp2
          go_step3
          show ∃ m', m' < 4 * (n - k) + cm zs k ∧ J zs g n cap w m' 3 _ _
          exact ⟨_, by rw [HM.out]; have := cm_le zs (k + 1); omega, j_com (k := k + 1) rfl rfl rfl rfl rfl (by omega) (by omega) (by omega) HBs.out (by rw [HR.out, HS.out])⟩
      · have HM : Hid (cm zs k = 4) := cm_end (fun h => absurd h.1 (by rw [HL.out]; exact hkn))
        have HS : Hid (span notLf zs k = 0) := span_end (by rw [HL.out]; omega)
        have hkn' : k = n := by omega
        subst hkn'
        go_wp2
        go_step3
        show ∃ m', m' < 4 * (k - k) + cm zs k ∧ J zs g k cap w m' 0 _ _
        exact ⟨_, by rw [HM.out]; omega, j_next (k := k) rfl rfl rfl rfl rfl rfl hk hmk HBs.out (by rw [HR.out, HS.out, Nat.add_zero])⟩
set_option maxRecDepth 100000 in
set_option maxHeartbeats 2000000 in
theorem implLex_long (ao : Option Addr) (n cap : Nat) (zs : List Int) (w : World) (hl : zs.length = n) (h6 : 6000 < n) :
    Calls Try.prog 6 #[.slice ao n cap] w (LexPost zs (lexR zs).1.length w) := by
  have HE : Hid (lexR zs = ([], 4, 6000)) := by show _ = _; unfold lexR; rw [if_pos (by omega)]
  obtain ⟨P, hP⟩ : ∃ P, P = LexPost zs (lexR zs).1.length w := ⟨_, rfl⟩
  rw [← hP]
  have HP : Hid (P = LexPost zs (lexR zs).1.length w) := hP
  clear hP hl
  go_enter Try.func6, Try.ntmps6
  go_wp2
  go_step3
  go_wp2
  rw [Exit.noGoto_ret]
  go_ret3
  rw [HP.out]
  exact lex_post HE.out rfl (Below.refl _ _) (World.ownsRow_nil _ _ _ _)
theorem implLex_any (g n cap : Nat) (zs : List Int) (w : World) (hb : Bts zs) (hr : Rd w (some ⟨g, 0, none⟩) zs) (hl : zs.length = n) (hm : cap ≤ 9223372036854775807) (hcap : n ≤ cap) :
    Calls Try.prog 6 #[.slice (some ⟨g, 0, none⟩) n cap] w (LexPost zs (lexR zs).1.length w) := by
  by_cases h6 : n ≤ 6000
  · refine implLex_small g n cap zs w hb ?_ hl ?_ hm hcap h6
    · intro i hi
      obtain ⟨b, off, e, hbw, hcell⟩ := hr.at (by omega)
      simp only [Option.some.injEq, Addr.mk.injEq, and_true] at e
      obtain ⟨rfl, rfl⟩ := e
      have := hcell i hi
      rwa [Nat.zero_add] at this
    · intro h0
      obtain ⟨b, off, e, hbw, hcell⟩ := hr.at (by omega)
      simp only [Option.some.injEq, Addr.mk.injEq, and_true] at e
      rw [e.1]; exact hbw
  · exact implLex_long _ n cap zs w hl (by omega)
def Alike (zs : List Int) (a : Nat) (ys : List Int) (p n : Nat) : Prop := ∀ j, j < n → ys.getD (p + j) 0 = zs.getD (a + j) 0
theorem Alike.part {zs ys : List Int} {a p n : Nat} (h : Alike zs a ys p n) (hz : a + n ≤ zs.length) (hy : p + n ≤ ys.length) : part ys p n = part zs a n := by
  refine List.ext_getElem (by rw [part_len hz, part_len hy]) ?_
  intro i h1 h2
  rw [part_len hy] at h1
  have e := h i h1
  have e1 := part_getD (zs := ys) (k := p) h1
  have e2 := part_getD (zs := zs) (k := a) h1
  rw [e, ← e2] at e1
  simpa [List.getD_eq_getElem?_getD, part_len hz, part_len hy, h1] using e1
theorem span_same {p : Int → Bool} {zs ys : List Int} : ∀ {n a b : Nat}, span p zs a = n → a + n ≤ zs.length → b + n ≤ ys.length → Alike zs a ys b n → p (ys.getD (b + n) 0) = false → span p ys b = n := by
  intro n
  induction n with
  | zero => intro a b _ _ _ _ hp; exact span_stop hp
  | succ n ih =>
    intro a b hs hz hy hA hp
    have h0 : p (zs.getD a 0) = true := by
      cases h : p (zs.getD a 0)
      · rw [span_stop h] at hs; omega
      · rfl
    have e0 : ys.getD b 0 = zs.getD a 0 := hA 0 (by omega)
    rw [span_step (by omega) h0] at hs
    rw [span_step (by omega) (by rw [e0]; exact h0)]
    rw [ih (a := a + 1) (b := b + 1) (by omega) (by omega) (by omega) (fun j hj => by have := hA (j + 1) (by omega); rwa [show b + 1 + j = b + (j + 1) by omega, show a + 1 + j = a + (j + 1) by omega]) (by rwa [show b + 1 + n = b + (n + 1) by omega])]
theorem rc_same {zs ys : List Int} {i k s : Nat} {c : Int} (h : rc zs i = some (c, s)) (hA : Alike zs i ys k s) (hy : k + s ≤ ys.length) : rc ys k = some (c, s) := by
  unfold rc at h
  (repeat' split at h) <;> simp only [Option.some.injEq, Prod.mk.injEq, reduceCtorEq] at h
  all_goals (obtain ⟨rfl, rfl⟩ := h)
  · have e0 := hA 0 (by omega)
    simp only [Nat.add_zero] at e0
    exact rc_self e0 (by assumption) (by assumption)
  · have e0 := hA 0 (by omega)
    have e1 := hA 1 (by omega)
    have e2 := hA 2 (by omega)
    have e3 := hA 3 (by omega)
    simp only [Nat.add_zero] at e0
    exact rc_hex (by omega) (by omega) (by omega) (by omega) e2 e3 (by omega) (by omega)
  · have e0 := hA 0 (by omega)
    have e1 := hA 1 (by omega)
    simp only [Nat.add_zero] at e0
    exact rc_n (by omega) (by omega) (by omega)
  · have e0 := hA 0 (by omega)
    have e1 := hA 1 (by omega)
    simp only [Nat.add_zero] at e0
    exact rc_t (by omega) (by omega) (by omega)
  · have e0 := hA 0 (by omega)
    have e1 := hA 1 (by omega)
    simp only [Nat.add_zero] at e0
    exact rc_esc (by omega) (by omega) e1 (by assumption)
theorem rl_same {q : Int} {zs ys : List Int} (hb : Bts zs) (a p : Nat) : ∀ (k i e : Nat) (out t : List Int), zs.length - (a + i) ≤ k → rl q zs (a + i) out = some (t, a + e) → (∀ j, i ≤ j → j < e → ys.getD (p + j) 0 = zs.getD (a + j) 0) → p + e ≤ ys.length → out.length ≤ a + i → rl q ys (p + i) out = some (t, p + e) := by
  intro k
  induction k with
  | zero =>
    intro i e out t hk h
    rw [rl_end (by omega)] at h; cases h
  | succ k ih =>
    intro i e out t hk h hA hy ho
    by_cases hi : a + i < zs.length
    · have hf := rl_fits hb _ _ _ _ _ (Nat.le_refl _) h ho
      have e0 := hA i (Nat.le_refl _) (by omega)
      by_cases hq : zs.getD (a + i) 0 = q
      · rw [rl_close hi hq] at h
        simp only [Option.some.injEq, Prod.mk.injEq] at h
        obtain ⟨rfl, h2⟩ := h
        obtain rfl : e = i + 1 := by omega
        rw [rl_close (by omega) (by rw [e0]; exact hq)]; rfl
      · cases hc : rc zs (a + i) with
        | none => rw [rl_bad hi hq hc] at h; cases h
        | some x =>
          obtain ⟨c, s⟩ := x
          have f := rc_fits hb hi hc
          rw [rl_step hi hq hc (by omega)] at h
          have hf2 := rl_fits hb _ _ _ _ _ (Nat.le_refl _) h (by simp; omega)
          have hc2 : rc ys (p + i) = some (c, s) := rc_same hc (fun j hj => by have := hA (i + j) (by omega) (by omega); rwa [Nat.add_assoc, Nat.add_assoc]) (by omega)
          rw [rl_step (by omega) (by rw [e0]; exact hq) hc2 (by omega)]
          rw [Nat.add_assoc] at h ⊢
          exact ih (i + s) e (out ++ [c]) t (by omega) h (fun j h1 h2 => hA j (by omega) h2) hy (by simp; omega)
    · rw [rl_end hi] at h; cases h
theorem tok_same {zs ys : List Int} (hbz : Bts zs) (hby : Bts ys) {a p n : Nat} {kd : Int} (ha : a < zs.length) (ht : tokK zs a = (kd, n, 0)) (hnc : ¬ (zs.getD a 0 = 45 ∧ a + 1 < zs.length ∧ zs.getD (a + 1) 0 = 45)) (hA : Alike zs a ys p n) (h10 : ys.getD (p + n) 0 = 10) (hy : p + n < ys.length) : tokK ys p = (kd, n, 0) := by
  have hf := tok_fits hbz ha (by rw [ht])
  rw [ht] at hf
  simp only at hf
  have e0 : ys.getD p 0 = zs.getD a 0 := hA 0 (by omega)
  have d10 : alnum (ys.getD (p + n) 0) = false := by rw [h10]; rfl
  by_cases h1 : letter (zs.getD a 0) = true
  · rw [tok_of_letter h1] at ht
    simp only [Prod.mk.injEq, and_true] at ht
    have hs := span_same ht.2 hf.2 (by omega) hA d10
    rw [tok_of_letter (by rw [e0]; exact h1), hs, hA.part hf.2 (by omega), ← ht.1, ht.2]
  · have h1 : letter (zs.getD a 0) = false := by simpa using h1
    by_cases h2 : digit (zs.getD a 0) = true
    · rw [tok_of_digit h2] at ht
      simp only [Prod.mk.injEq] at ht
      have hs := span_same ht.2.1 hf.2 (by omega) hA d10
      rw [tok_of_digit (by rw [e0]; exact h2), hs, hA.part hf.2 (by omega), ← ht.1]
      rw [ht.2.1] at ht
      rw [ht.2.2]
    · have h2 : digit (zs.getD a 0) = false := by simpa using h2
      by_cases hq : zs.getD a 0 = 34 ∨ zs.getD a 0 = 39
      · rw [tok_of_quote h1 h2 hq] at ht
        rw [tok_of_quote (by rw [e0]; exact h1) (by rw [e0]; exact h2) (by rw [e0]; exact hq)]
        cases hl : litAt zs a with
        | none => rw [hl] at ht; simp [ofLit] at ht
        | some x =>
          obtain ⟨t, e⟩ := x
          rw [hl] at ht
          simp only [ofLit, Prod.mk.injEq, and_true] at ht
          have hl2 := hl
          rw [litAt, if_pos ⟨ha, hq⟩] at hl2
          have hf2 := rl_fits hbz _ _ _ _ _ (Nat.le_refl _) hl2 (by simp)
          obtain rfl : e = a + n := by omega
          have := rl_same hbz a p _ 1 n [] t (Nat.le_refl _) hl2 (fun j _ hj => hA j hj) (by omega) (by simp)
          rw [litAt, if_pos ⟨by omega, by rw [e0]; exact hq⟩, e0, this]
          simp only [ofLit, Prod.mk.injEq, and_true]
          omega
      · rw [tok_of_sign h1 h2 hq] at ht
        rw [tok_of_sign (by rw [e0]; exact h1) (by rw [e0]; exact h2) (by rw [e0]; exact hq)]
        by_cases hs : (sgn (zs.getD a 0)).2 = 0 ∨ zs.length ≤ a + 1 ∨ ¬ zs.getD (a + 1) 0 = (sgn (zs.getD a 0)).2
        · rw [sign_short hbz ha hs] at ht
          by_cases hz : (sgn (zs.getD a 0)).1 = 0
          · rw [if_pos hz] at ht; simp [ofSign] at ht
          · rw [if_neg hz] at ht
            simp only [ofSign, Prod.mk.injEq, and_true] at ht
            obtain ⟨rfl, rfl⟩ := ht
            have h3 : ¬ (sgn (zs.getD a 0)).2 = 10 := by
              rcases sgn_cases (zs.getD a 0) with ⟨_, e⟩ | ⟨_, e⟩ | ⟨h, e⟩ | ⟨_, e⟩ | ⟨_, e⟩ | ⟨_, _, _, _, _, e⟩ <;> rw [e] <;> simp only <;> omega
            rw [sign_short hby (by omega) (.inr (.inr (by rw [h10, e0]; exact fun h => h3 h.symm))), e0, if_neg hz]
            rfl
        · have g1 : ¬ (sgn (zs.getD a 0)).2 = 0 := fun h => hs (.inl h)
          have g2 : a + 1 < zs.length := by omega
          have g3 : zs.getD (a + 1) 0 = (sgn (zs.getD a 0)).2 := by
            by_cases g : zs.getD (a + 1) 0 = (sgn (zs.getD a 0)).2
            · exact g
            · exact absurd (.inr (.inr g)) hs
          have g4 : ¬ (sgn (zs.getD a 0)).2 = 45 := fun h => hnc ⟨sgn_dash h, g2, by rw [g3, h]⟩
          rw [sign_long hbz g2 g1 g3 g4] at ht
          simp only [ofSign, Prod.mk.injEq, and_true] at ht
          obtain ⟨rfl, rfl⟩ := ht
          have e1 := hA 1 (by omega)
          rw [sign_long hby (by omega) (by rw [e0]; exact g1) (by rw [e0, e1]; exact g3) (by rw [e0]; exact g4)]
          rfl
def Toks (zs : List Int) : Nat → List (Int × Nat × Nat) → Prop
  | _, [] => True
  | e, (kd, a, n) :: r => e ≤ a ∧ 1 ≤ n ∧ a + n ≤ zs.length ∧ blank (zs.getD a 0) = false ∧ ¬ (zs.getD a 0 = 45 ∧ a + 1 < zs.length ∧ zs.getD (a + 1) 0 = 45) ∧ tokK zs a = (kd, n, 0) ∧ Toks zs (a + n) r
theorem Toks.mono {zs : List Int} {e e' : Nat} (h : e' ≤ e) : ∀ {l : List (Int × Nat × Nat)}, Toks zs e l → Toks zs e' l
  | [], _ => trivial
  | (kd, a, n) :: r, ht => by
    obtain ⟨h1, h2⟩ := ht
    exact ⟨by omega, h2⟩
theorem lx_toks {zs : List Int} (hb : Bts zs) : ∀ (f k : Nat) (out : List (Int × Nat × Nat)), zs.length - k ≤ f → ((lx zs k out).2.1 = 0 ∧ ∃ S, (lx zs k out).1 = out ++ S ∧ Toks zs k S) ∨ (¬ (lx zs k out).2.1 = 0 ∧ (lx zs k out).1 = []) := by
  intro f
  induction f with
  | zero =>
    intro k out h
    rw [lx_end (by omega)]
    exact .inl ⟨rfl, [], by simp, trivial⟩
  | succ f ih =>
    intro k out h
    by_cases hk : k < zs.length
    · cases h1 : blank (zs.getD k 0)
      · by_cases h2 : zs.getD k 0 = 45 ∧ k + 1 < zs.length ∧ zs.getD (k + 1) 0 = 45
        · rw [lx_comment hk h1 h2]
          have hp : 1 ≤ span notLf zs k := by rw [span_step hk (by rw [h2.1]; rfl)]; omega
          rcases ih (k + span notLf zs k) out (by omega) with ⟨h3, S, h4, h5⟩ | h3
          · exact .inl ⟨h3, S, h4, h5.mono (by omega)⟩
          · exact .inr h3
        · by_cases h3 : (tokK zs k).2.2 = 0
          · have hf := tok_fits hb hk h3
            rw [lx_tok hk h1 h2 h3 (by omega)]
            rcases ih (k + (tokK zs k).2.1) (out ++ [((tokK zs k).1, k, (tokK zs k).2.1)]) (by omega) with ⟨h4, S, h5, h6⟩ | h4
            · refine .inl ⟨h4, ((tokK zs k).1, k, (tokK zs k).2.1) :: S, by rw [h5]; simp, Nat.le_refl _, hf.1, hf.2, h1, h2, ?_, h6⟩
              rw [← h3]
            · exact .inr h4
          · rw [lx_bad hk h1 h2 h3]
            exact .inr ⟨h3, rfl⟩
      · rw [lx_blank hk h1]
        rcases ih (k + 1) out (by omega) with ⟨h3, S, h4, h5⟩ | h3
        · exact .inl ⟨h3, S, h4, h5.mono (by omega)⟩
        · exact .inr h3
    · rw [lx_end hk]
      exact .inl ⟨rfl, [], by simp, trivial⟩
def joinT (zs : List Int) : List (Int × Nat × Nat) → List Int
  | [] => []
  | (_, a, n) :: r => part zs a n ++ [10] ++ joinT zs r
def placed : Nat → List (Int × Nat × Nat) → List (Int × Nat × Nat)
  | _, [] => []
  | p, (kd, _, n) :: r => (kd, p, n) :: placed (p + n + 1) r
theorem placed_length : ∀ (p : Nat) (l : List (Int × Nat × Nat)), (placed p l).length = l.length
  | _, [] => rfl
  | p, (_, _, n) :: r => by rw [placed, List.length_cons, List.length_cons, placed_length]
theorem bts_cat {xs ys : List Int} (hx : Bts xs) (hy : Bts ys) : Bts (xs ++ ys) := by
  intro i
  by_cases h : i < xs.length
  · have := hx i
    rwa [List.getD_eq_getElem?_getD, List.getElem?_append_left h, ← List.getD_eq_getElem?_getD]
  · have := hy (i - xs.length)
    rwa [List.getD_eq_getElem?_getD, List.getElem?_append_right (by omega), ← List.getD_eq_getElem?_getD]
theorem bts_lf : Bts [10] := by
  intro i
  match i with
  | 0 => exact ⟨by decide, by decide⟩
  | _ + 1 => exact ⟨by simp, by simp⟩
theorem joinT_bts {zs : List Int} (hb : Bts zs) : ∀ l : List (Int × Nat × Nat), Bts (joinT zs l)
  | [] => by intro i; simp [joinT]
  | (_, a, n) :: r => bts_cat (bts_cat (part_bts hb a n) bts_lf) (joinT_bts hb r)
theorem lx_join {zs : List Int} (hb : Bts zs) : ∀ (S : List (Int × Nat × Nat)) (e : Nat) (pre : List Int) (out : List (Int × Nat × Nat)), Bts pre → Toks zs e S → lx (pre ++ joinT zs S) pre.length out = (out ++ placed pre.length S, 0, 0)
  | [], e, pre, out, _, _ => by
    rw [lx_end (by simp [joinT])]; simp [placed]
  | (kd, a, n) :: r, e, pre, out, hp, ht => by
    obtain ⟨_, h1, h2, h3, h4, h5, h6⟩ := ht
    have hl := part_len h2
    have hB : Bts (pre ++ joinT zs ((kd, a, n) :: r)) := bts_cat hp (joinT_bts hb _)
    have ey : pre ++ joinT zs ((kd, a, n) :: r) = (pre ++ part zs a n ++ [10]) ++ joinT zs r := by simp [joinT]
    obtain ⟨ys, hys⟩ : ∃ ys, ys = pre ++ joinT zs ((kd, a, n) :: r) := ⟨_, rfl⟩
    have hlen : ys.length = pre.length + n + 1 + (joinT zs r).length := by rw [hys, ey]; simp [hl]; omega
    have hA : Alike zs a ys pre.length n := by
      intro j hj
      rw [hys, ey, ← part_getD (zs := zs) (k := a) hj]
      simp only [List.getD_eq_getElem?_getD]
      rw [List.getElem?_append_left (by simp [hl]; omega), List.getElem?_append_left (by simp [hl]; omega), List.getElem?_append_right (by omega)]
      rw [Nat.add_sub_cancel_left]
    have h10 : ys.getD (pre.length + n) 0 = 10 := by
      rw [hys, ey]
      simp only [List.getD_eq_getElem?_getD]
      rw [List.getElem?_append_left (by simp [hl]), List.getElem?_append_right (by simp [hl])]
      simp [hl]
    rw [← hys] at hB ⊢
    have e0 : ys.getD pre.length 0 = zs.getD a 0 := hA 0 (by omega)
    have hnc : ¬ (ys.getD pre.length 0 = 45 ∧ pre.length + 1 < ys.length ∧ ys.getD (pre.length + 1) 0 = 45) := by
      rintro ⟨g1, _, g3⟩
      by_cases hn : n = 1
      · subst hn; rw [h10] at g3; omega
      · have e1 := hA 1 (by omega)
        exact h4 ⟨by rw [← e0]; exact g1, by omega, by rw [← e1]; exact g3⟩
    have ht := tok_same hb hB (by omega) h5 h4 hA h10 (by omega)
    rw [lx_tok (by omega) (by rw [e0]; exact h3) hnc (by rw [ht]) (by rw [ht]; exact h1), ht]
    simp only
    rw [lx_blank (by omega) (by rw [h10]; rfl)]
    have ih := lx_join hb r (a + n) (pre ++ part zs a n ++ [10]) (out ++ [(kd, pre.length, n)]) (bts_cat (bts_cat hp (part_bts hb a n)) bts_lf) h6
    rw [hys, ey]
    have el : (pre ++ part zs a n ++ [10]).length = pre.length + n + 1 := by simp [hl]; omega
    rw [el] at ih
    rw [ih, placed]
    simp
theorem lexR_toks {zs : List Int} (hb : Bts zs) : Toks zs 0 (lexR zs).1 := by
  unfold lexR
  by_cases h : 6000 < zs.length
  · rw [if_pos h]; trivial
  · rw [if_neg h]
    rcases lx_toks hb zs.length 0 [] (by omega) with ⟨_, S, e, hS⟩ | ⟨_, e⟩
    · rw [e]; exact hS
    · rw [e]; trivial
theorem lexR_join {zs : List Int} (hb : Bts zs) {S : List (Int × Nat × Nat)} (hS : Toks zs 0 S) (h : (joinT zs S).length ≤ 6000) : lexR (joinT zs S) = (placed 0 S, 0, 0) := by
  unfold lexR
  rw [if_neg (by omega)]
  exact lx_join hb S 0 [] [] (by intro i; simp) hS
end Go.Proofs.Ytepbddfpdlapbaa.lex
