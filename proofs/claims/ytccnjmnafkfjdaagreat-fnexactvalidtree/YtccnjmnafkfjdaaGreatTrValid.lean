import Derived.Test.YtccnjmnafkfjdaaGreatTrTable
namespace Go.Proofs.YtccnjmnafkfjdaaGreat.vt
open Go.RowKit Go.Proofs.YtccnjmnafkfjdaaGreat.bts Go.Proofs.YtccnjmnafkfjdaaGreat.nod Go.Proofs.YtccnjmnafkfjdaaGreat.lex

/-- c trees one behind the other. -/
def loopT {α : Type} (f : Nat → Option (α × Nat)) : Nat → Nat → Option (List α × Nat)
  | 0, p => some ([], p)
  | c + 1, p => match f p with
    | none => none
    | some (t, m) => match loopT f c m with
      | none => none
      | some (ts, e) => some (t :: ts, e)
/-- The tree with which the rows from place i on begin, and the place behind it. -/
def treeAt (l : List Nd) : (D : Nat) → Nat → Option (Tr D × Nat)
  | 0, _ => none
  | D + 1, i => if i < l.length ∧ 0 ≤ knd l i ∧ knd l i ≤ 26 ∧ 0 ≤ cnt l i then
      match loopT (treeAt l D) (cnt l i).toNat (i + 1) with
      | none => none
      | some (ks, e) => some (mkT (l.getD i nd0) ks, e)
    else none
theorem okT_mk {D : Nat} (d : Nd) (ks : List (Tr D)) (deep : Nat) (lp : Bool) : okT (mkT d ks) deep lp = ((decide (deep ≤ 200) && (fitsI d.kind d.n d.text d.names (ks.map kindT) && (!(d.kind == 8) || lp))) && ks.all (fun c => okT c (deep + 1) (innerOf d.kind lp))) := rfl
def isValidT {D : Nat} (t : Tr D) : Bool := okT t 1 false && (kindT t == 0)
def growV (l : List Nd) : Option (Tr (l.length + 1)) :=
  match treeAt l (l.length + 1) 0 with
  | none => none
  | some (t, e) => if e = l.length then some t else none
def validI (l : List Nd) : Bool := decide (l.length ≤ 6000) && (match growV l with
  | none => false
  | some t => isValidT t)

theorem loopT_len {α : Type} {f : Nat → Option (α × Nat)} : ∀ {c p e : Nat} {ts : List α}, loopT f c p = some (ts, e) → ts.length = c := by
  intro c
  induction c with
  | zero => intro p e ts h; rw [loopT] at h; cases h; rfl
  | succ c ih =>
    intro p e ts h
    rw [loopT] at h
    cases hf : f p with
    | none => rw [hf] at h; cases h
    | some x =>
      obtain ⟨t, m⟩ := x
      rw [hf] at h
      simp only at h
      cases hl : loopT f c m with
      | none => rw [hl] at h; cases h
      | some y =>
        obtain ⟨ts', e'⟩ := y
        rw [hl] at h
        simp only [Option.some.injEq, Prod.mk.injEq] at h
        obtain ⟨rfl, rfl⟩ := h
        simp [ih hl]
theorem loopT_cons {α : Type} {f : Nat → Option (α × Nat)} {c p e : Nat} {ts : List α} (h : loopT f (c + 1) p = some (ts, e)) : ∃ t m r, f p = some (t, m) ∧ loopT f c m = some (r, e) ∧ ts = t :: r := by
  rw [loopT] at h
  cases hf : f p with
  | none => rw [hf] at h; cases h
  | some x =>
    obtain ⟨t, m⟩ := x
    rw [hf] at h
    simp only at h
    cases hl : loopT f c m with
    | none => rw [hl] at h; cases h
    | some y =>
      obtain ⟨ts', e'⟩ := y
      rw [hl] at h
      simp only [Option.some.injEq, Prod.mk.injEq] at h
      obtain ⟨rfl, rfl⟩ := h
      exact ⟨t, m, ts', rfl, hl, rfl⟩
theorem loopT_mk {α : Type} {f : Nat → Option (α × Nat)} {c p m e : Nat} {t : α} {r : List α} (h1 : f p = some (t, m)) (h2 : loopT f c m = some (r, e)) : loopT f (c + 1) p = some (t :: r, e) := by
  rw [loopT, h1]; simp only; rw [h2]
theorem treeAt_inv {l : List Nd} {D i e : Nat} {t : Tr (D + 1)} (h : treeAt l (D + 1) i = some (t, e)) : (i < l.length ∧ 0 ≤ knd l i ∧ knd l i ≤ 26 ∧ 0 ≤ cnt l i) ∧ ∃ ks, t = mkT (l.getD i nd0) ks ∧ loopT (treeAt l D) (cnt l i).toNat (i + 1) = some (ks, e) := by
  rw [treeAt] at h
  split at h
  · rename_i hc
    refine ⟨hc, ?_⟩
    cases hl : loopT (treeAt l D) (cnt l i).toNat (i + 1) with
    | none => rw [hl] at h; cases h
    | some x =>
      obtain ⟨ks, e'⟩ := x
      rw [hl] at h
      simp only [Option.some.injEq, Prod.mk.injEq] at h
      obtain ⟨rfl, rfl⟩ := h
      exact ⟨ks, rfl, rfl⟩
  · cases h
theorem kind_treeAt {l : List Nd} {D i e : Nat} {t : Tr D} (h : treeAt l D i = some (t, e)) : kindT t = knd l i := by
  cases D with
  | zero => cases h
  | succ D =>
    obtain ⟨_, ks, rfl, _⟩ := treeAt_inv h
    rfl
theorem goodKids_iff {f : Nat → Bool} {l : List Nd} {blk : Bool} {sh : ByteArray} : ∀ {ks : List Nat} {j : Nat}, goodKids f l blk sh j ks = true ↔ ∀ k, k < ks.length → fits (letAt sh (j + k)) (knd l (ks.getD k 0)) = true ∧ f (ks.getD k 0) = true ∧ (blk = true → k + 1 < ks.length → ¬ (knd l (ks.getD k 0) = 9 ∨ knd l (ks.getD k 0) = 8))
  | [], j => by simp [goodKids]
  | a :: r, j => by
    rw [goodKids, Bool.and_eq_true, Bool.and_eq_true, Bool.and_eq_true, goodKids_iff (ks := r)]
    constructor
    · rintro ⟨h1, h2, h3, h4⟩ k hk
      cases k with
      | zero =>
        refine ⟨h1, h2, fun hb hlt => ?_⟩
        subst hb
        have : r.isEmpty = false := by cases r with
          | nil => simp at hlt
          | cons => rfl
        simpa [this] using h3
      | succ k =>
        have := h4 k (by simpa using hk)
        rw [show j + (k + 1) = j + 1 + k by omega]
        exact ⟨this.1, this.2.1, fun hb hlt => this.2.2 hb (by simpa using hlt)⟩
    · intro h
      refine ⟨(h 0 (by simp)).1, (h 0 (by simp)).2.1, ?_, fun k hk => ?_⟩
      · have := (h 0 (by simp)).2.2
        cases blk with
        | false => rfl
        | true =>
          cases r with
          | nil => simp
          | cons b r => simpa using this rfl (by simp)
      · have := h (k + 1) (by simpa using hk)
        rw [show j + (k + 1) = j + 1 + k by omega] at this
        exact ⟨this.1, this.2.1, fun hb hlt => this.2.2 hb (by simpa using hlt)⟩
/-- Trees one behind the other and the places of the given reading. -/
theorem rows_of {l : List Nd} {d D : Nat} {lp : Bool} (hd : d ≤ 200) (ih : ∀ i t e, treeAt l D i = some (t, e) → okT t (201 - d) lp = true → endAt l d i = some e ∧ good l d i lp = true) :
    ∀ (c p e : Nat) (ts : List (Tr D)), loopT (treeAt l D) c p = some (ts, e) → ts.all (fun c => okT c (201 - d) lp) = true →
      loopN (endAt l d) c p = some e ∧ ∀ k, k < c → good l d ((kidsL l c p).getD k 0) lp = true ∧ knd l ((kidsL l c p).getD k 0) = (ts.map kindT).getD k 0 := by
  intro c
  induction c with
  | zero => intro p e ts h _; rw [loopT] at h; cases h; exact ⟨rfl, fun k hk => absurd hk (by omega)⟩
  | succ c ic =>
    intro p e ts h ho
    obtain ⟨t, m, r, h1, h2, rfl⟩ := loopT_cons h
    rw [List.all_cons, Bool.and_eq_true] at ho
    obtain ⟨e1, g1⟩ := ih p t m h1 ho.1
    obtain ⟨e2, g2⟩ := ic m e r h2 ho.2
    refine ⟨by rw [loopN_some e1]; exact e2, fun k hk => ?_⟩
    cases k with
    | zero => exact ⟨g1, (kind_treeAt h1).symm⟩
    | succ k =>
      have e3 : (kidsL l (c + 1) p).getD (k + 1) 0 = (kidsL l c m).getD k 0 := by
        rw [kidsL]; unfold nx; rw [endAt_le e1 hd]; rfl
      rw [e3]
      exact g2 k (by omega)
theorem good_of {l : List Nd} (hl : l.length ≤ 6000) : ∀ (D d : Nat), d ≤ 200 → ∀ (i : Nat) (t : Tr D) (e : Nat) (lp : Bool), treeAt l D i = some (t, e) → okT t (201 - d) lp = true → endAt l d i = some e ∧ good l d i lp = true := by
  intro D
  induction D with
  | zero => intro d _ i t e lp h; cases h
  | succ D ih =>
    intro d hd i t e lp h ho
    obtain ⟨⟨hi, hk0, hk1, hc⟩, ks, rfl, hL⟩ := treeAt_inv h
    rw [okT_mk] at ho
    simp only [Bool.and_eq_true, decide_eq_true_eq] at ho
    obtain ⟨⟨hdeep, hfit, hbr⟩, hS⟩ := ho
    obtain ⟨d', rfl⟩ : ∃ d', d = d' + 1 := ⟨d - 1, by omega⟩
    have hlen : ks.length = (cnt l i).toNat := loopT_len hL
    rw [show 201 - (d' + 1) + 1 = 201 - d' by omega] at hS
    obtain ⟨hN, hG⟩ := rows_of (by omega) (fun i t e h1 h2 => ih d' (by omega) i t e _ h1 h2) _ _ _ _ hL hS
    have hbd := loopN_bd (l := l) (fun _ _ h => endAt_bd h) (by omega) hN
    have hcl : cnt l i = ((ks.map kindT).length : Int) := by rw [List.length_map]; omega
    have hE : endAt l (d' + 1) i = some e := by rw [endAt, if_pos ⟨hi, hc, by omega⟩]; exact hN
    refine ⟨hE, ?_⟩
    have hT := (tbl_any hk0 hk1 (by rw [List.length_map]; omega)).1 hfit
    obtain ⟨t1, ⟨t2, t3, t4⟩, t5⟩ := hT
    rw [good]
    have hkl : (kids l i).length = (cnt l i).toNat := kidsL_len l _ _
    rw [Bool.and_eq_true, goodKids_iff]
    constructor
    · unfold headOk
      rw [decide_eq_true hk0, decide_eq_true hk1, hcl, show fieldsB (knd l i) (l.getD i nd0).n (l.getD i nd0).text (l.getD i nd0).names = true from t1]
      rw [show ((shape (knd l i) (l.getD i nd0).n ((ks.map kindT).length : Int)).toList == [63]) = false from t3, decide_eq_true (show ((shape (knd l i) (l.getD i nd0).n ((ks.map kindT).length : Int)).size : Int) = ((ks.map kindT).length : Int) from t2)]
      exact hbr
    · intro k hk
      rw [hkl] at hk
      obtain ⟨g1, g2⟩ := hG k hk
      have hk2 : k < (ks.map kindT).length := by rw [List.length_map]; omega
      refine ⟨?_, g1, fun hb hlt => ?_⟩
      · rw [Nat.zero_add, hcl]
        show fits _ (knd l ((kidsL l (cnt l i).toNat (i + 1)).getD k 0)) = true
        rw [g2]
        exact t4 k hk2
      · rw [hkl] at hlt
        show ¬ (knd l ((kidsL l (cnt l i).toNat (i + 1)).getD k 0) = 9 ∨ knd l ((kidsL l (cnt l i).toNat (i + 1)).getD k 0) = 8)
        rw [g2]
        exact t5 (by simpa using hb) k (by rw [List.length_map]; omega)
theorem tree_of {l : List Nd} (hl : l.length ≤ 6000) : ∀ (d : Nat), d ≤ 200 → ∀ (D i e : Nat) (lp : Bool), l.length - i < D → endAt l d i = some e → good l d i lp = true → ∃ t, treeAt l D i = some (t, e) ∧ okT t (201 - d) lp = true := by
  intro d
  induction d with
  | zero => intro _ D i e lp _ h; cases h
  | succ d ih =>
    intro hd D i e lp hD hE hG
    obtain ⟨⟨hi, hc, hcl⟩, hN⟩ := endAt_step hE
    obtain ⟨D, rfl⟩ : ∃ D', D = D' + 1 := ⟨D - 1, by omega⟩
    rw [good, Bool.and_eq_true, goodKids_iff] at hG
    obtain ⟨hH, hK⟩ := hG
    unfold headOk at hH
    simp only [Bool.and_eq_true, decide_eq_true_eq] at hH
    obtain ⟨hk0, hk1, hF, hs, h63, hbr⟩ := hH
    have hkl : (kids l i).length = (cnt l i).toNat := kidsL_len l _ _
    rw [hkl] at hK
    have hloop : ∃ ts, loopT (treeAt l D) (cnt l i).toNat (i + 1) = some (ts, e) ∧ ts.all (fun c => okT c (201 - d) (innerOf (knd l i) lp)) = true ∧ ∀ k, k < (cnt l i).toNat → knd l ((kidsL l (cnt l i).toNat (i + 1)).getD k 0) = (ts.map kindT).getD k 0 := by
      have gen : ∀ (c p e : Nat), i + 1 ≤ p → loopN (endAt l d) c p = some e → (∀ k, k < c → good l d ((kidsL l c p).getD k 0) (innerOf (knd l i) lp) = true) →
          ∃ ts, loopT (treeAt l D) c p = some (ts, e) ∧ ts.all (fun c => okT c (201 - d) (innerOf (knd l i) lp)) = true ∧ ∀ k, k < c → knd l ((kidsL l c p).getD k 0) = (ts.map kindT).getD k 0 := by
        intro c
        induction c with
        | zero => intro p e _ h _; rw [loopN] at h; cases h; exact ⟨[], rfl, rfl, fun k hk => absurd hk (by omega)⟩
        | succ c ic =>
          intro p e hp h hg
          cases hf : endAt l d p with
          | none => rw [loopN_none hf] at h; cases h
          | some m =>
            rw [loopN_some hf] at h
            have e3 : ∀ k, (kidsL l (c + 1) p).getD (k + 1) 0 = (kidsL l c m).getD k 0 := fun k => by
              rw [kidsL]; unfold nx; rw [endAt_le hf (show d ≤ 200 by omega)]; rfl
            have hpm := endAt_bd hf
            obtain ⟨t, h1, o1⟩ := ih (by omega) D p m (innerOf (knd l i) lp) (by omega) hf (hg 0 (by omega))
            obtain ⟨r, h2, o2, k2⟩ := ic m e (by omega) h (fun k hk => by rw [← e3]; exact hg (k + 1) (by omega))
            refine ⟨t :: r, loopT_mk h1 h2, by rw [List.all_cons, o1, o2]; rfl, fun k hk => ?_⟩
            cases k with
            | zero => exact (kind_treeAt h1).symm
            | succ k => rw [e3]; exact k2 k (by omega)
      exact gen _ _ _ (Nat.le_refl _) hN (fun k hk => (hK k hk).2.1)
    obtain ⟨ts, hL, hO, hkk⟩ := hloop
    refine ⟨mkT (l.getD i nd0) ts, by rw [treeAt, if_pos ⟨hi, hk0, hk1, hc⟩, hL], ?_⟩
    have hlen : ts.length = (cnt l i).toNat := loopT_len hL
    have hcl2 : cnt l i = ((ts.map kindT).length : Int) := by rw [List.length_map]; omega
    rw [okT_mk]
    simp only [Bool.and_eq_true, decide_eq_true_eq]
    refine ⟨⟨by omega, ?_, hbr⟩, by rw [show 201 - (d + 1) + 1 = 201 - d by omega]; exact hO⟩
    apply (tbl_any (show 0 ≤ (l.getD i nd0).kind from hk0) (show (l.getD i nd0).kind ≤ 26 from hk1) (by rw [List.length_map]; omega)).2
    rw [hcl2] at hs h63
    rw [Bool.not_eq_true'] at h63
    refine ⟨hF, ⟨hs, h63, fun k hk => ?_⟩, fun h0 k hk => ?_⟩
    · rw [List.length_map] at hk
      have := (hK k (by omega)).1
      rw [Nat.zero_add, hcl2] at this
      rw [← hkk k (by omega)]
      exact this
    · rw [List.length_map] at hk
      have := (hK k (by omega)).2.2 (by rw [show knd l i = 0 from h0]; rfl) (by omega)
      rw [← hkk k (by omega)]
      exact this
theorem valid_eq (l : List Nd) : valid l = validI l := by
  unfold valid validI
  by_cases h6 : l.length ≤ 6000
  · rw [decide_eq_true h6, Bool.true_and, Bool.true_and, Bool.eq_iff_iff]
    simp only [Bool.and_eq_true, decide_eq_true_eq, beq_iff_eq]
    constructor
    · rintro ⟨h1, hk, hE, hG⟩
      obtain ⟨t, ht, ho⟩ := tree_of h6 200 (Nat.le_refl _) (l.length + 1) 0 _ false (by omega) hE hG
      unfold growV
      rw [ht]
      simp only [if_true]
      unfold isValidT
      rw [show okT t 1 false = true from ho, kind_treeAt ht, hk]
      rfl
    · intro h
      unfold growV at h
      cases hT : treeAt l (l.length + 1) 0 with
      | none => rw [hT] at h; cases h
      | some x =>
        obtain ⟨t, e⟩ := x
        rw [hT] at h
        simp only at h
        by_cases he : e = l.length
        · rw [if_pos he] at h
          simp only at h
          unfold isValidT at h
          rw [Bool.and_eq_true, beq_iff_eq, kind_treeAt hT] at h
          obtain ⟨a, b⟩ := good_of h6 _ 200 (Nat.le_refl _) 0 t e false hT h.1
          have := (treeAt_inv hT).1.1
          exact ⟨by omega, h.2, by rw [a, he], b⟩
        · rw [if_neg he] at h; cases h
  · rw [decide_eq_false h6]; simp
end Go.Proofs.YtccnjmnafkfjdaaGreat.vt
