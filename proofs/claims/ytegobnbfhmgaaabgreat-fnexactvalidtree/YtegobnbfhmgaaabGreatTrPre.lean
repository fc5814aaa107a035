import Derived.Test.YtegobnbfhmgaaabGreatTrDisp
import Derived.Test.YtegobnbfhmgaaabGreatTrUnder
import Derived.Test.YtegobnbfhmgaaabGreatTrGrow
namespace Go.Proofs.YtegobnbfhmgaaabGreat.vt
open Go.RowKit Go.Proofs.YtegobnbfhmgaaabGreat.bts Go.Proofs.YtegobnbfhmgaaabGreat.nod Go.Proofs.YtegobnbfhmgaaabGreat.lex

mutual
/-- The nodes in preorder, each with its place. -/
def preT : Tr → Nat → Bool → List (Nat × Bool × Tr)
  | .mk d ks, deep, lp => (deep, lp, .mk d ks) :: preS ks (deep + 1) (innerT d.kind lp)
def preS : List Tr → Nat → Bool → List (Nat × Bool × Tr)
  | [], _, _ => []
  | t :: ts, deep, lp => preT t deep lp ++ preS ts deep lp
end
def chk (x : Nat × Bool × Tr) : Bool := decide (x.1 ≤ 200) && (fitsT x.2.2 && (!(x.2.2.kind == 8) || x.2.1))
mutual
theorem ok_pre : ∀ (t : Tr) (deep : Nat) (lp : Bool), okT t deep lp = (preT t deep lp).all chk
  | .mk d ks, deep, lp => by
    rw [okT, preT, List.all_cons, ok_preS ks]
    rfl
theorem ok_preS : ∀ (ts : List Tr) (deep : Nat) (lp : Bool), okS ts deep lp = (preS ts deep lp).all chk
  | [], deep, lp => by rw [okS, preS]; rfl
  | t :: ts, deep, lp => by rw [okS, preS, List.all_append, ok_pre t, ok_preS ts]
end
mutual
theorem pre_len : ∀ (t : Tr) (deep : Nat) (lp : Bool), (preT t deep lp).length = t.size
  | .mk d ks, deep, lp => by rw [preT, List.length_cons, pre_lenS ks, Tr.size]; omega
theorem pre_lenS : ∀ (ts : List Tr) (deep : Nat) (lp : Bool), (preS ts deep lp).length = sizes ts
  | [], deep, lp => by rw [preS, sizes]; rfl
  | t :: ts, deep, lp => by rw [preS, List.length_append, pre_len t, pre_lenS ts, sizes]
end
mutual
/-- The numbers of all nodes are such as a cell holds. -/
def wfT : Tr → Prop
  | .mk d ks => (-9223372036854775808 ≤ d.n ∧ d.n ≤ 9223372036854775807) ∧ wfS ks
def wfS : List Tr → Prop
  | [] => True
  | t :: ts => wfT t ∧ wfS ts
end
theorem wfS_at : ∀ {ts : List Tr} {k : Nat}, wfS ts → k < ts.length → wfT (ts.getD k default)
  | [], k, _, hk => absurd hk (by simp)
  | t :: ts, 0, h, _ => by rw [wfS] at h; exact h.1
  | t :: ts, k + 1, h, hk => by rw [wfS] at h; exact wfS_at (ts := ts) h.2 (by simpa using hk)
theorem preS_take : ∀ {ts : List Tr} {k : Nat} {deep : Nat} {lp : Bool}, k < ts.length → preS (ts.take (k + 1)) deep lp = preS (ts.take k) deep lp ++ preT (ts.getD k default) deep lp
  | [], k, _, _, hk => absurd hk (by simp)
  | t :: ts, 0, deep, lp, _ => by
    show preT t deep lp ++ preS [] deep lp = preS [] deep lp ++ preT t deep lp
    rw [preS, List.append_nil, List.nil_append]
  | t :: ts, k + 1, deep, lp, hk => by
    rw [List.take_succ_cons, List.take_succ_cons, preS, preS, preS_take (ts := ts) (by simpa using hk), List.append_assoc]
    rfl
theorem size_at {ts : List Tr} {k : Nat} (h : k < ts.length) : (ts.getD k default).size ≤ sizes ts := by
  refine sizes_mem ?_
  rw [show ts.getD k default = ts[k] by simp [List.getD_eq_getElem?_getD, List.getElem?_eq_getElem h]]
  exact List.getElem_mem h
theorem treeAt_wf {l : List Nd} (hl : ∀ i, i < l.length → -9223372036854775808 ≤ (l.getD i default).n ∧ (l.getD i default).n ≤ 9223372036854775807) : ∀ {D i m : Nat} {t : Tr}, treeAt l D i = some (t, m) → wfT t := by
  intro D
  induction D with
  | zero => intro i m t h; cases h
  | succ D ih =>
    intro i m t h
    obtain ⟨⟨hi, _⟩, ks, rfl, hL⟩ := treeAt_inv h
    rw [wfT]
    refine ⟨hl i hi, ?_⟩
    have gen : ∀ {c p e : Nat} {ts : List Tr}, loopT (treeAt l D) c p = some (ts, e) → wfS ts := by
      intro c
      induction c with
      | zero => intro p e ts h; rw [loopT] at h; cases h; rw [wfS]; trivial
      | succ c ic =>
        intro p e ts h
        obtain ⟨t1, m1, r, h1, h2, rfl⟩ := loopT_cons h
        rw [wfS]
        exact ⟨ih h1, ic h2⟩
    exact gen hL
theorem treeAt_size {l : List Nd} : ∀ {D i m : Nat} {t : Tr}, treeAt l D i = some (t, m) → i + t.size = m := by
  intro D
  induction D with
  | zero => intro i m t h; cases h
  | succ D ih =>
    intro i m t h
    obtain ⟨_, ks, rfl, hL⟩ := treeAt_inv h
    have gen : ∀ {c p e : Nat} {ts : List Tr}, loopT (treeAt l D) c p = some (ts, e) → p + sizes ts = e := by
      intro c
      induction c with
      | zero => intro p e ts h; rw [loopT] at h; cases h; rw [sizes]; rfl
      | succ c ic =>
        intro p e ts h
        obtain ⟨t1, m1, r, h1, h2, rfl⟩ := loopT_cons h
        have a := ih h1
        have b := ic h2
        rw [sizes]; omega
    have := gen hL
    rw [Tr.size]; omega
end Go.Proofs.YtegobnbfhmgaaabGreat.vt
