import Derived.Test.YtccnjmnafkfjdaaGreatTrDisp
import Derived.Test.YtccnjmnafkfjdaaGreatTrUnder
import Derived.Test.YtccnjmnafkfjdaaGreatTrGrow
namespace Go.Proofs.YtccnjmnafkfjdaaGreat.vt
open Go.RowKit Go.Proofs.YtccnjmnafkfjdaaGreat.bts Go.Proofs.YtccnjmnafkfjdaaGreat.nod Go.Proofs.YtccnjmnafkfjdaaGreat.lex

/-- What is asked of a visited node: its depth, whether it stands in a loop, whether it fits, its kind. -/
def chk (x : Nat × Bool × Bool × Int) : Bool := decide (x.1 ≤ 200) && (x.2.2.1 && (!(x.2.2.2 == 8) || x.2.1))
/-- The nodes in preorder, each with its place. -/
def preT : {D : Nat} → Tr D → Nat → Bool → List (Nat × Bool × Bool × Int)
  | 0, _, _, _ => [(0, false, false, 0)]
  | _ + 1, t, deep, lp => (deep, lp, fitsT t, kindT t) :: (t.2.map (fun c => preT c (deep + 1) (innerT t.1.kind lp))).flatten
theorem pre_succ {D : Nat} (t : Tr (D + 1)) (deep : Nat) (lp : Bool) : preT t deep lp = (deep, lp, fitsT t, kindT t) :: (t.2.map (fun c => preT c (deep + 1) (innerT t.1.kind lp))).flatten := rfl
theorem ok_succ {D : Nat} (t : Tr (D + 1)) (deep : Nat) (lp : Bool) : okT t deep lp = (nodeOk t deep lp && t.2.all (fun c => okT c (deep + 1) (innerT t.1.kind lp))) := rfl
theorem size_succ {D : Nat} (t : Tr (D + 1)) : sizeT t = 1 + (t.2.map sizeT).sum := rfl
theorem ok_pre : ∀ {D : Nat} (t : Tr D) (deep : Nat) (lp : Bool), okT t deep lp = (preT t deep lp).all chk := by
  intro D
  induction D with
  | zero => intro t deep lp; rfl
  | succ D ih =>
    intro t deep lp
    rw [ok_succ, pre_succ, List.all_cons, List.all_flatten, List.all_map]
    congr 1
    congr 1
    funext c
    exact ih c _ _
theorem pre_len : ∀ {D : Nat} (t : Tr D) (deep : Nat) (lp : Bool), (preT t deep lp).length = sizeT t := by
  intro D
  induction D with
  | zero => intro t deep lp; rfl
  | succ D ih =>
    intro t deep lp
    rw [pre_succ, size_succ, List.length_cons, List.length_flatten, List.map_map]
    have e : (List.length ∘ fun c => preT c (deep + 1) (innerT t.1.kind lp)) = (sizeT : Tr D → Nat) := by funext c; exact ih c _ _
    rw [e]; omega
/-- The numbers of all nodes are such as a cell holds. -/
def wfT : {D : Nat} → Tr D → Prop
  | 0, _ => True
  | D + 1, t => (-9223372036854775808 ≤ t.1.n ∧ t.1.n ≤ 9223372036854775807) ∧ ∀ k, k < t.2.length → wfT (t.2.getD k (tr0 D))
theorem take_snoc {α : Type} (z : α) {ts : List α} {k : Nat} (h : k < ts.length) : ts.take (k + 1) = ts.take k ++ [ts.getD k z] := by
  rw [List.take_succ_eq_append_getElem h]
  simp [List.getD_eq_getElem?_getD, List.getElem?_eq_getElem h]
theorem treeAt_wf {l : List Nd} (hl : ∀ i, i < l.length → -9223372036854775808 ≤ (l.getD i nd0).n ∧ (l.getD i nd0).n ≤ 9223372036854775807) : ∀ {D i m : Nat} {t : Tr D}, treeAt l D i = some (t, m) → wfT t := by
  intro D
  induction D with
  | zero => intro i m t h; cases h
  | succ D ih =>
    intro i m t h
    obtain ⟨⟨hi, _⟩, ks, rfl, hL⟩ := treeAt_inv h
    refine ⟨hl i hi, ?_⟩
    have gen : ∀ {c p e : Nat} {ts : List (Tr D)}, loopT (treeAt l D) c p = some (ts, e) → ∀ k, k < ts.length → wfT (ts.getD k (tr0 D)) := by
      intro c
      induction c with
      | zero => intro p e ts h k hk; rw [loopT] at h; cases h; simp at hk
      | succ c ic =>
        intro p e ts h k hk
        obtain ⟨t1, m1, r, h1, h2, rfl⟩ := loopT_cons h
        cases k with
        | zero => exact ih h1
        | succ k => exact ic h2 k (by simpa using hk)
    exact gen hL
theorem treeAt_size {l : List Nd} : ∀ {D i m : Nat} {t : Tr D}, treeAt l D i = some (t, m) → i + sizeT t = m := by
  intro D
  induction D with
  | zero => intro i m t h; cases h
  | succ D ih =>
    intro i m t h
    obtain ⟨_, ks, rfl, hL⟩ := treeAt_inv h
    have gen : ∀ {c p e : Nat} {ts : List (Tr D)}, loopT (treeAt l D) c p = some (ts, e) → p + (ts.map sizeT).sum = e := by
      intro c
      induction c with
      | zero => intro p e ts h; rw [loopT] at h; cases h; rfl
      | succ c ic =>
        intro p e ts h
        obtain ⟨t1, m1, r, h1, h2, rfl⟩ := loopT_cons h
        have a := ih h1
        have b := ic h2
        simp only [List.map_cons, List.sum_cons]; omega
    have := gen hL
    rw [size_succ]
    show i + (1 + (ks.map sizeT).sum) = m
    omega
end Go.Proofs.YtccnjmnafkfjdaaGreat.vt
