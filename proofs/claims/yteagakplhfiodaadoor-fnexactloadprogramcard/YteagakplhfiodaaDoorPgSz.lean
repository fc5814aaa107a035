import Derived.Test.YteagakplhfiodaaDoorPgLists
namespace Go.Proofs.YteagakplhfiodaaDoor.pg
open Go.RowKit Go.Proofs.YteagakplhfiodaaDoor.bts

/-- What is left when m is taken off, -1 where there is too little. -/
def szr (left : Int) (m : Nat) : Int := if (m : Int) ≤ left then left - (m : Int) else -1
theorem szr_ok {left : Int} {m : Nat} (h : (m : Int) ≤ left) : szr left m = left - (m : Int) := by unfold szr; rw [if_pos h]
theorem szr_no {left : Int} {m : Nat} (h : ¬ (m : Int) ≤ left) : szr left m = -1 := by unfold szr; rw [if_neg h]
theorem szr_or (left : Int) (m : Nat) (h0 : 0 ≤ left) (h1 : left ≤ 16777216) : szr left m = -1 ∨ (0 ≤ szr left m ∧ szr left m ≤ 16777216) := by unfold szr; split <;> omega
theorem ret_i {a b : Int} (h : a = b) : Ending.returned (.int .i64 a) = .returned (.int .i64 b) := by rw [h]

theorem cellNew {w : World} {cs : Array Value} {t : TypeId} {j : Nat} {v : Value} (h : cs[j]? = some v) : (w.alloc (.cells cs t)).cell? ⟨w.heap.size, j, none⟩ = some v := by
  simp only [World.cell?, heap_alloc_new]; exact h

/-- The first k sizes together. -/
def sumsF {α : Type} (f : α → Nat) (l : List α) (k : Nat) : Nat := ((l.take k).map f).sum
theorem sumsF_succ {α : Type} {f : α → Nat} {l : List α} {k : Nat} (d : α) (h : k < l.length) : sumsF f l (k + 1) = sumsF f l k + f (l.getD k d) := by
  unfold sumsF
  rw [List.take_succ_eq_append_getElem h, List.map_append, List.sum_append]
  simp [List.getD_eq_getElem?_getD, List.getElem?_eq_getElem h]
theorem sumsF_le {α : Type} {f : α → Nat} (d : α) (l : List α) : ∀ (j k : Nat), k + j = l.length → sumsF f l k ≤ sumsF f l l.length
  | 0, k, h => by rw [show k = l.length by omega]; exact Nat.le_refl _
  | j + 1, k, h => by
    have := sumsF_le (f := f) d l j (k + 1) (by omega)
    rw [sumsF_succ d (by omega)] at this
    omega
theorem sumsF_at {α : Type} {f : α → Nat} {l : List α} {i : Nat} (d : α) (h : i < l.length) : f (l.getD i d) ≤ sumsF f l l.length := by
  have h1 := sumsF_succ (f := f) d h
  have h2 := sumsF_le (f := f) d l (l.length - (i + 1)) (i + 1) (by omega)
  omega

def sizeCn (d : Cn) : Nat := d.text.length
def sizePr (d : Pr) : Nat := d.caps.length + d.code.length
def sizeK (l : List Cn) : Nat := l.length + sumsF sizeCn l l.length
def sizeP (l : List Pr) : Nat := l.length + sumsF sizePr l l.length
def sizePg (p : Pg) : Nat := sizeK p.consts + sizeP p.protos

end Go.Proofs.YteagakplhfiodaaDoor.pg
