import Derived.Test.YteagakplhfiodaaDoorRows
import Derived.WalkKit
import Derived.ProofKit
import Derived.OpenShut
namespace Go.Proofs.YteagakplhfiodaaDoor.bts
open Go.RowKit

/-- The cells of a list of bytes. -/
def bcells (zs : List Int) : List Value := zs.map (Value.int .u8)

/-- Every number of the list is a byte. -/
def Bts (zs : List Int) : Prop := ∀ i, 0 ≤ zs.getD i 0 ∧ zs.getD i 0 ≤ 255

/-- The slice at this address reads as the list (of a list without elements nothing is said of the address). -/
def Rd (w : World) (ao : Option Addr) (zs : List Int) : Prop :=
  ∀ i, i < zs.length → ∃ b off, ao = some ⟨b, off, none⟩ ∧ w.cell? ⟨b, off + i, none⟩ = some (.int .u8 (zs.getD i 0))

theorem Rd.at {w : World} {ao : Option Addr} {zs : List Int} (h : Rd w ao zs) (h0 : 0 < zs.length) :
    ∃ b off, ao = some ⟨b, off, none⟩ ∧ b < w.heap.size ∧ ∀ i, i < zs.length → w.cell? ⟨b, off + i, none⟩ = some (.int .u8 (zs.getD i 0)) := by
  obtain ⟨b, off, e, hc⟩ := h 0 h0
  refine ⟨b, off, e, World.block_lt_of_cell? _ _ hc, fun i hi => ?_⟩
  obtain ⟨b', off', e', hc'⟩ := h i hi
  rw [e] at e'
  simp only [Option.some.injEq, Addr.mk.injEq, and_true] at e'
  obtain ⟨rfl, rfl⟩ := e'
  exact hc'

theorem Rd.below {w w' : World} {ao : Option Addr} {zs : List Int} (h : Rd w ao zs) (hb : Below w.heap.size w w') : Rd w' ao zs := by
  intro i hi
  obtain ⟨b, off, e, hc⟩ := h i hi
  exact ⟨b, off, e, (hb.cell (p := ⟨b, off + i, none⟩) (World.block_lt_of_cell? _ _ hc)).trans hc⟩

theorem Rd.belowB {w w' : World} {B g off : Nat} {zs : List Int} (h : Rd w (some ⟨g, off, none⟩) zs) (hb : Below B w w') (hg : g < B) : Rd w' (some ⟨g, off, none⟩) zs := by
  intro i hi
  obtain ⟨b, off, e, hc⟩ := h i hi
  simp only [Option.some.injEq, Addr.mk.injEq, and_true] at e
  obtain ⟨rfl, rfl⟩ := e
  exact ⟨_, _, rfl, (hb.cell (p := ⟨_, _ + i, none⟩) hg).trans hc⟩

theorem Rd.own {w : World} {base g cap : Nat} {E : TypeId} {zs : List Int} (h : w.ownsRow base E 1 (.slice (some ⟨g, 0, none⟩) zs.length cap) zs.length (bcells zs)) : Rd w (some ⟨g, 0, none⟩) zs := by
  intro i hi
  refine ⟨g, 0, rfl, ?_⟩
  rw [Nat.zero_add, h.cellAt i (by omega), bcells, List.getElem?_map, List.getElem?_eq_getElem hi]
  simp [List.getD_eq_getElem?_getD, List.getElem?_eq_getElem hi]

theorem bcells_length (zs : List Int) : (bcells zs).length = zs.length := by simp [bcells]

/-- A row whose every cell is the list's. -/
theorem bcells_of {xs : List Value} {zs : List Int} (hl : xs.length = zs.length) (h : ∀ j, j < zs.length → xs[j]? = some (.int .u8 (zs.getD j 0))) : xs = bcells zs := by
  apply List.ext_getElem?
  intro j
  by_cases hj : j < zs.length
  · rw [h j hj, bcells, List.getElem?_map, List.getElem?_eq_getElem hj]
    simp [List.getD_eq_getElem?_getD, List.getElem?_eq_getElem hj]
  · rw [List.getElem?_eq_none (by omega), List.getElem?_eq_none (by rw [bcells_length]; omega)]

theorem Bts.drop {zs : List Int} (h : Bts zs) (k : Nat) : Bts (zs.drop k) := by
  intro i
  have := h (k + i)
  simpa [List.getD_eq_getElem?_getD, List.getElem?_drop] using this

theorem drop_cons {zs : List Int} {k : Nat} (h : k < zs.length) : zs.drop k = zs.getD k 0 :: zs.drop (k + 1) := by
  rw [List.drop_eq_getElem_cons h]
  simp [List.getD_eq_getElem?_getD, List.getElem?_eq_getElem h]

/-- What is told of a slice of bytes that came in: nil, or a row of 'cap' cells that fit. -/
def IsRow (k : IntKind) (w : World) (a : Option Addr) (len cap : Nat) (zs : List Int) : Prop :=
  (a = none ∧ len = 0 ∧ cap = 0 ∧ zs = []) ∨
  ∃ x, a = some x ∧ len ≤ cap ∧ cap ≤ maxLen ∧ zs.length = cap ∧ (∀ i, i < zs.length → w.cell? (x.add i) = some (.int k (zs.getD i 0))) ∧ ∀ n ∈ zs, (Lit.int k n).wf = true

theorem isRow_rd {w : World} {a : Option Addr} {len cap : Nat} {zs : List Int} (h : IsRow .u8 w a len cap zs) :
    ∃ ys : List Int, ys.length = len ∧ Rd w a ys ∧ Bts ys := by
  rcases h with ⟨rfl, rfl, rfl, rfl⟩ | ⟨x, rfl, hl, hm, hz, hcell, hwz⟩
  · exact ⟨[], rfl, fun i hi => absurd hi (by simp), fun i => by simp⟩
  · refine ⟨zs.take len, by rw [List.length_take]; omega, ?_, ?_⟩
    · intro i hi
      rw [List.length_take] at hi
      obtain ⟨b, off, spot⟩ := x
      have hs : spot = none := by simpa [Addr.add] using World.cell?_spot (hcell 0 (by omega))
      subst hs
      refine ⟨b, off, rfl, ?_⟩
      have hc := hcell i (by omega)
      have e : (zs.take len).getD i 0 = zs.getD i 0 := by
        simp [List.getD_eq_getElem?_getD, show i < len by omega]
      rw [e, ← hc]
      unfold Addr.add
      split
      · rename_i h0; rw [h0, Nat.add_zero]
      · rfl
    · intro i
      by_cases hi : i < (zs.take len).length
      · have hmem : (zs.take len).getD i 0 ∈ zs := by
          rw [List.getD_eq_getElem?_getD, List.getElem?_eq_getElem hi]
          exact List.mem_of_mem_take (List.getElem_mem hi)
        have := bounds_u8 (hwz _ hmem)
        omega
      · rw [List.getD_eq_getElem?_getD, List.getElem?_eq_none (by omega)]
        simp
end Go.Proofs.YteagakplhfiodaaDoor.bts
