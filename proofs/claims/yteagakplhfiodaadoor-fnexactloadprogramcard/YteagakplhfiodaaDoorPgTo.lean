import Derived.Test.YteagakplhfiodaaDoorPgOwn
namespace Go.Proofs.YteagakplhfiodaaDoor.pg
open Go.RowKit Go.Proofs.YteagakplhfiodaaDoor.bts

theorem heap_old2 {w : World} {o o2 : Obj} {g : Nat} {x : Obj} (hg : g < w.heap.size) (h : w.heap[g]? = some x) : ((w.alloc o).alloc o2).heap[g]? = some x := by
  rw [heap_alloc_old _ _ (by simp only [World.size_alloc]; omega), heap_alloc_old _ _ hg]; exact h

/-- One struct in a block of its own. -/
def Lone (T : TypeId) (c : Nat) (w : World) (g : Nat) (xs : List Value) : Prop := w.ownsRow 0 T c (.slice (some ⟨g, 0, none⟩) 1 1) 1 xs
theorem Lone.of {T : TypeId} {c : Nat} {w : World} {g : Nat} {xs : List Value} (h : w.heap[g]? = some (.cells xs.toArray T (0, 0))) (hc : xs.length = c) : Lone T c w g xs := by
  subst hc
  exact ⟨by omega, .inr ⟨g, 1, _, rfl, Nat.zero_le _, h, by omega, by unfold maxLen; omega, by simp, by simp⟩⟩
theorem Lone.below {T : TypeId} {c : Nat} {w w' : World} {B g : Nat} {xs : List Value} (h : Lone T c w g xs) (hb : Below B w w') (hg : g < B) : Lone T c w' g xs := own_below h hb hg
theorem Lone.set {T : TypeId} {c : Nat} {w : World} {g : Nat} {xs : List Value} (h : Lone T c w g xs) (j : Nat) (u : Value) : Lone T c (w.setCell ⟨g, j, none⟩ u) g (xs.set j u) := (World.ownsRow.stored h j u).1
theorem Lone.at {T : TypeId} {c : Nat} {w : World} {g j : Nat} {xs : List Value} (h : Lone T c w g xs) (hj : j < c) : w.cell? ⟨g, j, none⟩ = xs[j]? := World.ownsRow.cellAt h j (by omega)
theorem Lone.free {T : TypeId} {c : Nat} {w : World} {g : Nat} {xs : List Value} (h : Lone T c w g xs) (j : Nat) : w.frozen? ⟨g, j, none⟩ = false := World.ownsRow.frozenAt h j
theorem Lone.other {T : TypeId} {c : Nat} {w : World} {g b o : Nat} {u : Value} {xs : List Value} (h : Lone T c w g xs) (hb : ¬ b = g) : Lone T c (w.setCell ⟨b, o, none⟩ u) g xs := by
  obtain ⟨h1, h2⟩ := h
  refine ⟨h1, ?_⟩
  rcases h2 with h | ⟨g', c, cur, e', hb', hh, r⟩
  · exact .inl h
  · have e : g' = g := by simp at e'; exact e'.1.symm
    subst e
    exact .inr ⟨g', c, cur, e', hb', (Below.heap_setCell w ⟨b, o, none⟩ u g' (fun e => hb e.symm)).trans hh, r⟩
theorem Lone.back {T : TypeId} {c : Nat} {w : World} {g : Nat} {xs : List Value} (h : Lone T c w g xs) : w.heap[g]? = some (.cells xs.toArray T (0, 0)) := by
  have hl := h.1
  rcases h.2 with ⟨h, _⟩ | ⟨g', cap, cur, e', _, hh, _, _, hs, ht⟩
  · simp at h
  · simp only [Value.slice.injEq, Option.some.injEq, Addr.mk.injEq, and_true] at e'
    obtain ⟨rfl, _, rfl⟩ := e'
    have hc : cur = xs.toArray := by
      apply Array.toList_inj.mp
      rw [List.take_of_length_le (by rw [Array.length_toList]; omega)] at ht
      simpa using ht
    rw [hh, hc]

end Go.Proofs.YteagakplhfiodaaDoor.pg
