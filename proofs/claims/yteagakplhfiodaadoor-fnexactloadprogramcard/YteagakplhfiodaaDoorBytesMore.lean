import Derived.Test.YteagakplhfiodaaDoorBytesWalks
namespace Go.Proofs.YteagakplhfiodaaDoor.bts
open Go.RowKit

/-- No block has turned. -/
def Same (w w' : World) : Prop := w'.heap = w.heap ∧ ∀ B, Below B w w'

theorem same_drewN (w : World) (m : Nat) : Same w (w.drewN m) := ⟨rfl, fun _ => ⟨rfl, rfl, rfl, Nat.le_refl _, fun _ _ => rfl⟩⟩

theorem own_heap {w w' : World} {base : Nat} {e : TypeId} {size : Nat} {v : Value} {n : Nat} {xs : List Value} (h : w.ownsRow base e size v n xs) (he : Same w w') : w'.ownsRow base e size v n xs := by
  obtain ⟨h1, h2⟩ := h
  refine ⟨h1, ?_⟩
  rw [he.1]; exact h2

theorem own_below {w w' : World} {base : Nat} {e : TypeId} {size B g cap : Nat} {n : Nat} {xs : List Value} (h : w.ownsRow base e size (.slice (some ⟨g, 0, none⟩) n cap) n xs) (hb : Below B w w') (hg : g < B) : w'.ownsRow base e size (.slice (some ⟨g, 0, none⟩) n cap) n xs := by
  obtain ⟨h1, h2⟩ := h
  refine ⟨h1, ?_⟩
  rcases h2 with ⟨h, _⟩ | ⟨g', cap', cur, h, hb', hh, r⟩
  · simp at h
  · have e : g' = g := by simp at h; exact h.1.symm
    subst e
    exact .inr ⟨g', cap', cur, h, hb', (hb.block _ hg).trans hh, r⟩

theorem Rd.heap {w w' : World} {ao : Option Addr} {zs : List Int} (h : Rd w ao zs) (he : Same w w') : Rd w' ao zs := by
  intro i hi
  obtain ⟨b, off, e, hc⟩ := h i hi
  exact ⟨b, off, e, (World.cell?_of_block (by rw [he.1])).trans hc⟩

theorem Rd.owned {w : World} {base g cap n : Nat} {E : TypeId} {zs : List Int} (h : w.ownsRow base E 1 (.slice (some ⟨g, 0, none⟩) n cap) n (bcells zs)) (e : zs.length = n) : Rd w (some ⟨g, 0, none⟩) zs := by
  subst e; exact Rd.own h

/-- The comparison of two slices that read alike, its world a letter. -/
theorem eqByteS_at (ao bo : Option Addr) (n cap cap' : Nat) (zs : List Int) (w : World) (hl : zs.length = n) (hr : Rd w ao zs) (hs : Rd w bo zs) (hn : n ≤ 140737488355328) :
    Calls Tryd.prog 8 #[.slice ao n cap, .slice bo n cap'] w fun e w' => e = .returned (.bool true) ∧ Same w w' := by
  subst hl
  refine (eqByteS_same ao bo cap cap' zs w hr hs hn).mono ?_
  rintro e w' ⟨h, m, rfl⟩
  exact ⟨h, same_drewN w m⟩
end Go.Proofs.YteagakplhfiodaaDoor.bts
