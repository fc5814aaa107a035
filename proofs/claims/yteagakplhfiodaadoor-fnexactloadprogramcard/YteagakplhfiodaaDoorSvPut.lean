import Derived.Test.YteagakplhfiodaaDoorSvApp
import Derived.Test.YteagakplhfiodaaDoorPgMark
namespace Go.Proofs.YteagakplhfiodaaDoor.sv
open Go.RowKit Go.Proofs.YteagakplhfiodaaDoor.bts Go.Proofs.YteagakplhfiodaaDoor.pg Go.Proofs.YteagakplhfiodaaDoor.chk

theorem rdv_rd {w : World} {a : Option Addr} {c : Nat} {zs : List Int} (h : RdV w (.slice a zs.length c) zs) : Rd w a zs := by
  obtain ⟨_, _, e, _, h, _⟩ := h
  simp only [Value.slice.injEq] at e
  obtain ⟨rfl, -, rfl⟩ := e
  exact h
theorem cellL {w w' : World} {g b o : Nat} {v : Value} (h : w.cell? ⟨b, o, none⟩ = some v) (hb : Below g w w') (hg : b < g) : w'.cell? ⟨b, o, none⟩ = some v := (hb.cell (p := ⟨b, o, none⟩) hg).trans h

theorem own_far {w w' : World} {B E c n : Nat} {v : Value} {us : List Value} (h : w.ownsRow B E c v n us) (hk : ∀ b, v.ownBlock = some b → w'.heap[b]? = w.heap[b]?) : w'.ownsRow B E c v n us := by
  obtain ⟨h1, h2⟩ := h
  refine ⟨h1, ?_⟩
  rcases h2 with h | ⟨g', cap', cur, e, hb', hh, r⟩
  · exact .inl h
  · exact .inr ⟨g', cap', cur, e, hb', (hk g' (by rw [e]; rfl)).trans hh, r⟩

theorem rd_one (w : World) (z : Int) : Rd (w.alloc (.cells #[.int .u8 z] 5)) (some ⟨w.heap.size, 0, none⟩) [z] := by
  intro i hi
  obtain rfl : i = 0 := by simpa using hi
  exact ⟨w.heap.size, 0, rfl, cellNew rfl⟩

end Go.Proofs.YteagakplhfiodaaDoor.sv
