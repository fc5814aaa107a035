import Derived.Test.YteagakplhfiodaaDoorThPure
import Derived.Test.YteagakplhfiodaaDoorChkRep
import Derived.Test.YteagakplhfiodaaDoorPgMark
import Derived.Deep.AppendLies
import Derived.Deep.LoopGhost
namespace Go.Proofs.YteagakplhfiodaaDoor.th
open Go.RowKit Go.Proofs.YteagakplhfiodaaDoor.bts Go.Proofs.YteagakplhfiodaaDoor.pg Go.Proofs.YteagakplhfiodaaDoor.chk

theorem psd_succ (code : List In) (s m : Nat) : psd code s (m + 1) = psd code s m ++ [it code m s] := by simp [psd, List.range_succ]
theorem psd_len (code : List In) (s m : Nat) : (psd code s m).length = m := by simp [psd]
theorem psd_at {code : List In} {s m j : Nat} (h : j < m) : (nc (psd code s m))[j]? = some (.int .i64 (it code j s : Nat)) := by simp [nc, psd, h]
theorem own_apart {w w' : World} {B E c n : Nat} {v : Value} {us : List Value} (h : w.ownsRow B E c v n us) (hk : ∀ b, v.ownBlock = some b → w'.heap[b]? = w.heap[b]?) : w'.ownsRow B E c v n us := by
  obtain ⟨h1, h2⟩ := h
  refine ⟨h1, ?_⟩
  rcases h2 with h | ⟨g', cap', cur, e, hb', hh, r⟩
  · exact .inl h
  · exact .inr ⟨g', cap', cur, e, hb', (hk g' (by rw [e]; rfl)).trans hh, r⟩

end Go.Proofs.YteagakplhfiodaaDoor.th
