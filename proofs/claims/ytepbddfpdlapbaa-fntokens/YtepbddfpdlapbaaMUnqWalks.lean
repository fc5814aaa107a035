import Derived.Test.YtepbddfpdlapbaaMSpecLitA
namespace Go.Proofs.Ytepbddfpdlapbaa.lit
open Go.RowKit Go.Proofs.Ytepbddfpdlapbaa.bts Go.Proofs.Ytepbddfpdlapbaa.scn
def LitPost (zs : List Int) (k : Nat) (w : World) (x : Ending) (w' : World) : Prop := Below w.heap.size w w' ∧
      ((litAt zs k = none ∧ x = .returned (.tuple #[.slice none 0 0, .int .i64 0])) ∨
       ∃ t e ao c, litAt zs k = some (t, e) ∧ x = .returned (.tuple #[.slice ao t.length c, .int .i64 ((e : Int) - (k : Int))]) ∧ OwnT w' w.heap.size ao c t)
theorem specLit_short (ao : Option Addr) (n cap k : Nat) (w : World) (h : n ≤ k) (_hn : n ≤ 1073741824) (_hk : k ≤ 1073741824) :
    Calls Try.prog 32 #[.slice ao n cap, .int .i64 k] w fun x w' => x = .returned (.tuple #[.slice none 0 0, .int .i64 0]) ∧ w' = w := by
  go_enter Try.func32, Try.ntmps32
  go_wp2
  go_ret2
  exact ⟨rfl, rfl⟩
theorem specLit_not (b off n cap k : Nat) (z : Int) (w : World) (h : k < n) (_hn : n ≤ 1073741824) (hc : w.cell? ⟨b, off + k, none⟩ = some (.int .u8 z)) (h1 : (z != 34) = true) (h2 : (z != 39) = true) :
    Calls Try.prog 32 #[.slice (some ⟨b, off, none⟩) n cap, .int .i64 k] w fun x w' => x = .returned (.tuple #[.slice none 0 0, .int .i64 0]) ∧ w' = w := by
  have h3 : ¬ z = 34 := by simpa using h1
  have h4 : ¬ z = 39 := by simpa using h2
  go_enter Try.func32, Try.ntmps32
  go_wp2
  go_ret2
  exact ⟨rfl, rfl⟩
theorem lit_none {zs : List Int} {k : Nat} (h : ¬ (k < zs.length ∧ (zs.getD k 0 = 34 ∨ zs.getD k 0 = 39))) : litAt zs k = none := by unfold litAt; rw [if_neg h]
theorem specLit_any (g cap k : Nat) (zs : List Int) (w : World) (hb : Bts zs) (hr : Rd w (some ⟨g, 0, none⟩) zs) (hm : zs.length ≤ 1048576) (hk : k ≤ 1048576) :
    Calls Try.prog 32 #[.slice (some ⟨g, 0, none⟩) zs.length cap, .int .i64 k] w (LitPost zs k w) := by
  by_cases h : k < zs.length
  · obtain ⟨b, off, e, hbw, hcell⟩ := hr.at (by omega)
    simp only [Option.some.injEq, Addr.mk.injEq, and_true] at e
    obtain ⟨rfl, rfl⟩ := e
    by_cases hq : zs.getD k 0 = 34 ∨ zs.getD k 0 = 39
    · exact specLit_q _ _ cap k zs w hb hcell hbw (by omega) h hq
    have q1 : ¬ zs.getD k 0 = 34 := fun e => hq (.inl e)
    have q2 : ¬ zs.getD k 0 = 39 := fun e => hq (.inr e)
    refine (specLit_not _ _ _ cap k (zs.getD k 0) w h (by omega) (hcell k h) (bne_iff_ne.mpr q1) (bne_iff_ne.mpr q2)).mono ?_
    rintro x w' ⟨rfl, rfl⟩
    exact ⟨Below.refl _ _, .inl ⟨lit_none (by omega), rfl⟩⟩
  · refine (specLit_short _ _ cap k w (by omega) (by omega) (by omega)).mono ?_
    rintro x w' ⟨rfl, rfl⟩
    exact ⟨Below.refl _ _, .inl ⟨lit_none (by omega), rfl⟩⟩
theorem own_belowT {w w' : World} {base : Nat} {e : TypeId} {size B cap : Nat} {ao : Option Addr} {n : Nat} {xs : List Value} (h : w.ownsRow base e size (.slice ao n cap) n xs) (hb : Below B w w') (hg : ∀ g, (Value.slice ao n cap).ownBlock = some g → g < B) : w'.ownsRow base e size (.slice ao n cap) n xs := by
  obtain ⟨h1, h2⟩ := h
  refine ⟨h1, ?_⟩
  rcases h2 with h | ⟨g', cap', cur, h, hb', hh, r⟩
  · exact .inl h
  · exact .inr ⟨g', cap', cur, h, hb', (hb.block _ (hg g' (by rw [h]; rfl))).trans hh, r⟩
end Go.Proofs.Ytepbddfpdlapbaa.lit
