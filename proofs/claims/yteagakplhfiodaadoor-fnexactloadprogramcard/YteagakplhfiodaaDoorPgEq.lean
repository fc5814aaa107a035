import Derived.Test.YteagakplhfiodaaDoorPgToB
import Derived.Deep.RegionHeld3
import Derived.Handy
namespace Go.Proofs.YteagakplhfiodaaDoor.pg
open Go.RowKit Go.Proofs.YteagakplhfiodaaDoor.bts

theorem bel_drewN {B : Nat} {a w : World} (h : Below B a w) (m : Nat) : Below B a (w.drewN m) := h.trans ⟨rfl, rfl, rfl, Nat.le_refl _, fun _ _ => rfl⟩

set_option maxRecDepth 100000 in
set_option maxHeartbeats 1000000 in
theorem eqIns_same (d : In) (w : World) :
    Calls Tryd.prog 75 #[.agg #[.int .i64 d.op, .int .i64 d.a, .int .i64 d.b], .agg #[.int .i64 d.op, .int .i64 d.a, .int .i64 d.b]] w fun e w' => e = .returned (.bool true) ∧ Below w.heap.size w w' := by
  obtain ⟨x, y, z⟩ := d
  go_enter Tryd.func75, Tryd.ntmps75
  go_wp2
  go_returns
  exact ⟨rfl, by go_grown⟩

set_option maxRecDepth 100000 in
set_option maxHeartbeats 1000000 in
theorem eqCapture_same (d : Cp) (w : World) :
    Calls Tryd.prog 74 #[.agg #[.bool d.up, .int .i64 d.index], .agg #[.bool d.up, .int .i64 d.index]] w fun e w' => e = .returned (.bool true) ∧ Below w.heap.size w w' := by
  obtain ⟨x, y⟩ := d
  cases x
  all_goals
    go_enter Tryd.func74, Tryd.ntmps74
    go_wp2
    go_returns
    exact ⟨rfl, by go_grown⟩

set_option maxRecDepth 100000 in
set_option maxHeartbeats 2000000 in
theorem eqInsS_same (v v' : Value) (l : List In) (w : World) (hr : RdIV w v l) (hr' : RdIV w v' l) (hz : l.length ≤ 1048576) :
    Calls Tryd.prog 68 #[v, v'] w fun e w' => e = .returned (.bool true) ∧ Below w.heap.size w w' := by
  have hn0 : l.length ≤ 1048576 := hz
  obtain ⟨ao, cap, rfl, _, hr⟩ := hr
  obtain ⟨bo, cap', rfl, _, hr'⟩ := hr'
  obtain ⟨n, hnn⟩ : ∃ n, n = l.length := ⟨_, rfl⟩
  have HL : Hid (l.length = n) := hnn.symm
  have hn1 : n ≤ 1048576 := by rw [hnn]; exact hn0
  have HR : Hid (RdI w ao l) := hr
  have HR' : Hid (RdI w bo l) := hr'
  rw [← hnn]
  clear hr hr' hz hnn hn0
  go_enter Tryd.func68, Tryd.ntmps68
  go_wp2
  go_loopw [5] (fun i wr => ∃ (k : Nat), k ≤ n ∧ i = .int .i64 k ∧ Below w.heap.size w wr) (fun i _ => n - (intOf i).toNat)
  case atStart => exact ⟨0, Nat.zero_le _, rfl, Below.refl _ _⟩
  case round =>
    obtain ⟨k, hk, rfl, hbel⟩ := hrel
    by_cases hlt : k < n
    · obtain ⟨b, off, rfl, c0, c1, c2⟩ := (HR.out.below hbel) k (by rw [HL.out]; exact hlt)
      obtain ⟨b', off', rfl, e0, e1, e2⟩ := (HR'.out.below hbel) k (by rw [HL.out]; exact hlt)
      generalize l.getD k in0 = d at c0 c1 c2 e0 e1 e2
      have C : Hid (∀ W, Below wr.heap.size wr W → Calls Tryd.prog 75 #[.agg #[.int .i64 d.op, .int .i64 d.a, .int .i64 d.b], .agg #[.int .i64 d.op, .int .i64 d.a, .int .i64 d.b]] W fun e w' => e = .returned (.bool true) ∧ Below wr.heap.size wr w') := fun W hW => (eqIns_same d W).mono (fun _ _ ⟨h1, h2⟩ => ⟨h1, hW.trans (h2.mono hW.size)⟩)
      have hlt' : (k : Int) < (n : Int) := by omega
      have HB : Hid (Below w.heap.size w wr) := hbel
      have HC : Hid (∀ W, Below wr.heap.size wr W → W.cell? ⟨b, off + k * 3, none⟩ = some (.int .i64 d.op) ∧ W.cell? ⟨b, off + k * 3 + 1, none⟩ = some (.int .i64 d.a) ∧ W.cell? ⟨b, off + k * 3 + 2, none⟩ = some (.int .i64 d.b) ∧ W.cell? ⟨b', off' + k * 3, none⟩ = some (.int .i64 d.op) ∧ W.cell? ⟨b', off' + k * 3 + 1, none⟩ = some (.int .i64 d.a) ∧ W.cell? ⟨b', off' + k * 3 + 2, none⟩ = some (.int .i64 d.b)) := by
        intro W hW
        exact ⟨cellB c0 hW, cellB c1 hW, cellB c2 hW, cellB e0 hW, cellB e1 hW, cellB e2 hW⟩
      clear hbel
      go_wp2_with fail
      go_region_held3 (fun W => (W.cell? ⟨b, off + k * 3, none⟩ = some (.int .i64 d.op) ∧ W.cell? ⟨b, off + k * 3 + 1, none⟩ = some (.int .i64 d.a) ∧ W.cell? ⟨b, off + k * 3 + 2, none⟩ = some (.int .i64 d.b) ∧ W.cell? ⟨b', off' + k * 3, none⟩ = some (.int .i64 d.op) ∧ W.cell? ⟨b', off' + k * 3 + 1, none⟩ = some (.int .i64 d.a) ∧ W.cell? ⟨b', off' + k * 3 + 2, none⟩ = some (.int .i64 d.b)) ∧ Below wr.heap.size wr W) (refine ⟨?_, ?_⟩ <;> first | (refine HC.out _ ?_; repeat (first | exact Below.refl _ _ | assumption | refine Below.drew ?_ | refine bel_drewN ?_ _)) | (repeat (first | exact Below.refl _ _ | assumption | refine Below.drew ?_ | refine bel_drewN ?_ _)))
        ((go_at_call 75; refine (C.out _ (by repeat (first | exact Below.refl _ _ | assumption | refine Below.drew ?_ | refine bel_drewN ?_ _))).mono ?_; rintro e w' ⟨rfl, hb'⟩))
      go_wp2
      go_roundw
      case rel => exact ⟨k + 1, by omega, by go_num, HB.out.trans (Below.mono (by first | assumption | (repeat (first | exact Below.refl _ _ | assumption | refine Below.drew ?_ | refine bel_drewN ?_ _))) HB.out.size)⟩
      case measure => simp [intOf]; omega
    · have hkn : k = n := by omega
      subst hkn
      go_wp2
      go_ret
      exact ⟨rfl, hbel⟩

set_option maxRecDepth 100000 in
set_option maxHeartbeats 2000000 in
theorem eqCaptureS_same (v v' : Value) (l : List Cp) (w : World) (hr : RdCV w v l) (hr' : RdCV w v' l) (hz : l.length ≤ 1048576) :
    Calls Tryd.prog 67 #[v, v'] w fun e w' => e = .returned (.bool true) ∧ Below w.heap.size w w' := by
  have hn0 : l.length ≤ 1048576 := hz
  obtain ⟨ao, cap, rfl, _, hr⟩ := hr
  obtain ⟨bo, cap', rfl, _, hr'⟩ := hr'
  obtain ⟨n, hnn⟩ : ∃ n, n = l.length := ⟨_, rfl⟩
  have HL : Hid (l.length = n) := hnn.symm
  have hn1 : n ≤ 1048576 := by rw [hnn]; exact hn0
  have HR : Hid (RdC w ao l) := hr
  have HR' : Hid (RdC w bo l) := hr'
  rw [← hnn]
  clear hr hr' hz hnn hn0
  go_enter Tryd.func67, Tryd.ntmps67
  go_wp2
  go_loopw [5] (fun i wr => ∃ (k : Nat), k ≤ n ∧ i = .int .i64 k ∧ Below w.heap.size w wr) (fun i _ => n - (intOf i).toNat)
  case atStart => exact ⟨0, Nat.zero_le _, rfl, Below.refl _ _⟩
  case round =>
    obtain ⟨k, hk, rfl, hbel⟩ := hrel
    by_cases hlt : k < n
    · obtain ⟨b, off, rfl, c0, c1⟩ := (HR.out.below hbel) k (by rw [HL.out]; exact hlt)
      obtain ⟨b', off', rfl, e0, e1⟩ := (HR'.out.below hbel) k (by rw [HL.out]; exact hlt)
      generalize l.getD k cp0 = d at c0 c1 e0 e1
      have C : Hid (∀ W, Below wr.heap.size wr W → Calls Tryd.prog 74 #[.agg #[.bool d.up, .int .i64 d.index], .agg #[.bool d.up, .int .i64 d.index]] W fun e w' => e = .returned (.bool true) ∧ Below wr.heap.size wr w') := fun W hW => (eqCapture_same d W).mono (fun _ _ ⟨h1, h2⟩ => ⟨h1, hW.trans (h2.mono hW.size)⟩)
      have hlt' : (k : Int) < (n : Int) := by omega
      have HB : Hid (Below w.heap.size w wr) := hbel
      have HC : Hid (∀ W, Below wr.heap.size wr W → W.cell? ⟨b, off + k * 2, none⟩ = some (.bool d.up) ∧ W.cell? ⟨b, off + k * 2 + 1, none⟩ = some (.int .i64 d.index) ∧ W.cell? ⟨b', off' + k * 2, none⟩ = some (.bool d.up) ∧ W.cell? ⟨b', off' + k * 2 + 1, none⟩ = some (.int .i64 d.index)) := by
        intro W hW
        exact ⟨cellB c0 hW, cellB c1 hW, cellB e0 hW, cellB e1 hW⟩
      clear hbel
      go_wp2_with fail
      go_region_held3 (fun W => (W.cell? ⟨b, off + k * 2, none⟩ = some (.bool d.up) ∧ W.cell? ⟨b, off + k * 2 + 1, none⟩ = some (.int .i64 d.index) ∧ W.cell? ⟨b', off' + k * 2, none⟩ = some (.bool d.up) ∧ W.cell? ⟨b', off' + k * 2 + 1, none⟩ = some (.int .i64 d.index)) ∧ Below wr.heap.size wr W) (refine ⟨?_, ?_⟩ <;> first | (refine HC.out _ ?_; repeat (first | exact Below.refl _ _ | assumption | refine Below.drew ?_ | refine bel_drewN ?_ _)) | (repeat (first | exact Below.refl _ _ | assumption | refine Below.drew ?_ | refine bel_drewN ?_ _)))
        ((go_at_call 74; refine (C.out _ (by repeat (first | exact Below.refl _ _ | assumption | refine Below.drew ?_ | refine bel_drewN ?_ _))).mono ?_; rintro e w' ⟨rfl, hb'⟩))
      go_wp2
      go_roundw
      case rel => exact ⟨k + 1, by omega, by go_num, HB.out.trans (Below.mono (by first | assumption | (repeat (first | exact Below.refl _ _ | assumption | refine Below.drew ?_ | refine bel_drewN ?_ _))) HB.out.size)⟩
      case measure => simp [intOf]; omega
    · have hkn : k = n := by omega
      subst hkn
      go_wp2
      go_ret
      exact ⟨rfl, hbel⟩
end Go.Proofs.YteagakplhfiodaaDoor.pg
