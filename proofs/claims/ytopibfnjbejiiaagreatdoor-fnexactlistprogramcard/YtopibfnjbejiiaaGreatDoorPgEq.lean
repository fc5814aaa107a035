import Derived.Test.YtopibfnjbejiiaaGreatDoorPgToB
import Derived.Deep.RegionHeld3
import Derived.Handy
namespace Go.Proofs.YtopibfnjbejiiaaGreatDoor.pg
open Go.RowKit Go.Proofs.YtopibfnjbejiiaaGreatDoor.bts

set_option maxRecDepth 100000 in
set_option maxHeartbeats 1000000 in
theorem toProgram_any (uk up : Value) (p : Pg) (w : World) (hk : RdKV w uk p.consts) (hp : RdPV w up p.protos) (hs : sizePg p ≤ 1048576) :
    Calls Tryz.prog 6 #[.agg #[uk, up]] w fun e w' => ∃ uk' up', e = .returned (.agg #[uk', up']) ∧ OwK w' w.heap.size uk' p.consts ∧ OwP w' w.heap.size up' p.protos ∧ Below w.heap.size w w' := by
  have hs1 : sizeK p.consts ≤ 1048576 := by unfold sizePg at hs; omega
  have hs2 : sizeP p.protos ≤ 1048576 := by unfold sizePg at hs; omega
  have CT : Hid (∀ W, Below w.heap.size w W → Calls Tryz.prog 18 #[uk] W fun e w' => e = .returned (.slice (some ⟨W.heap.size, 0, none⟩) p.consts.length p.consts.length) ∧ OwK w' W.heap.size (.slice (some ⟨W.heap.size, 0, none⟩) p.consts.length p.consts.length) p.consts ∧ Below W.heap.size W w') :=
    fun W hW => toConstS_any uk p.consts W (hk.below hW) hs1
  have CN : Hid (∀ W, Below w.heap.size w W → Calls Tryz.prog 19 #[up] W fun e w' => e = .returned (.slice (some ⟨W.heap.size, 0, none⟩) p.protos.length p.protos.length) ∧ OwP w' W.heap.size (.slice (some ⟨W.heap.size, 0, none⟩) p.protos.length p.protos.length) p.protos ∧ Below W.heap.size W w') :=
    fun W hW => toProtoS_any up p.protos W (hp.below hW) hs2
  obtain ⟨cl, hcl⟩ : ∃ cl, cl = p.consts.length := ⟨_, rfl⟩
  obtain ⟨dl, hdl⟩ : ∃ dl, dl = p.protos.length := ⟨_, rfl⟩
  rw [← hcl] at CT
  rw [← hdl] at CN
  obtain ⟨ao, cap, rfl, _, _⟩ := hk
  obtain ⟨bo, cap', rfl, _, _⟩ := hp
  rw [← hcl] at CT ⊢
  rw [← hdl] at CN ⊢
  clear hs hcl hdl hs1 hs2
  go_enter Tryz.func6, Tryz.ntmps6
  go_wp2_with fail
  refine (CT.out _ (by go_grown)).mono ?_
  rintro e w1 ⟨rfl, ho1, hb1⟩
  simp only [World.size_alloc] at ho1 hb1 ⊢
  have HW1 : Hid (Below w.heap.size w w1) := Below.trans (by go_grown) (hb1.mono (by omega))
  have L0 : Hid (Lone 32 2 w1 (w.heap.size + 1 + 1) [.slice none 0 0, .slice none 0 0]) := by
    refine Lone.of ((hb1.block _ (by omega)).trans ?_) rfl
    have := heap_alloc_new ((w.alloc (Obj.cells #[.slice ao cl cap, .slice bo dl cap'] 25)).alloc (Obj.cells #[Value.slice none 0 0, Value.slice none 0 0] 32)) (Obj.cells #[Value.slice none 0 0, Value.slice none 0 0] 32)
    simpa only [World.size_alloc] using this
  have M0 : Hid (Lone 32 2 w1 (w.heap.size + 1) [.slice none 0 0, .slice none 0 0]) := by
    refine Lone.of ((hb1.block _ (by omega)).trans ?_) rfl
    rw [heap_alloc_old _ _ (by simp only [World.size_alloc]; omega)]
    have := heap_alloc_new (w.alloc (Obj.cells #[.slice ao cl cap, .slice bo dl cap'] 25)) (Obj.cells #[Value.slice none 0 0, Value.slice none 0 0] 32)
    simpa only [World.size_alloc] using this
  have A0 : w1.heap[w.heap.size]? = some (Obj.cells #[.slice ao cl cap, .slice bo dl cap'] 25) := by
    rw [hb1.block _ (by omega), heap_alloc_old _ _ (by simp only [World.size_alloc]; omega), heap_alloc_old _ _ (by simp only [World.size_alloc]; omega)]
    exact heap_alloc_new _ _
  have a3 : w1.cell? ⟨w.heap.size, 1, none⟩ = some (.slice bo dl cap') := by simp only [World.cell?, A0]; rfl
  have hf2 := L0.out.free 0
  have hc2 := L0.out.at (j := 0) (by omega)
  have HO1 : Hid _ := ho1
  have HS1 : Hid (w.heap.size + 1 + 1 + 1 ≤ w1.heap.size) := by have := hb1.size; simp only [World.size_alloc] at this; exact this
  clear ho1 hb1 A0
  go_wp2_with fail
  refine (CN.out _ (HW1.out.setCell (p := ⟨w.heap.size + 1 + 1, 0, none⟩) (by show _ ≤ w.heap.size + 1 + 1; omega) _)).mono ?_
  rintro e w2 ⟨rfl, ho2, hb2⟩
  simp only [World.size_setCell] at ho2 hb2 ⊢
  have HB2 : Hid (Below w1.heap.size (w1.setCell ⟨w.heap.size + 1 + 1, 0, none⟩ (.slice (some ⟨w.heap.size + 1 + 1 + 1, 0, none⟩) cl cl)) w2) := hb2
  have hs2 := HB2.out.size
  simp only [World.size_setCell] at hs2
  have HW2 : Hid (Below w.heap.size w w2) := (HW1.out.setCell (p := ⟨w.heap.size + 1 + 1, 0, none⟩) (by show _ ≤ w.heap.size + 1 + 1; omega) _).trans (HB2.out.mono HW1.out.size)
  have L1 : Hid (Lone 32 2 w2 (w.heap.size + 1 + 1) [.slice (some ⟨w.heap.size + 1 + 1 + 1, 0, none⟩) cl cl, .slice none 0 0]) :=
    Lone.below (L0.out.set 0 (.slice (some ⟨w.heap.size + 1 + 1 + 1, 0, none⟩) cl cl)) HB2.out (by have := HS1.out; omega)
  have M1 : Hid (Lone 32 2 w2 (w.heap.size + 1) [.slice none 0 0, .slice none 0 0]) :=
    Lone.below (M0.out.other (by omega)) HB2.out (by have := HS1.out; omega)
  have HT2 : Hid (OwK w2 (w.heap.size + 1 + 1 + 1) (.slice (some ⟨w.heap.size + 1 + 1 + 1, 0, none⟩) cl cl) p.consts) :=
    OwK.below (OwK.store HO1.out (by omega)) HB2.out (by simp only [World.size_setCell]; exact Nat.le_refl _)
  have HN2 : Hid (OwP w2 (w.heap.size + 1 + 1 + 1) (.slice (some ⟨w1.heap.size, 0, none⟩) dl dl) p.protos) := ho2.weaken HS1.out
  have hf3 := L1.out.free 1
  have c0 := L1.out.at (j := 0) (by omega)
  have c1 := L1.out.at (j := 1) (by omega)
  have g0 := M1.out.free 0
  have g1 := M1.out.free 1
  have m0 := M1.out.at (j := 0) (by omega)
  have m1 := M1.out.at (j := 1) (by omega)
  simp only [List.getElem?_cons_zero, List.getElem?_cons_succ] at c0 c1 m0 m1
  clear ho2 hb2 hs2 a3 hf2 hc2
  generalize w1.heap.size = s1 at HN2 ⊢
  clear HB2 L0 M0 HO1 HS1 HW1
  go_wp2_with fail
  have MG := ((M1.out.other (b := w.heap.size + 1 + 1) (o := 1) (u := .slice (some ⟨s1, 0, none⟩) dl dl) (by omega)).set 0 (.slice (some ⟨w.heap.size + 1 + 1 + 1, 0, none⟩) cl cl)).set 1 (.slice (some ⟨s1, 0, none⟩) dl dl)
  refine bodyPost_ret (results_cell_row Tryz.results6 _ _ (w.heap.size + 1) 32 _ _ _ rfl (Lone.back MG) Tryz.underlying32 rfl rfl) rfl ?_
  refine ⟨_, _, rfl, ?_, ?_, ?_⟩
  · exact OwK.weaken (B := w.heap.size + 1 + 1 + 1) (OwK.store (OwK.store (OwK.store HT2.out (by omega)) (by omega)) (by omega)) (by omega)
  · exact OwP.weaken (B := w.heap.size + 1 + 1 + 1) (OwP.store (OwP.store (OwP.store HN2.out (by omega)) (by omega)) (by omega)) (by omega)
  · have P1 : w.heap.size ≤ w.heap.size + 1 + 1 := by omega
    have P2 : w.heap.size ≤ w.heap.size + 1 := by omega
    exact ((HW2.out.setCell (p := ⟨w.heap.size + 1 + 1, 1, none⟩) P1 _).setCell (p := ⟨w.heap.size + 1, 0, none⟩) P2 _).setCell (p := ⟨w.heap.size + 1, 1, none⟩) P2 _

theorem bel_drewN {B : Nat} {a w : World} (h : Below B a w) (m : Nat) : Below B a (w.drewN m) := h.trans ⟨rfl, rfl, rfl, Nat.le_refl _, fun _ _ => rfl⟩

set_option maxRecDepth 100000 in
set_option maxHeartbeats 1000000 in
theorem eqIns_same (d : In) (w : World) :
    Calls Tryz.prog 88 #[.agg #[.int .i64 d.op, .int .i64 d.a, .int .i64 d.b], .agg #[.int .i64 d.op, .int .i64 d.a, .int .i64 d.b]] w fun e w' => e = .returned (.bool true) ∧ Below w.heap.size w w' := by
  obtain ⟨x, y, z⟩ := d
  go_enter Tryz.func88, Tryz.ntmps88
  go_wp2
  go_returns
  exact ⟨rfl, by go_grown⟩

set_option maxRecDepth 100000 in
set_option maxHeartbeats 1000000 in
theorem eqCapture_same (d : Cp) (w : World) :
    Calls Tryz.prog 87 #[.agg #[.bool d.up, .int .i64 d.index], .agg #[.bool d.up, .int .i64 d.index]] w fun e w' => e = .returned (.bool true) ∧ Below w.heap.size w w' := by
  obtain ⟨x, y⟩ := d
  cases x
  all_goals
    go_enter Tryz.func87, Tryz.ntmps87
    go_wp2
    go_returns
    exact ⟨rfl, by go_grown⟩

set_option maxRecDepth 100000 in
set_option maxHeartbeats 2000000 in
theorem eqInsS_same (v v' : Value) (l : List In) (w : World) (hr : RdIV w v l) (hr' : RdIV w v' l) (hz : l.length ≤ 1048576) :
    Calls Tryz.prog 75 #[v, v'] w fun e w' => e = .returned (.bool true) ∧ Below w.heap.size w w' := by
  have hn0 : l.length ≤ 1048576 := hz
  obtain ⟨ao, cap, rfl, _, hr⟩ := hr
  obtain ⟨bo, cap', rfl, _, hr'⟩ := hr'
  obtain ⟨n, hnn⟩ : ∃ n, n = l.length := ⟨_, rfl⟩
  have HL : Hid (l.length = n) := hnn.symm
  have hn1 : n ≤ 1048576 := by rw [hnn]; exact hn0
  have HR : Hid (RdI w ao l) := hr
  have HR' : Hid (RdI w bo l) := hr'
  rw [← hnn]
  clear hr hr' hz hnn hn0
  go_enter Tryz.func75, Tryz.ntmps75
  go_wp2
  go_loopw [5] (fun i wr => ∃ (k : Nat), k ≤ n ∧ i = .int .i64 k ∧ Below w.heap.size w wr) (fun i _ => n - (intOf i).toNat)
  case atStart => exact ⟨0, Nat.zero_le _, rfl, Below.refl _ _⟩
  case round =>
    obtain ⟨k, hk, rfl, hbel⟩ := hrel
    by_cases hlt : k < n
    · obtain ⟨b, off, rfl, c0, c1, c2⟩ := (HR.out.below hbel) k (by rw [HL.out]; exact hlt)
      obtain ⟨b', off', rfl, e0, e1, e2⟩ := (HR'.out.below hbel) k (by rw [HL.out]; exact hlt)
      generalize l.getD k in0 = d at c0 c1 c2 e0 e1 e2
      have C : Hid (∀ W, Below wr.heap.size wr W → Calls Tryz.prog 88 #[.agg #[.int .i64 d.op, .int .i64 d.a, .int .i64 d.b], .agg #[.int .i64 d.op, .int .i64 d.a, .int .i64 d.b]] W fun e w' => e = .returned (.bool true) ∧ Below wr.heap.size wr w') := fun W hW => (eqIns_same d W).mono (fun _ _ ⟨h1, h2⟩ => ⟨h1, hW.trans (h2.mono hW.size)⟩)
      have hlt' : (k : Int) < (n : Int) := by omega
      have HB : Hid (Below w.heap.size w wr) := hbel
      have HC : Hid (∀ W, Below wr.heap.size wr W → W.cell? ⟨b, off + k * 3, none⟩ = some (.int .i64 d.op) ∧ W.cell? ⟨b, off + k * 3 + 1, none⟩ = some (.int .i64 d.a) ∧ W.cell? ⟨b, off + k * 3 + 2, none⟩ = some (.int .i64 d.b) ∧ W.cell? ⟨b', off' + k * 3, none⟩ = some (.int .i64 d.op) ∧ W.cell? ⟨b', off' + k * 3 + 1, none⟩ = some (.int .i64 d.a) ∧ W.cell? ⟨b', off' + k * 3 + 2, none⟩ = some (.int .i64 d.b)) := by
        intro W hW
        exact ⟨cellB c0 hW, cellB c1 hW, cellB c2 hW, cellB e0 hW, cellB e1 hW, cellB e2 hW⟩
      clear hbel
      go_wp2_with fail
      go_region_held3 (fun W => (W.cell? ⟨b, off + k * 3, none⟩ = some (.int .i64 d.op) ∧ W.cell? ⟨b, off + k * 3 + 1, none⟩ = some (.int .i64 d.a) ∧ W.cell? ⟨b, off + k * 3 + 2, none⟩ = some (.int .i64 d.b) ∧ W.cell? ⟨b', off' + k * 3, none⟩ = some (.int .i64 d.op) ∧ W.cell? ⟨b', off' + k * 3 + 1, none⟩ = some (.int .i64 d.a) ∧ W.cell? ⟨b', off' + k * 3 + 2, none⟩ = some (.int .i64 d.b)) ∧ Below wr.heap.size wr W) (refine ⟨?_, ?_⟩ <;> first | (refine HC.out _ ?_; repeat (first | exact Below.refl _ _ | assumption | refine Below.drew ?_ | refine bel_drewN ?_ _)) | (repeat (first | exact Below.refl _ _ | assumption | refine Below.drew ?_ | refine bel_drewN ?_ _)))
        ((go_at_call 88; refine (C.out _ (by repeat (first | exact Below.refl _ _ | assumption | refine Below.drew ?_ | refine bel_drewN ?_ _))).mono ?_; rintro e w' ⟨rfl, hb'⟩))
      go_wp2
      go_roundw
      case rel => exact ⟨k + 1, by omega, by go_num, HB.out.trans (Below.mono (by first | assumption | (repeat (first | exact Below.refl _ _ | assumption | refine Below.drew ?_ | refine bel_drewN ?_ _))) HB.out.size)⟩
      case measure => simp [intOf]; omega
    · have hkn : k = n := by omega
      subst hkn
      go_wp2
      go_ret
      exact ⟨rfl, hbel⟩

set_option maxRecDepth 100000 in
set_option maxHeartbeats 2000000 in
theorem eqCaptureS_same (v v' : Value) (l : List Cp) (w : World) (hr : RdCV w v l) (hr' : RdCV w v' l) (hz : l.length ≤ 1048576) :
    Calls Tryz.prog 74 #[v, v'] w fun e w' => e = .returned (.bool true) ∧ Below w.heap.size w w' := by
  have hn0 : l.length ≤ 1048576 := hz
  obtain ⟨ao, cap, rfl, _, hr⟩ := hr
  obtain ⟨bo, cap', rfl, _, hr'⟩ := hr'
  obtain ⟨n, hnn⟩ : ∃ n, n = l.length := ⟨_, rfl⟩
  have HL : Hid (l.length = n) := hnn.symm
  have hn1 : n ≤ 1048576 := by rw [hnn]; exact hn0
  have HR : Hid (RdC w ao l) := hr
  have HR' : Hid (RdC w bo l) := hr'
  rw [← hnn]
  clear hr hr' hz hnn hn0
  go_enter Tryz.func74, Tryz.ntmps74
  go_wp2
  go_loopw [5] (fun i wr => ∃ (k : Nat), k ≤ n ∧ i = .int .i64 k ∧ Below w.heap.size w wr) (fun i _ => n - (intOf i).toNat)
  case atStart => exact ⟨0, Nat.zero_le _, rfl, Below.refl _ _⟩
  case round =>
    obtain ⟨k, hk, rfl, hbel⟩ := hrel
    by_cases hlt : k < n
    · obtain ⟨b, off, rfl, c0, c1⟩ := (HR.out.below hbel) k (by rw [HL.out]; exact hlt)
      obtain ⟨b', off', rfl, e0, e1⟩ := (HR'.out.below hbel) k (by rw [HL.out]; exact hlt)
      generalize l.getD k cp0 = d at c0 c1 e0 e1
      have C : Hid (∀ W, Below wr.heap.size wr W → Calls Tryz.prog 87 #[.agg #[.bool d.up, .int .i64 d.index], .agg #[.bool d.up, .int .i64 d.index]] W fun e w' => e = .returned (.bool true) ∧ Below wr.heap.size wr w') := fun W hW => (eqCapture_same d W).mono (fun _ _ ⟨h1, h2⟩ => ⟨h1, hW.trans (h2.mono hW.size)⟩)
      have hlt' : (k : Int) < (n : Int) := by omega
      have HB : Hid (Below w.heap.size w wr) := hbel
      have HC : Hid (∀ W, Below wr.heap.size wr W → W.cell? ⟨b, off + k * 2, none⟩ = some (.bool d.up) ∧ W.cell? ⟨b, off + k * 2 + 1, none⟩ = some (.int .i64 d.index) ∧ W.cell? ⟨b', off' + k * 2, none⟩ = some (.bool d.up) ∧ W.cell? ⟨b', off' + k * 2 + 1, none⟩ = some (.int .i64 d.index)) := by
        intro W hW
        exact ⟨cellB c0 hW, cellB c1 hW, cellB e0 hW, cellB e1 hW⟩
      clear hbel
      go_wp2_with fail
      go_region_held3 (fun W => (W.cell? ⟨b, off + k * 2, none⟩ = some (.bool d.up) ∧ W.cell? ⟨b, off + k * 2 + 1, none⟩ = some (.int .i64 d.index) ∧ W.cell? ⟨b', off' + k * 2, none⟩ = some (.bool d.up) ∧ W.cell? ⟨b', off' + k * 2 + 1, none⟩ = some (.int .i64 d.index)) ∧ Below wr.heap.size wr W) (refine ⟨?_, ?_⟩ <;> first | (refine HC.out _ ?_; repeat (first | exact Below.refl _ _ | assumption | refine Below.drew ?_ | refine bel_drewN ?_ _)) | (repeat (first | exact Below.refl _ _ | assumption | refine Below.drew ?_ | refine bel_drewN ?_ _)))
        ((go_at_call 87; refine (C.out _ (by repeat (first | exact Below.refl _ _ | assumption | refine Below.drew ?_ | refine bel_drewN ?_ _))).mono ?_; rintro e w' ⟨rfl, hb'⟩))
      go_wp2
      go_roundw
      case rel => exact ⟨k + 1, by omega, by go_num, HB.out.trans (Below.mono (by first | assumption | (repeat (first | exact Below.refl _ _ | assumption | refine Below.drew ?_ | refine bel_drewN ?_ _))) HB.out.size)⟩
      case measure => simp [intOf]; omega
    · have hkn : k = n := by omega
      subst hkn
      go_wp2
      go_ret
      exact ⟨rfl, hbel⟩
end Go.Proofs.YtopibfnjbejiiaaGreatDoor.pg
