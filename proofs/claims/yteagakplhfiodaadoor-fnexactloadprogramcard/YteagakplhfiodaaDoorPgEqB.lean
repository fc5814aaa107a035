import Derived.Test.YteagakplhfiodaaDoorPgEq
namespace Go.Proofs.YteagakplhfiodaaDoor.pg
open Go.RowKit Go.Proofs.YteagakplhfiodaaDoor.bts

theorem cellOld {w : World} {o : Obj} {b j : Nat} {v : Value} (h : w.cell? ⟨b, j, none⟩ = some v) : (w.alloc o).cell? ⟨b, j, none⟩ = some v :=
  cellB h ((Below.refl _ _).alloc (Nat.le_refl _) _)

set_option maxRecDepth 100000 in
set_option maxHeartbeats 1000000 in
theorem eqConst_same (k : Bool) (n : Int) (ut ut' : Value) (t : List Int) (w : World) (ht : RdV w ut t) (ht' : RdV w ut' t) (hs : t.length ≤ 1048576) :
    Calls Tryd.prog 40 #[.agg #[.bool k, .int .i64 n, ut], .agg #[.bool k, .int .i64 n, ut']] w fun e w' => e = .returned (.bool true) ∧ Below w.heap.size w w' := by
  obtain ⟨ao, cap, rfl, _, hr, _⟩ := ht
  obtain ⟨ao', cap', rfl, _, hr', _⟩ := ht'
  have CT : Hid (∀ W, Below w.heap.size w W → Calls Tryd.prog 8 #[.slice ao t.length cap, .slice ao' t.length cap'] W fun e w' => e = .returned (.bool true) ∧ ∃ d, w' = W.drewN d) :=
    fun W hW => eqByteS_same ao ao' cap cap' t W (hr.below hW) (hr'.below hW) (by omega)
  clear hr hr' hs
  cases k
  all_goals
    go_enter Tryd.func40, Tryd.ntmps40
    go_wp2_with fail
    refine (CT.out _ (by go_grown)).mono ?_
    rintro e w1 ⟨rfl, d, rfl⟩
    go_wp2
    go_ret
    exact ⟨rfl, bel_drewN (by go_grown) _⟩

set_option maxRecDepth 100000 in
set_option maxHeartbeats 2000000 in
theorem eqConstS_same (v v' : Value) (l : List Cn) (w : World) (hr : RdKV w v l) (hr' : RdKV w v' l) (hz : sizeK l ≤ 1048576) :
    Calls Tryd.prog 19 #[v, v'] w fun e w' => e = .returned (.bool true) ∧ Below w.heap.size w w' := by
  have HS : Hid (∀ i, i < l.length → (l.getD i cn0).text.length ≤ 1048576) := by
    intro i hi
    have h1 : sizeCn (l.getD i cn0) ≤ _ := sumsF_at (f := sizeCn) cn0 hi
    unfold sizeK at hz
    have h3 : sizeCn (l.getD i cn0) = (l.getD i cn0).text.length := rfl
    omega
  have hn0 : l.length ≤ 1048576 := by unfold sizeK at hz; omega
  obtain ⟨ao, cap, rfl, _, hr⟩ := hr
  obtain ⟨bo, cap', rfl, _, hr'⟩ := hr'
  obtain ⟨n, hnn⟩ : ∃ n, n = l.length := ⟨_, rfl⟩
  have HL : Hid (l.length = n) := hnn.symm
  have hn1 : n ≤ 1048576 := by rw [hnn]; exact hn0
  have HR : Hid (RdK w ao l) := hr
  have HR' : Hid (RdK w bo l) := hr'
  rw [← hnn]
  clear hr hr' hz hnn hn0
  go_enter Tryd.func19, Tryd.ntmps19
  go_wp2
  go_loopw [5] (fun i wr => ∃ (k : Nat), k ≤ n ∧ i = .int .i64 k ∧ Below w.heap.size w wr) (fun i _ => n - (intOf i).toNat)
  case atStart => exact ⟨0, Nat.zero_le _, rfl, Below.refl _ _⟩
  case round =>
    obtain ⟨k, hk, rfl, hbel⟩ := hrel
    by_cases hlt : k < n
    · obtain ⟨b, off, ut, rfl, c0, c1, c2, hut⟩ := (HR.out.below hbel) k (by rw [HL.out]; exact hlt)
      obtain ⟨b', off', ut', rfl, e0, e1, e2, hut'⟩ := (HR'.out.below hbel) k (by rw [HL.out]; exact hlt)
      have hsz := HS.out k (by rw [HL.out]; exact hlt)
      generalize l.getD k cn0 = d at c0 c1 hut e0 e1 hut' hsz
      obtain ⟨kb, nn, tx⟩ := d
      simp only at c0 c1 hut e0 e1 hut' hsz
      have C : Hid (∀ W, Below wr.heap.size wr W → Calls Tryd.prog 40 #[.agg #[.bool kb, .int .i64 nn, ut], .agg #[.bool kb, .int .i64 nn, ut']] W fun e w' => e = .returned (.bool true) ∧ Below wr.heap.size wr w') := fun W hW => (eqConst_same kb nn ut ut' tx W (hut.below hW) (hut'.below hW) hsz).mono (fun _ _ ⟨h1, h2⟩ => ⟨h1, hW.trans (h2.mono hW.size)⟩)
      clear hsz
      have hlt' : (k : Int) < (n : Int) := by omega
      have HB : Hid (Below w.heap.size w wr) := hbel
      have HC : Hid (∀ W, Below wr.heap.size wr W → W.cell? ⟨b, off + k * 3, none⟩ = some (.bool kb) ∧ W.cell? ⟨b, off + k * 3 + 1, none⟩ = some (.int .i64 nn) ∧ W.cell? ⟨b, off + k * 3 + 2, none⟩ = some ut ∧ W.cell? ⟨b', off' + k * 3, none⟩ = some (.bool kb) ∧ W.cell? ⟨b', off' + k * 3 + 1, none⟩ = some (.int .i64 nn) ∧ W.cell? ⟨b', off' + k * 3 + 2, none⟩ = some ut') := by
        intro W hW
        exact ⟨cellB c0 hW, cellB c1 hW, cellB c2 hW, cellB e0 hW, cellB e1 hW, cellB e2 hW⟩
      clear hut hut' hbel
      go_wp2_with fail
      go_region_held3 (fun W => (W.cell? ⟨b, off + k * 3, none⟩ = some (.bool kb) ∧ W.cell? ⟨b, off + k * 3 + 1, none⟩ = some (.int .i64 nn) ∧ W.cell? ⟨b, off + k * 3 + 2, none⟩ = some ut ∧ W.cell? ⟨b', off' + k * 3, none⟩ = some (.bool kb) ∧ W.cell? ⟨b', off' + k * 3 + 1, none⟩ = some (.int .i64 nn) ∧ W.cell? ⟨b', off' + k * 3 + 2, none⟩ = some ut') ∧ Below wr.heap.size wr W) (refine ⟨?_, ?_⟩ <;> first | (refine HC.out _ ?_; repeat (first | exact Below.refl _ _ | assumption | refine Below.drew ?_ | refine bel_drewN ?_ _)) | (repeat (first | exact Below.refl _ _ | assumption | refine Below.drew ?_ | refine bel_drewN ?_ _)))
        ((go_at_call 40; refine (C.out _ (by repeat (first | exact Below.refl _ _ | assumption | refine Below.drew ?_ | refine bel_drewN ?_ _))).mono ?_; rintro e w' ⟨rfl, hb'⟩))
      go_wp2
      go_roundw
      case rel => exact ⟨k + 1, by omega, by go_num, HB.out.trans (Below.mono (by first | assumption | (repeat (first | exact Below.refl _ _ | assumption | refine Below.drew ?_ | refine bel_drewN ?_ _))) HB.out.size)⟩
      case measure => simp [intOf]; omega
    · have hkn : k = n := by omega
      subst hkn
      go_wp2
      go_ret
      exact ⟨rfl, hbel⟩

set_option maxRecDepth 100000 in
set_option maxHeartbeats 1000000 in
theorem eqProto_same (k n : Int) (uc ud uc' ud' : Value) (c : List Cp) (d : List In) (w : World) (hc : RdCV w uc c) (hd : RdIV w ud d) (hc' : RdCV w uc' c) (hd' : RdIV w ud' d) (hs : c.length + d.length ≤ 1048576) :
    Calls Tryd.prog 41 #[.agg #[.int .i64 k, .int .i64 n, uc, ud], .agg #[.int .i64 k, .int .i64 n, uc', ud']] w fun e w' => e = .returned (.bool true) ∧ Below w.heap.size w w' := by
  have CT : Hid (∀ W, Below w.heap.size w W → Calls Tryd.prog 67 #[uc, uc'] W fun e w' => e = .returned (.bool true) ∧ Below W.heap.size W w') :=
    fun W hW => eqCaptureS_same uc uc' c W (hc.below hW) (hc'.below hW) (by omega)
  have CN : Hid (∀ W, Below w.heap.size w W → Calls Tryd.prog 68 #[ud, ud'] W fun e w' => e = .returned (.bool true) ∧ Below W.heap.size W w') :=
    fun W hW => eqInsS_same ud ud' d W (hd.below hW) (hd'.below hW) (by omega)
  obtain ⟨ao, cap, rfl, _, _⟩ := hc
  obtain ⟨bo, cap', rfl, _, _⟩ := hd
  obtain ⟨ao', cap2, rfl, _, _⟩ := hc'
  obtain ⟨bo', cap3, rfl, _, _⟩ := hd'
  clear hs
  go_enter Tryd.func41, Tryd.ntmps41
  go_wp2_with fail
  refine (CT.out _ (by go_grown)).mono ?_
  rintro e w1 ⟨rfl, hb1⟩
  have HB1 : Hid (Below w.heap.size w w1) := Below.trans (by go_grown) (hb1.mono (by simp only [World.size_alloc]; omega))
  have q1 := cellB (cellNew (w := w.alloc (.cells #[.int .i64 k, .int .i64 n, .slice ao c.length cap, .slice bo d.length cap'] 46)) (cs := #[.int .i64 k, .int .i64 n, .slice ao' c.length cap2, .slice bo' d.length cap3]) (t := 46) (j := 3) rfl) hb1
  have q0 := cellB (cellOld (o := .cells #[.int .i64 k, .int .i64 n, .slice ao' c.length cap2, .slice bo' d.length cap3] 46) (cellNew (w := w) (cs := #[.int .i64 k, .int .i64 n, .slice ao c.length cap, .slice bo d.length cap']) (t := 46) (j := 3) rfl)) hb1
  simp only [World.size_alloc] at q0 q1
  clear hb1
  go_wp2_with fail
  refine (CN.out _ HB1.out).mono ?_
  rintro e w2 ⟨rfl, hb2⟩
  have HB2 : Hid (Below w.heap.size w w2) := HB1.out.trans (hb2.mono HB1.out.size)
  clear hb2
  go_wp2
  go_ret
  exact ⟨rfl, HB2.out⟩

set_option maxRecDepth 100000 in
set_option maxHeartbeats 2000000 in
theorem eqProtoS_same (v v' : Value) (l : List Pr) (w : World) (hr : RdPV w v l) (hr' : RdPV w v' l) (hz : sizeP l ≤ 1048576) :
    Calls Tryd.prog 20 #[v, v'] w fun e w' => e = .returned (.bool true) ∧ Below w.heap.size w w' := by
  have HS : Hid (∀ i, i < l.length → (l.getD i pr0).caps.length + (l.getD i pr0).code.length ≤ 1048576) := by
    intro i hi
    have h1 : sizePr (l.getD i pr0) ≤ _ := sumsF_at (f := sizePr) pr0 hi
    unfold sizeP at hz
    have h3 : sizePr (l.getD i pr0) = (l.getD i pr0).caps.length + (l.getD i pr0).code.length := rfl
    omega
  have hn0 : l.length ≤ 1048576 := by unfold sizeP at hz; omega
  obtain ⟨ao, cap, rfl, _, hr⟩ := hr
  obtain ⟨bo, cap', rfl, _, hr'⟩ := hr'
  obtain ⟨n, hnn⟩ : ∃ n, n = l.length := ⟨_, rfl⟩
  have HL : Hid (l.length = n) := hnn.symm
  have hn1 : n ≤ 1048576 := by rw [hnn]; exact hn0
  have HR : Hid (RdP w ao l) := hr
  have HR' : Hid (RdP w bo l) := hr'
  rw [← hnn]
  clear hr hr' hz hnn hn0
  go_enter Tryd.func20, Tryd.ntmps20
  go_wp2
  go_loopw [5] (fun i wr => ∃ (k : Nat), k ≤ n ∧ i = .int .i64 k ∧ Below w.heap.size w wr) (fun i _ => n - (intOf i).toNat)
  case atStart => exact ⟨0, Nat.zero_le _, rfl, Below.refl _ _⟩
  case round =>
    obtain ⟨k, hk, rfl, hbel⟩ := hrel
    by_cases hlt : k < n
    · obtain ⟨b, off, uc, ud, rfl, c0, c1, c2, c3, huc, hud⟩ := (HR.out.below hbel) k (by rw [HL.out]; exact hlt)
      obtain ⟨b', off', uc', ud', rfl, e0, e1, e2, e3, huc', hud'⟩ := (HR'.out.below hbel) k (by rw [HL.out]; exact hlt)
      have hsz := HS.out k (by rw [HL.out]; exact hlt)
      generalize l.getD k pr0 = d at c0 c1 huc hud e0 e1 huc' hud' hsz
      obtain ⟨kd, nn, tx, nms⟩ := d
      simp only at c0 c1 huc hud e0 e1 huc' hud' hsz
      have C : Hid (∀ W, Below wr.heap.size wr W → Calls Tryd.prog 41 #[.agg #[.int .i64 kd, .int .i64 nn, uc, ud], .agg #[.int .i64 kd, .int .i64 nn, uc', ud']] W fun e w' => e = .returned (.bool true) ∧ Below wr.heap.size wr w') := fun W hW => (eqProto_same kd nn uc ud uc' ud' tx nms W (huc.below hW) (hud.below hW) (huc'.below hW) (hud'.below hW) hsz).mono (fun _ _ ⟨h1, h2⟩ => ⟨h1, hW.trans (h2.mono hW.size)⟩)
      clear hsz
      have hlt' : (k : Int) < (n : Int) := by omega
      have HB : Hid (Below w.heap.size w wr) := hbel
      have HC : Hid (∀ W, Below wr.heap.size wr W → W.cell? ⟨b, off + k * 4, none⟩ = some (.int .i64 kd) ∧ W.cell? ⟨b, off + k * 4 + 1, none⟩ = some (.int .i64 nn) ∧ W.cell? ⟨b, off + k * 4 + 2, none⟩ = some uc ∧ W.cell? ⟨b, off + k * 4 + 3, none⟩ = some ud ∧ W.cell? ⟨b', off' + k * 4, none⟩ = some (.int .i64 kd) ∧ W.cell? ⟨b', off' + k * 4 + 1, none⟩ = some (.int .i64 nn) ∧ W.cell? ⟨b', off' + k * 4 + 2, none⟩ = some uc' ∧ W.cell? ⟨b', off' + k * 4 + 3, none⟩ = some ud') := by
        intro W hW
        exact ⟨cellB c0 hW, cellB c1 hW, cellB c2 hW, cellB c3 hW, cellB e0 hW, cellB e1 hW, cellB e2 hW, cellB e3 hW⟩
      clear huc hud huc' hud' hbel
      go_wp2_with fail
      go_region_held3 (fun W => (W.cell? ⟨b, off + k * 4, none⟩ = some (.int .i64 kd) ∧ W.cell? ⟨b, off + k * 4 + 1, none⟩ = some (.int .i64 nn) ∧ W.cell? ⟨b, off + k * 4 + 2, none⟩ = some uc ∧ W.cell? ⟨b, off + k * 4 + 3, none⟩ = some ud ∧ W.cell? ⟨b', off' + k * 4, none⟩ = some (.int .i64 kd) ∧ W.cell? ⟨b', off' + k * 4 + 1, none⟩ = some (.int .i64 nn) ∧ W.cell? ⟨b', off' + k * 4 + 2, none⟩ = some uc' ∧ W.cell? ⟨b', off' + k * 4 + 3, none⟩ = some ud') ∧ Below wr.heap.size wr W) (refine ⟨?_, ?_⟩ <;> first | (refine HC.out _ ?_; repeat (first | exact Below.refl _ _ | assumption | refine Below.drew ?_ | refine bel_drewN ?_ _)) | (repeat (first | exact Below.refl _ _ | assumption | refine Below.drew ?_ | refine bel_drewN ?_ _)))
        ((go_at_call 41; refine (C.out _ (by repeat (first | exact Below.refl _ _ | assumption | refine Below.drew ?_ | refine bel_drewN ?_ _))).mono ?_; rintro e w' ⟨rfl, hb'⟩))
      go_wp2
      go_roundw
      case rel => exact ⟨k + 1, by omega, by go_num, HB.out.trans (Below.mono (by first | assumption | (repeat (first | exact Below.refl _ _ | assumption | refine Below.drew ?_ | refine bel_drewN ?_ _))) HB.out.size)⟩
      case measure => simp [intOf]; omega
    · have hkn : k = n := by omega
      subst hkn
      go_wp2
      go_ret
      exact ⟨rfl, hbel⟩

set_option maxRecDepth 100000 in
set_option maxHeartbeats 1000000 in
theorem eqProgram_same (uk up uk' up' : Value) (p : Pg) (w : World) (hk : RdKV w uk p.consts) (hp : RdPV w up p.protos) (hk' : RdKV w uk' p.consts) (hp' : RdPV w up' p.protos) (hs : sizePg p ≤ 1048576) :
    Calls Tryd.prog 7 #[.agg #[uk, up], .agg #[uk', up']] w fun e w' => e = .returned (.bool true) ∧ Below w.heap.size w w' := by
  have hs1 : sizeK p.consts ≤ 1048576 := by unfold sizePg at hs; omega
  have hs2 : sizeP p.protos ≤ 1048576 := by unfold sizePg at hs; omega
  have CT : Hid (∀ W, Below w.heap.size w W → Calls Tryd.prog 19 #[uk, uk'] W fun e w' => e = .returned (.bool true) ∧ Below W.heap.size W w') :=
    fun W hW => eqConstS_same uk uk' p.consts W (hk.below hW) (hk'.below hW) hs1
  have CN : Hid (∀ W, Below w.heap.size w W → Calls Tryd.prog 20 #[up, up'] W fun e w' => e = .returned (.bool true) ∧ Below W.heap.size W w') :=
    fun W hW => eqProtoS_same up up' p.protos W (hp.below hW) (hp'.below hW) hs2
  obtain ⟨ao, cap, rfl, _, _⟩ := hk
  obtain ⟨bo, cap', rfl, _, _⟩ := hp
  obtain ⟨ao', cap2, rfl, _, _⟩ := hk'
  obtain ⟨bo', cap3, rfl, _, _⟩ := hp'
  clear hs hs1 hs2
  go_enter Tryd.func7, Tryd.ntmps7
  go_wp2_with fail
  refine (CT.out _ (by go_grown)).mono ?_
  rintro e w1 ⟨rfl, hb1⟩
  have HB1 : Hid (Below w.heap.size w w1) := Below.trans (by go_grown) (hb1.mono (by simp only [World.size_alloc]; omega))
  have q1 := cellB (cellNew (w := w.alloc (.cells #[.slice ao p.consts.length cap, .slice bo p.protos.length cap'] 26)) (cs := #[.slice ao' p.consts.length cap2, .slice bo' p.protos.length cap3]) (t := 26) (j := 1) rfl) hb1
  have q0 := cellB (cellOld (o := .cells #[.slice ao' p.consts.length cap2, .slice bo' p.protos.length cap3] 26) (cellNew (w := w) (cs := #[.slice ao p.consts.length cap, .slice bo p.protos.length cap']) (t := 26) (j := 1) rfl)) hb1
  simp only [World.size_alloc] at q0 q1
  clear hb1
  go_wp2_with fail
  refine (CN.out _ HB1.out).mono ?_
  rintro e w2 ⟨rfl, hb2⟩
  have HB2 : Hid (Below w.heap.size w w2) := HB1.out.trans (hb2.mono HB1.out.size)
  clear hb2
  go_wp2
  go_ret
  exact ⟨rfl, HB2.out⟩
end Go.Proofs.YteagakplhfiodaaDoor.pg
