import Derived.Test.YtopibfnjbejiiaaGreatDoorLsImpl
namespace Go.Proofs.YtopibfnjbejiiaaGreatDoor.ls
open Go.RowKit Go.Proofs.YtopibfnjbejiiaaGreatDoor.bts Go.Proofs.YtopibfnjbejiiaaGreatDoor.pg Go.Proofs.YtopibfnjbejiiaaGreatDoor.chk Go.Proofs.YtopibfnjbejiiaaGreatDoor.sv Go.Proofs.YtopibfnjbejiiaaGreatDoor.fmt Go.Proofs.YtopibfnjbejiiaaGreatDoor.quo

set_option maxRecDepth 100000 in
set_option maxHeartbeats 4000000 in
/-- A function's first line is written. -/
theorem head_any (uw uk : Value) (g i : Nat) (f : Pr) (uc ud : Value) (zs : List Int) (w0 w : World) (W : Wl uw uk w g zs) (h0 : Below w0.heap.size w0 w) (hg : w0.heap.size ≤ g) (hT : Tab w0) (hc : RdCV w0 uc f.caps) (hd : RdIV w0 ud f.code) (hf : SmallP f) (hi : i ≤ 1048576) (hc1 : f.caps.length ≤ 1048576) (hb : zs.length ≤ 50000000000000) :
    Calls Tryz.prog 22 #[.pointer (some ⟨g, 0, none⟩), .int .i64 (i : Int), .agg #[.int .i64 f.params, .int .i64 f.slots, uc, ud]] w fun e w' => (∃ v, e = .returned v) ∧ Wl uw uk w' g (zs ++ headL i f) ∧ Fl g w w' := by
  have hgl := W.lt
  have hne : w.heap.size ≠ g := by omega
  have HC : Hid (∀ W, Fl g w W → RdCV W uc f.caps) := fun W h => hc.below (h0.trans (h.below.mono hg))
  have HT : Hid (∀ W, Fl g w W → Tab W) := fun W h => hT.below (h0.trans (h.below.mono hg))
  have D : Hid (∀ (z : Int) Y W, 0 ≤ z → z < 2097152 → Wl uw uk W g Y → Fl g w W → Y.length ≤ 90000000000000 → Calls Tryz.prog 44 #[.pointer (some ⟨g, 0, none⟩), .int .i64 z] W fun e w' => (∃ v, e = .returned v) ∧ Wl uw uk w' g (Y ++ dc z) ∧ Fl g W w') := fun z Y W hz hz' h1 h2 h3 =>
    decimal_any uw uk g z Y w0 W h1 (h0.trans (h2.below.mono hg)) hg hT (by omega) (by omega) (by omega)
  obtain ⟨aC, cC, rfl, _, _⟩ := hc
  obtain ⟨aD, cD, rfl, _, _⟩ := hd
  have lp := dc_len f.params (by have := hf.p0; omega) (by have := hf.p1; omega)
  have ls := dc_len f.slots (by have := hf.s0; omega) (by have := hf.s1; omega)
  have li := dc_len (i : Int) (by omega) (by omega)
  have HLC : Hid (∀ k, k ≤ f.caps.length → (fl capL f.caps k).length ≤ 26 * k) := fl_len (f := capL) cp0 (fun j hj => capL_len _ (hf.caps j hj))
  have HCS : Hid (∀ j, j < f.caps.length → SmallC (f.caps.getD j cp0)) := hf.caps
  have p0 := hf.p0
  have p1 := hf.p1
  have s0 := hf.s0
  have s1 := hf.s1
  have HE : Hid (headL i f = [102, 117, 110, 99, 116, 105, 111, 110] ++ dc i ++ dc f.params ++ dc f.slots ++ fl capL f.caps f.caps.length ++ [10]) := rfl
  obtain ⟨fp, fs, fca, fco⟩ := f
  simp only at *
  obtain ⟨W1, hW1⟩ : ∃ W1, W1 = w.alloc (.cells #[.int .i64 fp, .int .i64 fs, .slice aC fca.length cC, .slice aD fco.length cD] 45) := ⟨_, rfl⟩
  have HX : Hid (¬ Ot W1 g w.heap.size) := by rw [hW1]; exact W.fresh _
  have F0 : Hid (Fl g w W1) := by rw [hW1]; exact (Fl.refl g w).alloc hgl _
  have HW1 : Hid (Wl uw uk W1 g zs) := by rw [hW1]; exact W.alloc _
  have b0 : W1.cell? ⟨w.heap.size, 0, none⟩ = some (.int .i64 fp) := by rw [hW1]; exact cellNew rfl
  have b1 : W1.cell? ⟨w.heap.size, 1, none⟩ = some (.int .i64 fs) := by rw [hW1]; exact cellNew rfl
  have b2 : W1.cell? ⟨w.heap.size, 2, none⟩ = some (.slice aC fca.length cC) := by rw [hW1]; exact cellNew rfl
  have PW : Hid (Calls Tryz.prog 43 #[.pointer (some ⟨g, 0, none⟩), .string { data := #[102, 117, 110, 99, 116, 105, 111, 110] }] W1 fun e w' => (∃ v, e = .returned v) ∧ Wl uw uk w' g (zs ++ [102, 117, 110, 99, 116, 105, 111, 110]) ∧ Fl g W1 w') := word_any uw uk g { data := #[102, 117, 110, 99, 116, 105, 111, 110] } 8 zs W1 HW1.out rfl (by omega)
  rw [hW1] at PW
  have HWX : Hid (W1 = w.alloc (.cells #[.int .i64 fp, .int .i64 fs, .slice aC fca.length cC, .slice aD fco.length cD] 45)) := hW1
  clear W h0 hT hf hW1 HW1
  go_enter Tryz.func22, Tryz.ntmps22
  go_wp2_with fail
  with_reducible refine PW.out.mono ?_
  rw [← HWX.out]
  rintro e w1 ⟨⟨v1, rfl⟩, hW1, hF1⟩
  have x0 := hF1.cell hne HX.out b0
  have x1 := hF1.cell hne HX.out b1
  have x2 := hF1.cell hne HX.out b2
  have HN1 : Hid (¬ Ot w1 g w.heap.size) := (hF1.keep w.heap.size (World.block_lt_of_cell? _ _ b0) hne HX.out).2
  have HF1 : Hid (Fl g w w1) := F0.out.trans hF1
  obtain ⟨Z1, hZ1⟩ : ∃ Z, Z = zs ++ [102, 117, 110, 99, 116, 105, 111, 110] := ⟨_, rfl⟩
  have l1 : Z1.length = zs.length + 8 := by rw [hZ1]; simp
  have HW1 : Hid (Wl uw uk w1 g Z1) := hW1.to hZ1.symm
  have HZ1 : Hid (Z1 = zs ++ [102, 117, 110, 99, 116, 105, 111, 110]) := hZ1
  clear hW1 hF1 b0 b1 b2 PW hZ1
  go_wp2_with fail
  refine (D.out (i : Int) Z1 w1 (by omega) (by omega) HW1.out HF1.out (by omega)).mono ?_
  rintro e w2 ⟨⟨v2, rfl⟩, hW2, hF2⟩
  have y0 := hF2.cell hne HN1.out x0
  have y1 := hF2.cell hne HN1.out x1
  have y2 := hF2.cell hne HN1.out x2
  have HN2 : Hid (¬ Ot w2 g w.heap.size) := (hF2.keep w.heap.size (World.block_lt_of_cell? _ _ x0) hne HN1.out).2
  have HF2 : Hid (Fl g w w2) := HF1.out.trans hF2
  have HW2 : Hid (Wl uw uk w2 g (Z1 ++ dc i)) := hW2
  clear hW2 hF2 x0 x1 x2
  go_wp2_with fail
  refine (D.out fp (Z1 ++ dc i) w2 p0 p1 HW2.out HF2.out (by simp; omega)).mono ?_
  rintro e w3 ⟨⟨v3, rfl⟩, hW3, hF3⟩
  have x1 := hF3.cell hne HN2.out y1
  have x2 := hF3.cell hne HN2.out y2
  have HN3 : Hid (¬ Ot w3 g w.heap.size) := (hF3.keep w.heap.size (World.block_lt_of_cell? _ _ y0) hne HN2.out).2
  have HF3 : Hid (Fl g w w3) := HF2.out.trans hF3
  have HW3 : Hid (Wl uw uk w3 g (Z1 ++ dc i ++ dc fp)) := hW3
  clear hW3 hF3 y0 y1 y2
  go_wp2_with fail
  refine (D.out fs (Z1 ++ dc i ++ dc fp) w3 s0 s1 HW3.out HF3.out (by simp; omega)).mono ?_
  rintro e w4 ⟨⟨v4, rfl⟩, hW4, hF4⟩
  have y2 := hF4.cell hne HN3.out x2
  have HF4 : Hid (Fl g w w4) := HF3.out.trans hF4
  obtain ⟨Z4, hZ4⟩ : ∃ Z, Z = Z1 ++ dc i ++ dc fp ++ dc fs := ⟨_, rfl⟩
  have l4 : Z4.length ≤ zs.length + 74 := by rw [hZ4]; simp; omega
  have HW4 : Hid (Wl uw uk w4 g Z4) := hW4.to hZ4.symm
  have HZ4 : Hid (Z4 = Z1 ++ dc i ++ dc fp ++ dc fs) := hZ4
  clear hW4 hF4 x1 x2 hZ4
  go_wp2_with fail
  go_loopw [25] (fun x wr => ∃ k : Nat, k ≤ fca.length ∧ x = .int .i64 (k : Int) ∧ Hid (Wl uw uk wr g (Z4 ++ fl capL fca k)) ∧ Hid (Fl g w wr)) (fun x _ => fca.length - (intOf x).toNat)
  case atStart => exact ⟨0, by omega, rfl, HW4.out.to (by simp [fl_zero]), HF4.out⟩
  case round =>
    clear y2 HF4 HW4 HF3 HW3 HF2 HW2 HF1 HW1 HN1 HN2 HN3
    obtain ⟨k, hk, rfl, HW4, HF4⟩ := hrel
    have lk := HLC.out k hk
    have hgr := HW4.out.lt
    have hne2 : wr.heap.size ≠ g := by omega
    by_cases hlt : k < fca.length
    · obtain ⟨_, _, eC, _, rC⟩ := HC.out wr HF4.out
      simp only [Value.slice.injEq] at eC
      obtain ⟨rfl, -, rfl⟩ := eC
      obtain ⟨b, off, rfl, c0, c1⟩ := rC k hlt
      clear rC
      have HS : Hid (fl capL fca (k + 1) = fl capL fca k ++ capL (fca.getD k cp0)) := fl_succ cp0 hlt
      obtain ⟨hi0, hi1⟩ := HCS.out k hlt
      generalize fca.getD k cp0 = d at c0 c1 HS hi0 hi1
      obtain ⟨ub, iz⟩ := d
      simp only at c0 c1 hi0 hi1
      have hlt' : (k : Int) < (fca.length : Int) := by omega
      obtain ⟨Y, hY⟩ : ∃ Y, Y = Z4 ++ fl capL fca k := ⟨_, rfl⟩
      have hYl : Y.length ≤ 60000000000000 := by rw [hY]; simp; omega
      have HS2 : Hid (Z4 ++ fl capL fca (k + 1) = Y ++ capL ⟨ub, iz⟩) := by show _ = _; rw [HS.out, hY, List.append_assoc]
      rw [← hY] at HW4
      have lf := fi_len iz (by omega) (by omega)
      clear hY HS
      obtain ⟨W2, hW2⟩ : ∃ W2, W2 = wr.alloc (.cells #[.bool ub, .int .i64 iz] 48) := ⟨_, rfl⟩
      have HX2 : Hid (¬ Ot W2 g wr.heap.size) := by rw [hW2]; exact HW4.out.fresh _
      have HF5 : Hid (Fl g w W2) := by rw [hW2]; exact HF4.out.alloc hgr _
      have HW5 : Hid (Wl uw uk W2 g Y) := by rw [hW2]; exact HW4.out.alloc _
      have a1 : W2.cell? ⟨wr.heap.size, 1, none⟩ = some (.int .i64 iz) := by rw [hW2]; exact cellNew rfl
      have HWX2 : Hid (W2 = wr.alloc (.cells #[.bool ub, .int .i64 iz] 48)) := hW2
      cases ub
      · have EX : Hid (capL ⟨false, iz⟩ = [32, 115, 108, 111, 116] ++ fi iz) := rfl
        have PW : Hid (Calls Tryz.prog 43 #[.pointer (some ⟨g, 0, none⟩), .string { data := #[32, 115, 108, 111, 116] }] W2 fun e w' => (∃ v, e = .returned v) ∧ Wl uw uk w' g (Y ++ [32, 115, 108, 111, 116]) ∧ Fl g W2 w') := word_any uw uk g { data := #[32, 115, 108, 111, 116] } 5 Y W2 HW5.out rfl (by omega)
        rw [hW2] at PW
        clear hW2
        go_wp2_with fail
        with_reducible refine PW.out.mono ?_
        rw [← HWX2.out]
        rintro e w5 ⟨⟨v5, rfl⟩, hW6, hF6⟩
        have a2 := hF6.cell hne2 HX2.out a1
        have HN6 : Hid (¬ Ot w5 g wr.heap.size) := (hF6.keep wr.heap.size (World.block_lt_of_cell? _ _ a1) hne2 HX2.out).2
        have HF6 : Hid (Fl g w w5) := HF5.out.trans hF6
        have HW6 : Hid (Wl uw uk w5 g (Y ++ [32, 115, 108, 111, 116])) := hW6
        clear hW6 hF6 a1 PW
        have FF : Hid _ := fmt_r2 HW6.out HF6.out HT.out iz (by omega) (by omega)
        have P2 : Hid (∀ ao c W2 W, Hid (R2 uw uk w g (Y ++ [32, 115, 108, 111, 116]) (fi iz) W2 ao) → Below W2.heap.size W2 W → Calls Tryz.prog 45 #[.pointer (some ⟨g, 0, none⟩), .slice ao (fi iz).length c] W fun e w3 => (∃ v, e = .returned v) ∧ Hid (Wl uw uk w3 g (Y ++ [32, 115, 108, 111, 116] ++ fi iz) ∧ Fl g w w3) ∧ Hid (Fl g W2 w3)) := put_r2 (by simp; omega)
        have HC2 : Hid (∀ W, Below w5.heap.size w5 W → W.cell? ⟨wr.heap.size, 1, none⟩ = some (.int .i64 iz)) := fun W h => cellB a2 h
        have HNO : Hid (∀ W, Below w5.heap.size w5 W → ¬ Ot W g wr.heap.size) := fun W h => ot_below HN6.out HW6.out.lt h
        clear a2
        go_wp2_with fail
        go_region_held3 (fun W => W.cell? ⟨wr.heap.size, 1, none⟩ = some (.int .i64 iz)) (first | (exact HQ.out.cell hne2 (HNO.out _ HB.out) (HC2.out _ HB.out)) | (refine HC2.out _ ?_; repeat (first | exact Below.refl _ _ | exact HB.out | refine Below.drew ?_ | refine bel_drewN ?_ _))) (first | (go_at_call 46; with_reducible refine Calls.mono (FF.out _ (by repeat (first | exact Below.refl _ _ | refine Below.drew ?_ | refine bel_drewN ?_ _))) ?_; rintro e w6 ⟨ao, c, rfl, HR, HB⟩) | (go_at_call 45; with_reducible refine Calls.mono (P2.out _ _ _ _ HR (by repeat (first | exact Below.refl _ _ | refine Below.drew ?_ | refine bel_drewN ?_ _))) ?_; rintro e w7 ⟨⟨v7, rfl⟩, HZ, HQ⟩))
        go_wp2
        go_roundw
        case rel => exact ⟨k + 1, by omega, by go_num, HZ.out.1.to (by rw [HS2.out, EX.out, List.append_assoc]), HZ.out.2⟩
        case measure => simp [intOf]; omega
      · have EX : Hid (capL ⟨true, iz⟩ = [32, 117, 112] ++ fi iz) := rfl
        have PW : Hid (Calls Tryz.prog 43 #[.pointer (some ⟨g, 0, none⟩), .string { data := #[32, 117, 112] }] W2 fun e w' => (∃ v, e = .returned v) ∧ Wl uw uk w' g (Y ++ [32, 117, 112]) ∧ Fl g W2 w') := word_any uw uk g { data := #[32, 117, 112] } 3 Y W2 HW5.out rfl (by omega)
        rw [hW2] at PW
        clear hW2
        go_wp2_with fail
        with_reducible refine PW.out.mono ?_
        rw [← HWX2.out]
        rintro e w5 ⟨⟨v5, rfl⟩, hW6, hF6⟩
        have a2 := hF6.cell hne2 HX2.out a1
        have HN6 : Hid (¬ Ot w5 g wr.heap.size) := (hF6.keep wr.heap.size (World.block_lt_of_cell? _ _ a1) hne2 HX2.out).2
        have HF6 : Hid (Fl g w w5) := HF5.out.trans hF6
        have HW6 : Hid (Wl uw uk w5 g (Y ++ [32, 117, 112])) := hW6
        clear hW6 hF6 a1 PW
        have FF : Hid _ := fmt_r2 HW6.out HF6.out HT.out iz (by omega) (by omega)
        have P2 : Hid (∀ ao c W2 W, Hid (R2 uw uk w g (Y ++ [32, 117, 112]) (fi iz) W2 ao) → Below W2.heap.size W2 W → Calls Tryz.prog 45 #[.pointer (some ⟨g, 0, none⟩), .slice ao (fi iz).length c] W fun e w3 => (∃ v, e = .returned v) ∧ Hid (Wl uw uk w3 g (Y ++ [32, 117, 112] ++ fi iz) ∧ Fl g w w3) ∧ Hid (Fl g W2 w3)) := put_r2 (by simp; omega)
        have HC2 : Hid (∀ W, Below w5.heap.size w5 W → W.cell? ⟨wr.heap.size, 1, none⟩ = some (.int .i64 iz)) := fun W h => cellB a2 h
        have HNO : Hid (∀ W, Below w5.heap.size w5 W → ¬ Ot W g wr.heap.size) := fun W h => ot_below HN6.out HW6.out.lt h
        clear a2
        go_wp2_with fail
        go_region_held3 (fun W => W.cell? ⟨wr.heap.size, 1, none⟩ = some (.int .i64 iz)) (first | (exact HQ.out.cell hne2 (HNO.out _ HB.out) (HC2.out _ HB.out)) | (refine HC2.out _ ?_; repeat (first | exact Below.refl _ _ | exact HB.out | refine Below.drew ?_ | refine bel_drewN ?_ _))) (first | (go_at_call 46; with_reducible refine Calls.mono (FF.out _ (by repeat (first | exact Below.refl _ _ | refine Below.drew ?_ | refine bel_drewN ?_ _))) ?_; rintro e w6 ⟨ao, c, rfl, HR, HB⟩) | (go_at_call 45; with_reducible refine Calls.mono (P2.out _ _ _ _ HR (by repeat (first | exact Below.refl _ _ | refine Below.drew ?_ | refine bel_drewN ?_ _))) ?_; rintro e w7 ⟨⟨v7, rfl⟩, HZ, HQ⟩))
        go_wp2
        go_roundw
        case rel => exact ⟨k + 1, by omega, by go_num, HZ.out.1.to (by rw [HS2.out, EX.out, List.append_assoc]), HZ.out.2⟩
        case measure => simp [intOf]; omega
    · have hkn : k = fca.length := by omega
      rw [hkn] at HW4 lk
      clear hkn hk
      have P : Hid (Calls Tryz.prog 45 #[.pointer (some ⟨g, 0, none⟩), .slice (some ⟨wr.heap.size, 0, none⟩) 1 1] (wr.alloc (.cells #[.int .u8 10] 5)) fun e w' => (∃ v, e = .returned v) ∧ Wl uw uk w' g (Z4 ++ fl capL fca fca.length ++ [10]) ∧ Fl g (wr.alloc (.cells #[.int .u8 10] 5)) w') := put_any uw uk g (some ⟨wr.heap.size, 0, none⟩) 1 1 [10] _ _ (HW4.out.alloc _) rfl (rd_one _ _) (by simp; omega)
      go_wp2_with fail
      with_reducible refine P.out.mono ?_
      rintro e w5 ⟨⟨v5, rfl⟩, hW6, hF6⟩
      go_wp2
      go_returns
      exact ⟨⟨_, rfl⟩, hW6.to (by rw [HE.out, HZ4.out, HZ1.out]; simp), (HF4.out.alloc hgr _).trans hF6⟩
end Go.Proofs.YtopibfnjbejiiaaGreatDoor.ls
