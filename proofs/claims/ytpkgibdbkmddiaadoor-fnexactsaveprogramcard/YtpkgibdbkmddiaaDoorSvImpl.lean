import Derived.Test.YtpkgibdbkmddiaaDoorSvPut
import Derived.Test.YtpkgibdbkmddiaaDoorPgEqB
namespace Go.Proofs.YtpkgibdbkmddiaaDoor.sv
open Go.RowKit Go.Proofs.YtpkgibdbkmddiaaDoor.bts Go.Proofs.YtpkgibdbkmddiaaDoor.pg Go.Proofs.YtpkgibdbkmddiaaDoor.chk

theorem Wr.fresh {w : World} {g : Nat} {zs : List Int} (h : Wr w g zs) (o : Obj) : ¬ Out (w.alloc o) g w.heap.size := by
  rintro ⟨n, cv, e⟩
  exact h.out (Nat.le_refl _) ⟨n, cv, by rw [← e]; exact (heap_alloc_old _ _ h.lt).symm⟩
theorem out_alloc {w : World} {g b : Nat} {o : Obj} (h : ¬ Out w g b) (hg : g < w.heap.size) : ¬ Out (w.alloc o) g b :=
  fun ⟨n, cv, e⟩ => h ⟨n, cv, by rw [← e]; exact (heap_alloc_old _ _ hg).symm⟩

set_option maxRecDepth 100000 in
set_option maxHeartbeats 2000000 in
theorem constant_text (g : Nat) (nn : Int) (ut : Value) (tx zs : List Int) (w0 w : World) (W : Wr w g zs) (h0 : Below w0.heap.size w0 w) (hg : w0.heap.size ≤ g) (ht : RdV w0 ut tx) (hx : tx.length ≤ 5000) (hb : zs.length ≤ 100000000000000) :
    Calls Tryd.prog 26 #[.pointer (some ⟨g, 0, none⟩), .agg #[.bool true, .int .i64 nn, ut]] w fun e w' => (∃ v, e = .returned v) ∧ Wr w' g (zs ++ kc ⟨true, nn, tx⟩) ∧ Fr g w w' := by
  have hgl := W.lt
  have HT : Hid (∀ W, Fr g w W → RdV W ut tx) := fun W h => ht.below (h0.trans (h.below.mono hg))
  obtain ⟨aX, cX, rfl, _, _⟩ := ht
  have HW : Hid (Wr w g zs) := W
  have HX : Hid (¬ Out (w.alloc (.cells #[.bool true, .int .i64 nn, .slice aX tx.length cX] 51)) g w.heap.size) := W.fresh _
  have F0 : Hid (Fr g w (w.alloc (.cells #[.bool true, .int .i64 nn, .slice aX tx.length cX] 51))) := (Fr.refl g w).alloc hgl _
  have hne : w.heap.size ≠ g := by omega
  clear W h0
  go_enter Tryd.func26, Tryd.ntmps26
  go_wp2_with fail
  refine (flag_any g true zs _ (HW.out.alloc _) (by omega)).mono ?_
  rintro e w1 ⟨⟨v1, rfl⟩, hW1, hF1⟩
  have x0 := hF1.cell hne HX.out (cellNew (w := w) (cs := #[.bool true, .int .i64 nn, .slice aX tx.length cX]) (t := 51) (j := 0) (v := .bool true) rfl)
  have x2 := hF1.cell hne HX.out (cellNew (w := w) (cs := #[.bool true, .int .i64 nn, .slice aX tx.length cX]) (t := 51) (j := 2) (v := .slice aX tx.length cX) rfl)
  have HN1 : Hid (¬ Out w1 g w.heap.size) := (hF1.keep w.heap.size (by simp) hne HX.out).2
  have HF1 : Hid (Fr g w w1) := F0.out.trans hF1
  have HW1 : Hid (Wr w1 g (zs ++ [1])) := hW1
  clear hW1 hF1
  go_wp2_with fail
  refine (number_any g tx.length (zs ++ [1]) _ HW1.out (by omega) (by simp; omega)).mono ?_
  rintro e w2 ⟨⟨v2, rfl⟩, hW2, hF2⟩
  have y2 := hF2.cell hne HN1.out x2
  have HF2 : Hid (Fr g w w2) := HF1.out.trans hF2
  have HW2 : Hid (Wr w2 g (zs ++ [1] ++ var tx.length)) := hW2
  clear hW2 hF2 x0 x2
  have HR2 : Hid (Rd w2 aX tx) := rdv_rd (HT.out w2 HF2.out)
  go_wp2_with fail
  refine (put_any g aX tx.length cX tx (zs ++ [1] ++ var tx.length) _ HW2.out rfl HR2.out (by have := var_len tx.length; simp; omega)).mono ?_
  rintro e w3 ⟨⟨v3, rfl⟩, hW3, hF3⟩
  go_wp2
  go_returns
  refine ⟨⟨_, rfl⟩, hW3.to ?_, HF2.out.trans hF3⟩
  rw [kc_text]
  simp

set_option maxRecDepth 100000 in
set_option maxHeartbeats 2000000 in
theorem constant_num (g : Nat) (nn : Int) (ut : Value) (tx zs : List Int) (w0 w : World) (W : Wr w g zs) (ht : RdV w0 ut tx) (hb : zs.length ≤ 100000000000000) :
    Calls Tryd.prog 26 #[.pointer (some ⟨g, 0, none⟩), .agg #[.bool false, .int .i64 nn, ut]] w fun e w' => (∃ v, e = .returned v) ∧ Wr w' g (zs ++ kc ⟨false, nn, tx⟩) ∧ Fr g w w' := by
  have hgl := W.lt
  obtain ⟨aX, cX, rfl, _, _⟩ := ht
  have HW : Hid (Wr w g zs) := W
  have HX : Hid (¬ Out (w.alloc (.cells #[.bool false, .int .i64 nn, .slice aX tx.length cX] 51)) g w.heap.size) := W.fresh _
  have F0 : Hid (Fr g w (w.alloc (.cells #[.bool false, .int .i64 nn, .slice aX tx.length cX] 51))) := (Fr.refl g w).alloc hgl _
  have hne : w.heap.size ≠ g := by omega
  clear W
  go_enter Tryd.func26, Tryd.ntmps26
  go_wp2_with fail
  refine (flag_any g false zs _ (HW.out.alloc _) (by omega)).mono ?_
  rintro e w1 ⟨⟨v1, rfl⟩, hW1, hF1⟩
  have x0 := hF1.cell hne HX.out (cellNew (w := w) (cs := #[.bool false, .int .i64 nn, .slice aX tx.length cX]) (t := 51) (j := 0) (v := .bool false) rfl)
  have x1 := hF1.cell hne HX.out (cellNew (w := w) (cs := #[.bool false, .int .i64 nn, .slice aX tx.length cX]) (t := 51) (j := 1) (v := .int .i64 nn) rfl)
  have HN1 : Hid (¬ Out w1 g w.heap.size) := (hF1.keep w.heap.size (by simp) hne HX.out).2
  have HF1 : Hid (Fr g w w1) := F0.out.trans hF1
  have HW1 : Hid (Wr w1 g (zs ++ [0])) := hW1
  clear hW1 hF1
  go_wp2_with fail
  go_loopw [20] (fun x wr => ∃ k : Nat, k ≤ 8 ∧ x = .int .i64 (k : Int) ∧ Hid (Wr wr g (zs ++ [0] ++ e8 nn k)) ∧ Hid (¬ Out wr g w.heap.size) ∧ wr.cell? ⟨w.heap.size, 1, none⟩ = some (.int .i64 nn) ∧ Hid (Fr g w wr)) (fun x _ => 8 - (intOf x).toNat)
  case atStart => exact ⟨0, by omega, rfl, HW1.out.to (by simp [e8]), HN1.out, x1, HF1.out⟩
  case round =>
    clear x0 x1 HN1 HF1 HW1
    obtain ⟨k, hk, rfl, HW1, HN1, x1, HF1⟩ := hrel
    by_cases hlt : k < 8
    · have hgr := HW1.out.lt
      have P : Hid (∀ W' (x : Int), Wr W' g (zs ++ [0] ++ e8 nn k) → Rd W' (some ⟨wr.heap.size, 0, none⟩) [x] → Calls Tryd.prog 24 #[.pointer (some ⟨g, 0, none⟩), .slice (some ⟨wr.heap.size, 0, none⟩) 1 1] W' fun e w' => (∃ v, e = .returned v) ∧ Wr w' g (zs ++ [0] ++ e8 nn k ++ [x]) ∧ Fr g W' w') := fun W' x h1 h2 => put_any g (some ⟨wr.heap.size, 0, none⟩) 1 1 [x] _ W' h1 rfl h2 (by simp [e8_len]; omega)
      have hlt' : (k : Int) < 8 := by omega
      go_wp2_with fail
      refine (P.out _ _ (HW1.out.alloc _) (rd_one _ _)).mono ?_
      rintro e w2 ⟨⟨v, rfl⟩, hW, hB⟩
      have y1 := hB.cell hne (out_alloc HN1.out hgr) (cellOld x1)
      have HW2 : Hid (Wr w2 g (zs ++ [0] ++ e8 nn (k + 1))) := hW.to (by rw [e8_succ]; simp)
      have HN2 : Hid (¬ Out w2 g w.heap.size) := (hB.keep w.heap.size (by have := World.block_lt_of_cell? _ _ x1; simp at this ⊢; omega) hne (out_alloc HN1.out hgr)).2
      have HF2 : Hid (Fr g w w2) := (HF1.out.alloc hgr _).trans hB
      clear hW hB x1
      go_wp2
      go_roundw
      case rel => exact ⟨k + 1, by omega, by go_num, HW2.out, HN2.out, y1, HF2.out⟩
      case measure => simp [intOf]; omega
    · obtain rfl : k = 8 := by omega
      go_wp2
      go_returns
      exact ⟨⟨_, rfl⟩, HW1.out.to (by rw [kc_num]; simp), HF1.out⟩

/-- The constant's bytes are written. -/
theorem constant_any (g : Nat) (kb : Bool) (nn : Int) (ut : Value) (tx zs : List Int) (w0 w : World) (W : Wr w g zs) (h0 : Below w0.heap.size w0 w) (hg : w0.heap.size ≤ g) (ht : RdV w0 ut tx) (hx : tx.length ≤ 5000) (hb : zs.length ≤ 100000000000000) :
    Calls Tryd.prog 26 #[.pointer (some ⟨g, 0, none⟩), .agg #[.bool kb, .int .i64 nn, ut]] w fun e w' => (∃ v, e = .returned v) ∧ Wr w' g (zs ++ kc ⟨kb, nn, tx⟩) ∧ Fr g w w' := by
  cases kb
  · exact constant_num g nn ut tx zs w0 w W ht hb
  · exact constant_text g nn ut tx zs w0 w W h0 hg ht hx hb

set_option maxRecDepth 100000 in
set_option maxHeartbeats 4000000 in
theorem function_any (g : Nat) (f : Pr) (uc ud : Value) (zs : List Int) (w0 w : World) (W : Wr w g zs) (h0 : Below w0.heap.size w0 w) (hg : w0.heap.size ≤ g) (hc : RdCV w0 uc f.caps) (hd : RdIV w0 ud f.code) (hf : SmallP f) (hc1 : f.caps.length ≤ 1048576) (hd1 : f.code.length ≤ 1048576) (hb : zs.length ≤ 100000000000000) :
    Calls Tryd.prog 27 #[.pointer (some ⟨g, 0, none⟩), .agg #[.int .i64 f.params, .int .i64 f.slots, uc, ud]] w fun e w' => (∃ v, e = .returned v) ∧ Wr w' g (zs ++ fc f) ∧ Fr g w w' := by
  have hgl := W.lt
  have hne : w.heap.size ≠ g := by omega
  have HC : Hid (∀ W, Fr g w W → RdCV W uc f.caps) := fun W h => hc.below (h0.trans (h.below.mono hg))
  have HD : Hid (∀ W, Fr g w W → RdIV W ud f.code) := fun W h => hd.below (h0.trans (h.below.mono hg))
  obtain ⟨aC, cC, rfl, _, _⟩ := hc
  obtain ⟨aD, cD, rfl, _, _⟩ := hd
  have HW : Hid (Wr w g zs) := W
  have HX : Hid (¬ Out (w.alloc (.cells #[.int .i64 f.params, .int .i64 f.slots, .slice aC f.caps.length cC, .slice aD f.code.length cD] 56)) g w.heap.size) := W.fresh _
  have F0 : Hid (Fr g w (w.alloc (.cells #[.int .i64 f.params, .int .i64 f.slots, .slice aC f.caps.length cC, .slice aD f.code.length cD] 56))) := (Fr.refl g w).alloc hgl _
  obtain ⟨p, hp⟩ : ∃ p : Nat, f.params = (p : Int) := ⟨f.params.toNat, by have := hf.p0; omega⟩
  obtain ⟨s, hs⟩ : ∃ s : Nat, f.slots = (s : Int) := ⟨f.slots.toNat, by have := hf.s0; omega⟩
  have hp2 : p < 2097152 := by have := hf.p1; omega
  have hs2 : s < 2097152 := by have := hf.s1; omega
  have HF : Hid (SmallP f) := hf
  have HE : Hid (fc f = var p ++ var s ++ var f.caps.length ++ fl cc f.caps f.caps.length ++ var f.code.length ++ fl xc f.code f.code.length) := by show _ = _; unfold fc; rw [hp, hs, vz_nat, vz_nat]
  rw [hp, hs] at HX F0 ⊢
  have l1 := var_len p
  have l2 := var_len s
  have l3 := var_len f.caps.length
  have l4 := var_len f.code.length
  have l5 := flc_len f.caps f.caps.length (Nat.le_refl _)
  have l6 := flx_len f.code f.code.length (Nat.le_refl _)
  clear W h0 hf hp hs
  go_enter Tryd.func27, Tryd.ntmps27
  go_wp2_with fail
  refine (number_any g p zs _ (HW.out.alloc _) hp2 (by omega)).mono ?_
  rintro e w1 ⟨⟨v1, rfl⟩, hW1, hF1⟩
  have x1 := hF1.cell hne HX.out (cellNew (w := w) (cs := #[.int .i64 (p : Int), .int .i64 (s : Int), .slice aC f.caps.length cC, .slice aD f.code.length cD]) (t := 56) (j := 1) (v := .int .i64 (s : Int)) rfl)
  have x2 := hF1.cell hne HX.out (cellNew (w := w) (cs := #[.int .i64 (p : Int), .int .i64 (s : Int), .slice aC f.caps.length cC, .slice aD f.code.length cD]) (t := 56) (j := 2) (v := .slice aC f.caps.length cC) rfl)
  have x3 := hF1.cell hne HX.out (cellNew (w := w) (cs := #[.int .i64 (p : Int), .int .i64 (s : Int), .slice aC f.caps.length cC, .slice aD f.code.length cD]) (t := 56) (j := 3) (v := .slice aD f.code.length cD) rfl)
  have HN1 : Hid (¬ Out w1 g w.heap.size) := (hF1.keep w.heap.size (by simp) hne HX.out).2
  have HF1 : Hid (Fr g w w1) := F0.out.trans hF1
  have HW1 : Hid (Wr w1 g (zs ++ var p)) := hW1
  clear hW1 hF1
  go_wp2_with fail
  refine (number_any g s (zs ++ var p) _ HW1.out hs2 (by simp; omega)).mono ?_
  rintro e w2 ⟨⟨v2, rfl⟩, hW2, hF2⟩
  have y2 := hF2.cell hne HN1.out x2
  have y3 := hF2.cell hne HN1.out x3
  have HN2 : Hid (¬ Out w2 g w.heap.size) := (hF2.keep w.heap.size (World.block_lt_of_cell? _ _ x2) hne HN1.out).2
  have HF2 : Hid (Fr g w w2) := HF1.out.trans hF2
  have HW2 : Hid (Wr w2 g (zs ++ var p ++ var s)) := hW2
  clear hW2 hF2 x1 x2 x3
  go_wp2_with fail
  refine (number_any g f.caps.length (zs ++ var p ++ var s) _ HW2.out (by omega) (by simp; omega)).mono ?_
  rintro e w3 ⟨⟨v3, rfl⟩, hW3, hF3⟩
  have x2 := hF3.cell hne HN2.out y2
  have x3 := hF3.cell hne HN2.out y3
  have HN3 : Hid (¬ Out w3 g w.heap.size) := (hF3.keep w.heap.size (World.block_lt_of_cell? _ _ y2) hne HN2.out).2
  have HF3 : Hid (Fr g w w3) := HF2.out.trans hF3
  have HW3 : Hid (Wr w3 g (zs ++ var p ++ var s ++ var f.caps.length)) := hW3
  clear hW3 hF3 y2 y3
  go_wp2_with fail
  go_loopw [24] (fun x wr => ∃ k : Nat, k ≤ f.caps.length ∧ x = .int .i64 (k : Int) ∧ Hid (Wr wr g (zs ++ var p ++ var s ++ var f.caps.length ++ fl cc f.caps k)) ∧ Hid (¬ Out wr g w.heap.size) ∧ wr.cell? ⟨w.heap.size, 3, none⟩ = some (.slice aD f.code.length cD) ∧ Hid (Fr g w wr)) (fun x _ => f.caps.length - (intOf x).toNat)
  case atStart => exact ⟨0, by omega, rfl, HW3.out.to (by simp [fl_zero]), HN3.out, x3, HF3.out⟩
  case round =>
    clear x2 x3 HN3 HF3 HW3 HN2 HF2 HW2 HN1 HF1 HW1
    obtain ⟨k, hk, rfl, HW3, HN3, x3, HF3⟩ := hrel
    have lk := flc_len f.caps k hk
    have hgr := HW3.out.lt
    by_cases hlt : k < f.caps.length
    · obtain ⟨_, _, eC, _, rC⟩ := HC.out wr HF3.out
      simp only [Value.slice.injEq] at eC
      obtain ⟨rfl, -, rfl⟩ := eC
      obtain ⟨b, off, rfl, c0, c1⟩ := rC k hlt
      clear rC
      have HS : Hid (fl cc f.caps (k + 1) = fl cc f.caps k ++ cc (f.caps.getD k cp0)) := fl_succ cp0 hlt
      obtain ⟨hi0, hi1⟩ := HF.out.caps k hlt
      generalize f.caps.getD k cp0 = d at c0 c1 HS hi0 hi1
      obtain ⟨ub, iz⟩ := d
      simp only at c0 c1 hi0 hi1
      obtain ⟨z, rfl⟩ : ∃ z : Nat, iz = (z : Int) := ⟨iz.toNat, by omega⟩
      have hz : z < 2097152 := by omega
      have hlt' : (k : Int) < (f.caps.length : Int) := by omega
      have HX2 : Hid (¬ Out (wr.alloc (.cells #[.bool ub, .int .i64 (z : Int)] 70)) g wr.heap.size) := HW3.out.fresh _
      have HF4 : Hid (Fr g w (wr.alloc (.cells #[.bool ub, .int .i64 (z : Int)] 70))) := HF3.out.alloc hgr _
      have hne2 : wr.heap.size ≠ g := by omega
      go_wp2_with fail
      refine (flag_any g ub _ _ (HW3.out.alloc _) (by simp; omega)).mono ?_
      rintro e w4 ⟨⟨v4, rfl⟩, hW4, hF4⟩
      have a1 := hF4.cell hne2 HX2.out (cellNew (w := wr) (cs := #[.bool ub, .int .i64 (z : Int)]) (t := 70) (j := 1) (v := .int .i64 (z : Int)) rfl)
      have y3 := hF4.cell hne (out_alloc HN3.out hgr) (cellOld x3)
      have HN4 : Hid (¬ Out w4 g w.heap.size) := (hF4.keep w.heap.size (World.block_lt_of_cell? _ _ (cellOld x3)) hne (out_alloc HN3.out hgr)).2
      have HF5 : Hid (Fr g w w4) := HF4.out.trans hF4
      have HW4 : Hid (Wr w4 g _) := hW4
      clear hW4 hF4 x3
      go_wp2_with fail
      refine (number_any g z _ _ HW4.out hz (by simp; omega)).mono ?_
      rintro e w5 ⟨⟨v5, rfl⟩, hW5, hF5⟩
      have x3 := hF5.cell hne HN4.out y3
      have HN5 : Hid (¬ Out w5 g w.heap.size) := (hF5.keep w.heap.size (World.block_lt_of_cell? _ _ y3) hne HN4.out).2
      have HF6 : Hid (Fr g w w5) := HF5.out.trans hF5
      have HW5 : Hid (Wr w5 g (zs ++ var p ++ var s ++ var f.caps.length ++ fl cc f.caps (k + 1))) := hW5.to (by rw [HS.out]; simp [cc, vz_nat])
      clear hW5 hF5 y3 a1
      go_wp2
      go_roundw
      case rel => exact ⟨k + 1, by omega, by go_num, HW5.out, HN5.out, x3, HF6.out⟩
      case measure => simp [intOf]; omega
    · have hkn : k = f.caps.length := by omega
      rw [hkn] at HW3
      clear hkn hk lk
      go_wp2_with fail
      refine (number_any g f.code.length _ _ HW3.out (by omega) (by simp; omega)).mono ?_
      rintro e w4 ⟨⟨v4, rfl⟩, hW4, hF4⟩
      have y3 := hF4.cell hne HN3.out x3
      have HF5 : Hid (Fr g w w4) := HF3.out.trans hF4
      have HW4 : Hid (Wr w4 g _) := hW4
      clear hW4 hF4 x3
      go_wp2_with fail
      go_loopw [45] (fun x wr => ∃ k : Nat, k ≤ f.code.length ∧ x = .int .i64 (k : Int) ∧ Hid (Wr wr g (zs ++ var p ++ var s ++ var f.caps.length ++ fl cc f.caps f.caps.length ++ var f.code.length ++ fl xc f.code k)) ∧ Hid (Fr g w wr)) (fun x _ => f.code.length - (intOf x).toNat)
      case atStart => exact ⟨0, by omega, rfl, HW4.out.to (by simp [fl_zero]), HF5.out⟩
      case round =>
        clear y3 HN3 HF3 HW3 HF5 HW4 hgr
        obtain ⟨k, hk, rfl, HW3, HF3⟩ := hrel
        have lk := flx_len f.code k hk
        have hgr := HW3.out.lt
        by_cases hlt : k < f.code.length
        · obtain ⟨_, _, eD, _, rD⟩ := HD.out wr HF3.out
          simp only [Value.slice.injEq] at eD
          obtain ⟨rfl, -, rfl⟩ := eD
          obtain ⟨b, off, rfl, c0, c1, c2⟩ := rD k hlt
          clear rD
          obtain ⟨Y, hY⟩ : ∃ Y, Y = zs ++ var p ++ var s ++ var f.caps.length ++ fl cc f.caps f.caps.length ++ var f.code.length ++ fl xc f.code k := ⟨_, rfl⟩
          have hYl : Y.length ≤ 100000020000000 := by rw [hY]; simp only [List.length_append]; omega
          have HS : Hid (zs ++ var p ++ var s ++ var f.caps.length ++ fl cc f.caps f.caps.length ++ var f.code.length ++ fl xc f.code (k + 1) = Y ++ xc (f.code.getD k in0)) := by show _ = _; rw [fl_succ in0 hlt, hY]; simp
          rw [← hY] at HW3
          clear hY
          obtain ⟨ho0, ho1, ha0, ha1, hb0, hb1⟩ := HF.out.code k hlt
          generalize f.code.getD k in0 = d at c0 c1 c2 HS ho0 ho1 ha0 ha1 hb0 hb1
          obtain ⟨op, az, bz⟩ := d
          simp only at c0 c1 c2 ho0 ho1 ha0 ha1 hb0 hb1
          obtain ⟨za, rfl⟩ : ∃ z : Nat, az = (z : Int) := ⟨az.toNat, by omega⟩
          obtain ⟨zb, rfl⟩ : ∃ z : Nat, bz = (z : Int) := ⟨bz.toNat, by omega⟩
          have hza : za < 2097152 := by omega
          have hzb : zb < 2097152 := by omega
          have hlt' : (k : Int) < (f.code.length : Int) := by omega
          have hne2 : wr.heap.size ≠ g := by omega
          have l7 := var_len za
          clear ha0 ha1 hb0 hb1
          obtain ⟨W1, hW1⟩ : ∃ W1, W1 = wr.alloc (.cells #[.int .i64 op, .int .i64 (za : Int), .int .i64 (zb : Int)] 65) := ⟨_, rfl⟩
          have HX2 : Hid (¬ Out W1 g wr.heap.size) := by rw [hW1]; exact HW3.out.fresh _
          have HF4 : Hid (Fr g w W1) := by rw [hW1]; exact HF3.out.alloc hgr _
          have HW4 : Hid (Wr W1 g Y) := by rw [hW1]; exact HW3.out.alloc _
          have hgr1 : g < W1.heap.size := HW4.out.lt
          have b0 : W1.cell? ⟨wr.heap.size, 0, none⟩ = some (.int .i64 op) := by rw [hW1]; exact cellNew rfl
          have b1 : W1.cell? ⟨wr.heap.size, 1, none⟩ = some (.int .i64 (za : Int)) := by rw [hW1]; exact cellNew rfl
          have b2 : W1.cell? ⟨wr.heap.size, 2, none⟩ = some (.int .i64 (zb : Int)) := by rw [hW1]; exact cellNew rfl
          have P : Hid (∀ x : Int, Calls Tryd.prog 24 #[.pointer (some ⟨g, 0, none⟩), .slice (some ⟨wr.heap.size + 1, 0, none⟩) 1 1] (W1.alloc (.cells #[.int .u8 x] 5)) fun e w' => (∃ v, e = .returned v) ∧ Wr w' g (Y ++ [x]) ∧ Fr g (W1.alloc (.cells #[.int .u8 x] 5)) w') := fun x => put_any g _ 1 1 [x] Y _ (HW4.out.alloc _) rfl (by have := rd_one W1 x; rw [hW1] at this ⊢; simpa using this) (by omega)
          have HWX : Hid (W1 = wr.alloc (.cells #[.int .i64 op, .int .i64 (za : Int), .int .i64 (zb : Int)] 65)) := hW1
          clear hW1
          go_wp2_with fail
          rw [← HWX.out]
          with_reducible refine (P.out _).mono ?_
          rintro e w5 ⟨⟨v5, rfl⟩, hW5, hF5⟩
          have d1 := hF5.cell hne2 (out_alloc HX2.out hgr1) (cellOld b1)
          have d2 := hF5.cell hne2 (out_alloc HX2.out hgr1) (cellOld b2)
          have HN5 : Hid (¬ Out w5 g wr.heap.size) := (hF5.keep wr.heap.size (World.block_lt_of_cell? _ _ (cellOld b1)) hne2 (out_alloc HX2.out hgr1)).2
          have HF5 : Hid (Fr g w w5) := (HF4.out.alloc hgr1 _).trans hF5
          have HW5 : Hid (Wr w5 g (Y ++ [op])) := hW5.to (by first | rfl | (congr 2; omega))
          clear hW5 hF5 b0 b1 b2
          go_wp2_with fail
          refine (number_any g za _ _ HW5.out hza (by simp; omega)).mono ?_
          rintro e w6 ⟨⟨v6, rfl⟩, hW6, hF6⟩
          have e2 := hF6.cell hne2 HN5.out d2
          have HF6 : Hid (Fr g w w6) := HF5.out.trans hF6
          have HW6 : Hid (Wr w6 g (Y ++ [op] ++ var za)) := hW6
          clear hW6 hF6 d1 d2
          go_wp2_with fail
          refine (number_any g zb _ _ HW6.out hzb (by simp; omega)).mono ?_
          rintro e w7 ⟨⟨v7, rfl⟩, hW7, hF7⟩
          have HF7 : Hid (Fr g w w7) := HF6.out.trans hF7
          have HW7 : Hid (Wr w7 g (zs ++ var p ++ var s ++ var f.caps.length ++ fl cc f.caps f.caps.length ++ var f.code.length ++ fl xc f.code (k + 1))) := hW7.to (by rw [HS.out]; simp [xc, vz_nat])
          clear hW7 hF7 e2
          go_wp2
          go_roundw
          case rel => exact ⟨k + 1, by omega, by go_num, HW7.out, HF7.out⟩
          case measure => simp [intOf]; omega
        · have hkn : k = f.code.length := by omega
          rw [hkn] at HW3
          clear hkn
          go_wp2
          go_returns
          exact ⟨⟨_, rfl⟩, HW3.out.to (by rw [HE.out]; simp), HF3.out⟩
end Go.Proofs.YtpkgibdbkmddiaaDoor.sv
