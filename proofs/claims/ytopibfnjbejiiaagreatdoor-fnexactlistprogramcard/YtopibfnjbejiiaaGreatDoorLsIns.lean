import Derived.Test.YtopibfnjbejiiaaGreatDoorLsImpl
namespace Go.Proofs.YtopibfnjbejiiaaGreatDoor.ls
open Go.RowKit Go.Proofs.YtopibfnjbejiiaaGreatDoor.bts Go.Proofs.YtopibfnjbejiiaaGreatDoor.pg Go.Proofs.YtopibfnjbejiiaaGreatDoor.chk Go.Proofs.YtopibfnjbejiiaaGreatDoor.sv Go.Proofs.YtopibfnjbejiiaaGreatDoor.fmt Go.Proofs.YtopibfnjbejiiaaGreatDoor.quo

set_option maxRecDepth 100000 in
set_option maxHeartbeats 4000000 in
theorem ins_other (g gw k : Nat) (op az bz : Nat) (ak : Option Addr) (ck : Nat) (ks : List Cn) (zs : List Int) (w0 w : World) (W : Wl (.slice (some ⟨gw, 0, none⟩) 28 28) (.slice ak ks.length ck) w g zs) (h0 : Below w0.heap.size w0 w) (hg : w0.heap.size ≤ g) (hT : Tab w0) (hS : Shp w0) (hwd : ∀ o, o < 28 → w0.cell? ⟨gw, o, none⟩ = some (.string ⟨(wd o).toArray⟩)) (_hk : RdKV w0 (.slice ak ks.length ck) ks) (_hN : Num ks) (_hx : ∀ i, i < ks.length → (ks.getD i cn0).text.length ≤ 5000) (hop0 : ¬ op = 0) (hop : op < 28) (ha : az < 2097152) (hbz : bz < 2097152) (hkk : k ≤ 1048576) (hb : zs.length ≤ 60000000000000) :
    Calls Tryz.prog 23 #[.pointer (some ⟨g, 0, none⟩), .int .i64 (k : Int), .agg #[.int .i64 (op : Int), .int .i64 (az : Int), .int .i64 (bz : Int)]] w fun e w' => (∃ v, e = .returned v) ∧ Wl (.slice (some ⟨gw, 0, none⟩) 28 28) (.slice ak ks.length ck) w' g (zs ++ insL ks k ⟨(op : Int), (az : Int), (bz : Int)⟩) ∧ Fl g w w' := by
  obtain ⟨uw, huw⟩ : ∃ v, v = Value.slice (some ⟨gw, 0, none⟩) 28 28 := ⟨_, rfl⟩
  obtain ⟨uk, huk⟩ : ∃ v, v = Value.slice ak ks.length ck := ⟨_, rfl⟩
  rw [← huw, ← huk] at W
  rw [← huw, ← huk]
  have hgl := W.lt
  have hne : w.heap.size ≠ g := by omega
  have lw := wd_len op
  have HL : Hid (∀ W, Fl g w W → Below w0.heap.size w0 W) := fun W h => h0.trans (h.below.mono hg)
  have D : Hid (∀ Y W, Wl uw uk W g Y → Fl g w W → Y.length ≤ 90000000000000 → Calls Tryz.prog 44 #[.pointer (some ⟨g, 0, none⟩), .int .i64 (k : Int)] W fun e w' => (∃ v, e = .returned v) ∧ Wl uw uk w' g (Y ++ dc k) ∧ Fl g W w') := fun Y W h1 h2 h3 =>
    decimal_any uw uk g k Y w0 W h1 (HL.out W h2) hg hT (by omega) (by omega) (by omega)
  have lk := dc_len (k : Int) (by omega) (by omega)
  have HWD : Hid (∀ W, Fl g w W → W.cell? ⟨gw, op, none⟩ = some (.string ⟨(wd op).toArray⟩)) := fun W h => cellB (hwd op (by omega)) (HL.out W h)
  have HE : Hid (insL ks k ⟨(op : Int), (az : Int), (bz : Int)⟩ = [32] ++ dc k ++ [32] ++ ib (wd op) ++ numL ⟨(op : Int), (az : Int), (bz : Int)⟩ ++ [10]) := by show _ = _; unfold insL; simp only [Int.toNat_natCast]; rw [if_neg (by omega)]
  have lt := numL_len ⟨(op : Int), (az : Int), (bz : Int)⟩ ⟨by simp, by simp; omega, by simp, by simp; omega, by simp, by simp; omega⟩
  have NB : Hid (∀ Y W, Wl uw uk W g Y → Fl g w W → Y.length ≤ 90000000000000 → Calls Tryz.prog 48 #[.pointer (some ⟨g, 0, none⟩), .agg #[.int .i64 (op : Int), .int .i64 (az : Int), .int .i64 (bz : Int)]] W fun e w' => (∃ v, e = .returned v) ∧ Wl uw uk w' g (Y ++ numL ⟨(op : Int), (az : Int), (bz : Int)⟩) ∧ Fl g W w') := fun Y W h1 h2 h3 =>
    numbers_any uw uk g op az bz Y w0 W h1 (HL.out W h2) hg hT hS hop ha hbz (by omega)
  have t1 : ((op : Int) == 0) = false := by simpa using hop0
  have t2 : ¬ (op : Int) = 0 := by omega
  have t3 : decide ((op : Int) = 0) = false := by simpa using hop0
  have hopI : (op : Int) < 28 := by omega
  generalize numL ⟨(op : Int), (az : Int), (bz : Int)⟩ = ll at HE lt NB
  have HWDL : Hid ((ib (wd op)).length ≤ 9) := by show _ ≤ _; rw [ib_length]; exact lw
  have WD0 : Hid (∀ Y W, Wl uw uk W g Y → Y.length ≤ 90000000000000 → Calls Tryz.prog 43 #[.pointer (some ⟨g, 0, none⟩), .string ⟨(wd op).toArray⟩] W fun e w' => (∃ v, e = .returned v) ∧ Wl uw uk w' g (Y ++ ib (wd op)) ∧ Fl g W w') := fun Y W h1 h2 =>
    word_any uw uk g ⟨(wd op).toArray⟩ (wd op).length Y W h1 rfl (by omega)
  generalize wd op = wo at HE HWD HWDL WD0
  obtain ⟨W1, hW1⟩ : ∃ W1, W1 = w.alloc (.cells #[.int .i64 (op : Int), .int .i64 (az : Int), .int .i64 (bz : Int)] 51) := ⟨_, rfl⟩
  have HX : Hid (¬ Ot W1 g w.heap.size) := by rw [hW1]; exact W.fresh _
  have F0 : Hid (Fl g w W1) := by rw [hW1]; exact (Fl.refl g w).alloc hgl _
  have HW1 : Hid (Wl uw uk W1 g zs) := by rw [hW1]; exact W.alloc _
  have hgr1 : g < W1.heap.size := HW1.out.lt
  have b0 : W1.cell? ⟨w.heap.size, 0, none⟩ = some (.int .i64 (op : Int)) := by rw [hW1]; exact cellNew rfl
  have b1 : W1.cell? ⟨w.heap.size, 1, none⟩ = some (.int .i64 (az : Int)) := by rw [hW1]; exact cellNew rfl
  have b2 : W1.cell? ⟨w.heap.size, 2, none⟩ = some (.int .i64 (bz : Int)) := by rw [hW1]; exact cellNew rfl
  have P1 : Hid (Calls Tryz.prog 45 #[.pointer (some ⟨g, 0, none⟩), .slice (some ⟨w.heap.size + 1, 0, none⟩) 1 1] (W1.alloc (.cells #[.int .u8 32] 5)) fun e w' => (∃ v, e = .returned v) ∧ Wl uw uk w' g (zs ++ [32]) ∧ Fl g (W1.alloc (.cells #[.int .u8 32] 5)) w') := by
    have h := rd_one W1 32
    rw [show W1.heap.size = w.heap.size + 1 by rw [hW1]; simp] at h
    exact put_any uw uk g (some ⟨w.heap.size + 1, 0, none⟩) 1 1 [32] zs _ (HW1.out.alloc _) rfl h (by omega)
  rw [hW1] at P1
  have HWX : Hid (W1 = w.alloc (.cells #[.int .i64 (op : Int), .int .i64 (az : Int), .int .i64 (bz : Int)] 51)) := hW1
  clear W h0 hT hS hW1 HW1 hwd lw _hN _hx
  go_enter Tryz.func23, Tryz.ntmps23
  go_wp2_with fail
  with_reducible refine P1.out.mono ?_
  rw [← HWX.out]
  rintro e w1 ⟨⟨v1, rfl⟩, hW1, hF1⟩
  have x0 := hF1.cell hne (ot_alloc HX.out hgr1) (cellOld b0)
  have x1 := hF1.cell hne (ot_alloc HX.out hgr1) (cellOld b1)
  have x2 := hF1.cell hne (ot_alloc HX.out hgr1) (cellOld b2)
  have HN1 : Hid (¬ Ot w1 g w.heap.size) := (hF1.keep w.heap.size (World.block_lt_of_cell? _ _ (cellOld b0)) hne (ot_alloc HX.out hgr1)).2
  have HF1 : Hid (Fl g w w1) := (F0.out.alloc hgr1 _).trans hF1
  have HW1 : Hid (Wl uw uk w1 g (zs ++ [32])) := hW1
  clear hW1 hF1 b0 b1 b2 P1
  go_wp2_with fail
  refine (D.out (zs ++ [32]) w1 HW1.out HF1.out (by simp; omega)).mono ?_
  rintro e w2 ⟨⟨v2, rfl⟩, hW2, hF2⟩
  have y0 := hF2.cell hne HN1.out x0
  have y1 := hF2.cell hne HN1.out x1
  have y2 := hF2.cell hne HN1.out x2
  have HN2 : Hid (¬ Ot w2 g w.heap.size) := (hF2.keep w.heap.size (World.block_lt_of_cell? _ _ x0) hne HN1.out).2
  have HF2 : Hid (Fl g w w2) := HF1.out.trans hF2
  have HW2 : Hid (Wl uw uk w2 g (zs ++ [32] ++ dc k)) := hW2
  have hgr2 : g < w2.heap.size := hW2.lt
  clear hW2 hF2 x0 x1 x2
  have P2 : Hid (Calls Tryz.prog 45 #[.pointer (some ⟨g, 0, none⟩), .slice (some ⟨w2.heap.size, 0, none⟩) 1 1] (w2.alloc (.cells #[.int .u8 32] 5)) fun e w' => (∃ v, e = .returned v) ∧ Wl uw uk w' g (zs ++ [32] ++ dc k ++ [32]) ∧ Fl g (w2.alloc (.cells #[.int .u8 32] 5)) w') := put_any uw uk g (some ⟨w2.heap.size, 0, none⟩) 1 1 [32] _ _ (HW2.out.alloc _) rfl (rd_one _ _) (by simp; omega)
  go_wp2_with fail
  with_reducible refine P2.out.mono ?_
  rintro e w3 ⟨⟨v3, rfl⟩, hW3, hF3⟩
  have x0 := hF3.cell hne (ot_alloc HN2.out hgr2) (cellOld y0)
  have x1 := hF3.cell hne (ot_alloc HN2.out hgr2) (cellOld y1)
  have x2 := hF3.cell hne (ot_alloc HN2.out hgr2) (cellOld y2)
  have HN3 : Hid (¬ Ot w3 g w.heap.size) := (hF3.keep w.heap.size (World.block_lt_of_cell? _ _ (cellOld y0)) hne (ot_alloc HN2.out hgr2)).2
  have HF3 : Hid (Fl g w w3) := (HF2.out.alloc hgr2 _).trans hF3
  obtain ⟨Z3, hZ3⟩ : ∃ Z, Z = zs ++ [32] ++ dc k ++ [32] := ⟨_, rfl⟩
  have l3 : Z3.length ≤ zs.length + 24 := by rw [hZ3]; simp; omega
  have HW3 : Hid (Wl uw uk w3 g Z3) := hW3.to hZ3.symm
  have HZ3 : Hid (Z3 = zs ++ [32] ++ dc k ++ [32]) := hZ3
  clear hW3 hF3 y0 y1 y2 P2 hZ3
  have HS3 : Hid (∀ W, Below w3.heap.size w3 W → W.cell? ⟨g, 1, none⟩ = some uw ∧ W.cell? ⟨w.heap.size, 0, none⟩ = some (.int .i64 (op : Int)) ∧ W.cell? ⟨gw, op, none⟩ = some (.string ⟨wo.toArray⟩)) := fun W h => ⟨cellB HW3.out.at1 h, cellB x0 h, cellB (HWD.out w3 HF3.out) h⟩
  have WD : Hid (∀ W, Below w3.heap.size w3 W → Calls Tryz.prog 43 #[.pointer (some ⟨g, 0, none⟩), .string ⟨wo.toArray⟩] W fun e w4 => (∃ v, e = .returned v) ∧ Hid (Wl uw uk w4 g (Z3 ++ ib wo)) ∧ Hid (Fl g w3 w4) ∧ Hid (w4.cell? ⟨g, 1, none⟩ = some uw ∧ w4.cell? ⟨w.heap.size, 0, none⟩ = some (.int .i64 (op : Int)) ∧ w4.cell? ⟨gw, op, none⟩ = some (.string ⟨wo.toArray⟩))) := fun W h => by
    refine (WD0.out Z3 W (HW3.out.keep h) (by omega)).mono ?_
    rintro e w4 ⟨k1, k2, k3⟩
    have k4 : Fl g w3 w4 := ((Fl.refl g w3).grown HW3.out.lt h).trans k3
    exact ⟨k1, k2, k4, k2.at1, k4.cell hne HN3.out x0, HWD.out w4 (HF3.out.trans k4)⟩
  rw [huw] at HS3 WD
  go_wp2_with fail
  go_region_held3 (fun W => W.cell? ⟨g, 1, none⟩ = some (.slice (some ⟨gw, 0, none⟩) 28 28) ∧ W.cell? ⟨w.heap.size, 0, none⟩ = some (.int .i64 (op : Int)) ∧ W.cell? ⟨gw, op, none⟩ = some (.string ⟨wo.toArray⟩)) (first | exact HC4.out | (refine HS3.out _ ?_; repeat (first | exact Below.refl _ _ | refine Below.drew ?_ | refine bel_drewN ?_ _))) (first | (go_at_call 43; with_reducible refine Calls.mono (WD.out _ (by repeat (first | exact Below.refl _ _ | refine Below.drew ?_ | refine bel_drewN ?_ _))) ?_; rintro e w4 ⟨⟨v4, rfl⟩, HW4, HQ4, HC4⟩))
  rw [← huw] at HW4
  have y0 := HQ4.out.cell hne HN3.out x0
  have y1 := HQ4.out.cell hne HN3.out x1
  have y2 := HQ4.out.cell hne HN3.out x2
  have HN4 : Hid (¬ Ot w4 g w.heap.size) := (HQ4.out.keep w.heap.size (World.block_lt_of_cell? _ _ x0) hne HN3.out).2
  have HF4 : Hid (Fl g w w4) := HF3.out.trans HQ4.out
  have hgr4 : g < w4.heap.size := HW4.out.lt
  clear x0 x1 x2 HC4 HQ4 HS3 WD
  go_wp2_with fail
  refine (NB.out (Z3 ++ ib wo) w4 HW4.out HF4.out (by have := HWDL.out; simp; omega)).mono ?_
  rintro e w5 ⟨⟨v5, rfl⟩, hW5, hF5⟩
  have HF5 : Hid (Fl g w w5) := HF4.out.trans hF5
  have HW5 : Hid (Wl uw uk w5 g (Z3 ++ ib wo ++ ll)) := hW5
  clear hW5 hF5
  have hgr5 : g < w5.heap.size := HW5.out.lt
  have P5 : Hid (Calls Tryz.prog 45 #[.pointer (some ⟨g, 0, none⟩), .slice (some ⟨w5.heap.size, 0, none⟩) 1 1] (w5.alloc (.cells #[.int .u8 10] 5)) fun e w' => (∃ v, e = .returned v) ∧ Wl uw uk w' g (Z3 ++ ib wo ++ ll ++ [10]) ∧ Fl g (w5.alloc (.cells #[.int .u8 10] 5)) w') := put_any uw uk g (some ⟨w5.heap.size, 0, none⟩) 1 1 [10] _ _ (HW5.out.alloc _) rfl (rd_one _ _) (by have := HWDL.out; simp; omega)
  go_wp2_with fail
  with_reducible refine P5.out.mono ?_
  rintro e w6 ⟨⟨v6, rfl⟩, hW6, hF6⟩
  go_wp2
  go_returns
  exact ⟨⟨_, rfl⟩, hW6.to (by rw [HE.out, HZ3.out]; simp), (HF5.out.alloc hgr5 _).trans hF6⟩

set_option maxRecDepth 100000 in
set_option maxHeartbeats 4000000 in
theorem ins_const (g gw k : Nat) (az bz : Nat) (ak : Option Addr) (ck : Nat) (ks : List Cn) (zs : List Int) (w0 w : World) (W : Wl (.slice (some ⟨gw, 0, none⟩) 28 28) (.slice ak ks.length ck) w g zs) (h0 : Below w0.heap.size w0 w) (hg : w0.heap.size ≤ g) (hT : Tab w0) (_hS : Shp w0) (hwd : ∀ o, o < 28 → w0.cell? ⟨gw, o, none⟩ = some (.string ⟨(wd o).toArray⟩)) (hk : RdKV w0 (.slice ak ks.length ck) ks) (hN : Num ks) (hx : ∀ i, i < ks.length → (ks.getD i cn0).text.length ≤ 5000) (haz : az < ks.length) (hkk : k ≤ 1048576) (hb : zs.length ≤ 60000000000000) :
    Calls Tryz.prog 23 #[.pointer (some ⟨g, 0, none⟩), .int .i64 (k : Int), .agg #[.int .i64 0, .int .i64 (az : Int), .int .i64 (bz : Int)]] w fun e w' => (∃ v, e = .returned v) ∧ Wl (.slice (some ⟨gw, 0, none⟩) 28 28) (.slice ak ks.length ck) w' g (zs ++ insL ks k ⟨(0 : Int), (az : Int), (bz : Int)⟩) ∧ Fl g w w' := by
  obtain ⟨uw, huw⟩ : ∃ v, v = Value.slice (some ⟨gw, 0, none⟩) 28 28 := ⟨_, rfl⟩
  obtain ⟨uk, huk⟩ : ∃ v, v = Value.slice ak ks.length ck := ⟨_, rfl⟩
  rw [← huw, ← huk] at W
  rw [← huw, ← huk]
  have hgl := W.lt
  have hne : w.heap.size ≠ g := by omega
  have lw := wd_len 0
  have HL : Hid (∀ W, Fl g w W → Below w0.heap.size w0 W) := fun W h => h0.trans (h.below.mono hg)
  have D : Hid (∀ Y W, Wl uw uk W g Y → Fl g w W → Y.length ≤ 90000000000000 → Calls Tryz.prog 44 #[.pointer (some ⟨g, 0, none⟩), .int .i64 (k : Int)] W fun e w' => (∃ v, e = .returned v) ∧ Wl uw uk w' g (Y ++ dc k) ∧ Fl g W w') := fun Y W h1 h2 h3 =>
    decimal_any uw uk g k Y w0 W h1 (HL.out W h2) hg hT (by omega) (by omega) (by omega)
  have lk := dc_len (k : Int) (by omega) (by omega)
  have HWD : Hid (∀ W, Fl g w W → W.cell? ⟨gw, 0, none⟩ = some (.string ⟨(wd 0).toArray⟩)) := fun W h => cellB (hwd 0 (by omega)) (HL.out W h)
  have HE : Hid (insL ks k ⟨(0 : Int), (az : Int), (bz : Int)⟩ = [32] ++ dc k ++ [32] ++ ib (wd 0) ++ litL (ks.getD az cn0) ++ [10]) := rfl
  have HKR : Hid (∀ W, Fl g w W → RdKV W (.slice ak ks.length ck) ks) := fun W h => hk.below (HL.out W h)
  have lt := lit_at ks hN hx az
  obtain ⟨n0, n1⟩ := hN az haz
  have hxx := hx az haz
  obtain ⟨_, _, eK, _, rK⟩ := hk
  simp only [Value.slice.injEq] at eK
  obtain ⟨rfl, -, rfl⟩ := eK
  obtain ⟨b, off, ut, rfl, k0, k1, k2, ht⟩ := rK az haz
  clear rK
  have HKC : Hid (∀ W, Fl g w W → W.cell? ⟨b, off + az * 3, none⟩ = some (.bool (ks.getD az cn0).isText) ∧ W.cell? ⟨b, off + az * 3 + 1, none⟩ = some (.int .i64 (ks.getD az cn0).n) ∧ W.cell? ⟨b, off + az * 3 + 2, none⟩ = some ut) := fun W h => ⟨cellB k0 (HL.out W h), cellB k1 (HL.out W h), cellB k2 (HL.out W h)⟩
  clear k0 k1 k2 HKR
  generalize ks.getD az cn0 = d at HE lt n0 n1 hxx ht HKC
  obtain ⟨kb, nn, tx⟩ := d
  simp only at n0 n1 hxx ht HKC
  have LT : Hid (∀ Y W, Wl uw uk W g Y → Fl g w W → Y.length ≤ 90000000000000 → Calls Tryz.prog 47 #[.pointer (some ⟨g, 0, none⟩), .agg #[.bool kb, .int .i64 nn, ut]] W fun e w' => (∃ v, e = .returned v) ∧ Wl uw uk w' g (Y ++ litL ⟨kb, nn, tx⟩) ∧ Fl g W w') := fun Y W h1 h2 h3 => by
    cases kb
    · exact literal_num uw uk g nn ut tx Y w0 W h1 (HL.out W h2) hg hT ht n0 n1 (by omega)
    · exact literal_text uw uk g nn ut tx Y w0 W h1 (HL.out W h2) hg ht hxx (by omega)
  have hazI : (az : Int) < (ks.length : Int) := by omega
  generalize litL ⟨kb, nn, tx⟩ = ll at HE lt LT
  clear n0 n1 hxx ht
  have HWDL : Hid ((ib (wd 0)).length ≤ 9) := by show _ ≤ _; rw [ib_length]; exact lw
  have WD0 : Hid (∀ Y W, Wl uw uk W g Y → Y.length ≤ 90000000000000 → Calls Tryz.prog 43 #[.pointer (some ⟨g, 0, none⟩), .string ⟨(wd 0).toArray⟩] W fun e w' => (∃ v, e = .returned v) ∧ Wl uw uk w' g (Y ++ ib (wd 0)) ∧ Fl g W w') := fun Y W h1 h2 =>
    word_any uw uk g ⟨(wd 0).toArray⟩ (wd 0).length Y W h1 rfl (by omega)
  generalize wd 0 = wo at HE HWD HWDL WD0
  obtain ⟨W1, hW1⟩ : ∃ W1, W1 = w.alloc (.cells #[.int .i64 0, .int .i64 (az : Int), .int .i64 (bz : Int)] 51) := ⟨_, rfl⟩
  have HX : Hid (¬ Ot W1 g w.heap.size) := by rw [hW1]; exact W.fresh _
  have F0 : Hid (Fl g w W1) := by rw [hW1]; exact (Fl.refl g w).alloc hgl _
  have HW1 : Hid (Wl uw uk W1 g zs) := by rw [hW1]; exact W.alloc _
  have hgr1 : g < W1.heap.size := HW1.out.lt
  have b0 : W1.cell? ⟨w.heap.size, 0, none⟩ = some (.int .i64 0) := by rw [hW1]; exact cellNew rfl
  have b1 : W1.cell? ⟨w.heap.size, 1, none⟩ = some (.int .i64 (az : Int)) := by rw [hW1]; exact cellNew rfl
  have b2 : W1.cell? ⟨w.heap.size, 2, none⟩ = some (.int .i64 (bz : Int)) := by rw [hW1]; exact cellNew rfl
  have P1 : Hid (Calls Tryz.prog 45 #[.pointer (some ⟨g, 0, none⟩), .slice (some ⟨w.heap.size + 1, 0, none⟩) 1 1] (W1.alloc (.cells #[.int .u8 32] 5)) fun e w' => (∃ v, e = .returned v) ∧ Wl uw uk w' g (zs ++ [32]) ∧ Fl g (W1.alloc (.cells #[.int .u8 32] 5)) w') := by
    have h := rd_one W1 32
    rw [show W1.heap.size = w.heap.size + 1 by rw [hW1]; simp] at h
    exact put_any uw uk g (some ⟨w.heap.size + 1, 0, none⟩) 1 1 [32] zs _ (HW1.out.alloc _) rfl h (by omega)
  rw [hW1] at P1
  have HWX : Hid (W1 = w.alloc (.cells #[.int .i64 0, .int .i64 (az : Int), .int .i64 (bz : Int)] 51)) := hW1
  clear W h0 hT _hS hW1 HW1 hwd lw hN hx
  go_enter Tryz.func23, Tryz.ntmps23
  go_wp2_with fail
  with_reducible refine P1.out.mono ?_
  rw [← HWX.out]
  rintro e w1 ⟨⟨v1, rfl⟩, hW1, hF1⟩
  have x0 := hF1.cell hne (ot_alloc HX.out hgr1) (cellOld b0)
  have x1 := hF1.cell hne (ot_alloc HX.out hgr1) (cellOld b1)
  have x2 := hF1.cell hne (ot_alloc HX.out hgr1) (cellOld b2)
  have HN1 : Hid (¬ Ot w1 g w.heap.size) := (hF1.keep w.heap.size (World.block_lt_of_cell? _ _ (cellOld b0)) hne (ot_alloc HX.out hgr1)).2
  have HF1 : Hid (Fl g w w1) := (F0.out.alloc hgr1 _).trans hF1
  have HW1 : Hid (Wl uw uk w1 g (zs ++ [32])) := hW1
  clear hW1 hF1 b0 b1 b2 P1
  go_wp2_with fail
  refine (D.out (zs ++ [32]) w1 HW1.out HF1.out (by simp; omega)).mono ?_
  rintro e w2 ⟨⟨v2, rfl⟩, hW2, hF2⟩
  have y0 := hF2.cell hne HN1.out x0
  have y1 := hF2.cell hne HN1.out x1
  have y2 := hF2.cell hne HN1.out x2
  have HN2 : Hid (¬ Ot w2 g w.heap.size) := (hF2.keep w.heap.size (World.block_lt_of_cell? _ _ x0) hne HN1.out).2
  have HF2 : Hid (Fl g w w2) := HF1.out.trans hF2
  have HW2 : Hid (Wl uw uk w2 g (zs ++ [32] ++ dc k)) := hW2
  have hgr2 : g < w2.heap.size := hW2.lt
  clear hW2 hF2 x0 x1 x2
  have P2 : Hid (Calls Tryz.prog 45 #[.pointer (some ⟨g, 0, none⟩), .slice (some ⟨w2.heap.size, 0, none⟩) 1 1] (w2.alloc (.cells #[.int .u8 32] 5)) fun e w' => (∃ v, e = .returned v) ∧ Wl uw uk w' g (zs ++ [32] ++ dc k ++ [32]) ∧ Fl g (w2.alloc (.cells #[.int .u8 32] 5)) w') := put_any uw uk g (some ⟨w2.heap.size, 0, none⟩) 1 1 [32] _ _ (HW2.out.alloc _) rfl (rd_one _ _) (by simp; omega)
  go_wp2_with fail
  with_reducible refine P2.out.mono ?_
  rintro e w3 ⟨⟨v3, rfl⟩, hW3, hF3⟩
  have x0 := hF3.cell hne (ot_alloc HN2.out hgr2) (cellOld y0)
  have x1 := hF3.cell hne (ot_alloc HN2.out hgr2) (cellOld y1)
  have x2 := hF3.cell hne (ot_alloc HN2.out hgr2) (cellOld y2)
  have HN3 : Hid (¬ Ot w3 g w.heap.size) := (hF3.keep w.heap.size (World.block_lt_of_cell? _ _ (cellOld y0)) hne (ot_alloc HN2.out hgr2)).2
  have HF3 : Hid (Fl g w w3) := (HF2.out.alloc hgr2 _).trans hF3
  obtain ⟨Z3, hZ3⟩ : ∃ Z, Z = zs ++ [32] ++ dc k ++ [32] := ⟨_, rfl⟩
  have l3 : Z3.length ≤ zs.length + 24 := by rw [hZ3]; simp; omega
  have HW3 : Hid (Wl uw uk w3 g Z3) := hW3.to hZ3.symm
  have HZ3 : Hid (Z3 = zs ++ [32] ++ dc k ++ [32]) := hZ3
  clear hW3 hF3 y0 y1 y2 P2 hZ3
  have HS3 : Hid (∀ W, Below w3.heap.size w3 W → W.cell? ⟨g, 1, none⟩ = some uw ∧ W.cell? ⟨w.heap.size, 0, none⟩ = some (.int .i64 0) ∧ W.cell? ⟨gw, 0, none⟩ = some (.string ⟨wo.toArray⟩)) := fun W h => ⟨cellB HW3.out.at1 h, cellB x0 h, cellB (HWD.out w3 HF3.out) h⟩
  have WD : Hid (∀ W, Below w3.heap.size w3 W → Calls Tryz.prog 43 #[.pointer (some ⟨g, 0, none⟩), .string ⟨wo.toArray⟩] W fun e w4 => (∃ v, e = .returned v) ∧ Hid (Wl uw uk w4 g (Z3 ++ ib wo)) ∧ Hid (Fl g w3 w4) ∧ Hid (w4.cell? ⟨g, 1, none⟩ = some uw ∧ w4.cell? ⟨w.heap.size, 0, none⟩ = some (.int .i64 0) ∧ w4.cell? ⟨gw, 0, none⟩ = some (.string ⟨wo.toArray⟩))) := fun W h => by
    refine (WD0.out Z3 W (HW3.out.keep h) (by omega)).mono ?_
    rintro e w4 ⟨k1, k2, k3⟩
    have k4 : Fl g w3 w4 := ((Fl.refl g w3).grown HW3.out.lt h).trans k3
    exact ⟨k1, k2, k4, k2.at1, k4.cell hne HN3.out x0, HWD.out w4 (HF3.out.trans k4)⟩
  rw [huw] at HS3 WD
  go_wp2_with fail
  go_region_held3 (fun W => W.cell? ⟨g, 1, none⟩ = some (.slice (some ⟨gw, 0, none⟩) 28 28) ∧ W.cell? ⟨w.heap.size, 0, none⟩ = some (.int .i64 0) ∧ W.cell? ⟨gw, 0, none⟩ = some (.string ⟨wo.toArray⟩)) (first | exact HC4.out | (refine HS3.out _ ?_; repeat (first | exact Below.refl _ _ | refine Below.drew ?_ | refine bel_drewN ?_ _))) (first | (go_at_call 43; with_reducible refine Calls.mono (WD.out _ (by repeat (first | exact Below.refl _ _ | refine Below.drew ?_ | refine bel_drewN ?_ _))) ?_; rintro e w4 ⟨⟨v4, rfl⟩, HW4, HQ4, HC4⟩))
  rw [← huw] at HW4
  have y0 := HQ4.out.cell hne HN3.out x0
  have y1 := HQ4.out.cell hne HN3.out x1
  have y2 := HQ4.out.cell hne HN3.out x2
  have HN4 : Hid (¬ Ot w4 g w.heap.size) := (HQ4.out.keep w.heap.size (World.block_lt_of_cell? _ _ x0) hne HN3.out).2
  have HF4 : Hid (Fl g w w4) := HF3.out.trans HQ4.out
  have hgr4 : g < w4.heap.size := HW4.out.lt
  clear x0 x1 x2 HC4 HQ4 HS3 WD
  have HS4 : Hid (∀ W, Below w4.heap.size w4 W → W.cell? ⟨g, 2, none⟩ = some uk ∧ W.cell? ⟨w.heap.size, 1, none⟩ = some (.int .i64 (az : Int)) ∧ W.cell? ⟨b, off + az * 3, none⟩ = some (.bool kb) ∧ W.cell? ⟨b, off + az * 3 + 1, none⟩ = some (.int .i64 nn) ∧ W.cell? ⟨b, off + az * 3 + 2, none⟩ = some ut) := fun W h => ⟨cellB HW4.out.at2 h, cellB y1 h, HKC.out W (HF4.out.grown hgr4 h)⟩
  have LL : Hid (∀ W, Below w4.heap.size w4 W → Calls Tryz.prog 47 #[.pointer (some ⟨g, 0, none⟩), .agg #[.bool kb, .int .i64 nn, ut]] W fun e w5 => (∃ v, e = .returned v) ∧ Hid (Wl uw uk w5 g (Z3 ++ ib wo ++ ll)) ∧ Hid (Fl g w4 w5) ∧ Hid (w5.cell? ⟨g, 2, none⟩ = some uk ∧ w5.cell? ⟨w.heap.size, 1, none⟩ = some (.int .i64 (az : Int)) ∧ w5.cell? ⟨b, off + az * 3, none⟩ = some (.bool kb) ∧ w5.cell? ⟨b, off + az * 3 + 1, none⟩ = some (.int .i64 nn) ∧ w5.cell? ⟨b, off + az * 3 + 2, none⟩ = some ut)) := fun W h => by
    refine (LT.out (Z3 ++ ib wo) W (HW4.out.keep h) (HF4.out.grown hgr4 h) (by have := HWDL.out; simp; omega)).mono ?_
    rintro e w5 ⟨k1, k2, k3⟩
    have k4 : Fl g w4 w5 := ((Fl.refl g w4).grown hgr4 h).trans k3
    exact ⟨k1, k2, k4, k2.at2, k4.cell hne HN4.out y1, HKC.out w5 (HF4.out.trans k4)⟩
  rw [huk] at HS4 LL
  go_wp2_with fail
  go_region_held3 (fun W => W.cell? ⟨g, 2, none⟩ = some (.slice (some ⟨b, off, none⟩) ks.length ck) ∧ W.cell? ⟨w.heap.size, 1, none⟩ = some (.int .i64 (az : Int)) ∧ W.cell? ⟨b, off + az * 3, none⟩ = some (.bool kb) ∧ W.cell? ⟨b, off + az * 3 + 1, none⟩ = some (.int .i64 nn) ∧ W.cell? ⟨b, off + az * 3 + 2, none⟩ = some ut) (first | exact HC5.out | (refine HS4.out _ ?_; repeat (first | exact Below.refl _ _ | refine Below.drew ?_ | refine bel_drewN ?_ _))) (first | (go_at_call 47; with_reducible refine Calls.mono (LL.out _ (by repeat (first | exact Below.refl _ _ | refine Below.drew ?_ | refine bel_drewN ?_ _))) ?_; rintro e w5 ⟨⟨v5, rfl⟩, HW5, HQ5, HC5⟩))
  rw [← huk] at HW5
  have HF5 : Hid (Fl g w w5) := HF4.out.trans HQ5.out
  clear HC5 HS4 LL HQ5
  have hgr5 : g < w5.heap.size := HW5.out.lt
  have P5 : Hid (Calls Tryz.prog 45 #[.pointer (some ⟨g, 0, none⟩), .slice (some ⟨w5.heap.size, 0, none⟩) 1 1] (w5.alloc (.cells #[.int .u8 10] 5)) fun e w' => (∃ v, e = .returned v) ∧ Wl uw uk w' g (Z3 ++ ib wo ++ ll ++ [10]) ∧ Fl g (w5.alloc (.cells #[.int .u8 10] 5)) w') := put_any uw uk g (some ⟨w5.heap.size, 0, none⟩) 1 1 [10] _ _ (HW5.out.alloc _) rfl (rd_one _ _) (by have := HWDL.out; simp; omega)
  go_wp2_with fail
  with_reducible refine P5.out.mono ?_
  rintro e w6 ⟨⟨v6, rfl⟩, hW6, hF6⟩
  go_wp2
  go_returns
  exact ⟨⟨_, rfl⟩, hW6.to (by rw [HE.out, HZ3.out]; simp), (HF5.out.alloc hgr5 _).trans hF6⟩
end Go.Proofs.YtopibfnjbejiiaaGreatDoor.ls
