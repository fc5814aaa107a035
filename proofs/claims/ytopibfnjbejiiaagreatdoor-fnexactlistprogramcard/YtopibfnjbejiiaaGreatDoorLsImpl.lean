import Derived.Test.YtopibfnjbejiiaaGreatDoorLsLists
import Derived.Test.YtopibfnjbejiiaaGreatDoorSvSpecA
import Derived.Test.YtopibfnjbejiiaaGreatDoorQuoteMore
import Derived.Test.YtopibfnjbejiiaaGreatDoorChkImplA
import Derived.WalkSmall
import Derived.Deep.RegionHeld3
namespace Go.Proofs.YtopibfnjbejiiaaGreatDoor.ls
open Go.RowKit Go.Proofs.YtopibfnjbejiiaaGreatDoor.bts Go.Proofs.YtopibfnjbejiiaaGreatDoor.pg Go.Proofs.YtopibfnjbejiiaaGreatDoor.chk Go.Proofs.YtopibfnjbejiiaaGreatDoor.sv Go.Proofs.YtopibfnjbejiiaaGreatDoor.fmt Go.Proofs.YtopibfnjbejiiaaGreatDoor.quo

/-- The library's table of powers of ten lies in its block. -/
def Tab (w : World) : Prop := Lib.TabIs Tryz.prog w "internal/strconv.uint64pow10" .u64 Lib.pow10Tab
theorem tabAt : Tryz.prog.globalNamed "internal/strconv.uint64pow10" = some 3 := by kernel_rfl
theorem Tab.below {w w' : World} (h : Tab w) (hb : Below w.heap.size w w') : Tab w' := by
  refine var?_below hb tabAt ?_ h
  unfold Tab Lib.TabIs World.var? at h
  rw [tabAt] at h
  simp only [Option.bind_some] at h
  rcases Nat.lt_or_ge 3 w.heap.size with h' | h'
  · exact h'
  · simp [Array.getElem?_eq_none h'] at h

theorem ot_below {w w' : World} {g b : Nat} (h : ¬ Ot w g b) (hg : g < w.heap.size) (hb : Below w.heap.size w w') : ¬ Ot w' g b :=
  fun ⟨n, cv, p, q, e⟩ => h ⟨n, cv, p, q, by rw [← e]; exact (hb.block g hg).symm⟩
/-- A row lies ready to be written. -/
def R2 (uw uk : Value) (w : World) (g : Nat) (zs ys : List Int) (W : World) (ao : Option Addr) : Prop := Wl uw uk W g zs ∧ Rd W ao ys ∧ Fl g w W
theorem fmt_r2 {uw uk : Value} {w w1 : World} {g : Nat} {zs : List Int} (h1 : Wl uw uk w1 g zs) (hF : Fl g w w1) (hT : ∀ W, Fl g w W → Tab W) (n : Int) (n0 : -9223372036854775808 ≤ n) (n1 : n ≤ 9223372036854775807) (W : World) (hb : Below w1.heap.size w1 W) :
    Calls Tryz.prog 46 #[.int .i64 n] W fun e w2 => ∃ ao c, e = .returned (.slice ao (fi n).length c) ∧ Hid (R2 uw uk w g zs (fi n) w2 ao) ∧ Hid (Below w1.heap.size w1 w2) := by
  refine (implFmt_any n n0 n1 W (hT W (hF.grown h1.lt hb))).mono ?_
  rintro e w2 ⟨b2, ao, c, rfl, ho⟩
  have b3 : Below w1.heap.size w1 w2 := hb.trans (b2.mono hb.size)
  exact ⟨ao, c, rfl, ⟨h1.keep b3, rd_own ho, hF.grown h1.lt b3⟩, b3⟩
theorem quote_r2 {uw uk : Value} {w w1 : World} {g : Nat} {zs : List Int} (h1 : Wl uw uk w1 g zs) (hF : Fl g w w1) (aX : Option Addr) (cX : Nat) (tx : List Int) (hr : RdV w1 (.slice aX tx.length cX) tx) (hl : tx.length ≤ 5000) (W : World) (hb : Below w1.heap.size w1 W) :
    Calls Tryz.prog 73 #[.slice aX tx.length cX] W fun e w2 => ∃ ao c, e = .returned (.slice ao (quote tx).length c) ∧ Hid (R2 uw uk w g zs (quote tx) w2 ao) ∧ Hid (Below w1.heap.size w1 w2) := by
  have hr2 := hr.below hb
  have hr3 := rdv_rd hr2
  obtain ⟨_, _, _, _, _, bX⟩ := hr2
  refine (implQuote_any aX cX tx W hr3 bX (by omega)).mono ?_
  rintro e w2 ⟨g', c, rfl, ho, b2⟩
  have b3 : Below w1.heap.size w1 w2 := hb.trans (b2.mono hb.size)
  exact ⟨_, c, rfl, ⟨h1.keep b3, rd_own ho, hF.grown h1.lt b3⟩, b3⟩
theorem put_r2 {uw uk : Value} {w : World} {g : Nat} {zs ys : List Int} (hb : zs.length + ys.length ≤ 140737488355328) (ao : Option Addr) (c : Nat) (W2 W : World) (h : Hid (R2 uw uk w g zs ys W2 ao)) (hB : Below W2.heap.size W2 W) :
    Calls Tryz.prog 45 #[.pointer (some ⟨g, 0, none⟩), .slice ao ys.length c] W fun e w3 => (∃ v, e = .returned v) ∧ Hid (Wl uw uk w3 g (zs ++ ys) ∧ Fl g w w3) ∧ Hid (Fl g W2 w3) := by
  obtain ⟨h1, h2, h3⟩ := h.out
  refine (put_any uw uk g ao ys.length c ys zs W (h1.keep hB) rfl (h2.below hB) hb).mono ?_
  rintro e w3 ⟨k1, k2, k3⟩
  exact ⟨k1, ⟨k2, (h3.grown h1.lt hB).trans k3⟩, ((Fl.refl g W2).grown h1.lt hB).trans k3⟩

set_option maxRecDepth 100000 in
set_option maxHeartbeats 1000000 in
/-- A blank and a number are written. -/
theorem decimal_any (uw uk : Value) (g : Nat) (n : Int) (zs : List Int) (w0 w : World) (W : Wl uw uk w g zs) (h0 : Below w0.heap.size w0 w) (hg : w0.heap.size ≤ g) (hT : Tab w0) (n0 : -9223372036854775808 ≤ n) (n1 : n ≤ 9223372036854775807) (hb : zs.length ≤ 100000000000000) :
    Calls Tryz.prog 44 #[.pointer (some ⟨g, 0, none⟩), .int .i64 n] w fun e w' => (∃ v, e = .returned v) ∧ Wl uw uk w' g (zs ++ dc n) ∧ Fl g w w' := by
  have hgl := W.lt
  have HW : Hid (Wl uw uk w g zs) := W
  have HT : Hid (∀ W, Fl g w W → Tab W) := fun W h => hT.below (h0.trans (h.below.mono hg))
  have hl := fi_len n n0 n1
  have F0 : Hid (∀ o, Fl g w (w.alloc o)) := fun o => (Fl.refl g w).alloc hgl o
  have P : Hid (∀ W', Wl uw uk W' g zs → Rd W' (some ⟨w.heap.size, 0, none⟩) [32] → Calls Tryz.prog 45 #[.pointer (some ⟨g, 0, none⟩), .slice (some ⟨w.heap.size, 0, none⟩) 1 1] W' fun e w' => (∃ v, e = .returned v) ∧ Wl uw uk w' g (zs ++ [32]) ∧ Fl g W' w') := fun W' h1 h2 => put_any uw uk g (some ⟨w.heap.size, 0, none⟩) 1 1 [32] zs W' h1 rfl h2 (by omega)
  clear W h0 hT
  go_enter Tryz.func44, Tryz.ntmps44
  go_wp2_with fail
  refine (P.out _ (HW.out.alloc _) (rd_one _ _)).mono ?_
  rintro e w1 ⟨⟨v1, rfl⟩, hW1, hF1⟩
  have HF1 : Hid (Fl g w w1) := (F0.out _).trans hF1
  have HW1 : Hid (Wl uw uk w1 g (zs ++ [32])) := hW1
  clear hW1 hF1
  have F : Hid _ := fmt_r2 HW1.out HF1.out HT.out n n0 n1
  have P2 : Hid (∀ ao c W2 W, Hid (R2 uw uk w g (zs ++ [32]) (fi n) W2 ao) → Below W2.heap.size W2 W → Calls Tryz.prog 45 #[.pointer (some ⟨g, 0, none⟩), .slice ao (fi n).length c] W fun e w3 => (∃ v, e = .returned v) ∧ Hid (Wl uw uk w3 g (zs ++ [32] ++ fi n) ∧ Fl g w w3) ∧ Hid (Fl g W2 w3)) := put_r2 (by simp; omega)
  go_wp2_with fail
  go_region_held3 (fun _ => True) (trivial) (first | (go_at_call 46; with_reducible refine Calls.mono (F.out _ (by repeat (first | exact Below.refl _ _ | refine Below.drew ?_ | refine bel_drewN ?_ _))) ?_; rintro e w2 ⟨ao, c, rfl, HR, HB⟩) | (go_at_call 45; with_reducible refine Calls.mono (P2.out _ _ _ _ HR (by repeat (first | exact Below.refl _ _ | refine Below.drew ?_ | refine bel_drewN ?_ _))) ?_; rintro e w3 ⟨⟨v3, rfl⟩, HZ, HQ⟩))
  go_wp2
  go_returns
  exact ⟨⟨_, rfl⟩, HZ.out.1.to (by simp [dc]), HZ.out.2⟩

set_option maxRecDepth 100000 in
set_option maxHeartbeats 1000000 in
/-- A number that is a constant is written. -/
theorem literal_num (uw uk : Value) (g : Nat) (n : Int) (ut : Value) (tx zs : List Int) (w0 w : World) (W : Wl uw uk w g zs) (h0 : Below w0.heap.size w0 w) (hg : w0.heap.size ≤ g) (hT : Tab w0) (ht : RdV w0 ut tx) (n0 : -9223372036854775808 ≤ n) (n1 : n ≤ 9223372036854775807) (hb : zs.length ≤ 100000000000000) :
    Calls Tryz.prog 47 #[.pointer (some ⟨g, 0, none⟩), .agg #[.bool false, .int .i64 n, ut]] w fun e w' => (∃ v, e = .returned v) ∧ Wl uw uk w' g (zs ++ litL ⟨false, n, tx⟩) ∧ Fl g w w' := by
  have hgl := W.lt
  obtain ⟨aX, cX, rfl, _, _⟩ := ht
  have P : Hid (∀ o, Calls Tryz.prog 44 #[.pointer (some ⟨g, 0, none⟩), .int .i64 n] (w.alloc o) fun e w' => (∃ v, e = .returned v) ∧ Wl uw uk w' g (zs ++ dc n) ∧ Fl g w w') := fun o =>
    (decimal_any uw uk g n zs w0 (w.alloc o) (W.alloc o) (h0.alloc h0.size o) hg hT n0 n1 hb).mono fun _ _ ⟨h1, h2, h3⟩ => ⟨h1, h2, ((Fl.refl g w).alloc hgl o).trans h3⟩
  clear W h0 hT
  go_enter Tryz.func47, Tryz.ntmps47
  go_wp2_with fail
  refine (P.out _).mono ?_
  rintro e w1 ⟨⟨v1, rfl⟩, hW1, hF1⟩
  go_wp2
  go_returns
  exact ⟨⟨_, rfl⟩, hW1, hF1⟩

set_option maxRecDepth 100000 in
set_option maxHeartbeats 1000000 in
/-- A text that is a constant is written, quoted. -/
theorem literal_text (uw uk : Value) (g : Nat) (n : Int) (ut : Value) (tx zs : List Int) (w0 w : World) (W : Wl uw uk w g zs) (h0 : Below w0.heap.size w0 w) (hg : w0.heap.size ≤ g) (ht : RdV w0 ut tx) (hx : tx.length ≤ 5000) (hb : zs.length ≤ 100000000000000) :
    Calls Tryz.prog 47 #[.pointer (some ⟨g, 0, none⟩), .agg #[.bool true, .int .i64 n, ut]] w fun e w' => (∃ v, e = .returned v) ∧ Wl uw uk w' g (zs ++ litL ⟨true, n, tx⟩) ∧ Fl g w w' := by
  have hgl := W.lt
  have hne : w.heap.size ≠ g := by omega
  have HT : Hid (∀ W, Fl g w W → RdV W ut tx) := fun W h => ht.below (h0.trans (h.below.mono hg))
  obtain ⟨aX, cX, rfl, _, _⟩ := ht
  have hl := quote_len tx
  have HW : Hid (Wl uw uk w g zs) := W
  obtain ⟨W1, hW1⟩ : ∃ W1, W1 = w.alloc (.cells #[.bool true, .int .i64 n, .slice aX tx.length cX] 75) := ⟨_, rfl⟩
  have HX : Hid (¬ Ot W1 g w.heap.size) := by rw [hW1]; exact W.fresh _
  have F0 : Hid (Fl g w W1) := by rw [hW1]; exact (Fl.refl g w).alloc hgl _
  have HW1 : Hid (Wl uw uk W1 g zs) := by rw [hW1]; exact W.alloc _
  have hgr1 : g < W1.heap.size := HW1.out.lt
  have b2 : W1.cell? ⟨w.heap.size, 2, none⟩ = some (.slice aX tx.length cX) := by rw [hW1]; exact cellNew rfl
  have P : Hid (Calls Tryz.prog 45 #[.pointer (some ⟨g, 0, none⟩), .slice (some ⟨w.heap.size + 1, 0, none⟩) 1 1] (W1.alloc (.cells #[.int .u8 32] 5)) fun e w' => (∃ v, e = .returned v) ∧ Wl uw uk w' g (zs ++ [32]) ∧ Fl g (W1.alloc (.cells #[.int .u8 32] 5)) w') := by
    have h := rd_one W1 32
    rw [show W1.heap.size = w.heap.size + 1 by rw [hW1]; simp] at h
    exact put_any uw uk g (some ⟨w.heap.size + 1, 0, none⟩) 1 1 [32] zs _ (HW1.out.alloc _) rfl h (by omega)
  rw [hW1] at P
  have HWX : Hid (W1 = w.alloc (.cells #[.bool true, .int .i64 n, .slice aX tx.length cX] 75)) := hW1
  clear W h0 hW1
  go_enter Tryz.func47, Tryz.ntmps47
  go_wp2_with fail
  refine P.out.mono ?_
  rw [← HWX.out]
  rintro e w1 ⟨⟨v1, rfl⟩, hW2, hF2⟩
  have c2 := hF2.cell hne (ot_alloc HX.out hgr1) (cellOld b2)
  have HN2 : Hid (¬ Ot w1 g w.heap.size) := (hF2.keep w.heap.size (World.block_lt_of_cell? _ _ (cellOld b2)) hne (ot_alloc HX.out hgr1)).2
  have HF2 : Hid (Fl g w w1) := (F0.out.alloc hgr1 _).trans hF2
  have HW2 : Hid (Wl uw uk w1 g (zs ++ [32])) := hW2
  clear hW2 hF2 b2 P
  have Q : Hid _ := quote_r2 HW2.out HF2.out aX cX tx (HT.out w1 HF2.out) hx
  have P2 : Hid (∀ ao c W2 W, Hid (R2 uw uk w g (zs ++ [32]) (quote tx) W2 ao) → Below W2.heap.size W2 W → Calls Tryz.prog 45 #[.pointer (some ⟨g, 0, none⟩), .slice ao (quote tx).length c] W fun e w3 => (∃ v, e = .returned v) ∧ Hid (Wl uw uk w3 g (zs ++ [32] ++ quote tx) ∧ Fl g w w3) ∧ Hid (Fl g W2 w3)) := put_r2 (by simp; omega)
  have HC : Hid (∀ W, Below w1.heap.size w1 W → W.cell? ⟨w.heap.size, 2, none⟩ = some (.slice aX tx.length cX)) := fun W h => cellB c2 h
  have HNO : Hid (∀ W, Below w1.heap.size w1 W → ¬ Ot W g w.heap.size) := fun W h => ot_below HN2.out HW2.out.lt h
  clear c2
  go_wp2_with fail
  go_region_held3 (fun W => W.cell? ⟨w.heap.size, 2, none⟩ = some (.slice aX tx.length cX)) (first | (exact HQ.out.cell hne (HNO.out _ HB.out) (HC.out _ HB.out)) | (refine HC.out _ ?_; repeat (first | exact Below.refl _ _ | exact HB.out | refine Below.drew ?_ | refine bel_drewN ?_ _))) (first | (go_at_call 73; with_reducible refine Calls.mono (Q.out _ (by repeat (first | exact Below.refl _ _ | refine Below.drew ?_ | refine bel_drewN ?_ _))) ?_; rintro e w2 ⟨ao, c, rfl, HR, HB⟩) | (go_at_call 45; with_reducible refine Calls.mono (P2.out _ _ _ _ HR (by repeat (first | exact Below.refl _ _ | refine Below.drew ?_ | refine bel_drewN ?_ _))) ?_; rintro e w3 ⟨⟨v3, rfl⟩, HZ, HQ⟩))
  go_wp2
  go_returns
  exact ⟨⟨_, rfl⟩, HZ.out.1.to (by simp [litL]), HZ.out.2⟩
end Go.Proofs.YtopibfnjbejiiaaGreatDoor.ls

namespace Go.Proofs.YtopibfnjbejiiaaGreatDoor.ls
open Go.RowKit Go.Proofs.YtopibfnjbejiiaaGreatDoor.bts Go.Proofs.YtopibfnjbejiiaaGreatDoor.pg Go.Proofs.YtopibfnjbejiiaaGreatDoor.chk Go.Proofs.YtopibfnjbejiiaaGreatDoor.sv Go.Proofs.YtopibfnjbejiiaaGreatDoor.fmt Go.Proofs.YtopibfnjbejiiaaGreatDoor.quo

theorem Wl.at1 {uw uk : Value} {w : World} {g : Nat} {zs : List Int} (h : Wl uw uk w g zs) : w.cell? ⟨g, 1, none⟩ = some uw := by
  obtain ⟨av, cv, h1, _⟩ := h
  have := cell_of_row w g 1 #[.slice av zs.length cv, uw, uk] 60 (0, 0) h1
  simpa using this
theorem Wl.at2 {uw uk : Value} {w : World} {g : Nat} {zs : List Int} (h : Wl uw uk w g zs) : w.cell? ⟨g, 2, none⟩ = some uk := by
  obtain ⟨av, cv, h1, _⟩ := h
  have := cell_of_row w g 2 #[.slice av zs.length cv, uw, uk] 60 (0, 0) h1
  simpa using this

theorem numL_of {op az bz sa sb : Nat} (ha : shA op = sa) (hb : shB op = sb) : numL ⟨(op : Int), (az : Int), (bz : Int)⟩ = (if sa = 0 then [] else dc az) ++ (if sb = 0 then [] else dc bz) := by
  unfold numL; rw [Int.toNat_natCast, ha, hb]

set_option maxRecDepth 100000 in
set_option maxHeartbeats 2000000 in
theorem numbers_any (uw uk : Value) (g op az bz : Nat) (zs : List Int) (w0 w : World) (W : Wl uw uk w g zs) (h0 : Below w0.heap.size w0 w) (hg : w0.heap.size ≤ g) (hT : Tab w0) (hS : Shp w0) (hop : op < 28) (ha : az < 2097152) (hbz : bz < 2097152) (hb : zs.length ≤ 90000000000000) :
    Calls Tryz.prog 48 #[.pointer (some ⟨g, 0, none⟩), .agg #[.int .i64 (op : Int), .int .i64 (az : Int), .int .i64 (bz : Int)]] w fun e w' => (∃ v, e = .returned v) ∧ Wl uw uk w' g (zs ++ numL ⟨(op : Int), (az : Int), (bz : Int)⟩) ∧ Fl g w w' := by
  have hgl := W.lt
  have hne : w.heap.size ≠ g := by omega
  have la := dc_len (az : Int) (by omega) (by omega)
  obtain ⟨sa, hsa⟩ : ∃ s, shA op = s := ⟨_, rfl⟩
  obtain ⟨sb, hsb⟩ : ∃ s, shB op = s := ⟨_, rfl⟩
  have HE : Hid (numL ⟨(op : Int), (az : Int), (bz : Int)⟩ = (if sa = 0 then [] else dc az) ++ (if sb = 0 then [] else dc bz)) := numL_of hsa hsb
  have HSH : Hid (∀ W, Fl g w W → W.cell? ⟨1, op * 4, none⟩ = some (.int .i64 (sa : Int)) ∧ W.cell? ⟨1, op * 4 + 1, none⟩ = some (.int .i64 (sb : Int))) := fun W h => by
    have := (hS.below (h0.trans (h.below.mono hg)) hS.lt) op hop
    rw [hsa, hsb] at this
    exact ⟨this.1, this.2.1⟩
  have D : Hid (∀ (z : Nat) Y W, z < 2097152 → Wl uw uk W g Y → Fl g w W → Y.length ≤ 90000000000022 → Calls Tryz.prog 44 #[.pointer (some ⟨g, 0, none⟩), .int .i64 (z : Int)] W fun e w' => (∃ v, e = .returned v) ∧ Wl uw uk w' g (Y ++ dc z) ∧ Fl g W w') := fun z Y W hz h1 h2 h3 =>
    decimal_any uw uk g z Y w0 W h1 (h0.trans (h2.below.mono hg)) hg hT (by omega) (by omega) (by omega)
  obtain ⟨W1, hW1⟩ : ∃ W1, W1 = w.alloc (.cells #[.int .i64 (op : Int), .int .i64 (az : Int), .int .i64 (bz : Int)] 51) := ⟨_, rfl⟩
  have HX : Hid (¬ Ot W1 g w.heap.size) := by rw [hW1]; exact W.fresh _
  have F0 : Hid (Fl g w W1) := by rw [hW1]; exact (Fl.refl g w).alloc hgl _
  have HW1 : Hid (Wl uw uk W1 g zs) := by rw [hW1]; exact W.alloc _
  have b0 : W1.cell? ⟨w.heap.size, 0, none⟩ = some (.int .i64 (op : Int)) := by rw [hW1]; exact cellNew rfl
  have b1 : W1.cell? ⟨w.heap.size, 1, none⟩ = some (.int .i64 (az : Int)) := by rw [hW1]; exact cellNew rfl
  have b2 : W1.cell? ⟨w.heap.size, 2, none⟩ = some (.int .i64 (bz : Int)) := by rw [hW1]; exact cellNew rfl
  have a0 := (HSH.out W1 F0.out).1
  have a1 := (HSH.out W1 F0.out).2
  rw [hW1] at a0 a1 HW1
  have HWX : Hid (W1 = w.alloc (.cells #[.int .i64 (op : Int), .int .i64 (az : Int), .int .i64 (bz : Int)] 51)) := hW1
  have hopI : (op : Int) < 28 := by omega
  clear W h0 hT hS hW1 hsa hsb
  rcases Nat.eq_zero_or_pos sa with rfl | hap
  · rcases Nat.eq_zero_or_pos sb with rfl | hbp
    · go_enter Tryz.func48, Tryz.ntmps48
      go_wp2
      go_returns
      rw [← HWX.out] at HW1 ⊢
      exact ⟨⟨_, rfl⟩, HW1.out.to (by rw [HE.out]; simp), F0.out⟩
    · have HB : Hid (¬ sb = 0) := by show ¬ _; omega
      have tb1 : ((sb : Int) == 0) = false := by simp; omega
      have tb2 : ((sb : Int) != 0) = true := by simp; omega
      have tb3 : ¬ (sb : Int) = 0 := by omega
      go_enter Tryz.func48, Tryz.ntmps48
      go_wp2_with fail
      refine (D.out bz zs _ hbz HW1.out (by rw [← HWX.out]; exact F0.out) (by omega)).mono ?_
      rw [← HWX.out]
      rintro e w2 ⟨⟨v2, rfl⟩, hW3, hF3⟩
      go_wp2
      go_returns
      exact ⟨⟨_, rfl⟩, hW3.to (by rw [HE.out, if_neg HB.out]; simp), F0.out.trans hF3⟩
  · rcases Nat.eq_zero_or_pos sb with rfl | hbp
    · have HA : Hid (¬ sa = 0) := by show ¬ _; omega
      have ta1 : ((sa : Int) == 0) = false := by simp; omega
      have ta2 : ((sa : Int) != 0) = true := by simp; omega
      have ta3 : ¬ (sa : Int) = 0 := by omega
      go_enter Tryz.func48, Tryz.ntmps48
      go_wp2_with fail
      refine (D.out az zs _ ha HW1.out (by rw [← HWX.out]; exact F0.out) (by omega)).mono ?_
      rw [← HWX.out]
      rintro e w1 ⟨⟨v1, rfl⟩, hW2, hF2⟩
      have y0 := hF2.cell hne HX.out b0
      have y2 := hF2.cell hne HX.out b2
      have HF2 : Hid (Fl g w w1) := F0.out.trans hF2
      have z1 := (HSH.out w1 HF2.out).2
      have HW2 : Hid (Wl uw uk w1 g (zs ++ dc az)) := hW2
      clear hW2 hF2 b0 b1 b2 a0 a1
      go_wp2
      go_returns
      exact ⟨⟨_, rfl⟩, HW2.out.to (by rw [HE.out, if_neg HA.out]; simp), HF2.out⟩
    · have HA : Hid (¬ sa = 0) := by show ¬ _; omega
      have ta1 : ((sa : Int) == 0) = false := by simp; omega
      have ta2 : ((sa : Int) != 0) = true := by simp; omega
      have ta3 : ¬ (sa : Int) = 0 := by omega
      have HB : Hid (¬ sb = 0) := by show ¬ _; omega
      have tb1 : ((sb : Int) == 0) = false := by simp; omega
      have tb2 : ((sb : Int) != 0) = true := by simp; omega
      have tb3 : ¬ (sb : Int) = 0 := by omega
      go_enter Tryz.func48, Tryz.ntmps48
      go_wp2_with fail
      refine (D.out az zs _ ha HW1.out (by rw [← HWX.out]; exact F0.out) (by omega)).mono ?_
      rw [← HWX.out]
      rintro e w1 ⟨⟨v1, rfl⟩, hW2, hF2⟩
      have y0 := hF2.cell hne HX.out b0
      have y2 := hF2.cell hne HX.out b2
      have HF2 : Hid (Fl g w w1) := F0.out.trans hF2
      have z1 := (HSH.out w1 HF2.out).2
      have HW2 : Hid (Wl uw uk w1 g (zs ++ dc az)) := hW2
      clear hW2 hF2 b0 b1 b2 a0 a1
      go_wp2_with fail
      refine (D.out bz (zs ++ dc az) w1 hbz HW2.out HF2.out (by simp; omega)).mono ?_
      rintro e w2 ⟨⟨v2, rfl⟩, hW3, hF3⟩
      go_wp2
      go_returns
      exact ⟨⟨_, rfl⟩, hW3.to (by rw [HE.out, if_neg HA.out, if_neg HB.out]; simp), HF2.out.trans hF3⟩
end Go.Proofs.YtopibfnjbejiiaaGreatDoor.ls
