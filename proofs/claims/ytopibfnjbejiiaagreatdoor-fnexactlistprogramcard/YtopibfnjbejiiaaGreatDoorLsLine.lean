import Derived.Test.YtopibfnjbejiiaaGreatDoorLsLists
import Derived.Test.YtopibfnjbejiiaaGreatDoorSvSpecA
import Derived.Test.YtopibfnjbejiiaaGreatDoorQuoteMore
import Derived.Test.YtopibfnjbejiiaaGreatDoorChkSpecA
import Derived.Laws.IdiomStrings
import Derived.Laws.Concat
import Derived.Test.YtopibfnjbejiiaaGreatDoorLsImpl
import Derived.Deep.RegionHeld3
import Derived.Test.YtopibfnjbejiiaaGreatDoorSvApp
import Derived.Lib.AppendStr
namespace Go.Proofs.YtopibfnjbejiiaaGreatDoor.ls
open Go.RowKit Go.Proofs.YtopibfnjbejiiaaGreatDoor.bts Go.Proofs.YtopibfnjbejiiaaGreatDoor.pg Go.Proofs.YtopibfnjbejiiaaGreatDoor.chk Go.Proofs.YtopibfnjbejiiaaGreatDoor.sv Go.Proofs.YtopibfnjbejiiaaGreatDoor.fmt Go.Proofs.YtopibfnjbejiiaaGreatDoor.quo

/-- A list of bytes as a text. -/
def u8 (zs : List Int) : List UInt8 := zs.map fun z => UInt8.ofNat z.toNat
def st (zs : List Int) : ByteArray := ⟨(u8 zs).toArray⟩
theorem u8_ib (l : List UInt8) : u8 (ib l) = l := by
  unfold u8 ib
  rw [List.map_map]
  conv => rhs; rw [← List.map_id l]
  exact List.map_congr_left fun b _ => by simp
theorem u8_append (xs ys : List Int) : u8 (xs ++ ys) = u8 xs ++ u8 ys := by simp [u8]
theorem st_append (xs ys : List Int) : st (xs ++ ys) = st xs ++ st ys := by unfold st; rw [u8_append, ← ByteArray.mk_append_mk]
theorem st_size (zs : List Int) : (st zs).size = zs.length := by simp [st, u8, ByteArray.size]
theorem st_fi (v : Int) : st (fi v) = ⟨(Lib.itoa v).toArray⟩ := by unfold st fi; rw [u8_ib]
theorem ib_u8 {zs : List Int} (h : ∀ z ∈ zs, 0 ≤ z ∧ z ≤ 255) : ib (u8 zs) = zs := by
  unfold ib u8
  rw [List.map_map]
  conv => rhs; rw [← List.map_id zs]
  refine List.map_congr_left fun z hz => ?_
  have := h z hz
  simp
  omega

theorem dd_pos {x : Int} (h : 0 ≤ x) : 0 < (dd x).length := by
  by_cases hx : x < 10
  · rw [dd_small h hx]; simp
  · rw [dd_step (by omega)]; simp
theorem fi_pos_len (v : Int) : 0 < (fi v).length := by
  by_cases h : 0 ≤ v
  · rw [fi_pos h]; exact dd_pos h
  · rw [fi_neg (by omega)]; simp

/-- A row of bytes as a text. -/
theorem conv_back {w : World} {ao : Option Addr} {c n : Nat} {l : List UInt8} (h : Rd w ao (ib l)) (hl : 0 < l.length) (hn : n = l.length) :
    (convert 27 9 (.slice ao n c)).run Tryz.prog w = .ok (.string ⟨l.toArray⟩) w := by
  subst hn
  obtain ⟨b, off, rfl, _⟩ := h 0 (by rw [ib_length]; exact hl)
  refine run_convert_bytes_back w _ _ 5 ⟨b, off, none⟩ c l Tryz.underlying27 Tryz.underlying5 Tryz.underlying9 (fun j hj => ?_)
  obtain ⟨b', off', e, hc⟩ := h j (by rw [ib_length]; exact hj)
  cases e
  rw [plainAt, hc]
  simp [ib, hj]

theorem specFmt_any (v : Int) (h0 : -9223372036854775808 ≤ v) (h1 : v ≤ 9223372036854775807) (w : World) : Calls Tryz.prog 32 #[.int .i64 v] w (FmtPost v (fi v).length w) := by
  by_cases h : 0 ≤ v
  · exact specFmt_pos v h h1 w
  · exact specFmt_neg v h0 (by omega) w

set_option maxRecDepth 100000 in
set_option maxHeartbeats 1000000 in
theorem l5dec_any (v : Int) (h0 : -9223372036854775808 ≤ v) (h1 : v ≤ 9223372036854775807) (w : World) :
    Calls Tryz.prog 16 #[.int .i64 v] w fun e w' => e = .returned (.string (st (fi v))) ∧ Below w.heap.size w w' := by
  have C : Hid (Calls Tryz.prog 32 #[.int .i64 v] w (FmtPost v (fi v).length w)) := specFmt_any v h0 h1 w
  go_enter Tryz.func16, Tryz.ntmps16
  go_wp2_with fail
  refine C.out.mono ?_
  rintro e w1 ⟨b1, ao, c, rfl, ho⟩
  have kv := conv_back (c := c) (n := (fi v).length) (l := Lib.itoa v) (rd_own ho) (by have := fi_pos_len v; rw [fi, ib_length] at this; exact this) (by rw [fi, ib_length])
  rw [← st_fi] at kv
  clear ho
  go_wp2
  go_returns
  exact ⟨rfl, b1⟩

set_option maxRecDepth 100000 in
theorem word_cell (op : Nat) (h : op < 28) (w : World) : (w.alloc (.cells #[.string { data := #[99, 111, 110, 115, 116] }, .string { data := #[110, 105, 108] }, .string { data := #[116, 114, 117, 101] }, .string { data := #[102, 97, 108, 115, 101] }, .string { data := #[98, 117, 105, 108, 116, 105, 110] }, .string { data := #[103, 101, 116] }, .string { data := #[115, 101, 116] }, .string { data := #[110, 101, 119] }, .string { data := #[117, 112] }, .string { data := #[115, 101, 116, 117, 112] }, .string { data := #[102, 117, 110, 99] }, .string { data := #[116, 97, 98, 108, 101] }, .string { data := #[102, 105, 101, 108, 100] }, .string { data := #[105, 110, 100, 101, 120] }, .string { data := #[115, 116, 111, 114, 101] }, .string { data := #[98, 105, 110] }, .string { data := #[110, 111, 116] }, .string { data := #[110, 101, 103] }, .string { data := #[106, 117, 109, 112] }, .string { data := #[106, 117, 109, 112, 102, 97, 108, 115, 101] }, .string { data := #[97, 110, 100] }, .string { data := #[111, 114] }, .string { data := #[99, 97, 108, 108] }, .string { data := #[116, 97, 105, 108] }, .string { data := #[114, 101, 116, 117, 114, 110] }, .string { data := #[112, 111, 112] }, .string { data := #[102, 111, 114, 116, 101, 115, 116] }, .string { data := #[102, 111, 114, 110, 101, 120, 116] }] 9)).cell? ⟨w.heap.size, op, none⟩ = some (.string ⟨(wd op).toArray⟩) := by
  have hc : op = 0 ∨ op = 1 ∨ op = 2 ∨ op = 3 ∨ op = 4 ∨ op = 5 ∨ op = 6 ∨ op = 7 ∨ op = 8 ∨ op = 9 ∨ op = 10 ∨ op = 11 ∨ op = 12 ∨ op = 13 ∨ op = 14 ∨ op = 15 ∨ op = 16 ∨ op = 17 ∨ op = 18 ∨ op = 19 ∨ op = 20 ∨ op = 21 ∨ op = 22 ∨ op = 23 ∨ op = 24 ∨ op = 25 ∨ op = 26 ∨ op = 27 := by omega
  simp only [World.cell?, heap_alloc_new]
  clear h
  rcases hc with rfl | rfl | rfl | rfl | rfl | rfl | rfl | rfl | rfl | rfl | rfl | rfl | rfl | rfl | rfl | rfl | rfl | rfl | rfl | rfl | rfl | rfl | rfl | rfl | rfl | rfl | rfl | rfl
  all_goals rfl

set_option maxRecDepth 100000 in
set_option maxHeartbeats 4000000 in
theorem l5word_any (op : Nat) (h : op < 28) (w : World) :
    Calls Tryz.prog 33 #[.int .i64 op] w fun e w' => e = .returned (.string ⟨(wd op).toArray⟩) ∧ Below w.heap.size w w' := by
  have hcell := word_cell op h w
  generalize wd op = wo at hcell ⊢
  go_enter Tryz.func33, Tryz.ntmps33
  go_wp2
  go_returns
  exact ⟨rfl, by go_grown⟩
end Go.Proofs.YtopibfnjbejiiaaGreatDoor.ls

namespace Go.Proofs.YtopibfnjbejiiaaGreatDoor.ls
open Go.RowKit Go.Proofs.YtopibfnjbejiiaaGreatDoor.bts Go.Proofs.YtopibfnjbejiiaaGreatDoor.pg Go.Proofs.YtopibfnjbejiiaaGreatDoor.chk Go.Proofs.YtopibfnjbejiiaaGreatDoor.sv Go.Proofs.YtopibfnjbejiiaaGreatDoor.fmt Go.Proofs.YtopibfnjbejiiaaGreatDoor.quo

theorem ch0 (n : Nat) (h : n < 28) : ((chU (shA n)).toNat = 45 ↔ shA n = 0) ∧ ((chU (shB n)).toNat = 45 ↔ shB n = 0) := by
  have hall : ∀ i : Fin 28, ((chU (shA i.val)).toNat = 45 ↔ shA i.val = 0) ∧ ((chU (shB i.val)).toNat = 45 ↔ shB i.val = 0) := by decide
  exact hall ⟨n, h⟩
theorem cellI (w : World) (o : Obj) {cs : Array Value} {t : TypeId} {j : Nat} {v : Value} (h : cs[j]? = some v) : ((w.alloc o).alloc (.cells cs t)).cell? ⟨w.heap.size + 1, j, none⟩ = some v := by
  have := cellNew (w := w.alloc o) (t := t) h
  rwa [show (w.alloc o).heap.size = w.heap.size + 1 by simp] at this
theorem ret_st {a b : ByteArray} (h : a = b) : Ending.returned (.string a) = .returned (.string b) := by rw [h]
theorem qc_byte {c : Int} (h0 : 0 ≤ c) (h1 : c ≤ 255) : ∀ z ∈ qc c, 0 ≤ z ∧ z ≤ 255 := by
  intro z hz
  unfold qc at hz
  repeat' split at hz
  all_goals simp only [List.mem_cons, List.not_mem_nil, or_false] at hz
  all_goals (try unfold hexd at hz)
  all_goals (repeat' split at hz) <;> omega
theorem quote_byte {tx : List Int} (h : ∀ i, i < tx.length → 0 ≤ tx.getD i 0 ∧ tx.getD i 0 ≤ 255) : ∀ z ∈ quote tx, 0 ≤ z ∧ z ≤ 255 := by
  intro z hz
  unfold quote at hz
  simp only [List.cons_append, List.mem_cons, List.mem_append, List.mem_flatMap, List.not_mem_nil, or_false] at hz
  rcases hz with rfl | ⟨c, hc, hz⟩ | rfl
  · omega
  · obtain ⟨i, hi, rfl⟩ := List.getElem_of_mem hc
    have := h i hi
    rw [List.getD_eq_getElem?_getD, List.getElem?_eq_getElem hi] at this
    exact qc_byte this.1 this.2 z hz
  · omega

set_option maxRecDepth 100000 in
set_option maxHeartbeats 4000000 in
theorem line_other (k : Nat) (op az bz : Nat) (ak ap : Option Addr) (ck np cp : Nat) (ks : List Cn) (w : World) (_hk : RdKV w (.slice ak ks.length ck) ks) (_hN : Num ks) (_hx : ∀ i, i < ks.length → (ks.getD i cn0).text.length ≤ 5000) (hop0 : ¬ op = 0) (hop : op < 28) (ha : az < 2097152) (hbz : bz < 2097152) (hkk : k ≤ 1048576) :
    Calls Tryz.prog 17 #[.agg #[.slice ak ks.length ck, .slice ap np cp], .int .i64 (k : Int), .agg #[.int .i64 (op : Int), .int .i64 (az : Int), .int .i64 (bz : Int)]] w fun e w' => e = .returned (.string (st (insL ks k ⟨(op : Int), (az : Int), (bz : Int)⟩))) ∧ Below w.heap.size w w' := by
  have lk := fi_len (k : Int) (by omega) (by omega)
  have lw := wd_len op
  obtain ⟨W1, hW1⟩ : ∃ W1, W1 = (w.alloc (.cells #[.slice ak ks.length ck, .slice ap np cp] 32)).alloc (.cells #[.int .i64 (op : Int), .int .i64 (az : Int), .int .i64 (bz : Int)] 51) := ⟨_, rfl⟩
  have HB0 : Hid (Below w.heap.size w W1) := by show Below _ _ _; rw [hW1]; go_grown
  have HZ : Hid (W1.heap.size = w.heap.size + 2) := by show _ = _; rw [hW1]; simp
  have DEC : Hid (∀ W, Below W1.heap.size W1 W → Calls Tryz.prog 16 #[.int .i64 (k : Int)] W fun e w' => e = .returned (.string (st (fi k))) ∧ Hid (Below W1.heap.size W1 w')) := fun W h => (l5dec_any k (by omega) (by omega) W).mono fun _ _ ⟨h1, h2⟩ => ⟨h1, h.trans (h2.mono h.size)⟩
  have WRD : Hid (∀ W, Below W1.heap.size W1 W → Calls Tryz.prog 33 #[.int .i64 (op : Int)] W fun e w' => e = .returned (.string ⟨(wd op).toArray⟩) ∧ Hid (Below W1.heap.size W1 w')) := fun W h => (l5word_any op (by omega) W).mono fun _ _ ⟨h1, h2⟩ => ⟨h1, h.trans (h2.mono h.size)⟩
  have HL : Hid (⟨#[32, 32]⟩ ++ st (fi k) ++ ⟨#[32]⟩ ++ ⟨(wd op).toArray⟩ = st ([32] ++ dc k ++ [32] ++ ib (wd op))) := by
    have e : st (ib (wd op)) = ⟨(wd op).toArray⟩ := by unfold st; rw [u8_ib]
    show _ = _
    rw [show [32] ++ dc k ++ [32] ++ ib (wd op) = [32, 32] ++ fi k ++ [32] ++ ib (wd op) by simp [dc], st_append, st_append, st_append, e]
    rfl
  have HE : Hid (insL ks k ⟨(op : Int), (az : Int), (bz : Int)⟩ = [32] ++ dc k ++ [32] ++ ib (wd op) ++ numL ⟨(op : Int), (az : Int), (bz : Int)⟩ ++ [10]) := by show _ = _; unfold insL; simp only [Int.toNat_natCast]; rw [if_neg (by omega)]
  rw [HE.out]
  have HR : Hid (st ([32] ++ dc k ++ [32] ++ ib (wd op) ++ numL ⟨(op : Int), (az : Int), (bz : Int)⟩ ++ [10]) = st ([32] ++ dc k ++ [32] ++ ib (wd op)) ++ st (numL ⟨(op : Int), (az : Int), (bz : Int)⟩) ++ ⟨#[10]⟩) := by show _ = _; rw [st_append, st_append]; rfl
  rw [HR.out]
  generalize st ([32] ++ dc k ++ [32] ++ ib (wd op)) = base at HL ⊢
  clear HE HR
  have zk : (st (fi k)).size ≤ 21 := by rw [st_size]; exact lk
  have zw : (ByteArray.mk (wd op).toArray).size ≤ 9 := by simpa [ByteArray.size] using lw
  generalize (ByteArray.mk (wd op).toArray) = sW at WRD HL zw
  generalize st (fi (k : Int)) = sK at DEC HL zk
  have f1 : ¬ 9223372036854775807 < 2 + sK.size := by omega
  have f2 : ¬ 9223372036854775807 < 2 + sK.size + 1 := by omega
  have f3 : ¬ 9223372036854775807 < 2 + sK.size + 1 + sW.size := by omega
  have HC : Hid (∀ W, Below W1.heap.size W1 W → W.cell? ⟨w.heap.size + 1, 0, none⟩ = some (.int .i64 (op : Int))) := fun W h => cellB (by rw [hW1]; exact cellI w _ rfl) h
  have HCA : Hid (∀ W, Below W1.heap.size W1 W → W.cell? ⟨w.heap.size + 1, 1, none⟩ = some (.int .i64 (az : Int))) := fun W h => cellB (by rw [hW1]; exact cellI w _ rfl) h
  have HCB : Hid (∀ W, Below W1.heap.size W1 W → W.cell? ⟨w.heap.size + 1, 2, none⟩ = some (.int .i64 (bz : Int))) := fun W h => cellB (by rw [hW1]; exact cellI w _ rfl) h
  rw [hW1] at DEC WRD HC HCA HCB HB0
  clear hW1 HZ
  go_enter Tryz.func17, Tryz.ntmps17
  go_wp2_with fail
  go_region_held3 (fun W => W.cell? ⟨w.heap.size + 1, 0, none⟩ = some (.int .i64 (op : Int))) (first | (refine HC.out _ ?_; repeat (first | exact Below.refl _ _ | exact HB.out | refine Below.drew ?_ | refine bel_drewN ?_ _))) (first | (go_at_call 16; with_reducible refine Calls.mono (DEC.out _ (by repeat (first | exact Below.refl _ _ | exact HB.out | refine Below.drew ?_ | refine bel_drewN ?_ _))) ?_; rintro e w2 ⟨rfl, HB⟩) | (go_at_call 33; with_reducible refine Calls.mono (WRD.out _ (by repeat (first | exact Below.refl _ _ | exact HB.out | refine Below.drew ?_ | refine bel_drewN ?_ _))) ?_; rintro e w3 ⟨rfl, HB⟩))
  have zl : (({ data := #[32, 32] } : ByteArray) ++ sK ++ { data := #[32] } ++ sW).size ≤ 33 := by rw [ByteArray.size_append, ByteArray.size_append, ByteArray.size_append]; show 2 + sK.size + 1 + sW.size ≤ 33; omega
  generalize ({ data := #[32, 32] } : ByteArray) ++ sK ++ { data := #[32] } ++ sW = L1 at HL zl ⊢
  clear f1 f2 f3 DEC WRD zk zw
  have C := l4row_any op hop w3
  have h0 := ch0 op hop
  have HNL : Hid (numL ⟨(op : Int), (az : Int), (bz : Int)⟩ = (if shA op = 0 then [] else dc az) ++ (if shB op = 0 then [] else dc bz)) := numL_of rfl rfl
  generalize shA op = sa at C h0 HNL
  generalize shB op = sb at C h0 HNL
  generalize chU sa = ca at C h0
  generalize chU sb = cb at C h0
  generalize tk op = tkk at C
  generalize lvS op = lvv at C
  obtain ⟨h0a, h0b⟩ := h0
  have t1 : ((op : Int) == 0) = false := by simpa using hop0
  have t2 : ¬ (op : Int) = 0 := by omega
  have t3 : decide ((op : Int) = 0) = false := by simpa using hop0
  have DA : Hid (∀ W, Calls Tryz.prog 16 #[.int .i64 (az : Int)] W fun e w' => e = .returned (.string (st (fi az))) ∧ Below W.heap.size W w') := fun W => l5dec_any az (by omega) (by omega) W
  have DB : Hid (∀ W, Calls Tryz.prog 16 #[.int .i64 (bz : Int)] W fun e w' => e = .returned (.string (st (fi bz))) ∧ Below W.heap.size W w') := fun W => l5dec_any bz (by omega) (by omega) W
  have za : (st (fi az)).size ≤ 21 := by rw [st_size]; exact fi_len _ (by omega) (by omega)
  have zb : (st (fi bz)).size ≤ 21 := by rw [st_size]; exact fi_len _ (by omega) (by omega)
  have EA : Hid (⟨#[32]⟩ ++ st (fi az) = st (dc az)) := by show _ = _; rw [show dc (az : Int) = [32] ++ fi az from rfl, st_append]; rfl
  have EB : Hid (⟨#[32]⟩ ++ st (fi bz) = st (dc bz)) := by show _ = _; rw [show dc (bz : Int) = [32] ++ fi bz from rfl, st_append]; rfl
  have E0 : Hid (st [] = ByteArray.empty) := rfl
  generalize st (fi (az : Int)) = sA at DA za EA
  generalize st (fi (bz : Int)) = sB at DB zb EB
  have g1 : ¬ 9223372036854775807 < 1 + sA.size := by omega
  have g2 : ¬ 9223372036854775807 < 1 + sB.size := by omega
  have g3 : ¬ 9223372036854775807 < L1.size + (1 + sA.size) := by omega
  have g4 : ¬ 9223372036854775807 < L1.size + (1 + sB.size) := by omega
  have g5 : ¬ 9223372036854775807 < L1.size + (1 + sA.size) + (1 + sB.size) := by omega
  have g6 : ¬ 9223372036854775807 < L1.size + (1 + sA.size) + (1 + sB.size) + 1 := by omega
  have g7 : ¬ 9223372036854775807 < L1.size + (1 + sB.size) + 1 := by omega
  have g8 : ¬ 9223372036854775807 < L1.size + (1 + sA.size) + 1 := by omega
  have g9 : ¬ 9223372036854775807 < L1.size + 1 := by omega
  go_wp2_with fail
  refine C.mono ?_
  rintro e w4 ⟨rfl, b4⟩
  clear C
  have HB4 : Hid (Below _ _ w4) := HB.out.trans (b4.mono HB.out.size)
  have x0 := HC.out w4 HB4.out
  have x1 := HCA.out w4 HB4.out
  have x2 := HCB.out w4 HB4.out
  have HW4 : Hid (Below w.heap.size w w4) := HB0.out.trans (HB4.out.mono HB0.out.size)
  clear b4
  by_cases ha : sa = 0
  · by_cases hb : sb = 0
    · have qa : (ca.toNat : Int) = 45 := by have := h0a.2 ha; omega
      have qa1 : (((({ data := #[ca, cb] } : ByteArray)[0]'(show 0 < 2 by omega)).toNat : Int) == 45) = true := by show ((ca.toNat : Int) == 45) = true; simpa using qa
      have qa2 : (((({ data := #[ca, cb] } : ByteArray)[0]'(show 0 < 2 by omega)).toNat : Int) != 45) = false := by show ((ca.toNat : Int) != 45) = false; simpa using qa
      have qb : (cb.toNat : Int) = 45 := by have := h0b.2 hb; omega
      have qb1 : (((({ data := #[ca, cb] } : ByteArray)[1]'(show 1 < 2 by omega)).toNat : Int) == 45) = true := by show ((cb.toNat : Int) == 45) = true; simpa using qb
      have qb2 : (((({ data := #[ca, cb] } : ByteArray)[1]'(show 1 < 2 by omega)).toNat : Int) != 45) = false := by show ((cb.toNat : Int) != 45) = false; simpa using qb
      go_wp2
      go_returns
      exact ⟨ret_st (by rw [HNL.out, if_pos ha, if_pos hb, st_append, ← HL.out, E0.out]; simp ), HW4.out⟩
    · have qa : (ca.toNat : Int) = 45 := by have := h0a.2 ha; omega
      have qa1 : (((({ data := #[ca, cb] } : ByteArray)[0]'(show 0 < 2 by omega)).toNat : Int) == 45) = true := by show ((ca.toNat : Int) == 45) = true; simpa using qa
      have qa2 : (((({ data := #[ca, cb] } : ByteArray)[0]'(show 0 < 2 by omega)).toNat : Int) != 45) = false := by show ((ca.toNat : Int) != 45) = false; simpa using qa
      have qb : ¬ (cb.toNat : Int) = 45 := fun e => hb (h0b.1 (by omega))
      have qb1 : (((({ data := #[ca, cb] } : ByteArray)[1]'(show 1 < 2 by omega)).toNat : Int) == 45) = false := by show ((cb.toNat : Int) == 45) = false; simpa using qb
      have qb2 : (((({ data := #[ca, cb] } : ByteArray)[1]'(show 1 < 2 by omega)).toNat : Int) != 45) = true := by show ((cb.toNat : Int) != 45) = true; simpa using qb
      go_wp2_with fail
      refine (DB.out _).mono ?_
      rintro e w6 ⟨rfl, b6⟩
      have HW6 : Hid (Below w.heap.size w w6) := HB0.out.trans ((HB4.out.trans (b6.mono HB4.out.size)).mono HB0.out.size)
      clear b6
      go_wp2
      go_returns
      exact ⟨ret_st (by rw [HNL.out, if_pos ha, if_neg hb, st_append, ← HL.out, E0.out, ← EB.out]; simp [ByteArray.append_assoc]), HW6.out⟩
  · by_cases hb : sb = 0
    · have qa : ¬ (ca.toNat : Int) = 45 := fun e => ha (h0a.1 (by omega))
      have qa1 : (((({ data := #[ca, cb] } : ByteArray)[0]'(show 0 < 2 by omega)).toNat : Int) == 45) = false := by show ((ca.toNat : Int) == 45) = false; simpa using qa
      have qa2 : (((({ data := #[ca, cb] } : ByteArray)[0]'(show 0 < 2 by omega)).toNat : Int) != 45) = true := by show ((ca.toNat : Int) != 45) = true; simpa using qa
      have qb : (cb.toNat : Int) = 45 := by have := h0b.2 hb; omega
      have qb1 : (((({ data := #[ca, cb] } : ByteArray)[1]'(show 1 < 2 by omega)).toNat : Int) == 45) = true := by show ((cb.toNat : Int) == 45) = true; simpa using qb
      have qb2 : (((({ data := #[ca, cb] } : ByteArray)[1]'(show 1 < 2 by omega)).toNat : Int) != 45) = false := by show ((cb.toNat : Int) != 45) = false; simpa using qb
      go_wp2_with fail
      refine (DA.out _).mono ?_
      rintro e w5 ⟨rfl, b5⟩
      have HB5 : Hid (Below _ _ w5) := HB4.out.trans (b5.mono HB4.out.size)
      have y2 := HCB.out w5 HB5.out
      have HW5 : Hid (Below w.heap.size w w5) := HB0.out.trans (HB5.out.mono HB0.out.size)
      clear b5
      go_wp2
      go_returns
      exact ⟨ret_st (by rw [HNL.out, if_neg ha, if_pos hb, st_append, ← HL.out, ← EA.out, E0.out]; simp [ByteArray.append_assoc]), HW5.out⟩
    · have qa : ¬ (ca.toNat : Int) = 45 := fun e => ha (h0a.1 (by omega))
      have qa1 : (((({ data := #[ca, cb] } : ByteArray)[0]'(show 0 < 2 by omega)).toNat : Int) == 45) = false := by show ((ca.toNat : Int) == 45) = false; simpa using qa
      have qa2 : (((({ data := #[ca, cb] } : ByteArray)[0]'(show 0 < 2 by omega)).toNat : Int) != 45) = true := by show ((ca.toNat : Int) != 45) = true; simpa using qa
      have qb : ¬ (cb.toNat : Int) = 45 := fun e => hb (h0b.1 (by omega))
      have qb1 : (((({ data := #[ca, cb] } : ByteArray)[1]'(show 1 < 2 by omega)).toNat : Int) == 45) = false := by show ((cb.toNat : Int) == 45) = false; simpa using qb
      have qb2 : (((({ data := #[ca, cb] } : ByteArray)[1]'(show 1 < 2 by omega)).toNat : Int) != 45) = true := by show ((cb.toNat : Int) != 45) = true; simpa using qb
      go_wp2_with fail
      refine (DA.out _).mono ?_
      rintro e w5 ⟨rfl, b5⟩
      have HB5 : Hid (Below _ _ w5) := HB4.out.trans (b5.mono HB4.out.size)
      have y2 := HCB.out w5 HB5.out
      have HW5 : Hid (Below w.heap.size w w5) := HB0.out.trans (HB5.out.mono HB0.out.size)
      clear b5
      go_wp2_with fail
      refine (DB.out _).mono ?_
      rintro e w6 ⟨rfl, b6⟩
      have HW6 : Hid (Below w.heap.size w w6) := HB0.out.trans ((HB5.out.trans (b6.mono HB5.out.size)).mono HB0.out.size)
      clear b6
      go_wp2
      go_returns
      exact ⟨ret_st (by rw [HNL.out, if_neg ha, if_neg hb, st_append, ← HL.out, ← EA.out, ← EB.out]; simp [ByteArray.append_assoc]), HW6.out⟩

set_option maxRecDepth 100000 in
set_option maxHeartbeats 4000000 in
theorem line_const (k : Nat) (az bz : Nat) (ak ap : Option Addr) (ck np cp : Nat) (ks : List Cn) (w : World) (hk : RdKV w (.slice ak ks.length ck) ks) (hN : Num ks) (hx : ∀ i, i < ks.length → (ks.getD i cn0).text.length ≤ 5000) (haz : az < ks.length) (hkk : k ≤ 1048576) :
    Calls Tryz.prog 17 #[.agg #[.slice ak ks.length ck, .slice ap np cp], .int .i64 (k : Int), .agg #[.int .i64 0, .int .i64 (az : Int), .int .i64 (bz : Int)]] w fun e w' => e = .returned (.string (st (insL ks k ⟨(0 : Int), (az : Int), (bz : Int)⟩))) ∧ Below w.heap.size w w' := by
  have lk := fi_len (k : Int) (by omega) (by omega)
  have lw := wd_len 0
  obtain ⟨W1, hW1⟩ : ∃ W1, W1 = (w.alloc (.cells #[.slice ak ks.length ck, .slice ap np cp] 32)).alloc (.cells #[.int .i64 0, .int .i64 (az : Int), .int .i64 (bz : Int)] 51) := ⟨_, rfl⟩
  have HB0 : Hid (Below w.heap.size w W1) := by show Below _ _ _; rw [hW1]; go_grown
  have HZ : Hid (W1.heap.size = w.heap.size + 2) := by show _ = _; rw [hW1]; simp
  have DEC : Hid (∀ W, Below W1.heap.size W1 W → Calls Tryz.prog 16 #[.int .i64 (k : Int)] W fun e w' => e = .returned (.string (st (fi k))) ∧ Hid (Below W1.heap.size W1 w')) := fun W h => (l5dec_any k (by omega) (by omega) W).mono fun _ _ ⟨h1, h2⟩ => ⟨h1, h.trans (h2.mono h.size)⟩
  have WRD : Hid (∀ W, Below W1.heap.size W1 W → Calls Tryz.prog 33 #[.int .i64 0] W fun e w' => e = .returned (.string ⟨(wd 0).toArray⟩) ∧ Hid (Below W1.heap.size W1 w')) := fun W h => (l5word_any 0 (by omega) W).mono fun _ _ ⟨h1, h2⟩ => ⟨h1, h.trans (h2.mono h.size)⟩
  have HL : Hid (⟨#[32, 32]⟩ ++ st (fi k) ++ ⟨#[32]⟩ ++ ⟨(wd 0).toArray⟩ = st ([32] ++ dc k ++ [32] ++ ib (wd 0))) := by
    have e : st (ib (wd 0)) = ⟨(wd 0).toArray⟩ := by unfold st; rw [u8_ib]
    show _ = _
    rw [show [32] ++ dc k ++ [32] ++ ib (wd 0) = [32, 32] ++ fi k ++ [32] ++ ib (wd 0) by simp [dc], st_append, st_append, st_append, e]
    rfl
  have HE : Hid (insL ks k ⟨(0 : Int), (az : Int), (bz : Int)⟩ = [32] ++ dc k ++ [32] ++ ib (wd 0) ++ litL (ks.getD az cn0) ++ [10]) := rfl
  rw [HE.out]
  have HR : Hid (st ([32] ++ dc k ++ [32] ++ ib (wd 0) ++ litL (ks.getD az cn0) ++ [10]) = st ([32] ++ dc k ++ [32] ++ ib (wd 0)) ++ st (litL (ks.getD az cn0)) ++ ⟨#[10]⟩) := by show _ = _; rw [st_append, st_append]; rfl
  rw [HR.out]
  generalize st ([32] ++ dc k ++ [32] ++ ib (wd 0)) = base at HL ⊢
  clear HE HR
  have zk : (st (fi k)).size ≤ 21 := by rw [st_size]; exact lk
  have zw : (ByteArray.mk (wd 0).toArray).size ≤ 9 := by simpa [ByteArray.size] using lw
  generalize (ByteArray.mk (wd 0).toArray) = sW at WRD HL zw
  generalize st (fi (k : Int)) = sK at DEC HL zk
  have f1 : ¬ 9223372036854775807 < 2 + sK.size := by omega
  have f2 : ¬ 9223372036854775807 < 2 + sK.size + 1 := by omega
  have f3 : ¬ 9223372036854775807 < 2 + sK.size + 1 + sW.size := by omega
  have HC : Hid (∀ W, Below W1.heap.size W1 W → W.cell? ⟨w.heap.size + 1, 0, none⟩ = some (.int .i64 0)) := fun W h => cellB (by rw [hW1]; exact cellI w _ rfl) h
  have HCA : Hid (∀ W, Below W1.heap.size W1 W → W.cell? ⟨w.heap.size + 1, 1, none⟩ = some (.int .i64 (az : Int))) := fun W h => cellB (by rw [hW1]; exact cellI w _ rfl) h
  have HCK : Hid (∀ W, Below W1.heap.size W1 W → W.cell? ⟨w.heap.size, 0, none⟩ = some (.slice ak ks.length ck)) := fun W h => cellB (by rw [hW1]; exact cellOld (cellNew (w := w) (cs := #[.slice ak ks.length ck, .slice ap np cp]) (t := 32) (j := 0) (v := .slice ak ks.length ck) rfl)) h
  rw [hW1] at DEC WRD HC HCA HCK HB0
  clear hW1 HZ
  go_enter Tryz.func17, Tryz.ntmps17
  go_wp2_with fail
  go_region_held3 (fun W => W.cell? ⟨w.heap.size + 1, 0, none⟩ = some (.int .i64 0)) (first | (refine HC.out _ ?_; repeat (first | exact Below.refl _ _ | exact HB.out | refine Below.drew ?_ | refine bel_drewN ?_ _))) (first | (go_at_call 16; with_reducible refine Calls.mono (DEC.out _ (by repeat (first | exact Below.refl _ _ | exact HB.out | refine Below.drew ?_ | refine bel_drewN ?_ _))) ?_; rintro e w2 ⟨rfl, HB⟩) | (go_at_call 33; with_reducible refine Calls.mono (WRD.out _ (by repeat (first | exact Below.refl _ _ | exact HB.out | refine Below.drew ?_ | refine bel_drewN ?_ _))) ?_; rintro e w3 ⟨rfl, HB⟩))
  have zl : (({ data := #[32, 32] } : ByteArray) ++ sK ++ { data := #[32] } ++ sW).size ≤ 33 := by rw [ByteArray.size_append, ByteArray.size_append, ByteArray.size_append]; show 2 + sK.size + 1 + sW.size ≤ 33; omega
  generalize ({ data := #[32, 32] } : ByteArray) ++ sK ++ { data := #[32] } ++ sW = L1 at HL zl ⊢
  clear f1 f2 f3 DEC WRD zk zw
  have C := l4row_any 0 (by omega) w3
  obtain ⟨n0, n1⟩ := hN az haz
  have hxx := hx az haz
  obtain ⟨_, _, eK, _, rK⟩ := hk
  simp only [Value.slice.injEq] at eK
  obtain ⟨rfl, -, rfl⟩ := eK
  obtain ⟨b, off, ut, rfl, k0, k1, k2, ht⟩ := rK az haz
  clear rK
  generalize hdk : ks.getD az cn0 = d at n0 n1 hxx ht k0 k1 k2
  obtain ⟨kb, nn, tx⟩ := d
  simp only at n0 n1 hxx ht k0 k1 k2
  have HDK : Hid (ks.getD az cn0 = ⟨kb, nn, tx⟩) := hdk
  clear hdk
  have hazI : (az : Int) < (ks.length : Int) := by omega
  go_wp2_with fail
  refine C.mono ?_
  rintro e w4 ⟨rfl, b4⟩
  clear C
  have HB4 : Hid (Below _ _ w4) := HB.out.trans (b4.mono HB.out.size)
  have x0 := HC.out w4 HB4.out
  have x1 := HCA.out w4 HB4.out
  have x2 := HCK.out w4 HB4.out
  have HW4 : Hid (Below w.heap.size w w4) := HB0.out.trans (HB4.out.mono HB0.out.size)
  have c0 := cellB k0 HW4.out
  have c1 := cellB k1 HW4.out
  have c2 := cellB k2 HW4.out
  have ht4 := ht.below HW4.out
  clear b4 k0 k1 k2
  have HWa : Hid (∀ o, Below w.heap.size w (w4.alloc o)) := fun o => HW4.out.alloc HW4.out.size o
  cases kb
  · have DN : Hid (∀ W, Calls Tryz.prog 16 #[.int .i64 nn] W fun e w' => e = .returned (.string (st (fi nn))) ∧ Below W.heap.size W w') := fun W => l5dec_any nn n0 n1 W
    have zn : (st (fi nn)).size ≤ 21 := by rw [st_size]; exact fi_len _ n0 n1
    have EN : Hid (⟨#[32]⟩ ++ st (fi nn) = st (litL ⟨false, nn, tx⟩)) := by show _ = _; rw [show litL ⟨false, nn, tx⟩ = [32] ++ fi nn from rfl, st_append]; rfl
    generalize st (fi nn) = sN at DN zn EN
    obtain ⟨aX, cX, rfl, _, _⟩ := ht
    have g1 : ¬ 9223372036854775807 < L1.size + 1 := by omega
    have g2 : ¬ 9223372036854775807 < L1.size + 1 + sN.size := by omega
    have g3 : ¬ 9223372036854775807 < L1.size + 1 + sN.size + 1 := by omega
    clear ht4
    go_wp2_with fail
    refine (DN.out _).mono ?_
    rintro e w5 ⟨rfl, b5⟩
    have HW5 : Hid (Below w.heap.size w w5) := (HWa.out _).trans (b5.mono (HWa.out _).size)
    clear b5
    go_wp2
    go_returns
    exact ⟨ret_st (by rw [HDK.out, ← EN.out, ← HL.out]; simp [ByteArray.append_assoc]), HW5.out⟩
  · have hq := quote_len tx
    have HQB : Hid (ib (u8 (quote tx)) = quote tx) := ib_u8 (quote_byte (by obtain ⟨_, _, _, _, _, bX⟩ := ht; exact fun i hi => bX i))
    have EN : Hid (⟨#[32]⟩ ++ st (quote tx) = st (litL ⟨true, nn, tx⟩)) := by show _ = _; rw [show litL ⟨true, nn, tx⟩ = [32] ++ quote tx from rfl, st_append]; rfl
    have zq : (st (quote tx)).size ≤ 20002 := by rw [st_size]; omega
    obtain ⟨aX, cX, rfl, _, _⟩ := ht
    have QT : Hid (∀ o, Calls Tryz.prog 35 #[.slice aX tx.length cX] (w4.alloc o) fun e w' => ∃ ao c, e = .returned (.slice ao (quote tx).length c) ∧ Hid (Below w.heap.size w w') ∧ (convert 27 9 (.slice ao (quote tx).length c)).run Tryz.prog w' = .ok (.string (st (quote tx))) w') := fun o => by
      have hr := ht4.below (((Below.refl _ _).alloc (Nat.le_refl _) o))
      have hr3 := rdv_rd hr
      obtain ⟨_, _, _, _, _, bX⟩ := hr
      refine (specQuote_any aX cX tx _ hr3 bX (by omega)).mono ?_
      rintro e w5 ⟨g', c, rfl, ho, b5⟩
      refine ⟨_, c, rfl, (HWa.out o).trans (b5.mono (HWa.out o).size), ?_⟩
      have hrd := rd_own ho
      rw [← HQB.out] at hrd
      exact conv_back hrd (by rw [← ib_length, HQB.out]; unfold quote; simp) (by rw [← ib_length, HQB.out])
    generalize st (quote tx) = sN at QT zq EN
    have g1 : ¬ 9223372036854775807 < L1.size + 1 := by omega
    have g2 : ¬ 9223372036854775807 < L1.size + 1 + sN.size := by omega
    have g3 : ¬ 9223372036854775807 < L1.size + 1 + sN.size + 1 := by omega
    clear ht4
    go_wp2_with fail
    refine (QT.out _).mono ?_
    rintro e w5 ⟨ao, c, rfl, HW5, kv⟩
    go_wp2
    go_returns
    exact ⟨ret_st (by rw [HDK.out, ← EN.out, ← HL.out]; simp [ByteArray.append_assoc]), HW5.out⟩
end Go.Proofs.YtopibfnjbejiiaaGreatDoor.ls

namespace Go.Proofs.YtopibfnjbejiiaaGreatDoor.ls
open Go.RowKit Go.Proofs.YtopibfnjbejiiaaGreatDoor.bts Go.Proofs.YtopibfnjbejiiaaGreatDoor.pg Go.Proofs.YtopibfnjbejiiaaGreatDoor.chk Go.Proofs.YtopibfnjbejiiaaGreatDoor.sv Go.Proofs.YtopibfnjbejiiaaGreatDoor.fmt Go.Proofs.YtopibfnjbejiiaaGreatDoor.quo

/-- Bytes as numbers. -/
def By (zs : List Int) : Prop := ∀ z ∈ zs, 0 ≤ z ∧ z ≤ 255
theorem By.append {xs ys : List Int} (h : By xs) (k : By ys) : By (xs ++ ys) := fun z hz => by
  rcases List.mem_append.1 hz with h' | h'
  · exact h z h'
  · exact k z h'
theorem by_ib (l : List UInt8) : By (ib l) := fun z hz => by
  obtain ⟨b, _, rfl⟩ := List.mem_map.1 hz
  have := b.toNat_lt
  omega
theorem by_fi (v : Int) : By (fi v) := by_ib _
theorem by_dc (v : Int) : By (dc v) := fun z hz => by
  rcases List.mem_cons.1 hz with rfl | h
  · omega
  · exact by_fi v z h
theorem strCells_st {ys : List Int} (h : By ys) : Lib.strCells (st ys) = bcells ys := by
  have e := ib_u8 h
  conv => rhs; rw [← e]
  rw [bcells_ib]
  simp [Lib.strCells, Lib.byteCells, st]

/-- What is appended to. -/
structure Ap (w : World) (base : Nat) (v : Value) (zs : List Int) (av' : Option Addr) (m cv' : Nat) (w' : World) : Prop where
  own : w'.ownsRow base 5 1 (.slice av' m cv') m (bcells zs)
  grow : w.grownBy w' v.ownBlock
theorem ap_app {w w' : World} {base n cv m cv' : Nat} {av av' : Option Addr} {zs : List Int} (h : App w base av n cv zs av' m cv' w') : Ap w base (.slice av n cv) zs av' m cv' w' := ⟨h.own, h.grow⟩
theorem Ap.below {w w' : World} {base m cv' n : Nat} {v : Value} {av' : Option Addr} {zs : List Int} {us : List Value} (h : Ap w base v zs av' m cv' w') (hown : w.ownsRow base 5 1 v n us) (hb : base ≤ w.heap.size) : Below base w w' :=
  (Below.refl base w).grown h.grow hb (fun k hk => (hown.lt k hk).1)
/-- A block of another type is not the row's. -/
theorem own_ne {w : World} {B n g : Nat} {v : Value} {us : List Value} {cs : Array Value} {T : TypeId} {fr : Nat × Nat} (h : w.ownsRow B 5 1 v n us) (hh : w.heap[g]? = some (.cells cs T fr)) (hT : T ≠ 5) : some g ≠ v.ownBlock := by
  rcases h.2 with ⟨rfl, _⟩ | ⟨g', cap, cur, rfl, _, hh', _⟩
  · simp [Value.ownBlock]
  · intro e
    simp only [Value.ownBlock, Option.some.injEq] at e
    subst e
    rw [hh] at hh'
    simp only [Option.some.injEq, Obj.cells.injEq] at hh'
    exact hT hh'.2.1
theorem Ap.block {w w' : World} {base m cv' n g : Nat} {v : Value} {av' : Option Addr} {zs : List Int} {us : List Value} {cs : Array Value} {T : TypeId} {fr : Nat × Nat} (h : Ap w base v zs av' m cv' w') (hown : w.ownsRow base 5 1 v n us) (hh : w.heap[g]? = some (.cells cs T fr)) (hT : T ≠ 5) : w'.heap[g]? = some (.cells cs T fr) :=
  (h.grow.block g (heap_lt hh) (own_ne hown hh hT)).trans hh

theorem wp_append_str {o : Oper} {a : Act} {K : Act → World → Prop} {Q : Exit → Act → World → Prop} {w : World} (s x : Operand)
    (ho : o.op = .call { callee := .builtin .append, args := #[s, x], argTypes := #[27, 9] })
    (base : Nat) (av : Option Addr) (n cv : Nat) (zs : List Int) (hs : a.eval s = .slice av n cv) (hown : w.ownsRow base 5 1 (.slice av n cv) n (bcells zs))
    (m : Nat) (ys : List Int) (sx : ByteArray) (hsx : sx = st ys) (hx : a.eval x = .string sx) (hl : ys.length = m) (hy : By ys) (hb : n + m ≤ 140737488355328) (hbase : base ≤ w.heap.size)
    (h : ∀ av' cv' w', Ap w base (.slice av n cv) (zs ++ ys) av' (n + m) cv' w' → K (a.put o.dst (.slice av' (n + m) cv')) w') : o.wp Tryz.prog a w K Q := by
  obtain ⟨i0, hi, hz0, hz1, hz2⟩ := info_parts info_u8
  subst hsx
  have hm : (st ys).size = m := by rw [st_size, hl]
  obtain ⟨v', w', hr, h2, h3, _⟩ := Lib.run_append_own_string (P := Tryz.prog) w base 27 9 o.type 5 i0 Tryz.underlying27 Tryz.underlying9 hi hz0 hz1 hz2 (.slice av n cv) n (bcells zs) hown (st ys) (by rw [hm]; unfold maxLen; omega) (by rw [hm]; exact hb) hbase
  rw [hm, strCells_st hy, ← bcells_app] at h2
  unfold Oper.wp execOp
  simp only [ho, resolve, invoke, builtin, Sem.run_bind, Sem.run_pure, Result.andThen_ok, List.map_toArray, List.map_cons, List.map_nil, hs, hx, hr]
  rcases h2.2 with ⟨rfl, e0⟩ | ⟨g', cap, cur, rfl, _⟩
  · have := h none 0 w' ⟨by rw [e0] at h2 ⊢; exact h2, h3⟩
    rw [e0] at this
    exact this
  · exact h _ _ w' ⟨h2, h3⟩
theorem wpList_append_str {ops : Array Oper} {rest : List Oper} {o : Oper} {a : Act} {Q : Exit → Act → World → Prop} {w : World} (hgd : o.guard = none) (s x : Operand)
    (ho : o.op = .call { callee := .builtin .append, args := #[s, x], argTypes := #[27, 9] })
    (base : Nat) (av : Option Addr) (n cv : Nat) (zs : List Int) (hs : a.eval s = .slice av n cv) (hown : w.ownsRow base 5 1 (.slice av n cv) n (bcells zs))
    (m : Nat) (ys : List Int) (sx : ByteArray) (hsx : sx = st ys) (hx : a.eval x = .string sx) (hl : ys.length = m) (hy : By ys) (hb : n + m ≤ 140737488355328) (hbase : base ≤ w.heap.size)
    (h : ∀ av' cv' w', Ap w base (.slice av n cv) (zs ++ ys) av' (n + m) cv' w' → wpList Tryz.prog ops Q rest (a.put o.dst (.slice av' (n + m) cv')) w') : wpList Tryz.prog ops Q (o :: rest) a w :=
  wpList_plain hgd fun _ hK => wp_append_str s x ho base av n cv zs hs hown m ys sx hsx hx hl hy hb hbase fun av' cv' w' h2 => hK _ _ (h av' cv' w' h2)
theorem step_append_str {ops : Array Oper} {o : Oper} {a : Act} {K : Act → World → Prop} {Q : Exit → Act → World → Prop} {E : Prop} {w : World} (hgd : o.guard = none) (s x : Operand)
    (ho : o.op = .call { callee := .builtin .append, args := #[s, x], argTypes := #[27, 9] })
    (base : Nat) (av : Option Addr) (n cv : Nat) (zs : List Int) (hs : a.eval s = .slice av n cv) (hown : w.ownsRow base 5 1 (.slice av n cv) n (bcells zs))
    (m : Nat) (ys : List Int) (sx : ByteArray) (hsx : sx = st ys) (hx : a.eval x = .string sx) (hl : ys.length = m) (hy : By ys) (hb : n + m ≤ 140737488355328) (hbase : base ≤ w.heap.size)
    (h : ∀ av' cv' w', Ap w base (.slice av n cv) (zs ++ ys) av' (n + m) cv' w' → K (a.put o.dst (.slice av' (n + m) cv')) w') :
    if Region.wanted o (yielded ops a.tmps) = true then Oper.wp Tryz.prog o a w K Q else E := by
  have hw : Region.wanted o (yielded ops a.tmps) = true := by simp [Region.wanted, hgd]
  rw [if_pos hw]
  exact wp_append_str s x ho base av n cv zs hs hown m ys sx hsx hx hl hy hb hbase h
end Go.Proofs.YtopibfnjbejiiaaGreatDoor.ls
