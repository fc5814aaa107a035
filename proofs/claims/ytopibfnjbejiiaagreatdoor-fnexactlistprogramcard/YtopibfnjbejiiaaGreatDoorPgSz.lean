import Derived.Test.YtopibfnjbejiiaaGreatDoorPgLists
namespace Go.Proofs.YtopibfnjbejiiaaGreatDoor.pg
open Go.RowKit Go.Proofs.YtopibfnjbejiiaaGreatDoor.bts

/-- What is left when m is taken off, -1 where there is too little. -/
def szr (left : Int) (m : Nat) : Int := if (m : Int) ≤ left then left - (m : Int) else -1
theorem szr_ok {left : Int} {m : Nat} (h : (m : Int) ≤ left) : szr left m = left - (m : Int) := by unfold szr; rw [if_pos h]
theorem szr_no {left : Int} {m : Nat} (h : ¬ (m : Int) ≤ left) : szr left m = -1 := by unfold szr; rw [if_neg h]
theorem szr_or (left : Int) (m : Nat) (h0 : 0 ≤ left) (h1 : left ≤ 16777216) : szr left m = -1 ∨ (0 ≤ szr left m ∧ szr left m ≤ 16777216) := by unfold szr; split <;> omega
theorem ret_i {a b : Int} (h : a = b) : Ending.returned (.int .i64 a) = .returned (.int .i64 b) := by rw [h]

theorem cellNew {w : World} {cs : Array Value} {t : TypeId} {j : Nat} {v : Value} (h : cs[j]? = some v) : (w.alloc (.cells cs t)).cell? ⟨w.heap.size, j, none⟩ = some v := by
  simp only [World.cell?, heap_alloc_new]; exact h

/-- The first k sizes together. -/
def sumsF {α : Type} (f : α → Nat) (l : List α) (k : Nat) : Nat := ((l.take k).map f).sum
theorem sumsF_succ {α : Type} {f : α → Nat} {l : List α} {k : Nat} (d : α) (h : k < l.length) : sumsF f l (k + 1) = sumsF f l k + f (l.getD k d) := by
  unfold sumsF
  rw [List.take_succ_eq_append_getElem h, List.map_append, List.sum_append]
  simp [List.getD_eq_getElem?_getD, List.getElem?_eq_getElem h]
theorem sumsF_le {α : Type} {f : α → Nat} (d : α) (l : List α) : ∀ (j k : Nat), k + j = l.length → sumsF f l k ≤ sumsF f l l.length
  | 0, k, h => by rw [show k = l.length by omega]; exact Nat.le_refl _
  | j + 1, k, h => by
    have := sumsF_le (f := f) d l j (k + 1) (by omega)
    rw [sumsF_succ d (by omega)] at this
    omega
theorem sumsF_at {α : Type} {f : α → Nat} {l : List α} {i : Nat} (d : α) (h : i < l.length) : f (l.getD i d) ≤ sumsF f l l.length := by
  have h1 := sumsF_succ (f := f) d h
  have h2 := sumsF_le (f := f) d l (l.length - (i + 1)) (i + 1) (by omega)
  omega

def sizeCn (d : Cn) : Nat := d.text.length
def sizePr (d : Pr) : Nat := d.caps.length + d.code.length
def sizeK (l : List Cn) : Nat := l.length + sumsF sizeCn l l.length
def sizeP (l : List Pr) : Nat := l.length + sumsF sizePr l l.length
def sizePg (p : Pg) : Nat := sizeK p.consts + sizeP p.protos

theorem szByteS_any (ao : Option Addr) (m cap : Nat) (left : Int) (w : World) (h0 : 0 ≤ left) (h1 : left ≤ 16777216) (hm : m ≤ 9223372036854775807) :
    Calls Tryz.prog 53 #[.slice ao m cap, .int .i64 left] w fun e w' => e = .returned (.int .i64 (szr left m)) ∧ w' = w := by
  by_cases h : (m : Int) ≤ left
  · rw [szr_ok h]
    go_enter Tryz.func53, Tryz.ntmps53
    go_wp2
    go_ret
    exact ⟨rfl, rfl⟩
  · rw [szr_no h]
    go_enter Tryz.func53, Tryz.ntmps53
    go_wp2
    go_ret
    exact ⟨rfl, rfl⟩

theorem szCaptureS_any (ao : Option Addr) (m cap : Nat) (left : Int) (w : World) (h0 : 0 ≤ left) (h1 : left ≤ 16777216) (hm : m ≤ 9223372036854775807) :
    Calls Tryz.prog 54 #[.slice ao m cap, .int .i64 left] w fun e w' => e = .returned (.int .i64 (szr left m)) ∧ w' = w := by
  by_cases h : (m : Int) ≤ left
  · rw [szr_ok h]
    go_enter Tryz.func54, Tryz.ntmps54
    go_wp2
    go_ret
    exact ⟨rfl, rfl⟩
  · rw [szr_no h]
    go_enter Tryz.func54, Tryz.ntmps54
    go_wp2
    go_ret
    exact ⟨rfl, rfl⟩

theorem szInsS_any (ao : Option Addr) (m cap : Nat) (left : Int) (w : World) (h0 : 0 ≤ left) (h1 : left ≤ 16777216) (hm : m ≤ 9223372036854775807) :
    Calls Tryz.prog 55 #[.slice ao m cap, .int .i64 left] w fun e w' => e = .returned (.int .i64 (szr left m)) ∧ w' = w := by
  by_cases h : (m : Int) ≤ left
  · rw [szr_ok h]
    go_enter Tryz.func55, Tryz.ntmps55
    go_wp2
    go_ret
    exact ⟨rfl, rfl⟩
  · rw [szr_no h]
    go_enter Tryz.func55, Tryz.ntmps55
    go_wp2
    go_ret
    exact ⟨rfl, rfl⟩

set_option maxRecDepth 100000 in
set_option maxHeartbeats 1000000 in
theorem szConst_any (k : Bool) (n : Int) (ut : Value) (t : List Int) (left : Int) (w : World) (ht : RdV w ut t) (h0 : 0 ≤ left) (h1 : left ≤ 16777216) :
    Calls Tryz.prog 28 #[.agg #[.bool k, .int .i64 n, ut], .int .i64 left] w fun e w' => e = .returned (.int .i64 (szr left t.length)) ∧ ∃ o, w' = w.alloc o := by
  obtain ⟨ao, cap, rfl, hm, hr, hz⟩ := ht
  obtain ⟨m, hmm⟩ : ∃ m, m = t.length := ⟨_, rfl⟩
  rw [← hmm] at hm ⊢
  clear hr hz hmm
  have C1 := fun w' => szByteS_any ao m cap left w' h0 h1 hm
  have hor := szr_or left m h0 h1
  generalize szr left m = r at C1 hor ⊢
  rcases hor with rfl | ⟨r0, r1⟩
  all_goals
    go_enter Tryz.func28, Tryz.ntmps28
    go_wp2_with (go_at_call 53; refine (C1 _).mono ?_; rintro e w' ⟨rfl, hw⟩; replace hw := hw.symm; subst hw)
    go_ret
    exact ⟨rfl, _, rfl⟩

set_option maxRecDepth 100000 in
set_option maxHeartbeats 1000000 in
theorem szProto_any (k n : Int) (uc ud : Value) (c : List Cp) (d : List In) (left : Int) (w : World) (hc : RdCV w uc c) (hd : RdIV w ud d) (h0 : 0 ≤ left) (h1 : left ≤ 16777216) :
    Calls Tryz.prog 29 #[.agg #[.int .i64 k, .int .i64 n, uc, ud], .int .i64 left] w fun e w' => e = .returned (.int .i64 (szr left (c.length + d.length))) ∧ ∃ o, w' = w.alloc o := by
  obtain ⟨ao, cap, rfl, hm, hr⟩ := hc
  obtain ⟨bo, cap', rfl, hm', hr'⟩ := hd
  obtain ⟨m, hmm⟩ : ∃ m, m = c.length := ⟨_, rfl⟩
  obtain ⟨q, hqq⟩ : ∃ q, q = d.length := ⟨_, rfl⟩
  rw [← hmm] at hm ⊢
  rw [← hqq] at hm' ⊢
  clear hr hr' hmm hqq
  have C1 := fun w' => szCaptureS_any ao m cap left w' h0 h1 hm
  by_cases hf : (m : Int) ≤ left
  · rw [szr_ok hf] at C1
    have C2 := fun w' => szInsS_any bo q cap' (left - (m : Int)) w' (by omega) (by omega) hm'
    have HE : szr left (m + q) = szr (left - (m : Int)) q := by
      by_cases h : (q : Int) ≤ left - (m : Int)
      · rw [szr_ok h, szr_ok (by omega)]; omega
      · rw [szr_no h, szr_no (by omega)]
    rw [HE]
    have hor := szr_or (left - (m : Int)) q (by omega) (by omega)
    generalize szr (left - (m : Int)) q = r at C2 hor ⊢
    clear HE
    rcases hor with rfl | ⟨r0, r1⟩
    all_goals
      go_enter Tryz.func29, Tryz.ntmps29
      go_wp2_with (first | (go_at_call 54; refine (C1 _).mono ?_; rintro e w' ⟨rfl, hw⟩; replace hw := hw.symm; subst hw) | (go_at_call 55; refine (C2 _).mono ?_; rintro e w' ⟨rfl, hw⟩; replace hw := hw.symm; subst hw))
      go_ret
      exact ⟨rfl, _, rfl⟩
  · rw [szr_no hf] at C1
    rw [szr_no (by omega)]
    go_enter Tryz.func29, Tryz.ntmps29
    go_wp2_with (go_at_call 54; refine (C1 _).mono ?_; rintro e w' ⟨rfl, hw⟩; replace hw := hw.symm; subst hw)
    go_ret
    exact ⟨rfl, _, rfl⟩

set_option maxRecDepth 100000 in
set_option maxHeartbeats 1000000 in
theorem szConstS_any (v : Value) (l : List Cn) (left : Int) (w : World) (hr : RdKV w v l) (h0 : 0 ≤ left) (h1 : left ≤ 16777216) :
    Calls Tryz.prog 13 #[v, .int .i64 left] w fun e w' => e = .returned (.int .i64 (szr left (sizeK l))) ∧ Below w.heap.size w w' := by
  obtain ⟨ao, cap, rfl, hm, hr⟩ := hr
  obtain ⟨n, hnn⟩ : ∃ n, n = l.length := ⟨_, rfl⟩
  have HL : Hid (l.length = n) := hnn.symm
  have HR : Hid (RdK w ao l) := hr
  rw [← hnn] at hm ⊢
  clear hr hnn
  by_cases hlf : (n : Int) ≤ left
  · go_enter Tryz.func13, Tryz.ntmps13
    go_wp2
    go_loopw [1, 5] (fun q i wr => ∃ (k : Nat) (r : Int), k ≤ n ∧ i = .int .i64 k ∧ q = .int .i64 r ∧ 0 ≤ r ∧ r ≤ 16777216 ∧ Hid (r = left - (n : Int) - (sumsF sizeCn l k : Int)) ∧ Below w.heap.size w wr) (fun _ i _ => n - (intOf i).toNat)
    case atStart => exact ⟨0, left - (n : Int), Nat.zero_le _, rfl, rfl, by omega, by omega, by show _ = _; simp [sumsF], Below.refl _ _⟩
    case round =>
      obtain ⟨k, r, hk, rfl, rfl, hr0, hr1, HS, hbel⟩ := hrel
      by_cases hlt : k < n
      · obtain ⟨b, off, ut, rfl, c0, c1, c2, ht⟩ := (RdK.below HR.out hbel) k (by rw [HL.out]; exact hlt)
        have HLS : Hid (sumsF sizeCn l (k + 1) = sumsF sizeCn l k + sizeCn (l.getD k cn0)) := sumsF_succ cn0 (by rw [HL.out]; exact hlt)
        have HLL : Hid (sumsF sizeCn l (k + 1) ≤ sumsF sizeCn l l.length) := sumsF_le cn0 l (l.length - (k + 1)) (k + 1) (by rw [HL.out]; omega)
        generalize l.getD k cn0 = d at c0 c1 ht HLS
        obtain ⟨d0, d1, tx⟩ := d
        simp only at c0 c1 ht
        have HLS2 : Hid (sumsF sizeCn l (k + 1) = sumsF sizeCn l k + tx.length) := HLS
        have C := szConst_any d0 d1 ut tx r wr ht hr0 hr1
        obtain ⟨m, hmm⟩ : ∃ m, m = tx.length := ⟨_, rfl⟩
        rw [← hmm] at C HLS2
        have hBs := hbel.size
        clear hmm ht HLS
        by_cases hfit : (m : Int) ≤ r
        · rw [szr_ok hfit] at C
          go_wp2_with (go_at_call 28; refine C.mono ?_; rintro e w' ⟨rfl, o, rfl⟩)
          go_roundw
          case rel => exact ⟨k + 1, r - (m : Int), by omega, by go_num, rfl, by omega, by omega, by show _ = _; have := HS.out; have := HLS2.out; omega, hbel.alloc hBs _⟩
          case measure => simp [intOf]; omega
        · rw [szr_no hfit] at C
          have HE : Hid (szr left (sizeK l) = -1) := szr_no (by unfold sizeK; have := HS.out; have := HLS2.out; have := HLL.out; have := HL.out; omega)
          go_wp2_with (go_at_call 28; refine C.mono ?_; rintro e w' ⟨rfl, o, rfl⟩)
          go_ret
          exact ⟨ret_i (by rw [HE.out]), hbel.alloc hBs _⟩
      · have hkn : k = n := by omega
        subst hkn
        have HE : Hid (szr left (sizeK l) = r) := by
          show _ = _
          have e1 := HS.out
          have e2 := HL.out
          have e3 : sizeK l = k + sumsF sizeCn l k := by unfold sizeK; rw [e2]
          rw [e3, szr_ok (by omega), e1]; omega
        go_wp2
        go_ret
        exact ⟨ret_i (by rw [HE.out]), hbel⟩
  · have HE : Hid (szr left (sizeK l) = -1) := szr_no (by unfold sizeK; have := HL.out; omega)
    go_enter Tryz.func13, Tryz.ntmps13
    go_wp2
    go_ret
    exact ⟨ret_i (by rw [HE.out]), Below.refl _ _⟩

set_option maxRecDepth 100000 in
set_option maxHeartbeats 1000000 in
theorem szProtoS_any (v : Value) (l : List Pr) (left : Int) (w : World) (hr : RdPV w v l) (h0 : 0 ≤ left) (h1 : left ≤ 16777216) :
    Calls Tryz.prog 14 #[v, .int .i64 left] w fun e w' => e = .returned (.int .i64 (szr left (sizeP l))) ∧ Below w.heap.size w w' := by
  obtain ⟨ao, cap, rfl, hm, hr⟩ := hr
  obtain ⟨n, hnn⟩ : ∃ n, n = l.length := ⟨_, rfl⟩
  have HL : Hid (l.length = n) := hnn.symm
  have HR : Hid (RdP w ao l) := hr
  rw [← hnn] at hm ⊢
  clear hr hnn
  by_cases hlf : (n : Int) ≤ left
  · go_enter Tryz.func14, Tryz.ntmps14
    go_wp2
    go_loopw [1, 5] (fun q i wr => ∃ (k : Nat) (r : Int), k ≤ n ∧ i = .int .i64 k ∧ q = .int .i64 r ∧ 0 ≤ r ∧ r ≤ 16777216 ∧ Hid (r = left - (n : Int) - (sumsF sizePr l k : Int)) ∧ Below w.heap.size w wr) (fun _ i _ => n - (intOf i).toNat)
    case atStart => exact ⟨0, left - (n : Int), Nat.zero_le _, rfl, rfl, by omega, by omega, by show _ = _; simp [sumsF], Below.refl _ _⟩
    case round =>
      obtain ⟨k, r, hk, rfl, rfl, hr0, hr1, HS, hbel⟩ := hrel
      by_cases hlt : k < n
      · obtain ⟨b, off, uc, ud, rfl, c0, c1, c2, c3, hc, hd⟩ := (RdP.below HR.out hbel) k (by rw [HL.out]; exact hlt)
        have HLS : Hid (sumsF sizePr l (k + 1) = sumsF sizePr l k + sizePr (l.getD k pr0)) := sumsF_succ pr0 (by rw [HL.out]; exact hlt)
        have HLL : Hid (sumsF sizePr l (k + 1) ≤ sumsF sizePr l l.length) := sumsF_le pr0 l (l.length - (k + 1)) (k + 1) (by rw [HL.out]; omega)
        generalize l.getD k pr0 = d at c0 c1 hc hd HLS
        obtain ⟨d0, d1, cs, is⟩ := d
        simp only at c0 c1 hc hd
        have HLS2 : Hid (sumsF sizePr l (k + 1) = sumsF sizePr l k + (cs.length + is.length)) := HLS
        have C := szProto_any d0 d1 uc ud cs is r wr hc hd hr0 hr1
        obtain ⟨m, hmm⟩ : ∃ m, m = (cs.length + is.length) := ⟨_, rfl⟩
        rw [← hmm] at C HLS2
        have hBs := hbel.size
        clear hmm hc hd HLS
        by_cases hfit : (m : Int) ≤ r
        · rw [szr_ok hfit] at C
          go_wp2_with (go_at_call 29; refine C.mono ?_; rintro e w' ⟨rfl, o, rfl⟩)
          go_roundw
          case rel => exact ⟨k + 1, r - (m : Int), by omega, by go_num, rfl, by omega, by omega, by show _ = _; have := HS.out; have := HLS2.out; omega, hbel.alloc hBs _⟩
          case measure => simp [intOf]; omega
        · rw [szr_no hfit] at C
          have HE : Hid (szr left (sizeP l) = -1) := szr_no (by unfold sizeP; have := HS.out; have := HLS2.out; have := HLL.out; have := HL.out; omega)
          go_wp2_with (go_at_call 29; refine C.mono ?_; rintro e w' ⟨rfl, o, rfl⟩)
          go_ret
          exact ⟨ret_i (by rw [HE.out]), hbel.alloc hBs _⟩
      · have hkn : k = n := by omega
        subst hkn
        have HE : Hid (szr left (sizeP l) = r) := by
          show _ = _
          have e1 := HS.out
          have e2 := HL.out
          have e3 : sizeP l = k + sumsF sizePr l k := by unfold sizeP; rw [e2]
          rw [e3, szr_ok (by omega), e1]; omega
        go_wp2
        go_ret
        exact ⟨ret_i (by rw [HE.out]), hbel⟩
  · have HE : Hid (szr left (sizeP l) = -1) := szr_no (by unfold sizeP; have := HL.out; omega)
    go_enter Tryz.func14, Tryz.ntmps14
    go_wp2
    go_ret
    exact ⟨ret_i (by rw [HE.out]), Below.refl _ _⟩

set_option maxRecDepth 100000 in
set_option maxHeartbeats 1000000 in
theorem szProgram_any (uk up : Value) (p : Pg) (left : Int) (w : World) (hk : RdKV w uk p.consts) (hp : RdPV w up p.protos) (h0 : 0 ≤ left) (h1 : left ≤ 16777216) :
    Calls Tryz.prog 4 #[.agg #[uk, up], .int .i64 left] w fun e w' => e = .returned (.int .i64 (szr left (sizePg p))) ∧ Below w.heap.size w w' := by
  have C1 : Hid (∀ W, Below w.heap.size w W → Calls Tryz.prog 13 #[uk, .int .i64 left] W fun e w' => e = .returned (.int .i64 (szr left (sizeK p.consts))) ∧ Below W.heap.size W w') :=
    fun W hW => szConstS_any uk p.consts left W (hk.below hW) h0 h1
  by_cases hf : (sizeK p.consts : Int) ≤ left
  · rw [szr_ok hf] at C1
    have C2 : Hid (∀ W, Below w.heap.size w W → Calls Tryz.prog 14 #[up, .int .i64 (left - (sizeK p.consts : Int))] W fun e w' => e = .returned (.int .i64 (szr (left - (sizeK p.consts : Int)) (sizeP p.protos))) ∧ Below W.heap.size W w') :=
      fun W hW => szProtoS_any up p.protos (left - (sizeK p.consts : Int)) W (hp.below hW) (by omega) (by omega)
    have HE : szr left (sizePg p) = szr (left - (sizeK p.consts : Int)) (sizeP p.protos) := by
      unfold sizePg
      by_cases h : (sizeP p.protos : Int) ≤ left - (sizeK p.consts : Int)
      · rw [szr_ok h, szr_ok (by omega)]; omega
      · rw [szr_no h, szr_no (by omega)]
    rw [HE]
    have hor := szr_or (left - (sizeK p.consts : Int)) (sizeP p.protos) (by omega) (by omega)
    generalize szr (left - (sizeK p.consts : Int)) (sizeP p.protos) = r at C2 hor ⊢
    have r2 : 0 ≤ left - (sizeK p.consts : Int) ∧ left - (sizeK p.consts : Int) ≤ 16777216 := by omega
    generalize left - (sizeK p.consts : Int) = r' at C1 C2 r2
    obtain ⟨r20, r21⟩ := r2
    clear HE hk hp hf h0 h1
    rcases hor with rfl | ⟨r0, r1⟩
    all_goals
      go_enter Tryz.func4, Tryz.ntmps4
      go_wp2_with fail
      refine (C1.out _ ((Below.refl _ _).alloc (Nat.le_refl _) _)).mono ?_
      rintro e w1 ⟨rfl, hb1⟩
      have HB1 : Hid (Below w.heap.size w w1) := ((Below.refl _ _).alloc (Nat.le_refl _) _).trans (hb1.mono (by simp))
      have hc := cellB (cellNew (j := 1) (v := up) rfl) hb1
      clear hb1
      go_wp2_with fail
      refine (C2.out _ HB1.out).mono ?_
      rintro e w2 ⟨rfl, hb2⟩
      have HB2 : Hid (Below w.heap.size w w2) := HB1.out.trans (hb2.mono HB1.out.size)
      clear hb2
      go_wp2
      go_ret
      exact ⟨rfl, HB2.out⟩
  · rw [szr_no hf] at C1
    rw [szr_no (by unfold sizePg; omega)]
    clear hk hp
    go_enter Tryz.func4, Tryz.ntmps4
    go_wp2_with fail
    refine (C1.out _ ((Below.refl _ _).alloc (Nat.le_refl _) _)).mono ?_
    rintro e w1 ⟨rfl, hb1⟩
    have HB1 : Hid (Below w.heap.size w w1) := ((Below.refl _ _).alloc (Nat.le_refl _) _).trans (hb1.mono (by simp))
    clear hb1
    go_wp2
    go_ret
    exact ⟨rfl, HB1.out⟩
end Go.Proofs.YtopibfnjbejiiaaGreatDoor.pg
