import Derived.Test.YtccnjmnafkfjdaaGreatNodeLists
namespace Go.Proofs.YtccnjmnafkfjdaaGreat.nod
open Go.RowKit Go.Proofs.YtccnjmnafkfjdaaGreat.bts

/-- What is left when m is taken off, -1 where there is too little. -/
def szr (left : Int) (m : Nat) : Int := if (m : Int) ≤ left then left - (m : Int) else -1
theorem szr_ok {left : Int} {m : Nat} (h : (m : Int) ≤ left) : szr left m = left - (m : Int) := by unfold szr; rw [if_pos h]
theorem szr_no {left : Int} {m : Nat} (h : ¬ (m : Int) ≤ left) : szr left m = -1 := by unfold szr; rw [if_neg h]
theorem ret_i {a b : Int} (h : a = b) : Ending.returned (.int .i64 a) = .returned (.int .i64 b) := by rw [h]

/-- The first k lengths together, and all. -/
def lens (l : List (List Int)) (k : Nat) : Nat := ((l.take k).map List.length).sum
theorem lens_succ {l : List (List Int)} {k : Nat} (h : k < l.length) : lens l (k + 1) = lens l k + (l.getD k []).length := by
  unfold lens
  rw [List.take_succ_eq_append_getElem h, List.map_append, List.sum_append]
  simp [List.getD_eq_getElem?_getD, List.getElem?_eq_getElem h]
theorem lens_le (l : List (List Int)) : ∀ (j k : Nat), k + j = l.length → lens l k ≤ lens l l.length
  | 0, k, h => by rw [show k = l.length by omega]; exact Nat.le_refl _
  | j + 1, k, h => by
    have := lens_le l j (k + 1) (by omega)
    rw [lens_succ (by omega)] at this
    omega
def sizeSS (l : List (List Int)) : Nat := l.length + lens l l.length

theorem szByteS_any (ao : Option Addr) (m cap : Nat) (left : Int) (w : World) (h0 : 0 ≤ left) (h1 : left ≤ 16777216) (hm : m ≤ 9223372036854775807) :
    Calls Tryz.prog 15 #[.slice ao m cap, .int .i64 left] w fun e w' => e = .returned (.int .i64 (szr left m)) ∧ w' = w := by
  by_cases h : (m : Int) ≤ left
  · rw [szr_ok h]
    go_enter Tryz.func15, Tryz.ntmps15
    go_wp2
    go_ret
    exact ⟨rfl, rfl⟩
  · rw [szr_no h]
    go_enter Tryz.func15, Tryz.ntmps15
    go_wp2
    go_ret
    exact ⟨rfl, rfl⟩

set_option maxRecDepth 100000 in
set_option maxHeartbeats 1000000 in
theorem szByteSS_any (v : Value) (l : List (List Int)) (left : Int) (w : World) (hr : RdVV w v l) (h0 : 0 ≤ left) (h1 : left ≤ 16777216) :
    Calls Tryz.prog 16 #[v, .int .i64 left] w fun e w' => e = .returned (.int .i64 (szr left (sizeSS l))) ∧ w' = w := by
  obtain ⟨ao, cap, rfl, hm, hr⟩ := hr
  obtain ⟨n, hnn⟩ : ∃ n, n = l.length := ⟨_, rfl⟩
  have HL : Hid (l.length = n) := hnn.symm
  have HR : Hid (∀ i, i < l.length → ∃ b off u, ao = some ⟨b, off, none⟩ ∧ w.cell? ⟨b, off + i, none⟩ = some u ∧ RdV w u (l.getD i [])) := hr
  rw [← hnn] at hm ⊢
  clear hnn hr
  by_cases hlf : (n : Int) ≤ left
  · go_enter Tryz.func16, Tryz.ntmps16
    go_wp2
    go_loop [1, 5] (fun q i => ∃ (k : Nat) (r : Int), k ≤ n ∧ i = .int .i64 k ∧ q = .int .i64 r ∧ 0 ≤ r ∧ r ≤ 16777216 ∧ Hid (r = left - (n : Int) - (lens l k : Int))) (fun _ i => n - (intOf i).toNat)
    case atStart => exact ⟨0, left - (n : Int), Nat.zero_le _, rfl, rfl, by omega, by omega, by show _ = _; simp [lens]⟩
    case round =>
      obtain ⟨k, r, hk, rfl, rfl, hr0, hr1, HS⟩ := hrel
      by_cases hlt : k < n
      · obtain ⟨b, off, u, rfl, hc, a', c', rfl, hlen, hrd, hbt⟩ := HR.out k (by rw [HL.out]; exact hlt)
        have HLS : Hid (lens l (k + 1) = lens l k + (l.getD k []).length) := lens_succ (by rw [HL.out]; exact hlt)
        have HLL : Hid (lens l (k + 1) ≤ lens l l.length) := lens_le l (l.length - (k + 1)) (k + 1) (by rw [HL.out]; omega)
        obtain ⟨m, hmm⟩ : ∃ m, m = (l.getD k []).length := ⟨_, rfl⟩
        rw [← hmm] at hc hlen HLS
        have C := szByteS_any a' m c' r w hr0 hr1 hlen
        clear hmm hrd hbt
        by_cases hfit : (m : Int) ≤ r
        · rw [szr_ok hfit] at C
          go_wp2_with (go_at_call 15; refine C.mono ?_; rintro e w' ⟨rfl, hw⟩; replace hw := hw.symm; subst hw)
          go_round
          case rel => exact ⟨k + 1, r - (m : Int), by omega, by go_num, rfl, by omega, by omega, by show _ = _; have := HS.out; have := HLS.out; omega⟩
          case measure => simp [intOf]; omega
        · rw [szr_no hfit] at C
          have HE : Hid (szr left (sizeSS l) = -1) := szr_no (by unfold sizeSS; have := HS.out; have := HLS.out; have := HLL.out; have := HL.out; omega)
          go_wp2_with (go_at_call 15; refine C.mono ?_; rintro e w' ⟨rfl, hw⟩; replace hw := hw.symm; subst hw)
          go_ret
          exact ⟨ret_i (by rw [HE.out]), rfl⟩
      · have hkn : k = n := by omega
        subst hkn
        have HE : Hid (szr left (sizeSS l) = r) := by
          show _ = _
          have e1 := HS.out
          have e2 := HL.out
          have e3 : sizeSS l = k + lens l k := by unfold sizeSS; rw [e2]
          rw [e3, szr_ok (by omega), e1]; omega
        go_wp2
        go_ret
        exact ⟨ret_i (by rw [HE.out]), rfl⟩
  · have HE : Hid (szr left (sizeSS l) = -1) := szr_no (by unfold sizeSS; have := HL.out; omega)
    go_enter Tryz.func16, Tryz.ntmps16
    go_wp2
    go_ret
    exact ⟨ret_i (by rw [HE.out]), rfl⟩

def sizeN (d : Nd) : Nat := d.text.length + sizeSS d.names
/-- The first k nodes' sizes together. -/
def sums (l : List Nd) (k : Nat) : Nat := ((l.take k).map sizeN).sum
theorem sums_succ {l : List Nd} {k : Nat} (h : k < l.length) : sums l (k + 1) = sums l k + sizeN (l.getD k nd0) := by
  unfold sums
  rw [List.take_succ_eq_append_getElem h, List.map_append, List.sum_append]
  simp [List.getD_eq_getElem?_getD, List.getElem?_eq_getElem h]
theorem sums_le (l : List Nd) : ∀ (j k : Nat), k + j = l.length → sums l k ≤ sums l l.length
  | 0, k, h => by rw [show k = l.length by omega]; exact Nat.le_refl _
  | j + 1, k, h => by
    have := sums_le l j (k + 1) (by omega)
    rw [sums_succ (by omega)] at this
    omega
def sizeNS (l : List Nd) : Nat := l.length + sums l l.length

set_option maxRecDepth 100000 in
set_option maxHeartbeats 1000000 in
theorem szNode_any (k n c : Int) (ut un : Value) (t : List Int) (ns : List (List Int)) (left : Int) (w : World) (ht : RdV w ut t) (hn : RdVV w un ns) (h0 : 0 ≤ left) (h1 : left ≤ 16777216) :
    Calls Tryz.prog 9 #[.agg #[.int .i64 k, .int .i64 n, ut, un, .int .i64 c], .int .i64 left] w fun e w' => e = .returned (.int .i64 (szr left (t.length + sizeSS ns))) ∧ ∃ o, w' = w.alloc o := by
  have hb : ∀ o, Below w.heap.size w (w.alloc o) := fun o => (Below.refl _ _).alloc (Nat.le_refl _) o
  obtain ⟨ao, cap, rfl, hm, hr, hz⟩ := ht
  obtain ⟨m, hmm⟩ : ∃ m, m = t.length := ⟨_, rfl⟩
  rw [← hmm] at hm ⊢
  clear hr hz hmm
  by_cases hf : (m : Int) ≤ left
  · have C1 := fun w' => szByteS_any ao m cap left w' h0 h1 hm
    rw [szr_ok hf] at C1
    have C2 := fun o => szByteSS_any un ns (left - (m : Int)) (w.alloc o) (hn.below (hb o)) (by omega) (by omega)
    have HE : Hid (szr left (m + sizeSS ns) = szr (left - (m : Int)) (sizeSS ns)) := by
      show _ = _
      by_cases h : (sizeSS ns : Int) ≤ left - (m : Int)
      · rw [szr_ok h, szr_ok (by omega)]; omega
      · rw [szr_no h, szr_no (by omega)]
    obtain ⟨r, hrr⟩ : ∃ r, r = szr (left - (m : Int)) (sizeSS ns) := ⟨_, rfl⟩
    rw [HE.out, ← hrr]
    rw [← hrr] at C2
    have hr2 : r = -1 ∨ (0 ≤ r ∧ r ≤ 16777216) := by
      rw [hrr]; unfold szr; split <;> omega
    clear hrr HE hn hb
    obtain ⟨ans, ha⟩ : ∃ v, v = un := ⟨_, rfl⟩
    rcases hr2 with rfl | ⟨r0, r1⟩
    all_goals
      go_enter Tryz.func9, Tryz.ntmps9
      go_wp2_with (first | (go_at_call 15; refine (C1 _).mono ?_; rintro e w' ⟨rfl, hw⟩; replace hw := hw.symm; subst hw) | (go_at_call 16; refine (C2 _).mono ?_; rintro e w' ⟨rfl, hw⟩; replace hw := hw.symm; subst hw))
      go_ret
      exact ⟨rfl, _, rfl⟩
  · have C1 := fun w' => szByteS_any ao m cap left w' h0 h1 hm
    rw [szr_no hf] at C1
    rw [szr_no (by omega)]
    go_enter Tryz.func9, Tryz.ntmps9
    go_wp2_with (go_at_call 15; refine (C1 _).mono ?_; rintro e w' ⟨rfl, hw⟩; replace hw := hw.symm; subst hw)
    go_ret
    exact ⟨rfl, _, rfl⟩

set_option maxRecDepth 100000 in
set_option maxHeartbeats 1000000 in
theorem szNodeS_any (ao : Option Addr) (n cap : Nat) (l : List Nd) (left : Int) (w : World) (hl : l.length = n) (hm : n ≤ 9223372036854775807) (hr : RdN w ao l) (h0 : 0 ≤ left) (h1 : left ≤ 16777216) :
    Calls Tryz.prog 4 #[.slice ao n cap, .int .i64 left] w fun e w' => e = .returned (.int .i64 (szr left (sizeNS l))) ∧ Below w.heap.size w w' := by
  have HL : Hid (l.length = n) := hl
  have HR : Hid (RdN w ao l) := hr
  clear hl hr
  by_cases hlf : (n : Int) ≤ left
  · go_enter Tryz.func4, Tryz.ntmps4
    go_wp2
    go_loopw [1, 5] (fun q i wr => ∃ (k : Nat) (r : Int), k ≤ n ∧ i = .int .i64 k ∧ q = .int .i64 r ∧ 0 ≤ r ∧ r ≤ 16777216 ∧ Hid (r = left - (n : Int) - (sums l k : Int)) ∧ Below w.heap.size w wr) (fun _ i _ => n - (intOf i).toNat)
    case atStart => exact ⟨0, left - (n : Int), Nat.zero_le _, rfl, rfl, by omega, by omega, by show _ = _; simp [sums], Below.refl _ _⟩
    case round =>
      obtain ⟨k, r, hk, rfl, rfl, hr0, hr1, HS, hbel⟩ := hrel
      by_cases hlt : k < n
      · obtain ⟨b, off, ut, un, rfl, c0, c1, c2, c3, c4, ht, hn⟩ := (RdN.below HR.out hbel) k (by rw [HL.out]; exact hlt)
        have HLS : Hid (sums l (k + 1) = sums l k + sizeN (l.getD k nd0)) := sums_succ (by rw [HL.out]; exact hlt)
        have HLL : Hid (sums l (k + 1) ≤ sums l l.length) := sums_le l (l.length - (k + 1)) (k + 1) (by rw [HL.out]; omega)
        generalize l.getD k nd0 = d at c0 c1 c4 ht hn HLS
        obtain ⟨kd, nn, tx, nms, ct⟩ := d
        simp only at c0 c1 c4 ht hn
        have HLS2 : Hid (sums l (k + 1) = sums l k + (tx.length + sizeSS nms)) := HLS
        have C := szNode_any kd nn ct ut un tx nms r wr ht hn hr0 hr1
        obtain ⟨m, hmm⟩ : ∃ m, m = tx.length + sizeSS nms := ⟨_, rfl⟩
        rw [← hmm] at C HLS2
        have hBs := hbel.size
        clear hmm ht hn HLS
        by_cases hfit : (m : Int) ≤ r
        · rw [szr_ok hfit] at C
          go_wp2_with (go_at_call 9; refine C.mono ?_; rintro e w' ⟨rfl, o, rfl⟩)
          go_roundw
          case rel => exact ⟨k + 1, r - (m : Int), by omega, by go_num, rfl, by omega, by omega, by show _ = _; have := HS.out; have := HLS2.out; omega, hbel.alloc hBs _⟩
          case measure => simp [intOf]; omega
        · rw [szr_no hfit] at C
          have HE : Hid (szr left (sizeNS l) = -1) := szr_no (by unfold sizeNS; have := HS.out; have := HLS2.out; have := HLL.out; have := HL.out; omega)
          go_wp2_with (go_at_call 9; refine C.mono ?_; rintro e w' ⟨rfl, o, rfl⟩)
          go_ret
          exact ⟨ret_i (by rw [HE.out]), hbel.alloc hBs _⟩
      · have hkn : k = n := by omega
        subst hkn
        have HE : Hid (szr left (sizeNS l) = r) := by
          show _ = _
          have e1 := HS.out
          have e2 := HL.out
          have e3 : sizeNS l = k + sums l k := by unfold sizeNS; rw [e2]
          rw [e3, szr_ok (by omega), e1]; omega
        go_wp2
        go_ret
        exact ⟨ret_i (by rw [HE.out]), hbel⟩
  · have HE : Hid (szr left (sizeNS l) = -1) := szr_no (by unfold sizeNS; have := HL.out; omega)
    go_enter Tryz.func4, Tryz.ntmps4
    go_wp2
    go_ret
    exact ⟨ret_i (by rw [HE.out]), Below.refl _ _⟩
end Go.Proofs.YtccnjmnafkfjdaaGreat.nod
