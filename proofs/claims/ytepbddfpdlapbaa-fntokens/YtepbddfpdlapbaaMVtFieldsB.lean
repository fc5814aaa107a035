import Derived.Test.YtepbddfpdlapbaaMVtFields
namespace Go.Proofs.Ytepbddfpdlapbaa.vt
open Go.RowKit Go.Proofs.Ytepbddfpdlapbaa.bts Go.Proofs.Ytepbddfpdlapbaa.nod Go.Proofs.Ytepbddfpdlapbaa.lex
set_option maxRecDepth 100000 in
set_option maxHeartbeats 4000000 in
theorem fl19 (nn ct : Int) (ut un : Value) (tx : List Int) (nms : List (List Int)) (w : World) (ht : RdV w ut tx) (hn : RdVV w un nms) (hs : tx.length + sizeSS nms ≤ 1048576) :
    Calls Try.prog 72 #[.agg #[.int .i64 19, .int .i64 nn, ut, un, .int .i64 ct]] w fun e w' => e = .returned (.bool (fieldsB 19 nn tx nms)) ∧ Below w.heap.size w w' := by
  have HS : Hid (∀ i, i < nms.length → (nms.getD i []).length ≤ 1048576) := by
    intro i hi
    have h1 := lens_succ hi
    have h2 := lens_le nms (nms.length - (i + 1)) (i + 1) (by omega)
    unfold sizeSS at hs
    omega
  have HR : Hid (RdVV w un nms) := hn
  obtain ⟨at_, ca, rfl, _, _, _⟩ := ht
  obtain ⟨an, cn, rfl, _, _⟩ := hn
  have hp1 : tx.length ≤ 1048576 := by omega
  have hm1 : nms.length ≤ 1048576 := by unfold sizeSS at hs; omega
  obtain ⟨m, hmm⟩ : ∃ m, m = nms.length := ⟨_, rfl⟩
  obtain ⟨p, hpp⟩ : ∃ p, p = tx.length := ⟨_, rfl⟩
  have HLN : Hid (nms.length = m) := hmm.symm
  have HLT : Hid (tx.length = p) := hpp.symm
  rw [← hmm] at hm1 ⊢
  rw [← hpp] at hp1 ⊢
  clear hmm hpp hs
  have hL : Hid (least 19 = 0) := rfl
  have hM : Hid (most 19 = 50) := rfl
  by_cases hhi : 50 < m
  · have HF : Hid (fieldsB 19 nn tx nms = false) := fB_many (by rw [hM.out, HLN.out]; exact hhi)
    go_enter Try.func72, Try.ntmps72
    go_wp2
    go_ret
    exact ⟨ret_bool (by rw [HF.out]), (Below.refl _ _).alloc (Nat.le_refl _) _⟩
  have dhi : decide ((50 : Int) < (m : Int)) = false := by simp; omega
  have HA : Hid (∀ wr, Below (w.heap.size + 1) (w.alloc (.cells #[.int .i64 19, .int .i64 nn, .slice at_ p ca, .slice an m cn, .int .i64 ct] 75)) wr → wr.cell? ⟨w.heap.size, 0, none⟩ = some (.int .i64 19) ∧ wr.cell? ⟨w.heap.size, 1, none⟩ = some (.int .i64 nn) ∧ wr.cell? ⟨w.heap.size, 2, none⟩ = some (.slice at_ p ca) ∧ wr.cell? ⟨w.heap.size, 3, none⟩ = some (.slice an m cn)) := by
    intro wr hb
    have hh := (hb.block w.heap.size (by omega)).trans (heap_alloc_new w _)
    exact ⟨by simp only [World.cell?, hh]; rfl, by simp only [World.cell?, hh]; rfl, by simp only [World.cell?, hh]; rfl, by simp only [World.cell?, hh]; rfl⟩
  go_enter Try.func72, Try.ntmps72
  go_wp2
  go_loopw [5] (fun q wr => ∃ (k : Nat), k ≤ m ∧ q = .int .i64 k ∧ Hid (∀ j, j < k → isName (nms.getD j []) = true) ∧ Below (w.heap.size + 1) (w.alloc (.cells #[.int .i64 19, .int .i64 nn, .slice at_ p ca, .slice an m cn, .int .i64 ct] 75)) wr) (fun q _ => m - (intOf q).toNat)
  case atStart => exact ⟨0, Nat.zero_le _, rfl, fun j hj => absurd hj (by omega), Below.refl _ _⟩
  case round =>
    obtain ⟨k, hk, rfl, HJ, hbel⟩ := hrel
    obtain ⟨c0, c1, c2, c3⟩ := HA.out wr hbel
    have HBw : Hid (Below w.heap.size w wr) := ((Below.refl _ _).alloc (Nat.le_refl _) _).trans (hbel.mono (by omega))
    have HB1 : Hid (Below (w.heap.size + 1) (w.alloc (.cells #[.int .i64 19, .int .i64 nn, .slice at_ p ca, .slice an m cn, .int .i64 ct] 75)) wr) := hbel
    have hsz := hbel.size
    simp only [World.size_alloc] at hsz
    clear hbel
    by_cases hlt : k < m
    · obtain ⟨_, _, e1, _, h1⟩ := HR.out.below HBw.out
      simp only [Value.slice.injEq] at e1
      obtain ⟨rfl, _, rfl⟩ := e1
      obtain ⟨b, off, u, rfl, hc, a1, c1', rfl, _, hrd, hbt⟩ := h1 k (by rw [HLN.out]; exact hlt)
      have hsz2 := HS.out k (by rw [HLN.out]; exact hlt)
      obtain ⟨q, hqq⟩ : ∃ q, q = (nms.getD k []).length := ⟨_, rfl⟩
      have C := l3isName_any a1 q c1' (nms.getD k []) wr hqq.symm hrd hbt (by omega)
      rw [← hqq] at hc
      clear h1 hqq hrd hbt hsz2
      cases hnm : isName (nms.getD k []) with
      | false =>
        have HF : Hid (fieldsB 19 nn tx nms = false) := fB_name (by rw [HLN.out]; exact hlt) hnm
        rw [hnm] at C
        clear hnm
        go_wp2_with fail
        refine C.mono ?_
        rintro e w1 ⟨rfl, hb1⟩
        clear C
        go_wp2
        go_ret
        exact ⟨ret_bool (by rw [HF.out]), HBw.out.trans (hb1.mono (by omega))⟩
      | true =>
        have HJ' : Hid (∀ j, j < k + 1 → isName (nms.getD j []) = true) := by
          intro j hj
          by_cases e : j = k
          · subst e; exact hnm
          · exact HJ.out j (by omega)
        rw [hnm] at C
        clear hnm
        go_wp2_with fail
        refine C.mono ?_
        rintro e w1 ⟨rfl, hb1⟩
        clear C
        have HBx : Hid (Below (w.heap.size + 1) (w.alloc (.cells #[.int .i64 19, .int .i64 nn, .slice at_ p ca, .slice (some ⟨b, off, none⟩) m cn, .int .i64 ct] 75)) w1) := HB1.out.trans (hb1.mono hsz)
        clear hb1
        go_wp2
        go_roundw
        case rel => exact ⟨k + 1, by omega, by go_num, HJ', HBx.out⟩
        case measure => simp [intOf]; omega
    · have hkm : k = m := by omega
      subst hkm
      have HO : Hid (fieldsB 19 nn tx nms = (textOk 19 p && numOk 19 nn)) := by
        show _ = _
        rw [← HLT.out]
        exact fB_ok (by rw [hL.out, HLN.out]; omega) (by rw [hM.out, HLN.out]; omega) (fun j hj => HJ.out j (by rw [← HLN.out]; exact hj))
      by_cases hp : p = 0
      · subst hp
        have HT : Hid (textOk 19 0 = true) := by show _ = _; unfold textOk; simp
        go_wp2
        go_ret
        exact ⟨ret_bool (by rw [HO.out, HT.out]; simp [numOk]), HBw.out⟩
      · have HT : Hid (textOk 19 p = false) := by show _ = _; unfold textOk; rw [decide_eq_false hp]; rfl
        have dp : ((p : Int) != 0) = true := bne_iff_ne.mpr (by omega)
        go_wp2
        go_ret
        exact ⟨ret_bool (by rw [HO.out, HT.out]; rfl), HBw.out⟩
set_option maxRecDepth 100000 in
set_option maxHeartbeats 4000000 in
theorem fl15 (nn ct : Int) (ut un : Value) (tx : List Int) (nms : List (List Int)) (w : World) (ht : RdV w ut tx) (hn : RdVV w un nms) (_hs : tx.length + sizeSS nms ≤ 1048576) :
    Calls Try.prog 72 #[.agg #[.int .i64 15, .int .i64 nn, ut, un, .int .i64 ct]] w fun e w' => e = .returned (.bool (fieldsB 15 nn tx nms)) ∧ Below w.heap.size w w' := by
  obtain ⟨at_, ca, rfl, _, _, _⟩ := ht
  obtain ⟨an, cn, rfl, _, _⟩ := hn
  have hp1 : tx.length ≤ 1048576 := by omega
  have hm1 : nms.length ≤ 1048576 := by unfold sizeSS at _hs; omega
  obtain ⟨m, hmm⟩ : ∃ m, m = nms.length := ⟨_, rfl⟩
  obtain ⟨p, hpp⟩ : ∃ p, p = tx.length := ⟨_, rfl⟩
  have HLN : Hid (nms.length = m) := hmm.symm
  have HLT : Hid (tx.length = p) := hpp.symm
  rw [← hmm] at hm1 ⊢
  rw [← hpp] at hp1 ⊢
  clear hmm hpp _hs
  have hL : Hid (least 15 = 0) := rfl
  have hM : Hid (most 15 = 0) := rfl
  by_cases hhi : 0 < m
  · have HF : Hid (fieldsB 15 nn tx nms = false) := fB_many (by rw [hM.out, HLN.out]; exact hhi)
    have hlt : (0 : Int) < (m : Int) := by omega
    go_enter Try.func72, Try.ntmps72
    go_wp2
    go_ret
    exact ⟨ret_bool (by rw [HF.out]), (Below.refl _ _).alloc (Nat.le_refl _) _⟩
  have dhi : decide ((0 : Int) < (m : Int)) = false := by simp; omega
  have HA : Hid (∀ wr, Below (w.heap.size + 1) (w.alloc (.cells #[.int .i64 15, .int .i64 nn, .slice at_ p ca, .slice an m cn, .int .i64 ct] 75)) wr → wr.cell? ⟨w.heap.size, 0, none⟩ = some (.int .i64 15) ∧ wr.cell? ⟨w.heap.size, 1, none⟩ = some (.int .i64 nn) ∧ wr.cell? ⟨w.heap.size, 2, none⟩ = some (.slice at_ p ca) ∧ wr.cell? ⟨w.heap.size, 3, none⟩ = some (.slice an m cn)) := by
    intro wr hb
    have hh := (hb.block w.heap.size (by omega)).trans (heap_alloc_new w _)
    exact ⟨by simp only [World.cell?, hh]; rfl, by simp only [World.cell?, hh]; rfl, by simp only [World.cell?, hh]; rfl, by simp only [World.cell?, hh]; rfl⟩
  go_enter Try.func72, Try.ntmps72
  go_wp2
  go_loopw [5] (fun q wr => ∃ (k : Nat), k ≤ m ∧ q = .int .i64 k ∧ Hid (∀ j, j < k → isName (nms.getD j []) = true) ∧ Below (w.heap.size + 1) (w.alloc (.cells #[.int .i64 15, .int .i64 nn, .slice at_ p ca, .slice an m cn, .int .i64 ct] 75)) wr) (fun q _ => m - (intOf q).toNat)
  case atStart => exact ⟨0, Nat.zero_le _, rfl, fun j hj => absurd hj (by omega), Below.refl _ _⟩
  case round =>
    obtain ⟨k, hk, rfl, HJ, hbel⟩ := hrel
    obtain ⟨c0, c1, c2, c3⟩ := HA.out wr hbel
    have HBw : Hid (Below w.heap.size w wr) := ((Below.refl _ _).alloc (Nat.le_refl _) _).trans (hbel.mono (by omega))
    clear hbel
    by_cases hlt : k < m
    · omega
    · have hkm : k = m := by omega
      subst hkm
      have HO : Hid (fieldsB 15 nn tx nms = (textOk 15 p && numOk 15 nn)) := by
        show _ = _
        rw [← HLT.out]
        exact fB_ok (by rw [hL.out, HLN.out]; omega) (by rw [hM.out, HLN.out]; omega) (fun j hj => HJ.out j (by rw [← HLN.out]; exact hj))
      by_cases hp : p ≤ 5000
      · have dp : decide ((5000 : Int) < (p : Int)) = false := by simp; omega
        have HT : Hid (textOk 15 p = true) := by show _ = _; unfold textOk; rw [decide_eq_true hp]; rfl
        go_wp2
        go_ret
        exact ⟨ret_bool (by rw [HO.out, HT.out]; simp [numOk]), HBw.out⟩
      · have HT : Hid (textOk 15 p = false) := by show _ = _; unfold textOk; rw [decide_eq_false hp]; rfl
        go_wp2
        go_ret
        exact ⟨ret_bool (by rw [HO.out, HT.out]; rfl), HBw.out⟩
set_option maxRecDepth 100000 in
set_option maxHeartbeats 4000000 in
theorem fl21 (nn ct : Int) (ut un : Value) (tx : List Int) (nms : List (List Int)) (w : World) (ht : RdV w ut tx) (hn : RdVV w un nms) (_hs : tx.length + sizeSS nms ≤ 1048576) :
    Calls Try.prog 72 #[.agg #[.int .i64 21, .int .i64 nn, ut, un, .int .i64 ct]] w fun e w' => e = .returned (.bool (fieldsB 21 nn tx nms)) ∧ Below w.heap.size w w' := by
  obtain ⟨at_, ca, rfl, _, _, _⟩ := ht
  obtain ⟨an, cn, rfl, _, _⟩ := hn
  have hp1 : tx.length ≤ 1048576 := by omega
  have hm1 : nms.length ≤ 1048576 := by unfold sizeSS at _hs; omega
  obtain ⟨m, hmm⟩ : ∃ m, m = nms.length := ⟨_, rfl⟩
  obtain ⟨p, hpp⟩ : ∃ p, p = tx.length := ⟨_, rfl⟩
  have HLN : Hid (nms.length = m) := hmm.symm
  have HLT : Hid (tx.length = p) := hpp.symm
  rw [← hmm] at hm1 ⊢
  rw [← hpp] at hp1 ⊢
  clear hmm hpp _hs
  have hL : Hid (least 21 = 0) := rfl
  have hM : Hid (most 21 = 0) := rfl
  by_cases hhi : 0 < m
  · have HF : Hid (fieldsB 21 nn tx nms = false) := fB_many (by rw [hM.out, HLN.out]; exact hhi)
    have hlt : (0 : Int) < (m : Int) := by omega
    go_enter Try.func72, Try.ntmps72
    go_wp2
    go_ret
    exact ⟨ret_bool (by rw [HF.out]), (Below.refl _ _).alloc (Nat.le_refl _) _⟩
  have dhi : decide ((0 : Int) < (m : Int)) = false := by simp; omega
  have HA : Hid (∀ wr, Below (w.heap.size + 1) (w.alloc (.cells #[.int .i64 21, .int .i64 nn, .slice at_ p ca, .slice an m cn, .int .i64 ct] 75)) wr → wr.cell? ⟨w.heap.size, 0, none⟩ = some (.int .i64 21) ∧ wr.cell? ⟨w.heap.size, 1, none⟩ = some (.int .i64 nn) ∧ wr.cell? ⟨w.heap.size, 2, none⟩ = some (.slice at_ p ca) ∧ wr.cell? ⟨w.heap.size, 3, none⟩ = some (.slice an m cn)) := by
    intro wr hb
    have hh := (hb.block w.heap.size (by omega)).trans (heap_alloc_new w _)
    exact ⟨by simp only [World.cell?, hh]; rfl, by simp only [World.cell?, hh]; rfl, by simp only [World.cell?, hh]; rfl, by simp only [World.cell?, hh]; rfl⟩
  go_enter Try.func72, Try.ntmps72
  go_wp2
  go_loopw [5] (fun q wr => ∃ (k : Nat), k ≤ m ∧ q = .int .i64 k ∧ Hid (∀ j, j < k → isName (nms.getD j []) = true) ∧ Below (w.heap.size + 1) (w.alloc (.cells #[.int .i64 21, .int .i64 nn, .slice at_ p ca, .slice an m cn, .int .i64 ct] 75)) wr) (fun q _ => m - (intOf q).toNat)
  case atStart => exact ⟨0, Nat.zero_le _, rfl, fun j hj => absurd hj (by omega), Below.refl _ _⟩
  case round =>
    obtain ⟨k, hk, rfl, HJ, hbel⟩ := hrel
    obtain ⟨c0, c1, c2, c3⟩ := HA.out wr hbel
    have HBw : Hid (Below w.heap.size w wr) := ((Below.refl _ _).alloc (Nat.le_refl _) _).trans (hbel.mono (by omega))
    clear hbel
    by_cases hlt : k < m
    · omega
    · have hkm : k = m := by omega
      subst hkm
      have HO : Hid (fieldsB 21 nn tx nms = (textOk 21 p && numOk 21 nn)) := by
        show _ = _
        rw [← HLT.out]
        exact fB_ok (by rw [hL.out, HLN.out]; omega) (by rw [hM.out, HLN.out]; omega) (fun j hj => HJ.out j (by rw [← HLN.out]; exact hj))
      by_cases hp : p = 0
      · subst hp
        have HT : Hid (textOk 21 0 = true) := by show _ = _; unfold textOk; simp
        by_cases ha : 0 ≤ nn
        · have da : decide (0 ≤ nn) = true := decide_eq_true ha
          go_wp2
          go_ret
          exact ⟨ret_bool (by rw [HO.out, HT.out]; simp [numOk, ha]), HBw.out⟩
        · have da : decide (0 ≤ nn) = false := decide_eq_false ha
          go_wp2
          go_ret
          exact ⟨ret_bool (by rw [HO.out, HT.out]; simp [numOk]; omega), HBw.out⟩
      · have HT : Hid (textOk 21 p = false) := by show _ = _; unfold textOk; rw [decide_eq_false hp]; rfl
        have dp : ((p : Int) != 0) = true := bne_iff_ne.mpr (by omega)
        go_wp2
        go_ret
        exact ⟨ret_bool (by rw [HO.out, HT.out]; rfl), HBw.out⟩
set_option maxRecDepth 100000 in
set_option maxHeartbeats 4000000 in
theorem fl2 (nn ct : Int) (ut un : Value) (tx : List Int) (nms : List (List Int)) (w : World) (ht : RdV w ut tx) (hn : RdVV w un nms) (_hs : tx.length + sizeSS nms ≤ 1048576) :
    Calls Try.prog 72 #[.agg #[.int .i64 2, .int .i64 nn, ut, un, .int .i64 ct]] w fun e w' => e = .returned (.bool (fieldsB 2 nn tx nms)) ∧ Below w.heap.size w w' := by
  obtain ⟨at_, ca, rfl, _, _, _⟩ := ht
  obtain ⟨an, cn, rfl, _, _⟩ := hn
  have hp1 : tx.length ≤ 1048576 := by omega
  have hm1 : nms.length ≤ 1048576 := by unfold sizeSS at _hs; omega
  obtain ⟨m, hmm⟩ : ∃ m, m = nms.length := ⟨_, rfl⟩
  obtain ⟨p, hpp⟩ : ∃ p, p = tx.length := ⟨_, rfl⟩
  have HLN : Hid (nms.length = m) := hmm.symm
  have HLT : Hid (tx.length = p) := hpp.symm
  rw [← hmm] at hm1 ⊢
  rw [← hpp] at hp1 ⊢
  clear hmm hpp _hs
  have hL : Hid (least 2 = 0) := rfl
  have hM : Hid (most 2 = 0) := rfl
  by_cases hhi : 0 < m
  · have HF : Hid (fieldsB 2 nn tx nms = false) := fB_many (by rw [hM.out, HLN.out]; exact hhi)
    have hlt : (0 : Int) < (m : Int) := by omega
    go_enter Try.func72, Try.ntmps72
    go_wp2
    go_ret
    exact ⟨ret_bool (by rw [HF.out]), (Below.refl _ _).alloc (Nat.le_refl _) _⟩
  have dhi : decide ((0 : Int) < (m : Int)) = false := by simp; omega
  have HA : Hid (∀ wr, Below (w.heap.size + 1) (w.alloc (.cells #[.int .i64 2, .int .i64 nn, .slice at_ p ca, .slice an m cn, .int .i64 ct] 75)) wr → wr.cell? ⟨w.heap.size, 0, none⟩ = some (.int .i64 2) ∧ wr.cell? ⟨w.heap.size, 1, none⟩ = some (.int .i64 nn) ∧ wr.cell? ⟨w.heap.size, 2, none⟩ = some (.slice at_ p ca) ∧ wr.cell? ⟨w.heap.size, 3, none⟩ = some (.slice an m cn)) := by
    intro wr hb
    have hh := (hb.block w.heap.size (by omega)).trans (heap_alloc_new w _)
    exact ⟨by simp only [World.cell?, hh]; rfl, by simp only [World.cell?, hh]; rfl, by simp only [World.cell?, hh]; rfl, by simp only [World.cell?, hh]; rfl⟩
  go_enter Try.func72, Try.ntmps72
  go_wp2
  go_loopw [5] (fun q wr => ∃ (k : Nat), k ≤ m ∧ q = .int .i64 k ∧ Hid (∀ j, j < k → isName (nms.getD j []) = true) ∧ Below (w.heap.size + 1) (w.alloc (.cells #[.int .i64 2, .int .i64 nn, .slice at_ p ca, .slice an m cn, .int .i64 ct] 75)) wr) (fun q _ => m - (intOf q).toNat)
  case atStart => exact ⟨0, Nat.zero_le _, rfl, fun j hj => absurd hj (by omega), Below.refl _ _⟩
  case round =>
    obtain ⟨k, hk, rfl, HJ, hbel⟩ := hrel
    obtain ⟨c0, c1, c2, c3⟩ := HA.out wr hbel
    have HBw : Hid (Below w.heap.size w wr) := ((Below.refl _ _).alloc (Nat.le_refl _) _).trans (hbel.mono (by omega))
    clear hbel
    by_cases hlt : k < m
    · omega
    · have hkm : k = m := by omega
      subst hkm
      have HO : Hid (fieldsB 2 nn tx nms = (textOk 2 p && numOk 2 nn)) := by
        show _ = _
        rw [← HLT.out]
        exact fB_ok (by rw [hL.out, HLN.out]; omega) (by rw [hM.out, HLN.out]; omega) (fun j hj => HJ.out j (by rw [← HLN.out]; exact hj))
      by_cases hp : p = 0
      · subst hp
        have HT : Hid (textOk 2 0 = true) := by show _ = _; unfold textOk; simp
        go_wp2
        go_ret
        exact ⟨ret_bool (by rw [HO.out, HT.out]; simp [numOk]), HBw.out⟩
      · have HT : Hid (textOk 2 p = false) := by show _ = _; unfold textOk; rw [decide_eq_false hp]; rfl
        have dp : ((p : Int) != 0) = true := bne_iff_ne.mpr (by omega)
        go_wp2
        go_ret
        exact ⟨ret_bool (by rw [HO.out, HT.out]; rfl), HBw.out⟩
set_option maxRecDepth 100000 in
set_option maxHeartbeats 4000000 in
theorem fl14 (nn ct : Int) (ut un : Value) (tx : List Int) (nms : List (List Int)) (w : World) (ht : RdV w ut tx) (hn : RdVV w un nms) (_hs : tx.length + sizeSS nms ≤ 1048576) :
    Calls Try.prog 72 #[.agg #[.int .i64 14, .int .i64 nn, ut, un, .int .i64 ct]] w fun e w' => e = .returned (.bool (fieldsB 14 nn tx nms)) ∧ Below w.heap.size w w' := by
  obtain ⟨at_, ca, rfl, _, _, _⟩ := ht
  obtain ⟨an, cn, rfl, _, _⟩ := hn
  have hp1 : tx.length ≤ 1048576 := by omega
  have hm1 : nms.length ≤ 1048576 := by unfold sizeSS at _hs; omega
  obtain ⟨m, hmm⟩ : ∃ m, m = nms.length := ⟨_, rfl⟩
  obtain ⟨p, hpp⟩ : ∃ p, p = tx.length := ⟨_, rfl⟩
  have HLN : Hid (nms.length = m) := hmm.symm
  have HLT : Hid (tx.length = p) := hpp.symm
  rw [← hmm] at hm1 ⊢
  rw [← hpp] at hp1 ⊢
  clear hmm hpp _hs
  have hL : Hid (least 14 = 0) := rfl
  have hM : Hid (most 14 = 0) := rfl
  by_cases hhi : 0 < m
  · have HF : Hid (fieldsB 14 nn tx nms = false) := fB_many (by rw [hM.out, HLN.out]; exact hhi)
    have hlt : (0 : Int) < (m : Int) := by omega
    go_enter Try.func72, Try.ntmps72
    go_wp2
    go_ret
    exact ⟨ret_bool (by rw [HF.out]), (Below.refl _ _).alloc (Nat.le_refl _) _⟩
  have dhi : decide ((0 : Int) < (m : Int)) = false := by simp; omega
  have HA : Hid (∀ wr, Below (w.heap.size + 1) (w.alloc (.cells #[.int .i64 14, .int .i64 nn, .slice at_ p ca, .slice an m cn, .int .i64 ct] 75)) wr → wr.cell? ⟨w.heap.size, 0, none⟩ = some (.int .i64 14) ∧ wr.cell? ⟨w.heap.size, 1, none⟩ = some (.int .i64 nn) ∧ wr.cell? ⟨w.heap.size, 2, none⟩ = some (.slice at_ p ca) ∧ wr.cell? ⟨w.heap.size, 3, none⟩ = some (.slice an m cn)) := by
    intro wr hb
    have hh := (hb.block w.heap.size (by omega)).trans (heap_alloc_new w _)
    exact ⟨by simp only [World.cell?, hh]; rfl, by simp only [World.cell?, hh]; rfl, by simp only [World.cell?, hh]; rfl, by simp only [World.cell?, hh]; rfl⟩
  go_enter Try.func72, Try.ntmps72
  go_wp2
  go_loopw [5] (fun q wr => ∃ (k : Nat), k ≤ m ∧ q = .int .i64 k ∧ Hid (∀ j, j < k → isName (nms.getD j []) = true) ∧ Below (w.heap.size + 1) (w.alloc (.cells #[.int .i64 14, .int .i64 nn, .slice at_ p ca, .slice an m cn, .int .i64 ct] 75)) wr) (fun q _ => m - (intOf q).toNat)
  case atStart => exact ⟨0, Nat.zero_le _, rfl, fun j hj => absurd hj (by omega), Below.refl _ _⟩
  case round =>
    obtain ⟨k, hk, rfl, HJ, hbel⟩ := hrel
    obtain ⟨c0, c1, c2, c3⟩ := HA.out wr hbel
    have HBw : Hid (Below w.heap.size w wr) := ((Below.refl _ _).alloc (Nat.le_refl _) _).trans (hbel.mono (by omega))
    clear hbel
    by_cases hlt : k < m
    · omega
    · have hkm : k = m := by omega
      subst hkm
      have HO : Hid (fieldsB 14 nn tx nms = (textOk 14 p && numOk 14 nn)) := by
        show _ = _
        rw [← HLT.out]
        exact fB_ok (by rw [hL.out, HLN.out]; omega) (by rw [hM.out, HLN.out]; omega) (fun j hj => HJ.out j (by rw [← HLN.out]; exact hj))
      by_cases hp : p = 0
      · subst hp
        have HT : Hid (textOk 14 0 = true) := by show _ = _; unfold textOk; simp
        go_wp2
        go_ret
        exact ⟨ret_bool (by rw [HO.out, HT.out]; simp [numOk]), HBw.out⟩
      · have HT : Hid (textOk 14 p = false) := by show _ = _; unfold textOk; rw [decide_eq_false hp]; rfl
        have dp : ((p : Int) != 0) = true := bne_iff_ne.mpr (by omega)
        go_wp2
        go_ret
        exact ⟨ret_bool (by rw [HO.out, HT.out]; rfl), HBw.out⟩
set_option maxRecDepth 100000 in
set_option maxHeartbeats 4000000 in
theorem flX (kd nn ct : Int) (ut un : Value) (tx : List Int) (nms : List (List Int)) (w : World) (ht : RdV w ut tx) (hn : RdVV w un nms) (_hs : tx.length + sizeSS nms ≤ 1048576) (n1 : ¬ kd = 1) (n26 : ¬ kd = 26) (n7 : ¬ kd = 7) (n16 : ¬ kd = 16) (n19 : ¬ kd = 19) (n15 : ¬ kd = 15) (n21 : ¬ kd = 21) (n2 : ¬ kd = 2) (n14 : ¬ kd = 14) :
    Calls Try.prog 72 #[.agg #[.int .i64 kd, .int .i64 nn, ut, un, .int .i64 ct]] w fun e w' => e = .returned (.bool (fieldsB kd nn tx nms)) ∧ Below w.heap.size w w' := by
  obtain ⟨at_, ca, rfl, _, _, _⟩ := ht
  obtain ⟨an, cn, rfl, _, _⟩ := hn
  have hp1 : tx.length ≤ 1048576 := by omega
  have hm1 : nms.length ≤ 1048576 := by unfold sizeSS at _hs; omega
  obtain ⟨m, hmm⟩ : ∃ m, m = nms.length := ⟨_, rfl⟩
  obtain ⟨p, hpp⟩ : ∃ p, p = tx.length := ⟨_, rfl⟩
  have HLN : Hid (nms.length = m) := hmm.symm
  have HLT : Hid (tx.length = p) := hpp.symm
  rw [← hmm] at hm1 ⊢
  rw [← hpp] at hp1 ⊢
  clear hmm hpp _hs
  have e1 : (kd == 1) = false := by simp; exact n1
  have e26 : (kd == 26) = false := by simp; exact n26
  have e7 : (kd == 7) = false := by simp; exact n7
  have e16 : (kd == 16) = false := by simp; exact n16
  have e19 : (kd == 19) = false := by simp; exact n19
  have e15 : (kd == 15) = false := by simp; exact n15
  have e21 : (kd == 21) = false := by simp; exact n21
  have e2 : (kd == 2) = false := by simp; exact n2
  have e14 : (kd == 14) = false := by simp; exact n14
  have d15 : (kd != 15) = true := bne_iff_ne.mpr n15
  have hL : Hid (least kd = 0) := by show _ = _; unfold least; rw [if_neg (by omega)]
  have hM : Hid (most kd = 0) := by show _ = _; unfold most; rw [if_neg (by omega), if_neg (by omega), if_neg (by omega)]
  by_cases hhi : 0 < m
  · have HF : Hid (fieldsB kd nn tx nms = false) := fB_many (by rw [hM.out, HLN.out]; exact hhi)
    have hlt : (0 : Int) < (m : Int) := by omega
    go_enter Try.func72, Try.ntmps72
    go_wp2
    go_ret
    exact ⟨ret_bool (by rw [HF.out]), (Below.refl _ _).alloc (Nat.le_refl _) _⟩
  have dhi : decide ((0 : Int) < (m : Int)) = false := by simp; omega
  have HA : Hid (∀ wr, Below (w.heap.size + 1) (w.alloc (.cells #[.int .i64 kd, .int .i64 nn, .slice at_ p ca, .slice an m cn, .int .i64 ct] 75)) wr → wr.cell? ⟨w.heap.size, 0, none⟩ = some (.int .i64 kd) ∧ wr.cell? ⟨w.heap.size, 1, none⟩ = some (.int .i64 nn) ∧ wr.cell? ⟨w.heap.size, 2, none⟩ = some (.slice at_ p ca) ∧ wr.cell? ⟨w.heap.size, 3, none⟩ = some (.slice an m cn)) := by
    intro wr hb
    have hh := (hb.block w.heap.size (by omega)).trans (heap_alloc_new w _)
    exact ⟨by simp only [World.cell?, hh]; rfl, by simp only [World.cell?, hh]; rfl, by simp only [World.cell?, hh]; rfl, by simp only [World.cell?, hh]; rfl⟩
  go_enter Try.func72, Try.ntmps72
  go_wp2
  go_loopw [5] (fun q wr => ∃ (k : Nat), k ≤ m ∧ q = .int .i64 k ∧ Hid (∀ j, j < k → isName (nms.getD j []) = true) ∧ Below (w.heap.size + 1) (w.alloc (.cells #[.int .i64 kd, .int .i64 nn, .slice at_ p ca, .slice an m cn, .int .i64 ct] 75)) wr) (fun q _ => m - (intOf q).toNat)
  case atStart => exact ⟨0, Nat.zero_le _, rfl, fun j hj => absurd hj (by omega), Below.refl _ _⟩
  case round =>
    obtain ⟨k, hk, rfl, HJ, hbel⟩ := hrel
    obtain ⟨c0, c1, c2, c3⟩ := HA.out wr hbel
    have HBw : Hid (Below w.heap.size w wr) := ((Below.refl _ _).alloc (Nat.le_refl _) _).trans (hbel.mono (by omega))
    clear hbel
    by_cases hlt : k < m
    · omega
    · have hkm : k = m := by omega
      subst hkm
      have HO : Hid (fieldsB kd nn tx nms = (textOk kd p && numOk kd nn)) := by
        show _ = _
        rw [← HLT.out]
        exact fB_ok (by rw [hL.out, HLN.out]; omega) (by rw [hM.out, HLN.out]; omega) (fun j hj => HJ.out j (by rw [← HLN.out]; exact hj))
      by_cases hp : p = 0
      · subst hp
        have HT : Hid (textOk kd 0 = true) := by show _ = _; unfold textOk; simp
        go_wp2
        go_ret
        exact ⟨ret_bool (by rw [HO.out, HT.out]; simp [numOk, n21, e2, e14]), HBw.out⟩
      · have HT : Hid (textOk kd p = false) := by show _ = _; unfold textOk; rw [decide_eq_false hp, decide_eq_false n15]; rfl
        have dp : ((p : Int) != 0) = true := bne_iff_ne.mpr (by omega)
        go_wp2
        go_ret
        exact ⟨ret_bool (by rw [HO.out, HT.out]; rfl), HBw.out⟩
theorem l3fields_any (kd nn ct : Int) (ut un : Value) (tx : List Int) (nms : List (List Int)) (w : World) (ht : RdV w ut tx) (hn : RdVV w un nms) (hs : tx.length + sizeSS nms ≤ 1048576) :
    Calls Try.prog 72 #[.agg #[.int .i64 kd, .int .i64 nn, ut, un, .int .i64 ct]] w fun e w' => e = .returned (.bool (fieldsB kd nn tx nms)) ∧ Below w.heap.size w w' := by
  by_cases n1 : kd = 1
  · subst n1; exact fl1 nn ct ut un tx nms w ht hn hs
  by_cases n26 : kd = 26
  · subst n26; exact fl26 nn ct ut un tx nms w ht hn hs
  by_cases n7 : kd = 7
  · subst n7; exact fl7 nn ct ut un tx nms w ht hn hs
  by_cases n16 : kd = 16
  · subst n16; exact fl16 nn ct ut un tx nms w ht hn hs
  by_cases n19 : kd = 19
  · subst n19; exact fl19 nn ct ut un tx nms w ht hn hs
  by_cases n15 : kd = 15
  · subst n15; exact fl15 nn ct ut un tx nms w ht hn hs
  by_cases n21 : kd = 21
  · subst n21; exact fl21 nn ct ut un tx nms w ht hn hs
  by_cases n2 : kd = 2
  · subst n2; exact fl2 nn ct ut un tx nms w ht hn hs
  by_cases n14 : kd = 14
  · subst n14; exact fl14 nn ct ut un tx nms w ht hn hs
  exact flX kd nn ct ut un tx nms w ht hn hs n1 n26 n7 n16 n19 n15 n21 n2 n14
end Go.Proofs.Ytepbddfpdlapbaa.vt
