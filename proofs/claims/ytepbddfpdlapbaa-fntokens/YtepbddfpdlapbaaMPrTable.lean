import Derived.Test.YtepbddfpdlapbaaMPrBlock
namespace Go.Proofs.Ytepbddfpdlapbaa.vt
open Go.RowKit Go.Proofs.Ytepbddfpdlapbaa.bts Go.Proofs.Ytepbddfpdlapbaa.nod Go.Proofs.Ytepbddfpdlapbaa.lex
def fieldS (kd nn : Int) (tx : List Int) (place : Nat) (sk sv : ByteArray) : ByteArray × Nat :=
  if kd = 14 ∧ nn = (place : Int) + 1 then (sv, place + 1)
  else if kd = 15 ∧ isName tx = true then ((strOfNums tx ++ { data := #[32, 61, 32] }) ++ sv, place)
  else ((({ data := #[91] } ++ sk) ++ { data := #[93, 32, 61, 32] }) ++ sv, place)
def tableS (l : List Nd) (ps : Nat → Nat) (ss : Nat → ByteArray) : Nat → ByteArray × Nat
  | 0 => ({ data := #[123] }, 0)
  | j + 1 => ((if 0 < j then (tableS l ps ss j).1 ++ { data := #[44, 32] } else (tableS l ps ss j).1) ++ (fieldS (knd l (ps (2 * j))) (l.getD (ps (2 * j)) nd0).n (l.getD (ps (2 * j)) nd0).text (tableS l ps ss j).2 (ss (2 * j)) (ss (2 * j + 1))).1, (fieldS (knd l (ps (2 * j))) (l.getD (ps (2 * j)) nd0).n (l.getD (ps (2 * j)) nd0).text (tableS l ps ss j).2 (ss (2 * j)) (ss (2 * j + 1))).2)
theorem fieldS_size {kd nn : Int} {tx : List Int} {place : Nat} {sk sv : ByteArray} (ht : tx.length ≤ 1000) : (fieldS kd nn tx place sk sv).1.size ≤ sk.size + sv.size + 1010 ∧ (fieldS kd nn tx place sk sv).2 ≤ place + 1 := by
  unfold fieldS
  by_cases h1 : kd = 14 ∧ nn = (place : Int) + 1
  · rw [if_pos h1]; exact ⟨by show sv.size ≤ _; omega, Nat.le_refl _⟩
  rw [if_neg h1]
  have e3 : (ByteArray.mk #[32, 61, 32]).size = 3 := rfl
  have e1 : (ByteArray.mk #[91]).size = 1 := rfl
  have e4 : (ByteArray.mk #[93, 32, 61, 32]).size = 4 := rfl
  by_cases h2 : kd = 15 ∧ isName tx = true
  · rw [if_pos h2]
    refine ⟨?_, by simp⟩
    show (strOfNums tx ++ _ ++ sv).size ≤ _
    rw [ByteArray.size_append, ByteArray.size_append, strOfNums_size]
    omega
  · rw [if_neg h2]
    refine ⟨?_, by simp⟩
    show (_ ++ sk ++ _ ++ sv).size ≤ _
    rw [ByteArray.size_append, ByteArray.size_append, ByteArray.size_append]
    omega
theorem tableS_size (l : List Nd) (ps : Nat → Nat) (ss : Nat → ByteArray) (ht : ∀ k, (l.getD (ps k) nd0).text.length ≤ 1000) : ∀ j, (tableS l ps ss j).1.size ≤ 1 + room ss (2 * j) ∧ (tableS l ps ss j).2 ≤ j
  | 0 => ⟨Nat.le_refl _, Nat.le_refl _⟩
  | j + 1 => by
    have ih := tableS_size l ps ss ht j
    have hf := fieldS_size (kd := knd l (ps (2 * j))) (nn := (l.getD (ps (2 * j)) nd0).n) (tx := (l.getD (ps (2 * j)) nd0).text) (place := (tableS l ps ss j).2) (sk := ss (2 * j)) (sv := ss (2 * j + 1)) (ht _)
    have er : room ss (2 * (j + 1)) = room ss (2 * j) + (ss (2 * j)).size + 1000 + (ss (2 * j + 1)).size + 1000 := rfl
    have e2 : (ByteArray.mk #[44, 32]).size = 2 := rfl
    rw [tableS, er]
    refine ⟨?_, by show (fieldS _ _ _ _ _ _).2 ≤ _; omega⟩
    show ByteArray.size (_ ++ _) ≤ _
    rw [ByteArray.size_append]
    by_cases hj : 0 < j
    · rw [if_pos hj, ByteArray.size_append]; omega
    · rw [if_neg hj]; omega
theorem cellBw {w w' : World} {a : Addr} {v : Value} (h : w.cell? a = some v) (hb : Below w.heap.size w w') : w'.cell? a = some v := (hb.cell (World.block_lt_of_cell? _ _ h)).trans h
theorem nodeVar {w W : World} {kd nn ct : Int} {ut un : Value} {T : TypeId} (h : Below (w.heap.size + 1) (w.alloc (.cells #[.int .i64 kd, .int .i64 nn, ut, un, .int .i64 ct] T)) W) :
    W.cell? ⟨w.heap.size, 0, none⟩ = some (.int .i64 kd) ∧ W.cell? ⟨w.heap.size, 1, none⟩ = some (.int .i64 nn) ∧ W.cell? ⟨w.heap.size, 2, none⟩ = some ut ∧ W.cell? ⟨w.heap.size, 3, none⟩ = some un ∧ W.cell? ⟨w.heap.size, 4, none⟩ = some (.int .i64 ct) ∧ Below w.heap.size w W := by
  have hh := (h.block w.heap.size (by omega)).trans (heap_alloc_new w _)
  exact ⟨by simp only [World.cell?, hh]; rfl, by simp only [World.cell?, hh]; rfl, by simp only [World.cell?, hh]; rfl, by simp only [World.cell?, hh]; rfl, by simp only [World.cell?, hh]; rfl, ((Below.refl _ _).alloc (Nat.le_refl _) _).trans (h.mono (by omega))⟩
set_option maxRecDepth 100000 in
set_option maxHeartbeats 4000000 in
theorem table_any {l : List Nd} {lv m : Nat} {ps : Nat → Nat} {ss : Nat → ByteArray} (_hn : l.length ≤ 6000) (hm : m * 2 ≤ 6000) (hps : ∀ k, k < m * 2 → ps k < l.length) (hz : room ss (m * 2) ≤ 1000000000) (H : ∀ k, k < m * 2 → Says l 77 (at2 (ps k) lv) (ss k)) (b off cap : Nat) (w : World) (hr : RdN w (some ⟨b, off, none⟩) l) (ka : Option Addr) (kc : Nat) (hp : RdP w ka ps (m * 2)) :
    Calls Try.prog 86 #[.slice (some ⟨b, off, none⟩) l.length cap, .slice ka (m * 2) kc, .int .i64 (lv : Int)] w fun r w' => r = .returned (.string ((tableS l ps ss m).1 ++ { data := #[125] })) ∧ Below w.heap.size w w' := by
  have HH : Hid (∀ k, k < m * 2 → Says l 77 (at2 (ps k) lv) (ss k)) := H
  have HR : Hid (RdN w (some ⟨b, off, none⟩) l) := hr
  have HP : Hid (RdP w ka ps (m * 2)) := hp
  have HL : Hid (∀ k, k < m * 2 → ps k < l.length) := hps
  obtain ⟨n, hnn⟩ : ∃ n, n = l.length := ⟨_, rfl⟩
  have HN : Hid (n = l.length) := hnn
  rw [← hnn] at _hn ⊢
  obtain ⟨m2, hm2⟩ : ∃ m2, m2 = m * 2 := ⟨_, rfl⟩
  have HM2 : Hid (m2 = m * 2) := hm2
  rw [← hm2]
  clear H hr hp hnn hps
  go_enter Try.func86, Try.ntmps86
  go_wp2
  clear hm2
  go_loopw [7, 8, 9] (fun x y z wr => ∃ (j q p : Nat) (s : ByteArray), j ≤ m ∧ p ≤ j ∧ s.size ≤ 1 + room ss (2 * j) ∧ x = .string s ∧ y = .int .i64 (p : Int) ∧ z = .int .i64 (q : Int) ∧ Hid (q = 2 * j) ∧ Hid (tableS l ps ss j = (s, p)) ∧ Hid (Below w.heap.size w wr)) (fun _ _ q _ => m2 - (intOf q).toNat)
  case atStart => exact ⟨0, 0, 0, _, Nat.zero_le _, Nat.le_refl _, Nat.le_refl _, rfl, rfl, rfl, rfl, rfl, Below.refl _ _⟩
  case round =>
    obtain ⟨j, q, p, s, hj, hpj, hsz, rfl, rfl, rfl, HQ, HK, HB⟩ := hrel
    by_cases hlt : j < m
    · have HRr := HR.out.below HB.out
      have hqj := HQ.out
      obtain ⟨kb, ko, rfl, hcu⟩ := (HP.out.below HB.out) (2 * j) (by omega)
      obtain ⟨kb', ko', e', hcv⟩ := (HP.out.below HB.out) (2 * j + 1) (by omega)
      simp only [Option.some.injEq, Addr.mk.injEq, and_true] at e'
      obtain ⟨rfl, rfl⟩ := e'
      obtain ⟨b', off', ut, un, e', c0, c1, c2, c3, c4, ht, hnm⟩ := HRr (ps (2 * j)) (HL.out _ (by omega))
      simp only [Option.some.injEq, Addr.mk.injEq, and_true] at e'
      obtain ⟨rfl, rfl⟩ := e'
      obtain ⟨ta, tc, rfl, htl, htr, htb⟩ := ht
      obtain ⟨na, nc, rfl, _, _⟩ := hnm
      have hpk : ps (2 * j) < n := by have := HL.out (2 * j) (by omega); have := HN.out; omega
      have CV : Hid (∀ W, Below wr.heap.size wr W → Calls Try.prog 77 #[.slice (some ⟨b, off, none⟩) n cap, .int .i64 (ps (2 * j + 1) : Int), .int .i64 (lv : Int)] W fun r w' => r = .returned (.string (ss (2 * j + 1))) ∧ Below W.heap.size W w') := fun W hW => by
        have := HH.out (2 * j + 1) (by omega) b off cap W (HRr.below hW)
        rw [← HN.out] at this
        exact this
      have CK : Hid (∀ W, Below wr.heap.size wr W → Calls Try.prog 77 #[.slice (some ⟨b, off, none⟩) n cap, .int .i64 (ps (2 * j) : Int), .int .i64 (lv : Int)] W fun r w' => r = .returned (.string (ss (2 * j))) ∧ Below W.heap.size W w') := fun W hW => by
        have := HH.out (2 * j) (by omega) b off cap W (HRr.below hW)
        rw [← HN.out] at this
        exact this
      have hb0 := room_le ss (show 2 * j + 2 ≤ m * 2 by omega)
      have er : room ss (2 * (j + 1)) = room ss (2 * j) + (ss (2 * j)).size + 1000 + (ss (2 * j + 1)).size + 1000 := rfl
      rw [show 2 * j + 2 = 2 * (j + 1) by omega, er] at hb0
      have hnx : Hid (tableS l ps ss (j + 1) = ((if 0 < j then s ++ { data := #[44, 32] } else s) ++ (fieldS (knd l (ps (2 * j))) (l.getD (ps (2 * j)) nd0).n (l.getD (ps (2 * j)) nd0).text p (ss (2 * j)) (ss (2 * j + 1))).1, (fieldS (knd l (ps (2 * j))) (l.getD (ps (2 * j)) nd0).n (l.getD (ps (2 * j)) nd0).text p (ss (2 * j)) (ss (2 * j + 1))).2)) := by
        show _ = _
        rw [tableS, HK.out]
      have hk0 : (l.getD (ps (2 * j)) nd0).kind = knd l (ps (2 * j)) := rfl
      rw [hk0] at c0
      generalize ss (2 * j + 1) = sv at CV hnx er hb0
      generalize ss (2 * j) = sk at CK hnx er hb0
      have ER : Hid (room ss (2 * (j + 1)) = room ss (2 * j) + sk.size + 1000 + sv.size + 1000) := er
      generalize ps (2 * j + 1) = pv at CV hcv
      generalize knd l (ps (2 * j)) = kd at c0 hnx
      generalize (l.getD (ps (2 * j)) nd0).n = nn at c1 hnx
      generalize (l.getD (ps (2 * j)) nd0).text = tx at c2 htl htr htb hnx
      generalize (l.getD (ps (2 * j)) nd0).names.length = nl at c3
      generalize (l.getD (ps (2 * j)) nd0).count = ct at c4
      generalize ps (2 * j) = pk at CK hcu c0 c1 c2 c3 c4 hpk
      rw [← hqj] at hcu hcv
      have i0 : (q : Int) + 1 < (m2 : Int) := by have := HM2.out; omega
      have i2 : (q : Int) < (m2 : Int) := by omega
      have hss : s.size ≤ 1000000010 := by omega
      have hsk : sk.size ≤ 1000000010 := by omega
      have hsv : sv.size ≤ 1000000010 := by omega
      have hq6 : q ≤ 6000 := by omega
      have HC : Hid (∀ W, Below wr.heap.size wr W → W.cell? ⟨kb, ko + q, none⟩ = some (.int .i64 (pk : Int)) ∧ W.cell? ⟨kb, ko + (q + 1), none⟩ = some (.int .i64 (pv : Int))) := fun W hW => ⟨(hW.cell (p := ⟨kb, ko + q, none⟩) (World.block_lt_of_cell? _ _ hcu)).trans hcu, (hW.cell (p := ⟨kb, ko + (q + 1), none⟩) (World.block_lt_of_cell? _ _ hcv)).trans hcv⟩
      have CI : Hid (∀ W, Below wr.heap.size wr W → Calls Try.prog 80 #[.slice ta tx.length tc] W fun r w' => r = .returned (.bool (isName tx)) ∧ Below W.heap.size W w') := fun W hW => l3isName_any ta tx.length tc tx W rfl (htr.below hW) htb (by omega)
      have kc1 := (HC.out (wr.alloc (.cells #[.int .i64 kd, .int .i64 nn, .slice ta tx.length tc, .slice na nl nc, .int .i64 ct] 75)) ((Below.refl _ _).alloc (Nat.le_refl _) _)).2
      have hz2 : s.size ≤ 1 + room ss (2 * j) := hsz
      obtain ⟨s1, hs1⟩ : ∃ s1, s1 = if 0 < j then s ++ { data := #[44, 32] } else s := ⟨_, rfl⟩
      have hs1z : s1.size ≤ s.size + 2 := by
        rw [hs1]
        by_cases h0 : 0 < j
        · rw [if_pos h0, ByteArray.size_append]; exact Nat.le_refl _
        · rw [if_neg h0]; omega
      rw [← hs1] at hnx
      have HS1 : Hid (s1 = if 0 < j then s ++ { data := #[44, 32] } else s) := hs1
      clear hs1 HRr hk0 hqj er
      have AF : Hid (∀ f p', fieldS kd nn tx p sk sv = (f, p') → f.size ≤ sk.size + sv.size + 1010 → p' ≤ p + 1 → tableS l ps ss (j + 1) = (s1 ++ f, p') ∧ (s1 ++ f).size ≤ 1 + room ss (2 * (j + 1))) := fun f p' hf hfz hp' => by
        refine ⟨by rw [hnx.out, hf], ?_⟩
        rw [ByteArray.size_append, ER.out]
        omega
      have HFZ := fieldS_size (kd := kd) (nn := nn) (tx := tx) (place := p) (sk := sk) (sv := sv) htl
      have HAF : Hid (tableS l ps ss (j + 1) = (s1 ++ (fieldS kd nn tx p sk sv).1, (fieldS kd nn tx p sk sv).2) ∧ (s1 ++ (fieldS kd nn tx p sk sv).1).size ≤ 1 + room ss (2 * (j + 1)) ∧ (fieldS kd nn tx p sk sv).2 ≤ j + 1) := by
        have := AF.out _ _ rfl HFZ.1 HFZ.2
        exact ⟨this.1, this.2, by omega⟩
      have HKV : Hid (0 < tx.length → ∀ W, Below wr.heap.size wr W → (convert 22 9 (.slice ta tx.length tc)).run Try.prog W = .ok (.string (strOfNums tx)) W) := fun h0 W hW => by
        obtain ⟨b2, off2, e2, _, hcell⟩ := (htr.below hW).at h0
        subst e2
        exact run_convert_bytes_arg W 22 5 Try.underlying22 Try.underlying5 b2 off2 _ tc tx rfl (fun i hi => hcell i (by omega)) 9 Try.underlying9
      clear AF hnx HFZ hsz hz2 htr htb hb0 ER
      have hm0 : ¬ 9223372036854775807 < s.size + 2 := by omega
      have l1 : ¬ 9223372036854775807 < s1.size + sv.size := by omega
      by_cases hj0 : 0 < j
      · have d0 : decide ((0 : Int) < (q : Int)) = true := by have := HQ.out; simp; omega
        have iq : (0 : Int) < (q : Int) := by have := HQ.out; omega
        have hs1 : s1 = s ++ { data := #[44, 32] } := by rw [HS1.out, if_pos hj0]
        by_cases hA : kd = 14 ∧ nn = (p : Int) + 1
        · obtain ⟨rfl, rfl⟩ := hA
          have hbq : ((p : Int) + 1 == (p : Int) + 1) = true := by simp
          have hf : fieldS 14 ((p : Int) + 1) tx p sk sv = (sv, p + 1) := by unfold fieldS; rw [if_pos ⟨rfl, rfl⟩]
          have HE : Hid _ := HAF.out
          rw [hf] at HE
          have z0 : ¬ 9223372036854775807 < s.size + 2 + sv.size := by omega
          clear hf
          go_wp2_with (first | (go_at_call 77; refine (CV.out _ ((Below.refl _ _).alloc (Nat.le_refl _) _)).mono ?_; rintro r w2 ⟨rfl, hb⟩; simp only [World.size_alloc] at hb; obtain ⟨a0, a1, a2, a3, a4, hw⟩ := nodeVar hb; have HW : Hid (Below wr.heap.size wr w2) := hw; have kq := (HC.out _ hw).1; clear hb hw))
          have HG : Hid _ := HE.out
          rw [hs1] at HG
          refine ⟨⟨j + 1, q + 2, p + 1, _, by omega, HG.out.2.2, HG.out.2.1, rfl, by go_num, by go_num, by show _ = _; have := HQ.out; omega, HG.out.1, HB.out.trans (HW.out.mono HB.out.size)⟩, by simp [intOf]; omega⟩
        by_cases hB : kd = 15 ∧ isName tx = true
        · obtain ⟨rfl, hin⟩ := hB
          have hf : fieldS 15 nn tx p sk sv = ((strOfNums tx ++ { data := #[32, 61, 32] }) ++ sv, p) := by unfold fieldS; rw [if_neg (by omega), if_pos ⟨rfl, hin⟩]
          have HE : Hid _ := HAF.out
          rw [hf] at HE
          have hl0 : 0 < tx.length := by unfold isName at hin; simp only [Bool.and_eq_true, decide_eq_true_eq] at hin; exact hin.1
          have KV : Hid (∀ W, Below wr.heap.size wr W → (convert 22 9 (.slice ta tx.length tc)).run Try.prog W = .ok (.string (strOfNums tx)) W) := fun W hW => HKV.out hl0 W hW
          have hts := strOfNums_size tx
          generalize strOfNums tx = tt at KV hts HE hf
          have htt : tt.size ≤ 1000 := by omega
          have z0 : ¬ 9223372036854775807 < tt.size + 3 := by omega
          have z1 : ¬ 9223372036854775807 < tt.size + 3 + sv.size := by omega
          have z2 : ¬ 9223372036854775807 < s.size + 2 + (tt.size + 3 + sv.size) := by omega
          clear hf
          go_wp2_with (first | (go_at_call 80; refine (CI.out _ HW.out).mono ?_; rintro r w3 ⟨rfl, hb⟩; have HW3 : Hid (Below wr.heap.size wr w3) := HW.out.trans (hb.mono HW.out.size); have n0 := cellBw a0 hb; have n1 := cellBw a1 hb; have n2 := cellBw a2 hb; have kq3 := (HC.out _ HW3.out).1; (try rw [hin]); have kvv := KV.out _ HW3.out; clear hb) | (go_at_call 77; refine (CV.out _ ((Below.refl _ _).alloc (Nat.le_refl _) _)).mono ?_; rintro r w2 ⟨rfl, hb⟩; simp only [World.size_alloc] at hb; obtain ⟨a0, a1, a2, a3, a4, hw⟩ := nodeVar hb; have HW : Hid (Below wr.heap.size wr w2) := hw; have kq := (HC.out _ hw).1; clear hb hw))
          have HG : Hid _ := HE.out
          rw [hs1] at HG
          refine ⟨⟨j + 1, q + 2, p, _, by omega, HG.out.2.2, HG.out.2.1, rfl, by go_num, by go_num, by show _ = _; have := HQ.out; omega, HG.out.1, HB.out.trans (HW3.out.mono HB.out.size)⟩, by simp [intOf]; omega⟩
        by_cases k14 : kd = 14
        · subst k14
          have hbq : (nn == (p : Int) + 1) = false := by simp; omega
          have hf : fieldS 14 nn tx p sk sv = ((({ data := #[91] } ++ sk) ++ { data := #[93, 32, 61, 32] }) ++ sv, p) := by unfold fieldS; rw [if_neg hA, if_neg hB]
          have HE : Hid _ := HAF.out
          rw [hf] at HE
          have z0 : ¬ 9223372036854775807 < 1 + sk.size := by omega
          have z1 : ¬ 9223372036854775807 < 1 + sk.size + 4 := by omega
          have z2 : ¬ 9223372036854775807 < 1 + sk.size + 4 + sv.size := by omega
          have z3 : ¬ 9223372036854775807 < s.size + 2 + (1 + sk.size + 4 + sv.size) := by omega
          clear hf
          go_wp2_with (first | (go_at_call 77; refine (CK.out _ HW.out).mono ?_; rintro r w4 ⟨rfl, hb⟩; have HW4 : Hid (Below wr.heap.size wr w4) := HW.out.trans (hb.mono HW.out.size); clear hb) | (go_at_call 77; refine (CV.out _ ((Below.refl _ _).alloc (Nat.le_refl _) _)).mono ?_; rintro r w2 ⟨rfl, hb⟩; simp only [World.size_alloc] at hb; obtain ⟨a0, a1, a2, a3, a4, hw⟩ := nodeVar hb; have HW : Hid (Below wr.heap.size wr w2) := hw; have kq := (HC.out _ hw).1; clear hb hw))
          have HG : Hid _ := HE.out
          rw [hs1] at HG
          refine ⟨⟨j + 1, q + 2, p, _, by omega, HG.out.2.2, HG.out.2.1, rfl, by go_num, by go_num, by show _ = _; have := HQ.out; omega, HG.out.1, HB.out.trans (HW4.out.mono HB.out.size)⟩, by simp [intOf]; omega⟩
        by_cases k15 : kd = 15
        · subst k15
          have hin : isName tx = false := by cases h : isName tx with | false => rfl | true => exact absurd ⟨rfl, h⟩ hB
          have hf : fieldS 15 nn tx p sk sv = ((({ data := #[91] } ++ sk) ++ { data := #[93, 32, 61, 32] }) ++ sv, p) := by unfold fieldS; rw [if_neg hA, if_neg hB]
          have HE : Hid _ := HAF.out
          rw [hf] at HE
          have z0 : ¬ 9223372036854775807 < 1 + sk.size := by omega
          have z1 : ¬ 9223372036854775807 < 1 + sk.size + 4 := by omega
          have z2 : ¬ 9223372036854775807 < 1 + sk.size + 4 + sv.size := by omega
          have z3 : ¬ 9223372036854775807 < s.size + 2 + (1 + sk.size + 4 + sv.size) := by omega
          clear hf
          go_wp2_with (first | (go_at_call 77; refine (CK.out _ HW3.out).mono ?_; rintro r w4 ⟨rfl, hb⟩; have HW4 : Hid (Below wr.heap.size wr w4) := HW3.out.trans (hb.mono HW3.out.size); clear hb) | (go_at_call 80; refine (CI.out _ HW.out).mono ?_; rintro r w3 ⟨rfl, hb⟩; have HW3 : Hid (Below wr.heap.size wr w3) := HW.out.trans (hb.mono HW.out.size); have n0 := cellBw a0 hb; have n1 := cellBw a1 hb; have n2 := cellBw a2 hb; have kq3 := (HC.out _ HW3.out).1; (try rw [hin]); clear hb) | (go_at_call 77; refine (CV.out _ ((Below.refl _ _).alloc (Nat.le_refl _) _)).mono ?_; rintro r w2 ⟨rfl, hb⟩; simp only [World.size_alloc] at hb; obtain ⟨a0, a1, a2, a3, a4, hw⟩ := nodeVar hb; have HW : Hid (Below wr.heap.size wr w2) := hw; have kq := (HC.out _ hw).1; clear hb hw))
          have HG : Hid _ := HE.out
          rw [hs1] at HG
          refine ⟨⟨j + 1, q + 2, p, _, by omega, HG.out.2.2, HG.out.2.1, rfl, by go_num, by go_num, by show _ = _; have := HQ.out; omega, HG.out.1, HB.out.trans (HW4.out.mono HB.out.size)⟩, by simp [intOf]; omega⟩
        have e14 : (kd == 14) = false := by simp; exact k14
        have e15 : (kd == 15) = false := by simp; exact k15
        have hf : fieldS kd nn tx p sk sv = ((({ data := #[91] } ++ sk) ++ { data := #[93, 32, 61, 32] }) ++ sv, p) := by unfold fieldS; rw [if_neg hA, if_neg hB]
        have HE : Hid _ := HAF.out
        rw [hf] at HE
        have z0 : ¬ 9223372036854775807 < 1 + sk.size := by omega
        have z1 : ¬ 9223372036854775807 < 1 + sk.size + 4 := by omega
        have z2 : ¬ 9223372036854775807 < 1 + sk.size + 4 + sv.size := by omega
        have z3 : ¬ 9223372036854775807 < s.size + 2 + (1 + sk.size + 4 + sv.size) := by omega
        clear hf
        go_wp2_with (first | (go_at_call 77; refine (CK.out _ HW.out).mono ?_; rintro r w4 ⟨rfl, hb⟩; have HW4 : Hid (Below wr.heap.size wr w4) := HW.out.trans (hb.mono HW.out.size); clear hb) | (go_at_call 77; refine (CV.out _ ((Below.refl _ _).alloc (Nat.le_refl _) _)).mono ?_; rintro r w2 ⟨rfl, hb⟩; simp only [World.size_alloc] at hb; obtain ⟨a0, a1, a2, a3, a4, hw⟩ := nodeVar hb; have HW : Hid (Below wr.heap.size wr w2) := hw; have kq := (HC.out _ hw).1; clear hb hw))
        have HG : Hid _ := HE.out
        rw [hs1] at HG
        refine ⟨⟨j + 1, q + 2, p, _, by omega, HG.out.2.2, HG.out.2.1, rfl, by go_num, by go_num, by show _ = _; have := HQ.out; omega, HG.out.1, HB.out.trans (HW4.out.mono HB.out.size)⟩, by simp [intOf]; omega⟩
      · have d0 : decide ((0 : Int) < (q : Int)) = false := by have := HQ.out; simp; omega
        have iq : ¬ ((0 : Int) < (q : Int)) := by have := HQ.out; omega
        have hs1 : s1 = s := by rw [HS1.out, if_neg hj0]
        by_cases hA : kd = 14 ∧ nn = (p : Int) + 1
        · obtain ⟨rfl, rfl⟩ := hA
          have hbq : ((p : Int) + 1 == (p : Int) + 1) = true := by simp
          have hf : fieldS 14 ((p : Int) + 1) tx p sk sv = (sv, p + 1) := by unfold fieldS; rw [if_pos ⟨rfl, rfl⟩]
          have HE : Hid _ := HAF.out
          rw [hf] at HE
          have z0 : ¬ 9223372036854775807 < s.size + sv.size := by omega
          clear hf
          go_wp2_with (first | (go_at_call 77; refine (CV.out _ ((Below.refl _ _).alloc (Nat.le_refl _) _)).mono ?_; rintro r w2 ⟨rfl, hb⟩; simp only [World.size_alloc] at hb; obtain ⟨a0, a1, a2, a3, a4, hw⟩ := nodeVar hb; have HW : Hid (Below wr.heap.size wr w2) := hw; have kq := (HC.out _ hw).1; clear hb hw))
          have HG : Hid _ := HE.out
          rw [hs1] at HG
          refine ⟨⟨j + 1, q + 2, p + 1, _, by omega, HG.out.2.2, HG.out.2.1, rfl, by go_num, by go_num, by show _ = _; have := HQ.out; omega, HG.out.1, HB.out.trans (HW.out.mono HB.out.size)⟩, by simp [intOf]; omega⟩
        by_cases hB : kd = 15 ∧ isName tx = true
        · obtain ⟨rfl, hin⟩ := hB
          have hf : fieldS 15 nn tx p sk sv = ((strOfNums tx ++ { data := #[32, 61, 32] }) ++ sv, p) := by unfold fieldS; rw [if_neg (by omega), if_pos ⟨rfl, hin⟩]
          have HE : Hid _ := HAF.out
          rw [hf] at HE
          have hl0 : 0 < tx.length := by unfold isName at hin; simp only [Bool.and_eq_true, decide_eq_true_eq] at hin; exact hin.1
          have KV : Hid (∀ W, Below wr.heap.size wr W → (convert 22 9 (.slice ta tx.length tc)).run Try.prog W = .ok (.string (strOfNums tx)) W) := fun W hW => HKV.out hl0 W hW
          have hts := strOfNums_size tx
          generalize strOfNums tx = tt at KV hts HE hf
          have htt : tt.size ≤ 1000 := by omega
          have z0 : ¬ 9223372036854775807 < tt.size + 3 := by omega
          have z1 : ¬ 9223372036854775807 < tt.size + 3 + sv.size := by omega
          have z2 : ¬ 9223372036854775807 < s.size + (tt.size + 3 + sv.size) := by omega
          clear hf
          go_wp2_with (first | (go_at_call 80; refine (CI.out _ HW.out).mono ?_; rintro r w3 ⟨rfl, hb⟩; have HW3 : Hid (Below wr.heap.size wr w3) := HW.out.trans (hb.mono HW.out.size); have n0 := cellBw a0 hb; have n1 := cellBw a1 hb; have n2 := cellBw a2 hb; have kq3 := (HC.out _ HW3.out).1; (try rw [hin]); have kvv := KV.out _ HW3.out; clear hb) | (go_at_call 77; refine (CV.out _ ((Below.refl _ _).alloc (Nat.le_refl _) _)).mono ?_; rintro r w2 ⟨rfl, hb⟩; simp only [World.size_alloc] at hb; obtain ⟨a0, a1, a2, a3, a4, hw⟩ := nodeVar hb; have HW : Hid (Below wr.heap.size wr w2) := hw; have kq := (HC.out _ hw).1; clear hb hw))
          have HG : Hid _ := HE.out
          rw [hs1] at HG
          refine ⟨⟨j + 1, q + 2, p, _, by omega, HG.out.2.2, HG.out.2.1, rfl, by go_num, by go_num, by show _ = _; have := HQ.out; omega, HG.out.1, HB.out.trans (HW3.out.mono HB.out.size)⟩, by simp [intOf]; omega⟩
        by_cases k14 : kd = 14
        · subst k14
          have hbq : (nn == (p : Int) + 1) = false := by simp; omega
          have hf : fieldS 14 nn tx p sk sv = ((({ data := #[91] } ++ sk) ++ { data := #[93, 32, 61, 32] }) ++ sv, p) := by unfold fieldS; rw [if_neg hA, if_neg hB]
          have HE : Hid _ := HAF.out
          rw [hf] at HE
          have z0 : ¬ 9223372036854775807 < 1 + sk.size := by omega
          have z1 : ¬ 9223372036854775807 < 1 + sk.size + 4 := by omega
          have z2 : ¬ 9223372036854775807 < 1 + sk.size + 4 + sv.size := by omega
          have z3 : ¬ 9223372036854775807 < s.size + (1 + sk.size + 4 + sv.size) := by omega
          clear hf
          go_wp2_with (first | (go_at_call 77; refine (CK.out _ HW.out).mono ?_; rintro r w4 ⟨rfl, hb⟩; have HW4 : Hid (Below wr.heap.size wr w4) := HW.out.trans (hb.mono HW.out.size); clear hb) | (go_at_call 77; refine (CV.out _ ((Below.refl _ _).alloc (Nat.le_refl _) _)).mono ?_; rintro r w2 ⟨rfl, hb⟩; simp only [World.size_alloc] at hb; obtain ⟨a0, a1, a2, a3, a4, hw⟩ := nodeVar hb; have HW : Hid (Below wr.heap.size wr w2) := hw; have kq := (HC.out _ hw).1; clear hb hw))
          have HG : Hid _ := HE.out
          rw [hs1] at HG
          refine ⟨⟨j + 1, q + 2, p, _, by omega, HG.out.2.2, HG.out.2.1, rfl, by go_num, by go_num, by show _ = _; have := HQ.out; omega, HG.out.1, HB.out.trans (HW4.out.mono HB.out.size)⟩, by simp [intOf]; omega⟩
        by_cases k15 : kd = 15
        · subst k15
          have hin : isName tx = false := by cases h : isName tx with | false => rfl | true => exact absurd ⟨rfl, h⟩ hB
          have hf : fieldS 15 nn tx p sk sv = ((({ data := #[91] } ++ sk) ++ { data := #[93, 32, 61, 32] }) ++ sv, p) := by unfold fieldS; rw [if_neg hA, if_neg hB]
          have HE : Hid _ := HAF.out
          rw [hf] at HE
          have z0 : ¬ 9223372036854775807 < 1 + sk.size := by omega
          have z1 : ¬ 9223372036854775807 < 1 + sk.size + 4 := by omega
          have z2 : ¬ 9223372036854775807 < 1 + sk.size + 4 + sv.size := by omega
          have z3 : ¬ 9223372036854775807 < s.size + (1 + sk.size + 4 + sv.size) := by omega
          clear hf
          go_wp2_with (first | (go_at_call 77; refine (CK.out _ HW3.out).mono ?_; rintro r w4 ⟨rfl, hb⟩; have HW4 : Hid (Below wr.heap.size wr w4) := HW3.out.trans (hb.mono HW3.out.size); clear hb) | (go_at_call 80; refine (CI.out _ HW.out).mono ?_; rintro r w3 ⟨rfl, hb⟩; have HW3 : Hid (Below wr.heap.size wr w3) := HW.out.trans (hb.mono HW.out.size); have n0 := cellBw a0 hb; have n1 := cellBw a1 hb; have n2 := cellBw a2 hb; have kq3 := (HC.out _ HW3.out).1; (try rw [hin]); clear hb) | (go_at_call 77; refine (CV.out _ ((Below.refl _ _).alloc (Nat.le_refl _) _)).mono ?_; rintro r w2 ⟨rfl, hb⟩; simp only [World.size_alloc] at hb; obtain ⟨a0, a1, a2, a3, a4, hw⟩ := nodeVar hb; have HW : Hid (Below wr.heap.size wr w2) := hw; have kq := (HC.out _ hw).1; clear hb hw))
          have HG : Hid _ := HE.out
          rw [hs1] at HG
          refine ⟨⟨j + 1, q + 2, p, _, by omega, HG.out.2.2, HG.out.2.1, rfl, by go_num, by go_num, by show _ = _; have := HQ.out; omega, HG.out.1, HB.out.trans (HW4.out.mono HB.out.size)⟩, by simp [intOf]; omega⟩
        have e14 : (kd == 14) = false := by simp; exact k14
        have e15 : (kd == 15) = false := by simp; exact k15
        have hf : fieldS kd nn tx p sk sv = ((({ data := #[91] } ++ sk) ++ { data := #[93, 32, 61, 32] }) ++ sv, p) := by unfold fieldS; rw [if_neg hA, if_neg hB]
        have HE : Hid _ := HAF.out
        rw [hf] at HE
        have z0 : ¬ 9223372036854775807 < 1 + sk.size := by omega
        have z1 : ¬ 9223372036854775807 < 1 + sk.size + 4 := by omega
        have z2 : ¬ 9223372036854775807 < 1 + sk.size + 4 + sv.size := by omega
        have z3 : ¬ 9223372036854775807 < s.size + (1 + sk.size + 4 + sv.size) := by omega
        clear hf
        go_wp2_with (first | (go_at_call 77; refine (CK.out _ HW.out).mono ?_; rintro r w4 ⟨rfl, hb⟩; have HW4 : Hid (Below wr.heap.size wr w4) := HW.out.trans (hb.mono HW.out.size); clear hb) | (go_at_call 77; refine (CV.out _ ((Below.refl _ _).alloc (Nat.le_refl _) _)).mono ?_; rintro r w2 ⟨rfl, hb⟩; simp only [World.size_alloc] at hb; obtain ⟨a0, a1, a2, a3, a4, hw⟩ := nodeVar hb; have HW : Hid (Below wr.heap.size wr w2) := hw; have kq := (HC.out _ hw).1; clear hb hw))
        have HG : Hid _ := HE.out
        rw [hs1] at HG
        refine ⟨⟨j + 1, q + 2, p, _, by omega, HG.out.2.2, HG.out.2.1, rfl, by go_num, by go_num, by show _ = _; have := HQ.out; omega, HG.out.1, HB.out.trans (HW4.out.mono HB.out.size)⟩, by simp [intOf]; omega⟩
    · have hjm : j = m := by omega
      subst hjm
      have hqj := HQ.out
      have i0 : ¬ ((q : Int) + 1 < (m2 : Int)) := by have := HM2.out; omega
      rw [Nat.mul_comm] at hsz
      have hm0 : ¬ 9223372036854775807 < s.size + 1 := by omega
      have HKS : Hid ((tableS l ps ss j).1 = s) := by show _ = _; rw [HK.out]
      go_wp2
      go_returns
      exact ⟨ret_s (by rw [HKS.out]), HB.out⟩
end Go.Proofs.Ytepbddfpdlapbaa.vt
