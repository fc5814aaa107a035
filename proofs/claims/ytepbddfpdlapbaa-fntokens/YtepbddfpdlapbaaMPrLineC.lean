import Derived.Test.YtepbddfpdlapbaaMPrLineB
namespace Go.Proofs.Ytepbddfpdlapbaa.vt
open Go.RowKit Go.Proofs.Ytepbddfpdlapbaa.bts Go.Proofs.Ytepbddfpdlapbaa.nod Go.Proofs.Ytepbddfpdlapbaa.lex
def ifS (iv : ByteArray) (ss : Nat → ByteArray) : Nat → ByteArray
  | 0 => { data := #[105, 102, 32] }
  | j + 1 => (if 0 < j then ifS iv ss j ++ (iv ++ { data := #[101, 108, 115, 101, 105, 102, 32] }) else ifS iv ss j) ++ ((ss (2 * j) ++ { data := #[32, 116, 104, 101, 110, 10] }) ++ ss (2 * j + 1))
theorem ifS_size (iv : ByteArray) (ss : Nat → ByteArray) (hi : iv.size ≤ 800) : ∀ j, (ifS iv ss j).size ≤ 3 + room ss (2 * j)
  | 0 => Nat.le_refl _
  | j + 1 => by
    have ih := ifS_size iv ss hi j
    have er : room ss (2 * (j + 1)) = room ss (2 * j) + (ss (2 * j)).size + 1000 + (ss (2 * j + 1)).size + 1000 := rfl
    have e7 : (ByteArray.mk #[101, 108, 115, 101, 105, 102, 32]).size = 7 := rfl
    have e6 : (ByteArray.mk #[32, 116, 104, 101, 110, 10]).size = 6 := rfl
    rw [ifS, er, ByteArray.size_append, ByteArray.size_append, ByteArray.size_append]
    by_cases hj : 0 < j
    · rw [if_pos hj, ByteArray.size_append, ByteArray.size_append]; omega
    · rw [if_neg hj]; omega
def ifE (iv : ByteArray) (ss : Nat → ByteArray) (c : Nat) : ByteArray := if c % 2 = 1 then ifS iv ss (c / 2) ++ ((iv ++ { data := #[101, 108, 115, 101, 10] }) ++ ss (c - 1)) else ifS iv ss (c / 2)
set_option maxRecDepth 100000 in
set_option maxHeartbeats 8000000 in
theorem line_if {l : List Nd} {d i e c lv : Nat} {lp : Bool} {pos : Nat → Nat} (hP : Parts l d i e c lp pos) (hE : endAt l (d + 1) i = some e) (hd : d + 1 ≤ 200) (hn : l.length ≤ 6000) (hlv : lv ≤ 400) (hk : knd l i = 6) {ss : Nat → ByteArray} (zr : room ss c ≤ 1000000000) (Hs : ∀ j, 2 * j + 1 < c → Says l 77 (at2 (pos (2 * j)) lv) (ss (2 * j))) (Hb : ∀ j, 2 * j + 1 < c → Says l 51 (at2 (pos (2 * j + 1)) (lv + 1)) (ss (2 * j + 1))) (Hl : c % 2 = 1 → Says l 51 (at2 (pos (c - 1)) (lv + 1)) (ss (c - 1))) : Says l 65 (at2 i lv) (ifE (ind lv) ss c ++ (ind lv ++ { data := #[101, 110, 100] })) := by
  intro b off cap w hr
  obtain ⟨b', off', ut, un, e1, c0, c1, c2, c3, c4, ht, hnm⟩ := hr i hP.low
  simp only [Option.some.injEq, Addr.mk.injEq, and_true] at e1
  obtain ⟨rfl, rfl⟩ := e1
  have hkn : (l.getD i nd0).kind = 6 := hk
  rw [hkn] at c0
  have hi := hP.low
  obtain ⟨ta, tc, rfl, htl, htr, htb⟩ := ht
  obtain ⟨na, nc, rfl, hnl, hnr⟩ := hnm
  have hwl := wrap_lv lv hlv
  have HI : Hid (∀ W, Calls Try.prog 64 #[.int .i64 (lv : Int)] W fun x w' => x = .returned (.string (ind lv)) ∧ w' = W) := fun W => l3indent_any lv W (by omega)
  have hiz := ind_size lv
  generalize hiv : ind lv = iv at HI hiz
  have hiz2 : iv.size ≤ 800 := by omega
  clear hiz
  have ze : ¬ 9223372036854775807 < iv.size + 3 := by omega
  have hc2 := (hP.k6 hk).1
  have hfw := hP.few
  obtain ⟨n, hnn⟩ : ∃ n, n = l.length := ⟨_, rfl⟩
  have HN : Hid (n = l.length) := hnn
  have CK : Hid (∀ W, Below w.heap.size w W → Calls Try.prog 63 #[.slice (some ⟨b, off, none⟩) n cap, .int .i64 (i : Int)] W fun x w' => ∃ ka kc, x = .returned (.slice ka c kc) ∧ RdP w' ka pos c ∧ Below W.heap.size W w' ∧ c ≤ kc) := fun W hW => by
    rw [HN.out]; exact kids_say hP hE hd hn b off cap W (hr.below hW)
  have HHs : Hid (∀ j, 2 * j + 1 < c → ∀ w1, Below w.heap.size w w1 → ∀ W, Below w1.heap.size w1 W → Calls Try.prog 77 #[.slice (some ⟨b, off, none⟩) n cap, .int .i64 (pos (2 * j) : Int), .int .i64 (lv : Int)] W fun r w' => r = .returned (.string (ss (2 * j))) ∧ Below w1.heap.size w1 w') := fun j hj w1 h1 W hW => by
    have h := Says.at (cap := cap) (Hs j hj) hr h1 hW
    rw [HN.out]; exact h
  have HHb : Hid (∀ j, 2 * j + 1 < c → ∀ w1, Below w.heap.size w w1 → ∀ W, Below w1.heap.size w1 W → Calls Try.prog 51 #[.slice (some ⟨b, off, none⟩) n cap, .int .i64 (pos (2 * j + 1) : Int), .int .i64 ((lv + 1 : Nat) : Int)] W fun r w' => r = .returned (.string (ss (2 * j + 1))) ∧ Below w1.heap.size w1 w') := fun j hj w1 h1 W hW => by
    have h := Says.at (cap := cap) (Hb j hj) hr h1 hW
    rw [HN.out]; exact h
  have HHl : Hid (c % 2 = 1 → ∀ w1, Below w.heap.size w w1 → ∀ W, Below w1.heap.size w1 W → Calls Try.prog 51 #[.slice (some ⟨b, off, none⟩) n cap, .int .i64 (pos (c - 1) : Int), .int .i64 ((lv + 1 : Nat) : Int)] W fun r w' => r = .returned (.string (ss (c - 1))) ∧ Below w1.heap.size w1 w') := fun hc w1 h1 W hW => by
    have h := Says.at (cap := cap) (Hl hc) hr h1 hW
    rw [HN.out]; exact h
  rw [← hnn] at hfw
  clear Hs Hb Hl
  unfold at2
  rw [← hnn] at hi hn ⊢
  generalize (l.getD i nd0).n = nn at c1
  generalize (l.getD i nd0).text.length = tl at c2
  generalize (l.getD i nd0).names.length = nl at c3
  generalize (l.getD i nd0).count = ct at c4
  clear hP hE hr hkn hnn htl htr htb hnl hnr
  go_enter Try.func65, Try.ntmps65
  have HIV : Hid (iv = ind lv) := hiv.symm
  go_wp2_with (first | (go_at_call 64; (with_reducible refine Calls.mono (HI.out _) ?_); rintro r wq ⟨rfl, hw⟩; replace hw := hw.symm; subst hw) | (go_at_call 63; refine (CK.out _ ((Below.refl _ _).alloc (Nat.le_refl _) _)).mono ?_; rintro r w1 ⟨ka, kc, rfl, hp, hb, hkc⟩; simp only [World.size_alloc] at hb; obtain ⟨a0, a1, a2, a3, a4, hw⟩ := nodeVar hb; have HB1 : Hid (Below w.heap.size w w1) := hw; have HP : Hid (RdP w1 ka pos _) := hp; obtain ⟨kb, ko, rfl, p0⟩ := hp 0 (by omega); rw [Nat.add_zero] at p0; clear hb hw hp))
  have HXS : Hid (∀ j, 2 * j + 1 < c → ∀ w2, Below w1.heap.size w1 w2 → ∀ W, Below w2.heap.size w2 W → Calls Try.prog 77 #[.slice (some ⟨b, off, none⟩) n cap, .int .i64 (pos (2 * j) : Int), .int .i64 (lv : Int)] W fun r w' => r = .returned (.string (ss (2 * j))) ∧ Below w2.heap.size w2 w') := fun j hj w2 h2 W hW => HHs.out j hj w2 (bup HB1.out h2) W hW
  have HXB : Hid (∀ j, 2 * j + 1 < c → ∀ w2, Below w1.heap.size w1 w2 → ∀ W, Below w2.heap.size w2 W → Calls Try.prog 51 #[.slice (some ⟨b, off, none⟩) n cap, .int .i64 (pos (2 * j + 1) : Int), .int .i64 ((lv : Int) + 1)] W fun r w' => r = .returned (.string (ss (2 * j + 1))) ∧ Below w2.heap.size w2 w') := fun j hj w2 h2 W hW => HHb.out j hj w2 (bup HB1.out h2) W hW
  have HXL : Hid (c % 2 = 1 → ∀ w2, Below w1.heap.size w1 w2 → ∀ W, Below w2.heap.size w2 W → Calls Try.prog 51 #[.slice (some ⟨b, off, none⟩) n cap, .int .i64 (pos (c - 1) : Int), .int .i64 ((lv : Int) + 1)] W fun r w' => r = .returned (.string (ss (c - 1))) ∧ Below w2.heap.size w2 w') := fun hc w2 h2 W hW => HHl.out hc w2 (bup HB1.out h2) W hW
  go_loopw [13, 14] (fun x y wr => ∃ (j q : Nat) (s : ByteArray), q ≤ c ∧ x = .string s ∧ y = .int .i64 (q : Int) ∧ s.size ≤ 3 + room ss (2 * j) ∧ Hid (q = 2 * j) ∧ Hid (s = ifS iv ss j) ∧ Hid (Below w1.heap.size w1 wr)) (fun _ y _ => c - (intOf y).toNat)
  case atStart => exact ⟨0, 0, _, Nat.zero_le _, rfl, rfl, Nat.le_refl _, rfl, rfl, Below.refl _ _⟩
  case round =>
    obtain ⟨j, q, s, hqc, rfl, rfl, hsz, HQ, HK, HBr⟩ := hrel
    have hqj := HQ.out
    by_cases hlt : q + 1 < c
    · have CS : Hid _ := HXS.out j (by omega) wr HBr.out
      have CB : Hid _ := HXB.out j (by omega) wr HBr.out
      have pq := rdp_at (HP.out.below HBr.out) (2 * j) (by omega)
      have pr := rdp_at (HP.out.below HBr.out) (2 * j + 1) (by omega)
      have hb0 := room_le ss (show 2 * j + 2 ≤ c by omega)
      have er : room ss (2 * (j + 1)) = room ss (2 * j) + (ss (2 * j)).size + 1000 + (ss (2 * j + 1)).size + 1000 := rfl
      rw [show 2 * j + 2 = 2 * (j + 1) by omega, er] at hb0
      have hnx : Hid (ifS iv ss (j + 1) = (if 0 < j then s ++ (iv ++ { data := #[101, 108, 115, 101, 105, 102, 32] }) else s) ++ ((ss (2 * j) ++ { data := #[32, 116, 104, 101, 110, 10] }) ++ ss (2 * j + 1))) := by show _ = _; rw [ifS, ← HK.out]
      have HNZ : Hid ((ifS iv ss (j + 1)).size ≤ 3 + room ss (2 * (j + 1))) := ifS_size iv ss hiz2 (j + 1)
      generalize ss (2 * j + 1) = sb at CB hnx hb0 er
      generalize ss (2 * j) = sa at CS hnx hb0 er
      generalize pos (2 * j + 1) = pb at CB pr
      generalize pos (2 * j) = pa at CS pq
      rw [← hqj] at pq pr
      have i0 : (q : Int) + 1 < (c : Int) := by omega
      have i2 : (q : Int) < (c : Int) := by omega
      have i3 : (0 : Int) ≤ (q : Int) := by omega
      have i4 : (0 : Int) ≤ (q : Int) + 1 := by omega
      have i5 : ((q : Int) + 1).toNat = q + 1 := by omega
      have i6 : (-1 : Int) ≤ (q : Int) := by omega
      have hwq : IntKind.i64.wrap ((q : Int) + 1) = (q : Int) + 1 := by rw [IntKind.wrap_i64]; omega
      have hsa : sa.size ≤ 1000000000 := by omega
      have hsb : sb.size ≤ 1000000000 := by omega
      have hss : s.size ≤ 1000000010 := by omega
      have z1 : ¬ 9223372036854775807 < iv.size + 7 := by omega
      have z2 : ¬ 9223372036854775807 < s.size + (iv.size + 7) := by omega
      have z3 : ¬ 9223372036854775807 < sa.size + 6 := by omega
      have z4 : ¬ 9223372036854775807 < sa.size + 6 + sb.size := by omega
      have z5 : ¬ 9223372036854775807 < s.size + (sa.size + 6 + sb.size) := by omega
      have z6 : ¬ 9223372036854775807 < s.size + (iv.size + 7) + (sa.size + 6 + sb.size) := by omega
      have HC : Hid (∀ W, Below wr.heap.size wr W → W.cell? ⟨kb, ko + q, none⟩ = some (.int .i64 (pa : Int)) ∧ W.cell? ⟨kb, ko + (q + 1), none⟩ = some (.int .i64 (pb : Int))) := fun W hW => ⟨cellBw pq hW, cellBw pr hW⟩
      clear hb0 er hsz hqj
      by_cases hj0 : 0 < j
      · have iq : (0 : Int) < (q : Int) := by have := HQ.out; omega
        go_wp2_with (first | (go_at_call 64; (with_reducible refine Calls.mono (HI.out _) ?_); rintro r wq ⟨rfl, hw⟩; replace hw := hw.symm; subst hw))
        go_region_held3 (fun W => W.cell? ⟨kb, ko + q, none⟩ = some (.int .i64 (pa : Int)) ∧ W.cell? ⟨kb, ko + (q + 1), none⟩ = some (.int .i64 (pb : Int))) (first | with_reducible exact HC.out _ H4.out | with_reducible exact HC.out _ H3.out | exact HC.out _ (by repeat (first | exact Below.refl _ _ | refine Below.drew ?_ | refine bel_drewN ?_ _))) (first | (go_at_call 77; (with_reducible refine Calls.mono (CS.out _ (by repeat (first | exact Below.refl _ _ | exact H3.out | exact H4.out | refine Below.drew ?_ | refine bel_drewN ?_ _))) ?_); rintro r w3 ⟨rfl, hb⟩; have H3 : Hid _ := hb; clear hb) | (go_at_call 51; (with_reducible refine Calls.mono (CB.out _ (by repeat (first | exact Below.refl _ _ | exact H3.out | exact H4.out | refine Below.drew ?_ | refine bel_drewN ?_ _))) ?_); rintro r w4 ⟨rfl, hb⟩; have H4 : Hid _ := hb; clear hb))
        all_goals (go_wp2; refine ⟨⟨j + 1, q + 2, _, by omega, rfl, by go_num, ?_, by show _ = _; have := HQ.out; omega, ?_, bup HBr.out H4.out⟩, by simp [intOf]; omega⟩)
        · have := HNZ.out; rw [hnx.out, if_pos hj0] at this; exact this
        · show _ = _; rw [hnx.out, if_pos hj0]
      · have iq : ¬ ((0 : Int) < (q : Int)) := by have := HQ.out; omega
        go_wp2_with (first | (go_at_call 64; (with_reducible refine Calls.mono (HI.out _) ?_); rintro r wq ⟨rfl, hw⟩; replace hw := hw.symm; subst hw))
        go_region_held3 (fun W => W.cell? ⟨kb, ko + q, none⟩ = some (.int .i64 (pa : Int)) ∧ W.cell? ⟨kb, ko + (q + 1), none⟩ = some (.int .i64 (pb : Int))) (first | with_reducible exact HC.out _ H4.out | with_reducible exact HC.out _ H3.out | exact HC.out _ (by repeat (first | exact Below.refl _ _ | refine Below.drew ?_ | refine bel_drewN ?_ _))) (first | (go_at_call 77; (with_reducible refine Calls.mono (CS.out _ (by repeat (first | exact Below.refl _ _ | exact H3.out | exact H4.out | refine Below.drew ?_ | refine bel_drewN ?_ _))) ?_); rintro r w3 ⟨rfl, hb⟩; have H3 : Hid _ := hb; clear hb) | (go_at_call 51; (with_reducible refine Calls.mono (CB.out _ (by repeat (first | exact Below.refl _ _ | exact H3.out | exact H4.out | refine Below.drew ?_ | refine bel_drewN ?_ _))) ?_); rintro r w4 ⟨rfl, hb⟩; have H4 : Hid _ := hb; clear hb))
        all_goals (go_wp2; refine ⟨⟨j + 1, q + 2, _, by omega, rfl, by go_num, ?_, by show _ = _; have := HQ.out; omega, ?_, bup HBr.out H4.out⟩, by simp [intOf]; omega⟩)
        · have := HNZ.out; rw [hnx.out, if_neg hj0] at this; exact this
        · show _ = _; rw [hnx.out, if_neg hj0]
    · have i0 : ¬ ((q : Int) + 1 < (c : Int)) := by omega
      by_cases hodd : c % 2 = 1
      · have hqe : q = c - 1 := by omega
        have hje : j = c / 2 := by omega
        have HFE : Hid (ifE iv ss c = s ++ ((iv ++ { data := #[101, 108, 115, 101, 10] }) ++ ss (c - 1))) := by show _ = _; unfold ifE; rw [if_pos hodd, ← hje, ← HK.out]
        have CL : Hid _ := HXL.out hodd wr HBr.out
        have pl := rdp_at (HP.out.below HBr.out) (c - 1) (by omega)
        have hb0 := room_le ss (show 2 * j + 1 ≤ c by omega)
        have er : room ss (2 * j + 1) = room ss (2 * j) + (ss (2 * j)).size + 1000 := rfl
        rw [er, show 2 * j = c - 1 by omega] at hb0
        rw [show 2 * j = c - 1 by omega] at hsz
        generalize ss (c - 1) = sb at CL HFE hb0
        generalize pos (c - 1) = pb at CL pl
        have hsb : sb.size ≤ 1000000000 := by omega
        have hss : s.size ≤ 1000000010 := by omega
        have dm : (c : Int) % 2 = 1 := by omega
        have dm2 : ((c : Int) % 2 == 1) = true := by simp; omega
        have hwc : IntKind.i64.wrap ((c : Int) - 1) = (c : Int) - 1 := by rw [IntKind.wrap_i64]; omega
        have j1 : (0 : Int) ≤ (c : Int) - 1 := by omega
        have j4 : (1 : Int) ≤ (c : Int) := by omega
        have j5 : 1 ≤ c := by omega
        have j2 : (c : Int) - 1 < (c : Int) := by omega
        have j3 : ((c : Int) - 1).toNat = c - 1 := by omega
        have z1 : ¬ 9223372036854775807 < iv.size + 5 := by omega
        have z2 : ¬ 9223372036854775807 < iv.size + 5 + sb.size := by omega
        have z3 : ¬ 9223372036854775807 < s.size + (iv.size + 5 + sb.size) := by omega
        have z4 : ¬ 9223372036854775807 < s.size + (iv.size + 5 + sb.size) + (iv.size + 3) := by omega
        have HC : Hid (∀ W, Below wr.heap.size wr W → W.cell? ⟨kb, ko + (c - 1), none⟩ = some (.int .i64 (pb : Int))) := fun W hW => cellBw pl hW
        clear hb0 er hsz hqj hqe hje
        go_wp2_with fail
        go_region_held3 (fun W => W.cell? ⟨kb, ko + (c - 1), none⟩ = some (.int .i64 (pb : Int))) (first | with_reducible exact HC.out _ H4.out | exact HC.out _ (by repeat (first | exact Below.refl _ _ | refine Below.drew ?_ | refine bel_drewN ?_ _))) (first | (go_at_call 64; (with_reducible refine Calls.mono (HI.out _) ?_); rintro r wq ⟨rfl, hw⟩; replace hw := hw.symm; subst hw) | (go_at_call 51; (with_reducible refine Calls.mono (CL.out _ (by repeat (first | exact Below.refl _ _ | exact H4.out | refine Below.drew ?_ | refine bel_drewN ?_ _))) ?_); rintro r w4 ⟨rfl, hb⟩; have H4 : Hid _ := hb; clear hb))
        all_goals (go_wp2; go_returns; exact ⟨ret_s (by rw [HFE.out]), bup HB1.out (bup HBr.out H4.out)⟩)
      · have hje : j = c / 2 := by omega
        have HFE : Hid (ifE iv ss c = s) := by show _ = _; unfold ifE; rw [if_neg hodd, ← hje, ← HK.out]
        have dm : (c : Int) % 2 = 0 := by omega
        have dm2 : ((c : Int) % 2 == 1) = false := by simp; omega
        have hb0 := room_le ss (show 2 * j ≤ c by omega)
        have z4 : ¬ 9223372036854775807 < s.size + (iv.size + 3) := by omega
        clear hb0 hsz hqj hje
        go_wp2_with fail
        go_returns
        exact ⟨ret_s (by rw [HFE.out]), bup HB1.out HBr.out⟩
end Go.Proofs.Ytepbddfpdlapbaa.vt
