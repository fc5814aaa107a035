import Derived.Test.YtepbddfpdlapbaaMPrShowD
namespace Go.Proofs.Ytepbddfpdlapbaa.vt
open Go.RowKit Go.Proofs.Ytepbddfpdlapbaa.bts Go.Proofs.Ytepbddfpdlapbaa.nod Go.Proofs.Ytepbddfpdlapbaa.lex
theorem opT_size (kd nn : Int) : (opT kd nn).size ≤ 3 := by
  unfold opT
  by_cases h : kd = 22
  · rw [if_pos h]; decide
  rw [if_neg h]; clear h
  by_cases h : kd = 23
  · rw [if_pos h]; decide
  rw [if_neg h]; clear h
  by_cases h : nn = 0
  · rw [if_pos h]; decide
  rw [if_neg h]; clear h
  by_cases h : nn = 1
  · rw [if_pos h]; decide
  rw [if_neg h]; clear h
  by_cases h : nn = 2
  · rw [if_pos h]; decide
  rw [if_neg h]; clear h
  by_cases h : nn = 3
  · rw [if_pos h]; decide
  rw [if_neg h]; clear h
  by_cases h : nn = 4
  · rw [if_pos h]; decide
  rw [if_neg h]; clear h
  by_cases h : nn = 5
  · rw [if_pos h]; decide
  rw [if_neg h]; clear h
  by_cases h : nn = 6
  · rw [if_pos h]; decide
  rw [if_neg h]; clear h
  by_cases h : nn = 7
  · rw [if_pos h]; decide
  rw [if_neg h]; clear h
  by_cases h : nn = 8
  · rw [if_pos h]; decide
  rw [if_neg h]; clear h
  by_cases h : nn = 9
  · rw [if_pos h]; decide
  rw [if_neg h]; clear h
  by_cases h : nn = 10
  · rw [if_pos h]; decide
  rw [if_neg h]; clear h
  decide
def FlagL (x m : Int) (f : Bool) : Prop := (x < m ∧ f = true) ∨ (x = m ∧ m = 4 ∧ f = true) ∨ (x = m ∧ ¬ m = 4 ∧ f = false) ∨ (m < x ∧ f = false)
def FlagR (x m : Int) (f : Bool) : Prop := (x < m ∧ f = true) ∨ (x = m ∧ m = 4 ∧ f = false) ∨ (x = m ∧ ¬ m = 4 ∧ f = true) ∨ (m < x ∧ f = false)
theorem flagL_any (x m : Int) : ∃ f, FlagL x m f := by
  rcases Int.lt_trichotomy x m with h | h | h
  · exact ⟨true, .inl ⟨h, rfl⟩⟩
  · by_cases h4 : m = 4
    · exact ⟨true, .inr (.inl ⟨h, h4, rfl⟩)⟩
    · exact ⟨false, .inr (.inr (.inl ⟨h, h4, rfl⟩))⟩
  · exact ⟨false, .inr (.inr (.inr ⟨h, rfl⟩))⟩
theorem flagR_any (x m : Int) : ∃ f, FlagR x m f := by
  rcases Int.lt_trichotomy x m with h | h | h
  · exact ⟨true, .inl ⟨h, rfl⟩⟩
  · by_cases h4 : m = 4
    · exact ⟨false, .inr (.inl ⟨h, h4, rfl⟩)⟩
    · exact ⟨true, .inr (.inr (.inl ⟨h, h4, rfl⟩))⟩
  · exact ⟨false, .inr (.inr (.inr ⟨h, rfl⟩))⟩
set_option maxRecDepth 100000 in
set_option maxHeartbeats 20000000 in
theorem show_bin {l : List Nd} {d i e c lv : Nat} {lp : Bool} {pos : Nat → Nat} (hP : Parts l d i e c lp pos) (hE : endAt l (d + 1) i = some e) (hd : d + 1 ≤ 200) (hn : l.length ≤ 6000) (_hlv : lv ≤ 400) (hk : knd l i = 21 ∨ knd l i = 22 ∨ knd l i = 23) {s0 s1 : ByteArray} {fl fr : Bool} (hL : FlagL (bindK (knd l (pos 0)) (l.getD (pos 0) nd0).n) (bindK (knd l i) (l.getD i nd0).n) fl) (hR : FlagR (bindK (knd l (pos 1)) (l.getD (pos 1) nd0).n) (bindK (knd l i) (l.getD i nd0).n) fr) (z0 : s0.size ≤ 1000000000) (z1 : s1.size ≤ 1000000000) (H0 : Says l 77 (at2 (pos 0) lv) s0) (H1 : Says l 77 (at2 (pos 1) lv) s1) : Says l 77 (at2 i lv) ((((paren s0 fl ++ { data := #[32] }) ++ opT (knd l i) (l.getD i nd0).n) ++ { data := #[32] }) ++ paren s1 fr) := by
  intro b off cap w hr
  obtain ⟨b', off', ut, un, e1, c0, c1, c2, c3, c4, ht, hnm⟩ := hr i hP.low
  simp only [Option.some.injEq, Addr.mk.injEq, and_true] at e1
  obtain ⟨rfl, rfl⟩ := e1
  have hi := hP.low
  obtain ⟨ta, tc, rfl, htl, htr, htb⟩ := ht
  obtain ⟨na, nc, rfl, hnl, hnr⟩ := hnm
  have hkk : knd l i = 21 ∨ knd l i = 22 ∨ knd l i = 23 := hk
  obtain ⟨rfl, x0, x1⟩ := hP.k17 (by omega)
  have hp0 : pos 0 < l.length := by have := endAt_bd (hP.ends 0 (by omega)); omega
  have hp1 : pos 1 < l.length := by have := endAt_bd (hP.ends 1 (by omega)); omega
  obtain ⟨ta, ua, ma, va, a0, a1, a2, a3, a4, _, _, _, _⟩ := nodeAt hr hp0
  have HDa : Hid (∀ W, Below w.heap.size w W → W.cell? ⟨b, off + pos 0 * 5, none⟩ = some (.int .i64 (knd l (pos 0))) ∧ W.cell? ⟨b, off + pos 0 * 5 + 1, none⟩ = some (.int .i64 (l.getD (pos 0) nd0).n) ∧ W.cell? ⟨b, off + pos 0 * 5 + 2, none⟩ = some (.slice ta (l.getD (pos 0) nd0).text.length ua) ∧ W.cell? ⟨b, off + pos 0 * 5 + 3, none⟩ = some (.slice ma (l.getD (pos 0) nd0).names.length va) ∧ W.cell? ⟨b, off + pos 0 * 5 + 4, none⟩ = some (.int .i64 (l.getD (pos 0) nd0).count)) := fun W hW => ⟨cellBw a0 hW, cellBw a1 hW, cellBw a2 hW, cellBw a3 hW, cellBw a4 hW⟩
  have HBa : Hid (∀ W ut un ct, Calls Try.prog 88 #[.agg #[.int .i64 (knd l (pos 0)), .int .i64 (l.getD (pos 0) nd0).n, ut, un, .int .i64 ct]] W fun x w' => x = .returned (.int .i64 (bindK (knd l (pos 0)) (l.getD (pos 0) nd0).n)) ∧ Below W.heap.size W w') := fun W ut un ct => l3bind_any _ _ _ _ _ W (fun h => num_of (hP.ends 0 (by omega)) (hP.good 0 (by omega)) (by omega) h)
  obtain ⟨bka, hbka⟩ : ∃ x, x = bindK (knd l (pos 0)) (l.getD (pos 0) nd0).n := ⟨_, rfl⟩
  rw [← hbka] at HBa
  obtain ⟨tb, ub, mb, vb, b0, b1, b2, b3, b4, _, _, _, _⟩ := nodeAt hr hp1
  have HDb : Hid (∀ W, Below w.heap.size w W → W.cell? ⟨b, off + pos 1 * 5, none⟩ = some (.int .i64 (knd l (pos 1))) ∧ W.cell? ⟨b, off + pos 1 * 5 + 1, none⟩ = some (.int .i64 (l.getD (pos 1) nd0).n) ∧ W.cell? ⟨b, off + pos 1 * 5 + 2, none⟩ = some (.slice tb (l.getD (pos 1) nd0).text.length ub) ∧ W.cell? ⟨b, off + pos 1 * 5 + 3, none⟩ = some (.slice mb (l.getD (pos 1) nd0).names.length vb) ∧ W.cell? ⟨b, off + pos 1 * 5 + 4, none⟩ = some (.int .i64 (l.getD (pos 1) nd0).count)) := fun W hW => ⟨cellBw b0 hW, cellBw b1 hW, cellBw b2 hW, cellBw b3 hW, cellBw b4 hW⟩
  have HBb : Hid (∀ W ut un ct, Calls Try.prog 88 #[.agg #[.int .i64 (knd l (pos 1)), .int .i64 (l.getD (pos 1) nd0).n, ut, un, .int .i64 ct]] W fun x w' => x = .returned (.int .i64 (bindK (knd l (pos 1)) (l.getD (pos 1) nd0).n)) ∧ Below W.heap.size W w') := fun W ut un ct => l3bind_any _ _ _ _ _ W (fun h => num_of (hP.ends 1 (by omega)) (hP.good 1 (by omega)) (by omega) h)
  obtain ⟨bkb, hbkb⟩ : ∃ x, x = bindK (knd l (pos 1)) (l.getD (pos 1) nd0).n := ⟨_, rfl⟩
  rw [← hbkb] at HBb
  have HBn : Hid (∀ W ut un ct, Calls Try.prog 88 #[.agg #[.int .i64 (knd l i), .int .i64 (l.getD i nd0).n, ut, un, .int .i64 ct]] W fun x w' => x = .returned (.int .i64 (bindK (knd l i) (l.getD i nd0).n)) ∧ Below W.heap.size W w') := fun W ut un ct => l3bind_any _ _ _ _ _ W (fun h => hP.num21 h)
  have HOp : Hid (∀ W ut un ct, Calls Try.prog 89 #[.agg #[.int .i64 (knd l i), .int .i64 (l.getD i nd0).n, ut, un, .int .i64 ct]] W fun x w' => x = .returned (.string (opT (knd l i) (l.getD i nd0).n)) ∧ Below W.heap.size W w') := fun W ut un ct => l3opText_any _ _ _ _ _ W hkk (fun h => hP.num21 h)
  have hoz := opT_size (knd l i) (l.getD i nd0).n
  generalize opT (knd l i) (l.getD i nd0).n = op at HOp hoz
  rw [← hbka] at hL
  rw [← hbkb] at hR
  clear hbka hbkb
  generalize (l.getD (pos 0) nd0).n = na at HDa HBa
  generalize knd l (pos 0) = ka at HDa HBa
  generalize (l.getD (pos 0) nd0).text.length = xa at HDa
  generalize (l.getD (pos 0) nd0).names.length = ya at HDa
  generalize (l.getD (pos 0) nd0).count = za at HDa
  generalize (l.getD (pos 1) nd0).n = nb at HDb HBb
  generalize knd l (pos 1) = kb at HDb HBb
  generalize (l.getD (pos 1) nd0).text.length = xb at HDb
  generalize (l.getD (pos 1) nd0).names.length = yb at HDb
  generalize (l.getD (pos 1) nd0).count = zb at HDb
  generalize bindK (knd l i) (l.getD i nd0).n = bm at HBn hL hR
  obtain ⟨n, hnn⟩ : ∃ n, n = l.length := ⟨_, rfl⟩
  have HN : Hid (n = l.length) := hnn
  have CK : Hid (∀ W, Below w.heap.size w W → Calls Try.prog 63 #[.slice (some ⟨b, off, none⟩) n cap, .int .i64 (i : Int)] W fun x w' => ∃ ka kc, x = .returned (.slice ka 2 kc) ∧ RdP w' ka pos 2 ∧ Below W.heap.size W w' ∧ 2 ≤ kc) := fun W hW => by
    rw [HN.out]; exact kids_say hP hE hd hn b off cap W (hr.below hW)
  have HA : Hid (∀ w1, Below w.heap.size w w1 → ∀ W, Below w1.heap.size w1 W → Calls Try.prog 77 #[.slice (some ⟨b, off, none⟩) n cap, .int .i64 (pos 0 : Int), .int .i64 (lv : Int)] W fun r w' => r = .returned (.string s0) ∧ Below w1.heap.size w1 w') := fun w1 h1 W hW => by
    have h := Says.at (cap := cap) H0 hr h1 hW
    rw [HN.out]; exact h
  have HB : Hid (∀ w1, Below w.heap.size w w1 → ∀ W, Below w1.heap.size w1 W → Calls Try.prog 77 #[.slice (some ⟨b, off, none⟩) n cap, .int .i64 (pos 1 : Int), .int .i64 (lv : Int)] W fun r w' => r = .returned (.string s1) ∧ Below w1.heap.size w1 w') := fun w1 h1 W hW => by
    have h := Says.at (cap := cap) H1 hr h1 hW
    rw [HN.out]; exact h
  have j0 : ((pos 0 : Nat) : Int) < (n : Int) := by rw [hnn]; omega
  have j1 : ((pos 1 : Nat) : Int) < (n : Int) := by rw [hnn]; omega
  have hkd : (l.getD i nd0).kind = knd l i := rfl
  rw [hkd] at c0
  clear a0 a1 a2 a3 a4 b0 b1 b2 b3 b4 x0 x1 hp0 hp1 H0 H1 hkd
  generalize knd l i = kd at c0 HBn HOp hk hkk
  have k11 : (kd == 11) = false := by simp; omega
  have k12 : (kd == 12) = false := by simp; omega
  have k13 : (kd == 13) = false := by simp; omega
  have k14 : (kd == 14) = false := by simp; omega
  have k15 : (kd == 15) = false := by simp; omega
  have k16 : (kd == 16) = false := by simp; omega
  have k17 : (kd == 17) = false := by simp; omega
  have k18 : (kd == 18) = false := by simp; omega
  have k19 : (kd == 19) = false := by simp; omega
  have k20 : (kd == 20) = false := by simp; omega
  have k24 : (kd == 24) = false := by simp; omega
  have k25 : (kd == 25) = false := by simp; omega
  unfold at2
  rw [← hnn] at hi hn ⊢
  generalize (l.getD i nd0).n = nn at c1 HBn HOp
  generalize (l.getD i nd0).text.length = tl at c2
  generalize (l.getD i nd0).names.length = nl at c3
  generalize (l.getD i nd0).count = ct at c4
  clear hP hE hr hnn htl htr htb hnl hnr
  go_enter Try.func77, Try.ntmps77
  have HPa : Hid (∀ W, Calls Try.prog 87 #[.string s0, .bool fl] W fun x w' => x = .returned (.string (paren s0 fl)) ∧ w' = W) := fun W => l3paren_any s0 fl W z0
  have HPb : Hid (∀ W, Calls Try.prog 87 #[.string s1, .bool fr] W fun x w' => x = .returned (.string (paren s1 fr)) ∧ w' = W) := fun W => l3paren_any s1 fr W z1
  have hpa := paren_size s0 fl
  have hpb := paren_size s1 fr
  generalize paren s0 fl = pa at HPa hpa
  generalize paren s1 fr = pb at HPb hpb
  have z2 : ¬ 9223372036854775807 < pa.size + 1 := by omega
  have z3 : ¬ 9223372036854775807 < pa.size + 1 + op.size := by omega
  have z4 : ¬ 9223372036854775807 < pa.size + 1 + op.size + 1 := by omega
  have z5 : ¬ 9223372036854775807 < pa.size + 1 + op.size + 1 + pb.size := by omega
  unfold FlagL at hL
  unfold FlagR at hR
  by_cases h4 : bm = 4
  · subst h4
    rcases hL with ⟨hL, rfl⟩ | ⟨hL, hx, rfl⟩ | ⟨hL, hx, rfl⟩ | ⟨hL, rfl⟩ <;> rcases hR with ⟨hR, rfl⟩ | ⟨hR, hy, rfl⟩ | ⟨hR, hy, rfl⟩ | ⟨hR, rfl⟩
    all_goals first
      | (exfalso; omega)
      | (first
         | have gL : decide (bka < (4 : Int)) = true := by simp; omega
         | (have gL : decide (bka < (4 : Int)) = false := by simp; omega
            have iL : ¬ (bka < (4 : Int)) := by omega
            first
            | have fL : (bka == (4 : Int)) = true := by simp; omega
            | have fL : (bka == (4 : Int)) = false := by simp; omega)
         first
         | have gR : decide (bkb < (4 : Int)) = true := by simp; omega
         | (have gR : decide (bkb < (4 : Int)) = false := by simp; omega
            have iR : ¬ (bkb < (4 : Int)) := by omega
            first
            | have fR : (bkb == (4 : Int)) = true := by simp; omega
            | have fR : (bkb == (4 : Int)) = false := by simp; omega)
         go_wp2_with (first | (go_at_call 89; (with_reducible refine Calls.mono (HOp.out w6 _ _ _) ?_); rintro r w7 ⟨rfl, hb⟩; have H7 : Hid (Below w1.heap.size w1 w7) := bup H6.out hb; clear hb) | (go_at_call 87; (with_reducible refine Calls.mono (HPb.out w6) ?_); rintro r wq ⟨rfl, hw⟩; replace hw := hw.symm; subst hw) | (go_at_call 77; (with_reducible refine Calls.mono (CB.out w5 H5.out) ?_); rintro r w6 ⟨rfl, hb⟩; have hw : Below w1.heap.size w1 w6 := hb; have H6 : Hid (Below w1.heap.size w1 w6) := hw; have p0_6 := cellBw p0 hw; have p1_6 := cellBw p1 hw; obtain ⟨qa0_6, qa1_6, qa2_6, qa3_6, qa4_6⟩ := HDa.out _ (bup HB1.out hw); obtain ⟨qb0_6, qb1_6, qb2_6, qb3_6, qb4_6⟩ := HDb.out _ (bup HB1.out hw); have n0_6 := cellBw a0 hw; have n1_6 := cellBw a1 hw; have n2_6 := cellBw a2 hw; have n3_6 := cellBw a3 hw; have n4_6 := cellBw a4 hw; clear hb hw) | (go_at_call 87; (with_reducible refine Calls.mono (HPa.out w5) ?_); rintro r wq ⟨rfl, hw⟩; replace hw := hw.symm; subst hw) | (go_at_call 77; (with_reducible refine Calls.mono (CA.out w4 H4.out) ?_); rintro r w5 ⟨rfl, hb⟩; have hw : Below w1.heap.size w1 w5 := hb; have H5 : Hid (Below w1.heap.size w1 w5) := hw; have p0_5 := cellBw p0 hw; have p1_5 := cellBw p1 hw; obtain ⟨qa0_5, qa1_5, qa2_5, qa3_5, qa4_5⟩ := HDa.out _ (bup HB1.out hw); obtain ⟨qb0_5, qb1_5, qb2_5, qb3_5, qb4_5⟩ := HDb.out _ (bup HB1.out hw); have n0_5 := cellBw a0 hw; have n1_5 := cellBw a1 hw; have n2_5 := cellBw a2 hw; have n3_5 := cellBw a3 hw; have n4_5 := cellBw a4 hw; clear hb hw) | (go_at_call 88; (with_reducible refine Calls.mono (HBb.out w3 _ _ _) ?_); rintro r w4 ⟨rfl, hb⟩; have hw : Below w1.heap.size w1 w4 := bup H3.out hb; have H4 : Hid (Below w1.heap.size w1 w4) := hw; have p0_4 := cellBw p0 hw; have p1_4 := cellBw p1 hw; obtain ⟨qa0_4, qa1_4, qa2_4, qa3_4, qa4_4⟩ := HDa.out _ (bup HB1.out hw); obtain ⟨qb0_4, qb1_4, qb2_4, qb3_4, qb4_4⟩ := HDb.out _ (bup HB1.out hw); have n0_4 := cellBw a0 hw; have n1_4 := cellBw a1 hw; have n2_4 := cellBw a2 hw; have n3_4 := cellBw a3 hw; have n4_4 := cellBw a4 hw; clear hb hw) | (go_at_call 88; (with_reducible refine Calls.mono (HBa.out w2 _ _ _) ?_); rintro r w3 ⟨rfl, hb⟩; have hw : Below w1.heap.size w1 w3 := bup H2.out hb; have H3 : Hid (Below w1.heap.size w1 w3) := hw; have p0_3 := cellBw p0 hw; have p1_3 := cellBw p1 hw; obtain ⟨qa0_3, qa1_3, qa2_3, qa3_3, qa4_3⟩ := HDa.out _ (bup HB1.out hw); obtain ⟨qb0_3, qb1_3, qb2_3, qb3_3, qb4_3⟩ := HDb.out _ (bup HB1.out hw); have n0_3 := cellBw a0 hw; have n1_3 := cellBw a1 hw; have n2_3 := cellBw a2 hw; have n3_3 := cellBw a3 hw; have n4_3 := cellBw a4 hw; clear hb hw) | (go_at_call 88; (with_reducible refine Calls.mono (HBn.out w1 _ _ _) ?_); rintro r w2 ⟨rfl, hb⟩; have hw : Below w1.heap.size w1 w2 := hb; have H2 : Hid (Below w1.heap.size w1 w2) := hw; have p0_2 := cellBw p0 hw; have p1_2 := cellBw p1 hw; obtain ⟨qa0_2, qa1_2, qa2_2, qa3_2, qa4_2⟩ := HDa.out _ (bup HB1.out hw); obtain ⟨qb0_2, qb1_2, qb2_2, qb3_2, qb4_2⟩ := HDb.out _ (bup HB1.out hw); have n0_2 := cellBw a0 hw; have n1_2 := cellBw a1 hw; have n2_2 := cellBw a2 hw; have n3_2 := cellBw a3 hw; have n4_2 := cellBw a4 hw; clear hb hw) | (go_at_call 63; refine (CK.out _ ((Below.refl _ _).alloc (Nat.le_refl _) _)).mono ?_; rintro r w1 ⟨ka, kc, rfl, hp, hb, hkc⟩; simp only [World.size_alloc] at hb; obtain ⟨a0, a1, a2, a3, a4, hw⟩ := nodeVar hb; have HB1 : Hid (Below w.heap.size w w1) := hw; have HP : Hid (RdP w1 ka pos _) := hp; obtain ⟨kb, ko, rfl, p0⟩ := hp 0 (by omega); rw [Nat.add_zero] at p0; have p1 := rdp_at hp 1 (by omega); obtain ⟨qa0, qa1, qa2, qa3, qa4⟩ := HDa.out w1 hw; obtain ⟨qb0, qb1, qb2, qb3, qb4⟩ := HDb.out w1 hw; have CA : Hid _ := HA.out w1 hw; have CB : Hid _ := HB.out w1 hw; clear hb hw hp))
         go_returns
         exact ⟨rfl, bup HB1.out H7.out⟩)
  · have e4 : (bm == 4) = false := by simp; exact h4
    rcases hL with ⟨hL, rfl⟩ | ⟨hL, hx, rfl⟩ | ⟨hL, hx, rfl⟩ | ⟨hL, rfl⟩ <;> rcases hR with ⟨hR, rfl⟩ | ⟨hR, hy, rfl⟩ | ⟨hR, hy, rfl⟩ | ⟨hR, rfl⟩
    all_goals first
      | (exfalso; omega)
      | (first
         | have gL : decide (bka < bm) = true := by simp; omega
         | (have gL : decide (bka < bm) = false := by simp; omega
            have iL : ¬ (bka < bm) := by omega
            first
            | have fL : (bka == bm) = true := by simp; omega
            | have fL : (bka == bm) = false := by simp; omega)
         first
         | have gR : decide (bkb < bm) = true := by simp; omega
         | (have gR : decide (bkb < bm) = false := by simp; omega
            have iR : ¬ (bkb < bm) := by omega
            first
            | have fR : (bkb == bm) = true := by simp; omega
            | have fR : (bkb == bm) = false := by simp; omega)
         go_wp2_with (first | (go_at_call 89; (with_reducible refine Calls.mono (HOp.out w6 _ _ _) ?_); rintro r w7 ⟨rfl, hb⟩; have H7 : Hid (Below w1.heap.size w1 w7) := bup H6.out hb; clear hb) | (go_at_call 87; (with_reducible refine Calls.mono (HPb.out w6) ?_); rintro r wq ⟨rfl, hw⟩; replace hw := hw.symm; subst hw) | (go_at_call 77; (with_reducible refine Calls.mono (CB.out w5 H5.out) ?_); rintro r w6 ⟨rfl, hb⟩; have hw : Below w1.heap.size w1 w6 := hb; have H6 : Hid (Below w1.heap.size w1 w6) := hw; have p0_6 := cellBw p0 hw; have p1_6 := cellBw p1 hw; obtain ⟨qa0_6, qa1_6, qa2_6, qa3_6, qa4_6⟩ := HDa.out _ (bup HB1.out hw); obtain ⟨qb0_6, qb1_6, qb2_6, qb3_6, qb4_6⟩ := HDb.out _ (bup HB1.out hw); have n0_6 := cellBw a0 hw; have n1_6 := cellBw a1 hw; have n2_6 := cellBw a2 hw; have n3_6 := cellBw a3 hw; have n4_6 := cellBw a4 hw; clear hb hw) | (go_at_call 87; (with_reducible refine Calls.mono (HPa.out w5) ?_); rintro r wq ⟨rfl, hw⟩; replace hw := hw.symm; subst hw) | (go_at_call 77; (with_reducible refine Calls.mono (CA.out w4 H4.out) ?_); rintro r w5 ⟨rfl, hb⟩; have hw : Below w1.heap.size w1 w5 := hb; have H5 : Hid (Below w1.heap.size w1 w5) := hw; have p0_5 := cellBw p0 hw; have p1_5 := cellBw p1 hw; obtain ⟨qa0_5, qa1_5, qa2_5, qa3_5, qa4_5⟩ := HDa.out _ (bup HB1.out hw); obtain ⟨qb0_5, qb1_5, qb2_5, qb3_5, qb4_5⟩ := HDb.out _ (bup HB1.out hw); have n0_5 := cellBw a0 hw; have n1_5 := cellBw a1 hw; have n2_5 := cellBw a2 hw; have n3_5 := cellBw a3 hw; have n4_5 := cellBw a4 hw; clear hb hw) | (go_at_call 88; (with_reducible refine Calls.mono (HBb.out w3 _ _ _) ?_); rintro r w4 ⟨rfl, hb⟩; have hw : Below w1.heap.size w1 w4 := bup H3.out hb; have H4 : Hid (Below w1.heap.size w1 w4) := hw; have p0_4 := cellBw p0 hw; have p1_4 := cellBw p1 hw; obtain ⟨qa0_4, qa1_4, qa2_4, qa3_4, qa4_4⟩ := HDa.out _ (bup HB1.out hw); obtain ⟨qb0_4, qb1_4, qb2_4, qb3_4, qb4_4⟩ := HDb.out _ (bup HB1.out hw); have n0_4 := cellBw a0 hw; have n1_4 := cellBw a1 hw; have n2_4 := cellBw a2 hw; have n3_4 := cellBw a3 hw; have n4_4 := cellBw a4 hw; clear hb hw) | (go_at_call 88; (with_reducible refine Calls.mono (HBa.out w2 _ _ _) ?_); rintro r w3 ⟨rfl, hb⟩; have hw : Below w1.heap.size w1 w3 := bup H2.out hb; have H3 : Hid (Below w1.heap.size w1 w3) := hw; have p0_3 := cellBw p0 hw; have p1_3 := cellBw p1 hw; obtain ⟨qa0_3, qa1_3, qa2_3, qa3_3, qa4_3⟩ := HDa.out _ (bup HB1.out hw); obtain ⟨qb0_3, qb1_3, qb2_3, qb3_3, qb4_3⟩ := HDb.out _ (bup HB1.out hw); have n0_3 := cellBw a0 hw; have n1_3 := cellBw a1 hw; have n2_3 := cellBw a2 hw; have n3_3 := cellBw a3 hw; have n4_3 := cellBw a4 hw; clear hb hw) | (go_at_call 88; (with_reducible refine Calls.mono (HBn.out w1 _ _ _) ?_); rintro r w2 ⟨rfl, hb⟩; have hw : Below w1.heap.size w1 w2 := hb; have H2 : Hid (Below w1.heap.size w1 w2) := hw; have p0_2 := cellBw p0 hw; have p1_2 := cellBw p1 hw; obtain ⟨qa0_2, qa1_2, qa2_2, qa3_2, qa4_2⟩ := HDa.out _ (bup HB1.out hw); obtain ⟨qb0_2, qb1_2, qb2_2, qb3_2, qb4_2⟩ := HDb.out _ (bup HB1.out hw); have n0_2 := cellBw a0 hw; have n1_2 := cellBw a1 hw; have n2_2 := cellBw a2 hw; have n3_2 := cellBw a3 hw; have n4_2 := cellBw a4 hw; clear hb hw) | (go_at_call 63; refine (CK.out _ ((Below.refl _ _).alloc (Nat.le_refl _) _)).mono ?_; rintro r w1 ⟨ka, kc, rfl, hp, hb, hkc⟩; simp only [World.size_alloc] at hb; obtain ⟨a0, a1, a2, a3, a4, hw⟩ := nodeVar hb; have HB1 : Hid (Below w.heap.size w w1) := hw; have HP : Hid (RdP w1 ka pos _) := hp; obtain ⟨kb, ko, rfl, p0⟩ := hp 0 (by omega); rw [Nat.add_zero] at p0; have p1 := rdp_at hp 1 (by omega); obtain ⟨qa0, qa1, qa2, qa3, qa4⟩ := HDa.out w1 hw; obtain ⟨qb0, qb1, qb2, qb3, qb4⟩ := HDb.out w1 hw; have CA : Hid _ := HA.out w1 hw; have CB : Hid _ := HB.out w1 hw; clear hb hw hp))
         go_returns
         exact ⟨rfl, bup HB1.out H7.out⟩)
end Go.Proofs.Ytepbddfpdlapbaa.vt
