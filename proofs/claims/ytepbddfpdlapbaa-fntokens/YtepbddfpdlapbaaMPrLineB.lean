import Derived.Test.YtepbddfpdlapbaaMPrLineA
namespace Go.Proofs.Ytepbddfpdlapbaa.vt
open Go.RowKit Go.Proofs.Ytepbddfpdlapbaa.bts Go.Proofs.Ytepbddfpdlapbaa.nod Go.Proofs.Ytepbddfpdlapbaa.lex
set_option maxRecDepth 100000 in
set_option maxHeartbeats 1000000 in
theorem line_func {l : List Nd} {d i e c lv : Nat} {lp : Bool} {pos : Nat → Nat} (hP : Parts l d i e c lp pos) (hE : endAt l (d + 1) i = some e) (hd : d + 1 ≤ 200) (hn : l.length ≤ 6000) (hlv : lv ≤ 400) (hk : knd l i = 26) {s0 : ByteArray} (z0 : s0.size ≤ 1000000000) (hfn : ∀ j, j < (l.getD (pos 0) nd0).names.length → 0 < ((l.getD (pos 0) nd0).names.getD j []).length) (H0 : Says l 51 (at2 (pos 0 + 1) (lv + 1)) s0) : Says l 65 (at2 i lv) ((((((({ data := #[108, 111, 99, 97, 108, 32, 102, 117, 110, 99, 116, 105, 111, 110, 32] } ++ strOfNums ((l.getD i nd0).names.getD 0 [])) ++ { data := #[40] }) ++ joinK (l.getD (pos 0) nd0).names (l.getD (pos 0) nd0).names.length) ++ { data := #[41, 10] }) ++ s0) ++ (ind lv ++ { data := #[101, 110, 100] }))) := by
  intro b off cap w hr
  obtain ⟨b', off', ut, un, e1, c0, c1, c2, c3, c4, ht, hnm⟩ := hr i hP.low
  simp only [Option.some.injEq, Addr.mk.injEq, and_true] at e1
  obtain ⟨rfl, rfl⟩ := e1
  have hkn : (l.getD i nd0).kind = 26 := hk
  rw [hkn] at c0
  have hi := hP.low
  obtain ⟨ta, tc, rfl, htl, htr, htb⟩ := ht
  obtain ⟨na, nc, rfl, hnl, hnr⟩ := hnm
  have hwl := wrap_lv lv hlv
  have HI : Hid (∀ W, Calls Try.prog 64 #[.int .i64 (lv : Int)] W fun x w' => x = .returned (.string (ind lv)) ∧ w' = W) := fun W => l3indent_any lv W (by omega)
  have hiz := ind_size lv
  generalize ind lv = iv at HI hiz
  have hiz2 : iv.size ≤ 800 := by omega
  clear hiz
  have ze : ¬ 9223372036854775807 < iv.size + 3 := by omega
  obtain ⟨rfl, x0⟩ := hP.k26 hk
  have hp0 : pos 0 < l.length := by have := endAt_bd (hP.ends 0 (by omega)); omega
  have h1 : (l.getD i nd0).names.length = 1 := by have h := hP.names; rw [hk] at h; have e1 : least 26 = 1 := rfl; have e2 : most 26 = 1 := rfl; omega
  have h2 := hP.names.2.2 0 (by omega)
  obtain ⟨nb, no, u, rfl, nc0, ua, uc, rfl, ul, ur, ub⟩ := hnr 0 (by omega)
  rw [Nat.add_zero] at nc0
  have HV : Hid (∀ W, Below w.heap.size w W → W.cell? ⟨nb, no, none⟩ = some (.slice ua ((l.getD i nd0).names.getD 0 []).length uc) ∧ (convert 22 9 (.slice ua ((l.getD i nd0).names.getD 0 []).length uc)).run Try.prog W = .ok (.string (strOfNums ((l.getD i nd0).names.getD 0 []))) W) := fun W hW => ⟨cellBw nc0 hW, rd_str (ur.below hW) h2⟩
  have hns := strOfNums_size ((l.getD i nd0).names.getD 0 [])
  have hnz : (strOfNums ((l.getD i nd0).names.getD 0 [])).size ≤ 1000 := by omega
  clear hns
  generalize strOfNums ((l.getD i nd0).names.getD 0 []) = nm at HV hnz
  generalize ((l.getD i nd0).names.getD 0 []).length = ul at HV nc0 ul h2
  obtain ⟨ta_, ua_, ma, va, aa0, aa1, aa2, aa3, aa4, _, _, _, arr⟩ := nodeAt hr hp0
  have HDa : Hid (∀ W, Below w.heap.size w W → W.cell? ⟨b, off + pos 0 * 5, none⟩ = some (.int .i64 (knd l (pos 0))) ∧ W.cell? ⟨b, off + pos 0 * 5 + 1, none⟩ = some (.int .i64 (l.getD (pos 0) nd0).n) ∧ W.cell? ⟨b, off + pos 0 * 5 + 2, none⟩ = some (.slice ta_ (l.getD (pos 0) nd0).text.length ua_) ∧ W.cell? ⟨b, off + pos 0 * 5 + 3, none⟩ = some (.slice ma (l.getD (pos 0) nd0).names.length va) ∧ W.cell? ⟨b, off + pos 0 * 5 + 4, none⟩ = some (.int .i64 (l.getD (pos 0) nd0).count)) := fun W hW => ⟨cellBw aa0 hW, cellBw aa1 hW, cellBw aa2 hW, cellBw aa3 hW, cellBw aa4 hW⟩
  obtain ⟨zna, znc, ze1, zhl, zhr⟩ := id arr
  have fsz := names_size zhr zhl
  have HF : Hid (∀ W, Below w.heap.size w W → Calls Try.prog 75 #[.slice ma (l.getD (pos 0) nd0).names.length va] W fun x w' => x = .returned (.string (joinK (l.getD (pos 0) nd0).names (l.getD (pos 0) nd0).names.length)) ∧ w' = W) := fun W hW => l3list_any _ _ W (arr.below hW) fsz hfn
  have hjz := joinK_size (l.getD (pos 0) nd0).names _ (Nat.le_refl _)
  have hlz : lens (l.getD (pos 0) nd0).names (l.getD (pos 0) nd0).names.length ≤ 1048576 := by unfold sizeSS at fsz; omega
  generalize joinK (l.getD (pos 0) nd0).names (l.getD (pos 0) nd0).names.length = jf at HF hjz
  have hjf : jf.size ≤ 1052576 := by omega
  clear hjz hlz fsz zhl zhr ze1
  generalize (l.getD (pos 0) nd0).n = fa at HDa
  generalize knd l (pos 0) = fk at HDa
  generalize (l.getD (pos 0) nd0).text.length = fx at HDa
  generalize (l.getD (pos 0) nd0).names.length = fy at HDa HF
  generalize (l.getD (pos 0) nd0).count = fz at HDa
  obtain ⟨n, hnn⟩ : ∃ n, n = l.length := ⟨_, rfl⟩
  have HN : Hid (n = l.length) := hnn
  have CK : Hid (∀ W, Below w.heap.size w W → Calls Try.prog 63 #[.slice (some ⟨b, off, none⟩) n cap, .int .i64 (i : Int)] W fun x w' => ∃ ka kc, x = .returned (.slice ka 1 kc) ∧ RdP w' ka pos 1 ∧ Below W.heap.size W w' ∧ 1 ≤ kc) := fun W hW => by
    rw [HN.out]; exact kids_say hP hE hd hn b off cap W (hr.below hW)
  have HA : Hid (∀ w1, Below w.heap.size w w1 → ∀ W, Below w1.heap.size w1 W → Calls Try.prog 51 #[.slice (some ⟨b, off, none⟩) n cap, .int .i64 ((pos 0 + 1 : Nat) : Int), .int .i64 ((lv + 1 : Nat) : Int)] W fun r w' => r = .returned (.string s0) ∧ Below w1.heap.size w1 w') := fun w1 h1 W hW => by
    have h := Says.at (cap := cap) H0 hr h1 hW
    rw [HN.out]; exact h
  have j0 : ((pos 0 : Nat) : Int) < (n : Int) := by rw [hnn]; omega
  clear H0 x0 aa0 aa1 aa2 aa3 aa4 hp0 hfn arr
  unfold at2
  rw [← hnn] at hi hn ⊢
  generalize (l.getD i nd0).n = nn at c1
  generalize (l.getD i nd0).text.length = tl at c2
  generalize (l.getD i nd0).names.length = nl at c3 h1 hnl
  subst h1
  generalize (l.getD i nd0).count = ct at c4
  clear hP hE hr hkn hnn htl htr htb ul ur ub h2 nc0
  go_enter Try.func65, Try.ntmps65
  have hwp : IntKind.i64.wrap ((pos 0 : Int) + 1) = (pos 0 : Int) + 1 := by rw [IntKind.wrap_i64]; omega
  have z0 : ¬ 9223372036854775807 < 15 + nm.size := by omega
  have z1 : ¬ 9223372036854775807 < 15 + nm.size + 1 := by omega
  have z2 : ¬ 9223372036854775807 < 15 + nm.size + 1 + jf.size := by omega
  have z3 : ¬ 9223372036854775807 < 15 + nm.size + 1 + jf.size + 2 := by omega
  have z4 : ¬ 9223372036854775807 < 15 + nm.size + 1 + jf.size + 2 + s0.size := by omega
  have z5 : ¬ 9223372036854775807 < 15 + nm.size + 1 + jf.size + 2 + s0.size + (iv.size + 3) := by omega
  go_wp2_with (first | (go_at_call 64; (with_reducible refine Calls.mono (HI.out _) ?_); rintro r wq ⟨rfl, hw⟩; replace hw := hw.symm; subst hw) | (go_at_call 63; refine (CK.out _ ((Below.refl _ _).alloc (Nat.le_refl _) _)).mono ?_; rintro r w1 ⟨ka, kc, rfl, hp, hb, hkc⟩; simp only [World.size_alloc] at hb; obtain ⟨a0, a1, a2, a3, a4, hw⟩ := nodeVar hb; have HB1 : Hid (Below w.heap.size w w1) := hw; have HP : Hid (RdP w1 ka pos _) := hp; obtain ⟨kb, ko, rfl, p0⟩ := hp 0 (by omega); rw [Nat.add_zero] at p0; obtain ⟨qa0, qa1, qa2, qa3, qa4⟩ := HDa.out w1 hw; clear hb hw hp))
  have hbw : Below w1.heap.size w1 (w1.alloc (.cells #[.int .i64 fk, .int .i64 fa, .slice ta_ fx ua_, .slice ma fy va, .int .i64 fz] 75)) := (Below.refl _ _).alloc (Nat.le_refl _) _
  have HB2 : Hid (Below w.heap.size w (w1.alloc (.cells #[.int .i64 fk, .int .i64 fa, .slice ta_ fx ua_, .slice ma fy va, .int .i64 fz] 75))) := bup HB1.out hbw
  have r0 := cellBw p0 hbw
  have m3 := cellBw a3 hbw
  have v0 := (HV.out _ HB2.out).1
  have f3 : (w1.alloc (.cells #[.int .i64 fk, .int .i64 fa, .slice ta_ fx ua_, .slice ma fy va, .int .i64 fz] 75)).cell? ⟨w1.heap.size, 3, none⟩ = some (.slice ma fy va) := (nodeVar (W := w1.alloc (.cells #[.int .i64 fk, .int .i64 fa, .slice ta_ fx ua_, .slice ma fy va, .int .i64 fz] 75)) (by have := Below.refl (w1.heap.size + 1) (w1.alloc (.cells #[.int .i64 fk, .int .i64 fa, .slice ta_ fx ua_, .slice ma fy va, .int .i64 fz] 75)); exact this)).2.2.2.1
  clear hbw
  generalize w1.alloc (.cells #[.int .i64 fk, .int .i64 fa, .slice ta_ fx ua_, .slice ma fy va, .int .i64 fz] 75) = w2 at HB2 r0 m3 v0 f3 ⊢
  have CA : Hid (∀ W, Below w2.heap.size w2 W → Calls Try.prog 51 #[.slice (some ⟨b, off, none⟩) n cap, .int .i64 ((pos 0 : Int) + 1), .int .i64 ((lv : Int) + 1)] W fun r w' => r = .returned (.string s0) ∧ Below w2.heap.size w2 w') := HA.out w2 HB2.out
  have CF : Hid (∀ W, Below w2.heap.size w2 W → Calls Try.prog 75 #[.slice ma fy va] W fun x w' => x = .returned (.string jf) ∧ w' = W) := fun W hW => HF.out W (bup HB2.out hW)
  have HC : Hid (∀ W, Below w2.heap.size w2 W → W.cell? ⟨w.heap.size, 3, none⟩ = some (.slice (some ⟨nb, no, none⟩) 1 nc) ∧ W.cell? ⟨nb, no, none⟩ = some (.slice ua ul uc) ∧ W.cell? ⟨w1.heap.size, 3, none⟩ = some (.slice ma fy va) ∧ W.cell? ⟨kb, ko, none⟩ = some (.int .i64 (pos 0 : Int)) ∧ (convert 22 9 (.slice ua ul uc)).run Try.prog W = .ok (.string nm) W) := fun W hW => ⟨cellBw m3 hW, cellBw v0 hW, cellBw f3 hW, cellBw r0 hW, (HV.out W (bup HB2.out hW)).2⟩
  go_region_held3 (fun W => W.cell? ⟨w.heap.size, 3, none⟩ = some (.slice (some ⟨nb, no, none⟩) 1 nc) ∧ W.cell? ⟨nb, no, none⟩ = some (.slice ua ul uc) ∧ W.cell? ⟨w1.heap.size, 3, none⟩ = some (.slice ma fy va) ∧ W.cell? ⟨kb, ko, none⟩ = some (.int .i64 (pos 0 : Int)) ∧ (convert 22 9 (.slice ua ul uc)).run Try.prog W = .ok (.string nm) W) (first | with_reducible exact HC.out _ H3.out | exact HC.out _ (by repeat (first | exact Below.refl _ _ | refine Below.drew ?_ | refine bel_drewN ?_ _))) (first | (go_at_call 51; (with_reducible refine Calls.mono (CA.out _ (by repeat (first | exact Below.refl _ _ | exact H3.out | refine Below.drew ?_ | refine bel_drewN ?_ _))) ?_); rintro r w3 ⟨rfl, hb⟩; have H3 : Hid _ := hb; clear hb) | (go_at_call 75; (with_reducible refine Calls.mono (CF.out _ (by repeat (first | exact Below.refl _ _ | exact H3.out | refine Below.drew ?_ | refine bel_drewN ?_ _))) ?_); rintro r wq ⟨rfl, hw⟩; replace hw := hw.symm; subst hw))
  all_goals (go_wp2; go_returns; exact ⟨rfl, bup HB2.out H3.out⟩)
set_option maxRecDepth 100000 in
set_option maxHeartbeats 1000000 in
theorem line_assign {l : List Nd} {d i e c lv : Nat} {lp : Bool} {pos : Nat → Nat} (hP : Parts l d i e c lp pos) (hE : endAt l (d + 1) i = some e) (hd : d + 1 ≤ 200) (hn : l.length ≤ 6000) (hlv : lv ≤ 400) (hk : knd l i = 2) {ss : Nat → ByteArray} (zrja : room ss (l.getD i nd0).n.toNat ≤ 1000000000) (zrjb : room (fun k => ss ((l.getD i nd0).n.toNat + k)) (c - (l.getD i nd0).n.toNat) ≤ 1000000000) (Hja : ∀ k, k < (l.getD i nd0).n.toNat → Says l 77 (at2 (pos k) lv) (ss k)) (Hjb : ∀ k, k < c - (l.getD i nd0).n.toNat → Says l 77 (at2 (pos ((l.getD i nd0).n.toNat + k)) lv) (ss ((l.getD i nd0).n.toNat + k))) : Says l 65 (at2 i lv) ((joinS ss (l.getD i nd0).n.toNat ++ { data := #[32, 61, 32] }) ++ joinS (fun k => ss ((l.getD i nd0).n.toNat + k)) (c - (l.getD i nd0).n.toNat)) := by
  intro b off cap w hr
  obtain ⟨b', off', ut, un, e1, c0, c1, c2, c3, c4, ht, hnm⟩ := hr i hP.low
  simp only [Option.some.injEq, Addr.mk.injEq, and_true] at e1
  obtain ⟨rfl, rfl⟩ := e1
  have hkn : (l.getD i nd0).kind = 2 := hk
  rw [hkn] at c0
  have hi := hP.low
  obtain ⟨ta, tc, rfl, htl, htr, htb⟩ := ht
  obtain ⟨na, nc, rfl, hnl, hnr⟩ := hnm
  have hwl := wrap_lv lv hlv
  have HI : Hid (∀ W, Calls Try.prog 64 #[.int .i64 (lv : Int)] W fun x w' => x = .returned (.string (ind lv)) ∧ w' = W) := fun W => l3indent_any lv W (by omega)
  have hiz := ind_size lv
  generalize ind lv = iv at HI hiz
  have hiz2 : iv.size ≤ 800 := by omega
  clear hiz
  have ze : ¬ 9223372036854775807 < iv.size + 3 := by omega
  have hk2 := hP.k2 hk
  obtain ⟨N, hN⟩ : ∃ N : Nat, (l.getD i nd0).n = (N : Int) := ⟨(l.getD i nd0).n.toNat, by omega⟩
  rw [hN] at c1 hk2
  obtain ⟨hN1, hN50, hNc, hcN, _⟩ := hk2
  have eN : (l.getD i nd0).n.toNat = N := by omega
  rw [eN] at zrja zrjb Hja Hjb ⊢
  obtain ⟨m, hm⟩ : ∃ m, m = c - N := ⟨_, rfl⟩
  rw [← hm] at zrjb Hjb ⊢
  have HXja : Hid (∀ w1 ka kc, Below w.heap.size w w1 → RdP w1 ka pos N → ∀ W, Below w1.heap.size w1 W → Calls Try.prog 76 #[.slice (some ⟨b, off, none⟩) l.length cap, .slice ka N kc, .int .i64 (lv : Int)] W fun r w' => r = .returned (.string (joinS ss N)) ∧ Below w1.heap.size w1 w') := fun w1 ka kc h1 hp W hW => (exprs_any (by omega) zrja Hja b off cap W (hr.below (bup h1 hW)) ka kc (hp.below hW)).mono (fun _ _ h => ⟨h.1, bup hW h.2⟩)
  have hjja := joinS_size ss N
  generalize joinS ss N = ja at HXja hjja
  have hzja : ja.size ≤ 1000000000 := by omega
  clear hjja
  have HXjb : Hid (∀ w1 ka kc, Below w.heap.size w w1 → RdP w1 ka (fun k => pos (N + k)) m → ∀ W, Below w1.heap.size w1 W → Calls Try.prog 76 #[.slice (some ⟨b, off, none⟩) l.length cap, .slice ka m kc, .int .i64 (lv : Int)] W fun r w' => r = .returned (.string (joinS (fun k => ss (N + k)) m)) ∧ Below w1.heap.size w1 w') := fun w1 ka kc h1 hp W hW => (exprs_any (by omega) zrjb Hjb b off cap W (hr.below (bup h1 hW)) ka kc (hp.below hW)).mono (fun _ _ h => ⟨h.1, bup hW h.2⟩)
  have hjjb := joinS_size (fun k => ss (N + k)) m
  generalize joinS (fun k => ss (N + k)) m = jb at HXjb hjjb
  have hzjb : jb.size ≤ 1000000000 := by omega
  clear hjjb
  obtain ⟨n, hnn⟩ : ∃ n, n = l.length := ⟨_, rfl⟩
  have HN : Hid (n = l.length) := hnn
  have CK : Hid (∀ W, Below w.heap.size w W → Calls Try.prog 63 #[.slice (some ⟨b, off, none⟩) n cap, .int .i64 (i : Int)] W fun x w' => ∃ ka kc, x = .returned (.slice ka c kc) ∧ RdP w' ka pos c ∧ Below W.heap.size W w' ∧ c ≤ kc) := fun W hW => by
    rw [HN.out]; exact kids_say hP hE hd hn b off cap W (hr.below hW)
  rw [← hnn] at HXja HXjb
  clear Hja Hjb eN
  unfold at2
  rw [← hnn] at hi hn ⊢
  clear hN
  generalize (l.getD i nd0).text.length = tl at c2
  generalize (l.getD i nd0).names.length = nl at c3
  generalize (l.getD i nd0).count = ct at c4
  clear hP hE hr hkn hnn htl htr htb hnl hnr
  go_enter Try.func65, Try.ntmps65
  have d1 : (0 : Int) ≤ (N : Int) := by omega
  have d2 : (N : Int) ≤ (c : Int) := by omega
  have z0 : ¬ 9223372036854775807 < ja.size + 3 := by omega
  have z1 : ¬ 9223372036854775807 < ja.size + 3 + jb.size := by omega
  go_wp2_with (first | (go_at_call 64; (with_reducible refine Calls.mono (HI.out _) ?_); rintro r wq ⟨rfl, hw⟩; replace hw := hw.symm; subst hw) | (go_at_call 63; refine (CK.out _ ((Below.refl _ _).alloc (Nat.le_refl _) _)).mono ?_; rintro r w1 ⟨ka, kc, rfl, hp, hb, hkc⟩; simp only [World.size_alloc] at hb; obtain ⟨a0, a1, a2, a3, a4, hw⟩ := nodeVar hb; have HB1 : Hid (Below w.heap.size w w1) := hw; have HP : Hid (RdP w1 ka pos _) := hp; obtain ⟨kb, ko, rfl, p0⟩ := hp 0 (by omega); rw [Nat.add_zero] at p0; clear hb hw hp))
  have d3 : (N : Int) ≤ (kc : Int) := by omega
  have d4 : (c : Int) ≤ (kc : Int) := by omega
  have d5 : ¬ kc - N = 0 := by omega
  have d6 : ¬ kc = N := by omega
  have CA : Hid (∀ W, Below w1.heap.size w1 W → ∀ kc, Calls Try.prog 76 #[.slice (some ⟨b, off, none⟩) n cap, .slice (some ⟨kb, ko, none⟩) N kc, .int .i64 (lv : Int)] W fun r w' => r = .returned (.string ja) ∧ Below w1.heap.size w1 w') := fun W hW kc => HXja.out w1 _ kc HB1.out (fun k hk => ⟨kb, ko, rfl, rdp_at HP.out k (by omega)⟩) W hW
  have CB : Hid (∀ W, Below w1.heap.size w1 W → ∀ kc, Calls Try.prog 76 #[.slice (some ⟨b, off, none⟩) n cap, .slice (some ⟨kb, ko + N, none⟩) (c - N) kc, .int .i64 (lv : Int)] W fun r w' => r = .returned (.string jb) ∧ Below w1.heap.size w1 w') := fun W hW kc => by rw [← hm]; exact HXjb.out w1 _ kc HB1.out (fun k hk => ⟨kb, ko + N, rfl, by rw [show ko + N + k = ko + (N + k) by omega]; exact rdp_at HP.out (N + k) (by omega)⟩) W hW
  clear hm
  have HC : Hid (∀ W, Below w1.heap.size w1 W → W.cell? ⟨w.heap.size, 1, none⟩ = some (.int .i64 (N : Int))) := fun W hW => cellBw a1 hW
  go_region_held3 (fun W => W.cell? ⟨w.heap.size, 1, none⟩ = some (.int .i64 (N : Int))) (first | with_reducible exact HC.out _ H4.out | with_reducible exact HC.out _ H3.out | exact HC.out _ (by repeat (first | exact Below.refl _ _ | refine Below.drew ?_ | refine bel_drewN ?_ _))) (first | (go_at_call 76; (with_reducible refine Calls.mono (CA.out _ (by repeat (first | exact Below.refl _ _ | exact H3.out | refine Below.drew ?_ | refine bel_drewN ?_ _)) _) ?_); rintro r w3 ⟨rfl, hb⟩; have H3 : Hid _ := hb; clear hb) | (go_at_call 76; (with_reducible refine Calls.mono (CB.out _ (by repeat (first | exact Below.refl _ _ | exact H3.out | exact H4.out | refine Below.drew ?_ | refine bel_drewN ?_ _)) _) ?_); rintro r w4 ⟨rfl, hb⟩; have H4 : Hid _ := hb; clear hb))
  all_goals (go_wp2; go_returns; exact ⟨rfl, bup HB1.out H4.out⟩)
set_option maxRecDepth 100000 in
set_option maxHeartbeats 1000000 in
theorem line_for3 {l : List Nd} {d i e c lv : Nat} {lp : Bool} {pos : Nat → Nat} (hP : Parts l d i e c lp pos) (hE : endAt l (d + 1) i = some e) (hd : d + 1 ≤ 200) (hn : l.length ≤ 6000) (hlv : lv ≤ 400) (hk : knd l i = 7) {s0 : ByteArray} {ss : Nat → ByteArray} (hc : c = 3) (z0 : s0.size ≤ 1000000000) (zrjs : room ss 2 ≤ 1000000000) (Hjs : ∀ k, k < 2 → Says l 77 (at2 (pos k) lv) (ss k)) (H0 : Says l 51 (at2 (pos 2) (lv + 1)) s0) : Says l 65 (at2 i lv) (((((({ data := #[102, 111, 114, 32] } ++ strOfNums ((l.getD i nd0).names.getD 0 [])) ++ { data := #[32, 61, 32] }) ++ joinS ss 2) ++ { data := #[32, 100, 111, 10] }) ++ s0) ++ (ind lv ++ { data := #[101, 110, 100] })) := by
  intro b off cap w hr
  obtain ⟨b', off', ut, un, e1, c0, c1, c2, c3, c4, ht, hnm⟩ := hr i hP.low
  simp only [Option.some.injEq, Addr.mk.injEq, and_true] at e1
  obtain ⟨rfl, rfl⟩ := e1
  have hkn : (l.getD i nd0).kind = 7 := hk
  rw [hkn] at c0
  have hi := hP.low
  obtain ⟨ta, tc, rfl, htl, htr, htb⟩ := ht
  obtain ⟨na, nc, rfl, hnl, hnr⟩ := hnm
  have hwl := wrap_lv lv hlv
  have HI : Hid (∀ W, Calls Try.prog 64 #[.int .i64 (lv : Int)] W fun x w' => x = .returned (.string (ind lv)) ∧ w' = W) := fun W => l3indent_any lv W (by omega)
  have hiz := ind_size lv
  generalize ind lv = iv at HI hiz
  have hiz2 : iv.size ≤ 800 := by omega
  clear hiz
  have ze : ¬ 9223372036854775807 < iv.size + 3 := by omega
  subst hc
  have h1 : (l.getD i nd0).names.length = 1 := by have h := hP.names; rw [hk] at h; have e1 : least 7 = 1 := rfl; have e2 : most 7 = 1 := rfl; omega
  have h2 := hP.names.2.2 0 (by omega)
  obtain ⟨nb, no, u, rfl, nc0, ua, uc, rfl, ul, ur, ub⟩ := hnr 0 (by omega)
  rw [Nat.add_zero] at nc0
  have HV : Hid (∀ W, Below w.heap.size w W → W.cell? ⟨nb, no, none⟩ = some (.slice ua ((l.getD i nd0).names.getD 0 []).length uc) ∧ (convert 22 9 (.slice ua ((l.getD i nd0).names.getD 0 []).length uc)).run Try.prog W = .ok (.string (strOfNums ((l.getD i nd0).names.getD 0 []))) W) := fun W hW => ⟨cellBw nc0 hW, rd_str (ur.below hW) h2⟩
  have hns := strOfNums_size ((l.getD i nd0).names.getD 0 [])
  have hnz : (strOfNums ((l.getD i nd0).names.getD 0 [])).size ≤ 1000 := by omega
  clear hns
  generalize strOfNums ((l.getD i nd0).names.getD 0 []) = nm at HV hnz
  generalize ((l.getD i nd0).names.getD 0 []).length = ul at HV nc0 ul h2
  have HXjs : Hid (∀ w1 ka kc, Below w.heap.size w w1 → RdP w1 ka pos 2 → ∀ W, Below w1.heap.size w1 W → Calls Try.prog 76 #[.slice (some ⟨b, off, none⟩) l.length cap, .slice ka 2 kc, .int .i64 (lv : Int)] W fun r w' => r = .returned (.string (joinS ss 2)) ∧ Below w1.heap.size w1 w') := fun w1 ka kc h1 hp W hW => (exprs_any (by omega) zrjs Hjs b off cap W (hr.below (bup h1 hW)) ka kc (hp.below hW)).mono (fun _ _ h => ⟨h.1, bup hW h.2⟩)
  have hjjs := joinS_size ss 2
  generalize joinS ss 2 = js at HXjs hjjs
  have hzjs : js.size ≤ 1000000000 := by omega
  clear hjjs
  obtain ⟨n, hnn⟩ : ∃ n, n = l.length := ⟨_, rfl⟩
  have HN : Hid (n = l.length) := hnn
  have CK : Hid (∀ W, Below w.heap.size w W → Calls Try.prog 63 #[.slice (some ⟨b, off, none⟩) n cap, .int .i64 (i : Int)] W fun x w' => ∃ ka kc, x = .returned (.slice ka 3 kc) ∧ RdP w' ka pos 3 ∧ Below W.heap.size W w' ∧ 3 ≤ kc) := fun W hW => by
    rw [HN.out]; exact kids_say hP hE hd hn b off cap W (hr.below hW)
  have HA : Hid (∀ w1, Below w.heap.size w w1 → ∀ W, Below w1.heap.size w1 W → Calls Try.prog 51 #[.slice (some ⟨b, off, none⟩) n cap, .int .i64 (pos 2 : Int), .int .i64 ((lv + 1 : Nat) : Int)] W fun r w' => r = .returned (.string s0) ∧ Below w1.heap.size w1 w') := fun w1 h1 W hW => by
    have h := Says.at (cap := cap) H0 hr h1 hW
    rw [HN.out]; exact h
  rw [← hnn] at HXjs
  clear H0 Hjs
  unfold at2
  rw [← hnn] at hi hn ⊢
  generalize (l.getD i nd0).n = nn at c1
  generalize (l.getD i nd0).text.length = tl at c2
  generalize (l.getD i nd0).names.length = nl at c3 h1 hnl
  subst h1
  generalize (l.getD i nd0).count = ct at c4
  clear hP hE hr hkn hnn htl htr htb ul ur ub h2 nc0
  go_enter Try.func65, Try.ntmps65
  have z0 : ¬ 9223372036854775807 < 4 + nm.size := by omega
  have z1 : ¬ 9223372036854775807 < 4 + nm.size + 3 := by omega
  have z2 : ¬ 9223372036854775807 < 4 + nm.size + 3 + js.size := by omega
  have z3 : ¬ 9223372036854775807 < 4 + nm.size + 3 + js.size + 4 := by omega
  have z4 : ¬ 9223372036854775807 < 4 + nm.size + 3 + js.size + 4 + s0.size := by omega
  have z5 : ¬ 9223372036854775807 < 4 + nm.size + 3 + js.size + 4 + s0.size + (iv.size + 3) := by omega
  go_wp2_with (first | (go_at_call 64; (with_reducible refine Calls.mono (HI.out _) ?_); rintro r wq ⟨rfl, hw⟩; replace hw := hw.symm; subst hw) | (go_at_call 63; refine (CK.out _ ((Below.refl _ _).alloc (Nat.le_refl _) _)).mono ?_; rintro r w1 ⟨ka, kc, rfl, hp, hb, hkc⟩; simp only [World.size_alloc] at hb; obtain ⟨a0, a1, a2, a3, a4, hw⟩ := nodeVar hb; have HB1 : Hid (Below w.heap.size w w1) := hw; have HP : Hid (RdP w1 ka pos _) := hp; obtain ⟨kb, ko, rfl, p0⟩ := hp 0 (by omega); rw [Nat.add_zero] at p0; have v0 := (HV.out w1 hw).1; clear hb hw hp))
  have pl := rdp_at HP.out 2 (by omega)
  have d4 : (3 : Int) ≤ (kc : Int) := by omega
  have d5 : (2 : Int) ≤ (kc : Int) := by omega
  have CA : Hid (∀ W, Below w1.heap.size w1 W → Calls Try.prog 51 #[.slice (some ⟨b, off, none⟩) n cap, .int .i64 (pos 2 : Int), .int .i64 ((lv : Int) + 1)] W fun r w' => r = .returned (.string s0) ∧ Below w1.heap.size w1 w') := HA.out w1 HB1.out
  have CE : Hid (∀ W, Below w1.heap.size w1 W → ∀ kc, Calls Try.prog 76 #[.slice (some ⟨b, off, none⟩) n cap, .slice (some ⟨kb, ko, none⟩) 2 kc, .int .i64 (lv : Int)] W fun r w' => r = .returned (.string js) ∧ Below w1.heap.size w1 w') := fun W hW kc => HXjs.out w1 _ kc HB1.out (fun k hk => ⟨kb, ko, rfl, rdp_at HP.out k (by omega)⟩) W hW
  have HC : Hid (∀ W, Below w1.heap.size w1 W → W.cell? ⟨w.heap.size, 3, none⟩ = some (.slice (some ⟨nb, no, none⟩) 1 nc) ∧ W.cell? ⟨nb, no, none⟩ = some (.slice ua ul uc) ∧ W.cell? ⟨kb, ko + 2, none⟩ = some (.int .i64 (pos 2 : Int)) ∧ (convert 22 9 (.slice ua ul uc)).run Try.prog W = .ok (.string nm) W) := fun W hW => ⟨cellBw a3 hW, cellBw v0 hW, cellBw pl hW, (HV.out W (bup HB1.out hW)).2⟩
  go_region_held3 (fun W => W.cell? ⟨w.heap.size, 3, none⟩ = some (.slice (some ⟨nb, no, none⟩) 1 nc) ∧ W.cell? ⟨nb, no, none⟩ = some (.slice ua ul uc) ∧ W.cell? ⟨kb, ko + 2, none⟩ = some (.int .i64 (pos 2 : Int)) ∧ (convert 22 9 (.slice ua ul uc)).run Try.prog W = .ok (.string nm) W) (first | with_reducible exact HC.out _ H4.out | with_reducible exact HC.out _ H3.out | exact HC.out _ (by repeat (first | exact Below.refl _ _ | refine Below.drew ?_ | refine bel_drewN ?_ _))) (first | (go_at_call 76; (with_reducible refine Calls.mono (CE.out _ (by repeat (first | exact Below.refl _ _ | exact H3.out | refine Below.drew ?_ | refine bel_drewN ?_ _)) _) ?_); rintro r w3 ⟨rfl, hb⟩; have H3 : Hid _ := hb; clear hb) | (go_at_call 51; (with_reducible refine Calls.mono (CA.out _ (by repeat (first | exact Below.refl _ _ | exact H3.out | exact H4.out | refine Below.drew ?_ | refine bel_drewN ?_ _))) ?_); rintro r w4 ⟨rfl, hb⟩; have H4 : Hid _ := hb; clear hb))
  all_goals (go_wp2; go_returns; exact ⟨rfl, bup HB1.out H4.out⟩)
set_option maxRecDepth 100000 in
set_option maxHeartbeats 1000000 in
theorem line_for4 {l : List Nd} {d i e c lv : Nat} {lp : Bool} {pos : Nat → Nat} (hP : Parts l d i e c lp pos) (hE : endAt l (d + 1) i = some e) (hd : d + 1 ≤ 200) (hn : l.length ≤ 6000) (hlv : lv ≤ 400) (hk : knd l i = 7) {s0 : ByteArray} {ss : Nat → ByteArray} (hc : c = 4) (z0 : s0.size ≤ 1000000000) (zrjs : room ss 3 ≤ 1000000000) (Hjs : ∀ k, k < 3 → Says l 77 (at2 (pos k) lv) (ss k)) (H0 : Says l 51 (at2 (pos 3) (lv + 1)) s0) : Says l 65 (at2 i lv) (((((({ data := #[102, 111, 114, 32] } ++ strOfNums ((l.getD i nd0).names.getD 0 [])) ++ { data := #[32, 61, 32] }) ++ joinS ss 3) ++ { data := #[32, 100, 111, 10] }) ++ s0) ++ (ind lv ++ { data := #[101, 110, 100] })) := by
  intro b off cap w hr
  obtain ⟨b', off', ut, un, e1, c0, c1, c2, c3, c4, ht, hnm⟩ := hr i hP.low
  simp only [Option.some.injEq, Addr.mk.injEq, and_true] at e1
  obtain ⟨rfl, rfl⟩ := e1
  have hkn : (l.getD i nd0).kind = 7 := hk
  rw [hkn] at c0
  have hi := hP.low
  obtain ⟨ta, tc, rfl, htl, htr, htb⟩ := ht
  obtain ⟨na, nc, rfl, hnl, hnr⟩ := hnm
  have hwl := wrap_lv lv hlv
  have HI : Hid (∀ W, Calls Try.prog 64 #[.int .i64 (lv : Int)] W fun x w' => x = .returned (.string (ind lv)) ∧ w' = W) := fun W => l3indent_any lv W (by omega)
  have hiz := ind_size lv
  generalize ind lv = iv at HI hiz
  have hiz2 : iv.size ≤ 800 := by omega
  clear hiz
  have ze : ¬ 9223372036854775807 < iv.size + 3 := by omega
  subst hc
  have h1 : (l.getD i nd0).names.length = 1 := by have h := hP.names; rw [hk] at h; have e1 : least 7 = 1 := rfl; have e2 : most 7 = 1 := rfl; omega
  have h2 := hP.names.2.2 0 (by omega)
  obtain ⟨nb, no, u, rfl, nc0, ua, uc, rfl, ul, ur, ub⟩ := hnr 0 (by omega)
  rw [Nat.add_zero] at nc0
  have HV : Hid (∀ W, Below w.heap.size w W → W.cell? ⟨nb, no, none⟩ = some (.slice ua ((l.getD i nd0).names.getD 0 []).length uc) ∧ (convert 22 9 (.slice ua ((l.getD i nd0).names.getD 0 []).length uc)).run Try.prog W = .ok (.string (strOfNums ((l.getD i nd0).names.getD 0 []))) W) := fun W hW => ⟨cellBw nc0 hW, rd_str (ur.below hW) h2⟩
  have hns := strOfNums_size ((l.getD i nd0).names.getD 0 [])
  have hnz : (strOfNums ((l.getD i nd0).names.getD 0 [])).size ≤ 1000 := by omega
  clear hns
  generalize strOfNums ((l.getD i nd0).names.getD 0 []) = nm at HV hnz
  generalize ((l.getD i nd0).names.getD 0 []).length = ul at HV nc0 ul h2
  have HXjs : Hid (∀ w1 ka kc, Below w.heap.size w w1 → RdP w1 ka pos 3 → ∀ W, Below w1.heap.size w1 W → Calls Try.prog 76 #[.slice (some ⟨b, off, none⟩) l.length cap, .slice ka 3 kc, .int .i64 (lv : Int)] W fun r w' => r = .returned (.string (joinS ss 3)) ∧ Below w1.heap.size w1 w') := fun w1 ka kc h1 hp W hW => (exprs_any (by omega) zrjs Hjs b off cap W (hr.below (bup h1 hW)) ka kc (hp.below hW)).mono (fun _ _ h => ⟨h.1, bup hW h.2⟩)
  have hjjs := joinS_size ss 3
  generalize joinS ss 3 = js at HXjs hjjs
  have hzjs : js.size ≤ 1000000000 := by omega
  clear hjjs
  obtain ⟨n, hnn⟩ : ∃ n, n = l.length := ⟨_, rfl⟩
  have HN : Hid (n = l.length) := hnn
  have CK : Hid (∀ W, Below w.heap.size w W → Calls Try.prog 63 #[.slice (some ⟨b, off, none⟩) n cap, .int .i64 (i : Int)] W fun x w' => ∃ ka kc, x = .returned (.slice ka 4 kc) ∧ RdP w' ka pos 4 ∧ Below W.heap.size W w' ∧ 4 ≤ kc) := fun W hW => by
    rw [HN.out]; exact kids_say hP hE hd hn b off cap W (hr.below hW)
  have HA : Hid (∀ w1, Below w.heap.size w w1 → ∀ W, Below w1.heap.size w1 W → Calls Try.prog 51 #[.slice (some ⟨b, off, none⟩) n cap, .int .i64 (pos 3 : Int), .int .i64 ((lv + 1 : Nat) : Int)] W fun r w' => r = .returned (.string s0) ∧ Below w1.heap.size w1 w') := fun w1 h1 W hW => by
    have h := Says.at (cap := cap) H0 hr h1 hW
    rw [HN.out]; exact h
  rw [← hnn] at HXjs
  clear H0 Hjs
  unfold at2
  rw [← hnn] at hi hn ⊢
  generalize (l.getD i nd0).n = nn at c1
  generalize (l.getD i nd0).text.length = tl at c2
  generalize (l.getD i nd0).names.length = nl at c3 h1 hnl
  subst h1
  generalize (l.getD i nd0).count = ct at c4
  clear hP hE hr hkn hnn htl htr htb ul ur ub h2 nc0
  go_enter Try.func65, Try.ntmps65
  have z0 : ¬ 9223372036854775807 < 4 + nm.size := by omega
  have z1 : ¬ 9223372036854775807 < 4 + nm.size + 3 := by omega
  have z2 : ¬ 9223372036854775807 < 4 + nm.size + 3 + js.size := by omega
  have z3 : ¬ 9223372036854775807 < 4 + nm.size + 3 + js.size + 4 := by omega
  have z4 : ¬ 9223372036854775807 < 4 + nm.size + 3 + js.size + 4 + s0.size := by omega
  have z5 : ¬ 9223372036854775807 < 4 + nm.size + 3 + js.size + 4 + s0.size + (iv.size + 3) := by omega
  go_wp2_with (first | (go_at_call 64; (with_reducible refine Calls.mono (HI.out _) ?_); rintro r wq ⟨rfl, hw⟩; replace hw := hw.symm; subst hw) | (go_at_call 63; refine (CK.out _ ((Below.refl _ _).alloc (Nat.le_refl _) _)).mono ?_; rintro r w1 ⟨ka, kc, rfl, hp, hb, hkc⟩; simp only [World.size_alloc] at hb; obtain ⟨a0, a1, a2, a3, a4, hw⟩ := nodeVar hb; have HB1 : Hid (Below w.heap.size w w1) := hw; have HP : Hid (RdP w1 ka pos _) := hp; obtain ⟨kb, ko, rfl, p0⟩ := hp 0 (by omega); rw [Nat.add_zero] at p0; have v0 := (HV.out w1 hw).1; clear hb hw hp))
  have pl := rdp_at HP.out 3 (by omega)
  have d4 : (4 : Int) ≤ (kc : Int) := by omega
  have d5 : (3 : Int) ≤ (kc : Int) := by omega
  have CA : Hid (∀ W, Below w1.heap.size w1 W → Calls Try.prog 51 #[.slice (some ⟨b, off, none⟩) n cap, .int .i64 (pos 3 : Int), .int .i64 ((lv : Int) + 1)] W fun r w' => r = .returned (.string s0) ∧ Below w1.heap.size w1 w') := HA.out w1 HB1.out
  have CE : Hid (∀ W, Below w1.heap.size w1 W → ∀ kc, Calls Try.prog 76 #[.slice (some ⟨b, off, none⟩) n cap, .slice (some ⟨kb, ko, none⟩) 3 kc, .int .i64 (lv : Int)] W fun r w' => r = .returned (.string js) ∧ Below w1.heap.size w1 w') := fun W hW kc => HXjs.out w1 _ kc HB1.out (fun k hk => ⟨kb, ko, rfl, rdp_at HP.out k (by omega)⟩) W hW
  have HC : Hid (∀ W, Below w1.heap.size w1 W → W.cell? ⟨w.heap.size, 3, none⟩ = some (.slice (some ⟨nb, no, none⟩) 1 nc) ∧ W.cell? ⟨nb, no, none⟩ = some (.slice ua ul uc) ∧ W.cell? ⟨kb, ko + 3, none⟩ = some (.int .i64 (pos 3 : Int)) ∧ (convert 22 9 (.slice ua ul uc)).run Try.prog W = .ok (.string nm) W) := fun W hW => ⟨cellBw a3 hW, cellBw v0 hW, cellBw pl hW, (HV.out W (bup HB1.out hW)).2⟩
  go_region_held3 (fun W => W.cell? ⟨w.heap.size, 3, none⟩ = some (.slice (some ⟨nb, no, none⟩) 1 nc) ∧ W.cell? ⟨nb, no, none⟩ = some (.slice ua ul uc) ∧ W.cell? ⟨kb, ko + 3, none⟩ = some (.int .i64 (pos 3 : Int)) ∧ (convert 22 9 (.slice ua ul uc)).run Try.prog W = .ok (.string nm) W) (first | with_reducible exact HC.out _ H4.out | with_reducible exact HC.out _ H3.out | exact HC.out _ (by repeat (first | exact Below.refl _ _ | refine Below.drew ?_ | refine bel_drewN ?_ _))) (first | (go_at_call 76; (with_reducible refine Calls.mono (CE.out _ (by repeat (first | exact Below.refl _ _ | exact H3.out | refine Below.drew ?_ | refine bel_drewN ?_ _)) _) ?_); rintro r w3 ⟨rfl, hb⟩; have H3 : Hid _ := hb; clear hb) | (go_at_call 51; (with_reducible refine Calls.mono (CA.out _ (by repeat (first | exact Below.refl _ _ | exact H3.out | exact H4.out | refine Below.drew ?_ | refine bel_drewN ?_ _))) ?_); rintro r w4 ⟨rfl, hb⟩; have H4 : Hid _ := hb; clear hb))
  all_goals (go_wp2; go_returns; exact ⟨rfl, bup HB1.out H4.out⟩)
end Go.Proofs.Ytepbddfpdlapbaa.vt
