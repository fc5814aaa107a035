import Derived.Test.YtepbddfpdlapbaaMPrShowD
namespace Go.Proofs.Ytepbddfpdlapbaa.vt
open Go.RowKit Go.Proofs.Ytepbddfpdlapbaa.bts Go.Proofs.Ytepbddfpdlapbaa.nod Go.Proofs.Ytepbddfpdlapbaa.lex
set_option maxRecDepth 100000 in
set_option maxHeartbeats 12000000 in
theorem show_neg_y {l : List Nd} {d i e c lv : Nat} {lp : Bool} {pos : Nat → Nat} (hP : Parts l d i e c lp pos) (hE : endAt l (d + 1) i = some e) (hd : d + 1 ≤ 200) (hn : l.length ≤ 6000) (_hlv : lv ≤ 400) (hk : knd l i = 25) {s0 : ByteArray} (z0 : s0.size ≤ 1000000000) (hb9 : bindK (knd l (pos 0)) (l.getD (pos 0) nd0).n < 9) (H0 : Says l 77 (at2 (pos 0) lv) s0) : Says l 77 (at2 i lv) ({ data := #[45] } ++ paren s0 true) := by
  intro b off cap w hr
  obtain ⟨b', off', ut, un, e1, c0, c1, c2, c3, c4, ht, hnm⟩ := hr i hP.low
  simp only [Option.some.injEq, Addr.mk.injEq, and_true] at e1
  obtain ⟨rfl, rfl⟩ := e1
  have hkn : (l.getD i nd0).kind = 25 := hk
  rw [hkn] at c0
  have hi := hP.low
  obtain ⟨ta, tc, rfl, htl, htr, htb⟩ := ht
  obtain ⟨na, nc, rfl, hnl, hnr⟩ := hnm
  obtain ⟨rfl, x0⟩ := hP.k24 (by omega)
  have hp0 : pos 0 < l.length := by have := endAt_bd (hP.ends 0 (by omega)); omega
  obtain ⟨ta, ua, ma, va, a0, a1, a2, a3, a4, _, _, _, _⟩ := nodeAt hr hp0
  have HDa : Hid (∀ W, Below w.heap.size w W → W.cell? ⟨b, off + pos 0 * 5, none⟩ = some (.int .i64 (knd l (pos 0))) ∧ W.cell? ⟨b, off + pos 0 * 5 + 1, none⟩ = some (.int .i64 (l.getD (pos 0) nd0).n) ∧ W.cell? ⟨b, off + pos 0 * 5 + 2, none⟩ = some (.slice ta (l.getD (pos 0) nd0).text.length ua) ∧ W.cell? ⟨b, off + pos 0 * 5 + 3, none⟩ = some (.slice ma (l.getD (pos 0) nd0).names.length va) ∧ W.cell? ⟨b, off + pos 0 * 5 + 4, none⟩ = some (.int .i64 (l.getD (pos 0) nd0).count)) := fun W hW => ⟨cellBw a0 hW, cellBw a1 hW, cellBw a2 hW, cellBw a3 hW, cellBw a4 hW⟩
  have HBa : Hid (∀ W ut un ct, Calls Try.prog 88 #[.agg #[.int .i64 (knd l (pos 0)), .int .i64 (l.getD (pos 0) nd0).n, ut, un, .int .i64 ct]] W fun x w' => x = .returned (.int .i64 (bindK (knd l (pos 0)) (l.getD (pos 0) nd0).n)) ∧ Below W.heap.size W w') := fun W ut un ct => l3bind_any _ _ _ _ _ W (fun h => num_of (hP.ends 0 (by omega)) (hP.good 0 (by omega)) (by omega) h)
  obtain ⟨bka, hbka⟩ : ∃ x, x = bindK (knd l (pos 0)) (l.getD (pos 0) nd0).n := ⟨_, rfl⟩
  rw [← hbka] at HBa
  rw [← hbka] at hb9
  clear hbka
  generalize (l.getD (pos 0) nd0).n = na at HDa HBa
  generalize knd l (pos 0) = ka at HDa HBa
  generalize (l.getD (pos 0) nd0).text.length = xa at HDa
  generalize (l.getD (pos 0) nd0).names.length = ya at HDa
  generalize (l.getD (pos 0) nd0).count = za at HDa
  obtain ⟨n, hnn⟩ : ∃ n, n = l.length := ⟨_, rfl⟩
  have HN : Hid (n = l.length) := hnn
  have CK : Hid (∀ W, Below w.heap.size w W → Calls Try.prog 63 #[.slice (some ⟨b, off, none⟩) n cap, .int .i64 (i : Int)] W fun x w' => ∃ ka kc, x = .returned (.slice ka 1 kc) ∧ RdP w' ka pos 1 ∧ Below W.heap.size W w' ∧ 1 ≤ kc) := fun W hW => by
    rw [HN.out]; exact kids_say hP hE hd hn b off cap W (hr.below hW)
  have HA : Hid (∀ w1, Below w.heap.size w w1 → ∀ W, Below w1.heap.size w1 W → Calls Try.prog 77 #[.slice (some ⟨b, off, none⟩) n cap, .int .i64 (pos 0 : Int), .int .i64 (lv : Int)] W fun r w' => r = .returned (.string s0) ∧ Below w1.heap.size w1 w') := fun w1 h1 W hW => by
    have h := Says.at (cap := cap) H0 hr h1 hW
    rw [HN.out]; exact h
  have j0 : ((pos 0 : Nat) : Int) < (n : Int) := by rw [hnn]; omega
  clear a0 a1 a2 a3 a4 x0 hp0 H0
  unfold at2
  rw [← hnn] at hi hn ⊢
  generalize (l.getD i nd0).n = nn at c1
  generalize (l.getD i nd0).text.length = tl at c2
  generalize (l.getD i nd0).names.length = nl at c3
  generalize (l.getD i nd0).count = ct at c4
  clear hP hE hr hkn hnn htl htr htb hnl hnr
  go_enter Try.func77, Try.ntmps77
  have HPa : Hid (∀ W, Calls Try.prog 87 #[.string s0, .bool true] W fun x w' => x = .returned (.string (paren s0 true)) ∧ w' = W) := fun W => l3paren_any s0 true W z0
  have hpz := paren_size s0 true
  generalize paren s0 true = ps at HPa hpz
  have z1 : ¬ 9223372036854775807 < 1 + ps.size := by omega
  have dq : decide (bka < 9) = true := by simp; omega
  go_wp2_with (go_at_call 63; refine (CK.out _ ((Below.refl _ _).alloc (Nat.le_refl _) _)).mono ?_; rintro r w1 ⟨ka, kc, rfl, hp, hb, hkc⟩; simp only [World.size_alloc] at hb; obtain ⟨a0, a1, a2, a3, a4, hw⟩ := nodeVar hb; have HB1 : Hid (Below w.heap.size w w1) := hw; have HP : Hid (RdP w1 ka pos _) := hp; obtain ⟨kb, ko, rfl, p0⟩ := hp 0 (by omega); rw [Nat.add_zero] at p0; obtain ⟨qa0, qa1, qa2, qa3, qa4⟩ := HDa.out w1 hw; clear hb hw hp)
  have CA : Hid _ := HA.out w1 HB1.out
  have CB : Hid (∀ W, Below w1.heap.size w1 W → Calls Try.prog 88 #[.agg #[.int .i64 ka, .int .i64 na, .slice ta xa ua, .slice ma ya va, .int .i64 za]] W fun x w' => x = .returned (.int .i64 bka) ∧ Below w1.heap.size w1 w') := fun W hW => (HBa.out W _ _ _).mono (fun _ _ h => ⟨h.1, bup hW h.2⟩)
  have HC : Hid (∀ W, Below w1.heap.size w1 W → W.cell? ⟨kb, ko, none⟩ = some (.int .i64 (pos 0 : Int)) ∧ W.cell? ⟨b, off + pos 0 * 5, none⟩ = some (.int .i64 ka) ∧ W.cell? ⟨b, off + pos 0 * 5 + 1, none⟩ = some (.int .i64 na) ∧ W.cell? ⟨b, off + pos 0 * 5 + 2, none⟩ = some (.slice ta xa ua) ∧ W.cell? ⟨b, off + pos 0 * 5 + 3, none⟩ = some (.slice ma ya va) ∧ W.cell? ⟨b, off + pos 0 * 5 + 4, none⟩ = some (.int .i64 za)) := fun W hW => ⟨cellBw p0 hW, cellBw qa0 hW, cellBw qa1 hW, cellBw qa2 hW, cellBw qa3 hW, cellBw qa4 hW⟩
  refine wp_region_noPanic ?_
  refine wp_region_held_drew (S := (fun W => W.cell? ⟨kb, ko, none⟩ = some (.int .i64 (pos 0 : Int)) ∧ W.cell? ⟨b, off + pos 0 * 5, none⟩ = some (.int .i64 ka) ∧ W.cell? ⟨b, off + pos 0 * 5 + 1, none⟩ = some (.int .i64 na) ∧ W.cell? ⟨b, off + pos 0 * 5 + 2, none⟩ = some (.slice ta xa ua) ∧ W.cell? ⟨b, off + pos 0 * 5 + 3, none⟩ = some (.slice ma ya va) ∧ W.cell? ⟨b, off + pos 0 * 5 + 4, none⟩ = some (.int .i64 za))) (by kernel_rfl) ?_ (fun hHeld => ?_)
  (exact HC.out _ (by repeat (first | exact Below.refl _ _ | refine Below.drew ?_ | refine bel_drewN ?_ _)))
  refine wpAnyH_take (i := 0) (v := ?_) rfl (by kernel_rfl) (by kernel_rfl) (by kernel_rfl) (fun _ _ _ h => h) (Or.inl ⟨by rfl, ?_⟩) (by assumption) ?_
  rotate_left
  (intro W hSw; obtain ⟨g0, g1, g2, g3, g4, g5⟩ := hSw; go_simp; try with_reducible rfl)
  try simp only [Act.put, List.setIfInBounds_toArray]
  refine wpAnyH_take (i := 1) (v := ?_) rfl (by kernel_rfl) (by kernel_rfl) (by kernel_rfl) (fun _ _ _ h => h) (Or.inl ⟨by rfl, ?_⟩) (by assumption) ?_
  rotate_left
  (intro W hSw; obtain ⟨g0, g1, g2, g3, g4, g5⟩ := hSw; go_simp; try with_reducible rfl)
  try simp only [Act.put]
  refine wpAnyH_take (i := 2) (v := ?_) rfl (by kernel_rfl) (by kernel_rfl) (by kernel_rfl) (fun _ _ _ h => h) (Or.inl ⟨by rfl, ?_⟩) (by assumption) ?_
  rotate_left
  (intro W hSw; obtain ⟨g0, g1, g2, g3, g4, g5⟩ := hSw; go_simp; try with_reducible rfl)
  try simp only [Act.put]
  refine wpAnyH_take (i := 3) (v := ?_) rfl (by kernel_rfl) (by kernel_rfl) (by kernel_rfl) (fun _ _ _ h => h) (Or.inl ⟨by rfl, ?_⟩) (by assumption) ?_
  rotate_left
  (intro W hSw; obtain ⟨g0, g1, g2, g3, g4, g5⟩ := hSw; go_simp; try with_reducible rfl)
  try simp only [Act.put]
  refine wpAnyH_take (i := 4) (v := ?_) rfl (by kernel_rfl) (by kernel_rfl) (by kernel_rfl) (fun _ _ _ h => h) (Or.inl ⟨by rfl, ?_⟩) (by assumption) ?_
  rotate_left
  (intro W hSw; obtain ⟨g0, g1, g2, g3, g4, g5⟩ := hSw; go_simp; try with_reducible rfl)
  try simp only [Act.put]
  refine wpAnyH_take (i := 6) (v := ?_) rfl (by kernel_rfl) (by kernel_rfl) (by kernel_rfl) (fun _ _ _ h => h) (Or.inl ⟨by rfl, ?_⟩) (by assumption) ?_
  rotate_left
  (intro W hSw; obtain ⟨g0, g1, g2, g3, g4, g5⟩ := hSw; go_simp; try with_reducible rfl)
  try simp only [Act.put]
  refine wpAnyH_take (i := 7) (v := ?_) rfl (by kernel_rfl) (by kernel_rfl) (by kernel_rfl) (fun _ _ _ h => h) (Or.inl ⟨by rfl, ?_⟩) (by assumption) ?_
  rotate_left
  (intro W hSw; obtain ⟨g0, g1, g2, g3, g4, g5⟩ := hSw; go_simp; try with_reducible rfl)
  try simp only [Act.put]
  refine wpAnyH_take (i := 8) (v := ?_) rfl (by kernel_rfl) (by kernel_rfl) (by kernel_rfl) (fun _ _ _ h => h) (Or.inl ⟨by rfl, ?_⟩) (by assumption) ?_
  rotate_left
  (intro W hSw; obtain ⟨g0, g1, g2, g3, g4, g5⟩ := hSw; go_simp; try with_reducible rfl)
  try simp only [Act.put]
  refine wpAnyH_take (i := 9) (v := ?_) rfl (by kernel_rfl) (by kernel_rfl) (by kernel_rfl) (fun _ _ _ h => h) (Or.inl ⟨by rfl, ?_⟩) (by assumption) ?_
  rotate_left
  (intro W hSw; obtain ⟨g0, g1, g2, g3, g4, g5⟩ := hSw; go_simp; try with_reducible rfl)
  try simp only [Act.put]
  refine wpAnyH_take (i := 10) (v := ?_) rfl (by kernel_rfl) (by kernel_rfl) (by kernel_rfl) (fun _ _ _ h => h) (Or.inl ⟨by rfl, ?_⟩) (by assumption) ?_
  rotate_left
  (intro W hSw; obtain ⟨g0, g1, g2, g3, g4, g5⟩ := hSw; go_simp; try with_reducible rfl)
  try simp only [Act.put]
  refine wpAnyH_take (i := 11) (v := ?_) rfl (by kernel_rfl) (by kernel_rfl) (by kernel_rfl) (fun _ _ _ h => h) (Or.inl ⟨by rfl, ?_⟩) (by assumption) ?_
  rotate_left
  (intro W hSw; obtain ⟨g0, g1, g2, g3, g4, g5⟩ := hSw; go_simp; try with_reducible rfl)
  try simp only [Act.put]
  refine wpAnyH_ready (rs := [5]) (by kernel_rfl) (by simp) ?_
  refine (AllReadyH.cons rfl (fun K hK => ?_) AllReadyH.nil)
  go_simp
  (go_at_call 77; (with_reducible refine Calls.mono (CA.out _ (by repeat (first | exact Below.refl _ _ | exact H3.out | exact H4.out | refine Below.drew ?_ | refine bel_drewN ?_ _))) ?_); rintro r w3 ⟨rfl, hb⟩; have H3 : Hid _ := hb; clear hb)
  refine hK.out _ _ (HC.out _ H3.out) (fun hHeld2 => ?_)
  clear hK K hHeld
  have hHeld := hHeld2
  clear hHeld2
  try simp only [Act.put, List.setIfInBounds_toArray, List.set_cons_zero, List.set_cons_succ]
  refine wpAnyH_ready (rs := [12]) (by kernel_rfl) (by simp) ?_
  refine (AllReadyH.cons rfl (fun K hK => ?_) AllReadyH.nil)
  go_simp
  (go_at_call 88; (with_reducible refine Calls.mono (CB.out _ (by repeat (first | exact Below.refl _ _ | exact H3.out | exact H4.out | refine Below.drew ?_ | refine bel_drewN ?_ _))) ?_); rintro r w4 ⟨rfl, hb⟩; have H4 : Hid _ := hb; clear hb)
  refine hK.out _ _ (HC.out _ H4.out) (fun hHeld2 => ?_)
  clear hK K hHeld
  have hHeld := hHeld2
  clear hHeld2
  try simp only [Act.put, List.setIfInBounds_toArray, List.set_cons_zero, List.set_cons_succ]
  refine wpAnyH_take (i := 13) (v := ?_) rfl (by kernel_rfl) (by kernel_rfl) (by kernel_rfl) (fun _ _ _ h => h) (Or.inl ⟨by rfl, ?_⟩) (by assumption) ?_
  rotate_left
  (intro W hSw; obtain ⟨g0, g1, g2, g3, g4, g5⟩ := hSw; go_simp; try with_reducible rfl)
  try simp only [Act.put, List.setIfInBounds_toArray]
  refine wpAnyH_take (i := 14) (v := ?_) rfl (by kernel_rfl) (by kernel_rfl) (by kernel_rfl) (fun _ _ _ h => h) (Or.inl ⟨by rfl, ?_⟩) (by assumption) ?_
  rotate_left
  (intro W hSw; obtain ⟨g0, g1, g2, g3, g4, g5⟩ := hSw; go_simp; try with_reducible rfl)
  try simp only [Act.put]
  refine wpAnyH_take (i := 15) (v := _) rfl (by kernel_rfl) (by kernel_rfl) (by kernel_rfl) (fun _ _ _ h => h) (Or.inr ⟨by kernel_rfl, rfl⟩) (by assumption) ?_
  try simp only [Act.put]
  refine wpAnyH_take (i := 16) (v := _) rfl (by kernel_rfl) (by kernel_rfl) (by kernel_rfl) (fun _ _ _ h => h) (Or.inr ⟨by kernel_rfl, rfl⟩) (by assumption) ?_
  try simp only [Act.put]
  refine wpAnyH_take (i := 17) (v := _) rfl (by kernel_rfl) (by kernel_rfl) (by kernel_rfl) (fun _ _ _ h => h) (Or.inr ⟨by kernel_rfl, rfl⟩) (by assumption) ?_
  try simp only [Act.put]
  refine wpAnyH_take (i := 18) (v := _) rfl (by kernel_rfl) (by kernel_rfl) (by kernel_rfl) (fun _ _ _ h => h) (Or.inr ⟨by kernel_rfl, rfl⟩) (by assumption) ?_
  try simp only [Act.put]
  refine wpAnyH_take (i := 19) (v := _) rfl (by kernel_rfl) (by kernel_rfl) (by kernel_rfl) (fun _ _ _ h => h) (Or.inr ⟨by kernel_rfl, rfl⟩) (by assumption) ?_
  try simp only [Act.put]
  refine wpAnyH_take (i := 20) (v := _) rfl (by kernel_rfl) (by kernel_rfl) (by kernel_rfl) (fun _ _ _ h => h) (Or.inr ⟨by kernel_rfl, rfl⟩) (by assumption) ?_
  try simp only [Act.put]
  refine wpAnyH_take (i := 21) (v := _) rfl (by kernel_rfl) (by kernel_rfl) (by kernel_rfl) (fun _ _ _ h => h) (Or.inr ⟨by kernel_rfl, rfl⟩) (by assumption) ?_
  try simp only [Act.put]
  refine wpAnyH_take (i := 22) (v := _) rfl (by kernel_rfl) (by kernel_rfl) (by kernel_rfl) (fun _ _ _ h => h) (Or.inr ⟨by kernel_rfl, rfl⟩) (by assumption) ?_
  try simp only [Act.put]
  refine wpAnyH_take (i := 23) (v := ?_) rfl (by kernel_rfl) (by kernel_rfl) (by kernel_rfl) (fun _ _ _ h => h) (Or.inl ⟨by rfl, ?_⟩) (by assumption) ?_
  rotate_left
  (intro W hSw; obtain ⟨g0, g1, g2, g3, g4, g5⟩ := hSw; go_simp; try with_reducible rfl)
  try simp only [Act.put]
  refine wpAnyH_ready (rs := [24]) (by kernel_rfl) (by simp) ?_
  refine (AllReadyH.cons rfl (fun K hK => ?_) AllReadyH.nil)
  go_simp
  (go_at_call 87; (try rw [dq]); (with_reducible refine Calls.mono (HPa.out _) ?_); rintro r wq ⟨rfl, hw⟩; replace hw := hw.symm; subst hw)
  refine hK.out _ _ (HC.out _ H4.out) (fun hHeld2 => ?_)
  clear hK K hHeld
  have hHeld := hHeld2
  clear hHeld2
  try simp only [Act.put, List.setIfInBounds_toArray, List.set_cons_zero, List.set_cons_succ]
  refine wpAnyH_ready (rs := [25]) (by kernel_rfl) (by simp) ?_
  refine (AllReadyH.cons rfl (fun K hK => ?_) AllReadyH.nil)
  go_simp
  refine hK.out _ _ (HC.out _ H4.out) (fun hHeld2 => ?_)
  clear hK K hHeld
  have hHeld := hHeld2
  clear hHeld2
  try simp only [Act.put, List.setIfInBounds_toArray, List.set_cons_zero, List.set_cons_succ]
  refine wpAnyH_ready (rs := [26]) (by kernel_rfl) (by simp) ?_
  refine (AllReadyH.cons rfl (fun K hK => ?_) AllReadyH.nil)
  go_simp
  refine hK.out _ _ (HC.out _ H4.out) (fun hHeld2 => ?_)
  clear hK K hHeld
  have hHeld := hHeld2
  clear hHeld2
  try simp only [Act.put, List.setIfInBounds_toArray, List.set_cons_zero, List.set_cons_succ]
  refine wpAnyH_done (by kernel_rfl) ?_ _
  refine NoPanic.normal ?_
  go_wp2
  go_returns
  exact ⟨rfl, bup HB1.out H4.out⟩
set_option maxRecDepth 100000 in
set_option maxHeartbeats 1000000 in
theorem show_neg_k {l : List Nd} {d i e c lv : Nat} {lp : Bool} {pos : Nat → Nat} (hP : Parts l d i e c lp pos) (hE : endAt l (d + 1) i = some e) (hd : d + 1 ≤ 200) (hn : l.length ≤ 6000) (_hlv : lv ≤ 400) (hk : knd l i = 25) {s0 : ByteArray} (z0 : s0.size ≤ 1000000000) (hb9 : ¬ bindK (knd l (pos 0)) (l.getD (pos 0) nd0).n < 9) (hk25 : knd l (pos 0) = 25) (H0 : Says l 77 (at2 (pos 0) lv) s0) : Says l 77 (at2 i lv) ({ data := #[45] } ++ paren s0 true) := by
  intro b off cap w hr
  obtain ⟨b', off', ut, un, e1, c0, c1, c2, c3, c4, ht, hnm⟩ := hr i hP.low
  simp only [Option.some.injEq, Addr.mk.injEq, and_true] at e1
  obtain ⟨rfl, rfl⟩ := e1
  have hkn : (l.getD i nd0).kind = 25 := hk
  rw [hkn] at c0
  have hi := hP.low
  obtain ⟨ta, tc, rfl, htl, htr, htb⟩ := ht
  obtain ⟨na, nc, rfl, hnl, hnr⟩ := hnm
  obtain ⟨rfl, x0⟩ := hP.k24 (by omega)
  have hp0 : pos 0 < l.length := by have := endAt_bd (hP.ends 0 (by omega)); omega
  obtain ⟨ta, ua, ma, va, a0, a1, a2, a3, a4, _, _, _, _⟩ := nodeAt hr hp0
  have HDa : Hid (∀ W, Below w.heap.size w W → W.cell? ⟨b, off + pos 0 * 5, none⟩ = some (.int .i64 (knd l (pos 0))) ∧ W.cell? ⟨b, off + pos 0 * 5 + 1, none⟩ = some (.int .i64 (l.getD (pos 0) nd0).n) ∧ W.cell? ⟨b, off + pos 0 * 5 + 2, none⟩ = some (.slice ta (l.getD (pos 0) nd0).text.length ua) ∧ W.cell? ⟨b, off + pos 0 * 5 + 3, none⟩ = some (.slice ma (l.getD (pos 0) nd0).names.length va) ∧ W.cell? ⟨b, off + pos 0 * 5 + 4, none⟩ = some (.int .i64 (l.getD (pos 0) nd0).count)) := fun W hW => ⟨cellBw a0 hW, cellBw a1 hW, cellBw a2 hW, cellBw a3 hW, cellBw a4 hW⟩
  have HBa : Hid (∀ W ut un ct, Calls Try.prog 88 #[.agg #[.int .i64 (knd l (pos 0)), .int .i64 (l.getD (pos 0) nd0).n, ut, un, .int .i64 ct]] W fun x w' => x = .returned (.int .i64 (bindK (knd l (pos 0)) (l.getD (pos 0) nd0).n)) ∧ Below W.heap.size W w') := fun W ut un ct => l3bind_any _ _ _ _ _ W (fun h => num_of (hP.ends 0 (by omega)) (hP.good 0 (by omega)) (by omega) h)
  obtain ⟨bka, hbka⟩ : ∃ x, x = bindK (knd l (pos 0)) (l.getD (pos 0) nd0).n := ⟨_, rfl⟩
  rw [← hbka] at HBa
  rw [← hbka] at hb9
  clear hbka
  generalize (l.getD (pos 0) nd0).n = na at HDa HBa
  generalize knd l (pos 0) = ka at HDa HBa hk25
  generalize (l.getD (pos 0) nd0).text.length = xa at HDa
  generalize (l.getD (pos 0) nd0).names.length = ya at HDa
  generalize (l.getD (pos 0) nd0).count = za at HDa
  subst hk25
  obtain ⟨n, hnn⟩ : ∃ n, n = l.length := ⟨_, rfl⟩
  have HN : Hid (n = l.length) := hnn
  have CK : Hid (∀ W, Below w.heap.size w W → Calls Try.prog 63 #[.slice (some ⟨b, off, none⟩) n cap, .int .i64 (i : Int)] W fun x w' => ∃ ka kc, x = .returned (.slice ka 1 kc) ∧ RdP w' ka pos 1 ∧ Below W.heap.size W w' ∧ 1 ≤ kc) := fun W hW => by
    rw [HN.out]; exact kids_say hP hE hd hn b off cap W (hr.below hW)
  have HA : Hid (∀ w1, Below w.heap.size w w1 → ∀ W, Below w1.heap.size w1 W → Calls Try.prog 77 #[.slice (some ⟨b, off, none⟩) n cap, .int .i64 (pos 0 : Int), .int .i64 (lv : Int)] W fun r w' => r = .returned (.string s0) ∧ Below w1.heap.size w1 w') := fun w1 h1 W hW => by
    have h := Says.at (cap := cap) H0 hr h1 hW
    rw [HN.out]; exact h
  have j0 : ((pos 0 : Nat) : Int) < (n : Int) := by rw [hnn]; omega
  clear a0 a1 a2 a3 a4 x0 hp0 H0
  unfold at2
  rw [← hnn] at hi hn ⊢
  generalize (l.getD i nd0).n = nn at c1
  generalize (l.getD i nd0).text.length = tl at c2
  generalize (l.getD i nd0).names.length = nl at c3
  generalize (l.getD i nd0).count = ct at c4
  clear hP hE hr hkn hnn htl htr htb hnl hnr
  go_enter Try.func77, Try.ntmps77
  have HPa : Hid (∀ W, Calls Try.prog 87 #[.string s0, .bool true] W fun x w' => x = .returned (.string (paren s0 true)) ∧ w' = W) := fun W => l3paren_any s0 true W z0
  have hpz := paren_size s0 true
  generalize paren s0 true = ps at HPa hpz
  have z1 : ¬ 9223372036854775807 < 1 + ps.size := by omega
  have dq : decide (bka < 9) = false := by simp; omega
  go_wp2_with (go_at_call 63; refine (CK.out _ ((Below.refl _ _).alloc (Nat.le_refl _) _)).mono ?_; rintro r w1 ⟨ka, kc, rfl, hp, hb, hkc⟩; simp only [World.size_alloc] at hb; obtain ⟨a0, a1, a2, a3, a4, hw⟩ := nodeVar hb; have HB1 : Hid (Below w.heap.size w w1) := hw; have HP : Hid (RdP w1 ka pos _) := hp; obtain ⟨kb, ko, rfl, p0⟩ := hp 0 (by omega); rw [Nat.add_zero] at p0; obtain ⟨qa0, qa1, qa2, qa3, qa4⟩ := HDa.out w1 hw; clear hb hw hp)
  have CA : Hid _ := HA.out w1 HB1.out
  have CB : Hid (∀ W, Below w1.heap.size w1 W → Calls Try.prog 88 #[.agg #[.int .i64 25, .int .i64 na, .slice ta xa ua, .slice ma ya va, .int .i64 za]] W fun x w' => x = .returned (.int .i64 bka) ∧ Below w1.heap.size w1 w') := fun W hW => (HBa.out W _ _ _).mono (fun _ _ h => ⟨h.1, bup hW h.2⟩)
  have HC : Hid (∀ W, Below w1.heap.size w1 W → W.cell? ⟨kb, ko, none⟩ = some (.int .i64 (pos 0 : Int)) ∧ W.cell? ⟨b, off + pos 0 * 5, none⟩ = some (.int .i64 25) ∧ W.cell? ⟨b, off + pos 0 * 5 + 1, none⟩ = some (.int .i64 na) ∧ W.cell? ⟨b, off + pos 0 * 5 + 2, none⟩ = some (.slice ta xa ua) ∧ W.cell? ⟨b, off + pos 0 * 5 + 3, none⟩ = some (.slice ma ya va) ∧ W.cell? ⟨b, off + pos 0 * 5 + 4, none⟩ = some (.int .i64 za)) := fun W hW => ⟨cellBw p0 hW, cellBw qa0 hW, cellBw qa1 hW, cellBw qa2 hW, cellBw qa3 hW, cellBw qa4 hW⟩
  go_region_held3 (fun W => W.cell? ⟨kb, ko, none⟩ = some (.int .i64 (pos 0 : Int)) ∧ W.cell? ⟨b, off + pos 0 * 5, none⟩ = some (.int .i64 25) ∧ W.cell? ⟨b, off + pos 0 * 5 + 1, none⟩ = some (.int .i64 na) ∧ W.cell? ⟨b, off + pos 0 * 5 + 2, none⟩ = some (.slice ta xa ua) ∧ W.cell? ⟨b, off + pos 0 * 5 + 3, none⟩ = some (.slice ma ya va) ∧ W.cell? ⟨b, off + pos 0 * 5 + 4, none⟩ = some (.int .i64 za)) (first | with_reducible exact HC.out _ H4.out | with_reducible exact HC.out _ H3.out | exact HC.out _ (by repeat (first | exact Below.refl _ _ | refine Below.drew ?_ | refine bel_drewN ?_ _))) (first | (go_at_call 77; (with_reducible refine Calls.mono (CA.out _ (by repeat (first | exact Below.refl _ _ | exact H3.out | exact H4.out | refine Below.drew ?_ | refine bel_drewN ?_ _))) ?_); rintro r w3 ⟨rfl, hb⟩; have H3 : Hid _ := hb; clear hb) | (go_at_call 88; (with_reducible refine Calls.mono (CB.out _ (by repeat (first | exact Below.refl _ _ | exact H3.out | exact H4.out | refine Below.drew ?_ | refine bel_drewN ?_ _))) ?_); rintro r w4 ⟨rfl, hb⟩; have H4 : Hid _ := hb; clear hb) | (go_at_call 87; (try rw [dq]); (with_reducible refine Calls.mono (HPa.out _) ?_); rintro r wq ⟨rfl, hw⟩; replace hw := hw.symm; subst hw))
  all_goals (go_wp2; go_returns; exact ⟨rfl, bup HB1.out H4.out⟩)
set_option maxRecDepth 100000 in
set_option maxHeartbeats 1000000 in
theorem show_neg_n {l : List Nd} {d i e c lv : Nat} {lp : Bool} {pos : Nat → Nat} (hP : Parts l d i e c lp pos) (hE : endAt l (d + 1) i = some e) (hd : d + 1 ≤ 200) (hn : l.length ≤ 6000) (_hlv : lv ≤ 400) (hk : knd l i = 25) {s0 : ByteArray} (z0 : s0.size ≤ 1000000000) (hb9 : ¬ bindK (knd l (pos 0)) (l.getD (pos 0) nd0).n < 9) (hk25 : ¬ knd l (pos 0) = 25) (H0 : Says l 77 (at2 (pos 0) lv) s0) : Says l 77 (at2 i lv) ({ data := #[45] } ++ paren s0 false) := by
  intro b off cap w hr
  obtain ⟨b', off', ut, un, e1, c0, c1, c2, c3, c4, ht, hnm⟩ := hr i hP.low
  simp only [Option.some.injEq, Addr.mk.injEq, and_true] at e1
  obtain ⟨rfl, rfl⟩ := e1
  have hkn : (l.getD i nd0).kind = 25 := hk
  rw [hkn] at c0
  have hi := hP.low
  obtain ⟨ta, tc, rfl, htl, htr, htb⟩ := ht
  obtain ⟨na, nc, rfl, hnl, hnr⟩ := hnm
  obtain ⟨rfl, x0⟩ := hP.k24 (by omega)
  have hp0 : pos 0 < l.length := by have := endAt_bd (hP.ends 0 (by omega)); omega
  obtain ⟨ta, ua, ma, va, a0, a1, a2, a3, a4, _, _, _, _⟩ := nodeAt hr hp0
  have HDa : Hid (∀ W, Below w.heap.size w W → W.cell? ⟨b, off + pos 0 * 5, none⟩ = some (.int .i64 (knd l (pos 0))) ∧ W.cell? ⟨b, off + pos 0 * 5 + 1, none⟩ = some (.int .i64 (l.getD (pos 0) nd0).n) ∧ W.cell? ⟨b, off + pos 0 * 5 + 2, none⟩ = some (.slice ta (l.getD (pos 0) nd0).text.length ua) ∧ W.cell? ⟨b, off + pos 0 * 5 + 3, none⟩ = some (.slice ma (l.getD (pos 0) nd0).names.length va) ∧ W.cell? ⟨b, off + pos 0 * 5 + 4, none⟩ = some (.int .i64 (l.getD (pos 0) nd0).count)) := fun W hW => ⟨cellBw a0 hW, cellBw a1 hW, cellBw a2 hW, cellBw a3 hW, cellBw a4 hW⟩
  have HBa : Hid (∀ W ut un ct, Calls Try.prog 88 #[.agg #[.int .i64 (knd l (pos 0)), .int .i64 (l.getD (pos 0) nd0).n, ut, un, .int .i64 ct]] W fun x w' => x = .returned (.int .i64 (bindK (knd l (pos 0)) (l.getD (pos 0) nd0).n)) ∧ Below W.heap.size W w') := fun W ut un ct => l3bind_any _ _ _ _ _ W (fun h => num_of (hP.ends 0 (by omega)) (hP.good 0 (by omega)) (by omega) h)
  obtain ⟨bka, hbka⟩ : ∃ x, x = bindK (knd l (pos 0)) (l.getD (pos 0) nd0).n := ⟨_, rfl⟩
  rw [← hbka] at HBa
  rw [← hbka] at hb9
  clear hbka
  generalize (l.getD (pos 0) nd0).n = na at HDa HBa
  generalize knd l (pos 0) = ka at HDa HBa hk25
  generalize (l.getD (pos 0) nd0).text.length = xa at HDa
  generalize (l.getD (pos 0) nd0).names.length = ya at HDa
  generalize (l.getD (pos 0) nd0).count = za at HDa
  obtain ⟨n, hnn⟩ : ∃ n, n = l.length := ⟨_, rfl⟩
  have HN : Hid (n = l.length) := hnn
  have CK : Hid (∀ W, Below w.heap.size w W → Calls Try.prog 63 #[.slice (some ⟨b, off, none⟩) n cap, .int .i64 (i : Int)] W fun x w' => ∃ ka kc, x = .returned (.slice ka 1 kc) ∧ RdP w' ka pos 1 ∧ Below W.heap.size W w' ∧ 1 ≤ kc) := fun W hW => by
    rw [HN.out]; exact kids_say hP hE hd hn b off cap W (hr.below hW)
  have HA : Hid (∀ w1, Below w.heap.size w w1 → ∀ W, Below w1.heap.size w1 W → Calls Try.prog 77 #[.slice (some ⟨b, off, none⟩) n cap, .int .i64 (pos 0 : Int), .int .i64 (lv : Int)] W fun r w' => r = .returned (.string s0) ∧ Below w1.heap.size w1 w') := fun w1 h1 W hW => by
    have h := Says.at (cap := cap) H0 hr h1 hW
    rw [HN.out]; exact h
  have j0 : ((pos 0 : Nat) : Int) < (n : Int) := by rw [hnn]; omega
  clear a0 a1 a2 a3 a4 x0 hp0 H0
  unfold at2
  rw [← hnn] at hi hn ⊢
  generalize (l.getD i nd0).n = nn at c1
  generalize (l.getD i nd0).text.length = tl at c2
  generalize (l.getD i nd0).names.length = nl at c3
  generalize (l.getD i nd0).count = ct at c4
  clear hP hE hr hkn hnn htl htr htb hnl hnr
  go_enter Try.func77, Try.ntmps77
  have HPa : Hid (∀ W, Calls Try.prog 87 #[.string s0, .bool false] W fun x w' => x = .returned (.string (paren s0 false)) ∧ w' = W) := fun W => l3paren_any s0 false W z0
  have hpz := paren_size s0 false
  generalize paren s0 false = ps at HPa hpz
  have z1 : ¬ 9223372036854775807 < 1 + ps.size := by omega
  have dq : decide (bka < 9) = false := by simp; omega
  have eq25 : (ka == 25) = false := by simp; exact hk25
  go_wp2_with (go_at_call 63; refine (CK.out _ ((Below.refl _ _).alloc (Nat.le_refl _) _)).mono ?_; rintro r w1 ⟨ka, kc, rfl, hp, hb, hkc⟩; simp only [World.size_alloc] at hb; obtain ⟨a0, a1, a2, a3, a4, hw⟩ := nodeVar hb; have HB1 : Hid (Below w.heap.size w w1) := hw; have HP : Hid (RdP w1 ka pos _) := hp; obtain ⟨kb, ko, rfl, p0⟩ := hp 0 (by omega); rw [Nat.add_zero] at p0; obtain ⟨qa0, qa1, qa2, qa3, qa4⟩ := HDa.out w1 hw; clear hb hw hp)
  have CA : Hid _ := HA.out w1 HB1.out
  have CB : Hid (∀ W, Below w1.heap.size w1 W → Calls Try.prog 88 #[.agg #[.int .i64 ka, .int .i64 na, .slice ta xa ua, .slice ma ya va, .int .i64 za]] W fun x w' => x = .returned (.int .i64 bka) ∧ Below w1.heap.size w1 w') := fun W hW => (HBa.out W _ _ _).mono (fun _ _ h => ⟨h.1, bup hW h.2⟩)
  have HC : Hid (∀ W, Below w1.heap.size w1 W → W.cell? ⟨kb, ko, none⟩ = some (.int .i64 (pos 0 : Int)) ∧ W.cell? ⟨b, off + pos 0 * 5, none⟩ = some (.int .i64 ka) ∧ W.cell? ⟨b, off + pos 0 * 5 + 1, none⟩ = some (.int .i64 na) ∧ W.cell? ⟨b, off + pos 0 * 5 + 2, none⟩ = some (.slice ta xa ua) ∧ W.cell? ⟨b, off + pos 0 * 5 + 3, none⟩ = some (.slice ma ya va) ∧ W.cell? ⟨b, off + pos 0 * 5 + 4, none⟩ = some (.int .i64 za)) := fun W hW => ⟨cellBw p0 hW, cellBw qa0 hW, cellBw qa1 hW, cellBw qa2 hW, cellBw qa3 hW, cellBw qa4 hW⟩
  go_region_held3 (fun W => W.cell? ⟨kb, ko, none⟩ = some (.int .i64 (pos 0 : Int)) ∧ W.cell? ⟨b, off + pos 0 * 5, none⟩ = some (.int .i64 ka) ∧ W.cell? ⟨b, off + pos 0 * 5 + 1, none⟩ = some (.int .i64 na) ∧ W.cell? ⟨b, off + pos 0 * 5 + 2, none⟩ = some (.slice ta xa ua) ∧ W.cell? ⟨b, off + pos 0 * 5 + 3, none⟩ = some (.slice ma ya va) ∧ W.cell? ⟨b, off + pos 0 * 5 + 4, none⟩ = some (.int .i64 za)) (first | with_reducible exact HC.out _ H4.out | with_reducible exact HC.out _ H3.out | exact HC.out _ (by repeat (first | exact Below.refl _ _ | refine Below.drew ?_ | refine bel_drewN ?_ _))) (first | (go_at_call 77; (with_reducible refine Calls.mono (CA.out _ (by repeat (first | exact Below.refl _ _ | exact H3.out | exact H4.out | refine Below.drew ?_ | refine bel_drewN ?_ _))) ?_); rintro r w3 ⟨rfl, hb⟩; have H3 : Hid _ := hb; clear hb) | (go_at_call 88; (with_reducible refine Calls.mono (CB.out _ (by repeat (first | exact Below.refl _ _ | exact H3.out | exact H4.out | refine Below.drew ?_ | refine bel_drewN ?_ _))) ?_); rintro r w4 ⟨rfl, hb⟩; have H4 : Hid _ := hb; clear hb) | (go_at_call 87; (try rw [dq]); (with_reducible refine Calls.mono (HPa.out _) ?_); rintro r wq ⟨rfl, hw⟩; replace hw := hw.symm; subst hw))
  all_goals (go_wp2; go_returns; exact ⟨rfl, bup HB1.out H4.out⟩)
end Go.Proofs.Ytepbddfpdlapbaa.vt
