import Derived.Test.YtepbddfpdlapbaaMPrShowB
namespace Go.Proofs.Ytepbddfpdlapbaa.vt
open Go.RowKit Go.Proofs.Ytepbddfpdlapbaa.bts Go.Proofs.Ytepbddfpdlapbaa.nod Go.Proofs.Ytepbddfpdlapbaa.lex
theorem wrap_lv (lv : Nat) (h : lv ≤ 400) : IntKind.i64.wrap ((lv : Int) + 1) = (lv : Int) + 1 := by rw [IntKind.wrap_i64]; omega
theorem names_size {w : World} {na : Option Addr} {l : List (List Int)} (h : ∀ i, i < l.length → ∃ b off u, na = some ⟨b, off, none⟩ ∧ w.cell? ⟨b, off + i, none⟩ = some u ∧ RdV w u (l.getD i [])) (hl : l.length ≤ 1000) : sizeSS l ≤ 1048576 := by
  have hk : ∀ k, k ≤ l.length → lens l k ≤ k * 1000 := fun k => by
    induction k with
    | zero => intro _; simp [lens]
    | succ k ih =>
      intro hk
      obtain ⟨_, _, u, _, _, _, _, _, hu, _, _⟩ := h k (by omega)
      rw [lens_succ (by omega)]
      have := ih (by omega)
      omega
  have := hk l.length (Nat.le_refl _)
  unfold sizeSS
  omega
set_option maxRecDepth 100000 in
set_option maxHeartbeats 1000000 in
theorem show_call0 {l : List Nd} {d i e c lv : Nat} {lp : Bool} {pos : Nat → Nat} (hP : Parts l d i e c lp pos) (hE : endAt l (d + 1) i = some e) (hd : d + 1 ≤ 200) (hn : l.length ≤ 6000) (_hlv : lv ≤ 400) (hk : knd l i = 18) {s0 : ByteArray} {ss : Nat → ByteArray} (hc : c = 1) (z0 : s0.size ≤ 1000000000) (zr : room ss 0 ≤ 1000000000) (H0 : Says l 85 (at2 (pos 0) lv) s0) (H1 : ∀ k, k < 0 → Says l 77 (at2 (pos (k + 1)) lv) (ss k)) : Says l 77 (at2 i lv) (((s0 ++ { data := #[40] }) ++ joinS ss 0) ++ { data := #[41] }) := by
  intro b off cap w hr
  obtain ⟨b', off', ut, un, e1, c0, c1, c2, c3, c4, ht, hnm⟩ := hr i hP.low
  simp only [Option.some.injEq, Addr.mk.injEq, and_true] at e1
  obtain ⟨rfl, rfl⟩ := e1
  have hkn : (l.getD i nd0).kind = 18 := hk
  rw [hkn] at c0
  have hi := hP.low
  obtain ⟨ta, tc, rfl, htl, htr, htb⟩ := ht
  obtain ⟨na, nc, rfl, hnl, hnr⟩ := hnm
  subst hc
  have HX : Hid (∀ w1 ka kc, Below w.heap.size w w1 → RdP w1 ka (fun k => pos (k + 1)) 0 → ∀ W, Below w1.heap.size w1 W → Calls Try.prog 76 #[.slice (some ⟨b, off, none⟩) l.length cap, .slice ka 0 kc, .int .i64 (lv : Int)] W fun r w' => r = .returned (.string (joinS ss 0)) ∧ Below w1.heap.size w1 w') := fun w1 ka kc h1 hp W hW => (exprs_any (by omega) zr H1 b off cap W (hr.below (bup h1 hW)) ka kc (hp.below hW)).mono (fun _ _ h => ⟨h.1, bup hW h.2⟩)
  have hjz := joinS_size ss 0
  generalize joinS ss 0 = js at HX hjz
  have hjs : js.size ≤ 1000000000 := by omega
  clear hjz
  obtain ⟨n, hnn⟩ : ∃ n, n = l.length := ⟨_, rfl⟩
  have HN : Hid (n = l.length) := hnn
  have CK : Hid (∀ W, Below w.heap.size w W → Calls Try.prog 63 #[.slice (some ⟨b, off, none⟩) n cap, .int .i64 (i : Int)] W fun x w' => ∃ ka kc, x = .returned (.slice ka 1 kc) ∧ RdP w' ka pos 1 ∧ Below W.heap.size W w' ∧ 1 ≤ kc) := fun W hW => by
    rw [HN.out]; exact kids_say hP hE hd hn b off cap W (hr.below hW)
  have HA : Hid (∀ w1, Below w.heap.size w w1 → ∀ W, Below w1.heap.size w1 W → Calls Try.prog 85 #[.slice (some ⟨b, off, none⟩) n cap, .int .i64 (pos 0 : Int), .int .i64 (lv : Int)] W fun r w' => r = .returned (.string s0) ∧ Below w1.heap.size w1 w') := fun w1 h1 W hW => by
    have h := Says.at (cap := cap) H0 hr h1 hW
    rw [HN.out]; exact h
  rw [← hnn] at HX
  clear H0 H1
  unfold at2
  rw [← hnn] at hi hn ⊢
  generalize (l.getD i nd0).n = nn at c1
  generalize (l.getD i nd0).text.length = tl at c2
  generalize (l.getD i nd0).names.length = nl at c3
  generalize (l.getD i nd0).count = ct at c4
  clear hP hE hr hkn hnn htl htr htb hnl hnr
  go_enter Try.func77, Try.ntmps77
  have z0 : ¬ 9223372036854775807 < s0.size + 1 := by omega
  have z1 : ¬ 9223372036854775807 < s0.size + 1 + js.size := by omega
  have z2 : ¬ 9223372036854775807 < s0.size + 1 + js.size + 1 := by omega
  go_wp2_with (go_at_call 63; refine (CK.out _ ((Below.refl _ _).alloc (Nat.le_refl _) _)).mono ?_; rintro r w1 ⟨ka, kc, rfl, hp, hb, hkc⟩; simp only [World.size_alloc] at hb; obtain ⟨a0, a1, a2, a3, a4, hw⟩ := nodeVar hb; have HB1 : Hid (Below w.heap.size w w1) := hw; have HP : Hid (RdP w1 ka pos _) := hp; obtain ⟨kb, ko, rfl, p0⟩ := hp 0 (by omega); rw [Nat.add_zero] at p0; clear hb hw hp)
  have CA : Hid _ := HA.out w1 HB1.out
  have HC : Hid (∀ W, Below w1.heap.size w1 W → W.cell? ⟨kb, ko, none⟩ = some (.int .i64 (pos 0 : Int))) := fun W hW => cellBw p0 hW
  have HE1 : Hid (∀ W, Below w1.heap.size w1 W → ∀ ka kc, Calls Try.prog 76 #[.slice (some ⟨b, off, none⟩) n cap, .slice ka 0 kc, .int .i64 (lv : Int)] W fun r w' => r = .returned (.string js) ∧ Below w1.heap.size w1 w') := fun W hW ka kc => HX.out w1 ka kc HB1.out (fun k hk => absurd hk (by omega)) W hW
  by_cases hk1 : kc = 1
  · subst hk1
    go_region_held3 (fun W => W.cell? ⟨kb, ko, none⟩ = some (.int .i64 (pos 0 : Int))) (first | with_reducible exact HC.out _ H4.out | with_reducible exact HC.out _ H3.out | exact HC.out _ (by repeat (first | exact Below.refl _ _ | refine Below.drew ?_ | refine bel_drewN ?_ _))) (first | (go_at_call 85; (with_reducible refine Calls.mono (CA.out _ (by repeat (first | exact Below.refl _ _ | exact H3.out | refine Below.drew ?_ | refine bel_drewN ?_ _))) ?_); rintro r w3 ⟨rfl, hb⟩; have H3 : Hid _ := hb; clear hb) | (go_at_call 76; refine Calls.mono (HE1.out _ (by repeat (first | exact Below.refl _ _ | exact H3.out | refine Below.drew ?_ | refine bel_drewN ?_ _)) _ _) ?_; rintro r w4 ⟨rfl, hb⟩; have H4 : Hid _ := hb; clear hb))
    all_goals (go_wp2; go_returns; exact ⟨rfl, bup HB1.out H4.out⟩)
  · have ik1 : (1 : Int) ≤ (kc : Int) := by omega
    go_region_held3 (fun W => W.cell? ⟨kb, ko, none⟩ = some (.int .i64 (pos 0 : Int))) (first | with_reducible exact HC.out _ H4.out | with_reducible exact HC.out _ H3.out | exact HC.out _ (by repeat (first | exact Below.refl _ _ | refine Below.drew ?_ | refine bel_drewN ?_ _))) (first | (go_at_call 85; (with_reducible refine Calls.mono (CA.out _ (by repeat (first | exact Below.refl _ _ | exact H3.out | refine Below.drew ?_ | refine bel_drewN ?_ _))) ?_); rintro r w3 ⟨rfl, hb⟩; have H3 : Hid _ := hb; clear hb) | (go_at_call 76; refine Calls.mono (HE1.out _ (by repeat (first | exact Below.refl _ _ | exact H3.out | refine Below.drew ?_ | refine bel_drewN ?_ _)) _ _) ?_; rintro r w4 ⟨rfl, hb⟩; have H4 : Hid _ := hb; clear hb))
    all_goals (go_wp2; go_returns; exact ⟨rfl, bup HB1.out H4.out⟩)
set_option maxRecDepth 100000 in
set_option maxHeartbeats 1000000 in
theorem show_call {l : List Nd} {d i e c lv : Nat} {lp : Bool} {pos : Nat → Nat} (hP : Parts l d i e c lp pos) (hE : endAt l (d + 1) i = some e) (hd : d + 1 ≤ 200) (hn : l.length ≤ 6000) (_hlv : lv ≤ 400) (hk : knd l i = 18) {s0 : ByteArray} {ss : Nat → ByteArray} (hc : 2 ≤ c) (z0 : s0.size ≤ 1000000000) (zr : room ss (c - 1) ≤ 1000000000) (H0 : Says l 85 (at2 (pos 0) lv) s0) (H1 : ∀ k, k < (c - 1) → Says l 77 (at2 (pos (k + 1)) lv) (ss k)) : Says l 77 (at2 i lv) (((s0 ++ { data := #[40] }) ++ joinS ss (c - 1)) ++ { data := #[41] }) := by
  intro b off cap w hr
  obtain ⟨b', off', ut, un, e1, c0, c1, c2, c3, c4, ht, hnm⟩ := hr i hP.low
  simp only [Option.some.injEq, Addr.mk.injEq, and_true] at e1
  obtain ⟨rfl, rfl⟩ := e1
  have hkn : (l.getD i nd0).kind = 18 := hk
  rw [hkn] at c0
  have hi := hP.low
  obtain ⟨ta, tc, rfl, htl, htr, htb⟩ := ht
  obtain ⟨na, nc, rfl, hnl, hnr⟩ := hnm
  have hc51 := (hP.k18 hk).2.1
  have HX : Hid (∀ w1 ka kc, Below w.heap.size w w1 → RdP w1 ka (fun k => pos (k + 1)) (c - 1) → ∀ W, Below w1.heap.size w1 W → Calls Try.prog 76 #[.slice (some ⟨b, off, none⟩) l.length cap, .slice ka (c - 1) kc, .int .i64 (lv : Int)] W fun r w' => r = .returned (.string (joinS ss (c - 1))) ∧ Below w1.heap.size w1 w') := fun w1 ka kc h1 hp W hW => (exprs_any (by omega) zr H1 b off cap W (hr.below (bup h1 hW)) ka kc (hp.below hW)).mono (fun _ _ h => ⟨h.1, bup hW h.2⟩)
  have hjz := joinS_size ss (c - 1)
  generalize joinS ss (c - 1) = js at HX hjz
  have hjs : js.size ≤ 1000000000 := by omega
  clear hjz
  obtain ⟨n, hnn⟩ : ∃ n, n = l.length := ⟨_, rfl⟩
  have HN : Hid (n = l.length) := hnn
  have CK : Hid (∀ W, Below w.heap.size w W → Calls Try.prog 63 #[.slice (some ⟨b, off, none⟩) n cap, .int .i64 (i : Int)] W fun x w' => ∃ ka kc, x = .returned (.slice ka c kc) ∧ RdP w' ka pos c ∧ Below W.heap.size W w' ∧ c ≤ kc) := fun W hW => by
    rw [HN.out]; exact kids_say hP hE hd hn b off cap W (hr.below hW)
  have HA : Hid (∀ w1, Below w.heap.size w w1 → ∀ W, Below w1.heap.size w1 W → Calls Try.prog 85 #[.slice (some ⟨b, off, none⟩) n cap, .int .i64 (pos 0 : Int), .int .i64 (lv : Int)] W fun r w' => r = .returned (.string s0) ∧ Below w1.heap.size w1 w') := fun w1 h1 W hW => by
    have h := Says.at (cap := cap) H0 hr h1 hW
    rw [HN.out]; exact h
  rw [← hnn] at HX
  clear H0 H1
  unfold at2
  rw [← hnn] at hi hn ⊢
  generalize (l.getD i nd0).n = nn at c1
  generalize (l.getD i nd0).text.length = tl at c2
  generalize (l.getD i nd0).names.length = nl at c3
  generalize (l.getD i nd0).count = ct at c4
  clear hP hE hr hkn hnn htl htr htb hnl hnr
  go_enter Try.func77, Try.ntmps77
  have z0 : ¬ 9223372036854775807 < s0.size + 1 := by omega
  have z1 : ¬ 9223372036854775807 < s0.size + 1 + js.size := by omega
  have z2 : ¬ 9223372036854775807 < s0.size + 1 + js.size + 1 := by omega
  go_wp2_with (go_at_call 63; refine (CK.out _ ((Below.refl _ _).alloc (Nat.le_refl _) _)).mono ?_; rintro r w1 ⟨ka, kc, rfl, hp, hb, hkc⟩; simp only [World.size_alloc] at hb; obtain ⟨a0, a1, a2, a3, a4, hw⟩ := nodeVar hb; have HB1 : Hid (Below w.heap.size w w1) := hw; have HP : Hid (RdP w1 ka pos _) := hp; obtain ⟨kb, ko, rfl, p0⟩ := hp 0 (by omega); rw [Nat.add_zero] at p0; clear hb hw hp)
  have CA : Hid _ := HA.out w1 HB1.out
  have HC : Hid (∀ W, Below w1.heap.size w1 W → W.cell? ⟨kb, ko, none⟩ = some (.int .i64 (pos 0 : Int))) := fun W hW => cellBw p0 hW
  have HE1 : Hid (∀ W, Below w1.heap.size w1 W → ∀ kc, Calls Try.prog 76 #[.slice (some ⟨b, off, none⟩) n cap, .slice (some ⟨kb, ko + 1, none⟩) (c - 1) kc, .int .i64 (lv : Int)] W fun r w' => r = .returned (.string js) ∧ Below w1.heap.size w1 w') := fun W hW kc => HX.out w1 _ kc HB1.out (fun k hk => ⟨kb, ko + 1, rfl, by rw [show ko + 1 + k = ko + (k + 1) by omega]; exact rdp_at HP.out (k + 1) (by omega)⟩) W hW
  have ic : (1 : Int) ≤ (c : Int) := by omega
  have ic0 : (0 : Int) < (c : Int) := by omega
  have ic1 : 0 < c := by omega
  have ikc : (c : Int) ≤ (kc : Int) := by omega
  have ik1 : (1 : Int) ≤ (kc : Int) := by omega
  have ikn : ¬ kc = 1 := by omega
  have ikn2 : ¬ kc - 1 = 0 := by omega
  have ikn3 : ¬ (kc : Int) - 1 = 0 := by omega
  go_region_held3 (fun W => W.cell? ⟨kb, ko, none⟩ = some (.int .i64 (pos 0 : Int))) (first | with_reducible exact HC.out _ H4.out | with_reducible exact HC.out _ H3.out | exact HC.out _ (by repeat (first | exact Below.refl _ _ | refine Below.drew ?_ | refine bel_drewN ?_ _))) (first | (go_at_call 85; (with_reducible refine Calls.mono (CA.out _ (by repeat (first | exact Below.refl _ _ | exact H3.out | refine Below.drew ?_ | refine bel_drewN ?_ _))) ?_); rintro r w3 ⟨rfl, hb⟩; have H3 : Hid _ := hb; clear hb) | (go_at_call 76; refine Calls.mono (HE1.out _ (by repeat (first | exact Below.refl _ _ | exact H3.out | refine Below.drew ?_ | refine bel_drewN ?_ _)) _) ?_; rintro r w4 ⟨rfl, hb⟩; have H4 : Hid _ := hb; clear hb))
  all_goals (go_wp2; go_returns; exact ⟨rfl, bup HB1.out H4.out⟩)
set_option maxRecDepth 100000 in
set_option maxHeartbeats 1000000 in
theorem show_func {l : List Nd} {d i e c lv : Nat} {lp : Bool} {pos : Nat → Nat} (hP : Parts l d i e c lp pos) (hE : endAt l (d + 1) i = some e) (hd : d + 1 ≤ 200) (hn : l.length ≤ 6000) (hlv : lv ≤ 400) (hk : knd l i = 19) {s0 : ByteArray} (z0 : s0.size ≤ 1000000000) (H0 : Says l 51 (at2 (pos 0) (lv + 1)) s0) : Says l 77 (at2 i lv) ((((({ data := #[102, 117, 110, 99, 116, 105, 111, 110, 40] } ++ joinK (l.getD i nd0).names (l.getD i nd0).names.length) ++ { data := #[41, 10] }) ++ s0) ++ ind lv) ++ { data := #[101, 110, 100] }) := by
  intro b off cap w hr
  obtain ⟨b', off', ut, un, e1, c0, c1, c2, c3, c4, ht, hnm⟩ := hr i hP.low
  simp only [Option.some.injEq, Addr.mk.injEq, and_true] at e1
  obtain ⟨rfl, rfl⟩ := e1
  have hkn : (l.getD i nd0).kind = 19 := hk
  rw [hkn] at c0
  have hi := hP.low
  obtain ⟨ta, tc, rfl, htl, htr, htb⟩ := ht
  obtain ⟨na, nc, rfl, hnl, hnr⟩ := hnm
  obtain ⟨rfl, x0⟩ := hP.k3 (by omega)
  have hwl := wrap_lv lv hlv
  have hsz := names_size hnr hnl
  have HL : Hid (∀ W, Below w.heap.size w W → Calls Try.prog 75 #[.slice na (l.getD i nd0).names.length nc] W fun x w' => x = .returned (.string (joinK (l.getD i nd0).names (l.getD i nd0).names.length)) ∧ w' = W) := fun W hW => l3list_any _ _ W (RdVV.below ⟨na, nc, rfl, hnl, hnr⟩ hW) hsz hP.names.2.2
  have HI : Hid (∀ W, Calls Try.prog 64 #[.int .i64 (lv : Int)] W fun x w' => x = .returned (.string (ind lv)) ∧ w' = W) := fun W => l3indent_any lv W (by omega)
  have hjz := joinK_size (l.getD i nd0).names _ (Nat.le_refl _)
  have hiz := ind_size lv
  have hlz : lens (l.getD i nd0).names (l.getD i nd0).names.length ≤ 1048576 := by unfold sizeSS at hsz; omega
  generalize joinK (l.getD i nd0).names (l.getD i nd0).names.length = jn at HL hjz
  generalize ind lv = iv at HI hiz
  have hjn : jn.size ≤ 1052576 := by omega
  have hiz2 : iv.size ≤ 800 := by omega
  clear hjz hlz hsz hiz
  obtain ⟨n, hnn⟩ : ∃ n, n = l.length := ⟨_, rfl⟩
  have HN : Hid (n = l.length) := hnn
  have CK : Hid (∀ W, Below w.heap.size w W → Calls Try.prog 63 #[.slice (some ⟨b, off, none⟩) n cap, .int .i64 (i : Int)] W fun x w' => ∃ ka kc, x = .returned (.slice ka 1 kc) ∧ RdP w' ka pos 1 ∧ Below W.heap.size W w' ∧ 1 ≤ kc) := fun W hW => by
    rw [HN.out]; exact kids_say hP hE hd hn b off cap W (hr.below hW)
  have HA : Hid (∀ w1, Below w.heap.size w w1 → ∀ W, Below w1.heap.size w1 W → Calls Try.prog 51 #[.slice (some ⟨b, off, none⟩) n cap, .int .i64 (pos 0 : Int), .int .i64 ((lv + 1 : Nat) : Int)] W fun r w' => r = .returned (.string s0) ∧ Below w1.heap.size w1 w') := fun w1 h1 W hW => by
    have h := Says.at (cap := cap) H0 hr h1 hW
    rw [HN.out]; exact h
  clear H0 x0
  unfold at2
  rw [← hnn] at hi hn ⊢
  generalize (l.getD i nd0).n = nn at c1
  generalize (l.getD i nd0).text.length = tl at c2
  generalize (l.getD i nd0).names.length = nl at c3 HL hnl
  generalize (l.getD i nd0).count = ct at c4
  clear hP hE hr hkn hnn htl htr htb hnr
  go_enter Try.func77, Try.ntmps77
  have z0 : ¬ 9223372036854775807 < 9 + jn.size := by omega
  have z1 : ¬ 9223372036854775807 < 9 + jn.size + 2 := by omega
  have z2 : ¬ 9223372036854775807 < 9 + jn.size + 2 + s0.size := by omega
  have z3 : ¬ 9223372036854775807 < 9 + jn.size + 2 + s0.size + iv.size := by omega
  have z4 : ¬ 9223372036854775807 < 9 + jn.size + 2 + s0.size + iv.size + 3 := by omega
  go_wp2_with (go_at_call 63; refine (CK.out _ ((Below.refl _ _).alloc (Nat.le_refl _) _)).mono ?_; rintro r w1 ⟨ka, kc, rfl, hp, hb, hkc⟩; simp only [World.size_alloc] at hb; obtain ⟨a0, a1, a2, a3, a4, hw⟩ := nodeVar hb; have HB1 : Hid (Below w.heap.size w w1) := hw; have HP : Hid (RdP w1 ka pos _) := hp; obtain ⟨kb, ko, rfl, p0⟩ := hp 0 (by omega); rw [Nat.add_zero] at p0; clear hb hw hp)
  have CA : Hid (∀ W, Below w1.heap.size w1 W → Calls Try.prog 51 #[.slice (some ⟨b, off, none⟩) n cap, .int .i64 (pos 0 : Int), .int .i64 ((lv : Int) + 1)] W fun r w' => r = .returned (.string s0) ∧ Below w1.heap.size w1 w') := HA.out w1 HB1.out
  have CL : Hid (∀ W, Below w1.heap.size w1 W → Calls Try.prog 75 #[.slice na nl nc] W fun x w' => x = .returned (.string jn) ∧ w' = W) := fun W hW => HL.out W (bup HB1.out hW)
  have HC : Hid (∀ W, Below w1.heap.size w1 W → W.cell? ⟨w.heap.size, 3, none⟩ = some (.slice na nl nc) ∧ W.cell? ⟨kb, ko, none⟩ = some (.int .i64 (pos 0 : Int))) := fun W hW => ⟨cellBw a3 hW, cellBw p0 hW⟩
  go_region_held3 (fun W => W.cell? ⟨w.heap.size, 3, none⟩ = some (.slice na nl nc) ∧ W.cell? ⟨kb, ko, none⟩ = some (.int .i64 (pos 0 : Int))) (first | with_reducible exact HC.out _ H3.out | exact HC.out _ (by repeat (first | exact Below.refl _ _ | refine Below.drew ?_ | refine bel_drewN ?_ _))) (first | (go_at_call 51; (with_reducible refine Calls.mono (CA.out _ (by repeat (first | exact Below.refl _ _ | exact H3.out | refine Below.drew ?_ | refine bel_drewN ?_ _))) ?_); rintro r w3 ⟨rfl, hb⟩; have H3 : Hid _ := hb; clear hb) | (go_at_call 75; (with_reducible refine Calls.mono (CL.out _ (by repeat (first | exact Below.refl _ _ | exact H3.out | refine Below.drew ?_ | refine bel_drewN ?_ _))) ?_); rintro r wq ⟨rfl, hw⟩; replace hw := hw.symm; subst hw) | (go_at_call 64; (with_reducible refine Calls.mono (HI.out _) ?_); rintro r wq ⟨rfl, hw⟩; replace hw := hw.symm; subst hw))
  all_goals (go_wp2; go_returns; exact ⟨rfl, bup HB1.out H3.out⟩)
set_option maxRecDepth 100000 in
set_option maxHeartbeats 1000000 in
theorem show_table {l : List Nd} {d i e c lv : Nat} {lp : Bool} {pos : Nat → Nat} (hP : Parts l d i e c lp pos) (hE : endAt l (d + 1) i = some e) (hd : d + 1 ≤ 200) (hn : l.length ≤ 6000) (_hlv : lv ≤ 400) (hk : knd l i = 20) {ss : Nat → ByteArray} {m : Nat} (hm : c = m * 2) (zr : room ss (m * 2) ≤ 1000000000) (H1 : ∀ k, k < m * 2 → Says l 77 (at2 (pos k) lv) (ss k)) : Says l 77 (at2 i lv) ((tableS l pos ss m).1 ++ { data := #[125] }) := by
  intro b off cap w hr
  obtain ⟨b', off', ut, un, e1, c0, c1, c2, c3, c4, ht, hnm⟩ := hr i hP.low
  simp only [Option.some.injEq, Addr.mk.injEq, and_true] at e1
  obtain ⟨rfl, rfl⟩ := e1
  have hkn : (l.getD i nd0).kind = 20 := hk
  rw [hkn] at c0
  have hi := hP.low
  obtain ⟨ta, tc, rfl, htl, htr, htb⟩ := ht
  obtain ⟨na, nc, rfl, hnl, hnr⟩ := hnm
  subst hm
  have hfw := hP.few
  have hlt : ∀ k, k < m * 2 → pos k < l.length := fun k hk => by have := endAt_bd (hP.ends k hk); omega
  have HX : Hid (∀ w1 ka kc, Below w.heap.size w w1 → RdP w1 ka pos (m * 2) → Calls Try.prog 86 #[.slice (some ⟨b, off, none⟩) l.length cap, .slice ka (m * 2) kc, .int .i64 (lv : Int)] w1 fun r w' => r = .returned (.string ((tableS l pos ss m).1 ++ { data := #[125] })) ∧ Below w1.heap.size w1 w') := fun w1 ka kc h1 hp => table_any hn (by omega) hlt zr H1 b off cap w1 (hr.below h1) ka kc hp
  generalize (tableS l pos ss m).1 ++ { data := #[125] } = ts at HX
  obtain ⟨n, hnn⟩ : ∃ n, n = l.length := ⟨_, rfl⟩
  have HN : Hid (n = l.length) := hnn
  have CK : Hid (∀ W, Below w.heap.size w W → Calls Try.prog 63 #[.slice (some ⟨b, off, none⟩) n cap, .int .i64 (i : Int)] W fun x w' => ∃ ka kc, x = .returned (.slice ka (m * 2) kc) ∧ RdP w' ka pos (m * 2) ∧ Below W.heap.size W w' ∧ (m * 2) ≤ kc) := fun W hW => by
    rw [HN.out]; exact kids_say hP hE hd hn b off cap W (hr.below hW)
  rw [← hnn] at HX
  clear H1 hlt hfw
  unfold at2
  rw [← hnn] at hi hn ⊢
  generalize (l.getD i nd0).n = nn at c1
  generalize (l.getD i nd0).text.length = tl at c2
  generalize (l.getD i nd0).names.length = nl at c3
  generalize (l.getD i nd0).count = ct at c4
  clear hP hE hr hkn hnn htl htr htb hnl hnr
  go_enter Try.func77, Try.ntmps77
  go_wp2_with (first | (go_at_call 86; refine (HX.out _ _ _ HB1.out HP.out).mono ?_; rintro r w3 ⟨rfl, hb⟩; have H3 : Hid _ := hb; clear hb) | (go_at_call 63; refine (CK.out _ ((Below.refl _ _).alloc (Nat.le_refl _) _)).mono ?_; rintro r w1 ⟨ka, kc, rfl, hp, hb, hkc⟩; simp only [World.size_alloc] at hb; obtain ⟨a0, a1, a2, a3, a4, hw⟩ := nodeVar hb; have HB1 : Hid (Below w.heap.size w w1) := hw; have HP : Hid (RdP w1 ka pos _) := hp; clear hb hw hp))
  go_returns
  exact ⟨rfl, bup HB1.out H3.out⟩
end Go.Proofs.Ytepbddfpdlapbaa.vt
