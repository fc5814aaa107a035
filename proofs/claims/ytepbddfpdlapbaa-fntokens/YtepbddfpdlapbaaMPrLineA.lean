import Derived.Test.YtepbddfpdlapbaaMPrShowD
namespace Go.Proofs.Ytepbddfpdlapbaa.vt
open Go.RowKit Go.Proofs.Ytepbddfpdlapbaa.bts Go.Proofs.Ytepbddfpdlapbaa.nod Go.Proofs.Ytepbddfpdlapbaa.lex
set_option maxRecDepth 100000 in
set_option maxHeartbeats 1000000 in
theorem line_break {l : List Nd} {d i e c lv : Nat} {lp : Bool} {pos : Nat → Nat} (hP : Parts l d i e c lp pos) (hE : endAt l (d + 1) i = some e) (hd : d + 1 ≤ 200) (hn : l.length ≤ 6000) (hlv : lv ≤ 400) (hk : knd l i = 8) : Says l 65 (at2 i lv) ({ data := #[98, 114, 101, 97, 107] }) := by
  intro b off cap w hr
  obtain ⟨b', off', ut, un, e1, c0, c1, c2, c3, c4, ht, hnm⟩ := hr i hP.low
  simp only [Option.some.injEq, Addr.mk.injEq, and_true] at e1
  obtain ⟨rfl, rfl⟩ := e1
  have hkn : (l.getD i nd0).kind = 8 := hk
  rw [hkn] at c0
  have hi := hP.low
  obtain ⟨ta, tc, rfl, htl, htr, htb⟩ := ht
  obtain ⟨na, nc, rfl, hnl, hnr⟩ := hnm
  have hwl := wrap_lv lv hlv
  have HI : Hid (∀ W, Calls Try.prog 64 #[.int .i64 (lv : Int)] W fun x w' => x = .returned (.string (ind lv)) ∧ w' = W) := fun W => l3indent_any lv W (by omega)
  have hiz := ind_size lv
  generalize ind lv = iv at HI hiz
  have hiz2 : iv.size ≤ 800 := by omega
  clear hiz
  have ze : ¬ 9223372036854775807 < iv.size + 3 := by omega
  obtain ⟨n, hnn⟩ : ∃ n, n = l.length := ⟨_, rfl⟩
  have HN : Hid (n = l.length) := hnn
  have CK : Hid (∀ W, Below w.heap.size w W → Calls Try.prog 63 #[.slice (some ⟨b, off, none⟩) n cap, .int .i64 (i : Int)] W fun x w' => ∃ ka kc, x = .returned (.slice ka c kc) ∧ RdP w' ka pos c ∧ Below W.heap.size W w' ∧ c ≤ kc) := fun W hW => by
    rw [HN.out]; exact kids_say hP hE hd hn b off cap W (hr.below hW)
  unfold at2
  rw [← hnn] at hi hn ⊢
  generalize (l.getD i nd0).n = nn at c1
  generalize (l.getD i nd0).text.length = tl at c2
  generalize (l.getD i nd0).names.length = nl at c3
  generalize (l.getD i nd0).count = ct at c4
  clear hP hE hr hkn hnn htl htr htb hnl hnr
  go_enter Try.func65, Try.ntmps65
  go_wp2_with (first | (go_at_call 64; (with_reducible refine Calls.mono (HI.out _) ?_); rintro r wq ⟨rfl, hw⟩; replace hw := hw.symm; subst hw) | (go_at_call 63; refine (CK.out _ ((Below.refl _ _).alloc (Nat.le_refl _) _)).mono ?_; rintro r w1 ⟨ka, kc, rfl, hp, hb, hkc⟩; simp only [World.size_alloc] at hb; obtain ⟨a0, a1, a2, a3, a4, hw⟩ := nodeVar hb; have HB1 : Hid (Below w.heap.size w w1) := hw; have HP : Hid (RdP w1 ka pos _) := hp; clear hb hw hp))
  go_returns
  exact ⟨rfl, HB1.out⟩
set_option maxRecDepth 100000 in
set_option maxHeartbeats 1000000 in
theorem line_call {l : List Nd} {d i e c lv : Nat} {lp : Bool} {pos : Nat → Nat} (hP : Parts l d i e c lp pos) (hE : endAt l (d + 1) i = some e) (hd : d + 1 ≤ 200) (hn : l.length ≤ 6000) (hlv : lv ≤ 400) (hk : knd l i = 10) {s0 : ByteArray} (H0 : Says l 77 (at2 (pos 0) lv) s0) : Says l 65 (at2 i lv) (s0) := by
  intro b off cap w hr
  obtain ⟨b', off', ut, un, e1, c0, c1, c2, c3, c4, ht, hnm⟩ := hr i hP.low
  simp only [Option.some.injEq, Addr.mk.injEq, and_true] at e1
  obtain ⟨rfl, rfl⟩ := e1
  have hkn : (l.getD i nd0).kind = 10 := hk
  rw [hkn] at c0
  have hi := hP.low
  obtain ⟨ta, tc, rfl, htl, htr, htb⟩ := ht
  obtain ⟨na, nc, rfl, hnl, hnr⟩ := hnm
  have hwl := wrap_lv lv hlv
  have HI : Hid (∀ W, Calls Try.prog 64 #[.int .i64 (lv : Int)] W fun x w' => x = .returned (.string (ind lv)) ∧ w' = W) := fun W => l3indent_any lv W (by omega)
  have hiz := ind_size lv
  generalize ind lv = iv at HI hiz
  have hiz2 : iv.size ≤ 800 := by omega
  clear hiz
  have ze : ¬ 9223372036854775807 < iv.size + 3 := by omega
  obtain ⟨rfl, x0⟩ := hP.k10 hk
  obtain ⟨n, hnn⟩ : ∃ n, n = l.length := ⟨_, rfl⟩
  have HN : Hid (n = l.length) := hnn
  have CK : Hid (∀ W, Below w.heap.size w W → Calls Try.prog 63 #[.slice (some ⟨b, off, none⟩) n cap, .int .i64 (i : Int)] W fun x w' => ∃ ka kc, x = .returned (.slice ka 1 kc) ∧ RdP w' ka pos 1 ∧ Below W.heap.size W w' ∧ 1 ≤ kc) := fun W hW => by
    rw [HN.out]; exact kids_say hP hE hd hn b off cap W (hr.below hW)
  have HA : Hid (∀ w1, Below w.heap.size w w1 → ∀ W, Below w1.heap.size w1 W → Calls Try.prog 77 #[.slice (some ⟨b, off, none⟩) n cap, .int .i64 (pos 0 : Int), .int .i64 (lv : Int)] W fun r w' => r = .returned (.string s0) ∧ Below w1.heap.size w1 w') := fun w1 h1 W hW => by
    have h := Says.at (cap := cap) H0 hr h1 hW
    rw [HN.out]; exact h
  clear H0 x0
  unfold at2
  rw [← hnn] at hi hn ⊢
  generalize (l.getD i nd0).n = nn at c1
  generalize (l.getD i nd0).text.length = tl at c2
  generalize (l.getD i nd0).names.length = nl at c3
  generalize (l.getD i nd0).count = ct at c4
  clear hP hE hr hkn hnn htl htr htb hnl hnr
  go_enter Try.func65, Try.ntmps65
  go_wp2_with (first | (go_at_call 77; refine (HA.out w1 HB1.out w1 (Below.refl _ _)).mono ?_; rintro r w3 ⟨rfl, hb⟩; have H3 : Hid _ := hb; clear hb) | (go_at_call 64; (with_reducible refine Calls.mono (HI.out _) ?_); rintro r wq ⟨rfl, hw⟩; replace hw := hw.symm; subst hw) | (go_at_call 63; refine (CK.out _ ((Below.refl _ _).alloc (Nat.le_refl _) _)).mono ?_; rintro r w1 ⟨ka, kc, rfl, hp, hb, hkc⟩; simp only [World.size_alloc] at hb; obtain ⟨a0, a1, a2, a3, a4, hw⟩ := nodeVar hb; have HB1 : Hid (Below w.heap.size w w1) := hw; have HP : Hid (RdP w1 ka pos _) := hp; obtain ⟨kb, ko, rfl, p0⟩ := hp 0 (by omega); rw [Nat.add_zero] at p0; clear hb hw hp))
  go_returns
  exact ⟨rfl, bup HB1.out H3.out⟩
set_option maxRecDepth 100000 in
set_option maxHeartbeats 1000000 in
theorem line_ret0 {l : List Nd} {d i e c lv : Nat} {lp : Bool} {pos : Nat → Nat} (hP : Parts l d i e c lp pos) (hE : endAt l (d + 1) i = some e) (hd : d + 1 ≤ 200) (hn : l.length ≤ 6000) (hlv : lv ≤ 400) (hk : knd l i = 9) (hc : c = 0) : Says l 65 (at2 i lv) ({ data := #[114, 101, 116, 117, 114, 110] }) := by
  intro b off cap w hr
  obtain ⟨b', off', ut, un, e1, c0, c1, c2, c3, c4, ht, hnm⟩ := hr i hP.low
  simp only [Option.some.injEq, Addr.mk.injEq, and_true] at e1
  obtain ⟨rfl, rfl⟩ := e1
  have hkn : (l.getD i nd0).kind = 9 := hk
  rw [hkn] at c0
  have hi := hP.low
  obtain ⟨ta, tc, rfl, htl, htr, htb⟩ := ht
  obtain ⟨na, nc, rfl, hnl, hnr⟩ := hnm
  have hwl := wrap_lv lv hlv
  have HI : Hid (∀ W, Calls Try.prog 64 #[.int .i64 (lv : Int)] W fun x w' => x = .returned (.string (ind lv)) ∧ w' = W) := fun W => l3indent_any lv W (by omega)
  have hiz := ind_size lv
  generalize ind lv = iv at HI hiz
  have hiz2 : iv.size ≤ 800 := by omega
  clear hiz
  have ze : ¬ 9223372036854775807 < iv.size + 3 := by omega
  subst hc
  obtain ⟨n, hnn⟩ : ∃ n, n = l.length := ⟨_, rfl⟩
  have HN : Hid (n = l.length) := hnn
  have CK : Hid (∀ W, Below w.heap.size w W → Calls Try.prog 63 #[.slice (some ⟨b, off, none⟩) n cap, .int .i64 (i : Int)] W fun x w' => ∃ ka kc, x = .returned (.slice ka 0 kc) ∧ RdP w' ka pos 0 ∧ Below W.heap.size W w' ∧ 0 ≤ kc) := fun W hW => by
    rw [HN.out]; exact kids_say hP hE hd hn b off cap W (hr.below hW)
  unfold at2
  rw [← hnn] at hi hn ⊢
  generalize (l.getD i nd0).n = nn at c1
  generalize (l.getD i nd0).text.length = tl at c2
  generalize (l.getD i nd0).names.length = nl at c3
  generalize (l.getD i nd0).count = ct at c4
  clear hP hE hr hkn hnn htl htr htb hnl hnr
  go_enter Try.func65, Try.ntmps65
  go_wp2_with (first | (go_at_call 64; (with_reducible refine Calls.mono (HI.out _) ?_); rintro r wq ⟨rfl, hw⟩; replace hw := hw.symm; subst hw) | (go_at_call 63; refine (CK.out _ ((Below.refl _ _).alloc (Nat.le_refl _) _)).mono ?_; rintro r w1 ⟨ka, kc, rfl, hp, hb, hkc⟩; simp only [World.size_alloc] at hb; obtain ⟨a0, a1, a2, a3, a4, hw⟩ := nodeVar hb; have HB1 : Hid (Below w.heap.size w w1) := hw; have HP : Hid (RdP w1 ka pos _) := hp; clear hb hw hp))
  go_returns
  exact ⟨rfl, HB1.out⟩
set_option maxRecDepth 100000 in
set_option maxHeartbeats 1000000 in
theorem line_ret {l : List Nd} {d i e c lv : Nat} {lp : Bool} {pos : Nat → Nat} (hP : Parts l d i e c lp pos) (hE : endAt l (d + 1) i = some e) (hd : d + 1 ≤ 200) (hn : l.length ≤ 6000) (hlv : lv ≤ 400) (hk : knd l i = 9) {ss : Nat → ByteArray} (hc : 0 < c) (zrjs : room ss c ≤ 1000000000) (Hjs : ∀ k, k < c → Says l 77 (at2 (pos k) lv) (ss k)) : Says l 65 (at2 i lv) ({ data := #[114, 101, 116, 117, 114, 110, 32] } ++ joinS ss c) := by
  intro b off cap w hr
  obtain ⟨b', off', ut, un, e1, c0, c1, c2, c3, c4, ht, hnm⟩ := hr i hP.low
  simp only [Option.some.injEq, Addr.mk.injEq, and_true] at e1
  obtain ⟨rfl, rfl⟩ := e1
  have hkn : (l.getD i nd0).kind = 9 := hk
  rw [hkn] at c0
  have hi := hP.low
  obtain ⟨ta, tc, rfl, htl, htr, htb⟩ := ht
  obtain ⟨na, nc, rfl, hnl, hnr⟩ := hnm
  have hwl := wrap_lv lv hlv
  have HI : Hid (∀ W, Calls Try.prog 64 #[.int .i64 (lv : Int)] W fun x w' => x = .returned (.string (ind lv)) ∧ w' = W) := fun W => l3indent_any lv W (by omega)
  have hiz := ind_size lv
  generalize ind lv = iv at HI hiz
  have hiz2 : iv.size ≤ 800 := by omega
  clear hiz
  have ze : ¬ 9223372036854775807 < iv.size + 3 := by omega
  have hc50 := (hP.k1 (by omega)).1
  have HXjs : Hid (∀ w1 ka kc, Below w.heap.size w w1 → RdP w1 ka pos c → ∀ W, Below w1.heap.size w1 W → Calls Try.prog 76 #[.slice (some ⟨b, off, none⟩) l.length cap, .slice ka c kc, .int .i64 (lv : Int)] W fun r w' => r = .returned (.string (joinS ss c)) ∧ Below w1.heap.size w1 w') := fun w1 ka kc h1 hp W hW => (exprs_any (by omega) zrjs Hjs b off cap W (hr.below (bup h1 hW)) ka kc (hp.below hW)).mono (fun _ _ h => ⟨h.1, bup hW h.2⟩)
  have hjjs := joinS_size ss c
  generalize joinS ss c = js at HXjs hjjs
  have hzjs : js.size ≤ 1000000000 := by omega
  clear hjjs
  obtain ⟨n, hnn⟩ : ∃ n, n = l.length := ⟨_, rfl⟩
  have HN : Hid (n = l.length) := hnn
  have CK : Hid (∀ W, Below w.heap.size w W → Calls Try.prog 63 #[.slice (some ⟨b, off, none⟩) n cap, .int .i64 (i : Int)] W fun x w' => ∃ ka kc, x = .returned (.slice ka c kc) ∧ RdP w' ka pos c ∧ Below W.heap.size W w' ∧ c ≤ kc) := fun W hW => by
    rw [HN.out]; exact kids_say hP hE hd hn b off cap W (hr.below hW)
  rw [← hnn] at HXjs
  clear Hjs
  unfold at2
  rw [← hnn] at hi hn ⊢
  generalize (l.getD i nd0).n = nn at c1
  generalize (l.getD i nd0).text.length = tl at c2
  generalize (l.getD i nd0).names.length = nl at c3
  generalize (l.getD i nd0).count = ct at c4
  clear hP hE hr hkn hnn htl htr htb hnl hnr
  go_enter Try.func65, Try.ntmps65
  have ic : (c == 0) = false := by simp; omega
  have ic2 : ((c : Int) == 0) = false := by simp; omega
  have z1 : ¬ 9223372036854775807 < 7 + js.size := by omega
  go_wp2_with (first | (go_at_call 76; (with_reducible refine Calls.mono (HXjs.out w1 _ _ HB1.out HP.out w1 (Below.refl _ _)) ?_); rintro r w3 ⟨rfl, hb⟩; have H3 : Hid _ := hb; clear hb) | (go_at_call 64; (with_reducible refine Calls.mono (HI.out _) ?_); rintro r wq ⟨rfl, hw⟩; replace hw := hw.symm; subst hw) | (go_at_call 63; refine (CK.out _ ((Below.refl _ _).alloc (Nat.le_refl _) _)).mono ?_; rintro r w1 ⟨ka, kc, rfl, hp, hb, hkc⟩; simp only [World.size_alloc] at hb; obtain ⟨a0, a1, a2, a3, a4, hw⟩ := nodeVar hb; have HB1 : Hid (Below w.heap.size w w1) := hw; have HP : Hid (RdP w1 ka pos _) := hp; clear hb hw hp))
  go_returns
  exact ⟨rfl, bup HB1.out H3.out⟩
set_option maxRecDepth 100000 in
set_option maxHeartbeats 1000000 in
theorem line_loc0 {l : List Nd} {d i e c lv : Nat} {lp : Bool} {pos : Nat → Nat} (hP : Parts l d i e c lp pos) (hE : endAt l (d + 1) i = some e) (hd : d + 1 ≤ 200) (hn : l.length ≤ 6000) (hlv : lv ≤ 400) (hk : knd l i = 1) (hc : c = 0) : Says l 65 (at2 i lv) ({ data := #[108, 111, 99, 97, 108, 32] } ++ joinK (l.getD i nd0).names (l.getD i nd0).names.length) := by
  intro b off cap w hr
  obtain ⟨b', off', ut, un, e1, c0, c1, c2, c3, c4, ht, hnm⟩ := hr i hP.low
  simp only [Option.some.injEq, Addr.mk.injEq, and_true] at e1
  obtain ⟨rfl, rfl⟩ := e1
  have hkn : (l.getD i nd0).kind = 1 := hk
  rw [hkn] at c0
  have hi := hP.low
  obtain ⟨ta, tc, rfl, htl, htr, htb⟩ := ht
  obtain ⟨na, nc, rfl, hnl, hnr⟩ := hnm
  have hwl := wrap_lv lv hlv
  have HI : Hid (∀ W, Calls Try.prog 64 #[.int .i64 (lv : Int)] W fun x w' => x = .returned (.string (ind lv)) ∧ w' = W) := fun W => l3indent_any lv W (by omega)
  have hiz := ind_size lv
  generalize ind lv = iv at HI hiz
  have hiz2 : iv.size ≤ 800 := by omega
  clear hiz
  have ze : ¬ 9223372036854775807 < iv.size + 3 := by omega
  subst hc
  have hsz := names_size hnr hnl
  have HL : Hid (∀ W, Below w.heap.size w W → Calls Try.prog 75 #[.slice na (l.getD i nd0).names.length nc] W fun x w' => x = .returned (.string (joinK (l.getD i nd0).names (l.getD i nd0).names.length)) ∧ w' = W) := fun W hW => l3list_any _ _ W (RdVV.below ⟨na, nc, rfl, hnl, hnr⟩ hW) hsz hP.names.2.2
  have hjz := joinK_size (l.getD i nd0).names _ (Nat.le_refl _)
  have hlz : lens (l.getD i nd0).names (l.getD i nd0).names.length ≤ 1048576 := by unfold sizeSS at hsz; omega
  generalize joinK (l.getD i nd0).names (l.getD i nd0).names.length = jn at HL hjz
  have hjn : jn.size ≤ 1052576 := by omega
  clear hjz hlz hsz
  obtain ⟨n, hnn⟩ : ∃ n, n = l.length := ⟨_, rfl⟩
  have HN : Hid (n = l.length) := hnn
  have CK : Hid (∀ W, Below w.heap.size w W → Calls Try.prog 63 #[.slice (some ⟨b, off, none⟩) n cap, .int .i64 (i : Int)] W fun x w' => ∃ ka kc, x = .returned (.slice ka 0 kc) ∧ RdP w' ka pos 0 ∧ Below W.heap.size W w' ∧ 0 ≤ kc) := fun W hW => by
    rw [HN.out]; exact kids_say hP hE hd hn b off cap W (hr.below hW)
  unfold at2
  rw [← hnn] at hi hn ⊢
  generalize (l.getD i nd0).n = nn at c1
  generalize (l.getD i nd0).text.length = tl at c2
  generalize (l.getD i nd0).names.length = nl at c3 HL hnl
  generalize (l.getD i nd0).count = ct at c4
  clear hP hE hr hkn hnn htl htr htb hnr
  go_enter Try.func65, Try.ntmps65
  have z1 : ¬ 9223372036854775807 < 6 + jn.size := by omega
  go_wp2_with (first | (go_at_call 75; (with_reducible refine Calls.mono (HL.out _ HB1.out) ?_); rintro r wq ⟨rfl, hw⟩; replace hw := hw.symm; subst hw) | (go_at_call 64; (with_reducible refine Calls.mono (HI.out _) ?_); rintro r wq ⟨rfl, hw⟩; replace hw := hw.symm; subst hw) | (go_at_call 63; refine (CK.out _ ((Below.refl _ _).alloc (Nat.le_refl _) _)).mono ?_; rintro r w1 ⟨ka, kc, rfl, hp, hb, hkc⟩; simp only [World.size_alloc] at hb; obtain ⟨a0, a1, a2, a3, a4, hw⟩ := nodeVar hb; have HB1 : Hid (Below w.heap.size w w1) := hw; have HP : Hid (RdP w1 ka pos _) := hp; clear hb hw hp))
  go_returns
  exact ⟨rfl, HB1.out⟩
set_option maxRecDepth 100000 in
set_option maxHeartbeats 1000000 in
theorem line_loc {l : List Nd} {d i e c lv : Nat} {lp : Bool} {pos : Nat → Nat} (hP : Parts l d i e c lp pos) (hE : endAt l (d + 1) i = some e) (hd : d + 1 ≤ 200) (hn : l.length ≤ 6000) (hlv : lv ≤ 400) (hk : knd l i = 1) {ss : Nat → ByteArray} (hc : 0 < c) (zrjs : room ss c ≤ 1000000000) (Hjs : ∀ k, k < c → Says l 77 (at2 (pos k) lv) (ss k)) : Says l 65 (at2 i lv) (({ data := #[108, 111, 99, 97, 108, 32] } ++ joinK (l.getD i nd0).names (l.getD i nd0).names.length) ++ ({ data := #[32, 61, 32] } ++ joinS ss c)) := by
  intro b off cap w hr
  obtain ⟨b', off', ut, un, e1, c0, c1, c2, c3, c4, ht, hnm⟩ := hr i hP.low
  simp only [Option.some.injEq, Addr.mk.injEq, and_true] at e1
  obtain ⟨rfl, rfl⟩ := e1
  have hkn : (l.getD i nd0).kind = 1 := hk
  rw [hkn] at c0
  have hi := hP.low
  obtain ⟨ta, tc, rfl, htl, htr, htb⟩ := ht
  obtain ⟨na, nc, rfl, hnl, hnr⟩ := hnm
  have hwl := wrap_lv lv hlv
  have HI : Hid (∀ W, Calls Try.prog 64 #[.int .i64 (lv : Int)] W fun x w' => x = .returned (.string (ind lv)) ∧ w' = W) := fun W => l3indent_any lv W (by omega)
  have hiz := ind_size lv
  generalize ind lv = iv at HI hiz
  have hiz2 : iv.size ≤ 800 := by omega
  clear hiz
  have ze : ¬ 9223372036854775807 < iv.size + 3 := by omega
  have hc50 := (hP.k1 (by omega)).1
  have hsz := names_size hnr hnl
  have HL : Hid (∀ W, Below w.heap.size w W → Calls Try.prog 75 #[.slice na (l.getD i nd0).names.length nc] W fun x w' => x = .returned (.string (joinK (l.getD i nd0).names (l.getD i nd0).names.length)) ∧ w' = W) := fun W hW => l3list_any _ _ W (RdVV.below ⟨na, nc, rfl, hnl, hnr⟩ hW) hsz hP.names.2.2
  have hjz := joinK_size (l.getD i nd0).names _ (Nat.le_refl _)
  have hlz : lens (l.getD i nd0).names (l.getD i nd0).names.length ≤ 1048576 := by unfold sizeSS at hsz; omega
  generalize joinK (l.getD i nd0).names (l.getD i nd0).names.length = jn at HL hjz
  have hjn : jn.size ≤ 1052576 := by omega
  clear hjz hlz hsz
  have HXjs : Hid (∀ w1 ka kc, Below w.heap.size w w1 → RdP w1 ka pos c → ∀ W, Below w1.heap.size w1 W → Calls Try.prog 76 #[.slice (some ⟨b, off, none⟩) l.length cap, .slice ka c kc, .int .i64 (lv : Int)] W fun r w' => r = .returned (.string (joinS ss c)) ∧ Below w1.heap.size w1 w') := fun w1 ka kc h1 hp W hW => (exprs_any (by omega) zrjs Hjs b off cap W (hr.below (bup h1 hW)) ka kc (hp.below hW)).mono (fun _ _ h => ⟨h.1, bup hW h.2⟩)
  have hjjs := joinS_size ss c
  generalize joinS ss c = js at HXjs hjjs
  have hzjs : js.size ≤ 1000000000 := by omega
  clear hjjs
  obtain ⟨n, hnn⟩ : ∃ n, n = l.length := ⟨_, rfl⟩
  have HN : Hid (n = l.length) := hnn
  have CK : Hid (∀ W, Below w.heap.size w W → Calls Try.prog 63 #[.slice (some ⟨b, off, none⟩) n cap, .int .i64 (i : Int)] W fun x w' => ∃ ka kc, x = .returned (.slice ka c kc) ∧ RdP w' ka pos c ∧ Below W.heap.size W w' ∧ c ≤ kc) := fun W hW => by
    rw [HN.out]; exact kids_say hP hE hd hn b off cap W (hr.below hW)
  rw [← hnn] at HXjs
  clear Hjs
  unfold at2
  rw [← hnn] at hi hn ⊢
  generalize (l.getD i nd0).n = nn at c1
  generalize (l.getD i nd0).text.length = tl at c2
  generalize (l.getD i nd0).names.length = nl at c3 HL hnl
  generalize (l.getD i nd0).count = ct at c4
  clear hP hE hr hkn hnn htl htr htb hnr
  go_enter Try.func65, Try.ntmps65
  have ic : (0 : Int) < (c : Int) := by omega
  have z0 : ¬ 9223372036854775807 < 6 + jn.size := by omega
  have z1 : ¬ 9223372036854775807 < 3 + js.size := by omega
  have z2 : ¬ 9223372036854775807 < 6 + jn.size + (3 + js.size) := by omega
  go_wp2_with (first | (go_at_call 76; (with_reducible refine Calls.mono (HXjs.out w1 _ _ HB1.out HP.out w1 (Below.refl _ _)) ?_); rintro r w3 ⟨rfl, hb⟩; have H3 : Hid _ := hb; clear hb) | (go_at_call 75; (with_reducible refine Calls.mono (HL.out _ HB1.out) ?_); rintro r wq ⟨rfl, hw⟩; replace hw := hw.symm; subst hw) | (go_at_call 64; (with_reducible refine Calls.mono (HI.out _) ?_); rintro r wq ⟨rfl, hw⟩; replace hw := hw.symm; subst hw) | (go_at_call 63; refine (CK.out _ ((Below.refl _ _).alloc (Nat.le_refl _) _)).mono ?_; rintro r w1 ⟨ka, kc, rfl, hp, hb, hkc⟩; simp only [World.size_alloc] at hb; obtain ⟨a0, a1, a2, a3, a4, hw⟩ := nodeVar hb; have HB1 : Hid (Below w.heap.size w w1) := hw; have HP : Hid (RdP w1 ka pos _) := hp; clear hb hw hp))
  go_returns
  exact ⟨rfl, bup HB1.out H3.out⟩
set_option maxRecDepth 100000 in
set_option maxHeartbeats 1000000 in
theorem line_do {l : List Nd} {d i e c lv : Nat} {lp : Bool} {pos : Nat → Nat} (hP : Parts l d i e c lp pos) (hE : endAt l (d + 1) i = some e) (hd : d + 1 ≤ 200) (hn : l.length ≤ 6000) (hlv : lv ≤ 400) (hk : knd l i = 3) {s0 : ByteArray} (z0 : s0.size ≤ 1000000000) (H0 : Says l 51 (at2 (pos 0) (lv + 1)) s0) : Says l 65 (at2 i lv) (({ data := #[100, 111, 10] } ++ s0) ++ (ind lv ++ { data := #[101, 110, 100] })) := by
  intro b off cap w hr
  obtain ⟨b', off', ut, un, e1, c0, c1, c2, c3, c4, ht, hnm⟩ := hr i hP.low
  simp only [Option.some.injEq, Addr.mk.injEq, and_true] at e1
  obtain ⟨rfl, rfl⟩ := e1
  have hkn : (l.getD i nd0).kind = 3 := hk
  rw [hkn] at c0
  have hi := hP.low
  obtain ⟨ta, tc, rfl, htl, htr, htb⟩ := ht
  obtain ⟨na, nc, rfl, hnl, hnr⟩ := hnm
  have hwl := wrap_lv lv hlv
  have HI : Hid (∀ W, Calls Try.prog 64 #[.int .i64 (lv : Int)] W fun x w' => x = .returned (.string (ind lv)) ∧ w' = W) := fun W => l3indent_any lv W (by omega)
  have hiz := ind_size lv
  generalize ind lv = iv at HI hiz
  have hiz2 : iv.size ≤ 800 := by omega
  clear hiz
  have ze : ¬ 9223372036854775807 < iv.size + 3 := by omega
  obtain ⟨rfl, x0⟩ := hP.k3 (by omega)
  obtain ⟨n, hnn⟩ : ∃ n, n = l.length := ⟨_, rfl⟩
  have HN : Hid (n = l.length) := hnn
  have CK : Hid (∀ W, Below w.heap.size w W → Calls Try.prog 63 #[.slice (some ⟨b, off, none⟩) n cap, .int .i64 (i : Int)] W fun x w' => ∃ ka kc, x = .returned (.slice ka 1 kc) ∧ RdP w' ka pos 1 ∧ Below W.heap.size W w' ∧ 1 ≤ kc) := fun W hW => by
    rw [HN.out]; exact kids_say hP hE hd hn b off cap W (hr.below hW)
  have HA : Hid (∀ w1, Below w.heap.size w w1 → ∀ W, Below w1.heap.size w1 W → Calls Try.prog 51 #[.slice (some ⟨b, off, none⟩) n cap, .int .i64 (pos 0 : Int), .int .i64 ((lv + 1 : Nat) : Int)] W fun r w' => r = .returned (.string s0) ∧ Below w1.heap.size w1 w') := fun w1 h1 W hW => by
    have h := Says.at (cap := cap) H0 hr h1 hW
    rw [HN.out]; exact h
  clear H0 x0
  unfold at2
  rw [← hnn] at hi hn ⊢
  generalize (l.getD i nd0).n = nn at c1
  generalize (l.getD i nd0).text.length = tl at c2
  generalize (l.getD i nd0).names.length = nl at c3
  generalize (l.getD i nd0).count = ct at c4
  clear hP hE hr hkn hnn htl htr htb hnl hnr
  go_enter Try.func65, Try.ntmps65
  have z0 : ¬ 9223372036854775807 < 3 + s0.size := by omega
  have z1 : ¬ 9223372036854775807 < 3 + s0.size + (iv.size + 3) := by omega
  go_wp2_with (first | (go_at_call 51; refine (CA.out w1 (Below.refl _ _)).mono ?_; rintro r w3 ⟨rfl, hb⟩; have H3 : Hid _ := hb; clear hb) | (go_at_call 64; (with_reducible refine Calls.mono (HI.out _) ?_); rintro r wq ⟨rfl, hw⟩; replace hw := hw.symm; subst hw) | (go_at_call 63; refine (CK.out _ ((Below.refl _ _).alloc (Nat.le_refl _) _)).mono ?_; rintro r w1 ⟨ka, kc, rfl, hp, hb, hkc⟩; simp only [World.size_alloc] at hb; obtain ⟨a0, a1, a2, a3, a4, hw⟩ := nodeVar hb; have HB1 : Hid (Below w.heap.size w w1) := hw; have HP : Hid (RdP w1 ka pos _) := hp; obtain ⟨kb, ko, rfl, p0⟩ := hp 0 (by omega); rw [Nat.add_zero] at p0; have CA : Hid (∀ W, Below w1.heap.size w1 W → Calls Try.prog 51 #[.slice (some ⟨b, off, none⟩) n cap, .int .i64 (pos 0 : Int), .int .i64 ((lv : Int) + 1)] W fun r w' => r = .returned (.string s0) ∧ Below w1.heap.size w1 w') := HA.out w1 hw; clear hb hw hp))
  go_returns
  exact ⟨rfl, bup HB1.out H3.out⟩
set_option maxRecDepth 100000 in
set_option maxHeartbeats 1000000 in
theorem line_while {l : List Nd} {d i e c lv : Nat} {lp : Bool} {pos : Nat → Nat} (hP : Parts l d i e c lp pos) (hE : endAt l (d + 1) i = some e) (hd : d + 1 ≤ 200) (hn : l.length ≤ 6000) (hlv : lv ≤ 400) (hk : knd l i = 4) {s0 s1 : ByteArray} (z0 : s0.size ≤ 1000000000) (z1 : s1.size ≤ 1000000000) (H0 : Says l 77 (at2 (pos 0) lv) s0) (H1 : Says l 51 (at2 (pos 1) (lv + 1)) s1) : Says l 65 (at2 i lv) (((({ data := #[119, 104, 105, 108, 101, 32] } ++ s0) ++ { data := #[32, 100, 111, 10] }) ++ s1) ++ (ind lv ++ { data := #[101, 110, 100] })) := by
  intro b off cap w hr
  obtain ⟨b', off', ut, un, e1, c0, c1, c2, c3, c4, ht, hnm⟩ := hr i hP.low
  simp only [Option.some.injEq, Addr.mk.injEq, and_true] at e1
  obtain ⟨rfl, rfl⟩ := e1
  have hkn : (l.getD i nd0).kind = 4 := hk
  rw [hkn] at c0
  have hi := hP.low
  obtain ⟨ta, tc, rfl, htl, htr, htb⟩ := ht
  obtain ⟨na, nc, rfl, hnl, hnr⟩ := hnm
  have hwl := wrap_lv lv hlv
  have HI : Hid (∀ W, Calls Try.prog 64 #[.int .i64 (lv : Int)] W fun x w' => x = .returned (.string (ind lv)) ∧ w' = W) := fun W => l3indent_any lv W (by omega)
  have hiz := ind_size lv
  generalize ind lv = iv at HI hiz
  have hiz2 : iv.size ≤ 800 := by omega
  clear hiz
  have ze : ¬ 9223372036854775807 < iv.size + 3 := by omega
  obtain ⟨rfl, x0, x1⟩ := hP.k4 hk
  obtain ⟨n, hnn⟩ : ∃ n, n = l.length := ⟨_, rfl⟩
  have HN : Hid (n = l.length) := hnn
  have CK : Hid (∀ W, Below w.heap.size w W → Calls Try.prog 63 #[.slice (some ⟨b, off, none⟩) n cap, .int .i64 (i : Int)] W fun x w' => ∃ ka kc, x = .returned (.slice ka 2 kc) ∧ RdP w' ka pos 2 ∧ Below W.heap.size W w' ∧ 2 ≤ kc) := fun W hW => by
    rw [HN.out]; exact kids_say hP hE hd hn b off cap W (hr.below hW)
  have HA : Hid (∀ w1, Below w.heap.size w w1 → ∀ W, Below w1.heap.size w1 W → Calls Try.prog 77 #[.slice (some ⟨b, off, none⟩) n cap, .int .i64 (pos 0 : Int), .int .i64 (lv : Int)] W fun r w' => r = .returned (.string s0) ∧ Below w1.heap.size w1 w') := fun w1 h1 W hW => by
    have h := Says.at (cap := cap) H0 hr h1 hW
    rw [HN.out]; exact h
  have HB : Hid (∀ w1, Below w.heap.size w w1 → ∀ W, Below w1.heap.size w1 W → Calls Try.prog 51 #[.slice (some ⟨b, off, none⟩) n cap, .int .i64 (pos 1 : Int), .int .i64 ((lv + 1 : Nat) : Int)] W fun r w' => r = .returned (.string s1) ∧ Below w1.heap.size w1 w') := fun w1 h1 W hW => by
    have h := Says.at (cap := cap) H1 hr h1 hW
    rw [HN.out]; exact h
  clear H0 H1 x0 x1
  unfold at2
  rw [← hnn] at hi hn ⊢
  generalize (l.getD i nd0).n = nn at c1
  generalize (l.getD i nd0).text.length = tl at c2
  generalize (l.getD i nd0).names.length = nl at c3
  generalize (l.getD i nd0).count = ct at c4
  clear hP hE hr hkn hnn htl htr htb hnl hnr
  go_enter Try.func65, Try.ntmps65
  have z0 : ¬ 9223372036854775807 < 6 + s0.size := by omega
  have z1 : ¬ 9223372036854775807 < 6 + s0.size + 4 := by omega
  have z2 : ¬ 9223372036854775807 < 6 + s0.size + 4 + s1.size := by omega
  have z3 : ¬ 9223372036854775807 < 6 + s0.size + 4 + s1.size + (iv.size + 3) := by omega
  go_wp2_with (first | (go_at_call 64; (with_reducible refine Calls.mono (HI.out _) ?_); rintro r wq ⟨rfl, hw⟩; replace hw := hw.symm; subst hw) | (go_at_call 63; refine (CK.out _ ((Below.refl _ _).alloc (Nat.le_refl _) _)).mono ?_; rintro r w1 ⟨ka, kc, rfl, hp, hb, hkc⟩; simp only [World.size_alloc] at hb; obtain ⟨a0, a1, a2, a3, a4, hw⟩ := nodeVar hb; have HB1 : Hid (Below w.heap.size w w1) := hw; have HP : Hid (RdP w1 ka pos _) := hp; obtain ⟨kb, ko, rfl, p0⟩ := hp 0 (by omega); rw [Nat.add_zero] at p0; have p1 := rdp_at hp 1 (by omega); clear hb hw hp))
  have CA : Hid _ := HA.out w1 HB1.out
  have CB : Hid (∀ W, Below w1.heap.size w1 W → Calls Try.prog 51 #[.slice (some ⟨b, off, none⟩) n cap, .int .i64 (pos 1 : Int), .int .i64 ((lv : Int) + 1)] W fun r w' => r = .returned (.string s1) ∧ Below w1.heap.size w1 w') := HB.out w1 HB1.out
  have HC : Hid (∀ W, Below w1.heap.size w1 W → W.cell? ⟨kb, ko, none⟩ = some (.int .i64 (pos 0 : Int)) ∧ W.cell? ⟨kb, ko + 1, none⟩ = some (.int .i64 (pos 1 : Int))) := fun W hW => ⟨cellBw p0 hW, cellBw p1 hW⟩
  go_region_held3 (fun W => W.cell? ⟨kb, ko, none⟩ = some (.int .i64 (pos 0 : Int)) ∧ W.cell? ⟨kb, ko + 1, none⟩ = some (.int .i64 (pos 1 : Int))) (first | with_reducible exact HC.out _ H4.out | with_reducible exact HC.out _ H3.out | exact HC.out _ (by repeat (first | exact Below.refl _ _ | refine Below.drew ?_ | refine bel_drewN ?_ _))) (first | (go_at_call 77; (with_reducible refine Calls.mono (CA.out _ (by repeat (first | exact Below.refl _ _ | exact H3.out | exact H4.out | refine Below.drew ?_ | refine bel_drewN ?_ _))) ?_); rintro r w3 ⟨rfl, hb⟩; have H3 : Hid _ := hb; clear hb) | (go_at_call 51; (with_reducible refine Calls.mono (CB.out _ (by repeat (first | exact Below.refl _ _ | exact H3.out | exact H4.out | refine Below.drew ?_ | refine bel_drewN ?_ _))) ?_); rintro r w4 ⟨rfl, hb⟩; have H4 : Hid _ := hb; clear hb))
  all_goals (go_wp2; go_returns; exact ⟨rfl, bup HB1.out H4.out⟩)
set_option maxRecDepth 100000 in
set_option maxHeartbeats 1000000 in
theorem line_repeat {l : List Nd} {d i e c lv : Nat} {lp : Bool} {pos : Nat → Nat} (hP : Parts l d i e c lp pos) (hE : endAt l (d + 1) i = some e) (hd : d + 1 ≤ 200) (hn : l.length ≤ 6000) (hlv : lv ≤ 400) (hk : knd l i = 5) {s0 s1 : ByteArray} (z0 : s0.size ≤ 1000000000) (z1 : s1.size ≤ 1000000000) (H0 : Says l 51 (at2 (pos 0) (lv + 1)) s0) (H1 : Says l 77 (at2 (pos 1) lv) s1) : Says l 65 (at2 i lv) (((({ data := #[114, 101, 112, 101, 97, 116, 10] } ++ s0) ++ ind lv) ++ { data := #[117, 110, 116, 105, 108, 32] }) ++ s1) := by
  intro b off cap w hr
  obtain ⟨b', off', ut, un, e1, c0, c1, c2, c3, c4, ht, hnm⟩ := hr i hP.low
  simp only [Option.some.injEq, Addr.mk.injEq, and_true] at e1
  obtain ⟨rfl, rfl⟩ := e1
  have hkn : (l.getD i nd0).kind = 5 := hk
  rw [hkn] at c0
  have hi := hP.low
  obtain ⟨ta, tc, rfl, htl, htr, htb⟩ := ht
  obtain ⟨na, nc, rfl, hnl, hnr⟩ := hnm
  have hwl := wrap_lv lv hlv
  have HI : Hid (∀ W, Calls Try.prog 64 #[.int .i64 (lv : Int)] W fun x w' => x = .returned (.string (ind lv)) ∧ w' = W) := fun W => l3indent_any lv W (by omega)
  have hiz := ind_size lv
  generalize ind lv = iv at HI hiz
  have hiz2 : iv.size ≤ 800 := by omega
  clear hiz
  have ze : ¬ 9223372036854775807 < iv.size + 3 := by omega
  obtain ⟨rfl, x0, x1⟩ := hP.k5 hk
  obtain ⟨n, hnn⟩ : ∃ n, n = l.length := ⟨_, rfl⟩
  have HN : Hid (n = l.length) := hnn
  have CK : Hid (∀ W, Below w.heap.size w W → Calls Try.prog 63 #[.slice (some ⟨b, off, none⟩) n cap, .int .i64 (i : Int)] W fun x w' => ∃ ka kc, x = .returned (.slice ka 2 kc) ∧ RdP w' ka pos 2 ∧ Below W.heap.size W w' ∧ 2 ≤ kc) := fun W hW => by
    rw [HN.out]; exact kids_say hP hE hd hn b off cap W (hr.below hW)
  have HA : Hid (∀ w1, Below w.heap.size w w1 → ∀ W, Below w1.heap.size w1 W → Calls Try.prog 51 #[.slice (some ⟨b, off, none⟩) n cap, .int .i64 (pos 0 : Int), .int .i64 ((lv + 1 : Nat) : Int)] W fun r w' => r = .returned (.string s0) ∧ Below w1.heap.size w1 w') := fun w1 h1 W hW => by
    have h := Says.at (cap := cap) H0 hr h1 hW
    rw [HN.out]; exact h
  have HB : Hid (∀ w1, Below w.heap.size w w1 → ∀ W, Below w1.heap.size w1 W → Calls Try.prog 77 #[.slice (some ⟨b, off, none⟩) n cap, .int .i64 (pos 1 : Int), .int .i64 (lv : Int)] W fun r w' => r = .returned (.string s1) ∧ Below w1.heap.size w1 w') := fun w1 h1 W hW => by
    have h := Says.at (cap := cap) H1 hr h1 hW
    rw [HN.out]; exact h
  clear H0 H1 x0 x1
  unfold at2
  rw [← hnn] at hi hn ⊢
  generalize (l.getD i nd0).n = nn at c1
  generalize (l.getD i nd0).text.length = tl at c2
  generalize (l.getD i nd0).names.length = nl at c3
  generalize (l.getD i nd0).count = ct at c4
  clear hP hE hr hkn hnn htl htr htb hnl hnr
  go_enter Try.func65, Try.ntmps65
  have z0 : ¬ 9223372036854775807 < 7 + s0.size := by omega
  have z1 : ¬ 9223372036854775807 < 7 + s0.size + iv.size := by omega
  have z2 : ¬ 9223372036854775807 < 7 + s0.size + iv.size + 6 := by omega
  have z3 : ¬ 9223372036854775807 < 7 + s0.size + iv.size + 6 + s1.size := by omega
  go_wp2_with (first | (go_at_call 64; (with_reducible refine Calls.mono (HI.out _) ?_); rintro r wq ⟨rfl, hw⟩; replace hw := hw.symm; subst hw) | (go_at_call 63; refine (CK.out _ ((Below.refl _ _).alloc (Nat.le_refl _) _)).mono ?_; rintro r w1 ⟨ka, kc, rfl, hp, hb, hkc⟩; simp only [World.size_alloc] at hb; obtain ⟨a0, a1, a2, a3, a4, hw⟩ := nodeVar hb; have HB1 : Hid (Below w.heap.size w w1) := hw; have HP : Hid (RdP w1 ka pos _) := hp; obtain ⟨kb, ko, rfl, p0⟩ := hp 0 (by omega); rw [Nat.add_zero] at p0; have p1 := rdp_at hp 1 (by omega); clear hb hw hp))
  have CB : Hid _ := HB.out w1 HB1.out
  have CA : Hid (∀ W, Below w1.heap.size w1 W → Calls Try.prog 51 #[.slice (some ⟨b, off, none⟩) n cap, .int .i64 (pos 0 : Int), .int .i64 ((lv : Int) + 1)] W fun r w' => r = .returned (.string s0) ∧ Below w1.heap.size w1 w') := HA.out w1 HB1.out
  have HC : Hid (∀ W, Below w1.heap.size w1 W → W.cell? ⟨kb, ko, none⟩ = some (.int .i64 (pos 0 : Int)) ∧ W.cell? ⟨kb, ko + 1, none⟩ = some (.int .i64 (pos 1 : Int))) := fun W hW => ⟨cellBw p0 hW, cellBw p1 hW⟩
  go_region_held3 (fun W => W.cell? ⟨kb, ko, none⟩ = some (.int .i64 (pos 0 : Int)) ∧ W.cell? ⟨kb, ko + 1, none⟩ = some (.int .i64 (pos 1 : Int))) (first | with_reducible exact HC.out _ H4.out | with_reducible exact HC.out _ H3.out | exact HC.out _ (by repeat (first | exact Below.refl _ _ | refine Below.drew ?_ | refine bel_drewN ?_ _))) (first | (go_at_call 51; (with_reducible refine Calls.mono (CA.out _ (by repeat (first | exact Below.refl _ _ | exact H3.out | exact H4.out | refine Below.drew ?_ | refine bel_drewN ?_ _))) ?_); rintro r w3 ⟨rfl, hb⟩; have H3 : Hid _ := hb; clear hb) | (go_at_call 64; (with_reducible refine Calls.mono (HI.out _) ?_); rintro r wq ⟨rfl, hw⟩; replace hw := hw.symm; subst hw) | (go_at_call 77; (with_reducible refine Calls.mono (CB.out _ (by repeat (first | exact Below.refl _ _ | exact H3.out | exact H4.out | refine Below.drew ?_ | refine bel_drewN ?_ _))) ?_); rintro r w4 ⟨rfl, hb⟩; have H4 : Hid _ := hb; clear hb))
  all_goals (go_wp2; go_returns; exact ⟨rfl, bup HB1.out H4.out⟩)
end Go.Proofs.Ytepbddfpdlapbaa.vt
