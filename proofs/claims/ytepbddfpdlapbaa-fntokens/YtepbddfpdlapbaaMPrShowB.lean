import Derived.Test.YtepbddfpdlapbaaMPrTable
import Derived.Test.YtepbddfpdlapbaaMPrNum
namespace Go.Proofs.Ytepbddfpdlapbaa.vt
open Go.RowKit Go.Proofs.Ytepbddfpdlapbaa.bts Go.Proofs.Ytepbddfpdlapbaa.nod Go.Proofs.Ytepbddfpdlapbaa.lex
theorem bup {a b c : World} (h : Below a.heap.size a b) (k : Below b.heap.size b c) : Below a.heap.size a c := h.trans (k.mono h.size)
theorem Says.at {l : List Nd} {f : Nat} {ag : Value → Array Value} {s : ByteArray} {b off cap : Nat} {w w1 W : World} (H : Says l f ag s) (hr : RdN w (some ⟨b, off, none⟩) l) (h1 : Below w.heap.size w w1) (hW : Below w1.heap.size w1 W) :
    Calls Try.prog f (ag (.slice (some ⟨b, off, none⟩) l.length cap)) W fun r w' => r = .returned (.string s) ∧ Below w1.heap.size w1 w' :=
  (H b off cap W (hr.below (bup h1 hW))).mono (fun _ _ h => ⟨h.1, bup hW h.2⟩)
theorem rdp_at {w : World} {b off m : Nat} {ps : Nat → Nat} (h : RdP w (some ⟨b, off, none⟩) ps m) (k : Nat) (hk : k < m) : w.cell? ⟨b, off + k, none⟩ = some (.int .i64 (ps k : Int)) := by
  obtain ⟨b', off', e, hc⟩ := h k hk
  simp only [Option.some.injEq, Addr.mk.injEq, and_true] at e
  obtain ⟨rfl, rfl⟩ := e
  exact hc
set_option maxRecDepth 100000 in
set_option maxHeartbeats 4000000 in
theorem show_nil {l : List Nd} {d i e c lv : Nat} {lp : Bool} {pos : Nat → Nat} (hP : Parts l d i e c lp pos) (hE : endAt l (d + 1) i = some e) (hd : d + 1 ≤ 200) (hn : l.length ≤ 6000) (_hlv : lv ≤ 400) (hk : knd l i = 11) : Says l 77 (at2 i lv) ({ data := #[110, 105, 108] }) := by
  intro b off cap w hr
  obtain ⟨b', off', ut, un, e1, c0, c1, c2, c3, c4, ht, hnm⟩ := hr i hP.low
  simp only [Option.some.injEq, Addr.mk.injEq, and_true] at e1
  obtain ⟨rfl, rfl⟩ := e1
  have hkn : (l.getD i nd0).kind = 11 := hk
  rw [hkn] at c0
  have hi := hP.low
  obtain ⟨ta, tc, rfl, htl, htr, htb⟩ := ht
  obtain ⟨na, nc, rfl, hnl, hnr⟩ := hnm
  obtain ⟨n, hnn⟩ : ∃ n, n = l.length := ⟨_, rfl⟩
  have HN : Hid (n = l.length) := hnn
  have CK : Hid (∀ W, Below w.heap.size w W → Calls Try.prog 63 #[.slice (some ⟨b, off, none⟩) n cap, .int .i64 (i : Int)] W fun x w' => ∃ ka kc, x = .returned (.slice ka c kc) ∧ RdP w' ka pos c ∧ Below W.heap.size W w' ∧ c ≤ kc) := fun W hW => by
    rw [HN.out]; exact kids_say hP hE hd hn b off cap W (hr.below hW)
  unfold at2
  rw [← hnn] at hi hn ⊢
  generalize (l.getD i nd0).n = nn at c1
  generalize (l.getD i nd0).text.length = tl at c2
  generalize (l.getD i nd0).names.length = nl at c3
  generalize (l.getD i nd0).count = ct at c4
  clear hP hE hr hkn hnn htl htr htb hnl hnr
  go_enter Try.func77, Try.ntmps77
  go_wp2_with (go_at_call 63; refine (CK.out _ ((Below.refl _ _).alloc (Nat.le_refl _) _)).mono ?_; rintro r w1 ⟨ka, kc, rfl, hp, hb, hkc⟩; simp only [World.size_alloc] at hb; obtain ⟨a0, a1, a2, a3, a4, hw⟩ := nodeVar hb; have HB1 : Hid (Below w.heap.size w w1) := hw; have HP : Hid (RdP w1 ka pos _) := hp; clear hb hw hp)
  go_returns
  exact ⟨rfl, HB1.out⟩
set_option maxRecDepth 100000 in
set_option maxHeartbeats 4000000 in
theorem show_true {l : List Nd} {d i e c lv : Nat} {lp : Bool} {pos : Nat → Nat} (hP : Parts l d i e c lp pos) (hE : endAt l (d + 1) i = some e) (hd : d + 1 ≤ 200) (hn : l.length ≤ 6000) (_hlv : lv ≤ 400) (hk : knd l i = 12) : Says l 77 (at2 i lv) ({ data := #[116, 114, 117, 101] }) := by
  intro b off cap w hr
  obtain ⟨b', off', ut, un, e1, c0, c1, c2, c3, c4, ht, hnm⟩ := hr i hP.low
  simp only [Option.some.injEq, Addr.mk.injEq, and_true] at e1
  obtain ⟨rfl, rfl⟩ := e1
  have hkn : (l.getD i nd0).kind = 12 := hk
  rw [hkn] at c0
  have hi := hP.low
  obtain ⟨ta, tc, rfl, htl, htr, htb⟩ := ht
  obtain ⟨na, nc, rfl, hnl, hnr⟩ := hnm
  obtain ⟨n, hnn⟩ : ∃ n, n = l.length := ⟨_, rfl⟩
  have HN : Hid (n = l.length) := hnn
  have CK : Hid (∀ W, Below w.heap.size w W → Calls Try.prog 63 #[.slice (some ⟨b, off, none⟩) n cap, .int .i64 (i : Int)] W fun x w' => ∃ ka kc, x = .returned (.slice ka c kc) ∧ RdP w' ka pos c ∧ Below W.heap.size W w' ∧ c ≤ kc) := fun W hW => by
    rw [HN.out]; exact kids_say hP hE hd hn b off cap W (hr.below hW)
  unfold at2
  rw [← hnn] at hi hn ⊢
  generalize (l.getD i nd0).n = nn at c1
  generalize (l.getD i nd0).text.length = tl at c2
  generalize (l.getD i nd0).names.length = nl at c3
  generalize (l.getD i nd0).count = ct at c4
  clear hP hE hr hkn hnn htl htr htb hnl hnr
  go_enter Try.func77, Try.ntmps77
  go_wp2_with (go_at_call 63; refine (CK.out _ ((Below.refl _ _).alloc (Nat.le_refl _) _)).mono ?_; rintro r w1 ⟨ka, kc, rfl, hp, hb, hkc⟩; simp only [World.size_alloc] at hb; obtain ⟨a0, a1, a2, a3, a4, hw⟩ := nodeVar hb; have HB1 : Hid (Below w.heap.size w w1) := hw; have HP : Hid (RdP w1 ka pos _) := hp; clear hb hw hp)
  go_returns
  exact ⟨rfl, HB1.out⟩
set_option maxRecDepth 100000 in
set_option maxHeartbeats 4000000 in
theorem show_false {l : List Nd} {d i e c lv : Nat} {lp : Bool} {pos : Nat → Nat} (hP : Parts l d i e c lp pos) (hE : endAt l (d + 1) i = some e) (hd : d + 1 ≤ 200) (hn : l.length ≤ 6000) (_hlv : lv ≤ 400) (hk : knd l i = 13) : Says l 77 (at2 i lv) ({ data := #[102, 97, 108, 115, 101] }) := by
  intro b off cap w hr
  obtain ⟨b', off', ut, un, e1, c0, c1, c2, c3, c4, ht, hnm⟩ := hr i hP.low
  simp only [Option.some.injEq, Addr.mk.injEq, and_true] at e1
  obtain ⟨rfl, rfl⟩ := e1
  have hkn : (l.getD i nd0).kind = 13 := hk
  rw [hkn] at c0
  have hi := hP.low
  obtain ⟨ta, tc, rfl, htl, htr, htb⟩ := ht
  obtain ⟨na, nc, rfl, hnl, hnr⟩ := hnm
  obtain ⟨n, hnn⟩ : ∃ n, n = l.length := ⟨_, rfl⟩
  have HN : Hid (n = l.length) := hnn
  have CK : Hid (∀ W, Below w.heap.size w W → Calls Try.prog 63 #[.slice (some ⟨b, off, none⟩) n cap, .int .i64 (i : Int)] W fun x w' => ∃ ka kc, x = .returned (.slice ka c kc) ∧ RdP w' ka pos c ∧ Below W.heap.size W w' ∧ c ≤ kc) := fun W hW => by
    rw [HN.out]; exact kids_say hP hE hd hn b off cap W (hr.below hW)
  unfold at2
  rw [← hnn] at hi hn ⊢
  generalize (l.getD i nd0).n = nn at c1
  generalize (l.getD i nd0).text.length = tl at c2
  generalize (l.getD i nd0).names.length = nl at c3
  generalize (l.getD i nd0).count = ct at c4
  clear hP hE hr hkn hnn htl htr htb hnl hnr
  go_enter Try.func77, Try.ntmps77
  go_wp2_with (go_at_call 63; refine (CK.out _ ((Below.refl _ _).alloc (Nat.le_refl _) _)).mono ?_; rintro r w1 ⟨ka, kc, rfl, hp, hb, hkc⟩; simp only [World.size_alloc] at hb; obtain ⟨a0, a1, a2, a3, a4, hw⟩ := nodeVar hb; have HB1 : Hid (Below w.heap.size w w1) := hw; have HP : Hid (RdP w1 ka pos _) := hp; clear hb hw hp)
  go_returns
  exact ⟨rfl, HB1.out⟩
set_option maxRecDepth 100000 in
set_option maxHeartbeats 4000000 in
theorem show_neg {l : List Nd} {d i e c lv : Nat} {lp : Bool} {pos : Nat → Nat} (hP : Parts l d i e c lp pos) (hE : endAt l (d + 1) i = some e) (hd : d + 1 ≤ 200) (hn : l.length ≤ 6000) (_hlv : lv ≤ 400) (hk : knd l i = 14) {s : ByteArray} (hneg : (l.getD i nd0).n < 0) (HX : ∀ w, Calls Try.prog 83 #[.int .i64 (l.getD i nd0).n] w fun x w' => x = .returned (.string s) ∧ w' = w) : Says l 77 (at2 i lv) (s) := by
  intro b off cap w hr
  obtain ⟨b', off', ut, un, e1, c0, c1, c2, c3, c4, ht, hnm⟩ := hr i hP.low
  simp only [Option.some.injEq, Addr.mk.injEq, and_true] at e1
  obtain ⟨rfl, rfl⟩ := e1
  have hkn : (l.getD i nd0).kind = 14 := hk
  rw [hkn] at c0
  have hi := hP.low
  obtain ⟨ta, tc, rfl, htl, htr, htb⟩ := ht
  obtain ⟨na, nc, rfl, hnl, hnr⟩ := hnm
  have HX : Hid (∀ w, Calls Try.prog 83 #[.int .i64 (l.getD i nd0).n] w fun x w' => x = .returned (.string s) ∧ w' = w) := HX
  obtain ⟨n, hnn⟩ : ∃ n, n = l.length := ⟨_, rfl⟩
  have HN : Hid (n = l.length) := hnn
  have CK : Hid (∀ W, Below w.heap.size w W → Calls Try.prog 63 #[.slice (some ⟨b, off, none⟩) n cap, .int .i64 (i : Int)] W fun x w' => ∃ ka kc, x = .returned (.slice ka c kc) ∧ RdP w' ka pos c ∧ Below W.heap.size W w' ∧ c ≤ kc) := fun W hW => by
    rw [HN.out]; exact kids_say hP hE hd hn b off cap W (hr.below hW)
  unfold at2
  rw [← hnn] at hi hn ⊢
  generalize (l.getD i nd0).n = nn at c1 hneg HX
  generalize (l.getD i nd0).text.length = tl at c2
  generalize (l.getD i nd0).names.length = nl at c3
  generalize (l.getD i nd0).count = ct at c4
  clear hP hE hr hkn hnn htl htr htb hnl hnr
  go_enter Try.func77, Try.ntmps77
  go_wp2_with (first | (go_at_call 83; refine (HX.out _).mono ?_; rintro r w2 ⟨rfl, hw⟩; replace hw := hw.symm; subst hw) | (go_at_call 63; refine (CK.out _ ((Below.refl _ _).alloc (Nat.le_refl _) _)).mono ?_; rintro r w1 ⟨ka, kc, rfl, hp, hb, hkc⟩; simp only [World.size_alloc] at hb; obtain ⟨a0, a1, a2, a3, a4, hw⟩ := nodeVar hb; have HB1 : Hid (Below w.heap.size w w1) := hw; have HP : Hid (RdP w1 ka pos _) := hp; clear hb hw hp))
  go_returns
  exact ⟨rfl, HB1.out⟩
set_option maxRecDepth 100000 in
set_option maxHeartbeats 4000000 in
theorem show_pos {l : List Nd} {d i e c lv : Nat} {lp : Bool} {pos : Nat → Nat} (hP : Parts l d i e c lp pos) (hE : endAt l (d + 1) i = some e) (hd : d + 1 ≤ 200) (hn : l.length ≤ 6000) (_hlv : lv ≤ 400) (hk : knd l i = 14) {zs : List Int} (hpos : 0 ≤ (l.getD i nd0).n) (HX : Bytes 25 #[.int .i64 (l.getD i nd0).n] zs) : Says l 77 (at2 i lv) (strOfNums zs) := by
  intro b off cap w hr
  obtain ⟨b', off', ut, un, e1, c0, c1, c2, c3, c4, ht, hnm⟩ := hr i hP.low
  simp only [Option.some.injEq, Addr.mk.injEq, and_true] at e1
  obtain ⟨rfl, rfl⟩ := e1
  have hkn : (l.getD i nd0).kind = 14 := hk
  rw [hkn] at c0
  have hi := hP.low
  obtain ⟨ta, tc, rfl, htl, htr, htb⟩ := ht
  obtain ⟨na, nc, rfl, hnl, hnr⟩ := hnm
  have HX : Hid (Bytes 25 #[.int .i64 (l.getD i nd0).n] zs) := HX
  have hpos2 : ¬ ((l.getD i nd0).n < 0) := by omega
  obtain ⟨n, hnn⟩ : ∃ n, n = l.length := ⟨_, rfl⟩
  have HN : Hid (n = l.length) := hnn
  have CK : Hid (∀ W, Below w.heap.size w W → Calls Try.prog 63 #[.slice (some ⟨b, off, none⟩) n cap, .int .i64 (i : Int)] W fun x w' => ∃ ka kc, x = .returned (.slice ka c kc) ∧ RdP w' ka pos c ∧ Below W.heap.size W w' ∧ c ≤ kc) := fun W hW => by
    rw [HN.out]; exact kids_say hP hE hd hn b off cap W (hr.below hW)
  unfold at2
  rw [← hnn] at hi hn ⊢
  generalize (l.getD i nd0).n = nn at c1 hpos hpos2 HX
  generalize (l.getD i nd0).text.length = tl at c2
  generalize (l.getD i nd0).names.length = nl at c3
  generalize (l.getD i nd0).count = ct at c4
  clear hP hE hr hkn hnn htl htr htb hnl hnr
  go_enter Try.func77, Try.ntmps77
  go_wp2_with (first | (go_at_call 25; refine (HX.out _).mono ?_; rintro r w2 ⟨g2, c2, rfl, ho, hb⟩; have kv := own_str ho; have HB2 : Hid (Below w.heap.size w w2) := bup HB1.out hb; clear ho hb) | (go_at_call 63; refine (CK.out _ ((Below.refl _ _).alloc (Nat.le_refl _) _)).mono ?_; rintro r w1 ⟨ka, kc, rfl, hp, hb, hkc⟩; simp only [World.size_alloc] at hb; obtain ⟨a0, a1, a2, a3, a4, hw⟩ := nodeVar hb; have HB1 : Hid (Below w.heap.size w w1) := hw; have HP : Hid (RdP w1 ka pos _) := hp; clear hb hw hp))
  go_returns
  exact ⟨rfl, HB2.out⟩
set_option maxRecDepth 100000 in
set_option maxHeartbeats 4000000 in
theorem show_text {l : List Nd} {d i e c lv : Nat} {lp : Bool} {pos : Nat → Nat} (hP : Parts l d i e c lp pos) (hE : endAt l (d + 1) i = some e) (hd : d + 1 ≤ 200) (hn : l.length ≤ 6000) (_hlv : lv ≤ 400) (hk : knd l i = 15) : Says l 77 (at2 i lv) (strOfNums (quo.quote (l.getD i nd0).text)) := by
  intro b off cap w hr
  obtain ⟨b', off', ut, un, e1, c0, c1, c2, c3, c4, ht, hnm⟩ := hr i hP.low
  simp only [Option.some.injEq, Addr.mk.injEq, and_true] at e1
  obtain ⟨rfl, rfl⟩ := e1
  have hkn : (l.getD i nd0).kind = 15 := hk
  rw [hkn] at c0
  have hi := hP.low
  obtain ⟨ta, tc, rfl, htl, htr, htb⟩ := ht
  obtain ⟨na, nc, rfl, hnl, hnr⟩ := hnm
  have HQ : Hid (∀ W, Below w.heap.size w W → Calls Try.prog 84 #[.slice ta (l.getD i nd0).text.length tc] W fun e w' => ∃ g' cap', e = .returned (.slice (some ⟨g', 0, none⟩) (quo.quote (l.getD i nd0).text).length cap') ∧ w'.ownsRow W.heap.size 5 1 (.slice (some ⟨g', 0, none⟩) (quo.quote (l.getD i nd0).text).length cap') (quo.quote (l.getD i nd0).text).length (bcells (quo.quote (l.getD i nd0).text)) ∧ Below W.heap.size W w') := fun W hW => quo.specQuote_any ta tc _ W (htr.below hW) htb (by omega)
  generalize quo.quote (l.getD i nd0).text = qs at HQ
  obtain ⟨n, hnn⟩ : ∃ n, n = l.length := ⟨_, rfl⟩
  have HN : Hid (n = l.length) := hnn
  have CK : Hid (∀ W, Below w.heap.size w W → Calls Try.prog 63 #[.slice (some ⟨b, off, none⟩) n cap, .int .i64 (i : Int)] W fun x w' => ∃ ka kc, x = .returned (.slice ka c kc) ∧ RdP w' ka pos c ∧ Below W.heap.size W w' ∧ c ≤ kc) := fun W hW => by
    rw [HN.out]; exact kids_say hP hE hd hn b off cap W (hr.below hW)
  unfold at2
  rw [← hnn] at hi hn ⊢
  generalize (l.getD i nd0).n = nn at c1
  generalize (l.getD i nd0).text.length = tl at c2 HQ
  generalize (l.getD i nd0).names.length = nl at c3
  generalize (l.getD i nd0).count = ct at c4
  clear hP hE hr hkn hnn htl htr htb hnl hnr
  go_enter Try.func77, Try.ntmps77
  go_wp2_with (first | (go_at_call 84; refine (HQ.out _ HB1.out).mono ?_; rintro r w2 ⟨g2, c2, rfl, ho, hb⟩; have kv := own_str ho; have HB2 : Hid (Below w.heap.size w w2) := bup HB1.out hb; clear ho hb) | (go_at_call 63; refine (CK.out _ ((Below.refl _ _).alloc (Nat.le_refl _) _)).mono ?_; rintro r w1 ⟨ka, kc, rfl, hp, hb, hkc⟩; simp only [World.size_alloc] at hb; obtain ⟨a0, a1, a2, a3, a4, hw⟩ := nodeVar hb; have HB1 : Hid (Below w.heap.size w w1) := hw; have HP : Hid (RdP w1 ka pos _) := hp; clear hb hw hp))
  go_returns
  exact ⟨rfl, HB2.out⟩
set_option maxRecDepth 100000 in
set_option maxHeartbeats 4000000 in
theorem show_name {l : List Nd} {d i e c lv : Nat} {lp : Bool} {pos : Nat → Nat} (hP : Parts l d i e c lp pos) (hE : endAt l (d + 1) i = some e) (hd : d + 1 ≤ 200) (hn : l.length ≤ 6000) (_hlv : lv ≤ 400) (hk : knd l i = 16) : Says l 77 (at2 i lv) (strOfNums ((l.getD i nd0).names.getD 0 [])) := by
  intro b off cap w hr
  obtain ⟨b', off', ut, un, e1, c0, c1, c2, c3, c4, ht, hnm⟩ := hr i hP.low
  simp only [Option.some.injEq, Addr.mk.injEq, and_true] at e1
  obtain ⟨rfl, rfl⟩ := e1
  have hkn : (l.getD i nd0).kind = 16 := hk
  rw [hkn] at c0
  have hi := hP.low
  obtain ⟨ta, tc, rfl, htl, htr, htb⟩ := ht
  obtain ⟨na, nc, rfl, hnl, hnr⟩ := hnm
  have h1 : (l.getD i nd0).names.length = 1 := by have h := hP.names; rw [hk] at h; have e1 : least 16 = 1 := rfl; have e2 : most 16 = 1 := rfl; omega
  have h2 := hP.names.2.2 0 (by omega)
  obtain ⟨nb, no, u, rfl, nc0, ua, uc, rfl, ul, ur, ub⟩ := hnr 0 (by omega)
  rw [Nat.add_zero] at nc0
  have HV : Hid (∀ W, Below w.heap.size w W → W.cell? ⟨nb, no, none⟩ = some (.slice ua ((l.getD i nd0).names.getD 0 []).length uc) ∧ (convert 22 9 (.slice ua ((l.getD i nd0).names.getD 0 []).length uc)).run Try.prog W = .ok (.string (strOfNums ((l.getD i nd0).names.getD 0 []))) W) := fun W hW => ⟨cellBw nc0 hW, rd_str (ur.below hW) h2⟩
  generalize strOfNums ((l.getD i nd0).names.getD 0 []) = ns at HV
  generalize ((l.getD i nd0).names.getD 0 []).length = ul at HV nc0 ul h2
  obtain ⟨n, hnn⟩ : ∃ n, n = l.length := ⟨_, rfl⟩
  have HN : Hid (n = l.length) := hnn
  have CK : Hid (∀ W, Below w.heap.size w W → Calls Try.prog 63 #[.slice (some ⟨b, off, none⟩) n cap, .int .i64 (i : Int)] W fun x w' => ∃ ka kc, x = .returned (.slice ka c kc) ∧ RdP w' ka pos c ∧ Below W.heap.size W w' ∧ c ≤ kc) := fun W hW => by
    rw [HN.out]; exact kids_say hP hE hd hn b off cap W (hr.below hW)
  unfold at2
  rw [← hnn] at hi hn ⊢
  generalize (l.getD i nd0).n = nn at c1
  generalize (l.getD i nd0).text.length = tl at c2
  generalize (l.getD i nd0).names.length = nl at c3 h1 hnl
  generalize (l.getD i nd0).count = ct at c4
  clear hP hE hr hkn hnn htl htr htb ul ur ub h2 nc0
  go_enter Try.func77, Try.ntmps77
  go_wp2_with (go_at_call 63; refine (CK.out _ ((Below.refl _ _).alloc (Nat.le_refl _) _)).mono ?_; rintro r w1 ⟨ka, kc, rfl, hp, hb, hkc⟩; simp only [World.size_alloc] at hb; obtain ⟨a0, a1, a2, a3, a4, hw⟩ := nodeVar hb; have HB1 : Hid (Below w.heap.size w w1) := hw; have HP : Hid (RdP w1 ka pos _) := hp; obtain ⟨v0, v1⟩ := HV.out w1 hw; clear hb hw hp)
  go_returns
  exact ⟨rfl, HB1.out⟩
theorem nodeAt {w : World} {b off p : Nat} {l : List Nd} (hr : RdN w (some ⟨b, off, none⟩) l) (hp : p < l.length) : ∃ ta tc na nc, w.cell? ⟨b, off + p * 5, none⟩ = some (.int .i64 (knd l p)) ∧ w.cell? ⟨b, off + p * 5 + 1, none⟩ = some (.int .i64 (l.getD p nd0).n) ∧ w.cell? ⟨b, off + p * 5 + 2, none⟩ = some (.slice ta (l.getD p nd0).text.length tc) ∧ w.cell? ⟨b, off + p * 5 + 3, none⟩ = some (.slice na (l.getD p nd0).names.length nc) ∧ w.cell? ⟨b, off + p * 5 + 4, none⟩ = some (.int .i64 (l.getD p nd0).count) ∧ (l.getD p nd0).text.length ≤ 1000 ∧ Rd w ta (l.getD p nd0).text ∧ Bts (l.getD p nd0).text ∧ RdVV w (.slice na (l.getD p nd0).names.length nc) (l.getD p nd0).names := by
  obtain ⟨b', off', ut, un, e1, c0, c1, c2, c3, c4, ht, hnm⟩ := hr p hp
  simp only [Option.some.injEq, Addr.mk.injEq, and_true] at e1
  obtain ⟨rfl, rfl⟩ := e1
  obtain ⟨ta, tc, rfl, htl, htr, htb⟩ := ht
  have hnm2 := hnm
  obtain ⟨na, nc, rfl, hnl, hnr⟩ := hnm2
  exact ⟨ta, tc, na, nc, c0, c1, c2, c3, c4, htl, htr, htb, hnm⟩
set_option maxRecDepth 100000 in
set_option maxHeartbeats 4000000 in
theorem show_dot {l : List Nd} {d i e c lv : Nat} {lp : Bool} {pos : Nat → Nat} (hP : Parts l d i e c lp pos) (hE : endAt l (d + 1) i = some e) (hd : d + 1 ≤ 200) (hn : l.length ≤ 6000) (_hlv : lv ≤ 400) (hk : knd l i = 17) {s0 : ByteArray} (hkey : knd l (pos 1) = 15) (hin : isName (l.getD (pos 1) nd0).text = true) (z0 : s0.size ≤ 1000000000) (H0 : Says l 85 (at2 (pos 0) lv) s0) : Says l 77 (at2 i lv) ((s0 ++ { data := #[46] }) ++ strOfNums (l.getD (pos 1) nd0).text) := by
  intro b off cap w hr
  obtain ⟨b', off', ut, un, e1, c0, c1, c2, c3, c4, ht, hnm⟩ := hr i hP.low
  simp only [Option.some.injEq, Addr.mk.injEq, and_true] at e1
  obtain ⟨rfl, rfl⟩ := e1
  have hkn : (l.getD i nd0).kind = 17 := hk
  rw [hkn] at c0
  have hi := hP.low
  obtain ⟨ta, tc, rfl, htl, htr, htb⟩ := ht
  obtain ⟨na, nc, rfl, hnl, hnr⟩ := hnm
  obtain ⟨rfl, x0, x1⟩ := hP.k17 (by omega)
  have hp1 : pos 1 < l.length := by have := endAt_bd (hP.ends 1 (by omega)); omega
  obtain ⟨tb, td, nb, nd, d0, d1, d2, d3, d4, dl, dr, db, _⟩ := nodeAt hr hp1
  have HD : Hid (∀ W, Below w.heap.size w W → W.cell? ⟨b, off + pos 1 * 5, none⟩ = some (.int .i64 (knd l (pos 1))) ∧ W.cell? ⟨b, off + pos 1 * 5 + 1, none⟩ = some (.int .i64 (l.getD (pos 1) nd0).n) ∧ W.cell? ⟨b, off + pos 1 * 5 + 2, none⟩ = some (.slice tb (l.getD (pos 1) nd0).text.length td) ∧ W.cell? ⟨b, off + pos 1 * 5 + 3, none⟩ = some (.slice nb (l.getD (pos 1) nd0).names.length nd) ∧ W.cell? ⟨b, off + pos 1 * 5 + 4, none⟩ = some (.int .i64 (l.getD (pos 1) nd0).count)) := fun W hW => ⟨cellBw d0 hW, cellBw d1 hW, cellBw d2 hW, cellBw d3 hW, cellBw d4 hW⟩
  have CI : Hid (∀ W, Below w.heap.size w W → Calls Try.prog 80 #[.slice tb (l.getD (pos 1) nd0).text.length td] W fun r w' => r = .returned (.bool (isName (l.getD (pos 1) nd0).text)) ∧ Below W.heap.size W w') := fun W hW => l3isName_any tb _ td _ W rfl (dr.below hW) db (by omega)
  have h0 : 0 < (l.getD (pos 1) nd0).text.length := by have h := hin; unfold isName at h; simp only [Bool.and_eq_true, decide_eq_true_eq] at h; exact h.1
  have HV : Hid (∀ W, Below w.heap.size w W → (convert 22 9 (.slice tb (l.getD (pos 1) nd0).text.length td)).run Try.prog W = .ok (.string (strOfNums (l.getD (pos 1) nd0).text)) W) := fun W hW => rd_str (dr.below hW) h0
  have hts := strOfNums_size (l.getD (pos 1) nd0).text
  generalize (l.getD (pos 1) nd0).n = n1 at HD d1
  generalize (l.getD (pos 1) nd0).names.length = l1 at HD d3
  generalize (l.getD (pos 1) nd0).count = t1 at HD d4
  rw [hkey] at HD d0
  generalize strOfNums (l.getD (pos 1) nd0).text = ts at HV hts
  rw [hin] at CI
  generalize (l.getD (pos 1) nd0).text.length = tm at HD CI HV hts d2 dl h0
  obtain ⟨n, hnn⟩ : ∃ n, n = l.length := ⟨_, rfl⟩
  have HN : Hid (n = l.length) := hnn
  have CK : Hid (∀ W, Below w.heap.size w W → Calls Try.prog 63 #[.slice (some ⟨b, off, none⟩) n cap, .int .i64 (i : Int)] W fun x w' => ∃ ka kc, x = .returned (.slice ka 2 kc) ∧ RdP w' ka pos 2 ∧ Below W.heap.size W w' ∧ 2 ≤ kc) := fun W hW => by
    rw [HN.out]; exact kids_say hP hE hd hn b off cap W (hr.below hW)
  have HA : Hid (∀ w1, Below w.heap.size w w1 → ∀ W, Below w1.heap.size w1 W → Calls Try.prog 85 #[.slice (some ⟨b, off, none⟩) n cap, .int .i64 (pos 0 : Int), .int .i64 (lv : Int)] W fun r w' => r = .returned (.string s0) ∧ Below w1.heap.size w1 w') := fun w1 h1 W hW => by
    have h := Says.at (cap := cap) H0 hr h1 hW
    rw [HN.out]; exact h
  have j1 : ((pos 1 : Nat) : Int) < (n : Int) := by rw [hnn]; omega
  clear d0 d1 d2 d3 d4 dr db h0 x0 x1 hp1 hkey H0
  unfold at2
  rw [← hnn] at hi hn ⊢
  generalize (l.getD i nd0).n = nn at c1
  generalize (l.getD i nd0).text.length = tl at c2
  generalize (l.getD i nd0).names.length = nl at c3
  generalize (l.getD i nd0).count = ct at c4
  clear hP hE hr hkn hnn htl htr htb hnl hnr hin
  go_enter Try.func77, Try.ntmps77
  have z0 : ¬ 9223372036854775807 < s0.size + 1 := by omega
  have z1 : ¬ 9223372036854775807 < s0.size + 1 + ts.size := by omega
  have z2 : ¬ 9223372036854775807 < s0.size + 1 + tm := by omega
  go_wp2_with (first | (go_at_call 80; refine (CI.out _ (bup HB1.out ((Below.refl _ _).alloc (Nat.le_refl _) _))).mono ?_; rintro r w2 ⟨rfl, hb⟩; simp only [World.size_alloc] at hb; obtain ⟨b0, b1, b2, b3, b4, hw2⟩ := nodeVar hb; have HB2 : Hid (Below w.heap.size w w2) := bup HB1.out hw2; have r0 := cellBw p0 hw2; have r1 := cellBw p1 hw2; (try rw [hin]); clear hb hw2) | (go_at_call 63; refine (CK.out _ ((Below.refl _ _).alloc (Nat.le_refl _) _)).mono ?_; rintro r w1 ⟨ka, kc, rfl, hp, hb, hkc⟩; simp only [World.size_alloc] at hb; obtain ⟨a0, a1, a2, a3, a4, hw⟩ := nodeVar hb; have HB1 : Hid (Below w.heap.size w w1) := hw; have HP : Hid (RdP w1 ka pos _) := hp; obtain ⟨kb, ko, rfl, p0⟩ := hp 0 (by omega); rw [Nat.add_zero] at p0; have p1 := rdp_at hp 1 (by omega); obtain ⟨q0, q1, q2, q3, q4⟩ := HD.out w1 hw; clear hb hw hp))
  have CA : Hid _ := HA.out w2 HB2.out
  have HC : Hid (∀ W, Below w2.heap.size w2 W → W.cell? ⟨kb, ko, none⟩ = some (.int .i64 (pos 0 : Int)) ∧ W.cell? ⟨w1.heap.size, 2, none⟩ = some (.slice tb tm td) ∧ (convert 22 9 (.slice tb tm td)).run Try.prog W = .ok (.string ts) W) := fun W hW => ⟨cellBw r0 hW, cellBw b2 hW, HV.out _ (bup HB2.out hW)⟩
  go_region_held3 (fun W => W.cell? ⟨kb, ko, none⟩ = some (.int .i64 (pos 0 : Int)) ∧ W.cell? ⟨w1.heap.size, 2, none⟩ = some (.slice tb tm td) ∧ (convert 22 9 (.slice tb tm td)).run Try.prog W = .ok (.string ts) W) (first | with_reducible exact HC.out _ H3.out | exact HC.out _ (by repeat (first | exact Below.refl _ _ | refine Below.drew ?_ | refine bel_drewN ?_ _))) (first | (go_at_call 85; (with_reducible refine Calls.mono (CA.out _ (by repeat (first | exact Below.refl _ _ | exact H3.out | refine Below.drew ?_ | refine bel_drewN ?_ _))) ?_); rintro r w3 ⟨rfl, hb⟩; have H3 : Hid _ := hb; have kv3 := HV.out _ (bup HB2.out hb); clear hb))
  all_goals (go_wp2; go_returns; exact ⟨rfl, bup HB2.out H3.out⟩)
set_option maxRecDepth 100000 in
set_option maxHeartbeats 4000000 in
theorem show_at15 {l : List Nd} {d i e c lv : Nat} {lp : Bool} {pos : Nat → Nat} (hP : Parts l d i e c lp pos) (hE : endAt l (d + 1) i = some e) (hd : d + 1 ≤ 200) (hn : l.length ≤ 6000) (_hlv : lv ≤ 400) (hk : knd l i = 17) {s0 s1 : ByteArray} (hkey : knd l (pos 1) = 15) (hin : isName (l.getD (pos 1) nd0).text = false) (z0 : s0.size ≤ 1000000000) (z1 : s1.size ≤ 1000000000) (H0 : Says l 85 (at2 (pos 0) lv) s0) (H1 : Says l 77 (at2 (pos 1) lv) s1) : Says l 77 (at2 i lv) (((s0 ++ { data := #[91] }) ++ s1) ++ { data := #[93] }) := by
  intro b off cap w hr
  obtain ⟨b', off', ut, un, e1, c0, c1, c2, c3, c4, ht, hnm⟩ := hr i hP.low
  simp only [Option.some.injEq, Addr.mk.injEq, and_true] at e1
  obtain ⟨rfl, rfl⟩ := e1
  have hkn : (l.getD i nd0).kind = 17 := hk
  rw [hkn] at c0
  have hi := hP.low
  obtain ⟨ta, tc, rfl, htl, htr, htb⟩ := ht
  obtain ⟨na, nc, rfl, hnl, hnr⟩ := hnm
  obtain ⟨rfl, x0, x1⟩ := hP.k17 (by omega)
  have hp1 : pos 1 < l.length := by have := endAt_bd (hP.ends 1 (by omega)); omega
  obtain ⟨tb, td, nb, nd, d0, d1, d2, d3, d4, dl, dr, db, _⟩ := nodeAt hr hp1
  have HD : Hid (∀ W, Below w.heap.size w W → W.cell? ⟨b, off + pos 1 * 5, none⟩ = some (.int .i64 (knd l (pos 1))) ∧ W.cell? ⟨b, off + pos 1 * 5 + 1, none⟩ = some (.int .i64 (l.getD (pos 1) nd0).n) ∧ W.cell? ⟨b, off + pos 1 * 5 + 2, none⟩ = some (.slice tb (l.getD (pos 1) nd0).text.length td) ∧ W.cell? ⟨b, off + pos 1 * 5 + 3, none⟩ = some (.slice nb (l.getD (pos 1) nd0).names.length nd) ∧ W.cell? ⟨b, off + pos 1 * 5 + 4, none⟩ = some (.int .i64 (l.getD (pos 1) nd0).count)) := fun W hW => ⟨cellBw d0 hW, cellBw d1 hW, cellBw d2 hW, cellBw d3 hW, cellBw d4 hW⟩
  have CI : Hid (∀ W, Below w.heap.size w W → Calls Try.prog 80 #[.slice tb (l.getD (pos 1) nd0).text.length td] W fun r w' => r = .returned (.bool (isName (l.getD (pos 1) nd0).text)) ∧ Below W.heap.size W w') := fun W hW => l3isName_any tb _ td _ W rfl (dr.below hW) db (by omega)
  generalize (l.getD (pos 1) nd0).n = n1 at HD d1
  generalize (l.getD (pos 1) nd0).names.length = l1 at HD d3
  generalize (l.getD (pos 1) nd0).count = t1 at HD d4
  rw [hkey] at HD d0
  rw [hin] at CI
  generalize (l.getD (pos 1) nd0).text.length = tm at HD CI d2 dl
  obtain ⟨n, hnn⟩ : ∃ n, n = l.length := ⟨_, rfl⟩
  have HN : Hid (n = l.length) := hnn
  have CK : Hid (∀ W, Below w.heap.size w W → Calls Try.prog 63 #[.slice (some ⟨b, off, none⟩) n cap, .int .i64 (i : Int)] W fun x w' => ∃ ka kc, x = .returned (.slice ka 2 kc) ∧ RdP w' ka pos 2 ∧ Below W.heap.size W w' ∧ 2 ≤ kc) := fun W hW => by
    rw [HN.out]; exact kids_say hP hE hd hn b off cap W (hr.below hW)
  have HA : Hid (∀ w1, Below w.heap.size w w1 → ∀ W, Below w1.heap.size w1 W → Calls Try.prog 85 #[.slice (some ⟨b, off, none⟩) n cap, .int .i64 (pos 0 : Int), .int .i64 (lv : Int)] W fun r w' => r = .returned (.string s0) ∧ Below w1.heap.size w1 w') := fun w1 h1 W hW => by
    have h := Says.at (cap := cap) H0 hr h1 hW
    rw [HN.out]; exact h
  have HB : Hid (∀ w1, Below w.heap.size w w1 → ∀ W, Below w1.heap.size w1 W → Calls Try.prog 77 #[.slice (some ⟨b, off, none⟩) n cap, .int .i64 (pos 1 : Int), .int .i64 (lv : Int)] W fun r w' => r = .returned (.string s1) ∧ Below w1.heap.size w1 w') := fun w1 h1 W hW => by
    have h := Says.at (cap := cap) H1 hr h1 hW
    rw [HN.out]; exact h
  have j1 : ((pos 1 : Nat) : Int) < (n : Int) := by rw [hnn]; omega
  clear d0 d1 d2 d3 d4 dl dr db x0 x1 hp1 hkey H0 H1
  unfold at2
  rw [← hnn] at hi hn ⊢
  generalize (l.getD i nd0).n = nn at c1
  generalize (l.getD i nd0).text.length = tl at c2
  generalize (l.getD i nd0).names.length = nl at c3
  generalize (l.getD i nd0).count = ct at c4
  clear hP hE hr hkn hnn htl htr htb hnl hnr
  go_enter Try.func77, Try.ntmps77
  have z0 : ¬ 9223372036854775807 < s0.size + 1 := by omega
  have z1 : ¬ 9223372036854775807 < s0.size + 1 + s1.size := by omega
  have z2 : ¬ 9223372036854775807 < s0.size + 1 + s1.size + 1 := by omega
  go_wp2_with (first | (go_at_call 80; refine (CI.out _ (bup HB1.out ((Below.refl _ _).alloc (Nat.le_refl _) _))).mono ?_; rintro r w2 ⟨rfl, hb⟩; simp only [World.size_alloc] at hb; obtain ⟨b0, b1, b2, b3, b4, hw2⟩ := nodeVar hb; have HB2 : Hid (Below w.heap.size w w2) := bup HB1.out hw2; have r0 := cellBw p0 hw2; have r1 := cellBw p1 hw2; (try rw [hin]); clear hb hw2) | (go_at_call 63; refine (CK.out _ ((Below.refl _ _).alloc (Nat.le_refl _) _)).mono ?_; rintro r w1 ⟨ka, kc, rfl, hp, hb, hkc⟩; simp only [World.size_alloc] at hb; obtain ⟨a0, a1, a2, a3, a4, hw⟩ := nodeVar hb; have HB1 : Hid (Below w.heap.size w w1) := hw; have HP : Hid (RdP w1 ka pos _) := hp; obtain ⟨kb, ko, rfl, p0⟩ := hp 0 (by omega); rw [Nat.add_zero] at p0; have p1 := rdp_at hp 1 (by omega); obtain ⟨q0, q1, q2, q3, q4⟩ := HD.out w1 hw; clear hb hw hp))
  have CA : Hid _ := HA.out w2 HB2.out
  have CB : Hid _ := HB.out w2 HB2.out
  have HC : Hid (∀ W, Below w2.heap.size w2 W → W.cell? ⟨kb, ko, none⟩ = some (.int .i64 (pos 0 : Int)) ∧ W.cell? ⟨kb, ko + 1, none⟩ = some (.int .i64 (pos 1 : Int))) := fun W hW => ⟨cellBw r0 hW, cellBw r1 hW⟩
  go_region_held3 (fun W => W.cell? ⟨kb, ko, none⟩ = some (.int .i64 (pos 0 : Int)) ∧ W.cell? ⟨kb, ko + 1, none⟩ = some (.int .i64 (pos 1 : Int))) (first | with_reducible exact HC.out _ H4.out | with_reducible exact HC.out _ H3.out | exact HC.out _ (by repeat (first | exact Below.refl _ _ | refine Below.drew ?_ | refine bel_drewN ?_ _))) (first | (go_at_call 85; (with_reducible refine Calls.mono (CA.out _ (by repeat (first | exact Below.refl _ _ | exact H3.out | refine Below.drew ?_ | refine bel_drewN ?_ _))) ?_); rintro r w3 ⟨rfl, hb⟩; have H3 : Hid _ := hb; clear hb) | (go_at_call 77; (with_reducible refine Calls.mono (CB.out _ (by repeat (first | exact Below.refl _ _ | exact H3.out | exact H4.out | refine Below.drew ?_ | refine bel_drewN ?_ _))) ?_); rintro r w4 ⟨rfl, hb⟩; have H4 : Hid _ := hb; clear hb))
  all_goals (go_wp2; go_returns; exact ⟨rfl, bup HB2.out H4.out⟩)
set_option maxRecDepth 100000 in
set_option maxHeartbeats 4000000 in
theorem show_at {l : List Nd} {d i e c lv : Nat} {lp : Bool} {pos : Nat → Nat} (hP : Parts l d i e c lp pos) (hE : endAt l (d + 1) i = some e) (hd : d + 1 ≤ 200) (hn : l.length ≤ 6000) (_hlv : lv ≤ 400) (hk : knd l i = 17) {s0 s1 : ByteArray} (hkey : ¬ knd l (pos 1) = 15) (z0 : s0.size ≤ 1000000000) (z1 : s1.size ≤ 1000000000) (H0 : Says l 85 (at2 (pos 0) lv) s0) (H1 : Says l 77 (at2 (pos 1) lv) s1) : Says l 77 (at2 i lv) (((s0 ++ { data := #[91] }) ++ s1) ++ { data := #[93] }) := by
  intro b off cap w hr
  obtain ⟨b', off', ut, un, e1, c0, c1, c2, c3, c4, ht, hnm⟩ := hr i hP.low
  simp only [Option.some.injEq, Addr.mk.injEq, and_true] at e1
  obtain ⟨rfl, rfl⟩ := e1
  have hkn : (l.getD i nd0).kind = 17 := hk
  rw [hkn] at c0
  have hi := hP.low
  obtain ⟨ta, tc, rfl, htl, htr, htb⟩ := ht
  obtain ⟨na, nc, rfl, hnl, hnr⟩ := hnm
  obtain ⟨rfl, x0, x1⟩ := hP.k17 (by omega)
  have hp1 : pos 1 < l.length := by have := endAt_bd (hP.ends 1 (by omega)); omega
  obtain ⟨tb, td, nb, nd, d0, d1, d2, d3, d4, dl, dr, db, _⟩ := nodeAt hr hp1
  have HD : Hid (∀ W, Below w.heap.size w W → W.cell? ⟨b, off + pos 1 * 5, none⟩ = some (.int .i64 (knd l (pos 1))) ∧ W.cell? ⟨b, off + pos 1 * 5 + 1, none⟩ = some (.int .i64 (l.getD (pos 1) nd0).n) ∧ W.cell? ⟨b, off + pos 1 * 5 + 2, none⟩ = some (.slice tb (l.getD (pos 1) nd0).text.length td) ∧ W.cell? ⟨b, off + pos 1 * 5 + 3, none⟩ = some (.slice nb (l.getD (pos 1) nd0).names.length nd) ∧ W.cell? ⟨b, off + pos 1 * 5 + 4, none⟩ = some (.int .i64 (l.getD (pos 1) nd0).count)) := fun W hW => ⟨cellBw d0 hW, cellBw d1 hW, cellBw d2 hW, cellBw d3 hW, cellBw d4 hW⟩
  have CI : Hid (∀ W, Below w.heap.size w W → Calls Try.prog 80 #[.slice tb (l.getD (pos 1) nd0).text.length td] W fun r w' => r = .returned (.bool (isName (l.getD (pos 1) nd0).text)) ∧ Below W.heap.size W w') := fun W hW => l3isName_any tb _ td _ W rfl (dr.below hW) db (by omega)
  generalize (l.getD (pos 1) nd0).n = n1 at HD d1
  generalize (l.getD (pos 1) nd0).names.length = l1 at HD d3
  generalize (l.getD (pos 1) nd0).count = t1 at HD d4
  generalize hkx : knd l (pos 1) = kx at HD d0 hkey
  have ekx : (kx == 15) = false := by simp; exact hkey
  clear CI hkx
  generalize (l.getD (pos 1) nd0).text.length = tm at HD d2 dl
  obtain ⟨n, hnn⟩ : ∃ n, n = l.length := ⟨_, rfl⟩
  have HN : Hid (n = l.length) := hnn
  have CK : Hid (∀ W, Below w.heap.size w W → Calls Try.prog 63 #[.slice (some ⟨b, off, none⟩) n cap, .int .i64 (i : Int)] W fun x w' => ∃ ka kc, x = .returned (.slice ka 2 kc) ∧ RdP w' ka pos 2 ∧ Below W.heap.size W w' ∧ 2 ≤ kc) := fun W hW => by
    rw [HN.out]; exact kids_say hP hE hd hn b off cap W (hr.below hW)
  have HA : Hid (∀ w1, Below w.heap.size w w1 → ∀ W, Below w1.heap.size w1 W → Calls Try.prog 85 #[.slice (some ⟨b, off, none⟩) n cap, .int .i64 (pos 0 : Int), .int .i64 (lv : Int)] W fun r w' => r = .returned (.string s0) ∧ Below w1.heap.size w1 w') := fun w1 h1 W hW => by
    have h := Says.at (cap := cap) H0 hr h1 hW
    rw [HN.out]; exact h
  have HB : Hid (∀ w1, Below w.heap.size w w1 → ∀ W, Below w1.heap.size w1 W → Calls Try.prog 77 #[.slice (some ⟨b, off, none⟩) n cap, .int .i64 (pos 1 : Int), .int .i64 (lv : Int)] W fun r w' => r = .returned (.string s1) ∧ Below w1.heap.size w1 w') := fun w1 h1 W hW => by
    have h := Says.at (cap := cap) H1 hr h1 hW
    rw [HN.out]; exact h
  have j1 : ((pos 1 : Nat) : Int) < (n : Int) := by rw [hnn]; omega
  clear d0 d1 d2 d3 d4 dl dr db x0 x1 hp1 hkey H0 H1
  unfold at2
  rw [← hnn] at hi hn ⊢
  generalize (l.getD i nd0).n = nn at c1
  generalize (l.getD i nd0).text.length = tl at c2
  generalize (l.getD i nd0).names.length = nl at c3
  generalize (l.getD i nd0).count = ct at c4
  clear hP hE hr hkn hnn htl htr htb hnl hnr
  go_enter Try.func77, Try.ntmps77
  have z0 : ¬ 9223372036854775807 < s0.size + 1 := by omega
  have z1 : ¬ 9223372036854775807 < s0.size + 1 + s1.size := by omega
  have z2 : ¬ 9223372036854775807 < s0.size + 1 + s1.size + 1 := by omega
  go_wp2_with (go_at_call 63; refine (CK.out _ ((Below.refl _ _).alloc (Nat.le_refl _) _)).mono ?_; rintro r w1 ⟨ka, kc, rfl, hp, hb, hkc⟩; simp only [World.size_alloc] at hb; obtain ⟨a0, a1, a2, a3, a4, hw⟩ := nodeVar hb; have HB1 : Hid (Below w.heap.size w w1) := hw; have HP : Hid (RdP w1 ka pos _) := hp; obtain ⟨kb, ko, rfl, p0⟩ := hp 0 (by omega); rw [Nat.add_zero] at p0; have p1 := rdp_at hp 1 (by omega); obtain ⟨q0, q1, q2, q3, q4⟩ := HD.out w1 hw; clear hb hw hp)
  have hbw : Below w1.heap.size w1 (w1.alloc (.cells #[.int .i64 kx, .int .i64 n1, .slice tb tm td, .slice nb l1 nd, .int .i64 t1] 75)) := (Below.refl _ _).alloc (Nat.le_refl _) _
  have HB2 : Hid (Below w.heap.size w (w1.alloc (.cells #[.int .i64 kx, .int .i64 n1, .slice tb tm td, .slice nb l1 nd, .int .i64 t1] 75))) := bup HB1.out hbw
  have r0 := cellBw p0 hbw
  have r1 := cellBw p1 hbw
  clear hbw
  generalize (w1.alloc (.cells #[.int .i64 kx, .int .i64 n1, .slice tb tm td, .slice nb l1 nd, .int .i64 t1] 75)) = w2 at HB2 r0 r1 ⊢
  have CA : Hid _ := HA.out w2 HB2.out
  have CB : Hid _ := HB.out w2 HB2.out
  have HC : Hid (∀ W, Below w2.heap.size w2 W → W.cell? ⟨kb, ko, none⟩ = some (.int .i64 (pos 0 : Int)) ∧ W.cell? ⟨kb, ko + 1, none⟩ = some (.int .i64 (pos 1 : Int))) := fun W hW => ⟨cellBw r0 hW, cellBw r1 hW⟩
  go_region_held3 (fun W => W.cell? ⟨kb, ko, none⟩ = some (.int .i64 (pos 0 : Int)) ∧ W.cell? ⟨kb, ko + 1, none⟩ = some (.int .i64 (pos 1 : Int))) (first | with_reducible exact HC.out _ H4.out | with_reducible exact HC.out _ H3.out | exact HC.out _ (by repeat (first | exact Below.refl _ _ | refine Below.drew ?_ | refine bel_drewN ?_ _))) (first | (go_at_call 85; (with_reducible refine Calls.mono (CA.out _ (by repeat (first | exact Below.refl _ _ | exact H3.out | refine Below.drew ?_ | refine bel_drewN ?_ _))) ?_); rintro r w3 ⟨rfl, hb⟩; have H3 : Hid _ := hb; clear hb) | (go_at_call 77; (with_reducible refine Calls.mono (CB.out _ (by repeat (first | exact Below.refl _ _ | exact H3.out | exact H4.out | refine Below.drew ?_ | refine bel_drewN ?_ _))) ?_); rintro r w4 ⟨rfl, hb⟩; have H4 : Hid _ := hb; clear hb))
  all_goals (go_wp2; go_returns; exact ⟨rfl, bup HB2.out H4.out⟩)
end Go.Proofs.Ytepbddfpdlapbaa.vt
