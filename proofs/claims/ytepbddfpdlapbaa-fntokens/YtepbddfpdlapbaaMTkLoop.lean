import Derived.Test.YtepbddfpdlapbaaMTkBlock
namespace Go.Proofs.Ytepbddfpdlapbaa.tk
open Go.RowKit Go.Proofs.Ytepbddfpdlapbaa.bts Go.Proofs.Ytepbddfpdlapbaa.nod
set_option maxRecDepth 100000 in
set_option maxHeartbeats 4000000 in
theorem block_b1 {bs : List Int} {n : Nat} (hb : Bts bs) (hl : bs.length ≤ 600) (_EX : ExprC bs n) (_ST : StatC bs n) (s : Gs) (d : Nat) (_hd5 : d ≤ 5) (_h1 : -39000 ≤ s.fuel) (_h2 : s.fuel ≤ n) (_h3 : s.fuel ≤ 200) (_h4 : (s.names.length : Int) + 4 * s.fuel ≤ 2000) (k1 : Nat) (hk1 : nx bs s.i = (k1 : Int)) (kb1 : k1 ≤ 255) (m : Nat) (hm : ((k1 : Int) % 4) = (m : Int)) (hm4 : m < 4) (t : Nat) (js : Nat → Nat) (fs : Nat → Int) (ns : Nat → List ByteArray) (ls : Nat → List Nd) (htm : t ≤ m) (e1 : js 0 = nxi bs s.i) (e2 : fs 0 = s.fuel) (e3 : ns 0 = s.names) (hend : t = m ∨ fs t ≤ 0) (hD : ∀ k, k < t → 0 < fs k ∧ Draws bs 49 (fun g => #[.pointer (some ⟨g, 0, none⟩), .int .i64 (d : Int)]) { s with i := js k, fuel := fs k, names := ns k } (ls k) { s with i := js (k + 1), fuel := fs (k + 1), names := ns (k + 1) }) (hfb : ∀ k, k ≤ t → -50000 ≤ fs k ∧ fs k ≤ 200) (k2 : Nat) (hk2 : nx bs (js t) = (k2 : Int)) (kb2 : k2 ≤ 255) (p : Nat) (hp : ((k2 : Int) % 8) = (p : Int)) (_hp8 : p < 8) (hlp : s.loop = false) (hfn : s.fn = true) (c1 : p < 2) (c' : Nat) (hc : ((p : Int) % 3) = (c' : Int)) (hc3 : c' < 3) (js2 : Nat → Nat) (fs2 : Nat → Int) (ls2 : Nat → List Nd) (g1 : js2 0 = nxi bs (js t)) (g2 : fs2 0 = fs t) (hD2 : ∀ k, k < c' → Draws bs 55 (fun g => #[.pointer (some ⟨g, 0, none⟩), .int .i64 ((2 : Nat) : Int)]) { s with i := js2 k, fuel := fs2 k, names := ns t } (ls2 k) { s with i := js2 (k + 1), fuel := fs2 (k + 1), names := ns t }) (HS9 : Hid ((node (kn 9) (upto ls2 c')).length ≤ 1000000)) (HS : Hid ((node (kn 0) (upto ls t ++ [node (kn 9) (upto ls2 c')])).length ≤ 1000000)) : Draws bs 58 (fun g => #[.pointer (some ⟨g, 0, none⟩), .int .i64 (d : Int)]) s (node (kn 0) (upto ls t ++ [node (kn 9) (upto ls2 c')])) { s with i := js2 c', fuel := fs2 c' } := by
  intro V w0 w av cv g r hv hr hG
  have jp2 : (p : Int) < 2 := by omega
  have jp5 : (p : Int) < 5 := by omega
  have C0 : Hid (Cur V w0 av cv bs w g r no w s) := Cur.start hv hr hb hl hG
  have d0_0 := C0.out.gg.c0
  obtain ⟨an, cn, d1_0, sv0⟩ := C0.out.save
  have S_0 : Hid (Sv V no w (.slice an s.names.length cn) s.names) := sv0
  have HC : Hid (∀ W Q, Cur V w0 av cv bs w g r Q W (stepG bs s) → Cur V w0 av cv bs w g r Q W { s with i := js 0, fuel := fs 0, names := ns 0 }) := fun W Q h => by
    rw [e1, e2, e3]; exact h
  have HD : Hid (∀ k, k < t → 0 < fs k ∧ Draws bs 49 (fun g => #[.pointer (some ⟨g, 0, none⟩), .int .i64 (d : Int)]) { s with i := js k, fuel := fs k, names := ns k } (ls k) { s with i := js (k + 1), fuel := fs (k + 1), names := ns (k + 1) }) := hD
  have HC2 : Hid (∀ W Q, Cur V w0 av cv bs w g r Q W (stepG bs { s with i := js t, fuel := fs t, names := ns t }) → Cur V w0 av cv bs w g r Q W { s with i := js2 0, fuel := fs2 0, names := ns t }) := fun W Q h => by
    rw [g1, g2]; exact h
  have HD2 : Hid (∀ k, k < c' → Draws bs 55 (fun g => #[.pointer (some ⟨g, 0, none⟩), .int .i64 ((2 : Nat) : Int)]) { s with i := js2 k, fuel := fs2 k, names := ns t } (ls2 k) { s with i := js2 (k + 1), fuel := fs2 (k + 1), names := ns t }) := hD2
  have HFB : Hid (∀ k, k ≤ t → -50000 ≤ fs k ∧ fs k ≤ 200) := hfb
  have HND : Hid (t = m ∨ fs t ≤ 0) := hend
  have hfew := C0.out.gg.few
  have HSH : Hid (∀ x ∈ s.names, x.size ≤ 1000) := C0.out.gg.short
  clear hG hr hv e1 e2 e3 hD hfb hend sv0 g1 g2 hD2
  go_enter Try.func58, Try.ntmps58
  go_wp2_with (first
    | (go_at_call 9; refine (C0.out.next hk1).mono ?_; rintro e w1 ⟨rfl, hC, hF⟩; have C1 : Hid _ := hC; have S_1 : Hid _ := C0.out.sv hF S_0.out; clear hC hF; have d0_1 := C1.out.gg.c0))
  try rw [hm]
  go_loopw [6, 8] (fun va vi wr => ∃ (k c : Nat) (Q : Nat → Bool) (a : Option Addr), k ≤ t ∧ vi = .int .i64 (k : Int) ∧ va = .slice a k c ∧ Hid (Cur V w0 av cv bs w g r Q wr { s with i := js k, fuel := fs k, names := ns k }) ∧ Hid (Kids w Q wr (.slice a k c) (upto ls k)) ∧ Hid (Sv V Q wr (.slice an s.names.length cn) s.names)) (fun _ x _ => t - (intOf x).toNat)
  case atStart => exact ⟨0, 0, no, none, Nat.zero_le _, rfl, rfl, HC.out _ _ C1.out, kids_nil, S_1.out⟩
  case round =>
    obtain ⟨k, c, Q, a, hkm, rfl, rfl, C20, K20, S_20⟩ := hrel
    have d0_20 := C20.out.gg.c0
    have d2_20 : wr.cell? ⟨g, 2, none⟩ = some (.int .i64 (fs k)) := C20.out.gg.c2
    have fb20 := HFB.out k hkm
    by_cases hlt : k < t
    · have i1 : (k : Int) < (m : Int) := by omega
      obtain ⟨i2, hDk⟩ := HD.out k hlt
      have D21 : Hid _ := hDk
      clear hDk
      go_wp2_with (first
        | (at_builtin; refine wpList_append_kids rfl _ _ rfl C21.out [.slice a21 (ls k).length c21] rfl rfl rfl K20_21.out (by simp [upto_length]) (kr_one X21_21.out) (by simp [upto_length]; omega) rfl ?_; intro a22 c22 w22 Q22 hK hC hM; have C22 : Hid _ := hC; have K22 : Hid _ := hK; have S_22 : Hid _ := hM.sv S_21.out; clear hC hK hM)
        | (go_at_call 49; refine (C20.out.call D21.out).mono ?_; rintro e w21 ⟨a21, c21, rfl, hX, hC, hF⟩; have C21 : Hid _ := hC; have X21_21 : Hid _ := hX; have K20_21 : Hid _ := C20.out.kids hF K20.out; have S_21 : Hid _ := C20.out.sv hF S_20.out; clear hC hX hF; have d0_21 := C21.out.gg.c0))
      refine ⟨⟨k + 1, c22, Q22, a22, by omega, by go_num, rfl, C22.out, by rw [upto_succ]; exact K22.out, S_22.out⟩, by simp [intOf]; omega⟩
    · obtain rfl : k = t := by omega
      have hk2' : nx bs (Gs.i { s with i := js k, fuel := fs k, names := ns k }) = (k2 : Int) := hk2
      by_cases htm2 : k = m
      · subst htm2
        have i1 : ¬ ((k : Int) < (k : Int)) := by omega
        go_wp2_with (first
          | (go_at_call 9; refine (C20.out.next hk2').mono ?_; rintro e w23 ⟨rfl, hC, hF⟩; have C23 : Hid _ := hC; have K20_23 : Hid _ := C20.out.kids hF K20.out; have S_23 : Hid _ := C20.out.sv hF S_20.out; clear hC hF; have d0_23 := C23.out.gg.c0; have d3_23 : w23.cell? ⟨g, 3, none⟩ = some (.bool s.loop) := C23.out.gg.c3; have d4_23 : w23.cell? ⟨g, 4, none⟩ = some (.bool s.fn) := C23.out.gg.c4; try rw [hlp] at d3_23; try rw [hfn] at d4_23; have f1_23 := C23.out.gg.free 1; obtain ⟨za_23, zb_23, d1_23, _⟩ := C23.out.save))
        try rw [hp]
        skip
        go_loopw [10, 11] (fun va vi wz => ∃ (e c5 : Nat) (Q5 : Nat → Bool) (a5 : Option Addr), e ≤ c' ∧ vi = .int .i64 (e : Int) ∧ va = .slice a5 e c5 ∧ Hid (Cur V w0 av cv bs w g r Q5 wz { s with i := js2 e, fuel := fs2 e, names := ns k }) ∧ Hid (Kids w Q5 wz (.slice a5 e c5) (upto ls2 e)) ∧ Hid (Kids w Q5 wz (.slice a k c) (upto ls k)) ∧ Hid (Ap (.slice a5 e c5) (.slice a k c)) ∧ Hid (Sv V Q5 wz (.slice an s.names.length cn) s.names)) (fun _ x _ => c' - (intOf x).toNat)
        case atStart => exact ⟨0, 0, Q, none, Nat.zero_le _, rfl, rfl, HC2.out _ _ C23.out, kids_nil, K20_23.out, ap_nil, S_23.out⟩
        case round =>
          obtain ⟨e, c5, Q5, a5, hem, rfl, rfl, C50, K50, M50, P50, S_50⟩ := hrel
          by_cases hlt2 : e < c'
          · have i5 : (e : Int) < (c' : Int) := by omega
            have D51 : Hid _ := HD2.out e hlt2
            go_wp2_with (first
              | (at_builtin; refine wpList_append_kids2 rfl _ _ rfl C51.out [.slice a51 (ls2 e).length c51] rfl rfl rfl K50_51.out (by simp [upto_length]) (kr_one X51_51.out) (by simp [upto_length]; omega) rfl ?_; intro a52 c52 w52 Q52 hA; have C52 : Hid _ := hA.cur; have K52 : Hid _ := hA.kids; have M52 : Hid _ := hA.other _ _ M50_51.out P50.out; have S_52 : Hid _ := hA.mv.sv S_51.out; clear hA)
              | (go_at_call 55; refine (C50.out.call D51.out).mono ?_; rintro e w51 ⟨a51, c51, rfl, hX, hC, hF⟩; have C51 : Hid _ := hC; have X51_51 : Hid _ := hX; have K50_51 : Hid _ := C50.out.kids hF K50.out; have M50_51 : Hid _ := C50.out.kids hF M50.out; have S_51 : Hid _ := C50.out.sv hF S_50.out; clear hC hX hF; have d0_51 := C51.out.gg.c0))
            refine ⟨⟨e + 1, c52, Q52, a52, by omega, by go_num, rfl, C52.out, by rw [upto_succ]; exact K52.out, M52.out.1, M52.out.2, S_52.out⟩, by simp [intOf]; omega⟩
          · obtain rfl : e = c' := by omega
            have i5 : ¬ ((e : Int) < (e : Int)) := by omega
            go_wp2_with (first
              | (go_at_call 45; obtain ⟨CS, FSa⟩ := C55.out.setNames (.slice an s.names.length cn) s.names S_55.out hfew HSH.out; refine (CS.node (n := kn 0) rfl (C55.out.kids FSa K55.out) (rdV_nil _) (rdVV_nil _) HS.out (by simp [upto_length]; omega)).mono ?_; clear CS FSa; rintro e w60 ⟨a60, c60, rfl, hX, hC, hF⟩; have C60 : Hid _ := hC; have X60_60 : Hid _ := hX; clear hC hX hF)
              | (at_builtin; refine wpList_append_kids rfl _ _ rfl C53.out [.slice a53 (node (kn 9) (upto ls2 e)).length c53] rfl rfl rfl K53.out (by simp [upto_length]) (kr_one X53_53.out) (by simp [upto_length]; omega) rfl ?_; intro a55 c55 w55 Q55 hK hC hM; have C55 : Hid _ := hC; have K55 : Hid _ := hK; have S_55 : Hid _ := hM.sv S_53.out; have f1_55 := C55.out.gg.free 1; obtain ⟨za_55, zb_55, d1_55, _⟩ := C55.out.save; clear hC hK hM)
              | (go_at_call 45; refine (C50.out.nodeR (n := kn 9) rfl K50.out (rdV_nil _) (rdVV_nil _) HS9.out (by simp [upto_length]; omega)).mono ?_; rintro e w53 ⟨a53, c53, rfl, hX, hC, hF⟩; have C53 : Hid _ := hC; have X53_53 : Hid _ := hX; have K53 : Hid _ := (C50.out.minus (.slice a5 e c5)).kids hF (Kids.minus M50.out P50.out); have S_53 : Hid _ := (C50.out.minus (.slice a5 e c5)).sv hF (Sv.minus (v := .slice a5 e c5) S_50.out); clear hC hX hF))
            go_returns
            exact C60.out.done X60_60.out
      · have i1 : (k : Int) < (m : Int) := by omega
        have i2 : ¬ (0 < fs k) := by have := HND.out; omega
        go_wp2_with (first
          | (go_at_call 9; refine (C20.out.next hk2').mono ?_; rintro e w23 ⟨rfl, hC, hF⟩; have C23 : Hid _ := hC; have K20_23 : Hid _ := C20.out.kids hF K20.out; have S_23 : Hid _ := C20.out.sv hF S_20.out; clear hC hF; have d0_23 := C23.out.gg.c0; have d3_23 : w23.cell? ⟨g, 3, none⟩ = some (.bool s.loop) := C23.out.gg.c3; have d4_23 : w23.cell? ⟨g, 4, none⟩ = some (.bool s.fn) := C23.out.gg.c4; try rw [hlp] at d3_23; try rw [hfn] at d4_23; have f1_23 := C23.out.gg.free 1; obtain ⟨za_23, zb_23, d1_23, _⟩ := C23.out.save))
        try rw [hp]
        skip
        go_loopw [10, 11] (fun va vi wz => ∃ (e c5 : Nat) (Q5 : Nat → Bool) (a5 : Option Addr), e ≤ c' ∧ vi = .int .i64 (e : Int) ∧ va = .slice a5 e c5 ∧ Hid (Cur V w0 av cv bs w g r Q5 wz { s with i := js2 e, fuel := fs2 e, names := ns k }) ∧ Hid (Kids w Q5 wz (.slice a5 e c5) (upto ls2 e)) ∧ Hid (Kids w Q5 wz (.slice a k c) (upto ls k)) ∧ Hid (Ap (.slice a5 e c5) (.slice a k c)) ∧ Hid (Sv V Q5 wz (.slice an s.names.length cn) s.names)) (fun _ x _ => c' - (intOf x).toNat)
        case atStart => exact ⟨0, 0, Q, none, Nat.zero_le _, rfl, rfl, HC2.out _ _ C23.out, kids_nil, K20_23.out, ap_nil, S_23.out⟩
        case round =>
          obtain ⟨e, c5, Q5, a5, hem, rfl, rfl, C50, K50, M50, P50, S_50⟩ := hrel
          by_cases hlt2 : e < c'
          · have i5 : (e : Int) < (c' : Int) := by omega
            have D51 : Hid _ := HD2.out e hlt2
            go_wp2_with (first
              | (at_builtin; refine wpList_append_kids2 rfl _ _ rfl C51.out [.slice a51 (ls2 e).length c51] rfl rfl rfl K50_51.out (by simp [upto_length]) (kr_one X51_51.out) (by simp [upto_length]; omega) rfl ?_; intro a52 c52 w52 Q52 hA; have C52 : Hid _ := hA.cur; have K52 : Hid _ := hA.kids; have M52 : Hid _ := hA.other _ _ M50_51.out P50.out; have S_52 : Hid _ := hA.mv.sv S_51.out; clear hA)
              | (go_at_call 55; refine (C50.out.call D51.out).mono ?_; rintro e w51 ⟨a51, c51, rfl, hX, hC, hF⟩; have C51 : Hid _ := hC; have X51_51 : Hid _ := hX; have K50_51 : Hid _ := C50.out.kids hF K50.out; have M50_51 : Hid _ := C50.out.kids hF M50.out; have S_51 : Hid _ := C50.out.sv hF S_50.out; clear hC hX hF; have d0_51 := C51.out.gg.c0))
            refine ⟨⟨e + 1, c52, Q52, a52, by omega, by go_num, rfl, C52.out, by rw [upto_succ]; exact K52.out, M52.out.1, M52.out.2, S_52.out⟩, by simp [intOf]; omega⟩
          · obtain rfl : e = c' := by omega
            have i5 : ¬ ((e : Int) < (e : Int)) := by omega
            go_wp2_with (first
              | (go_at_call 45; obtain ⟨CS, FSa⟩ := C55.out.setNames (.slice an s.names.length cn) s.names S_55.out hfew HSH.out; refine (CS.node (n := kn 0) rfl (C55.out.kids FSa K55.out) (rdV_nil _) (rdVV_nil _) HS.out (by simp [upto_length]; omega)).mono ?_; clear CS FSa; rintro e w60 ⟨a60, c60, rfl, hX, hC, hF⟩; have C60 : Hid _ := hC; have X60_60 : Hid _ := hX; clear hC hX hF)
              | (at_builtin; refine wpList_append_kids rfl _ _ rfl C53.out [.slice a53 (node (kn 9) (upto ls2 e)).length c53] rfl rfl rfl K53.out (by simp [upto_length]) (kr_one X53_53.out) (by simp [upto_length]; omega) rfl ?_; intro a55 c55 w55 Q55 hK hC hM; have C55 : Hid _ := hC; have K55 : Hid _ := hK; have S_55 : Hid _ := hM.sv S_53.out; have f1_55 := C55.out.gg.free 1; obtain ⟨za_55, zb_55, d1_55, _⟩ := C55.out.save; clear hC hK hM)
              | (go_at_call 45; refine (C50.out.nodeR (n := kn 9) rfl K50.out (rdV_nil _) (rdVV_nil _) HS9.out (by simp [upto_length]; omega)).mono ?_; rintro e w53 ⟨a53, c53, rfl, hX, hC, hF⟩; have C53 : Hid _ := hC; have X53_53 : Hid _ := hX; have K53 : Hid _ := (C50.out.minus (.slice a5 e c5)).kids hF (Kids.minus M50.out P50.out); have S_53 : Hid _ := (C50.out.minus (.slice a5 e c5)).sv hF (Sv.minus (v := .slice a5 e c5) S_50.out); clear hC hX hF))
            go_returns
            exact C60.out.done X60_60.out
set_option maxRecDepth 100000 in
set_option maxHeartbeats 4000000 in
theorem block_b2 {bs : List Int} {n : Nat} (hb : Bts bs) (hl : bs.length ≤ 600) (_EX : ExprC bs n) (_ST : StatC bs n) (s : Gs) (d : Nat) (_hd5 : d ≤ 5) (_h1 : -39000 ≤ s.fuel) (_h2 : s.fuel ≤ n) (_h3 : s.fuel ≤ 200) (_h4 : (s.names.length : Int) + 4 * s.fuel ≤ 2000) (k1 : Nat) (hk1 : nx bs s.i = (k1 : Int)) (kb1 : k1 ≤ 255) (m : Nat) (hm : ((k1 : Int) % 4) = (m : Int)) (hm4 : m < 4) (t : Nat) (js : Nat → Nat) (fs : Nat → Int) (ns : Nat → List ByteArray) (ls : Nat → List Nd) (htm : t ≤ m) (e1 : js 0 = nxi bs s.i) (e2 : fs 0 = s.fuel) (e3 : ns 0 = s.names) (hend : t = m ∨ fs t ≤ 0) (hD : ∀ k, k < t → 0 < fs k ∧ Draws bs 49 (fun g => #[.pointer (some ⟨g, 0, none⟩), .int .i64 (d : Int)]) { s with i := js k, fuel := fs k, names := ns k } (ls k) { s with i := js (k + 1), fuel := fs (k + 1), names := ns (k + 1) }) (hfb : ∀ k, k ≤ t → -50000 ≤ fs k ∧ fs k ≤ 200) (k2 : Nat) (hk2 : nx bs (js t) = (k2 : Int)) (kb2 : k2 ≤ 255) (p : Nat) (hp : ((k2 : Int) % 8) = (p : Int)) (_hp8 : p < 8) (hfn : s.fn = true) (c1 : 2 ≤ p) (c2 : p < 5) (c' : Nat) (hc : ((p : Int) % 3) = (c' : Int)) (hc3 : c' < 3) (js2 : Nat → Nat) (fs2 : Nat → Int) (ls2 : Nat → List Nd) (g1 : js2 0 = nxi bs (js t)) (g2 : fs2 0 = fs t) (hD2 : ∀ k, k < c' → Draws bs 55 (fun g => #[.pointer (some ⟨g, 0, none⟩), .int .i64 ((2 : Nat) : Int)]) { s with i := js2 k, fuel := fs2 k, names := ns t } (ls2 k) { s with i := js2 (k + 1), fuel := fs2 (k + 1), names := ns t }) (HS9 : Hid ((node (kn 9) (upto ls2 c')).length ≤ 1000000)) (HS : Hid ((node (kn 0) (upto ls t ++ [node (kn 9) (upto ls2 c')])).length ≤ 1000000)) : Draws bs 58 (fun g => #[.pointer (some ⟨g, 0, none⟩), .int .i64 (d : Int)]) s (node (kn 0) (upto ls t ++ [node (kn 9) (upto ls2 c')])) { s with i := js2 c', fuel := fs2 c' } := by
  intro V w0 w av cv g r hv hr hG
  have jp2 : ¬ ((p : Int) < 2) := by omega
  have jp5 : (p : Int) < 5 := by omega
  obtain ⟨lp, hlp⟩ : ∃ b, s.loop = b := ⟨_, rfl⟩
  have C0 : Hid (Cur V w0 av cv bs w g r no w s) := Cur.start hv hr hb hl hG
  have d0_0 := C0.out.gg.c0
  obtain ⟨an, cn, d1_0, sv0⟩ := C0.out.save
  have S_0 : Hid (Sv V no w (.slice an s.names.length cn) s.names) := sv0
  have HC : Hid (∀ W Q, Cur V w0 av cv bs w g r Q W (stepG bs s) → Cur V w0 av cv bs w g r Q W { s with i := js 0, fuel := fs 0, names := ns 0 }) := fun W Q h => by
    rw [e1, e2, e3]; exact h
  have HD : Hid (∀ k, k < t → 0 < fs k ∧ Draws bs 49 (fun g => #[.pointer (some ⟨g, 0, none⟩), .int .i64 (d : Int)]) { s with i := js k, fuel := fs k, names := ns k } (ls k) { s with i := js (k + 1), fuel := fs (k + 1), names := ns (k + 1) }) := hD
  have HC2 : Hid (∀ W Q, Cur V w0 av cv bs w g r Q W (stepG bs { s with i := js t, fuel := fs t, names := ns t }) → Cur V w0 av cv bs w g r Q W { s with i := js2 0, fuel := fs2 0, names := ns t }) := fun W Q h => by
    rw [g1, g2]; exact h
  have HD2 : Hid (∀ k, k < c' → Draws bs 55 (fun g => #[.pointer (some ⟨g, 0, none⟩), .int .i64 ((2 : Nat) : Int)]) { s with i := js2 k, fuel := fs2 k, names := ns t } (ls2 k) { s with i := js2 (k + 1), fuel := fs2 (k + 1), names := ns t }) := hD2
  have HFB : Hid (∀ k, k ≤ t → -50000 ≤ fs k ∧ fs k ≤ 200) := hfb
  have HND : Hid (t = m ∨ fs t ≤ 0) := hend
  have hfew := C0.out.gg.few
  have HSH : Hid (∀ x ∈ s.names, x.size ≤ 1000) := C0.out.gg.short
  clear hG hr hv e1 e2 e3 hD hfb hend sv0 g1 g2 hD2
  go_enter Try.func58, Try.ntmps58
  go_wp2_with (first
    | (go_at_call 9; refine (C0.out.next hk1).mono ?_; rintro e w1 ⟨rfl, hC, hF⟩; have C1 : Hid _ := hC; have S_1 : Hid _ := C0.out.sv hF S_0.out; clear hC hF; have d0_1 := C1.out.gg.c0))
  try rw [hm]
  go_loopw [6, 8] (fun va vi wr => ∃ (k c : Nat) (Q : Nat → Bool) (a : Option Addr), k ≤ t ∧ vi = .int .i64 (k : Int) ∧ va = .slice a k c ∧ Hid (Cur V w0 av cv bs w g r Q wr { s with i := js k, fuel := fs k, names := ns k }) ∧ Hid (Kids w Q wr (.slice a k c) (upto ls k)) ∧ Hid (Sv V Q wr (.slice an s.names.length cn) s.names)) (fun _ x _ => t - (intOf x).toNat)
  case atStart => exact ⟨0, 0, no, none, Nat.zero_le _, rfl, rfl, HC.out _ _ C1.out, kids_nil, S_1.out⟩
  case round =>
    obtain ⟨k, c, Q, a, hkm, rfl, rfl, C20, K20, S_20⟩ := hrel
    have d0_20 := C20.out.gg.c0
    have d2_20 : wr.cell? ⟨g, 2, none⟩ = some (.int .i64 (fs k)) := C20.out.gg.c2
    have fb20 := HFB.out k hkm
    by_cases hlt : k < t
    · have i1 : (k : Int) < (m : Int) := by omega
      obtain ⟨i2, hDk⟩ := HD.out k hlt
      have D21 : Hid _ := hDk
      clear hDk
      go_wp2_with (first
        | (at_builtin; refine wpList_append_kids rfl _ _ rfl C21.out [.slice a21 (ls k).length c21] rfl rfl rfl K20_21.out (by simp [upto_length]) (kr_one X21_21.out) (by simp [upto_length]; omega) rfl ?_; intro a22 c22 w22 Q22 hK hC hM; have C22 : Hid _ := hC; have K22 : Hid _ := hK; have S_22 : Hid _ := hM.sv S_21.out; clear hC hK hM)
        | (go_at_call 49; refine (C20.out.call D21.out).mono ?_; rintro e w21 ⟨a21, c21, rfl, hX, hC, hF⟩; have C21 : Hid _ := hC; have X21_21 : Hid _ := hX; have K20_21 : Hid _ := C20.out.kids hF K20.out; have S_21 : Hid _ := C20.out.sv hF S_20.out; clear hC hX hF; have d0_21 := C21.out.gg.c0))
      refine ⟨⟨k + 1, c22, Q22, a22, by omega, by go_num, rfl, C22.out, by rw [upto_succ]; exact K22.out, S_22.out⟩, by simp [intOf]; omega⟩
    · obtain rfl : k = t := by omega
      have hk2' : nx bs (Gs.i { s with i := js k, fuel := fs k, names := ns k }) = (k2 : Int) := hk2
      by_cases htm2 : k = m
      · subst htm2
        have i1 : ¬ ((k : Int) < (k : Int)) := by omega
        go_wp2_with (first
          | (go_at_call 9; refine (C20.out.next hk2').mono ?_; rintro e w23 ⟨rfl, hC, hF⟩; have C23 : Hid _ := hC; have K20_23 : Hid _ := C20.out.kids hF K20.out; have S_23 : Hid _ := C20.out.sv hF S_20.out; clear hC hF; have d0_23 := C23.out.gg.c0; have d3_23 : w23.cell? ⟨g, 3, none⟩ = some (.bool s.loop) := C23.out.gg.c3; have d4_23 : w23.cell? ⟨g, 4, none⟩ = some (.bool s.fn) := C23.out.gg.c4; try rw [hlp] at d3_23; try rw [hfn] at d4_23; have f1_23 := C23.out.gg.free 1; obtain ⟨za_23, zb_23, d1_23, _⟩ := C23.out.save))
        try rw [hp]
        skip
        go_loopw [10, 11] (fun va vi wz => ∃ (e c5 : Nat) (Q5 : Nat → Bool) (a5 : Option Addr), e ≤ c' ∧ vi = .int .i64 (e : Int) ∧ va = .slice a5 e c5 ∧ Hid (Cur V w0 av cv bs w g r Q5 wz { s with i := js2 e, fuel := fs2 e, names := ns k }) ∧ Hid (Kids w Q5 wz (.slice a5 e c5) (upto ls2 e)) ∧ Hid (Kids w Q5 wz (.slice a k c) (upto ls k)) ∧ Hid (Ap (.slice a5 e c5) (.slice a k c)) ∧ Hid (Sv V Q5 wz (.slice an s.names.length cn) s.names)) (fun _ x _ => c' - (intOf x).toNat)
        case atStart => exact ⟨0, 0, Q, none, Nat.zero_le _, rfl, rfl, HC2.out _ _ C23.out, kids_nil, K20_23.out, ap_nil, S_23.out⟩
        case round =>
          obtain ⟨e, c5, Q5, a5, hem, rfl, rfl, C50, K50, M50, P50, S_50⟩ := hrel
          by_cases hlt2 : e < c'
          · have i5 : (e : Int) < (c' : Int) := by omega
            have D51 : Hid _ := HD2.out e hlt2
            go_wp2_with (first
              | (at_builtin; refine wpList_append_kids2 rfl _ _ rfl C51.out [.slice a51 (ls2 e).length c51] rfl rfl rfl K50_51.out (by simp [upto_length]) (kr_one X51_51.out) (by simp [upto_length]; omega) rfl ?_; intro a52 c52 w52 Q52 hA; have C52 : Hid _ := hA.cur; have K52 : Hid _ := hA.kids; have M52 : Hid _ := hA.other _ _ M50_51.out P50.out; have S_52 : Hid _ := hA.mv.sv S_51.out; clear hA)
              | (go_at_call 55; refine (C50.out.call D51.out).mono ?_; rintro e w51 ⟨a51, c51, rfl, hX, hC, hF⟩; have C51 : Hid _ := hC; have X51_51 : Hid _ := hX; have K50_51 : Hid _ := C50.out.kids hF K50.out; have M50_51 : Hid _ := C50.out.kids hF M50.out; have S_51 : Hid _ := C50.out.sv hF S_50.out; clear hC hX hF; have d0_51 := C51.out.gg.c0))
            refine ⟨⟨e + 1, c52, Q52, a52, by omega, by go_num, rfl, C52.out, by rw [upto_succ]; exact K52.out, M52.out.1, M52.out.2, S_52.out⟩, by simp [intOf]; omega⟩
          · obtain rfl : e = c' := by omega
            have i5 : ¬ ((e : Int) < (e : Int)) := by omega
            go_wp2_with (first
              | (go_at_call 45; obtain ⟨CS, FSa⟩ := C55.out.setNames (.slice an s.names.length cn) s.names S_55.out hfew HSH.out; refine (CS.node (n := kn 0) rfl (C55.out.kids FSa K55.out) (rdV_nil _) (rdVV_nil _) HS.out (by simp [upto_length]; omega)).mono ?_; clear CS FSa; rintro e w60 ⟨a60, c60, rfl, hX, hC, hF⟩; have C60 : Hid _ := hC; have X60_60 : Hid _ := hX; clear hC hX hF)
              | (at_builtin; refine wpList_append_kids rfl _ _ rfl C53.out [.slice a53 (node (kn 9) (upto ls2 e)).length c53] rfl rfl rfl K53.out (by simp [upto_length]) (kr_one X53_53.out) (by simp [upto_length]; omega) rfl ?_; intro a55 c55 w55 Q55 hK hC hM; have C55 : Hid _ := hC; have K55 : Hid _ := hK; have S_55 : Hid _ := hM.sv S_53.out; have f1_55 := C55.out.gg.free 1; obtain ⟨za_55, zb_55, d1_55, _⟩ := C55.out.save; clear hC hK hM)
              | (go_at_call 45; refine (C50.out.nodeR (n := kn 9) rfl K50.out (rdV_nil _) (rdVV_nil _) HS9.out (by simp [upto_length]; omega)).mono ?_; rintro e w53 ⟨a53, c53, rfl, hX, hC, hF⟩; have C53 : Hid _ := hC; have X53_53 : Hid _ := hX; have K53 : Hid _ := (C50.out.minus (.slice a5 e c5)).kids hF (Kids.minus M50.out P50.out); have S_53 : Hid _ := (C50.out.minus (.slice a5 e c5)).sv hF (Sv.minus (v := .slice a5 e c5) S_50.out); clear hC hX hF))
            go_returns
            exact C60.out.done X60_60.out
      · have i1 : (k : Int) < (m : Int) := by omega
        have i2 : ¬ (0 < fs k) := by have := HND.out; omega
        go_wp2_with (first
          | (go_at_call 9; refine (C20.out.next hk2').mono ?_; rintro e w23 ⟨rfl, hC, hF⟩; have C23 : Hid _ := hC; have K20_23 : Hid _ := C20.out.kids hF K20.out; have S_23 : Hid _ := C20.out.sv hF S_20.out; clear hC hF; have d0_23 := C23.out.gg.c0; have d3_23 : w23.cell? ⟨g, 3, none⟩ = some (.bool s.loop) := C23.out.gg.c3; have d4_23 : w23.cell? ⟨g, 4, none⟩ = some (.bool s.fn) := C23.out.gg.c4; try rw [hlp] at d3_23; try rw [hfn] at d4_23; have f1_23 := C23.out.gg.free 1; obtain ⟨za_23, zb_23, d1_23, _⟩ := C23.out.save))
        try rw [hp]
        skip
        go_loopw [10, 11] (fun va vi wz => ∃ (e c5 : Nat) (Q5 : Nat → Bool) (a5 : Option Addr), e ≤ c' ∧ vi = .int .i64 (e : Int) ∧ va = .slice a5 e c5 ∧ Hid (Cur V w0 av cv bs w g r Q5 wz { s with i := js2 e, fuel := fs2 e, names := ns k }) ∧ Hid (Kids w Q5 wz (.slice a5 e c5) (upto ls2 e)) ∧ Hid (Kids w Q5 wz (.slice a k c) (upto ls k)) ∧ Hid (Ap (.slice a5 e c5) (.slice a k c)) ∧ Hid (Sv V Q5 wz (.slice an s.names.length cn) s.names)) (fun _ x _ => c' - (intOf x).toNat)
        case atStart => exact ⟨0, 0, Q, none, Nat.zero_le _, rfl, rfl, HC2.out _ _ C23.out, kids_nil, K20_23.out, ap_nil, S_23.out⟩
        case round =>
          obtain ⟨e, c5, Q5, a5, hem, rfl, rfl, C50, K50, M50, P50, S_50⟩ := hrel
          by_cases hlt2 : e < c'
          · have i5 : (e : Int) < (c' : Int) := by omega
            have D51 : Hid _ := HD2.out e hlt2
            go_wp2_with (first
              | (at_builtin; refine wpList_append_kids2 rfl _ _ rfl C51.out [.slice a51 (ls2 e).length c51] rfl rfl rfl K50_51.out (by simp [upto_length]) (kr_one X51_51.out) (by simp [upto_length]; omega) rfl ?_; intro a52 c52 w52 Q52 hA; have C52 : Hid _ := hA.cur; have K52 : Hid _ := hA.kids; have M52 : Hid _ := hA.other _ _ M50_51.out P50.out; have S_52 : Hid _ := hA.mv.sv S_51.out; clear hA)
              | (go_at_call 55; refine (C50.out.call D51.out).mono ?_; rintro e w51 ⟨a51, c51, rfl, hX, hC, hF⟩; have C51 : Hid _ := hC; have X51_51 : Hid _ := hX; have K50_51 : Hid _ := C50.out.kids hF K50.out; have M50_51 : Hid _ := C50.out.kids hF M50.out; have S_51 : Hid _ := C50.out.sv hF S_50.out; clear hC hX hF; have d0_51 := C51.out.gg.c0))
            refine ⟨⟨e + 1, c52, Q52, a52, by omega, by go_num, rfl, C52.out, by rw [upto_succ]; exact K52.out, M52.out.1, M52.out.2, S_52.out⟩, by simp [intOf]; omega⟩
          · obtain rfl : e = c' := by omega
            have i5 : ¬ ((e : Int) < (e : Int)) := by omega
            go_wp2_with (first
              | (go_at_call 45; obtain ⟨CS, FSa⟩ := C55.out.setNames (.slice an s.names.length cn) s.names S_55.out hfew HSH.out; refine (CS.node (n := kn 0) rfl (C55.out.kids FSa K55.out) (rdV_nil _) (rdVV_nil _) HS.out (by simp [upto_length]; omega)).mono ?_; clear CS FSa; rintro e w60 ⟨a60, c60, rfl, hX, hC, hF⟩; have C60 : Hid _ := hC; have X60_60 : Hid _ := hX; clear hC hX hF)
              | (at_builtin; refine wpList_append_kids rfl _ _ rfl C53.out [.slice a53 (node (kn 9) (upto ls2 e)).length c53] rfl rfl rfl K53.out (by simp [upto_length]) (kr_one X53_53.out) (by simp [upto_length]; omega) rfl ?_; intro a55 c55 w55 Q55 hK hC hM; have C55 : Hid _ := hC; have K55 : Hid _ := hK; have S_55 : Hid _ := hM.sv S_53.out; have f1_55 := C55.out.gg.free 1; obtain ⟨za_55, zb_55, d1_55, _⟩ := C55.out.save; clear hC hK hM)
              | (go_at_call 45; refine (C50.out.nodeR (n := kn 9) rfl K50.out (rdV_nil _) (rdVV_nil _) HS9.out (by simp [upto_length]; omega)).mono ?_; rintro e w53 ⟨a53, c53, rfl, hX, hC, hF⟩; have C53 : Hid _ := hC; have X53_53 : Hid _ := hX; have K53 : Hid _ := (C50.out.minus (.slice a5 e c5)).kids hF (Kids.minus M50.out P50.out); have S_53 : Hid _ := (C50.out.minus (.slice a5 e c5)).sv hF (Sv.minus (v := .slice a5 e c5) S_50.out); clear hC hX hF))
            go_returns
            exact C60.out.done X60_60.out
theorem block_of {bs : List Int} {n : Nat} (hb : Bts bs) (hl : bs.length ≤ 600) (EX : ExprC bs n) (ST : StatC bs n) : PartC bs n 58 ag1 3 := by
  intro s d hd5 h1 h2 h3 h4
  obtain ⟨k1, hk1, kb1⟩ := nxn hb s.i
  obtain ⟨m, hm, hm4⟩ : ∃ m : Nat, ((k1 : Int) % 4) = (m : Int) ∧ m < 4 := ⟨k1 % 4, by omega, by omega⟩
  obtain ⟨t, js, fs, ns, ls, htm, e1, e2, e3, hend, hD, hB⟩ := seqS ST (stepG bs s) d m hd5 h2 h3 h4
  have es : (stepG bs s).fuel = s.fuel := rfl
  have en : (stepG bs s).names = s.names := rfl
  rw [es] at e2 hB
  rw [en] at hB
  obtain ⟨k2, hk2, kb2⟩ := nxn hb (js t)
  obtain ⟨p, hp, hp8⟩ : ∃ p : Nat, ((k2 : Int) % 8) = (p : Int) ∧ p < 8 := ⟨k2 % 8, by omega, by omega⟩
  have hfb : ∀ k, k ≤ t → -50000 ≤ fs k ∧ fs k ≤ 200 := fun k hk => by
    have := hB k hk
    by_cases h0 : 0 < s.fuel
    · have := this.2.2.1 h0; omega
    · have hk0 := this.2.1 (by omega)
      subst hk0
      rw [e2]
      omega
  have hBt := hB t (Nat.le_refl _)
  have hfl : -39000 ≤ fs t := by
    by_cases h0 : 0 < s.fuel
    · have := hBt.2.2.1 h0; omega
    · have hk0 := hBt.2.1 (by omega)
      rw [hk0, e2]
      omega
  have hft : (s.fuel ≤ 0 → fs t = s.fuel) := fun h => by
    have := hBt.2.1 h
    subst this
    exact e2
  have L0 : ∀ x : List (List Nd), ((node (kn 0) (upto ls t ++ x)).length : Int) = 1 + (upto ls t).flatten.length + x.flatten.length := fun x => by
    simp only [node, List.length_cons, List.flatten_append, List.length_append]; omega
  have plain : ∀ {Z : List (List Nd)}, Z = upto ls t → Draws bs 58 (fun g => #[.pointer (some ⟨g, 0, none⟩), .int .i64 (d : Int)]) s (node (kn 0) Z) { s with i := nxi bs (js t), fuel := fs t } → ∃ l j f, Draws bs 58 (ag1 d) s l { s with i := j, fuel := f } ∧ f ≤ s.fuel ∧ (s.fuel ≤ 0 → s.fuel - 3 ≤ f) ∧ (0 < s.fuel → -10 * s.fuel - 3 ≤ f) ∧ (l.length : Int) ≤ 3 + 20 * (s.fuel - f) := fun hZ hDr => by
    subst hZ
    refine ⟨_, _, _, hDr, by omega, fun h => by have := hft h; omega, fun h => by have := hBt.2.2.1 h; omega, ?_⟩
    have := L0 []
    rw [List.append_nil] at this
    have h0 : ((([] : List (List Nd)).flatten).length : Int) = 0 := rfl
    rw [h0] at this
    omega
  have HS0 : Hid ((node (kn 0) (upto ls t)).length ≤ 1000000) := by
    have h5 := hfb t (Nat.le_refl _)
    have := L0 []
    rw [List.append_nil] at this
    have h0 : ((([] : List (List Nd)).flatten).length : Int) = 0 := rfl
    rw [h0] at this
    show _ ≤ _
    omega
  have brk : s.loop = true → p < 2 → ∃ l j f, Draws bs 58 (ag1 d) s l { s with i := j, fuel := f } ∧ f ≤ s.fuel ∧ (s.fuel ≤ 0 → s.fuel - 3 ≤ f) ∧ (0 < s.fuel → -10 * s.fuel - 3 ≤ f) ∧ (l.length : Int) ≤ 3 + 20 * (s.fuel - f) := fun hlp hp2 => by
    have h5 := hfb t (Nat.le_refl _)
    have hL := L0 [leaf 8]
    have hl1 : ([leaf 8].flatten).length = 1 := rfl
    rw [hl1] at hL
    refine ⟨_, _, _, block_a hb hl EX ST s d hd5 h1 h2 h3 h4 k1 hk1 kb1 m hm hm4 t js fs ns ls htm e1 e2 e3 hend hD hfb k2 hk2 kb2 p hp hp8 hlp hp2 (by show _ ≤ _; omega), by omega, fun h => by have := hft h; omega, fun h => by have := hBt.2.2.1 h; omega, by omega⟩
  have retn : s.fn = true → p < 5 → (p < 2 → s.loop = false) → ∃ l j f, Draws bs 58 (ag1 d) s l { s with i := j, fuel := f } ∧ f ≤ s.fuel ∧ (s.fuel ≤ 0 → s.fuel - 3 ≤ f) ∧ (0 < s.fuel → -10 * s.fuel - 3 ≤ f) ∧ (l.length : Int) ≤ 3 + 20 * (s.fuel - f) := fun hfn hp5 hlp => by
    have h5 := hfb t (Nat.le_refl _)
    obtain ⟨c', hc, hc3⟩ : ∃ c : Nat, ((p : Int) % 3) = (c : Int) ∧ c < 3 := ⟨p % 3, by omega, by omega⟩
    obtain ⟨js2, fs2, ls2, g1, g2, hD2, hB2⟩ := seqE EX (stepG bs { s with i := js t, fuel := fs t, names := ns t }) 2 c' (by omega) (by show _ ≤ fs t; have := hfl; omega) (by omega) (by show fs t ≤ _; omega) (by show fs t ≤ _; omega) (by show ((ns t).length : Int) + 4 * fs t ≤ _; omega)
    have ef : (stepG bs { s with i := js t, fuel := fs t, names := ns t }).fuel = fs t := rfl
    rw [ef] at g2 hB2
    have hBc := hB2 c' (Nat.le_refl _)
    have hL := L0 [node (kn 9) (upto ls2 c')]
    have hl1 : (([node (kn 9) (upto ls2 c')].flatten).length : Int) = 1 + (upto ls2 c').flatten.length := by simp only [node, List.flatten_cons, List.flatten_nil, List.append_nil, List.length_cons]; omega
    rw [hl1] at hL
    have hlow : -60000 ≤ fs2 c' := by
      by_cases h0 : 0 < fs t
      · have := hBc.2.2.1 h0; omega
      · have := hBc.2.1 (by omega); omega
    have HS : Hid ((node (kn 0) (upto ls t ++ [node (kn 9) (upto ls2 c')])).length ≤ 1000000) := by show _ ≤ _; omega
    have HS9 : Hid ((node (kn 9) (upto ls2 c')).length ≤ 1000000) := by show _ ≤ _; simp only [node, List.length_cons]; omega
    have hDr : Draws bs 58 (fun g => #[.pointer (some ⟨g, 0, none⟩), .int .i64 (d : Int)]) s (node (kn 0) (upto ls t ++ [node (kn 9) (upto ls2 c')])) { s with i := js2 c', fuel := fs2 c' } := by
      by_cases hp2 : p < 2
      · exact block_b1 hb hl EX ST s d hd5 h1 h2 h3 h4 k1 hk1 kb1 m hm hm4 t js fs ns ls htm e1 e2 e3 hend hD hfb k2 hk2 kb2 p hp hp8 (hlp hp2) hfn hp2 c' hc hc3 js2 fs2 ls2 g1 g2 hD2 HS9 HS
      · exact block_b2 hb hl EX ST s d hd5 h1 h2 h3 h4 k1 hk1 kb1 m hm hm4 t js fs ns ls htm e1 e2 e3 hend hD hfb k2 hk2 kb2 p hp hp8 hfn (by omega) hp5 c' hc hc3 js2 fs2 ls2 g1 g2 hD2 HS9 HS
    refine ⟨_, _, _, hDr, by omega, fun h => ?_, fun h => ?_, by omega⟩
    · have a1 := hft h
      have := hBc.2.1 (by omega)
      omega
    · have a1 := hBt.2.2.1 h
      by_cases h0 : 0 < fs t
      · have := hBc.2.2.1 h0; omega
      · have := hBc.2.1 (by omega); omega
  have c3 : 5 ≤ p → _ := fun h5 => plain rfl (block_c3 hb hl EX ST s d hd5 h1 h2 h3 h4 k1 hk1 kb1 m hm hm4 t js fs ns ls htm e1 e2 e3 hend hD hfb k2 hk2 kb2 p hp hp8 h5 HS0)
  rcases Bool.eq_false_or_eq_true s.fn with hfn | hfn
  · by_cases hp5 : p < 5
    · by_cases hp2 : p < 2
      · rcases Bool.eq_false_or_eq_true s.loop with hlp | hlp
        · exact brk hlp hp2
        · exact retn hfn hp5 (fun _ => hlp)
      · exact retn hfn hp5 (fun h => absurd h hp2)
    · exact c3 (by omega)
  · by_cases hp2 : p < 2
    · rcases Bool.eq_false_or_eq_true s.loop with hlp | hlp
      · exact brk hlp hp2
      · exact plain rfl (block_c1 hb hl EX ST s d hd5 h1 h2 h3 h4 k1 hk1 kb1 m hm hm4 t js fs ns ls htm e1 e2 e3 hend hD hfb k2 hk2 kb2 p hp hp8 hlp hfn hp2 HS0)
    · by_cases hp5 : p < 5
      · exact plain rfl (block_c2 hb hl EX ST s d hd5 h1 h2 h3 h4 k1 hk1 kb1 m hm hm4 t js fs ns ls htm e1 e2 e3 hend hD hfb k2 hk2 kb2 p hp hp8 hfn (by omega) hp5 HS0)
      · exact c3 (by omega)
theorem expr_any {bs : List Int} {n : Nat} (hb : Bts bs) (hl : bs.length ≤ 600) (s : Gs) (d : Nat) (hd5 : d ≤ 5) (h1 : -40000 ≤ s.fuel) (h2 : s.fuel ≤ n + 1) (h3 : s.fuel ≤ 200) (h4 : (s.names.length : Int) + 4 * s.fuel ≤ 2000) (hp : 1 ≤ s.fuel → ExprC bs n ∧ FuncC bs n ∧ PartC bs n 60 ag1 6) :
    ∃ l j f, Draws bs 55 (fun g => #[.pointer (some ⟨g, 0, none⟩), .int .i64 (d : Int)]) s l { s with i := j, fuel := f } ∧ f ≤ s.fuel - 1 ∧ (s.fuel ≤ 0 → f = s.fuel - 1) ∧ (0 < s.fuel → -10 * s.fuel ≤ f) ∧ (l.length : Int) ≤ 20 * (s.fuel - f) := by
  obtain ⟨k1, hk1, kb1⟩ := nxn hb s.i
  obtain ⟨q, hq, hq24⟩ : ∃ q : Nat, (nx bs s.i % 24) = (q : Int) ∧ q < 24 := ⟨k1 % 24, by rw [hk1]; omega, by omega⟩
  by_cases hc : d = 0 ∨ s.fuel ≤ 0 ∨ q < 5
  · obtain ⟨l, j, hl1, hD⟩ := expr_leaf hb hl s d hd5 h1 h3 q hq hc
    exact ⟨l, j, s.fuel - 1, hD, by omega, by omega, by omega, by omega⟩
  · obtain ⟨EX, FU, CA⟩ := hp (by omega)
    have hd1 : 1 ≤ d := by omega
    have hf1 : 1 ≤ s.fuel := by omega
    obtain ⟨e, hde⟩ : ∃ e : Nat, (d : Int) - 1 = (e : Int) := ⟨d - 1, by omega⟩
    by_cases q12 : q < 12
    · exact expr_bin hb hl s d e hd1 hd5 hde hf1 h2 h3 h4 q hq EX (by omega) q12
    by_cases q14 : q < 14
    · exact expr_and hb hl s d e hd1 hd5 hde hf1 h2 h3 h4 q hq EX (by omega) q14
    by_cases q16 : q < 16
    · exact expr_not hb hl s d e hd1 hd5 hde hf1 h2 h3 h4 q hq EX (by omega) q16
    by_cases q18 : q < 18
    · exact expr_index hb hl s d e hd1 hd5 hde hf1 h2 h3 h4 q hq (by omega) q18
    by_cases q20 : q < 20
    · exact expr_table hb hl s d e hd1 hd5 hde hf1 h2 h3 h4 q hq EX (by omega) q20
    by_cases q21 : q = 20
    · exact expr_func hb hl s d e hd1 hd5 hde hf1 h2 h3 h4 q hq FU q21
    · exact expr_call hb hl s d e hd1 hd5 hde hf1 h2 h3 h4 q hq CA (by omega)
theorem expr_zero {bs : List Int} (hb : Bts bs) (hl : bs.length ≤ 600) : ExprC bs 0 := fun s d hd5 h1 h2 h3 h4 =>
  expr_any (n := 0) hb hl s d hd5 h1 (by omega) h3 h4 (fun h => absurd h (by omega))
theorem expr_succ {bs : List Int} {n : Nat} (hb : Bts bs) (hl : bs.length ≤ 600) (EX : ExprC bs n) (FU : FuncC bs n) : ExprC bs (n + 1) := fun s d hd5 h1 h2 h3 h4 =>
  expr_any hb hl s d hd5 h1 (by omega) h3 h4 (fun _ => ⟨EX, FU, call_of hb hl EX⟩)
set_option maxRecDepth 100000 in
set_option maxHeartbeats 4000000 in
theorem loop_while {bs : List Int} {n : Nat} (hb : Bts bs) (hl : bs.length ≤ 600) (EX : ExprC bs n) (BL : PartC bs n 58 ag1 3) (s : Gs) (d e : Nat) (hd1 : 1 ≤ d) (hd5 : d ≤ 5) (hde : (d : Int) - 1 = (e : Int)) (h1 : 0 ≤ s.fuel) (h2 : s.fuel ≤ n) (h3 : s.fuel ≤ 200) (h4 : (s.names.length : Int) + 1 + 4 * s.fuel ≤ 2000) : ∃ l j f, Draws bs 59 (fun g => #[.pointer (some ⟨g, 0, none⟩), .int .i64 (d : Int), .int .i64 26]) s l { s with i := j, fuel := f } ∧ f ≤ s.fuel ∧ (s.fuel ≤ 0 → s.fuel - 4 ≤ f) ∧ (0 < s.fuel → -10 * s.fuel - 4 ≤ f) ∧ (l.length : Int) ≤ 10 + 20 * (s.fuel - f) := by
  obtain ⟨l2, j2, f2, hD2, b1_2, b2_2, b3_2, b4_2⟩ := EX { s with loop := true } 1 (by omega) (by show _ ≤ (s.fuel : Int); omega) (by show (s.fuel : Int) ≤ _; omega) (by show (s.fuel : Int) ≤ _; omega) (by show (s.names.length : Int) + 4 * (s.fuel) ≤ _; omega)
  simp only at b1_2 b2_2 b3_2 b4_2
  obtain ⟨l3, j3, f3, hD3, b1_3, b2_3, b3_3, b4_3⟩ := BL { s with i := j2, fuel := f2, loop := true } e (by omega) (by show _ ≤ (f2 : Int); omega) (by show (f2 : Int) ≤ _; omega) (by show (f2 : Int) ≤ _; omega) (by show (s.names.length : Int) + 4 * (f2) ≤ _; omega)
  simp only at b1_3 b2_3 b3_3 b4_3
  have HS : Hid ((node (kn 4) [l2, l3]).length ≤ 1000000) := by show _ ≤ _; simp only [node, List.length_cons, List.flatten_cons, List.length_append, List.length_nil, List.flatten_nil]; omega
  refine ⟨node (kn 4) [l2, l3], j3, f3, fun V w0 w av cv g r hv hr hG => ?_, by omega, by omega, by omega, by simp only [node, List.length_cons, List.flatten_cons, List.length_append, List.length_nil, List.flatten_nil]; omega⟩
  have C0 : Hid (Cur V w0 av cv bs w g r no w s) := Cur.start hv hr hb hl hG
  have d3_0 := C0.out.gg.c3
  have f3_0 := C0.out.gg.free 3
  obtain ⟨an, cn, d1_0, sv0⟩ := C0.out.save
  have C1 : Hid (Cur V w0 av cv bs w g r no (w.setCell ⟨g, 3, none⟩ (.bool true)) { s with loop := true }) := (C0.out.setLoop true).1
  have S_1 : Hid (Sv V no (w.setCell ⟨g, 3, none⟩ (.bool true)) (.slice an s.names.length cn) s.names) := C0.out.sv (C0.out.setLoop true).2 sv0
  have d0_1 := C1.out.gg.c0
  have hfew := C0.out.gg.few
  have HSH : Hid (∀ x ∈ s.names, x.size ≤ 1000) := C0.out.gg.short
  clear sv0
  have D2 : Hid (Draws bs 55 (fun g => #[.pointer (some ⟨g, 0, none⟩), .int .i64 ((1 : Nat) : Int)]) { s with loop := true } l2 { s with i := j2, fuel := f2, loop := true }) := hD2
  have D3 : Hid (Draws bs 58 (fun g => #[.pointer (some ⟨g, 0, none⟩), .int .i64 (e : Int)]) { s with i := j2, fuel := f2, loop := true } l3 { s with i := j3, fuel := f3, loop := true }) := hD3
  clear hG hr hv hD2 hD3 EX BL b1_2 b2_2 b3_2 b4_2 b1_3 b2_3 b3_3 b4_3 h2 h4
  go_enter Try.func59, Try.ntmps59
  go_wp2_with (first
    | (go_at_call 45; obtain ⟨QL4, CL4, KL4, ML4⟩ := C3.out.lit (kr_two X2_3.out X3_3.out) rfl (by simp); refine (CL4.node (n := kn 4) rfl KL4 (rdV_nil _) (rdVV_nil _) HS.out (by simp)).mono ?_; rintro e w4 ⟨a4, c4, rfl, hX, hC, hF⟩; have C4 : Hid _ := hC; have X4_4 : Hid _ := hX; have S_4 : Hid _ := CL4.drop.sv hF (ML4.sv S_3.out).drop; clear hC hX hF CL4 KL4 ML4; have d3_4 : w4.cell? ⟨g, 3, none⟩ = some (.bool true) := C4.out.gg.c3; have f3_4 := C4.out.gg.free 3; have CA : Hid _ := C4.out.setLoop s.loop; have f1_4 := CA.out.1.gg.free 1; obtain ⟨za, zb, d1_4, _⟩ := CA.out.1.save)
    | (go_at_call 58; refine (C2.out.call D3.out).mono ?_; rintro e w3 ⟨a3, c3, rfl, hX, hC, hF⟩; have C3 : Hid _ := hC; have X3_3 : Hid _ := hX; have X2_3 : Hid _ := C2.out.fn hF X2_2.out; have S_3 : Hid _ := C2.out.sv hF S_2.out; clear hC hX hF; have d0_3 := C3.out.gg.c0)
    | (go_at_call 55; refine (C1.out.call D2.out).mono ?_; rintro e w2 ⟨a2, c2, rfl, hX, hC, hF⟩; have C2 : Hid _ := hC; have X2_2 : Hid _ := hX; have S_2 : Hid _ := C1.out.sv hF S_1.out; clear hC hX hF; have d0_2 := C2.out.gg.c0))
  go_returns
  obtain ⟨CB, FB⟩ := CA.out.1.setNames (.slice an s.names.length cn) s.names (C4.out.sv CA.out.2 S_4.out) hfew HSH.out
  exact CB.done (CA.out.1.fn FB (C4.out.fn CA.out.2 X4_4.out))
set_option maxRecDepth 100000 in
set_option maxHeartbeats 4000000 in
theorem loop_repeat {bs : List Int} {n : Nat} (hb : Bts bs) (hl : bs.length ≤ 600) (EX : ExprC bs n) (BL : PartC bs n 58 ag1 3) (s : Gs) (d e : Nat) (hd1 : 1 ≤ d) (hd5 : d ≤ 5) (hde : (d : Int) - 1 = (e : Int)) (h1 : 0 ≤ s.fuel) (h2 : s.fuel ≤ n) (h3 : s.fuel ≤ 200) (h4 : (s.names.length : Int) + 1 + 4 * s.fuel ≤ 2000) : ∃ l j f, Draws bs 59 (fun g => #[.pointer (some ⟨g, 0, none⟩), .int .i64 (d : Int), .int .i64 27]) s l { s with i := j, fuel := f } ∧ f ≤ s.fuel ∧ (s.fuel ≤ 0 → s.fuel - 4 ≤ f) ∧ (0 < s.fuel → -10 * s.fuel - 4 ≤ f) ∧ (l.length : Int) ≤ 10 + 20 * (s.fuel - f) := by
  obtain ⟨l2, j2, f2, hD2, b1_2, b2_2, b3_2, b4_2⟩ := BL { s with loop := true } e (by omega) (by show _ ≤ (s.fuel : Int); omega) (by show (s.fuel : Int) ≤ _; omega) (by show (s.fuel : Int) ≤ _; omega) (by show (s.names.length : Int) + 4 * (s.fuel) ≤ _; omega)
  simp only at b1_2 b2_2 b3_2 b4_2
  obtain ⟨l3, j3, f3, hD3, b1_3, b2_3, b3_3, b4_3⟩ := EX { s with i := j2, fuel := f2, loop := true } 1 (by omega) (by show _ ≤ (f2 : Int); omega) (by show (f2 : Int) ≤ _; omega) (by show (f2 : Int) ≤ _; omega) (by show (s.names.length : Int) + 4 * (f2) ≤ _; omega)
  simp only at b1_3 b2_3 b3_3 b4_3
  have HS : Hid ((node (kn 5) [l2, l3]).length ≤ 1000000) := by show _ ≤ _; simp only [node, List.length_cons, List.flatten_cons, List.length_append, List.length_nil, List.flatten_nil]; omega
  refine ⟨node (kn 5) [l2, l3], j3, f3, fun V w0 w av cv g r hv hr hG => ?_, by omega, by omega, by omega, by simp only [node, List.length_cons, List.flatten_cons, List.length_append, List.length_nil, List.flatten_nil]; omega⟩
  have C0 : Hid (Cur V w0 av cv bs w g r no w s) := Cur.start hv hr hb hl hG
  have d3_0 := C0.out.gg.c3
  have f3_0 := C0.out.gg.free 3
  obtain ⟨an, cn, d1_0, sv0⟩ := C0.out.save
  have C1 : Hid (Cur V w0 av cv bs w g r no (w.setCell ⟨g, 3, none⟩ (.bool true)) { s with loop := true }) := (C0.out.setLoop true).1
  have S_1 : Hid (Sv V no (w.setCell ⟨g, 3, none⟩ (.bool true)) (.slice an s.names.length cn) s.names) := C0.out.sv (C0.out.setLoop true).2 sv0
  have d0_1 := C1.out.gg.c0
  have hfew := C0.out.gg.few
  have HSH : Hid (∀ x ∈ s.names, x.size ≤ 1000) := C0.out.gg.short
  clear sv0
  have D2 : Hid (Draws bs 58 (fun g => #[.pointer (some ⟨g, 0, none⟩), .int .i64 (e : Int)]) { s with loop := true } l2 { s with i := j2, fuel := f2, loop := true }) := hD2
  have D3 : Hid (Draws bs 55 (fun g => #[.pointer (some ⟨g, 0, none⟩), .int .i64 ((1 : Nat) : Int)]) { s with i := j2, fuel := f2, loop := true } l3 { s with i := j3, fuel := f3, loop := true }) := hD3
  clear hG hr hv hD2 hD3 EX BL b1_2 b2_2 b3_2 b4_2 b1_3 b2_3 b3_3 b4_3 h2 h4
  go_enter Try.func59, Try.ntmps59
  go_wp2_with (first
    | (go_at_call 45; obtain ⟨QL4, CL4, KL4, ML4⟩ := C3.out.lit (kr_two X2_3.out X3_3.out) rfl (by simp); refine (CL4.node (n := kn 5) rfl KL4 (rdV_nil _) (rdVV_nil _) HS.out (by simp)).mono ?_; rintro e w4 ⟨a4, c4, rfl, hX, hC, hF⟩; have C4 : Hid _ := hC; have X4_4 : Hid _ := hX; have S_4 : Hid _ := CL4.drop.sv hF (ML4.sv S_3.out).drop; clear hC hX hF CL4 KL4 ML4; have d3_4 : w4.cell? ⟨g, 3, none⟩ = some (.bool true) := C4.out.gg.c3; have f3_4 := C4.out.gg.free 3; have CA : Hid _ := C4.out.setLoop s.loop; have f1_4 := CA.out.1.gg.free 1; obtain ⟨za, zb, d1_4, _⟩ := CA.out.1.save)
    | (go_at_call 55; refine (C2.out.call D3.out).mono ?_; rintro e w3 ⟨a3, c3, rfl, hX, hC, hF⟩; have C3 : Hid _ := hC; have X3_3 : Hid _ := hX; have X2_3 : Hid _ := C2.out.fn hF X2_2.out; have S_3 : Hid _ := C2.out.sv hF S_2.out; clear hC hX hF; have d0_3 := C3.out.gg.c0)
    | (go_at_call 58; refine (C1.out.call D2.out).mono ?_; rintro e w2 ⟨a2, c2, rfl, hX, hC, hF⟩; have C2 : Hid _ := hC; have X2_2 : Hid _ := hX; have S_2 : Hid _ := C1.out.sv hF S_1.out; clear hC hX hF; have d0_2 := C2.out.gg.c0))
  go_returns
  obtain ⟨CB, FB⟩ := CA.out.1.setNames (.slice an s.names.length cn) s.names (C4.out.sv CA.out.2 S_4.out) hfew HSH.out
  exact CB.done (CA.out.1.fn FB (C4.out.fn CA.out.2 X4_4.out))
end Go.Proofs.Ytepbddfpdlapbaa.tk
