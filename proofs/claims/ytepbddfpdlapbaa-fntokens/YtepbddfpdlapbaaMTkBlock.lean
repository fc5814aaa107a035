import Derived.Test.YtepbddfpdlapbaaMTkRows2
namespace Go.Proofs.Ytepbddfpdlapbaa.tk
open Go.RowKit Go.Proofs.Ytepbddfpdlapbaa.bts Go.Proofs.Ytepbddfpdlapbaa.nod
theorem seqS {bs : List Int} {n : Nat} (S : StatC bs n) (s : Gs) (d m : Nat) (hd : d ≤ 5) (h2 : s.fuel ≤ n) (h3 : s.fuel ≤ 200) (h4 : (s.names.length : Int) + 4 * s.fuel ≤ 2000) :
    ∃ (t : Nat) (js : Nat → Nat) (fs : Nat → Int) (ns : Nat → List ByteArray) (ls : Nat → List Nd), t ≤ m ∧ js 0 = s.i ∧ fs 0 = s.fuel ∧ ns 0 = s.names ∧ (t = m ∨ fs t ≤ 0) ∧
      (∀ k, k < t → 0 < fs k ∧ Draws bs 49 (fun g => #[.pointer (some ⟨g, 0, none⟩), .int .i64 (d : Int)]) { s with i := js k, fuel := fs k, names := ns k } (ls k) { s with i := js (k + 1), fuel := fs (k + 1), names := ns (k + 1) }) ∧
      ∀ k, k ≤ t → fs k ≤ s.fuel - k ∧ (s.fuel ≤ 0 → k = 0) ∧ (0 < s.fuel → -10 * s.fuel - 1 ≤ fs k) ∧ ((upto ls k).flatten.length : Int) ≤ 20 * (s.fuel - fs k) ∧ ((ns k).length : Int) + 4 * fs k ≤ s.names.length + 4 * s.fuel := by
  induction m with
  | zero => exact ⟨0, fun _ => s.i, fun _ => s.fuel, fun _ => s.names, fun _ => [], Nat.le_refl _, rfl, rfl, rfl, .inl rfl, fun k hk => absurd hk (by omega), fun k hk => by
      obtain rfl : k = 0 := by omega
      simp [upto]
      omega⟩
  | succ m ih =>
    obtain ⟨t, js, fs, ns, ls, htm, e1, e2, e3, hend, hD, hB⟩ := ih
    by_cases hf : fs t ≤ 0
    · exact ⟨t, js, fs, ns, ls, by omega, e1, e2, e3, .inr hf, hD, hB⟩
    · obtain rfl : t = m := by omega
      have hb := hB t (Nat.le_refl _)
      obtain ⟨l, j, f, nn, hDl, b1, b2, b3, b4⟩ := S { s with i := js t, fuel := fs t, names := ns t } d hd (by show _ < fs t; omega) (by show fs t ≤ _; omega) (by show fs t ≤ _; omega) (by show ((ns t).length : Int) + 4 * fs t ≤ _; omega)
      simp only at b1 b2 b3 b4
      refine ⟨t + 1, fun k => if k ≤ t then js k else j, fun k => if k ≤ t then fs k else f, fun k => if k ≤ t then ns k else nn, fun k => if k < t then ls k else l, Nat.le_refl _, by simp [e1], by simp [e2], by simp [e3], .inl rfl, fun k hk => ?_, fun k hk => ?_⟩
      · by_cases hkm : k < t
        · have := hD k hkm
          simp only [if_pos (show k ≤ t by omega), if_pos (show k + 1 ≤ t by omega), if_pos hkm]
          exact this
        · obtain rfl : k = t := by omega
          simp only [if_pos (Nat.le_refl k), if_neg (show ¬ k + 1 ≤ k by omega), if_neg (Nat.lt_irrefl k)]
          exact ⟨by omega, hDl⟩
      · have hup : ∀ k, k ≤ t → upto (fun k => if k < t then ls k else l) k = upto ls k := fun k hk => by
          unfold upto
          refine List.map_congr_left (fun i hi => ?_)
          rw [List.mem_range] at hi
          rw [if_pos (by omega)]
        by_cases hkm : k ≤ t
        · rw [hup k hkm]
          simp only [if_pos hkm]
          exact hB k hkm
        · obtain rfl : k = t + 1 := by omega
          rw [upto_succ, hup t (Nat.le_refl _)]
          simp only [if_neg (show ¬ t + 1 ≤ t by omega), if_neg (Nat.lt_irrefl t), List.flatten_append, List.length_append, List.flatten_cons, List.flatten_nil, List.append_nil]
          refine ⟨by omega, by omega, by omega, by omega, ?_⟩
          have : (nn.length : Int) ≤ (ns t).length + 2 := by omega
          omega
set_option maxRecDepth 100000 in
set_option maxHeartbeats 4000000 in
theorem block_c1 {bs : List Int} {n : Nat} (hb : Bts bs) (hl : bs.length ≤ 600) (_EX : ExprC bs n) (_ST : StatC bs n) (s : Gs) (d : Nat) (_hd5 : d ≤ 5) (_h1 : -39000 ≤ s.fuel) (_h2 : s.fuel ≤ n) (_h3 : s.fuel ≤ 200) (_h4 : (s.names.length : Int) + 4 * s.fuel ≤ 2000) (k1 : Nat) (hk1 : nx bs s.i = (k1 : Int)) (kb1 : k1 ≤ 255) (m : Nat) (hm : ((k1 : Int) % 4) = (m : Int)) (hm4 : m < 4) (t : Nat) (js : Nat → Nat) (fs : Nat → Int) (ns : Nat → List ByteArray) (ls : Nat → List Nd) (htm : t ≤ m) (e1 : js 0 = nxi bs s.i) (e2 : fs 0 = s.fuel) (e3 : ns 0 = s.names) (hend : t = m ∨ fs t ≤ 0) (hD : ∀ k, k < t → 0 < fs k ∧ Draws bs 49 (fun g => #[.pointer (some ⟨g, 0, none⟩), .int .i64 (d : Int)]) { s with i := js k, fuel := fs k, names := ns k } (ls k) { s with i := js (k + 1), fuel := fs (k + 1), names := ns (k + 1) }) (hfb : ∀ k, k ≤ t → -50000 ≤ fs k ∧ fs k ≤ 200) (k2 : Nat) (hk2 : nx bs (js t) = (k2 : Int)) (kb2 : k2 ≤ 255) (p : Nat) (hp : ((k2 : Int) % 8) = (p : Int)) (_hp8 : p < 8) (hlp : s.loop = false) (hfn : s.fn = false) (c1 : p < 2) (HS : Hid ((node (kn 0) (upto ls t)).length ≤ 1000000)) : Draws bs 58 (fun g => #[.pointer (some ⟨g, 0, none⟩), .int .i64 (d : Int)]) s (node (kn 0) (upto ls t)) { s with i := nxi bs (js t), fuel := fs t } := by
  intro V w0 w av cv g r hv hr hG
  have jp2 : (p : Int) < 2 := by omega
  have jp5 : (p : Int) < 5 := by omega
  have C0 : Hid (Cur V w0 av cv bs w g r no w s) := Cur.start hv hr hb hl hG
  have d0_0 := C0.out.gg.c0
  obtain ⟨an, cn, d1_0, sv0⟩ := C0.out.save
  have S_0 : Hid (Sv V no w (.slice an s.names.length cn) s.names) := sv0
  have HC : Hid (∀ W Q, Cur V w0 av cv bs w g r Q W (stepG bs s) → Cur V w0 av cv bs w g r Q W { s with i := js 0, fuel := fs 0, names := ns 0 }) := fun W Q h => by
    rw [e1, e2, e3]; exact h
  have HD : Hid (∀ k, k < t → 0 < fs k ∧ Draws bs 49 (fun g => #[.pointer (some ⟨g, 0, none⟩), .int .i64 (d : Int)]) { s with i := js k, fuel := fs k, names := ns k } (ls k) { s with i := js (k + 1), fuel := fs (k + 1), names := ns (k + 1) }) := hD
  have HFB : Hid (∀ k, k ≤ t → -50000 ≤ fs k ∧ fs k ≤ 200) := hfb
  have HND : Hid (t = m ∨ fs t ≤ 0) := hend
  have hfew := C0.out.gg.few
  have HSH : Hid (∀ x ∈ s.names, x.size ≤ 1000) := C0.out.gg.short
  clear hG hr hv e1 e2 e3 hD hfb hend sv0
  go_enter Try.func58, Try.ntmps58
  go_wp2_with (first
    | (go_at_call 9; refine (C0.out.next hk1).mono ?_; rintro e w1 ⟨rfl, hC, hF⟩; have C1 : Hid _ := hC; have S_1 : Hid _ := C0.out.sv hF S_0.out; clear hC hF; have d0_1 := C1.out.gg.c0))
  try rw [hm]
  go_loopw [6, 8] (fun va vi wr => ∃ (k c : Nat) (Q : Nat → Bool) (a : Option Addr), k ≤ t ∧ vi = .int .i64 (k : Int) ∧ va = .slice a k c ∧ Hid (Cur V w0 av cv bs w g r Q wr { s with i := js k, fuel := fs k, names := ns k }) ∧ Hid (Kids w Q wr (.slice a k c) (upto ls k)) ∧ Hid (Sv V Q wr (.slice an s.names.length cn) s.names)) (fun _ x _ => t - (intOf x).toNat)
  case atStart => exact ⟨0, 0, no, none, Nat.zero_le _, rfl, rfl, HC.out _ _ C1.out, kids_nil, S_1.out⟩
  case round =>
    obtain ⟨k, c, Q, a, hkm, rfl, rfl, C20, K20, S_20⟩ := hrel
    have d0_20 := C20.out.gg.c0
    have d2_20 : wr.cell? ⟨g, 2, none⟩ = some (.int .i64 (fs k)) := C20.out.gg.c2
    have fb20 := HFB.out k hkm
    by_cases hlt : k < t
    · have i1 : (k : Int) < (m : Int) := by omega
      obtain ⟨i2, hDk⟩ := HD.out k hlt
      have D21 : Hid _ := hDk
      clear hDk
      go_wp2_with (first
        | (at_builtin; refine wpList_append_kids rfl _ _ rfl C21.out [.slice a21 (ls k).length c21] rfl rfl rfl K20_21.out (by simp [upto_length]) (kr_one X21_21.out) (by simp [upto_length]; omega) rfl ?_; intro a22 c22 w22 Q22 hK hC hM; have C22 : Hid _ := hC; have K22 : Hid _ := hK; have S_22 : Hid _ := hM.sv S_21.out; clear hC hK hM)
        | (go_at_call 49; refine (C20.out.call D21.out).mono ?_; rintro e w21 ⟨a21, c21, rfl, hX, hC, hF⟩; have C21 : Hid _ := hC; have X21_21 : Hid _ := hX; have K20_21 : Hid _ := C20.out.kids hF K20.out; have S_21 : Hid _ := C20.out.sv hF S_20.out; clear hC hX hF; have d0_21 := C21.out.gg.c0))
      refine ⟨⟨k + 1, c22, Q22, a22, by omega, by go_num, rfl, C22.out, by rw [upto_succ]; exact K22.out, S_22.out⟩, by simp [intOf]; omega⟩
    · obtain rfl : k = t := by omega
      have hk2' : nx bs (Gs.i { s with i := js k, fuel := fs k, names := ns k }) = (k2 : Int) := hk2
      by_cases htm2 : k = m
      · subst htm2
        have i1 : ¬ ((k : Int) < (k : Int)) := by omega
        go_wp2_with (first
          | (go_at_call 45; obtain ⟨CS, FSa⟩ := C23.out.setNames (.slice an s.names.length cn) s.names S_23.out hfew HSH.out; refine (CS.node (n := kn 0) rfl (C23.out.kids FSa K20_23.out) (rdV_nil _) (rdVV_nil _) HS.out (by simp [upto_length]; omega)).mono ?_; clear CS FSa; rintro e w30 ⟨a30, c30, rfl, hX, hC, hF⟩; have C30 : Hid _ := hC; have X30_30 : Hid _ := hX; clear hC hX hF)
          | (go_at_call 9; refine (C20.out.next hk2').mono ?_; rintro e w23 ⟨rfl, hC, hF⟩; have C23 : Hid _ := hC; have K20_23 : Hid _ := C20.out.kids hF K20.out; have S_23 : Hid _ := C20.out.sv hF S_20.out; clear hC hF; have d0_23 := C23.out.gg.c0; have d3_23 : w23.cell? ⟨g, 3, none⟩ = some (.bool s.loop) := C23.out.gg.c3; have d4_23 : w23.cell? ⟨g, 4, none⟩ = some (.bool s.fn) := C23.out.gg.c4; try rw [hlp] at d3_23; try rw [hfn] at d4_23; have f1_23 := C23.out.gg.free 1; obtain ⟨za_23, zb_23, d1_23, _⟩ := C23.out.save))
        go_returns
        exact C30.out.done X30_30.out
      · have i1 : (k : Int) < (m : Int) := by omega
        have i2 : ¬ (0 < fs k) := by have := HND.out; omega
        go_wp2_with (first
          | (go_at_call 45; obtain ⟨CS, FSa⟩ := C23.out.setNames (.slice an s.names.length cn) s.names S_23.out hfew HSH.out; refine (CS.node (n := kn 0) rfl (C23.out.kids FSa K20_23.out) (rdV_nil _) (rdVV_nil _) HS.out (by simp [upto_length]; omega)).mono ?_; clear CS FSa; rintro e w30 ⟨a30, c30, rfl, hX, hC, hF⟩; have C30 : Hid _ := hC; have X30_30 : Hid _ := hX; clear hC hX hF)
          | (go_at_call 9; refine (C20.out.next hk2').mono ?_; rintro e w23 ⟨rfl, hC, hF⟩; have C23 : Hid _ := hC; have K20_23 : Hid _ := C20.out.kids hF K20.out; have S_23 : Hid _ := C20.out.sv hF S_20.out; clear hC hF; have d0_23 := C23.out.gg.c0; have d3_23 : w23.cell? ⟨g, 3, none⟩ = some (.bool s.loop) := C23.out.gg.c3; have d4_23 : w23.cell? ⟨g, 4, none⟩ = some (.bool s.fn) := C23.out.gg.c4; try rw [hlp] at d3_23; try rw [hfn] at d4_23; have f1_23 := C23.out.gg.free 1; obtain ⟨za_23, zb_23, d1_23, _⟩ := C23.out.save))
        go_returns
        exact C30.out.done X30_30.out
set_option maxRecDepth 100000 in
set_option maxHeartbeats 4000000 in
theorem block_c2 {bs : List Int} {n : Nat} (hb : Bts bs) (hl : bs.length ≤ 600) (_EX : ExprC bs n) (_ST : StatC bs n) (s : Gs) (d : Nat) (_hd5 : d ≤ 5) (_h1 : -39000 ≤ s.fuel) (_h2 : s.fuel ≤ n) (_h3 : s.fuel ≤ 200) (_h4 : (s.names.length : Int) + 4 * s.fuel ≤ 2000) (k1 : Nat) (hk1 : nx bs s.i = (k1 : Int)) (kb1 : k1 ≤ 255) (m : Nat) (hm : ((k1 : Int) % 4) = (m : Int)) (hm4 : m < 4) (t : Nat) (js : Nat → Nat) (fs : Nat → Int) (ns : Nat → List ByteArray) (ls : Nat → List Nd) (htm : t ≤ m) (e1 : js 0 = nxi bs s.i) (e2 : fs 0 = s.fuel) (e3 : ns 0 = s.names) (hend : t = m ∨ fs t ≤ 0) (hD : ∀ k, k < t → 0 < fs k ∧ Draws bs 49 (fun g => #[.pointer (some ⟨g, 0, none⟩), .int .i64 (d : Int)]) { s with i := js k, fuel := fs k, names := ns k } (ls k) { s with i := js (k + 1), fuel := fs (k + 1), names := ns (k + 1) }) (hfb : ∀ k, k ≤ t → -50000 ≤ fs k ∧ fs k ≤ 200) (k2 : Nat) (hk2 : nx bs (js t) = (k2 : Int)) (kb2 : k2 ≤ 255) (p : Nat) (hp : ((k2 : Int) % 8) = (p : Int)) (_hp8 : p < 8) (hfn : s.fn = false) (c1 : 2 ≤ p) (c2 : p < 5) (HS : Hid ((node (kn 0) (upto ls t)).length ≤ 1000000)) : Draws bs 58 (fun g => #[.pointer (some ⟨g, 0, none⟩), .int .i64 (d : Int)]) s (node (kn 0) (upto ls t)) { s with i := nxi bs (js t), fuel := fs t } := by
  intro V w0 w av cv g r hv hr hG
  have jp2 : ¬ ((p : Int) < 2) := by omega
  have jp5 : (p : Int) < 5 := by omega
  obtain ⟨lp, hlp⟩ : ∃ b, s.loop = b := ⟨_, rfl⟩
  have C0 : Hid (Cur V w0 av cv bs w g r no w s) := Cur.start hv hr hb hl hG
  have d0_0 := C0.out.gg.c0
  obtain ⟨an, cn, d1_0, sv0⟩ := C0.out.save
  have S_0 : Hid (Sv V no w (.slice an s.names.length cn) s.names) := sv0
  have HC : Hid (∀ W Q, Cur V w0 av cv bs w g r Q W (stepG bs s) → Cur V w0 av cv bs w g r Q W { s with i := js 0, fuel := fs 0, names := ns 0 }) := fun W Q h => by
    rw [e1, e2, e3]; exact h
  have HD : Hid (∀ k, k < t → 0 < fs k ∧ Draws bs 49 (fun g => #[.pointer (some ⟨g, 0, none⟩), .int .i64 (d : Int)]) { s with i := js k, fuel := fs k, names := ns k } (ls k) { s with i := js (k + 1), fuel := fs (k + 1), names := ns (k + 1) }) := hD
  have HFB : Hid (∀ k, k ≤ t → -50000 ≤ fs k ∧ fs k ≤ 200) := hfb
  have HND : Hid (t = m ∨ fs t ≤ 0) := hend
  have hfew := C0.out.gg.few
  have HSH : Hid (∀ x ∈ s.names, x.size ≤ 1000) := C0.out.gg.short
  clear hG hr hv e1 e2 e3 hD hfb hend sv0
  go_enter Try.func58, Try.ntmps58
  go_wp2_with (first
    | (go_at_call 9; refine (C0.out.next hk1).mono ?_; rintro e w1 ⟨rfl, hC, hF⟩; have C1 : Hid _ := hC; have S_1 : Hid _ := C0.out.sv hF S_0.out; clear hC hF; have d0_1 := C1.out.gg.c0))
  try rw [hm]
  go_loopw [6, 8] (fun va vi wr => ∃ (k c : Nat) (Q : Nat → Bool) (a : Option Addr), k ≤ t ∧ vi = .int .i64 (k : Int) ∧ va = .slice a k c ∧ Hid (Cur V w0 av cv bs w g r Q wr { s with i := js k, fuel := fs k, names := ns k }) ∧ Hid (Kids w Q wr (.slice a k c) (upto ls k)) ∧ Hid (Sv V Q wr (.slice an s.names.length cn) s.names)) (fun _ x _ => t - (intOf x).toNat)
  case atStart => exact ⟨0, 0, no, none, Nat.zero_le _, rfl, rfl, HC.out _ _ C1.out, kids_nil, S_1.out⟩
  case round =>
    obtain ⟨k, c, Q, a, hkm, rfl, rfl, C20, K20, S_20⟩ := hrel
    have d0_20 := C20.out.gg.c0
    have d2_20 : wr.cell? ⟨g, 2, none⟩ = some (.int .i64 (fs k)) := C20.out.gg.c2
    have fb20 := HFB.out k hkm
    by_cases hlt : k < t
    · have i1 : (k : Int) < (m : Int) := by omega
      obtain ⟨i2, hDk⟩ := HD.out k hlt
      have D21 : Hid _ := hDk
      clear hDk
      go_wp2_with (first
        | (at_builtin; refine wpList_append_kids rfl _ _ rfl C21.out [.slice a21 (ls k).length c21] rfl rfl rfl K20_21.out (by simp [upto_length]) (kr_one X21_21.out) (by simp [upto_length]; omega) rfl ?_; intro a22 c22 w22 Q22 hK hC hM; have C22 : Hid _ := hC; have K22 : Hid _ := hK; have S_22 : Hid _ := hM.sv S_21.out; clear hC hK hM)
        | (go_at_call 49; refine (C20.out.call D21.out).mono ?_; rintro e w21 ⟨a21, c21, rfl, hX, hC, hF⟩; have C21 : Hid _ := hC; have X21_21 : Hid _ := hX; have K20_21 : Hid _ := C20.out.kids hF K20.out; have S_21 : Hid _ := C20.out.sv hF S_20.out; clear hC hX hF; have d0_21 := C21.out.gg.c0))
      refine ⟨⟨k + 1, c22, Q22, a22, by omega, by go_num, rfl, C22.out, by rw [upto_succ]; exact K22.out, S_22.out⟩, by simp [intOf]; omega⟩
    · obtain rfl : k = t := by omega
      have hk2' : nx bs (Gs.i { s with i := js k, fuel := fs k, names := ns k }) = (k2 : Int) := hk2
      by_cases htm2 : k = m
      · subst htm2
        have i1 : ¬ ((k : Int) < (k : Int)) := by omega
        go_wp2_with (first
          | (go_at_call 45; obtain ⟨CS, FSa⟩ := C23.out.setNames (.slice an s.names.length cn) s.names S_23.out hfew HSH.out; refine (CS.node (n := kn 0) rfl (C23.out.kids FSa K20_23.out) (rdV_nil _) (rdVV_nil _) HS.out (by simp [upto_length]; omega)).mono ?_; clear CS FSa; rintro e w30 ⟨a30, c30, rfl, hX, hC, hF⟩; have C30 : Hid _ := hC; have X30_30 : Hid _ := hX; clear hC hX hF)
          | (go_at_call 9; refine (C20.out.next hk2').mono ?_; rintro e w23 ⟨rfl, hC, hF⟩; have C23 : Hid _ := hC; have K20_23 : Hid _ := C20.out.kids hF K20.out; have S_23 : Hid _ := C20.out.sv hF S_20.out; clear hC hF; have d0_23 := C23.out.gg.c0; have d3_23 : w23.cell? ⟨g, 3, none⟩ = some (.bool s.loop) := C23.out.gg.c3; have d4_23 : w23.cell? ⟨g, 4, none⟩ = some (.bool s.fn) := C23.out.gg.c4; try rw [hlp] at d3_23; try rw [hfn] at d4_23; have f1_23 := C23.out.gg.free 1; obtain ⟨za_23, zb_23, d1_23, _⟩ := C23.out.save))
        go_returns
        exact C30.out.done X30_30.out
      · have i1 : (k : Int) < (m : Int) := by omega
        have i2 : ¬ (0 < fs k) := by have := HND.out; omega
        go_wp2_with (first
          | (go_at_call 45; obtain ⟨CS, FSa⟩ := C23.out.setNames (.slice an s.names.length cn) s.names S_23.out hfew HSH.out; refine (CS.node (n := kn 0) rfl (C23.out.kids FSa K20_23.out) (rdV_nil _) (rdVV_nil _) HS.out (by simp [upto_length]; omega)).mono ?_; clear CS FSa; rintro e w30 ⟨a30, c30, rfl, hX, hC, hF⟩; have C30 : Hid _ := hC; have X30_30 : Hid _ := hX; clear hC hX hF)
          | (go_at_call 9; refine (C20.out.next hk2').mono ?_; rintro e w23 ⟨rfl, hC, hF⟩; have C23 : Hid _ := hC; have K20_23 : Hid _ := C20.out.kids hF K20.out; have S_23 : Hid _ := C20.out.sv hF S_20.out; clear hC hF; have d0_23 := C23.out.gg.c0; have d3_23 : w23.cell? ⟨g, 3, none⟩ = some (.bool s.loop) := C23.out.gg.c3; have d4_23 : w23.cell? ⟨g, 4, none⟩ = some (.bool s.fn) := C23.out.gg.c4; try rw [hlp] at d3_23; try rw [hfn] at d4_23; have f1_23 := C23.out.gg.free 1; obtain ⟨za_23, zb_23, d1_23, _⟩ := C23.out.save))
        go_returns
        exact C30.out.done X30_30.out
set_option maxRecDepth 100000 in
set_option maxHeartbeats 4000000 in
theorem block_c3 {bs : List Int} {n : Nat} (hb : Bts bs) (hl : bs.length ≤ 600) (_EX : ExprC bs n) (_ST : StatC bs n) (s : Gs) (d : Nat) (_hd5 : d ≤ 5) (_h1 : -39000 ≤ s.fuel) (_h2 : s.fuel ≤ n) (_h3 : s.fuel ≤ 200) (_h4 : (s.names.length : Int) + 4 * s.fuel ≤ 2000) (k1 : Nat) (hk1 : nx bs s.i = (k1 : Int)) (kb1 : k1 ≤ 255) (m : Nat) (hm : ((k1 : Int) % 4) = (m : Int)) (hm4 : m < 4) (t : Nat) (js : Nat → Nat) (fs : Nat → Int) (ns : Nat → List ByteArray) (ls : Nat → List Nd) (htm : t ≤ m) (e1 : js 0 = nxi bs s.i) (e2 : fs 0 = s.fuel) (e3 : ns 0 = s.names) (hend : t = m ∨ fs t ≤ 0) (hD : ∀ k, k < t → 0 < fs k ∧ Draws bs 49 (fun g => #[.pointer (some ⟨g, 0, none⟩), .int .i64 (d : Int)]) { s with i := js k, fuel := fs k, names := ns k } (ls k) { s with i := js (k + 1), fuel := fs (k + 1), names := ns (k + 1) }) (hfb : ∀ k, k ≤ t → -50000 ≤ fs k ∧ fs k ≤ 200) (k2 : Nat) (hk2 : nx bs (js t) = (k2 : Int)) (kb2 : k2 ≤ 255) (p : Nat) (hp : ((k2 : Int) % 8) = (p : Int)) (_hp8 : p < 8) (c1 : 5 ≤ p) (HS : Hid ((node (kn 0) (upto ls t)).length ≤ 1000000)) : Draws bs 58 (fun g => #[.pointer (some ⟨g, 0, none⟩), .int .i64 (d : Int)]) s (node (kn 0) (upto ls t)) { s with i := nxi bs (js t), fuel := fs t } := by
  intro V w0 w av cv g r hv hr hG
  have jp2 : ¬ ((p : Int) < 2) := by omega
  have jp5 : ¬ ((p : Int) < 5) := by omega
  obtain ⟨lp, hlp⟩ : ∃ b, s.loop = b := ⟨_, rfl⟩
  obtain ⟨fn, hfn⟩ : ∃ b, s.fn = b := ⟨_, rfl⟩
  have C0 : Hid (Cur V w0 av cv bs w g r no w s) := Cur.start hv hr hb hl hG
  have d0_0 := C0.out.gg.c0
  obtain ⟨an, cn, d1_0, sv0⟩ := C0.out.save
  have S_0 : Hid (Sv V no w (.slice an s.names.length cn) s.names) := sv0
  have HC : Hid (∀ W Q, Cur V w0 av cv bs w g r Q W (stepG bs s) → Cur V w0 av cv bs w g r Q W { s with i := js 0, fuel := fs 0, names := ns 0 }) := fun W Q h => by
    rw [e1, e2, e3]; exact h
  have HD : Hid (∀ k, k < t → 0 < fs k ∧ Draws bs 49 (fun g => #[.pointer (some ⟨g, 0, none⟩), .int .i64 (d : Int)]) { s with i := js k, fuel := fs k, names := ns k } (ls k) { s with i := js (k + 1), fuel := fs (k + 1), names := ns (k + 1) }) := hD
  have HFB : Hid (∀ k, k ≤ t → -50000 ≤ fs k ∧ fs k ≤ 200) := hfb
  have HND : Hid (t = m ∨ fs t ≤ 0) := hend
  have hfew := C0.out.gg.few
  have HSH : Hid (∀ x ∈ s.names, x.size ≤ 1000) := C0.out.gg.short
  clear hG hr hv e1 e2 e3 hD hfb hend sv0
  go_enter Try.func58, Try.ntmps58
  go_wp2_with (first
    | (go_at_call 9; refine (C0.out.next hk1).mono ?_; rintro e w1 ⟨rfl, hC, hF⟩; have C1 : Hid _ := hC; have S_1 : Hid _ := C0.out.sv hF S_0.out; clear hC hF; have d0_1 := C1.out.gg.c0))
  try rw [hm]
  go_loopw [6, 8] (fun va vi wr => ∃ (k c : Nat) (Q : Nat → Bool) (a : Option Addr), k ≤ t ∧ vi = .int .i64 (k : Int) ∧ va = .slice a k c ∧ Hid (Cur V w0 av cv bs w g r Q wr { s with i := js k, fuel := fs k, names := ns k }) ∧ Hid (Kids w Q wr (.slice a k c) (upto ls k)) ∧ Hid (Sv V Q wr (.slice an s.names.length cn) s.names)) (fun _ x _ => t - (intOf x).toNat)
  case atStart => exact ⟨0, 0, no, none, Nat.zero_le _, rfl, rfl, HC.out _ _ C1.out, kids_nil, S_1.out⟩
  case round =>
    obtain ⟨k, c, Q, a, hkm, rfl, rfl, C20, K20, S_20⟩ := hrel
    have d0_20 := C20.out.gg.c0
    have d2_20 : wr.cell? ⟨g, 2, none⟩ = some (.int .i64 (fs k)) := C20.out.gg.c2
    have fb20 := HFB.out k hkm
    by_cases hlt : k < t
    · have i1 : (k : Int) < (m : Int) := by omega
      obtain ⟨i2, hDk⟩ := HD.out k hlt
      have D21 : Hid _ := hDk
      clear hDk
      go_wp2_with (first
        | (at_builtin; refine wpList_append_kids rfl _ _ rfl C21.out [.slice a21 (ls k).length c21] rfl rfl rfl K20_21.out (by simp [upto_length]) (kr_one X21_21.out) (by simp [upto_length]; omega) rfl ?_; intro a22 c22 w22 Q22 hK hC hM; have C22 : Hid _ := hC; have K22 : Hid _ := hK; have S_22 : Hid _ := hM.sv S_21.out; clear hC hK hM)
        | (go_at_call 49; refine (C20.out.call D21.out).mono ?_; rintro e w21 ⟨a21, c21, rfl, hX, hC, hF⟩; have C21 : Hid _ := hC; have X21_21 : Hid _ := hX; have K20_21 : Hid _ := C20.out.kids hF K20.out; have S_21 : Hid _ := C20.out.sv hF S_20.out; clear hC hX hF; have d0_21 := C21.out.gg.c0))
      refine ⟨⟨k + 1, c22, Q22, a22, by omega, by go_num, rfl, C22.out, by rw [upto_succ]; exact K22.out, S_22.out⟩, by simp [intOf]; omega⟩
    · obtain rfl : k = t := by omega
      have hk2' : nx bs (Gs.i { s with i := js k, fuel := fs k, names := ns k }) = (k2 : Int) := hk2
      by_cases htm2 : k = m
      · subst htm2
        have i1 : ¬ ((k : Int) < (k : Int)) := by omega
        go_wp2_with (first
          | (go_at_call 45; obtain ⟨CS, FSa⟩ := C23.out.setNames (.slice an s.names.length cn) s.names S_23.out hfew HSH.out; refine (CS.node (n := kn 0) rfl (C23.out.kids FSa K20_23.out) (rdV_nil _) (rdVV_nil _) HS.out (by simp [upto_length]; omega)).mono ?_; clear CS FSa; rintro e w30 ⟨a30, c30, rfl, hX, hC, hF⟩; have C30 : Hid _ := hC; have X30_30 : Hid _ := hX; clear hC hX hF)
          | (go_at_call 9; refine (C20.out.next hk2').mono ?_; rintro e w23 ⟨rfl, hC, hF⟩; have C23 : Hid _ := hC; have K20_23 : Hid _ := C20.out.kids hF K20.out; have S_23 : Hid _ := C20.out.sv hF S_20.out; clear hC hF; have d0_23 := C23.out.gg.c0; have d3_23 : w23.cell? ⟨g, 3, none⟩ = some (.bool s.loop) := C23.out.gg.c3; have d4_23 : w23.cell? ⟨g, 4, none⟩ = some (.bool s.fn) := C23.out.gg.c4; try rw [hlp] at d3_23; try rw [hfn] at d4_23; have f1_23 := C23.out.gg.free 1; obtain ⟨za_23, zb_23, d1_23, _⟩ := C23.out.save))
        go_returns
        exact C30.out.done X30_30.out
      · have i1 : (k : Int) < (m : Int) := by omega
        have i2 : ¬ (0 < fs k) := by have := HND.out; omega
        go_wp2_with (first
          | (go_at_call 45; obtain ⟨CS, FSa⟩ := C23.out.setNames (.slice an s.names.length cn) s.names S_23.out hfew HSH.out; refine (CS.node (n := kn 0) rfl (C23.out.kids FSa K20_23.out) (rdV_nil _) (rdVV_nil _) HS.out (by simp [upto_length]; omega)).mono ?_; clear CS FSa; rintro e w30 ⟨a30, c30, rfl, hX, hC, hF⟩; have C30 : Hid _ := hC; have X30_30 : Hid _ := hX; clear hC hX hF)
          | (go_at_call 9; refine (C20.out.next hk2').mono ?_; rintro e w23 ⟨rfl, hC, hF⟩; have C23 : Hid _ := hC; have K20_23 : Hid _ := C20.out.kids hF K20.out; have S_23 : Hid _ := C20.out.sv hF S_20.out; clear hC hF; have d0_23 := C23.out.gg.c0; have d3_23 : w23.cell? ⟨g, 3, none⟩ = some (.bool s.loop) := C23.out.gg.c3; have d4_23 : w23.cell? ⟨g, 4, none⟩ = some (.bool s.fn) := C23.out.gg.c4; try rw [hlp] at d3_23; try rw [hfn] at d4_23; have f1_23 := C23.out.gg.free 1; obtain ⟨za_23, zb_23, d1_23, _⟩ := C23.out.save))
        go_returns
        exact C30.out.done X30_30.out
set_option maxRecDepth 100000 in
set_option maxHeartbeats 4000000 in
theorem block_a {bs : List Int} {n : Nat} (hb : Bts bs) (hl : bs.length ≤ 600) (_EX : ExprC bs n) (_ST : StatC bs n) (s : Gs) (d : Nat) (_hd5 : d ≤ 5) (_h1 : -39000 ≤ s.fuel) (_h2 : s.fuel ≤ n) (_h3 : s.fuel ≤ 200) (_h4 : (s.names.length : Int) + 4 * s.fuel ≤ 2000) (k1 : Nat) (hk1 : nx bs s.i = (k1 : Int)) (kb1 : k1 ≤ 255) (m : Nat) (hm : ((k1 : Int) % 4) = (m : Int)) (hm4 : m < 4) (t : Nat) (js : Nat → Nat) (fs : Nat → Int) (ns : Nat → List ByteArray) (ls : Nat → List Nd) (htm : t ≤ m) (e1 : js 0 = nxi bs s.i) (e2 : fs 0 = s.fuel) (e3 : ns 0 = s.names) (hend : t = m ∨ fs t ≤ 0) (hD : ∀ k, k < t → 0 < fs k ∧ Draws bs 49 (fun g => #[.pointer (some ⟨g, 0, none⟩), .int .i64 (d : Int)]) { s with i := js k, fuel := fs k, names := ns k } (ls k) { s with i := js (k + 1), fuel := fs (k + 1), names := ns (k + 1) }) (hfb : ∀ k, k ≤ t → -50000 ≤ fs k ∧ fs k ≤ 200) (k2 : Nat) (hk2 : nx bs (js t) = (k2 : Int)) (kb2 : k2 ≤ 255) (p : Nat) (hp : ((k2 : Int) % 8) = (p : Int)) (_hp8 : p < 8) (hlp : s.loop = true) (c1 : p < 2) (HS : Hid ((node (kn 0) (upto ls t ++ [leaf 8])).length ≤ 1000000)) : Draws bs 58 (fun g => #[.pointer (some ⟨g, 0, none⟩), .int .i64 (d : Int)]) s (node (kn 0) (upto ls t ++ [leaf 8])) { s with i := nxi bs (js t), fuel := fs t } := by
  intro V w0 w av cv g r hv hr hG
  have jp2 : (p : Int) < 2 := by omega
  obtain ⟨fn, hfn⟩ : ∃ b, s.fn = b := ⟨_, rfl⟩
  have C0 : Hid (Cur V w0 av cv bs w g r no w s) := Cur.start hv hr hb hl hG
  have d0_0 := C0.out.gg.c0
  obtain ⟨an, cn, d1_0, sv0⟩ := C0.out.save
  have S_0 : Hid (Sv V no w (.slice an s.names.length cn) s.names) := sv0
  have HC : Hid (∀ W Q, Cur V w0 av cv bs w g r Q W (stepG bs s) → Cur V w0 av cv bs w g r Q W { s with i := js 0, fuel := fs 0, names := ns 0 }) := fun W Q h => by
    rw [e1, e2, e3]; exact h
  have HD : Hid (∀ k, k < t → 0 < fs k ∧ Draws bs 49 (fun g => #[.pointer (some ⟨g, 0, none⟩), .int .i64 (d : Int)]) { s with i := js k, fuel := fs k, names := ns k } (ls k) { s with i := js (k + 1), fuel := fs (k + 1), names := ns (k + 1) }) := hD
  have HFB : Hid (∀ k, k ≤ t → -50000 ≤ fs k ∧ fs k ≤ 200) := hfb
  have HND : Hid (t = m ∨ fs t ≤ 0) := hend
  have hfew := C0.out.gg.few
  have HSH : Hid (∀ x ∈ s.names, x.size ≤ 1000) := C0.out.gg.short
  clear hG hr hv e1 e2 e3 hD hfb hend sv0
  go_enter Try.func58, Try.ntmps58
  go_wp2_with (first
    | (go_at_call 9; refine (C0.out.next hk1).mono ?_; rintro e w1 ⟨rfl, hC, hF⟩; have C1 : Hid _ := hC; have S_1 : Hid _ := C0.out.sv hF S_0.out; clear hC hF; have d0_1 := C1.out.gg.c0))
  try rw [hm]
  go_loopw [6, 8] (fun va vi wr => ∃ (k c : Nat) (Q : Nat → Bool) (a : Option Addr), k ≤ t ∧ vi = .int .i64 (k : Int) ∧ va = .slice a k c ∧ Hid (Cur V w0 av cv bs w g r Q wr { s with i := js k, fuel := fs k, names := ns k }) ∧ Hid (Kids w Q wr (.slice a k c) (upto ls k)) ∧ Hid (Sv V Q wr (.slice an s.names.length cn) s.names)) (fun _ x _ => t - (intOf x).toNat)
  case atStart => exact ⟨0, 0, no, none, Nat.zero_le _, rfl, rfl, HC.out _ _ C1.out, kids_nil, S_1.out⟩
  case round =>
    obtain ⟨k, c, Q, a, hkm, rfl, rfl, C20, K20, S_20⟩ := hrel
    have d0_20 := C20.out.gg.c0
    have d2_20 : wr.cell? ⟨g, 2, none⟩ = some (.int .i64 (fs k)) := C20.out.gg.c2
    have fb20 := HFB.out k hkm
    by_cases hlt : k < t
    · have i1 : (k : Int) < (m : Int) := by omega
      obtain ⟨i2, hDk⟩ := HD.out k hlt
      have D21 : Hid _ := hDk
      clear hDk
      go_wp2_with (first
        | (at_builtin; refine wpList_append_kids rfl _ _ rfl C21.out [.slice a21 (ls k).length c21] rfl rfl rfl K20_21.out (by simp [upto_length]) (kr_one X21_21.out) (by simp [upto_length]; omega) rfl ?_; intro a22 c22 w22 Q22 hK hC hM; have C22 : Hid _ := hC; have K22 : Hid _ := hK; have S_22 : Hid _ := hM.sv S_21.out; clear hC hK hM)
        | (go_at_call 49; refine (C20.out.call D21.out).mono ?_; rintro e w21 ⟨a21, c21, rfl, hX, hC, hF⟩; have C21 : Hid _ := hC; have X21_21 : Hid _ := hX; have K20_21 : Hid _ := C20.out.kids hF K20.out; have S_21 : Hid _ := C20.out.sv hF S_20.out; clear hC hX hF; have d0_21 := C21.out.gg.c0))
      refine ⟨⟨k + 1, c22, Q22, a22, by omega, by go_num, rfl, C22.out, by rw [upto_succ]; exact K22.out, S_22.out⟩, by simp [intOf]; omega⟩
    · obtain rfl : k = t := by omega
      have hk2' : nx bs (Gs.i { s with i := js k, fuel := fs k, names := ns k }) = (k2 : Int) := hk2
      by_cases htm2 : k = m
      · subst htm2
        have i1 : ¬ ((k : Int) < (k : Int)) := by omega
        go_wp2_with (first
          | (go_at_call 45; obtain ⟨CS, FSa⟩ := C25.out.setNames (.slice an s.names.length cn) s.names S_25.out hfew HSH.out; refine (CS.node (n := kn 0) rfl (C25.out.kids FSa K25.out) (rdV_nil _) (rdVV_nil _) HS.out (by simp [upto_length]; omega)).mono ?_; clear CS FSa; rintro e w30 ⟨a30, c30, rfl, hX, hC, hF⟩; have C30 : Hid _ := hC; have X30_30 : Hid _ := hX; clear hC hX hF)
          | (at_builtin; refine wpList_append_kids rfl _ _ rfl C24.out [.slice a24 (leaf 8).length c24] rfl rfl rfl K20_24.out (by simp [upto_length]) (kr_one X24_24.out) (by simp [upto_length]; omega) rfl ?_; intro a25 c25 w25 Q25 hK hC hM; have C25 : Hid _ := hC; have K25 : Hid _ := hK; have S_25 : Hid _ := hM.sv S_24.out; have f1_25 := C25.out.gg.free 1; obtain ⟨za_25, zb_25, d1_25, _⟩ := C25.out.save; clear hC hK hM)
          | (go_at_call 70; refine (C23.out.make (l3leaf_any _ _)).mono ?_; rintro e w24 ⟨a24, c24, rfl, hX, hC, hF⟩; have C24 : Hid _ := hC; have X24_24 : Hid _ := hX; have K20_24 : Hid _ := C23.out.kids hF K20_23.out; have S_24 : Hid _ := C23.out.sv hF S_23.out; clear hC hX hF; have d0_24 := C24.out.gg.c0)
          | (go_at_call 9; refine (C20.out.next hk2').mono ?_; rintro e w23 ⟨rfl, hC, hF⟩; have C23 : Hid _ := hC; have K20_23 : Hid _ := C20.out.kids hF K20.out; have S_23 : Hid _ := C20.out.sv hF S_20.out; clear hC hF; have d0_23 := C23.out.gg.c0; have d3_23 : w23.cell? ⟨g, 3, none⟩ = some (.bool s.loop) := C23.out.gg.c3; have d4_23 : w23.cell? ⟨g, 4, none⟩ = some (.bool s.fn) := C23.out.gg.c4; try rw [hlp] at d3_23; try rw [hfn] at d4_23; have f1_23 := C23.out.gg.free 1; obtain ⟨za_23, zb_23, d1_23, _⟩ := C23.out.save))
        go_returns
        exact C30.out.done X30_30.out
      · have i1 : (k : Int) < (m : Int) := by omega
        have i2 : ¬ (0 < fs k) := by have := HND.out; omega
        go_wp2_with (first
          | (go_at_call 45; obtain ⟨CS, FSa⟩ := C25.out.setNames (.slice an s.names.length cn) s.names S_25.out hfew HSH.out; refine (CS.node (n := kn 0) rfl (C25.out.kids FSa K25.out) (rdV_nil _) (rdVV_nil _) HS.out (by simp [upto_length]; omega)).mono ?_; clear CS FSa; rintro e w30 ⟨a30, c30, rfl, hX, hC, hF⟩; have C30 : Hid _ := hC; have X30_30 : Hid _ := hX; clear hC hX hF)
          | (at_builtin; refine wpList_append_kids rfl _ _ rfl C24.out [.slice a24 (leaf 8).length c24] rfl rfl rfl K20_24.out (by simp [upto_length]) (kr_one X24_24.out) (by simp [upto_length]; omega) rfl ?_; intro a25 c25 w25 Q25 hK hC hM; have C25 : Hid _ := hC; have K25 : Hid _ := hK; have S_25 : Hid _ := hM.sv S_24.out; have f1_25 := C25.out.gg.free 1; obtain ⟨za_25, zb_25, d1_25, _⟩ := C25.out.save; clear hC hK hM)
          | (go_at_call 70; refine (C23.out.make (l3leaf_any _ _)).mono ?_; rintro e w24 ⟨a24, c24, rfl, hX, hC, hF⟩; have C24 : Hid _ := hC; have X24_24 : Hid _ := hX; have K20_24 : Hid _ := C23.out.kids hF K20_23.out; have S_24 : Hid _ := C23.out.sv hF S_23.out; clear hC hX hF; have d0_24 := C24.out.gg.c0)
          | (go_at_call 9; refine (C20.out.next hk2').mono ?_; rintro e w23 ⟨rfl, hC, hF⟩; have C23 : Hid _ := hC; have K20_23 : Hid _ := C20.out.kids hF K20.out; have S_23 : Hid _ := C20.out.sv hF S_20.out; clear hC hF; have d0_23 := C23.out.gg.c0; have d3_23 : w23.cell? ⟨g, 3, none⟩ = some (.bool s.loop) := C23.out.gg.c3; have d4_23 : w23.cell? ⟨g, 4, none⟩ = some (.bool s.fn) := C23.out.gg.c4; try rw [hlp] at d3_23; try rw [hfn] at d4_23; have f1_23 := C23.out.gg.free 1; obtain ⟨za_23, zb_23, d1_23, _⟩ := C23.out.save))
        go_returns
        exact C30.out.done X30_30.out
end Go.Proofs.Ytepbddfpdlapbaa.tk
