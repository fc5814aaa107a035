import Derived.Test.YtepbddfpdlapbaaMTkStatC
namespace Go.Proofs.Ytepbddfpdlapbaa.tk
open Go.RowKit Go.Proofs.Ytepbddfpdlapbaa.bts Go.Proofs.Ytepbddfpdlapbaa.nod
theorem FN.cells1 {B : Nat → Bool} {W : World} {h c : Nat} {d : Nd} (hx : FN B W (.slice (some ⟨h, 0, none⟩) 1 c) [d]) : ∃ ut un, W.cell? ⟨h, 0, none⟩ = some (.int .i64 d.kind) ∧ W.cell? ⟨h, 1, none⟩ = some (.int .i64 d.n) ∧ W.cell? ⟨h, 2, none⟩ = some ut ∧ W.cell? ⟨h, 3, none⟩ = some un ∧ W.cell? ⟨h, 4, none⟩ = some (.int .i64 d.count) ∧ RdV (veil B W) ut d.text ∧ RdVV (veil B W) un d.names := by
  obtain ⟨ao, cap, e, _, hr⟩ := hx
  simp only [Value.slice.injEq] at e
  obtain ⟨rfl, _, _⟩ := e
  obtain ⟨b, off, ut, un, e, c0, c1, c2, c3, c4, ht, hn⟩ := hr 0 (by simp)
  simp only [Option.some.injEq, Addr.mk.injEq, and_true] at e
  obtain ⟨rfl, rfl⟩ := e
  exact ⟨ut, un, (veil_cell c0).1, (veil_cell c1).1, (veil_cell c2).1, (veil_cell c3).1, (veil_cell c4).1, ht, hn⟩
theorem seqA {bs : List Int} {n : Nat} (hb : Bts bs) (E : ExprC bs n) (s : Gs) (h1 : 0 ≤ s.fuel) (h2 : s.fuel ≤ n) (h3 : s.fuel ≤ 200) (h4 : (s.names.length : Int) + 4 * s.fuel ≤ 2000) :
    ∃ (T : Nat) (js : Nat → Nat) (fs : Nat → Int) (xs bt : Nat → Nat) (es : Nat → List Nd), T ≤ 2 ∧ js 0 = s.i ∧ fs 0 = s.fuel ∧ (∀ e, e ≤ T → nx bs (js e) = (xs e : Int) ∧ ((xs e : Int) % 2) = (bt e : Int) ∧ bt e < 2) ∧ ¬ (T < 1 + bt T) ∧
      (∀ e, e < T → e < 1 + bt e ∧ Draws bs 55 (fun g => #[.pointer (some ⟨g, 0, none⟩), .int .i64 ((2 : Nat) : Int)]) (stepG bs { s with i := js e, fuel := fs e }) (es e) { s with i := js (e + 1), fuel := fs (e + 1) }) ∧
      fs T ≤ s.fuel - 1 ∧ (s.fuel ≤ 0 → s.fuel - 2 ≤ fs T) ∧ (0 < s.fuel → -10 * s.fuel - 1 ≤ fs T) ∧ ((upto es T).flatten.length : Int) ≤ 20 * (s.fuel - fs T) := by
  have num : ∀ i, ∃ x b : Nat, nx bs i = (x : Int) ∧ ((x : Int) % 2) = (b : Int) ∧ b < 2 := fun i => by
    obtain ⟨x, hx, _⟩ := nxn hb i
    exact ⟨x, x % 2, hx, by omega, by omega⟩
  obtain ⟨x0, b0, y0, z0, w0⟩ := num s.i
  obtain ⟨l0, j1, f1, hD0, p1, p2, p3, p4⟩ := E (stepG bs s) 2 (by omega) (by show _ ≤ s.fuel; omega) h2 h3 h4
  have e0 : (stepG bs s).fuel = s.fuel := rfl
  rw [e0] at p1 p2 p3 p4
  obtain ⟨x1, b1, y1, z1, w1⟩ := num j1
  by_cases hb1 : b1 = 0
  · refine ⟨1, fun e => if e = 0 then s.i else j1, fun e => if e = 0 then s.fuel else f1, fun e => if e = 0 then x0 else x1, fun e => if e = 0 then b0 else b1, fun _ => l0, by omega, rfl, rfl, fun e he => ?_, by simp [hb1], fun e he => ?_, by simp; omega, by simp; omega, by simp; omega, ?_⟩
    · have : e = 0 ∨ e = 1 := by omega
      rcases this with rfl | rfl
      · exact ⟨y0, z0, w0⟩
      · exact ⟨y1, z1, w1⟩
    · obtain rfl : e = 0 := by omega
      exact ⟨by omega, hD0⟩
    · have hu : upto (fun _ => l0) 1 = [l0] := rfl
      rw [hu]
      simp only [List.flatten_cons, List.flatten_nil, List.append_nil, if_neg (show ¬ (1 : Nat) = 0 by omega)]
      exact p4
  · obtain ⟨l1, j2, f2, hD1, q1, q2, q3, q4⟩ := E (stepG bs { s with i := j1, fuel := f1 }) 2 (by omega) (by show _ ≤ f1; omega) (by show f1 ≤ _; omega) (by show f1 ≤ _; omega) (by show (s.names.length : Int) + 4 * f1 ≤ _; omega)
    have e1 : (stepG bs { s with i := j1, fuel := f1 }).fuel = f1 := rfl
    rw [e1] at q1 q2 q3 q4
    obtain ⟨x2, b2, y2, z2, w2⟩ := num j2
    refine ⟨2, fun e => if e = 0 then s.i else if e = 1 then j1 else j2, fun e => if e = 0 then s.fuel else if e = 1 then f1 else f2, fun e => if e = 0 then x0 else if e = 1 then x1 else x2, fun e => if e = 0 then b0 else if e = 1 then b1 else b2, fun e => if e = 0 then l0 else l1, by omega, rfl, rfl, fun e he => ?_, by simp; omega, fun e he => ?_, by simp; omega, by simp; omega, by simp; omega, ?_⟩
    · have : e = 0 ∨ e = 1 ∨ e = 2 := by omega
      rcases this with rfl | rfl | rfl
      · exact ⟨y0, z0, w0⟩
      · exact ⟨y1, z1, w1⟩
      · exact ⟨y2, z2, w2⟩
    · have : e = 0 ∨ e = 1 := by omega
      rcases this with rfl | rfl
      · exact ⟨by omega, hD0⟩
      · exact ⟨by simp; omega, hD1⟩
    · have hu : upto (fun e => if e = 0 then l0 else l1) 2 = [l0, l1] := rfl
      rw [hu]
      simp only [List.flatten_cons, List.flatten_nil, List.append_nil, List.length_append, if_neg (show ¬ (2 : Nat) = 0 by omega), if_neg (show ¬ (2 : Nat) = 1 by omega)]
      omega
theorem targets (bs : List Int) (hb : Bts bs) (hl : bs.length ≤ 600) (s : Gs) : ∃ l j, l.length ≤ 3 ∧ Draws bs 54 (fun g => #[.pointer (some ⟨g, 0, none⟩)]) s l { s with i := j } := target_ex bs s hb hl
set_option maxRecDepth 100000 in
set_option maxHeartbeats 1000000 in
theorem stat_assign {bs : List Int} {n : Nat} (hb : Bts bs) (hl : bs.length ≤ 600) (s : Gs) (d : Nat) (hd5 : d ≤ 5) (h1 : 1 ≤ s.fuel) (h2 : s.fuel ≤ n + 1) (h3 : s.fuel ≤ 200) (h4 : (s.names.length : Int) + 4 * s.fuel ≤ 2000) (q : Nat) (hq : nx bs s.i % 32 = (q : Int)) (hd1 : 1 ≤ d) (EX : ExprC bs n) (c1 : 14 ≤ q) (c2 : q < 19) (c3 : 0 < s.names.length) : ∃ l j f ns, Draws bs 49 (fun g => #[.pointer (some ⟨g, 0, none⟩), .int .i64 (d : Int)]) s l { s with i := j, fuel := f, names := ns } ∧ f ≤ s.fuel - 1 ∧ -10 * s.fuel - 1 ≤ f ∧ (l.length : Int) ≤ 20 * (s.fuel - f) ∧ ns.length ≤ s.names.length + 2 := by
  obtain ⟨k1, hk1, kb1⟩ := nxn hb s.i
  rw [hk1] at hq
  have hq32 : q < 32 := by omega
  have j0 : ¬ ((d : Int) ≤ 0) := by omega
  have jq8 : ¬ ((q : Int) < 8) := by omega
  have jq14 : ¬ ((q : Int) < 14) := by omega
  have jq19 : (q : Int) < 19 := by omega
  have hn0 : (0 : Int) < (s.names.length : Int) := by omega
  obtain ⟨k3, hk3, kb3⟩ := nxn hb (Gs.i { stepG bs s with fuel := s.fuel - 1 })
  obtain ⟨x1, hx1, hx3⟩ : ∃ a : Nat, ((k3 : Int) % 4) = (a : Int) ∧ a < 4 := ⟨k3 % 4, by omega, by omega⟩
  obtain ⟨x2, hx2, hx22⟩ : ∃ b : Nat, ((x1 : Int) / 3) = (b : Int) ∧ b < 2 := ⟨x1 / 3, by omega, by omega⟩
  obtain ⟨m, hm⟩ : ∃ m : Nat, (1 : Int) + (x2 : Int) = (m : Int) := ⟨1 + x2, by omega⟩
  have hmb : m ≤ 2 := by omega
  obtain ⟨js, ls, e1, hD, hB⟩ := seqX (targets bs hb hl) (stepG bs { stepG bs s with fuel := s.fuel - 1 })
  have hBm := hB m
  obtain ⟨T, js2, fs2, xs, bt, es, hT2, g1, g2, hX, hend, hD2, u1, u2, u3, u4⟩ := seqA hb EX { s with i := js m, fuel := s.fuel - 1 } (by show _ ≤ s.fuel - 1; omega) (by show s.fuel - 1 ≤ _; omega) (by show s.fuel - 1 ≤ _; omega) (by show (s.names.length : Int) + 4 * (s.fuel - 1) ≤ _; omega)
  simp only at g1 g2 u1 u2 u3 u4
  have hlen : ((node ⟨2, (m : Int), [], [], 0⟩ (upto ls m ++ upto es T)).length : Int) = 1 + (upto ls m).flatten.length + (upto es T).flatten.length := by simp only [node, List.length_cons, List.flatten_append, List.length_append]; omega
  have HS : Hid ((node ⟨2, (m : Int), [], [], 0⟩ (upto ls m ++ upto es T)).length ≤ 1000000) := by show _ ≤ _; omega
  refine ⟨node ⟨2, (m : Int), [], [], 0⟩ (upto ls m ++ upto es T), nxi bs (js2 T), fs2 T, s.names, fun V w0 w av cv g r hv hr hG => ?_, by omega, by omega, by omega, by omega⟩
  have C0 : Hid (Cur V w0 av cv bs w g r no w s) := Cur.start hv hr hb hl hG
  have d0_0 := C0.out.gg.c0
  have HD : Hid (∀ k, k < m → Draws bs 54 (fun g => #[.pointer (some ⟨g, 0, none⟩)]) { s with i := js k, fuel := s.fuel - 1 } (ls k) { s with i := js (k + 1), fuel := s.fuel - 1 }) := fun k _ => hD k
  have HC : Hid (∀ W Q, Cur V w0 av cv bs w g r Q W (stepG bs { stepG bs s with fuel := s.fuel - 1 }) → Cur V w0 av cv bs w g r Q W { s with i := js 0, fuel := s.fuel - 1 }) := fun W Q h => by
    rw [e1]; exact h
  have HC2 : Hid (∀ W Q, Cur V w0 av cv bs w g r Q W { s with i := js m, fuel := s.fuel - 1 } → Cur V w0 av cv bs w g r Q W { s with i := js2 0, fuel := fs2 0 }) := fun W Q h => by
    rw [g1, g2]; exact h
  have HX : Hid (∀ e, e ≤ T → nx bs (js2 e) = (xs e : Int) ∧ ((xs e : Int) % 2) = (bt e : Int) ∧ bt e < 2) := hX
  have HE : Hid (¬ (T < 1 + bt T)) := hend
  have HD2 : Hid (∀ e, e < T → e < 1 + bt e ∧ Draws bs 55 (fun g => #[.pointer (some ⟨g, 0, none⟩), .int .i64 ((2 : Nat) : Int)]) (stepG bs { s with i := js2 e, fuel := fs2 e }) (es e) { s with i := js2 (e + 1), fuel := fs2 (e + 1) }) := hD2
  clear hG hr hv EX h2 h4 hD hB hBm e1 g1 g2 hX hend hD2 u1 u2 u3 u4 hlen
  go_enter Try.func49, Try.ntmps49
  go_wp2_with (first
    | (go_at_call 9; refine (C2.out.next hk3).mono ?_; rintro e w3 ⟨rfl, hC, hF⟩; have C3 : Hid _ := hC; clear hC hF; have d0_3 := C3.out.gg.c0; have CL := C3.out.bel ((Below.refl w3.heap.size w3).alloc (Nat.le_refl _) (.cells #[.int .i64 2, .int .i64 (m : Int), .slice none 0 0, .slice none 0 0, .int .i64 0] 75)); have C4 : Hid _ := CL.1; have N4 : Hid (FN (hd w no) (w3.alloc (.cells #[.int .i64 2, .int .i64 (m : Int), .slice none 0 0, .slice none 0 0, .int .i64 0] 75)) (.slice (some ⟨w3.heap.size, 0, none⟩) 1 1) [⟨2, (m : Int), [], [], 0⟩]) := fn_one C3.out.hdnew (rdV_nil _) (rdVV_nil _); clear CL)
    | (go_at_call 9; refine (C0.out.next hk1).mono ?_; rintro e w1 ⟨rfl, hC, hF⟩; have C1 : Hid _ := hC; clear hC hF; have C2 : Hid _ := (C1.out.setFuel (s.fuel - 1) (by omega) (by omega)).1; have d2_1 : w1.cell? ⟨g, 2, none⟩ = some (.int .i64 s.fuel) := C1.out.gg.c2; have f2_1 := C1.out.gg.free 2; have d0_2 := C2.out.gg.c0; have d2_2 : (w1.setCell ⟨g, 2, none⟩ (.int .i64 (s.fuel - 1))).cell? ⟨g, 2, none⟩ = some (.int .i64 (s.fuel - 1)) := C2.out.gg.c2; obtain ⟨zx, zy, d1_2, _⟩ := C2.out.save; have d1_2b : (w1.setCell ⟨g, 2, none⟩ (.int .i64 (s.fuel - 1))).cell? ⟨g, 1, none⟩ = some (.slice zx s.names.length zy) := d1_2; clear d1_2))
  try rw [hq]
  try rw [hx1]
  try rw [hx2]
  try rw [hm]
  go_loopw [7, 8] (fun va vi wr => ∃ (k c : Nat) (Q : Nat → Bool) (a : Option Addr), k ≤ m ∧ vi = .int .i64 (k : Int) ∧ va = .slice a k c ∧ Hid (Cur V w0 av cv bs w g r Q wr { s with i := js k, fuel := s.fuel - 1 }) ∧ Hid (Kids w Q wr (.slice a k c) (upto ls k)) ∧ Hid (FN (hd w Q) wr (.slice (some ⟨w3.heap.size, 0, none⟩) 1 1) [⟨2, (m : Int), [], [], 0⟩])) (fun _ x _ => m - (intOf x).toNat)
  case atStart => exact ⟨0, 0, no, none, Nat.zero_le _, rfl, rfl, HC.out _ _ C4.out, kids_nil, N4.out⟩
  case round =>
    obtain ⟨k, c, Q, a, hkm, rfl, rfl, C20, K20, N20⟩ := hrel
    obtain ⟨ut20, un20, _, n1_20, _⟩ := FN.cells1 N20.out
    by_cases hlt : k < m
    · have i1 : (k : Int) < (m : Int) := by omega
      have D21 : Hid _ := HD.out k hlt
      go_wp2_with (first
        | (at_builtin; refine wpList_append_kids rfl _ _ rfl C21.out [.slice a21 (ls k).length c21] rfl rfl rfl K20_21.out (by simp [upto_length]) (kr_one X21_21.out) (by simp [upto_length]; omega) rfl ?_; intro a22 c22 w22 Q22 hK hC hM; have C22 : Hid _ := hC; have K22 : Hid _ := hK; have N22 : Hid _ := hM.fn N20_21.out; clear hC hK hM)
        | (go_at_call 54; refine (C20.out.call D21.out).mono ?_; rintro e w21 ⟨a21, c21, rfl, hX, hC, hF⟩; have C21 : Hid _ := hC; have X21_21 : Hid _ := hX; have K20_21 : Hid _ := C20.out.kids hF K20.out; have N20_21 : Hid _ := C20.out.fn hF N20.out; clear hC hX hF; have d0_21 := C21.out.gg.c0))
      refine ⟨⟨k + 1, c22, Q22, a22, by omega, by go_num, rfl, C22.out, by rw [upto_succ]; exact K22.out, N22.out⟩, by simp [intOf]; omega⟩
    · obtain rfl : k = m := by omega
      have i1 : ¬ ((k : Int) < (k : Int)) := by omega
      go_wp2_with fail
      go_loopw [7, 9] (fun va vi wz => ∃ (e c5 : Nat) (Q5 : Nat → Bool) (a5 : Option Addr), e ≤ T ∧ vi = .int .i64 (e : Int) ∧ va = .slice a5 (k + e) c5 ∧ Hid (Cur V w0 av cv bs w g r Q5 wz { s with i := js2 e, fuel := fs2 e }) ∧ Hid (Kids w Q5 wz (.slice a5 (k + e) c5) (upto ls k ++ upto es e)) ∧ Hid (FN (hd w Q5) wz (.slice (some ⟨w3.heap.size, 0, none⟩) 1 1) [⟨2, (k : Int), [], [], 0⟩])) (fun _ x _ => T - (intOf x).toNat)
      case atStart => exact ⟨0, c, Q, a, Nat.zero_le _, rfl, rfl, HC2.out _ _ C20.out, by rw [upto_zero, List.append_nil]; exact K20.out, N20.out⟩
      case round =>
        obtain ⟨e, c5, Q5, a5, heT, rfl, rfl, C50, K50, N50⟩ := hrel
        obtain ⟨y1, y2, y3⟩ := HX.out e heT
        have hkx : nx bs (Gs.i { s with i := js2 e, fuel := fs2 e }) = (xs e : Int) := y1
        have d0_50 := C50.out.gg.c0
        by_cases hlt2 : e < T
        · obtain ⟨y4, hDe⟩ := HD2.out e hlt2
          have D52 : Hid _ := hDe
          clear hDe y1
          generalize xs e = x at hkx y2
          generalize bt e = b at y2 y3 y4
          obtain ⟨b1, hb1⟩ : ∃ b1 : Nat, (1 : Int) + (b : Int) = (b1 : Int) := ⟨1 + b, by omega⟩
          have i5 : (e : Int) < (b1 : Int) := by omega
          go_wp2_with (first
            | (at_builtin; refine wpList_append_kids rfl _ _ rfl C52.out [.slice a52 (es e).length c52] rfl rfl rfl K50_52.out (by simp [upto_length]) (kr_one X52_52.out) (by simp [upto_length]; omega) rfl ?_; intro a53 c53 w53 Q53 hK hC hM; have C53 : Hid _ := hC; have K53 : Hid _ := hK; have N53 : Hid _ := hM.fn N50_52.out; clear hC hK hM)
            | (go_at_call 55; refine (C51.out.call D52.out).mono ?_; rintro e w52 ⟨a52, c52, rfl, hX, hC, hF⟩; have C52 : Hid _ := hC; have X52_52 : Hid _ := hX; have K50_52 : Hid _ := C51.out.kids hF K50_51.out; have N50_52 : Hid _ := C51.out.fn hF N50_51.out; clear hC hX hF; have d0_52 := C52.out.gg.c0)
            | (go_at_call 9; refine (C50.out.next hkx).mono ?_; rintro e w51 ⟨rfl, hC, hF⟩; have C51 : Hid _ := hC; have K50_51 : Hid _ := C50.out.kids hF K50.out; have N50_51 : Hid _ := C50.out.fn hF N50.out; clear hC hF; have d0_51 := C51.out.gg.c0))
          refine ⟨⟨e + 1, c53, Q53, a53, by omega, by go_num, rfl, C53.out, by rw [upto_succ, ← List.append_assoc]; exact K53.out, N53.out⟩, by simp [intOf]; omega⟩
        · obtain rfl : e = T := by omega
          have y4 := HE.out
          clear y1
          generalize xs e = x at hkx y2
          generalize bt e = b at y2 y3 y4
          obtain ⟨b1, hb1⟩ : ∃ b1 : Nat, (1 : Int) + (b : Int) = (b1 : Int) := ⟨1 + b, by omega⟩
          have i5 : ¬ ((e : Int) < (b1 : Int)) := by omega
          go_wp2_with (first
            | (go_at_call 45; refine (C51.out.node (n := ⟨2, (k : Int), [], [], 0⟩) rfl K50_51.out HUT.out HUN.out HS.out (by simp [upto_length]; omega)).mono ?_; rintro e w60 ⟨a60, c60, rfl, hX, hC, hF⟩; have C60 : Hid _ := hC; have X60 : Hid _ := hX; clear hC hX hF)
            | (go_at_call 9; refine (C50.out.next hkx).mono ?_; rintro e w51 ⟨rfl, hC, hF⟩; have C51 : Hid _ := hC; have K50_51 : Hid _ := C50.out.kids hF K50.out; have N50_51 : Hid _ := C50.out.fn hF N50.out; clear hC hF; have d0_51 := C51.out.gg.c0; obtain ⟨ut, un, n0, n1, n2, n3, n4, hut, hun⟩ := FN.cells1 N50_51.out; have HUT : Hid (RdV (veil (tk.lt w.heap.size) w51) ut []) := RdV.veils hut (fun b _ hb => by simp [hd] at hb; exact hb.1); have HUN : Hid (RdVV (veil (tk.lt w.heap.size) w51) un []) := RdVV.veils hun (fun b _ hb => by simp [hd] at hb; exact hb.1); clear hut hun))
          go_returns
          exact C60.out.done X60.out
theorem stat_zero {bs : List Int} : StatC bs 0 := fun s d _ h1 h2 _ _ => absurd h1 (by omega)
theorem stat_succ {bs : List Int} {n : Nat} (hb : Bts bs) (hl : bs.length ≤ 600) (EX : ExprC bs n) (ST : StatC bs n) (FU : FuncC bs n) : StatC bs (n + 1) := by
  intro s d hd5 h1 h2' h3 h4
  have h2 : s.fuel ≤ n + 1 := by omega
  have h1' : 1 ≤ s.fuel := by omega
  obtain ⟨k1, hk1, kb1⟩ := nxn hb s.i
  obtain ⟨q, hq, hq32⟩ : ∃ q : Nat, (nx bs s.i % 32) = (q : Int) ∧ q < 32 := ⟨k1 % 32, by rw [hk1]; omega, by omega⟩
  have BL := block_of hb hl EX ST
  by_cases hc : d = 0 ∨ q < 8
  · exact stat_print hb hl s d hd5 h1' h2 h3 h4 q hq (print_of hb hl EX) hc
  have hd1 : 1 ≤ d := by omega
  obtain ⟨e, hde⟩ : ∃ e : Nat, (d : Int) - 1 = (e : Int) := ⟨d - 1, by omega⟩
  by_cases q14 : q < 14
  · exact stat_local hb hl s d hd5 h1' h2 h3 h4 q hq hd1 EX (by omega) q14
  by_cases qa : q < 19 ∧ 0 < s.names.length
  · exact stat_assign hb hl s d hd5 h1' h2 h3 h4 q hq hd1 EX (by omega) qa.1 qa.2
  by_cases q21 : q < 21
  · exact stat_func hb hl s d hd5 h1' h2 h3 h4 q hq hd1 FU (by omega)
  by_cases c21 : q = 21
  · exact stat_if21 hb hl s d hd5 h1' h2 h3 h4 q hq e hd1 hde EX BL c21
  by_cases c22 : q = 22
  · exact stat_if22 hb hl s d hd5 h1' h2 h3 h4 q hq e hd1 hde EX BL c22
  by_cases c23 : q = 23
  · exact stat_if23 hb hl s d hd5 h1' h2 h3 h4 q hq e hd1 hde EX BL c23
  by_cases c24 : q = 24
  · exact stat_loop24 hb hl s d hd5 h1' h2 h3 h4 q hq e hd1 hde EX BL c24
  by_cases c25 : q = 25
  · exact stat_loop25 hb hl s d hd5 h1' h2 h3 h4 q hq e hd1 hde EX BL c25
  by_cases c26 : q = 26
  · exact stat_loop26 hb hl s d hd5 h1' h2 h3 h4 q hq e hd1 hde EX BL c26
  by_cases c27 : q = 27
  · exact stat_loop27 hb hl s d hd5 h1' h2 h3 h4 q hq e hd1 hde EX BL c27
  by_cases c28 : q = 28
  · exact stat_do hb hl s d hd5 h1' h2 h3 h4 q hq e hd1 hde BL c28
  · exact stat_call hb hl s d hd5 h1' h2 h3 h4 q hq hd1 (call_of hb hl EX) (by omega)
theorem draw_all {bs : List Int} (hb : Bts bs) (hl : bs.length ≤ 600) (hF : ∀ n, PartC bs n 58 ag1 3 → FuncC bs n) : ∀ n, ExprC bs n ∧ StatC bs n := by
  intro n
  induction n with
  | zero => exact ⟨expr_zero hb hl, stat_zero⟩
  | succ n ih =>
    have FU := hF n (block_of hb hl ih.1 ih.2)
    exact ⟨expr_succ hb hl ih.1 FU, stat_succ hb hl ih.1 ih.2 FU⟩
section
variable {P : Program} {ops : Array Oper} {Q : Exit → Act → World → Prop} {S : World → Prop} {z : Nat}
def Ordered (P : Program) (ops : Array Oper) (Q : Exit → Act → World → Prop) (S : World → Prop) (z : Nat) : Nat → Array Bool → Act → World → Prop
  | 0, listed, a, w => Region.ready .any ops listed = [] ∧ Q .normal a w
  | n + 1, listed, a, w => (Region.ready .any ops listed = [] → Q .normal a w) ∧ ∀ i ∈ Region.ready .any ops listed, wpOp P ops Q i (fun a' w' => (i ≠ z → S w') ∧ Ordered P ops Q S z n (listed.setIfInBounds i true) a' w') a w
theorem Ordered.any : ∀ (n : Nat) (listed : Array Bool) (a : Act) (w : World), Ordered P ops Q S z n listed a w → wpAny P .any ops Q n listed a w
  | 0, _, _, _, h => h
  | n + 1, _, _, _, h => ⟨h.1, fun i hi => wpOp_mono (fun a' w' h' => Ordered.any n _ a' w' h'.2) (h.2 i hi)⟩
def waits (ops : Array Oper) (z i : Nat) : Bool := match ops[z]? with
  | some o => o.after.any fun e => Region.binds .any e && e.on == i
  | none => false
theorem Ordered.first {i : Nat} {oi : Oper} {v : Value} (hi : ops[i]? = some oi) (hz : waits ops z i = true) (hsel : ∀ (j : Nat) (o : Oper) cs b, ops[j]? = some o → o.op ≠ .select cs b) (hQ : ∀ c a w, Q (.panic c) (a.put oi.dst v) w → Q (.panic c) a w) (n : Nat) :
    ∀ (listed : Array Bool) (a : Act) (w : World), (∀ j oj, ops[j]? = some oj → j ≠ i → listed.getD j true = false → (∀ e ∈ oj.after, Region.binds .any e = true → e.on ≠ i) → oi.apart ops oj = true) → i ∈ Region.ready .any ops listed → YieldsIf P ops S oi v a → S w → Ordered P ops Q S z n (listed.setIfInBounds i true) (a.put oi.dst v) w → Ordered P ops Q S z (n + 1) listed a w := by
  induction n with
  | zero =>
    intro listed a w _ hr hy hS H
    refine ⟨fun h => absurd (h ▸ hr) (by simp), fun j hj => ?_⟩
    by_cases hji : j = i
    · rw [hji]
      exact hy.wpOp hi hS ⟨fun _ => hS, H⟩
    · have := ready_mono hj hji
      rw [H.1] at this
      cases this
  | succ n ih =>
    intro listed a w hfree hr hy hS H
    refine ⟨fun h => absurd (h ▸ hr) (by simp), fun j hj => ?_⟩
    by_cases hji : j = i
    · rw [hji]
      exact hy.wpOp hi hS ⟨fun _ => hS, H⟩
    · obtain ⟨hun, oj, hoj, hall⟩ := mem_ready.1 hj
      have hnot : ∀ e ∈ oj.after, Region.binds .any e = true → e.on ≠ i := fun e he hb heq => by
        have h1 := hall e he hb
        have h0 := (mem_ready.1 hr).1
        rw [heq] at h1
        rcases Nat.lt_or_ge i listed.size with h' | h'
        · simp [h'] at h0 h1; rw [h0] at h1; cases h1
        · simp [Array.getElem?_eq_none h'] at h1
      have hjz : j ≠ z := fun e => by
        subst e
        unfold waits at hz
        rw [hoj] at hz
        simp only [Array.any_eq_true, Bool.and_eq_true, beq_iff_eq] at hz
        obtain ⟨k, hk, h1, h2⟩ := hz
        exact hnot _ (Array.getElem_mem hk) h1 h2
      have h2 := wpOp_putIf hoj (hfree j oj hoj hji hun hnot) (fun cs b => hsel i oi cs b hi) (fun cs b => hsel j oj cs b hoj) hQ hy (H.2 j (ready_mono hj hji))
      have hri : i ∈ Region.ready .any ops (listed.setIfInBounds j true) := ready_mono hr (Ne.symm hji)
      refine wpOp_mono (fun a' w' h3 => ⟨fun _ => h3.2.1 hjz, ih (listed.setIfInBounds j true) a' w' (fun k ok hk hki hunk hno => hfree k ok hk hki ?_ hno) hri h3.1 (h3.2.1 hjz) ?_⟩) h2
      · by_cases hjk : j = k
        · rw [← hjk]; exact hun
        · rw [getD_set_ne true hjk] at hunk; exact hunk
      · rw [Array.setIfInBounds_comm _ _ hji]
        exact h3.2.2
theorem Ordered.take {i : Nat} {oi : Oper} {v : Value} {n : Nat} {listed : Array Bool} {a : Act} {w : World} (hi : ops[i]? = some oi) (hz : waits ops z i = true) (hs : Region.noSelect ops = true) (hf : Region.free .any ops listed i = true) (hr : (Region.ready .any ops listed).contains i = true)
    (hQ : ∀ c a w, Q (.panic c) (a.put oi.dst v) w → Q (.panic c) a w) (hy : YieldsIf P ops S oi v a) (hS : S w) (h : Ordered P ops Q S z n (listed.setIfInBounds i true) (a.put oi.dst v) w) : Ordered P ops Q S z (n + 1) listed a w :=
  Ordered.first hi hz (Region.noSelect_spec hs) hQ n listed a w (Region.free_spec hi hf) (by simpa using hr) hy hS h
def Eachs (P : Program) (ops : Array Oper) (Q : Exit → Act → World → Prop) (S : World → Prop) (z n : Nat) (listed : Array Bool) (a : Act) (w : World) (rs : List Nat) : Prop :=
  ∀ i ∈ rs, wpOp P ops Q i (fun a' w' => (i ≠ z → S w') ∧ Ordered P ops Q S z n (listed.setIfInBounds i true) a' w') a w
theorem Eachs.nil {n : Nat} {listed : Array Bool} {a : Act} {w : World} : Eachs P ops Q S z n listed a w [] := fun _ h => by cases h
theorem Eachs.cons {n : Nat} {listed : Array Bool} {a : Act} {w : World} {i : Nat} {o : Oper} {rs : List Nat} (ho : ops[i]? = some o)
    (h : ∀ K' : Act → World → Prop, Shut (∀ a w, (i ≠ z → S w) → ((i ≠ z → S w) → Ordered P ops Q S z n (listed.setIfInBounds i true) a w) → K' a w) → if Region.wanted o (yielded ops a.tmps) = true then Oper.wp P o a w K' Q else K' (a.put o.dst undef) w)
    (hs : Eachs P ops Q S z n listed a w rs) : Eachs P ops Q S z n listed a w (i :: rs) := fun j hj => by
  rcases List.mem_cons.1 hj with rfl | hj
  · exact wpOp_step ho (fun K' hK => h K' (fun a w hS hW => hK a w ⟨hS, hW hS⟩))
  · exact hs j hj
theorem Ordered.ready {rs : List Nat} {n : Nat} {listed : Array Bool} {a : Act} {w : World} (hr : Region.ready .any ops listed = rs) (hne : rs ≠ []) (h : Eachs P ops Q S z n listed a w rs) : Ordered P ops Q S z (n + 1) listed a w :=
  ⟨fun h0 => absurd (hr ▸ h0) hne, hr ▸ h⟩
theorem Ordered.done {listed : Array Bool} {a : Act} {w : World} (hr : Region.ready .any ops listed = []) (h : Q .normal a w) : ∀ n, Ordered P ops Q S z n listed a w
  | 0 => ⟨hr, h⟩
  | _ + 1 => ⟨fun _ => h, by rw [hr]; simp⟩
theorem wp_ordered {id : Nat} {a : Act} {w : World} (z : Nat) (S : World → Prop) (hm : P.follows .mixedOrders = true) (hS : S w.drew) (h : S w.drew → Ordered P ops Q S z ops.size (Array.replicate ops.size false) a w.drew) : (Code.region id ops true).wp P Q a w :=
  wp_region_any hm (Ordered.any _ _ _ _ (h hS))
end
section
variable {V Q : Nat → Bool} {w0 w W W' : World} {av : Option Addr} {cv g r : Nat} {bs : List Int} {s s' : Gs} {x : Value} {l : List Nd}
theorem step_append_any {ops : Array Oper} {o : Oper} {a : Act} {K : Act → World → Prop} {Z : Exit → Act → World → Prop} {X : Prop} (hgd : o.guard = none) (sv xv : Operand) (T t : TypeId)
    (ho : o.op = .call { callee := .builtin .append, args := #[sv, xv], argTypes := #[t, t] })
    (C : Cur V w0 av cv bs w g r Q W s) {i0 : TypeInfo} {z : Value} {by_ : Nat} (ht : Try.prog.underlying t = some (.slice T)) (hi0 : Try.prog.info? T = some i0) (hz0 : i0.zero = some z) (hz1 : i0.size = 1) (hz2 : i0.bytes = by_) (hzc : z.cells.size = 1) (hby : by_ ≤ 24)
    {av1 : Option Addr} {n c : Nat} {us xs : List Value} {W1 : World} (hs : a.eval sv = .slice av1 n c) (hR : Row T w Q W (.slice av1 n c) us) (hn : n = us.length) (hb : Below W.heap.size W W1) (ao : Option Addr) (m cx : Nat) (hx : a.eval xv = .slice ao m cx) (hm : m = xs.length) (hr : 0 < m → ∃ ad, ao = some ad ∧ ∀ j u, xs[j]? = some u → W1.cell? (ad.add j) = some u) (h1 : ∀ u ∈ xs, u.oneCell' = true) (hlen : us.length + xs.length ≤ 100000)
    (h : ∀ a' c' w' Q', Apd T V w0 av cv bs w g r Q W s (.slice av1 n c) (us ++ xs) (.slice a' (n + m) c') Q' w' → K (a.put o.dst (.slice a' (n + m) c')) w') :
    if Region.wanted o (yielded ops a.tmps) = true then Oper.wp Try.prog o a W1 K Z else X := by
  have hw : Region.wanted o (yielded ops a.tmps) = true := by simp [Region.wanted, hgd]
  rw [if_pos hw]
  obtain ⟨a', c', w', Q', h2, h3⟩ := C.appendRow ht hi0 hz0 hz1 hz2 hzc hby hR hn hb ao m cx hm hr h1 hlen o.type
  unfold Oper.wp execOp
  simp only [ho, resolve, invoke, builtin, Sem.run_bind, Sem.run_pure, Result.andThen_ok, List.map_toArray, List.map_cons, List.map_nil, hs, hx, h2]
  exact h a' c' w' Q' h3
theorem step_append_strs {ops : Array Oper} {o : Oper} {a : Act} {K : Act → World → Prop} {Z : Exit → Act → World → Prop} {X : Prop} (hgd : o.guard = none) (sv xv : Operand)
    (ho : o.op = .call { callee := .builtin .append, args := #[sv, xv], argTypes := #[49, 49] })
    {B W1 : World} (hB : Below B.heap.size B W1) {av1 : Option Addr} {n c : Nat} {us xs : List ByteArray} (hs : a.eval sv = .slice av1 n c) (own : W1.ownsRow B.heap.size 9 1 (.slice av1 n c) n (us.map .string)) (ao : Option Addr) (m cx : Nat) (hx : a.eval xv = .slice ao m cx) (hm : m = xs.length)
    (hr : ∀ i, i < m → ∃ b off, ao = some ⟨b, off, none⟩ ∧ W1.cell? ⟨b, off + i, none⟩ = some (.string (xs.getD i default))) (hlen : n + xs.length ≤ 200000)
    (h : ∀ a' c' w', w'.ownsRow B.heap.size 9 1 (.slice a' (n + m) c') (n + m) ((us ++ xs).map .string) → Below B.heap.size B w' → W1.grownBy w' (Value.slice av1 n c).ownBlock → K (a.put o.dst (.slice a' (n + m) c')) w') :
    if Region.wanted o (yielded ops a.tmps) = true then Oper.wp Try.prog o a W1 K Z else X := by
  obtain ⟨i0, hi0, hz0, hz1, hz2⟩ := info_parts info_string
  refine step_append_row hgd sv xv 49 ho 9 i0 (.string ⟨#[]⟩) 1 16 Try.underlying49 hi0 hz0 hz1 hz2 rfl (by omega) B.heap.size av1 n c (us.map .string) hs own ao m cx (xs.map .string) hx (by simp [hm]) (fun h0 => ?_) (fun u hu => ?_) (by unfold maxLen; omega) (by omega) hB.size (fun a' c' w' hA => ?_)
  · obtain ⟨b, off, e, _⟩ := hr 0 h0
    refine ⟨_, e, fun j u hu => ?_⟩
    rcases Nat.lt_or_ge j xs.length with hj | hj
    · obtain ⟨b', off', e', hc⟩ := hr j (by omega)
      rw [e] at e'
      simp only [Option.some.injEq, Addr.mk.injEq, and_true] at e'
      obtain ⟨rfl, rfl⟩ := e'
      rw [plainAt, hc]
      rw [List.getElem?_map, List.getElem?_eq_getElem hj] at hu
      rw [List.getD_eq_getElem?_getD, List.getElem?_eq_getElem hj]
      exact hu
    · rw [List.getElem?_eq_none (by simpa using hj)] at hu; cases hu
  · obtain ⟨y, _, rfl⟩ := List.mem_map.1 hu
    rfl
  · refine h a' c' w' (by rw [List.map_append]; exact hA.own) (hB.grown hA.grow hB.size (fun q hq => (own.lt q hq).1)) hA.grow
theorem empty_at {T : TypeId} {B : Nat} (h : B ≤ W.heap.size) : (W.alloc (.cells #[] T)).ownsRow B T 1 (.slice (some ⟨W.heap.size, 0, none⟩) 0 0) 0 [] :=
  ⟨rfl, .inr ⟨W.heap.size, 0, #[], rfl, h, heap_alloc_new _ _, Nat.le_refl _, by unfold maxLen; omega, by simp, by simp⟩⟩
theorem one_str {q : Nat} {t : ByteArray} (h : W.cell? ⟨q, 0, none⟩ = some (.string t)) : ∀ i, i < 1 → ∃ b off, (some ⟨q, 0, none⟩ : Option Addr) = some ⟨b, off, none⟩ ∧ W.cell? ⟨b, off + i, none⟩ = some (.string ([t].getD i default)) := fun i hi => by
  obtain rfl : i = 0 := by omega
  exact ⟨q, 0, rfl, h⟩
theorem cell_fresh {u : Value} {T : TypeId} : (W.alloc (.cells #[u] T)).cell? ⟨W.heap.size, 0, none⟩ = some u := by
  unfold World.cell?
  rw [heap_alloc_new]
  rfl
end
set_option maxRecDepth 100000 in
set_option maxHeartbeats 1000000 in
theorem func_of {bs : List Int} {n : Nat} (hb : Bts bs) (hl : bs.length ≤ 600) (BL : PartC bs n 58 ag1 3) : FuncC bs n := by
  intro s ps d hd1 hd5 hps hpz h1 h2 h3 h4
  obtain ⟨e, hde⟩ : ∃ e : Nat, (d : Int) - 1 = (e : Int) := ⟨d - 1, by omega⟩
  obtain ⟨l, j, f, hD, b1, b2, b3, b4⟩ := BL { s with names := s.names ++ ps, loop := false, fn := true } e (by omega) (by show _ ≤ s.fuel; omega) h2 h3 (by show (((s.names ++ ps).length : Nat) : Int) + 4 * s.fuel ≤ _; rw [List.length_append]; omega)
  simp only at b1 b2 b3 b4
  have HS : Hid ((node ⟨19, 0, [], ps.map nums, 0⟩ [l]).length ≤ 1000000) := by show _ ≤ _; simp only [node, List.length_cons, List.flatten_cons, List.length_append, List.length_nil, List.flatten_nil]; omega
  refine ⟨node ⟨19, 0, [], ps.map nums, 0⟩ [l], j, f, fun V w0 w av cv g r b cp hv hr hG hcell hbg hbr hbl => ?_, by omega, by omega, by omega, by simp only [node, List.length_cons, List.flatten_cons, List.length_append, List.length_nil, List.flatten_nil]; omega⟩
  have C0 : Hid (Cur V w0 av cv bs w g r no w s) := Cur.start hv hr hb hl hG
  obtain ⟨Q1, hC1, hM1, hR1, _⟩ := C0.out.locR (us := [.int .i64 19, .int .i64 0, .slice none 0 0, .slice none 0 0, .int .i64 0]) (T := 75) (by simp)
  obtain ⟨an0, cn0, d1_0, sv0⟩ := C0.out.save
  have C1 : Hid (Cur V w0 av cv bs w g r Q1 (w.alloc (.cells #[.int .i64 19, .int .i64 0, .slice none 0 0, .slice none 0 0, .int .i64 0] 75)) s) := hC1
  have R1 : Hid (Row 75 w Q1 (w.alloc (.cells #[.int .i64 19, .int .i64 0, .slice none 0 0, .slice none 0 0, .int .i64 0] 75)) (.slice (some ⟨w.heap.size, 0, none⟩) 5 5) [.int .i64 19, .int .i64 0, .slice none 0 0, .slice none 0 0, .int .i64 0]) := hR1
  have S_1 : Hid (Sv V Q1 (w.alloc (.cells #[.int .i64 19, .int .i64 0, .slice none 0 0, .slice none 0 0, .int .i64 0] 75)) (.slice an0 s.names.length cn0) s.names) := hM1.sv sv0
  have d1_1 : (w.alloc (.cells #[.int .i64 19, .int .i64 0, .slice none 0 0, .slice none 0 0, .int .i64 0] 75)).cell? ⟨g, 1, none⟩ = some (.slice an0 s.names.length cn0) := cellB d1_0 ((Below.refl _ _).alloc (Nat.le_refl _) _)
  have d3_1 := C1.out.gg.c3
  have d4_1 := C1.out.gg.c4
  have HP : Hid (∀ W Q s', Cur V w0 av cv bs w g r Q W s' → ∀ i, i < ps.length → W.cell? ⟨b, i, none⟩ = some (.string (ps.getD i default))) := fun W Q s' C i hi => by
    unfold World.cell?
    rw [C.fg.keep b hbl hbr hbg]
    exact hcell i hi
  obtain ⟨m, hm⟩ : ∃ m, m = ps.length := ⟨_, rfl⟩
  have HM : Hid (ps.length = m) := hm.symm
  have hmb : m ≤ 2 := by omega
  rw [← hm]
  clear hG hr hv hC1 hM1 hR1 BL b1 b2 b3 b4 h2 sv0 hcell hm
  go_enter Try.func57, Try.ntmps57
  go_wp2_with fail
  go_loopw [11] (fun vi wr => ∃ (k cn : Nat) (Q : Nat → Bool) (an : Option Addr), k ≤ m ∧ vi = .int .i64 (k : Int) ∧ Hid (Cur V w0 av cv bs w g r Q wr { s with names := s.names ++ ps.take k }) ∧ Hid (Row 75 w Q wr (.slice (some ⟨w.heap.size, 0, none⟩) 5 5) [.int .i64 19, .int .i64 0, .slice none 0 0, .slice an k cn, .int .i64 0]) ∧ Hid (Txts w Q wr (.slice an k cn) ((ps.take k).map nums)) ∧ Hid (Ap (.slice (some ⟨w.heap.size, 0, none⟩) 5 5) (.slice an k cn)) ∧ Hid (Sv V Q wr (.slice an0 s.names.length cn0) s.names)) (fun x _ => m - (intOf x).toNat)
  case atStart => exact ⟨0, 0, Q1, none, Nat.zero_le _, rfl, by show Cur _ _ _ _ _ _ _ _ _ _ _; rw [List.take_zero, List.append_nil]; exact C1.out, R1.out, by show Txts _ _ _ _ _; rw [List.take_zero]; exact txts_nil, ap_nil2, S_1.out⟩
  case round =>
    obtain ⟨k, cn, Q, an, hkm, rfl, C20, RN20, TX20, PN, S_20⟩ := hrel
    by_cases hlt : k < m
    · have i1 : (k : Int) < (m : Int) := by omega
      have hk : k < ps.length := by have := HM.out; omega
      have i0 : (0 : Int) ≤ (k : Int) := by omega
      obtain ⟨t, ht⟩ : ∃ t, t = ps.getD k default := ⟨_, rfl⟩
      have hts : t.size ≤ 1000 := by
        rw [ht, List.getD_eq_getElem?_getD, List.getElem?_eq_getElem hk]
        exact hpz _ (List.getElem_mem _)
      have HPC : Hid (∀ W Q s', Cur V w0 av cv bs w g r Q W s' → W.cell? ⟨b, k, none⟩ = some (.string t)) := fun W Q s' C => by rw [ht]; exact HP.out W Q s' C k hk
      have HTK : Hid (ps.take (k + 1) = ps.take k ++ [t]) := by
        show _ = _
        rw [List.take_add_one, ht, List.getD_eq_getElem?_getD, List.getElem?_eq_getElem hk]
        rfl
      have Bd : Below wr.heap.size wr wr.drew := Below.drew (Below.refl _ _)
      have kv := Lib.run_convert_string_bytes wr.drew 9 22 5 t Try.underlying9 Try.underlying22 Try.underlying5
      have RV := rdV_bytes (B := hd w Q) wr.drew t (grownCap wr.drew t.size 0 5) hts C20.out.hdnew
      have Bl : Below wr.heap.size wr (Lib.bytesWorld wr.drew 5 t) := Bd.trans ((bel_bytes wr.drew t).mono Bd.size)
      generalize grownCap wr.drew t.size 0 5 = cp at kv RV
      generalize Lib.bytesWorld wr.drew 5 t = W22 at kv RV Bl
      obtain ⟨hC22, hF22⟩ := C20.out.bel Bl
      have C22 : Hid (Cur V w0 av cv bs w g r Q W22 { s with names := s.names ++ ps.take k }) := hC22
      have RN22 : Hid (Row 75 w Q W22 (.slice (some ⟨w.heap.size, 0, none⟩) 5 5) [.int .i64 19, .int .i64 0, .slice none 0 0, .slice an k cn, .int .i64 0]) := C20.out.row hF22 RN20.out
      have TX22 : Hid (Txts w Q W22 (.slice an k cn) ((ps.take k).map nums)) := C20.out.txts hF22 TX20.out
      have S_22 : Hid (Sv V Q W22 (.slice an0 s.names.length cn0) s.names) := C20.out.sv hF22 S_20.out
      have RV22 : Hid (RdV (veil (hd w Q) W22) (.slice (some ⟨wr.heap.size, 0, none⟩) t.size cp) (nums t)) := RV
      obtain ⟨hCd, hFd⟩ := C20.out.bel Bd
      have p1 := HPC.out _ _ _ hCd
      have p2 := HPC.out _ _ _ C22.out
      have pL : Hid (∀ o, (W22.alloc o).cell? ⟨b, k, none⟩ = some (.string t)) := fun o => cellB p2 ((Below.refl _ _).alloc (Nat.le_refl _) _)
      have d3a : wr.drew.cell? ⟨w.heap.size, 3, none⟩ = some (.slice an k cn) := (C20.out.row hFd RN20.out).cell (j := 3) (by simp)
      have d3b : W22.cell? ⟨w.heap.size, 3, none⟩ = some (.slice an k cn) := RN22.out.cell (j := 3) (by simp)
      have d3c : (W22.alloc (.cells #[.slice (some ⟨wr.heap.size, 0, none⟩) t.size cp] 22)).cell? ⟨w.heap.size, 3, none⟩ = some (.slice an k cn) := cellB d3b ((Below.refl _ _).alloc (Nat.le_refl _) _)
      obtain ⟨ib, hib, hbz0, hbz1, hbz2⟩ := info_parts info_bytes
      clear hC22 hF22 hCd hFd RV Bl Bd ht
      go_wp2_with fail
      refine wp_region_noPanic ?_
      refine wp_ordered 10 (fun W => W.cell? ⟨b, k, none⟩ = some (.string t) ∧ W.cell? ⟨w.heap.size, 3, none⟩ = some (.slice an k cn)) (by kernel_rfl) ⟨p1, d3a⟩ (fun hHeld => ?_)
      refine Ordered.take (i := 0) (v := ?_) rfl (by kernel_rfl) (by kernel_rfl) (by kernel_rfl) (by kernel_rfl) (fun _ _ _ h => h) (Or.inl ⟨by rfl, ?_⟩) (by assumption) ?_
      rotate_left
      (intro W hSw; obtain ⟨hS1, hS2⟩ := hSw; go_simp; try with_reducible rfl)
      try simp only [Act.put, List.setIfInBounds_toArray]
      refine Ordered.take (i := 1) (v := ?_) rfl (by kernel_rfl) (by kernel_rfl) (by kernel_rfl) (by kernel_rfl) (fun _ _ _ h => h) (Or.inl ⟨by rfl, ?_⟩) (by assumption) ?_
      rotate_left
      (intro W hSw; obtain ⟨hS1, hS2⟩ := hSw; go_simp; try with_reducible rfl)
      try simp only [Act.put]
      refine Ordered.take (i := 2) (v := ?_) rfl (by kernel_rfl) (by kernel_rfl) (by kernel_rfl) (by kernel_rfl) (fun _ _ _ h => h) (Or.inl ⟨by rfl, ?_⟩) (by assumption) ?_
      rotate_left
      (intro W hSw; obtain ⟨hS1, hS2⟩ := hSw; go_simp; try with_reducible rfl)
      try simp only [Act.put]
      refine Ordered.take (i := 3) (v := ?_) rfl (by kernel_rfl) (by kernel_rfl) (by kernel_rfl) (by kernel_rfl) (fun _ _ _ h => h) (Or.inl ⟨by rfl, ?_⟩) (by assumption) ?_
      rotate_left
      (intro W hSw; obtain ⟨hS1, hS2⟩ := hSw; go_simp; try with_reducible rfl)
      try simp only [Act.put]
      refine Ordered.take (i := 4) (v := ?_) rfl (by kernel_rfl) (by kernel_rfl) (by kernel_rfl) (by kernel_rfl) (fun _ _ _ h => h) (Or.inl ⟨by rfl, ?_⟩) (by assumption) ?_
      rotate_left
      (intro W hSw; obtain ⟨hS1, hS2⟩ := hSw; go_simp; try with_reducible rfl)
      try simp only [Act.put]
      refine Ordered.take (i := 5) (v := ?_) rfl (by kernel_rfl) (by kernel_rfl) (by kernel_rfl) (by kernel_rfl) (fun _ _ _ h => h) (Or.inl ⟨by rfl, ?_⟩) (by assumption) ?_
      rotate_left
      (intro W hSw; obtain ⟨hS1, hS2⟩ := hSw; go_simp; try with_reducible rfl)
      try simp only [Act.put]
      refine Ordered.ready (rs := [6]) (by kernel_rfl) (by simp) ?_
      refine (Eachs.cons rfl (fun K hK => ?_) Eachs.nil)
      go_simp
      refine hK.out _ _ (fun _ => ⟨p2, d3b⟩) (fun hHeld2 => ?_)
      clear hK K hHeld
      have hHeld := hHeld2 (by decide)
      clear hHeld2
      try simp only [Act.put, List.setIfInBounds_toArray, List.set_cons_zero, List.set_cons_succ]
      refine Ordered.ready (rs := [7]) (by kernel_rfl) (by simp) ?_
      refine (Eachs.cons rfl (fun K hK => ?_) Eachs.nil)
      go_simp
      refine hK.out _ _ (fun _ => ⟨pL.out _, d3c⟩) (fun hHeld2 => ?_)
      clear hK K hHeld
      have hHeld := hHeld2 (by decide)
      clear hHeld2
      try simp only [Act.put, List.setIfInBounds_toArray, List.set_cons_zero, List.set_cons_succ]
      refine Ordered.ready (rs := [8]) (by kernel_rfl) (by simp) ?_
      refine (Eachs.cons rfl (fun K hK => ?_) Eachs.nil)
      (obtain ⟨us, hRt, hlt', hzt⟩ := TX22.out; refine step_append_any (by rfl) _ _ 22 73 (by rfl) C22.out Try.underlying73 hib hbz0 hbz1 hbz2 rfl (Nat.le_refl _) (by rfl) hRt hRt.len ((Below.refl _ _).alloc (Nat.le_refl _) _) (some ⟨W22.heap.size, 0, none⟩) 1 1 (by rfl) (xs := [.slice (some ⟨wr.heap.size, 0, none⟩) t.size cp]) rfl sub_lt (by simp [Value.oneCell']) (by have := hRt.len; simp; omega) ?_; intro a23 c23 w23 Q23 hA; have C23 : Hid _ := hA.cur; have RN23 : Hid (Row 75 w Q23 w23 (.slice (some ⟨w.heap.size, 0, none⟩) 5 5) [.int .i64 19, .int .i64 0, .slice none 0 0, .slice an k cn, .int .i64 0]) := hA.other _ _ _ RN22.out PN.out.symm; have TX23 : Hid (Txts w Q23 w23 (.slice a23 (k + 1) c23) ((ps.take k).map nums ++ [nums t])) := hA.txts hlt' hzt (hA.mv.rdv RV22.out); have S_23 : Hid (Sv V Q23 w23 (.slice an0 s.names.length cn0) s.names) := hA.mv.sv S_22.out; have PN23 : Hid (Ap (.slice a23 (k + 1) c23) (.slice (some ⟨w.heap.size, 0, none⟩) 5 5)) := hA.ap RN22.out PN.out.symm; clear hA hRt hlt' hzt us; have p23 := HPC.out _ _ _ C23.out; have d3_23 : w23.cell? ⟨w.heap.size, 3, none⟩ = some (.slice an k cn) := RN23.out.cell (j := 3) (by simp); have f3_23 := RN23.out.free 3; obtain ⟨Q24, hC24, hM24, hR24, hO24⟩ := C23.out.poke RN23.out 3 (.slice a23 (k + 1) c23); have C24 : Hid _ := hC24; have RN24 : Hid (Row 75 w Q24 (w23.setCell ⟨w.heap.size, 3, none⟩ (.slice a23 (k + 1) c23)) (.slice (some ⟨w.heap.size, 0, none⟩) 5 5) [.int .i64 19, .int .i64 0, .slice none 0 0, .slice a23 (k + 1) c23, .int .i64 0]) := hR24; have TX24 : Hid (Txts w Q24 (w23.setCell ⟨w.heap.size, 3, none⟩ (.slice a23 (k + 1) c23)) (.slice a23 (k + 1) c23) ((ps.take k).map nums ++ [nums t])) := TX23.out.move hM24 (fun us h => hO24 _ _ us h PN23.out.symm); have S_24 : Hid (Sv V Q24 (w23.setCell ⟨w.heap.size, 3, none⟩ (.slice a23 (k + 1) c23)) (.slice an0 s.names.length cn0) s.names) := hM24.sv S_23.out; have p24 := HPC.out _ _ _ C24.out; clear hC24 hM24 hR24 hO24)
      refine hK.out _ _ (fun _ => ⟨p23, d3_23⟩) (fun hHeld2 => ?_)
      clear hK K hHeld
      have hHeld := hHeld2 (by decide)
      clear hHeld2
      try simp only [Act.put, List.setIfInBounds_toArray]
      refine Ordered.take (i := 9) (v := ?_) rfl (by kernel_rfl) (by kernel_rfl) (by kernel_rfl) (by kernel_rfl) (fun _ _ _ h => h) (Or.inl ⟨by rfl, ?_⟩) (by assumption) ?_
      rotate_left
      (intro W hSw; obtain ⟨hS1, hS2⟩ := hSw; go_simp; try with_reducible rfl)
      try simp only [Act.put]
      refine Ordered.ready (rs := [10]) (by kernel_rfl) (by simp) ?_
      refine (Eachs.cons rfl (fun K hK => ?_) Eachs.nil)
      go_simp
      refine hK.out _ _ (fun h => absurd rfl h) (fun _ => ?_)
      clear hK K hHeld
      try simp only [Act.put, List.setIfInBounds_toArray, List.set_cons_zero, List.set_cons_succ]
      refine Ordered.done (by kernel_rfl) ?_ _
      refine NoPanic.normal ?_
      generalize w23.setCell ⟨w.heap.size, 3, none⟩ (.slice a23 (k + 1) c23) = W24 at C24 RN24 TX24 S_24 p24 ⊢
      go_wp2_with fail
      have Bd2 : Below W24.heap.size W24 W24.drew := Below.drew (Below.refl _ _)
      obtain ⟨hCd, hFd⟩ := C24.out.bel Bd2
      have RNd := C24.out.row hFd RN24.out
      have TXd := C24.out.txts hFd TX24.out
      have Sd := C24.out.sv hFd S_24.out
      have q1 := HPC.out _ _ _ hCd
      obtain ⟨az, cz, e1, hsz⟩ := hCd.save
      obtain ⟨nn, hnn⟩ : ∃ nn, nn = (s.names ++ ps.take k).length := ⟨_, rfl⟩
      have HNN : Hid (nn = (s.names ++ ps.take k).length) := hnn
      have hnb : nn ≤ 100000 := by rw [hnn]; exact hCd.gg.few
      have HN : Hid (∀ W, Below W24.drew.heap.size W24.drew W → ∀ i, i < nn → ∃ b off, az = some ⟨b, off, none⟩ ∧ W.cell? ⟨b, off + i, none⟩ = some (.string ((s.names ++ ps.take k).getD i default))) := fun W hW i hi => by
        obtain ⟨ao, cap, e, _, h⟩ := hsz
        simp only [Value.slice.injEq] at e
        obtain ⟨rfl, _, rfl⟩ := e
        obtain ⟨b', off, e, h⟩ := h i (by rw [hnn] at hi; exact hi)
        exact ⟨b', off, e, cellB (veil_cell h).1 hW⟩
      have FIN : Hid (∀ W a n c, Below W24.drew.heap.size W24.drew W → W.ownsRow W24.drew.heap.size 9 1 (.slice a n c) n (((s.names ++ ps.take k) ++ [t]).map .string) → n = nn + 1 → Cur V w0 av cv bs w g r Q24 (W.setCell ⟨g, 1, none⟩ (.slice a n c)) { s with names := s.names ++ ps.take (k + 1) } ∧ Row 75 w Q24 (W.setCell ⟨g, 1, none⟩ (.slice a n c)) (.slice (some ⟨w.heap.size, 0, none⟩) 5 5) [.int .i64 19, .int .i64 0, .slice none 0 0, .slice a23 (k + 1) c23, .int .i64 0] ∧ Txts w Q24 (W.setCell ⟨g, 1, none⟩ (.slice a n c)) (.slice a23 (k + 1) c23) ((ps.take (k + 1)).map nums) ∧ Sv V Q24 (W.setCell ⟨g, 1, none⟩ (.slice a n c)) (.slice an0 s.names.length cn0) s.names) := fun W a n c hb ho hn => by
        obtain ⟨h1, h2⟩ := hCd.named hb ho (by rw [List.length_append, ← hnn]; exact hn) (by rw [List.length_append, ← hnn, List.length_singleton]; rw [List.length_append, List.length_take] at hnn; omega) (fun x hx => by
          rcases List.mem_append.1 hx with h | h
          · exact hCd.gg.short x h
          · rw [List.mem_singleton.1 h]; exact hts)
        rw [HTK.out, ← List.append_assoc, List.map_append]
        exact ⟨h1, hCd.row h2 RNd, hCd.txts h2 TXd, hCd.sv h2 Sd⟩
      have Cd : Hid (∀ W, Below W24.drew.heap.size W24.drew W → W.frozen? ⟨g, 1, none⟩ = false) := fun W h => (hCd.bel h).1.gg.free 1
      simp only at e1
      rw [← hnn] at e1
      clear hsz hnn hCd hFd RNd TXd Sd Bd2 p24 p23 d3_23 f3_23
      refine wp_region_noPanic ?_
      refine wp_ordered 15 (fun W => W.cell? ⟨b, k, none⟩ = some (.string t) ∧ W.cell? ⟨g, 1, none⟩ = some (.slice az nn cz)) (by kernel_rfl) ⟨q1, e1⟩ (fun hHeld => ?_)
      generalize W24.drew = Wd at q1 e1 HN FIN Cd hHeld ⊢
      refine Ordered.take (i := 0) (v := ?_) rfl (by kernel_rfl) (by kernel_rfl) (by kernel_rfl) (by kernel_rfl) (fun _ _ _ h => h) (Or.inl ⟨by rfl, ?_⟩) (by assumption) ?_
      rotate_left
      (intro W hSw; obtain ⟨hS1, hS2⟩ := hSw; go_simp; try with_reducible rfl)
      try simp only [Act.put, List.setIfInBounds_toArray]
      refine Ordered.take (i := 2) (v := ?_) rfl (by kernel_rfl) (by kernel_rfl) (by kernel_rfl) (by kernel_rfl) (fun _ _ _ h => h) (Or.inl ⟨by rfl, ?_⟩) (by assumption) ?_
      rotate_left
      (intro W hSw; obtain ⟨hS1, hS2⟩ := hSw; go_simp; try with_reducible rfl)
      try simp only [Act.put]
      refine Ordered.take (i := 3) (v := ?_) rfl (by kernel_rfl) (by kernel_rfl) (by kernel_rfl) (by kernel_rfl) (fun _ _ _ h => h) (Or.inl ⟨by rfl, ?_⟩) (by assumption) ?_
      rotate_left
      (intro W hSw; obtain ⟨hS1, hS2⟩ := hSw; go_simp; try with_reducible rfl)
      try simp only [Act.put]
      refine Ordered.take (i := 4) (v := ?_) rfl (by kernel_rfl) (by kernel_rfl) (by kernel_rfl) (by kernel_rfl) (fun _ _ _ h => h) (Or.inl ⟨by rfl, ?_⟩) (by assumption) ?_
      rotate_left
      (intro W hSw; obtain ⟨hS1, hS2⟩ := hSw; go_simp; try with_reducible rfl)
      try simp only [Act.put]
      refine Ordered.take (i := 5) (v := ?_) rfl (by kernel_rfl) (by kernel_rfl) (by kernel_rfl) (by kernel_rfl) (fun _ _ _ h => h) (Or.inl ⟨by rfl, ?_⟩) (by assumption) ?_
      rotate_left
      (intro W hSw; obtain ⟨hS1, hS2⟩ := hSw; go_simp; try with_reducible rfl)
      try simp only [Act.put]
      refine Ordered.take (i := 7) (v := ?_) rfl (by kernel_rfl) (by kernel_rfl) (by kernel_rfl) (by kernel_rfl) (fun _ _ _ h => h) (Or.inl ⟨by rfl, ?_⟩) (by assumption) ?_
      rotate_left
      (intro W hSw; obtain ⟨hS1, hS2⟩ := hSw; go_simp; try with_reducible rfl)
      try simp only [Act.put]
      refine Ordered.take (i := 8) (v := ?_) rfl (by kernel_rfl) (by kernel_rfl) (by kernel_rfl) (by kernel_rfl) (fun _ _ _ h => h) (Or.inl ⟨by rfl, ?_⟩) (by assumption) ?_
      rotate_left
      (intro W hSw; obtain ⟨hS1, hS2⟩ := hSw; go_simp; try with_reducible rfl)
      try simp only [Act.put]
      refine Ordered.take (i := 9) (v := ?_) rfl (by kernel_rfl) (by kernel_rfl) (by kernel_rfl) (by kernel_rfl) (fun _ _ _ h => h) (Or.inl ⟨by rfl, ?_⟩) (by assumption) ?_
      rotate_left
      (intro W hSw; obtain ⟨hS1, hS2⟩ := hSw; go_simp; try with_reducible rfl)
      try simp only [Act.put]
      refine Ordered.take (i := 10) (v := ?_) rfl (by kernel_rfl) (by kernel_rfl) (by kernel_rfl) (by kernel_rfl) (fun _ _ _ h => h) (Or.inl ⟨by rfl, ?_⟩) (by assumption) ?_
      rotate_left
      (intro W hSw; obtain ⟨hS1, hS2⟩ := hSw; go_simp; try with_reducible rfl)
      try simp only [Act.put]
      refine Ordered.ready (rs := [1, 11]) (by kernel_rfl) (by simp) ?_
      refine (Eachs.cons rfl (fun K hK => ?_) (Eachs.cons rfl (fun K hK => ?_) Eachs.nil))
      · go_simp
        refine hK.out _ _ (fun _ => ⟨cellB q1 ((Below.refl _ _).alloc (Nat.le_refl _) _), cellB e1 ((Below.refl _ _).alloc (Nat.le_refl _) _)⟩) (fun hHeld2 => ?_)
        clear hK K hHeld
        have hHeld := hHeld2 (by decide)
        clear hHeld2
        try simp only [Act.put, List.setIfInBounds_toArray, List.set_cons_zero, List.set_cons_succ]
        refine Ordered.ready (rs := [6, 11]) (by kernel_rfl) (by simp) ?_
        refine (Eachs.cons rfl (fun K hK => ?_) (Eachs.cons rfl (fun K hK => ?_) Eachs.nil))
        · refine step_append_strs (by rfl) _ _ (by rfl) (B := Wd) (W1 := (Wd.alloc (.cells #[] 9))) ((Below.refl _ _).alloc (Nat.le_refl _) _) (us := []) (xs := (s.names ++ ps.take k)) (by rfl) empty_row az nn cz (by rfl) HNN.out (HN.out _ ((Below.refl _ _).alloc (Nat.le_refl _) _)) (by have := HNN.out; omega) ?_
          intro aP cP wP hoP hbP hgP
          rw [Nat.zero_add] at hoP
          rw [Nat.zero_add]
          refine hK.out _ _ (fun _ => ⟨cellB q1 hbP, cellB e1 hbP⟩) (fun hHeld2 => ?_)
          clear hK K hHeld
          have hHeld := hHeld2 (by decide)
          clear hHeld2
          try simp only [Act.put, List.setIfInBounds_toArray]
          refine Ordered.ready (rs := [11]) (by kernel_rfl) (by simp) ?_
          refine (Eachs.cons rfl (fun K hK => ?_) Eachs.nil)
          go_simp
          refine hK.out _ _ (fun _ => ⟨cellB q1 (hbP.alloc hbP.size _), cellB e1 (hbP.alloc hbP.size _)⟩) (fun hHeld2 => ?_)
          clear hK K hHeld
          have hHeld := hHeld2 (by decide)
          clear hHeld2
          try simp only [Act.put, List.setIfInBounds_toArray, List.set_cons_zero, List.set_cons_succ]
          refine Ordered.ready (rs := [12]) (by kernel_rfl) (by simp) ?_
          refine (Eachs.cons rfl (fun K hK => ?_) Eachs.nil)
          refine step_append_strs (by rfl) _ _ (by rfl) (B := Wd) (W1 := (wP.alloc (.cells #[.string t] 9))) (hbP.alloc hbP.size _) (us := (s.names ++ ps.take k)) (xs := [t]) (by rfl) (own_far hoP (fun b e => heap_alloc_old _ _ (hoP.lt b e).2)) (some ⟨wP.heap.size, 0, none⟩) 1 1 (by rfl) rfl (one_str cell_fresh) (by simp; omega) ?_
          intro aE cE wE hoE hbE hgE
          refine hK.out _ _ (fun _ => ⟨cellB q1 hbE, cellB e1 hbE⟩) (fun hHeld2 => ?_)
          clear hK K hHeld
          have hHeld := hHeld2 (by decide)
          clear hHeld2
          try simp only [Act.put, List.setIfInBounds_toArray]
          refine Ordered.ready (rs := [13]) (by kernel_rfl) (by simp) ?_
          refine (Eachs.cons rfl (fun K hK => ?_) Eachs.nil)
          go_simp
          refine hK.out _ _ (fun _ => ⟨cellB q1 hbE, cellB e1 hbE⟩) (fun hHeld2 => ?_)
          clear hK K hHeld
          have hHeld := hHeld2 (by decide)
          clear hHeld2
          try simp only [Act.put, List.setIfInBounds_toArray, List.set_cons_zero, List.set_cons_succ]
          refine Ordered.take (i := 14) (v := ?_) rfl (by kernel_rfl) (by kernel_rfl) (by kernel_rfl) (by kernel_rfl) (fun _ _ _ h => h) (Or.inl ⟨by rfl, ?_⟩) (by assumption) ?_
          rotate_left
          (intro W hSw; obtain ⟨hS1, hS2⟩ := hSw; go_simp; try with_reducible rfl)
          try simp only [Act.put, List.setIfInBounds_toArray]
          refine Ordered.ready (rs := [15]) (by kernel_rfl) (by simp) ?_
          refine (Eachs.cons rfl (fun K hK => ?_) Eachs.nil)
          have dE := cellB e1 hbE
          have fE := Cd.out _ hbE
          go_simp
          refine hK.out _ _ (fun h => absurd rfl h) (fun _ => ?_)
          clear hK K hHeld
          try simp only [Act.put, List.setIfInBounds_toArray, List.set_cons_zero, List.set_cons_succ]
          refine Ordered.done (by kernel_rfl) ?_ _
          refine NoPanic.normal ?_
          obtain ⟨C40, RN40, TX40, S_40⟩ := FIN.out wE aE _ cE hbE hoE (by omega)
          have C41 : Hid _ := C40
          have RN41 : Hid _ := RN40
          have TX41 : Hid _ := TX40
          have S_41 : Hid _ := S_40
          clear C40 RN40 TX40 S_40
          go_wp2
          refine ⟨⟨k + 1, c23, Q24, a23, by omega, by go_num, C41.out, RN41.out, TX41.out, PN23.out.symm, S_41.out⟩, by simp [intOf]; omega⟩
        · go_simp
          refine hK.out _ _ (fun _ => ⟨cellB q1 (((Below.refl _ _).alloc (Nat.le_refl _) _).alloc (by simp) _), cellB e1 (((Below.refl _ _).alloc (Nat.le_refl _) _).alloc (by simp) _)⟩) (fun hHeld2 => ?_)
          clear hK K hHeld
          have hHeld := hHeld2 (by decide)
          clear hHeld2
          try simp only [Act.put, List.setIfInBounds_toArray, List.set_cons_zero, List.set_cons_succ]
          have cT : ((Wd.alloc (.cells #[] 9)).alloc (.cells #[.string t] 9)).cell? ⟨Wd.heap.size + 1, 0, none⟩ = some (.string t) := by
            have := cell_fresh (W := Wd.alloc (.cells #[] 9)) (u := .string t) (T := 9)
            rw [World.size_alloc] at this
            exact this
          refine Ordered.ready (rs := [6]) (by kernel_rfl) (by simp) ?_
          refine (Eachs.cons rfl (fun K hK => ?_) Eachs.nil)
          refine step_append_strs (by rfl) _ _ (by rfl) (B := Wd) (W1 := ((Wd.alloc (.cells #[] 9)).alloc (.cells #[.string t] 9))) (((Below.refl _ _).alloc (Nat.le_refl _) _).alloc (by simp) _) (us := []) (xs := (s.names ++ ps.take k)) (by rfl) (own_far empty_row (fun b e => heap_alloc_old _ _ (by cases e; simp))) az nn cz (by rfl) HNN.out (HN.out _ (((Below.refl _ _).alloc (Nat.le_refl _) _).alloc (by simp) _)) (by have := HNN.out; omega) ?_
          intro aP cP wP hoP hbP hgP
          rw [Nat.zero_add] at hoP
          rw [Nat.zero_add]
          have cP1 : wP.cell? ⟨Wd.heap.size + 1, 0, none⟩ = some (.string t) := by
            unfold World.cell? at cT ⊢
            rw [hgP.block (Wd.heap.size + 1) (by simp) (by simp [Value.ownBlock])]
            exact cT
          clear cT hgP
          refine hK.out _ _ (fun _ => ⟨cellB q1 hbP, cellB e1 hbP⟩) (fun hHeld2 => ?_)
          clear hK K hHeld
          have hHeld := hHeld2 (by decide)
          clear hHeld2
          try simp only [Act.put, List.setIfInBounds_toArray]
          refine Ordered.ready (rs := [12]) (by kernel_rfl) (by simp) ?_
          refine (Eachs.cons rfl (fun K hK => ?_) Eachs.nil)
          refine step_append_strs (by rfl) _ _ (by rfl) (B := Wd) (W1 := wP) hbP (us := (s.names ++ ps.take k)) (xs := [t]) (by rfl) hoP (some ⟨Wd.heap.size + 1, 0, none⟩) 1 1 (by rfl) rfl (one_str cP1) (by simp; omega) ?_
          intro aE cE wE hoE hbE hgE
          refine hK.out _ _ (fun _ => ⟨cellB q1 hbE, cellB e1 hbE⟩) (fun hHeld2 => ?_)
          clear hK K hHeld
          have hHeld := hHeld2 (by decide)
          clear hHeld2
          try simp only [Act.put]
          refine Ordered.ready (rs := [13]) (by kernel_rfl) (by simp) ?_
          refine (Eachs.cons rfl (fun K hK => ?_) Eachs.nil)
          go_simp
          refine hK.out _ _ (fun _ => ⟨cellB q1 hbE, cellB e1 hbE⟩) (fun hHeld2 => ?_)
          clear hK K hHeld
          have hHeld := hHeld2 (by decide)
          clear hHeld2
          try simp only [Act.put, List.setIfInBounds_toArray, List.set_cons_zero, List.set_cons_succ]
          refine Ordered.take (i := 14) (v := ?_) rfl (by kernel_rfl) (by kernel_rfl) (by kernel_rfl) (by kernel_rfl) (fun _ _ _ h => h) (Or.inl ⟨by rfl, ?_⟩) (by assumption) ?_
          rotate_left
          (intro W hSw; obtain ⟨hS1, hS2⟩ := hSw; go_simp; try with_reducible rfl)
          try simp only [Act.put, List.setIfInBounds_toArray]
          refine Ordered.ready (rs := [15]) (by kernel_rfl) (by simp) ?_
          refine (Eachs.cons rfl (fun K hK => ?_) Eachs.nil)
          have dE := cellB e1 hbE
          have fE := Cd.out _ hbE
          go_simp
          refine hK.out _ _ (fun h => absurd rfl h) (fun _ => ?_)
          clear hK K hHeld
          try simp only [Act.put, List.setIfInBounds_toArray, List.set_cons_zero, List.set_cons_succ]
          refine Ordered.done (by kernel_rfl) ?_ _
          refine NoPanic.normal ?_
          obtain ⟨C40, RN40, TX40, S_40⟩ := FIN.out wE aE _ cE hbE hoE (by omega)
          have C41 : Hid _ := C40
          have RN41 : Hid _ := RN40
          have TX41 : Hid _ := TX40
          have S_41 : Hid _ := S_40
          clear C40 RN40 TX40 S_40
          go_wp2
          refine ⟨⟨k + 1, c23, Q24, a23, by omega, by go_num, C41.out, RN41.out, TX41.out, PN23.out.symm, S_41.out⟩, by simp [intOf]; omega⟩
      · go_simp
        refine hK.out _ _ (fun _ => ⟨cellB q1 ((Below.refl _ _).alloc (Nat.le_refl _) _), cellB e1 ((Below.refl _ _).alloc (Nat.le_refl _) _)⟩) (fun hHeld2 => ?_)
        clear hK K hHeld
        have hHeld := hHeld2 (by decide)
        clear hHeld2
        try simp only [Act.put, List.setIfInBounds_toArray, List.set_cons_zero, List.set_cons_succ]
        refine Ordered.ready (rs := [1]) (by kernel_rfl) (by simp) ?_
        refine (Eachs.cons rfl (fun K hK => ?_) Eachs.nil)
        go_simp
        refine hK.out _ _ (fun _ => ⟨cellB q1 (((Below.refl _ _).alloc (Nat.le_refl _) _).alloc (by simp) _), cellB e1 (((Below.refl _ _).alloc (Nat.le_refl _) _).alloc (by simp) _)⟩) (fun hHeld2 => ?_)
        clear hK K hHeld
        have hHeld := hHeld2 (by decide)
        clear hHeld2
        try simp only [Act.put, List.setIfInBounds_toArray, List.set_cons_zero, List.set_cons_succ]
        have cT : ((Wd.alloc (.cells #[.string t] 9)).alloc (.cells #[] 9)).cell? ⟨Wd.heap.size, 0, none⟩ = some (.string t) := cellB cell_fresh ((Below.refl _ _).alloc (Nat.le_refl _) _)
        refine Ordered.ready (rs := [6]) (by kernel_rfl) (by simp) ?_
        refine (Eachs.cons rfl (fun K hK => ?_) Eachs.nil)
        have hoA : ((Wd.alloc (.cells #[.string t] 9)).alloc (.cells #[] 9)).ownsRow Wd.heap.size 9 1 (.slice (some ⟨Wd.heap.size + 1, 0, none⟩) 0 0) 0 [] := by
          have := empty_at (W := Wd.alloc (.cells #[.string t] 9)) (T := 9) (B := Wd.heap.size) (by simp)
          rw [World.size_alloc] at this
          exact this
        refine step_append_strs (by rfl) _ _ (by rfl) (B := Wd) (W1 := ((Wd.alloc (.cells #[.string t] 9)).alloc (.cells #[] 9))) (((Below.refl _ _).alloc (Nat.le_refl _) _).alloc (by simp) _) (us := []) (xs := (s.names ++ ps.take k)) (by rfl) hoA az nn cz (by rfl) HNN.out (HN.out _ (((Below.refl _ _).alloc (Nat.le_refl _) _).alloc (by simp) _)) (by have := HNN.out; omega) ?_
        intro aP cP wP hoP hbP hgP
        rw [Nat.zero_add] at hoP
        rw [Nat.zero_add]
        have cP1 : wP.cell? ⟨Wd.heap.size, 0, none⟩ = some (.string t) := by
          unfold World.cell? at cT ⊢
          rw [hgP.block Wd.heap.size (by simp; omega) (by simp [Value.ownBlock])]
          exact cT
        clear cT hgP
        refine hK.out _ _ (fun _ => ⟨cellB q1 hbP, cellB e1 hbP⟩) (fun hHeld2 => ?_)
        clear hK K hHeld
        have hHeld := hHeld2 (by decide)
        clear hHeld2
        try simp only [Act.put, List.setIfInBounds_toArray]
        refine Ordered.ready (rs := [12]) (by kernel_rfl) (by simp) ?_
        refine (Eachs.cons rfl (fun K hK => ?_) Eachs.nil)
        refine step_append_strs (by rfl) _ _ (by rfl) (B := Wd) (W1 := wP) hbP (us := (s.names ++ ps.take k)) (xs := [t]) (by rfl) hoP (some ⟨Wd.heap.size, 0, none⟩) 1 1 (by rfl) rfl (one_str cP1) (by simp; omega) ?_
        intro aE cE wE hoE hbE hgE
        refine hK.out _ _ (fun _ => ⟨cellB q1 hbE, cellB e1 hbE⟩) (fun hHeld2 => ?_)
        clear hK K hHeld
        have hHeld := hHeld2 (by decide)
        clear hHeld2
        try simp only [Act.put]
        refine Ordered.ready (rs := [13]) (by kernel_rfl) (by simp) ?_
        refine (Eachs.cons rfl (fun K hK => ?_) Eachs.nil)
        go_simp
        refine hK.out _ _ (fun _ => ⟨cellB q1 hbE, cellB e1 hbE⟩) (fun hHeld2 => ?_)
        clear hK K hHeld
        have hHeld := hHeld2 (by decide)
        clear hHeld2
        try simp only [Act.put, List.setIfInBounds_toArray, List.set_cons_zero, List.set_cons_succ]
        refine Ordered.take (i := 14) (v := ?_) rfl (by kernel_rfl) (by kernel_rfl) (by kernel_rfl) (by kernel_rfl) (fun _ _ _ h => h) (Or.inl ⟨by rfl, ?_⟩) (by assumption) ?_
        rotate_left
        (intro W hSw; obtain ⟨hS1, hS2⟩ := hSw; go_simp; try with_reducible rfl)
        try simp only [Act.put, List.setIfInBounds_toArray]
        refine Ordered.ready (rs := [15]) (by kernel_rfl) (by simp) ?_
        refine (Eachs.cons rfl (fun K hK => ?_) Eachs.nil)
        have dE := cellB e1 hbE
        have fE := Cd.out _ hbE
        go_simp
        refine hK.out _ _ (fun h => absurd rfl h) (fun _ => ?_)
        clear hK K hHeld
        try simp only [Act.put, List.setIfInBounds_toArray, List.set_cons_zero, List.set_cons_succ]
        refine Ordered.done (by kernel_rfl) ?_ _
        refine NoPanic.normal ?_
        obtain ⟨C40, RN40, TX40, S_40⟩ := FIN.out wE aE _ cE hbE hoE (by omega)
        have C41 : Hid _ := C40
        have RN41 : Hid _ := RN40
        have TX41 : Hid _ := TX40
        have S_41 : Hid _ := S_40
        clear C40 RN40 TX40 S_40
        go_wp2
        refine ⟨⟨k + 1, c23, Q24, a23, by omega, by go_num, C41.out, RN41.out, TX41.out, PN23.out.symm, S_41.out⟩, by simp [intOf]; omega⟩
    · obtain rfl : k = m := by omega
      have i1 : ¬ ((k : Int) < (k : Int)) := by omega
      have htk : ps.take k = ps := by rw [← HM.out]; exact List.take_length
      rw [htk] at C20 TX20
      have D30 : Hid (Draws bs 58 (fun g => #[.pointer (some ⟨g, 0, none⟩), .int .i64 (e : Int)]) { s with names := s.names ++ ps, loop := false, fn := true } l { s with i := j, fuel := f, names := s.names ++ ps, loop := false, fn := true }) := hD
      clear hD htk
      have d3_20 := C20.out.gg.c3
      have f3_20 := C20.out.gg.free 3
      obtain ⟨hCA, hFA⟩ := C20.out.setLoop false
      have d4_21 := hCA.gg.c4
      have f4_21 := hCA.gg.free 4
      obtain ⟨hCB, hFB⟩ := hCA.setFn true
      have CB : Hid (Cur V w0 av cv bs w g r Q ((wr.setCell ⟨g, 3, none⟩ (.bool false)).setCell ⟨g, 4, none⟩ (.bool true)) { s with names := s.names ++ ps, loop := false, fn := true }) := hCB
      have RNB : Hid (Row 75 w Q ((wr.setCell ⟨g, 3, none⟩ (.bool false)).setCell ⟨g, 4, none⟩ (.bool true)) (.slice (some ⟨w.heap.size, 0, none⟩) 5 5) [.int .i64 19, .int .i64 0, .slice none 0 0, .slice an k cn, .int .i64 0]) := C20.out.row (hFA.trans hFB) RN20.out
      have TXB : Hid (Txts w Q ((wr.setCell ⟨g, 3, none⟩ (.bool false)).setCell ⟨g, 4, none⟩ (.bool true)) (.slice an k cn) (ps.map nums)) := C20.out.txts (hFA.trans hFB) TX20.out
      have SB : Hid (Sv V Q ((wr.setCell ⟨g, 3, none⟩ (.bool false)).setCell ⟨g, 4, none⟩ (.bool true)) (.slice an0 s.names.length cn0) s.names) := C20.out.sv (hFA.trans hFB) S_20.out
      have hfew := C0.out.gg.few
      have HSH : Hid (∀ x ∈ s.names, x.size ≤ 1000) := C0.out.gg.short
      clear hCA hFA hCB hFB
      go_wp2_with (first
        | (go_at_call 45; have XF := C30.out.fn FF.out X30.out; have TXF := C30.out.txts FF.out TX30.out; have NM := TXF.rdvv rfl (by rw [List.length_map]; omega); obtain ⟨QL, CN, KN, _⟩ := CF.out.lit (us := [.slice a30 l.length c30]) (ks := [l]) (kr_one XF) rfl (by simp); rw [size_set, size_set, size_set] at KN; refine (CN.node (n := ⟨19, 0, [], ps.map nums, 0⟩) rfl KN (rdV_nil _) (RdVV.up NM (up_alloc _ _ _)) HS.out (by simp)).mono ?_; rintro e w40 ⟨a40, c40, rfl, hX, hC, hF⟩; have C40 : Hid _ := hC; have X40 : Hid _ := hX; clear hC hX hF CN KN XF TXF NM)
        | (go_at_call 58; refine (CB.out.call D30.out).mono ?_; rintro e w30 ⟨a30, c30, rfl, hX, hC, hF⟩; have C30 : Hid _ := hC; have X30 : Hid (FN (hd w Q) w30 (.slice a30 l.length c30) l) := hX; have RN30 : Hid (Row 75 w Q w30 (.slice (some ⟨w.heap.size, 0, none⟩) 5 5) [.int .i64 19, .int .i64 0, .slice none 0 0, .slice an k cn, .int .i64 0]) := CB.out.row hF RNB.out; have TX30 : Hid (Txts w Q w30 (.slice an k cn) (ps.map nums)) := CB.out.txts hF TXB.out; have S30 : Hid (Sv V Q w30 (.slice an0 s.names.length cn0) s.names) := CB.out.sv hF SB.out; clear hC hX hF; have f1_30 := C30.out.gg.free 1; obtain ⟨za, zb, d1_30, _⟩ := C30.out.save; obtain ⟨hC1, hF1⟩ := C30.out.setNames (.slice an0 s.names.length cn0) s.names S30.out hfew HSH.out; have f3_31 := hC1.gg.free 3; have d3_31 := hC1.gg.c3; obtain ⟨hC2, hF2⟩ := hC1.setLoop s.loop; have f4_32 := hC2.gg.free 4; have d4_32 := hC2.gg.c4; obtain ⟨hC3, hF3⟩ := hC2.setFn s.fn; have CF : Hid (Cur V w0 av cv bs w g r Q (((w30.setCell ⟨g, 1, none⟩ (.slice an0 s.names.length cn0)).setCell ⟨g, 3, none⟩ (.bool s.loop)).setCell ⟨g, 4, none⟩ (.bool s.fn)) { s with i := j, fuel := f }) := hC3; have FF : Hid (Fg g r w30 (((w30.setCell ⟨g, 1, none⟩ (.slice an0 s.names.length cn0)).setCell ⟨g, 3, none⟩ (.bool s.loop)).setCell ⟨g, 4, none⟩ (.bool s.fn))) := (hF1.trans hF2).trans hF3; clear hC1 hF1 hC2 hF2 hC3 hF3; have RNF := C30.out.row FF.out RN30.out; have n0 := RNF.cell (j := 0) (by simp); have n1 := RNF.cell (j := 1) (by simp); have n2 := RNF.cell (j := 2) (by simp); have n3 := RNF.cell (j := 3) (by simp); have n4 := RNF.cell (j := 4) (by simp); simp only [List.getElem?_cons_zero, List.getElem?_cons_succ] at n0 n1 n2 n3 n4; clear RNF))
      go_returns
      exact C40.out.done X40.out
end Go.Proofs.Ytepbddfpdlapbaa.tk
