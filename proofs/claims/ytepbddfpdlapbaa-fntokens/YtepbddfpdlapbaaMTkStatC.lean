import Derived.Test.YtepbddfpdlapbaaMTkStatA
namespace Go.Proofs.Ytepbddfpdlapbaa.tk
open Go.RowKit Go.Proofs.Ytepbddfpdlapbaa.bts Go.Proofs.Ytepbddfpdlapbaa.nod
set_option maxRecDepth 100000 in
set_option maxHeartbeats 8000000 in
theorem stat_if21 {bs : List Int} {n : Nat} (hb : Bts bs) (hl : bs.length ≤ 600) (s : Gs) (d : Nat) (hd5 : d ≤ 5) (h1 : 1 ≤ s.fuel) (h2 : s.fuel ≤ n + 1) (h3 : s.fuel ≤ 200) (h4 : (s.names.length : Int) + 4 * s.fuel ≤ 2000) (q : Nat) (hq : nx bs s.i % 32 = (q : Int)) (e : Nat) (hd1 : 1 ≤ d) (hde : (d : Int) - 1 = (e : Int)) (EX : ExprC bs n) (BL : PartC bs n 58 ag1 3) (c1 : q = 21) : ∃ l j f ns, Draws bs 49 (fun g => #[.pointer (some ⟨g, 0, none⟩), .int .i64 (d : Int)]) s l { s with i := j, fuel := f, names := ns } ∧ f ≤ s.fuel - 1 ∧ -10 * s.fuel - 1 ≤ f ∧ (l.length : Int) ≤ 20 * (s.fuel - f) ∧ ns.length ≤ s.names.length + 2 := by
  obtain ⟨k1, hk1, kb1⟩ := nxn hb s.i
  rw [hk1] at hq
  have hq32 : q < 32 := by omega
  subst c1
  have j0 : ¬ ((d : Int) ≤ 0) := by omega
  obtain ⟨l3, j3, f3, hD3, b1_3, b2_3, b3_3, b4_3⟩ := EX { stepG bs s with fuel := s.fuel - 1 } 2 (by omega) (by show _ ≤ (s.fuel - 1 : Int); omega) (by show (s.fuel - 1 : Int) ≤ _; omega) (by show (s.fuel - 1 : Int) ≤ _; omega) (by show (s.names.length : Int) + 4 * (s.fuel - 1) ≤ _; omega)
  simp only at b1_3 b2_3 b3_3 b4_3
  obtain ⟨l4, j4, f4, hD4, b1_4, b2_4, b3_4, b4_4⟩ := BL { s with i := j3, fuel := f3 } e (by omega) (by show _ ≤ (f3 : Int); omega) (by show (f3 : Int) ≤ _; omega) (by show (f3 : Int) ≤ _; omega) (by show (s.names.length : Int) + 4 * (f3) ≤ _; omega)
  simp only at b1_4 b2_4 b3_4 b4_4
  have HS : Hid ((node (kn 6) [l3, l4]).length ≤ 1000000) := by show _ ≤ _; simp only [node, List.length_cons, List.flatten_cons, List.length_append, List.length_nil, List.flatten_nil]; omega
  refine ⟨node (kn 6) [l3, l4], j4, f4, s.names, fun V w0 w av cv g r hv hr hG => ?_, by omega, by omega, by simp only [node, List.length_cons, List.flatten_cons, List.length_append, List.length_nil, List.flatten_nil]; omega, by omega⟩
  have C0 : Hid (Cur V w0 av cv bs w g r no w s) := Cur.start hv hr hb hl hG
  have d0_0 := C0.out.gg.c0
  have D3 : Hid (Draws bs 55 (fun g => #[.pointer (some ⟨g, 0, none⟩), .int .i64 ((2 : Nat) : Int)]) { stepG bs s with fuel := s.fuel - 1 } l3 { s with i := j3, fuel := f3 }) := hD3
  have D4 : Hid (Draws bs 58 (fun g => #[.pointer (some ⟨g, 0, none⟩), .int .i64 (e : Int)]) { s with i := j3, fuel := f3 } l4 { s with i := j4, fuel := f4 }) := hD4
  clear hG hr hv EX BL h2 h4 hD3 b1_3 b2_3 b3_3 b4_3 hD4 b1_4 b2_4 b3_4 b4_4
  go_enter Try.func49, Try.ntmps49
  go_wp2_with (first
    | (go_at_call 45; obtain ⟨QL5, CL5, KL5, _⟩ := C4.out.lit (kr_two X3_4.out X4_4.out) rfl (by simp); refine (CL5.node (n := kn 6) rfl KL5 (rdV_nil _) (rdVV_nil _) HS.out (by simp)).mono ?_; clear CL5 KL5; rintro e w5 ⟨a5, c5, rfl, hX, hC, hF⟩; have C5 : Hid _ := hC; have X5_5 : Hid _ := hX; clear hC hX hF; have d0_5 := C5.out.gg.c0)
    | (go_at_call 58; refine (C3.out.call D4.out).mono ?_; rintro e w4 ⟨a4, c4, rfl, hX, hC, hF⟩; have C4 : Hid _ := hC; have X4_4 : Hid _ := hX; have X3_4 : Hid _ := C3.out.fn hF X3_3.out; clear hC hX hF; have d0_4 := C4.out.gg.c0)
    | (go_at_call 55; refine (C2.out.call D3.out).mono ?_; rintro e w3 ⟨a3, c3, rfl, hX, hC, hF⟩; have C3 : Hid _ := hC; have X3_3 : Hid _ := hX; clear hC hX hF; have d0_3 := C3.out.gg.c0)
    | (go_at_call 9; refine (C0.out.next hk1).mono ?_; rintro e w1 ⟨rfl, hC, hF⟩; have C1 : Hid _ := hC; clear hC hF; have C2 : Hid _ := (C1.out.setFuel (s.fuel - 1) (by omega) (by omega)).1; have d2_1 : w1.cell? ⟨g, 2, none⟩ = some (.int .i64 s.fuel) := C1.out.gg.c2; have f2_1 := C1.out.gg.free 2; have d0_2 := C2.out.gg.c0; have d2_2 : (w1.setCell ⟨g, 2, none⟩ (.int .i64 (s.fuel - 1))).cell? ⟨g, 2, none⟩ = some (.int .i64 (s.fuel - 1)) := C2.out.gg.c2))
  go_returns
  exact C5.out.done X5_5.out
set_option maxRecDepth 100000 in
set_option maxHeartbeats 8000000 in
theorem stat_if23 {bs : List Int} {n : Nat} (hb : Bts bs) (hl : bs.length ≤ 600) (s : Gs) (d : Nat) (hd5 : d ≤ 5) (h1 : 1 ≤ s.fuel) (h2 : s.fuel ≤ n + 1) (h3 : s.fuel ≤ 200) (h4 : (s.names.length : Int) + 4 * s.fuel ≤ 2000) (q : Nat) (hq : nx bs s.i % 32 = (q : Int)) (e : Nat) (hd1 : 1 ≤ d) (hde : (d : Int) - 1 = (e : Int)) (EX : ExprC bs n) (BL : PartC bs n 58 ag1 3) (c1 : q = 23) : ∃ l j f ns, Draws bs 49 (fun g => #[.pointer (some ⟨g, 0, none⟩), .int .i64 (d : Int)]) s l { s with i := j, fuel := f, names := ns } ∧ f ≤ s.fuel - 1 ∧ -10 * s.fuel - 1 ≤ f ∧ (l.length : Int) ≤ 20 * (s.fuel - f) ∧ ns.length ≤ s.names.length + 2 := by
  obtain ⟨k1, hk1, kb1⟩ := nxn hb s.i
  rw [hk1] at hq
  have hq32 : q < 32 := by omega
  subst c1
  have j0 : ¬ ((d : Int) ≤ 0) := by omega
  obtain ⟨l3, j3, f3, hD3, b1_3, b2_3, b3_3, b4_3⟩ := EX { stepG bs s with fuel := s.fuel - 1 } 2 (by omega) (by show _ ≤ (s.fuel - 1 : Int); omega) (by show (s.fuel - 1 : Int) ≤ _; omega) (by show (s.fuel - 1 : Int) ≤ _; omega) (by show (s.names.length : Int) + 4 * (s.fuel - 1) ≤ _; omega)
  simp only at b1_3 b2_3 b3_3 b4_3
  obtain ⟨l4, j4, f4, hD4, b1_4, b2_4, b3_4, b4_4⟩ := BL { s with i := j3, fuel := f3 } e (by omega) (by show _ ≤ (f3 : Int); omega) (by show (f3 : Int) ≤ _; omega) (by show (f3 : Int) ≤ _; omega) (by show (s.names.length : Int) + 4 * (f3) ≤ _; omega)
  simp only at b1_4 b2_4 b3_4 b4_4
  obtain ⟨l5, j5, f5, hD5, b1_5, b2_5, b3_5, b4_5⟩ := BL { s with i := j4, fuel := f4 } e (by omega) (by show _ ≤ (f4 : Int); omega) (by show (f4 : Int) ≤ _; omega) (by show (f4 : Int) ≤ _; omega) (by show (s.names.length : Int) + 4 * (f4) ≤ _; omega)
  simp only at b1_5 b2_5 b3_5 b4_5
  have HS : Hid ((node (kn 6) [l3, l4, l5]).length ≤ 1000000) := by show _ ≤ _; simp only [node, List.length_cons, List.flatten_cons, List.length_append, List.length_nil, List.flatten_nil]; omega
  refine ⟨node (kn 6) [l3, l4, l5], j5, f5, s.names, fun V w0 w av cv g r hv hr hG => ?_, by omega, by omega, by simp only [node, List.length_cons, List.flatten_cons, List.length_append, List.length_nil, List.flatten_nil]; omega, by omega⟩
  have C0 : Hid (Cur V w0 av cv bs w g r no w s) := Cur.start hv hr hb hl hG
  have d0_0 := C0.out.gg.c0
  have D3 : Hid (Draws bs 55 (fun g => #[.pointer (some ⟨g, 0, none⟩), .int .i64 ((2 : Nat) : Int)]) { stepG bs s with fuel := s.fuel - 1 } l3 { s with i := j3, fuel := f3 }) := hD3
  have D4 : Hid (Draws bs 58 (fun g => #[.pointer (some ⟨g, 0, none⟩), .int .i64 (e : Int)]) { s with i := j3, fuel := f3 } l4 { s with i := j4, fuel := f4 }) := hD4
  have D5 : Hid (Draws bs 58 (fun g => #[.pointer (some ⟨g, 0, none⟩), .int .i64 (e : Int)]) { s with i := j4, fuel := f4 } l5 { s with i := j5, fuel := f5 }) := hD5
  clear hG hr hv EX BL h2 h4 hD3 b1_3 b2_3 b3_3 b4_3 hD4 b1_4 b2_4 b3_4 b4_4 hD5 b1_5 b2_5 b3_5 b4_5
  go_enter Try.func49, Try.ntmps49
  go_wp2_with (first
    | (go_at_call 45; refine (C6.out.node (n := kn 6) rfl K6.out (rdV_nil _) (rdVV_nil _) HS.out (by simp)).mono ?_; rintro e w7 ⟨a7, c7, rfl, hX, hC, hF⟩; have C7 : Hid _ := hC; have X7_7 : Hid _ := hX; clear hC hX hF)
    | (at_builtin; refine wpList_append_kids rfl _ _ rfl C5.out [.slice a5 l5.length c5] rfl rfl rfl K5.out rfl (kr_one X5_5.out) (by simp) rfl ?_; intro a6 c6 w6 Q6 hK hC hM; have C6 : Hid _ := hC; have K6 : Hid _ := hK; clear hC hK hM)
    | (go_at_call 58; obtain ⟨QL, CL, KL, ML⟩ := C4.out.lit (kr_two X3_4.out X4_4.out) rfl (by simp); refine (CL.call D5.out).mono ?_; rintro e w5 ⟨a5, c5, rfl, hX, hC, hF⟩; have C5 : Hid _ := hC; have X5_5 : Hid _ := hX; have K5 : Hid (Kids w QL w5 _ [l3, l4]) := CL.kids hF KL; clear hC hX hF CL KL ML)
    | (go_at_call 58; refine (C3.out.call D4.out).mono ?_; rintro e w4 ⟨a4, c4, rfl, hX, hC, hF⟩; have C4 : Hid _ := hC; have X4_4 : Hid _ := hX; have X3_4 : Hid _ := C3.out.fn hF X3_3.out; clear hC hX hF; have d0_4 := C4.out.gg.c0)
    | (go_at_call 55; refine (C2.out.call D3.out).mono ?_; rintro e w3 ⟨a3, c3, rfl, hX, hC, hF⟩; have C3 : Hid _ := hC; have X3_3 : Hid _ := hX; clear hC hX hF; have d0_3 := C3.out.gg.c0)
    | (go_at_call 9; refine (C0.out.next hk1).mono ?_; rintro e w1 ⟨rfl, hC, hF⟩; have C1 : Hid _ := hC; clear hC hF; have C2 : Hid _ := (C1.out.setFuel (s.fuel - 1) (by omega) (by omega)).1; have d2_1 : w1.cell? ⟨g, 2, none⟩ = some (.int .i64 s.fuel) := C1.out.gg.c2; have f2_1 := C1.out.gg.free 2; have d0_2 := C2.out.gg.c0; have d2_2 : (w1.setCell ⟨g, 2, none⟩ (.int .i64 (s.fuel - 1))).cell? ⟨g, 2, none⟩ = some (.int .i64 (s.fuel - 1)) := C2.out.gg.c2))
  go_returns
  exact C7.out.done X7_7.out
set_option maxRecDepth 100000 in
set_option maxHeartbeats 8000000 in
theorem stat_if22 {bs : List Int} {n : Nat} (hb : Bts bs) (hl : bs.length ≤ 600) (s : Gs) (d : Nat) (hd5 : d ≤ 5) (h1 : 1 ≤ s.fuel) (h2 : s.fuel ≤ n + 1) (h3 : s.fuel ≤ 200) (h4 : (s.names.length : Int) + 4 * s.fuel ≤ 2000) (q : Nat) (hq : nx bs s.i % 32 = (q : Int)) (e : Nat) (hd1 : 1 ≤ d) (hde : (d : Int) - 1 = (e : Int)) (EX : ExprC bs n) (BL : PartC bs n 58 ag1 3) (c1 : q = 22) : ∃ l j f ns, Draws bs 49 (fun g => #[.pointer (some ⟨g, 0, none⟩), .int .i64 (d : Int)]) s l { s with i := j, fuel := f, names := ns } ∧ f ≤ s.fuel - 1 ∧ -10 * s.fuel - 1 ≤ f ∧ (l.length : Int) ≤ 20 * (s.fuel - f) ∧ ns.length ≤ s.names.length + 2 := by
  obtain ⟨k1, hk1, kb1⟩ := nxn hb s.i
  rw [hk1] at hq
  have hq32 : q < 32 := by omega
  subst c1
  have j0 : ¬ ((d : Int) ≤ 0) := by omega
  obtain ⟨l3, j3, f3, hD3, b1_3, b2_3, b3_3, b4_3⟩ := EX { stepG bs s with fuel := s.fuel - 1 } 2 (by omega) (by show _ ≤ (s.fuel - 1 : Int); omega) (by show (s.fuel - 1 : Int) ≤ _; omega) (by show (s.fuel - 1 : Int) ≤ _; omega) (by show (s.names.length : Int) + 4 * (s.fuel - 1) ≤ _; omega)
  simp only at b1_3 b2_3 b3_3 b4_3
  obtain ⟨l4, j4, f4, hD4, b1_4, b2_4, b3_4, b4_4⟩ := BL { s with i := j3, fuel := f3 } e (by omega) (by show _ ≤ (f3 : Int); omega) (by show (f3 : Int) ≤ _; omega) (by show (f3 : Int) ≤ _; omega) (by show (s.names.length : Int) + 4 * (f3) ≤ _; omega)
  simp only at b1_4 b2_4 b3_4 b4_4
  obtain ⟨l5, j5, f5, hD5, b1_5, b2_5, b3_5, b4_5⟩ := EX { s with i := j4, fuel := f4 } 1 (by omega) (by show _ ≤ (f4 : Int); omega) (by show (f4 : Int) ≤ _; omega) (by show (f4 : Int) ≤ _; omega) (by show (s.names.length : Int) + 4 * (f4) ≤ _; omega)
  simp only at b1_5 b2_5 b3_5 b4_5
  obtain ⟨l6, j6, f6, hD6, b1_6, b2_6, b3_6, b4_6⟩ := BL { s with i := j5, fuel := f5 } e (by omega) (by show _ ≤ (f5 : Int); omega) (by show (f5 : Int) ≤ _; omega) (by show (f5 : Int) ≤ _; omega) (by show (s.names.length : Int) + 4 * (f5) ≤ _; omega)
  simp only at b1_6 b2_6 b3_6 b4_6
  obtain ⟨l8, j8, f8, hD8, b1_8, b2_8, b3_8, b4_8⟩ := BL { s with i := j6, fuel := f6 } e (by omega) (by show _ ≤ (f6 : Int); omega) (by show (f6 : Int) ≤ _; omega) (by show (f6 : Int) ≤ _; omega) (by show (s.names.length : Int) + 4 * (f6) ≤ _; omega)
  simp only at b1_8 b2_8 b3_8 b4_8
  have HS : Hid ((node (kn 6) [l3, l4, l5, l6, l8]).length ≤ 1000000) := by show _ ≤ _; simp only [node, List.length_cons, List.flatten_cons, List.length_append, List.length_nil, List.flatten_nil]; omega
  refine ⟨node (kn 6) [l3, l4, l5, l6, l8], j8, f8, s.names, fun V w0 w av cv g r hv hr hG => ?_, by omega, by omega, by simp only [node, List.length_cons, List.flatten_cons, List.length_append, List.length_nil, List.flatten_nil]; omega, by omega⟩
  have C0 : Hid (Cur V w0 av cv bs w g r no w s) := Cur.start hv hr hb hl hG
  have d0_0 := C0.out.gg.c0
  have D3 : Hid (Draws bs 55 (fun g => #[.pointer (some ⟨g, 0, none⟩), .int .i64 ((2 : Nat) : Int)]) { stepG bs s with fuel := s.fuel - 1 } l3 { s with i := j3, fuel := f3 }) := hD3
  have D4 : Hid (Draws bs 58 (fun g => #[.pointer (some ⟨g, 0, none⟩), .int .i64 (e : Int)]) { s with i := j3, fuel := f3 } l4 { s with i := j4, fuel := f4 }) := hD4
  have D5 : Hid (Draws bs 55 (fun g => #[.pointer (some ⟨g, 0, none⟩), .int .i64 ((1 : Nat) : Int)]) { s with i := j4, fuel := f4 } l5 { s with i := j5, fuel := f5 }) := hD5
  have D6 : Hid (Draws bs 58 (fun g => #[.pointer (some ⟨g, 0, none⟩), .int .i64 (e : Int)]) { s with i := j5, fuel := f5 } l6 { s with i := j6, fuel := f6 }) := hD6
  have D8 : Hid (Draws bs 58 (fun g => #[.pointer (some ⟨g, 0, none⟩), .int .i64 (e : Int)]) { s with i := j6, fuel := f6 } l8 { s with i := j8, fuel := f8 }) := hD8
  clear hG hr hv EX BL h2 h4 hD3 b1_3 b2_3 b3_3 b4_3 hD4 b1_4 b2_4 b3_4 b4_4 hD5 b1_5 b2_5 b3_5 b4_5 hD6 b1_6 b2_6 b3_6 b4_6 hD8 b1_8 b2_8 b3_8 b4_8
  go_enter Try.func49, Try.ntmps49
  go_wp2_with (first
    | (go_at_call 45; refine (C9.out.node (n := kn 6) rfl K9.out (rdV_nil _) (rdVV_nil _) HS.out (by simp)).mono ?_; rintro e w10 ⟨a10, c10, rfl, hX, hC, hF⟩; have C10 : Hid _ := hC; have X10_10 : Hid _ := hX; clear hC hX hF)
    | (at_builtin; refine wpList_append_kids rfl _ _ rfl C8.out [.slice a8 l8.length c8] rfl rfl rfl K7_8.out rfl (kr_one X8_8.out) (by simp) rfl ?_; intro a9 c9 w9 Q9 hK hC hM; have C9 : Hid _ := hC; have K9 : Hid _ := hK; clear hC hK hM)
    | (go_at_call 58; refine (C7.out.call D8.out).mono ?_; rintro e w8 ⟨a8, c8, rfl, hX, hC, hF⟩; have C8 : Hid _ := hC; have X8_8 : Hid _ := hX; have K7_8 : Hid _ := C7.out.kids hF K7.out; clear hC hX hF; have d0_8 := C8.out.gg.c0)
    | (at_builtin; refine wpList_append_kids rfl _ _ rfl C6.out [.slice a5 l5.length c5, .slice a6 l6.length c6] rfl rfl rfl K5_6.out rfl (kr_two X5_6.out X6_6.out) (by simp) rfl ?_; intro a7 c7 w7 Q7 hK hC hM; have C7 : Hid _ := hC; have K7 : Hid _ := hK; clear hC hK hM)
    | (go_at_call 58; refine (C5.out.call D6.out).mono ?_; rintro e w6 ⟨a6, c6, rfl, hX, hC, hF⟩; have C6 : Hid _ := hC; have X6_6 : Hid _ := hX; have X5_6 : Hid _ := C5.out.fn hF X5_5.out; have K5_6 : Hid _ := C5.out.kids hF K5.out; clear hC hX hF; have d0_6 := C6.out.gg.c0)
    | (go_at_call 55; obtain ⟨QL, CL, KL, ML⟩ := C4.out.lit (kr_two X3_4.out X4_4.out) rfl (by simp); refine (CL.call D5.out).mono ?_; rintro e w5 ⟨a5, c5, rfl, hX, hC, hF⟩; have C5 : Hid _ := hC; have X5_5 : Hid _ := hX; have K5 : Hid (Kids w QL w5 _ [l3, l4]) := CL.kids hF KL; clear hC hX hF CL KL ML)
    | (go_at_call 58; refine (C3.out.call D4.out).mono ?_; rintro e w4 ⟨a4, c4, rfl, hX, hC, hF⟩; have C4 : Hid _ := hC; have X4_4 : Hid _ := hX; have X3_4 : Hid _ := C3.out.fn hF X3_3.out; clear hC hX hF; have d0_4 := C4.out.gg.c0)
    | (go_at_call 55; refine (C2.out.call D3.out).mono ?_; rintro e w3 ⟨a3, c3, rfl, hX, hC, hF⟩; have C3 : Hid _ := hC; have X3_3 : Hid _ := hX; clear hC hX hF; have d0_3 := C3.out.gg.c0)
    | (go_at_call 9; refine (C0.out.next hk1).mono ?_; rintro e w1 ⟨rfl, hC, hF⟩; have C1 : Hid _ := hC; clear hC hF; have C2 : Hid _ := (C1.out.setFuel (s.fuel - 1) (by omega) (by omega)).1; have d2_1 : w1.cell? ⟨g, 2, none⟩ = some (.int .i64 s.fuel) := C1.out.gg.c2; have f2_1 := C1.out.gg.free 2; have d0_2 := C2.out.gg.c0; have d2_2 : (w1.setCell ⟨g, 2, none⟩ (.int .i64 (s.fuel - 1))).cell? ⟨g, 2, none⟩ = some (.int .i64 (s.fuel - 1)) := C2.out.gg.c2))
  go_returns
  exact C10.out.done X10_10.out
def psX (m : Nat) : List ByteArray := ([{ data := #[120] }, { data := #[121] }] : List ByteArray).take m
theorem psX_len (m : Nat) (h : m ≤ 2) : (psX m).length = m := by simp [psX]; omega
theorem psX_size (m : Nat) : ∀ x ∈ psX m, x.size ≤ 1000 := by
  intro x hx
  have := List.mem_of_mem_take hx
  simp only [List.mem_cons, List.not_mem_nil, or_false] at this
  rcases this with rfl | rfl <;> decide
theorem short_one {ns : List ByteArray} {t : ByteArray} (h1 : ∀ x ∈ ns, x.size ≤ 1000) (h2 : t.size ≤ 1000) : ∀ x ∈ ns ++ [t], x.size ≤ 1000 := by
  intro x hx
  rcases List.mem_append.1 hx with hx | hx
  · exact h1 x hx
  · rw [List.mem_singleton.1 hx]; exact h2
set_option maxRecDepth 100000 in
set_option maxHeartbeats 1000000 in
theorem stat_func {bs : List Int} {n : Nat} (hb : Bts bs) (hl : bs.length ≤ 600) (s : Gs) (d : Nat) (hd5 : d ≤ 5) (h1 : 1 ≤ s.fuel) (h2 : s.fuel ≤ n + 1) (h3 : s.fuel ≤ 200) (h4 : (s.names.length : Int) + 4 * s.fuel ≤ 2000) (q : Nat) (hq : nx bs s.i % 32 = (q : Int)) (hd1 : 1 ≤ d) (FU : FuncC bs n) (hc : (14 ≤ q ∧ q < 19 ∧ s.names.length = 0) ∨ (19 ≤ q ∧ q < 21)) : ∃ l j f ns, Draws bs 49 (fun g => #[.pointer (some ⟨g, 0, none⟩), .int .i64 (d : Int)]) s l { s with i := j, fuel := f, names := ns } ∧ f ≤ s.fuel - 1 ∧ -10 * s.fuel - 1 ≤ f ∧ (l.length : Int) ≤ 20 * (s.fuel - f) ∧ ns.length ≤ s.names.length + 2 := by
  obtain ⟨k1, hk1, kb1⟩ := nxn hb s.i
  rw [hk1] at hq
  have hq32 : q < 32 := by omega
  have j0 : ¬ ((d : Int) ≤ 0) := by omega
  have jq8 : ¬ ((q : Int) < 8) := by omega
  have jq14 : ¬ ((q : Int) < 14) := by omega
  have jq21 : (q : Int) < 21 := by omega
  obtain ⟨t, hts, hFr⟩ := fresh_ex bs { stepG bs s with fuel := s.fuel - 1 } hb
  obtain ⟨k5, hk5, kb5⟩ := nxn hb (Gs.i { (stepG bs { stepG bs s with fuel := s.fuel - 1 }) with names := s.names ++ [t] })
  obtain ⟨m5, hm5, hm52⟩ : ∃ m : Nat, ((k5 : Int) % 2) = (m : Int) ∧ m < 2 := ⟨k5 % 2, by omega, by omega⟩
  obtain ⟨mm, hmm⟩ : ∃ m : Nat, (1 : Int) + (m5 : Int) = (m : Int) := ⟨1 + m5, by omega⟩
  have hmb : mm ≤ 2 := by omega
  have hpl := psX_len mm hmb
  obtain ⟨l, j, f, hD, b1, b2, b3, b4⟩ := FU (stepG bs { (stepG bs { stepG bs s with fuel := s.fuel - 1 }) with names := s.names ++ [t] }) (psX mm) d hd1 hd5 (by omega) (psX_size mm) (by show _ ≤ s.fuel - 1; omega) (by show s.fuel - 1 ≤ _; omega) (by show s.fuel - 1 ≤ _; omega) (by show (((s.names ++ [t]).length : Nat) : Int) + (psX mm).length + 4 * (s.fuel - 1) ≤ _; rw [List.length_append, hpl]; simp only [List.length_singleton]; omega)
  have e3 : Gs.fuel (stepG bs { (stepG bs { stepG bs s with fuel := s.fuel - 1 }) with names := s.names ++ [t] }) = s.fuel - 1 := rfl
  rw [e3] at b1 b2 b3 b4
  have HS : Hid ((node ⟨26, 0, [], [nums t], 0⟩ [l]).length ≤ 1000000) := by show _ ≤ _; simp only [node, List.length_cons, List.flatten_cons, List.length_append, List.length_nil, List.flatten_nil]; omega
  refine ⟨node ⟨26, 0, [], [nums t], 0⟩ [l], j, f, s.names ++ [t], fun V w0 w av cv g r hv hr hG => ?_, by omega, by omega, by simp only [node, List.length_cons, List.flatten_cons, List.length_append, List.length_nil, List.flatten_nil]; omega, by simp⟩
  have C0 : Hid (Cur V w0 av cv bs w g r no w s) := Cur.start hv hr hb hl hG
  have d0_0 := C0.out.gg.c0
  have D20 : Hid (DrawsF bs (psX mm) d (stepG bs { (stepG bs { stepG bs s with fuel := s.fuel - 1 }) with names := s.names ++ [t] }) l { s with i := j, fuel := f, names := s.names ++ [t] }) := hD
  have FR : Hid (Fresh bs { stepG bs s with fuel := s.fuel - 1 } t) := hFr
  have HPL : Hid ((psX mm).length = mm) := hpl
  have HTS : Hid (t.size ≤ 1000) := hts
  have m1 : (mm : Int) ≤ 2 := by omega
  have m0 : (0 : Int) ≤ (mm : Int) := by omega
  have hnn : s.names.length ≤ 2000 := by omega
  clear hG hr hv hD FU b1 b2 b3 b4 e3 h2 h4 hpl hFr hts
  by_cases hq19 : q < 19
  · have jq19 : (q : Int) < 19 := by omega
    have hn0 : ¬ ((0 : Int) < (s.names.length : Int)) := by omega
    go_enter Try.func49, Try.ntmps49
    go_wp2_with (first
      | (go_at_call 45; obtain ⟨C22, F22⟩ := C21.out.bel ((Below.refl W21.heap.size W21).alloc (Nat.le_refl _) (.cells #[.slice (some ⟨w20.heap.size, 0, none⟩) t.size cp] 22)); have XF : FN (hd w no) (W21.alloc (.cells #[.slice (some ⟨w20.heap.size, 0, none⟩) t.size cp] 22)) (.slice a20 l.length c20) l := C21.out.fn F22 X21.out; obtain ⟨QL, CN, KN, _⟩ := C22.lit (us := [.slice a20 l.length c20]) (ks := [l]) (kr_one XF) rfl (by simp); rw [World.size_alloc] at KN; refine (CN.node (n := ⟨26, 0, [], [nums t], 0⟩) rfl KN (rdV_nil _) (RdVV.up NM.out (up_alloc _ _ _)) HS.out (by simp)).mono ?_; rintro e w23 ⟨a23, c23, rfl, hX, hC, hF⟩; have C23 : Hid _ := hC; have X23 : Hid _ := hX; clear hC hX hF CN KN C22 F22)
      | (go_at_call 57; refine (C14.out.fcall D20.out HPL.out (two_strs N14.out mm) CL.out.2.2.2.1 CL.out.2.2.2.2 (heap_lt N14.out)).mono ?_; rintro e w20 ⟨a20, c20, rfl, hX, hC, hF⟩; have C20 : Hid _ := hC; have X20 : Hid (FN (hd w no) w20 (.slice a20 l.length c20) l) := hX; clear hC hX hF; have kv := Lib.run_convert_string_bytes w20 9 22 5 t Try.underlying9 Try.underlying22 Try.underlying5; have RV := rdV_bytes (B := tk.lt w.heap.size) w20 t (grownCap w20 t.size 0 5) HTS.out (lt_ge C20.out.sz); have Bl := bel_bytes w20 t; generalize grownCap w20 t.size 0 5 = cp at kv RV; generalize Lib.bytesWorld w20 5 t = W21 at kv RV Bl; obtain ⟨hC21, hF21⟩ := C20.out.bel Bl; have C21 : Hid _ := hC21; have X21 : Hid (FN (hd w no) W21 (.slice a20 l.length c20) l) := C20.out.fn hF21 X20.out; have RV21 : Hid (RdV (veil (tk.lt w.heap.size) W21) (.slice (some ⟨w20.heap.size, 0, none⟩) t.size cp) (nums t)) := RV; have NM : Hid (RdVV (veil (tk.lt w.heap.size) (W21.alloc (.cells #[.slice (some ⟨w20.heap.size, 0, none⟩) t.size cp] 22))) (.slice (some ⟨W21.heap.size, 0, none⟩) 1 1) [nums t]) := rdVV_one (lt_ge hC21.sz) RV; clear hC21 hF21 RV Bl)
      | (go_at_call 9; refine (CL.out.1.next hk5).mono ?_; rintro e w14 ⟨rfl, hC, hF⟩; have C14 : Hid _ := hC; have N14 : Hid (w14.heap[w12.heap.size]? = some (.cells #[.string { data := #[120] }, .string { data := #[121] }] 9)) := (hF.keep w12.heap.size (heap_lt CL.out.2.2.1) CL.out.2.2.2.2 CL.out.2.2.2.1).trans CL.out.2.2.1; clear hC hF)
      | (at_builtin; refine wpList_append_strs rfl _ _ rfl (B := w3) (B11.out.alloc B11.out.size _) (us := s.names) (xs := [t]) rfl (own_far O11.out (fun b e => heap_alloc_old _ _ (O11.out.lt b e).2)) (some ⟨w11.heap.size, 0, none⟩) 1 1 rfl rfl (fun i hi => by obtain rfl : i = 0 := (by omega); exact ⟨w11.heap.size, 0, rfl, by unfold World.cell?; rw [heap_alloc_new]; rfl⟩) (by simp; omega) ?_; intro a12 c12 w12 ho hbl; have CB : Hid _ := (C3.out.bel hbl).1; have f1_12 := CB.out.gg.free 1; obtain ⟨zc, zd, d1_12, _⟩ := CB.out.save; have NN := C3.out.named hbl ho (by simp) (by simp; omega) HSH.out; have C13 : Hid (Cur V w0 av cv bs w g r no (w12.setCell ⟨g, 1, none⟩ (.slice a12 (s.names.length + 1) c12)) { (stepG bs { stepG bs s with fuel := s.fuel - 1 }) with names := s.names ++ [t] }) := NN.1; clear ho hbl NN; have CL : Hid _ := C13.out.locS #[.string { data := #[120] }, .string { data := #[121] }] 9; have d0_13 := CL.out.1.gg.c0)
      | (at_builtin; refine wpList_append_strs rfl _ _ rfl (B := w3) ((Below.refl _ _).alloc (Nat.le_refl _) _) (us := []) (xs := s.names) rfl empty_row az s.names.length cz rfl rfl (fun i hi => by obtain ⟨b, off, e, hc⟩ := (Sv.reads R3.out).2 i hi; exact ⟨b, off, e, cellB hc ((Below.refl _ _).alloc (Nat.le_refl _) _)⟩) (by omega) ?_; intro a11 c11 w11 ho hbl; have O11 : Hid (w11.ownsRow w3.heap.size 9 1 (.slice a11 s.names.length c11) s.names.length (s.names.map .string)) := (by have h := ho; simp only [Nat.zero_add, List.nil_append] at h; exact h); have B11 : Hid _ := hbl; clear ho hbl)
      | (go_at_call 56; refine (FR.out _ _ _ _ _ _ _ _ _ C2.out).mono ?_; rintro e w3 ⟨rfl, hC, hF⟩; have C3 : Hid (Cur V w0 av cv bs w g r no w3 (stepG bs { stepG bs s with fuel := s.fuel - 1 })) := hC; clear hC hF; obtain ⟨az, cz, d1_3, sz3⟩ := C3.out.save; have R3 : Hid (Sv V no w3 (.slice az s.names.length cz) s.names) := sz3; clear sz3; have dE : (w3.alloc (.cells #[] 9)).cell? ⟨g, 1, none⟩ = some (.slice az s.names.length cz) := cellB d1_3 ((Below.refl _ _).alloc (Nat.le_refl _) _); have HSH : Hid (∀ x ∈ s.names ++ [t], x.size ≤ 1000) := short_one C3.out.gg.short HTS.out)
      | (go_at_call 9; refine (C0.out.next hk1).mono ?_; rintro e w1 ⟨rfl, hC, hF⟩; have C1 : Hid _ := hC; clear hC hF; have C2 : Hid _ := (C1.out.setFuel (s.fuel - 1) (by omega) (by omega)).1; have d2_1 : w1.cell? ⟨g, 2, none⟩ = some (.int .i64 s.fuel) := C1.out.gg.c2; have f2_1 := C1.out.gg.free 2; have d0_2 := C2.out.gg.c0; have d2_2 : (w1.setCell ⟨g, 2, none⟩ (.int .i64 (s.fuel - 1))).cell? ⟨g, 2, none⟩ = some (.int .i64 (s.fuel - 1)) := C2.out.gg.c2; obtain ⟨zx, zy, d1_2, _⟩ := C2.out.save; have d1_2b : (w1.setCell ⟨g, 2, none⟩ (.int .i64 (s.fuel - 1))).cell? ⟨g, 1, none⟩ = some (.slice zx s.names.length zy) := d1_2; clear d1_2))
    go_returns
    exact C23.out.done X23.out
  · have jq19 : ¬ ((q : Int) < 19) := by omega
    go_enter Try.func49, Try.ntmps49
    go_wp2_with (first
      | (go_at_call 45; obtain ⟨C22, F22⟩ := C21.out.bel ((Below.refl W21.heap.size W21).alloc (Nat.le_refl _) (.cells #[.slice (some ⟨w20.heap.size, 0, none⟩) t.size cp] 22)); have XF : FN (hd w no) (W21.alloc (.cells #[.slice (some ⟨w20.heap.size, 0, none⟩) t.size cp] 22)) (.slice a20 l.length c20) l := C21.out.fn F22 X21.out; obtain ⟨QL, CN, KN, _⟩ := C22.lit (us := [.slice a20 l.length c20]) (ks := [l]) (kr_one XF) rfl (by simp); rw [World.size_alloc] at KN; refine (CN.node (n := ⟨26, 0, [], [nums t], 0⟩) rfl KN (rdV_nil _) (RdVV.up NM.out (up_alloc _ _ _)) HS.out (by simp)).mono ?_; rintro e w23 ⟨a23, c23, rfl, hX, hC, hF⟩; have C23 : Hid _ := hC; have X23 : Hid _ := hX; clear hC hX hF CN KN C22 F22)
      | (go_at_call 57; refine (C14.out.fcall D20.out HPL.out (two_strs N14.out mm) CL.out.2.2.2.1 CL.out.2.2.2.2 (heap_lt N14.out)).mono ?_; rintro e w20 ⟨a20, c20, rfl, hX, hC, hF⟩; have C20 : Hid _ := hC; have X20 : Hid (FN (hd w no) w20 (.slice a20 l.length c20) l) := hX; clear hC hX hF; have kv := Lib.run_convert_string_bytes w20 9 22 5 t Try.underlying9 Try.underlying22 Try.underlying5; have RV := rdV_bytes (B := tk.lt w.heap.size) w20 t (grownCap w20 t.size 0 5) HTS.out (lt_ge C20.out.sz); have Bl := bel_bytes w20 t; generalize grownCap w20 t.size 0 5 = cp at kv RV; generalize Lib.bytesWorld w20 5 t = W21 at kv RV Bl; obtain ⟨hC21, hF21⟩ := C20.out.bel Bl; have C21 : Hid _ := hC21; have X21 : Hid (FN (hd w no) W21 (.slice a20 l.length c20) l) := C20.out.fn hF21 X20.out; have RV21 : Hid (RdV (veil (tk.lt w.heap.size) W21) (.slice (some ⟨w20.heap.size, 0, none⟩) t.size cp) (nums t)) := RV; have NM : Hid (RdVV (veil (tk.lt w.heap.size) (W21.alloc (.cells #[.slice (some ⟨w20.heap.size, 0, none⟩) t.size cp] 22))) (.slice (some ⟨W21.heap.size, 0, none⟩) 1 1) [nums t]) := rdVV_one (lt_ge hC21.sz) RV; clear hC21 hF21 RV Bl)
      | (go_at_call 9; refine (CL.out.1.next hk5).mono ?_; rintro e w14 ⟨rfl, hC, hF⟩; have C14 : Hid _ := hC; have N14 : Hid (w14.heap[w12.heap.size]? = some (.cells #[.string { data := #[120] }, .string { data := #[121] }] 9)) := (hF.keep w12.heap.size (heap_lt CL.out.2.2.1) CL.out.2.2.2.2 CL.out.2.2.2.1).trans CL.out.2.2.1; clear hC hF)
      | (at_builtin; refine wpList_append_strs rfl _ _ rfl (B := w3) (B11.out.alloc B11.out.size _) (us := s.names) (xs := [t]) rfl (own_far O11.out (fun b e => heap_alloc_old _ _ (O11.out.lt b e).2)) (some ⟨w11.heap.size, 0, none⟩) 1 1 rfl rfl (fun i hi => by obtain rfl : i = 0 := (by omega); exact ⟨w11.heap.size, 0, rfl, by unfold World.cell?; rw [heap_alloc_new]; rfl⟩) (by simp; omega) ?_; intro a12 c12 w12 ho hbl; have CB : Hid _ := (C3.out.bel hbl).1; have f1_12 := CB.out.gg.free 1; obtain ⟨zc, zd, d1_12, _⟩ := CB.out.save; have NN := C3.out.named hbl ho (by simp) (by simp; omega) HSH.out; have C13 : Hid (Cur V w0 av cv bs w g r no (w12.setCell ⟨g, 1, none⟩ (.slice a12 (s.names.length + 1) c12)) { (stepG bs { stepG bs s with fuel := s.fuel - 1 }) with names := s.names ++ [t] }) := NN.1; clear ho hbl NN; have CL : Hid _ := C13.out.locS #[.string { data := #[120] }, .string { data := #[121] }] 9; have d0_13 := CL.out.1.gg.c0)
      | (at_builtin; refine wpList_append_strs rfl _ _ rfl (B := w3) ((Below.refl _ _).alloc (Nat.le_refl _) _) (us := []) (xs := s.names) rfl empty_row az s.names.length cz rfl rfl (fun i hi => by obtain ⟨b, off, e, hc⟩ := (Sv.reads R3.out).2 i hi; exact ⟨b, off, e, cellB hc ((Below.refl _ _).alloc (Nat.le_refl _) _)⟩) (by omega) ?_; intro a11 c11 w11 ho hbl; have O11 : Hid (w11.ownsRow w3.heap.size 9 1 (.slice a11 s.names.length c11) s.names.length (s.names.map .string)) := (by have h := ho; simp only [Nat.zero_add, List.nil_append] at h; exact h); have B11 : Hid _ := hbl; clear ho hbl)
      | (go_at_call 56; refine (FR.out _ _ _ _ _ _ _ _ _ C2.out).mono ?_; rintro e w3 ⟨rfl, hC, hF⟩; have C3 : Hid (Cur V w0 av cv bs w g r no w3 (stepG bs { stepG bs s with fuel := s.fuel - 1 })) := hC; clear hC hF; obtain ⟨az, cz, d1_3, sz3⟩ := C3.out.save; have R3 : Hid (Sv V no w3 (.slice az s.names.length cz) s.names) := sz3; clear sz3; have dE : (w3.alloc (.cells #[] 9)).cell? ⟨g, 1, none⟩ = some (.slice az s.names.length cz) := cellB d1_3 ((Below.refl _ _).alloc (Nat.le_refl _) _); have HSH : Hid (∀ x ∈ s.names ++ [t], x.size ≤ 1000) := short_one C3.out.gg.short HTS.out)
      | (go_at_call 9; refine (C0.out.next hk1).mono ?_; rintro e w1 ⟨rfl, hC, hF⟩; have C1 : Hid _ := hC; clear hC hF; have C2 : Hid _ := (C1.out.setFuel (s.fuel - 1) (by omega) (by omega)).1; have d2_1 : w1.cell? ⟨g, 2, none⟩ = some (.int .i64 s.fuel) := C1.out.gg.c2; have f2_1 := C1.out.gg.free 2; have d0_2 := C2.out.gg.c0; have d2_2 : (w1.setCell ⟨g, 2, none⟩ (.int .i64 (s.fuel - 1))).cell? ⟨g, 2, none⟩ = some (.int .i64 (s.fuel - 1)) := C2.out.gg.c2; obtain ⟨zx, zy, d1_2, _⟩ := C2.out.save; have d1_2b : (w1.setCell ⟨g, 2, none⟩ (.int .i64 (s.fuel - 1))).cell? ⟨g, 1, none⟩ = some (.slice zx s.names.length zy) := d1_2; clear d1_2))
    go_returns
    exact C23.out.done X23.out
end Go.Proofs.Ytepbddfpdlapbaa.tk
