import Derived.Test.YtepbddfpdlapbaaMTkExprA
namespace Go.Proofs.Ytepbddfpdlapbaa.tk
open Go.RowKit Go.Proofs.Ytepbddfpdlapbaa.bts Go.Proofs.Ytepbddfpdlapbaa.nod
section
variable {V Q : Nat → Bool} {w0 w W W1 : World} {av : Option Addr} {cv g r : Nat} {bs : List Int} {s s' : Gs} {l : List Nd}
theorem Cur.callB (C : Cur V w0 av cv bs w g r Q W s) (hB : Below W.heap.size W W1) {f : Nat} {ag : Nat → Array Value} (hD : Draws bs f ag s l s') :
    Calls Try.prog f (ag g) W1 fun e w' => ∃ a' c', e = .returned (.slice a' l.length c') ∧ FN (hd w Q) w' (.slice a' l.length c') l ∧ Cur V w0 av cv bs w g r Q w' s' ∧ Fg g r W w' := by
  obtain ⟨C1, F1⟩ := C.bel hB
  refine (C1.call hD).mono ?_
  rintro e w' ⟨a', c', rfl, h1, h2, h3⟩
  exact ⟨a', c', rfl, h1, h2, F1.trans h3⟩
theorem Cur.nextB (C : Cur V w0 av cv bs w g r Q W s) (hB : Below W.heap.size W W1) {k : Nat} (hk : nx bs s.i = (k : Int)) :
    Calls Try.prog 9 #[.pointer (some ⟨r, 0, none⟩)] W1 fun e w' => e = .returned (.int .i64 (k : Int)) ∧ Cur V w0 av cv bs w g r Q w' (stepG bs s) ∧ Fg g r W w' := by
  obtain ⟨C1, F1⟩ := C.bel hB
  refine (C1.next hk).mono ?_
  rintro e w' ⟨rfl, h2, h3⟩
  exact ⟨rfl, h2, F1.trans h3⟩
theorem Cur.loc (C : Cur V w0 av cv bs w g r Q W s) (cs : Array Value) (T : TypeId) : Cur V w0 av cv bs w g r Q (W.alloc (.cells cs T)) s ∧ Fg g r W (W.alloc (.cells cs T)) ∧ (W.alloc (.cells cs T)).heap[W.heap.size]? = some (.cells cs T) ∧ W.heap.size ≠ g ∧ W.heap.size ≠ r := by
  have h1 := C.gg.glt
  have h2 := C.gg.lt
  obtain ⟨h3, h4⟩ := C.bel ((Below.refl W.heap.size W).alloc (Nat.le_refl _) (.cells cs T))
  exact ⟨h3, h4, heap_alloc_new _ _, by omega, by omega⟩
end
theorem nameN_len (t : ByteArray) : (nameN t).length = 1 := rfl
def NodeAt (W : World) (b : Nat) (k n : Int) : Prop := W.heap[b]? = some (.cells #[.int .i64 k, .int .i64 n, .slice none 0 0, .slice none 0 0, .int .i64 0] 75)
theorem NodeAt.cells {W : World} {b : Nat} {k n : Int} (h : NodeAt W b k n) : W.cell? ⟨b, 0, none⟩ = some (.int .i64 k) ∧ W.cell? ⟨b, 1, none⟩ = some (.int .i64 n) ∧ W.cell? ⟨b, 2, none⟩ = some (.slice none 0 0) ∧ W.cell? ⟨b, 3, none⟩ = some (.slice none 0 0) ∧ W.cell? ⟨b, 4, none⟩ = some (.int .i64 0) := by
  unfold NodeAt at h
  unfold World.cell?
  rw [h]
  exact ⟨rfl, rfl, rfl, rfl, rfl⟩
theorem NodeAt.keep {W W' : World} {b g r : Nat} {k n : Int} (h : NodeAt W b k n) (hF : Fg g r W W') (h1 : b ≠ g) (h2 : b ≠ r) : NodeAt W' b k n := (hF.keep b (heap_lt h) h2 h1).trans h
set_option maxRecDepth 100000 in
set_option maxHeartbeats 4000000 in
theorem expr_not {bs : List Int} {n : Nat} (hb : Bts bs) (hl : bs.length ≤ 600) (s : Gs) (d e : Nat) (hd1 : 1 ≤ d) (hd5 : d ≤ 5) (hde : (d : Int) - 1 = (e : Int)) (h1 : 1 ≤ s.fuel) (h2 : s.fuel ≤ n + 1) (h3 : s.fuel ≤ 200) (h4 : (s.names.length : Int) + 4 * s.fuel ≤ 2000) (q : Nat) (hq : nx bs s.i % 24 = (q : Int)) (EX : ExprC bs n) (c1 : 14 ≤ q) (c2 : q < 16) : ∃ l j f, Draws bs 55 (fun g => #[.pointer (some ⟨g, 0, none⟩), .int .i64 (d : Int)]) s l { s with i := j, fuel := f } ∧ f ≤ s.fuel - 1 ∧ (s.fuel ≤ 0 → f = s.fuel - 1) ∧ (0 < s.fuel → -10 * s.fuel ≤ f) ∧ (l.length : Int) ≤ 20 * (s.fuel - f) := by
  obtain ⟨k1, hk1, kb1⟩ := nxn hb s.i
  rw [hk1] at hq
  have hq24 : q < 24 := by omega
  have j0 : ¬ ((d : Int) ≤ 0) := by omega
  have jf : ¬ (s.fuel - 1 < 0) := by omega
  have jq5 : ¬ ((q : Int) < 5) := by omega
  have jq12 : ¬ ((q : Int) < 12) := by omega
  have jq14 : ¬ ((q : Int) < 14) := by omega
  have jq16 : (q : Int) < 16 := by omega
  obtain ⟨p, hp, hp2⟩ : ∃ p : Nat, ((q : Int) % 2) = (p : Int) ∧ p < 2 := ⟨q % 2, by omega, by omega⟩
  obtain ⟨l, j, f, hD, b1, b2, b3, b4⟩ := EX { stepG bs s with fuel := s.fuel - 1 } e (by omega) (by show _ ≤ s.fuel - 1; omega) (by show s.fuel - 1 ≤ _; omega) (by show s.fuel - 1 ≤ _; omega) (by show (s.names.length : Int) + 4 * (s.fuel - 1) ≤ _; omega)
  have e3 : Gs.fuel { stepG bs s with fuel := s.fuel - 1 } = s.fuel - 1 := rfl
  rw [e3] at b1 b2 b3 b4
  have HS : Hid ((node (kn (24 + (p : Int))) [l]).length ≤ 1000000) := by show _ ≤ _; simp only [node, List.length_cons, List.flatten_cons, List.length_append, List.length_nil, List.flatten_nil]; omega
  refine ⟨node (kn (24 + (p : Int))) [l], j, f, fun V w0 w av cv g r hv hr hG => ?_, by omega, by omega, by omega, by simp only [node, List.length_cons, List.flatten_cons, List.length_append, List.length_nil, List.flatten_nil]; omega⟩
  have C0 : Hid (Cur V w0 av cv bs w g r no w s) := Cur.start hv hr hb hl hG
  have d0_0 := C0.out.gg.c0
  have D3 : Hid _ := hD
  clear hG hr hv hD EX b1 b2 b3 b4 e3 h2 h4
  go_enter Try.func55, Try.ntmps55
  go_wp2_with (first
    | (go_at_call 45; obtain ⟨QL4, CL4, KL4, _⟩ := C3.out.lit (kr_one X3_3.out) rfl (by simp); refine (CL4.node (n := kn (24 + (p : Int))) rfl KL4 (rdV_nil _) (rdVV_nil _) HS.out (by simp)).mono ?_; clear CL4 KL4; rintro e w4 ⟨a4, c4, rfl, hX, hC, hF⟩; have C4 : Hid _ := hC; have X4_4 : Hid _ := hX; clear hC hX hF; have d0_4 := C4.out.gg.c0)
    | (go_at_call 55; refine (C2.out.call D3.out).mono ?_; rintro e w3 ⟨a3, c3, rfl, hX, hC, hF⟩; have C3 : Hid _ := hC; have X3_3 : Hid _ := hX; clear hC hX hF; have d0_3 := C3.out.gg.c0)
    | (go_at_call 9; refine (C0.out.next hk1).mono ?_; rintro e w1 ⟨rfl, hC, hF⟩; have C1 : Hid _ := hC; clear hC hF; have C2 : Hid _ := (C1.out.setFuel (s.fuel - 1) (by omega) (by omega)).1; have d2_1 : w1.cell? ⟨g, 2, none⟩ = some (.int .i64 s.fuel) := C1.out.gg.c2; have f2_1 := C1.out.gg.free 2; have d0_2 := C2.out.gg.c0; have d2_2 : (w1.setCell ⟨g, 2, none⟩ (.int .i64 (s.fuel - 1))).cell? ⟨g, 2, none⟩ = some (.int .i64 (s.fuel - 1)) := C2.out.gg.c2))
  go_returns
  exact C4.out.done X4_4.out
set_option maxRecDepth 100000 in
set_option maxHeartbeats 4000000 in
theorem expr_index {bs : List Int} {n : Nat} (hb : Bts bs) (hl : bs.length ≤ 600) (s : Gs) (d e : Nat) (hd1 : 1 ≤ d) (hd5 : d ≤ 5) (hde : (d : Int) - 1 = (e : Int)) (h1 : 1 ≤ s.fuel) (_h2 : s.fuel ≤ n + 1) (h3 : s.fuel ≤ 200) (_h4 : (s.names.length : Int) + 4 * s.fuel ≤ 2000) (q : Nat) (hq : nx bs s.i % 24 = (q : Int)) (c1 : 16 ≤ q) (c2 : q < 18) : ∃ l j f, Draws bs 55 (fun g => #[.pointer (some ⟨g, 0, none⟩), .int .i64 (d : Int)]) s l { s with i := j, fuel := f } ∧ f ≤ s.fuel - 1 ∧ (s.fuel ≤ 0 → f = s.fuel - 1) ∧ (0 < s.fuel → -10 * s.fuel ≤ f) ∧ (l.length : Int) ≤ 20 * (s.fuel - f) := by
  obtain ⟨k1, hk1, kb1⟩ := nxn hb s.i
  rw [hk1] at hq
  have hq24 : q < 24 := by omega
  have j0 : ¬ ((d : Int) ≤ 0) := by omega
  have jf : ¬ (s.fuel - 1 < 0) := by omega
  have jq5 : ¬ ((q : Int) < 5) := by omega
  have jq12 : ¬ ((q : Int) < 12) := by omega
  have jq14 : ¬ ((q : Int) < 14) := by omega
  have jq16 : ¬ ((q : Int) < 16) := by omega
  have jq18 : (q : Int) < 18 := by omega
  have D3 : Hid (Draws bs 68 (fun g => #[.pointer (some ⟨g, 0, none⟩)]) { stepG bs s with fuel := s.fuel - 1 } (nameN (someS bs { stepG bs s with fuel := s.fuel - 1 })) (stepG bs { stepG bs s with fuel := s.fuel - 1 })) := some_draws bs _ hb hl
  obtain ⟨l, j, hl1, hD⟩ := leaf_ex bs (stepG bs { stepG bs s with fuel := s.fuel - 1 }) hb hl
  have hn1 : (nameN (someS bs { stepG bs s with fuel := s.fuel - 1 })).length = 1 := rfl
  have HS : Hid ((node (kn 17) [nameN (someS bs { stepG bs s with fuel := s.fuel - 1 }), l]).length ≤ 1000000) := by show _ ≤ _; simp only [node, nameN_len, List.length_cons, List.flatten_cons, List.length_append, List.length_nil, List.flatten_nil]; omega
  refine ⟨node (kn 17) [nameN (someS bs { stepG bs s with fuel := s.fuel - 1 }), l], j, s.fuel - 1, fun V w0 w av cv g r hv hr hG => ?_, by omega, by omega, by omega, by simp only [node, nameN_len, List.length_cons, List.flatten_cons, List.length_append, List.length_nil, List.flatten_nil]; omega⟩
  have C0 : Hid (Cur V w0 av cv bs w g r no w s) := Cur.start hv hr hb hl hG
  have d0_0 := C0.out.gg.c0
  have D4 : Hid _ := hD
  clear hG hr hv hD _h2 _h4 hl1 hn1
  go_enter Try.func55, Try.ntmps55
  go_wp2_with (first
    | (go_at_call 45; obtain ⟨QL5, CL5, KL5, _⟩ := C4.out.lit (kr_two X3_4.out X4_4.out) rfl (by simp); refine (CL5.node (n := kn 17) rfl KL5 (rdV_nil _) (rdVV_nil _) HS.out (by simp)).mono ?_; clear CL5 KL5; rintro e w5 ⟨a5, c5, rfl, hX, hC, hF⟩; have C5 : Hid _ := hC; have X5_5 : Hid _ := hX; clear hC hX hF; have d0_5 := C5.out.gg.c0)
    | (go_at_call 69; refine (C3.out.call D4.out).mono ?_; rintro e w4 ⟨a4, c4, rfl, hX, hC, hF⟩; have C4 : Hid _ := hC; have X4_4 : Hid _ := hX; have X3_4 : Hid _ := C3.out.fn hF X3_3.out; clear hC hX hF; have d0_4 := C4.out.gg.c0)
    | (go_at_call 68; refine (C2.out.call D3.out).mono ?_; rintro e w3 ⟨a3, c3, rfl, hX, hC, hF⟩; have C3 : Hid _ := hC; have X3_3 : Hid _ := hX; clear hC hX hF; have d0_3 := C3.out.gg.c0)
    | (go_at_call 9; refine (C0.out.next hk1).mono ?_; rintro e w1 ⟨rfl, hC, hF⟩; have C1 : Hid _ := hC; clear hC hF; have C2 : Hid _ := (C1.out.setFuel (s.fuel - 1) (by omega) (by omega)).1; have d2_1 : w1.cell? ⟨g, 2, none⟩ = some (.int .i64 s.fuel) := C1.out.gg.c2; have f2_1 := C1.out.gg.free 2; have d0_2 := C2.out.gg.c0; have d2_2 : (w1.setCell ⟨g, 2, none⟩ (.int .i64 (s.fuel - 1))).cell? ⟨g, 2, none⟩ = some (.int .i64 (s.fuel - 1)) := C2.out.gg.c2))
  go_returns
  exact C5.out.done X5_5.out
set_option maxRecDepth 100000 in
set_option maxHeartbeats 4000000 in
theorem expr_call {bs : List Int} {n : Nat} (hb : Bts bs) (hl : bs.length ≤ 600) (s : Gs) (d e : Nat) (hd1 : 1 ≤ d) (hd5 : d ≤ 5) (hde : (d : Int) - 1 = (e : Int)) (h1 : 1 ≤ s.fuel) (h2 : s.fuel ≤ n + 1) (h3 : s.fuel ≤ 200) (h4 : (s.names.length : Int) + 4 * s.fuel ≤ 2000) (q : Nat) (hq : nx bs s.i % 24 = (q : Int)) (CA : PartC bs n 60 ag1 6) (c1 : 21 ≤ q) : ∃ l j f, Draws bs 55 (fun g => #[.pointer (some ⟨g, 0, none⟩), .int .i64 (d : Int)]) s l { s with i := j, fuel := f } ∧ f ≤ s.fuel - 1 ∧ (s.fuel ≤ 0 → f = s.fuel - 1) ∧ (0 < s.fuel → -10 * s.fuel ≤ f) ∧ (l.length : Int) ≤ 20 * (s.fuel - f) := by
  obtain ⟨k1, hk1, kb1⟩ := nxn hb s.i
  rw [hk1] at hq
  have hq24 : q < 24 := by omega
  have j0 : ¬ ((d : Int) ≤ 0) := by omega
  have jf : ¬ (s.fuel - 1 < 0) := by omega
  have jq5 : ¬ ((q : Int) < 5) := by omega
  have jq12 : ¬ ((q : Int) < 12) := by omega
  have jq14 : ¬ ((q : Int) < 14) := by omega
  have jq16 : ¬ ((q : Int) < 16) := by omega
  have jq18 : ¬ ((q : Int) < 18) := by omega
  have jq20 : ¬ ((q : Int) < 20) := by omega
  have jq21 : ¬ ((q : Int) = 20) := by omega
  obtain ⟨l, j, f, hD, b1, b2, b3, b4⟩ := CA { stepG bs s with fuel := s.fuel - 1 } e (by omega) (by show _ ≤ s.fuel - 1; omega) (by show s.fuel - 1 ≤ _; omega) (by show s.fuel - 1 ≤ _; omega) (by show (s.names.length : Int) + 4 * (s.fuel - 1) ≤ _; omega)
  have e3 : Gs.fuel { stepG bs s with fuel := s.fuel - 1 } = s.fuel - 1 := rfl
  rw [e3] at b1 b2 b3 b4
  refine ⟨l, j, f, fun V w0 w av cv g r hv hr hG => ?_, by omega, by omega, by omega, by omega⟩
  have C0 : Hid (Cur V w0 av cv bs w g r no w s) := Cur.start hv hr hb hl hG
  have d0_0 := C0.out.gg.c0
  have D3 : Hid (Draws bs 60 (fun g => #[.pointer (some ⟨g, 0, none⟩), .int .i64 (e : Int)]) { stepG bs s with fuel := s.fuel - 1 } l { s with i := j, fuel := f }) := hD
  clear hG hr hv hD CA b1 b2 b3 b4 e3 h2 h4
  go_enter Try.func55, Try.ntmps55
  go_wp2_with (first
    | (go_at_call 60; refine (C2.out.call D3.out).mono ?_; rintro e w3 ⟨a3, c3, rfl, hX, hC, hF⟩; have C3 : Hid _ := hC; have X3_3 : Hid _ := hX; clear hC hX hF; have d0_3 := C3.out.gg.c0)
    | (go_at_call 9; refine (C0.out.next hk1).mono ?_; rintro e w1 ⟨rfl, hC, hF⟩; have C1 : Hid _ := hC; clear hC hF; have C2 : Hid _ := (C1.out.setFuel (s.fuel - 1) (by omega) (by omega)).1; have d2_1 : w1.cell? ⟨g, 2, none⟩ = some (.int .i64 s.fuel) := C1.out.gg.c2; have f2_1 := C1.out.gg.free 2; have d0_2 := C2.out.gg.c0; have d2_2 : (w1.setCell ⟨g, 2, none⟩ (.int .i64 (s.fuel - 1))).cell? ⟨g, 2, none⟩ = some (.int .i64 (s.fuel - 1)) := C2.out.gg.c2))
  go_returns
  exact C3.out.done X3_3.out
theorem wrap_small (e : Nat) (h : e ≤ 9) : IntKind.i64.wrap (e : Int) = (e : Int) := by
  have : e = 0 ∨ e = 1 ∨ e = 2 ∨ e = 3 ∨ e = 4 ∨ e = 5 ∨ e = 6 ∨ e = 7 ∨ e = 8 ∨ e = 9 := by omega
  rcases this with rfl | rfl | rfl | rfl | rfl | rfl | rfl | rfl | rfl | rfl <;> rfl
theorem size_set (w : World) (a : Addr) (v : Value) : (w.setCell a v).heap.size = w.heap.size := by simp [World.setCell]
theorem Cur.locS {V Q : Nat → Bool} {w0 w W : World} {av : Option Addr} {cv g r j : Nat} {u : Value} {bs : List Int} {s : Gs} (C : Cur V w0 av cv bs w g r Q (W.setCell ⟨g, j, none⟩ u) s) (cs : Array Value) (T : TypeId) : Cur V w0 av cv bs w g r Q ((W.setCell ⟨g, j, none⟩ u).alloc (.cells cs T)) s ∧ Fg g r (W.setCell ⟨g, j, none⟩ u) ((W.setCell ⟨g, j, none⟩ u).alloc (.cells cs T)) ∧ ((W.setCell ⟨g, j, none⟩ u).alloc (.cells cs T)).heap[W.heap.size]? = some (.cells cs T) ∧ W.heap.size ≠ g ∧ W.heap.size ≠ r := by
  have h := C.loc cs T
  rw [size_set] at h
  exact h
set_option maxRecDepth 100000 in
set_option maxHeartbeats 4000000 in
theorem expr_and {bs : List Int} {n : Nat} (hb : Bts bs) (hl : bs.length ≤ 600) (s : Gs) (d e : Nat) (hd1 : 1 ≤ d) (hd5 : d ≤ 5) (hde : (d : Int) - 1 = (e : Int)) (h1 : 1 ≤ s.fuel) (h2 : s.fuel ≤ n + 1) (h3 : s.fuel ≤ 200) (h4 : (s.names.length : Int) + 4 * s.fuel ≤ 2000) (q : Nat) (hq : nx bs s.i % 24 = (q : Int)) (EX : ExprC bs n) (c1 : 12 ≤ q) (c2 : q < 14) : ∃ l j f, Draws bs 55 (fun g => #[.pointer (some ⟨g, 0, none⟩), .int .i64 (d : Int)]) s l { s with i := j, fuel := f } ∧ f ≤ s.fuel - 1 ∧ (s.fuel ≤ 0 → f = s.fuel - 1) ∧ (0 < s.fuel → -10 * s.fuel ≤ f) ∧ (l.length : Int) ≤ 20 * (s.fuel - f) := by
  obtain ⟨k1, hk1, kb1⟩ := nxn hb s.i
  rw [hk1] at hq
  have hq24 : q < 24 := by omega
  have j0 : ¬ ((d : Int) ≤ 0) := by omega
  have jf : ¬ (s.fuel - 1 < 0) := by omega
  have jq5 : ¬ ((q : Int) < 5) := by omega
  have jq12 : ¬ ((q : Int) < 12) := by omega
  have jq14 : (q : Int) < 14 := by omega
  obtain ⟨p, hp, hp2⟩ : ∃ p : Nat, ((q : Int) % 2) = (p : Int) ∧ p < 2 := ⟨q % 2, by omega, by omega⟩
  obtain ⟨l4, j4, f4, hD4, b1, b2, b3, b4⟩ := EX { stepG bs s with fuel := s.fuel - 1 } e (by omega) (by show _ ≤ s.fuel - 1; omega) (by show s.fuel - 1 ≤ _; omega) (by show s.fuel - 1 ≤ _; omega) (by show (s.names.length : Int) + 4 * (s.fuel - 1) ≤ _; omega)
  have e3 : Gs.fuel { stepG bs s with fuel := s.fuel - 1 } = s.fuel - 1 := rfl
  rw [e3] at b1 b2 b3 b4
  obtain ⟨l5, j5, f5, hD5, u1, u2, u3, u4⟩ := EX { s with i := j4, fuel := f4 } e (by omega) (by show _ ≤ f4; omega) (by show f4 ≤ _; omega) (by show f4 ≤ _; omega) (by show (s.names.length : Int) + 4 * f4 ≤ _; omega)
  have e5 : Gs.fuel { s with i := j4, fuel := f4 } = f4 := rfl
  rw [e5] at u1 u2 u3 u4
  have HS : Hid ((node ⟨22 + (p : Int), 0, [], [], 0⟩ [l4, l5]).length ≤ 1000000) := by show _ ≤ _; simp only [node, List.length_cons, List.flatten_cons, List.length_append, List.length_nil, List.flatten_nil]; omega
  refine ⟨node ⟨22 + (p : Int), 0, [], [], 0⟩ [l4, l5], j5, f5, fun V w0 w av cv g r hv hr hG => ?_, by omega, by omega, by omega, by simp only [node, List.length_cons, List.flatten_cons, List.length_append, List.length_nil, List.flatten_nil]; omega⟩
  have C0 : Hid (Cur V w0 av cv bs w g r no w s) := Cur.start hv hr hb hl hG
  have d0_0 := C0.out.gg.c0
  have D4 : Hid (Draws bs 55 (fun g => #[.pointer (some ⟨g, 0, none⟩), .int .i64 (e : Int)]) { stepG bs s with fuel := s.fuel - 1 } l4 { s with i := j4, fuel := f4 }) := hD4
  have D5 : Hid (Draws bs 55 (fun g => #[.pointer (some ⟨g, 0, none⟩), .int .i64 (e : Int)]) { s with i := j4, fuel := f4 } l5 { s with i := j5, fuel := f5 }) := hD5
  have hwe := wrap_small e (by omega)
  clear hG hr hv hD4 hD5 EX b1 b2 b3 b4 e3 u1 u2 u3 u4 e5 h2 h4
  go_enter Try.func55, Try.ntmps55
  go_wp2_with (first
    | (go_at_call 55; refine (CL.out.1.call D4.out).mono ?_; rintro e w4 ⟨a4, c4, rfl, hX, hC, hF⟩; have C4 : Hid _ := hC; have X4_4 : Hid _ := hX; have N4 : Hid (NodeAt w4 w1.heap.size (22 + (p : Int)) (0)) := NodeAt.keep CL.out.2.2.1 hF CL.out.2.2.2.1 CL.out.2.2.2.2; clear hC hX hF; have d0_4 := C4.out.gg.c0)
    | (go_at_call 9; refine (C0.out.next hk1).mono ?_; rintro e w1 ⟨rfl, hC, hF⟩; have C1 : Hid _ := hC; clear hC hF; have C2 : Hid _ := (C1.out.setFuel (s.fuel - 1) (by omega) (by omega)).1; have d2_1 : w1.cell? ⟨g, 2, none⟩ = some (.int .i64 s.fuel) := C1.out.gg.c2; have f2_1 := C1.out.gg.free 2; have d0_2 := C2.out.gg.c0; have d2_2 : (w1.setCell ⟨g, 2, none⟩ (.int .i64 (s.fuel - 1))).cell? ⟨g, 2, none⟩ = some (.int .i64 (s.fuel - 1)) := C2.out.gg.c2; have CL : Hid _ := C2.out.locS #[.int .i64 (22 + (p : Int)), .int .i64 (0), .slice none 0 0, .slice none 0 0, .int .i64 0] 75))
  have HP : Hid (∀ W, NodeAt W w1.heap.size (22 + (p : Int)) (0) → W.cell? ⟨w1.heap.size, 0, none⟩ = some (.int .i64 (22 + (p : Int))) ∧ W.cell? ⟨w1.heap.size, 1, none⟩ = some (.int .i64 (0)) ∧ W.cell? ⟨w1.heap.size, 2, none⟩ = some (.slice none 0 0) ∧ W.cell? ⟨w1.heap.size, 3, none⟩ = some (.slice none 0 0) ∧ W.cell? ⟨w1.heap.size, 4, none⟩ = some (.int .i64 0)) := fun W h => h.cells
  have HGR : Hid (w1.heap.size ≠ g ∧ w1.heap.size ≠ r) := ⟨CL.out.2.2.2.1, CL.out.2.2.2.2⟩
  go_region_held3 (fun W => W.cell? ⟨w1.heap.size, 0, none⟩ = some (.int .i64 (22 + (p : Int))) ∧ W.cell? ⟨w1.heap.size, 1, none⟩ = some (.int .i64 (0)) ∧ W.cell? ⟨w1.heap.size, 2, none⟩ = some (.slice none 0 0) ∧ W.cell? ⟨w1.heap.size, 3, none⟩ = some (.slice none 0 0) ∧ W.cell? ⟨w1.heap.size, 4, none⟩ = some (.int .i64 0)) (first | with_reducible exact HP.out _ N6.out | with_reducible exact HP.out _ (M5.out _) | with_reducible exact HP.out _ N5.out | exact HP.out _ N4.out) (first | (go_at_call 55; (with_reducible refine Calls.mono (C4.out.callB (by repeat (first | exact Below.refl _ _ | refine Below.drew ?_ | refine bel_drewN ?_ _)) D5.out) ?_); rintro e w5 ⟨a5, c5, rfl, hX, hC, hF⟩; have C5 : Hid _ := hC; have X5_5 : Hid _ := hX; have X4_5 : Hid _ := C4.out.fn hF X4_4.out; have N5 : Hid (NodeAt w5 w1.heap.size (22 + (p : Int)) (0)) := N4.out.keep hF HGR.out.1 HGR.out.2; have M5 : Hid (∀ o, NodeAt (w5.alloc o) w1.heap.size (22 + (p : Int)) (0)) := fun o => (heap_alloc_old _ _ (heap_lt N5.out)).trans N5.out; clear hC hX hF; have d0_5 := C5.out.gg.c0) | (go_at_call 45; obtain ⟨QL, CN, KN, _⟩ := C5.out.lit (kr_two X4_5.out X5_5.out) rfl (by simp); refine (CN.node (n := ⟨22 + (p : Int), 0, [], [], 0⟩) rfl KN (rdV_nil _) (rdVV_nil _) HS.out (by simp)).mono ?_; clear CN KN; rintro e w6 ⟨a6, c6, rfl, hX, hC, hF⟩; have C6 : Hid _ := hC; have X6_6 : Hid _ := hX; have N6 : Hid (NodeAt w6 w1.heap.size (22 + (p : Int)) (0)) := NodeAt.keep (M5.out _) hF HGR.out.1 HGR.out.2; clear hC hX hF))
  go_wp2
  go_returns
  exact C6.out.done X6_6.out
set_option maxRecDepth 100000 in
set_option maxHeartbeats 4000000 in
theorem expr_bin {bs : List Int} {n : Nat} (hb : Bts bs) (hl : bs.length ≤ 600) (s : Gs) (d e : Nat) (hd1 : 1 ≤ d) (hd5 : d ≤ 5) (hde : (d : Int) - 1 = (e : Int)) (h1 : 1 ≤ s.fuel) (h2 : s.fuel ≤ n + 1) (h3 : s.fuel ≤ 200) (h4 : (s.names.length : Int) + 4 * s.fuel ≤ 2000) (q : Nat) (hq : nx bs s.i % 24 = (q : Int)) (EX : ExprC bs n) (c1 : 5 ≤ q) (c2 : q < 12) : ∃ l j f, Draws bs 55 (fun g => #[.pointer (some ⟨g, 0, none⟩), .int .i64 (d : Int)]) s l { s with i := j, fuel := f } ∧ f ≤ s.fuel - 1 ∧ (s.fuel ≤ 0 → f = s.fuel - 1) ∧ (0 < s.fuel → -10 * s.fuel ≤ f) ∧ (l.length : Int) ≤ 20 * (s.fuel - f) := by
  obtain ⟨k1, hk1, kb1⟩ := nxn hb s.i
  rw [hk1] at hq
  have hq24 : q < 24 := by omega
  have j0 : ¬ ((d : Int) ≤ 0) := by omega
  have jf : ¬ (s.fuel - 1 < 0) := by omega
  have jq5 : ¬ ((q : Int) < 5) := by omega
  have jq12 : (q : Int) < 12 := by omega
  obtain ⟨k3, hk3, kb3⟩ := nxn hb (stepG bs s).i
  obtain ⟨m, hm, hm12⟩ : ∃ m : Nat, ((k3 : Int) % 12) = (m : Int) ∧ m < 12 := ⟨k3 % 12, by omega, by omega⟩
  have hk3' : nx bs (Gs.i { stepG bs s with fuel := s.fuel - 1 }) = (k3 : Int) := hk3
  obtain ⟨l4, j4, f4, hD4, b1, b2, b3, b4⟩ := EX (stepG bs { stepG bs s with fuel := s.fuel - 1 }) e (by omega) (by show _ ≤ s.fuel - 1; omega) (by show s.fuel - 1 ≤ _; omega) (by show s.fuel - 1 ≤ _; omega) (by show (s.names.length : Int) + 4 * (s.fuel - 1) ≤ _; omega)
  have e3 : Gs.fuel (stepG bs { stepG bs s with fuel := s.fuel - 1 }) = s.fuel - 1 := rfl
  rw [e3] at b1 b2 b3 b4
  obtain ⟨l5, j5, f5, hD5, u1, u2, u3, u4⟩ := EX { s with i := j4, fuel := f4 } e (by omega) (by show _ ≤ f4; omega) (by show f4 ≤ _; omega) (by show f4 ≤ _; omega) (by show (s.names.length : Int) + 4 * f4 ≤ _; omega)
  have e5 : Gs.fuel { s with i := j4, fuel := f4 } = f4 := rfl
  rw [e5] at u1 u2 u3 u4
  have HS : Hid ((node ⟨21, (m : Int), [], [], 0⟩ [l4, l5]).length ≤ 1000000) := by show _ ≤ _; simp only [node, List.length_cons, List.flatten_cons, List.length_append, List.length_nil, List.flatten_nil]; omega
  refine ⟨node ⟨21, (m : Int), [], [], 0⟩ [l4, l5], j5, f5, fun V w0 w av cv g r hv hr hG => ?_, by omega, by omega, by omega, by simp only [node, List.length_cons, List.flatten_cons, List.length_append, List.length_nil, List.flatten_nil]; omega⟩
  have C0 : Hid (Cur V w0 av cv bs w g r no w s) := Cur.start hv hr hb hl hG
  have d0_0 := C0.out.gg.c0
  have D4 : Hid (Draws bs 55 (fun g => #[.pointer (some ⟨g, 0, none⟩), .int .i64 (e : Int)]) (stepG bs { stepG bs s with fuel := s.fuel - 1 }) l4 { s with i := j4, fuel := f4 }) := hD4
  have D5 : Hid (Draws bs 55 (fun g => #[.pointer (some ⟨g, 0, none⟩), .int .i64 (e : Int)]) { s with i := j4, fuel := f4 } l5 { s with i := j5, fuel := f5 }) := hD5
  have hwe := wrap_small e (by omega)
  clear hG hr hv hD4 hD5 EX b1 b2 b3 b4 e3 u1 u2 u3 u4 e5 h2 h4
  go_enter Try.func55, Try.ntmps55
  go_wp2_with (first
    | (go_at_call 55; refine (CL.out.1.call D4.out).mono ?_; rintro e w4 ⟨a4, c4, rfl, hX, hC, hF⟩; have C4 : Hid _ := hC; have X4_4 : Hid _ := hX; have N4 : Hid (NodeAt w4 w3.heap.size (21) ((m : Int))) := NodeAt.keep CL.out.2.2.1 hF CL.out.2.2.2.1 CL.out.2.2.2.2; clear hC hX hF; have d0_4 := C4.out.gg.c0)
    | (go_at_call 9; refine (C2.out.next hk3').mono ?_; rintro e w3 ⟨rfl, hC, hF⟩; have C3 : Hid _ := hC; clear hC hF; have d0_3 := C3.out.gg.c0; have CL : Hid _ := C3.out.loc #[.int .i64 (21), .int .i64 ((m : Int)), .slice none 0 0, .slice none 0 0, .int .i64 0] 75)
    | (go_at_call 9; refine (C0.out.next hk1).mono ?_; rintro e w1 ⟨rfl, hC, hF⟩; have C1 : Hid _ := hC; clear hC hF; have C2 : Hid _ := (C1.out.setFuel (s.fuel - 1) (by omega) (by omega)).1; have d2_1 : w1.cell? ⟨g, 2, none⟩ = some (.int .i64 s.fuel) := C1.out.gg.c2; have f2_1 := C1.out.gg.free 2; have d0_2 := C2.out.gg.c0; have d2_2 : (w1.setCell ⟨g, 2, none⟩ (.int .i64 (s.fuel - 1))).cell? ⟨g, 2, none⟩ = some (.int .i64 (s.fuel - 1)) := C2.out.gg.c2))
  have HP : Hid (∀ W, NodeAt W w3.heap.size (21) ((m : Int)) → W.cell? ⟨w3.heap.size, 0, none⟩ = some (.int .i64 (21)) ∧ W.cell? ⟨w3.heap.size, 1, none⟩ = some (.int .i64 ((m : Int))) ∧ W.cell? ⟨w3.heap.size, 2, none⟩ = some (.slice none 0 0) ∧ W.cell? ⟨w3.heap.size, 3, none⟩ = some (.slice none 0 0) ∧ W.cell? ⟨w3.heap.size, 4, none⟩ = some (.int .i64 0)) := fun W h => h.cells
  have HGR : Hid (w3.heap.size ≠ g ∧ w3.heap.size ≠ r) := ⟨CL.out.2.2.2.1, CL.out.2.2.2.2⟩
  go_region_held3 (fun W => W.cell? ⟨w3.heap.size, 0, none⟩ = some (.int .i64 (21)) ∧ W.cell? ⟨w3.heap.size, 1, none⟩ = some (.int .i64 ((m : Int))) ∧ W.cell? ⟨w3.heap.size, 2, none⟩ = some (.slice none 0 0) ∧ W.cell? ⟨w3.heap.size, 3, none⟩ = some (.slice none 0 0) ∧ W.cell? ⟨w3.heap.size, 4, none⟩ = some (.int .i64 0)) (first | with_reducible exact HP.out _ N6.out | with_reducible exact HP.out _ (M5.out _) | with_reducible exact HP.out _ N5.out | exact HP.out _ N4.out) (first | (go_at_call 55; (with_reducible refine Calls.mono (C4.out.callB (by repeat (first | exact Below.refl _ _ | refine Below.drew ?_ | refine bel_drewN ?_ _)) D5.out) ?_); rintro e w5 ⟨a5, c5, rfl, hX, hC, hF⟩; have C5 : Hid _ := hC; have X5_5 : Hid _ := hX; have X4_5 : Hid _ := C4.out.fn hF X4_4.out; have N5 : Hid (NodeAt w5 w3.heap.size (21) ((m : Int))) := N4.out.keep hF HGR.out.1 HGR.out.2; have M5 : Hid (∀ o, NodeAt (w5.alloc o) w3.heap.size (21) ((m : Int))) := fun o => (heap_alloc_old _ _ (heap_lt N5.out)).trans N5.out; clear hC hX hF; have d0_5 := C5.out.gg.c0) | (go_at_call 45; obtain ⟨QL, CN, KN, _⟩ := C5.out.lit (kr_two X4_5.out X5_5.out) rfl (by simp); refine (CN.node (n := ⟨21, (m : Int), [], [], 0⟩) rfl KN (rdV_nil _) (rdVV_nil _) HS.out (by simp)).mono ?_; clear CN KN; rintro e w6 ⟨a6, c6, rfl, hX, hC, hF⟩; have C6 : Hid _ := hC; have X6_6 : Hid _ := hX; have N6 : Hid (NodeAt w6 w3.heap.size (21) ((m : Int))) := NodeAt.keep (M5.out _) hF HGR.out.1 HGR.out.2; clear hC hX hF))
  go_wp2
  go_returns
  exact C6.out.done X6_6.out
end Go.Proofs.Ytepbddfpdlapbaa.tk
