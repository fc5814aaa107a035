import Derived.Test.YtepbddfpdlapbaaMTkExprC
namespace Go.Proofs.Ytepbddfpdlapbaa.tk
open Go.RowKit Go.Proofs.Ytepbddfpdlapbaa.bts Go.Proofs.Ytepbddfpdlapbaa.nod
def psE (m : Nat) : List ByteArray := ([{ data := #[112] }, { data := #[113] }] : List ByteArray).take m
theorem psE_len (m : Nat) (h : m ≤ 2) : (psE m).length = m := by simp [psE]; omega
theorem psE_size (m : Nat) : ∀ x ∈ psE m, x.size ≤ 1000 := by
  intro x hx
  have := List.mem_of_mem_take hx
  simp only [List.mem_cons, List.not_mem_nil, or_false] at this
  rcases this with rfl | rfl <;> decide
theorem two_strs {W : World} {b : Nat} {x y : ByteArray} {T : TypeId} (h : W.heap[b]? = some (.cells #[.string x, .string y] T)) (m : Nat) : ∀ i, i < (([x, y] : List ByteArray).take m).length → W.cell? ⟨b, i, none⟩ = some (.string ((([x, y] : List ByteArray).take m).getD i default)) := by
  intro i hi
  have h2 : i < 2 ∧ i < m := by simp at hi; omega
  unfold World.cell?
  rw [h, List.getD_eq_getElem?_getD, List.getElem?_take_of_lt h2.2]
  have : i = 0 ∨ i = 1 := by omega
  rcases this with rfl | rfl <;> rfl
set_option maxRecDepth 100000 in
set_option maxHeartbeats 4000000 in
theorem expr_func {bs : List Int} {n : Nat} (hb : Bts bs) (hl : bs.length ≤ 600) (s : Gs) (d e : Nat) (hd1 : 1 ≤ d) (hd5 : d ≤ 5) (hde : (d : Int) - 1 = (e : Int)) (h1 : 1 ≤ s.fuel) (h2 : s.fuel ≤ n + 1) (h3 : s.fuel ≤ 200) (h4 : (s.names.length : Int) + 4 * s.fuel ≤ 2000) (q : Nat) (hq : nx bs s.i % 24 = (q : Int)) (FU : FuncC bs n) (c1 : q = 20) : ∃ l j f, Draws bs 55 (fun g => #[.pointer (some ⟨g, 0, none⟩), .int .i64 (d : Int)]) s l { s with i := j, fuel := f } ∧ f ≤ s.fuel - 1 ∧ (s.fuel ≤ 0 → f = s.fuel - 1) ∧ (0 < s.fuel → -10 * s.fuel ≤ f) ∧ (l.length : Int) ≤ 20 * (s.fuel - f) := by
  obtain ⟨k1, hk1, kb1⟩ := nxn hb s.i
  rw [hk1] at hq
  have hq24 : q < 24 := by omega
  have j0 : ¬ ((d : Int) ≤ 0) := by omega
  have jf : ¬ (s.fuel - 1 < 0) := by omega
  subst c1
  obtain ⟨k3, hk3, kb3⟩ := nxn hb (stepG bs s).i
  obtain ⟨m, hm, hm3⟩ : ∃ m : Nat, ((k3 : Int) % 3) = (m : Int) ∧ m < 3 := ⟨k3 % 3, by omega, by omega⟩
  have hk3' : nx bs (Gs.i { stepG bs s with fuel := s.fuel - 1 }) = (k3 : Int) := hk3
  have hpl := psE_len m (by omega)
  obtain ⟨l, j, f, hD, b1, b2, b3, b4⟩ := FU (stepG bs { stepG bs s with fuel := s.fuel - 1 }) (psE m) d hd1 hd5 (by omega) (psE_size m) (by show _ ≤ s.fuel - 1; omega) (by show s.fuel - 1 ≤ _; omega) (by show s.fuel - 1 ≤ _; omega) (by show (s.names.length : Int) + (psE m).length + 4 * (s.fuel - 1) ≤ _; omega)
  have e3 : Gs.fuel (stepG bs { stepG bs s with fuel := s.fuel - 1 }) = s.fuel - 1 := rfl
  rw [e3] at b1 b2 b3 b4
  refine ⟨l, j, f, fun V w0 w av cv g r hv hr hG => ?_, by omega, by omega, by omega, by omega⟩
  have C0 : Hid (Cur V w0 av cv bs w g r no w s) := Cur.start hv hr hb hl hG
  have d0_0 := C0.out.gg.c0
  have D4 : Hid (DrawsF bs (psE m) d (stepG bs { stepG bs s with fuel := s.fuel - 1 }) l { s with i := j, fuel := f }) := hD
  have HPL : Hid ((psE m).length = m) := hpl
  have m1 : (m : Int) ≤ 2 := by omega
  have m0 : (0 : Int) ≤ (m : Int) := by omega
  clear hG hr hv hD FU b1 b2 b3 b4 e3 h2 h4 hpl
  go_enter Try.func55, Try.ntmps55
  go_wp2_with (first
    | (go_at_call 57; refine (C3.out.fcall D4.out HPL.out (two_strs N3.out m) CL.out.2.2.2.1 CL.out.2.2.2.2 (heap_lt N3.out)).mono ?_; rintro e w4 ⟨a4, c4, rfl, hX, hC, hF⟩; have C4 : Hid _ := hC; have X4_4 : Hid _ := hX; clear hC hX hF)
    | (go_at_call 9; refine (CL.out.1.next hk3').mono ?_; rintro e w3 ⟨rfl, hC, hF⟩; have C3 : Hid _ := hC; have N3 : Hid (w3.heap[w1.heap.size]? = some (.cells #[.string { data := #[112] }, .string { data := #[113] }] 9)) := (hF.keep w1.heap.size (heap_lt CL.out.2.2.1) CL.out.2.2.2.2 CL.out.2.2.2.1).trans CL.out.2.2.1; clear hC hF)
    | (go_at_call 9; refine (C0.out.next hk1).mono ?_; rintro e w1 ⟨rfl, hC, hF⟩; have C1 : Hid _ := hC; clear hC hF; have C2 : Hid _ := (C1.out.setFuel (s.fuel - 1) (by omega) (by omega)).1; have d2_1 : w1.cell? ⟨g, 2, none⟩ = some (.int .i64 s.fuel) := C1.out.gg.c2; have f2_1 := C1.out.gg.free 2; have d0_2 := C2.out.gg.c0; have d2_2 : (w1.setCell ⟨g, 2, none⟩ (.int .i64 (s.fuel - 1))).cell? ⟨g, 2, none⟩ = some (.int .i64 (s.fuel - 1)) := C2.out.gg.c2; have CL : Hid _ := C2.out.locS #[.string { data := #[112] }, .string { data := #[113] }] 9; have d0_3 := CL.out.1.gg.c0))
  go_returns
  exact C4.out.done X4_4.out
def pairs (ks es : Nat → List Nd) (k : Nat) : List (List Nd) := (List.range k).flatMap fun i => [ks i, es i]
theorem pairs_succ (ks es : Nat → List Nd) (k : Nat) : pairs ks es (k + 1) = pairs ks es k ++ [ks k] ++ [es k] := by simp [pairs, List.range_succ]
theorem pairs_length (ks es : Nat → List Nd) (k : Nat) : (pairs ks es k).length = 2 * k := by
  induction k with
  | zero => rfl
  | succ k ih => rw [pairs_succ]; simp [ih]; omega
theorem key_ex (bs : List Int) (s : Gs) (k : Nat) (hb : Bts bs) (hl : bs.length ≤ 600) : ∃ (x b : Nat) (l : List Nd) (j : Nat), nx bs s.i = (x : Int) ∧ ((x : Int) % 2) = (b : Int) ∧ b < 2 ∧ x ≤ 255 ∧ l.length = 1 ∧ (b = 0 → l = intN ((k : Int) + 1) ∧ j = nxi bs s.i) ∧ (b ≠ 0 → Draws bs 69 (fun g => #[.pointer (some ⟨g, 0, none⟩)]) (stepG bs s) l { s with i := j }) := by
  obtain ⟨x, hx, hxb⟩ := nxn hb s.i
  by_cases h0 : x % 2 = 0
  · exact ⟨x, 0, intN ((k : Int) + 1), nxi bs s.i, hx, by omega, by omega, hxb, rfl, fun _ => ⟨rfl, rfl⟩, fun h => absurd rfl h⟩
  · obtain ⟨l, j, h1, hD⟩ := leaf_ex bs (stepG bs s) hb hl
    exact ⟨x, 1, l, j, hx, by omega, by omega, hxb, h1, fun h => absurd h (by omega), fun _ => hD⟩
theorem seqT {bs : List Int} {n : Nat} (hb : Bts bs) (hl : bs.length ≤ 600) (E : ExprC bs n) (s : Gs) (d m : Nat) (hd : d ≤ 5) (h1 : -40000 + (m : Int) ≤ s.fuel) (hm : m ≤ 10) (h2 : s.fuel ≤ n) (h3 : s.fuel ≤ 200) (h4 : (s.names.length : Int) + 4 * s.fuel ≤ 2000) :
    ∃ (js : Nat → Nat) (fs : Nat → Int) (xs bt jm : Nat → Nat) (ks es : Nat → List Nd), js 0 = s.i ∧ fs 0 = s.fuel ∧
      (∀ k, k < m → nx bs (js k) = (xs k : Int) ∧ ((xs k : Int) % 2) = (bt k : Int) ∧ bt k < 2 ∧ xs k ≤ 255 ∧ (bt k = 0 → ks k = intN ((k : Int) + 1) ∧ jm k = nxi bs (js k)) ∧ (bt k ≠ 0 → Draws bs 69 (fun g => #[.pointer (some ⟨g, 0, none⟩)]) (stepG bs { s with i := js k, fuel := fs k }) (ks k) { s with i := jm k, fuel := fs k }) ∧
        Draws bs 55 (fun g => #[.pointer (some ⟨g, 0, none⟩), .int .i64 (d : Int)]) { s with i := jm k, fuel := fs k } (es k) { s with i := js (k + 1), fuel := fs (k + 1) }) ∧
      ∀ k, k ≤ m → fs k ≤ s.fuel - k ∧ (s.fuel ≤ 0 → fs k = s.fuel - k) ∧ (0 < s.fuel → -10 * s.fuel - k ≤ fs k) ∧ ((pairs ks es k).flatten.length : Int) ≤ k + 20 * (s.fuel - fs k) := by
  induction m with
  | zero => exact ⟨fun _ => s.i, fun _ => s.fuel, fun _ => 0, fun _ => 0, fun _ => 0, fun _ => [], fun _ => [], rfl, rfl, fun k hk => absurd hk (by omega), fun k hk => by
      obtain rfl : k = 0 := by omega
      simp [pairs]
      omega⟩
  | succ m ih =>
    obtain ⟨js, fs, xs, bt, jm, ks, es, e1, e2, hD, hB⟩ := ih (by omega) (by omega)
    have hB1 := hB m (Nat.le_refl _)
    obtain ⟨x, b, lk, j0, y1, y2, y3, y4, y5, y6, y7⟩ := key_ex bs { s with i := js m, fuel := fs m } m hb hl
    obtain ⟨l, j, f, hDl, b1, b2, b3, b4⟩ := E { s with i := j0, fuel := fs m } d hd (by show _ ≤ fs m; omega) (by show fs m ≤ _; omega) (by show fs m ≤ _; omega) (by show (s.names.length : Int) + 4 * fs m ≤ _; omega)
    simp only at b1 b2 b3 b4 y1 y6 y7
    refine ⟨fun k => if k ≤ m then js k else j, fun k => if k ≤ m then fs k else f, fun k => if k < m then xs k else x, fun k => if k < m then bt k else b, fun k => if k < m then jm k else j0, fun k => if k < m then ks k else lk, fun k => if k < m then es k else l, by simp [e1], by simp [e2], fun k hk => ?_, fun k hk => ?_⟩
    · by_cases hkm : k < m
      · have := hD k hkm
        simp only [if_pos (show k ≤ m by omega), if_pos (show k + 1 ≤ m by omega), if_pos hkm]
        exact this
      · obtain rfl : k = m := by omega
        simp only [if_pos (Nat.le_refl k), if_neg (show ¬ k + 1 ≤ k by omega), if_neg (Nat.lt_irrefl k)]
        exact ⟨y1, y2, y3, y4, y6, y7, hDl⟩
    · have hup : ∀ k, k ≤ m → pairs (fun k => if k < m then ks k else lk) (fun k => if k < m then es k else l) k = pairs ks es k := fun k hk => by
        induction k with
        | zero => rfl
        | succ k ih => rw [pairs_succ, pairs_succ, ih (by omega), if_pos (show k < m by omega), if_pos (show k < m by omega)]
      by_cases hkm : k ≤ m
      · rw [hup k hkm]
        simp only [if_pos hkm]
        exact hB k hkm
      · obtain rfl : k = m + 1 := by omega
        rw [pairs_succ, hup m (Nat.le_refl _)]
        simp only [if_neg (show ¬ m + 1 ≤ m by omega), if_neg (Nat.lt_irrefl m), List.flatten_append, List.length_append, List.flatten_cons, List.flatten_nil, List.append_nil]
        omega
set_option maxRecDepth 100000 in
set_option maxHeartbeats 4000000 in
theorem expr_table {bs : List Int} {n : Nat} (hb : Bts bs) (hl : bs.length ≤ 600) (s : Gs) (d e : Nat) (hd1 : 1 ≤ d) (hd5 : d ≤ 5) (hde : (d : Int) - 1 = (e : Int)) (h1 : 1 ≤ s.fuel) (h2 : s.fuel ≤ n + 1) (h3 : s.fuel ≤ 200) (h4 : (s.names.length : Int) + 4 * s.fuel ≤ 2000) (q : Nat) (hq : nx bs s.i % 24 = (q : Int)) (EX : ExprC bs n) (c1 : 18 ≤ q) (c2 : q < 20) : ∃ l j f, Draws bs 55 (fun g => #[.pointer (some ⟨g, 0, none⟩), .int .i64 (d : Int)]) s l { s with i := j, fuel := f } ∧ f ≤ s.fuel - 1 ∧ (s.fuel ≤ 0 → f = s.fuel - 1) ∧ (0 < s.fuel → -10 * s.fuel ≤ f) ∧ (l.length : Int) ≤ 20 * (s.fuel - f) := by
  obtain ⟨k1, hk1, kb1⟩ := nxn hb s.i
  rw [hk1] at hq
  have hq24 : q < 24 := by omega
  have j0 : ¬ ((d : Int) ≤ 0) := by omega
  have jf : ¬ (s.fuel - 1 < 0) := by omega
  have jq5 : ¬ ((q : Int) < 5) := by omega
  have jq12 : ¬ ((q : Int) < 12) := by omega
  have jq14 : ¬ ((q : Int) < 14) := by omega
  have jq16 : ¬ ((q : Int) < 16) := by omega
  have jq18 : ¬ ((q : Int) < 18) := by omega
  have jq20 : (q : Int) < 20 := by omega
  obtain ⟨k3, hk3, kb3⟩ := nxn hb (stepG bs s).i
  obtain ⟨m, hm, hm4⟩ : ∃ m : Nat, ((k3 : Int) % 4) = (m : Int) ∧ m < 4 := ⟨k3 % 4, by omega, by omega⟩
  have hk3' : nx bs (Gs.i { stepG bs s with fuel := s.fuel - 1 }) = (k3 : Int) := hk3
  obtain ⟨js, fs, xs, bt, jm, ks, es, e1, e2, hD, hB⟩ := seqT hb hl EX (stepG bs { stepG bs s with fuel := s.fuel - 1 }) e m (by omega) (by show _ ≤ s.fuel - 1; omega) (by omega) (by show s.fuel - 1 ≤ _; omega) (by show s.fuel - 1 ≤ _; omega) (by show (s.names.length : Int) + 4 * (s.fuel - 1) ≤ _; omega)
  have hBm := hB m (Nat.le_refl _)
  have e3 : Gs.fuel (stepG bs { stepG bs s with fuel := s.fuel - 1 }) = s.fuel - 1 := rfl
  rw [e3] at hBm e2
  have HS : Hid ((node (kn 20) (pairs ks es m)).length ≤ 1000000) := by show _ ≤ _; simp only [node, List.length_cons]; omega
  refine ⟨node (kn 20) (pairs ks es m), js m, fs m, fun V w0 w av cv g r hv hr hG => ?_, by omega, by omega, by omega, by simp only [node, List.length_cons]; omega⟩
  have C0 : Hid (Cur V w0 av cv bs w g r no w s) := Cur.start hv hr hb hl hG
  have d0_0 := C0.out.gg.c0
  have HD : Hid (∀ k, k < m → nx bs (js k) = (xs k : Int) ∧ ((xs k : Int) % 2) = (bt k : Int) ∧ bt k < 2 ∧ xs k ≤ 255 ∧ (bt k = 0 → ks k = intN ((k : Int) + 1) ∧ jm k = nxi bs (js k)) ∧ (bt k ≠ 0 → Draws bs 69 (fun g => #[.pointer (some ⟨g, 0, none⟩)]) (stepG bs { s with i := js k, fuel := fs k }) (ks k) { s with i := jm k, fuel := fs k }) ∧
        Draws bs 55 (fun g => #[.pointer (some ⟨g, 0, none⟩), .int .i64 (e : Int)]) { s with i := jm k, fuel := fs k } (es k) { s with i := js (k + 1), fuel := fs (k + 1) }) := hD
  have HC : Hid (∀ W Q, Cur V w0 av cv bs w g r Q W (stepG bs { stepG bs s with fuel := s.fuel - 1 }) → Cur V w0 av cv bs w g r Q W { s with i := js 0, fuel := fs 0 }) := fun W Q h => by
    rw [e1, e2]; exact h
  clear hG hr hv hD EX hB hBm e1 e2 e3 h2 h4
  go_enter Try.func55, Try.ntmps55
  go_wp2_with (first
    | (go_at_call 9; refine (C2.out.next hk3').mono ?_; rintro e w3 ⟨rfl, hC, hF⟩; have C3 : Hid _ := hC; clear hC hF; have d0_3 := C3.out.gg.c0)
    | (go_at_call 9; refine (C0.out.next hk1).mono ?_; rintro e w1 ⟨rfl, hC, hF⟩; have C1 : Hid _ := hC; clear hC hF; have C2 : Hid _ := (C1.out.setFuel (s.fuel - 1) (by omega) (by omega)).1; have d2_1 : w1.cell? ⟨g, 2, none⟩ = some (.int .i64 s.fuel) := C1.out.gg.c2; have f2_1 := C1.out.gg.free 2; have d0_2 := C2.out.gg.c0; have d2_2 : (w1.setCell ⟨g, 2, none⟩ (.int .i64 (s.fuel - 1))).cell? ⟨g, 2, none⟩ = some (.int .i64 (s.fuel - 1)) := C2.out.gg.c2))
  try rw [hq]
  try rw [hm]
  go_loopw [11, 13] (fun va vi wr => ∃ (k c : Nat) (Q : Nat → Bool) (a : Option Addr), k ≤ m ∧ vi = .int .i64 (k : Int) ∧ va = .slice a (2 * k) c ∧ Hid (Cur V w0 av cv bs w g r Q wr { s with i := js k, fuel := fs k }) ∧ Hid (Kids w Q wr (.slice a (2 * k) c) (pairs ks es k))) (fun _ x _ => m - (intOf x).toNat)
  case atStart => exact ⟨0, 0, no, none, Nat.zero_le _, rfl, rfl, HC.out _ _ C3.out, kids_nil⟩
  case round =>
    obtain ⟨k, c, Q, a, hkm, rfl, rfl, C20, K20⟩ := hrel
    have d0_20 := C20.out.gg.c0
    by_cases hlt : k < m
    · have i1 : (k : Int) < (m : Int) := by omega
      obtain ⟨y1, y2, y3, y4, y6, y7, hDe⟩ := HD.out k hlt
      have hkx : nx bs (Gs.i { s with i := js k, fuel := fs k }) = (xs k : Int) := y1
      have D23 : Hid _ := hDe
      have HKE : Hid (∀ Q w' v, Kids w Q w' v (pairs ks es k ++ [ks k] ++ [es k]) → Kids w Q w' v (pairs ks es (k + 1))) := fun Q w' v h => by rw [pairs_succ]; exact h
      have HPL : Hid ((pairs ks es k).length = 2 * k) := pairs_length ks es k
      clear hDe
      generalize xs k = x at hkx y1 y2 y4
      generalize bt k = b at y2 y3 y6 y7
      by_cases hb0 : b = 0
      · subst hb0
        obtain ⟨z1, z2⟩ := y6 rfl
        have HJ : Hid (∀ W Q, Cur V w0 av cv bs w g r Q W (stepG bs { s with i := js k, fuel := fs k }) → Cur V w0 av cv bs w g r Q W { s with i := jm k, fuel := fs k }) := fun W Q h => by rw [z2]; exact h
        rw [z1] at HKE
        clear y6 y7 z1 z2 y1
        go_wp2_with (first
          | (at_builtin; refine wpList_append_kids rfl _ _ rfl C24.out [.slice a24 (es k).length c24] rfl rfl rfl K23_24.out (by rw [List.length_append, HPL.out]; rfl) (kr_one X24_24.out) (by rw [List.length_append, HPL.out]; simp; omega) rfl ?_; intro a25 c25 w25 Q25 hK hC hM; have C25 : Hid _ := hC; have K25 : Hid _ := hK; clear hC hK hM; have d0_25 := C25.out.gg.c0)
          | (go_at_call 55; refine ((HJ.out _ _ C23.out).call D23.out).mono ?_; rintro e w24 ⟨a24, c24, rfl, hX, hC, hF⟩; have C24 : Hid _ := hC; have X24_24 : Hid _ := hX; have K23_24 : Hid _ := C23.out.kids hF K23.out; clear hC hX hF; have d0_24 := C24.out.gg.c0)
          | (at_builtin; refine wpList_append_kids rfl _ _ rfl C22.out [.slice a22 (intN ((k : Int) + 1)).length c22] rfl rfl rfl K20_22.out HPL.out.symm (kr_one X22_22.out) (by rw [HPL.out]; simp; omega) rfl ?_; intro a23 c23 w23 Q23 hK hC hM; have C23 : Hid _ := hC; have K23 : Hid _ := hK; clear hC hK hM; have d0_23 := C23.out.gg.c0)
          | (go_at_call 46; refine (C21.out.make (l7int_any _ _)).mono ?_; rintro e w22 ⟨a22, c22, rfl, hX, hC, hF⟩; have C22 : Hid _ := hC; have X22_22 : Hid _ := hX; have K20_22 : Hid _ := C21.out.kids hF K20_21.out; clear hC hX hF; have d0_22 := C22.out.gg.c0)
          | (go_at_call 9; refine (C20.out.next hkx).mono ?_; rintro e w21 ⟨rfl, hC, hF⟩; have C21 : Hid _ := hC; have K20_21 : Hid _ := C20.out.kids hF K20.out; clear hC hF; have d0_21 := C21.out.gg.c0))
        refine ⟨⟨k + 1, c25, Q25, a25, by omega, by go_num, by simp; omega, C25.out, HKE.out _ _ _ K25.out⟩, by simp [intOf]; omega⟩
      · have i2 : ¬ ((b : Int) = 0) := by omega
        have D22 : Hid _ := y7 hb0
        clear y6 y7 y1
        go_wp2_with (first
          | (at_builtin; refine wpList_append_kids rfl _ _ rfl C24.out [.slice a24 (es k).length c24] rfl rfl rfl K23_24.out (by rw [List.length_append, HPL.out]; rfl) (kr_one X24_24.out) (by rw [List.length_append, HPL.out]; simp; omega) rfl ?_; intro a25 c25 w25 Q25 hK hC hM; have C25 : Hid _ := hC; have K25 : Hid _ := hK; clear hC hK hM; have d0_25 := C25.out.gg.c0)
          | (go_at_call 55; refine (C23.out.call D23.out).mono ?_; rintro e w24 ⟨a24, c24, rfl, hX, hC, hF⟩; have C24 : Hid _ := hC; have X24_24 : Hid _ := hX; have K23_24 : Hid _ := C23.out.kids hF K23.out; clear hC hX hF; have d0_24 := C24.out.gg.c0)
          | (at_builtin; refine wpList_append_kids rfl _ _ rfl C22.out [.slice a22 (ks k).length c22] rfl rfl rfl K20_22.out HPL.out.symm (kr_one X22_22.out) (by rw [HPL.out]; simp; omega) rfl ?_; intro a23 c23 w23 Q23 hK hC hM; have C23 : Hid _ := hC; have K23 : Hid _ := hK; clear hC hK hM; have d0_23 := C23.out.gg.c0)
          | (go_at_call 69; refine (C21.out.call D22.out).mono ?_; rintro e w22 ⟨a22, c22, rfl, hX, hC, hF⟩; have C22 : Hid _ := hC; have X22_22 : Hid _ := hX; have K20_22 : Hid _ := C21.out.kids hF K20_21.out; clear hC hX hF; have d0_22 := C22.out.gg.c0)
          | (go_at_call 9; refine (C20.out.next hkx).mono ?_; rintro e w21 ⟨rfl, hC, hF⟩; have C21 : Hid _ := hC; have K20_21 : Hid _ := C20.out.kids hF K20.out; clear hC hF; have d0_21 := C21.out.gg.c0))
        refine ⟨⟨k + 1, c25, Q25, a25, by omega, by go_num, by simp; omega, C25.out, HKE.out _ _ _ K25.out⟩, by simp [intOf]; omega⟩
    · obtain rfl : k = m := by omega
      have i1 : ¬ ((k : Int) < (k : Int)) := by omega
      go_wp2_with (first
        | (go_at_call 45; refine (C20.out.node (n := kn 20) rfl K20.out (rdV_nil _) (rdVV_nil _) HS.out (by rw [pairs_length]; omega)).mono ?_; rintro e w21 ⟨a21, c21, rfl, hX, hC, hF⟩; have C21 : Hid _ := hC; have X21_21 : Hid _ := hX; clear hC hX hF; have d0_21 := C21.out.gg.c0))
      go_returns
      exact C21.out.done X21_21.out
section
variable {V Q : Nat → Bool} {w0 w W W' : World} {av : Option Addr} {cv g r : Nat} {bs : List Int} {s s' : Gs} {x : Value} {l : List Nd}
def Ap (v v2 : Value) : Prop := ∀ b, v2.ownBlock = some b → v.ownBlock ≠ some b
theorem Kids.row {v : Value} {ks : List (List Nd)} (h : Kids w Q W v ks) : ∃ us, Row 60 w Q W v us ∧ KR (hd w Q) W us ks := by
  obtain ⟨us, h1, h2, h3⟩ := h
  have := h3.1
  exact ⟨us, ⟨by rw [this]; exact h1, h2⟩, h3⟩
theorem Kids.of {v : Value} {us : List Value} {ks : List (List Nd)} (h : Row 60 w Q W v us) (k : KR (hd w Q) W us ks) : Kids w Q W v ks := ⟨us, by rw [← k.1]; exact h.1, h.2, k⟩
structure ApdK (V : Nat → Bool) (w0 : World) (av : Option Addr) (cv : Nat) (bs : List Int) (w : World) (g r : Nat) (Q : Nat → Bool) (W : World) (s : Gs) (v : Value) (ks : List (List Nd)) (v' : Value) (Q' : Nat → Bool) (w' : World) : Prop where
  kids : Kids w Q' w' v' ks
  cur : Cur V w0 av cv bs w g r Q' w' s
  mv : Mv V w Q W Q' w'
  other : ∀ v2 ks2, Kids w Q W v2 ks2 → Ap v v2 → Kids w Q' w' v2 ks2 ∧ Ap v' v2
  rows : ∀ T2 v2 us2, Row T2 w Q W v2 us2 → Ap v v2 → Row T2 w Q' w' v2 us2 ∧ Ap v' v2
theorem wpList_append_kids2 {ops : Array Oper} {rest : List Oper} {o : Oper} {a : Act} {K : Exit → Act → World → Prop} (hgd : o.guard = none) (sv xv : Operand)
    (ho : o.op = .call { callee := .builtin .append, args := #[sv, xv], argTypes := #[72, 72] })
    (C : Cur V w0 av cv bs w g r Q W s) {ao : Option Addr} {n c m : Nat} {ks ls : List (List Nd)} (xs : List Value) (hs : a.eval sv = .slice ao n c) (hxe : a.eval xv = .slice (some ⟨W.heap.size, 0, none⟩) m m) (hW : W' = W.alloc (.cells xs.toArray 60))
    (hK : Kids w Q W (.slice ao n c) ks) (hn : n = ks.length) (hx : KR (hd w Q) W xs ls) (hm : ks.length + ls.length ≤ 1000) (hml : m = xs.length)
    (h : ∀ a' c' w' Q', ApdK V w0 av cv bs w g r Q W s (.slice ao n c) (ks ++ ls) (.slice a' (n + m) c') Q' w' → wpList Try.prog ops K rest (a.put o.dst (.slice a' (n + m) c')) w') : wpList Try.prog ops K (o :: rest) a W' := by
  subst hW
  obtain ⟨us, hR, hk⟩ := hK.row
  obtain ⟨i0, hi0, hz0, hz1, hz2⟩ := info_parts info_nodes
  have hul := hk.1
  have hxl := hx.1
  refine wpList_append_any hgd sv xv 60 72 ho C Try.underlying72 hi0 hz0 hz1 hz2 rfl (Nat.le_refl _) hs hR (by omega) ((Below.refl _ _).alloc (Nat.le_refl _) _) (some ⟨W.heap.size, 0, none⟩) m m hxe hml (fun _ => ⟨_, rfl, fun j u hu => by
    rw [plainAt, Nat.zero_add]
    unfold World.cell?
    rw [heap_alloc_new]
    simpa using hu⟩) hx.one (by omega) (fun a' c' w' Q' hA => h a' c' w' Q' ?_)
  have hAp : ∀ v2 : Value, (∀ b, v2.ownBlock = some b → b < W.heap.size) → Ap (.slice ao n c) v2 → Ap (.slice a' (n + m) c') v2 := fun v2 hlt hap b e e' => by
    rcases hA.lies b e' with h | h
    · exact hap b e h
    · have := hlt b e; omega
  refine ⟨Kids.of hA.row ((hA.mv.kr hk).app (hA.mv.kr hx)), hA.cur, hA.mv, fun v2 ks2 hK2 hap => ?_, fun T2 v2 us2 hR2 hap => ⟨hA.other T2 v2 us2 hR2 hap, hAp v2 (fun b e => (hR2.1.lt b e).2) hap⟩⟩
  obtain ⟨us2, hR2, hk2⟩ := hK2.row
  exact ⟨Kids.of (hA.other _ v2 us2 hR2 hap) (hA.mv.kr hk2), hAp v2 (fun b e => (hR2.1.lt b e).2) hap⟩
def qm (Q : Nat → Bool) (v : Value) : Nat → Bool := fun b => Q b && !decide (v.ownBlock = some b)
theorem Cur.minus (C : Cur V w0 av cv bs w g r Q W s) (v : Value) : Cur V w0 av cv bs w g r (qm Q v) W s :=
  ⟨C.rd, C.bt, C.le, C.gg.veils (fun b _ h => by simp only [vq, Bool.or_eq_false_iff] at h; simp [vq, qm, h.1, h.2]) (by simp [vq, C.vg]) (by simp [vq, C.vr]), C.fg, C.hg, C.vg, C.vr, C.hv, fun b h => C.hq b (by simp [qm] at h; exact h.1)⟩
theorem Kids.minus {v v2 : Value} {ks : List (List Nd)} (h : Kids w Q W v2 ks) (hap : Ap v v2) : Kids w (qm Q v) W v2 ks := by
  obtain ⟨us, h1, h2, h3⟩ := h
  exact ⟨us, h1, fun b e => by simp [qm, h2 b e, hap b e], h3.veils (fun b _ hb => by simp only [hd, Bool.or_eq_false_iff] at hb; simp [hd, qm, hb.1, hb.2])⟩
theorem Sv.minus {nv v : Value} {ns : List ByteArray} (hx : Sv V Q W nv ns) : Sv V (qm Q v) W nv ns := RdS.veils hx (fun b _ h => by simp only [vq, Bool.or_eq_false_iff] at h; simp [vq, qm, h.1, h.2])
theorem FN.minus {v : Value} (hx : FN (hd w Q) W x l) : FN (hd w (qm Q v)) W x l := hx.veils (fun b _ h => by simp only [hd, Bool.or_eq_false_iff] at h; simp [hd, qm, h.1, h.2])
theorem Cur.nodeR (C : Cur V w0 av cv bs w g r Q W s) {v ut un : Value} {ks : List (List Nd)} {n : Nd} {m c : Nat} {a : Option Addr} (hv : v = .slice a m c) (hK : Kids w Q W v ks) (ht : RdV (veil (hd w (qm Q v)) W) ut n.text) (hn : RdVV (veil (hd w (qm Q v)) W) un n.names) (hs : (tk.node n ks).length ≤ 1000000) (hkl : ks.length ≤ 1000000) :
    Calls Try.prog 45 #[.agg #[.int .i64 n.kind, .int .i64 n.n, ut, un, .int .i64 n.count], v] W fun e w' => ∃ a' c', e = .returned (.slice a' (tk.node n ks).length c') ∧ FN (hd w (qm Q v)) w' (.slice a' (tk.node n ks).length c') (tk.node n ks) ∧ Cur V w0 av cv bs w g r (qm Q v) w' s ∧ Fg g r W w' := by
  have hF : FNs (hd w (qm Q v)) W v ks := by
    subst hv
    obtain ⟨us, h1, h2, h3⟩ := hK
    have hm : m = ks.length := by
      rcases h1.2 with ⟨e, e2⟩ | ⟨_, _, _, e, _⟩
      · simp only [Value.slice.injEq] at e; omega
      · simp only [Value.slice.injEq] at e; omega
    subst hm
    exact fns_own (fun b hb => by have := (h1.lt b hb).1; simp [hd, qm, hb, tk.lt]; omega) h1 rfl (h3.veils (fun b _ hb => by simp only [hd, Bool.or_eq_false_iff] at hb; simp [hd, qm, hb.1, hb.2]))
  refine (l3node_any (hd w (qm Q v)) W n ut un v ks (fun b hb => ?_) ht hn hF hs hkl).mono ?_
  · have h1 := C.sz
    have h3 : Q b = false := by
      cases h : Q b with
      | false => rfl
      | true => have := (C.hq b h).2; omega
    simp [hd, qm, h3, tk.lt]
    omega
  · rintro e w' ⟨x, rfl, h1, h2⟩
    obtain ⟨h3, h4⟩ := (C.minus v).bel h2
    obtain ⟨a', c', rfl, hN'⟩ := h1
    exact ⟨a', c', rfl, ⟨a', c', rfl, hN'⟩, h3, h4⟩
theorem ap_nil {v : Value} : Ap (.slice none 0 0) v := fun b _ h => by simp [Value.ownBlock] at h
end
end Go.Proofs.Ytepbddfpdlapbaa.tk
