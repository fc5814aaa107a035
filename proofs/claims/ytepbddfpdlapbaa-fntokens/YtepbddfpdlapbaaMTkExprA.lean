import Derived.Test.YtepbddfpdlapbaaMTkAcc
namespace Go.Proofs.Ytepbddfpdlapbaa.tk
open Go.RowKit Go.Proofs.Ytepbddfpdlapbaa.bts Go.Proofs.Ytepbddfpdlapbaa.nod
theorem nxn {bs : List Int} (hb : Bts bs) (i : Nat) : ∃ k : Nat, nx bs i = (k : Int) ∧ k ≤ 255 := by
  have := nx_bound hb i
  exact ⟨(nx bs i).toNat, by omega, by omega⟩
theorem some_draws (bs : List Int) (s : Gs) (hb : Bts bs) (hl : bs.length ≤ 600) : Draws bs 68 (fun g => #[.pointer (some ⟨g, 0, none⟩)]) s (nameN (someS bs s)) (stepG bs s) :=
  fun V w0 w av cv g r _ hr hG => l7some_any V w0 w av cv g r bs s hr hb hl hG
theorem Cur.strs {V Q : Nat → Bool} {w0 w W : World} {av : Option Addr} {cv g r : Nat} {bs : List Int} {s : Gs} (C : Cur V w0 av cv bs w g r Q W s) (l : List ByteArray) (T : TypeId) :
    Cur V w0 av cv bs w g r Q (W.alloc (.cells (l.map Value.string).toArray T)) s ∧ ∀ W2, Fg g r (W.alloc (.cells (l.map Value.string).toArray T)) W2 → ∀ j, j < l.length → W2.cell? ⟨W.heap.size, j, none⟩ = some (.string (l.getD j default)) := by
  refine ⟨(C.bel ((Below.refl _ _).alloc (Nat.le_refl _) _)).1, fun W2 hF j hj => ?_⟩
  have h1 := C.gg.glt
  have h2 := C.gg.lt
  unfold World.cell?
  rw [hF.keep W.heap.size (by simp) (by omega) (by omega), heap_alloc_new]
  show (l.map Value.string).toArray[j]? = _
  rw [List.getElem?_toArray, List.getElem?_map, List.getElem?_eq_getElem hj, List.getD_eq_getElem?_getD, List.getElem?_eq_getElem hj]
  rfl
def leafTexts : List ByteArray := [{ data := #[] }, { data := #[97] }, { data := #[107, 101, 121] }, { data := #[120, 32, 121] }, { data := #[101, 110, 100] }, { data := #[49, 48] }]
theorem lt_size (j : Nat) (h : j < 6) : (leafTexts.getD j default).size ≤ 1000 := by
  have : j = 0 ∨ j = 1 ∨ j = 2 ∨ j = 3 ∨ j = 4 ∨ j = 5 := by omega
  rcases this with rfl | rfl | rfl | rfl | rfl | rfl <;> decide
set_option maxRecDepth 100000 in
set_option maxHeartbeats 2000000 in
theorem leaf_ex (bs : List Int) (s : Gs) (hb : Bts bs) (hl : bs.length ≤ 600) : ∃ l j, l.length = 1 ∧ Draws bs 69 (fun g => #[.pointer (some ⟨g, 0, none⟩)]) s l { s with i := j } := by
  obtain ⟨k1, hk1, kb1⟩ := nxn hb s.i
  obtain ⟨k2, hk2, kb2⟩ := nxn hb (stepG bs s).i
  obtain ⟨q, hq, hq16⟩ : ∃ q : Nat, ((k1 : Int) % 16) = (q : Int) ∧ q < 16 := ⟨k1 % 16, by omega, by omega⟩
  by_cases h6 : q < 6
  · have i1 : (q : Int) < 6 := by omega
    refine ⟨nameN (someS bs (stepG bs s)), nxi bs (nxi bs s.i), rfl, fun V w0 w av cv g r hv hr hG => ?_⟩
    have C0 : Hid (Cur V w0 av cv bs w g r no w s) := Cur.start hv hr hb hl hG
    have d0_0 := C0.out.gg.c0
    have D2 : Hid (Draws bs 68 (fun g => #[.pointer (some ⟨g, 0, none⟩)]) (stepG bs s) (nameN (someS bs (stepG bs s))) (stepG bs (stepG bs s))) := some_draws bs _ hb hl
    clear hG hr hv
    go_enter Try.func69, Try.ntmps69
    go_wp2_with (first
      | (go_at_call 68; refine (C1.out.call D2.out).mono ?_; rintro e w2 ⟨a2, c2, rfl, hX, hC, hF⟩; have C2 : Hid _ := hC; have X2_2 : Hid _ := hX; clear hC hX hF; have d0_2 := C2.out.gg.c0)
      | (go_at_call 9; refine (C0.out.next hk1).mono ?_; rintro e w1 ⟨rfl, hC, hF⟩; have C1 : Hid _ := hC; clear hC hF; have d0_1 := C1.out.gg.c0))
    go_returns
    exact C2.out.done X2_2.out
  by_cases h11 : q < 11
  · have i1 : ¬ ((q : Int) < 6) := by omega
    have i2 : (q : Int) < 11 := by omega
    obtain ⟨m, hm, hm12⟩ : ∃ m : Nat, ((k2 : Int) % 12) = (m : Int) ∧ m < 12 := ⟨k2 % 12, by omega, by omega⟩
    refine ⟨intN ((m : Int) - 1), nxi bs (nxi bs s.i), rfl, fun V w0 w av cv g r hv hr hG => ?_⟩
    have C0 : Hid (Cur V w0 av cv bs w g r no w s) := Cur.start hv hr hb hl hG
    have d0_0 := C0.out.gg.c0
    clear hG hr hv
    go_enter Try.func69, Try.ntmps69
    go_wp2_with (first
      | (go_at_call 46; refine (C2.out.make (l7int_any _ _)).mono ?_; rintro e w3 ⟨a3, c3, rfl, hX, hC, hF⟩; have C3 : Hid _ := hC; have X3_3 : Hid _ := hX; clear hC hX hF; have d0_3 := C3.out.gg.c0)
      | (go_at_call 9; refine (C1.out.next hk2).mono ?_; rintro e w2 ⟨rfl, hC, hF⟩; have C2 : Hid _ := hC; clear hC hF; have d0_2 := C2.out.gg.c0)
      | (go_at_call 9; refine (C0.out.next hk1).mono ?_; rintro e w1 ⟨rfl, hC, hF⟩; have C1 : Hid _ := hC; clear hC hF; have d0_1 := C1.out.gg.c0))
    go_returns
    exact C3.out.done X3_3.out
  by_cases h13 : q < 13
  · have i1 : ¬ ((q : Int) < 6) := by omega
    have i2 : ¬ ((q : Int) < 11) := by omega
    have i3 : (q : Int) < 13 := by omega
    obtain ⟨m, hm, hm6⟩ : ∃ m : Nat, ((k2 : Int) % 6) = (m : Int) ∧ m < 6 := ⟨k2 % 6, by omega, by omega⟩
    have hts := lt_size m hm6
    obtain ⟨tx, htx⟩ : ∃ t, t = leafTexts.getD m default := ⟨_, rfl⟩
    rw [← htx] at hts
    have HTX : Hid (leafTexts.getD m default = tx) := htx.symm
    clear htx
    refine ⟨textN tx, nxi bs (nxi bs s.i), rfl, fun V w0 w av cv g r hv hr hG => ?_⟩
    have C0 : Hid (Cur V w0 av cv bs w g r no w s) := Cur.start hv hr hb hl hG
    have d0_0 := C0.out.gg.c0
    clear hG hr hv
    go_enter Try.func69, Try.ntmps69
    go_wp2_with (first
      | (go_at_call 47; refine (C2.out.make (l7text_any _ _ hts)).mono ?_; rintro e w3 ⟨a3, c3, rfl, hX, hC, hF⟩; have C3 : Hid _ := hC; have X3_3 : Hid _ := hX; clear hC hX hF; have d0_3 := C3.out.gg.c0)
      | (go_at_call 9; refine (CT.out.1.next hk2).mono ?_; rintro e w2 ⟨rfl, hC, hF⟩; have C2 : Hid _ := hC; have kc := CT.out.2 _ hF m hm6; clear hC hF; rw [HTX.out] at kc)
      | (go_at_call 9; refine (C0.out.next hk1).mono ?_; rintro e w1 ⟨rfl, hC, hF⟩; have C1 : Hid _ := hC; clear hC hF; have d0_1 := C1.out.gg.c0; have CT : Hid _ := C1.out.strs leafTexts 9; have dT := CT.out.1.gg.c0; simp only [leafTexts, List.map_cons, List.map_nil] at dT))
    go_returns
    exact C3.out.done X3_3.out
  by_cases h13 : q = 13
  · subst h13
    refine ⟨leaf 12, nxi bs s.i, rfl, fun V w0 w av cv g r hv hr hG => ?_⟩
    have C0 : Hid (Cur V w0 av cv bs w g r no w s) := Cur.start hv hr hb hl hG
    have d0_0 := C0.out.gg.c0
    clear hG hr hv
    go_enter Try.func69, Try.ntmps69
    go_wp2_with (first
      | (go_at_call 70; refine (C1.out.make (l3leaf_any _ _)).mono ?_; rintro e w2 ⟨a2, c2, rfl, hX, hC, hF⟩; have C2 : Hid _ := hC; have X2_2 : Hid _ := hX; clear hC hX hF; have d0_2 := C2.out.gg.c0)
      | (go_at_call 9; refine (C0.out.next hk1).mono ?_; rintro e w1 ⟨rfl, hC, hF⟩; have C1 : Hid _ := hC; clear hC hF; have d0_1 := C1.out.gg.c0))
    go_returns
    exact C2.out.done X2_2.out
  by_cases h14 : q = 14
  · subst h14
    refine ⟨leaf 13, nxi bs s.i, rfl, fun V w0 w av cv g r hv hr hG => ?_⟩
    have C0 : Hid (Cur V w0 av cv bs w g r no w s) := Cur.start hv hr hb hl hG
    have d0_0 := C0.out.gg.c0
    clear hG hr hv
    go_enter Try.func69, Try.ntmps69
    go_wp2_with (first
      | (go_at_call 70; refine (C1.out.make (l3leaf_any _ _)).mono ?_; rintro e w2 ⟨a2, c2, rfl, hX, hC, hF⟩; have C2 : Hid _ := hC; have X2_2 : Hid _ := hX; clear hC hX hF; have d0_2 := C2.out.gg.c0)
      | (go_at_call 9; refine (C0.out.next hk1).mono ?_; rintro e w1 ⟨rfl, hC, hF⟩; have C1 : Hid _ := hC; clear hC hF; have d0_1 := C1.out.gg.c0))
    go_returns
    exact C2.out.done X2_2.out
  · obtain rfl : q = 15 := by omega
    refine ⟨leaf 11, nxi bs s.i, rfl, fun V w0 w av cv g r hv hr hG => ?_⟩
    have C0 : Hid (Cur V w0 av cv bs w g r no w s) := Cur.start hv hr hb hl hG
    have d0_0 := C0.out.gg.c0
    clear hG hr hv
    go_enter Try.func69, Try.ntmps69
    go_wp2_with (first
      | (go_at_call 70; refine (C1.out.make (l3leaf_any _ _)).mono ?_; rintro e w2 ⟨a2, c2, rfl, hX, hC, hF⟩; have C2 : Hid _ := hC; have X2_2 : Hid _ := hX; clear hC hX hF; have d0_2 := C2.out.gg.c0)
      | (go_at_call 9; refine (C0.out.next hk1).mono ?_; rintro e w1 ⟨rfl, hC, hF⟩; have C1 : Hid _ := hC; clear hC hF; have d0_1 := C1.out.gg.c0))
    go_returns
    exact C2.out.done X2_2.out
def freshL : List ByteArray := [{ data := #[97] }, { data := #[98] }, { data := #[99] }, { data := #[100] }, { data := #[101] }, { data := #[102] }, { data := #[103] }]
theorem fr_size (j : Nat) (h : j < 7) : (freshL.getD j default).size ≤ 1000 := by
  have : j = 0 ∨ j = 1 ∨ j = 2 ∨ j = 3 ∨ j = 4 ∨ j = 5 ∨ j = 6 := by omega
  rcases this with rfl | rfl | rfl | rfl | rfl | rfl | rfl <;> decide
set_option maxRecDepth 100000 in
set_option maxHeartbeats 2000000 in
theorem fresh_ex (bs : List Int) (s : Gs) (hb : Bts bs) : ∃ t : ByteArray, t.size ≤ 1000 ∧ ∀ (V Q : Nat → Bool) (w0 w W : World) (av : Option Addr) (cv g r : Nat), Cur V w0 av cv bs w g r Q W s →
    Calls Try.prog 56 #[.pointer (some ⟨g, 0, none⟩)] W fun e w' => e = .returned (.string t) ∧ Cur V w0 av cv bs w g r Q w' (stepG bs s) ∧ Fg g r W w' := by
  obtain ⟨k1, hk1, kb1⟩ := nxn hb s.i
  obtain ⟨m, hm, hm7⟩ : ∃ m : Nat, ((k1 : Int) % 7) = (m : Int) ∧ m < 7 := ⟨k1 % 7, by omega, by omega⟩
  have hts := fr_size m hm7
  obtain ⟨tx, htx⟩ : ∃ t, t = freshL.getD m default := ⟨_, rfl⟩
  rw [← htx] at hts
  have HTX : Hid (freshL.getD m default = tx) := htx.symm
  clear htx
  refine ⟨tx, hts, ?_⟩
  intro V Q w0 w W av cv g r C
  have C0 : Hid _ := C
  have CT : Hid _ := C.strs freshL 9
  have dT := CT.out.1.gg.c0
  have HF : Hid (Fg g r W (W.alloc (.cells (freshL.map Value.string).toArray 9))) := (C.bel ((Below.refl _ _).alloc (Nat.le_refl _) _)).2
  simp only [freshL, List.map_cons, List.map_nil] at dT
  clear C
  go_enter Try.func56, Try.ntmps56
  go_wp2_with (first
    | (go_at_call 9; refine (CT.out.1.next hk1).mono ?_; rintro e w2 ⟨rfl, hC, hF⟩; have C2 : Hid _ := hC; have kc := CT.out.2 _ hF m hm7; have F2 : Hid _ := HF.out.trans hF; clear hC hF; rw [HTX.out] at kc))
  go_returns
  exact ⟨rfl, C2.out, F2.out⟩
set_option maxRecDepth 100000 in
set_option maxHeartbeats 2000000 in
theorem target_ex (bs : List Int) (s : Gs) (hb : Bts bs) (hl : bs.length ≤ 600) : ∃ l j, l.length ≤ 3 ∧ Draws bs 54 (fun g => #[.pointer (some ⟨g, 0, none⟩)]) s l { s with i := j } := by
  obtain ⟨k2, hk2, kb2⟩ := nxn hb (stepG bs s).i
  obtain ⟨q, hq, hq3⟩ : ∃ q : Nat, ((k2 : Int) % 3) = (q : Int) ∧ q < 3 := ⟨k2 % 3, by omega, by omega⟩
  have D1 : Hid (Draws bs 68 (fun g => #[.pointer (some ⟨g, 0, none⟩)]) s (nameN (someS bs s)) (stepG bs s)) := some_draws bs _ hb hl
  by_cases h0 : q = 0
  · subst h0
    obtain ⟨l3, j3, hl3, hD3⟩ := leaf_ex bs (stepG bs (stepG bs s)) hb hl
    have D3 : Hid _ := hD3
    have HS : Hid ((node (kn 17) [nameN (someS bs s), l3]).length ≤ 1000000) := by show _ ≤ _; simp [node, nameN]; omega
    have HN : Hid ((node (kn 17) [nameN (someS bs s), l3]).length ≤ 3) := by show _ ≤ _; simp [node, nameN]; omega
    clear hD3 hl3
    refine ⟨node (kn 17) [nameN (someS bs s), l3], j3, HN.out, fun V w0 w av cv g r hv hr hG => ?_⟩
    have C0 : Hid (Cur V w0 av cv bs w g r no w s) := Cur.start hv hr hb hl hG
    have d0_0 := C0.out.gg.c0
    clear hG hr hv
    go_enter Try.func54, Try.ntmps54
    go_wp2_with (first
      | (go_at_call 45; obtain ⟨QL4, CL4, KL4, _⟩ := C3.out.lit (kr_two X1_3.out X3_3.out) rfl (by simp); refine (CL4.node (n := kn 17) rfl KL4 (rdV_nil _) (rdVV_nil _) HS.out (by simp)).mono ?_; clear CL4 KL4; rintro e w4 ⟨a4, c4, rfl, hX, hC, hF⟩; have C4 : Hid _ := hC; have X4_4 : Hid _ := hX; clear hC hX hF; have d0_4 := C4.out.gg.c0)
      | (go_at_call 69; refine (C2.out.call D3.out).mono ?_; rintro e w3 ⟨a3, c3, rfl, hX, hC, hF⟩; have C3 : Hid _ := hC; have X3_3 : Hid _ := hX; have X1_3 : Hid _ := C2.out.fn hF X1_2.out; clear hC hX hF; have d0_3 := C3.out.gg.c0)
      | (go_at_call 9; refine (C1.out.next hk2).mono ?_; rintro e w2 ⟨rfl, hC, hF⟩; have C2 : Hid _ := hC; have X1_2 : Hid _ := C1.out.fn hF X1_1.out; clear hC hF; have d0_2 := C2.out.gg.c0)
      | (go_at_call 68; refine (C0.out.call D1.out).mono ?_; rintro e w1 ⟨a1, c1, rfl, hX, hC, hF⟩; have C1 : Hid _ := hC; have X1_1 : Hid _ := hX; clear hC hX hF; have d0_1 := C1.out.gg.c0))
    go_returns
    exact C4.out.done X4_4.out
  · have i1 : ¬ ((q : Int) = 0) := by omega
    refine ⟨nameN (someS bs s), nxi bs (nxi bs s.i), by simp [nameN], fun V w0 w av cv g r hv hr hG => ?_⟩
    have C0 : Hid (Cur V w0 av cv bs w g r no w s) := Cur.start hv hr hb hl hG
    have d0_0 := C0.out.gg.c0
    clear hG hr hv
    go_enter Try.func54, Try.ntmps54
    go_wp2_with (first
      | (go_at_call 9; refine (C1.out.next hk2).mono ?_; rintro e w2 ⟨rfl, hC, hF⟩; have C2 : Hid _ := hC; have X1_2 : Hid _ := C1.out.fn hF X1_1.out; clear hC hF; have d0_2 := C2.out.gg.c0)
      | (go_at_call 68; refine (C0.out.call D1.out).mono ?_; rintro e w1 ⟨a1, c1, rfl, hX, hC, hF⟩; have C1 : Hid _ := hC; have X1_1 : Hid _ := hX; clear hC hX hF; have d0_1 := C1.out.gg.c0))
    go_returns
    exact C2.out.done X1_2.out
section
variable {V Q : Nat → Bool} {w0 w W W' : World} {av : Option Addr} {cv g r : Nat} {bs : List Int} {s s' : Gs} {x : Value} {l : List Nd}
theorem Fg.set (W : World) (j : Nat) (u : Value) (h : r < g) : Fg g r W (W.setCell ⟨g, j, none⟩ u) :=
  ⟨(Below.refl _ _).setCell (p := ⟨g, j, none⟩) (Nat.le_of_lt h) _, fun b _ _ hb => Below.heap_setCell W ⟨g, j, none⟩ _ b hb⟩
theorem Cur.set (C : Cur V w0 av cv bs w g r Q W s) (j : Nat) (u : Value) (nv : Value) {s' : Gs} (hi : s'.i = s.i)
    (hL : ∀ nv0, Lone 71 5 W g [.pointer (some ⟨r, 0, none⟩), nv0, .int .i64 s.fuel, .bool s.loop, .bool s.fn] → RdS (veil (vq V Q) W) nv0 s.names → [.pointer (some ⟨r, 0, none⟩), nv0, .int .i64 s.fuel, .bool s.loop, .bool s.fn].set j u = [.pointer (some ⟨r, 0, none⟩), nv, .int .i64 s'.fuel, .bool s'.loop, .bool s'.fn] ∧ RdS (veil (vq V Q) W) nv s'.names)
    (few : s'.names.length ≤ 100000) (short : ∀ x ∈ s'.names, x.size ≤ 1000) (low : -100000 ≤ s'.fuel) (high : s'.fuel ≤ 100000) : Cur V w0 av cv bs w g r Q (W.setCell ⟨g, j, none⟩ u) s' ∧ Fg g r W (W.setCell ⟨g, j, none⟩ u) := by
  have hF : Fg g r W (W.setCell ⟨g, j, none⟩ u) := Fg.set W j u C.gg.lt
  have h1 := C.gg.glt
  have h2 := C.gg.lt
  obtain ⟨nv0, h3, h4⟩ := C.gg.own
  obtain ⟨e1, e2⟩ := hL nv0 h3 h4
  have hR := C.gg.rd
  refine ⟨C.to hF ⟨⟨?_, hR.2.1, ?_, by rw [hi]; exact hR.2.2.2⟩, C.gg.lt, ⟨nv, by rw [← e1]; exact h3.set j u, e2.up (hF.up C.gg.vg C.gg.vr)⟩, C.gg.vg, C.gg.vr, few, short, low, high⟩, hF⟩
  · exact hR.1.trans (hF.below.mono hR.2.1)
  · rw [hi]
    exact own_far hR.2.2.1 (fun b e => by cases e; exact Below.heap_setCell W ⟨g, j, none⟩ _ r (by show ¬ r = g; omega))
theorem Cur.setFuel (C : Cur V w0 av cv bs w g r Q W s) (f : Int) (low : -100000 ≤ f) (high : f ≤ 100000) : Cur V w0 av cv bs w g r Q (W.setCell ⟨g, 2, none⟩ (.int .i64 f)) { s with fuel := f } ∧ Fg g r W (W.setCell ⟨g, 2, none⟩ (.int .i64 f)) := by
  obtain ⟨nv0, h3, h4⟩ := C.gg.own
  obtain ⟨nv1, h5, h6⟩ := C.gg.c1
  have e : nv1 = nv0 := by
    have := h3.at (j := 1) (by omega)
    rw [h5] at this
    exact Option.some.inj this
  refine C.set 2 _ nv0 rfl (fun nv h k => ?_) C.gg.few C.gg.short low high
  have : nv = nv0 := by
    have h7 := h.at (j := 1) (by omega)
    have h8 := h3.at (j := 1) (by omega)
    exact Option.some.inj (h7.symm.trans h8)
  subst this
  exact ⟨rfl, k⟩
theorem Cur.setLoop (C : Cur V w0 av cv bs w g r Q W s) (f : Bool) : Cur V w0 av cv bs w g r Q (W.setCell ⟨g, 3, none⟩ (.bool f)) { s with loop := f } ∧ Fg g r W (W.setCell ⟨g, 3, none⟩ (.bool f)) := by
  obtain ⟨nv0, h3, h4⟩ := C.gg.own
  refine C.set 3 _ nv0 rfl (fun nv h k => ?_) C.gg.few C.gg.short C.gg.low C.gg.high
  have : nv = nv0 := by
    have h7 := h.at (j := 1) (by omega)
    have h8 := h3.at (j := 1) (by omega)
    exact Option.some.inj (h7.symm.trans h8)
  subst this
  exact ⟨rfl, k⟩
theorem Cur.setFn (C : Cur V w0 av cv bs w g r Q W s) (f : Bool) : Cur V w0 av cv bs w g r Q (W.setCell ⟨g, 4, none⟩ (.bool f)) { s with fn := f } ∧ Fg g r W (W.setCell ⟨g, 4, none⟩ (.bool f)) := by
  obtain ⟨nv0, h3, h4⟩ := C.gg.own
  refine C.set 4 _ nv0 rfl (fun nv h k => ?_) C.gg.few C.gg.short C.gg.low C.gg.high
  have : nv = nv0 := by
    have h7 := h.at (j := 1) (by omega)
    have h8 := h3.at (j := 1) (by omega)
    exact Option.some.inj (h7.symm.trans h8)
  subst this
  exact ⟨rfl, k⟩
theorem Cur.setNames (C : Cur V w0 av cv bs w g r Q W s) (nv : Value) (ns : List ByteArray) (hn : RdS (veil (vq V Q) W) nv ns) (few : ns.length ≤ 100000) (short : ∀ x ∈ ns, x.size ≤ 1000) : Cur V w0 av cv bs w g r Q (W.setCell ⟨g, 1, none⟩ nv) { s with names := ns } ∧ Fg g r W (W.setCell ⟨g, 1, none⟩ nv) :=
  C.set 1 _ nv rfl (fun _ _ _ => ⟨rfl, hn⟩) few short C.gg.low C.gg.high
end
def ExprC (bs : List Int) (n : Nat) : Prop := ∀ (s : Gs) (d : Nat), d ≤ 5 → -40000 ≤ s.fuel → s.fuel ≤ n → s.fuel ≤ 200 → (s.names.length : Int) + 4 * s.fuel ≤ 2000 →
  ∃ l j f, Draws bs 55 (fun g => #[.pointer (some ⟨g, 0, none⟩), .int .i64 (d : Int)]) s l { s with i := j, fuel := f } ∧ f ≤ s.fuel - 1 ∧ (s.fuel ≤ 0 → f = s.fuel - 1) ∧ (0 < s.fuel → -10 * s.fuel ≤ f) ∧ (l.length : Int) ≤ 20 * (s.fuel - f)
def StatC (bs : List Int) (n : Nat) : Prop := ∀ (s : Gs) (d : Nat), d ≤ 5 → 0 < s.fuel → s.fuel ≤ n → s.fuel ≤ 200 → (s.names.length : Int) + 4 * s.fuel ≤ 2000 →
  ∃ l j f ns, Draws bs 49 (fun g => #[.pointer (some ⟨g, 0, none⟩), .int .i64 (d : Int)]) s l { s with i := j, fuel := f, names := ns } ∧ f ≤ s.fuel - 1 ∧ -10 * s.fuel - 1 ≤ f ∧ (l.length : Int) ≤ 20 * (s.fuel - f) ∧ ns.length ≤ s.names.length + 2
def PartC (bs : List Int) (n : Nat) (fn : Nat) (ar : Nat → Nat → Array Value) (c : Int) : Prop := ∀ (s : Gs) (d : Nat), d ≤ 5 → -39000 ≤ s.fuel → s.fuel ≤ n → s.fuel ≤ 200 → (s.names.length : Int) + 4 * s.fuel ≤ 2000 →
  ∃ l j f, Draws bs fn (ar d) s l { s with i := j, fuel := f } ∧ f ≤ s.fuel ∧ (s.fuel ≤ 0 → s.fuel - 3 ≤ f) ∧ (0 < s.fuel → -10 * s.fuel - 3 ≤ f) ∧ (l.length : Int) ≤ c + 20 * (s.fuel - f)
def ag1 (d : Nat) : Nat → Array Value := fun g => #[.pointer (some ⟨g, 0, none⟩), .int .i64 (d : Int)]
def ag0 (_ : Nat) : Nat → Array Value := fun g => #[.pointer (some ⟨g, 0, none⟩)]
def upto (ls : Nat → List Nd) (k : Nat) : List (List Nd) := (List.range k).map ls
theorem upto_succ (ls : Nat → List Nd) (k : Nat) : upto ls (k + 1) = upto ls k ++ [ls k] := by simp [upto, List.range_succ]
theorem upto_length (ls : Nat → List Nd) (k : Nat) : (upto ls k).length = k := by simp [upto]
theorem upto_zero (ls : Nat → List Nd) : upto ls 0 = [] := rfl
theorem seqE {bs : List Int} {n : Nat} (E : ExprC bs n) (s : Gs) (d m : Nat) (hd : d ≤ 5) (h1 : -40000 + (m : Int) ≤ s.fuel) (hm : m ≤ 10) (h2 : s.fuel ≤ n) (h3 : s.fuel ≤ 200) (h4 : (s.names.length : Int) + 4 * s.fuel ≤ 2000) :
    ∃ (js : Nat → Nat) (fs : Nat → Int) (ls : Nat → List Nd), js 0 = s.i ∧ fs 0 = s.fuel ∧ (∀ k, k < m → Draws bs 55 (fun g => #[.pointer (some ⟨g, 0, none⟩), .int .i64 (d : Int)]) { s with i := js k, fuel := fs k } (ls k) { s with i := js (k + 1), fuel := fs (k + 1) }) ∧
      ∀ k, k ≤ m → fs k ≤ s.fuel - k ∧ (s.fuel ≤ 0 → fs k = s.fuel - k) ∧ (0 < s.fuel → -10 * s.fuel - k ≤ fs k) ∧ ((upto ls k).flatten.length : Int) ≤ 20 * (s.fuel - fs k) := by
  induction m with
  | zero => exact ⟨fun _ => s.i, fun _ => s.fuel, fun _ => [], rfl, rfl, fun k hk => absurd hk (by omega), fun k hk => by
      obtain rfl : k = 0 := by omega
      simp [upto]
      omega⟩
  | succ m ih =>
    obtain ⟨js, fs, ls, e1, e2, hD, hB⟩ := ih (by omega) (by omega)
    have hb := hB m (Nat.le_refl _)
    obtain ⟨l, j, f, hDl, b1, b2, b3, b4⟩ := E { s with i := js m, fuel := fs m } d hd (by show _ ≤ fs m; omega) (by show fs m ≤ _; omega) (by show fs m ≤ _; omega) (by show (s.names.length : Int) + 4 * fs m ≤ _; omega)
    simp only at b1 b2 b3 b4
    refine ⟨fun k => if k ≤ m then js k else j, fun k => if k ≤ m then fs k else f, fun k => if k < m then ls k else l, by simp [e1], by simp [e2], fun k hk => ?_, fun k hk => ?_⟩
    · by_cases hkm : k < m
      · have := hD k hkm
        simp only [if_pos (show k ≤ m by omega), if_pos (show k + 1 ≤ m by omega), if_pos hkm]
        exact this
      · obtain rfl : k = m := by omega
        simp only [if_pos (Nat.le_refl k), if_neg (show ¬ k + 1 ≤ k by omega), if_neg (Nat.lt_irrefl k)]
        exact hDl
    · have hup : ∀ k, k ≤ m → upto (fun k => if k < m then ls k else l) k = upto ls k := fun k hk => by
        unfold upto
        refine List.map_congr_left (fun i hi => ?_)
        rw [List.mem_range] at hi
        rw [if_pos (by omega)]
      by_cases hkm : k ≤ m
      · rw [hup k hkm]
        simp only [if_pos hkm]
        exact hB k hkm
      · obtain rfl : k = m + 1 := by omega
        rw [upto_succ, hup m (Nat.le_refl _)]
        simp only [if_neg (show ¬ m + 1 ≤ m by omega), if_neg (Nat.lt_irrefl m), List.flatten_append, List.length_append, List.flatten_cons, List.flatten_nil, List.append_nil]
        omega
theorem seqX {bs : List Int} {F : Nat} {ag : Nat → Array Value} {b : Nat} (h : ∀ s, ∃ l j, l.length ≤ b ∧ Draws bs F ag s l { s with i := j }) (s : Gs) :
    ∃ (js : Nat → Nat) (ls : Nat → List Nd), js 0 = s.i ∧ (∀ k, Draws bs F ag { s with i := js k } (ls k) { s with i := js (k + 1) }) ∧ ∀ k, (upto ls k).flatten.length ≤ b * k := by
  let J : Gs → Nat := fun s => (h s).choose_spec.choose
  let L : Gs → List Nd := fun s => (h s).choose
  have hJ : ∀ s, (L s).length ≤ b ∧ Draws bs F ag s (L s) { s with i := J s } := fun s => (h s).choose_spec.choose_spec
  let js : Nat → Nat := fun k => Nat.rec s.i (fun _ j => J { s with i := j }) k
  refine ⟨js, fun k => L { s with i := js k }, rfl, fun k => (hJ { s with i := js k }).2, fun k => ?_⟩
  induction k with
  | zero => simp [upto]
  | succ k ih =>
    rw [upto_succ, List.flatten_append, List.length_append]
    have := (hJ { s with i := js k }).1
    simp only [List.flatten_cons, List.flatten_nil, List.append_nil, Nat.mul_succ]
    omega
def printB : ByteArray := { data := #[112, 114, 105, 110, 116] }
set_option maxRecDepth 100000 in
set_option maxHeartbeats 2000000 in
theorem print_of {bs : List Int} {n : Nat} (hb : Bts bs) (hl : bs.length ≤ 600) (E : ExprC bs n) : PartC bs n 52 ag0 3 := by
  intro s d _ h1 h2 h3 h4
  obtain ⟨k1, hk1, kb1⟩ := nxn hb s.i
  obtain ⟨q, hq, hq2⟩ : ∃ q : Nat, ((k1 : Int) % 2) = (q : Int) ∧ q < 2 := ⟨k1 % 2, by omega, by omega⟩
  obtain ⟨m, hm⟩ : ∃ m : Nat, m = 1 + q := ⟨_, rfl⟩
  have em : (1 : Int) + (q : Int) = (m : Int) := by omega
  have hm2 : m ≤ 2 := by omega
  have hm1 : 1 ≤ m := by omega
  obtain ⟨js, fs, ls, e1, e2, hD, hB⟩ := seqE E (stepG bs s) 2 m (by omega) (by show _ ≤ s.fuel; omega) (by omega) h2 h3 h4
  have hBm := hB m (Nat.le_refl _)
  have e3 : (stepG bs s).fuel = s.fuel := rfl
  rw [e3] at hBm
  have HL : Hid (((upto ls m).flatten.length : Int) ≤ 20 * (s.fuel - fs m)) := hBm.2.2.2
  have HS1 : Hid ((node (kn 18) (nameN printB :: upto ls m)).length ≤ 1000000) := by show _ ≤ _; simp only [node, List.length_cons, List.flatten_cons, List.length_append, nameN, List.length_nil]; omega
  have HS2 : Hid ((node (kn 10) [node (kn 18) (nameN printB :: upto ls m)]).length ≤ 1000000) := by show _ ≤ _; simp only [node, List.length_cons, List.flatten_cons, List.length_append, nameN, List.length_nil, List.flatten_nil]; omega
  refine ⟨node (kn 10) [node (kn 18) (nameN printB :: upto ls m)], js m, fs m, fun V w0 w av cv g r hv hr hG => ?_, by omega, by omega, by omega, ?_⟩
  case refine_2 =>
    have := HL.out
    simp only [node, List.length_cons, List.flatten_cons, List.length_append, nameN, List.length_nil, List.flatten_nil]
    omega
  have C0 : Hid (Cur V w0 av cv bs w g r no w s) := Cur.start hv hr hb hl hG
  have d0_0 := C0.out.gg.c0
  have HD : Hid (∀ k, k < m → Draws bs 55 (fun g => #[.pointer (some ⟨g, 0, none⟩), .int .i64 ((2 : Nat) : Int)]) { s with i := js k, fuel := fs k } (ls k) { s with i := js (k + 1), fuel := fs (k + 1) }) := hD
  have HC : Hid (∀ W, Cur V w0 av cv bs w g r no W (stepG bs s) → Cur V w0 av cv bs w g r no W { s with i := js 0, fuel := fs 0 }) := fun W h => by
    rw [e1, e2]; exact h
  clear hG hr hv hB hBm e1 e2 e3 hD E h1 h2 h3 h4 HL hm
  show Calls Try.prog 52 #[.pointer (some ⟨g, 0, none⟩)] w _
  go_enter Try.func52, Try.ntmps52
  go_wp2_with (first
    | (go_at_call 9; refine (C0.out.next hk1).mono ?_; rintro e w1 ⟨rfl, hC, hF⟩; have C1 : Hid _ := hC; clear hC hF; have d0_1 := C1.out.gg.c0))
  try rw [hq]
  go_loopw [3, 5] (fun va vi wr => ∃ (k c : Nat) (Q : Nat → Bool) (a : Option Addr), k ≤ m ∧ vi = .int .i64 (k : Int) ∧ va = .slice a k c ∧ Hid (Cur V w0 av cv bs w g r Q wr { s with i := js k, fuel := fs k }) ∧ Hid (Kids w Q wr (.slice a k c) (upto ls k))) (fun _ x _ => m - (intOf x).toNat)
  case atStart => exact ⟨0, 0, no, none, Nat.zero_le _, rfl, rfl, HC.out _ C1.out, kids_nil⟩
  case round =>
    obtain ⟨k, c, Q, a, hkm, rfl, rfl, C2, K2⟩ := hrel
    by_cases hlt : k < m
    · have i1 : (k : Int) < (m : Int) := by omega
      have D3 : Hid _ := HD.out k hlt
      go_wp2_with (first
        | (at_builtin; refine wpList_append_kids rfl _ _ rfl C3.out [.slice a3 (ls k).length c3] rfl rfl rfl K2_3.out (upto_length _ _).symm (kr_one X3_3.out) (by rw [upto_length]; simp; omega) rfl ?_; intro a4 c4 w4 Q4 hK hC _; have C4 : Hid _ := hC; have K4 : Hid _ := hK; clear hC hK)
        | (go_at_call 55; refine (C2.out.call D3.out).mono ?_; rintro e w3 ⟨a3, c3, rfl, hX, hC, hF⟩; have C3 : Hid _ := hC; have X3_3 : Hid _ := hX; have K2_3 : Hid _ := C2.out.kids hF K2.out; clear hC hX hF; have d0_3 := C3.out.gg.c0))
      refine ⟨⟨k + 1, c4, Q4, a4, by omega, by go_num, rfl, C4.out, by rw [upto_succ]; exact K4.out⟩, by simp [intOf]; omega⟩
    · obtain rfl : k = m := by omega
      have i1 : ¬ ((k : Int) < (k : Int)) := by omega
      go_wp2_with (first
        | (go_at_call 45; obtain ⟨QL5, CL5, KL5, _⟩ := C4.out.lit (kr_one X4_4.out) rfl (by simp); refine (CL5.node (n := kn 10) rfl KL5 (rdV_nil _) (rdVV_nil _) HS2.out (by simp)).mono ?_; clear CL5 KL5; rintro e w5 ⟨a5, c5, rfl, hX, hC, hF⟩; have C5 : Hid _ := hC; have X5_5 : Hid _ := hX; clear hC hX hF; have d0_5 := C5.out.gg.c0)
        | (go_at_call 66; refine (C3.out.callOf rfl X3_3.out K2_3.out HS1.out (by rw [upto_length]; omega)).mono ?_; rintro e w4 ⟨a4, c4, rfl, hX, hC, hF⟩; have C4 : Hid _ := hC; have X4_4 : Hid _ := hX; clear hC hX hF; have d0_4 := C4.out.gg.c0)
        | (go_at_call 67; refine (C2.out.make (l7name_any _ printB (by decide))).mono ?_; rintro e w3 ⟨a3, c3, rfl, hX, hC, hF⟩; have C3 : Hid _ := hC; have X3_3 : Hid _ := hX; have K2_3 : Hid _ := C2.out.kids hF K2.out; clear hC hX hF; have d0_3 := C3.out.gg.c0))
      go_returns
      exact C5.out.done X5_5.out
def tostringB : ByteArray := { data := #[116, 111, 115, 116, 114, 105, 110, 103] }
def pcallB : ByteArray := { data := #[112, 99, 97, 108, 108] }
def typeB : ByteArray := { data := #[116, 121, 112, 101] }
theorem leafs (bs : List Int) (hb : Bts bs) (hl : bs.length ≤ 600) (s : Gs) : ∃ l j, l.length ≤ 1 ∧ Draws bs 69 (fun g => #[.pointer (some ⟨g, 0, none⟩)]) s l { s with i := j } := by
  obtain ⟨l, j, h, hD⟩ := leaf_ex bs s hb hl
  exact ⟨l, j, by omega, hD⟩
set_option maxRecDepth 100000 in
set_option maxHeartbeats 4000000 in
theorem call_of {bs : List Int} {n : Nat} (hb : Bts bs) (hl : bs.length ≤ 600) (E : ExprC bs n) : PartC bs n 60 ag1 6 := by
  intro s d hd5 h1 h2 h3 h4
  obtain ⟨k1, hk1, kb1⟩ := nxn hb s.i
  obtain ⟨k2, hk2, kb2⟩ := nxn hb (stepG bs s).i
  obtain ⟨q, hq, hq10⟩ : ∃ q : Nat, ((k1 : Int) % 10) = (q : Int) ∧ q < 10 := ⟨k1 % 10, by omega, by omega⟩
  obtain ⟨m, hm, hm3⟩ : ∃ m : Nat, ((k2 : Int) % 3) = (m : Int) ∧ m < 3 := ⟨k2 % 3, by omega, by omega⟩
  by_cases q3 : q < 3
  · have j1 : (q : Int) < 3 := by omega
    obtain ⟨l, j, f, hD, b1, b2, b3, b4⟩ := E (stepG bs (stepG bs s)) d hd5 (by show _ ≤ s.fuel; omega) h2 h3 h4
    have e3 : (stepG bs (stepG bs s)).fuel = s.fuel := rfl
    rw [e3] at b1 b2 b3 b4
    have HS : Hid ((node (kn 18) (nameN tostringB :: [l])).length ≤ 1000000) := by show _ ≤ _; simp only [node, List.length_cons, List.flatten_cons, List.length_append, nameN, List.length_nil, List.flatten_nil]; omega
    refine ⟨node (kn 18) (nameN tostringB :: [l]), j, f, fun V w0 w av cv g r hv hr hG => ?_, by omega, by omega, by omega, by simp only [node, List.length_cons, List.flatten_cons, List.length_append, nameN, List.length_nil, List.flatten_nil]; omega⟩
    have C0 : Hid (Cur V w0 av cv bs w g r no w s) := Cur.start hv hr hb hl hG
    have d0_0 := C0.out.gg.c0
    have D4 : Hid _ := hD
    clear hG hr hv hD E h1 h2 h3 h4 b1 b2 b3 b4 e3
    show Calls Try.prog 60 #[.pointer (some ⟨g, 0, none⟩), .int .i64 (d : Int)] w _
    go_enter Try.func60, Try.ntmps60
    go_wp2_with (first
      | (go_at_call 66; obtain ⟨QL, CL, KL, ML⟩ := C4.out.lit (kr_one X4_4.out) rfl (by simp); refine (CL.callOf rfl (ML.fn X3_4.out) KL HS.out (by simp)).mono ?_; rintro e w5 ⟨a5, c5, rfl, hX, hC, hF⟩; have C5 : Hid _ := hC; have X5_5 : Hid _ := hX; clear hC hX hF; have d0_5 := C5.out.gg.c0)
      | (go_at_call 55; refine (C3.out.call D4.out).mono ?_; rintro e w4 ⟨a4, c4, rfl, hX, hC, hF⟩; have C4 : Hid _ := hC; have X4_4 : Hid _ := hX; have X3_4 : Hid _ := C3.out.fn hF X3_3.out; clear hC hX hF; have d0_4 := C4.out.gg.c0)
      | (go_at_call 67; refine (C2.out.make (l7name_any _ tostringB (by decide))).mono ?_; rintro e w3 ⟨a3, c3, rfl, hX, hC, hF⟩; have C3 : Hid _ := hC; have X3_3 : Hid _ := hX; clear hC hX hF; have d0_3 := C3.out.gg.c0)
      | (go_at_call 9; refine (C1.out.next hk2).mono ?_; rintro e w2 ⟨rfl, hC, hF⟩; have C2 : Hid _ := hC; clear hC hF; have d0_2 := C2.out.gg.c0)
      | (go_at_call 9; refine (C0.out.next hk1).mono ?_; rintro e w1 ⟨rfl, hC, hF⟩; have C1 : Hid _ := hC; clear hC hF; have d0_1 := C1.out.gg.c0))
    go_returns
    exact C5.out.done X5_5.out
  have DS : Hid (Draws bs 68 (fun g => #[.pointer (some ⟨g, 0, none⟩)]) (stepG bs (stepG bs s)) (nameN (someS bs (stepG bs (stepG bs s)))) (stepG bs (stepG bs (stepG bs s)))) := some_draws bs _ hb hl
  by_cases q5 : q < 5
  · have j1 : ¬ ((q : Int) < 3) := by omega
    have j2 : (q : Int) < 5 := by omega
    obtain ⟨js, ls, e1, hD, hB⟩ := seqX (leafs bs hb hl) (stepG bs (stepG bs (stepG bs s)))
    have hBm := hB m
    have HS : Hid ((node (kn 18) (nameN pcallB :: nameN (someS bs (stepG bs (stepG bs s))) :: upto ls m)).length ≤ 1000000) := by show _ ≤ _; simp only [node, List.length_cons, List.flatten_cons, List.length_append, nameN, List.length_nil]; omega
    refine ⟨node (kn 18) (nameN pcallB :: nameN (someS bs (stepG bs (stepG bs s))) :: upto ls m), js m, s.fuel, fun V w0 w av cv g r hv hr hG => ?_, by omega, by omega, by omega, by simp only [node, List.length_cons, List.flatten_cons, List.length_append, nameN, List.length_nil]; omega⟩
    have C0 : Hid (Cur V w0 av cv bs w g r no w s) := Cur.start hv hr hb hl hG
    have d0_0 := C0.out.gg.c0
    have HD : Hid (∀ k, k < m → Draws bs 69 (fun g => #[.pointer (some ⟨g, 0, none⟩)]) { s with i := js k } (ls k) { s with i := js (k + 1) }) := fun k _ => hD k
    have HC : Hid (∀ W Q, Cur V w0 av cv bs w g r Q W (stepG bs (stepG bs (stepG bs s))) → Cur V w0 av cv bs w g r Q W { s with i := js 0 }) := fun W Q h => by
      rw [e1]; exact h
    clear hG hr hv hD E h1 h2 h3 h4 hB hBm e1
    show Calls Try.prog 60 #[.pointer (some ⟨g, 0, none⟩), .int .i64 (d : Int)] w _
    go_enter Try.func60, Try.ntmps60
    go_wp2_with (first
      | (at_builtin; refine wpList_append_kids rfl _ _ rfl C3.out [.slice a3 (nameN (someS bs (stepG bs (stepG bs s)))).length c3] rfl rfl rfl kids_nil rfl (kr_one X3_3.out) (by simp) rfl ?_; intro a4 c4 w4 Q4 hK hC hM; have C4 : Hid _ := hC; have K4 : Hid _ := hK; clear hC hK hM)
      | (go_at_call 68; refine (C2.out.call DS.out).mono ?_; rintro e w3 ⟨a3, c3, rfl, hX, hC, hF⟩; have C3 : Hid _ := hC; have X3_3 : Hid _ := hX; clear hC hX hF; have d0_3 := C3.out.gg.c0)
      | (go_at_call 9; refine (C1.out.next hk2).mono ?_; rintro e w2 ⟨rfl, hC, hF⟩; have C2 : Hid _ := hC; clear hC hF; have d0_2 := C2.out.gg.c0)
      | (go_at_call 9; refine (C0.out.next hk1).mono ?_; rintro e w1 ⟨rfl, hC, hF⟩; have C1 : Hid _ := hC; clear hC hF; have d0_1 := C1.out.gg.c0))
    try rw [hq]
    try rw [hm]
    go_loopw [6, 8] (fun va vi wr => ∃ (k c : Nat) (Q : Nat → Bool) (a : Option Addr), k ≤ m ∧ vi = .int .i64 (k : Int) ∧ va = .slice a (1 + k) c ∧ Hid (Cur V w0 av cv bs w g r Q wr { s with i := js k }) ∧ Hid (Kids w Q wr (.slice a (1 + k) c) (nameN (someS bs (stepG bs (stepG bs s))) :: upto ls k))) (fun _ x _ => m - (intOf x).toNat)
    case atStart => exact ⟨0, c4, Q4, a4, Nat.zero_le _, rfl, by simp, HC.out _ _ C4.out, K4.out⟩
    case round =>
      obtain ⟨k, c, Q, a, hkm, rfl, rfl, C20, K20⟩ := hrel
      by_cases hlt : k < m
      · have i1 : (k : Int) < (m : Int) := by omega
        have D21 : Hid _ := HD.out k hlt
        go_wp2_with (first
          | (at_builtin; refine wpList_append_kids rfl _ _ rfl C21.out [.slice a21 (ls k).length c21] rfl rfl rfl K20_21.out (by simp [upto_length]; omega) (kr_one X21_21.out) (by simp [upto_length]; omega) rfl ?_; intro a22 c22 w22 Q22 hK hC hM; have C22 : Hid _ := hC; have K22 : Hid _ := hK; clear hC hK hM)
          | (go_at_call 69; refine (C20.out.call D21.out).mono ?_; rintro e w21 ⟨a21, c21, rfl, hX, hC, hF⟩; have C21 : Hid _ := hC; have X21_21 : Hid _ := hX; have K20_21 : Hid _ := C20.out.kids hF K20.out; clear hC hX hF; have d0_21 := C21.out.gg.c0))
        refine ⟨⟨k + 1, c22, Q22, a22, by omega, by go_num, rfl, C22.out, by rw [upto_succ]; exact K22.out⟩, by simp [intOf]; omega⟩
      · obtain rfl : k = m := by omega
        have i1 : ¬ ((k : Int) < (k : Int)) := by omega
        go_wp2_with (first
        | (go_at_call 66; refine (C21.out.callOf rfl X21_21.out K20_21.out HS.out (by simp [upto_length]; omega)).mono ?_; rintro e w22 ⟨a22, c22, rfl, hX, hC, hF⟩; have C22 : Hid _ := hC; have X22_22 : Hid _ := hX; clear hC hX hF; have d0_22 := C22.out.gg.c0)
        | (go_at_call 67; refine (C20.out.make (l7name_any _ pcallB (by decide))).mono ?_; rintro e w21 ⟨a21, c21, rfl, hX, hC, hF⟩; have C21 : Hid _ := hC; have X21_21 : Hid _ := hX; have K20_21 : Hid _ := C20.out.kids hF K20.out; clear hC hX hF; have d0_21 := C21.out.gg.c0))
        go_returns
        exact C22.out.done X22_22.out
  · have j1 : ¬ ((q : Int) < 3) := by omega
    have j2 : ¬ ((q : Int) < 5) := by omega
    obtain ⟨js, fs, ls, e1, e2, hD, hB⟩ := seqE E (stepG bs (stepG bs (stepG bs s))) d m hd5 (by show _ ≤ s.fuel; omega) (by omega) h2 h3 h4
    have hBm := hB m (Nat.le_refl _)
    have e3 : (stepG bs (stepG bs (stepG bs s))).fuel = s.fuel := rfl
    rw [e3] at hBm
    by_cases q6 : q = 5
    · subst q6
      have HS : Hid ((node (kn 18) (nameN typeB :: upto ls m)).length ≤ 1000000) := by show _ ≤ _; simp only [node, List.length_cons, List.flatten_cons, List.length_append, nameN, List.length_nil]; omega
      refine ⟨node (kn 18) (nameN typeB :: upto ls m), js m, fs m, fun V w0 w av cv g r hv hr hG => ?_, by omega, by omega, by omega, by simp only [node, List.length_cons, List.flatten_cons, List.length_append, nameN, List.length_nil]; omega⟩
      have C0 : Hid (Cur V w0 av cv bs w g r no w s) := Cur.start hv hr hb hl hG
      have d0_0 := C0.out.gg.c0
      have HD : Hid (∀ k, k < m → Draws bs 55 (fun g => #[.pointer (some ⟨g, 0, none⟩), .int .i64 (d : Int)]) { s with i := js k, fuel := fs k } (ls k) { s with i := js (k + 1), fuel := fs (k + 1) }) := hD
      have HC : Hid (∀ W Q, Cur V w0 av cv bs w g r Q W (stepG bs (stepG bs (stepG bs s))) → Cur V w0 av cv bs w g r Q W { s with i := js 0, fuel := fs 0 }) := fun W Q h => by
        rw [e1, e2]; exact h
      clear hG hr hv hD E h1 h2 h3 h4 hB hBm e1 e2 e3
      show Calls Try.prog 60 #[.pointer (some ⟨g, 0, none⟩), .int .i64 (d : Int)] w _
      go_enter Try.func60, Try.ntmps60
      go_wp2_with (first
        | (go_at_call 67; refine (C3.out.make (l7name_any _ typeB (by decide))).mono ?_; rintro e w4 ⟨a4, c4, rfl, hX, hC, hF⟩; have C4 : Hid _ := hC; have X4_4 : Hid _ := hX; clear hC hX hF; have d0_4 := C4.out.gg.c0)
        | (go_at_call 68; refine (C2.out.call DS.out).mono ?_; rintro e w3 ⟨a3, c3, rfl, hX, hC, hF⟩; have C3 : Hid _ := hC; have X3_3 : Hid _ := hX; clear hC hX hF; have d0_3 := C3.out.gg.c0)
        | (go_at_call 9; refine (C1.out.next hk2).mono ?_; rintro e w2 ⟨rfl, hC, hF⟩; have C2 : Hid _ := hC; clear hC hF; have d0_2 := C2.out.gg.c0)
        | (go_at_call 9; refine (C0.out.next hk1).mono ?_; rintro e w1 ⟨rfl, hC, hF⟩; have C1 : Hid _ := hC; clear hC hF; have d0_1 := C1.out.gg.c0))
      try rw [hq]
      try rw [hm]
      go_loopw [6, 10] (fun va vi wr => ∃ (k c : Nat) (Q : Nat → Bool) (a : Option Addr), k ≤ m ∧ vi = .int .i64 (k : Int) ∧ va = .slice a (k) c ∧ Hid (Cur V w0 av cv bs w g r Q wr { s with i := js k, fuel := fs k }) ∧ Hid (Kids w Q wr (.slice a (k) c) (upto ls k)) ∧ Hid (FN (hd w Q) wr (.slice a4 (nameN typeB).length c4) (nameN typeB))) (fun _ x _ => m - (intOf x).toNat)
      case atStart => exact ⟨0, 0, no, none, Nat.zero_le _, rfl, rfl, HC.out _ _ C4.out, kids_nil, X4_4.out⟩
      case round =>
        obtain ⟨k, c, Q, a, hkm, rfl, rfl, C20, K20, XF_20⟩ := hrel
        by_cases hlt : k < m
        · have i1 : (k : Int) < (m : Int) := by omega
          have D21 : Hid _ := HD.out k hlt
          go_wp2_with (first
            | (at_builtin; refine wpList_append_kids rfl _ _ rfl C21.out [.slice a21 (ls k).length c21] rfl rfl rfl K20_21.out (by simp [upto_length]) (kr_one X21_21.out) (by simp [upto_length]; omega) rfl ?_; intro a22 c22 w22 Q22 hK hC hM; have C22 : Hid _ := hC; have K22 : Hid _ := hK; have XF_22 : Hid _ := hM.fn XF_21.out; clear hC hK hM)
            | (go_at_call 55; refine (C20.out.call D21.out).mono ?_; rintro e w21 ⟨a21, c21, rfl, hX, hC, hF⟩; have C21 : Hid _ := hC; have X21_21 : Hid _ := hX; have K20_21 : Hid _ := C20.out.kids hF K20.out; have XF_21 : Hid _ := C20.out.fn hF XF_20.out; clear hC hX hF; have d0_21 := C21.out.gg.c0))
          refine ⟨⟨k + 1, c22, Q22, a22, by omega, by go_num, rfl, C22.out, by rw [upto_succ]; exact K22.out, XF_22.out⟩, by simp [intOf]; omega⟩
        · obtain rfl : k = m := by omega
          have i1 : ¬ ((k : Int) < (k : Int)) := by omega
          go_wp2_with (first
        | (go_at_call 66; refine (C20.out.callOf rfl XF_20.out K20.out HS.out (by simp [upto_length]; omega)).mono ?_; rintro e w22 ⟨a22, c22, rfl, hX, hC, hF⟩; have C22 : Hid _ := hC; have X22_22 : Hid _ := hX; clear hC hX hF; have d0_22 := C22.out.gg.c0))
          go_returns
          exact C22.out.done X22_22.out
    · have j3 : ¬ ((q : Int) = 5) := by omega
      have HS : Hid ((node (kn 18) (nameN (someS bs (stepG bs (stepG bs s))) :: upto ls m)).length ≤ 1000000) := by show _ ≤ _; simp only [node, List.length_cons, List.flatten_cons, List.length_append, nameN, List.length_nil]; omega
      refine ⟨node (kn 18) (nameN (someS bs (stepG bs (stepG bs s))) :: upto ls m), js m, fs m, fun V w0 w av cv g r hv hr hG => ?_, by omega, by omega, by omega, by simp only [node, List.length_cons, List.flatten_cons, List.length_append, nameN, List.length_nil]; omega⟩
      have C0 : Hid (Cur V w0 av cv bs w g r no w s) := Cur.start hv hr hb hl hG
      have d0_0 := C0.out.gg.c0
      have HD : Hid (∀ k, k < m → Draws bs 55 (fun g => #[.pointer (some ⟨g, 0, none⟩), .int .i64 (d : Int)]) { s with i := js k, fuel := fs k } (ls k) { s with i := js (k + 1), fuel := fs (k + 1) }) := hD
      have HC : Hid (∀ W Q, Cur V w0 av cv bs w g r Q W (stepG bs (stepG bs (stepG bs s))) → Cur V w0 av cv bs w g r Q W { s with i := js 0, fuel := fs 0 }) := fun W Q h => by
        rw [e1, e2]; exact h
      clear hG hr hv hD E h1 h2 h3 h4 hB hBm e1 e2 e3
      show Calls Try.prog 60 #[.pointer (some ⟨g, 0, none⟩), .int .i64 (d : Int)] w _
      go_enter Try.func60, Try.ntmps60
      go_wp2_with (first
        | (go_at_call 68; refine (C2.out.call DS.out).mono ?_; rintro e w3 ⟨a3, c3, rfl, hX, hC, hF⟩; have C3 : Hid _ := hC; have X3_3 : Hid _ := hX; clear hC hX hF; have d0_3 := C3.out.gg.c0)
        | (go_at_call 9; refine (C1.out.next hk2).mono ?_; rintro e w2 ⟨rfl, hC, hF⟩; have C2 : Hid _ := hC; clear hC hF; have d0_2 := C2.out.gg.c0)
        | (go_at_call 9; refine (C0.out.next hk1).mono ?_; rintro e w1 ⟨rfl, hC, hF⟩; have C1 : Hid _ := hC; clear hC hF; have d0_1 := C1.out.gg.c0))
      try rw [hq]
      try rw [hm]
      rw [show ((q : Int) == 5) = false by simp; omega]
      go_loopw [6, 10] (fun va vi wr => ∃ (k c : Nat) (Q : Nat → Bool) (a : Option Addr), k ≤ m ∧ vi = .int .i64 (k : Int) ∧ va = .slice a (k) c ∧ Hid (Cur V w0 av cv bs w g r Q wr { s with i := js k, fuel := fs k }) ∧ Hid (Kids w Q wr (.slice a (k) c) (upto ls k)) ∧ Hid (FN (hd w Q) wr (.slice a3 (nameN (someS bs (stepG bs (stepG bs s)))).length c3) (nameN (someS bs (stepG bs (stepG bs s)))))) (fun _ x _ => m - (intOf x).toNat)
      case atStart => exact ⟨0, 0, no, none, Nat.zero_le _, rfl, rfl, HC.out _ _ C3.out, kids_nil, X3_3.out⟩
      case round =>
        obtain ⟨k, c, Q, a, hkm, rfl, rfl, C20, K20, XF_20⟩ := hrel
        by_cases hlt : k < m
        · have i1 : (k : Int) < (m : Int) := by omega
          have D21 : Hid _ := HD.out k hlt
          go_wp2_with (first
            | (at_builtin; refine wpList_append_kids rfl _ _ rfl C21.out [.slice a21 (ls k).length c21] rfl rfl rfl K20_21.out (by simp [upto_length]) (kr_one X21_21.out) (by simp [upto_length]; omega) rfl ?_; intro a22 c22 w22 Q22 hK hC hM; have C22 : Hid _ := hC; have K22 : Hid _ := hK; have XF_22 : Hid _ := hM.fn XF_21.out; clear hC hK hM)
            | (go_at_call 55; refine (C20.out.call D21.out).mono ?_; rintro e w21 ⟨a21, c21, rfl, hX, hC, hF⟩; have C21 : Hid _ := hC; have X21_21 : Hid _ := hX; have K20_21 : Hid _ := C20.out.kids hF K20.out; have XF_21 : Hid _ := C20.out.fn hF XF_20.out; clear hC hX hF; have d0_21 := C21.out.gg.c0))
          refine ⟨⟨k + 1, c22, Q22, a22, by omega, by go_num, rfl, C22.out, by rw [upto_succ]; exact K22.out, XF_22.out⟩, by simp [intOf]; omega⟩
        · obtain rfl : k = m := by omega
          have i1 : ¬ ((k : Int) < (k : Int)) := by omega
          go_wp2_with (first
        | (go_at_call 66; refine (C20.out.callOf rfl XF_20.out K20.out HS.out (by simp [upto_length]; omega)).mono ?_; rintro e w22 ⟨a22, c22, rfl, hX, hC, hF⟩; have C22 : Hid _ := hC; have X22_22 : Hid _ := hX; clear hC hX hF; have d0_22 := C22.out.gg.c0))
          go_returns
          exact C22.out.done X22_22.out
section
variable {V Q : Nat → Bool} {w0 w W W' : World} {av : Option Addr} {cv g r : Nat} {bs : List Int} {s s' : Gs} {x : Value} {l : List Nd}
def Row (T : TypeId) (w : World) (Q : Nat → Bool) (W : World) (v : Value) (us : List Value) : Prop := W.ownsRow w.heap.size T 1 v us.length us ∧ ∀ b, v.ownBlock = some b → Q b = true
theorem row_nil {T : TypeId} : Row T w Q W (.slice none 0 0) [] := ⟨⟨rfl, .inl ⟨rfl, rfl⟩⟩, fun b h => by simp [Value.ownBlock] at h⟩
theorem Cur.row {T : TypeId} {v : Value} {us : List Value} (C : Cur V w0 av cv bs w g r Q W s) (hF : Fg g r W W') (h : Row T w Q W v us) : Row T w Q W' v us := by
  refine ⟨own_far h.1 (fun b e => ?_), h.2⟩
  have hb := h.1.lt b e
  have := C.rlt
  have := C.hg
  exact hF.keep b hb.2 (by omega) (by omega)
structure Apd (T : TypeId) (V : Nat → Bool) (w0 : World) (av : Option Addr) (cv : Nat) (bs : List Int) (w : World) (g r : Nat) (Q : Nat → Bool) (W : World) (s : Gs) (v : Value) (us : List Value) (v' : Value) (Q' : Nat → Bool) (w' : World) : Prop where
  row : Row T w Q' w' v' us
  cur : Cur V w0 av cv bs w g r Q' w' s
  mv : Mv V w Q W Q' w'
  other : ∀ T2 v2 us2, Row T2 w Q W v2 us2 → (∀ b, v2.ownBlock = some b → v.ownBlock ≠ some b) → Row T2 w Q' w' v2 us2
  lies : ∀ b, v'.ownBlock = some b → v.ownBlock = some b ∨ W.heap.size ≤ b
theorem Cur.appendRow (C : Cur V w0 av cv bs w g r Q W s) {T t : TypeId} {i0 : TypeInfo} {z : Value} {by_ : Nat} (ht : Try.prog.underlying t = some (.slice T)) (hi0 : Try.prog.info? T = some i0) (hz0 : i0.zero = some z) (hz1 : i0.size = 1) (hz2 : i0.bytes = by_) (hzc : z.cells.size = 1) (hby : by_ ≤ 24)
    {a : Option Addr} {n c : Nat} {us xs : List Value} {W1 : World} (hR : Row T w Q W (.slice a n c) us) (hn : n = us.length) (hb : Below W.heap.size W W1) (ao : Option Addr) (m cx : Nat) (hm : m = xs.length) (hr : 0 < m → ∃ ad, ao = some ad ∧ ∀ j u, xs[j]? = some u → W1.cell? (ad.add j) = some u) (h1 : ∀ u ∈ xs, u.oneCell' = true) (hlen : us.length + xs.length ≤ 100000) (ty : TypeId) :
    ∃ a' c' w' Q', (Builtin.append_ #[t, t] ty #[.slice a n c, .slice ao m cx]).run Try.prog W1 = .ok (.slice a' (n + m) c') w' ∧ Apd T V w0 av cv bs w g r Q W s (.slice a n c) (us ++ xs) (.slice a' (n + m) c') Q' w' := by
  subst hm
  obtain ⟨o0, h2⟩ := hR
  have hsz := C.sz
  have o1 : W1.ownsRow w.heap.size T 1 (.slice a n c) n us := by
    subst hn
    exact own_far o0 (fun b e => hb.block b (o0.lt b e).2)
  obtain ⟨a', c', w', e1, e2⟩ := run_append_row W1 t ty T i0 z 1 by_ ht hi0 hz0 hz1 hz2 hzc (by omega) w.heap.size a n c us o1 ao xs.length cx xs (by omega) hr h1 (by unfold maxLen; omega) (Nat.le_trans (Nat.mul_le_mul (Nat.le_refl _) hby) (by omega)) (by have := hb.size; omega)
  have hl : ∀ b, (Value.slice a' (n + xs.length) c').ownBlock = some b → (Value.slice a n c).ownBlock = some b ∨ W.heap.size ≤ b := fun b e => by
    rcases e2.lies with ⟨rfl, rfl⟩ | ⟨g', rfl, h | h⟩
    · left
      cases a' with
      | none => cases e
      | some y => exact e
    · cases e; exact .inl h
    · cases e; right; rw [h]; exact hb.size
  obtain ⟨h4, h5⟩ := C.grow (v := .slice a' (n + xs.length) c') hb e2.grow h2 (fun b e => ⟨(e2.own.lt b e).2, by
    rcases hl b e with h | h
    · exact .inl (h2 _ h)
    · exact .inr h⟩)
  refine ⟨a', c', w', _, e1, ⟨⟨by rw [List.length_append, ← hn]; exact e2.own, fun b e => by simp [qn, e]⟩, h4, h5, fun T2 v2 us2 hR2 hne => ⟨own_far hR2.1 (fun b e => ?_), fun b e => by simp [qn, hR2.2 b e]⟩, hl⟩⟩
  have hlt := (hR2.1.lt b e).2
  exact (e2.grow.block b (Nat.lt_of_lt_of_le hlt hb.size) (fun e' => hne b e e'.symm)).trans (hb.block b hlt)
theorem wpList_append_any {ops : Array Oper} {rest : List Oper} {o : Oper} {a : Act} {K : Exit → Act → World → Prop} (hgd : o.guard = none) (sv xv : Operand) (T t : TypeId)
    (ho : o.op = .call { callee := .builtin .append, args := #[sv, xv], argTypes := #[t, t] })
    (C : Cur V w0 av cv bs w g r Q W s) {i0 : TypeInfo} {z : Value} {by_ : Nat} (ht : Try.prog.underlying t = some (.slice T)) (hi0 : Try.prog.info? T = some i0) (hz0 : i0.zero = some z) (hz1 : i0.size = 1) (hz2 : i0.bytes = by_) (hzc : z.cells.size = 1) (hby : by_ ≤ 24)
    {av1 : Option Addr} {n c : Nat} {us xs : List Value} {W1 : World} (hs : a.eval sv = .slice av1 n c) (hR : Row T w Q W (.slice av1 n c) us) (hn : n = us.length) (hb : Below W.heap.size W W1) (ao : Option Addr) (m cx : Nat) (hx : a.eval xv = .slice ao m cx) (hm : m = xs.length) (hr : 0 < m → ∃ ad, ao = some ad ∧ ∀ j u, xs[j]? = some u → W1.cell? (ad.add j) = some u) (h1 : ∀ u ∈ xs, u.oneCell' = true) (hlen : us.length + xs.length ≤ 100000)
    (h : ∀ a' c' w' Q', Apd T V w0 av cv bs w g r Q W s (.slice av1 n c) (us ++ xs) (.slice a' (n + m) c') Q' w' → wpList Try.prog ops K rest (a.put o.dst (.slice a' (n + m) c')) w') : wpList Try.prog ops K (o :: rest) a W1 := by
  refine wpList_plain hgd fun K' hK' => ?_
  obtain ⟨a', c', w', Q', h2, h3⟩ := C.appendRow ht hi0 hz0 hz1 hz2 hzc hby hR hn hb ao m cx hm hr h1 hlen o.type
  unfold Oper.wp execOp
  simp only [ho, resolve, invoke, builtin, Sem.run_bind, Sem.run_pure, Result.andThen_ok, List.map_toArray, List.map_cons, List.map_nil, hs, hx, h2]
  exact hK' _ _ (h a' c' w' Q' h3)
theorem info_string : (Try.prog.info? 9).map (fun i => (i.zero, i.size, i.bytes)) = some (some (.string ⟨#[]⟩), 1, 16) := by kernel_rfl
theorem info_bytes : (Try.prog.info? 22).map (fun i => (i.zero, i.size, i.bytes)) = some (some (.slice none 0 0), 1, 24) := by kernel_rfl
theorem wpList_append_strs {ops : Array Oper} {rest : List Oper} {o : Oper} {a : Act} {K : Exit → Act → World → Prop} (hgd : o.guard = none) (sv xv : Operand)
    (ho : o.op = .call { callee := .builtin .append, args := #[sv, xv], argTypes := #[49, 49] })
    {B W1 : World} (hB : Below B.heap.size B W1) {av1 : Option Addr} {n c : Nat} {us xs : List ByteArray} (hs : a.eval sv = .slice av1 n c) (own : W1.ownsRow B.heap.size 9 1 (.slice av1 n c) n (us.map .string)) (ao : Option Addr) (m cx : Nat) (hx : a.eval xv = .slice ao m cx) (hm : m = xs.length)
    (hr : ∀ i, i < m → ∃ b off, ao = some ⟨b, off, none⟩ ∧ W1.cell? ⟨b, off + i, none⟩ = some (.string (xs.getD i default))) (hlen : n + xs.length ≤ 200000)
    (h : ∀ a' c' w', w'.ownsRow B.heap.size 9 1 (.slice a' (n + m) c') (n + m) ((us ++ xs).map .string) → Below B.heap.size B w' → wpList Try.prog ops K rest (a.put o.dst (.slice a' (n + m) c')) w') : wpList Try.prog ops K (o :: rest) a W1 := by
  obtain ⟨i0, hi0, hz0, hz1, hz2⟩ := info_parts info_string
  refine wpList_append_row hgd sv xv 49 ho 9 i0 (.string ⟨#[]⟩) 1 16 Try.underlying49 hi0 hz0 hz1 hz2 rfl (by omega) B.heap.size av1 n c (us.map .string) hs own ao m cx (xs.map .string) hx (by simp [hm]) (fun h0 => ?_) (fun u hu => ?_) (by unfold maxLen; omega) (by omega) hB.size (fun a' c' w' hA => ?_)
  · obtain ⟨b, off, e, _⟩ := hr 0 h0
    refine ⟨_, e, fun j u hu => ?_⟩
    rcases Nat.lt_or_ge j xs.length with hj | hj
    · obtain ⟨b', off', e', hc⟩ := hr j (by omega)
      rw [e] at e'
      simp only [Option.some.injEq, Addr.mk.injEq, and_true] at e'
      obtain ⟨rfl, rfl⟩ := e'
      rw [plainAt, hc]
      rw [List.getElem?_map, List.getElem?_eq_getElem hj] at hu
      rw [List.getD_eq_getElem?_getD, List.getElem?_eq_getElem hj]
      exact hu
    · rw [List.getElem?_eq_none (by simpa using hj)] at hu; cases hu
  · obtain ⟨y, _, rfl⟩ := List.mem_map.1 hu
    rfl
  · refine h a' c' w' (by rw [List.map_append]; exact hA.own) (hB.grown hA.grow hB.size (fun q hq => (own.lt q hq).1))
theorem rdS_own {B : World} {a : Option Addr} {n c : Nat} {us : List ByteArray} (h : W.ownsRow B.heap.size 9 1 (.slice a n c) n (us.map .string)) (hn : n = us.length) : RdS (veil (tk.lt B.heap.size) W) (.slice a n c) us := by
  subst hn
  rcases h.2 with ⟨e, e0⟩ | ⟨g, cap, cur, e, hg, hh, hnc, _, hs, ht⟩
  · simp only [Value.slice.injEq] at e
    obtain ⟨rfl, hm0, rfl⟩ := e
    exact ⟨none, 0, rfl, by omega, fun i hi => absurd hi (by omega)⟩
  · simp only [Value.slice.injEq] at e
    obtain ⟨rfl, _, rfl⟩ := e
    refine ⟨_, _, rfl, hnc, fun i hi => ⟨g, 0, rfl, ?_⟩⟩
    refine cell_veil ?_ (lt_ge hg)
    rw [Nat.zero_add, World.ownsRow.cellAt h i (by omega), List.getElem?_map, List.getElem?_eq_getElem hi, List.getD_eq_getElem?_getD, List.getElem?_eq_getElem hi]
    rfl
theorem empty_row {T : TypeId} : (W.alloc (.cells #[] T)).ownsRow W.heap.size T 1 (.slice (some ⟨W.heap.size, 0, none⟩) 0 0) 0 [] :=
  ⟨rfl, .inr ⟨W.heap.size, 0, #[], rfl, Nat.le_refl _, heap_alloc_new _ _, Nat.le_refl _, by unfold maxLen; omega, by simp, by simp⟩⟩
theorem Cur.named (C : Cur V w0 av cv bs w g r Q W s) (hB : Below W.heap.size W W') {a : Option Addr} {n c : Nat} {ns : List ByteArray} (h : W'.ownsRow W.heap.size 9 1 (.slice a n c) n (ns.map .string)) (hn : n = ns.length) (few : ns.length ≤ 100000) (short : ∀ x ∈ ns, x.size ≤ 1000) :
    Cur V w0 av cv bs w g r Q (W'.setCell ⟨g, 1, none⟩ (.slice a n c)) { s with names := ns } ∧ Fg g r W (W'.setCell ⟨g, 1, none⟩ (.slice a n c)) := by
  obtain ⟨C1, F1⟩ := C.bel hB
  obtain ⟨C2, F2⟩ := C1.setNames (.slice a n c) ns ((rdS_own h hn).veils (fun b _ hb => by
    simp only [tk.lt, decide_eq_false_iff_not, Nat.not_lt] at hb
    have h1 := C.hv b (by have := C.sz; omega)
    have h2 : Q b = false := by
      cases h : Q b with
      | false => rfl
      | true => have := (C.hq b h).2; omega
    simp [vq, h1, h2])) few short
  exact ⟨C2, F1.trans F2⟩
def Txts (w : World) (Q : Nat → Bool) (W : World) (v : Value) (zs : List (List Int)) : Prop := ∃ us, Row 22 w Q W v us ∧ us.length = zs.length ∧ ∀ i, i < zs.length → ∃ u, us[i]? = some u ∧ RdV (veil (hd w Q) W) u (zs.getD i [])
theorem txts_nil : Txts w Q W (.slice none 0 0) [] := ⟨[], row_nil, rfl, fun i hi => absurd hi (by simp)⟩
theorem Cur.txts {v : Value} {zs : List (List Int)} (C : Cur V w0 av cv bs w g r Q W s) (hF : Fg g r W W') (h : Txts w Q W v zs) : Txts w Q W' v zs := by
  obtain ⟨us, h1, h2, h3⟩ := h
  refine ⟨us, C.row hF h1, h2, fun i hi => ?_⟩
  obtain ⟨u, e, hr⟩ := h3 i hi
  exact ⟨u, e, RdV.up hr (C.up hF)⟩
theorem Txts.rdvv {v : Value} {zs : List (List Int)} {a : Option Addr} {m c : Nat} (h : Txts w Q W v zs) (hv : v = .slice a m c) (hl : zs.length ≤ 1000) : RdVV (veil (tk.lt w.heap.size) W) v zs := by
  subst hv
  obtain ⟨us, ⟨h1, h0⟩, h2, h3⟩ := h
  rcases h1.2 with ⟨e, e0⟩ | ⟨g, cap, cur, e, hg, hh, hnc, _, hs, ht⟩
  · simp only [Value.slice.injEq] at e
    obtain ⟨rfl, rfl, rfl⟩ := e
    have : zs.length = 0 := by omega
    exact ⟨none, 0, by rw [this], by omega, fun i hi => absurd hi (by omega)⟩
  · simp only [Value.slice.injEq] at e
    obtain ⟨rfl, rfl, rfl⟩ := e
    refine ⟨_, _, by rw [h2], by omega, fun i hi => ?_⟩
    obtain ⟨u, e, hr⟩ := h3 i hi
    refine ⟨g, 0, u, rfl, cell_veil ?_ (lt_ge hg), RdV.veils hr (fun b _ hb => by simp [hd] at hb; exact hb.1)⟩
    rw [Nat.zero_add, World.ownsRow.cellAt h1 i (by omega)]
    exact e
theorem Apd.txts {v v' : Value} {Q' : Nat → Bool} {us : List Value} {u : Value} {zs : List (List Int)} {y : List Int} (h : Apd 22 V w0 av cv bs w g r Q W s v (us ++ [u]) v' Q' W') (h2 : us.length = zs.length) (h3 : ∀ i, i < zs.length → ∃ u, us[i]? = some u ∧ RdV (veil (hd w Q) W) u (zs.getD i [])) (hy : RdV (veil (hd w Q') W') u y) : Txts w Q' W' v' (zs ++ [y]) := by
  refine ⟨us ++ [u], h.row, by simp [h2], fun i hi => ?_⟩
  rw [List.length_append, List.length_singleton] at hi
  by_cases hl : i < zs.length
  · obtain ⟨u', e, hr⟩ := h3 i hl
    exact ⟨u', by rw [List.getElem?_append_left (by omega)]; exact e, by rw [List.getD_eq_getElem?_getD, List.getElem?_append_left hl, ← List.getD_eq_getElem?_getD]; exact h.mv.rdv hr⟩
  · obtain rfl : i = zs.length := by omega
    exact ⟨u, by rw [List.getElem?_append_right (by omega), h2, Nat.sub_self]; rfl, by rw [List.getD_eq_getElem?_getD, List.getElem?_append_right (Nat.le_refl _), Nat.sub_self]; exact hy⟩
end
def DrawsF (bs : List Int) (ps : List ByteArray) (d : Nat) (s : Gs) (l : List Nd) (s' : Gs) : Prop :=
  ∀ (V : Nat → Bool) (w0 w : World) (av : Option Addr) (cv g r : Nat) (b cp : Nat), (∀ b, w.heap.size ≤ b → V b = false) → Rd w0 av bs → Gg V w0 av cv bs w g r s → (∀ i, i < ps.length → w.cell? ⟨b, i, none⟩ = some (.string (ps.getD i default))) → b ≠ g → b ≠ r → b < w.heap.size →
      Calls Try.prog 57 #[.pointer (some ⟨g, 0, none⟩), .slice (some ⟨b, 0, none⟩) ps.length cp, .int .i64 (d : Int)] w (Drew V w0 av cv bs w g r l s')
def FuncC (bs : List Int) (n : Nat) : Prop := ∀ (s : Gs) (ps : List ByteArray) (d : Nat), 1 ≤ d → d ≤ 5 → ps.length ≤ 2 → (∀ x ∈ ps, x.size ≤ 1000) → -20000 ≤ s.fuel → s.fuel ≤ n → s.fuel ≤ 200 → (s.names.length : Int) + ps.length + 4 * s.fuel ≤ 2000 →
  ∃ l j f, DrawsF bs ps d s l { s with i := j, fuel := f } ∧ f ≤ s.fuel ∧ (s.fuel ≤ 0 → s.fuel - 3 ≤ f) ∧ (0 < s.fuel → -10 * s.fuel - 3 ≤ f) ∧ (l.length : Int) ≤ 5 + 20 * (s.fuel - f)
theorem Cur.fcall {V Q : Nat → Bool} {w0 w W : World} {av : Option Addr} {cv g r : Nat} {bs : List Int} {s s' : Gs} {l : List Nd} (C : Cur V w0 av cv bs w g r Q W s) {ps : List ByteArray} {d b cp m : Nat} (hD : DrawsF bs ps d s l s') (hm : ps.length = m) (hc : ∀ i, i < ps.length → W.cell? ⟨b, i, none⟩ = some (.string (ps.getD i default))) (h1 : b ≠ g) (h2 : b ≠ r) (h3 : b < W.heap.size) :
    Calls Try.prog 57 #[.pointer (some ⟨g, 0, none⟩), .slice (some ⟨b, 0, none⟩) m cp, .int .i64 (d : Int)] W fun e w' => ∃ a' c', e = .returned (.slice a' l.length c') ∧ FN (hd w Q) w' (.slice a' l.length c') l ∧ Cur V w0 av cv bs w g r Q w' s' ∧ Fg g r W w' := by
  subst hm
  refine (hD (vq V Q) w0 W av cv g r b cp (fun b hb => ?_) C.rd C.gg hc h1 h2 h3).mono ?_
  · have h1 := C.sz
    have h2 := C.hv b (by omega)
    have h3 : Q b = false := by
      cases h : Q b with
      | false => rfl
      | true => have := (C.hq b h).2; omega
    simp [vq, h2, h3]
  · rintro e w' ⟨x, rfl, hN, hG, hF⟩
    obtain ⟨a', c', rfl, hN'⟩ := hN
    have hN : FN (lt W.heap.size) w' (.slice a' l.length c') l := ⟨a', c', rfl, hN'⟩
    refine ⟨a', c', rfl, hN.less (fun b hb => ?_), C.to hF hG, hF⟩
    have h1 := C.sz
    have h3 : Q b = false := by
      cases h : Q b with
      | false => rfl
      | true => have := (C.hq b h).2; simp [lt] at hb; omega
    simp [hd, h3, lt] at hb ⊢
    omega
set_option maxRecDepth 100000 in
set_option maxHeartbeats 4000000 in
theorem expr_leaf {bs : List Int} (hb : Bts bs) (hl : bs.length ≤ 600) (s : Gs) (d : Nat) (hd5 : d ≤ 5) (h1 : -40000 ≤ s.fuel) (h3 : s.fuel ≤ 200) (q : Nat) (hq : nx bs s.i % 24 = (q : Int)) (hc : d = 0 ∨ s.fuel ≤ 0 ∨ q < 5) :
    ∃ l j, l.length = 1 ∧ Draws bs 55 (fun g => #[.pointer (some ⟨g, 0, none⟩), .int .i64 (d : Int)]) s l { s with i := j, fuel := s.fuel - 1 } := by
  obtain ⟨k1, hk1, kb1⟩ := nxn hb s.i
  rw [hk1] at hq
  have hq24 : q < 24 := by omega
  obtain ⟨l, j, hl1, hD⟩ := leaf_ex bs { stepG bs s with fuel := s.fuel - 1 } hb hl
  refine ⟨l, j, hl1, fun V w0 w av cv g r hv hr hG => ?_⟩
  have C0 : Hid (Cur V w0 av cv bs w g r no w s) := Cur.start hv hr hb hl hG
  have d0_0 := C0.out.gg.c0
  have D3 : Hid _ := hD
  clear hG hr hv hD hl1
  by_cases hd0 : d = 0
  · subst hd0
    go_enter Try.func55, Try.ntmps55
    go_wp2_with (first
      | (go_at_call 69; refine (C2.out.call D3.out).mono ?_; rintro e w3 ⟨a3, c3, rfl, hX, hC, hF⟩; have C3 : Hid _ := hC; have X3_3 : Hid _ := hX; clear hC hX hF; have d0_3 := C3.out.gg.c0)
      | (go_at_call 9; refine (C0.out.next hk1).mono ?_; rintro e w1 ⟨rfl, hC, hF⟩; have C1 : Hid _ := hC; clear hC hF; have C2 : Hid _ := (C1.out.setFuel (s.fuel - 1) (by omega) (by omega)).1; have d2_1 : w1.cell? ⟨g, 2, none⟩ = some (.int .i64 s.fuel) := C1.out.gg.c2; have f2_1 := C1.out.gg.free 2; have d0_2 := C2.out.gg.c0; have d2_2 : (w1.setCell ⟨g, 2, none⟩ (.int .i64 (s.fuel - 1))).cell? ⟨g, 2, none⟩ = some (.int .i64 (s.fuel - 1)) := C2.out.gg.c2))
    go_returns
    exact C3.out.done X3_3.out
  by_cases hf0 : s.fuel ≤ 0
  · have j0 : ¬ ((d : Int) ≤ 0) := by omega
    have jf : s.fuel - 1 < 0 := by omega
    go_enter Try.func55, Try.ntmps55
    go_wp2_with (first
      | (go_at_call 69; refine (C2.out.call D3.out).mono ?_; rintro e w3 ⟨a3, c3, rfl, hX, hC, hF⟩; have C3 : Hid _ := hC; have X3_3 : Hid _ := hX; clear hC hX hF; have d0_3 := C3.out.gg.c0)
      | (go_at_call 9; refine (C0.out.next hk1).mono ?_; rintro e w1 ⟨rfl, hC, hF⟩; have C1 : Hid _ := hC; clear hC hF; have C2 : Hid _ := (C1.out.setFuel (s.fuel - 1) (by omega) (by omega)).1; have d2_1 : w1.cell? ⟨g, 2, none⟩ = some (.int .i64 s.fuel) := C1.out.gg.c2; have f2_1 := C1.out.gg.free 2; have d0_2 := C2.out.gg.c0; have d2_2 : (w1.setCell ⟨g, 2, none⟩ (.int .i64 (s.fuel - 1))).cell? ⟨g, 2, none⟩ = some (.int .i64 (s.fuel - 1)) := C2.out.gg.c2))
    go_returns
    exact C3.out.done X3_3.out
  · have j0 : ¬ ((d : Int) ≤ 0) := by omega
    have jf : ¬ (s.fuel - 1 < 0) := by omega
    have jq : (q : Int) < 5 := by omega
    go_enter Try.func55, Try.ntmps55
    go_wp2_with (first
      | (go_at_call 69; refine (C2.out.call D3.out).mono ?_; rintro e w3 ⟨a3, c3, rfl, hX, hC, hF⟩; have C3 : Hid _ := hC; have X3_3 : Hid _ := hX; clear hC hX hF; have d0_3 := C3.out.gg.c0)
      | (go_at_call 9; refine (C0.out.next hk1).mono ?_; rintro e w1 ⟨rfl, hC, hF⟩; have C1 : Hid _ := hC; clear hC hF; have C2 : Hid _ := (C1.out.setFuel (s.fuel - 1) (by omega) (by omega)).1; have d2_1 : w1.cell? ⟨g, 2, none⟩ = some (.int .i64 s.fuel) := C1.out.gg.c2; have f2_1 := C1.out.gg.free 2; have d0_2 := C2.out.gg.c0; have d2_2 : (w1.setCell ⟨g, 2, none⟩ (.int .i64 (s.fuel - 1))).cell? ⟨g, 2, none⟩ = some (.int .i64 (s.fuel - 1)) := C2.out.gg.c2))
    go_returns
    exact C3.out.done X3_3.out
end Go.Proofs.Ytepbddfpdlapbaa.tk
