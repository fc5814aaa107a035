import Derived.Lib.SmallJoins
import Derived.Test.YtepbddfpdlapbaaMTkLoop
namespace Go.Proofs.Ytepbddfpdlapbaa.tk
open Go.RowKit Go.Proofs.Ytepbddfpdlapbaa.bts Go.Proofs.Ytepbddfpdlapbaa.nod
theorem wrap_mid (m : Nat) (h : m ≤ 9) : IntKind.i64.wrap ((m : Int) - 1) = (m : Int) - 1 := by
  have : m = 0 ∨ m = 1 ∨ m = 2 ∨ m = 3 ∨ m = 4 ∨ m = 5 ∨ m = 6 ∨ m = 7 ∨ m = 8 ∨ m = 9 := by omega
  rcases this with rfl | rfl | rfl | rfl | rfl | rfl | rfl | rfl | rfl | rfl <;> rfl
theorem intN_len (v : Int) : (intN v).length = 1 := rfl
def iB : ByteArray := { data := #[105] }
theorem bts_one (z : Int) (h : 0 ≤ z ∧ z ≤ 255) : Bts [z] := fun i => by
  cases i with
  | zero => simpa using h
  | succ i => simp
theorem i_name {w W : World} (h : w.heap.size ≤ W.heap.size) (T U : TypeId) (fr : Nat × Nat) : RdVV (veil (tk.lt w.heap.size) ((W.alloc (.cells #[.int .u8 105] T fr)).alloc (.cells #[.slice (some ⟨W.heap.size, 0, none⟩) 1 1] U))) (.slice (some ⟨W.heap.size + 1, 0, none⟩) 1 1) [[105]] := by
  have hr : RdV (veil (tk.lt w.heap.size) (W.alloc (.cells #[.int .u8 105] T fr))) (.slice (some ⟨W.heap.size, 0, none⟩) 1 1) [105] := ⟨_, 1, rfl, by simp, fun i hi => by
    have : i = 0 := by simpa using hi
    subst this
    exact ⟨W.heap.size, 0, rfl, cell_veil (by unfold World.cell?; rw [heap_alloc_new]; rfl) (lt_ge h)⟩, bts_one _ (by omega)⟩
  have := rdVV_one (T := U) (B := tk.lt w.heap.size) (w := W.alloc (.cells #[.int .u8 105] T fr)) (lt_ge (by simp; omega)) hr
  simpa using this
theorem Sv.reads {V Q : Nat → Bool} {W : World} {a : Option Addr} {m c : Nat} {ns : List ByteArray} (h : Sv V Q W (.slice a m c) ns) : m = ns.length ∧ ∀ i, i < m → ∃ b off, a = some ⟨b, off, none⟩ ∧ W.cell? ⟨b, off + i, none⟩ = some (.string (ns.getD i default)) := by
  obtain ⟨ao, cap, e, _, h⟩ := h
  simp only [Value.slice.injEq] at e
  obtain ⟨rfl, rfl, rfl⟩ := e
  refine ⟨rfl, fun i hi => ?_⟩
  obtain ⟨b, off, e, hc⟩ := h i hi
  exact ⟨b, off, e, (veil_cell hc).1⟩
theorem few_i (ns : List ByteArray) (h : ∀ x ∈ ns, x.size ≤ 1000) : ∀ x ∈ ns ++ [iB], x.size ≤ 1000 := by
  intro x hx
  rcases List.mem_append.1 hx with hx | hx
  · exact h x hx
  · rw [List.mem_singleton.1 hx]; decide
set_option maxRecDepth 100000 in
set_option maxHeartbeats 4000000 in
theorem loop_for24 {bs : List Int} {n : Nat} (hb : Bts bs) (hl : bs.length ≤ 600) (_EX : ExprC bs n) (BL : PartC bs n 58 ag1 3) (s : Gs) (d e : Nat) (hd1 : 1 ≤ d) (hd5 : d ≤ 5) (hde : (d : Int) - 1 = (e : Int)) (h1 : 0 ≤ s.fuel) (h2 : s.fuel ≤ n) (h3 : s.fuel ≤ 200) (h4 : (s.names.length : Int) + 1 + 4 * s.fuel ≤ 2000) : ∃ l j f, Draws bs 59 (fun g => #[.pointer (some ⟨g, 0, none⟩), .int .i64 (d : Int), .int .i64 24]) s l { s with i := j, fuel := f } ∧ f ≤ s.fuel ∧ (s.fuel ≤ 0 → s.fuel - 4 ≤ f) ∧ (0 < s.fuel → -10 * s.fuel - 4 ≤ f) ∧ (l.length : Int) ≤ 10 + 20 * (s.fuel - f) := by
  obtain ⟨k2, hk2, kb2⟩ := nxn hb s.i
  obtain ⟨m2, hm2, hb2⟩ : ∃ m : Nat, ((k2 : Int) % 4) = (m : Int) ∧ m < 4 := ⟨k2 % 4, by omega, by omega⟩
  obtain ⟨k3, hk3, kb3⟩ := nxn hb (stepG bs s).i
  obtain ⟨m3, hm3, hb3⟩ : ∃ m : Nat, ((k3 : Int) % 5) = (m : Int) ∧ m < 5 := ⟨k3 % 5, by omega, by omega⟩
  have hk2' : nx bs (Gs.i { s with loop := true }) = (k2 : Int) := hk2
  have hk3' : nx bs (Gs.i (stepG bs { s with loop := true })) = (k3 : Int) := hk3
  have hw2 := wrap_mid m2 (by omega)
  have hw2' := wrap_small m2 (by omega)
  have hw3 := wrap_small m3 (by omega)
  have t2 : (k2 : Int).tmod 4 = (m2 : Int) := by rw [Int.tmod_eq_emod_of_nonneg (by omega)]; exact hm2
  have hq4 : (k3 : Int).tmod 5 = (m3 : Int) := by rw [Int.tmod_eq_emod_of_nonneg (by omega)]; exact hm3
  have hq2 : IntKind.i64.wrap ((k2 : Int).tmod 4 - 1) = (m2 : Int) - 1 := by rw [t2]; exact hw2
  have hq3 : IntKind.i64.wrap ((k3 : Int).tmod 5) = (m3 : Int) := by rw [hq4]; exact hw3
  obtain ⟨l, j, f, hD, b1, b2, b3, b4⟩ := BL { (stepG bs (stepG bs { s with loop := true })) with names := s.names ++ [iB] } e (by omega) (by show _ ≤ s.fuel; omega) (by show s.fuel ≤ _; omega) (by show s.fuel ≤ _; omega) (by show (((s.names ++ [iB]).length : Nat) : Int) + 4 * s.fuel ≤ _; simp; omega)
  have e3 : Gs.fuel { (stepG bs (stepG bs { s with loop := true })) with names := s.names ++ [iB] } = s.fuel := rfl
  rw [e3] at b1 b2 b3 b4
  have HS : Hid ((node ⟨7, 0, [], [[105]], 0⟩ [intN ((m2 : Int) - 1), intN (m3 : Int), l]).length ≤ 1000000) := by show _ ≤ _; simp only [node, intN_len, List.length_cons, List.flatten_cons, List.length_append, List.length_nil, List.flatten_nil]; omega
  refine ⟨node ⟨7, 0, [], [[105]], 0⟩ [intN ((m2 : Int) - 1), intN (m3 : Int), l], j, f, fun V w0 w av cv g r hv hr hG => ?_, by omega, by omega, by omega, by simp only [node, intN_len, List.length_cons, List.flatten_cons, List.length_append, List.length_nil, List.flatten_nil]; omega⟩
  have C0 : Hid (Cur V w0 av cv bs w g r no w s) := Cur.start hv hr hb hl hG
  have d3_0 := C0.out.gg.c3
  have f3_0 := C0.out.gg.free 3
  obtain ⟨an, cn, d1_0, sv0⟩ := C0.out.save
  have C1 : Hid (Cur V w0 av cv bs w g r no (w.setCell ⟨g, 3, none⟩ (.bool true)) { s with loop := true }) := (C0.out.setLoop true).1
  have S_1 : Hid (Sv V no (w.setCell ⟨g, 3, none⟩ (.bool true)) (.slice an s.names.length cn) s.names) := C0.out.sv (C0.out.setLoop true).2 sv0
  have d0_1 := C1.out.gg.c0
  have hfew := C0.out.gg.few
  have HSH : Hid (∀ x ∈ s.names, x.size ≤ 1000) := C0.out.gg.short
  clear sv0
  have D10 : Hid (Draws bs 58 (fun g => #[.pointer (some ⟨g, 0, none⟩), .int .i64 (e : Int)]) { (stepG bs (stepG bs { s with loop := true })) with names := s.names ++ [iB] } l { s with i := j, fuel := f, names := s.names ++ [iB], loop := true }) := hD
  have HNL : s.names.length ≤ 2000 := by omega
  clear hG hr hv hD _EX BL b1 b2 b3 b4 e3 h2 h4
  go_enter Try.func59, Try.ntmps59
  go_wp2_with fail
  go_region_held3 (fun W => W.cell? ⟨g, 0, none⟩ = some (.pointer (some ⟨r, 0, none⟩))) (first | exact d0_5 | exact d0_4 | exact d0_3 | exact d0_2 | exact d0_1 | exact (C5.out.bel ((Below.refl _ _).alloc (Nat.le_refl _) _)).1.gg.c0) (first | (go_at_call 46; (try rw [hq3]); (try rw [hq4]); refine (C4.out.make (l7int_any _ (m3 : Int))).mono ?_; rintro e w5 ⟨a5, c5, rfl, hX, hC, hF⟩; have C5 : Hid _ := hC; have X5_5 : Hid _ := hX; have X3_5 : Hid _ := C4.out.fn hF X3_4.out; have S_5 : Hid _ := C4.out.sv hF S_4.out; clear hC hX hF; have d0_5 := C5.out.gg.c0) | (go_at_call 9; refine (C3.out.next hk3').mono ?_; rintro e w4 ⟨rfl, hC, hF⟩; have C4 : Hid _ := hC; have X3_4 : Hid _ := C3.out.fn hF X3_3.out; have S_4 : Hid _ := C3.out.sv hF S_3.out; clear hC hF; have d0_4 := C4.out.gg.c0) | (go_at_call 46; (try rw [hq2]); refine (C2.out.make (l7int_any _ ((m2 : Int) - 1))).mono ?_; rintro e w3 ⟨a3, c3, rfl, hX, hC, hF⟩; have C3 : Hid _ := hC; have X3_3 : Hid _ := hX; have S_3 : Hid _ := C2.out.sv hF S_2.out; clear hC hX hF; have d0_3 := C3.out.gg.c0) | (go_at_call 9; refine (C1.out.nextB (by repeat (first | exact Below.refl _ _ | refine Below.drew ?_ | refine bel_drewN ?_ _)) hk2').mono ?_; rintro e w2 ⟨rfl, hC, hF⟩; have C2 : Hid _ := hC; have S_2 : Hid _ := C1.out.sv hF S_1.out; clear hC hF; have d0_2 := C2.out.gg.c0))
  obtain ⟨Q6, hC6, hK6, hM6⟩ := C5.out.lit (kr_two X3_5.out X5_5.out) rfl (by simp)
  have hS6 := hM6.sv S_5.out
  obtain ⟨W6, hW6⟩ : ∃ W, W = (w5.alloc (.cells #[.slice a3 (intN ((m2 : Int) - 1)).length c3, .slice a5 (intN (m3 : Int)).length c5] 60)) := ⟨_, rfl⟩
  have C6 : Hid (Cur V w0 av cv bs w g r Q6 W6 (stepG bs (stepG bs { s with loop := true }))) := by show Cur _ _ _ _ _ _ _ _ _ _ _; rw [hW6]; exact hC6
  have K6 : Hid (Kids w Q6 W6 (.slice (some ⟨w5.heap.size, 0, none⟩) 2 2) [intN ((m2 : Int) - 1), intN (m3 : Int)]) := by show Kids _ _ _ _ _; rw [hW6]; exact hK6
  have S_6 : Hid (Sv V Q6 W6 (.slice an s.names.length cn) s.names) := by show Sv _ _ _ _ _; rw [hW6]; exact hS6
  rw [← hW6]
  clear hC6 hK6 hM6 hS6 hW6
  have d0_6 := C6.out.gg.c0
  obtain ⟨az, cz, d1_6, sz6⟩ := C6.out.save
  have R6 : Hid (Sv V Q6 W6 (.slice az s.names.length cz) s.names) := sz6
  clear sz6
  have f1_6 := C6.out.gg.free 1
  have dE : (W6.alloc (.cells #[] 9)).cell? ⟨g, 1, none⟩ = some (.slice az s.names.length cz) := cellB d1_6 ((Below.refl _ _).alloc (Nat.le_refl _) _)
  go_wp2_with (first
    | (go_at_call 45; obtain ⟨CX, FX⟩ := C15.out.bel (((Below.refl w15.heap.size w15).alloc (Nat.le_refl _) (.cells #[.int .u8 105] 5 (1, 2))).alloc (by simp) (.cells #[.slice (some ⟨w15.heap.size, 0, none⟩) 1 1] 22)); refine (CX.node (n := ⟨7, 0, [], [[105]], 0⟩) rfl (C15.out.kids FX K15.out) (rdV_nil _) (i_name C15.out.sz _ _ _) HS.out (by simp)).mono ?_; rintro e w16 ⟨a16, c16, rfl, hX, hC, hF⟩; have C16 : Hid _ := hC; have X16_16 : Hid _ := hX; have S_16 : Hid _ := CX.drop.sv hF (C15.out.sv FX S_15.out).drop; clear hC hX hF CX FX; have d3_16 : w16.cell? ⟨g, 3, none⟩ = some (.bool true) := C16.out.gg.c3; have f3_16 := C16.out.gg.free 3; have CA : Hid _ := C16.out.setLoop s.loop; have f1_16 := CA.out.1.gg.free 1; obtain ⟨za, zb, d1_16, _⟩ := CA.out.1.save)
    | (at_builtin; refine wpList_append_kids rfl _ _ rfl C14.out [.slice a14 l.length c14] rfl rfl rfl K13_14.out rfl (kr_one X14_14.out) (by simp) rfl ?_; intro a15 c15 w15 Q15 hK hC hM; have C15 : Hid _ := hC; have K15 : Hid _ := hK; have S_15 : Hid _ := hM.sv S_14.out; clear hC hK hM; have kv := Lib.run_convert_bytes_const w15 22 5 #[.int .u8 105] 1 1 Try.underlying22 Try.underlying5)
    | (go_at_call 58; refine (C13.out.call D10.out).mono ?_; rintro e w14 ⟨a14, c14, rfl, hX, hC, hF⟩; have C14 : Hid _ := hC; have X14_14 : Hid _ := hX; have K13_14 : Hid _ := C13.out.kids hF K13.out; have S_14 : Hid _ := C13.out.sv hF S_13.out; clear hC hX hF; have d0_14 := C14.out.gg.c0)
    | (at_builtin; refine wpList_append_strs rfl _ _ rfl (B := W6) (B11.out.alloc B11.out.size _) (us := s.names) (xs := [iB]) rfl (own_far O11.out (fun b e => heap_alloc_old _ _ (O11.out.lt b e).2)) (some ⟨w11.heap.size, 0, none⟩) 1 1 rfl rfl (fun i hi => by obtain rfl : i = 0 := (by omega); exact ⟨w11.heap.size, 0, rfl, by unfold World.cell?; rw [heap_alloc_new]; rfl⟩) (by simp; omega) ?_; intro a12 c12 w12 ho hbl; have O12 : Hid _ := ho; have B12 : Hid _ := hbl; have CB : Hid _ := (C6.out.bel hbl).1; have f1_12 := CB.out.gg.free 1; obtain ⟨zc, zd, d1_12, _⟩ := CB.out.save; have NN := C6.out.named hbl ho (by simp) (by simp; omega) (few_i _ HSH.out); have C13 : Hid _ := NN.1; have K13 : Hid _ := C6.out.kids NN.2 K6.out; have S_13 : Hid _ := C6.out.sv NN.2 S_6.out; clear ho hbl NN; have d0_13 := C13.out.gg.c0)
    | (at_builtin; refine wpList_append_strs rfl _ _ rfl (B := W6) ((Below.refl _ _).alloc (Nat.le_refl _) _) (us := []) (xs := s.names) rfl empty_row az s.names.length cz rfl rfl (fun i hi => by obtain ⟨b, off, e, hc⟩ := (Sv.reads R6.out).2 i hi; exact ⟨b, off, e, cellB hc ((Below.refl _ _).alloc (Nat.le_refl _) _)⟩) (by omega) ?_; intro a11 c11 w11 ho hbl; have O11 : Hid (w11.ownsRow W6.heap.size 9 1 (.slice a11 s.names.length c11) s.names.length (s.names.map .string)) := (by have h := ho; simp only [Nat.zero_add, List.nil_append] at h; exact h); have B11 : Hid _ := hbl; clear ho hbl))
  go_returns
  obtain ⟨CB, FB⟩ := CA.out.1.setNames (.slice an s.names.length cn) s.names (C16.out.sv CA.out.2 S_16.out) hfew HSH.out
  exact CB.done (CA.out.1.fn FB (C16.out.fn CA.out.2 X16_16.out))
set_option maxRecDepth 100000 in
set_option maxHeartbeats 4000000 in
theorem loop_for25 {bs : List Int} {n : Nat} (hb : Bts bs) (hl : bs.length ≤ 600) (_EX : ExprC bs n) (BL : PartC bs n 58 ag1 3) (s : Gs) (d e : Nat) (hd1 : 1 ≤ d) (hd5 : d ≤ 5) (hde : (d : Int) - 1 = (e : Int)) (h1 : 0 ≤ s.fuel) (h2 : s.fuel ≤ n) (h3 : s.fuel ≤ 200) (h4 : (s.names.length : Int) + 1 + 4 * s.fuel ≤ 2000) : ∃ l j f, Draws bs 59 (fun g => #[.pointer (some ⟨g, 0, none⟩), .int .i64 (d : Int), .int .i64 25]) s l { s with i := j, fuel := f } ∧ f ≤ s.fuel ∧ (s.fuel ≤ 0 → s.fuel - 4 ≤ f) ∧ (0 < s.fuel → -10 * s.fuel - 4 ≤ f) ∧ (l.length : Int) ≤ 10 + 20 * (s.fuel - f) := by
  obtain ⟨k2, hk2, kb2⟩ := nxn hb s.i
  obtain ⟨m2, hm2, hb2⟩ : ∃ m : Nat, ((k2 : Int) % 4) = (m : Int) ∧ m < 4 := ⟨k2 % 4, by omega, by omega⟩
  obtain ⟨k3, hk3, kb3⟩ := nxn hb (stepG bs s).i
  obtain ⟨m3, hm3, hb3⟩ : ∃ m : Nat, ((k3 : Int) % 5) = (m : Int) ∧ m < 5 := ⟨k3 % 5, by omega, by omega⟩
  have hk2' : nx bs (Gs.i { s with loop := true }) = (k2 : Int) := hk2
  have hk3' : nx bs (Gs.i (stepG bs { s with loop := true })) = (k3 : Int) := hk3
  have hw2 := wrap_mid m2 (by omega)
  have hw2' := wrap_small m2 (by omega)
  have hw3 := wrap_small m3 (by omega)
  have t2 : (k2 : Int).tmod 4 = (m2 : Int) := by rw [Int.tmod_eq_emod_of_nonneg (by omega)]; exact hm2
  have hq4 : (k3 : Int).tmod 5 = (m3 : Int) := by rw [Int.tmod_eq_emod_of_nonneg (by omega)]; exact hm3
  have hq2 : IntKind.i64.wrap ((k2 : Int).tmod 4 - 1) = (m2 : Int) - 1 := by rw [t2]; exact hw2
  have hq3 : IntKind.i64.wrap ((k3 : Int).tmod 5) = (m3 : Int) := by rw [hq4]; exact hw3
  obtain ⟨k4, hk4, kb4⟩ := nxn hb (stepG bs (stepG bs s)).i
  obtain ⟨m4, hm4, hb4⟩ : ∃ m : Nat, ((k4 : Int) % 4) = (m : Int) ∧ m < 4 := ⟨k4 % 4, by omega, by omega⟩
  have hk4' : nx bs (Gs.i (stepG bs (stepG bs { s with loop := true }))) = (k4 : Int) := hk4
  obtain ⟨l, j, f, hD, b1, b2, b3, b4⟩ := BL { (stepG bs (stepG bs (stepG bs { s with loop := true }))) with names := s.names ++ [iB] } e (by omega) (by show _ ≤ s.fuel; omega) (by show s.fuel ≤ _; omega) (by show s.fuel ≤ _; omega) (by show (((s.names ++ [iB]).length : Nat) : Int) + 4 * s.fuel ≤ _; simp; omega)
  have e3 : Gs.fuel { (stepG bs (stepG bs (stepG bs { s with loop := true }))) with names := s.names ++ [iB] } = s.fuel := rfl
  rw [e3] at b1 b2 b3 b4
  have HS : Hid ((node ⟨7, 0, [], [[105]], 0⟩ [intN ((m2 : Int) - 1), intN (m3 : Int), intN ((m4 : Int) - 1), l]).length ≤ 1000000) := by show _ ≤ _; simp only [node, intN_len, List.length_cons, List.flatten_cons, List.length_append, List.length_nil, List.flatten_nil]; omega
  refine ⟨node ⟨7, 0, [], [[105]], 0⟩ [intN ((m2 : Int) - 1), intN (m3 : Int), intN ((m4 : Int) - 1), l], j, f, fun V w0 w av cv g r hv hr hG => ?_, by omega, by omega, by omega, by simp only [node, intN_len, List.length_cons, List.flatten_cons, List.length_append, List.length_nil, List.flatten_nil]; omega⟩
  have C0 : Hid (Cur V w0 av cv bs w g r no w s) := Cur.start hv hr hb hl hG
  have d3_0 := C0.out.gg.c3
  have f3_0 := C0.out.gg.free 3
  obtain ⟨an, cn, d1_0, sv0⟩ := C0.out.save
  have C1 : Hid (Cur V w0 av cv bs w g r no (w.setCell ⟨g, 3, none⟩ (.bool true)) { s with loop := true }) := (C0.out.setLoop true).1
  have S_1 : Hid (Sv V no (w.setCell ⟨g, 3, none⟩ (.bool true)) (.slice an s.names.length cn) s.names) := C0.out.sv (C0.out.setLoop true).2 sv0
  have d0_1 := C1.out.gg.c0
  have hfew := C0.out.gg.few
  have HSH : Hid (∀ x ∈ s.names, x.size ≤ 1000) := C0.out.gg.short
  clear sv0
  have D10 : Hid (Draws bs 58 (fun g => #[.pointer (some ⟨g, 0, none⟩), .int .i64 (e : Int)]) { (stepG bs (stepG bs (stepG bs { s with loop := true }))) with names := s.names ++ [iB] } l { s with i := j, fuel := f, names := s.names ++ [iB], loop := true }) := hD
  have HNL : s.names.length ≤ 2000 := by omega
  clear hG hr hv hD _EX BL b1 b2 b3 b4 e3 h2 h4
  go_enter Try.func59, Try.ntmps59
  go_wp2_with fail
  go_region_held3 (fun W => W.cell? ⟨g, 0, none⟩ = some (.pointer (some ⟨r, 0, none⟩))) (first | exact d0_5 | exact d0_4 | exact d0_3 | exact d0_2 | exact d0_1 | exact (C5.out.bel ((Below.refl _ _).alloc (Nat.le_refl _) _)).1.gg.c0) (first | (go_at_call 46; (try rw [hq3]); (try rw [hq4]); refine (C4.out.make (l7int_any _ (m3 : Int))).mono ?_; rintro e w5 ⟨a5, c5, rfl, hX, hC, hF⟩; have C5 : Hid _ := hC; have X5_5 : Hid _ := hX; have X3_5 : Hid _ := C4.out.fn hF X3_4.out; have S_5 : Hid _ := C4.out.sv hF S_4.out; clear hC hX hF; have d0_5 := C5.out.gg.c0) | (go_at_call 9; refine (C3.out.next hk3').mono ?_; rintro e w4 ⟨rfl, hC, hF⟩; have C4 : Hid _ := hC; have X3_4 : Hid _ := C3.out.fn hF X3_3.out; have S_4 : Hid _ := C3.out.sv hF S_3.out; clear hC hF; have d0_4 := C4.out.gg.c0) | (go_at_call 46; (try rw [hq2]); refine (C2.out.make (l7int_any _ ((m2 : Int) - 1))).mono ?_; rintro e w3 ⟨a3, c3, rfl, hX, hC, hF⟩; have C3 : Hid _ := hC; have X3_3 : Hid _ := hX; have S_3 : Hid _ := C2.out.sv hF S_2.out; clear hC hX hF; have d0_3 := C3.out.gg.c0) | (go_at_call 9; refine (C1.out.nextB (by repeat (first | exact Below.refl _ _ | refine Below.drew ?_ | refine bel_drewN ?_ _)) hk2').mono ?_; rintro e w2 ⟨rfl, hC, hF⟩; have C2 : Hid _ := hC; have S_2 : Hid _ := C1.out.sv hF S_1.out; clear hC hF; have d0_2 := C2.out.gg.c0))
  obtain ⟨Q6, hC6, hK6, hM6⟩ := C5.out.lit (kr_two X3_5.out X5_5.out) rfl (by simp)
  have hS6 := hM6.sv S_5.out
  obtain ⟨W6, hW6⟩ : ∃ W, W = (w5.alloc (.cells #[.slice a3 (intN ((m2 : Int) - 1)).length c3, .slice a5 (intN (m3 : Int)).length c5] 60)) := ⟨_, rfl⟩
  have C6 : Hid (Cur V w0 av cv bs w g r Q6 W6 (stepG bs (stepG bs { s with loop := true }))) := by show Cur _ _ _ _ _ _ _ _ _ _ _; rw [hW6]; exact hC6
  have K6 : Hid (Kids w Q6 W6 (.slice (some ⟨w5.heap.size, 0, none⟩) 2 2) [intN ((m2 : Int) - 1), intN (m3 : Int)]) := by show Kids _ _ _ _ _; rw [hW6]; exact hK6
  have S_6 : Hid (Sv V Q6 W6 (.slice an s.names.length cn) s.names) := by show Sv _ _ _ _ _; rw [hW6]; exact hS6
  rw [← hW6]
  clear hC6 hK6 hM6 hS6 hW6
  have d0_6 := C6.out.gg.c0
  go_wp2_with (first
    | (go_at_call 45; obtain ⟨CX, FX⟩ := C15.out.bel (((Below.refl w15.heap.size w15).alloc (Nat.le_refl _) (.cells #[.int .u8 105] 5 (1, 2))).alloc (by simp) (.cells #[.slice (some ⟨w15.heap.size, 0, none⟩) 1 1] 22)); refine (CX.node (n := ⟨7, 0, [], [[105]], 0⟩) rfl (C15.out.kids FX K15.out) (rdV_nil _) (i_name C15.out.sz _ _ _) HS.out (by simp)).mono ?_; rintro e w16 ⟨a16, c16, rfl, hX, hC, hF⟩; have C16 : Hid _ := hC; have X16_16 : Hid _ := hX; have S_16 : Hid _ := CX.drop.sv hF (C15.out.sv FX S_15.out).drop; clear hC hX hF CX FX; have d3_16 : w16.cell? ⟨g, 3, none⟩ = some (.bool true) := C16.out.gg.c3; have f3_16 := C16.out.gg.free 3; have CA : Hid _ := C16.out.setLoop s.loop; have f1_16 := CA.out.1.gg.free 1; obtain ⟨za, zb, d1_16, _⟩ := CA.out.1.save)
    | (at_builtin; refine wpList_append_kids rfl _ _ rfl C14.out [.slice a14 l.length c14] rfl rfl rfl K13_14.out rfl (kr_one X14_14.out) (by simp) rfl ?_; intro a15 c15 w15 Q15 hK hC hM; have C15 : Hid _ := hC; have K15 : Hid _ := hK; have S_15 : Hid _ := hM.sv S_14.out; clear hC hK hM; have kv := Lib.run_convert_bytes_const w15 22 5 #[.int .u8 105] 1 1 Try.underlying22 Try.underlying5)
    | (go_at_call 58; refine (C13.out.call D10.out).mono ?_; rintro e w14 ⟨a14, c14, rfl, hX, hC, hF⟩; have C14 : Hid _ := hC; have X14_14 : Hid _ := hX; have K13_14 : Hid _ := C13.out.kids hF K13.out; have S_14 : Hid _ := C13.out.sv hF S_13.out; clear hC hX hF; have d0_14 := C14.out.gg.c0)
    | (at_builtin; refine wpList_append_strs rfl _ _ rfl (B := w9) (B11.out.alloc B11.out.size _) (us := s.names) (xs := [iB]) rfl (own_far O11.out (fun b e => heap_alloc_old _ _ (O11.out.lt b e).2)) (some ⟨w11.heap.size, 0, none⟩) 1 1 rfl rfl (fun i hi => by obtain rfl : i = 0 := (by omega); exact ⟨w11.heap.size, 0, rfl, by unfold World.cell?; rw [heap_alloc_new]; rfl⟩) (by simp; omega) ?_; intro a12 c12 w12 ho hbl; have O12 : Hid _ := ho; have B12 : Hid _ := hbl; have CB : Hid _ := (C9.out.bel hbl).1; have f1_12 := CB.out.gg.free 1; obtain ⟨zc, zd, d1_12, _⟩ := CB.out.save; have NN := C9.out.named hbl ho (by simp) (by simp; omega) (few_i _ HSH.out); have C13 : Hid _ := NN.1; have K13 : Hid _ := C9.out.kids NN.2 K9.out; have S_13 : Hid _ := C9.out.sv NN.2 S_9.out; clear ho hbl NN; have d0_13 := C13.out.gg.c0)
    | (at_builtin; refine wpList_append_strs rfl _ _ rfl (B := w9) ((Below.refl _ _).alloc (Nat.le_refl _) _) (us := []) (xs := s.names) rfl empty_row az s.names.length cz rfl rfl (fun i hi => by obtain ⟨b, off, e, hc⟩ := (Sv.reads R9.out).2 i hi; exact ⟨b, off, e, cellB hc ((Below.refl _ _).alloc (Nat.le_refl _) _)⟩) (by omega) ?_; intro a11 c11 w11 ho hbl; have O11 : Hid (w11.ownsRow w9.heap.size 9 1 (.slice a11 s.names.length c11) s.names.length (s.names.map .string)) := (by have h := ho; simp only [Nat.zero_add, List.nil_append] at h; exact h); have B11 : Hid _ := hbl; clear ho hbl)
    | (at_builtin; refine wpList_append_kids rfl _ _ rfl C8.out [.slice a8 (intN ((m4 : Int) - 1)).length c8] rfl rfl rfl K6_8.out rfl (kr_one X8_8.out) (by simp) rfl ?_; intro a9 c9 w9 Q9 hK hC hM; have C9 : Hid _ := hC; have K9 : Hid _ := hK; have S_9 : Hid _ := hM.sv S_8.out; clear hC hK hM; obtain ⟨az, cz, d1_9, sz9⟩ := C9.out.save; have R9 : Hid (Sv V Q9 w9 (.slice az s.names.length cz) s.names) := sz9; clear sz9; have f1_9 := C9.out.gg.free 1; have dE : (w9.alloc (.cells #[] 9)).cell? ⟨g, 1, none⟩ = some (.slice az s.names.length cz) := cellB d1_9 ((Below.refl _ _).alloc (Nat.le_refl _) _))
    | (go_at_call 46; refine (C7.out.make (l7int_any _ _)).mono ?_; rintro e w8 ⟨a8, c8, rfl, hX, hC, hF⟩; have C8 : Hid _ := hC; have X8_8 : Hid _ := hX; have K6_8 : Hid _ := C7.out.kids hF K6_7.out; have S_8 : Hid _ := C7.out.sv hF S_7.out; clear hC hX hF; have d0_8 := C8.out.gg.c0)
    | (go_at_call 9; refine (C6.out.next hk4').mono ?_; rintro e w7 ⟨rfl, hC, hF⟩; have C7 : Hid _ := hC; have K6_7 : Hid _ := C6.out.kids hF K6.out; have S_7 : Hid _ := C6.out.sv hF S_6.out; clear hC hF; have d0_7 := C7.out.gg.c0))
  go_returns
  obtain ⟨CB, FB⟩ := CA.out.1.setNames (.slice an s.names.length cn) s.names (C16.out.sv CA.out.2 S_16.out) hfew HSH.out
  exact CB.done (CA.out.1.fn FB (C16.out.fn CA.out.2 X16_16.out))
end Go.Proofs.Ytepbddfpdlapbaa.tk
