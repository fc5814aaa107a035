import Derived.Test.YtccnjmnafkfjdaaGreatNodeCopy
namespace Go.Proofs.YtccnjmnafkfjdaaGreat.nod
open Go.RowKit Go.Proofs.YtccnjmnafkfjdaaGreat.bts

theorem OwSS.store {w : World} {B b o : Nat} {v u : Value} {l : List (List Int)} (h : OwSS w B v l) (hb : b < B) : OwSS (w.setCell ⟨b, o, none⟩ u) B v l := by
  obtain ⟨g, us, e, ho, h⟩ := h
  have hg := (ho.lt g rfl).1
  refine ⟨g, us, e, ownsRow_setCell_below ho hb u, fun i hi => ?_⟩
  obtain ⟨x, hx, hs⟩ := h i hi
  exact ⟨x, hx, OwS.store hs (by omega)⟩
theorem OwSS.weaken {w : World} {B B' : Nat} {v : Value} {l : List (List Int)} (h : OwSS w B v l) (hB : B' ≤ B) : OwSS w B' v l := by
  obtain ⟨g, us, e, ⟨h1, h2⟩, h⟩ := h
  refine ⟨g, us, e, ⟨h1, ?_⟩, h⟩
  rcases h2 with h | ⟨g', c, cur, e', hb, r⟩
  · exact .inl h
  · exact .inr ⟨g', c, cur, e', by omega, r⟩

/-- One node in a block of its own. -/
def Lone (w : World) (g : Nat) (xs : List Value) : Prop := w.ownsRow 0 34 5 (.slice (some ⟨g, 0, none⟩) 1 1) 1 xs
theorem Lone.of {w : World} {g : Nat} {a b c d e : Value} (h : w.heap[g]? = some (.cells #[a, b, c, d, e] 34 (0, 0))) : Lone w g [a, b, c, d, e] :=
  ⟨rfl, .inr ⟨g, 1, _, rfl, Nat.zero_le _, h, by omega, by unfold maxLen; omega, rfl, rfl⟩⟩
theorem Lone.below {w w' : World} {B g : Nat} {xs : List Value} (h : Lone w g xs) (hb : Below B w w') (hg : g < B) : Lone w' g xs := own_below h hb hg
theorem Lone.set {w : World} {g : Nat} {xs : List Value} (h : Lone w g xs) (j : Nat) (u : Value) : Lone (w.setCell ⟨g, j, none⟩ u) g (xs.set j u) := (World.ownsRow.stored h j u).1
theorem Lone.at {w : World} {g j : Nat} {xs : List Value} (h : Lone w g xs) (hj : j < 5) : w.cell? ⟨g, j, none⟩ = xs[j]? := World.ownsRow.cellAt h j (by omega)
theorem Lone.free {w : World} {g : Nat} {xs : List Value} (h : Lone w g xs) (j : Nat) : w.frozen? ⟨g, j, none⟩ = false := World.ownsRow.frozenAt h j
theorem Lone.other {w : World} {g b o : Nat} {u : Value} {xs : List Value} (h : Lone w g xs) (hb : ¬ b = g) : Lone (w.setCell ⟨b, o, none⟩ u) g xs := by
  obtain ⟨h1, h2⟩ := h
  refine ⟨h1, ?_⟩
  rcases h2 with h | ⟨g', c, cur, e', hb', hh, r⟩
  · exact .inl h
  · have e : g' = g := by simp at e'; exact e'.1.symm
    subst e
    exact .inr ⟨g', c, cur, e', hb', (Below.heap_setCell w ⟨b, o, none⟩ u g' (fun e => hb e.symm)).trans hh, r⟩

theorem Lone.back {w : World} {g : Nat} {a b c d e : Value} (h : Lone w g [a, b, c, d, e]) : w.heap[g]? = some (.cells #[a, b, c, d, e] 34 (0, 0)) := by
  rcases h.2 with ⟨h, _⟩ | ⟨g', cap, cur, e', _, hh, _, _, hs, ht⟩
  · simp at h
  · simp only [Value.slice.injEq, Option.some.injEq, Addr.mk.injEq, and_true] at e'
    obtain ⟨rfl, _, rfl⟩ := e'
    have hc : cur = #[a, b, c, d, e] := by
      apply Array.toList_inj.mp
      rw [List.take_of_length_le (by rw [Array.length_toList]; omega)] at ht
      exact ht
    rw [hh, hc]

set_option maxRecDepth 100000 in
set_option maxHeartbeats 1000000 in
theorem toNode_any (k n c : Int) (ut un : Value) (t : List Int) (ns : List (List Int)) (w : World) (ht : RdV w ut t) (hn : RdVV w un ns) (hs : t.length + sizeSS ns ≤ 1048576) :
    Calls Tryz.prog 12 #[.agg #[.int .i64 k, .int .i64 n, ut, un, .int .i64 c]] w fun e w' => ∃ ut' un', e = .returned (.agg #[.int .i64 k, .int .i64 n, ut', un', .int .i64 c]) ∧
      OwS w' w.heap.size ut' t ∧ OwSS w' w.heap.size un' ns ∧ Below w.heap.size w w' := by
  obtain ⟨ao, cap, rfl, _, hr, _⟩ := ht
  have CT : Hid (∀ W, Below w.heap.size w W → Calls Tryz.prog 21 #[.slice ao t.length cap] W fun e w' => e = .returned (.slice (some ⟨W.heap.size, 0, none⟩) t.length t.length) ∧ OwS w' W.heap.size (.slice (some ⟨W.heap.size, 0, none⟩) t.length t.length) t ∧ Below W.heap.size W w') := by
    intro W hW
    refine (toByteS_any ao cap t W (hr.below hW) (by omega)).mono ?_
    rintro e w' ⟨h1, h2, h3⟩
    exact ⟨h1, ⟨_, rfl, h2⟩, h3⟩
  have CN : Hid (∀ W, Below w.heap.size w W → Calls Tryz.prog 22 #[un] W fun e w' => e = .returned (.slice (some ⟨W.heap.size, 0, none⟩) ns.length ns.length) ∧ OwSS w' W.heap.size (.slice (some ⟨W.heap.size, 0, none⟩) ns.length ns.length) ns ∧ Below W.heap.size W w') :=
    fun W hW => toByteSS_any un ns W (hn.below hW) (by omega)
  clear hr hn hs
  go_enter Tryz.func12, Tryz.ntmps12
  go_wp2_with fail
  refine (CT.out _ ((((Below.refl _ _).alloc (Nat.le_refl _) _).alloc (by simp only [World.size_alloc]; omega) _).alloc (by simp only [World.size_alloc]; omega) _)).mono ?_
  rintro e w1 ⟨rfl, ho1, hb1⟩
  simp only [World.size_alloc] at ho1 hb1 ⊢
  have HW1 : Hid (Below w.heap.size w w1) := ((((Below.refl _ _).alloc (Nat.le_refl _) _).alloc (by simp only [World.size_alloc]; omega) _).alloc (by simp only [World.size_alloc]; omega) _).trans (hb1.mono (by omega))
  have L0 : Hid (Lone w1 (w.heap.size + 1 + 1) [.int .i64 k, .int .i64 n, .slice none 0 0, .slice none 0 0, .int .i64 0]) := by
    refine Lone.of ((hb1.block _ (by omega)).trans ?_)
    have := heap_alloc_new ((w.alloc (Obj.cells #[Value.int IntKind.i64 k, Value.int IntKind.i64 n, .slice ao t.length cap, un, Value.int IntKind.i64 c] 33)).alloc (Obj.cells #[Value.int IntKind.i64 0, Value.int IntKind.i64 0, Value.slice none 0 0, Value.slice none 0 0, Value.int IntKind.i64 0] 34)) (Obj.cells #[Value.int IntKind.i64 k, Value.int IntKind.i64 n, Value.slice none 0 0, Value.slice none 0 0, Value.int IntKind.i64 0] 34)
    simpa only [World.size_alloc] using this
  have M0 : Hid (Lone w1 (w.heap.size + 1) [.int .i64 0, .int .i64 0, .slice none 0 0, .slice none 0 0, .int .i64 0]) := by
    refine Lone.of ((hb1.block _ (by omega)).trans ?_)
    rw [heap_alloc_old _ _ (by simp only [World.size_alloc]; omega)]
    have := heap_alloc_new (w.alloc (Obj.cells #[Value.int IntKind.i64 k, Value.int IntKind.i64 n, .slice ao t.length cap, un, Value.int IntKind.i64 c] 33)) (Obj.cells #[Value.int IntKind.i64 0, Value.int IntKind.i64 0, Value.slice none 0 0, Value.slice none 0 0, Value.int IntKind.i64 0] 34)
    simpa only [World.size_alloc] using this
  have A0 : w1.heap[w.heap.size]? = some (Obj.cells #[Value.int IntKind.i64 k, Value.int IntKind.i64 n, .slice ao t.length cap, un, Value.int IntKind.i64 c] 33) := by
    rw [hb1.block _ (by omega), heap_alloc_old _ _ (by simp only [World.size_alloc]; omega), heap_alloc_old _ _ (by simp only [World.size_alloc]; omega)]
    exact heap_alloc_new _ _
  have a3 : w1.cell? ⟨w.heap.size, 3, none⟩ = some un := by simp only [World.cell?, A0]; rfl
  have A4 : Hid (w1.cell? ⟨w.heap.size, 4, none⟩ = some (.int .i64 c)) := by show _ = _; simp only [World.cell?, A0]; rfl
  have hf2 := L0.out.free 2
  have hc2 := L0.out.at (j := 2) (by omega)
  have HO1 : Hid _ := ho1
  have HS1 : Hid (w.heap.size + 1 + 1 + 1 ≤ w1.heap.size) := by have := hb1.size; simp only [World.size_alloc] at this; exact this
  clear ho1 hb1 A0
  go_wp2_with fail
  refine (CN.out _ (HW1.out.setCell (p := ⟨w.heap.size + 1 + 1, 2, none⟩) (by show _ ≤ w.heap.size + 1 + 1; omega) _)).mono ?_
  rintro e w2 ⟨rfl, ho2, hb2⟩
  simp only [World.size_setCell] at ho2 hb2 ⊢
  have HB2 : Hid (Below w1.heap.size (w1.setCell ⟨w.heap.size + 1 + 1, 2, none⟩ (.slice (some ⟨w.heap.size + 1 + 1 + 1, 0, none⟩) t.length t.length)) w2) := hb2
  have hs2 := HB2.out.size
  simp only [World.size_setCell] at hs2
  have HW2 : Hid (Below w.heap.size w w2) := (HW1.out.setCell (p := ⟨w.heap.size + 1 + 1, 2, none⟩) (by show _ ≤ w.heap.size + 1 + 1; omega) _).trans (HB2.out.mono HW1.out.size)
  have L1 : Hid (Lone w2 (w.heap.size + 1 + 1) [.int .i64 k, .int .i64 n, .slice (some ⟨w.heap.size + 1 + 1 + 1, 0, none⟩) t.length t.length, .slice none 0 0, .int .i64 0]) :=
    Lone.below (L0.out.set 2 (.slice (some ⟨w.heap.size + 1 + 1 + 1, 0, none⟩) t.length t.length)) HB2.out (by have := HS1.out; omega)
  have M1 : Hid (Lone w2 (w.heap.size + 1) [.int .i64 0, .int .i64 0, .slice none 0 0, .slice none 0 0, .int .i64 0]) :=
    Lone.below (M0.out.other (by omega)) HB2.out (by have := HS1.out; omega)
  have HT2 : Hid (OwS w2 (w.heap.size + 1 + 1 + 1) (.slice (some ⟨w.heap.size + 1 + 1 + 1, 0, none⟩) t.length t.length) t) :=
    OwS.below (OwS.store HO1.out (by omega)) HB2.out (by simp only [World.size_setCell]; exact Nat.le_refl _)
  have HN2 : Hid (OwSS w2 (w.heap.size + 1 + 1 + 1) (.slice (some ⟨w1.heap.size, 0, none⟩) ns.length ns.length) ns) := ho2.weaken HS1.out
  have a4 : w2.cell? ⟨w.heap.size, 4, none⟩ = some (.int .i64 c) := by
    rw [HB2.out.cell (p := ⟨w.heap.size, 4, none⟩) (by show w.heap.size < _; have := HS1.out; omega), World.cell?_setCell_other _ _ _ _ (by intro e; simp only [Addr.mk.injEq] at e; omega)]
    exact A4.out
  have hf3 := L1.out.free 3
  have hf4 := L1.out.free 4
  have c0 := L1.out.at (j := 0) (by omega)
  have c1 := L1.out.at (j := 1) (by omega)
  have c2 := L1.out.at (j := 2) (by omega)
  have c3 := L1.out.at (j := 3) (by omega)
  have c4 := L1.out.at (j := 4) (by omega)
  have g0 := M1.out.free 0
  have g1 := M1.out.free 1
  have g2 := M1.out.free 2
  have g3 := M1.out.free 3
  have g4 := M1.out.free 4
  have m0 := M1.out.at (j := 0) (by omega)
  have m1 := M1.out.at (j := 1) (by omega)
  have m2 := M1.out.at (j := 2) (by omega)
  have m3 := M1.out.at (j := 3) (by omega)
  have m4 := M1.out.at (j := 4) (by omega)
  simp only [List.getElem?_cons_zero, List.getElem?_cons_succ] at c0 c1 c2 c3 c4 m0 m1 m2 m3 m4
  clear ho2 hb2 hs2 a3 hf2 hc2
  generalize w1.heap.size = s1 at HN2 ⊢
  clear HB2 L0 M0 HO1 HS1 HW1 A4
  go_wp2_with fail
  have MF := (((((M1.out.other (b := w.heap.size + 1 + 1) (o := 3) (u := .slice (some ⟨s1, 0, none⟩) ns.length ns.length) (by omega)).other (b := w.heap.size + 1 + 1) (o := 4) (u := .int .i64 c) (by omega)).set 0 (.int .i64 k)).set 1 (.int .i64 n)).set 2 (.slice (some ⟨w.heap.size + 1 + 1 + 1, 0, none⟩) t.length t.length))
  have MG := (MF.set 3 (.slice (some ⟨s1, 0, none⟩) ns.length ns.length)).set 4 (.int .i64 c)
  refine bodyPost_ret (results_cell_row Tryz.results12 _ _ (w.heap.size + 1) 34 _ _ _ rfl (Lone.back MG) Tryz.underlying34 rfl rfl) rfl ?_
  refine ⟨_, _, rfl, ?_, ?_, ?_⟩
  · exact OwS.weaken (B := w.heap.size + 1 + 1 + 1) (OwS.store (OwS.store (OwS.store (OwS.store (OwS.store (OwS.store (OwS.store HT2.out (by omega)) (by omega)) (by omega)) (by omega)) (by omega)) (by omega)) (by omega)) (by omega)
  · exact OwSS.weaken (B := w.heap.size + 1 + 1 + 1) (OwSS.store (OwSS.store (OwSS.store (OwSS.store (OwSS.store (OwSS.store (OwSS.store HN2.out (by omega)) (by omega)) (by omega)) (by omega)) (by omega)) (by omega)) (by omega)) (by omega)
  · have P1 : w.heap.size ≤ w.heap.size + 1 + 1 := by omega
    have P2 : w.heap.size ≤ w.heap.size + 1 := by omega
    exact ((((((HW2.out.setCell (p := ⟨w.heap.size + 1 + 1, 3, none⟩) P1 _).setCell (p := ⟨w.heap.size + 1 + 1, 4, none⟩) P1 _).setCell (p := ⟨w.heap.size + 1, 0, none⟩) P2 _).setCell (p := ⟨w.heap.size + 1, 1, none⟩) P2 _).setCell (p := ⟨w.heap.size + 1, 2, none⟩) P2 _).setCell (p := ⟨w.heap.size + 1, 3, none⟩) P2 _).setCell (p := ⟨w.heap.size + 1, 4, none⟩) P2 _

theorem info_node : (Tryz.prog.info? 34).map (fun i => (i.zero, i.size, i.bytes)) = some (some (.agg #[.int .i64 0, .int .i64 0, .slice none 0 0, .slice none 0 0, .int .i64 0]), 5, 72) := by kernel_rfl

/-- The cells of the node at place j, in memory from block B on that the call owns. -/
def NdAt (w : World) (B : Nat) (us : List Value) (j : Nat) (d : Nd) : Prop :=
  ∃ ut un, us[j * 5]? = some (.int .i64 d.kind) ∧ us[j * 5 + 1]? = some (.int .i64 d.n) ∧ us[j * 5 + 2]? = some ut ∧ us[j * 5 + 3]? = some un ∧ us[j * 5 + 4]? = some (.int .i64 d.count) ∧ OwS w B ut d.text ∧ OwSS w B un d.names
theorem NdAt.below {w w' : World} {B X j : Nat} {us : List Value} {d : Nd} (h : NdAt w B us j d) (hb : Below X w w') (hX : w.heap.size ≤ X) : NdAt w' B us j d := by
  obtain ⟨ut, un, h0, h1, h2, h3, h4, ht, hn⟩ := h
  exact ⟨ut, un, h0, h1, h2, h3, h4, ht.below hb hX, hn.below hb hX⟩
theorem NdAt.store {w : World} {B b o j : Nat} {u : Value} {us : List Value} {d : Nd} (h : NdAt w B us j d) (hb : b < B) : NdAt (w.setCell ⟨b, o, none⟩ u) B us j d := by
  obtain ⟨ut, un, h0, h1, h2, h3, h4, ht, hn⟩ := h
  exact ⟨ut, un, h0, h1, h2, h3, h4, OwS.store ht hb, OwSS.store hn hb⟩
theorem NdAt.other {w : World} {B j k i : Nat} {u : Value} {us : List Value} {d : Nd} (h : NdAt w B us j d) (hk : ¬ k = j) (hi : i < 5) : NdAt w B (us.set (k * 5 + i) u) j d := by
  obtain ⟨ut, un, h0, h1, h2, h3, h4, ht, hn⟩ := h
  refine ⟨ut, un, ?_, ?_, ?_, ?_, ?_, ht, hn⟩
  all_goals rw [List.getElem?_set_ne (by omega)]; assumption

/-- The value is a slice of nodes in memory from block B on. -/
def OwN (w : World) (B : Nat) (v : Value) (l : List Nd) : Prop :=
  ∃ (g : Nat) (us : List Value), v = .slice (some ⟨g, 0, none⟩) l.length l.length ∧ w.ownsRow B 34 5 (.slice (some ⟨g, 0, none⟩) l.length l.length) l.length us ∧ ∀ j, j < l.length → NdAt w (g + 1) us j (l.getD j nd0)

set_option maxRecDepth 100000 in
set_option maxHeartbeats 2000000 in
theorem toNodeS_any (ao : Option Addr) (n cap : Nat) (l : List Nd) (w : World) (hl : l.length = n) (hr : RdN w ao l) (hs : sizeNS l ≤ 1048576) :
    Calls Tryz.prog 6 #[.slice ao n cap] w fun e w' => e = .returned (.slice (some ⟨w.heap.size, 0, none⟩) n n) ∧ OwN w' w.heap.size (.slice (some ⟨w.heap.size, 0, none⟩) n n) l ∧ Below w.heap.size w w' := by
  obtain ⟨i0, hi, hz0, hz1, hz2⟩ := info_parts info_node
  have HS : Hid (∀ i, i < l.length → (l.getD i nd0).text.length + sizeSS (l.getD i nd0).names ≤ 1048576) := by
    intro i hi
    have h1 := sums_succ hi
    have h2 := sums_le l (l.length - (i + 1)) (i + 1) (by omega)
    unfold sizeNS at hs
    have h3 : sizeN (l.getD i nd0) = (l.getD i nd0).text.length + sizeSS (l.getD i nd0).names := rfl
    omega
  have hn1 : n ≤ 1048576 := by unfold sizeNS at hs; omega
  have HL : Hid (l.length = n) := hl
  have HR : Hid (RdN w ao l) := hr
  clear hl hr hs
  have hmx : n ≤ maxLen := by unfold maxLen; omega
  go_enter Tryz.func6, Tryz.ntmps6
  go_wp2_with (at_make; refine wpList_make_full _ rfl _ _ 25 rfl w.heap.size 34 i0 (.agg #[.int .i64 0, .int .i64 0, .slice none 0 0, .slice none 0 0, .int .i64 0]) 5 Tryz.underlying25 hi hz0 hz1 .i64 .i64 _ _ n rfl rfl rfl rfl (by rw [hz2]; omega) hmx (Nat.le_refl _) ?_; intro w1 hown hgrow)
  have hb1 : Below w.heap.size w w1 := (Below.refl _ _).grown hgrow (Nat.le_refl _) (by intro k hk; cases hk)
  go_loopw [4] (fun i wr => ∃ (k : Nat) (us : List Value), k ≤ n ∧ i = .int .i64 k ∧ wr.ownsRow w.heap.size 34 5 (.slice (some ⟨w.heap.size, 0, none⟩) n n) n us ∧ (∀ j, j < k → NdAt wr (w.heap.size + 1) us j (l.getD j nd0)) ∧ Below w.heap.size w wr) (fun i _ => n - (intOf i).toNat)
  case atStart => exact ⟨0, _, Nat.zero_le _, rfl, hown, fun j hj => absurd hj (by omega), hb1⟩
  case round =>
    clear hown hgrow hb1
    obtain ⟨k, us, hk, rfl, hown, hus, hb⟩ := hrel
    have hlB := (hown.lt w.heap.size rfl).2
    have HO : Hid (wr.ownsRow w.heap.size 34 5 (.slice (some ⟨w.heap.size, 0, none⟩) n n) n us) := hown
    have HU : Hid (∀ j, j < k → NdAt wr (w.heap.size + 1) us j (l.getD j nd0)) := hus
    clear hown hus
    by_cases hlt : k < n
    · obtain ⟨b, off, ut, un, rfl, c0, c1, c2, c3, c4, ht, hn⟩ := (RdN.below HR.out hb) k (by rw [HL.out]; exact hlt)
      have hsz := HS.out k (by rw [HL.out]; exact hlt)
      obtain ⟨d, hd⟩ : ∃ d, d = l.getD k nd0 := ⟨_, rfl⟩
      rw [← hd] at c0 c1 c4 ht hn hsz
      have HD : Hid (l.getD k nd0 = d) := hd.symm
      clear hd
      obtain ⟨kd, nn, tx, nms, ct⟩ := d
      simp only at c0 c1 c4 ht hn hsz
      have C := toNode_any kd nn ct ut un tx nms wr ht hn hsz
      clear ht hn hsz
      go_wp2_with fail
      refine C.mono ?_
      rintro e w1 ⟨ut', un', rfl, ⟨gt, rfl, ot⟩, ⟨gn, vs, rfl, on, hin⟩, hb1⟩
      clear C
      have HT : Hid (OwS w1 (w.heap.size + 1) (.slice (some ⟨gt, 0, none⟩) tx.length tx.length) tx) := OwS.weaken (B := wr.heap.size) ⟨gt, rfl, ot⟩ (by omega)
      have HN : Hid (OwSS w1 (w.heap.size + 1) (.slice (some ⟨gn, 0, none⟩) nms.length nms.length) nms) := OwSS.weaken (B := wr.heap.size) ⟨gn, vs, rfl, on, hin⟩ (by omega)
      clear ot on hin
      have ho2 : w1.ownsRow w.heap.size 34 5 (.slice (some ⟨w.heap.size, 0, none⟩) n n) n us := own_below HO.out hb1 hlB
      have hul : us.length = n * 5 := ho2.1
      have f0 := ho2.frozenAt (k * 5)
      have f1 := ho2.frozenAt (k * 5 + 1)
      have f2 := ho2.frozenAt (k * 5 + 2)
      have f3 := ho2.frozenAt (k * 5 + 3)
      have f4 := ho2.frozenAt (k * 5 + 4)
      have e0 := ho2.cellAt (k * 5) (by omega)
      have e1 := ho2.cellAt (k * 5 + 1) (by omega)
      have e2 := ho2.cellAt (k * 5 + 2) (by omega)
      have e3 := ho2.cellAt (k * 5 + 3) (by omega)
      have e4 := ho2.cellAt (k * 5 + 4) (by omega)
      obtain ⟨u0, hu0⟩ : ∃ u, us[k * 5]? = some u := ⟨_, List.getElem?_eq_getElem (by omega)⟩
      obtain ⟨u1, hu1⟩ : ∃ u, us[k * 5 + 1]? = some u := ⟨_, List.getElem?_eq_getElem (by omega)⟩
      obtain ⟨u2, hu2⟩ : ∃ u, us[k * 5 + 2]? = some u := ⟨_, List.getElem?_eq_getElem (by omega)⟩
      obtain ⟨u3, hu3⟩ : ∃ u, us[k * 5 + 3]? = some u := ⟨_, List.getElem?_eq_getElem (by omega)⟩
      obtain ⟨u4, hu4⟩ : ∃ u, us[k * 5 + 4]? = some u := ⟨_, List.getElem?_eq_getElem (by omega)⟩
      rw [hu0] at e0
      rw [hu1] at e1
      rw [hu2] at e2
      rw [hu3] at e3
      rw [hu4] at e4
      have HO2 : Hid (w1.ownsRow w.heap.size 34 5 (.slice (some ⟨w.heap.size, 0, none⟩) n n) n us) := ho2
      have HB1 : Hid (Below wr.heap.size wr w1) := hb1
      have HUL : Hid (us.length = n * 5) := hul
      clear ho2 hul hu0 hu1 hu2 hu3 hu4 hb1
      go_wp2
      go_roundw
      case rel =>
        have s0 := HO2.out.stored (k * 5) (.int .i64 kd)
        have s1 := s0.1.stored (k * 5 + 1) (.int .i64 nn)
        have s2 := s1.1.stored (k * 5 + 2) (.slice (some ⟨gt, 0, none⟩) tx.length tx.length)
        have s3 := s2.1.stored (k * 5 + 3) (.slice (some ⟨gn, 0, none⟩) nms.length nms.length)
        have s4 := s3.1.stored (k * 5 + 4) (.int .i64 ct)
        have HBw : Below w.heap.size w w1 := hb.trans (HB1.out.mono hb.size)
        refine ⟨k + 1, _, by omega, by go_num, s4.1, ?_, ((((HBw.setCell (Nat.le_refl _) _).setCell (Nat.le_refl _) _).setCell (Nat.le_refl _) _).setCell (Nat.le_refl _) _).setCell (Nat.le_refl _) _⟩
        intro j hj
        have hl := HUL.out
        by_cases e : j = k
        · subst e
          rw [HD.out]
          refine ⟨_, _, ?_, ?_, ?_, ?_, ?_, OwS.store (OwS.store (OwS.store (OwS.store (OwS.store HT.out (by omega)) (by omega)) (by omega)) (by omega)) (by omega), OwSS.store (OwSS.store (OwSS.store (OwSS.store (OwSS.store HN.out (by omega)) (by omega)) (by omega)) (by omega)) (by omega)⟩
          · rw [List.getElem?_set_ne (by omega), List.getElem?_set_ne (by omega), List.getElem?_set_ne (by omega), List.getElem?_set_ne (by omega), List.getElem?_set_self (by omega)]
          · rw [List.getElem?_set_ne (by omega), List.getElem?_set_ne (by omega), List.getElem?_set_ne (by omega), List.getElem?_set_self (by simp only [List.length_set]; omega)]
          · rw [List.getElem?_set_ne (by omega), List.getElem?_set_ne (by omega), List.getElem?_set_self (by simp only [List.length_set]; omega)]
          · rw [List.getElem?_set_ne (by omega), List.getElem?_set_self (by simp only [List.length_set]; omega)]
          · rw [List.getElem?_set_self (by simp only [List.length_set]; omega)]
        · have h := (HU.out j (by omega)).below HB1.out (Nat.le_refl _)
          have h0 := (h.store (b := w.heap.size) (o := k * 5) (u := .int .i64 kd) (by omega)).other (k := k) (i := 0) (u := .int .i64 kd) (by omega) (by omega)
          have h1 := (h0.store (b := w.heap.size) (o := k * 5 + 1) (u := .int .i64 nn) (by omega)).other (k := k) (i := 1) (u := .int .i64 nn) (by omega) (by omega)
          have h2 := (h1.store (b := w.heap.size) (o := k * 5 + 2) (u := .slice (some ⟨gt, 0, none⟩) tx.length tx.length) (by omega)).other (k := k) (i := 2) (u := .slice (some ⟨gt, 0, none⟩) tx.length tx.length) (by omega) (by omega)
          have h3 := (h2.store (b := w.heap.size) (o := k * 5 + 3) (u := .slice (some ⟨gn, 0, none⟩) nms.length nms.length) (by omega)).other (k := k) (i := 3) (u := .slice (some ⟨gn, 0, none⟩) nms.length nms.length) (by omega) (by omega)
          exact (h3.store (b := w.heap.size) (o := k * 5 + 4) (u := .int .i64 ct) (by omega)).other (k := k) (i := 4) (u := .int .i64 ct) (by omega) (by omega)
      case measure => simp [intOf]; omega
    · have hkn : k = n := by omega
      subst hkn
      go_wp2
      go_ret
      refine ⟨rfl, ⟨w.heap.size, us, by rw [HL.out], by rw [HL.out]; exact HO.out, fun i hi => HU.out i (by rw [← HL.out]; exact hi)⟩, hb⟩
end Go.Proofs.YtccnjmnafkfjdaaGreat.nod
