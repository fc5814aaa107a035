import Derived.Test.YteagakplhfiodaaDoorPgOwn
import Derived.Test.YteagakplhfiodaaDoorPgTo
namespace Go.Proofs.YteagakplhfiodaaDoor.pg
open Go.RowKit Go.Proofs.YteagakplhfiodaaDoor.bts

/-- Cells of blocks from B on and below H have turned, no block's make has. -/
structure Mk (B H : Nat) (w w' : World) : Prop where
  below : Below B w w'
  far : ∀ b, H ≤ b → b < w.heap.size → w'.heap[b]? = w.heap[b]?
  shape : ∀ (b : Nat) (cs : Array Value) (t : TypeId) (fr : Nat × Nat), w.heap[b]? = some (Obj.cells cs t fr) → ∃ cs' : Array Value, w'.heap[b]? = some (Obj.cells cs' t fr) ∧ cs'.size = cs.size

theorem heap_lt {w : World} {b : Nat} {o : Obj} (h : w.heap[b]? = some o) : b < w.heap.size := by
  rcases Nat.lt_or_ge b w.heap.size with hlt | hge
  · exact hlt
  · rw [Array.getElem?_eq_none hge] at h; cases h

theorem Mk.refl (B H : Nat) (w : World) : Mk B H w w := ⟨Below.refl _ _, fun _ _ _ => rfl, fun _ cs _ _ h => ⟨cs, h, rfl⟩⟩
theorem Mk.trans {B H : Nat} {a b c : World} (h : Mk B H a b) (k : Mk B H b c) : Mk B H a c :=
  ⟨h.below.trans k.below, fun x hx hl => (k.far x hx (Nat.lt_of_lt_of_le hl h.below.size)).trans (h.far x hx hl), fun x cs t fr hx => by
    obtain ⟨cs1, h1, e1⟩ := h.shape x cs t fr hx
    obtain ⟨cs2, h2, e2⟩ := k.shape x cs1 t fr h1
    exact ⟨cs2, h2, e2.trans e1⟩⟩
theorem Mk.mono {B H B' H' : Nat} {a b : World} (h : Mk B H a b) (hB : B' ≤ B) (hH : H ≤ H') : Mk B' H' a b :=
  ⟨h.below.mono hB, fun x hx hl => h.far x (by omega) hl, h.shape⟩
theorem Mk.drewN {B H : Nat} {a b : World} (h : Mk B H a b) (n : Nat) : Mk B H a (b.drewN n) :=
  h.trans ⟨⟨rfl, rfl, rfl, Nat.le_refl _, fun _ _ => rfl⟩, fun _ _ _ => rfl, fun _ cs _ _ h => ⟨cs, h, rfl⟩⟩

/-- One row of a known make has turned. -/
theorem Mk.row {B H g : Nat} {w w' : World} {cs cs' : Array Value} {t : TypeId} {fr : Nat × Nat} (hg : w.grownBy w' (some g)) (h : w.heap[g]? = some (.cells cs t fr)) (h' : w'.heap[g]? = some (.cells cs' t fr)) (hs : cs'.size = cs.size) (hB : B ≤ g) (hH : g < H) : Mk B H w w' := by
  have hgl := heap_lt h
  refine ⟨(Below.refl B w).grown hg (by omega) (fun k hk => by cases hk; exact hB), fun b hb hl => hg.block b hl (by intro e; cases e; omega), fun b c t' f hb => ?_⟩
  by_cases e : b = g
  · subst e
    rw [h] at hb
    cases hb
    exact ⟨cs', h', hs⟩
  · exact ⟨c, (hg.block b (heap_lt hb) (by intro e'; cases e'; exact e rfl)).trans hb, rfl⟩

/-- The value is an owned row of this make, in a block from lo on and below H. -/
def Rw (E c lo H : Nat) (w : World) (v : Value) (n : Nat) : Prop := ∃ g xs, v = .slice (some ⟨g, 0, none⟩) n n ∧ g < H ∧ w.ownsRow lo E c (.slice (some ⟨g, 0, none⟩) n n) n xs

theorem own_open {w : World} {B E c g n m : Nat} {xs : List Value} (h : w.ownsRow B E c (.slice (some ⟨g, 0, none⟩) n m) n xs) : ∃ cur : Array Value, B ≤ g ∧ w.heap[g]? = some (.cells cur E (0, 0)) ∧ n ≤ m ∧ m ≤ maxLen ∧ cur.size = m * c ∧ cur.toList.take (n * c) = xs := by
  rcases h.2 with ⟨h', _⟩ | ⟨g', cap', cur, h', r⟩
  · simp at h'
  · simp only [Value.slice.injEq, Option.some.injEq, Addr.mk.injEq, and_true, true_and] at h'
    obtain ⟨rfl, rfl⟩ := h'
    exact ⟨cur, r⟩

theorem Rw.mk {E c lo H B H' n : Nat} {w w' : World} {v : Value} (h : Rw E c lo H w v n) (k : Mk B H' w w') : Rw E c lo H w' v n := by
  obtain ⟨g, xs, e, hg, ho⟩ := h
  obtain ⟨cur, h1, h2, h3, h4, h5, h6⟩ := own_open ho
  obtain ⟨cur', k1, k2⟩ := k.shape _ _ _ _ h2
  exact ⟨g, cur'.toList.take (n * c), e, hg, by rw [List.length_take]; simp; rw [k2, h5]; omega, .inr ⟨g, n, cur', rfl, h1, k1, h3, h4, by rw [k2, h5], rfl⟩⟩

theorem Mk.own {B H E c lo g n : Nat} {w w' : World} {xs ys : List Value} (hg : w.grownBy w' (some g)) (h : w.ownsRow lo E c (.slice (some ⟨g, 0, none⟩) n n) n xs) (h' : w'.ownsRow lo E c (.slice (some ⟨g, 0, none⟩) n n) n ys) (hB : B ≤ g) (hH : g < H) : Mk B H w w' := by
  obtain ⟨cur, h1, h2, h3, h4, h5, h6⟩ := own_open h
  obtain ⟨cur', k1, k2, k3, k4, k5, k6⟩ := own_open h'
  exact Mk.row hg h2 k2 (by rw [h5, k5]) hB hH

theorem own_mk {E c lo B H g n : Nat} {w w' : World} {xs : List Value} (h : w.ownsRow lo E c (.slice (some ⟨g, 0, none⟩) n n) n xs) (k : Mk B H w w') (hg : g < B) : w'.ownsRow lo E c (.slice (some ⟨g, 0, none⟩) n n) n xs :=
  own_below h k.below hg

theorem Rw.set {E c lo H g n : Nat} {w : World} (h : Rw E c lo H w (.slice (some ⟨g, 0, none⟩) n n) n) (j : Nat) (u : Value) : Rw E c lo H (w.setCell ⟨g, j, none⟩ u) (.slice (some ⟨g, 0, none⟩) n n) n := by
  obtain ⟨g', xs, e, hg, ho⟩ := h
  simp only [Value.slice.injEq, Option.some.injEq, Addr.mk.injEq, and_true] at e
  subst e
  exact ⟨g, _, rfl, hg, (ho.stored j u).1⟩
theorem Mk.put {E c lo B H g n : Nat} {a w : World} (k : Mk B H a w) (h : Rw E c lo H w (.slice (some ⟨g, 0, none⟩) n n) n) (hB : B ≤ lo) (j : Nat) (u : Value) : Mk B H a (w.setCell ⟨g, j, none⟩ u) := by
  obtain ⟨g', xs, e, hg, ho⟩ := h
  simp only [Value.slice.injEq, Option.some.injEq, Addr.mk.injEq, and_true] at e
  subst e
  exact k.trans (Mk.own (ho.stored j u).2 ho (ho.stored j u).1 (Nat.le_trans hB (ho.lt g rfl).1) hg)
theorem Rw.at {E c lo H g n : Nat} {w : World} (h : Rw E c lo H w (.slice (some ⟨g, 0, none⟩) n n) n) (j : Nat) (hj : j < n * c) : w.frozen? ⟨g, j, none⟩ = false ∧ ∃ u, w.cell? ⟨g, j, none⟩ = some u := by
  obtain ⟨g', xs, e, hg, ho⟩ := h
  simp only [Value.slice.injEq, Option.some.injEq, Addr.mk.injEq, and_true] at e
  subst e
  have hl := ho.1
  exact ⟨ho.frozenAt j, _, (ho.cellAt j hj).trans (List.getElem?_eq_getElem (by omega))⟩

set_option maxRecDepth 100000 in
set_option maxHeartbeats 1000000 in
theorem markCaptureS_any (v : Value) (n lo B H : Nat) (k0 : Int) (h0 : 0 ≤ k0) (h1 : k0 ≤ 16777216) (w : World) (hr : Rw 48 2 lo H w v n) (hB : B ≤ lo) (hn : n ≤ 1048576) :
    Calls Tryd.prog 42 #[v, .int .i64 k0] w fun e w' => e = .returned (.int .i64 (k0 + 2 * (n : Int))) ∧ Mk B H w w' := by
  obtain ⟨g, xs, rfl, hgH, hown⟩ := hr
  have HR : Hid (Rw 48 2 lo H w (.slice (some ⟨g, 0, none⟩) n n) n) := ⟨g, xs, rfl, hgH, hown⟩
  have HB : Hid (B ≤ lo) := hB
  clear hown hB hgH
  go_enter Tryd.func42, Tryd.ntmps42
  go_wp2
  go_loopw [1, 5] (fun q i wr => ∃ (k : Nat), k ≤ n ∧ i = .int .i64 k ∧ q = .int .i64 (k0 + 2 * (k : Int)) ∧ Hid (Rw 48 2 lo H wr (.slice (some ⟨g, 0, none⟩) n n) n) ∧ Hid (Mk B H w wr)) (fun _ i _ => n - (intOf i).toNat)
  case atStart => exact ⟨0, Nat.zero_le _, rfl, by go_num, HR.out, Mk.refl _ _ _⟩
  case round =>
    clear HR
    obtain ⟨k, hk, rfl, rfl, HR, HM⟩ := hrel
    by_cases hlt : k < n
    · obtain ⟨f0, u0, e0⟩ := HR.out.at (k * 2) (by omega)
      obtain ⟨f1, u1, e1⟩ := HR.out.at (k * 2 + 1) (by omega)
      go_wp2
      go_roundw
      case rel => exact ⟨k + 1, by omega, by go_num, by go_num, ((HR.out).set _ _).set _ _, ((HM.out).put (HR.out) HB.out _ _).put ((HR.out).set _ _) HB.out _ _⟩
      case measure => simp [intOf]; omega
    · have hkn : k = n := by omega
      subst hkn
      go_wp2
      go_ret
      exact ⟨rfl, HM.out⟩

set_option maxRecDepth 100000 in
set_option maxHeartbeats 1000000 in
theorem markInsS_any (v : Value) (n lo B H : Nat) (k0 : Int) (h0 : 0 ≤ k0) (h1 : k0 ≤ 16777216) (w : World) (hr : Rw 50 3 lo H w v n) (hB : B ≤ lo) (hn : n ≤ 1048576) :
    Calls Tryd.prog 43 #[v, .int .i64 k0] w fun e w' => e = .returned (.int .i64 (k0 + 3 * (n : Int))) ∧ Mk B H w w' := by
  obtain ⟨g, xs, rfl, hgH, hown⟩ := hr
  have HR : Hid (Rw 50 3 lo H w (.slice (some ⟨g, 0, none⟩) n n) n) := ⟨g, xs, rfl, hgH, hown⟩
  have HB : Hid (B ≤ lo) := hB
  clear hown hB hgH
  go_enter Tryd.func43, Tryd.ntmps43
  go_wp2
  go_loopw [1, 5] (fun q i wr => ∃ (k : Nat), k ≤ n ∧ i = .int .i64 k ∧ q = .int .i64 (k0 + 3 * (k : Int)) ∧ Hid (Rw 50 3 lo H wr (.slice (some ⟨g, 0, none⟩) n n) n) ∧ Hid (Mk B H w wr)) (fun _ i _ => n - (intOf i).toNat)
  case atStart => exact ⟨0, Nat.zero_le _, rfl, by go_num, HR.out, Mk.refl _ _ _⟩
  case round =>
    clear HR
    obtain ⟨k, hk, rfl, rfl, HR, HM⟩ := hrel
    by_cases hlt : k < n
    · obtain ⟨f0, u0, e0⟩ := HR.out.at (k * 3) (by omega)
      obtain ⟨f1, u1, e1⟩ := HR.out.at (k * 3 + 1) (by omega)
      obtain ⟨f2, u2, e2⟩ := HR.out.at (k * 3 + 2) (by omega)
      go_wp2
      go_roundw
      case rel => exact ⟨k + 1, by omega, by go_num, by go_num, (((HR.out).set _ _).set _ _).set _ _, (((HM.out).put (HR.out) HB.out _ _).put ((HR.out).set _ _) HB.out _ _).put (((HR.out).set _ _).set _ _) HB.out _ _⟩
      case measure => simp [intOf]; omega
    · have hkn : k = n := by omega
      subst hkn
      go_wp2
      go_ret
      exact ⟨rfl, HM.out⟩
end Go.Proofs.YteagakplhfiodaaDoor.pg
