import Derived.Test.YtccnjmnafkfjdaaGreatNodeTo
import Derived.Deep.RegionHeld3
namespace Go.Proofs.YtccnjmnafkfjdaaGreat.nod
open Go.RowKit Go.Proofs.YtccnjmnafkfjdaaGreat.bts

/-- Every text of the node is of bytes and not too long. -/
def NdOk (d : Nd) : Prop := (Bts d.text ∧ d.text.length ≤ 9223372036854775807) ∧ d.names.length ≤ 9223372036854775807 ∧ ∀ i, i < d.names.length → Bts (d.names.getD i []) ∧ (d.names.getD i []).length ≤ 9223372036854775807
theorem RdV.ok {w : World} {v : Value} {zs : List Int} (h : RdV w v zs) : Bts zs ∧ zs.length ≤ 9223372036854775807 := by
  obtain ⟨_, _, _, h1, _, h2⟩ := h; exact ⟨h2, h1⟩
theorem RdVV.ok {w : World} {v : Value} {l : List (List Int)} (h : RdVV w v l) : l.length ≤ 9223372036854775807 ∧ ∀ i, i < l.length → Bts (l.getD i []) ∧ (l.getD i []).length ≤ 9223372036854775807 := by
  obtain ⟨_, _, _, h1, h⟩ := h
  refine ⟨h1, fun i hi => ?_⟩
  obtain ⟨_, _, _, _, _, hr⟩ := h i hi
  exact hr.ok
theorem RdN.ok {w : World} {ao : Option Addr} {l : List Nd} (h : RdN w ao l) : ∀ i, i < l.length → NdOk (l.getD i nd0) := by
  intro i hi
  obtain ⟨_, _, _, _, _, _, _, _, _, _, ht, hn⟩ := h i hi
  exact ⟨ht.ok, hn.ok⟩
theorem OwN.rd {w : World} {B : Nat} {g n : Nat} {l : List Nd} (h : OwN w B (.slice (some ⟨g, 0, none⟩) n n) l) (hok : ∀ i, i < l.length → NdOk (l.getD i nd0)) : RdN w (some ⟨g, 0, none⟩) l := by
  obtain ⟨g', us, e, ho, hx⟩ := h
  simp only [Value.slice.injEq, Option.some.injEq, Addr.mk.injEq, and_true] at e
  obtain ⟨rfl, _, _⟩ := e
  intro i hi
  obtain ⟨ut, un, h0, h1, h2, h3, h4, ht, hn⟩ := hx i hi
  have ok := hok i hi
  refine ⟨g, 0, ut, un, rfl, ?_, ?_, ?_, ?_, ?_, ht.rd ok.1.1 ok.1.2, hn.rd ok.2.2 ok.2.1⟩
  · rw [Nat.zero_add, ho.cellAt _ (by omega), h0]
  · rw [Nat.zero_add, ho.cellAt _ (by omega), h1]
  · rw [Nat.zero_add, ho.cellAt _ (by omega), h2]
  · rw [Nat.zero_add, ho.cellAt _ (by omega), h3]
  · rw [Nat.zero_add, ho.cellAt _ (by omega), h4]
theorem OwN.below {w w' : World} {B X : Nat} {v : Value} {l : List Nd} (h : OwN w B v l) (hb : Below X w w') (hX : w.heap.size ≤ X) : OwN w' B v l := by
  obtain ⟨g, us, e, ho, h⟩ := h
  exact ⟨g, us, e, own_below ho hb (Nat.lt_of_lt_of_le (ho.lt g rfl).2 hX), fun i hi => (h i hi).below hb hX⟩

theorem bel_drewN {B : Nat} {a w : World} (h : Below B a w) (m : Nat) : Below B a (w.drewN m) := h.trans ⟨rfl, rfl, rfl, Nat.le_refl _, fun _ _ => rfl⟩

set_option maxRecDepth 100000 in
set_option maxHeartbeats 1000000 in
theorem eqByteSS_same (v v' : Value) (l : List (List Int)) (w : World) (hr : RdVV w v l) (hr' : RdVV w v' l) (hs : sizeSS l ≤ 1048576) :
    Calls Tryz.prog 26 #[v, v'] w fun e w' => e = .returned (.bool true) ∧ ∃ d, w' = w.drewN d := by
  have HS : Hid (∀ i, i < l.length → (l.getD i []).length ≤ 1048576) := by
    intro i hi
    have h1 := lens_succ hi
    have h2 := lens_le l (l.length - (i + 1)) (i + 1) (by omega)
    unfold sizeSS at hs
    omega
  have HR : Hid (RdVV w v l) := hr
  have HR' : Hid (RdVV w v' l) := hr'
  obtain ⟨ao, cap, rfl, _, _⟩ := hr
  obtain ⟨ao', cap', rfl, _, _⟩ := hr'
  have hn1 : l.length ≤ 1048576 := by unfold sizeSS at hs; omega
  obtain ⟨n, hnn⟩ : ∃ n, n = l.length := ⟨_, rfl⟩
  have HL : Hid (l.length = n) := hnn.symm
  rw [← hnn] at hn1 ⊢
  clear hnn hs
  go_enter Tryz.func26, Tryz.ntmps26
  go_wp2
  go_loopw [5] (fun i wr => ∃ (k d : Nat), k ≤ n ∧ i = .int .i64 k ∧ wr = w.drewN d) (fun i _ => n - (intOf i).toNat)
  case atStart => exact ⟨0, 0, Nat.zero_le _, rfl, rfl⟩
  case round =>
    obtain ⟨k, d0, hk, rfl, hwr⟩ := hrel
    have hb : Below w.heap.size w wr := by rw [hwr]; exact bel_drewN (Below.refl _ _) _
    have HW : Hid (wr = w.drewN d0) := hwr
    clear hwr
    by_cases hlt : k < n
    · obtain ⟨_, _, e1, _, h1⟩ := HR.out.below hb
      obtain ⟨_, _, e2, _, h2⟩ := HR'.out.below hb
      simp only [Value.slice.injEq] at e1 e2
      obtain ⟨rfl, _, rfl⟩ := e1
      obtain ⟨rfl, _, rfl⟩ := e2
      obtain ⟨b, off, u, rfl, hc, a1, c1, rfl, _, hrd, _⟩ := h1 k (by rw [HL.out]; exact hlt)
      obtain ⟨b', off', u', rfl, hc', a2, c2, rfl, _, hrd', _⟩ := h2 k (by rw [HL.out]; exact hlt)
      have hsz := HS.out k (by rw [HL.out]; exact hlt)
      obtain ⟨m, hmm⟩ : ∃ m, m = (l.getD k []).length := ⟨_, rfl⟩
      have C : Hid (∀ W, Below wr.heap.size wr W → Calls Tryz.prog 25 #[.slice a1 m c1, .slice a2 m c2] W fun e w' => e = .returned (.bool true) ∧ ∃ d, w' = W.drewN d) := by
        intro W hW
        have := eqByteS_same a1 a2 c1 c2 (l.getD k []) W (hrd.below hW) (hrd'.below hW) (by omega)
        rw [← hmm] at this
        exact this
      rw [← hmm] at hc hc'
      have hlt' : (k : Int) < (n : Int) := by omega
      clear h1 h2 hmm hsz hrd hrd' hb
      go_wp2_with fail
      go_region_held3 (fun w' => w'.cell? ⟨b, off + k, none⟩ = some (.slice a1 m c1) ∧ w'.cell? ⟨b', off' + k, none⟩ = some (.slice a2 m c2) ∧ Below wr.heap.size wr w') (refine ⟨by simp [*], by simp [*], by repeat (first | exact Below.refl _ _ | assumption | refine Below.drew ?_ | refine bel_drewN ?_ _)⟩)
        ((go_at_call 25; refine (C.out _ (by repeat (first | exact Below.refl _ _ | assumption | refine Below.drew ?_ | refine bel_drewN ?_ _))).mono ?_; rintro e w' ⟨rfl, d, rfl⟩))
      go_wp2
      go_roundw
      case rel => exact ⟨k + 1, d0 + (1 + d), by omega, by go_num, by rw [HW.out]; simp⟩
      case measure => simp [intOf]; omega
    · have hkn : k = n := by omega
      subst hkn
      go_wp2
      go_ret
      exact ⟨rfl, d0, HW.out⟩

set_option maxRecDepth 100000 in
set_option maxHeartbeats 1000000 in
theorem eqNode_same (k n c : Int) (ut un ut' un' : Value) (t : List Int) (ns : List (List Int)) (w : World) (ht : RdV w ut t) (hn : RdVV w un ns) (ht' : RdV w ut' t) (hn' : RdVV w un' ns) (hs : t.length + sizeSS ns ≤ 1048576) :
    Calls Tryz.prog 14 #[.agg #[.int .i64 k, .int .i64 n, ut, un, .int .i64 c], .agg #[.int .i64 k, .int .i64 n, ut', un', .int .i64 c]] w fun e w' => e = .returned (.bool true) ∧ ∃ o o' d, w' = ((w.alloc o).alloc o').drewN d := by
  obtain ⟨ao, cap, rfl, _, hr, _⟩ := ht
  obtain ⟨ao', cap', rfl, _, hr', _⟩ := ht'
  have CT : Hid (∀ W, Below w.heap.size w W → Calls Tryz.prog 25 #[.slice ao t.length cap, .slice ao' t.length cap'] W fun e w' => e = .returned (.bool true) ∧ ∃ d, w' = W.drewN d) :=
    fun W hW => eqByteS_same ao ao' cap cap' t W (hr.below hW) (hr'.below hW) (by omega)
  have CN : Hid (∀ W, Below w.heap.size w W → Calls Tryz.prog 26 #[un, un'] W fun e w' => e = .returned (.bool true) ∧ ∃ d, w' = W.drewN d) :=
    fun W hW => eqByteSS_same un un' ns W (hn.below hW) (hn'.below hW) (by omega)
  clear hr hr' hn hn' hs
  go_enter Tryz.func14, Tryz.ntmps14
  go_wp2_with fail
  refine (CT.out _ (((Below.refl _ _).alloc (Nat.le_refl _) _).alloc (by simp only [World.size_alloc]; omega) _)).mono ?_
  rintro e w1 ⟨rfl, d, rfl⟩
  go_wp2_with fail
  refine (CN.out _ (bel_drewN (((Below.refl _ _).alloc (Nat.le_refl _) _).alloc (by simp only [World.size_alloc]; omega) _) _)).mono ?_
  rintro e w1 ⟨rfl, d', rfl⟩
  go_wp2
  go_ret
  exact ⟨rfl, _, _, _, rfl⟩

set_option maxRecDepth 100000 in
set_option maxHeartbeats 2000000 in
theorem eqNodeS_same (ao bo : Option Addr) (n cap cap' : Nat) (l : List Nd) (w : World) (hl : l.length = n) (hr : RdN w ao l) (hs : RdN w bo l) (hz : sizeNS l ≤ 1048576) :
    Calls Tryz.prog 8 #[.slice ao n cap, .slice bo n cap'] w fun e w' => e = .returned (.bool true) ∧ Below w.heap.size w w' := by
  have HS : Hid (∀ i, i < l.length → (l.getD i nd0).text.length + sizeSS (l.getD i nd0).names ≤ 1048576) := by
    intro i hi
    have h1 := sums_succ hi
    have h2 := sums_le l (l.length - (i + 1)) (i + 1) (by omega)
    unfold sizeNS at hz
    have h3 : sizeN (l.getD i nd0) = (l.getD i nd0).text.length + sizeSS (l.getD i nd0).names := rfl
    omega
  have hn1 : n ≤ 1048576 := by unfold sizeNS at hz; omega
  have HL : Hid (l.length = n) := hl
  have HR : Hid (RdN w ao l) := hr
  have HR' : Hid (RdN w bo l) := hs
  clear hl hr hs hz
  go_enter Tryz.func8, Tryz.ntmps8
  go_wp2
  go_loopw [5] (fun i wr => ∃ (k : Nat), k ≤ n ∧ i = .int .i64 k ∧ Below w.heap.size w wr) (fun i _ => n - (intOf i).toNat)
  case atStart => exact ⟨0, Nat.zero_le _, rfl, Below.refl _ _⟩
  case round =>
    obtain ⟨k, hk, rfl, hbel⟩ := hrel
    by_cases hlt : k < n
    · obtain ⟨b, off, ut, un, rfl, c0, c1, c2, c3, c4, ht, hn⟩ := (HR.out.below hbel) k (by rw [HL.out]; exact hlt)
      obtain ⟨b', off', ut', un', rfl, e0, e1, e2, e3, e4, ht', hn'⟩ := (HR'.out.below hbel) k (by rw [HL.out]; exact hlt)
      have hsz := HS.out k (by rw [HL.out]; exact hlt)
      generalize l.getD k nd0 = d at c0 c1 c4 ht hn e0 e1 e4 ht' hn' hsz
      obtain ⟨kd, nn, tx, nms, ct⟩ := d
      simp only at c0 c1 c4 ht hn e0 e1 e4 ht' hn' hsz
      have C : Hid (∀ W, Below wr.heap.size wr W → Calls Tryz.prog 14 #[.agg #[.int .i64 kd, .int .i64 nn, ut, un, .int .i64 ct], .agg #[.int .i64 kd, .int .i64 nn, ut', un', .int .i64 ct]] W fun e w' => e = .returned (.bool true) ∧ ∃ o o' d, w' = ((W.alloc o).alloc o').drewN d) :=
        fun W hW => eqNode_same kd nn ct ut un ut' un' tx nms W (ht.below hW) (hn.below hW) (ht'.below hW) (hn'.below hW) hsz
      have hlt' : (k : Int) < (n : Int) := by omega
      have HB : Hid (Below w.heap.size w wr) := hbel
      have hsw := hbel.size
      clear ht hn ht' hn' hsz hbel
      go_wp2_with fail
      go_region_held3 (fun w' => w'.cell? ⟨b, off + k * 5, none⟩ = some (.int .i64 kd) ∧ w'.cell? ⟨b, off + k * 5 + 1, none⟩ = some (.int .i64 nn) ∧ w'.cell? ⟨b, off + k * 5 + 2, none⟩ = some ut ∧ w'.cell? ⟨b, off + k * 5 + 3, none⟩ = some un ∧ w'.cell? ⟨b, off + k * 5 + 4, none⟩ = some (.int .i64 ct) ∧ w'.cell? ⟨b', off' + k * 5, none⟩ = some (.int .i64 kd) ∧ w'.cell? ⟨b', off' + k * 5 + 1, none⟩ = some (.int .i64 nn) ∧ w'.cell? ⟨b', off' + k * 5 + 2, none⟩ = some ut' ∧ w'.cell? ⟨b', off' + k * 5 + 3, none⟩ = some un' ∧ w'.cell? ⟨b', off' + k * 5 + 4, none⟩ = some (.int .i64 ct)) (go_keep)
        ((go_at_call 14; refine (C.out _ (by repeat (first | exact Below.refl _ _ | assumption | refine Below.drew ?_ | refine bel_drewN ?_ _))).mono ?_; rintro e w' ⟨rfl, o, o', d, rfl⟩))
      go_wp2
      go_roundw
      case rel => exact ⟨k + 1, by omega, by go_num, by repeat (first | exact HB.out | refine bel_drewN ?_ _ | refine Below.drew ?_ | refine Below.alloc ?_ (by simp; omega) _ | refine Below.alloc ?_ hsw _)⟩
      case measure => simp [intOf]; omega
    · have hkn : k = n := by omega
      subst hkn
      go_wp2
      go_ret
      exact ⟨rfl, hbel⟩
end Go.Proofs.YtccnjmnafkfjdaaGreat.nod
