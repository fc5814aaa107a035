import Derived.Test.YtdffdkaligkkbaaLexSpec
import Derived.Deep.RegionHeld3
namespace Go.Proofs.Ytdffdkaligkkbaa.lex
open Go.RowKit Go.Proofs.Ytdffdkaligkkbaa.bts Go.Proofs.Ytdffdkaligkkbaa.scn Go.Proofs.Ytdffdkaligkkbaa.lit

/-- The slice at this address reads as the list of tokens. -/
def RdT (w : World) (ao : Option Addr) (l : List (Int × Nat × Nat)) : Prop :=
  ∀ i, i < l.length → ∃ g, ao = some ⟨g, 0, none⟩ ∧ w.cell? ⟨g, i * 3, none⟩ = some (.int .i64 (l.getD i (0, 0, 0)).1) ∧ w.cell? ⟨g, i * 3 + 1, none⟩ = some (.int .i64 ((l.getD i (0, 0, 0)).2.1 : Int)) ∧ w.cell? ⟨g, i * 3 + 2, none⟩ = some (.int .i64 ((l.getD i (0, 0, 0)).2.2 : Int))

theorem tcells_at : ∀ (l : List (Int × Nat × Nat)) (i : Nat), i < l.length → (tcells l)[i * 3]? = some (.int .i64 (l.getD i (0, 0, 0)).1) ∧ (tcells l)[i * 3 + 1]? = some (.int .i64 ((l.getD i (0, 0, 0)).2.1 : Int)) ∧ (tcells l)[i * 3 + 2]? = some (.int .i64 ((l.getD i (0, 0, 0)).2.2 : Int))
  | [], i, h => by simp at h
  | x :: r, 0, h => by simp [tcells]
  | x :: r, i + 1, h => by
    have ih := tcells_at r i (by simpa using h)
    have e : tcells (x :: r) = [.int .i64 x.1, .int .i64 (x.2.1 : Int), .int .i64 (x.2.2 : Int)] ++ tcells r := by simp [tcells]
    have f : ∀ j, (tcells (x :: r))[3 + j]? = (tcells r)[j]? := by
      intro j
      rw [e, List.getElem?_append_right (by simp)]
      congr 1
      simp
    have g : (x :: r).getD (i + 1) (0, 0, 0) = r.getD i (0, 0, 0) := by simp [List.getD_eq_getElem?_getD]
    rw [g]
    refine ⟨?_, ?_, ?_⟩
    · rw [show (i + 1) * 3 = 3 + i * 3 by omega, f]; exact ih.1
    · rw [show (i + 1) * 3 + 1 = 3 + (i * 3 + 1) by omega, f]; exact ih.2.1
    · rw [show (i + 1) * 3 + 2 = 3 + (i * 3 + 2) by omega, f]; exact ih.2.2

theorem RdT.own {w : World} {base n c : Nat} {ao : Option Addr} {l : List (Int × Nat × Nat)} (h : w.ownsRow base 50 3 (.slice ao n c) n (tcells l)) (e : l.length = n) : RdT w ao l := by
  intro i hi
  rcases h.2 with ⟨_, h0⟩ | ⟨g, c', cur, h', _⟩
  · omega
  · simp only [Value.slice.injEq, true_and] at h'
    obtain ⟨rfl, rfl⟩ := h'
    have t := tcells_at l i hi
    exact ⟨g, rfl, (h.cellAt (i * 3) (by omega)).trans t.1, (h.cellAt (i * 3 + 1) (by omega)).trans t.2.1, (h.cellAt (i * 3 + 2) (by omega)).trans t.2.2⟩

theorem RdT.below {w w' : World} {ao : Option Addr} {l : List (Int × Nat × Nat)} (h : RdT w ao l) (hb : Below w.heap.size w w') : RdT w' ao l := by
  intro i hi
  obtain ⟨g, e, h1, h2, h3⟩ := h i hi
  have hg := World.block_lt_of_cell? _ _ h1
  exact ⟨g, e, (hb.cell (p := ⟨g, i * 3, none⟩) hg).trans h1, (hb.cell (p := ⟨g, i * 3 + 1, none⟩) hg).trans h2, (hb.cell (p := ⟨g, i * 3 + 2, none⟩) hg).trans h3⟩

theorem eqToken_same (a b c : Int) (w : World) :
    Calls Try.prog 41 #[.agg #[.int .i64 a, .int .i64 b, .int .i64 c], .agg #[.int .i64 a, .int .i64 b, .int .i64 c]] w fun e w' => e = .returned (.bool true) ∧ w' = (w.alloc (.cells #[.int .i64 a, .int .i64 b, .int .i64 c] 50)).alloc (.cells #[.int .i64 a, .int .i64 b, .int .i64 c] 50) := by
  go_enter Try.func41, Try.ntmps41
  go_wp2
  go_ret
  exact ⟨rfl, rfl⟩

set_option maxHeartbeats 1000000 in
theorem eqTokenS_same (ao bo : Option Addr) (n cap cap' : Nat) (l : List (Int × Nat × Nat)) (w : World) (hl : l.length = n) (hr : RdT w ao l) (hs : RdT w bo l) (hn : n ≤ 1073741824) :
    Calls Try.prog 22 #[.slice ao n cap, .slice bo n cap'] w fun e w' => e = .returned (.bool true) ∧ Below w.heap.size w w' := by
  have HL : Hid (l.length = n) := hl
  clear hl
  go_enter Try.func22, Try.ntmps22
  go_wp2
  go_loopw [5] (fun i wr => ∃ (k : Nat), k ≤ n ∧ i = .int .i64 k ∧ Below w.heap.size w wr) (fun i _ => n - (intOf i).toNat)
  case atStart => exact ⟨0, Nat.zero_le _, rfl, Below.refl _ _⟩
  case round =>
    obtain ⟨k, hk, rfl, hbel⟩ := hrel
    by_cases hlt : k < n
    · obtain ⟨g, rfl, a1, a2, a3⟩ := (hr.below hbel) k (by rw [HL.out]; exact hlt)
      obtain ⟨g', rfl, b1, b2, b3⟩ := (hs.below hbel) k (by rw [HL.out]; exact hlt)
      generalize l.getD k (0, 0, 0) = t at a1 a2 a3 b1 b2 b3
      obtain ⟨x, y, z⟩ := t
      simp only at a1 a2 a3 b1 b2 b3
      have hlt' : (k : Int) < (n : Int) := by omega
      clear hr hs
      go_wp2_with fail
      go_region_held3 (fun w' => w'.cell? ⟨g, k * 3, none⟩ = some (.int .i64 x) ∧ w'.cell? ⟨g, k * 3 + 1, none⟩ = some (.int .i64 (y : Int)) ∧ w'.cell? ⟨g, k * 3 + 2, none⟩ = some (.int .i64 (z : Int)) ∧ w'.cell? ⟨g', k * 3, none⟩ = some (.int .i64 x) ∧ w'.cell? ⟨g', k * 3 + 1, none⟩ = some (.int .i64 (y : Int)) ∧ w'.cell? ⟨g', k * 3 + 2, none⟩ = some (.int .i64 (z : Int))) (go_keep)
        ((go_at_call 41; refine (eqToken_same _ _ _ _).mono ?_; rintro e w' ⟨rfl, rfl⟩))
      go_wp2
      go_roundw
      case rel => exact ⟨k + 1, by omega, by go_num, ((hbel.alloc hbel.size _).alloc (by have := hbel.size; simp; omega) _).drew⟩
      case measure => simp [intOf]; omega
    · go_wp2
      go_ret
      exact ⟨rfl, hbel⟩

/-- The marks of n tokens. -/
def tmarks (k0 : Int) (n : Nat) : List Value := (List.range (n * 3)).map fun j : Nat => .int .i64 (k0 + (j : Int))
theorem tmarks_of {xs : List Value} {k0 : Int} {n : Nat} (hl : xs.length = n * 3) (h : ∀ j, j < n * 3 → xs[j]? = some (.int .i64 (k0 + (j : Int)))) : xs = tmarks k0 n := by
  apply List.ext_getElem?
  intro j
  by_cases hj : j < n * 3
  · rw [h j hj]; simp [tmarks, hj]
  · rw [List.getElem?_eq_none (by omega), List.getElem?_eq_none (by simp [tmarks]; omega)]
theorem tmarks_at {k0 : Int} {n j : Nat} (h : j < n * 3) : (tmarks k0 n)[j]? = some (.int .i64 (k0 + (j : Int))) := by simp [tmarks, h]

set_option maxHeartbeats 1000000 in
theorem markTokenS_own (v : Value) (n base : Nat) (xs : List Value) (k0 : Int) (h0 : 0 ≤ k0) (h1 : k0 ≤ 16777216) (w : World) (hown : w.ownsRow base 50 3 v n xs) (hn : n ≤ 1073741824) :
    Calls Try.prog 23 #[v, .int .i64 k0] w fun e w' => e = .returned (.int .i64 (k0 + ((n * 3 : Nat) : Int))) ∧
      w'.ownsRow base 50 3 v n (tmarks k0 n) ∧ w.grownBy w' v.ownBlock := by
  rcases hown.2 with ⟨rfl, rfl⟩ | ⟨g, cap, cur, rfl, hbg, hh, hnc, hcm, hcs, htk⟩
  · go_enter Try.func23, Try.ntmps23
    go_wp2
    refine wp_loop_rounds 1 ?_
    rw [rounds_succ]
    go_wp2
    go_ret
    exact ⟨by simp, ⟨by simp [tmarks], .inl ⟨rfl, rfl⟩⟩, World.grownBy.refl _ _⟩
  · clear hh htk hcs
    go_enter Try.func23, Try.ntmps23
    go_wp2
    go_loopw [1, 5] (fun q i wr => ∃ (k : Nat) (xs : List Value), k ≤ n ∧ i = .int .i64 k ∧ q = .int .i64 (k0 + 3 * (k : Int)) ∧ wr.ownsRow base 50 3 (.slice (some ⟨g, 0, none⟩) n cap) n xs ∧ (∀ j, j < k * 3 → xs[j]? = some (.int .i64 (k0 + (j : Int)))) ∧ w.grownBy wr (some g)) (fun _ i _ => n - (intOf i).toNat)
    case atStart => exact ⟨0, _, Nat.zero_le _, rfl, by go_num, hown, fun j hj => absurd hj (by omega), World.grownBy.refl _ _⟩
    case round =>
      clear hown
      obtain ⟨k, xs, hk, rfl, rfl, hown, hxs, hb⟩ := hrel
      by_cases hlt : k < n
      · have hxl : xs.length = n * 3 := hown.1
        have f0 := hown.frozenAt (k * 3)
        have f1 := hown.frozenAt (k * 3 + 1)
        have f2 := hown.frozenAt (k * 3 + 2)
        have c0 := hown.cellAt (k * 3) (by omega)
        have c1 := hown.cellAt (k * 3 + 1) (by omega)
        have c2 := hown.cellAt (k * 3 + 2) (by omega)
        obtain ⟨u0, hu0⟩ : ∃ u, xs[k * 3]? = some u := ⟨_, List.getElem?_eq_getElem (by omega)⟩
        obtain ⟨u1, hu1⟩ : ∃ u, xs[k * 3 + 1]? = some u := ⟨_, List.getElem?_eq_getElem (by omega)⟩
        obtain ⟨u2, hu2⟩ : ∃ u, xs[k * 3 + 2]? = some u := ⟨_, List.getElem?_eq_getElem (by omega)⟩
        rw [hu0] at c0
        rw [hu1] at c1
        rw [hu2] at c2
        clear hu0 hu1 hu2
        have HO : Hid (wr.ownsRow base 50 3 (.slice (some ⟨g, 0, none⟩) n cap) n xs) := hown
        have HX : Hid (∀ j, j < k * 3 → xs[j]? = some (.int .i64 (k0 + (j : Int)))) := hxs
        have HL : Hid (xs.length = n * 3) := hxl
        clear hxs hown hxl
        go_wp2
        go_roundw
        case rel =>
          have s1 := HO.out.stored (k * 3) (.int .i64 (k0 + 3 * (k : Int)))
          have s2 := s1.1.stored (k * 3 + 1) (.int .i64 (k0 + 3 * (k : Int) + 1))
          have s3 := s2.1.stored (k * 3 + 2) (.int .i64 (k0 + 3 * (k : Int) + 1 + 1))
          refine ⟨k + 1, _, by omega, by go_num, by go_num, s3.1, ?_, grown_step (grown_step (grown_step hb s1.2) s2.2) s3.2⟩
          intro j hj
          have hl := HL.out
          rw [List.getElem?_set, List.getElem?_set, List.getElem?_set]
          simp only [List.length_set]
          by_cases e2 : k * 3 + 2 = j
          · subst e2; rw [if_pos rfl, if_pos (by omega)]; congr 2; omega
          · rw [if_neg e2]
            by_cases e1 : k * 3 + 1 = j
            · subst e1; rw [if_pos rfl, if_pos (by omega)]; congr 2; omega
            · rw [if_neg e1]
              by_cases e0 : k * 3 = j
              · subst e0; rw [if_pos rfl, if_pos (by omega)]; congr 2; omega
              · rw [if_neg e0, HX.out j (by omega)]
        case measure => simp [intOf]; omega
      · have hkn : k = n := by omega
        subst hkn
        have HO : Hid _ := hown
        have HX : Hid _ := hxs
        clear hown hxs
        go_wp2
        go_ret
        have e := tmarks_of (xs := xs) (k0 := k0) (n := k) HO.out.1 HX.out
        rw [e] at HO
        exact ⟨ret_int (by omega), HO.out, hb⟩

set_option maxHeartbeats 1000000 in
theorem heldTokenS_marks (ao : Option Addr) (cap n base : Nat) (k0 : Int) (h0 : 0 ≤ k0) (h1 : k0 ≤ 16777216) (w : World) (hown : w.ownsRow base 50 3 (.slice ao n cap) n (tmarks k0 n)) (hn : n ≤ 1073741824) :
    Calls Try.prog 24 #[.slice ao n cap, .int .i64 k0] w fun e w' => e = .returned (.int .i64 (k0 + ((n * 3 : Nat) : Int))) ∧ w' = w := by
  have HO : Hid (w.ownsRow base 50 3 (.slice ao n cap) n (tmarks k0 n)) := hown
  clear hown
  go_enter Try.func24, Try.ntmps24
  go_wp2
  go_loop [1, 5] (fun q i => ∃ (k : Nat), k ≤ n ∧ i = .int .i64 k ∧ q = .int .i64 (k0 + 3 * (k : Int))) (fun _ i => n - (intOf i).toNat)
  case atStart => exact ⟨0, Nat.zero_le _, rfl, by go_num⟩
  case round =>
    obtain ⟨k, hk, rfl, rfl⟩ := hrel
    by_cases hlt : k < n
    · have hsh : ∃ g, ao = some ⟨g, 0, none⟩ := by
        rcases HO.out.2 with ⟨_, h⟩ | ⟨g, c', cur, h', _⟩
        · omega
        · simp only [Value.slice.injEq, true_and] at h'
          exact ⟨g, h'.1⟩
      obtain ⟨g, rfl⟩ := hsh
      have c0 := (HO.out.cellAt (k * 3) (by omega)).trans (tmarks_at (by omega))
      have c1 := (HO.out.cellAt (k * 3 + 1) (by omega)).trans (tmarks_at (by omega))
      have c2 := (HO.out.cellAt (k * 3 + 2) (by omega)).trans (tmarks_at (by omega))
      rw [show ((k * 3 : Nat) : Int) = 3 * (k : Int) by omega] at c0
      rw [show k0 + ((k * 3 + 1 : Nat) : Int) = k0 + 3 * (k : Int) + 1 by omega] at c1
      rw [show k0 + ((k * 3 + 2 : Nat) : Int) = k0 + 3 * (k : Int) + 1 + 1 by omega] at c2
      go_wp2
      go_round
      case rel => exact ⟨k + 1, by omega, by go_num, by go_num⟩
      case measure => simp [intOf]; omega
    · have hkn : k = n := by omega
      subst hkn
      go_wp2
      go_ret
      exact ⟨ret_int (by omega), rfl⟩
end Go.Proofs.Ytdffdkaligkkbaa.lex
