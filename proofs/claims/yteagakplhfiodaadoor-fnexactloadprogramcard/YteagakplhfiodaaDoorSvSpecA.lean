import Derived.Test.YteagakplhfiodaaDoorSvPut
import Derived.Deep.RegionHeld3
namespace Go.Proofs.YteagakplhfiodaaDoor.sv
open Go.RowKit Go.Proofs.YteagakplhfiodaaDoor.bts Go.Proofs.YteagakplhfiodaaDoor.pg Go.Proofs.YteagakplhfiodaaDoor.chk

theorem own_one (w : World) (z : Int) (base : Nat) (hb : base ≤ w.heap.size) : (w.alloc (.cells #[.int .u8 z] 5)).ownsRow base 5 1 (.slice (some ⟨w.heap.size, 0, none⟩) 1 1) 1 (bcells [z]) := by
  have := World.ownsRow_lit (base := base) (e := 5) (size := 1) w #[.int .u8 z] 1 hb (by unfold maxLen; omega) rfl
  exact this
/-- A row that is owned reads as its bytes. -/
theorem rd_own {w : World} {B n c : Nat} {av : Option Addr} {zs : List Int} (h : w.ownsRow B 5 1 (.slice av n c) n (bcells zs)) : Rd w av zs := by
  have hl := h.1
  rw [bcells_length] at hl
  rcases h.2 with ⟨e, e0⟩ | ⟨g, cap, cur, e, _⟩
  · have : zs = [] := List.length_eq_zero_iff.1 (by omega)
    subst this
    intro i hi
    simp at hi
  · simp only [Value.slice.injEq] at e
    obtain ⟨rfl, -, rfl⟩ := e
    exact Rd.owned h (by omega)
theorem own_len {w : World} {B n : Nat} {v : Value} {zs : List Int} (h : w.ownsRow B 5 1 v n (bcells zs)) : zs.length = n := by
  have hl := h.1
  rw [bcells_length] at hl
  omega

theorem vr_len2 : ∀ (f v : Nat), v < 2097152 → (vr f v).length ≤ 3
  | 0, v, _ => by simp [vr]
  | 1, v, _ => by have := vr_len 1 v; omega
  | 2, v, _ => vr_len 2 v
  | f + 3, v, h => by
    rw [vr_more (f + 2) v (Nat.lt_of_lt_of_le h (by have : 128 ^ 3 ≤ 128 ^ (f + 2 + 1) := Nat.pow_le_pow_right (by omega) (by omega); omega))]
    exact vr_len2 (f + 2) v h

set_option maxRecDepth 100000 in
set_option maxHeartbeats 1000000 in
theorem l5var_any : ∀ (f v : Nat) (w : World), v < 128 ^ (f + 1) → v < 2097152 →
    Calls Tryd.prog 27 #[.int .i64 (v : Int)] w fun e w' => ∃ av cv, e = .returned (.slice av (vr f v).length cv) ∧ w'.ownsRow w.heap.size 5 1 (.slice av (vr f v).length cv) (vr f v).length (bcells (vr f v)) ∧ Below w.heap.size w w'
  | f, v, w, h, h2 => by
    by_cases hlt : v < 128
    · have hlt' : (v : Int) < 128 := by omega
      rw [vr_small hlt]
      go_enter Tryd.func27, Tryd.ntmps27
      go_wp2
      go_returns
      exact ⟨some ⟨w.heap.size, 0, none⟩, 1, rfl, own_one w _ _ (Nat.le_refl _), (Below.refl _ _).alloc (Nat.le_refl _) _⟩
    · match f, h with
      | 0, h => exact absurd h (by simpa using hlt)
      | f + 1, h =>
        have hlt' : ¬ (v : Int) < 128 := by omega
        have R : Hid (∀ W, Calls Tryd.prog 27 #[.int .i64 ((v : Int) / 128)] W fun e w' => ∃ av cv, e = .returned (.slice av (vr f (v / 128)).length cv) ∧ w'.ownsRow W.heap.size 5 1 (.slice av (vr f (v / 128)).length cv) (vr f (v / 128)).length (bcells (vr f (v / 128))) ∧ Below W.heap.size W w') := fun W => by have := l5var_any f (v / 128) W (by rw [Nat.div_lt_iff_lt_mul (by omega)]; rw [Nat.pow_succ] at h; exact h) (by omega); simpa using this
        have hl := vr_len f (v / 128)
        have hlp := vr_pos f (v / 128)
        have hf : vr (f + 1) v = ((v : Int) % 128 + 128) :: vr f (v / 128) := by rw [vr_great hlt]; simp
        rw [hf]
        have hf2 : f ≤ 2 ∨ 2 < f := by omega
        have hl3 : (vr f (v / 128)).length ≤ 140737488355000 := by have := vr_len2 f (v / 128) (by omega); omega
        generalize vr f (v / 128) = ys at R hl3 ⊢
        clear hl hlp hf hf2
        go_enter Tryd.func27, Tryd.ntmps27
        go_wp2_with fail
        refine (R.out _).mono ?_
        rintro e w1 ⟨av, cv, rfl, ho, hb⟩
        have h0 : w1.ownsRow w.heap.size 5 1 (.slice (some ⟨w.heap.size, 0, none⟩) 1 1) 1 (bcells [(v : Int) % 128 + 128]) := own_below (own_one w _ _ (Nat.le_refl _)) hb (by simp)
        have HB : Hid (Below w.heap.size w w1) := Below.trans ((Below.refl _ _).alloc (Nat.le_refl _) _) (hb.mono (by simp))
        have HS := HB.out.size
        have hr := rd_own ho
        have hol := own_len ho
        clear ho hb
        go_wp2_with (at_builtin; refine wpList_append_bytes rfl _ _ rfl w.heap.size (some ⟨w.heap.size, 0, none⟩) 1 1 [(v : Int) % 128 + 128] rfl h0 av ys.length cv ys rfl rfl hr (by omega) HS ?_; intro av' cv' w2 hA)
        go_returns
        refine ⟨av', cv', by rw [Nat.add_comm ys.length 1]; rfl, ?_, HB.out.trans (hA.below h0 HS)⟩
        have := hA.own
        rw [Nat.add_comm ys.length 1]
        exact this

theorem l5var_at (v : Nat) (w : World) (h : v < 2097152) :
    Calls Tryd.prog 27 #[.int .i64 (v : Int)] w fun e w' => ∃ av cv, e = .returned (.slice av (var v).length cv) ∧ w'.ownsRow w.heap.size 5 1 (.slice av (var v).length cv) (var v).length (bcells (var v)) ∧ Below w.heap.size w w' :=
  l5var_any 2 v w (by omega) h

theorem u8_of (n : Int) (k : Nat) (h : k < 8) : n % 18446744073709551616 / 2 ^ (8 * k) % 256 = n / 2 ^ (8 * k) % 256 := by
  match k, h with
  | 0, _ => simp
  | 1, _ => show n % 18446744073709551616 / 256 % 256 = n / 256 % 256; omega
  | 2, _ => show n % 18446744073709551616 / 65536 % 256 = n / 65536 % 256; omega
  | 3, _ => show n % 18446744073709551616 / 16777216 % 256 = n / 16777216 % 256; omega
  | 4, _ => show n % 18446744073709551616 / 4294967296 % 256 = n / 4294967296 % 256; omega
  | 5, _ => show n % 18446744073709551616 / 1099511627776 % 256 = n / 1099511627776 % 256; omega
  | 6, _ => show n % 18446744073709551616 / 281474976710656 % 256 = n / 281474976710656 % 256; omega
  | 7, _ => show n % 18446744073709551616 / 72057594037927936 % 256 = n / 72057594037927936 % 256; omega
theorem div_step (a : Int) (k : Nat) : a / 2 ^ (8 * k) / 256 = a / 2 ^ (8 * (k + 1)) := by
  rw [Int.ediv_ediv_of_nonneg (by exact Int.le_of_lt (Int.pow_pos (by omega)))]
  congr 1
  rw [Nat.mul_add, Int.pow_add]
  rfl

set_option maxRecDepth 100000 in
set_option maxHeartbeats 1000000 in
theorem l5eight_any (n : Int) (w : World) :
    Calls Tryd.prog 28 #[.int .i64 n] w fun e w' => ∃ av cv, e = .returned (.slice av 8 cv) ∧ w'.ownsRow w.heap.size 5 1 (.slice av 8 cv) 8 (bcells (e8 n 8)) ∧ Below w.heap.size w w' := by
  go_enter Tryd.func28, Tryd.ntmps28
  go_wp2
  go_loopw [3, 4, 5] (fun v u i wr => ∃ (k : Nat) (av : Option Addr) (cv : Nat) (U : Int), k ≤ 8 ∧ i = .int .i64 (k : Int) ∧ v = .slice av k cv ∧ u = .int .u64 U ∧ 0 ≤ U ∧ U < 18446744073709551616 ∧ Hid (U = n % 18446744073709551616 / 2 ^ (8 * k)) ∧ wr.ownsRow w.heap.size 5 1 (.slice av k cv) k (bcells (e8 n k)) ∧ Below w.heap.size w wr) (fun _ _ i _ => 8 - (intOf i).toNat)
  case atStart => exact ⟨0, none, 0, n % 18446744073709551616, by omega, rfl, rfl, by rw [IntKind.wrap_u64], by omega, by omega, by show _ = _; simp, World.ownsRow_nil _ _ _ _, Below.refl _ _⟩
  case round =>
    obtain ⟨k, av, cv, U, hk, rfl, rfl, rfl, hU0, hU1, HU, hown, hb⟩ := hrel
    have hs := hb.size
    by_cases hlt : k < 8
    · have hlt' : (k : Int) < 8 := by omega
      have h0 := hown.alloc (.cells #[.int .u8 (U % 256)] 5)
      have hr := rd_one wr (U % 256)
      have HE : Hid (e8 n (k + 1) = e8 n k ++ [U % 256]) := by show _ = _; rw [e8_succ, HU.out, u8_of n k hlt]
      have HD : Hid (U / 256 = n % 18446744073709551616 / 2 ^ (8 * (k + 1))) := by show _ = _; rw [HU.out, div_step]
      have HO : Hid _ := hown
      clear hown
      go_wp2_with (at_builtin; refine wpList_append_bytes rfl _ _ rfl w.heap.size av k cv (e8 n k) rfl h0 (some ⟨wr.heap.size, 0, none⟩) 1 1 [U % 256] rfl rfl hr (by omega) (by simp; omega) ?_; intro av' cv' w2 hA; have HA : Hid _ := hA; clear hA)
      go_roundw
      case rel => exact ⟨k + 1, av', cv', U / 256, by omega, by go_num, rfl, by go_num, by omega, by omega, HD.out, by rw [HE.out]; exact HA.out.own, (hb.alloc hs _).trans (HA.out.below h0 (by simp; omega))⟩
      case measure => simp [intOf]; omega
    · obtain rfl : k = 8 := by omega
      go_wp2
      go_returns
      exact ⟨av, cv, rfl, hown, hb⟩
end Go.Proofs.YteagakplhfiodaaDoor.sv
