import Derived.Test.YtopibfnjbejiiaaGreatDoorSvPut
import Derived.Deep.RegionHeld3
namespace Go.Proofs.YtopibfnjbejiiaaGreatDoor.sv
open Go.RowKit Go.Proofs.YtopibfnjbejiiaaGreatDoor.bts Go.Proofs.YtopibfnjbejiiaaGreatDoor.pg Go.Proofs.YtopibfnjbejiiaaGreatDoor.chk

theorem own_one (w : World) (z : Int) (base : Nat) (hb : base ≤ w.heap.size) : (w.alloc (.cells #[.int .u8 z] 5)).ownsRow base 5 1 (.slice (some ⟨w.heap.size, 0, none⟩) 1 1) 1 (bcells [z]) := by
  have := World.ownsRow_lit (base := base) (e := 5) (size := 1) w #[.int .u8 z] 1 hb (by unfold maxLen; omega) rfl
  exact this
/-- A row that is owned reads as its bytes. -/
theorem rd_own {w : World} {B n c : Nat} {av : Option Addr} {zs : List Int} (h : w.ownsRow B 5 1 (.slice av n c) n (bcells zs)) : Rd w av zs := by
  have hl := h.1
  rw [bcells_length] at hl
  rcases h.2 with ⟨e, e0⟩ | ⟨g, cap, cur, e, _⟩
  · have : zs = [] := List.length_eq_zero_iff.1 (by omega)
    subst this
    intro i hi
    simp at hi
  · simp only [Value.slice.injEq] at e
    obtain ⟨rfl, -, rfl⟩ := e
    exact Rd.owned h (by omega)
theorem own_len {w : World} {B n : Nat} {v : Value} {zs : List Int} (h : w.ownsRow B 5 1 v n (bcells zs)) : zs.length = n := by
  have hl := h.1
  rw [bcells_length] at hl
  omega

theorem vr_len2 : ∀ (f v : Nat), v < 2097152 → (vr f v).length ≤ 3
  | 0, v, _ => by simp [vr]
  | 1, v, _ => by have := vr_len 1 v; omega
  | 2, v, _ => vr_len 2 v
  | f + 3, v, h => by
    rw [vr_more (f + 2) v (Nat.lt_of_lt_of_le h (by have : 128 ^ 3 ≤ 128 ^ (f + 2 + 1) := Nat.pow_le_pow_right (by omega) (by omega); omega))]
    exact vr_len2 (f + 2) v h

theorem u8_of (n : Int) (k : Nat) (h : k < 8) : n % 18446744073709551616 / 2 ^ (8 * k) % 256 = n / 2 ^ (8 * k) % 256 := by
  match k, h with
  | 0, _ => simp
  | 1, _ => show n % 18446744073709551616 / 256 % 256 = n / 256 % 256; omega
  | 2, _ => show n % 18446744073709551616 / 65536 % 256 = n / 65536 % 256; omega
  | 3, _ => show n % 18446744073709551616 / 16777216 % 256 = n / 16777216 % 256; omega
  | 4, _ => show n % 18446744073709551616 / 4294967296 % 256 = n / 4294967296 % 256; omega
  | 5, _ => show n % 18446744073709551616 / 1099511627776 % 256 = n / 1099511627776 % 256; omega
  | 6, _ => show n % 18446744073709551616 / 281474976710656 % 256 = n / 281474976710656 % 256; omega
  | 7, _ => show n % 18446744073709551616 / 72057594037927936 % 256 = n / 72057594037927936 % 256; omega
theorem div_step (a : Int) (k : Nat) : a / 2 ^ (8 * k) / 256 = a / 2 ^ (8 * (k + 1)) := by
  rw [Int.ediv_ediv_of_nonneg (by exact Int.le_of_lt (Int.pow_pos (by omega)))]
  congr 1
  rw [Nat.mul_add, Int.pow_add]
  rfl

end Go.Proofs.YtopibfnjbejiiaaGreatDoor.sv
