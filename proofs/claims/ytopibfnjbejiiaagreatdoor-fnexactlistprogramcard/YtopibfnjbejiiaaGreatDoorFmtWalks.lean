import Derived.Test.YtopibfnjbejiiaaGreatDoorBytesMore
import Derived.Test.YtopibfnjbejiiaaGreatDoorLaid
import Derived.Deep.AppendLies
import Derived.Lib.ItoaLen
namespace Go.Proofs.YtopibfnjbejiiaaGreatDoor.fmt
open Go.RowKit Go.Proofs.YtopibfnjbejiiaaGreatDoor.bts

/-- Bytes as numbers. -/
def ib (l : List UInt8) : List Int := l.map fun b => (b.toNat : Int)
theorem ib_length (l : List UInt8) : (ib l).length = l.length := by simp [ib]
theorem bcells_ib (l : List UInt8) : bcells (ib l) = Lib.byteCells l := by simp [bcells, ib, Lib.byteCells]
theorem bcells_append (xs ys : List Int) : bcells (xs ++ ys) = bcells xs ++ bcells ys := by simp [bcells]

/-- The decimal digits of a number that is not negative. -/
def dd (x : Int) : List Int := ib (Lib.decDigits x.toNat)
theorem dd_small {x : Int} (h0 : 0 ≤ x) (h : x < 10) : dd x = [48 + x] := by
  obtain ⟨k, rfl⟩ := Int.eq_ofNat_of_zero_le h0
  unfold dd
  rw [Int.toNat_natCast, Lib.decDigits_one (by omega)]
  simp [ib]; omega
theorem dd_step {x : Int} (h : 10 ≤ x) : dd x = dd (x / 10) ++ [48 + x % 10] := by
  obtain ⟨k, rfl⟩ := Int.eq_ofNat_of_zero_le (show 0 ≤ x by omega)
  unfold dd
  rw [Int.toNat_natCast, Lib.decDigits, dif_neg (by omega)]
  have e : ((k : Int) / 10).toNat = k / 10 := by omega
  rw [e]
  simp [ib]; omega
theorem dd_len (x : Int) (h : x ≤ 18446744073709551615) : (dd x).length ≤ 20 := by
  unfold dd
  rw [ib_length, Lib.decDigits_length]
  exact Lib.nDigits_le20 _ (by omega)

set_option maxRecDepth 100000 in
set_option maxHeartbeats 1000000 in
theorem digits_any : ∀ (k : Nat) (x : Int), x.toNat ≤ k → 0 ≤ x → x ≤ 18446744073709551615 → ∀ w : World,
    Calls Tryz.prog 59 #[.int .u64 x] w fun e w' => ∃ g cap, e = .returned (.slice (some ⟨g, 0, none⟩) (dd x).length cap) ∧
      w'.ownsRow w.heap.size 5 1 (.slice (some ⟨g, 0, none⟩) (dd x).length cap) (dd x).length (bcells (dd x)) ∧ Below w.heap.size w w' := by
  intro k
  induction k with
  | zero =>
    intro x hk h0 h1 w
    have hx : x = 0 := by omega
    subst hx
    rw [dd_small (by omega) (by omega)]
    clear hk h1
    go_enter Tryz.func59, Tryz.ntmps59
    go_wp2
    go_ret
    exact ⟨_, _, rfl, World.ownsRow_lit (e := 5) (size := 1) w #[.int .u8 (48 + 0)] 1 (Nat.le_refl _) (by unfold maxLen; omega) rfl, (Below.refl _ _).alloc (Nat.le_refl _) _⟩
  | succ k ih =>
    intro x hk h0 h1 w
    by_cases hx : x < 10
    · rw [dd_small h0 hx]
      clear hk h1 ih
      go_enter Tryz.func59, Tryz.ntmps59
      go_wp2
      go_ret
      exact ⟨_, _, rfl, World.ownsRow_lit (e := 5) (size := 1) w #[.int .u8 (48 + x)] 1 (Nat.le_refl _) (by unfold maxLen; omega) rfl, (Below.refl _ _).alloc (Nat.le_refl _) _⟩
    · have C := ih (x / 10) (by omega) (by omega) (by omega) w
      have hL := dd_len (x / 10) (by omega)
      have hS := dd_step (x := x) (by omega)
      obtain ⟨n, hn⟩ : ∃ n, n = (dd (x / 10)).length := ⟨_, rfl⟩
      rw [← hn] at C hL
      have hN : (dd x).length = n + 1 := by rw [hS, List.length_append, ← hn]; rfl
      have HS : Hid (dd x = dd (x / 10) ++ [48 + x % 10]) := hS
      obtain ⟨i0, hi, hz0, hz1, hz2⟩ := info_parts info_u8
      rw [hN]
      have hb1 : 0 ≤ x % 10 := by omega
      have hb2 : x % 10 < 10 := by omega
      clear hk ih hS hn hN
      go_enter Tryz.func59, Tryz.ntmps59
      go_wp2_with fail
      refine C.mono ?_
      rintro e w1 ⟨g, cap, rfl, hown, hbel⟩
      have hgB := (hown.lt g rfl).1
      have hBs := hbel.size
      clear C
      go_wp2_with (at_builtin; refine wpList_append_lies _ rfl _ _ _ rfl w.heap.size 5 i0 (.int .u8 0) 1 1 Tryz.underlying27 hi hz0 hz1 hz2 rfl (by omega) _ n (bcells (dd (x / 10))) rfl (hown.alloc _) ⟨w1.heap.size, 0, none⟩ 1 1 [.int .u8 (48 + x % 10)] rfl rfl (World.news_of_block (cs := #[.int .u8 (48 + x % 10)]) (t := 5) (fr := (0, 0)) (heap_alloc_new w1 _)) (by simp [Value.oneCell']) (by omega) (by unfold maxLen; omega) (by omega) (by simp; omega) (w1.heap.size + 1) (by simp) ?_; intro g' cap' w2 hown1 hgrow hat hlt)
      go_ret
      refine ⟨g', cap', rfl, ?_, (hbel.alloc hbel.size _).grown hgrow (by simp; omega) (by intro k hk; cases hk; exact hgB)⟩
      rw [HS.out, bcells_append]
      exact hown1
end Go.Proofs.YtopibfnjbejiiaaGreatDoor.fmt
