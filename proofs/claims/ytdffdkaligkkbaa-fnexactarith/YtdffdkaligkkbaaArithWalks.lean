import Derived.Test.YtdffdkaligkkbaaRows
import Derived.WalkKit
import Derived.ProofKit
import Derived.WalkLawsBesides
import Derived.RegionTactic
import Derived.ChangeAlike
import Derived.Outline
import Derived.Laws.EntriesVeiled
namespace Go.Proofs.Ytdffdkaligkkbaa.fnExactArith
open Go.ChangeShapes Go.WideShapes Go.ChangeAt Go.RowKit

def fl (a b : Int) : Int := if (a.tmod b != 0) && !(decide (a < 0) == decide (b < 0)) then wrap64 (wrap64 (a.tdiv b) - 1) else wrap64 (a.tdiv b)
theorem fl_a {a b : Int} (h : a.tmod b = 0) : wrap64 (a.tdiv b) = fl a b := by simp [fl, h]
theorem fl_b {a b : Int} (h : (a.tmod b != 0) = true ∧ (!decide (a < 0) == decide (b < 0)) = true) : wrap64 (wrap64 (a.tdiv b) - 1) = fl a b := by
  unfold fl; rw [if_pos (by simp only [h.1, h.2, Bool.and_self])]
theorem fl_c {a b : Int} (h : (a.tmod b != 0) = false ∨ (!decide (a < 0) == decide (b < 0)) = false) : wrap64 (a.tdiv b) = fl a b := by
  unfold fl; rw [if_neg (by rcases h with h | h <;> simp only [h, Bool.and_false, Bool.false_and] <;> decide)]
theorem tmod_sign {a b : Int} (h : ¬ a.tmod b = 0) : decide (a.tmod b < 0) = decide (a < 0) := by
  by_cases ha : a < 0
  · have h1 : a.tmod b ≤ 0 := by
      have := Int.tmod_nonneg (a := -a) b (by omega)
      rw [Int.neg_tmod] at this; omega
    rw [decide_eq_true ha, decide_eq_true (by omega)]
  · have := Int.tmod_nonneg (a := a) b (by omega)
    rw [decide_eq_false ha, decide_eq_false (by omega)]
theorem ret_int {k : IntKind} {a b : Int} (h : a = b) : Ending.returned (.int k a) = .returned (.int k b) := by rw [h]

def b2i (b : Bool) : Int := if b then 1 else 0

theorem l1bool_any (b : Bool) (w : World) :
    Calls Try.prog 26 #[.bool b] w fun e w' => e = .returned (.int .i64 (b2i b)) ∧ w' = w := by
  cases b <;>
  · go_enter Try.func26, Try.ntmps26
    go_wp2
    go_ret
    exact ⟨rfl, rfl⟩

theorem truth_any (b : Bool) (w : World) :
    Calls Try.prog 48 #[.bool b] w fun e w' => e = .returned (.int .i64 (b2i b)) ∧ w' = w := by
  cases b <;>
  · go_enter Try.func48, Try.ntmps48
    go_wp2
    go_ret
    exact ⟨rfl, rfl⟩

theorem floor_any (a b : Int) (hb : ¬ b = 0) (w : World) :
    Calls Try.prog 25 #[.int .i64 a, .int .i64 b] w fun e w' => e = .returned (.int .i64 (fl a b)) ∧ w' = w := by
  go_enter Try.func25, Try.ntmps25
  go_wp2
  all_goals go_ret
  · exact ⟨ret_int (fl_a ‹_›), rfl⟩
  · exact ⟨ret_int (fl_b ‹_›), rfl⟩
  · exact ⟨ret_int (fl_c ‹_›), rfl⟩

theorem ret2 {a b c : Int} (h : a = b) : Ending.returned (.tuple #[.int .i64 a, .int .i64 c]) = .returned (.tuple #[.int .i64 b, .int .i64 c]) := by rw [h]

theorem quot_any (a b : Int) (hb : ¬ b = 0) (w : World) :
    Calls Try.prog 45 #[.int .i64 a, .int .i64 b] w fun e w' => e = .returned (.tuple #[.int .i64 (fl a b), .int .i64 0]) ∧ w' = w.drew := by
  go_enter Try.func45, Try.ntmps45
  go_wp2
  go_region
  all_goals go_wp2
  all_goals go_ret2
  · exact ⟨ret2 (fl_a ‹_›), rfl⟩
  · exact ⟨ret2 (fl_b (tmod_sign ‹¬ a.tmod b = 0› ▸ ‹_ ∧ _›)), rfl⟩
  · exact ⟨ret2 (fl_c (tmod_sign ‹¬ a.tmod b = 0› ▸ ‹_ ∨ _›)), rfl⟩

theorem quot_zero (a : Int) (w : World) :
    Calls Try.prog 45 #[.int .i64 a, .int .i64 0] w fun e w' => e = .returned (.tuple #[.int .i64 0, .int .i64 5]) ∧ w' = w := by
  go_enter Try.func45, Try.ntmps45
  go_wp2
  go_ret2
  exact ⟨rfl, rfl⟩

theorem rem_any (a b : Int) (hb : ¬ b = 0) (w : World) :
    Calls Try.prog 46 #[.int .i64 a, .int .i64 b] w fun e w' => e = .returned (.tuple #[.int .i64 (wrap64 (a - wrap64 (b * fl a b))), .int .i64 0]) ∧ w' = w.drew := by
  go_enter Try.func46, Try.ntmps46
  go_wp2_with (go_at_call 45; refine (quot_any _ _ hb _).mono ?_; rintro e w' ⟨rfl, rfl⟩)
  go_ret2
  exact ⟨rfl, rfl⟩

theorem rem_zero (a : Int) (w : World) :
    Calls Try.prog 46 #[.int .i64 a, .int .i64 0] w fun e w' => e = .returned (.tuple #[.int .i64 0, .int .i64 5]) ∧ w' = w := by
  go_enter Try.func46, Try.ntmps46
  go_wp2_with (go_at_call 45; refine (quot_zero _ _).mono ?_; rintro e w' ⟨rfl, rfl⟩)
  go_ret2
  exact ⟨rfl, rfl⟩

def opsTab : Array Value := #[.func (.func 42) #[] #[], .func (.func 43) #[] #[], .func (.func 44) #[] #[], .func (.func 45) #[] #[], .func (.func 46) #[] #[], .nilFunc, .func (.func 47) #[] #[], .func (.func 49) #[] #[], .func (.func 50) #[] #[], .func (.func 51) #[] #[], .func (.func 52) #[] #[], .func (.func 53) #[] #[]]
theorem run_opsTab (w : World) : (Instr.build 42 #[(0, .func (.func 42) #[] #[]), (1, .func (.func 43) #[] #[]), (2, .func (.func 44) #[] #[]), (3, .func (.func 45) #[] #[]), (4, .func (.func 46) #[] #[]), (6, .func (.func 47) #[] #[]), (7, .func (.func 49) #[] #[]), (8, .func (.func 50) #[] #[]), (9, .func (.func 51) #[] #[]), (10, .func (.func 52) #[] #[]), (11, .func (.func 53) #[] #[])]).run Try.prog w = .ok (.agg #[.func (.func 42) #[] #[], .func (.func 43) #[] #[], .func (.func 44) #[] #[], .func (.func 45) #[] #[], .func (.func 46) #[] #[], .nilFunc, .func (.func 47) #[] #[], .func (.func 49) #[] #[], .func (.func 50) #[] #[], .func (.func 51) #[] #[], .func (.func 52) #[] #[], .func (.func 53) #[] #[]]) w := by kernel_rfl

theorem ops_any (w : World) :
    Calls Try.prog 27 #[] w fun e w' => e = .returned (.agg #[.func (.func 42) #[] #[], .func (.func 43) #[] #[], .func (.func 44) #[] #[], .func (.func 45) #[] #[], .func (.func 46) #[] #[], .nilFunc, .func (.func 47) #[] #[], .func (.func 49) #[] #[], .func (.func 50) #[] #[], .func (.func 51) #[] #[], .func (.func 52) #[] #[], .func (.func 53) #[] #[]]) ∧ ∃ cs, w' = w.alloc (.cells cs 42) := by
  have hb := run_opsTab
  go_enter Try.func27, Try.ntmps27
  go_wp2
  exact bodyPost_ret (v := .agg #[.func (.func 42) #[] #[], .func (.func 43) #[] #[], .func (.func 44) #[] #[], .func (.func 45) #[] #[], .func (.func 46) #[] #[], .nilFunc, .func (.func 47) #[] #[], .func (.func 49) #[] #[], .func (.func 50) #[] #[], .func (.func 51) #[] #[], .func (.func 52) #[] #[], .func (.func 53) #[] #[]]) (by simp [results, Try.results27, go_sem]) rfl ⟨rfl, _, rfl⟩

theorem impl_out (op a b : Int) (h : op < 0 ∨ 11 < op) (w : World) :
    Calls Try.prog 9 #[.int .i64 op, .int .i64 a, .int .i64 b] w fun e w' => e = .returned (.tuple #[.int .i64 0, .int .i64 1]) ∧ Grown w w' := by
  rcases h with h | h
  all_goals
    go_enter Try.func9, Try.ntmps9
    go_wp2_with (go_at_call 27; refine (ops_any _).mono ?_; rintro e w' ⟨rfl, o, rfl⟩)
    go_ret2
    exact ⟨rfl, by repeat (first | exact Grown.refl _ | apply Grown.drew | apply Grown.alloc)⟩

theorem eq_nil (f : Nat) (w : World) : (binOp .eql 41 (.func (.func f) #[] #[]) .nilFunc).run Try.prog w = .ok (.bool false) w := by kernel_rfl
theorem nil_nil (w : World) : (binOp .eql 41 .nilFunc .nilFunc).run Try.prog w = .ok (.bool true) w := by kernel_rfl

theorem impl_0 (a b : Int) (w : World) :
    Calls Try.prog 9 #[.int .i64 0, .int .i64 a, .int .i64 b] w fun e w' => e = .returned (.tuple #[.int .i64 (wrap64 (a + b)), .int .i64 0]) ∧ Grown w w' := by
  have he := eq_nil
  have hn := nil_nil
  go_enter Try.func9, Try.ntmps9
  go_wp2_with (first | (go_at_call 27; refine (ops_any _).mono ?_; rintro e w' ⟨rfl, o, rfl⟩) | go_in)
  go_ret2
  exact ⟨rfl, by repeat (first | exact Grown.refl _ | apply Grown.drew | apply Grown.alloc)⟩

theorem impl_1 (a b : Int) (w : World) :
    Calls Try.prog 9 #[.int .i64 1, .int .i64 a, .int .i64 b] w fun e w' => e = .returned (.tuple #[.int .i64 (wrap64 (a - b)), .int .i64 0]) ∧ Grown w w' := by
  have he := eq_nil
  have hn := nil_nil
  go_enter Try.func9, Try.ntmps9
  go_wp2_with (first | (go_at_call 27; refine (ops_any _).mono ?_; rintro e w' ⟨rfl, o, rfl⟩) | go_in)
  go_ret2
  exact ⟨rfl, by repeat (first | exact Grown.refl _ | apply Grown.drew | apply Grown.alloc)⟩

theorem impl_2 (a b : Int) (w : World) :
    Calls Try.prog 9 #[.int .i64 2, .int .i64 a, .int .i64 b] w fun e w' => e = .returned (.tuple #[.int .i64 (wrap64 (a * b)), .int .i64 0]) ∧ Grown w w' := by
  have he := eq_nil
  have hn := nil_nil
  go_enter Try.func9, Try.ntmps9
  go_wp2_with (first | (go_at_call 27; refine (ops_any _).mono ?_; rintro e w' ⟨rfl, o, rfl⟩) | go_in)
  go_ret2
  exact ⟨rfl, by repeat (first | exact Grown.refl _ | apply Grown.drew | apply Grown.alloc)⟩

theorem impl_3 (a b : Int) (hb : ¬ b = 0) (w : World) :
    Calls Try.prog 9 #[.int .i64 3, .int .i64 a, .int .i64 b] w fun e w' => e = .returned (.tuple #[.int .i64 (fl a b), .int .i64 0]) ∧ Grown w w' := by
  have he := eq_nil
  have hn := nil_nil
  go_enter Try.func9, Try.ntmps9
  go_wp2_with (first | (go_at_call 27; refine (ops_any _).mono ?_; rintro e w' ⟨rfl, o, rfl⟩) | (go_at_call 45; refine (quot_any _ _ hb _).mono ?_; rintro e w' ⟨rfl, rfl⟩) | go_in)
  go_ret2
  exact ⟨rfl, by repeat (first | exact Grown.refl _ | apply Grown.drew | apply Grown.alloc)⟩

theorem impl_3z (a : Int) (w : World) :
    Calls Try.prog 9 #[.int .i64 3, .int .i64 a, .int .i64 0] w fun e w' => e = .returned (.tuple #[.int .i64 (0), .int .i64 5]) ∧ Grown w w' := by
  have he := eq_nil
  have hn := nil_nil
  go_enter Try.func9, Try.ntmps9
  go_wp2_with (first | (go_at_call 27; refine (ops_any _).mono ?_; rintro e w' ⟨rfl, o, rfl⟩) | (go_at_call 45; refine (quot_zero _ _).mono ?_; rintro e w' ⟨rfl, rfl⟩) | go_in)
  go_ret2
  exact ⟨rfl, by repeat (first | exact Grown.refl _ | apply Grown.drew | apply Grown.alloc)⟩

theorem impl_4 (a b : Int) (hb : ¬ b = 0) (w : World) :
    Calls Try.prog 9 #[.int .i64 4, .int .i64 a, .int .i64 b] w fun e w' => e = .returned (.tuple #[.int .i64 (wrap64 (a - wrap64 (b * fl a b))), .int .i64 0]) ∧ Grown w w' := by
  have he := eq_nil
  have hn := nil_nil
  go_enter Try.func9, Try.ntmps9
  go_wp2_with (first | (go_at_call 27; refine (ops_any _).mono ?_; rintro e w' ⟨rfl, o, rfl⟩) | (go_at_call 46; refine (rem_any _ _ hb _).mono ?_; rintro e w' ⟨rfl, rfl⟩) | go_in)
  go_ret2
  exact ⟨rfl, by repeat (first | exact Grown.refl _ | apply Grown.drew | apply Grown.alloc)⟩

theorem impl_4z (a : Int) (w : World) :
    Calls Try.prog 9 #[.int .i64 4, .int .i64 a, .int .i64 0] w fun e w' => e = .returned (.tuple #[.int .i64 (0), .int .i64 5]) ∧ Grown w w' := by
  have he := eq_nil
  have hn := nil_nil
  go_enter Try.func9, Try.ntmps9
  go_wp2_with (first | (go_at_call 27; refine (ops_any _).mono ?_; rintro e w' ⟨rfl, o, rfl⟩) | (go_at_call 46; refine (rem_zero _ _).mono ?_; rintro e w' ⟨rfl, rfl⟩) | go_in)
  go_ret2
  exact ⟨rfl, by repeat (first | exact Grown.refl _ | apply Grown.drew | apply Grown.alloc)⟩

theorem impl_5 (a b : Int) (w : World) :
    Calls Try.prog 9 #[.int .i64 5, .int .i64 a, .int .i64 b] w fun e w' => e = .returned (.tuple #[.int .i64 (0), .int .i64 1]) ∧ Grown w w' := by
  have he := eq_nil
  have hn := nil_nil
  go_enter Try.func9, Try.ntmps9
  go_wp2_with (first | (go_at_call 27; refine (ops_any _).mono ?_; rintro e w' ⟨rfl, o, rfl⟩) | go_in)
  go_ret2
  exact ⟨rfl, by repeat (first | exact Grown.refl _ | apply Grown.drew | apply Grown.alloc)⟩

theorem impl_6 (a b : Int) (w : World) :
    Calls Try.prog 9 #[.int .i64 6, .int .i64 a, .int .i64 b] w fun e w' => e = .returned (.tuple #[.int .i64 (b2i (a == b)), .int .i64 0]) ∧ Grown w w' := by
  have he := eq_nil
  have hn := nil_nil
  go_enter Try.func9, Try.ntmps9
  go_wp2_with (first | (go_at_call 27; refine (ops_any _).mono ?_; rintro e w' ⟨rfl, o, rfl⟩) | (go_at_call 48; refine (truth_any _ _).mono ?_; rintro e w' ⟨rfl, rfl⟩) | go_in)
  go_ret2
  exact ⟨rfl, by repeat (first | exact Grown.refl _ | apply Grown.drew | apply Grown.alloc)⟩

theorem impl_7 (a b : Int) (w : World) :
    Calls Try.prog 9 #[.int .i64 7, .int .i64 a, .int .i64 b] w fun e w' => e = .returned (.tuple #[.int .i64 (b2i (a != b)), .int .i64 0]) ∧ Grown w w' := by
  have he := eq_nil
  have hn := nil_nil
  go_enter Try.func9, Try.ntmps9
  go_wp2_with (first | (go_at_call 27; refine (ops_any _).mono ?_; rintro e w' ⟨rfl, o, rfl⟩) | (go_at_call 48; refine (truth_any _ _).mono ?_; rintro e w' ⟨rfl, rfl⟩) | go_in)
  go_ret2
  exact ⟨rfl, by repeat (first | exact Grown.refl _ | apply Grown.drew | apply Grown.alloc)⟩

theorem impl_8 (a b : Int) (w : World) :
    Calls Try.prog 9 #[.int .i64 8, .int .i64 a, .int .i64 b] w fun e w' => e = .returned (.tuple #[.int .i64 (b2i (decide (a < b))), .int .i64 0]) ∧ Grown w w' := by
  have he := eq_nil
  have hn := nil_nil
  go_enter Try.func9, Try.ntmps9
  go_wp2_with (first | (go_at_call 27; refine (ops_any _).mono ?_; rintro e w' ⟨rfl, o, rfl⟩) | (go_at_call 48; refine (truth_any _ _).mono ?_; rintro e w' ⟨rfl, rfl⟩) | go_in)
  go_ret2
  exact ⟨rfl, by repeat (first | exact Grown.refl _ | apply Grown.drew | apply Grown.alloc)⟩

theorem impl_9 (a b : Int) (w : World) :
    Calls Try.prog 9 #[.int .i64 9, .int .i64 a, .int .i64 b] w fun e w' => e = .returned (.tuple #[.int .i64 (b2i (decide (a ≤ b))), .int .i64 0]) ∧ Grown w w' := by
  have he := eq_nil
  have hn := nil_nil
  go_enter Try.func9, Try.ntmps9
  go_wp2_with (first | (go_at_call 27; refine (ops_any _).mono ?_; rintro e w' ⟨rfl, o, rfl⟩) | (go_at_call 48; refine (truth_any _ _).mono ?_; rintro e w' ⟨rfl, rfl⟩) | go_in)
  go_ret2
  exact ⟨rfl, by repeat (first | exact Grown.refl _ | apply Grown.drew | apply Grown.alloc)⟩

theorem impl_10 (a b : Int) (w : World) :
    Calls Try.prog 9 #[.int .i64 10, .int .i64 a, .int .i64 b] w fun e w' => e = .returned (.tuple #[.int .i64 (b2i (decide (b < a))), .int .i64 0]) ∧ Grown w w' := by
  have he := eq_nil
  have hn := nil_nil
  go_enter Try.func9, Try.ntmps9
  go_wp2_with (first | (go_at_call 27; refine (ops_any _).mono ?_; rintro e w' ⟨rfl, o, rfl⟩) | (go_at_call 48; refine (truth_any _ _).mono ?_; rintro e w' ⟨rfl, rfl⟩) | go_in)
  go_ret2
  exact ⟨rfl, by repeat (first | exact Grown.refl _ | apply Grown.drew | apply Grown.alloc)⟩

theorem impl_11 (a b : Int) (w : World) :
    Calls Try.prog 9 #[.int .i64 11, .int .i64 a, .int .i64 b] w fun e w' => e = .returned (.tuple #[.int .i64 (b2i (decide (b ≤ a))), .int .i64 0]) ∧ Grown w w' := by
  have he := eq_nil
  have hn := nil_nil
  go_enter Try.func9, Try.ntmps9
  go_wp2_with (first | (go_at_call 27; refine (ops_any _).mono ?_; rintro e w' ⟨rfl, o, rfl⟩) | (go_at_call 48; refine (truth_any _ _).mono ?_; rintro e w' ⟨rfl, rfl⟩) | go_in)
  go_ret2
  exact ⟨rfl, by repeat (first | exact Grown.refl _ | apply Grown.drew | apply Grown.alloc)⟩

theorem spec_0 (a b : Int) (w : World) :
    Calls Try.prog 8 #[.int .i64 0, .int .i64 a, .int .i64 b] w fun e w' => e = .returned (.tuple #[.int .i64 (wrap64 (a + b)), .int .i64 0]) ∧ w' = w := by
  go_enter Try.func8, Try.ntmps8
  go_wp2
  go_ret2
  exact ⟨rfl, rfl⟩

theorem spec_1 (a b : Int) (w : World) :
    Calls Try.prog 8 #[.int .i64 1, .int .i64 a, .int .i64 b] w fun e w' => e = .returned (.tuple #[.int .i64 (wrap64 (a - b)), .int .i64 0]) ∧ w' = w := by
  go_enter Try.func8, Try.ntmps8
  go_wp2
  go_ret2
  exact ⟨rfl, rfl⟩

theorem spec_2 (a b : Int) (w : World) :
    Calls Try.prog 8 #[.int .i64 2, .int .i64 a, .int .i64 b] w fun e w' => e = .returned (.tuple #[.int .i64 (wrap64 (a * b)), .int .i64 0]) ∧ w' = w := by
  go_enter Try.func8, Try.ntmps8
  go_wp2
  go_ret2
  exact ⟨rfl, rfl⟩

theorem spec_3 (a b : Int) (hb : ¬ b = 0) (w : World) :
    Calls Try.prog 8 #[.int .i64 3, .int .i64 a, .int .i64 b] w fun e w' => e = .returned (.tuple #[.int .i64 (fl a b), .int .i64 0]) ∧ w' = w := by
  go_enter Try.func8, Try.ntmps8
  go_wp2_with (go_at_call 25; refine (floor_any _ _ hb _).mono ?_; rintro e w' ⟨rfl, rfl⟩)
  go_ret2
  exact ⟨rfl, rfl⟩

theorem spec_3z (a : Int) (w : World) :
    Calls Try.prog 8 #[.int .i64 3, .int .i64 a, .int .i64 0] w fun e w' => e = .returned (.tuple #[.int .i64 (0), .int .i64 5]) ∧ w' = w := by
  go_enter Try.func8, Try.ntmps8
  go_wp2
  go_ret2
  exact ⟨rfl, rfl⟩

theorem spec_4 (a b : Int) (hb : ¬ b = 0) (w : World) :
    Calls Try.prog 8 #[.int .i64 4, .int .i64 a, .int .i64 b] w fun e w' => e = .returned (.tuple #[.int .i64 (wrap64 (a - wrap64 (b * fl a b))), .int .i64 0]) ∧ w' = w := by
  go_enter Try.func8, Try.ntmps8
  go_wp2_with (go_at_call 25; refine (floor_any _ _ hb _).mono ?_; rintro e w' ⟨rfl, rfl⟩)
  go_ret2
  exact ⟨rfl, rfl⟩

theorem spec_4z (a : Int) (w : World) :
    Calls Try.prog 8 #[.int .i64 4, .int .i64 a, .int .i64 0] w fun e w' => e = .returned (.tuple #[.int .i64 (0), .int .i64 5]) ∧ w' = w := by
  go_enter Try.func8, Try.ntmps8
  go_wp2
  go_ret2
  exact ⟨rfl, rfl⟩

theorem spec_5 (a b : Int) (w : World) :
    Calls Try.prog 8 #[.int .i64 5, .int .i64 a, .int .i64 b] w fun e w' => e = .returned (.tuple #[.int .i64 (0), .int .i64 1]) ∧ w' = w := by
  go_enter Try.func8, Try.ntmps8
  go_wp2
  go_ret2
  exact ⟨rfl, rfl⟩

theorem spec_6 (a b : Int) (w : World) :
    Calls Try.prog 8 #[.int .i64 6, .int .i64 a, .int .i64 b] w fun e w' => e = .returned (.tuple #[.int .i64 (b2i (a == b)), .int .i64 0]) ∧ w' = w := by
  go_enter Try.func8, Try.ntmps8
  go_wp2_with (go_at_call 26; refine (l1bool_any _ _).mono ?_; rintro e w' ⟨rfl, rfl⟩)
  go_ret2
  exact ⟨rfl, rfl⟩

theorem spec_7 (a b : Int) (w : World) :
    Calls Try.prog 8 #[.int .i64 7, .int .i64 a, .int .i64 b] w fun e w' => e = .returned (.tuple #[.int .i64 (b2i (a != b)), .int .i64 0]) ∧ w' = w := by
  go_enter Try.func8, Try.ntmps8
  go_wp2_with (go_at_call 26; refine (l1bool_any _ _).mono ?_; rintro e w' ⟨rfl, rfl⟩)
  go_ret2
  exact ⟨rfl, rfl⟩

theorem spec_8 (a b : Int) (w : World) :
    Calls Try.prog 8 #[.int .i64 8, .int .i64 a, .int .i64 b] w fun e w' => e = .returned (.tuple #[.int .i64 (b2i (decide (a < b))), .int .i64 0]) ∧ w' = w := by
  go_enter Try.func8, Try.ntmps8
  go_wp2_with (go_at_call 26; refine (l1bool_any _ _).mono ?_; rintro e w' ⟨rfl, rfl⟩)
  go_ret2
  exact ⟨rfl, rfl⟩

theorem spec_9 (a b : Int) (w : World) :
    Calls Try.prog 8 #[.int .i64 9, .int .i64 a, .int .i64 b] w fun e w' => e = .returned (.tuple #[.int .i64 (b2i (decide (a ≤ b))), .int .i64 0]) ∧ w' = w := by
  go_enter Try.func8, Try.ntmps8
  go_wp2_with (go_at_call 26; refine (l1bool_any _ _).mono ?_; rintro e w' ⟨rfl, rfl⟩)
  go_ret2
  exact ⟨rfl, rfl⟩

theorem spec_10 (a b : Int) (w : World) :
    Calls Try.prog 8 #[.int .i64 10, .int .i64 a, .int .i64 b] w fun e w' => e = .returned (.tuple #[.int .i64 (b2i (decide (b < a))), .int .i64 0]) ∧ w' = w := by
  go_enter Try.func8, Try.ntmps8
  go_wp2_with (go_at_call 26; refine (l1bool_any _ _).mono ?_; rintro e w' ⟨rfl, rfl⟩)
  go_ret2
  exact ⟨rfl, rfl⟩

theorem spec_11 (a b : Int) (w : World) :
    Calls Try.prog 8 #[.int .i64 11, .int .i64 a, .int .i64 b] w fun e w' => e = .returned (.tuple #[.int .i64 (b2i (decide (b ≤ a))), .int .i64 0]) ∧ w' = w := by
  go_enter Try.func8, Try.ntmps8
  go_wp2_with (go_at_call 26; refine (l1bool_any _ _).mono ?_; rintro e w' ⟨rfl, rfl⟩)
  go_ret2
  exact ⟨rfl, rfl⟩

theorem spec_out (op a b : Int) (h : op < 0 ∨ 11 < op) (w : World) :
    Calls Try.prog 8 #[.int .i64 op, .int .i64 a, .int .i64 b] w fun e w' => e = .returned (.tuple #[.int .i64 0, .int .i64 1]) ∧ w' = w := by
  rcases h with h | h
  all_goals
    go_enter Try.func8, Try.ntmps8
    go_wp2
    go_ret2
    exact ⟨rfl, rfl⟩

end Go.Proofs.Ytdffdkaligkkbaa.fnExactArith
