import Derived.Test.YtccnjmnafkfjdaaGreatVtEnd
import Derived.Test.YtccnjmnafkfjdaaGreatLexWord
namespace Go.Proofs.YtccnjmnafkfjdaaGreat.vt
open Go.RowKit Go.Proofs.YtccnjmnafkfjdaaGreat.bts Go.Proofs.YtccnjmnafkfjdaaGreat.nod Go.Proofs.YtccnjmnafkfjdaaGreat.lex

def isExpr (k : Int) : Bool := decide (11 ≤ k) && decide (k ≤ 25)
def isStat (k : Int) : Bool := (decide (1 ≤ k) && decide (k ≤ 10)) || (k == 26)
theorem isExpr_yes {k : Int} (h : 11 ≤ k ∧ k ≤ 25) : isExpr k = true := by unfold isExpr; simp [h.1, h.2]
theorem isExpr_no {k : Int} (h : ¬ (11 ≤ k ∧ k ≤ 25)) : isExpr k = false := by
  rw [Bool.eq_false_iff]
  intro hc
  unfold isExpr at hc
  simp only [Bool.and_eq_true, decide_eq_true_eq] at hc
  exact h hc
theorem isStat_yes {k : Int} (h : (1 ≤ k ∧ k ≤ 10) ∨ k = 26) : isStat k = true := by
  unfold isStat
  rcases h with ⟨a, b⟩ | rfl
  · simp [a, b]
  · rfl
theorem isStat_no {k : Int} (h : ¬ ((1 ≤ k ∧ k ≤ 10) ∨ k = 26)) : isStat k = false := by
  rw [Bool.eq_false_iff]
  intro hc
  unfold isStat at hc
  simp only [Bool.or_eq_true, Bool.and_eq_true, decide_eq_true_eq, beq_iff_eq] at hc
  exact h hc

theorem l3expr_any (k : Int) (w : World) : Calls Tryz.prog 30 #[.int .i64 k] w fun e w' => e = .returned (.bool (isExpr k)) ∧ w' = w := by
  have hc : k < 11 ∨ (11 ≤ k ∧ k ≤ 25) ∨ 25 < k := by omega
  rcases hc with a | ⟨a, b⟩ | a
  all_goals
    go_enter Tryz.func30, Tryz.ntmps30
    go_wp2
    go_ret
    exact ⟨ret_bool (by first | (rw [isExpr_yes (by omega)]; done) | (rw [isExpr_no (by omega)]; done) | (rw [isExpr_no (by omega)]; simp; omega)), rfl⟩

theorem l3stat_any (k : Int) (w : World) : Calls Tryz.prog 31 #[.int .i64 k] w fun e w' => e = .returned (.bool (isStat k)) ∧ w' = w := by
  have hc : k < 1 ∨ (1 ≤ k ∧ k ≤ 10) ∨ (10 < k ∧ k < 26) ∨ k = 26 ∨ 26 < k := by omega
  rcases hc with a | ⟨a, b⟩ | ⟨a, b⟩ | rfl | a
  all_goals
    go_enter Tryz.func31, Tryz.ntmps31
    go_wp2
    go_ret
    exact ⟨ret_bool (by first | (rw [isStat_yes (by omega)]; done) | (rw [isStat_no (by omega)]; done) | (rw [isStat_no (by omega)]; simp; omega)), rfl⟩

/-- A child of this kind stands where the letter wants it. -/
def fits (c k : Int) : Bool :=
  if c = 101 then isExpr k else if c = 98 then k == 0 else if c = 115 then isStat k else if c = 102 then k == 19 else if c = 99 then k == 18 else (k == 16) || (k == 17)

set_option maxRecDepth 100000 in
set_option maxHeartbeats 1000000 in
theorem l3fits_any (c k : Int) (w : World) : Calls Tryz.prog 20 #[.int .u8 c, .int .i64 k] w fun e w' => e = .returned (.bool (fits c k)) ∧ w' = w := by
  have E := l3expr_any k w
  have S := l3stat_any k w
  by_cases h1 : c = 101
  · subst h1
    rw [show fits 101 k = isExpr k from rfl]
    go_enter Tryz.func20, Tryz.ntmps20
    go_wp2_with (go_at_call 30; refine E.mono ?_; rintro e w' ⟨rfl, hw⟩; replace hw := hw.symm; subst hw)
    go_ret
    exact ⟨rfl, rfl⟩
  by_cases h2 : c = 98
  · subst h2
    rw [show fits 98 k = (k == 0) from rfl]
    go_enter Tryz.func20, Tryz.ntmps20
    go_wp2
    go_ret
    exact ⟨rfl, rfl⟩
  by_cases h3 : c = 115
  · subst h3
    rw [show fits 115 k = isStat k from rfl]
    go_enter Tryz.func20, Tryz.ntmps20
    go_wp2_with (go_at_call 31; refine S.mono ?_; rintro e w' ⟨rfl, hw⟩; replace hw := hw.symm; subst hw)
    go_ret
    exact ⟨rfl, rfl⟩
  by_cases h4 : c = 102
  · subst h4
    rw [show fits 102 k = (k == 19) from rfl]
    go_enter Tryz.func20, Tryz.ntmps20
    go_wp2
    go_ret
    exact ⟨rfl, rfl⟩
  by_cases h5 : c = 99
  · subst h5
    rw [show fits 99 k = (k == 18) from rfl]
    go_enter Tryz.func20, Tryz.ntmps20
    go_wp2
    go_ret
    exact ⟨rfl, rfl⟩
  have e1 : (c == 101) = false := by simp; exact h1
  have e2 : (c == 98) = false := by simp; exact h2
  have e3 : (c == 115) = false := by simp; exact h3
  have e4 : (c == 102) = false := by simp; exact h4
  have e5 : (c == 99) = false := by simp; exact h5
  rw [show fits c k = ((k == 16) || (k == 17)) by unfold fits; rw [if_neg h1, if_neg h2, if_neg h3, if_neg h4, if_neg h5]]
  clear h1 h2 h3 h4 h5
  by_cases h6 : k = 16
  · subst h6
    go_enter Tryz.func20, Tryz.ntmps20
    go_wp2
    go_ret
    exact ⟨rfl, rfl⟩
  · have e6 : (k == 16) = false := by simp; exact h6
    go_enter Tryz.func20, Tryz.ntmps20
    go_wp2
    go_ret
    exact ⟨ret_bool (by rw [e6]; simp), rfl⟩

/-- The text is a name. -/
def isName (s : List Int) : Bool := decide (0 < s.length) && (decide (s.length ≤ 5000) && (letter (s.getD 0 0) && (decide (span alnum s 0 = s.length) && !isIn words (strOfNums s))))
theorem isName_of {s : List Int} {x : Bool} (h : isName s = x) {y : Bool} (e : y = x) : Ending.returned (.bool y) = .returned (.bool (isName s)) := by rw [h, e]
end Go.Proofs.YtccnjmnafkfjdaaGreat.vt
