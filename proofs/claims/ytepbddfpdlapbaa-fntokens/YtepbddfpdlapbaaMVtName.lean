import Derived.Laws.BytesArg
import Derived.Test.YtepbddfpdlapbaaMVtEnd
import Derived.Test.YtepbddfpdlapbaaMLexWord
namespace Go.Proofs.Ytepbddfpdlapbaa.vt
open Go.RowKit Go.Proofs.Ytepbddfpdlapbaa.bts Go.Proofs.Ytepbddfpdlapbaa.nod Go.Proofs.Ytepbddfpdlapbaa.lex
def isExpr (k : Int) : Bool := decide (11 ≤ k) && decide (k ≤ 25)
def isStat (k : Int) : Bool := (decide (1 ≤ k) && decide (k ≤ 10)) || (k == 26)
theorem isExpr_yes {k : Int} (h : 11 ≤ k ∧ k ≤ 25) : isExpr k = true := by unfold isExpr; simp [h.1, h.2]
theorem isExpr_no {k : Int} (h : ¬ (11 ≤ k ∧ k ≤ 25)) : isExpr k = false := by
  rw [Bool.eq_false_iff]
  intro hc
  unfold isExpr at hc
  simp only [Bool.and_eq_true, decide_eq_true_eq] at hc
  exact h hc
theorem isStat_yes {k : Int} (h : (1 ≤ k ∧ k ≤ 10) ∨ k = 26) : isStat k = true := by
  unfold isStat
  rcases h with ⟨a, b⟩ | rfl
  · simp [a, b]
  · rfl
theorem isStat_no {k : Int} (h : ¬ ((1 ≤ k ∧ k ≤ 10) ∨ k = 26)) : isStat k = false := by
  rw [Bool.eq_false_iff]
  intro hc
  unfold isStat at hc
  simp only [Bool.or_eq_true, Bool.and_eq_true, decide_eq_true_eq, beq_iff_eq] at hc
  exact h hc
theorem l3expr_any (k : Int) (w : World) : Calls Try.prog 81 #[.int .i64 k] w fun e w' => e = .returned (.bool (isExpr k)) ∧ w' = w := by
  have hc : k < 11 ∨ (11 ≤ k ∧ k ≤ 25) ∨ 25 < k := by omega
  rcases hc with a | ⟨a, b⟩ | a
  all_goals
    go_enter Try.func81, Try.ntmps81
    go_wp2
    go_ret
    exact ⟨ret_bool (by first | (rw [isExpr_yes (by omega)]; done) | (rw [isExpr_no (by omega)]; done) | (rw [isExpr_no (by omega)]; simp; omega)), rfl⟩
theorem l3stat_any (k : Int) (w : World) : Calls Try.prog 82 #[.int .i64 k] w fun e w' => e = .returned (.bool (isStat k)) ∧ w' = w := by
  have hc : k < 1 ∨ (1 ≤ k ∧ k ≤ 10) ∨ (10 < k ∧ k < 26) ∨ k = 26 ∨ 26 < k := by omega
  rcases hc with a | ⟨a, b⟩ | ⟨a, b⟩ | rfl | a
  all_goals
    go_enter Try.func82, Try.ntmps82
    go_wp2
    go_ret
    exact ⟨ret_bool (by first | (rw [isStat_yes (by omega)]; done) | (rw [isStat_no (by omega)]; done) | (rw [isStat_no (by omega)]; simp; omega)), rfl⟩
def fits (c k : Int) : Bool :=
  if c = 101 then isExpr k else if c = 98 then k == 0 else if c = 115 then isStat k else if c = 102 then k == 19 else if c = 99 then k == 18 else (k == 16) || (k == 17)
set_option maxRecDepth 100000 in
set_option maxHeartbeats 1000000 in
theorem l3fits_any (c k : Int) (w : World) : Calls Try.prog 73 #[.int .u8 c, .int .i64 k] w fun e w' => e = .returned (.bool (fits c k)) ∧ w' = w := by
  have E := l3expr_any k w
  have S := l3stat_any k w
  by_cases h1 : c = 101
  · subst h1
    rw [show fits 101 k = isExpr k from rfl]
    go_enter Try.func73, Try.ntmps73
    go_wp2_with (go_at_call 81; refine E.mono ?_; rintro e w' ⟨rfl, hw⟩; replace hw := hw.symm; subst hw)
    go_ret
    exact ⟨rfl, rfl⟩
  by_cases h2 : c = 98
  · subst h2
    rw [show fits 98 k = (k == 0) from rfl]
    go_enter Try.func73, Try.ntmps73
    go_wp2
    go_ret
    exact ⟨rfl, rfl⟩
  by_cases h3 : c = 115
  · subst h3
    rw [show fits 115 k = isStat k from rfl]
    go_enter Try.func73, Try.ntmps73
    go_wp2_with (go_at_call 82; refine S.mono ?_; rintro e w' ⟨rfl, hw⟩; replace hw := hw.symm; subst hw)
    go_ret
    exact ⟨rfl, rfl⟩
  by_cases h4 : c = 102
  · subst h4
    rw [show fits 102 k = (k == 19) from rfl]
    go_enter Try.func73, Try.ntmps73
    go_wp2
    go_ret
    exact ⟨rfl, rfl⟩
  by_cases h5 : c = 99
  · subst h5
    rw [show fits 99 k = (k == 18) from rfl]
    go_enter Try.func73, Try.ntmps73
    go_wp2
    go_ret
    exact ⟨rfl, rfl⟩
  have e1 : (c == 101) = false := by simp; exact h1
  have e2 : (c == 98) = false := by simp; exact h2
  have e3 : (c == 115) = false := by simp; exact h3
  have e4 : (c == 102) = false := by simp; exact h4
  have e5 : (c == 99) = false := by simp; exact h5
  rw [show fits c k = ((k == 16) || (k == 17)) by unfold fits; rw [if_neg h1, if_neg h2, if_neg h3, if_neg h4, if_neg h5]]
  clear h1 h2 h3 h4 h5
  by_cases h6 : k = 16
  · subst h6
    go_enter Try.func73, Try.ntmps73
    go_wp2
    go_ret
    exact ⟨rfl, rfl⟩
  · have e6 : (k == 16) = false := by simp; exact h6
    go_enter Try.func73, Try.ntmps73
    go_wp2
    go_ret
    exact ⟨ret_bool (by rw [e6]; simp), rfl⟩
def isName (s : List Int) : Bool := decide (0 < s.length) && (decide (s.length ≤ 5000) && (letter (s.getD 0 0) && (decide (span alnum s 0 = s.length) && !isIn words (strOfNums s))))
set_option maxRecDepth 100000 in
set_option maxHeartbeats 1000000 in
theorem l3isName_any (ao : Option Addr) (n cap : Nat) (s : List Int) (w : World) (hl : s.length = n) (hr : Rd w ao s) (hb : Bts s) (hm : n ≤ 1048576) :
    Calls Try.prog 80 #[.slice ao n cap] w fun e w' => e = .returned (.bool (isName s)) ∧ Below w.heap.size w w' := by
  by_cases h0 : 0 < n
  · obtain ⟨b, off, rfl, hbw, hcell⟩ := hr.at (by omega)
    have hc0 := hcell 0 (by omega)
    rw [Nat.add_zero] at hc0
    have hz := hb 0
    by_cases h1 : n ≤ 5000
    · have R := l2run_any b off cap 0 s w hb hcell (by omega) (by omega)
      rw [hl] at R
      have CV : (convert 22 9 (.slice (some ⟨b, off, none⟩) n cap)).run Try.prog w = .ok (.string (strOfNums s)) w :=
        run_convert_bytes_arg w 22 5 Try.underlying22 Try.underlying5 b off n cap s hl (fun i hi => hcell i (by omega)) 9 Try.underlying9
      have WD := isWord_any (strOfNums s) w
      have LT := letter_any (s.getD 0 0) hz.1 hz.2 w
      have HN : Hid (isName s = (letter (s.getD 0 0) && (decide (span alnum s 0 = n) && !isIn words (strOfNums s)))) := by
        show _ = _
        unfold isName
        rw [hl, decide_eq_true h0, decide_eq_true h1, Bool.true_and, Bool.true_and]
      generalize letter (s.getD 0 0) = bl at LT HN
      generalize isIn words (strOfNums s) = bw at WD HN
      generalize strOfNums s = str at CV WD
      generalize span alnum s 0 = sp at R HN
      generalize s.getD 0 0 = z at hc0 hz LT
      clear hcell hr hb hl
      have hd1 : decide (n ≤ 5000) = true := decide_eq_true h1
      have hd0 : decide (0 < n) = true := decide_eq_true h0
      cases bl with
      | false =>
        go_enter Try.func80, Try.ntmps80
        go_wp2_with fail
        refine LT.mono ?_
        rintro e w' ⟨rfl, hw⟩
        replace hw := hw.symm
        subst hw
        clear LT
        go_wp2_with fail
        go_ret
        exact ⟨ret_bool (by rw [HN.out]; rfl), Below.refl _ _⟩
      | true =>
        by_cases hsp : sp = n
        · subst hsp
          go_enter Try.func80, Try.ntmps80
          go_wp2_with fail
          refine LT.mono ?_
          rintro e w' ⟨rfl, hw⟩
          replace hw := hw.symm
          subst hw
          clear LT
          go_wp2_with fail
          refine R.mono ?_
          rintro e w' ⟨rfl, hw⟩
          replace hw := hw.symm
          subst hw
          clear R
          go_wp2_with fail
          refine WD.mono ?_
          rintro e w1 ⟨rfl, o, rfl⟩
          clear WD
          go_wp2_with fail
          go_ret
          exact ⟨ret_bool (by rw [HN.out]; simp), (Below.refl _ _).alloc (Nat.le_refl _) _⟩
        · have hne : ((sp : Int) == (n : Int)) = false := by simp; omega
          go_enter Try.func80, Try.ntmps80
          go_wp2_with fail
          refine LT.mono ?_
          rintro e w' ⟨rfl, hw⟩
          replace hw := hw.symm
          subst hw
          clear LT
          go_wp2_with fail
          refine R.mono ?_
          rintro e w' ⟨rfl, hw⟩
          replace hw := hw.symm
          subst hw
          clear R
          go_wp2_with fail
          go_ret
          exact ⟨ret_bool (by rw [HN.out, decide_eq_false hsp]; rfl), Below.refl _ _⟩
    · have HN : Hid (isName s = false) := by show _ = _; unfold isName; rw [hl, decide_eq_false h1]; simp
      have hd1 : decide (n ≤ 5000) = false := decide_eq_false h1
      have hd0 : decide (0 < n) = true := decide_eq_true h0
      clear hcell hr hb hl
      go_enter Try.func80, Try.ntmps80
      go_wp2_with fail
      go_ret
      exact ⟨ret_bool (by rw [HN.out]), Below.refl _ _⟩
  · have HN : Hid (isName s = false) := by show _ = _; unfold isName; rw [hl, decide_eq_false h0]; rfl
    have hn0 : n = 0 := by omega
    subst hn0
    clear hr hb hl
    go_enter Try.func80, Try.ntmps80
    go_wp2_with fail
    go_ret
    exact ⟨ret_bool (by rw [HN.out]), Below.refl _ _⟩
def Tr : Nat → Type
  | 0 => Unit
  | D + 1 => Nd × List (Tr D)
def dT : {D : Nat} → Tr D → Nd
  | 0, _ => nd0
  | _ + 1, t => t.1
def takes (r : Nat) (k : Int) : Bool :=
  if r = 0 then k == 0 else if r = 1 then isStat k else if r = 2 then isExpr k else if r = 3 then (k == 16) || (k == 17) else if r = 4 then k == 18 else k == 19
def holds : List Nat → List Int → Bool
  | [], [] => true
  | r :: rs, k :: ks => takes r k && holds rs ks
  | _, _ => false
def named (nn : Int) (tx : List Int) (nms : List (List Int)) (lo hi : Nat) : Bool := (nn == 0) && (decide (tx.length = 0) && (decide (lo ≤ nms.length) && (decide (nms.length ≤ hi) && nms.all isName)))
end Go.Proofs.Ytepbddfpdlapbaa.vt
