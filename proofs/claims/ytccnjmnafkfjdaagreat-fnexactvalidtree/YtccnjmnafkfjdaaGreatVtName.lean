import Derived.Test.YtccnjmnafkfjdaaGreatVtFits
import Derived.Laws.BytesArg
namespace Go.Proofs.YtccnjmnafkfjdaaGreat.vt
open Go.RowKit Go.Proofs.YtccnjmnafkfjdaaGreat.bts Go.Proofs.YtccnjmnafkfjdaaGreat.nod Go.Proofs.YtccnjmnafkfjdaaGreat.lex

set_option maxRecDepth 100000 in
set_option maxHeartbeats 1000000 in
theorem l3isName_any (ao : Option Addr) (n cap : Nat) (s : List Int) (w : World) (hl : s.length = n) (hr : Rd w ao s) (hb : Bts s) (hm : n ≤ 1048576) :
    Calls Tryz.prog 28 #[.slice ao n cap] w fun e w' => e = .returned (.bool (isName s)) ∧ Below w.heap.size w w' := by
  by_cases h0 : 0 < n
  · obtain ⟨b, off, rfl, hbw, hcell⟩ := hr.at (by omega)
    have hc0 := hcell 0 (by omega)
    rw [Nat.add_zero] at hc0
    have hz := hb 0
    by_cases h1 : n ≤ 5000
    · have R := l2run_any b off cap 0 s w hb hcell (by omega) (by omega)
      rw [hl] at R
      have CV : (convert 30 9 (.slice (some ⟨b, off, none⟩) n cap)).run Tryz.prog w = .ok (.string (strOfNums s)) w :=
        run_convert_bytes_arg w 30 5 Tryz.underlying30 Tryz.underlying5 b off n cap s hl (fun i hi => hcell i (by omega)) 9 Tryz.underlying9
      have WD := isWord_any (strOfNums s) w
      have LT := letter_any (s.getD 0 0) hz.1 hz.2 w
      have HN : Hid (isName s = (letter (s.getD 0 0) && (decide (span alnum s 0 = n) && !isIn words (strOfNums s)))) := by
        show _ = _
        unfold isName
        rw [hl, decide_eq_true h0, decide_eq_true h1, Bool.true_and, Bool.true_and]
      generalize letter (s.getD 0 0) = bl at LT HN
      generalize isIn words (strOfNums s) = bw at WD HN
      generalize strOfNums s = str at CV WD
      generalize span alnum s 0 = sp at R HN
      generalize s.getD 0 0 = z at hc0 hz LT
      clear hcell hr hb hl
      have hd1 : decide (n ≤ 5000) = true := decide_eq_true h1
      have hd0 : decide (0 < n) = true := decide_eq_true h0
      cases bl with
      | false =>
        go_enter Tryz.func28, Tryz.ntmps28
        go_wp2_with fail
        refine LT.mono ?_
        rintro e w' ⟨rfl, hw⟩
        replace hw := hw.symm
        subst hw
        clear LT
        go_wp2_with fail
        go_ret
        exact ⟨ret_bool (by rw [HN.out]; rfl), Below.refl _ _⟩
      | true =>
        by_cases hsp : sp = n
        · subst hsp
          go_enter Tryz.func28, Tryz.ntmps28
          go_wp2_with fail
          refine LT.mono ?_
          rintro e w' ⟨rfl, hw⟩
          replace hw := hw.symm
          subst hw
          clear LT
          go_wp2_with fail
          refine R.mono ?_
          rintro e w' ⟨rfl, hw⟩
          replace hw := hw.symm
          subst hw
          clear R
          go_wp2_with fail
          refine WD.mono ?_
          rintro e w1 ⟨rfl, o, rfl⟩
          clear WD
          go_wp2_with fail
          go_ret
          exact ⟨ret_bool (by rw [HN.out]; simp), (Below.refl _ _).alloc (Nat.le_refl _) _⟩
        · have hne : ((sp : Int) == (n : Int)) = false := by simp; omega
          go_enter Tryz.func28, Tryz.ntmps28
          go_wp2_with fail
          refine LT.mono ?_
          rintro e w' ⟨rfl, hw⟩
          replace hw := hw.symm
          subst hw
          clear LT
          go_wp2_with fail
          refine R.mono ?_
          rintro e w' ⟨rfl, hw⟩
          replace hw := hw.symm
          subst hw
          clear R
          go_wp2_with fail
          go_ret
          exact ⟨ret_bool (by rw [HN.out, decide_eq_false hsp]; rfl), Below.refl _ _⟩
    · have HN : Hid (isName s = false) := by show _ = _; unfold isName; rw [hl, decide_eq_false h1]; simp
      have hd1 : decide (n ≤ 5000) = false := decide_eq_false h1
      have hd0 : decide (0 < n) = true := decide_eq_true h0
      clear hcell hr hb hl
      go_enter Tryz.func28, Tryz.ntmps28
      go_wp2_with fail
      go_ret
      exact ⟨ret_bool (by rw [HN.out]), Below.refl _ _⟩
  · have HN : Hid (isName s = false) := by show _ = _; unfold isName; rw [hl, decide_eq_false h0]; rfl
    have hn0 : n = 0 := by omega
    subst hn0
    clear hr hb hl
    go_enter Tryz.func28, Tryz.ntmps28
    go_wp2_with fail
    go_ret
    exact ⟨ret_bool (by rw [HN.out]), Below.refl _ _⟩
end Go.Proofs.YtccnjmnafkfjdaaGreat.vt
