import Derived.Test.YtdffdkaligkkbaaLexWord
import Derived.Test.YtdffdkaligkkbaaLexSigns
namespace Go.Proofs.Ytdffdkaligkkbaa.lex
open Go.RowKit Go.Proofs.Ytdffdkaligkkbaa.bts Go.Proofs.Ytdffdkaligkkbaa.scn Go.Proofs.Ytdffdkaligkkbaa.lit

theorem alnum_yes {c : Int} (h : (97 ≤ c ∧ c ≤ 122) ∨ (65 ≤ c ∧ c ≤ 90) ∨ c = 95 ∨ (48 ≤ c ∧ c ≤ 57)) : alnum c = true := by
  unfold alnum letter digit
  rcases h with ⟨a, b⟩ | ⟨a, b⟩ | a | ⟨a, b⟩ <;> simp [*]
theorem alnum_no {c : Int} (h : ¬ ((97 ≤ c ∧ c ≤ 122) ∨ (65 ≤ c ∧ c ≤ 90) ∨ c = 95 ∨ (48 ≤ c ∧ c ≤ 57))) : alnum c = false := by
  unfold alnum
  rw [letter_no (by omega), digit_no (by omega)]; rfl
theorem blank_yes' {c : Int} (h : c = 32 ∨ c = 9 ∨ c = 13 ∨ c = 10) : blank c = true := by rcases h with rfl | rfl | rfl | rfl <;> rfl
theorem blank_no' {c : Int} (h : ¬ (c = 32 ∨ c = 9 ∨ c = 13 ∨ c = 10)) : blank c = false := by
  rw [Bool.eq_false_iff]
  intro hc
  unfold blank at hc
  simp only [Bool.or_eq_true, beq_iff_eq] at hc
  omega

theorem isBlank_any (c : Int) (w : World) :
    Calls Try.prog 35 #[.int .u8 c] w fun e w' => e = .returned (.bool (blank c)) ∧ w' = w := by
  by_cases hc : c = 32 ∨ c = 9 ∨ c = 13 ∨ c = 10
  · rw [blank_yes' hc]
    rcases hc with rfl | rfl | rfl | rfl
    all_goals
      go_enter Try.func35, Try.ntmps35
      go_wp2
      go_ret
      exact ⟨rfl, rfl⟩
  · rw [blank_no' hc]
    have e32 : (c == 32) = false := by simp; omega
    have e9 : (c == 9) = false := by simp; omega
    have e13 : (c == 13) = false := by simp; omega
    have e10 : (c == 10) = false := by simp; omega
    clear hc
    go_enter Try.func35, Try.ntmps35
    go_wp2
    go_ret
    exact ⟨ret_bool (by simp [*]), rfl⟩

theorem isDigit_any (c : Int) (w : World) :
    Calls Try.prog 36 #[.int .u8 c] w fun e w' => e = .returned (.bool (digit c)) ∧ w' = w := by
  have hc : c < 48 ∨ (48 ≤ c ∧ c ≤ 57) ∨ 57 < c := by omega
  rcases hc with a | ⟨a, b⟩ | a
  all_goals
    go_enter Try.func36, Try.ntmps36
    go_wp2
    go_ret
    exact ⟨ret_bool (by first | (rw [digit_yes (by omega)]; done) | (rw [digit_no (by omega)]; done) | (rw [digit_no (by omega)]; simp; omega)), rfl⟩

set_option maxHeartbeats 1000000 in
theorem isWordByte_any (c : Int) (w : World) :
    Calls Try.prog 37 #[.int .u8 c] w fun e w' => e = .returned (.bool (alnum c)) ∧ w' = w := by
  have D := isDigit_any c w
  have hc : c < 48 ∨ (48 ≤ c ∧ c ≤ 57) ∨ (57 < c ∧ c < 65) ∨ (65 ≤ c ∧ c ≤ 90) ∨ (90 < c ∧ c < 95) ∨ c = 95 ∨ c = 96 ∨ (97 ≤ c ∧ c ≤ 122) ∨ 122 < c := by omega
  rcases hc with a | ⟨a, b⟩ | ⟨a, b⟩ | ⟨a, b⟩ | ⟨a, b⟩ | rfl | rfl | ⟨a, b⟩ | a
  · have e95 : (c == 95) = false := by simp; omega
    rw [digit_no (by omega)] at D
    rw [alnum_no (by omega)]
    go_enter Try.func37, Try.ntmps37
    go_wp2_with (go_at_call 36; refine D.mono ?_; rintro e w' ⟨rfl, hw⟩; replace hw := hw.symm; subst hw)
    go_ret
    exact ⟨rfl, rfl⟩
  · have e95 : (c == 95) = false := by simp; omega
    rw [digit_yes (by omega)] at D
    rw [alnum_yes (by omega)]
    go_enter Try.func37, Try.ntmps37
    go_wp2_with (go_at_call 36; refine D.mono ?_; rintro e w' ⟨rfl, hw⟩; replace hw := hw.symm; subst hw)
    go_ret
    exact ⟨rfl, rfl⟩
  · have e95 : (c == 95) = false := by simp; omega
    rw [digit_no (by omega)] at D
    rw [alnum_no (by omega)]
    go_enter Try.func37, Try.ntmps37
    go_wp2_with (go_at_call 36; refine D.mono ?_; rintro e w' ⟨rfl, hw⟩; replace hw := hw.symm; subst hw)
    go_ret
    exact ⟨rfl, rfl⟩
  · rw [alnum_yes (by omega)]
    go_enter Try.func37, Try.ntmps37
    go_wp2
    go_ret
    exact ⟨rfl, rfl⟩
  · have e95 : (c == 95) = false := by simp; omega
    rw [digit_no (by omega)] at D
    rw [alnum_no (by omega)]
    go_enter Try.func37, Try.ntmps37
    go_wp2_with (go_at_call 36; refine D.mono ?_; rintro e w' ⟨rfl, hw⟩; replace hw := hw.symm; subst hw)
    go_ret
    exact ⟨ret_bool (by simp; omega), rfl⟩
  · rw [alnum_yes (by omega)]
    go_enter Try.func37, Try.ntmps37
    go_wp2
    go_ret
    exact ⟨rfl, rfl⟩
  · rw [digit_no (by omega)] at D
    rw [alnum_no (by omega)]
    go_enter Try.func37, Try.ntmps37
    go_wp2_with (go_at_call 36; refine D.mono ?_; rintro e w' ⟨rfl, hw⟩; replace hw := hw.symm; subst hw)
    go_ret
    exact ⟨rfl, rfl⟩
  · rw [alnum_yes (by omega)]
    go_enter Try.func37, Try.ntmps37
    go_wp2
    go_ret
    exact ⟨rfl, rfl⟩
  · have e95 : (c == 95) = false := by simp; omega
    rw [digit_no (by omega)] at D
    rw [alnum_no (by omega)]
    go_enter Try.func37, Try.ntmps37
    go_wp2_with (go_at_call 36; refine D.mono ?_; rintro e w' ⟨rfl, hw⟩; replace hw := hw.symm; subst hw)
    go_ret
    exact ⟨ret_bool (by simp; omega), rfl⟩

theorem ret_tup {a b c d : Int} (h : a = c) (h2 : b = d) : Ending.returned (.tuple #[.int .i64 a, .int .u8 b]) = .returned (.tuple #[.int .i64 c, .int .u8 d]) := by rw [h, h2]

set_option maxHeartbeats 2000000 in
theorem readSign_any (c : Int) (w : World) :
    Calls Try.prog 39 #[.int .u8 c] w fun e w' => e = .returned (.tuple #[.int .i64 (sgn c).1, .int .u8 (sgn c).2]) ∧ w' = w := by
  rcases sgn_cases c with ⟨h, e⟩ | ⟨h, e⟩ | ⟨h, e⟩ | ⟨h, e⟩ | ⟨h, e⟩ | ⟨h1, h2, h3, h4, h5, e⟩ <;> rw [e]
  · rcases h with rfl | rfl | rfl | rfl | rfl | rfl | rfl | rfl | rfl | rfl | rfl
    all_goals
      clear e
      go_enter Try.func39, Try.ntmps39
      go_wp2
      go_ret2
      exact ⟨rfl, rfl⟩
  · rcases h with rfl | rfl | rfl
    all_goals
      clear e
      go_enter Try.func39, Try.ntmps39
      go_wp2
      go_ret2
      exact ⟨rfl, rfl⟩
  · rcases h with rfl | rfl
    all_goals
      clear e
      go_enter Try.func39, Try.ntmps39
      go_wp2
      go_ret2
      exact ⟨rfl, rfl⟩
  · subst h
    clear e
    go_enter Try.func39, Try.ntmps39
    go_wp2
    go_ret2
    exact ⟨rfl, rfl⟩
  · subst h
    clear e
    go_enter Try.func39, Try.ntmps39
    go_wp2
    go_ret2
    exact ⟨rfl, rfl⟩
  · have a43 : (c == 43) = false := by simp; omega
    have a42 : (c == 42) = false := by simp; omega
    have a37 : (c == 37) = false := by simp; omega
    have a40 : (c == 40) = false := by simp; omega
    have a41 : (c == 41) = false := by simp; omega
    have a123 : (c == 123) = false := by simp; omega
    have a125 : (c == 125) = false := by simp; omega
    have a91 : (c == 91) = false := by simp; omega
    have a93 : (c == 93) = false := by simp; omega
    have a59 : (c == 59) = false := by simp; omega
    have a44 : (c == 44) = false := by simp; omega
    have a61 : (c == 61) = false := by simp; omega
    have a60 : (c == 60) = false := by simp; omega
    have a62 : (c == 62) = false := by simp; omega
    have a46 : (c == 46) = false := by simp; omega
    have a45 : (c == 45) = false := by simp; omega
    have a126 : (c == 126) = false := by simp; omega
    have a47 : (c == 47) = false := by simp; omega
    clear h1 h2 h3 h4 h5 e
    go_enter Try.func39, Try.ntmps39
    go_wp2
    go_ret2
    exact ⟨rfl, rfl⟩

set_option maxHeartbeats 1000000 in
theorem runSize_any (b off cap n : Nat) (zs : List Int) (w : World) (hcell : ∀ i, i < zs.length → w.cell? ⟨b, off + i, none⟩ = some (.int .u8 (zs.getD i 0))) (hl : zs.length = n) (hm : n ≤ 1073741824) :
    Calls Try.prog 40 #[.slice (some ⟨b, off, none⟩) n cap] w fun e w' => e = .returned (.int .i64 (span alnum zs 0)) ∧ w' = w := by
  have HL : Hid (zs.length = n) := hl
  have HC : Hid (∀ i, i < zs.length → w.cell? ⟨b, off + i, none⟩ = some (.int .u8 (zs.getD i 0))) := hcell
  clear hl hcell
  go_enter Try.func40, Try.ntmps40
  go_wp2
  go_loop [7] (fun q => ∃ (m : Nat), m ≤ n ∧ q = .int .i64 m ∧ Hid (span alnum zs 0 = m + span alnum zs m)) (fun q => n - (intOf q).toNat)
  case atStart => exact ⟨0, by omega, rfl, by show _ = _; rw [Nat.zero_add]⟩
  case round =>
    obtain ⟨m, hm1, rfl, HR⟩ := hrel
    by_cases hlt : m < n
    · have hc := HC.out m (by rw [HL.out]; exact hlt)
      obtain ⟨z, hzz⟩ : ∃ z, z = zs.getD m 0 := ⟨_, rfl⟩
      rw [← hzz] at hc
      have HZ : Hid (zs.getD m 0 = z) := hzz.symm
      have HI : Hid (m < zs.length) := by show _ < _; rw [HL.out]; exact hlt
      clear hzz
      have W := isWordByte_any z w
      by_cases ha : alnum z = true
      · have HA : Hid (span alnum zs 0 = (m + 1) + span alnum zs (m + 1)) := by show _ = _; rw [HR.out, span_step HI.out (by rw [HZ.out]; exact ha)]; omega
        rw [ha] at W
        go_wp2_with (go_at_call 37; refine W.mono ?_; rintro e w' ⟨rfl, hw⟩; replace hw := hw.symm; subst hw)
        go_round
        case rel => exact ⟨m + 1, by omega, by go_num, HA⟩
        case measure => simp [intOf]; omega
      · have ha' : alnum z = false := by simpa using ha
        clear ha
        have HE : Hid (span alnum zs 0 = m) := by show _ = _; rw [HR.out, span_stop (by rw [HZ.out]; exact ha')]; rfl
        rw [ha'] at W
        go_wp2_with (go_at_call 37; refine W.mono ?_; rintro e w' ⟨rfl, hw⟩; replace hw := hw.symm; subst hw)
        go_ret
        exact ⟨ret_int (by rw [HE.out]), rfl⟩
    · have HE : Hid (span alnum zs 0 = m) := by show _ = _; rw [HR.out, span_end (by rw [HL.out]; omega)]; rfl
      have hmn : m = n := by omega
      subst hmn
      go_wp2
      go_ret
      exact ⟨ret_int (by rw [HE.out]), rfl⟩
end Go.Proofs.Ytdffdkaligkkbaa.lex
