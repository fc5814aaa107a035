import Derived.Test.YtccnjmnafkfjdaaGreatTrMeth
import Derived.Test.YtccnjmnafkfjdaaGreatTrWord
namespace Go.Proofs.YtccnjmnafkfjdaaGreat.vt
open Go.RowKit Go.Proofs.YtccnjmnafkfjdaaGreat.bts Go.Proofs.YtccnjmnafkfjdaaGreat.nod Go.Proofs.YtccnjmnafkfjdaaGreat.lex

theorem wkind_in {s : ByteArray} (h : isIn words s = true) : wkind s = 4 := by unfold wkind; rw [if_pos h]
theorem wkind_out {s : ByteArray} (h : isIn words s = false) : wkind s = 1 := by unfold wkind; rw [if_neg (by rw [h]; decide)]
theorem part_whole (zs : List Int) : lex.part zs 0 zs.length = zs := by unfold lex.part; rw [List.drop_zero, List.take_length]
theorem digit_letter {c : Int} (h : digit c = true) : letter c = false := by
  unfold digit at h
  simp only [Bool.and_eq_true, decide_eq_true_eq] at h
  exact letter_no (by omega)
theorem span_first {zs : List Int} (h : 0 < span alnum zs 0) : alnum (zs.getD 0 0) = true := by
  cases hc : alnum (zs.getD 0 0) with
  | true => rfl
  | false => rw [span_stop hc] at h; omega

set_option maxRecDepth 100000 in
set_option maxHeartbeats 1000000 in
theorem iName_any (v : Value) (zs : List Int) (w : World) (h : RcV w v zs) (hm : zs.length ≤ 1048576) : Calls Tryz.prog 69 #[v] w fun e w' => e = .returned (.bool (isName zs)) ∧ w' = w := by
  obtain ⟨ao, cap, rfl, hcap, hc2, hr, hb⟩ := h
  obtain ⟨n, hn⟩ : ∃ n, n = zs.length := ⟨_, rfl⟩
  rw [← hn] at hcap hm ⊢
  by_cases h0 : n = 0
  · have HN : Hid (isName zs = false) := by show _ = _; unfold isName; rw [← hn, decide_eq_false (by omega)]; rfl
    subst h0
    clear hr hb hn
    go_enter Tryz.func69, Tryz.ntmps69
    go_wp2_with fail
    go_ret
    exact ⟨ret_bool HN.out.symm, rfl⟩
  have d0 : ((n : Int) == 0) = false := by simp; omega
  by_cases h1 : 5000 < n
  · have HN : Hid (isName zs = false) := by show _ = _; unfold isName; rw [← hn, decide_eq_false (show ¬ n ≤ 5000 by omega)]; simp
    have d1 : decide ((5000 : Int) < (n : Int)) = true := by simp; omega
    clear hr hb hn
    go_enter Tryz.func69, Tryz.ntmps69
    go_wp2_with fail
    go_ret
    exact ⟨ret_bool HN.out.symm, rfl⟩
  have d1 : decide ((5000 : Int) < (n : Int)) = false := by simp; omega
  obtain ⟨b, off, rfl, hbw, hcell⟩ := hr.at (show 0 < zs.length by omega)
  have hc0 := hcell 0 (by omega)
  rw [Nat.add_zero] at hc0
  have CD := isDigit_any (zs.getD 0 0) w
  have CW := readWord_any b off cap n zs w hcell hn.symm hcap hc2 hm
  have hpos : (0 : Int) < (n : Int) := by omega
  cases hd : digit (zs.getD 0 0) with
  | true =>
    have HN : Hid (isName zs = false) := by show _ = _; unfold isName; rw [digit_letter hd]; simp
    rw [hd] at CD
    generalize zs.getD 0 0 = z at CD hc0
    clear hr hb hn CW hcell hd
    go_enter Tryz.func69, Tryz.ntmps69
    go_wp2_with fail
    refine CD.mono ?_
    rintro e w' ⟨rfl, hw⟩
    replace hw := hw.symm
    subst hw
    clear CD
    go_wp2_with fail
    go_ret
    exact ⟨ret_bool HN.out.symm, rfl⟩
  | false =>
    rw [hd] at CD
    have HN : Hid (isName zs = ((wkind (strOfNums (lex.part zs 0 (span alnum zs 0))) == 1) && ((span alnum zs 0 : Int) == (n : Int)))) := by
      show _ = _
      by_cases hs : span alnum zs 0 = n
      · have hl : letter (zs.getD 0 0) = true := by
          have := span_first (zs := zs) (by omega)
          unfold alnum at this
          rw [hd, Bool.or_false] at this
          exact this
        unfold isName
        rw [hs, hn, part_whole, hl, decide_eq_true (show 0 < zs.length by omega), decide_eq_true (show zs.length ≤ 5000 by omega), decide_eq_true rfl]
        cases hw : isIn words (strOfNums zs) with
        | true => rw [wkind_in hw]; rfl
        | false => rw [wkind_out hw]; simp
      · unfold isName
        rw [decide_eq_false (show ¬ span alnum zs 0 = zs.length by omega), show ((span alnum zs 0 : Int) == (n : Int)) = false by simp; omega]
        simp
    generalize wkind (strOfNums (lex.part zs 0 (span alnum zs 0))) = kw at CW HN
    generalize span alnum zs 0 = sp at CW HN
    generalize zs.getD 0 0 = z at CD hc0
    clear hr hb hn hcell hd
    by_cases hkw : kw = 1
    · subst hkw
      go_enter Tryz.func69, Tryz.ntmps69
      go_wp2_with fail
      refine CD.mono ?_
      rintro e w' ⟨rfl, hw⟩
      replace hw := hw.symm
      subst hw
      clear CD
      go_wp2_with fail
      refine CW.mono ?_
      rintro e w' ⟨rfl, hw⟩
      replace hw := hw.symm
      subst hw
      clear CW
      go_wp2_with fail
      go_ret
      exact ⟨ret_bool (by rw [HN.out]; simp), rfl⟩
    · have hk : (kw == 1) = false := by simp; exact hkw
      go_enter Tryz.func69, Tryz.ntmps69
      go_wp2_with fail
      refine CD.mono ?_
      rintro e w' ⟨rfl, hw⟩
      replace hw := hw.symm
      subst hw
      clear CD
      go_wp2_with fail
      refine CW.mono ?_
      rintro e w' ⟨rfl, hw⟩
      replace hw := hw.symm
      subst hw
      clear CW
      go_wp2_with fail
      go_ret
      exact ⟨ret_bool (by rw [HN.out, hk]; rfl), rfl⟩
end Go.Proofs.YtccnjmnafkfjdaaGreat.vt
