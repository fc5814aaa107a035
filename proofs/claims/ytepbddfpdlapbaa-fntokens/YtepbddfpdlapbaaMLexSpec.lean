import Derived.BigQuiet
import Derived.Deep.QuietTactic
import Derived.Deep.AppendLies
import Derived.Test.YtepbddfpdlapbaaMScanMore
import Derived.Test.YtepbddfpdlapbaaMUnqWalks
import Derived.Test.YtepbddfpdlapbaaMLexWord
namespace Go.Proofs.Ytepbddfpdlapbaa.lex
open Go.RowKit Go.Proofs.Ytepbddfpdlapbaa.bts Go.Proofs.Ytepbddfpdlapbaa.scn Go.Proofs.Ytepbddfpdlapbaa.lit
def TokPost (zs : List Int) (k : Nat) (w : World) (e : Ending) (w' : World) : Prop :=
  e = .returned (.tuple #[.int .i64 (tokK zs k).1, .int .i64 ((tokK zs k).2.1 : Nat), .int .i64 (tokK zs k).2.2]) ∧ Below w.heap.size w w'
theorem tok_post {zs : List Int} {k : Nat} {w w' : World} {a b c : Int} {m : Nat} (h : tokK zs k = (a, m, c)) (hm : b = (m : Int)) (hb : Below w.heap.size w w') : TokPost zs k w (.returned (.tuple #[.int .i64 a, .int .i64 b, .int .i64 c])) w' := by
  unfold TokPost; rw [h, hm]; exact ⟨rfl, hb⟩
theorem conv_part (g k n cap : Nat) (zs : List Int) (w : World) (hcell : ∀ i, i < zs.length → w.cell? ⟨g, i, none⟩ = some (.int .u8 (zs.getD i 0))) (h : k + n ≤ zs.length) :
    (convert 22 9 (.slice (some ⟨g, k, none⟩) n cap)).run Try.prog w = .ok (.string (strOfNums (part zs k n))) w :=
  run_convert_bytes_arg w 22 5 Try.underlying22 Try.underlying5 g k n cap (part zs k n) (part_len h) (fun i hi => by rw [part_getD hi]; exact hcell (k + i) (by omega)) 9 Try.underlying9
set_option maxHeartbeats 2000000 in
theorem tok_letter (g cap k : Nat) (zs : List Int) (w : World) (hb : Bts zs) (hcell : ∀ i, i < zs.length → w.cell? ⟨g, i, none⟩ = some (.int .u8 (zs.getD i 0))) (hm : cap ≤ 9223372036854775807 ∧ zs.length ≤ 1048576) (hcap : zs.length ≤ cap) (hk : k < zs.length) (hl : letter (zs.getD k 0) = true) :
    Calls Try.prog 13 #[.slice (some ⟨g, 0, none⟩) zs.length cap, .int .i64 k] w (TokPost zs k w) := by
  have R := l2run_any g 0 cap k zs w hb (by simpa using hcell) (by omega) (by omega)
  have hsp := span_step (p := alnum) hk (by unfold alnum; rw [hl]; rfl)
  have hle := span_le alnum zs k
  have hc0 := hcell k hk
  have hbz := hb k
  have CV := conv_part g k (span alnum zs k) (cap - k) zs w hcell (by omega)
  have T : tokK zs k = (if isIn words (strOfNums (part zs k (span alnum zs k))) then (4, span alnum zs k, 0) else (1, span alnum zs k, 0)) := by unfold tokK; rw [if_pos hl]
  obtain ⟨z, hz⟩ : ∃ z, z = zs.getD k 0 := ⟨_, rfl⟩
  obtain ⟨m, hmm⟩ : ∃ m, m = span alnum zs k := ⟨_, rfl⟩
  obtain ⟨s, hs⟩ : ∃ s, s = strOfNums (part zs k (span alnum zs k)) := ⟨_, rfl⟩
  rw [← hs] at CV T
  rw [← hmm] at R hsp hle CV T
  rw [← hz] at hc0 hbz hl
  obtain ⟨n, hnn⟩ : ∃ n, n = zs.length := ⟨_, rfl⟩
  rw [← hnn] at hcap hk hle R ⊢
  have hm1 : 1 ≤ m := by omega
  have hm2 : k + m ≤ n := by omega
  obtain ⟨z0, z1⟩ := hbz
  have HT : Hid (tokK zs k = (if isIn words s then (4, m, 0) else (1, m, 0))) := T
  clear hsp hle hcell hb hz hmm hs hnn T
  have LT := letter_any z z0 z1 w
  rw [hl] at LT
  go_enter Try.func13, Try.ntmps13
  go_wp2_with fail
  refine R.mono ?_
  rintro e w' ⟨rfl, hw⟩
  replace hw := hw.symm
  subst hw
  clear R
  go_wp2_with fail
  refine LT.mono ?_
  rintro e w' ⟨rfl, hw⟩
  replace hw := hw.symm
  subst hw
  clear LT
  go_wp2_with fail
  refine (isWord_any s w).mono ?_
  rintro e w1 ⟨rfl, o, rfl⟩
  clear CV
  by_cases hi : isIn words s = true
  · rw [hi]
    go_wp2
    go_ret3
    exact tok_post (by rw [HT.out, if_pos hi]) rfl ((Below.refl _ _).alloc (Nat.le_refl _) _)
  · have hi' : isIn words s = false := by simpa using hi
    rw [hi']
    go_wp2
    go_ret3
    exact tok_post (by rw [HT.out, if_neg hi]) rfl ((Below.refl _ _).alloc (Nat.le_refl _) _)
set_option maxHeartbeats 2000000 in
theorem tok_digit (g cap k : Nat) (zs : List Int) (w : World) (hb : Bts zs) (hcell : ∀ i, i < zs.length → w.cell? ⟨g, i, none⟩ = some (.int .u8 (zs.getD i 0))) (hm : cap ≤ 9223372036854775807 ∧ zs.length ≤ 1048576) (hcap : zs.length ≤ cap) (hk : k < zs.length) (hl : letter (zs.getD k 0) = false) (hd : digit (zs.getD k 0) = true) :
    Calls Try.prog 13 #[.slice (some ⟨g, 0, none⟩) zs.length cap, .int .i64 k] w (TokPost zs k w) := by
  have R := l2run_any g 0 cap k zs w hb (by simpa using hcell) (by omega) (by omega)
  have hsp := span_step (p := alnum) hk (by unfold alnum; rw [hl, hd]; rfl)
  have hle := span_le alnum zs k
  have hc0 := hcell k hk
  have hbz := hb k
  have SC := (scan_any g k (cap - k) (part zs k (span alnum zs k)) (part_bts hb _ _) w (fun i hi => by
    rw [part_len (by omega)] at hi
    exact ⟨g, k, rfl, by rw [part_getD hi]; exact hcell (k + i) (by omega)⟩) (by rw [part_len (by omega)]; omega) (by omega) (by rw [part_len (by omega)]; omega)).1
  rw [part_len (by omega)] at SC
  have T : tokK zs k = (2, span alnum zs k, (scan (part zs k (span alnum zs k))).2) := by unfold tokK; rw [if_neg (by rw [hl]; decide), if_pos hd]
  obtain ⟨z, hz⟩ : ∃ z, z = zs.getD k 0 := ⟨_, rfl⟩
  obtain ⟨m, hmm⟩ : ∃ m, m = span alnum zs k := ⟨_, rfl⟩
  obtain ⟨p, hp⟩ : ∃ p, p = scan (part zs k (span alnum zs k)) := ⟨_, rfl⟩
  rw [← hp] at SC T
  rw [← hmm] at R hsp hle SC T
  rw [← hz] at hc0 hbz hl hd
  obtain ⟨n, hnn⟩ : ∃ n, n = zs.length := ⟨_, rfl⟩
  rw [← hnn] at hcap hk hle R ⊢
  have hm1 : 1 ≤ m := by omega
  have hm2 : k + m ≤ n := by omega
  obtain ⟨z0, z1⟩ := hbz
  obtain ⟨p1, p2⟩ := p
  have HT : Hid (tokK zs k = (2, m, p2)) := T
  clear hsp hle hcell hb hz hmm hp hnn T
  have LT := letter_any z z0 z1 w
  have DT := digit_any2 z z0 z1 w
  rw [hl] at LT
  rw [hd] at DT
  go_enter Try.func13, Try.ntmps13
  go_wp2_with fail
  refine R.mono ?_
  rintro e w' ⟨rfl, hw⟩
  replace hw := hw.symm
  subst hw
  clear R
  go_wp2_with fail
  refine LT.mono ?_
  rintro e w' ⟨rfl, hw⟩
  replace hw := hw.symm
  subst hw
  clear LT
  go_wp2_with fail
  refine DT.mono ?_
  rintro e w' ⟨rfl, hw⟩
  replace hw := hw.symm
  subst hw
  clear DT
  go_wp2_with fail
  refine SC.mono ?_
  rintro e w' ⟨rfl, hw⟩
  replace hw := hw.symm
  subst hw
  clear SC
  go_wp2_with fail
  go_ret3
  exact tok_post HT.out rfl (Below.refl _ _)
set_option maxHeartbeats 2000000 in
theorem tok_quote (g cap k : Nat) (zs : List Int) (w : World) (hb : Bts zs) (hcell : ∀ i, i < zs.length → w.cell? ⟨g, i, none⟩ = some (.int .u8 (zs.getD i 0))) (hm : cap ≤ 9223372036854775807 ∧ zs.length ≤ 1048576) (_hcap : zs.length ≤ cap) (hk : k < zs.length) (hl : letter (zs.getD k 0) = false) (hd : digit (zs.getD k 0) = false) (hq : zs.getD k 0 = 34 ∨ zs.getD k 0 = 39) :
    Calls Try.prog 13 #[.slice (some ⟨g, 0, none⟩) zs.length cap, .int .i64 k] w (TokPost zs k w) := by
  have R := l2run_any g 0 cap k zs w hb (by simpa using hcell) (by omega) (by omega)
  have hle := span_le alnum zs k
  have hc0 := hcell k hk
  have hbz := hb k
  have SL := specLit_any g cap k zs w hb (fun i hi => ⟨g, 0, rfl, by rw [Nat.zero_add]; exact hcell i hi⟩) (by omega) (by omega)
  have T : tokK zs k = ofLit k (litAt zs k) := by unfold tokK; rw [if_neg (by rw [hl]; decide), if_neg (by rw [hd]; decide), if_pos hq]
  have HFit : Hid (∀ t e, litAt zs k = some (t, e) → k + 1 ≤ e ∧ e ≤ zs.length) := by
    intro t e h
    unfold litAt at h
    rw [if_pos ⟨hk, hq⟩] at h
    have := rl_fits hb zs.length (k + 1) [] t e (by omega) h (by simp)
    omega
  obtain ⟨z, hz⟩ : ∃ z, z = zs.getD k 0 := ⟨_, rfl⟩
  obtain ⟨m, hmm⟩ : ∃ m, m = span alnum zs k := ⟨_, rfl⟩
  rw [← hmm] at R hle
  rw [← hz] at hc0 hbz hl hd hq
  obtain ⟨n, hnn⟩ : ∃ n, n = zs.length := ⟨_, rfl⟩
  rw [← hnn] at _hcap hk hle R SL HFit ⊢
  obtain ⟨z0, z1⟩ := hbz
  have HT : Hid (tokK zs k = ofLit k (litAt zs k)) := T
  clear hle hcell hb hz hmm hnn T
  have LT := letter_any z z0 z1 w
  have DT := digit_any2 z z0 z1 w
  rw [hl] at LT
  rw [hd] at DT
  rcases hq with rfl | rfl
  all_goals
    go_enter Try.func13, Try.ntmps13
    go_wp2_with fail
    refine R.mono ?_
    rintro e w' ⟨rfl, hw⟩
    replace hw := hw.symm
    subst hw
    clear R
    go_wp2_with fail
    refine LT.mono ?_
    rintro e w' ⟨rfl, hw⟩
    replace hw := hw.symm
    subst hw
    clear LT
    go_wp2_with fail
    refine DT.mono ?_
    rintro e w' ⟨rfl, hw⟩
    replace hw := hw.symm
    subst hw
    clear DT
    go_wp2_with fail
    refine SL.mono ?_
    rintro x w1 ⟨hbel, hor⟩
    clear SL
    have HBel : Hid (Below w.heap.size w w1) := hbel
    clear hbel
    rcases hor with ⟨hn, rfl⟩ | ⟨t, e, ao, c, hs, rfl, hown⟩
    · have HT2 : Hid (tokK zs k = (0, 0, 2)) := by show _ = _; rw [HT.out, hn]; rfl
      clear hn HT
      go_wp2
      go_ret3
      exact tok_post HT2.out rfl HBel.out
    · have hf := HFit.out t e hs
      have HT2 : Hid (tokK zs k = (3, e - k, 0)) := by show _ = _; rw [HT.out, hs]; rfl
      have he0 : (((e : Int) - (k : Int)) == 0) = false := by simp; omega
      clear hs HT hown
      go_wp2
      go_ret3
      exact tok_post HT2.out (by omega) HBel.out
theorem signLen_step {zs : List Int} {k : Nat} {l : List ByteArray} {j : Nat} (h : j < l.length) (hs : stands zs k (l.getD j ByteArray.empty) = false) : signLen zs k (l.drop j) = signLen zs k (l.drop (j + 1)) := by
  rw [List.drop_eq_getElem_cons h]
  have e : l.getD j ByteArray.empty = l[j] := by simp [List.getD_eq_getElem?_getD, List.getElem?_eq_getElem h]
  rw [e] at hs
  rw [signLen, if_neg (by rw [hs]; decide)]
theorem signLen_hit {zs : List Int} {k : Nat} {l : List ByteArray} {j : Nat} (h : j < l.length) (hs : stands zs k (l.getD j ByteArray.empty) = true) : signLen zs k (l.drop j) = some (l.getD j ByteArray.empty).size := by
  rw [List.drop_eq_getElem_cons h]
  have e : l.getD j ByteArray.empty = l[j] := by simp [List.getD_eq_getElem?_getD, List.getElem?_eq_getElem h]
  rw [e] at hs ⊢
  rw [signLen, if_pos hs]
theorem signs_size (j : Nat) (h : j < 22) : 1 ≤ (signs.getD j ByteArray.empty).size ∧ (signs.getD j ByteArray.empty).size ≤ 2 := by
  match j, h with
  | 0, _ | 1, _ | 2, _ | 3, _ | 4, _ | 5, _ | 6, _ | 7, _ | 8, _ | 9, _ | 10, _ | 11, _ | 12, _ | 13, _ | 14, _ | 15, _ | 16, _ | 17, _ | 18, _ | 19, _ | 20, _ | 21, _ => decide
  | k + 22, h => omega
set_option maxHeartbeats 4000000 in
theorem tok_sign (g cap k : Nat) (zs : List Int) (w : World) (hb : Bts zs) (hcell : ∀ i, i < zs.length → w.cell? ⟨g, i, none⟩ = some (.int .u8 (zs.getD i 0))) (hm : cap ≤ 9223372036854775807 ∧ zs.length ≤ 1048576) (hcap : zs.length ≤ cap) (hk : k < zs.length) (hl : letter (zs.getD k 0) = false) (hd : digit (zs.getD k 0) = false) (hq : ¬ (zs.getD k 0 = 34 ∨ zs.getD k 0 = 39)) :
    Calls Try.prog 13 #[.slice (some ⟨g, 0, none⟩) zs.length cap, .int .i64 k] w (TokPost zs k w) := by
  obtain ⟨hm, hnb⟩ := hm
  have R := l2run_any g 0 cap k zs w hb (by simpa using hcell) (by omega) (by omega)
  have hle := span_le alnum zs k
  have hc0 := hcell k hk
  have hbz := hb k
  have hgw := World.block_lt_of_cell? _ _ hc0
  have T : tokK zs k = ofSign (signLen zs k signs) := by unfold tokK; rw [if_neg (by rw [hl]; decide), if_neg (by rw [hd]; decide), if_neg hq]
  have SG := signs_any w
  have HSC0 := signs_cell w
  generalize hO : (Obj.cells #[.string { data := #[61, 61] }, .string { data := #[126, 61] }, .string { data := #[60, 61] }, .string { data := #[62, 61] }, .string { data := #[47, 47] }, .string { data := #[46, 46] }, .string { data := #[43] }, .string { data := #[45] }, .string { data := #[42] }, .string { data := #[37] }, .string { data := #[60] }, .string { data := #[62] }, .string { data := #[61] }, .string { data := #[40] }, .string { data := #[41] }, .string { data := #[123] }, .string { data := #[125] }, .string { data := #[91] }, .string { data := #[93] }, .string { data := #[59] }, .string { data := #[44] }, .string { data := #[46] }] 9) = O at SG HSC0
  clear hO
  have HSC : Hid (∀ j, j < 22 → (w.alloc O).cell? ⟨w.heap.size, j, none⟩ = some (.string (signs.getD j ByteArray.empty))) := HSC0
  have HCV : Hid (∀ (d m : Nat), k + m ≤ zs.length → (convert 22 9 (.slice (some ⟨g, k, none⟩) m (cap - k))).run Try.prog ((w.alloc O).drewN d) = .ok (.string (strOfNums (part zs k m))) ((w.alloc O).drewN d)) := by
    intro d m h
    refine conv_part g k m (cap - k) zs _ (fun i hi => ?_) h
    exact (((Below.refl w.heap.size w).alloc (Nat.le_refl _) O).cell (p := ⟨g, i, none⟩) hgw).trans (hcell i hi)
  obtain ⟨z, hz⟩ : ∃ z, z = zs.getD k 0 := ⟨_, rfl⟩
  obtain ⟨m, hmm⟩ : ∃ m, m = span alnum zs k := ⟨_, rfl⟩
  rw [← hmm] at R hle
  rw [← hz] at hc0 hbz hl hd hq
  obtain ⟨n, hnn⟩ : ∃ n, n = zs.length := ⟨_, rfl⟩
  have HL : Hid (zs.length = n) := hnn.symm
  rw [← hnn] at hnb hcap hk hle R HCV ⊢
  obtain ⟨z0, z1⟩ := hbz
  have HT : Hid (tokK zs k = ofSign (signLen zs k signs)) := T
  clear hle hcell hb hz hmm hnn T HSC0
  have LT := letter_any z z0 z1 w
  have DT := digit_any2 z z0 z1 w
  rw [hl] at LT
  rw [hd] at DT
  have q1 : (z == 34) = false := by simp; omega
  have q2 : (z == 39) = false := by simp; omega
  clear hq
  go_enter Try.func13, Try.ntmps13
  go_wp2_with fail
  refine R.mono ?_
  rintro e w' ⟨rfl, hw⟩
  replace hw := hw.symm
  subst hw
  clear R
  go_wp2_with fail
  refine LT.mono ?_
  rintro e w' ⟨rfl, hw⟩
  replace hw := hw.symm
  subst hw
  clear LT
  go_wp2_with fail
  refine DT.mono ?_
  rintro e w' ⟨rfl, hw⟩
  replace hw := hw.symm
  subst hw
  clear DT
  go_wp2_with fail
  refine SG.mono ?_
  rintro e w1 ⟨rfl, rfl⟩
  clear SG
  go_wp2
  go_loopw [14] (fun q wr => ∃ (j d : Nat), j ≤ 22 ∧ q = .int .i64 j ∧ wr = (w.alloc O).drewN d ∧ Hid (signLen zs k signs = signLen zs k (signs.drop j))) (fun q _ => 22 - (intOf q).toNat)
  case atStart => exact ⟨0, 0, by omega, rfl, rfl, rfl⟩
  case round =>
    obtain ⟨j, d, hj, rfl, rfl, HR⟩ := hrel
    by_cases hlt : j < 22
    · have hc := HSC.out j hlt
      have hsz := signs_size j hlt
      obtain ⟨x, hx⟩ : ∃ x, x = signs.getD j ByteArray.empty := ⟨_, rfl⟩
      rw [← hx] at hc hsz
      have HX : Hid (signs.getD j ByteArray.empty = x) := hx.symm
      clear hx
      have hj1 : (j : Int) < 22 := by omega
      obtain ⟨hs1, hs2⟩ := hsz
      by_cases hfit : k + x.size ≤ n
      · have CV := fun d => HCV.out d x.size hfit
        have hf1 : ((k : Int) + (x.size : Int)) ≤ (n : Int) := by omega
        have hfd : decide (((k : Int) + (x.size : Int)) ≤ (n : Int)) = true := by simp; omega
        obtain ⟨p, hp⟩ : ∃ p, p = strOfNums (part zs k x.size) := ⟨_, rfl⟩
        simp only [← hp] at CV
        have HP : Hid (strOfNums (part zs k x.size) = p) := hp.symm
        clear hp
        by_cases he : (p.toList == x.toList) = true
        · have HE : Hid (signLen zs k signs = some x.size) := by
            show _ = _
            rw [HR.out, signLen_hit (by rw [signs_len]; exact hlt), HX.out]
            rw [HX.out]; unfold stands; rw [HP.out, he, HL.out, decide_eq_true hfit]; rfl
          go_wp2
          go_quiet (fail)
          go_wp2
          go_ret3
          exact tok_post (by rw [HT.out, HE.out]; rfl) rfl (below_drewN (below_drewN ((Below.refl _ _).alloc (Nat.le_refl _) _) _) _)
        · have he' : (p.toList == x.toList) = false := by simpa using he
          clear he
          have HE : Hid (signLen zs k signs = signLen zs k (signs.drop (j + 1))) := by
            show _ = _
            rw [HR.out, signLen_step (by rw [signs_len]; exact hlt)]
            rw [HX.out]; unfold stands; rw [HP.out, he']; simp
          go_wp2
          go_quiet (fail)
          go_wp2
          go_roundw
          case rel => exact ⟨j + 1, d + nq, by omega, by go_num, by simp, HE⟩
          case measure => simp [intOf]; omega
      · have hfd : decide (((k : Int) + (x.size : Int)) ≤ (n : Int)) = false := by simp; omega
        have HE : Hid (signLen zs k signs = signLen zs k (signs.drop (j + 1))) := by
          show _ = _
          rw [HR.out, signLen_step (by rw [signs_len]; exact hlt)]
          rw [HX.out]; unfold stands; rw [HL.out, decide_eq_false hfit]; rfl
        go_wp2
        go_quiet (fail)
        go_wp2
        go_roundw
        case rel => exact ⟨j + 1, d + nq, by omega, by go_num, by simp, HE⟩
        case measure => simp [intOf]; omega
    · have hj2 : j = 22 := by omega
      subst hj2
      have HE : Hid (signLen zs k signs = none) := by show _ = _; rw [HR.out]; rfl
      go_wp2
      go_ret3
      exact tok_post (by rw [HT.out, HE.out]; rfl) rfl (below_drewN ((Below.refl _ _).alloc (Nat.le_refl _) _) _)
theorem tok_any (g cap k : Nat) (zs : List Int) (w : World) (hb : Bts zs) (hcell : ∀ i, i < zs.length → w.cell? ⟨g, i, none⟩ = some (.int .u8 (zs.getD i 0))) (hm : cap ≤ 9223372036854775807 ∧ zs.length ≤ 1048576) (hcap : zs.length ≤ cap) (hk : k < zs.length) :
    Calls Try.prog 13 #[.slice (some ⟨g, 0, none⟩) zs.length cap, .int .i64 k] w (TokPost zs k w) := by
  cases hl : letter (zs.getD k 0) with
  | true => exact tok_letter g cap k zs w hb hcell hm hcap hk hl
  | false =>
    cases hd : digit (zs.getD k 0) with
    | true => exact tok_digit g cap k zs w hb hcell hm hcap hk hl hd
    | false =>
      by_cases hq : zs.getD k 0 = 34 ∨ zs.getD k 0 = 39
      · exact tok_quote g cap k zs w hb hcell hm hcap hk hl hd hq
      · exact tok_sign g cap k zs w hb hcell hm hcap hk hl hd hq
theorem lx_end {zs : List Int} {k : Nat} {out : List (Int × Nat × Nat)} (h : ¬ k < zs.length) : lx zs k out = (out, 0, 0) := by rw [lx_eq, if_neg h]
theorem lx_blank {zs : List Int} {k : Nat} {out : List (Int × Nat × Nat)} (h : k < zs.length) (hb : blank (zs.getD k 0) = true) : lx zs k out = lx zs (k + 1) out := by rw [lx_eq, if_pos h, if_pos hb]
theorem lx_comment {zs : List Int} {k : Nat} {out : List (Int × Nat × Nat)} (h : k < zs.length) (hb : blank (zs.getD k 0) = false) (hc : zs.getD k 0 = 45 ∧ k + 1 < zs.length ∧ zs.getD (k + 1) 0 = 45) : lx zs k out = lx zs (k + span notLf zs k) out := by
  rw [lx_eq, if_pos h, if_neg (by rw [hb]; decide), if_pos hc, if_pos]
  rw [span_step h (by rw [hc.1]; rfl)]; omega
theorem lx_tok {zs : List Int} {k : Nat} {out : List (Int × Nat × Nat)} (h : k < zs.length) (hb : blank (zs.getD k 0) = false) (hc : ¬ (zs.getD k 0 = 45 ∧ k + 1 < zs.length ∧ zs.getD (k + 1) 0 = 45)) (h0 : (tokK zs k).2.2 = 0) (hp : 0 < (tokK zs k).2.1) :
    lx zs k out = lx zs (k + (tokK zs k).2.1) (out ++ [((tokK zs k).1, k, (tokK zs k).2.1)]) := by
  rw [lx_eq, if_pos h, if_neg (by rw [hb]; decide), if_neg hc, if_pos h0, if_pos hp]
theorem lx_bad {zs : List Int} {k : Nat} {out : List (Int × Nat × Nat)} (h : k < zs.length) (hb : blank (zs.getD k 0) = false) (hc : ¬ (zs.getD k 0 = 45 ∧ k + 1 < zs.length ∧ zs.getD (k + 1) 0 = 45)) (h0 : ¬ (tokK zs k).2.2 = 0) :
    lx zs k out = ([], (tokK zs k).2.2, (k : Int)) := by
  rw [lx_eq, if_pos h, if_neg (by rw [hb]; decide), if_neg hc, if_neg h0]
theorem signLen_fits {zs : List Int} {k n : Nat} : ∀ {l : List ByteArray}, (∀ s ∈ l, 1 ≤ s.size) → signLen zs k l = some n → 1 ≤ n ∧ k + n ≤ zs.length
  | [], _, h => by cases h
  | s :: r, hl, h => by
    rw [signLen] at h
    split at h
    · rename_i hs
      simp only [Option.some.injEq] at h
      subst h
      refine ⟨hl s (by simp), ?_⟩
      unfold stands at hs
      simp only [Bool.and_eq_true, decide_eq_true_eq] at hs
      exact hs.1
    · exact signLen_fits (fun x hx => hl x (by simp [hx])) h
theorem tok_fits {zs : List Int} (hb : Bts zs) {k : Nat} (hk : k < zs.length) (h0 : (tokK zs k).2.2 = 0) : 1 ≤ (tokK zs k).2.1 ∧ k + (tokK zs k).2.1 ≤ zs.length := by
  have hle := span_le alnum zs k
  unfold tokK at h0 ⊢
  split
  · rename_i hl
    have hsp := span_step (p := alnum) hk (by unfold alnum; rw [hl]; rfl)
    split <;> simp only <;> omega
  · rename_i hl
    rw [if_neg hl] at h0
    split
    · rename_i hd
      have hsp := span_step (p := alnum) hk (by unfold alnum; rw [hd]; simp)
      simp only; omega
    · rename_i hd
      rw [if_neg hd] at h0
      split
      · rename_i hq
        rw [if_pos hq] at h0
        cases hL : litAt zs k with
        | none => rw [hL] at h0; simp [ofLit] at h0
        | some p =>
          obtain ⟨t, e⟩ := p
          have hL2 := hL
          unfold litAt at hL2
          rw [if_pos ⟨hk, hq⟩] at hL2
          have := rl_fits hb zs.length (k + 1) [] t e (by omega) hL2 (by simp)
          simp only [ofLit]; omega
      · rename_i hq
        rw [if_neg hq] at h0
        cases hS : signLen zs k signs with
        | none => rw [hS] at h0; simp [ofSign] at h0
        | some n =>
          have := signLen_fits (l := signs) (by decide) hS
          simp only [ofSign]; omega
def tcells (l : List (Int × Nat × Nat)) : List Value := l.flatMap fun t => [.int .i64 t.1, .int .i64 (t.2.1 : Int), .int .i64 (t.2.2 : Int)]
theorem tcells_snoc (l : List (Int × Nat × Nat)) (a : Int) (b c : Nat) : tcells (l ++ [(a, b, c)]) = tcells l ++ [.int .i64 a, .int .i64 (b : Int), .int .i64 (c : Int)] := by simp [tcells]
theorem info_tok : (Try.prog.info? 28).map (fun i => (i.zero, i.size, i.bytes)) = some (some (.agg #[.int .i64 0, .int .i64 0, .int .i64 0]), 3, 24) := by kernel_rfl
def LexPost (zs : List Int) (n : Nat) (w : World) (x : Ending) (w' : World) : Prop := Below w.heap.size w w' ∧
  ∃ ao c, x = .returned (.tuple #[.slice ao n c, .int .i64 (lexR zs).2.1, .int .i64 (lexR zs).2.2]) ∧ w'.ownsRow w.heap.size 28 3 (.slice ao n c) n (tcells (lexR zs).1)
theorem lex_post {zs : List Int} {n c : Nat} {w w' : World} {ao : Option Addr} {a b : Int} {out : List (Int × Nat × Nat)} (h : lexR zs = (out, a, b)) (hn : out.length = n) (hb : Below w.heap.size w w') (ho : w'.ownsRow w.heap.size 28 3 (.slice ao n c) n (tcells out)) :
    LexPost zs (lexR zs).1.length w (.returned (.tuple #[.slice ao n c, .int .i64 a, .int .i64 b])) w' := by
  unfold LexPost; rw [h]; subst hn; exact ⟨hb, ao, c, rfl, ho⟩
theorem blank_yes {c : Int} (h : c = 32 ∨ c = 9 ∨ c = 13 ∨ c = 10) : blank c = true := by rcases h with rfl | rfl | rfl | rfl <;> rfl
theorem blank_no {c : Int} (h : ¬ (c = 32 ∨ c = 9 ∨ c = 13 ∨ c = 10)) : blank c = false := by
  rw [Bool.eq_false_iff]
  intro hc
  unfold blank at hc
  simp only [Bool.or_eq_true, beq_iff_eq] at hc
  omega
set_option maxRecDepth 100000 in
set_option maxHeartbeats 8000000 in
theorem specLex_small (g cap : Nat) (zs : List Int) (w : World) (hb : Bts zs) (hcell : ∀ i, i < zs.length → w.cell? ⟨g, i, none⟩ = some (.int .u8 (zs.getD i 0))) (hgw : g < w.heap.size) (hm : cap ≤ 9223372036854775807) (hcap : zs.length ≤ cap) (h6 : zs.length ≤ 6000) :
    Calls Try.prog 5 #[.slice (some ⟨g, 0, none⟩) zs.length cap] w (LexPost zs (lexR zs).1.length w) := by
  obtain ⟨i0, hi, hz0, hz1, hz2⟩ := info_parts info_tok
  have HR0 : Hid (lexR zs = lx zs 0 []) := by show _ = _; unfold lexR; rw [if_neg (by omega)]
  obtain ⟨n, hnn⟩ : ∃ n, n = zs.length := ⟨_, rfl⟩
  have HL : Hid (zs.length = n) := hnn.symm
  have HB : Hid (Bts zs) := hb
  have HC : Hid (∀ i, i < zs.length → w.cell? ⟨g, i, none⟩ = some (.int .u8 (zs.getD i 0))) := hcell
  rw [← hnn] at hcap h6 ⊢
  clear hnn hb hcell
  obtain ⟨P, hP⟩ : ∃ P, P = LexPost zs (lexR zs).1.length w := ⟨_, rfl⟩
  rw [← hP]
  have HP : Hid (P = LexPost zs (lexR zs).1.length w) := hP
  clear hP
  go_enter Try.func5, Try.ntmps5
  go_wp2
  go_loopw [5, 6] (fun v a wr => ∃ (k m c : Nat) (ao : Option Addr) (out : List (Int × Nat × Nat)), k ≤ n ∧ m ≤ k ∧ a = .int .i64 k ∧ v = .slice ao m c ∧ Hid (out.length = m) ∧ wr.ownsRow w.heap.size 28 3 (.slice ao m c) m (tcells out) ∧ Hid (lexR zs = lx zs k out) ∧ Below w.heap.size w wr) (fun _ a _ => n - (intOf a).toNat)
  case atStart => exact ⟨0, 0, 0, none, [], by omega, by omega, rfl, rfl, rfl, World.ownsRow_nil _ _ _ _, HR0, Below.refl _ _⟩
  case round =>
    obtain ⟨k, m, c, ao, out, hk, hmk, rfl, rfl, HO, hown, HR, hbel⟩ := hrel
    by_cases hlt : k < n
    · have HCW : Hid (∀ i, i < n → wr.cell? ⟨g, i, none⟩ = some (.int .u8 (zs.getD i 0))) := fun i hi => (hbel.cell (p := ⟨g, i, none⟩) hgw).trans (HC.out i (by rw [HL.out]; exact hi))
      have hc := HCW.out k hlt
      obtain ⟨z, hz⟩ : ∃ z, z = zs.getD k 0 := ⟨_, rfl⟩
      rw [← hz] at hc
      have HZ : Hid (zs.getD k 0 = z) := hz.symm
      have HI : Hid (k < zs.length) := by show _ < _; rw [HL.out]; exact hlt
      clear hz
      by_cases hbl : z = 32 ∨ z = 9 ∨ z = 13 ∨ z = 10
      · have HE : Hid (lexR zs = lx zs (k + 1) out) := by show _ = _; rw [HR.out, lx_blank HI.out (by rw [HZ.out]; exact blank_yes hbl)]
        rcases hbl with rfl | rfl | rfl | rfl
        all_goals
          go_wp2
          go_roundw
          case rel => exact ⟨k + 1, m, c, ao, out, by omega, by omega, by go_num, rfl, HO, hown, HE, hbel⟩
          case measure => simp [intOf]; omega
      · have HNB : Hid (blank (zs.getD k 0) = false) := by show _ = _; rw [HZ.out]; exact blank_no hbl
        have e32 : (z == 32) = false := by simp; omega
        have e9 : (z == 9) = false := by simp; omega
        have e13 : (z == 13) = false := by simp; omega
        have e10 : (z == 10) = false := by simp; omega
        have n10 : ¬ z = 10 := by omega
        clear hbl
        by_cases hcm : z = 45 ∧ k + 1 < n ∧ zs.getD (k + 1) 0 = 45
        · obtain ⟨rfl, h1, h2⟩ := hcm
          have HE : Hid (lexR zs = lx zs (k + span notLf zs k) out) := by show _ = _; rw [HR.out, lx_comment HI.out HNB.out ⟨HZ.out, by rw [HL.out]; exact h1, h2⟩]
          have HST : Hid (span notLf zs k = span notLf zs (k + 1) + 1) := span_step HI.out (by rw [HZ.out]; rfl)
          have hc1 := HCW.out (k + 1) h1
          rw [h2] at hc1
          clear h2
          have HOW : Hid (wr.ownsRow w.heap.size 28 3 (.slice ao m c) m (tcells out)) := hown
          have HBL : Hid (Below w.heap.size w wr) := hbel
          clear hown hbel
          go_wp2
          go_loop [6] (fun q => ∃ (j : Nat), k ≤ j ∧ j ≤ n ∧ q = .int .i64 j ∧ Hid (k + span notLf zs k = j + span notLf zs j)) (fun q => n - (intOf q).toNat)
          case atStart => exact ⟨k, Nat.le_refl _, by omega, rfl, rfl⟩
          case round =>
            obtain ⟨j, hj1, hj2, rfl, HJ⟩ := hrel
            by_cases hjl : j < n
            · have hcj := HCW.out j hjl
              obtain ⟨y, hy⟩ : ∃ y, y = zs.getD j 0 := ⟨_, rfl⟩
              rw [← hy] at hcj
              have HY : Hid (zs.getD j 0 = y) := hy.symm
              have HJL : Hid (j < zs.length) := by show _ < _; rw [HL.out]; exact hjl
              clear hy
              by_cases hy10 : y = 10
              · subst hy10
                have HJE : Hid (k + span notLf zs k = j) := by show _ = _; rw [HJ.out, span_stop (by rw [HY.out]; rfl)]; rfl
                have HJK : Hid (k < j) := by have := HJE.out; have := HST.out; show _ < _; omega
                have hkj : k < j := HJK.out
                go_wp2
                go_roundw
                case rel => exact ⟨j, m, c, ao, out, by omega, by omega, rfl, rfl, HO, HOW.out, by rw [← HJE.out]; exact HE, HBL.out⟩
                case measure => simp [intOf]; omega
              · have ey : (y != 10) = true := bne_iff_ne.mpr hy10
                have HJE : Hid (k + span notLf zs k = (j + 1) + span notLf zs (j + 1)) := by show _ = _; rw [HJ.out, span_step HJL.out (by rw [HY.out]; exact ey)]; omega
                go_wp2
                go_round
                case rel => exact ⟨j + 1, by omega, by omega, by go_num, HJE⟩
                case measure => simp [intOf]; omega
            · have HJE : Hid (k + span notLf zs k = j) := by show _ = _; rw [HJ.out, span_end (by rw [HL.out]; omega)]; rfl
              have hkj : k < j := by omega
              have hd : decide ((j : Int) < (n : Int)) = false := by simp; omega
              go_wp2
              go_roundw
              case rel => exact ⟨j, m, c, ao, out, by omega, by omega, rfl, rfl, HO, HOW.out, by rw [← HJE.out]; exact HE, HBL.out⟩
              case measure => simp [intOf]; omega
        · have HNC : Hid (¬ (zs.getD k 0 = 45 ∧ k + 1 < zs.length ∧ zs.getD (k + 1) 0 = 45)) := by show ¬ _; rw [HZ.out, HL.out]; exact hcm
          have TK := tok_any g cap k zs wr HB.out (fun i hi => HCW.out i (by rw [← HL.out]; exact hi)) ⟨hm, by rw [HL.out]; omega⟩ (by rw [HL.out]; exact hcap) HI.out
          rw [HL.out] at TK
          have HF : Hid ((tokK zs k).2.2 = 0 → 1 ≤ (tokK zs k).2.1 ∧ k + (tokK zs k).2.1 ≤ n) := by
            intro h; have := tok_fits HB.out HI.out h; rw [HL.out] at this; exact this
          obtain ⟨⟨kind, q, code⟩, hT⟩ : ∃ p, p = tokK zs k := ⟨_, rfl⟩
          replace hT := hT.symm
          unfold TokPost at TK
          rw [hT] at TK HF
          have HT : Hid (tokK zs k = (kind, q, code)) := hT
          have hgB : ∀ k, (Value.slice ao m c).ownBlock = some k → w.heap.size ≤ k := fun k hk => (hown.lt k hk).1
          have hBs := hbel.size
          have HOW : Hid (wr.ownsRow w.heap.size 28 3 (.slice ao m c) m (tcells out)) := hown
          have HBL : Hid (Below w.heap.size w wr) := hbel
          -- the ways by which the test on a comment says no
          have hways : ¬ z = 45 ∨ (z = 45 ∧ n ≤ k + 1) ∨ (z = 45 ∧ k + 1 < n ∧ ¬ zs.getD (k + 1) 0 = 45) := by
            by_cases a : z = 45
            · by_cases b : k + 1 < n
              · exact .inr (.inr ⟨a, b, fun h => hcm ⟨a, b, h⟩⟩)
              · exact .inr (.inl ⟨a, by omega⟩)
            · exact .inl a
          clear hcm hT hown hbel
          rcases hways with h45 | ⟨rfl, h1⟩ | ⟨rfl, h1, h2⟩
          · have e45 : (z == 45) = false := by simp; omega
            go_wp2_with fail
            refine TK.mono ?_
            rintro x w1 ⟨rfl, hb1⟩
            clear TK
            have hs1 := hb1.size
            have hown1 : w1.ownsRow w.heap.size 28 3 (.slice ao m c) m (tcells out) := own_belowT HOW.out hb1 (fun g h => (HOW.out.lt g h).2)
            have HB1 : Hid (Below w.heap.size w w1) := HBL.out.trans (hb1.mono HBL.out.size)
            clear hb1
            by_cases h0 : code = 0
            · subst h0
              have hf := HF.out rfl
              obtain ⟨hf1, hf2⟩ := hf
              have HE : Hid (lexR zs = lx zs (k + q) (out ++ [(kind, k, q)])) := by
                show _ = _
                rw [HR.out, lx_tok HI.out HNB.out HNC.out (by rw [HT.out]) (by rw [HT.out]; exact hf1), HT.out]
              have hbu : ∀ w : World, (Instr.build 28 #[(0, .int .i64 kind), (1, .int .i64 (k : Int)), (2, .int .i64 (q : Int))]).run Try.prog w = .ok (.agg #[.int .i64 kind, .int .i64 (k : Int), .int .i64 (q : Int)]) w := fun _ => by kernel_rfl
              have hmb : m ≤ 6000 := by omega
              go_wp2_with (at_builtin; refine wpList_append_lies _ rfl _ _ _ rfl w.heap.size 28 i0 (.agg #[.int .i64 0, .int .i64 0, .int .i64 0]) 3 24 Try.underlying24 hi hz0 hz1 hz2 rfl (by omega) _ m (tcells out) rfl (hown1.alloc _) ⟨w1.heap.size, 0, none⟩ 1 1 [.int .i64 kind, .int .i64 (k : Int), .int .i64 (q : Int)] rfl rfl (World.news_of_block (cs := #[.int .i64 kind, .int .i64 (k : Int), .int .i64 (q : Int)]) (t := 28) (fr := (0, 0)) (heap_alloc_new w1 _)) (by simp [Value.oneCell']) (by omega) (by unfold maxLen; omega) (by omega) (by simp; omega) (w1.heap.size + 1) (by simp) ?_; intro g' cap' w2 hown2 hgrow hat hlt2)
              go_roundw
              case rel => exact ⟨k + q, m + 1, cap', some ⟨g', 0, none⟩, out ++ [(kind, k, q)], by omega, by omega, by go_num, rfl, by show _ = _; rw [List.length_append, HO.out]; rfl, by rw [tcells_snoc]; exact hown2, HE, (HB1.out.alloc (by omega) _).grown hgrow (by simp; omega) hgB⟩
              case measure => simp [intOf]; omega
            · have HE : Hid (lexR zs = ([], code, (k : Int))) := by
                show _ = _
                rw [HR.out, lx_bad HI.out HNB.out HNC.out (by rw [HT.out]; exact h0), HT.out]
              have hne : (code != 0) = true := bne_iff_ne.mpr h0
              go_wp2
              go_ret3
              rw [HP.out]
              exact lex_post HE.out rfl HB1.out (World.ownsRow_nil _ _ _ _)
          · have hd : decide (((k : Int) + 1) < (n : Int)) = false := by simp; omega
            go_wp2_with fail
            refine TK.mono ?_
            rintro x w1 ⟨rfl, hb1⟩
            clear TK
            have hs1 := hb1.size
            have hown1 : w1.ownsRow w.heap.size 28 3 (.slice ao m c) m (tcells out) := own_belowT HOW.out hb1 (fun g h => (HOW.out.lt g h).2)
            have HB1 : Hid (Below w.heap.size w w1) := HBL.out.trans (hb1.mono HBL.out.size)
            clear hb1
            by_cases h0 : code = 0
            · subst h0
              have hf := HF.out rfl
              obtain ⟨hf1, hf2⟩ := hf
              have HE : Hid (lexR zs = lx zs (k + q) (out ++ [(kind, k, q)])) := by
                show _ = _
                rw [HR.out, lx_tok HI.out HNB.out HNC.out (by rw [HT.out]) (by rw [HT.out]; exact hf1), HT.out]
              have hbu : ∀ w : World, (Instr.build 28 #[(0, .int .i64 kind), (1, .int .i64 (k : Int)), (2, .int .i64 (q : Int))]).run Try.prog w = .ok (.agg #[.int .i64 kind, .int .i64 (k : Int), .int .i64 (q : Int)]) w := fun _ => by kernel_rfl
              have hmb : m ≤ 6000 := by omega
              go_wp2_with (at_builtin; refine wpList_append_lies _ rfl _ _ _ rfl w.heap.size 28 i0 (.agg #[.int .i64 0, .int .i64 0, .int .i64 0]) 3 24 Try.underlying24 hi hz0 hz1 hz2 rfl (by omega) _ m (tcells out) rfl (hown1.alloc _) ⟨w1.heap.size, 0, none⟩ 1 1 [.int .i64 kind, .int .i64 (k : Int), .int .i64 (q : Int)] rfl rfl (World.news_of_block (cs := #[.int .i64 kind, .int .i64 (k : Int), .int .i64 (q : Int)]) (t := 28) (fr := (0, 0)) (heap_alloc_new w1 _)) (by simp [Value.oneCell']) (by omega) (by unfold maxLen; omega) (by omega) (by simp; omega) (w1.heap.size + 1) (by simp) ?_; intro g' cap' w2 hown2 hgrow hat hlt2)
              go_roundw
              case rel => exact ⟨k + q, m + 1, cap', some ⟨g', 0, none⟩, out ++ [(kind, k, q)], by omega, by omega, by go_num, rfl, by show _ = _; rw [List.length_append, HO.out]; rfl, by rw [tcells_snoc]; exact hown2, HE, (HB1.out.alloc (by omega) _).grown hgrow (by simp; omega) hgB⟩
              case measure => simp [intOf]; omega
            · have HE : Hid (lexR zs = ([], code, (k : Int))) := by
                show _ = _
                rw [HR.out, lx_bad HI.out HNB.out HNC.out (by rw [HT.out]; exact h0), HT.out]
              have hne : (code != 0) = true := bne_iff_ne.mpr h0
              go_wp2
              go_ret3
              rw [HP.out]
              exact lex_post HE.out rfl HB1.out (World.ownsRow_nil _ _ _ _)
          · have hc1 := HCW.out (k + 1) h1
            obtain ⟨y, hy⟩ : ∃ y, y = zs.getD (k + 1) 0 := ⟨_, rfl⟩
            rw [← hy] at hc1 h2
            have e45 : (y == 45) = false := by simp; omega
            clear hy
            go_wp2_with fail
            refine TK.mono ?_
            rintro x w1 ⟨rfl, hb1⟩
            clear TK
            have hs1 := hb1.size
            have hown1 : w1.ownsRow w.heap.size 28 3 (.slice ao m c) m (tcells out) := own_belowT HOW.out hb1 (fun g h => (HOW.out.lt g h).2)
            have HB1 : Hid (Below w.heap.size w w1) := HBL.out.trans (hb1.mono HBL.out.size)
            clear hb1
            by_cases h0 : code = 0
            · subst h0
              have hf := HF.out rfl
              obtain ⟨hf1, hf2⟩ := hf
              have HE : Hid (lexR zs = lx zs (k + q) (out ++ [(kind, k, q)])) := by
                show _ = _
                rw [HR.out, lx_tok HI.out HNB.out HNC.out (by rw [HT.out]) (by rw [HT.out]; exact hf1), HT.out]
              have hbu : ∀ w : World, (Instr.build 28 #[(0, .int .i64 kind), (1, .int .i64 (k : Int)), (2, .int .i64 (q : Int))]).run Try.prog w = .ok (.agg #[.int .i64 kind, .int .i64 (k : Int), .int .i64 (q : Int)]) w := fun _ => by kernel_rfl
              have hmb : m ≤ 6000 := by omega
              go_wp2_with (at_builtin; refine wpList_append_lies _ rfl _ _ _ rfl w.heap.size 28 i0 (.agg #[.int .i64 0, .int .i64 0, .int .i64 0]) 3 24 Try.underlying24 hi hz0 hz1 hz2 rfl (by omega) _ m (tcells out) rfl (hown1.alloc _) ⟨w1.heap.size, 0, none⟩ 1 1 [.int .i64 kind, .int .i64 (k : Int), .int .i64 (q : Int)] rfl rfl (World.news_of_block (cs := #[.int .i64 kind, .int .i64 (k : Int), .int .i64 (q : Int)]) (t := 28) (fr := (0, 0)) (heap_alloc_new w1 _)) (by simp [Value.oneCell']) (by omega) (by unfold maxLen; omega) (by omega) (by simp; omega) (w1.heap.size + 1) (by simp) ?_; intro g' cap' w2 hown2 hgrow hat hlt2)
              go_roundw
              case rel => exact ⟨k + q, m + 1, cap', some ⟨g', 0, none⟩, out ++ [(kind, k, q)], by omega, by omega, by go_num, rfl, by show _ = _; rw [List.length_append, HO.out]; rfl, by rw [tcells_snoc]; exact hown2, HE, (HB1.out.alloc (by omega) _).grown hgrow (by simp; omega) hgB⟩
              case measure => simp [intOf]; omega
            · have HE : Hid (lexR zs = ([], code, (k : Int))) := by
                show _ = _
                rw [HR.out, lx_bad HI.out HNB.out HNC.out (by rw [HT.out]; exact h0), HT.out]
              have hne : (code != 0) = true := bne_iff_ne.mpr h0
              go_wp2
              go_ret3
              rw [HP.out]
              exact lex_post HE.out rfl HB1.out (World.ownsRow_nil _ _ _ _)
    · have HE : Hid (lexR zs = (out, 0, 0)) := by show _ = _; rw [HR.out, lx_end (by rw [HL.out]; exact hlt)]
      go_wp2
      go_ret3
      rw [HP.out]
      exact lex_post HE.out HO.out hbel hown
theorem specLex_big (ao : Option Addr) (cap : Nat) (zs : List Int) (w : World) (h6 : 6000 < zs.length) :
    Calls Try.prog 5 #[.slice ao zs.length cap] w (LexPost zs (lexR zs).1.length w) := by
  have HE : Hid (lexR zs = ([], 4, 6000)) := by show _ = _; unfold lexR; rw [if_pos h6]
  obtain ⟨n, hnn⟩ : ∃ n, n = zs.length := ⟨_, rfl⟩
  obtain ⟨P, hP⟩ : ∃ P, P = LexPost zs (lexR zs).1.length w := ⟨_, rfl⟩
  rw [← hP]
  rw [← hnn] at h6 ⊢
  have HP : Hid (P = LexPost zs (lexR zs).1.length w) := hP
  clear hP hnn
  go_enter Try.func5, Try.ntmps5
  go_wp2
  go_ret3
  rw [HP.out]
  exact lex_post HE.out rfl (Below.refl _ _) (World.ownsRow_nil _ _ _ _)
theorem specLex_nil (ao : Option Addr) (cap : Nat) (w : World) :
    Calls Try.prog 5 #[.slice ao 0 cap] w (LexPost [] (lexR []).1.length w) := by
  have HE : Hid (lexR [] = ([], 0, 0)) := by show _ = _; unfold lexR; rw [if_neg (by decide), lx_end (by decide)]
  obtain ⟨P, hP⟩ : ∃ P, P = LexPost [] (lexR []).1.length w := ⟨_, rfl⟩
  rw [← hP]
  have HP : Hid (P = LexPost [] (lexR []).1.length w) := hP
  clear hP
  go_enter Try.func5, Try.ntmps5
  go_wp2
  refine wp_loop_rounds 1 ?_
  rw [rounds_succ]
  go_wp2
  go_ret3
  rw [HP.out]
  exact lex_post HE.out rfl (Below.refl _ _) (World.ownsRow_nil _ _ _ _)
theorem specLex_any (g cap : Nat) (zs : List Int) (w : World) (hb : Bts zs) (hr : Rd w (some ⟨g, 0, none⟩) zs) (hm : cap ≤ 9223372036854775807) (hcap : zs.length ≤ cap) :
    Calls Try.prog 5 #[.slice (some ⟨g, 0, none⟩) zs.length cap] w (LexPost zs (lexR zs).1.length w) := by
  by_cases h6 : 6000 < zs.length
  · exact specLex_big _ cap zs w h6
  · by_cases h0 : 0 < zs.length
    · obtain ⟨b, off, e, hbw, hcell⟩ := hr.at h0
      simp only [Option.some.injEq, Addr.mk.injEq, and_true] at e
      obtain ⟨rfl, rfl⟩ := e
      exact specLex_small g cap zs w hb (fun i hi => by have := hcell i hi; rwa [Nat.zero_add] at this) hbw hm hcap (by omega)
    · have : zs = [] := List.eq_nil_of_length_eq_zero (by omega)
      subst this
      exact specLex_nil _ cap w
end Go.Proofs.Ytepbddfpdlapbaa.lex
