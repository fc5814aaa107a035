import Derived.Test.YtdffdkaligkkbaaLexWord
import Derived.Test.YtdffdkaligkkbaaScanMore
import Derived.Test.YtdffdkaligkkbaaUnqWalks
import Derived.BigQuiet
import Derived.Deep.QuietTactic
namespace Go.Proofs.Ytdffdkaligkkbaa.lex
open Go.RowKit Go.Proofs.Ytdffdkaligkkbaa.bts Go.Proofs.Ytdffdkaligkkbaa.scn Go.Proofs.Ytdffdkaligkkbaa.lit

/-- What is answered of a token. -/
def TokPost (zs : List Int) (k : Nat) (w : World) (e : Ending) (w' : World) : Prop :=
  e = .returned (.tuple #[.int .i64 (tokK zs k).1, .int .i64 ((tokK zs k).2.1 : Nat), .int .i64 (tokK zs k).2.2]) ∧ Below w.heap.size w w'

theorem tok_post {zs : List Int} {k : Nat} {w w' : World} {a b c : Int} {m : Nat} (h : tokK zs k = (a, m, c)) (hm : b = (m : Int)) (hb : Below w.heap.size w w') : TokPost zs k w (.returned (.tuple #[.int .i64 a, .int .i64 b, .int .i64 c])) w' := by
  unfold TokPost; rw [h, hm]; exact ⟨rfl, hb⟩

theorem conv_part (g k n cap : Nat) (zs : List Int) (w : World) (hcell : ∀ i, i < zs.length → w.cell? ⟨g, i, none⟩ = some (.int .u8 (zs.getD i 0))) (h : k + n ≤ zs.length) :
    (convert 25 9 (.slice (some ⟨g, k, none⟩) n cap)).run Try.prog w = .ok (.string (strOfNums (part zs k n))) w :=
  run_convert_bytes_arg w 25 5 Try.underlying25 Try.underlying5 g k n cap (part zs k n) (part_len h) (fun i hi => by rw [part_getD hi]; exact hcell (k + i) (by omega)) 9 Try.underlying9

set_option maxHeartbeats 2000000 in
theorem tok_letter (g cap k : Nat) (zs : List Int) (w : World) (hb : Bts zs) (hcell : ∀ i, i < zs.length → w.cell? ⟨g, i, none⟩ = some (.int .u8 (zs.getD i 0))) (hm : cap ≤ 1048576) (hcap : zs.length ≤ cap) (hk : k < zs.length) (hl : letter (zs.getD k 0) = true) :
    Calls Try.prog 34 #[.slice (some ⟨g, 0, none⟩) zs.length cap, .int .i64 k] w (TokPost zs k w) := by
  have R := l2run_any g 0 cap k zs w hb (by simpa using hcell) (by omega) (by omega)
  have hsp := span_step (p := alnum) hk (by unfold alnum; rw [hl]; rfl)
  have hle := span_le alnum zs k
  have hc0 := hcell k hk
  have hbz := hb k
  have CV := conv_part g k (span alnum zs k) (cap - k) zs w hcell (by omega)
  have T : tokK zs k = (if isIn words (strOfNums (part zs k (span alnum zs k))) then (4, span alnum zs k, 0) else (1, span alnum zs k, 0)) := by unfold tokK; rw [if_pos hl]
  obtain ⟨z, hz⟩ : ∃ z, z = zs.getD k 0 := ⟨_, rfl⟩
  obtain ⟨m, hmm⟩ : ∃ m, m = span alnum zs k := ⟨_, rfl⟩
  obtain ⟨s, hs⟩ : ∃ s, s = strOfNums (part zs k (span alnum zs k)) := ⟨_, rfl⟩
  rw [← hs] at CV T
  rw [← hmm] at R hsp hle CV T
  rw [← hz] at hc0 hbz hl
  obtain ⟨n, hnn⟩ : ∃ n, n = zs.length := ⟨_, rfl⟩
  rw [← hnn] at hcap hk hle R ⊢
  have hm1 : 1 ≤ m := by omega
  have hm2 : k + m ≤ n := by omega
  obtain ⟨z0, z1⟩ := hbz
  have HT : Hid (tokK zs k = (if isIn words s then (4, m, 0) else (1, m, 0))) := T
  clear hsp hle hcell hb hz hmm hs hnn T
  have LT := letter_any z z0 z1 w
  rw [hl] at LT
  go_enter Try.func34, Try.ntmps34
  go_wp2_with fail
  refine R.mono ?_
  rintro e w' ⟨rfl, hw⟩
  replace hw := hw.symm
  subst hw
  clear R
  go_wp2_with fail
  refine LT.mono ?_
  rintro e w' ⟨rfl, hw⟩
  replace hw := hw.symm
  subst hw
  clear LT
  go_wp2_with fail
  refine (isWord_any s w).mono ?_
  rintro e w1 ⟨rfl, o, rfl⟩
  clear CV
  by_cases hi : isIn words s = true
  · rw [hi]
    go_wp2
    go_ret3
    exact tok_post (by rw [HT.out, if_pos hi]) rfl ((Below.refl _ _).alloc (Nat.le_refl _) _)
  · have hi' : isIn words s = false := by simpa using hi
    rw [hi']
    go_wp2
    go_ret3
    exact tok_post (by rw [HT.out, if_neg hi]) rfl ((Below.refl _ _).alloc (Nat.le_refl _) _)
set_option maxHeartbeats 2000000 in
theorem tok_digit (g cap k : Nat) (zs : List Int) (w : World) (hb : Bts zs) (hcell : ∀ i, i < zs.length → w.cell? ⟨g, i, none⟩ = some (.int .u8 (zs.getD i 0))) (hm : cap ≤ 1048576) (hcap : zs.length ≤ cap) (hk : k < zs.length) (hl : letter (zs.getD k 0) = false) (hd : digit (zs.getD k 0) = true) :
    Calls Try.prog 34 #[.slice (some ⟨g, 0, none⟩) zs.length cap, .int .i64 k] w (TokPost zs k w) := by
  have R := l2run_any g 0 cap k zs w hb (by simpa using hcell) (by omega) (by omega)
  have hsp := span_step (p := alnum) hk (by unfold alnum; rw [hl, hd]; rfl)
  have hle := span_le alnum zs k
  have hc0 := hcell k hk
  have hbz := hb k
  have SC := (scan_any g k (cap - k) (part zs k (span alnum zs k)) (part_bts hb _ _) w (fun i hi => by
    rw [part_len (by omega)] at hi
    exact ⟨g, k, rfl, by rw [part_getD hi]; exact hcell (k + i) (by omega)⟩) (by rw [part_len (by omega)]; omega) (by omega)).1
  rw [part_len (by omega)] at SC
  have T : tokK zs k = (2, span alnum zs k, (scan (part zs k (span alnum zs k))).2) := by unfold tokK; rw [if_neg (by rw [hl]; decide), if_pos hd]
  obtain ⟨z, hz⟩ : ∃ z, z = zs.getD k 0 := ⟨_, rfl⟩
  obtain ⟨m, hmm⟩ : ∃ m, m = span alnum zs k := ⟨_, rfl⟩
  obtain ⟨p, hp⟩ : ∃ p, p = scan (part zs k (span alnum zs k)) := ⟨_, rfl⟩
  rw [← hp] at SC T
  rw [← hmm] at R hsp hle SC T
  rw [← hz] at hc0 hbz hl hd
  obtain ⟨n, hnn⟩ : ∃ n, n = zs.length := ⟨_, rfl⟩
  rw [← hnn] at hcap hk hle R ⊢
  have hm1 : 1 ≤ m := by omega
  have hm2 : k + m ≤ n := by omega
  obtain ⟨z0, z1⟩ := hbz
  obtain ⟨p1, p2⟩ := p
  have HT : Hid (tokK zs k = (2, m, p2)) := T
  clear hsp hle hcell hb hz hmm hp hnn T
  have LT := letter_any z z0 z1 w
  have DT := digit_any2 z z0 z1 w
  rw [hl] at LT
  rw [hd] at DT
  go_enter Try.func34, Try.ntmps34
  go_wp2_with fail
  refine R.mono ?_
  rintro e w' ⟨rfl, hw⟩
  replace hw := hw.symm
  subst hw
  clear R
  go_wp2_with fail
  refine LT.mono ?_
  rintro e w' ⟨rfl, hw⟩
  replace hw := hw.symm
  subst hw
  clear LT
  go_wp2_with fail
  refine DT.mono ?_
  rintro e w' ⟨rfl, hw⟩
  replace hw := hw.symm
  subst hw
  clear DT
  go_wp2_with fail
  refine SC.mono ?_
  rintro e w' ⟨rfl, hw⟩
  replace hw := hw.symm
  subst hw
  clear SC
  go_wp2_with fail
  go_ret3
  exact tok_post HT.out rfl (Below.refl _ _)

set_option maxHeartbeats 2000000 in
theorem tok_quote (g cap k : Nat) (zs : List Int) (w : World) (hb : Bts zs) (hcell : ∀ i, i < zs.length → w.cell? ⟨g, i, none⟩ = some (.int .u8 (zs.getD i 0))) (hm : cap ≤ 1048576) (hcap : zs.length ≤ cap) (hk : k < zs.length) (hl : letter (zs.getD k 0) = false) (hd : digit (zs.getD k 0) = false) (hq : zs.getD k 0 = 34 ∨ zs.getD k 0 = 39) :
    Calls Try.prog 34 #[.slice (some ⟨g, 0, none⟩) zs.length cap, .int .i64 k] w (TokPost zs k w) := by
  have R := l2run_any g 0 cap k zs w hb (by simpa using hcell) (by omega) (by omega)
  have hle := span_le alnum zs k
  have hc0 := hcell k hk
  have hbz := hb k
  have SL := specLit_any g cap k zs w hb (fun i hi => ⟨g, 0, rfl, by rw [Nat.zero_add]; exact hcell i hi⟩) (by omega) (by omega)
  have T : tokK zs k = ofLit k (litAt zs k) := by unfold tokK; rw [if_neg (by rw [hl]; decide), if_neg (by rw [hd]; decide), if_pos hq]
  have HFit : Hid (∀ t e, litAt zs k = some (t, e) → k + 1 ≤ e ∧ e ≤ zs.length) := by
    intro t e h
    unfold litAt at h
    rw [if_pos ⟨hk, hq⟩] at h
    have := rl_fits hb zs.length (k + 1) [] t e (by omega) h (by simp)
    omega
  obtain ⟨z, hz⟩ : ∃ z, z = zs.getD k 0 := ⟨_, rfl⟩
  obtain ⟨m, hmm⟩ : ∃ m, m = span alnum zs k := ⟨_, rfl⟩
  rw [← hmm] at R hle
  rw [← hz] at hc0 hbz hl hd hq
  obtain ⟨n, hnn⟩ : ∃ n, n = zs.length := ⟨_, rfl⟩
  rw [← hnn] at hcap hk hle R SL HFit ⊢
  obtain ⟨z0, z1⟩ := hbz
  have HT : Hid (tokK zs k = ofLit k (litAt zs k)) := T
  clear hle hcell hb hz hmm hnn T
  have LT := letter_any z z0 z1 w
  have DT := digit_any2 z z0 z1 w
  rw [hl] at LT
  rw [hd] at DT
  rcases hq with rfl | rfl
  all_goals
    go_enter Try.func34, Try.ntmps34
    go_wp2_with fail
    refine R.mono ?_
    rintro e w' ⟨rfl, hw⟩
    replace hw := hw.symm
    subst hw
    clear R
    go_wp2_with fail
    refine LT.mono ?_
    rintro e w' ⟨rfl, hw⟩
    replace hw := hw.symm
    subst hw
    clear LT
    go_wp2_with fail
    refine DT.mono ?_
    rintro e w' ⟨rfl, hw⟩
    replace hw := hw.symm
    subst hw
    clear DT
    go_wp2_with fail
    refine SL.mono ?_
    rintro x w1 ⟨hbel, hor⟩
    clear SL
    have HBel : Hid (Below w.heap.size w w1) := hbel
    clear hbel
    rcases hor with ⟨hn, rfl⟩ | ⟨t, e, ao, c, hs, rfl, hown⟩
    · have HT2 : Hid (tokK zs k = (0, 0, 2)) := by show _ = _; rw [HT.out, hn]; rfl
      clear hn HT
      go_wp2
      go_ret3
      exact tok_post HT2.out rfl HBel.out
    · have hf := HFit.out t e hs
      have HT2 : Hid (tokK zs k = (3, e - k, 0)) := by show _ = _; rw [HT.out, hs]; rfl
      have he0 : (((e : Int) - (k : Int)) == 0) = false := by simp; omega
      clear hs HT hown
      go_wp2
      go_ret3
      exact tok_post HT2.out (by omega) HBel.out

theorem signLen_step {zs : List Int} {k : Nat} {l : List ByteArray} {j : Nat} (h : j < l.length) (hs : stands zs k (l.getD j ByteArray.empty) = false) : signLen zs k (l.drop j) = signLen zs k (l.drop (j + 1)) := by
  rw [List.drop_eq_getElem_cons h]
  have e : l.getD j ByteArray.empty = l[j] := by simp [List.getD_eq_getElem?_getD, List.getElem?_eq_getElem h]
  rw [e] at hs
  rw [signLen, if_neg (by rw [hs]; decide)]
theorem signLen_hit {zs : List Int} {k : Nat} {l : List ByteArray} {j : Nat} (h : j < l.length) (hs : stands zs k (l.getD j ByteArray.empty) = true) : signLen zs k (l.drop j) = some (l.getD j ByteArray.empty).size := by
  rw [List.drop_eq_getElem_cons h]
  have e : l.getD j ByteArray.empty = l[j] := by simp [List.getD_eq_getElem?_getD, List.getElem?_eq_getElem h]
  rw [e] at hs ⊢
  rw [signLen, if_pos hs]
theorem signs_size (j : Nat) (h : j < 22) : 1 ≤ (signs.getD j ByteArray.empty).size ∧ (signs.getD j ByteArray.empty).size ≤ 2 := by
  match j, h with
  | 0, _ | 1, _ | 2, _ | 3, _ | 4, _ | 5, _ | 6, _ | 7, _ | 8, _ | 9, _ | 10, _ | 11, _ | 12, _ | 13, _ | 14, _ | 15, _ | 16, _ | 17, _ | 18, _ | 19, _ | 20, _ | 21, _ => decide
  | k + 22, h => omega

set_option maxHeartbeats 4000000 in
theorem tok_sign (g cap k : Nat) (zs : List Int) (w : World) (hb : Bts zs) (hcell : ∀ i, i < zs.length → w.cell? ⟨g, i, none⟩ = some (.int .u8 (zs.getD i 0))) (hm : cap ≤ 1048576) (hcap : zs.length ≤ cap) (hk : k < zs.length) (hl : letter (zs.getD k 0) = false) (hd : digit (zs.getD k 0) = false) (hq : ¬ (zs.getD k 0 = 34 ∨ zs.getD k 0 = 39)) :
    Calls Try.prog 34 #[.slice (some ⟨g, 0, none⟩) zs.length cap, .int .i64 k] w (TokPost zs k w) := by
  have R := l2run_any g 0 cap k zs w hb (by simpa using hcell) (by omega) (by omega)
  have hle := span_le alnum zs k
  have hc0 := hcell k hk
  have hbz := hb k
  have hgw := World.block_lt_of_cell? _ _ hc0
  have T : tokK zs k = ofSign (signLen zs k signs) := by unfold tokK; rw [if_neg (by rw [hl]; decide), if_neg (by rw [hd]; decide), if_neg hq]
  have SG := signs_any w
  have HSC0 := signs_cell w
  generalize hO : (Obj.cells #[.string { data := #[61, 61] }, .string { data := #[126, 61] }, .string { data := #[60, 61] }, .string { data := #[62, 61] }, .string { data := #[47, 47] }, .string { data := #[46, 46] }, .string { data := #[43] }, .string { data := #[45] }, .string { data := #[42] }, .string { data := #[37] }, .string { data := #[60] }, .string { data := #[62] }, .string { data := #[61] }, .string { data := #[40] }, .string { data := #[41] }, .string { data := #[123] }, .string { data := #[125] }, .string { data := #[91] }, .string { data := #[93] }, .string { data := #[59] }, .string { data := #[44] }, .string { data := #[46] }] 9) = O at SG HSC0
  clear hO
  have HSC : Hid (∀ j, j < 22 → (w.alloc O).cell? ⟨w.heap.size, j, none⟩ = some (.string (signs.getD j ByteArray.empty))) := HSC0
  have HCV : Hid (∀ (d m : Nat), k + m ≤ zs.length → (convert 25 9 (.slice (some ⟨g, k, none⟩) m (cap - k))).run Try.prog ((w.alloc O).drewN d) = .ok (.string (strOfNums (part zs k m))) ((w.alloc O).drewN d)) := by
    intro d m h
    refine conv_part g k m (cap - k) zs _ (fun i hi => ?_) h
    exact (((Below.refl w.heap.size w).alloc (Nat.le_refl _) O).cell (p := ⟨g, i, none⟩) hgw).trans (hcell i hi)
  obtain ⟨z, hz⟩ : ∃ z, z = zs.getD k 0 := ⟨_, rfl⟩
  obtain ⟨m, hmm⟩ : ∃ m, m = span alnum zs k := ⟨_, rfl⟩
  rw [← hmm] at R hle
  rw [← hz] at hc0 hbz hl hd hq
  obtain ⟨n, hnn⟩ : ∃ n, n = zs.length := ⟨_, rfl⟩
  have HL : Hid (zs.length = n) := hnn.symm
  rw [← hnn] at hcap hk hle R HCV ⊢
  obtain ⟨z0, z1⟩ := hbz
  have HT : Hid (tokK zs k = ofSign (signLen zs k signs)) := T
  clear hle hcell hb hz hmm hnn T HSC0
  have LT := letter_any z z0 z1 w
  have DT := digit_any2 z z0 z1 w
  rw [hl] at LT
  rw [hd] at DT
  have q1 : (z == 34) = false := by simp; omega
  have q2 : (z == 39) = false := by simp; omega
  clear hq
  go_enter Try.func34, Try.ntmps34
  go_wp2_with fail
  refine R.mono ?_
  rintro e w' ⟨rfl, hw⟩
  replace hw := hw.symm
  subst hw
  clear R
  go_wp2_with fail
  refine LT.mono ?_
  rintro e w' ⟨rfl, hw⟩
  replace hw := hw.symm
  subst hw
  clear LT
  go_wp2_with fail
  refine DT.mono ?_
  rintro e w' ⟨rfl, hw⟩
  replace hw := hw.symm
  subst hw
  clear DT
  go_wp2_with fail
  refine SG.mono ?_
  rintro e w1 ⟨rfl, rfl⟩
  clear SG
  go_wp2
  go_loopw [14] (fun q wr => ∃ (j d : Nat), j ≤ 22 ∧ q = .int .i64 j ∧ wr = (w.alloc O).drewN d ∧ Hid (signLen zs k signs = signLen zs k (signs.drop j))) (fun q _ => 22 - (intOf q).toNat)
  case atStart => exact ⟨0, 0, by omega, rfl, rfl, rfl⟩
  case round =>
    obtain ⟨j, d, hj, rfl, rfl, HR⟩ := hrel
    by_cases hlt : j < 22
    · have hc := HSC.out j hlt
      have hsz := signs_size j hlt
      obtain ⟨x, hx⟩ : ∃ x, x = signs.getD j ByteArray.empty := ⟨_, rfl⟩
      rw [← hx] at hc hsz
      have HX : Hid (signs.getD j ByteArray.empty = x) := hx.symm
      clear hx
      have hj1 : (j : Int) < 22 := by omega
      obtain ⟨hs1, hs2⟩ := hsz
      by_cases hfit : k + x.size ≤ n
      · have CV := fun d => HCV.out d x.size hfit
        have hf1 : ((k : Int) + (x.size : Int)) ≤ (n : Int) := by omega
        have hfd : decide (((k : Int) + (x.size : Int)) ≤ (n : Int)) = true := by simp; omega
        obtain ⟨p, hp⟩ : ∃ p, p = strOfNums (part zs k x.size) := ⟨_, rfl⟩
        simp only [← hp] at CV
        have HP : Hid (strOfNums (part zs k x.size) = p) := hp.symm
        clear hp
        by_cases he : (p.toList == x.toList) = true
        · have HE : Hid (signLen zs k signs = some x.size) := by
            show _ = _
            rw [HR.out, signLen_hit (by rw [signs_len]; exact hlt), HX.out]
            rw [HX.out]; unfold stands; rw [HP.out, he, HL.out, decide_eq_true hfit]; rfl
          go_wp2
          go_quiet (fail)
          go_wp2
          go_ret3
          exact tok_post (by rw [HT.out, HE.out]; rfl) rfl (below_drewN (below_drewN ((Below.refl _ _).alloc (Nat.le_refl _) _) _) _)
        · have he' : (p.toList == x.toList) = false := by simpa using he
          clear he
          have HE : Hid (signLen zs k signs = signLen zs k (signs.drop (j + 1))) := by
            show _ = _
            rw [HR.out, signLen_step (by rw [signs_len]; exact hlt)]
            rw [HX.out]; unfold stands; rw [HP.out, he']; simp
          go_wp2
          go_quiet (fail)
          go_wp2
          go_roundw
          case rel => exact ⟨j + 1, d + nq, by omega, by go_num, by simp, HE⟩
          case measure => simp [intOf]; omega
      · have hfd : decide (((k : Int) + (x.size : Int)) ≤ (n : Int)) = false := by simp; omega
        have HE : Hid (signLen zs k signs = signLen zs k (signs.drop (j + 1))) := by
          show _ = _
          rw [HR.out, signLen_step (by rw [signs_len]; exact hlt)]
          rw [HX.out]; unfold stands; rw [HL.out, decide_eq_false hfit]; rfl
        go_wp2
        go_quiet (fail)
        go_wp2
        go_roundw
        case rel => exact ⟨j + 1, d + nq, by omega, by go_num, by simp, HE⟩
        case measure => simp [intOf]; omega
    · have hj2 : j = 22 := by omega
      subst hj2
      have HE : Hid (signLen zs k signs = none) := by show _ = _; rw [HR.out]; rfl
      go_wp2
      go_ret3
      exact tok_post (by rw [HT.out, HE.out]; rfl) rfl (below_drewN ((Below.refl _ _).alloc (Nat.le_refl _) _) _)

theorem tok_any (g cap k : Nat) (zs : List Int) (w : World) (hb : Bts zs) (hcell : ∀ i, i < zs.length → w.cell? ⟨g, i, none⟩ = some (.int .u8 (zs.getD i 0))) (hm : cap ≤ 1048576) (hcap : zs.length ≤ cap) (hk : k < zs.length) :
    Calls Try.prog 34 #[.slice (some ⟨g, 0, none⟩) zs.length cap, .int .i64 k] w (TokPost zs k w) := by
  cases hl : letter (zs.getD k 0) with
  | true => exact tok_letter g cap k zs w hb hcell hm hcap hk hl
  | false =>
    cases hd : digit (zs.getD k 0) with
    | true => exact tok_digit g cap k zs w hb hcell hm hcap hk hl hd
    | false =>
      by_cases hq : zs.getD k 0 = 34 ∨ zs.getD k 0 = 39
      · exact tok_quote g cap k zs w hb hcell hm hcap hk hl hd hq
      · exact tok_sign g cap k zs w hb hcell hm hcap hk hl hd hq
end Go.Proofs.Ytdffdkaligkkbaa.lex
