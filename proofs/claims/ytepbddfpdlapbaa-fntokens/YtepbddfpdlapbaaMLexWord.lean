import Derived.Test.YtepbddfpdlapbaaMBytesMore
import Derived.Test.YtepbddfpdlapbaaMLexLists
import Derived.Test.YtepbddfpdlapbaaMScanWalks
namespace Go.Proofs.Ytepbddfpdlapbaa.lex
open Go.RowKit Go.Proofs.Ytepbddfpdlapbaa.bts Go.Proofs.Ytepbddfpdlapbaa.scn Go.Proofs.Ytepbddfpdlapbaa.lit
theorem ret_bool {a b : Bool} (h : a = b) : Ending.returned (.bool a) = .returned (.bool b) := by rw [h]
theorem letter_yes {c : Int} (h : (97 ≤ c ∧ c ≤ 122) ∨ (65 ≤ c ∧ c ≤ 90) ∨ c = 95) : letter c = true := by
  unfold letter
  rcases h with ⟨a, b⟩ | ⟨a, b⟩ | a <;> simp [*]
theorem letter_no {c : Int} (h : ¬ ((97 ≤ c ∧ c ≤ 122) ∨ (65 ≤ c ∧ c ≤ 90) ∨ c = 95)) : letter c = false := by
  rw [Bool.eq_false_iff]
  intro hc
  unfold letter at hc
  simp only [Bool.or_eq_true, Bool.and_eq_true, decide_eq_true_eq, beq_iff_eq] at hc
  omega
theorem digit_yes {c : Int} (h : 48 ≤ c ∧ c ≤ 57) : digit c = true := by unfold digit; simp [h.1, h.2]
theorem digit_no {c : Int} (h : ¬ (48 ≤ c ∧ c ≤ 57)) : digit c = false := by
  rw [Bool.eq_false_iff]
  intro hc
  unfold digit at hc
  simp only [Bool.and_eq_true, decide_eq_true_eq] at hc
  omega
theorem letter_any (c : Int) (_h0 : 0 ≤ c) (_h1 : c ≤ 255) (w : World) :
    Calls Try.prog 28 #[.int .u8 c] w fun e w' => e = .returned (.bool (letter c)) ∧ w' = w := by
  have hc : c < 65 ∨ (65 ≤ c ∧ c ≤ 90) ∨ (90 < c ∧ c < 95) ∨ c = 95 ∨ c = 96 ∨ (97 ≤ c ∧ c ≤ 122) ∨ 122 < c := by omega
  rcases hc with a | ⟨a, b⟩ | ⟨a, b⟩ | rfl | rfl | ⟨a, b⟩ | a
  all_goals
    go_enter Try.func28, Try.ntmps28
    go_wp2
    go_ret
    exact ⟨ret_bool (by first | (rw [letter_yes (by omega)]; done) | (rw [letter_no (by omega)]; done) | (rw [letter_no (by omega)]; simp; omega)), rfl⟩
theorem digit_any2 (c : Int) (_h0 : 0 ≤ c) (_h1 : c ≤ 255) (w : World) :
    Calls Try.prog 30 #[.int .u8 c] w fun e w' => e = .returned (.bool (digit c)) ∧ w' = w := by
  have hc : c < 48 ∨ (48 ≤ c ∧ c ≤ 57) ∨ 57 < c := by omega
  rcases hc with a | ⟨a, b⟩ | a
  all_goals
    go_enter Try.func30, Try.ntmps30
    go_wp2
    go_ret
    exact ⟨ret_bool (by first | (rw [digit_yes (by omega)]; done) | (rw [digit_no (by omega)]; done) | (rw [digit_no (by omega)]; simp; omega)), rfl⟩
set_option maxHeartbeats 1000000 in
theorem l2run_any (b off cap k : Nat) (zs : List Int) (w : World) (hb : Bts zs) (hcell : ∀ i, i < zs.length → w.cell? ⟨b, off + i, none⟩ = some (.int .u8 (zs.getD i 0))) (hm : zs.length ≤ 1073741824) (hk : k ≤ zs.length) :
    Calls Try.prog 27 #[.slice (some ⟨b, off, none⟩) zs.length cap, .int .i64 k] w fun e w' => e = .returned (.int .i64 (span alnum zs k)) ∧ w' = w := by
  obtain ⟨n, hnn⟩ : ∃ n, n = zs.length := ⟨_, rfl⟩
  have HL : Hid (zs.length = n) := hnn.symm
  have HB : Hid (Bts zs) := hb
  have HC : Hid (∀ i, i < zs.length → w.cell? ⟨b, off + i, none⟩ = some (.int .u8 (zs.getD i 0))) := hcell
  rw [← hnn] at hm hk ⊢
  clear hnn hb hcell
  go_enter Try.func27, Try.ntmps27
  go_wp2
  go_loop [5] (fun q => ∃ (m : Nat), k + m ≤ n ∧ q = .int .i64 m ∧ Hid (span alnum zs k = m + span alnum zs (k + m))) (fun q => n - (intOf q).toNat)
  case atStart => exact ⟨0, by omega, rfl, by show _ = _; rw [Nat.add_zero, Nat.zero_add]⟩
  case round =>
    obtain ⟨m, hm1, rfl, HR⟩ := hrel
    by_cases hlt : k + m < n
    · have hc := HC.out (k + m) (by rw [HL.out]; exact hlt)
      have hz := HB.out (k + m)
      obtain ⟨z, hzz⟩ : ∃ z, z = zs.getD (k + m) 0 := ⟨_, rfl⟩
      rw [← hzz] at hc hz
      have HZ : Hid (zs.getD (k + m) 0 = z) := hzz.symm
      have HI : Hid (k + m < zs.length) := by show _ < _; rw [HL.out]; exact hlt
      obtain ⟨z0, z1⟩ := hz
      clear hzz
      by_cases hl : letter z = true
      · have HA : Hid (alnum (zs.getD (k + m) 0) = true) := by show _ = _; rw [HZ.out]; unfold alnum; rw [hl]; rfl
        go_wp2_with (first | (go_at_call 28; refine (letter_any _ z0 z1 _).mono ?_; rintro e w' ⟨rfl, hw⟩; replace hw := hw.symm; subst hw) | (go_at_call 30; refine (digit_any2 _ z0 z1 _).mono ?_; rintro e w' ⟨rfl, hw⟩; replace hw := hw.symm; subst hw))
        go_round
        case rel => exact ⟨m + 1, by omega, by go_num, by show _ = _; rw [HR.out, span_step HI.out HA.out]; show m + (span alnum zs (k + m + 1) + 1) = m + 1 + span alnum zs (k + m + 1); omega⟩
        case measure => simp [intOf]; omega
      · have hl' : letter z = false := by simpa using hl
        clear hl
        by_cases hd : digit z = true
        · have HA : Hid (alnum (zs.getD (k + m) 0) = true) := by show _ = _; rw [HZ.out]; unfold alnum; rw [hl', hd]; rfl
          go_wp2_with (first | (go_at_call 28; refine (letter_any _ z0 z1 _).mono ?_; rintro e w' ⟨rfl, hw⟩; replace hw := hw.symm; subst hw) | (go_at_call 30; refine (digit_any2 _ z0 z1 _).mono ?_; rintro e w' ⟨rfl, hw⟩; replace hw := hw.symm; subst hw))
          go_round
          case rel => exact ⟨m + 1, by omega, by go_num, by show _ = _; rw [HR.out, span_step HI.out HA.out]; show m + (span alnum zs (k + m + 1) + 1) = m + 1 + span alnum zs (k + m + 1); omega⟩
          case measure => simp [intOf]; omega
        · have hd' : digit z = false := by simpa using hd
          clear hd
          have HA : Hid (alnum (zs.getD (k + m) 0) = false) := by show _ = _; rw [HZ.out]; unfold alnum; rw [hl', hd']; rfl
          have HE : Hid (span alnum zs k = m) := by show _ = _; rw [HR.out, span_stop HA.out]; omega
          go_wp2_with (first | (go_at_call 28; refine (letter_any _ z0 z1 _).mono ?_; rintro e w' ⟨rfl, hw⟩; replace hw := hw.symm; subst hw) | (go_at_call 30; refine (digit_any2 _ z0 z1 _).mono ?_; rintro e w' ⟨rfl, hw⟩; replace hw := hw.symm; subst hw))
          go_ret
          exact ⟨ret_int (by rw [HE.out]), rfl⟩
    · have HE : Hid (span alnum zs k = m) := by show _ = _; rw [HR.out, span_end (by rw [HL.out]; omega)]; omega
      have hd : decide (((k : Int) + (m : Int)) < (n : Int)) = false := by simp; omega
      go_wp2
      go_ret
      exact ⟨ret_int (by rw [HE.out]), rfl⟩
theorem words_any (w : World) : Calls Try.prog 24 #[] w fun e w' => e = .returned (.slice (some ⟨w.heap.size, 0, none⟩) 20 20) ∧ w' = w.alloc (.cells #[.string { data := #[97, 110, 100] }, .string { data := #[98, 114, 101, 97, 107] }, .string { data := #[100, 111] }, .string { data := #[101, 108, 115, 101] }, .string { data := #[101, 108, 115, 101, 105, 102] }, .string { data := #[101, 110, 100] }, .string { data := #[102, 97, 108, 115, 101] }, .string { data := #[102, 111, 114] }, .string { data := #[102, 117, 110, 99, 116, 105, 111, 110] }, .string { data := #[105, 102] }, .string { data := #[108, 111, 99, 97, 108] }, .string { data := #[110, 105, 108] }, .string { data := #[110, 111, 116] }, .string { data := #[111, 114] }, .string { data := #[114, 101, 112, 101, 97, 116] }, .string { data := #[114, 101, 116, 117, 114, 110] }, .string { data := #[116, 104, 101, 110] }, .string { data := #[116, 114, 117, 101] }, .string { data := #[117, 110, 116, 105, 108] }, .string { data := #[119, 104, 105, 108, 101] }] 9) := by
  go_enter Try.func24, Try.ntmps24
  go_wp2
  go_ret
  exact ⟨rfl, rfl⟩
theorem signs_any (w : World) : Calls Try.prog 33 #[] w fun e w' => e = .returned (.slice (some ⟨w.heap.size, 0, none⟩) 22 22) ∧ w' = w.alloc (.cells #[.string { data := #[61, 61] }, .string { data := #[126, 61] }, .string { data := #[60, 61] }, .string { data := #[62, 61] }, .string { data := #[47, 47] }, .string { data := #[46, 46] }, .string { data := #[43] }, .string { data := #[45] }, .string { data := #[42] }, .string { data := #[37] }, .string { data := #[60] }, .string { data := #[62] }, .string { data := #[61] }, .string { data := #[40] }, .string { data := #[41] }, .string { data := #[123] }, .string { data := #[125] }, .string { data := #[91] }, .string { data := #[93] }, .string { data := #[59] }, .string { data := #[44] }, .string { data := #[46] }] 9) := by
  go_enter Try.func33, Try.ntmps33
  go_wp2
  go_ret
  exact ⟨rfl, rfl⟩
theorem words_cell (w : World) (k : Nat) (h : k < 20) : (w.alloc (.cells #[.string { data := #[97, 110, 100] }, .string { data := #[98, 114, 101, 97, 107] }, .string { data := #[100, 111] }, .string { data := #[101, 108, 115, 101] }, .string { data := #[101, 108, 115, 101, 105, 102] }, .string { data := #[101, 110, 100] }, .string { data := #[102, 97, 108, 115, 101] }, .string { data := #[102, 111, 114] }, .string { data := #[102, 117, 110, 99, 116, 105, 111, 110] }, .string { data := #[105, 102] }, .string { data := #[108, 111, 99, 97, 108] }, .string { data := #[110, 105, 108] }, .string { data := #[110, 111, 116] }, .string { data := #[111, 114] }, .string { data := #[114, 101, 112, 101, 97, 116] }, .string { data := #[114, 101, 116, 117, 114, 110] }, .string { data := #[116, 104, 101, 110] }, .string { data := #[116, 114, 117, 101] }, .string { data := #[117, 110, 116, 105, 108] }, .string { data := #[119, 104, 105, 108, 101] }] 9)).cell? ⟨w.heap.size, k, none⟩ = some (.string (words.getD k ByteArray.empty)) := by
  rw [World.cell?_alloc_new]
  match k, h with
  | 0, _ | 1, _ | 2, _ | 3, _ | 4, _ | 5, _ | 6, _ | 7, _ | 8, _ | 9, _ | 10, _ | 11, _ | 12, _ | 13, _ | 14, _ | 15, _ | 16, _ | 17, _ | 18, _ | 19, _ => rfl
  | k + 20, h => omega
theorem signs_cell (w : World) (k : Nat) (h : k < 22) : (w.alloc (.cells #[.string { data := #[61, 61] }, .string { data := #[126, 61] }, .string { data := #[60, 61] }, .string { data := #[62, 61] }, .string { data := #[47, 47] }, .string { data := #[46, 46] }, .string { data := #[43] }, .string { data := #[45] }, .string { data := #[42] }, .string { data := #[37] }, .string { data := #[60] }, .string { data := #[62] }, .string { data := #[61] }, .string { data := #[40] }, .string { data := #[41] }, .string { data := #[123] }, .string { data := #[125] }, .string { data := #[91] }, .string { data := #[93] }, .string { data := #[59] }, .string { data := #[44] }, .string { data := #[46] }] 9)).cell? ⟨w.heap.size, k, none⟩ = some (.string (signs.getD k ByteArray.empty)) := by
  rw [World.cell?_alloc_new]
  match k, h with
  | 0, _ | 1, _ | 2, _ | 3, _ | 4, _ | 5, _ | 6, _ | 7, _ | 8, _ | 9, _ | 10, _ | 11, _ | 12, _ | 13, _ | 14, _ | 15, _ | 16, _ | 17, _ | 18, _ | 19, _ | 20, _ | 21, _ => rfl
  | k + 22, h => omega
theorem words_len : words.length = 20 := rfl
theorem signs_len : signs.length = 22 := rfl
set_option maxHeartbeats 1000000 in
theorem isWord_any (s : ByteArray) (w : World) :
    Calls Try.prog 29 #[.string s] w fun e w' => e = .returned (.bool (isIn words s)) ∧ ∃ o, w' = w.alloc o := by
  have C := words_any w
  have HW := words_cell w
  generalize hO : (Obj.cells #[.string { data := #[97, 110, 100] }, .string { data := #[98, 114, 101, 97, 107] }, .string { data := #[100, 111] }, .string { data := #[101, 108, 115, 101] }, .string { data := #[101, 108, 115, 101, 105, 102] }, .string { data := #[101, 110, 100] }, .string { data := #[102, 97, 108, 115, 101] }, .string { data := #[102, 111, 114] }, .string { data := #[102, 117, 110, 99, 116, 105, 111, 110] }, .string { data := #[105, 102] }, .string { data := #[108, 111, 99, 97, 108] }, .string { data := #[110, 105, 108] }, .string { data := #[110, 111, 116] }, .string { data := #[111, 114] }, .string { data := #[114, 101, 112, 101, 97, 116] }, .string { data := #[114, 101, 116, 117, 114, 110] }, .string { data := #[116, 104, 101, 110] }, .string { data := #[116, 114, 117, 101] }, .string { data := #[117, 110, 116, 105, 108] }, .string { data := #[119, 104, 105, 108, 101] }] 9) = O at C HW
  clear hO
  have HH : Hid (∀ k, k < 20 → (w.alloc O).cell? ⟨w.heap.size, k, none⟩ = some (.string (words.getD k ByteArray.empty))) := HW
  clear HW
  go_enter Try.func29, Try.ntmps29
  go_wp2_with fail
  refine C.mono ?_
  rintro e w1 ⟨rfl, rfl⟩
  clear C
  go_wp2
  go_loop [4] (fun q => ∃ (k : Nat), k ≤ 20 ∧ q = .int .i64 k ∧ Hid (isIn words s = isIn (words.drop k) s)) (fun q => 20 - (intOf q).toNat)
  case atStart => exact ⟨0, by omega, rfl, rfl⟩
  case round =>
    obtain ⟨k, hk, rfl, HR⟩ := hrel
    by_cases hlt : k < 20
    · have hc := HH.out k hlt
      obtain ⟨x, hx⟩ : ∃ x, x = words.getD k ByteArray.empty := ⟨_, rfl⟩
      rw [← hx] at hc
      have HX : Hid (words.getD k ByteArray.empty = x) := hx.symm
      clear hx
      by_cases he : (x.toList == s.toList) = true
      · have HE : Hid (isIn words s = true) := by show _ = _; rw [HR.out, isIn_hit (by rw [words_len]; exact hlt) (by rw [HX.out]; exact he)]
        go_wp2
        go_ret
        exact ⟨ret_bool (by rw [HE.out]), _, rfl⟩
      · have he' : (x.toList == s.toList) = false := by simpa using he
        clear he
        have HE : Hid (isIn words s = isIn (words.drop (k + 1)) s) := by show _ = _; rw [HR.out, isIn_step (by rw [words_len]; exact hlt) (by rw [HX.out]; exact he')]
        go_wp2
        go_round
        case rel => exact ⟨k + 1, by omega, by go_num, HE⟩
        case measure => simp [intOf]; omega
    · have hk2 : k = 20 := by omega
      subst hk2
      have HE : Hid (isIn words s = false) := by show _ = _; rw [HR.out]; rfl
      go_wp2
      go_ret
      exact ⟨ret_bool (by rw [HE.out]), _, rfl⟩
end Go.Proofs.Ytepbddfpdlapbaa.lex
