import Derived.Test.YtccnjmnafkfjdaaGreatLexWalks
namespace Go.Proofs.YtccnjmnafkfjdaaGreat.lex
open Go.RowKit Go.Proofs.YtccnjmnafkfjdaaGreat.bts Go.Proofs.YtccnjmnafkfjdaaGreat.scn Go.Proofs.YtccnjmnafkfjdaaGreat.lit

theorem words_cell (w : World) (k : Nat) (h : k < 20) : (w.alloc (.cells #[.string { data := #[97, 110, 100] }, .string { data := #[98, 114, 101, 97, 107] }, .string { data := #[100, 111] }, .string { data := #[101, 108, 115, 101] }, .string { data := #[101, 108, 115, 101, 105, 102] }, .string { data := #[101, 110, 100] }, .string { data := #[102, 97, 108, 115, 101] }, .string { data := #[102, 111, 114] }, .string { data := #[102, 117, 110, 99, 116, 105, 111, 110] }, .string { data := #[105, 102] }, .string { data := #[108, 111, 99, 97, 108] }, .string { data := #[110, 105, 108] }, .string { data := #[110, 111, 116] }, .string { data := #[111, 114] }, .string { data := #[114, 101, 112, 101, 97, 116] }, .string { data := #[114, 101, 116, 117, 114, 110] }, .string { data := #[116, 104, 101, 110] }, .string { data := #[116, 114, 117, 101] }, .string { data := #[117, 110, 116, 105, 108] }, .string { data := #[119, 104, 105, 108, 101] }] 9)).cell? ⟨w.heap.size, k, none⟩ = some (.string (words.getD k ByteArray.empty)) := by
  rw [World.cell?_alloc_new]
  match k, h with
  | 0, _ | 1, _ | 2, _ | 3, _ | 4, _ | 5, _ | 6, _ | 7, _ | 8, _ | 9, _ | 10, _ | 11, _ | 12, _ | 13, _ | 14, _ | 15, _ | 16, _ | 17, _ | 18, _ | 19, _ => rfl
  | k + 20, h => omega

theorem signs_cell (w : World) (k : Nat) (h : k < 22) : (w.alloc (.cells #[.string { data := #[61, 61] }, .string { data := #[126, 61] }, .string { data := #[60, 61] }, .string { data := #[62, 61] }, .string { data := #[47, 47] }, .string { data := #[46, 46] }, .string { data := #[43] }, .string { data := #[45] }, .string { data := #[42] }, .string { data := #[37] }, .string { data := #[60] }, .string { data := #[62] }, .string { data := #[61] }, .string { data := #[40] }, .string { data := #[41] }, .string { data := #[123] }, .string { data := #[125] }, .string { data := #[91] }, .string { data := #[93] }, .string { data := #[59] }, .string { data := #[44] }, .string { data := #[46] }] 9)).cell? ⟨w.heap.size, k, none⟩ = some (.string (signs.getD k ByteArray.empty)) := by
  rw [World.cell?_alloc_new]
  match k, h with
  | 0, _ | 1, _ | 2, _ | 3, _ | 4, _ | 5, _ | 6, _ | 7, _ | 8, _ | 9, _ | 10, _ | 11, _ | 12, _ | 13, _ | 14, _ | 15, _ | 16, _ | 17, _ | 18, _ | 19, _ | 20, _ | 21, _ => rfl
  | k + 22, h => omega

theorem words_len : words.length = 20 := rfl
theorem signs_len : signs.length = 22 := rfl

set_option maxHeartbeats 1000000 in
theorem isWord_any (s : ByteArray) (w : World) :
    Calls Tryz.prog 37 #[.string s] w fun e w' => e = .returned (.bool (isIn words s)) ∧ ∃ o, w' = w.alloc o := by
  have C := words_any w
  have HW := words_cell w
  generalize hO : (Obj.cells #[.string { data := #[97, 110, 100] }, .string { data := #[98, 114, 101, 97, 107] }, .string { data := #[100, 111] }, .string { data := #[101, 108, 115, 101] }, .string { data := #[101, 108, 115, 101, 105, 102] }, .string { data := #[101, 110, 100] }, .string { data := #[102, 97, 108, 115, 101] }, .string { data := #[102, 111, 114] }, .string { data := #[102, 117, 110, 99, 116, 105, 111, 110] }, .string { data := #[105, 102] }, .string { data := #[108, 111, 99, 97, 108] }, .string { data := #[110, 105, 108] }, .string { data := #[110, 111, 116] }, .string { data := #[111, 114] }, .string { data := #[114, 101, 112, 101, 97, 116] }, .string { data := #[114, 101, 116, 117, 114, 110] }, .string { data := #[116, 104, 101, 110] }, .string { data := #[116, 114, 117, 101] }, .string { data := #[117, 110, 116, 105, 108] }, .string { data := #[119, 104, 105, 108, 101] }] 9) = O at C HW
  clear hO
  have HH : Hid (∀ k, k < 20 → (w.alloc O).cell? ⟨w.heap.size, k, none⟩ = some (.string (words.getD k ByteArray.empty))) := HW
  clear HW
  go_enter Tryz.func37, Tryz.ntmps37
  go_wp2_with fail
  refine C.mono ?_
  rintro e w1 ⟨rfl, rfl⟩
  clear C
  go_wp2
  go_loop [4] (fun q => ∃ (k : Nat), k ≤ 20 ∧ q = .int .i64 k ∧ Hid (isIn words s = isIn (words.drop k) s)) (fun q => 20 - (intOf q).toNat)
  case atStart => exact ⟨0, by omega, rfl, rfl⟩
  case round =>
    obtain ⟨k, hk, rfl, HR⟩ := hrel
    by_cases hlt : k < 20
    · have hc := HH.out k hlt
      obtain ⟨x, hx⟩ : ∃ x, x = words.getD k ByteArray.empty := ⟨_, rfl⟩
      rw [← hx] at hc
      have HX : Hid (words.getD k ByteArray.empty = x) := hx.symm
      clear hx
      by_cases he : (x.toList == s.toList) = true
      · have HE : Hid (isIn words s = true) := by show _ = _; rw [HR.out, isIn_hit (by rw [words_len]; exact hlt) (by rw [HX.out]; exact he)]
        go_wp2
        go_ret
        exact ⟨ret_bool (by rw [HE.out]), _, rfl⟩
      · have he' : (x.toList == s.toList) = false := by simpa using he
        clear he
        have HE : Hid (isIn words s = isIn (words.drop (k + 1)) s) := by show _ = _; rw [HR.out, isIn_step (by rw [words_len]; exact hlt) (by rw [HX.out]; exact he')]
        go_wp2
        go_round
        case rel => exact ⟨k + 1, by omega, by go_num, HE⟩
        case measure => simp [intOf]; omega
    · have hk2 : k = 20 := by omega
      subst hk2
      have HE : Hid (isIn words s = false) := by show _ = _; rw [HR.out]; rfl
      go_wp2
      go_ret
      exact ⟨ret_bool (by rw [HE.out]), _, rfl⟩
end Go.Proofs.YtccnjmnafkfjdaaGreat.lex
