import Derived.Test.YtopibfnjbejiiaaGreatDoorQuoteLists
import Derived.Test.YtopibfnjbejiiaaGreatDoorBytesWalks
import Derived.Deep.RegionHeld3
import Derived.Deep.AppendLies
import Derived.WalkSpells
import Derived.Laws.BitsAllLaws
namespace Go.Proofs.YtopibfnjbejiiaaGreatDoor.quo
open Go.RowKit Go.Proofs.YtopibfnjbejiiaaGreatDoor.bts

set_option maxRecDepth 100000 in
set_option maxHeartbeats 400000 in
theorem appendChar_two (c d : Int) (B g cap n : Nat) (xs : List Value) (w : World) (hown : w.ownsRow B 5 1 (.slice (some ⟨g, 0, none⟩) n cap) n xs) (hB : B ≤ w.heap.size) (hn : n ≤ 1073741824)
    (hw : (c = 10 ∧ d = 110) ∨ (c = 9 ∧ d = 116) ∨ ((c = 34 ∨ c = 92) ∧ d = c)) :
    Calls Tryz.prog 86 #[.slice (some ⟨g, 0, none⟩) n cap, .int .u8 c] w fun e w' => ∃ g' cap', e = .returned (.slice (some ⟨g', 0, none⟩) (n + 2) cap') ∧
      w'.ownsRow B 5 1 (.slice (some ⟨g', 0, none⟩) (n + 2) cap') (n + 2) (xs ++ [.int .u8 92, .int .u8 d]) ∧ Below B w w' := by
  obtain ⟨i0, hi, hz0, hz1, hz2⟩ := info_parts info_u8
  have hgB := (hown.lt g rfl).1
  rcases hw with ⟨rfl, rfl⟩ | ⟨rfl, rfl⟩ | ⟨rfl | rfl, rfl⟩
  all_goals
    go_enter Tryz.func86, Tryz.ntmps86
    go_wp2_with (at_builtin; refine wpList_append_lies _ rfl _ _ _ rfl B 5 i0 (.int .u8 0) 1 1 Tryz.underlying27 hi hz0 hz1 hz2 rfl (by omega) _ n xs rfl (hown.alloc _) ⟨w.heap.size, 0, none⟩ 2 2 [.int .u8 92, .int .u8 _] rfl rfl (World.news_of_block (cs := #[.int .u8 92, .int .u8 _]) (t := 5) (fr := (0, 0)) (heap_alloc_new w _)) (by simp [Value.oneCell']) (by omega) (by unfold maxLen; omega) (by omega) (by simp; omega) (w.heap.size + 1) (by simp) ?_; intro g' cap' w1 hown1 hgrow hat hlt)
    go_ret
    exact ⟨g', cap', rfl, hown1, ((Below.refl _ _).alloc hB _).grown hgrow (by simp; omega) (by intro k hk; cases hk; exact hgB)⟩

theorem and15 (c : Int) (h0 : 0 ≤ c) (h1 : c ≤ 255) : bits .and .u8 c 15 = c % 16 := by
  rw [u8_and c 15 h0 (by omega) (by omega) (by omega)]
  have : c.toNat &&& 15 = c.toNat % 16 := Nat.and_two_pow_sub_one_eq_mod c.toNat 4
  rw [show (15 : Int).toNat = 15 from rfl, this]
  omega

theorem hexS (d : Int) (h0 : 0 ≤ d) (h1 : d < 16) (h : d.toNat < (ByteArray.mk #[48, 49, 50, 51, 52, 53, 54, 55, 56, 57, 97, 98, 99, 100, 101, 102]).size) :
    (((ByteArray.mk #[48, 49, 50, 51, 52, 53, 54, 55, 56, 57, 97, 98, 99, 100, 101, 102])[d.toNat]'h).toNat : Int) = hexd d := by
  obtain ⟨k, rfl⟩ := Int.eq_ofNat_of_zero_le h0
  match k, h1 with
  | 0, _ | 1, _ | 2, _ | 3, _ | 4, _ | 5, _ | 6, _ | 7, _ | 8, _ | 9, _ | 10, _ | 11, _ | 12, _ | 13, _ | 14, _ | 15, _ => rfl
  | k + 16, h1 => omega

set_option maxRecDepth 100000 in
set_option maxHeartbeats 400000 in
theorem appendChar_hex (c : Int) (B g cap n : Nat) (xs : List Value) (w : World) (hown : w.ownsRow B 5 1 (.slice (some ⟨g, 0, none⟩) n cap) n xs) (hB : B ≤ w.heap.size) (hn : n ≤ 1073741824)
    (h0 : 0 ≤ c) (h255 : c ≤ 255) (hw : c < 32 ∨ 126 < c) (h1 : ¬ c = 10) (h2 : ¬ c = 9) :
    Calls Tryz.prog 86 #[.slice (some ⟨g, 0, none⟩) n cap, .int .u8 c] w fun e w' => ∃ g' cap', e = .returned (.slice (some ⟨g', 0, none⟩) (n + 4) cap') ∧
      w'.ownsRow B 5 1 (.slice (some ⟨g', 0, none⟩) (n + 4) cap') (n + 4) (xs ++ [.int .u8 92, .int .u8 120, .int .u8 (hexd (c / 16)), .int .u8 (hexd (c % 16))]) ∧ Below B w w' := by
  obtain ⟨i0, hi, hz0, hz1, hz2⟩ := info_parts info_u8
  have hgB := (hown.lt g rfl).1
  have e10 : (c == 10) = false := by simp; omega
  have e9 : (c == 9) = false := by simp; omega
  have e34 : (c == 34) = false := by simp; omega
  have e92 : (c == 92) = false := by simp; omega
  have a1 : 0 ≤ c / 16 := by omega
  have a2 : c / 16 < 16 := by omega
  have a3 : 0 ≤ c % 16 := by omega
  have a4 : c % 16 < 16 := by omega
  have hbits := and15 c h0 h255
  have x1 := hexS (c / 16) (by omega) (by omega)
  have x2 := hexS (c % 16) (by omega) (by omega)
  rcases hw with hw | hw
  all_goals
    go_enter Tryz.func86, Tryz.ntmps86
    go_wp2_with fail
    go_region_held3 (fun _ => True) (trivial)
      ((refine step_append_lies _ (by rfl) _ _ _ (by rfl) B 5 i0 (.int .u8 0) 1 1 Tryz.underlying27 hi hz0 hz1 hz2 rfl (by omega) _ n xs (by rfl) ((hown.alloc _).drew) ⟨w.heap.size, 0, none⟩ 4 4 [.int .u8 92, .int .u8 120, .int .u8 (hexd (c / 16)), .int .u8 (hexd (c % 16))] (by rfl) (by rfl) (World.news_of_block (cs := #[.int .u8 92, .int .u8 120, .int .u8 (hexd (c / 16)), .int .u8 (hexd (c % 16))]) (t := 5) (fr := (0, 0)) (heap_alloc_new w _)) (by simp [Value.oneCell']) (by omega) (by unfold maxLen; omega) (by omega) (by simp; omega) (w.heap.size + 1) (by simp) ?_; intro g' cap' w1 hown1 hgrow hat hlt))
    all_goals
      go_wp2
      go_ret
      exact ⟨g', cap', rfl, hown1, (((Below.refl _ _).alloc hB _).drew).grown hgrow (by simp; omega) (by intro k hk; cases hk; exact hgB)⟩

set_option maxRecDepth 100000 in
set_option maxHeartbeats 400000 in
theorem appendChar_one (c : Int) (B g cap n : Nat) (xs : List Value) (w : World) (hown : w.ownsRow B 5 1 (.slice (some ⟨g, 0, none⟩) n cap) n xs) (hB : B ≤ w.heap.size) (hn : n ≤ 1073741824)
    (h0 : 32 ≤ c) (h255 : c ≤ 126) (h1 : ¬ c = 34) (h2 : ¬ c = 92) :
    Calls Tryz.prog 86 #[.slice (some ⟨g, 0, none⟩) n cap, .int .u8 c] w fun e w' => ∃ g' cap', e = .returned (.slice (some ⟨g', 0, none⟩) (n + 1) cap') ∧
      w'.ownsRow B 5 1 (.slice (some ⟨g', 0, none⟩) (n + 1) cap') (n + 1) (xs ++ [.int .u8 c]) ∧ Below B w w' := by
  obtain ⟨i0, hi, hz0, hz1, hz2⟩ := info_parts info_u8
  have hgB := (hown.lt g rfl).1
  have e10 : (c == 10) = false := by simp; omega
  have e9 : (c == 9) = false := by simp; omega
  have e34 : (c == 34) = false := by simp; omega
  have e92 : (c == 92) = false := by simp; omega
  go_enter Tryz.func86, Tryz.ntmps86
  go_wp2_with (at_builtin; refine wpList_append_lies _ rfl _ _ _ rfl B 5 i0 (.int .u8 0) 1 1 Tryz.underlying27 hi hz0 hz1 hz2 rfl (by omega) _ n xs rfl (hown.alloc _) ⟨w.heap.size, 0, none⟩ 1 1 [.int .u8 c] rfl rfl (World.news_of_block (cs := #[.int .u8 c]) (t := 5) (fr := (0, 0)) (heap_alloc_new w _)) (by simp [Value.oneCell']) (by omega) (by unfold maxLen; omega) (by omega) (by simp; omega) (w.heap.size + 1) (by simp) ?_; intro g' cap' w1 hown1 hgrow hat hlt)
  go_ret
  exact ⟨g', cap', rfl, hown1, ((Below.refl _ _).alloc hB _).grown hgrow (by simp; omega) (by intro k hk; cases hk; exact hgB)⟩

theorem appendChar_any (c : Int) (B g cap n : Nat) (xs : List Value) (w : World) (hown : w.ownsRow B 5 1 (.slice (some ⟨g, 0, none⟩) n cap) n xs) (hB : B ≤ w.heap.size) (hn : n ≤ 1073741824) (h0 : 0 ≤ c) (h255 : c ≤ 255) :
    Calls Tryz.prog 86 #[.slice (some ⟨g, 0, none⟩) n cap, .int .u8 c] w fun e w' => ∃ g' cap', e = .returned (.slice (some ⟨g', 0, none⟩) (n + (qc c).length) cap') ∧
      w'.ownsRow B 5 1 (.slice (some ⟨g', 0, none⟩) (n + (qc c).length) cap') (n + (qc c).length) (xs ++ bcells (qc c)) ∧ Below B w w' := by
  by_cases a1 : c = 10
  · subst a1; exact appendChar_two 10 110 B g cap n xs w hown hB hn (.inl ⟨rfl, rfl⟩)
  by_cases a2 : c = 9
  · subst a2; exact appendChar_two 9 116 B g cap n xs w hown hB hn (.inr (.inl ⟨rfl, rfl⟩))
  by_cases a3 : c = 34 ∨ c = 92
  · rw [qc_esc a3]; exact appendChar_two c c B g cap n xs w hown hB hn (.inr (.inr ⟨a3, rfl⟩))
  by_cases a4 : c < 32 ∨ 126 < c
  · rw [qc_hex a4 a1 a2]; exact appendChar_hex c B g cap n xs w hown hB hn h0 h255 a4 a1 a2
  · rw [qc_one (by omega) (by omega) (by omega) (by omega)]; exact appendChar_one c B g cap n xs w hown hB hn (by omega) (by omega) (by omega) (by omega)
end Go.Proofs.YtopibfnjbejiiaaGreatDoor.quo
