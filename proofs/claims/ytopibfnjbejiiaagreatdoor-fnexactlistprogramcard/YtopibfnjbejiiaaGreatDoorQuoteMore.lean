import Derived.Test.YtopibfnjbejiiaaGreatDoorQuoteWalks
namespace Go.Proofs.YtopibfnjbejiiaaGreatDoor.quo
open Go.RowKit Go.Proofs.YtopibfnjbejiiaaGreatDoor.bts

theorem own_quot (w : World) (base : Nat) (hb : base ≤ w.heap.size) : (w.alloc (.cells #[.int .u8 34] 5)).ownsRow base 5 1 (.slice (some ⟨w.heap.size, 0, none⟩) 1 1) 1 (bcells [34]) := by
  have := World.ownsRow_lit (base := base) (e := 5) (size := 1) w #[.int .u8 34] 1 hb (by unfold maxLen; omega) rfl
  exact this

set_option maxRecDepth 100000 in
set_option maxHeartbeats 1000000 in
theorem implQuote_any (ao : Option Addr) (cap : Nat) (zs : List Int) (w : World) (hr : Rd w ao zs) (hb : Bts zs) (hn : zs.length ≤ 1048576) :
    Calls Tryz.prog 73 #[.slice ao zs.length cap] w fun e w' => ∃ g' cap', e = .returned (.slice (some ⟨g', 0, none⟩) (quote zs).length cap') ∧
      w'.ownsRow w.heap.size 5 1 (.slice (some ⟨g', 0, none⟩) (quote zs).length cap') (quote zs).length (bcells (quote zs)) ∧ Below w.heap.size w w' := by
  obtain ⟨i0, hi, hz0, hz1, hz2⟩ := info_parts info_u8
  obtain ⟨n, hnn⟩ : ∃ n, n = zs.length := ⟨_, rfl⟩
  obtain ⟨N, hNN⟩ : ∃ N, N = (quote zs).length := ⟨_, rfl⟩
  have HN : Hid (n = zs.length) := hnn
  have HQ : Hid (N = (quote zs).length) := hNN
  rw [← hnn] at hn ⊢
  rw [← hNN]
  have HR : Hid (Rd w ao zs) := hr
  have HB : Hid (Bts zs) := hb
  clear hnn hNN hr hb
  go_enter Tryz.func73, Tryz.ntmps73
  go_wp2
  go_loopw [3, 9] (fun v i wr => ∃ (k g c m : Nat), k ≤ n ∧ i = .int .i64 k ∧ v = .slice (some ⟨g, 0, none⟩) m c ∧ Hid (m = (upto zs k).length) ∧ wr.ownsRow w.heap.size 5 1 (.slice (some ⟨g, 0, none⟩) m c) m (bcells (upto zs k)) ∧ Below w.heap.size w wr) (fun _ i _ => n - (intOf i).toNat)
  case atStart => exact ⟨0, w.heap.size, 1, 1, Nat.zero_le _, rfl, rfl, rfl, own_quot w _ (Nat.le_refl _), (Below.refl _ _).alloc (Nat.le_refl _) _⟩
  case round =>
    obtain ⟨k, g, c, m, hk, rfl, rfl, HM, hown, hbel⟩ := hrel
    have hm4 : m ≤ 4 * k + 1 := by rw [HM.out]; exact upto_len zs k
    by_cases hlt : k < n
    · obtain ⟨b, off, rfl, hbw, hcell⟩ := HR.out.at (by have := HN.out; omega)
      have hc : wr.cell? ⟨b, off + k, none⟩ = some (.int .u8 (zs.getD k 0)) := (hbel.cell (p := ⟨b, off + k, none⟩) hbw).trans (hcell k (by have := HN.out; omega))
      have hzb := HB.out k
      obtain ⟨z, hz⟩ : ∃ z, z = zs.getD k 0 := ⟨_, rfl⟩
      rw [← hz] at hc hzb
      have HZ : Hid (z = zs.getD k 0) := hz
      obtain ⟨hz1', hz2'⟩ := hzb
      have HS : Hid (upto zs (k + 1) = upto zs k ++ qc z) := by rw [HZ.out]; exact upto_succ (by have := HN.out; omega)
      have hc35 := appendChar_any z w.heap.size g c m (bcells (upto zs k)) wr hown hbel.size (by omega) hz1' hz2'
      clear hz hcell hown
      go_wp2_with (go_at_call 86; refine hc35.mono ?_; rintro e w' ⟨g', cap', rfl, hown', hbel'⟩)
      have HM' : Hid (m + (qc z).length = (upto zs (k + 1)).length) := by show _ = _; rw [HS.out, List.length_append, ← HM.out]
      have HO' : Hid _ := hown'
      go_roundw
      case rel => exact ⟨k + 1, g', cap', _, by omega, by go_num, rfl, HM'.out, by rw [HS.out, bcells_append]; exact HO'.out, hbel.trans hbel'⟩
      case measure => simp [intOf]; omega
    · have hkn : k = n := by omega
      subst hkn
      have hgB := (hown.lt g rfl).1
      have hBs := hbel.size
      go_wp2_with (at_builtin; refine wpList_append_lies _ rfl _ _ _ rfl w.heap.size 5 i0 (.int .u8 0) 1 1 Tryz.underlying27 hi hz0 hz1 hz2 rfl (by omega) _ m (bcells (upto zs k)) rfl (hown.alloc _) ⟨wr.heap.size, 0, none⟩ 1 1 [.int .u8 34] rfl rfl (World.news_of_block (cs := #[.int .u8 34]) (t := 5) (fr := (0, 0)) (heap_alloc_new wr _)) (by simp [Value.oneCell']) (by omega) (by unfold maxLen; omega) (by omega) (by simp; omega) (wr.heap.size + 1) (by simp) ?_; intro g' cap' w1 hown1 hgrow hat hlt)
      have e : m + 1 = N := by rw [HQ.out, ← upto_all, List.length_append, ← HN.out, ← HM.out]; rfl
      go_ret
      refine ⟨g', cap', by simp [e], ?_, (hbel.alloc hbel.size _).grown hgrow (by simp; omega) (by intro k hk; cases hk; exact hgB)⟩
      rw [e] at hown1
      rw [← upto_all, bcells_append, ← HN.out]
      exact hown1

theorem tmod_nn (z : Int) (h0 : 0 ≤ z) : z.tmod 16 = z % 16 := Int.tmod_eq_emod_of_nonneg h0
theorem wrap_div (z : Int) (h0 : 0 ≤ z) (h1 : z ≤ 255) : IntKind.u8.wrap (z.tdiv 16) = z / 16 := by
  rw [Int.tdiv_eq_ediv_of_nonneg h0]
  show (z / 16) % 256 = z / 16
  omega

set_option maxRecDepth 100000 in
set_option maxHeartbeats 4000000 in
theorem specQuote_any (ao : Option Addr) (cap : Nat) (zs : List Int) (w : World) (hr : Rd w ao zs) (hb : Bts zs) (hn : zs.length ≤ 1048576) :
    Calls Tryz.prog 35 #[.slice ao zs.length cap] w fun e w' => ∃ g' cap', e = .returned (.slice (some ⟨g', 0, none⟩) (quote zs).length cap') ∧
      w'.ownsRow w.heap.size 5 1 (.slice (some ⟨g', 0, none⟩) (quote zs).length cap') (quote zs).length (bcells (quote zs)) ∧ Below w.heap.size w w' := by
  obtain ⟨i0, hi, hz0, hz1, hz2⟩ := info_parts info_u8
  obtain ⟨n, hnn⟩ : ∃ n, n = zs.length := ⟨_, rfl⟩
  obtain ⟨N, hNN⟩ : ∃ N, N = (quote zs).length := ⟨_, rfl⟩
  have HN : Hid (n = zs.length) := hnn
  have HQ : Hid (N = (quote zs).length) := hNN
  rw [← hnn] at hn ⊢
  rw [← hNN]
  have HR : Hid (Rd w ao zs) := hr
  have HB : Hid (Bts zs) := hb
  clear hnn hNN hr hb
  go_enter Tryz.func35, Tryz.ntmps35
  go_wp2
  go_loopw [4, 5] (fun v i wr => ∃ (k g c m : Nat), k ≤ n ∧ i = .int .i64 k ∧ v = .slice (some ⟨g, 0, none⟩) m c ∧ Hid (m = (upto zs k).length) ∧ wr.ownsRow w.heap.size 5 1 (.slice (some ⟨g, 0, none⟩) m c) m (bcells (upto zs k)) ∧ Below w.heap.size w wr) (fun _ i _ => n - (intOf i).toNat)
  case atStart => exact ⟨0, w.heap.size, 1, 1, Nat.zero_le _, rfl, rfl, rfl, own_quot w _ (Nat.le_refl _), (Below.refl _ _).alloc (Nat.le_refl _) _⟩
  case round =>
    obtain ⟨k, g, c, m, hk, rfl, rfl, HM, hown, hbel⟩ := hrel
    have hm4 : m ≤ 4 * k + 1 := by rw [HM.out]; exact upto_len zs k
    have hgB := (hown.lt g rfl).1
    have hBs := hbel.size
    by_cases hlt : k < n
    · obtain ⟨b, off, rfl, hbw, hcell⟩ := HR.out.at (by have := HN.out; omega)
      have hc : wr.cell? ⟨b, off + k, none⟩ = some (.int .u8 (zs.getD k 0)) := (hbel.cell (p := ⟨b, off + k, none⟩) hbw).trans (hcell k (by have := HN.out; omega))
      have hzb := HB.out k
      obtain ⟨z, hz⟩ : ∃ z, z = zs.getD k 0 := ⟨_, rfl⟩
      rw [← hz] at hc hzb
      have HZ : Hid (z = zs.getD k 0) := hz
      obtain ⟨hz1', hz2'⟩ := hzb
      have HS : Hid (upto zs (k + 1) = upto zs k ++ qc z) := by rw [HZ.out]; exact upto_succ (by have := HN.out; omega)
      clear hz hcell
      by_cases a1 : z = 10
      · subst a1
        go_wp2_with (at_builtin; refine wpList_append_lies _ rfl _ _ _ rfl w.heap.size 5 i0 (.int .u8 0) 1 1 Tryz.underlying27 hi hz0 hz1 hz2 rfl (by omega) _ m (bcells (upto zs k)) rfl (hown.alloc _) ⟨wr.heap.size, 0, none⟩ 2 2 [.int .u8 92, .int .u8 110] rfl rfl (World.news_of_block (cs := #[.int .u8 92, .int .u8 110]) (t := 5) (fr := (0, 0)) (heap_alloc_new wr _)) (by simp [Value.oneCell']) (by omega) (by unfold maxLen; omega) (by omega) (by simp; omega) (wr.heap.size + 1) (by simp) ?_; intro g' cap' w1 hown1 hgrow hat hlt2)
        go_roundw
        case rel => exact ⟨k + 1, g', cap', _, by omega, by go_num, rfl, by show _ = _; rw [HS.out, List.length_append, ← HM.out]; rfl, by rw [HS.out, bcells_append]; exact hown1, (hbel.alloc hbel.size _).grown hgrow (by simp; omega) (by intro k hk; cases hk; exact hgB)⟩
        case measure => simp [intOf]; omega
      by_cases a2 : z = 9
      · subst a2
        go_wp2_with (at_builtin; refine wpList_append_lies _ rfl _ _ _ rfl w.heap.size 5 i0 (.int .u8 0) 1 1 Tryz.underlying27 hi hz0 hz1 hz2 rfl (by omega) _ m (bcells (upto zs k)) rfl (hown.alloc _) ⟨wr.heap.size, 0, none⟩ 2 2 [.int .u8 92, .int .u8 116] rfl rfl (World.news_of_block (cs := #[.int .u8 92, .int .u8 116]) (t := 5) (fr := (0, 0)) (heap_alloc_new wr _)) (by simp [Value.oneCell']) (by omega) (by unfold maxLen; omega) (by omega) (by simp; omega) (wr.heap.size + 1) (by simp) ?_; intro g' cap' w1 hown1 hgrow hat hlt2)
        go_roundw
        case rel => exact ⟨k + 1, g', cap', _, by omega, by go_num, rfl, by show _ = _; rw [HS.out, List.length_append, ← HM.out]; rfl, by rw [HS.out, bcells_append]; exact hown1, (hbel.alloc hbel.size _).grown hgrow (by simp; omega) (by intro k hk; cases hk; exact hgB)⟩
        case measure => simp [intOf]; omega
      by_cases a3 : z = 34 ∨ z = 92
      · rw [qc_esc a3] at HS
        rcases a3 with rfl | rfl
        · go_wp2_with (at_builtin; refine wpList_append_lies _ rfl _ _ _ rfl w.heap.size 5 i0 (.int .u8 0) 1 1 Tryz.underlying27 hi hz0 hz1 hz2 rfl (by omega) _ m (bcells (upto zs k)) rfl (hown.alloc _) ⟨wr.heap.size, 0, none⟩ 2 2 [.int .u8 92, .int .u8 34] rfl rfl (World.news_of_block (cs := #[.int .u8 92, .int .u8 34]) (t := 5) (fr := (0, 0)) (heap_alloc_new wr _)) (by simp [Value.oneCell']) (by omega) (by unfold maxLen; omega) (by omega) (by simp; omega) (wr.heap.size + 1) (by simp) ?_; intro g' cap' w1 hown1 hgrow hat hlt2)
          go_roundw
          case rel => exact ⟨k + 1, g', cap', _, by omega, by go_num, rfl, by show _ = _; rw [HS.out, List.length_append, ← HM.out]; rfl, by rw [HS.out, bcells_append]; exact hown1, (hbel.alloc hbel.size _).grown hgrow (by simp; omega) (by intro k hk; cases hk; exact hgB)⟩
          case measure => simp [intOf]; omega
        · go_wp2_with (at_builtin; refine wpList_append_lies _ rfl _ _ _ rfl w.heap.size 5 i0 (.int .u8 0) 1 1 Tryz.underlying27 hi hz0 hz1 hz2 rfl (by omega) _ m (bcells (upto zs k)) rfl (hown.alloc _) ⟨wr.heap.size, 0, none⟩ 2 2 [.int .u8 92, .int .u8 92] rfl rfl (World.news_of_block (cs := #[.int .u8 92, .int .u8 92]) (t := 5) (fr := (0, 0)) (heap_alloc_new wr _)) (by simp [Value.oneCell']) (by omega) (by unfold maxLen; omega) (by omega) (by simp; omega) (wr.heap.size + 1) (by simp) ?_; intro g' cap' w1 hown1 hgrow hat hlt2)
          go_roundw
          case rel => exact ⟨k + 1, g', cap', _, by omega, by go_num, rfl, by show _ = _; rw [HS.out, List.length_append, ← HM.out]; rfl, by rw [HS.out, bcells_append]; exact hown1, (hbel.alloc hbel.size _).grown hgrow (by simp; omega) (by intro k hk; cases hk; exact hgB)⟩
          case measure => simp [intOf]; omega
      have e10 : (z == 10) = false := by simp; omega
      have e9 : (z == 9) = false := by simp; omega
      have e34 : (z == 34) = false := by simp; omega
      have e92 : (z == 92) = false := by simp; omega
      by_cases a4 : z < 32 ∨ 126 < z
      · rw [qc_hex a4 a1 a2] at HS
        have b1 : 0 ≤ z / 16 := by omega
        have b2 : z / 16 < 16 := by omega
        have b3 : 0 ≤ z % 16 := by omega
        have b4 : z % 16 < 16 := by omega
        have y1 := wrap_div z hz1' hz2'
        have y2 := tmod_nn z hz1'
        have x1 := hexS (z / 16) (by omega) (by omega)
        have x2 := hexS (z % 16) (by omega) (by omega)
        clear a1 a2 a3
        rcases a4 with a4 | a4
        all_goals
          go_wp2_with fail
          go_region_held3 (fun _ => True) (trivial) ((refine step_append_lies _ (by rfl) _ _ _ (by rfl) w.heap.size 5 i0 (.int .u8 0) 1 1 Tryz.underlying27 hi hz0 hz1 hz2 rfl (by omega) _ m (bcells (upto zs k)) (by rfl) ((hown.alloc _).drew) ⟨wr.heap.size, 0, none⟩ 4 4 [.int .u8 92, .int .u8 120, .int .u8 (hexd (z / 16)), .int .u8 (hexd (z % 16))] (by rfl) (by rfl) (World.news_of_block (cs := #[.int .u8 92, .int .u8 120, .int .u8 (hexd (z / 16)), .int .u8 (hexd (z % 16))]) (t := 5) (fr := (0, 0)) (heap_alloc_new wr _)) (by simp [Value.oneCell']) (by omega) (by unfold maxLen; omega) (by omega) (by simp; omega) (wr.heap.size + 1) (by simp) ?_; intro g' cap' w1 hown1 hgrow hat hlt2))
          all_goals
            go_wp2
            go_roundw
            case rel => exact ⟨k + 1, g', cap', _, by omega, by go_num, rfl, by show _ = _; rw [HS.out, List.length_append, ← HM.out]; rfl, by rw [HS.out, bcells_append]; exact hown1, ((hbel.alloc hbel.size _).drew).grown hgrow (by simp; omega) (by intro k hk; cases hk; exact hgB)⟩
            case measure => simp [intOf]; omega
      · rw [qc_one (by omega) (by omega) (by omega) (by omega)] at HS
        have a5 : 32 ≤ z := by omega
        have a6 : z ≤ 126 := by omega
        clear a1 a2 a3 a4
        go_wp2_with (at_builtin; refine wpList_append_lies _ rfl _ _ _ rfl w.heap.size 5 i0 (.int .u8 0) 1 1 Tryz.underlying27 hi hz0 hz1 hz2 rfl (by omega) _ m (bcells (upto zs k)) rfl (hown.alloc _) ⟨wr.heap.size, 0, none⟩ 1 1 [.int .u8 z] rfl rfl (World.news_of_block (cs := #[.int .u8 z]) (t := 5) (fr := (0, 0)) (heap_alloc_new wr _)) (by simp [Value.oneCell']) (by omega) (by unfold maxLen; omega) (by omega) (by simp; omega) (wr.heap.size + 1) (by simp) ?_; intro g' cap' w1 hown1 hgrow hat hlt2)
        go_roundw
        case rel => exact ⟨k + 1, g', cap', _, by omega, by go_num, rfl, by show _ = _; rw [HS.out, List.length_append, ← HM.out]; rfl, by rw [HS.out, bcells_append]; exact hown1, (hbel.alloc hbel.size _).grown hgrow (by simp; omega) (by intro k hk; cases hk; exact hgB)⟩
        case measure => simp [intOf]; omega
    · have hkn : k = n := by omega
      subst hkn
      go_wp2_with (at_builtin; refine wpList_append_lies _ rfl _ _ _ rfl w.heap.size 5 i0 (.int .u8 0) 1 1 Tryz.underlying27 hi hz0 hz1 hz2 rfl (by omega) _ m (bcells (upto zs k)) rfl (hown.alloc _) ⟨wr.heap.size, 0, none⟩ 1 1 [.int .u8 34] rfl rfl (World.news_of_block (cs := #[.int .u8 34]) (t := 5) (fr := (0, 0)) (heap_alloc_new wr _)) (by simp [Value.oneCell']) (by omega) (by unfold maxLen; omega) (by omega) (by simp; omega) (wr.heap.size + 1) (by simp) ?_; intro g' cap' w1 hown1 hgrow hat hlt)
      have e : m + 1 = N := by rw [HQ.out, ← upto_all, List.length_append, ← HN.out, ← HM.out]; rfl
      go_ret
      refine ⟨g', cap', by simp [e], ?_, (hbel.alloc hbel.size _).grown hgrow (by simp; omega) (by intro k hk; cases hk; exact hgB)⟩
      rw [e] at hown1
      rw [← upto_all, bcells_append, ← HN.out]
      exact hown1
end Go.Proofs.YtopibfnjbejiiaaGreatDoor.quo
