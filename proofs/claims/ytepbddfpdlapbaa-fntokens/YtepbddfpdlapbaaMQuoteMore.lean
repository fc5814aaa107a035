import Derived.Deep.RegionHeld3
import Derived.Deep.AppendLies
import Derived.WalkSpells
import Derived.Laws.BitsAllLaws
import Derived.Test.YtepbddfpdlapbaaMBytesMore
namespace Go.Proofs.Ytepbddfpdlapbaa.quo
open Go.RowKit Go.Proofs.Ytepbddfpdlapbaa.bts
def hexd (d : Int) : Int := if d < 10 then 48 + d else 87 + d
def qc (c : Int) : List Int :=
  if c = 10 then [92, 110] else if c = 9 then [92, 116] else if c = 34 ∨ c = 92 then [92, c] else if c < 32 ∨ 126 < c then [92, 120, hexd (c / 16), hexd (c % 16)] else [c]
theorem qc_len (c : Int) : (qc c).length ≤ 4 := by
  unfold qc; (repeat' split) <;> simp
theorem qc_esc {c : Int} (h : c = 34 ∨ c = 92) : qc c = [92, c] := by
  unfold qc; rw [if_neg (by omega), if_neg (by omega), if_pos h]
theorem qc_hex {c : Int} (h : c < 32 ∨ 126 < c) (h1 : ¬ c = 10) (h2 : ¬ c = 9) : qc c = [92, 120, hexd (c / 16), hexd (c % 16)] := by
  unfold qc; rw [if_neg h1, if_neg h2, if_neg (by omega), if_pos h]
theorem qc_one {c : Int} (h : 32 ≤ c) (h1 : c ≤ 126) (h2 : ¬ c = 34) (h3 : ¬ c = 92) : qc c = [c] := by
  unfold qc; rw [if_neg (by omega), if_neg (by omega), if_neg (by omega), if_neg (by omega)]
def upto (zs : List Int) (k : Nat) : List Int := 34 :: (zs.take k).flatMap qc
def quote (zs : List Int) : List Int := 34 :: zs.flatMap qc ++ [34]
theorem upto_zero (zs : List Int) : upto zs 0 = [34] := rfl
theorem upto_succ {zs : List Int} {k : Nat} (h : k < zs.length) : upto zs (k + 1) = upto zs k ++ qc (zs.getD k 0) := by
  unfold upto
  rw [List.take_succ_eq_append_getElem h, List.flatMap_append, List.cons_append]
  simp [List.getD_eq_getElem?_getD, List.getElem?_eq_getElem h]
theorem upto_len (zs : List Int) (k : Nat) : (upto zs k).length ≤ 4 * k + 1 := by
  induction k with
  | zero => simp [upto_zero]
  | succ k ih =>
    by_cases h : k < zs.length
    · rw [upto_succ h, List.length_append]
      have := qc_len (zs.getD k 0)
      omega
    · have : upto zs (k + 1) = upto zs k := by
        unfold upto; rw [List.take_of_length_le (by omega), List.take_of_length_le (by omega)]
      rw [this]; omega
theorem upto_all (zs : List Int) : upto zs zs.length ++ [34] = quote zs := by
  unfold upto quote; rw [List.take_length]
theorem quote_len (zs : List Int) : (quote zs).length ≤ 4 * zs.length + 2 := by
  rw [← upto_all, List.length_append]; have := upto_len zs zs.length; simp; omega
theorem bcells_append (xs ys : List Int) : bcells (xs ++ ys) = bcells xs ++ bcells ys := by simp [bcells]
theorem hexS (d : Int) (h0 : 0 ≤ d) (h1 : d < 16) (h : d.toNat < (ByteArray.mk #[48, 49, 50, 51, 52, 53, 54, 55, 56, 57, 97, 98, 99, 100, 101, 102]).size) :
    (((ByteArray.mk #[48, 49, 50, 51, 52, 53, 54, 55, 56, 57, 97, 98, 99, 100, 101, 102])[d.toNat]'h).toNat : Int) = hexd d := by
  obtain ⟨k, rfl⟩ := Int.eq_ofNat_of_zero_le h0
  match k, h1 with
  | 0, _ | 1, _ | 2, _ | 3, _ | 4, _ | 5, _ | 6, _ | 7, _ | 8, _ | 9, _ | 10, _ | 11, _ | 12, _ | 13, _ | 14, _ | 15, _ => rfl
  | k + 16, h1 => omega
theorem own_quot (w : World) (base : Nat) (hb : base ≤ w.heap.size) : (w.alloc (.cells #[.int .u8 34] 5)).ownsRow base 5 1 (.slice (some ⟨w.heap.size, 0, none⟩) 1 1) 1 (bcells [34]) := by
  have := World.ownsRow_lit (base := base) (e := 5) (size := 1) w #[.int .u8 34] 1 hb (by unfold maxLen; omega) rfl
  exact this
theorem tmod_nn (z : Int) (h0 : 0 ≤ z) : z.tmod 16 = z % 16 := Int.tmod_eq_emod_of_nonneg h0
theorem wrap_div (z : Int) (h0 : 0 ≤ z) (h1 : z ≤ 255) : IntKind.u8.wrap (z.tdiv 16) = z / 16 := by
  rw [Int.tdiv_eq_ediv_of_nonneg h0]
  show (z / 16) % 256 = z / 16
  omega
set_option maxRecDepth 100000 in
set_option maxHeartbeats 4000000 in
theorem specQuote_any (ao : Option Addr) (cap : Nat) (zs : List Int) (w : World) (hr : Rd w ao zs) (hb : Bts zs) (hn : zs.length ≤ 1048576) :
    Calls Try.prog 84 #[.slice ao zs.length cap] w fun e w' => ∃ g' cap', e = .returned (.slice (some ⟨g', 0, none⟩) (quote zs).length cap') ∧
      w'.ownsRow w.heap.size 5 1 (.slice (some ⟨g', 0, none⟩) (quote zs).length cap') (quote zs).length (bcells (quote zs)) ∧ Below w.heap.size w w' := by
  obtain ⟨i0, hi, hz0, hz1, hz2⟩ := info_parts info_u8
  obtain ⟨n, hnn⟩ : ∃ n, n = zs.length := ⟨_, rfl⟩
  obtain ⟨N, hNN⟩ : ∃ N, N = (quote zs).length := ⟨_, rfl⟩
  have HN : Hid (n = zs.length) := hnn
  have HQ : Hid (N = (quote zs).length) := hNN
  rw [← hnn] at hn ⊢
  rw [← hNN]
  have HR : Hid (Rd w ao zs) := hr
  have HB : Hid (Bts zs) := hb
  clear hnn hNN hr hb
  go_enter Try.func84, Try.ntmps84
  go_wp2
  go_loopw [4, 5] (fun v i wr => ∃ (k g c m : Nat), k ≤ n ∧ i = .int .i64 k ∧ v = .slice (some ⟨g, 0, none⟩) m c ∧ Hid (m = (upto zs k).length) ∧ wr.ownsRow w.heap.size 5 1 (.slice (some ⟨g, 0, none⟩) m c) m (bcells (upto zs k)) ∧ Below w.heap.size w wr) (fun _ i _ => n - (intOf i).toNat)
  case atStart => exact ⟨0, w.heap.size, 1, 1, Nat.zero_le _, rfl, rfl, rfl, own_quot w _ (Nat.le_refl _), (Below.refl _ _).alloc (Nat.le_refl _) _⟩
  case round =>
    obtain ⟨k, g, c, m, hk, rfl, rfl, HM, hown, hbel⟩ := hrel
    have hm4 : m ≤ 4 * k + 1 := by rw [HM.out]; exact upto_len zs k
    have hgB := (hown.lt g rfl).1
    have hBs := hbel.size
    by_cases hlt : k < n
    · obtain ⟨b, off, rfl, hbw, hcell⟩ := HR.out.at (by have := HN.out; omega)
      have hc : wr.cell? ⟨b, off + k, none⟩ = some (.int .u8 (zs.getD k 0)) := (hbel.cell (p := ⟨b, off + k, none⟩) hbw).trans (hcell k (by have := HN.out; omega))
      have hzb := HB.out k
      obtain ⟨z, hz⟩ : ∃ z, z = zs.getD k 0 := ⟨_, rfl⟩
      rw [← hz] at hc hzb
      have HZ : Hid (z = zs.getD k 0) := hz
      obtain ⟨hz1', hz2'⟩ := hzb
      have HS : Hid (upto zs (k + 1) = upto zs k ++ qc z) := by rw [HZ.out]; exact upto_succ (by have := HN.out; omega)
      clear hz hcell
      by_cases a1 : z = 10
      · subst a1
        go_wp2_with (at_builtin; refine wpList_append_lies _ rfl _ _ _ rfl w.heap.size 5 i0 (.int .u8 0) 1 1 Try.underlying22 hi hz0 hz1 hz2 rfl (by omega) _ m (bcells (upto zs k)) rfl (hown.alloc _) ⟨wr.heap.size, 0, none⟩ 2 2 [.int .u8 92, .int .u8 110] rfl rfl (World.news_of_block (cs := #[.int .u8 92, .int .u8 110]) (t := 5) (fr := (0, 0)) (heap_alloc_new wr _)) (by simp [Value.oneCell']) (by omega) (by unfold maxLen; omega) (by omega) (by simp; omega) (wr.heap.size + 1) (by simp) ?_; intro g' cap' w1 hown1 hgrow hat hlt2)
        go_roundw
        case rel => exact ⟨k + 1, g', cap', _, by omega, by go_num, rfl, by show _ = _; rw [HS.out, List.length_append, ← HM.out]; rfl, by rw [HS.out, bcells_append]; exact hown1, (hbel.alloc hbel.size _).grown hgrow (by simp; omega) (by intro k hk; cases hk; exact hgB)⟩
        case measure => simp [intOf]; omega
      by_cases a2 : z = 9
      · subst a2
        go_wp2_with (at_builtin; refine wpList_append_lies _ rfl _ _ _ rfl w.heap.size 5 i0 (.int .u8 0) 1 1 Try.underlying22 hi hz0 hz1 hz2 rfl (by omega) _ m (bcells (upto zs k)) rfl (hown.alloc _) ⟨wr.heap.size, 0, none⟩ 2 2 [.int .u8 92, .int .u8 116] rfl rfl (World.news_of_block (cs := #[.int .u8 92, .int .u8 116]) (t := 5) (fr := (0, 0)) (heap_alloc_new wr _)) (by simp [Value.oneCell']) (by omega) (by unfold maxLen; omega) (by omega) (by simp; omega) (wr.heap.size + 1) (by simp) ?_; intro g' cap' w1 hown1 hgrow hat hlt2)
        go_roundw
        case rel => exact ⟨k + 1, g', cap', _, by omega, by go_num, rfl, by show _ = _; rw [HS.out, List.length_append, ← HM.out]; rfl, by rw [HS.out, bcells_append]; exact hown1, (hbel.alloc hbel.size _).grown hgrow (by simp; omega) (by intro k hk; cases hk; exact hgB)⟩
        case measure => simp [intOf]; omega
      by_cases a3 : z = 34 ∨ z = 92
      · rw [qc_esc a3] at HS
        rcases a3 with rfl | rfl
        · go_wp2_with (at_builtin; refine wpList_append_lies _ rfl _ _ _ rfl w.heap.size 5 i0 (.int .u8 0) 1 1 Try.underlying22 hi hz0 hz1 hz2 rfl (by omega) _ m (bcells (upto zs k)) rfl (hown.alloc _) ⟨wr.heap.size, 0, none⟩ 2 2 [.int .u8 92, .int .u8 34] rfl rfl (World.news_of_block (cs := #[.int .u8 92, .int .u8 34]) (t := 5) (fr := (0, 0)) (heap_alloc_new wr _)) (by simp [Value.oneCell']) (by omega) (by unfold maxLen; omega) (by omega) (by simp; omega) (wr.heap.size + 1) (by simp) ?_; intro g' cap' w1 hown1 hgrow hat hlt2)
          go_roundw
          case rel => exact ⟨k + 1, g', cap', _, by omega, by go_num, rfl, by show _ = _; rw [HS.out, List.length_append, ← HM.out]; rfl, by rw [HS.out, bcells_append]; exact hown1, (hbel.alloc hbel.size _).grown hgrow (by simp; omega) (by intro k hk; cases hk; exact hgB)⟩
          case measure => simp [intOf]; omega
        · go_wp2_with (at_builtin; refine wpList_append_lies _ rfl _ _ _ rfl w.heap.size 5 i0 (.int .u8 0) 1 1 Try.underlying22 hi hz0 hz1 hz2 rfl (by omega) _ m (bcells (upto zs k)) rfl (hown.alloc _) ⟨wr.heap.size, 0, none⟩ 2 2 [.int .u8 92, .int .u8 92] rfl rfl (World.news_of_block (cs := #[.int .u8 92, .int .u8 92]) (t := 5) (fr := (0, 0)) (heap_alloc_new wr _)) (by simp [Value.oneCell']) (by omega) (by unfold maxLen; omega) (by omega) (by simp; omega) (wr.heap.size + 1) (by simp) ?_; intro g' cap' w1 hown1 hgrow hat hlt2)
          go_roundw
          case rel => exact ⟨k + 1, g', cap', _, by omega, by go_num, rfl, by show _ = _; rw [HS.out, List.length_append, ← HM.out]; rfl, by rw [HS.out, bcells_append]; exact hown1, (hbel.alloc hbel.size _).grown hgrow (by simp; omega) (by intro k hk; cases hk; exact hgB)⟩
          case measure => simp [intOf]; omega
      have e10 : (z == 10) = false := by simp; omega
      have e9 : (z == 9) = false := by simp; omega
      have e34 : (z == 34) = false := by simp; omega
      have e92 : (z == 92) = false := by simp; omega
      by_cases a4 : z < 32 ∨ 126 < z
      · rw [qc_hex a4 a1 a2] at HS
        have b1 : 0 ≤ z / 16 := by omega
        have b2 : z / 16 < 16 := by omega
        have b3 : 0 ≤ z % 16 := by omega
        have b4 : z % 16 < 16 := by omega
        have y1 := wrap_div z hz1' hz2'
        have y2 := tmod_nn z hz1'
        have x1 := hexS (z / 16) (by omega) (by omega)
        have x2 := hexS (z % 16) (by omega) (by omega)
        clear a1 a2 a3
        rcases a4 with a4 | a4
        all_goals
          go_wp2_with fail
          go_region_held3 (fun _ => True) (trivial) ((refine step_append_lies _ (by rfl) _ _ _ (by rfl) w.heap.size 5 i0 (.int .u8 0) 1 1 Try.underlying22 hi hz0 hz1 hz2 rfl (by omega) _ m (bcells (upto zs k)) (by rfl) ((hown.alloc _).drew) ⟨wr.heap.size, 0, none⟩ 4 4 [.int .u8 92, .int .u8 120, .int .u8 (hexd (z / 16)), .int .u8 (hexd (z % 16))] (by rfl) (by rfl) (World.news_of_block (cs := #[.int .u8 92, .int .u8 120, .int .u8 (hexd (z / 16)), .int .u8 (hexd (z % 16))]) (t := 5) (fr := (0, 0)) (heap_alloc_new wr _)) (by simp [Value.oneCell']) (by omega) (by unfold maxLen; omega) (by omega) (by simp; omega) (wr.heap.size + 1) (by simp) ?_; intro g' cap' w1 hown1 hgrow hat hlt2))
          all_goals
            go_wp2
            go_roundw
            case rel => exact ⟨k + 1, g', cap', _, by omega, by go_num, rfl, by show _ = _; rw [HS.out, List.length_append, ← HM.out]; rfl, by rw [HS.out, bcells_append]; exact hown1, ((hbel.alloc hbel.size _).drew).grown hgrow (by simp; omega) (by intro k hk; cases hk; exact hgB)⟩
            case measure => simp [intOf]; omega
      · rw [qc_one (by omega) (by omega) (by omega) (by omega)] at HS
        have a5 : 32 ≤ z := by omega
        have a6 : z ≤ 126 := by omega
        clear a1 a2 a3 a4
        go_wp2_with (at_builtin; refine wpList_append_lies _ rfl _ _ _ rfl w.heap.size 5 i0 (.int .u8 0) 1 1 Try.underlying22 hi hz0 hz1 hz2 rfl (by omega) _ m (bcells (upto zs k)) rfl (hown.alloc _) ⟨wr.heap.size, 0, none⟩ 1 1 [.int .u8 z] rfl rfl (World.news_of_block (cs := #[.int .u8 z]) (t := 5) (fr := (0, 0)) (heap_alloc_new wr _)) (by simp [Value.oneCell']) (by omega) (by unfold maxLen; omega) (by omega) (by simp; omega) (wr.heap.size + 1) (by simp) ?_; intro g' cap' w1 hown1 hgrow hat hlt2)
        go_roundw
        case rel => exact ⟨k + 1, g', cap', _, by omega, by go_num, rfl, by show _ = _; rw [HS.out, List.length_append, ← HM.out]; rfl, by rw [HS.out, bcells_append]; exact hown1, (hbel.alloc hbel.size _).grown hgrow (by simp; omega) (by intro k hk; cases hk; exact hgB)⟩
        case measure => simp [intOf]; omega
    · have hkn : k = n := by omega
      subst hkn
      go_wp2_with (at_builtin; refine wpList_append_lies _ rfl _ _ _ rfl w.heap.size 5 i0 (.int .u8 0) 1 1 Try.underlying22 hi hz0 hz1 hz2 rfl (by omega) _ m (bcells (upto zs k)) rfl (hown.alloc _) ⟨wr.heap.size, 0, none⟩ 1 1 [.int .u8 34] rfl rfl (World.news_of_block (cs := #[.int .u8 34]) (t := 5) (fr := (0, 0)) (heap_alloc_new wr _)) (by simp [Value.oneCell']) (by omega) (by unfold maxLen; omega) (by omega) (by simp; omega) (wr.heap.size + 1) (by simp) ?_; intro g' cap' w1 hown1 hgrow hat hlt)
      have e : m + 1 = N := by rw [HQ.out, ← upto_all, List.length_append, ← HN.out, ← HM.out]; rfl
      go_ret
      refine ⟨g', cap', by simp [e], ?_, (hbel.alloc hbel.size _).grown hgrow (by simp; omega) (by intro k hk; cases hk; exact hgB)⟩
      rw [e] at hown1
      rw [← upto_all, bcells_append, ← HN.out]
      exact hown1
end Go.Proofs.Ytepbddfpdlapbaa.quo
