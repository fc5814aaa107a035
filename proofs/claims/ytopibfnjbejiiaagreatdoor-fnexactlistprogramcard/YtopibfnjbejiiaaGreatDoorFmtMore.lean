import Derived.Test.YtopibfnjbejiiaaGreatDoorFmtWalks
namespace Go.Proofs.YtopibfnjbejiiaaGreatDoor.fmt
open Go.RowKit Go.Proofs.YtopibfnjbejiiaaGreatDoor.bts

/-- What FormatInt answers. -/
def fi (a : Int) : List Int := ib (Lib.itoa a)
theorem fi_pos {a : Int} (h : 0 ≤ a) : fi a = dd a := by unfold fi dd Lib.itoa; rw [if_neg (by omega)]
theorem fi_neg {a : Int} (h : a < 0) : fi a = 45 :: dd (-a) := by
  unfold fi dd Lib.itoa
  rw [if_pos h, show a.natAbs = (-a).toNat by omega]
  rfl
theorem fi_len (a : Int) (h0 : -9223372036854775808 ≤ a) (h1 : a ≤ 9223372036854775807) : (fi a).length ≤ 21 := by
  unfold fi; rw [ib_length]; exact Lib.itoa_length_le a h0 h1

/-- What both functions leave. -/
def FmtPost (a : Int) (n : Nat) (w : World) (x : Ending) (w' : World) : Prop := Below w.heap.size w w' ∧
  ∃ ao c, x = .returned (.slice ao n c) ∧ w'.ownsRow w.heap.size 5 1 (.slice ao n c) n (bcells (fi a))

theorem neg_u64 (a : Int) (h0 : -9223372036854775808 ≤ a) (h : a < 0) : IntKind.u64.wrap (-(IntKind.u64.wrap a)) = -a := by
  rw [IntKind.wrap_u64, IntKind.wrap_u64]; omega
theorem pos_u64 (a : Int) (h0 : 0 ≤ a) (h : a ≤ 9223372036854775807) : IntKind.u64.wrap a = a := by
  rw [IntKind.wrap_u64]; omega

set_option maxRecDepth 100000 in
set_option maxHeartbeats 1000000 in
theorem specFmt_pos (a : Int) (h0 : 0 ≤ a) (h1 : a ≤ 9223372036854775807) (w : World) : Calls Tryz.prog 32 #[.int .i64 a] w (FmtPost a (fi a).length w) := by
  have C := digits_any a.toNat a (Nat.le_refl _) h0 (by omega) w
  rw [← fi_pos h0] at C
  have hu := pos_u64 a h0 h1
  clear h1
  go_enter Tryz.func32, Tryz.ntmps32
  go_wp2_with fail
  refine C.mono ?_
  rintro e w1 ⟨g, cap, rfl, hown, hbel⟩
  clear C
  go_wp2
  go_ret
  exact ⟨hbel, _, _, rfl, hown⟩

set_option maxRecDepth 100000 in
set_option maxHeartbeats 1000000 in
theorem specFmt_neg (a : Int) (h0 : -9223372036854775808 ≤ a) (h : a < 0) (w : World) : Calls Tryz.prog 32 #[.int .i64 a] w (FmtPost a (fi a).length w) := by
  have C := digits_any (-a).toNat (-a) (Nat.le_refl _) (by omega) (by omega) (w.alloc (.cells #[.int .u8 45] 5))
  have hL := dd_len (-a) (by omega)
  have hu := neg_u64 a h0 h
  have HS : Hid (fi a = 45 :: dd (-a)) := fi_neg h
  obtain ⟨n, hn⟩ : ∃ n, n = (dd (-a)).length := ⟨_, rfl⟩
  rw [← hn] at C hL
  have hN : (fi a).length = 1 + n := by rw [HS.out, List.length_cons, ← hn]; omega
  have HN : Hid ((dd (-a)).length = n) := hn.symm
  have hpos : 0 < n := by
    rw [hn]; unfold dd; rw [ib_length, Lib.decDigits_length]; unfold Lib.nDigits; split <;> omega
  rw [hN]
  obtain ⟨i0, hi, hz0, hz1, hz2⟩ := info_parts info_u8
  have hown0 : (w.alloc (.cells #[.int .u8 45] 5)).ownsRow w.heap.size 5 1 (.slice (some ⟨w.heap.size, 0, none⟩) 1 1) 1 (bcells [45]) :=
    World.ownsRow_lit (e := 5) (size := 1) w #[.int .u8 45] 1 (Nat.le_refl _) (by unfold maxLen; omega) rfl
  have HO : Hid _ := hown0
  clear h0 hn hN hown0
  go_enter Tryz.func32, Tryz.ntmps32
  go_wp2_with fail
  refine C.mono ?_
  rintro e w1 ⟨g, cap, rfl, hown, hbel⟩
  clear C
  have hs1 : (w.alloc (.cells #[.int .u8 45] 5)).heap.size = w.heap.size + 1 := by simp
  rw [hs1] at hbel hown
  have hsz : w.heap.size + 1 ≤ w1.heap.size := by have := hbel.size; rw [hs1] at this; exact this
  have hown1 : w1.ownsRow w.heap.size 5 1 (.slice (some ⟨w.heap.size, 0, none⟩) 1 1) 1 (bcells [45]) := own_below HO.out hbel (by omega)
  have HB : Hid (Below w.heap.size w w1) := ((Below.refl _ _).alloc (Nat.le_refl _) _).trans (hbel.mono (by omega))
  have hnews := hown.cells (g := g) rfl
  clear hs1 hbel hown
  go_wp2_with (at_builtin; refine wpList_append_lies _ rfl _ _ _ rfl w.heap.size 5 i0 (.int .u8 0) 1 1 Tryz.underlying27 hi hz0 hz1 hz2 rfl (by omega) _ 1 (bcells [45]) rfl hown1 ⟨g, 0, none⟩ n cap (bcells (dd (-a))) rfl (by rw [bcells_length, HN.out]; omega) hnews (by intro u hu; simp only [bcells, List.mem_map] at hu; obtain ⟨z, _, rfl⟩ := hu; rfl) hpos (by unfold maxLen; omega) (by omega) (by omega) w1.heap.size rfl ?_; intro g' cap' w2 hown2 hgrow hat hlt)
  go_ret
  refine ⟨HB.out.grown hgrow (by omega) (by intro k hk; cases hk; exact Nat.le_refl _), _, _, rfl, ?_⟩
  rw [HS.out, show (45 :: dd (-a) : List Int) = [45] ++ dd (-a) from rfl, bcells_append]
  exact hown2

theorem ret_slice {v : Value} {ao : Option Addr} {n c : Nat} (h : v = .slice ao n c) : Ending.returned v = .returned (.slice ao n c) := by rw [h]

set_option maxRecDepth 100000 in
set_option maxHeartbeats 1000000 in
theorem implFmt_any (a : Int) (h0 : -9223372036854775808 ≤ a) (h1 : a ≤ 9223372036854775807) (w : World) (htab : Lib.TabIs Tryz.prog w "internal/strconv.uint64pow10" .u64 Lib.pow10Tab) :
    Calls Tryz.prog 46 #[.int .i64 a] w (FmtPost a (fi a).length w) := by
  have C := Any.strconv_AppendInt_10 Tryz.lays176 w.heap.size 0 a h0 h1 (.slice none 0 0) [] w (World.ownsRow_nil _ _ _ _) (Nat.le_refl _) (by omega) (Lib.tabBelow_of_tabIs htab)
  have C' : Calls Tryz.prog 72 #[.slice none 0 0, .int .i64 a, .int .i64 10] w (FmtPost a (fi a).length w) := by
    refine C.mono ?_
    rintro e w' ⟨v, rfl, hown, hbel, _⟩
    have e1 : (fi a).length = 0 + (Lib.itoa a).length := by unfold fi; rw [ib_length, Nat.zero_add]
    have hown' : w'.ownsRow w.heap.size 5 1 v (fi a).length (bcells (fi a)) := by
      rw [e1]; unfold fi; rw [bcells_ib]; exact hown
    rcases hown'.2 with ⟨hv, h0⟩ | ⟨g, cap, cur, hv, _⟩
    · refine ⟨hbel, none, 0, ?_, ?_⟩
      · rw [h0]; exact ret_slice hv
      · rw [h0]; rw [hv, h0] at hown'; exact hown'
    · subst hv
      exact ⟨hbel, _, _, rfl, hown'⟩
  clear C htab h0 h1
  go_enter Tryz.func46, Tryz.ntmps46
  go_wp2_with fail
  refine C'.mono ?_
  rintro e w' ⟨hbel, ao, c, rfl, hown⟩
  clear C'
  go_wp2
  go_ret
  exact ⟨hbel, ao, c, rfl, hown⟩
end Go.Proofs.YtopibfnjbejiiaaGreatDoor.fmt
