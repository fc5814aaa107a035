import Derived.Deep.AppendLies
import Derived.Lib.ItoaLen
import Derived.Laws.BytesArg
import Derived.Test.YtepbddfpdlapbaaMBytesMore
import Derived.Test.YtepbddfpdlapbaaMQuoteMore
namespace Go.Proofs.Ytepbddfpdlapbaa.fmt
open Go.RowKit Go.Proofs.Ytepbddfpdlapbaa.bts
def ib (l : List UInt8) : List Int := l.map fun b => (b.toNat : Int)
theorem ib_length (l : List UInt8) : (ib l).length = l.length := by simp [ib]
theorem bcells_append (xs ys : List Int) : bcells (xs ++ ys) = bcells xs ++ bcells ys := by simp [bcells]
def dd (x : Int) : List Int := ib (Lib.decDigits x.toNat)
theorem dd_small {x : Int} (h0 : 0 ≤ x) (h : x < 10) : dd x = [48 + x] := by
  obtain ⟨k, rfl⟩ := Int.eq_ofNat_of_zero_le h0
  unfold dd
  rw [Int.toNat_natCast, Lib.decDigits_one (by omega)]
  simp [ib]; omega
theorem dd_step {x : Int} (h : 10 ≤ x) : dd x = dd (x / 10) ++ [48 + x % 10] := by
  obtain ⟨k, rfl⟩ := Int.eq_ofNat_of_zero_le (show 0 ≤ x by omega)
  unfold dd
  rw [Int.toNat_natCast, Lib.decDigits, dif_neg (by omega)]
  have e : ((k : Int) / 10).toNat = k / 10 := by omega
  rw [e]
  simp [ib]; omega
theorem dd_len (x : Int) (h : x ≤ 18446744073709551615) : (dd x).length ≤ 20 := by
  unfold dd
  rw [ib_length, Lib.decDigits_length]
  exact Lib.nDigits_le20 _ (by omega)
set_option maxRecDepth 100000 in
set_option maxHeartbeats 1000000 in
theorem digits_any : ∀ (k : Nat) (x : Int), x.toNat ≤ k → 0 ≤ x → x ≤ 18446744073709551615 → ∀ w : World,
    Calls Try.prog 40 #[.int .u64 x] w fun e w' => ∃ g cap, e = .returned (.slice (some ⟨g, 0, none⟩) (dd x).length cap) ∧
      w'.ownsRow w.heap.size 5 1 (.slice (some ⟨g, 0, none⟩) (dd x).length cap) (dd x).length (bcells (dd x)) ∧ Below w.heap.size w w' := by
  intro k
  induction k with
  | zero =>
    intro x hk h0 h1 w
    have hx : x = 0 := by omega
    subst hx
    rw [dd_small (by omega) (by omega)]
    clear hk h1
    go_enter Try.func40, Try.ntmps40
    go_wp2
    go_ret
    exact ⟨_, _, rfl, World.ownsRow_lit (e := 5) (size := 1) w #[.int .u8 (48 + 0)] 1 (Nat.le_refl _) (by unfold maxLen; omega) rfl, (Below.refl _ _).alloc (Nat.le_refl _) _⟩
  | succ k ih =>
    intro x hk h0 h1 w
    by_cases hx : x < 10
    · rw [dd_small h0 hx]
      clear hk h1 ih
      go_enter Try.func40, Try.ntmps40
      go_wp2
      go_ret
      exact ⟨_, _, rfl, World.ownsRow_lit (e := 5) (size := 1) w #[.int .u8 (48 + x)] 1 (Nat.le_refl _) (by unfold maxLen; omega) rfl, (Below.refl _ _).alloc (Nat.le_refl _) _⟩
    · have C := ih (x / 10) (by omega) (by omega) (by omega) w
      have hL := dd_len (x / 10) (by omega)
      have hS := dd_step (x := x) (by omega)
      obtain ⟨n, hn⟩ : ∃ n, n = (dd (x / 10)).length := ⟨_, rfl⟩
      rw [← hn] at C hL
      have hN : (dd x).length = n + 1 := by rw [hS, List.length_append, ← hn]; rfl
      have HS : Hid (dd x = dd (x / 10) ++ [48 + x % 10]) := hS
      obtain ⟨i0, hi, hz0, hz1, hz2⟩ := info_parts info_u8
      rw [hN]
      have hb1 : 0 ≤ x % 10 := by omega
      have hb2 : x % 10 < 10 := by omega
      clear hk ih hS hn hN
      go_enter Try.func40, Try.ntmps40
      go_wp2_with fail
      refine C.mono ?_
      rintro e w1 ⟨g, cap, rfl, hown, hbel⟩
      have hgB := (hown.lt g rfl).1
      have hBs := hbel.size
      clear C
      go_wp2_with (at_builtin; refine wpList_append_lies _ rfl _ _ _ rfl w.heap.size 5 i0 (.int .u8 0) 1 1 Try.underlying22 hi hz0 hz1 hz2 rfl (by omega) _ n (bcells (dd (x / 10))) rfl (hown.alloc _) ⟨w1.heap.size, 0, none⟩ 1 1 [.int .u8 (48 + x % 10)] rfl rfl (World.news_of_block (cs := #[.int .u8 (48 + x % 10)]) (t := 5) (fr := (0, 0)) (heap_alloc_new w1 _)) (by simp [Value.oneCell']) (by omega) (by unfold maxLen; omega) (by omega) (by simp; omega) (w1.heap.size + 1) (by simp) ?_; intro g' cap' w2 hown1 hgrow hat hlt)
      go_ret
      refine ⟨g', cap', rfl, ?_, (hbel.alloc hbel.size _).grown hgrow (by simp; omega) (by intro k hk; cases hk; exact hgB)⟩
      rw [HS.out, bcells_append]
      exact hown1
def fi (a : Int) : List Int := ib (Lib.itoa a)
theorem fi_pos {a : Int} (h : 0 ≤ a) : fi a = dd a := by unfold fi dd Lib.itoa; rw [if_neg (by omega)]
theorem fi_neg {a : Int} (h : a < 0) : fi a = 45 :: dd (-a) := by
  unfold fi dd Lib.itoa
  rw [if_pos h, show a.natAbs = (-a).toNat by omega]
  rfl
theorem fi_len (a : Int) (h0 : -9223372036854775808 ≤ a) (h1 : a ≤ 9223372036854775807) : (fi a).length ≤ 21 := by
  unfold fi; rw [ib_length]; exact Lib.itoa_length_le a h0 h1
def FmtPost (a : Int) (n : Nat) (w : World) (x : Ending) (w' : World) : Prop := Below w.heap.size w w' ∧
  ∃ ao c, x = .returned (.slice ao n c) ∧ w'.ownsRow w.heap.size 5 1 (.slice ao n c) n (bcells (fi a))
theorem neg_u64 (a : Int) (h0 : -9223372036854775808 ≤ a) (h : a < 0) : IntKind.u64.wrap (-(IntKind.u64.wrap a)) = -a := by
  rw [IntKind.wrap_u64, IntKind.wrap_u64]; omega
theorem pos_u64 (a : Int) (h0 : 0 ≤ a) (h : a ≤ 9223372036854775807) : IntKind.u64.wrap a = a := by
  rw [IntKind.wrap_u64]; omega
set_option maxRecDepth 100000 in
set_option maxHeartbeats 1000000 in
theorem specFmt_pos (a : Int) (h0 : 0 ≤ a) (h1 : a ≤ 9223372036854775807) (w : World) : Calls Try.prog 25 #[.int .i64 a] w (FmtPost a (fi a).length w) := by
  have C := digits_any a.toNat a (Nat.le_refl _) h0 (by omega) w
  rw [← fi_pos h0] at C
  have hu := pos_u64 a h0 h1
  clear h1
  go_enter Try.func25, Try.ntmps25
  go_wp2_with fail
  refine C.mono ?_
  rintro e w1 ⟨g, cap, rfl, hown, hbel⟩
  clear C
  go_wp2
  go_ret
  exact ⟨hbel, _, _, rfl, hown⟩
set_option maxRecDepth 100000 in
set_option maxHeartbeats 1000000 in
theorem specFmt_neg (a : Int) (h0 : -9223372036854775808 ≤ a) (h : a < 0) (w : World) : Calls Try.prog 25 #[.int .i64 a] w (FmtPost a (fi a).length w) := by
  have C := digits_any (-a).toNat (-a) (Nat.le_refl _) (by omega) (by omega) (w.alloc (.cells #[.int .u8 45] 5))
  have hL := dd_len (-a) (by omega)
  have hu := neg_u64 a h0 h
  have HS : Hid (fi a = 45 :: dd (-a)) := fi_neg h
  obtain ⟨n, hn⟩ : ∃ n, n = (dd (-a)).length := ⟨_, rfl⟩
  rw [← hn] at C hL
  have hN : (fi a).length = 1 + n := by rw [HS.out, List.length_cons, ← hn]; omega
  have HN : Hid ((dd (-a)).length = n) := hn.symm
  have hpos : 0 < n := by
    rw [hn]; unfold dd; rw [ib_length, Lib.decDigits_length]; unfold Lib.nDigits; split <;> omega
  rw [hN]
  obtain ⟨i0, hi, hz0, hz1, hz2⟩ := info_parts info_u8
  have hown0 : (w.alloc (.cells #[.int .u8 45] 5)).ownsRow w.heap.size 5 1 (.slice (some ⟨w.heap.size, 0, none⟩) 1 1) 1 (bcells [45]) :=
    World.ownsRow_lit (e := 5) (size := 1) w #[.int .u8 45] 1 (Nat.le_refl _) (by unfold maxLen; omega) rfl
  have HO : Hid _ := hown0
  clear h0 hn hN hown0
  go_enter Try.func25, Try.ntmps25
  go_wp2_with fail
  refine C.mono ?_
  rintro e w1 ⟨g, cap, rfl, hown, hbel⟩
  clear C
  have hs1 : (w.alloc (.cells #[.int .u8 45] 5)).heap.size = w.heap.size + 1 := by simp
  rw [hs1] at hbel hown
  have hsz : w.heap.size + 1 ≤ w1.heap.size := by have := hbel.size; rw [hs1] at this; exact this
  have hown1 : w1.ownsRow w.heap.size 5 1 (.slice (some ⟨w.heap.size, 0, none⟩) 1 1) 1 (bcells [45]) := own_below HO.out hbel (by omega)
  have HB : Hid (Below w.heap.size w w1) := ((Below.refl _ _).alloc (Nat.le_refl _) _).trans (hbel.mono (by omega))
  have hnews := hown.cells (g := g) rfl
  clear hs1 hbel hown
  go_wp2_with (at_builtin; refine wpList_append_lies _ rfl _ _ _ rfl w.heap.size 5 i0 (.int .u8 0) 1 1 Try.underlying22 hi hz0 hz1 hz2 rfl (by omega) _ 1 (bcells [45]) rfl hown1 ⟨g, 0, none⟩ n cap (bcells (dd (-a))) rfl (by rw [bcells_length, HN.out]; omega) hnews (by intro u hu; simp only [bcells, List.mem_map] at hu; obtain ⟨z, _, rfl⟩ := hu; rfl) hpos (by unfold maxLen; omega) (by omega) (by omega) w1.heap.size rfl ?_; intro g' cap' w2 hown2 hgrow hat hlt)
  go_ret
  refine ⟨HB.out.grown hgrow (by omega) (by intro k hk; cases hk; exact Nat.le_refl _), _, _, rfl, ?_⟩
  rw [HS.out, show (45 :: dd (-a) : List Int) = [45] ++ dd (-a) from rfl, bcells_append]
  exact hown2
end Go.Proofs.Ytepbddfpdlapbaa.fmt
namespace Go.Proofs.Ytepbddfpdlapbaa.vt
open Go.RowKit Go.Proofs.Ytepbddfpdlapbaa.bts Go.Proofs.Ytepbddfpdlapbaa.fmt
def Bytes (f : Nat) (ag : Array Value) (zs : List Int) : Prop :=
  ∀ w, Calls Try.prog f ag w fun x w' => ∃ g c, x = .returned (.slice (some ⟨g, 0, none⟩) zs.length c) ∧ w'.ownsRow w.heap.size 5 1 (.slice (some ⟨g, 0, none⟩) zs.length c) zs.length (bcells zs) ∧ Below w.heap.size w w'
theorem ib_bts (l : List UInt8) : Bts (ib l) := fun i => by
  unfold ib
  rw [List.getD_eq_getElem?_getD, List.getElem?_map]
  cases h : l[i]? with
  | none => simp
  | some x =>
    have := x.toNat_lt
    simp
    omega
theorem dd_pos (x : Int) : 0 < (dd x).length := by
  unfold dd; rw [ib_length, Lib.decDigits_length]; unfold Lib.nDigits; split <;> omega
set_option maxRecDepth 100000 in
set_option maxHeartbeats 1000000 in
theorem fmt_wide (a : Int) (h0 : 0 ≤ a) : ∃ zs, zs.length ≤ 20 ∧ 0 < zs.length ∧ Bts zs ∧ Bytes 25 #[.int .i64 a] zs := by
  have e : IntKind.u64.wrap a = a % 18446744073709551616 := rfl
  refine ⟨dd (a % 18446744073709551616), dd_len _ (by omega), dd_pos _, ib_bts _, fun w => ?_⟩
  have C := digits_any (a % 18446744073709551616).toNat (a % 18446744073709551616) (Nat.le_refl _) (by omega) (by omega) w
  generalize a % 18446744073709551616 = u at C e
  go_enter Try.func25, Try.ntmps25
  go_wp2_with fail
  refine C.mono ?_
  rintro e w1 ⟨g, cap, rfl, hown, hbel⟩
  clear C
  go_wp2
  go_ret
  exact ⟨_, _, rfl, hown, hbel⟩
theorem own_str {w : World} {base g c : Nat} {zs : List Int} (h : w.ownsRow base 5 1 (.slice (some ⟨g, 0, none⟩) zs.length c) zs.length (bcells zs)) :
    (convert 22 9 (.slice (some ⟨g, 0, none⟩) zs.length c)).run Try.prog w = .ok (.string (strOfNums zs)) w :=
  run_convert_bytes_arg w 22 5 Try.underlying22 Try.underlying5 g 0 _ c zs rfl (fun i hi => by
    obtain ⟨b, off, e, hc⟩ := Rd.own h i hi
    simp only [Option.some.injEq, Addr.mk.injEq, and_true] at e
    obtain ⟨rfl, rfl⟩ := e
    exact hc) 9 Try.underlying9
theorem rd_str {w : World} {ao : Option Addr} {c : Nat} {zs : List Int} (h : Rd w ao zs) (h0 : 0 < zs.length) :
    (convert 22 9 (.slice ao zs.length c)).run Try.prog w = .ok (.string (strOfNums zs)) w := by
  obtain ⟨b, off, rfl, _, hcell⟩ := h.at h0
  exact run_convert_bytes_arg w 22 5 Try.underlying22 Try.underlying5 b off _ c zs rfl (fun i hi => hcell i (by omega)) 9 Try.underlying9
end Go.Proofs.Ytepbddfpdlapbaa.vt
