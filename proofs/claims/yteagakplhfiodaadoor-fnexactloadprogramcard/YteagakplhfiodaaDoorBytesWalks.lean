import Derived.Test.YteagakplhfiodaaDoorBytesLists
import Derived.WalkKit
import Derived.ProofKit
import Derived.WalkLawsBesides
import Derived.RegionTactic
import Derived.ChangeAlike
import Derived.BigQuiet
import Derived.Deep.QuietTactic
import Derived.Outline
namespace Go.Proofs.YteagakplhfiodaaDoor.bts
open Go.RowKit

theorem info_u8 : (Tryd.prog.info? 5).map (fun i => (i.zero, i.size, i.bytes)) = some (some (.int .u8 0), 1, 1) := by kernel_rfl

set_option maxHeartbeats 400000 in
theorem toByteS_any (ao : Option Addr) (cap : Nat) (zs : List Int) (w : World) (hr : Rd w ao zs) (hn : zs.length ≤ 1048576) :
    Calls Tryd.prog 5 #[.slice ao zs.length cap] w fun e w' => e = .returned (.slice (some ⟨w.heap.size, 0, none⟩) zs.length zs.length) ∧
      w'.ownsRow w.heap.size 5 1 (.slice (some ⟨w.heap.size, 0, none⟩) zs.length zs.length) zs.length (bcells zs) ∧ Below w.heap.size w w' := by
  obtain ⟨i0, hi, hz0, hz1, hz2⟩ := info_parts info_u8
  obtain ⟨n, hnn⟩ : ∃ n, n = zs.length := ⟨_, rfl⟩
  have HN : Hid (n = zs.length) := hnn
  rw [← hnn] at hn ⊢
  clear hnn
  have hmx : n ≤ maxLen := by unfold maxLen; omega
  go_enter Tryd.func5, Tryd.ntmps5
  go_wp2_with (at_make; refine wpList_make_full _ rfl _ _ 22 rfl w.heap.size 5 i0 (.int .u8 0) 1 Tryd.underlying22 hi hz0 hz1 .i64 .i64 _ _ n rfl rfl rfl rfl (by rw [hz2]; omega) hmx (Nat.le_refl _) ?_; intro w1 hown hgrow)
  have hb1 : Below w.heap.size w w1 := (Below.refl _ _).grown hgrow (Nat.le_refl _) (by intro k hk; cases hk)
  go_loopw [4] (fun i wr => ∃ (k : Nat) (xs : List Value), k ≤ n ∧ i = .int .i64 k ∧ wr.ownsRow w.heap.size 5 1 (.slice (some ⟨w.heap.size, 0, none⟩) n n) n xs ∧ (∀ j, j < k → xs[j]? = some (.int .u8 (zs.getD j 0))) ∧ Below w.heap.size w wr) (fun i _ => n - (intOf i).toNat)
  case atStart => exact ⟨0, _, Nat.zero_le _, rfl, hown, fun j hj => absurd hj (by omega), hb1⟩
  case round =>
    clear hown hgrow hb1
    obtain ⟨k, xs, hk, rfl, hown, hxs, hb⟩ := hrel
    by_cases hlt : k < n
    · obtain ⟨b, off, rfl, hbw, hcell⟩ := hr.at (by have := HN.out; omega)
      have hc : wr.cell? ⟨b, off + k, none⟩ = some (.int .u8 (zs.getD k 0)) := (hb.cell (p := ⟨b, off + k, none⟩) hbw).trans (hcell k (by have := HN.out; omega))
      obtain ⟨z, hz⟩ : ∃ z, z = zs.getD k 0 := ⟨_, rfl⟩
      rw [← hz] at hc
      have HZ : Hid (z = zs.getD k 0) := hz
      have hfr := hown.frozenAt k
      have hct := hown.cellAt k (by omega)
      have hxl : xs.length = n := by have := hown.1; omega
      obtain ⟨u, hu⟩ : ∃ u, xs[k]? = some u := ⟨_, List.getElem?_eq_getElem (by omega)⟩
      rw [hu] at hct
      have hst := hown.stored k (.int .u8 z)
      have H : Hid (_ ∧ _) := hst
      have HX : Hid (∀ j, j < k → xs[j]? = some (.int .u8 (zs.getD j 0))) := hxs
      have HL : Hid (xs.length = n) := hxl
      clear hz hst hxs hown hxl hu hcell hr
      go_wp2
      go_roundw
      case rel =>
        refine ⟨k + 1, xs.set k (.int .u8 z), by omega, by go_num, H.out.1, ?_, hb.setCell (Nat.le_refl _) _⟩
        intro j hj
        have hl := HL.out
        by_cases e : j = k
        · subst e; rw [List.getElem?_set_self (by omega), HZ.out]
        · rw [List.getElem?_set_ne (by omega), HX.out j (by omega)]
      case measure => simp [intOf]; omega
    · have hkn : k = n := by omega
      subst hkn
      have HO : Hid _ := hown
      have HX : Hid _ := hxs
      clear hown hxs
      go_wp2
      go_ret
      have e := bcells_of (xs := xs) (zs := zs) (by have := HO.out.1; have := HN.out; omega) (by rw [← HN.out]; exact HX.out)
      rw [e] at HO
      exact ⟨rfl, HO.out, hb⟩

set_option maxHeartbeats 400000 in
theorem eqByteS_same (ao bo : Option Addr) (cap cap' : Nat) (zs : List Int) (w : World) (hr : Rd w ao zs) (hs : Rd w bo zs) (hn : zs.length ≤ 140737488355328) :
    Calls Tryd.prog 8 #[.slice ao zs.length cap, .slice bo zs.length cap'] w fun e w' => e = .returned (.bool true) ∧ ∃ m, w' = w.drewN m := by
  obtain ⟨n, hnn⟩ : ∃ n, n = zs.length := ⟨_, rfl⟩
  have HN : Hid (n = zs.length) := hnn
  rw [← hnn] at hn ⊢
  clear hnn
  go_enter Tryd.func8, Tryd.ntmps8
  go_wp2
  go_loopw [5] (fun i wr => ∃ (k m : Nat), k ≤ n ∧ i = .int .i64 k ∧ wr = w.drewN m) (fun i _ => n - (intOf i).toNat)
  case atStart => exact ⟨0, 0, Nat.zero_le _, rfl, rfl⟩
  case round =>
    obtain ⟨k, m, hk, rfl, rfl⟩ := hrel
    by_cases hlt : k < n
    · obtain ⟨b, off, rfl, hbw, hcell⟩ := hr.at (by have := HN.out; omega)
      obtain ⟨b', off', rfl, hbw', hcell'⟩ := hs.at (by have := HN.out; omega)
      have hc := hcell k (by have := HN.out; omega)
      have hc' := hcell' k (by have := HN.out; omega)
      obtain ⟨z, hz⟩ : ∃ z, z = zs.getD k 0 := ⟨_, rfl⟩
      rw [← hz] at hc hc'
      have hlt' : (k : Int) < (n : Int) := by omega
      clear hz hcell hcell' hr hs
      go_wp2
      go_quiet (fail)
      go_wp2
      go_roundw
      case rel => exact ⟨k + 1, m + nq, by omega, by go_num, by simp⟩
      case measure => simp [intOf]; omega
    · go_wp2
      go_ret
      exact ⟨rfl, _, rfl⟩

theorem grown_step {a b c : World} {row : Option Nat} (h : a.grownBy b row) (k : b.grownBy c row) : a.grownBy c row :=
  ⟨k.os.trans h.os, k.tape.trans h.tape, k.output.trans h.output, Nat.le_trans h.size k.size, fun i hi hne => (k.block i (Nat.lt_of_lt_of_le hi h.size) hne).trans (h.block i hi hne)⟩

def marks (k0 : Int) (n : Nat) : List Int := (List.range n).map fun j : Nat => (k0 + (j : Int)) % 256
theorem marks_length (k0 : Int) (n : Nat) : (marks k0 n).length = n := by simp [marks]
theorem marks_getD (k0 : Int) (n j : Nat) (h : j < n) : (marks k0 n).getD j 0 = (k0 + (j : Int)) % 256 := by simp [marks, List.getD_eq_getElem?_getD, h]

set_option maxHeartbeats 400000 in
theorem markByteS_own (v : Value) (n base : Nat) (xs : List Value) (k0 : Int) (h0 : 0 ≤ k0) (h1 : k0 ≤ 16777216) (w : World) (hown : w.ownsRow base 5 1 v n xs) (hn : n ≤ 140737488355328) :
    Calls Tryd.prog 9 #[v, .int .i64 k0] w fun e w' => e = .returned (.int .i64 (k0 + (n : Int))) ∧
      w'.ownsRow base 5 1 v n (bcells (marks k0 n)) ∧ w.grownBy w' v.ownBlock := by
  rcases hown.2 with ⟨rfl, rfl⟩ | ⟨g, cap, cur, rfl, hbg, hh, hnc, hcm, hcs, htk⟩
  · go_enter Tryd.func9, Tryd.ntmps9
    go_wp2
    refine wp_loop_rounds 1 ?_
    rw [rounds_succ]
    go_wp2
    go_ret
    exact ⟨by simp, ⟨by simp [bcells, marks], .inl ⟨rfl, rfl⟩⟩, World.grownBy.refl _ _⟩
  · clear hh htk hcs
    go_enter Tryd.func9, Tryd.ntmps9
    go_wp2
    go_loopw [1, 5] (fun q i wr => ∃ (k : Nat) (xs : List Value), k ≤ n ∧ i = .int .i64 k ∧ q = .int .i64 (k0 + (k : Int)) ∧ wr.ownsRow base 5 1 (.slice (some ⟨g, 0, none⟩) n cap) n xs ∧ (∀ j, j < k → xs[j]? = some (.int .u8 ((k0 + (j : Int)) % 256))) ∧ w.grownBy wr (some g)) (fun _ i _ => n - (intOf i).toNat)
    case atStart => exact ⟨0, _, Nat.zero_le _, rfl, by go_num, hown, fun j hj => absurd hj (by omega), World.grownBy.refl _ _⟩
    case round =>
      clear hown
      obtain ⟨k, xs, hk, rfl, rfl, hown, hxs, hb⟩ := hrel
      by_cases hlt : k < n
      · have hfr := hown.frozenAt k
        have hct := hown.cellAt k (by omega)
        have hxl : xs.length = n := by have := hown.1; omega
        obtain ⟨u, hu⟩ : ∃ u, xs[k]? = some u := ⟨_, List.getElem?_eq_getElem (by omega)⟩
        rw [hu] at hct
        clear hu
        have HO : Hid (wr.ownsRow base 5 1 (.slice (some ⟨g, 0, none⟩) n cap) n xs) := hown
        have HX : Hid (∀ j, j < k → xs[j]? = some (.int .u8 ((k0 + (j : Int)) % 256))) := hxs
        have HL : Hid (xs.length = n) := hxl
        clear hxs hown hxl
        go_wp2
        go_roundw
        case rel =>
          refine ⟨k + 1, xs.set k (.int .u8 ((k0 + (k : Int)) % 256)), by omega, by go_num, by go_num, (HO.out.stored k _).1, ?_, grown_step hb (HO.out.stored k _).2⟩
          intro j hj
          have hl := HL.out
          by_cases e : j = k
          · subst e; rw [List.getElem?_set_self (by omega)]
          · rw [List.getElem?_set_ne (by omega), HX.out j (by omega)]
        case measure => simp [intOf]; omega
      · have hkn : k = n := by omega
        subst hkn
        have HO : Hid _ := hown
        have HX : Hid _ := hxs
        clear hown hxs
        go_wp2
        go_ret
        have e := bcells_of (xs := xs) (zs := marks k0 k) (by have := HO.out.1; rw [marks_length]; omega) (by
          intro j hj
          rw [marks_length] at hj
          rw [marks_getD _ _ _ hj]
          exact HX.out j hj)
        rw [e] at HO
        exact ⟨rfl, HO.out, hb⟩

set_option maxHeartbeats 400000 in
theorem heldByteS_marks (ao : Option Addr) (cap n : Nat) (k0 : Int) (h0 : 0 ≤ k0) (h1 : k0 ≤ 16777216) (w : World) (hr : Rd w ao (marks k0 n)) (hn : n ≤ 140737488355328) :
    Calls Tryd.prog 44 #[.slice ao n cap, .int .i64 k0] w fun e w' => e = .returned (.int .i64 (k0 + (n : Int))) ∧ w' = w := by
  go_enter Tryd.func44, Tryd.ntmps44
  go_wp2
  go_loop [1, 5] (fun q i => ∃ (k : Nat), k ≤ n ∧ i = .int .i64 k ∧ q = .int .i64 (k0 + (k : Int))) (fun _ i => n - (intOf i).toNat)
  case atStart => exact ⟨0, Nat.zero_le _, rfl, by go_num⟩
  case round =>
    obtain ⟨k, hk, rfl, rfl⟩ := hrel
    by_cases hlt : k < n
    · obtain ⟨b, off, rfl, hbw, hcell⟩ := hr.at (by rw [marks_length]; omega)
      have hc := hcell k (by rw [marks_length]; omega)
      rw [marks_getD _ _ _ hlt] at hc
      clear hcell hr
      go_wp2
      go_round
      case rel => exact ⟨k + 1, by omega, by go_num, by go_num⟩
      case measure => simp [intOf]; omega
    · have hkn : k = n := by omega
      subst hkn
      go_wp2
      go_ret
      exact ⟨rfl, rfl⟩
end Go.Proofs.YteagakplhfiodaaDoor.bts
