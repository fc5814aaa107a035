import Derived.Test.YteagakplhfiodaaDoorThOwn
import Derived.Test.YteagakplhfiodaaDoorPgMark
namespace Go.Proofs.YteagakplhfiodaaDoor.th
open Go.RowKit Go.Proofs.YteagakplhfiodaaDoor.bts Go.Proofs.YteagakplhfiodaaDoor.pg Go.Proofs.YteagakplhfiodaaDoor.chk Go.Proofs.YteagakplhfiodaaDoor.sv

def CpMk (us : List Value) (k0 : Int) (n : Nat) : Prop := ∀ j : Nat, j < n → us[j * 2]? = some (.bool ((k0 + 2 * (j : Int)) % 3 == 0)) ∧ us[j * 2 + 1]? = some (.int .i64 (k0 + 2 * (j : Int) + 1))
def InMk (us : List Value) (k0 : Int) (n : Nat) : Prop := ∀ j : Nat, j < n → us[j * 3]? = some (.int .i64 (k0 + 3 * (j : Int))) ∧ us[j * 3 + 1]? = some (.int .i64 (k0 + 3 * (j : Int) + 1)) ∧ us[j * 3 + 2]? = some (.int .i64 (k0 + 3 * (j : Int) + 1 + 1))

set_option maxRecDepth 100000 in
set_option maxHeartbeats 1000000 in
theorem markCaptureS_ex (v : Value) (n B : Nat) (xs : List Value) (k0 : Int) (h0 : 0 ≤ k0) (h1 : k0 ≤ 16777216) (w : World) (hs : IsS v n) (hown : w.ownsRow B 48 2 v n xs) (hn : n ≤ 4194304) :
    Calls Tryd.prog 42 #[v, .int .i64 k0] w fun e w' => e = .returned (.int .i64 (k0 + 2 * (n : Int))) ∧ (∃ us, w'.ownsRow B 48 2 v n us ∧ CpMk us k0 n) ∧ w.grownBy w' v.ownBlock := by
  rcases hown.2 with ⟨rfl, rfl⟩ | ⟨g, cap, cur, rfl, _⟩
  · go_enter Tryd.func42, Tryd.ntmps42
    go_wp2
    refine wp_loop_rounds 1 ?_
    rw [rounds_succ]
    go_wp2
    go_ret
    exact ⟨by simp, ⟨[], World.ownsRow_nil _ _ _ _, fun j hj => absurd hj (by omega)⟩, World.grownBy.refl _ _⟩
  · clear hs
    go_enter Tryd.func42, Tryd.ntmps42
    go_wp2
    go_loopw [1, 5] (fun q i wr => ∃ (k : Nat) (us : List Value), k ≤ n ∧ i = .int .i64 k ∧ q = .int .i64 (k0 + 2 * (k : Int)) ∧ Hid (wr.ownsRow B 48 2 (.slice (some ⟨g, 0, none⟩) n cap) n us) ∧ Hid (CpMk us k0 k) ∧ Hid (w.grownBy wr (some g))) (fun _ i _ => n - (intOf i).toNat)
    case atStart => exact ⟨0, xs, Nat.zero_le _, rfl, by go_num, hown, fun j hj => absurd hj (by omega), World.grownBy.refl _ _⟩
    case round =>
      clear hown
      obtain ⟨k, us, hk, rfl, rfl, HO, HX, HG⟩ := hrel
      by_cases hlt : k < n
      · have HL : Hid (us.length = n * 2) := HO.out.1
        have f0 := HO.out.frozenAt (k * 2)
        have e0 := HO.out.cellAt (k * 2) (by omega)
        rw [List.getElem?_eq_getElem (by have := HL.out; omega)] at e0
        generalize us[k * 2]'(by have := HL.out; omega) = u0 at e0
        have f1 := HO.out.frozenAt (k * 2 + 1)
        have e1 := HO.out.cellAt (k * 2 + 1) (by omega)
        rw [List.getElem?_eq_getElem (by have := HL.out; omega)] at e1
        generalize us[k * 2 + 1]'(by have := HL.out; omega) = u1 at e1
        go_wp2
        go_roundw
        case rel =>
          have hl := HL.out
          have s0 := (HO.out).stored (k * 2) (.bool ((k0 + 2 * (k : Int)) % 3 == 0))
          have s1 := (s0.1).stored (k * 2 + 1) (.int .i64 (k0 + 2 * (k : Int) + 1))
          refine ⟨k + 1, _, by omega, by go_num, by go_num, s1.1, ?_, grown_step HG.out (grown_step (s0.2) s1.2)⟩
          intro j hj
          by_cases e : j = k
          · subst e
            refine ⟨?_, ?_⟩
            · rw [List.getElem?_set_ne (by omega), List.getElem?_set_self (by first | omega | (simp only [List.length_set]; omega))]
            · rw [List.getElem?_set_self (by first | omega | (simp only [List.length_set]; omega))]
          · obtain ⟨y0, y1⟩ := HX.out j (by omega)
            refine ⟨?_, ?_⟩
            all_goals
              repeat rw [List.getElem?_set_ne (by omega)]
              assumption
        case measure => simp [intOf]; omega
      · have hkn : k = n := by omega
        subst hkn
        go_wp2
        go_ret
        exact ⟨rfl, ⟨us, HO.out, HX.out⟩, HG.out⟩

set_option maxRecDepth 100000 in
set_option maxHeartbeats 1000000 in
theorem heldCaptureS_ex (v : Value) (n B : Nat) (us : List Value) (k0 : Int) (h0 : 0 ≤ k0) (h1 : k0 ≤ 16777216) (w : World) (hs : IsS v n) (hown : w.ownsRow B 48 2 v n us) (hx : CpMk us k0 n) (hn : n ≤ 4194304) :
    Calls Tryd.prog 45 #[v, .int .i64 k0] w fun e w' => e = .returned (.int .i64 (k0 + 2 * (n : Int))) ∧ w' = w := by
  rcases hown.2 with ⟨rfl, rfl⟩ | ⟨g, cap, cur, rfl, _⟩
  · go_enter Tryd.func45, Tryd.ntmps45
    go_wp2
    refine wp_loop_rounds 1 ?_
    rw [rounds_succ]
    go_wp2
    go_ret
    exact ⟨by simp, rfl⟩
  · have HO : Hid (w.ownsRow B 48 2 (.slice (some ⟨g, 0, none⟩) n cap) n us) := hown
    have HX : Hid (CpMk us k0 n) := hx
    clear hs hown hx
    go_enter Tryd.func45, Tryd.ntmps45
    go_wp2
    go_loop [1, 5] (fun q i => ∃ (k : Nat), k ≤ n ∧ i = .int .i64 k ∧ q = .int .i64 (k0 + 2 * (k : Int))) (fun _ i => n - (intOf i).toNat)
    case atStart => exact ⟨0, Nat.zero_le _, rfl, by go_num⟩
    case round =>
      obtain ⟨k, hk, rfl, rfl⟩ := hrel
      by_cases hlt : k < n
      · obtain ⟨y0, y1⟩ := HX.out k hlt
        have e0 := (HO.out.cellAt (k * 2) (by omega)).trans y0
        have e1 := (HO.out.cellAt (k * 2 + 1) (by omega)).trans y1
        clear y0 y1
        go_wp2
        go_round
        case rel => exact ⟨k + 1, by omega, by go_num, by go_num⟩
        case measure => simp [intOf]; omega
      · have hkn : k = n := by omega
        subst hkn
        go_wp2
        go_ret
        exact ⟨rfl, rfl⟩

set_option maxRecDepth 100000 in
set_option maxHeartbeats 1000000 in
theorem markInsS_ex (v : Value) (n B : Nat) (xs : List Value) (k0 : Int) (h0 : 0 ≤ k0) (h1 : k0 ≤ 16777216) (w : World) (hs : IsS v n) (hown : w.ownsRow B 50 3 v n xs) (hn : n ≤ 4194304) :
    Calls Tryd.prog 43 #[v, .int .i64 k0] w fun e w' => e = .returned (.int .i64 (k0 + 3 * (n : Int))) ∧ (∃ us, w'.ownsRow B 50 3 v n us ∧ InMk us k0 n) ∧ w.grownBy w' v.ownBlock := by
  rcases hown.2 with ⟨rfl, rfl⟩ | ⟨g, cap, cur, rfl, _⟩
  · go_enter Tryd.func43, Tryd.ntmps43
    go_wp2
    refine wp_loop_rounds 1 ?_
    rw [rounds_succ]
    go_wp2
    go_ret
    exact ⟨by simp, ⟨[], World.ownsRow_nil _ _ _ _, fun j hj => absurd hj (by omega)⟩, World.grownBy.refl _ _⟩
  · clear hs
    go_enter Tryd.func43, Tryd.ntmps43
    go_wp2
    go_loopw [1, 5] (fun q i wr => ∃ (k : Nat) (us : List Value), k ≤ n ∧ i = .int .i64 k ∧ q = .int .i64 (k0 + 3 * (k : Int)) ∧ Hid (wr.ownsRow B 50 3 (.slice (some ⟨g, 0, none⟩) n cap) n us) ∧ Hid (InMk us k0 k) ∧ Hid (w.grownBy wr (some g))) (fun _ i _ => n - (intOf i).toNat)
    case atStart => exact ⟨0, xs, Nat.zero_le _, rfl, by go_num, hown, fun j hj => absurd hj (by omega), World.grownBy.refl _ _⟩
    case round =>
      clear hown
      obtain ⟨k, us, hk, rfl, rfl, HO, HX, HG⟩ := hrel
      by_cases hlt : k < n
      · have HL : Hid (us.length = n * 3) := HO.out.1
        have f0 := HO.out.frozenAt (k * 3)
        have e0 := HO.out.cellAt (k * 3) (by omega)
        rw [List.getElem?_eq_getElem (by have := HL.out; omega)] at e0
        generalize us[k * 3]'(by have := HL.out; omega) = u0 at e0
        have f1 := HO.out.frozenAt (k * 3 + 1)
        have e1 := HO.out.cellAt (k * 3 + 1) (by omega)
        rw [List.getElem?_eq_getElem (by have := HL.out; omega)] at e1
        generalize us[k * 3 + 1]'(by have := HL.out; omega) = u1 at e1
        have f2 := HO.out.frozenAt (k * 3 + 2)
        have e2 := HO.out.cellAt (k * 3 + 2) (by omega)
        rw [List.getElem?_eq_getElem (by have := HL.out; omega)] at e2
        generalize us[k * 3 + 2]'(by have := HL.out; omega) = u2 at e2
        go_wp2
        go_roundw
        case rel =>
          have hl := HL.out
          have s0 := (HO.out).stored (k * 3) (.int .i64 (k0 + 3 * (k : Int)))
          have s1 := (s0.1).stored (k * 3 + 1) (.int .i64 (k0 + 3 * (k : Int) + 1))
          have s2 := (s1.1).stored (k * 3 + 2) (.int .i64 (k0 + 3 * (k : Int) + 1 + 1))
          refine ⟨k + 1, _, by omega, by go_num, by go_num, s2.1, ?_, grown_step HG.out (grown_step (grown_step (s0.2) s1.2) s2.2)⟩
          intro j hj
          by_cases e : j = k
          · subst e
            refine ⟨?_, ?_, ?_⟩
            · rw [List.getElem?_set_ne (by omega), List.getElem?_set_ne (by omega), List.getElem?_set_self (by first | omega | (simp only [List.length_set]; omega))]
            · rw [List.getElem?_set_ne (by omega), List.getElem?_set_self (by first | omega | (simp only [List.length_set]; omega))]
            · rw [List.getElem?_set_self (by first | omega | (simp only [List.length_set]; omega))]
          · obtain ⟨y0, y1, y2⟩ := HX.out j (by omega)
            refine ⟨?_, ?_, ?_⟩
            all_goals
              repeat rw [List.getElem?_set_ne (by omega)]
              assumption
        case measure => simp [intOf]; omega
      · have hkn : k = n := by omega
        subst hkn
        go_wp2
        go_ret
        exact ⟨rfl, ⟨us, HO.out, HX.out⟩, HG.out⟩

set_option maxRecDepth 100000 in
set_option maxHeartbeats 1000000 in
theorem heldInsS_ex (v : Value) (n B : Nat) (us : List Value) (k0 : Int) (h0 : 0 ≤ k0) (h1 : k0 ≤ 16777216) (w : World) (hs : IsS v n) (hown : w.ownsRow B 50 3 v n us) (hx : InMk us k0 n) (hn : n ≤ 4194304) :
    Calls Tryd.prog 46 #[v, .int .i64 k0] w fun e w' => e = .returned (.int .i64 (k0 + 3 * (n : Int))) ∧ w' = w := by
  rcases hown.2 with ⟨rfl, rfl⟩ | ⟨g, cap, cur, rfl, _⟩
  · go_enter Tryd.func46, Tryd.ntmps46
    go_wp2
    refine wp_loop_rounds 1 ?_
    rw [rounds_succ]
    go_wp2
    go_ret
    exact ⟨by simp, rfl⟩
  · have HO : Hid (w.ownsRow B 50 3 (.slice (some ⟨g, 0, none⟩) n cap) n us) := hown
    have HX : Hid (InMk us k0 n) := hx
    clear hs hown hx
    go_enter Tryd.func46, Tryd.ntmps46
    go_wp2
    go_loop [1, 5] (fun q i => ∃ (k : Nat), k ≤ n ∧ i = .int .i64 k ∧ q = .int .i64 (k0 + 3 * (k : Int))) (fun _ i => n - (intOf i).toNat)
    case atStart => exact ⟨0, Nat.zero_le _, rfl, by go_num⟩
    case round =>
      obtain ⟨k, hk, rfl, rfl⟩ := hrel
      by_cases hlt : k < n
      · obtain ⟨y0, y1, y2⟩ := HX.out k hlt
        have e0 := (HO.out.cellAt (k * 3) (by omega)).trans y0
        have e1 := (HO.out.cellAt (k * 3 + 1) (by omega)).trans y1
        have e2 := (HO.out.cellAt (k * 3 + 2) (by omega)).trans y2
        clear y0 y1 y2
        go_wp2
        go_round
        case rel => exact ⟨k + 1, by omega, by go_num, by go_num⟩
        case measure => simp [intOf]; omega
      · have hkn : k = n := by omega
        subst hkn
        go_wp2
        go_ret
        exact ⟨rfl, rfl⟩
end Go.Proofs.YteagakplhfiodaaDoor.th
