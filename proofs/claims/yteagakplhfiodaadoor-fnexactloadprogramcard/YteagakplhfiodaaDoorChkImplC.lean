import Derived.Test.YteagakplhfiodaaDoorChkImplB
import Derived.Deep.RegionHeld3
namespace Go.Proofs.YteagakplhfiodaaDoor.chk
open Go.RowKit Go.Proofs.YteagakplhfiodaaDoor.bts Go.Proofs.YteagakplhfiodaaDoor.pg

theorem Ck.below {w w' : World} {g : Nat} {uk up uc ud vT vB : Value} {fp fs : Int} {B : Nat} (h : Ck w g uk up fp fs uc ud vT vB) (hb : Below B w w') (hB : g < B) : Ck w' g uk up fp fs uc ud vT vB := (hb.block g hB).trans h
theorem Ck.lt {w : World} {g : Nat} {uk up uc ud vT vB : Value} {fp fs : Int} (h : Ck w g uk up fp fs uc ud vT vB) : g < w.heap.size := (Array.getElem?_eq_some_iff.1 h).1

theorem kn3 (nk np : Nat) (fs : Int) (nc nd : Nat) (v : Int) (h : 0 ≤ v) : kn nk np fs nc nd 3 v = decide (v < fs) := by unfold kn low top; simp [h]
theorem kn5 (nk np : Nat) (fs : Int) (nc nd : Nat) (v : Int) (h : 0 ≤ v) : kn nk np fs nc nd 5 v = decide (v < (nc : Int)) := by unfold kn low top; simp [h]

set_option maxRecDepth 100000 in
set_option maxHeartbeats 2000000 in
theorem lends_any (g : Nat) (f : Pr) (caps : List Cp) (ak ap ac ad : Option Addr) (nk ck np cp cc cd : Nat) (v vT vB : Value) (h0 : 0 ≤ f.slots) (h1 : f.slots ≤ 200) (w : World) (C : Ck w g (.slice ak nk ck) (.slice ap np cp) f.params f.slots (.slice ac f.caps.length cc) (.slice ad f.code.length cd) vT vB)
    (hr : RdCV w v caps) (hpos : ∀ j, j < caps.length → 0 ≤ (caps.getD j cp0).index) :
    Calls Tryd.prog 62 #[.pointer (some ⟨g, 0, none⟩), v] w fun e w' => e = .returned (.bool (caps.all (capOK f))) ∧ Below w.heap.size w w' := by
  obtain ⟨ao, cap, rfl, hm, hr⟩ := hr
  obtain ⟨n, hn⟩ : ∃ n, n = caps.length := ⟨_, rfl⟩
  have HN : Hid (caps.length = n) := hn.symm
  have HR : Hid (RdC w ao caps) := hr
  have HC : Hid (∀ W, Below w.heap.size w W → Ck W g (.slice ak nk ck) (.slice ap np cp) f.params f.slots (.slice ac f.caps.length cc) (.slice ad f.code.length cd) vT vB) := fun W hW => C.below hW C.lt
  have HCAP : Hid (∀ c : Cp, capOK f c = if c.up then decide (c.index < (f.caps.length : Int)) else decide (c.index < f.slots)) := fun _ => rfl
  have HPOS : Hid (∀ j, j < caps.length → 0 ≤ (caps.getD j cp0).index) := hpos
  obtain ⟨res, hres⟩ : ∃ b, b = caps.all (capOK f) := ⟨_, rfl⟩
  have HRES : Hid (caps.all (capOK f) = res) := hres.symm
  rw [← hres]
  rw [← hn] at hm ⊢
  clear C hr hn hpos hres
  go_enter Tryd.func62, Tryd.ntmps62
  go_wp2_with fail
  go_loopw [10] (fun x wr => ∃ i : Nat, i ≤ n ∧ x = .int .i64 i ∧ Hid (∀ j, j < i → capOK f (caps.getD j cp0) = true) ∧ Below w.heap.size w wr) (fun x _ => n - (intOf x).toNat)
  case atStart => exact ⟨0, Nat.zero_le _, rfl, fun j hj => absurd hj (by omega), Below.refl _ _⟩
  case round =>
    obtain ⟨i, hil, rfl, HOI, hbi⟩ := hrel
    have hsz := hbi.size
    by_cases hli : i < n
    · obtain ⟨b5, off5, rfl, e0, e1⟩ := (HR.out.below hbi) i (by rw [HN.out]; exact hli)
      have hli' : (i : Int) < (n : Int) := by omega
      have hpx := HPOS.out i (by rw [HN.out]; exact hli)
      generalize hX : caps.getD i cp0 = X at e0 e1 hpx
      have HX : Hid (caps.getD i cp0 = X) := hX
      clear hX
      obtain ⟨cu, ix⟩ := X
      simp only at e0 e1 hpx
      cases cu with
      | true =>
        have HK : Hid (∀ W, Below w.heap.size w W → Calls Tryd.prog 61 #[.pointer (some ⟨g, 0, none⟩), .int .i64 5, .int .i64 ix] W fun e w' => e = .returned (.bool (decide (ix < (f.caps.length : Int)))) ∧ ∃ m, w' = W.drewN m) := by
          intro W hW
          have := knows_any g 5 (by omega) ak ap ac ad nk ck np cp f.caps.length cc f.code.length cd f.params f.slots ix vT vB h0 h1 W (HC.out W hW)
          rw [kn5 _ _ _ _ _ _ hpx] at this
          exact this
        by_cases hin : ix < (f.caps.length : Int)
        · have HOI2 : Hid (∀ j, j < i + 1 → capOK f (caps.getD j cp0) = true) := by
            intro j hj
            by_cases e : j = i
            · rw [e, HX.out, HCAP.out]; simp [hin]
            · exact HOI.out j (by omega)
          rw [decide_eq_true hin] at HK
          clear HOI
          go_wp2_with (go_at_call 61; refine (HK.out _ (hbi.alloc hbi.size _)).mono ?_; rintro e w' ⟨rfl, m, rfl⟩)
          go_roundw
          case rel => exact ⟨i + 1, by omega, by go_num, HOI2.out, bel_drewN (hbi.alloc hbi.size _) _⟩
          case measure => simp [intOf]; omega
        · have HBAD : Hid (false = res) := by
            show _ = _
            rw [← HRES.out]
            symm
            rw [List.all_eq_false]
            refine ⟨caps.getD i cp0, ?_, by rw [HX.out, HCAP.out]; simp [hin]⟩
            have hj2 : i < caps.length := by rw [HN.out]; exact hli
            rw [List.getD_eq_getElem?_getD, List.getElem?_eq_getElem hj2]
            exact List.getElem_mem hj2
          rw [decide_eq_false hin] at HK
          clear HOI
          go_wp2_with (go_at_call 61; refine (HK.out _ (hbi.alloc hbi.size _)).mono ?_; rintro e w' ⟨rfl, m, rfl⟩)
          go_returns
          exact ⟨ret_bI HBAD.out, bel_drewN (hbi.alloc hbi.size _) _⟩
      | false =>
        have HK : Hid (∀ W, Below w.heap.size w W → Calls Tryd.prog 61 #[.pointer (some ⟨g, 0, none⟩), .int .i64 3, .int .i64 ix] W fun e w' => e = .returned (.bool (decide (ix < f.slots))) ∧ ∃ m, w' = W.drewN m) := by
          intro W hW
          have := knows_any g 3 (by omega) ak ap ac ad nk ck np cp f.caps.length cc f.code.length cd f.params f.slots ix vT vB h0 h1 W (HC.out W hW)
          rw [kn3 _ _ _ _ _ _ hpx] at this
          exact this
        by_cases hin : ix < f.slots
        · have HOI2 : Hid (∀ j, j < i + 1 → capOK f (caps.getD j cp0) = true) := by
            intro j hj
            by_cases e : j = i
            · rw [e, HX.out, HCAP.out]; simp [hin]
            · exact HOI.out j (by omega)
          rw [decide_eq_true hin] at HK
          clear HOI
          go_wp2_with (go_at_call 61; refine (HK.out _ (hbi.alloc hbi.size _)).mono ?_; rintro e w' ⟨rfl, m, rfl⟩)
          go_roundw
          case rel => exact ⟨i + 1, by omega, by go_num, HOI2.out, bel_drewN (hbi.alloc hbi.size _) _⟩
          case measure => simp [intOf]; omega
        · have HBAD : Hid (false = res) := by
            show _ = _
            rw [← HRES.out]
            symm
            rw [List.all_eq_false]
            refine ⟨caps.getD i cp0, ?_, by rw [HX.out, HCAP.out]; simp [hin]⟩
            have hj2 : i < caps.length := by rw [HN.out]; exact hli
            rw [List.getD_eq_getElem?_getD, List.getElem?_eq_getElem hj2]
            exact List.getElem_mem hj2
          rw [decide_eq_false hin] at HK
          clear HOI
          go_wp2_with (go_at_call 61; refine (HK.out _ (hbi.alloc hbi.size _)).mono ?_; rintro e w' ⟨rfl, m, rfl⟩)
          go_returns
          exact ⟨ret_bI HBAD.out, bel_drewN (hbi.alloc hbi.size _) _⟩
    · have HF : Hid (true = res) := by
        show _ = _
        rw [← HRES.out]
        symm
        rw [List.all_eq_true]
        intro x hx
        obtain ⟨j, hj, rfl⟩ := List.getElem_of_mem hx
        have := HOI.out j (by have := HN.out; omega)
        rwa [List.getD_eq_getElem?_getD, List.getElem?_eq_getElem hj] at this
      clear HOI
      go_wp2_with fail
      go_returns
      exact ⟨ret_bI HF.out, hbi⟩
end Go.Proofs.YteagakplhfiodaaDoor.chk
