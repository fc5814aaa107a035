import Derived.Test.YteagakplhfiodaaDoorThMark
import Derived.Test.YteagakplhfiodaaDoorThImpl
namespace Go.Proofs.YteagakplhfiodaaDoor.th
open Go.RowKit Go.Proofs.YteagakplhfiodaaDoor.bts Go.Proofs.YteagakplhfiodaaDoor.pg Go.Proofs.YteagakplhfiodaaDoor.chk Go.Proofs.YteagakplhfiodaaDoor.sv

def sumN (f : Nat → Nat) : Nat → Nat
  | 0 => 0
  | j + 1 => sumN f j + f j
theorem sumN_mono (f : Nat → Nat) {i j : Nat} (h : i ≤ j) : sumN f i ≤ sumN f j := by
  induction h with
  | refl => exact Nat.le_refl _
  | step _ ih => exact Nat.le_trans ih (Nat.le_add_right _ _)
/-- Blocks from B on and below M alone have turned. -/
structure On (B M : Nat) (w w' : World) : Prop where
  below : Below B w w'
  far : ∀ b, M ≤ b → b < w.heap.size → w'.heap[b]? = w.heap[b]?
theorem On.refl (B M : Nat) (w : World) : On B M w w := ⟨Below.refl _ _, fun _ _ _ => rfl⟩
theorem On.trans {B M : Nat} {a b c : World} (h : On B M a b) (k : On B M b c) : On B M a c :=
  ⟨h.below.trans k.below, fun x h1 h2 => (k.far x h1 (Nat.lt_of_lt_of_le h2 h.below.size)).trans (h.far x h1 h2)⟩
theorem On.grown {B M : Nat} {a b c : World} {r : Option Nat} (h : On B M a b) (hg : b.grownBy c r) (hB : B ≤ b.heap.size) (h1 : ∀ k, r = some k → B ≤ k) (h2 : ∀ k, r = some k → k < M) : On B M a c :=
  h.trans ⟨(Below.refl B b).grown hg hB h1, fun x hx hl => hg.block x hl (fun e => by have := h2 x e.symm; omega)⟩
theorem On.wide {B M B' M' : Nat} {a b : World} (h : On B M a b) (hB : B' ≤ B) (hM : M ≤ M') : On B' M' a b := ⟨h.below.mono hB, fun x h1 h2 => h.far x (by omega) h2⟩

/-- Constants that are marked from k0 on. -/
structure MdK (w : World) (B : Nat) (v : Value) (n : Nat) (len : Nat → Nat) (ut : Nat → Value) (k0 : Int) : Prop where
  row : ∃ us, w.ownsRow B 40 3 v n us ∧ ∀ j, j < n → us[j * 3]? = some (.bool ((k0 + 2 * (j : Int) + (sumN len j : Int)) % 3 == 0)) ∧ us[j * 3 + 1]? = some (.int .i64 (k0 + 2 * (j : Int) + (sumN len j : Int) + 1)) ∧ us[j * 3 + 2]? = some (ut j)
  texts : ∀ j, j < n → IsS (ut j) (len j) ∧ w.ownsRow B 5 1 (ut j) (len j) (bcells (marks (k0 + 2 * (j : Int) + (sumN len j : Int) + 1 + 1) (len j)))

set_option maxRecDepth 100000 in
set_option maxHeartbeats 2000000 in
theorem markConstS_ex (a : Option Addr) (c n B M : Nat) (d : Nat → Cn) (ut : Nat → Value) (k0 : Int) (h0 : 0 ≤ k0) (h1 : k0 ≤ 1048576) (w : World) (h : BK w B (.slice a n c) n d ut) (hU : UnderK M (.slice a n c) n ut) (hn : n ≤ 1048576) (hs : sumN (fun j => (d j).text.length) n ≤ 1048576) :
    Calls Tryd.prog 21 #[.slice a n c, .int .i64 k0] w fun e w' => e = .returned (.int .i64 (k0 + 2 * (n : Int) + (sumN (fun j => (d j).text.length) n : Int))) ∧ MdK w' B (.slice a n c) n (fun j => (d j).text.length) ut k0 ∧ On B M w w' := by
  obtain ⟨xs, hown, hxs⟩ := h.row
  have HU : Hid (UnderK M (.slice a n c) n ut) := hU
  have HT : Hid (∀ j, j < n → IsS (ut j) (d j).text.length ∧ ∃ ys, w.ownsRow B 5 1 (ut j) (d j).text.length ys) := fun j hj => ⟨(h.texts j hj).1, _, (h.texts j hj).2⟩
  have HAP : Hid (Apart n ut) := h.apart
  have HSP : Hid (Clear n (.slice a n c) ut) := h.spine
  have HX3 : Hid (∀ j, j < n → xs[j * 3 + 2]? = some (ut j)) := fun j hj => (hxs j hj).2.2
  have HO : Hid (w.ownsRow B 40 3 (.slice a n c) n xs) := hown
  generalize hlen : (fun j => (d j).text.length) = len at hs
  have HT2 : Hid (∀ j, j < n → IsS (ut j) (len j) ∧ ∃ ys, w.ownsRow B 5 1 (ut j) (len j) ys) := by rw [← hlen]; exact HT.out
  clear h hU hxs hown HT hlen
  have HSZ : Hid (∀ j, j ≤ n → sumN len j ≤ 1048576) := fun j hj => Nat.le_trans (sumN_mono len hj) hs
  go_enter Tryd.func21, Tryd.ntmps21
  go_wp2
  go_loopw [1, 5] (fun q i wr => ∃ (k S : Nat) (us : List Value), k ≤ n ∧ S ≤ 1048576 ∧ i = .int .i64 k ∧ q = .int .i64 (k0 + 2 * (k : Int) + (S : Int)) ∧ Hid (S = sumN len k) ∧ Hid (wr.ownsRow B 40 3 (.slice a n c) n us) ∧ Hid (∀ j, j < n → us[j * 3 + 2]? = some (ut j)) ∧ Hid (∀ j, j < k → us[j * 3]? = some (.bool ((k0 + 2 * (j : Int) + (sumN len j : Int)) % 3 == 0)) ∧ us[j * 3 + 1]? = some (.int .i64 (k0 + 2 * (j : Int) + (sumN len j : Int) + 1)) ∧ wr.ownsRow B 5 1 (ut j) (len j) (bcells (marks (k0 + 2 * (j : Int) + (sumN len j : Int) + 1 + 1) (len j)))) ∧ Hid (∀ j, k ≤ j → j < n → ∃ ys, wr.ownsRow B 5 1 (ut j) (len j) ys) ∧ Hid (On B M w wr)) (fun _ i _ => n - (intOf i).toNat)
  case atStart => exact ⟨0, 0, xs, Nat.zero_le _, by omega, rfl, by go_num, rfl, HO.out, HX3.out, fun j hj => absurd hj (by omega), fun j _ hj => (HT2.out j hj).2, On.refl _ _ _⟩
  case round =>
    clear HO HX3
    obtain ⟨k, S, us, hk, hS, rfl, rfl, HS, HO, HX3, HM, HT, HON⟩ := hrel
    by_cases hlt : k < n
    · obtain ⟨g, cap, e, hgB, _⟩ := HO.out.form (by omega)
      simp only [Value.slice.injEq, true_and] at e
      obtain ⟨rfl, rfl⟩ := e
      have hgM : g < M := HU.out.1 g rfl
      have HL : Hid (us.length = n * 3) := HO.out.1
      have hl := HL.out
      have f0 := HO.out.frozenAt (k * 3)
      have f1 := HO.out.frozenAt (k * 3 + 1)
      have e0 := HO.out.cellAt (k * 3) (by omega)
      have e1 := HO.out.cellAt (k * 3 + 1) (by omega)
      have e2 := (HO.out.cellAt (k * 3 + 2) (by omega)).trans (HX3.out k hlt)
      rw [List.getElem?_eq_getElem (by omega)] at e0 e1
      generalize us[k * 3]'(by omega) = u0 at e0
      generalize us[k * 3 + 1]'(by omega) = u1 at e1
      obtain ⟨⟨ta, tc, et⟩, _⟩ := HT2.out k hlt
      have HET : Hid (ut k = .slice ta (len k) tc) := et
      rw [et] at e2
      have hlk : S + len k ≤ 1048576 := by have := HSZ.out (k + 1) (by omega); rw [HS.out]; exact this
      have HS2 : Hid (S + len k = sumN len (k + 1)) := by show _ = _; rw [HS.out]; rfl
      have s0 := HO.out.stored (k * 3) (.bool ((k0 + 2 * (k : Int) + (S : Int)) % 3 == 0))
      have s1 := s0.1.stored (k * 3 + 1) (.int .i64 (k0 + 2 * (k : Int) + (S : Int) + 1))
      have HG : Hid (wr.grownBy ((wr.setCell ⟨g, k * 3, none⟩ (.bool ((k0 + 2 * (k : Int) + (S : Int)) % 3 == 0))).setCell ⟨g, k * 3 + 1, none⟩ (.int .i64 (k0 + 2 * (k : Int) + (S : Int) + 1))) (some g)) := grown_step s0.2 s1.2
      have HO2 : Hid (((wr.setCell ⟨g, k * 3, none⟩ (.bool ((k0 + 2 * (k : Int) + (S : Int)) % 3 == 0))).setCell ⟨g, k * 3 + 1, none⟩ (.int .i64 (k0 + 2 * (k : Int) + (S : Int) + 1))).ownsRow B 40 3 (.slice (some ⟨g, 0, none⟩) n c) n ((us.set (k * 3) (.bool ((k0 + 2 * (k : Int) + (S : Int)) % 3 == 0))).set (k * 3 + 1) (.int .i64 (k0 + 2 * (k : Int) + (S : Int) + 1)))) := s1.1
      have HKP : Hid (∀ j, j < n → ∀ zs, wr.ownsRow B 5 1 (ut j) (len j) zs → ((wr.setCell ⟨g, k * 3, none⟩ (.bool ((k0 + 2 * (k : Int) + (S : Int)) % 3 == 0))).setCell ⟨g, k * 3 + 1, none⟩ (.int .i64 (k0 + 2 * (k : Int) + (S : Int) + 1))).ownsRow B 5 1 (ut j) (len j) zs) := fun j hj zs hz => own_hold hz (fun b _ h2 e => HG.out.block b h2 (fun e' => by cases e'; exact HSP.out j hj g rfl e))
      obtain ⟨ys, hys⟩ := HT.out k (Nat.le_refl _) hlt
      have C := markByteS_own (ut k) (len k) B ys (k0 + 2 * (k : Int) + (S : Int) + 1 + 1) (by omega) (by omega) _ (HKP.out k hlt ys hys) (by omega)
      rw [HET.out] at C
      clear s0 s1 hys et
      have hlt' : (k : Int) < (n : Int) := by omega
      go_wp2_with fail
      refine C.mono ?_
      rintro e w2 ⟨rfl, o2, g2⟩
      clear C
      rw [← HET.out] at o2 g2
      have HO3 : Hid (w2.ownsRow B 40 3 (.slice (some ⟨g, 0, none⟩) n c) n ((us.set (k * 3) (.bool ((k0 + 2 * (k : Int) + (S : Int)) % 3 == 0))).set (k * 3 + 1) (.int .i64 (k0 + 2 * (k : Int) + (S : Int) + 1)))) := own_hold HO2.out (fun b _ h2 e => g2.block b h2 (fun e' => by cases e; exact HSP.out k hlt g rfl e'.symm))
      have HK2 : Hid (∀ j, j < n → j ≠ k → ∀ zs, wr.ownsRow B 5 1 (ut j) (len j) zs → w2.ownsRow B 5 1 (ut j) (len j) zs) := fun j hj hne zs hz => own_hold (HKP.out j hj zs hz) (fun b _ h2 e => g2.block b h2 (fun e' => HAP.out j k hj hlt hne b e e'.symm))
      have HON2 : Hid (On B M w w2) := (HON.out.grown HG.out (by have := (HO.out.lt g rfl).2; omega) (fun k' hk' => by cases hk'; exact hgB) (fun k' hk' => by cases hk'; exact hgM)).grown g2 (by have := (HO2.out.lt g rfl).2; omega) (fun k' hk' => (o2.lt k' hk').1) (fun k' hk' => HU.out.2 k hlt k' hk')
      have HOT : Hid (w2.ownsRow B 5 1 (ut k) (len k) (bcells (marks (k0 + 2 * (k : Int) + (S : Int) + 1 + 1) (len k)))) := o2
      have HX4 : Hid (∀ j, j < n → ((us.set (k * 3) (.bool ((k0 + 2 * (k : Int) + (S : Int)) % 3 == 0))).set (k * 3 + 1) (.int .i64 (k0 + 2 * (k : Int) + (S : Int) + 1)))[j * 3 + 2]? = some (ut j)) := fun j hj => by
        rw [List.getElem?_set_ne (by omega), List.getElem?_set_ne (by omega)]; exact HX3.out j hj
      have HM2 : Hid (∀ j, j < k + 1 → ((us.set (k * 3) (.bool ((k0 + 2 * (k : Int) + (S : Int)) % 3 == 0))).set (k * 3 + 1) (.int .i64 (k0 + 2 * (k : Int) + (S : Int) + 1)))[j * 3]? = some (.bool ((k0 + 2 * (j : Int) + (sumN len j : Int)) % 3 == 0)) ∧ ((us.set (k * 3) (.bool ((k0 + 2 * (k : Int) + (S : Int)) % 3 == 0))).set (k * 3 + 1) (.int .i64 (k0 + 2 * (k : Int) + (S : Int) + 1)))[j * 3 + 1]? = some (.int .i64 (k0 + 2 * (j : Int) + (sumN len j : Int) + 1)) ∧ w2.ownsRow B 5 1 (ut j) (len j) (bcells (marks (k0 + 2 * (j : Int) + (sumN len j : Int) + 1 + 1) (len j)))) := fun j hj => by
        have hl := HL.out
        by_cases e : j = k
        · subst e
          rw [← HS.out]
          refine ⟨?_, ?_, HOT.out⟩
          · rw [List.getElem?_set_ne (by omega), List.getElem?_set_self (by omega)]
          · rw [List.getElem?_set_self (by rw [List.length_set]; omega)]
        · obtain ⟨m0, m1, m2⟩ := HM.out j (by omega)
          refine ⟨?_, ?_, HK2.out j (by omega) e _ m2⟩
          · rw [List.getElem?_set_ne (by omega), List.getElem?_set_ne (by omega)]; exact m0
          · rw [List.getElem?_set_ne (by omega), List.getElem?_set_ne (by omega)]; exact m1
      have HT3 : Hid (∀ j, k + 1 ≤ j → j < n → ∃ ys, w2.ownsRow B 5 1 (ut j) (len j) ys) := fun j h1 h2 => by
        obtain ⟨zs, hz⟩ := HT.out j (by omega) h2
        exact ⟨zs, HK2.out j h2 (by omega) zs hz⟩
      clear o2 g2 e0 e1 e2 f0 f1
      go_wp2
      go_roundw
      case rel => exact ⟨k + 1, S + len k, _, by omega, hlk, by go_num, by go_num, HS2.out, HO3.out, HX4.out, HM2.out, HT3.out, HON2.out⟩
      case measure => simp [intOf]; omega
    · have hkn : k = n := by omega
      subst hkn
      go_wp2
      go_ret
      exact ⟨by rw [HS.out]; rfl, ⟨⟨us, HO.out, fun j hj => ⟨(HM.out j hj).1, (HM.out j hj).2.1, HX3.out j hj⟩⟩, fun j hj => ⟨(HT2.out j hj).1, (HM.out j hj).2.2⟩⟩, HON.out⟩

set_option maxRecDepth 100000 in
set_option maxHeartbeats 2000000 in
theorem heldConstS_ex (a : Option Addr) (c n B : Nat) (len : Nat → Nat) (ut : Nat → Value) (k0 : Int) (h0 : 0 ≤ k0) (h1 : k0 ≤ 1048576) (w : World) (h : MdK w B (.slice a n c) n len ut k0) (hn : n ≤ 1048576) (hs : sumN len n ≤ 1048576) :
    Calls Tryd.prog 23 #[.slice a n c, .int .i64 k0] w fun e w' => e = .returned (.int .i64 (k0 + 2 * (n : Int) + (sumN len n : Int))) ∧ w' = w := by
  obtain ⟨us, hown, hus⟩ := h.row
  have HT : Hid (∀ j, j < n → IsS (ut j) (len j) ∧ w.ownsRow B 5 1 (ut j) (len j) (bcells (marks (k0 + 2 * (j : Int) + (sumN len j : Int) + 1 + 1) (len j)))) := h.texts
  have HX : Hid _ := hus
  have HO : Hid (w.ownsRow B 40 3 (.slice a n c) n us) := hown
  have HSZ : Hid (∀ j, j ≤ n → sumN len j ≤ 1048576) := fun j hj => Nat.le_trans (sumN_mono len hj) hs
  clear h hus hown
  go_enter Tryd.func23, Tryd.ntmps23
  go_wp2
  go_loop [1, 5] (fun q i => ∃ (k S : Nat), k ≤ n ∧ S ≤ 1048576 ∧ i = .int .i64 k ∧ q = .int .i64 (k0 + 2 * (k : Int) + (S : Int)) ∧ Hid (S = sumN len k)) (fun _ i => n - (intOf i).toNat)
  case atStart => exact ⟨0, 0, Nat.zero_le _, by omega, rfl, by go_num, rfl⟩
  case round =>
    obtain ⟨k, S, hk, hS, rfl, rfl, HS⟩ := hrel
    by_cases hlt : k < n
    · obtain ⟨g, cap, e, hgB, _⟩ := HO.out.form (by omega)
      simp only [Value.slice.injEq, true_and] at e
      obtain ⟨rfl, rfl⟩ := e
      obtain ⟨y0, y1, y2⟩ := HX.out k hlt
      rw [← HS.out] at y0 y1
      have e0 := (HO.out.cellAt (k * 3) (by omega)).trans y0
      have e1 := (HO.out.cellAt (k * 3 + 1) (by omega)).trans y1
      have e2 := (HO.out.cellAt (k * 3 + 2) (by omega)).trans y2
      obtain ⟨⟨ta, tc, et⟩, ht⟩ := HT.out k hlt
      rw [et] at e2 ht
      rw [← HS.out] at ht
      have C := heldByteS_marks ta tc (len k) (k0 + 2 * (k : Int) + (S : Int) + 1 + 1) (by omega) (by omega) w (rd_own ht) (by have := HSZ.out (k + 1) (by omega); unfold sumN at this; omega)
      have hlk : S + len k ≤ 1048576 := by have := HSZ.out (k + 1) (by omega); rw [HS.out]; exact this
      have HS2 : Hid (S + len k = sumN len (k + 1)) := by show _ = _; rw [HS.out]; rfl
      clear y0 y1 y2 ht et
      go_wp2_with fail
      refine C.mono ?_
      rintro e w' ⟨rfl, hw⟩
      replace hw := hw.symm
      subst hw
      clear C e0 e1 e2
      have hneg : decide (k0 + 2 * (k : Int) + (S : Int) + 1 + 1 + (len k : Int) < 0) = false := by simp; omega
      go_wp2
      go_round
      case rel => exact ⟨k + 1, S + len k, by omega, hlk, by go_num, by go_num, HS2.out⟩
      case measure => simp [intOf]; omega
    · have hkn : k = n := by omega
      subst hkn
      go_wp2
      go_ret
      exact ⟨by rw [HS.out]; rfl, rfl⟩
end Go.Proofs.YteagakplhfiodaaDoor.th
