import Derived.Test.YtccnjmnafkfjdaaGreatTrParts
namespace Go.Proofs.YtccnjmnafkfjdaaGreat.vt
open Go.RowKit Go.Proofs.YtccnjmnafkfjdaaGreat.bts Go.Proofs.YtccnjmnafkfjdaaGreat.nod Go.Proofs.YtccnjmnafkfjdaaGreat.lex

theorem plain_any (g : Nat) (d : Nd) (ao : Option Addr) (m cap : Nat) (at_ an : Option Addr) (ca cn : Nat) (w : World) (N : Node6 w g d ao m cap at_ an ca cn) (hm : RcVV w (.slice an d.names.length cn) d.names) (hsz : d.text.length + sizeSS d.names ≤ 1048576) :
    Calls Tryz.prog 66 #[.pointer (some ⟨g, 0, none⟩)] w fun e w' => e = .returned (.bool (named d.n d.text d.names 0 0)) ∧ w' = w := by
  have C := named_any g d ao m cap at_ an ca cn 0 0 w N hm hsz (by omega) (by omega)
  generalize named d.n d.text d.names 0 0 = rr at C ⊢
  clear N hm hsz
  go_enter Tryz.func66, Tryz.ntmps66
  go_wp2_with fail
  refine C.mono ?_
  rintro e w' ⟨rfl, hw⟩
  replace hw := hw.symm
  subst hw
  clear C
  go_wp2_with fail
  go_ret
  exact ⟨rfl, rfl⟩

set_option maxRecDepth 100000 in
set_option maxHeartbeats 1000000 in
theorem numbered_any (g : Nat) (d : Nd) (ao : Option Addr) (m cap : Nat) (at_ an : Option Addr) (ca cn : Nat) (lo hi : Int) (w : World) (N : Node6 w g d ao m cap at_ an ca cn) (hsz : d.text.length + sizeSS d.names ≤ 1048576) :
    Calls Tryz.prog 84 #[.pointer (some ⟨g, 0, none⟩), .int .i64 lo, .int .i64 hi] w fun e w' => e = .returned (.bool (numbered d.n d.text d.names lo hi)) ∧ w' = w := by
  obtain ⟨c0, c1, c2, c3, c4, c5⟩ := N
  have hp : d.text.length ≤ 1048576 := by omega
  have hq : d.names.length ≤ 1048576 := by unfold sizeSS at hsz; omega
  unfold numbered
  generalize d.n = nn at *
  generalize d.text.length = p at *
  generalize d.names.length = q at *
  clear hsz
  by_cases h1 : lo ≤ nn
  · by_cases h2 : nn ≤ hi
    · have e1 : decide (lo ≤ nn) = true := decide_eq_true h1
      have e2 : decide (nn ≤ hi) = true := decide_eq_true h2
      by_cases h3 : p = 0
      · subst h3
        go_enter Tryz.func84, Tryz.ntmps84
        go_wp2_with fail
        go_ret
        refine ⟨ret_bool ?_, rfl⟩
        rw [e1, e2]
        by_cases h4 : q = 0
        · subst h4; rfl
        · rw [decide_eq_false h4]; simp [h4]
      · have e3 : ((p : Int) == 0) = false := by simp; omega
        go_enter Tryz.func84, Tryz.ntmps84
        go_wp2_with fail
        go_ret
        exact ⟨ret_bool (by rw [decide_eq_false h3]; simp), rfl⟩
    · have e1 : decide (lo ≤ nn) = true := decide_eq_true h1
      have e2 : decide (nn ≤ hi) = false := decide_eq_false h2
      go_enter Tryz.func84, Tryz.ntmps84
      go_wp2_with fail
      go_ret
      exact ⟨ret_bool (by first | rfl | (rw [e2]; simp)), rfl⟩
  · have e1 : decide (lo ≤ nn) = false := decide_eq_false h1
    go_enter Tryz.func84, Tryz.ntmps84
    go_wp2_with fail
    go_ret
    exact ⟨ret_bool (by first | rfl | (rw [e1]; rfl)), rfl⟩

theorem ta_no {r : Nat} {ks : List Int} {lo hi : Nat} (h : ¬ (lo ≤ ks.length ∧ ks.length ≤ hi)) : takesAll r ks lo hi = false := by
  rw [Bool.eq_false_iff]
  intro hc
  unfold takesAll at hc
  simp only [Bool.and_eq_true, decide_eq_true_eq] at hc
  exact h ⟨hc.1, hc.2.1⟩
theorem allB_iff {p : Int → Bool} {ks : List Int} : ks.all p = true ↔ ∀ k, k < ks.length → p (ks.getD k 0) = true := by
  rw [List.all_eq_true]
  constructor
  · intro h k hk
    have e : ks.getD k 0 = ks[k] := by simp [List.getD_eq_getElem?_getD, List.getElem?_eq_getElem hk]
    rw [e]; exact h _ (List.getElem_mem hk)
  · intro h x hx
    obtain ⟨k, hk, rfl⟩ := List.getElem_of_mem hx
    have := h k hk
    have e : ks.getD k 0 = ks[k] := by simp [List.getD_eq_getElem?_getD, List.getElem?_eq_getElem hk]
    rwa [e] at this
theorem ta_at {r : Nat} {ks : List Int} {lo hi k : Nat} (hk : k < ks.length) (h : takes r (ks.getD k 0) = false) : takesAll r ks lo hi = false := by
  rw [Bool.eq_false_iff]
  intro hc
  unfold takesAll at hc
  simp only [Bool.and_eq_true] at hc
  rw [allB_iff.1 hc.2.2 k hk] at h
  cases h
theorem ta_yes {r : Nat} {ks : List Int} {lo hi : Nat} (h : lo ≤ ks.length ∧ ks.length ≤ hi) (ha : ∀ k, k < ks.length → takes r (ks.getD k 0) = true) : takesAll r ks lo hi = true := by
  unfold takesAll
  rw [decide_eq_true h.1, decide_eq_true h.2, allB_iff.2 ha]; rfl

set_option maxRecDepth 100000 in
set_option maxHeartbeats 4000000 in
theorem takesAll_any (r : Nat) (hr : r ≤ 5) (v : Value) (ts : List Int) (lo hi : Nat) (w : World) (h : RepS w v ts) (_hlo : lo ≤ 10000) (_hhi : hi ≤ 10000) :
    Calls Tryz.prog 67 #[.int .i64 r, v, .int .i64 lo, .int .i64 hi] w fun e w' => e = .returned (.bool (takesAll r ts lo hi)) ∧ Below w.heap.size w w' := by
  have HS : Hid (RepS w v ts) := h
  obtain ⟨ao, cap, rfl, h1, h2, h3, hx⟩ := h
  obtain ⟨m, hm⟩ : ∃ m, m = ts.length := ⟨_, rfl⟩
  rw [← hm] at h1 h3 HS ⊢
  by_cases hb : ¬ (lo ≤ m ∧ m ≤ hi)
  · have HN : Hid (takesAll r ts lo hi = false) := ta_no (by rw [← hm]; exact hb)
    clear hx HS
    by_cases h4 : m < lo
    · have e2 : decide (m < lo) = true := by simp; omega
      have e3 : decide ((m : Int) < (lo : Int)) = true := by simp; omega
      go_enter Tryz.func67, Tryz.ntmps67
      go_wp2_with fail
      go_ret
      exact ⟨ret_bool HN.out.symm, Below.refl _ _⟩
    · have e2 : decide (m < lo) = false := by simp; omega
      have e3 : decide ((m : Int) < (lo : Int)) = false := by simp; omega
      have e4 : decide (hi < m) = true := by simp; omega
      have e5 : decide ((hi : Int) < (m : Int)) = true := by simp; omega
      go_enter Tryz.func67, Tryz.ntmps67
      go_wp2_with fail
      go_ret
      exact ⟨ret_bool HN.out.symm, Below.refl _ _⟩
  replace hb : lo ≤ m ∧ m ≤ hi := Decidable.of_not_not hb
  have e2 : decide (m < lo) = false := by simp; omega
  have e3 : decide ((m : Int) < (lo : Int)) = false := by simp; omega
  have e4 : decide (hi < m) = false := by simp; omega
  have e5 : decide ((hi : Int) < (m : Int)) = false := by simp; omega
  obtain ⟨rr, hrr⟩ : ∃ rr, rr = takesAll r ts lo hi := ⟨_, rfl⟩
  rw [← hrr]
  have HRR : Hid (rr = takesAll r ts lo hi) := hrr
  have HL : Hid (lo ≤ ts.length ∧ ts.length ≤ hi) := by show _ ∧ _; rw [← hm]; exact hb
  have HM : Hid (m = ts.length) := hm
  clear hx hrr hm hb
  go_enter Tryz.func67, Tryz.ntmps67
  go_wp2_with fail
  go_loopw [23] (fun x wr => ∃ (k : Nat), k ≤ m ∧ x = .int .i64 k ∧ Hid (∀ j, j < k → takes r (ts.getD j 0) = true) ∧ Below w.heap.size w wr) (fun x _ => m - (intOf x).toNat)
  case atStart => exact ⟨0, by omega, rfl, fun j hj => absurd hj (by omega), Below.refl _ _⟩
  case round =>
    obtain ⟨k, hk, rfl, HA, hbel⟩ := hrel
    by_cases hkq : k < m
    · obtain ⟨ao2, cap2, eq2, _, _, _, hx⟩ := HS.out.kept hbel
      simp only [Value.slice.injEq] at eq2
      obtain ⟨rfl, hml, rfl⟩ := eq2
      clear hml
      obtain ⟨b, off, u, eu, hcu, D', t', hru, hkt⟩ := hx k (by have := HM.out; omega)
      subst eu
      have CN := takes_any r hr hru
      rw [hkt] at CN
      obtain ⟨bb, hbb⟩ : ∃ bb, bb = takes r (ts.getD k 0) := ⟨_, rfl⟩
      rw [← hbb] at CN
      have HB : Hid (bb = takes r (ts.getD k 0)) := hbb
      have HBel : Hid (Below w.heap.size w wr) := hbel
      obtain ⟨T, gg, rfl⟩ : ∃ T g, u = .iface T (.pointer (some ⟨g, 0, none⟩)) := by obtain ⟨g, _, _, _, _, _, _, e, _⟩ := hru.open; exact ⟨_, g, e⟩
      clear hbb hkt
      clear hx hru hbel
      go_wp2_with fail
      refine CN.mono ?_
      rintro e w' ⟨rfl, hw⟩
      clear CN
      have HB2 : Hid (Below w.heap.size w w') := HBel.out.trans (hw.mono HBel.out.size)
      clear hw
      cases bb with
      | false =>
        go_wp2_with fail
        go_ret
        refine ⟨ret_bool ?_, HB2.out⟩
        rw [HRR.out, ta_at (by have := HM.out; omega) HB.out.symm]
      | true =>
        go_wp2_with fail
        go_roundw
        case rel =>
          refine ⟨k + 1, by omega, by go_num, fun j hj => ?_, HB2.out⟩
          by_cases hjk : j < k
          · exact HA.out j hjk
          · have : j = k := by omega
            subst this
            exact HB.out.symm
        case measure => simp [intOf]; omega
    · have hkq2 : k = m := by omega
      subst hkq2
      go_wp2_with fail
      go_ret
      refine ⟨ret_bool ?_, hbel⟩
      rw [HRR.out, ta_yes HL.out (fun j hj => HA.out j (by have := HM.out; omega))]
end Go.Proofs.YtccnjmnafkfjdaaGreat.vt
