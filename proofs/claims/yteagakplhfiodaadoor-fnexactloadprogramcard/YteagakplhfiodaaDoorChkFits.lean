import Derived.Test.YteagakplhfiodaaDoorChkImplA
import Derived.Test.YteagakplhfiodaaDoorChkSpec
namespace Go.Proofs.YteagakplhfiodaaDoor.chk
open Go.RowKit Go.Proofs.YteagakplhfiodaaDoor.bts Go.Proofs.YteagakplhfiodaaDoor.pg

set_option maxRecDepth 100000 in
set_option maxHeartbeats 2000000 in
theorem constFits_any (kb : Bool) (nn : Int) (aX : Option Addr) (m cX : Nat) (w : World) (b : Bool) (HB : Hid (b = true ↔ (m ≤ 5000 ∧ (kb = true → nn = 0) ∧ (kb = false → m = 0)))) :
    Calls Tryd.prog 59 #[.agg #[.bool kb, .int .i64 nn, .slice aX m cX]] w fun e w' => e = .returned (.bool b) ∧ Below w.heap.size w w' := by
  cases kb with
  | true =>
    by_cases hn0 : nn = 0
    · have t2 : (nn == 0) = true := by simpa using hn0
      have HE : Hid (decide ((m : Int) ≤ 5000) = b) := by
        show _ = _
        by_cases h : m ≤ 5000
        · rw [decide_eq_true (by omega), HB.out.2 ⟨h, fun _ => hn0, fun e => by cases e⟩]
        · rw [decide_eq_false (by omega)]
          cases b with
          | false => rfl
          | true => exact absurd (HB.out.1 rfl).1 h
      clear hn0
      go_enter Tryd.func59, Tryd.ntmps59
      go_wp2
      go_returns
      exact ⟨ret_bI (by first | exact HE.out | (rw [← HE.out]; simp)), by go_grown⟩
    · have t2 : (nn == 0) = false := by simpa using hn0
      have HE : Hid (false = b) := by
        show _ = _
        cases b with
        | false => rfl
        | true => exact absurd ((HB.out.1 rfl).2.1 rfl) hn0
      clear hn0
      go_enter Tryd.func59, Tryd.ntmps59
      go_wp2
      go_returns
      exact ⟨ret_bI HE.out, by go_grown⟩
  | false =>
    have HE : Hid (((m : Int) == 0) = b) := by
      show _ = _
      by_cases h : m = 0
      · subst h
        rw [HB.out.2 ⟨by omega, fun e => (by cases e), fun _ => rfl⟩]; rfl
      · have e1 : ((m : Int) == 0) = false := by simp; omega
        rw [e1]
        cases b with
        | false => rfl
        | true => exact absurd ((HB.out.1 rfl).2.2 rfl) h
    go_enter Tryd.func59, Tryd.ntmps59
    go_wp2
    go_returns
    exact ⟨ret_bI (by first | exact HE.out | (rw [← HE.out]; simp)), by go_grown⟩

set_option maxRecDepth 100000 in
set_option maxHeartbeats 2000000 in
theorem protoFits_any (fp fs : Int) (uc : Value) (fc : List Cp) (aD : Option Addr) (ld cD : Nat) (w : World) (hc : RdCV w uc fc) (hld : ld ≤ 1048576) (b : Bool)
    (HB : Hid (b = true ↔ (0 ≤ fp ∧ fp ≤ fs ∧ fs ≤ 200 ∧ fc.length ≤ 100 ∧ 0 < ld ∧ ∀ i, i < fc.length → 0 ≤ (fc.getD i cp0).index ∧ (fc.getD i cp0).index < 200))) :
    Calls Tryd.prog 60 #[.agg #[.int .i64 fp, .int .i64 fs, uc, .slice aD ld cD]] w fun e w' => e = .returned (.bool b) ∧ Below w.heap.size w w' := by
  have HRC : Hid (RdCV w uc fc) := hc
  obtain ⟨aC, cC, rfl, hCl, _⟩ := hc
  obtain ⟨lc, hlc⟩ : ∃ n, n = fc.length := ⟨_, rfl⟩
  have HLC : Hid (fc.length = lc) := hlc.symm
  rw [← hlc] at HB hCl ⊢
  have HRC2 : Hid (RdC w aC fc) := by
    obtain ⟨_, _, e, _, h⟩ := HRC.out
    simp only [Value.slice.injEq] at e
    obtain ⟨rfl, _, _⟩ := e
    exact h
  have fin : Hid (¬ (0 ≤ fp ∧ fp ≤ fs ∧ fs ≤ 200 ∧ lc ≤ 100 ∧ 0 < ld ∧ ∀ i, i < lc → 0 ≤ (fc.getD i cp0).index ∧ (fc.getD i cp0).index < 200) → false = b) := by
    intro h
    cases b with
    | false => rfl
    | true => exact absurd (HB.out.1 rfl) h
  clear hlc HRC
  by_cases b1 : fp < 0
  · have t1 : decide (fp < 0) = true := by simp; omega
    have HF : Hid (false = b) := fin.out (by rintro ⟨e1, e2, e3, e4, e5, _⟩; omega)
    clear fin HB
    go_enter Tryd.func60, Tryd.ntmps60
    go_wp2_with fail
    go_returns
    exact ⟨ret_bI HF.out, by go_grown⟩
  have t1 : decide (fp < 0) = false := by simp; omega
  by_cases b2 : fs < fp
  · have t2 : decide (fs < fp) = true := by simp; omega
    have HF : Hid (false = b) := fin.out (by rintro ⟨e1, e2, e3, e4, e5, _⟩; omega)
    clear fin HB
    go_enter Tryd.func60, Tryd.ntmps60
    go_wp2_with fail
    go_returns
    exact ⟨ret_bI HF.out, by go_grown⟩
  have t2 : decide (fs < fp) = false := by simp; omega
  by_cases b3 : 200 < fs
  · have t3 : decide (200 < fs) = true := by simp; omega
    have HF : Hid (false = b) := fin.out (by rintro ⟨e1, e2, e3, e4, e5, _⟩; omega)
    clear fin HB
    go_enter Tryd.func60, Tryd.ntmps60
    go_wp2_with fail
    go_returns
    exact ⟨ret_bI HF.out, by go_grown⟩
  have t3 : decide (200 < fs) = false := by simp; omega
  by_cases b4 : 100 < lc
  · have t4 : decide ((100 : Int) < (lc : Int)) = true := by simp; omega
    have HF : Hid (false = b) := fin.out (by rintro ⟨e1, e2, e3, e4, e5, _⟩; omega)
    clear fin HB
    go_enter Tryd.func60, Tryd.ntmps60
    go_wp2_with fail
    go_returns
    exact ⟨ret_bI HF.out, by go_grown⟩
  have t4 : decide ((100 : Int) < (lc : Int)) = false := by simp; omega
  go_enter Tryd.func60, Tryd.ntmps60
  go_wp2_with fail
  have B0 : Hid (Below w.heap.size w (w.alloc (.cells #[.int .i64 fp, .int .i64 fs, .slice aC lc cC, .slice aD ld cD] 46))) := (Below.refl _ _).alloc (Nat.le_refl _) _
  have s3 := cellNew (w := w) (cs := #[.int .i64 fp, .int .i64 fs, .slice aC lc cC, .slice aD ld cD]) (t := 46) (j := 3) (v := .slice aD ld cD) rfl
  have HR3 : Hid (RdC (w.alloc (.cells #[.int .i64 fp, .int .i64 fs, .slice aC lc cC, .slice aD ld cD] 46)) aC fc) := HRC2.out.below B0.out
  obtain ⟨g1, hg1⟩ : ∃ g, g = w.heap.size := ⟨_, rfl⟩
  rw [← hg1] at s3 ⊢
  have HG1 : Hid (g1 = w.heap.size) := hg1
  generalize w.alloc (.cells #[.int .i64 fp, .int .i64 fs, .slice aC lc cC, .slice aD ld cD] 46) = W1 at *
  clear hg1
  go_loopw [29] (fun x wr => ∃ i : Nat, i ≤ lc ∧ x = .int .i64 i ∧ Hid (∀ j, j < i → 0 ≤ (fc.getD j cp0).index ∧ (fc.getD j cp0).index < 200) ∧ Below W1.heap.size W1 wr) (fun x _ => lc - (intOf x).toNat)
  case atStart => exact ⟨0, Nat.zero_le _, rfl, fun j hj => absurd hj (by omega), Below.refl _ _⟩
  case round =>
    obtain ⟨i, hil, rfl, HOI, hbi⟩ := hrel
    have u3 := cellB s3 hbi
    have HBV : Hid (Below w.heap.size w wr) := B0.out.trans (hbi.mono B0.out.size)
    have hsz := HBV.out.size
    by_cases hli : i < lc
    · obtain ⟨b5, off5, rfl, e0, e1⟩ := (HR3.out.below hbi) i (by rw [HLC.out]; exact hli)
      have hli' : (i : Int) < (lc : Int) := by omega
      generalize hix : (fc.getD i cp0).index = ix at e1
      have HE : Hid ((fc.getD i cp0).index = ix) := hix
      generalize (fc.getD i cp0).up = iu at e0
      clear hix
      by_cases n1 : ix < 0
      · have m1 : decide (ix < 0) = true := by simp; omega
        have HF : Hid (false = b) := fin.out (by
          rintro ⟨_, _, _, _, _, e6⟩
          have := e6 i hli
          rw [HE.out] at this
          omega)
        clear fin HB HOI
        go_wp2_with fail
        go_returns
        exact ⟨ret_bI HF.out, HBV.out.alloc hsz _⟩
      have m1 : decide (ix < 0) = false := by simp; omega
      by_cases n2 : 200 ≤ ix
      · have m2 : decide (200 ≤ ix) = true := by simp; omega
        have HF : Hid (false = b) := fin.out (by
          rintro ⟨_, _, _, _, _, e6⟩
          have := e6 i hli
          rw [HE.out] at this
          omega)
        clear fin HB HOI
        go_wp2_with fail
        go_returns
        exact ⟨ret_bI HF.out, HBV.out.alloc hsz _⟩
      have m2 : decide (200 ≤ ix) = false := by simp; omega
      have HOI2 : Hid (∀ j, j < i + 1 → 0 ≤ (fc.getD j cp0).index ∧ (fc.getD j cp0).index < 200) := by
        intro j hj
        by_cases e : j = i
        · rw [e, HE.out]; omega
        · exact HOI.out j (by omega)
      clear HOI
      go_wp2_with fail
      go_roundw
      case rel => exact ⟨i + 1, by omega, by go_num, HOI2.out, hbi.alloc hbi.size _⟩
      case measure => simp [intOf]; omega
    · have HE : Hid (decide ((0 : Int) < (ld : Int)) = b) := by
        show _ = _
        by_cases h : 0 < ld
        · rw [decide_eq_true (by omega), HB.out.2 ⟨by omega, by omega, by omega, by omega, h, fun j hj => HOI.out j (by omega)⟩]
        · rw [decide_eq_false (by omega)]
          exact fin.out (by rintro ⟨_, _, _, _, e5, _⟩; exact h e5)
      clear HOI fin HB
      go_wp2_with fail
      go_returns
      exact ⟨ret_bI (by first | exact HE.out | (rw [← HE.out]; simp)), HBV.out⟩
end Go.Proofs.YteagakplhfiodaaDoor.chk
