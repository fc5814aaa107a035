import Derived.Test.YtdffdkaligkkbaaRows
import Derived.WalkKit
import Derived.ProofKit
import Derived.OpenShut
import Derived.ShutString
import Derived.ChangeOld
import Derived.Below
import Derived.Test.YtdffdkaligkkbaaScanMore
namespace Go.Proofs.Ytdffdkaligkkbaa.fnExactScanInt
open Go.ChangeShapes Go.WideShapes Go.ChangeAt Go.RowKit Go.Proofs.Ytdffdkaligkkbaa.bts Go.Proofs.Ytdffdkaligkkbaa.scn
set_option linter.unusedVariables false

theorem own : ownKnob Try.prog.godebug = none := by kernel_rfl
theorem laidOut : laidOutB Try.prog = true := by kernel_rfl

set_option maxHeartbeats 1000000 in
theorem core (ao : Option Addr) (cap : Nat) (zs : List Int) (w : World) (hr : Rd w ao zs) (hb : Bts zs) :
    Calls Try.prog 4 #[.slice ao zs.length cap] w fun e w' => e = .returned (.bool true) ∧ Below w.heap.size w w' := by
  by_cases hn : 1048576 < zs.length
  · obtain ⟨n, hnn⟩ : ∃ n, n = zs.length := ⟨_, rfl⟩
    rw [← hnn] at hn ⊢
    clear hnn
    go_enter Try.func4, Try.ntmps4
    go_wp2_with fail
    go_ret
    exact ⟨rfl, Below.refl _ _⟩
  · have hn' : zs.length ≤ 1048576 := by omega
    clear hn
    go_enter Try.func4, Try.ntmps4
    go_wp2_with fail
    refine (toByteS_any ao cap zs w hr hn').mono ?_
    rintro e w1 ⟨rfl, hown1, hb1⟩
    have H1 := (scan_any w.heap.size 0 zs.length zs hb w1 (Rd.own hown1) (Nat.le_refl _) (by omega)).1
    have HR1 : Hid _ := hr.below hb1
    clear hr hown1
    go_wp2_with fail
    refine H1.mono ?_
    rintro e w' ⟨rfl, hw⟩
    replace hw := hw.symm
    subst hw
    clear H1
    go_wp2_with fail
    refine (toByteS_any ao cap zs w1 HR1.out hn').mono ?_
    rintro e w2 ⟨rfl, hown2, hb2⟩
    have H2 := (scan_any w1.heap.size 0 zs.length zs hb w2 (Rd.own hown2) (Nat.le_refl _) (by omega)).2
    have HR2 : Hid _ := Rd.below HR1.out hb2
    go_wp2_with fail
    refine H2.mono ?_
    rintro e w' ⟨rfl, hw⟩
    replace hw := hw.symm
    subst hw
    clear H2
    go_wp2_with fail
    refine (toByteS_any ao cap zs w2 HR2.out hn').mono ?_
    rintro e w3 ⟨rfl, hown3, hb3⟩
    have hlt : w1.heap.size < w2.heap.size := (hown2.lt _ rfl).2
    have H3 := eqByteS_same (some ⟨w1.heap.size, 0, none⟩) (some ⟨w2.heap.size, 0, none⟩) zs.length zs.length zs w3 ((Rd.own hown2).belowB hb3 hlt) (Rd.own hown3) (by omega)
    have HB : Hid (Below w.heap.size w w3) := (hb1.trans (hb2.mono hb1.size)).trans (hb3.mono (Nat.le_trans hb1.size hb2.size))
    clear hown2 hown3 hb1 hb2 hb3 HR1 HR2
    go_wp2_with fail
    refine H3.mono ?_
    rintro e w4 ⟨rfl, m, rfl⟩
    clear H3
    go_wp2_with fail
    go_ret
    exact ⟨rfl, below_drewN HB.out m⟩

theorem walk (a0 : Option Addr) (len0 cap0 : Nat) (z0 : List Int) (w : World) (w0 : IsRow .u8 w a0 len0 cap0 z0) :
    Calls Try.prog 4 #[.slice a0 len0 cap0] w fun e w' => e = .returned (.bool true) ∧ Below w.heap.size w w' := by
  obtain ⟨ys, rfl, hr, hb⟩ := isRow_rd w0
  exact core a0 cap0 ys w hr hb

/-! ### THE ROW's STEP: WRITTEN OUT: LEAVE IT -/
set_option maxRecDepth 100000 in
theorem lifted (os : Os) (started : os.Started) (H : Type) (enc : TypeId × Value → H) :
    ReturnsInHanded {} Try.checked os 4 .any (Rows.fnExactScanIntSpec.pre6 enc Try.prog Try.f4 Rows.fnExactScanIntRow.domain false) (Rows.fnExactScanIntSpec.post enc Try.prog Try.f4 false true false false) := by
  refine returnsInHanded_of_change (C := Try.checked) own started (by kernel_rfl) Try.func4
    (ChangeSpec.witness6 (enc := enc) (C := Try.checked) false ⟨#[], #[.slice none 0 0], []⟩ 8 (by kernel_rfl) (by kernel_rfl) (by kernel_rfl) (by kernel_rfl)) ?_
  intro W base args ds gs before hval0 hW hcnd _
  have hval : ∀ (j : Nat) t v, Try.f4.params[j]? = some t → args[j]? = some v → Value.okWide Try.prog W .any base t v := hval0
  have hW' := hW
  obtain ⟨p, q, hA0, hV, rfl, hfz, hnd⟩ := hW
  have hA : DataW.TrodAll enc Try.prog W 0 (fun _ => true) true Try.f4.params.toList args.toList ds p := hA0
  rw [Try.params4] at hA hval
  obtain ⟨v0, vs0, d0, ds0, p0, q0, hargs, rfl, rfl, h0, r0⟩ := trodAll_cons hA
  obtain ⟨rfl, rfl, rfl⟩ := trodAll_nil r0
  obtain rfl : args = #[v0] := by cases args; simp_all
  obtain ⟨rfl, rfl⟩ := trodVars_none hV
  obtain ⟨a0, len0, cap0, rfl⟩ := okWide_slice Try.underlying25 (hval 0 25 v0 rfl rfl)
  have k0 := h0
  have lt0 : ∀ x ∈ p0, x.block < W.heap.size := by obtain ⟨m, hm⟩ := k0; exact DataW.trod_lt m _ _ _ hm
  obtain ⟨z0, w0⟩ : ∃ zs, IsRow .u8 W a0 len0 cap0 zs := by
    obtain ⟨fuel, hf⟩ := h0
    rcases open_ints Try.underlying25 Try.underlying5 (by kernel_rfl) hf with ⟨hcs, _⟩ | ⟨x, l, c, zs, hcs, _, hl, hm, hz, _, hcell, hwz⟩
    · simp [Value.cells] at hcs
      obtain ⟨rfl, rfl, rfl⟩ := hcs
      exact ⟨[], .inl ⟨rfl, rfl, rfl, rfl⟩⟩
    · simp [Value.cells] at hcs
      obtain ⟨rfl, rfl, rfl⟩ := hcs
      exact ⟨zs, .inr ⟨_, rfl, hl, hm, by simpa using hz, hcell, hwz⟩⟩
  clear hA0 hval0
  refine (walk a0 len0 cap0 z0 W w0).mono fun e W' ⟨he, bel⟩ => ?_
  subst he
  exact ⟨_, rfl, _, _, _, [], _, [], hW', trodAll_mk1 (shut_bool Try.underlying4 _), (trodAll_cons_mk (Below.trod laidOut (by kernel_rfl) (of_decide_eq_true (by kernel_rfl)) k0 bel lt0) trodAll_mk0), rfl, bel.frame _, fun h => by cases h⟩

theorem over : Rows.fnExactScanIntRow.holds Try.pinned (OpenSpec.ofChange Rows.fnExactScanIntSpec) :=
  OpenClaim.holds_of_wide 4 Try.f4 rfl rfl rfl rfl rfl rfl rfl ⟨rfl, rfl, rfl, rfl, rfl⟩ rfl rfl rfl rfl rfl (by kernel_rfl) Try.func4 (by kernel_rfl)
    (of_decide_eq_true (by kernel_rfl)) (by unfold Func.isWrapper; first | (rw [if_pos (by decide +kernel)]; kernel_rfl) | (rw [if_neg (by decide +kernel)]; exact ⟨rfl, rfl⟩))
    (fun os started H enc _ => lifted os started H enc)

/-- ████ THE STATEMENT ████ -/
theorem proved : Rows.FnExactScanIntSaid := over
#print axioms proved
end Go.Proofs.Ytdffdkaligkkbaa.fnExactScanInt
