import Derived.Test.YtdffdkaligkkbaaRows
import Derived.WalkKit
import Derived.ProofKit
import Derived.OpenShut
import Derived.ShutString
import Derived.ChangeOld
import Derived.Below
import Derived.Test.YtdffdkaligkkbaaQuoteMore
import Derived.Test.YtdffdkaligkkbaaBytesMore
namespace Go.Proofs.Ytdffdkaligkkbaa.fnExactQuoteText
open Go.ChangeShapes Go.WideShapes Go.ChangeAt Go.RowKit Go.Proofs.Ytdffdkaligkkbaa.bts Go.Proofs.Ytdffdkaligkkbaa.quo
set_option linter.unusedVariables false

theorem own : ownKnob Try.prog.godebug = none := by kernel_rfl
theorem laidOut : laidOutB Try.prog = true := by kernel_rfl

set_option maxHeartbeats 2000000 in
theorem core (ao : Option Addr) (cap : Nat) (zs : List Int) (w : World) (hr : Rd w ao zs) (hb : Bts zs) :
    Calls Try.prog 5 #[.slice ao zs.length cap] w fun e w' => e = .returned (.bool true) ∧ Below w.heap.size w w' := by
  obtain ⟨n, hnn⟩ : ∃ n, n = zs.length := ⟨_, rfl⟩
  by_cases hn : 1048576 < n
  · rw [← hnn]
    clear hnn
    go_enter Try.func5, Try.ntmps5
    go_wp2_with fail
    go_ret
    exact ⟨rfl, Below.refl _ _⟩
  · have hn' : n ≤ 1048576 := by omega
    clear hn
    have HL : Hid (zs.length = n) := hnn.symm
    have toB : ∀ w', Below w.heap.size w w' → Calls Try.prog 11 #[.slice ao n cap] w' fun e w'' => e = .returned (.slice (some ⟨w'.heap.size, 0, none⟩) n n) ∧
        w''.ownsRow w'.heap.size 5 1 (.slice (some ⟨w'.heap.size, 0, none⟩) n n) n (bcells zs) ∧ Below w'.heap.size w' w'' := by
      intro w' hbw
      have := toByteS_any ao cap zs w' (hr.below hbw) (by omega)
      rw [← hnn] at this
      exact this
    obtain ⟨N, hNN⟩ : ∃ N, N = (quote zs).length := ⟨_, rfl⟩
    have hNb : N ≤ 4194306 := by rw [hNN]; have := quote_len zs; omega
    have HQ : Hid ((quote zs).length = N) := hNN.symm
    have im : ∀ w' g, Rd w' (some ⟨g, 0, none⟩) zs → Calls Try.prog 15 #[.slice (some ⟨g, 0, none⟩) n n] w' fun e w'' => ∃ g' cap', e = .returned (.slice (some ⟨g', 0, none⟩) N cap') ∧
        w''.ownsRow w'.heap.size 5 1 (.slice (some ⟨g', 0, none⟩) N cap') N (bcells (quote zs)) ∧ Below w'.heap.size w' w'' := by
      intro w' g h
      have := implQuote_any (some ⟨g, 0, none⟩) n zs w' h hb (by omega)
      rw [← hnn, ← hNN] at this
      exact this
    have sp : ∀ w' g, Rd w' (some ⟨g, 0, none⟩) zs → Calls Try.prog 14 #[.slice (some ⟨g, 0, none⟩) n n] w' fun e w'' => ∃ g' cap', e = .returned (.slice (some ⟨g', 0, none⟩) N cap') ∧
        w''.ownsRow w'.heap.size 5 1 (.slice (some ⟨g', 0, none⟩) N cap') N (bcells (quote zs)) ∧ Below w'.heap.size w' w'' := by
      intro w' g h
      have := specQuote_any (some ⟨g, 0, none⟩) n zs w' h hb (by omega)
      rw [← hnn, ← hNN] at this
      exact this
    have TB : Hid _ := toB
    have IM : Hid _ := im
    have SP : Hid _ := sp
    rw [← hnn]
    clear hnn hNN toB im sp hr hb
    go_enter Try.func5, Try.ntmps5
    go_wp2_with fail
    refine (TB.out w (Below.refl _ _)).mono ?_
    rintro e w1 ⟨rfl, o1, b1⟩
    have C := SP.out w1 w.heap.size (Rd.owned o1 HL.out)
    clear o1
    go_wp2_with fail
    refine C.mono ?_
    rintro e w2 ⟨gS, cS, rfl, oS, b2⟩
    clear C
    have HB2 : Hid (Below w.heap.size w w2) := b1.trans (b2.mono b1.size)
    have H12 : Hid (w.heap.size ≤ w2.heap.size) := HB2.out.size
    clear b1 b2
    have HltS : Hid (gS < w2.heap.size) := (oS.lt gS rfl).2
    have HoS : Hid (w2.ownsRow w1.heap.size 5 1 (.slice (some ⟨gS, 0, none⟩) N cS) N (bcells (quote zs))) := oS
    clear oS
    go_wp2_with fail
    refine (TB.out w2 HB2.out).mono ?_
    rintro e w3 ⟨rfl, oX, b3⟩
    have HltX : Hid (w2.heap.size < w3.heap.size) := (oX.lt _ rfl).2
    have C := IM.out w3 w2.heap.size (Rd.owned oX HL.out)
    go_wp2_with fail
    refine C.mono ?_
    rintro e w4 ⟨gI, cI, rfl, oG, b4⟩
    clear C
    have HgI : Hid (w3.heap.size ≤ gI ∧ gI < w4.heap.size) := oG.lt gI rfl
    have HS4 : Hid (Below w2.heap.size w2 w4) := b3.trans (b4.mono b3.size)
    have HX4 : Hid (w4.ownsRow w2.heap.size 5 1 (.slice (some ⟨w2.heap.size, 0, none⟩) n n) n (bcells zs)) := own_below oX b4 HltX.out
    have HG4 : Hid (w4.ownsRow w3.heap.size 5 1 (.slice (some ⟨gI, 0, none⟩) N cI) N (bcells (quote zs))) := oG
    have C := eqByteS_at (some ⟨gI, 0, none⟩) (some ⟨gS, 0, none⟩) N cI cS (quote zs) w4 HQ.out (Rd.owned oG HQ.out) (Rd.belowB (Rd.owned HoS.out HQ.out) HS4.out HltS.out) (by omega)
    clear oX oG b3 b4
    go_wp2_with fail
    refine C.mono ?_
    rintro e w5 ⟨rfl, s5⟩
    clear C
    have HS5 : Hid (Below w2.heap.size w2 w5) := HS4.out.trans (s5.2 _)
    have HX5 : Hid (w5.ownsRow w2.heap.size 5 1 (.slice (some ⟨w2.heap.size, 0, none⟩) n n) n (bcells zs)) := own_heap HX4.out s5
    have HG5 : Hid (w5.ownsRow w3.heap.size 5 1 (.slice (some ⟨gI, 0, none⟩) N cI) N (bcells (quote zs))) := own_heap HG4.out s5
    clear s5 HS4 HX4 HG4
    go_wp2_with fail
    refine (TB.out w5 (HB2.out.trans (HS5.out.mono H12.out))).mono ?_
    rintro e w6 ⟨rfl, oY, b6⟩
    have HS6 : Hid (Below w2.heap.size w2 w6) := HS5.out.trans (b6.mono HS5.out.size)
    have HX6 : Hid (w6.ownsRow w2.heap.size 5 1 (.slice (some ⟨w2.heap.size, 0, none⟩) n n) n (bcells zs)) := own_below HX5.out b6 (HX5.out.lt _ rfl).2
    have HG6 : Hid (w6.ownsRow w3.heap.size 5 1 (.slice (some ⟨gI, 0, none⟩) N cI) N (bcells (quote zs))) := own_below HG5.out b6 (HG5.out.lt _ rfl).2
    have C := eqByteS_at (some ⟨w2.heap.size, 0, none⟩) (some ⟨w5.heap.size, 0, none⟩) n n n zs w6 HL.out (Rd.owned HX6.out HL.out) (Rd.owned oY HL.out) (by omega)
    clear oY b6 HS5 HX5 HG5
    go_wp2_with fail
    refine C.mono ?_
    rintro e w7 ⟨rfl, s7⟩
    clear C
    have HS7 : Hid (Below w2.heap.size w2 w7) := HS6.out.trans (s7.2 _)
    have HG7 : Hid (w7.ownsRow w3.heap.size 5 1 (.slice (some ⟨gI, 0, none⟩) N cI) N (bcells (quote zs))) := own_heap HG6.out s7
    have C := markByteS_own (.slice (some ⟨w2.heap.size, 0, none⟩) n n) n w2.heap.size (bcells zs) 1 (by omega) (by omega) w7 (own_heap HX6.out s7) (by omega)
    clear s7 HS6 HX6 HG6
    go_wp2_with fail
    refine C.mono ?_
    rintro e w8 ⟨rfl, oX8, g8⟩
    clear C oX8
    have HS8 : Hid (Below w2.heap.size w2 w8) := HS7.out.grown g8 HS7.out.size (by intro k hk; cases hk; exact Nat.le_refl _)
    have HG8 : Hid (w8.ownsRow w3.heap.size 5 1 (.slice (some ⟨gI, 0, none⟩) N cI) N (bcells (quote zs))) := HG7.out.kept g8 (.inr (by intro h; simp only [Value.ownBlock, Option.some.injEq] at h; have := HgI.out.1; have := HltX.out; omega))
    have C := eqByteS_at (some ⟨gI, 0, none⟩) (some ⟨gS, 0, none⟩) N cI cS (quote zs) w8 HQ.out (Rd.owned HG8.out HQ.out) (Rd.belowB (Rd.owned HoS.out HQ.out) HS8.out HltS.out) (by omega)
    clear g8 HS7 HG7
    go_wp2_with fail
    refine C.mono ?_
    rintro e w9 ⟨rfl, s9⟩
    clear C
    have HS9 : Hid (Below w2.heap.size w2 w9) := HS8.out.trans (s9.2 _)
    have C := markByteS_own (.slice (some ⟨gI, 0, none⟩) N cI) N w3.heap.size (bcells (quote zs)) 1 (by omega) (by omega) w9 (own_heap HG8.out s9) (by omega)
    clear s9 HS8 HG8
    go_wp2_with fail
    refine C.mono ?_
    rintro e w10 ⟨rfl, oG10, g10⟩
    clear C
    have HS10 : Hid (Below w2.heap.size w2 w10) := HS9.out.grown g10 HS9.out.size (by intro k hk; cases hk; show w2.heap.size ≤ gI; have := HgI.out.1; have := HltX.out; omega)
    have C := heldByteS_marks (some ⟨gI, 0, none⟩) cI N 1 (by omega) (by omega) w10 (Rd.owned oG10 (marks_length _ _)) (by omega)
    clear g10 HS9 oG10
    go_wp2_with fail
    refine C.mono ?_
    rintro e w' ⟨rfl, hw⟩
    replace hw := hw.symm
    subst hw
    clear C
    go_wp2_with fail
    refine (TB.out w10 (HB2.out.trans (HS10.out.mono H12.out))).mono ?_
    rintro e w11 ⟨rfl, o11, b11⟩
    have C := IM.out w11 w10.heap.size (Rd.owned o11 HL.out)
    have HS11 : Hid (Below w2.heap.size w2 w11) := HS10.out.trans (b11.mono HS10.out.size)
    clear o11 b11
    go_wp2_with fail
    refine C.mono ?_
    rintro e w12 ⟨gJ, cJ, rfl, oJ, b12⟩
    clear C
    have HS12 : Hid (Below w2.heap.size w2 w12) := HS11.out.trans (b12.mono HS11.out.size)
    have C := eqByteS_at (some ⟨gJ, 0, none⟩) (some ⟨gS, 0, none⟩) N cJ cS (quote zs) w12 HQ.out (Rd.owned oJ HQ.out) (Rd.belowB (Rd.owned HoS.out HQ.out) HS12.out HltS.out) (by omega)
    clear oJ b12
    go_wp2_with fail
    refine C.mono ?_
    rintro e w13 ⟨rfl, s13⟩
    clear C
    go_wp2_with fail
    go_ret
    exact ⟨rfl, (HB2.out.trans (HS12.out.mono H12.out)).trans (s13.2 _)⟩

theorem walk (a0 : Option Addr) (len0 cap0 : Nat) (z0 : List Int) (w : World) (w0 : IsRow .u8 w a0 len0 cap0 z0) :
    Calls Try.prog 5 #[.slice a0 len0 cap0] w fun e w' => e = .returned (.bool true) ∧ Below w.heap.size w w' := by
  obtain ⟨ys, rfl, hr, hb⟩ := isRow_rd w0
  exact core a0 cap0 ys w hr hb

/-! ### THE ROW's STEP: WRITTEN OUT: LEAVE IT -/
set_option maxRecDepth 100000 in
theorem lifted (os : Os) (started : os.Started) (H : Type) (enc : TypeId × Value → H) :
    ReturnsInHanded {} Try.checked os 5 .any (Rows.fnExactQuoteTextSpec.pre6 enc Try.prog Try.f5 Rows.fnExactQuoteTextRow.domain false) (Rows.fnExactQuoteTextSpec.post enc Try.prog Try.f5 false true false false) := by
  refine returnsInHanded_of_change (C := Try.checked) own started (by kernel_rfl) Try.func5
    (ChangeSpec.witness6 (enc := enc) (C := Try.checked) false ⟨#[], #[.slice none 0 0], []⟩ 8 (by kernel_rfl) (by kernel_rfl) (by kernel_rfl) (by kernel_rfl)) ?_
  intro W base args ds gs before hval0 hW hcnd _
  have hval : ∀ (j : Nat) t v, Try.f5.params[j]? = some t → args[j]? = some v → Value.okWide Try.prog W .any base t v := hval0
  have hW' := hW
  obtain ⟨p, q, hA0, hV, rfl, hfz, hnd⟩ := hW
  have hA : DataW.TrodAll enc Try.prog W 0 (fun _ => true) true Try.f5.params.toList args.toList ds p := hA0
  rw [Try.params5] at hA hval
  obtain ⟨v0, vs0, d0, ds0, p0, q0, hargs, rfl, rfl, h0, r0⟩ := trodAll_cons hA
  obtain ⟨rfl, rfl, rfl⟩ := trodAll_nil r0
  obtain rfl : args = #[v0] := by cases args; simp_all
  obtain ⟨rfl, rfl⟩ := trodVars_none hV
  obtain ⟨a0, len0, cap0, rfl⟩ := okWide_slice Try.underlying25 (hval 0 25 v0 rfl rfl)
  have k0 := h0
  have lt0 : ∀ x ∈ p0, x.block < W.heap.size := by obtain ⟨m, hm⟩ := k0; exact DataW.trod_lt m _ _ _ hm
  obtain ⟨z0, w0⟩ : ∃ zs, IsRow .u8 W a0 len0 cap0 zs := by
    obtain ⟨fuel, hf⟩ := h0
    rcases open_ints Try.underlying25 Try.underlying5 (by kernel_rfl) hf with ⟨hcs, _⟩ | ⟨x, l, c, zs, hcs, _, hl, hm, hz, _, hcell, hwz⟩
    · simp [Value.cells] at hcs
      obtain ⟨rfl, rfl, rfl⟩ := hcs
      exact ⟨[], .inl ⟨rfl, rfl, rfl, rfl⟩⟩
    · simp [Value.cells] at hcs
      obtain ⟨rfl, rfl, rfl⟩ := hcs
      exact ⟨zs, .inr ⟨_, rfl, hl, hm, by simpa using hz, hcell, hwz⟩⟩
  clear hA0 hval0
  refine (walk a0 len0 cap0 z0 W w0).mono fun e W' ⟨he, bel⟩ => ?_
  subst he
  exact ⟨_, rfl, _, _, _, [], _, [], hW', trodAll_mk1 (shut_bool Try.underlying4 _), (trodAll_cons_mk (Below.trod laidOut (by kernel_rfl) (of_decide_eq_true (by kernel_rfl)) k0 bel lt0) trodAll_mk0), rfl, bel.frame _, fun h => by cases h⟩

theorem over : Rows.fnExactQuoteTextRow.holds Try.pinned (OpenSpec.ofChange Rows.fnExactQuoteTextSpec) :=
  OpenClaim.holds_of_wide 5 Try.f5 rfl rfl rfl rfl rfl rfl rfl ⟨rfl, rfl, rfl, rfl, rfl⟩ rfl rfl rfl rfl rfl (by kernel_rfl) Try.func5 (by kernel_rfl)
    (of_decide_eq_true (by kernel_rfl)) (by unfold Func.isWrapper; first | (rw [if_pos (by decide +kernel)]; kernel_rfl) | (rw [if_neg (by decide +kernel)]; exact ⟨rfl, rfl⟩))
    (fun os started H enc _ => lifted os started H enc)

/-- ████ THE STATEMENT ████ -/
theorem proved : Rows.FnExactQuoteTextSaid := over
#print axioms proved
end Go.Proofs.Ytdffdkaligkkbaa.fnExactQuoteText
