import Derived.Test.YtfhiapcdipgflaaDoorCards
import Derived.Test.YtfhiapcdipgflaaDoorTie
import Derived.Test.YtfhiapcdipgflaaDoorFmtMore
import Derived.WalkKit
import Derived.ProofKit
import Derived.OpenShut
import Derived.Deep.DeepHandedRow
import Derived.Lib.LaidTab
import Derived.Stop.LaidErr
import Derived.MakeChecks
namespace Go.Proofs.YtfhiapcdipgflaaDoor.fnExactFormatInt
open Go.ChangeShapes Go.WideShapes Go.ChangeAt Go.RowKit Go.Proofs.YtfhiapcdipgflaaDoor.bts Go.Proofs.YtfhiapcdipgflaaDoor.fmt

theorem own_belowT {w w' : World} {base : Nat} {e : TypeId} {size B cap : Nat} {ao : Option Addr} {n : Nat} {xs : List Value} (h : w.ownsRow base e size (.slice ao n cap) n xs) (hb : Below B w w') (hg : ∀ g, (Value.slice ao n cap).ownBlock = some g → g < B) : w'.ownsRow base e size (.slice ao n cap) n xs := by
  obtain ⟨h1, h2⟩ := h
  refine ⟨h1, ?_⟩
  rcases h2 with h | ⟨g', cap', cur, h, hb', hh, r⟩
  · exact .inl h
  · exact .inr ⟨g', cap', cur, h, hb', (hb.block _ (hg g' (by rw [h]; rfl))).trans hh, r⟩

theorem Rd_ownedT {w : World} {base cap n : Nat} {E : TypeId} {ao : Option Addr} {zs : List Int} (h : w.ownsRow base E 1 (.slice ao n cap) n (bcells zs)) (e : zs.length = n) : Rd w ao zs := by
  rcases h.2 with ⟨h', h0⟩ | ⟨g', cap', cur, h', _⟩
  · intro i hi; omega
  · simp only [Value.slice.injEq, true_and] at h'
    obtain ⟨rfl, rfl⟩ := h'
    exact Rd.owned h e

set_option maxHeartbeats 2000000 in
theorem core (a : Int) (h0 : -9223372036854775808 ≤ a) (h1 : a ≤ 9223372036854775807) (w : World) (htab : Lib.TabIs Tryd.prog w "internal/strconv.uint64pow10" .u64 Lib.pow10Tab) :
    Calls Tryd.prog 3 #[.int .i64 a] w fun e w' => e = .returned (.bool true) ∧ Below w.heap.size w w' := by
  obtain ⟨N, hNN⟩ : ∃ N, N = (fi a).length := ⟨_, rfl⟩
  have hNb : N ≤ 21 := by rw [hNN]; exact fi_len a h0 h1
  have HQ : Hid ((fi a).length = N) := hNN.symm
  have im : ∀ w', Below w.heap.size w w' → Calls Tryd.prog 5 #[.int .i64 a] w' (FmtPost a N w') := by
    intro w' hb
    have := implFmt_any a h0 h1 w' (Lib.tabBelow_of_tabIs htab w' hb)
    rw [← hNN] at this
    exact this
  have sp : Calls Tryd.prog 4 #[.int .i64 a] w (FmtPost a N w) := by
    rw [hNN]
    by_cases hp : 0 ≤ a
    · exact specFmt_pos a hp h1 w
    · exact specFmt_neg a h0 (by omega) w
  have IM : Hid (∀ w', Below w.heap.size w w' → Calls Tryd.prog 5 #[.int .i64 a] w' (FmtPost a N w')) := im
  clear im hNN htab h0 h1
  go_enter Tryd.func3, Tryd.ntmps3
  go_wp2_with fail
  refine sp.mono ?_
  rintro e w1 ⟨b1, aS, cS, rfl, oS⟩
  clear sp
  have HB1 : Hid (Below w.heap.size w w1) := b1
  have HoS : Hid (w1.ownsRow w.heap.size 5 1 (.slice aS N cS) N (bcells (fi a))) := oS
  clear oS b1
  go_wp2_with fail
  refine (IM.out w1 HB1.out).mono ?_
  rintro e w2 ⟨b2, aI, cI, rfl, oG⟩
  have HS2 : Hid (Below w1.heap.size w1 w2) := b2
  have HG2 : Hid (w2.ownsRow w1.heap.size 5 1 (.slice aI N cI) N (bcells (fi a))) := oG
  have C := eqByteS_at aI aS N cI cS (fi a) w2 HQ.out (Rd_ownedT oG HQ.out) (Rd_ownedT (own_belowT HoS.out b2 (fun g h => (HoS.out.lt g h).2)) HQ.out) (by omega)
  clear oG b2
  go_wp2_with fail
  refine C.mono ?_
  rintro e w3 ⟨rfl, s3⟩
  clear C
  have HS3 : Hid (Below w1.heap.size w1 w3) := HS2.out.trans (s3.2 _)
  have HG3 : Hid (w3.ownsRow w1.heap.size 5 1 (.slice aI N cI) N (bcells (fi a))) := own_heap HG2.out s3
  have C := markByteS_own (.slice aI N cI) N w1.heap.size (bcells (fi a)) 1 (by omega) (by omega) w3 HG3.out (by omega)
  clear s3 HS2 HG2
  go_wp2_with fail
  refine C.mono ?_
  rintro e w4 ⟨rfl, oG4, g4⟩
  clear C
  have HS4 : Hid (Below w1.heap.size w1 w4) := HS3.out.grown g4 HS3.out.size (fun k hk => (HG3.out.lt k hk).1)
  have C := heldByteS_marks aI cI N 1 (by omega) (by omega) w4 (Rd_ownedT oG4 (marks_length _ _)) (by omega)
  clear g4 HS3 oG4
  go_wp2_with fail
  refine C.mono ?_
  rintro e w' ⟨rfl, hw⟩
  replace hw := hw.symm
  subst hw
  clear C
  go_wp2_with fail
  refine (IM.out w4 (HB1.out.trans (HS4.out.mono HB1.out.size))).mono ?_
  rintro e w5 ⟨b5, aJ, cJ, rfl, oJ⟩
  have HS5 : Hid (Below w1.heap.size w1 w5) := HS4.out.trans (b5.mono HS4.out.size)
  have C := eqByteS_at aJ aS N cJ cS (fi a) w5 HQ.out (Rd_ownedT oJ HQ.out) (Rd_ownedT (own_belowT HoS.out HS5.out (fun g h => (HoS.out.lt g h).2)) HQ.out) (by omega)
  clear oJ b5
  go_wp2_with fail
  refine C.mono ?_
  rintro e w6 ⟨rfl, s6⟩
  clear C
  go_wp2_with fail
  go_ret
  exact ⟨rfl, (HB1.out.trans (HS5.out.mono HB1.out.size)).trans (s6.2 _)⟩

theorem own : ownKnob Tryd.prog.godebug = none := by kernel_rfl
theorem gTab : Tryd.prog.globalNamed "internal/strconv.uint64pow10" = some 0 := by kernel_rfl
theorem gTabType : (Tryd.prog.globals[0]?).map (·.type) = some 39 := by kernel_rfl
theorem cellsTab : Tryd.prog.cellsOf 39 = 20 := by kernel_rfl
theorem cellsU : Tryd.prog.cellsOf 28 = 1 := by kernel_rfl
theorem laidPlain (W : World) : laidMetH Tryd.prog Rows.fnExactFormatIntRow.laid W = laidMet Tryd.prog Rows.fnExactFormatIntRow.laid W := Go.MakeChecks.laidMetH_plain _ _ _ (by kernel_rfl)
theorem tabEq : (Rows.laid_internal_strconv_uint64pow10 : DataW Unit) = Lib.tabData .u64 Lib.pow10Tab := by kernel_rfl

theorem table {W : World} (h : laidMetH Tryd.prog Rows.fnExactFormatIntRow.laid W) : Lib.TabIs Tryd.prog W "internal/strconv.uint64pow10" .u64 Lib.pow10Tab := by
  rw [laidPlain] at h
  have h2 : laidMet Tryd.prog [("internal/strconv.uint64pow10", Rows.laid_internal_strconv_uint64pow10)] W := h.tail.tail
  rw [tabEq] at h2
  exact Lib.tabIs_of_head (rest := []) gTab gTabType Tryd.underlying39 Tryd.underlying28 cellsU cellsTab h2

theorem contract (H : Type) (enc : TypeId × Value → H) (W : World) (base : Nat) (args : Array Value) (ds gs : List (DataW H)) (before : List MemPlace)
    (hval : ∀ (j : Nat) t v, Tryd.f3.params[j]? = some t → args[j]? = some v → Value.okWide Tryd.prog W .any base t v)
    (hW : DataW.Whole enc Tryd.prog Tryd.f3.params.toList Rows.fnExactFormatIntSpec.vars false W args.toList ds gs before) (hL : laidMetH Tryd.prog Rows.fnExactFormatIntRow.laid W) :
    Calls Tryd.prog 3 args W fun e W' => ∃ v, e = .returned v ∧ Rows.fnExactFormatIntSpec.post enc Tryd.prog Tryd.f3 false true false false W args v W' := by
  have hW' := hW
  obtain ⟨p, q, hA0, hV, rfl, hfz, hnd⟩ := hW
  have hA : DataW.TrodAll enc Tryd.prog W 0 (fun _ => true) true Tryd.f3.params.toList args.toList ds p := hA0
  rw [Tryd.params3] at hA hval
  obtain ⟨v0, vs0, d0, ds0, p0, q0, hargs, rfl, rfl, h0, r0⟩ := trodAll_cons hA
  obtain ⟨rfl, rfl, rfl⟩ := trodAll_nil r0
  obtain rfl : args = #[v0] := by cases args; simp_all
  obtain ⟨rfl, rfl⟩ := trodVars_none hV
  obtain ⟨a, rfl, rfl, rfl, wa⟩ := open_int Tryd.underlying3 (hval 0 3 v0 rfl rfl) h0
  have bd := bounds_i64 wa
  clear hA0
  refine (core a bd.1 bd.2 W (table hL)).mono fun e W' ⟨he, bel⟩ => ?_
  subst he
  exact ⟨_, rfl, _, _, _, [], _, [], hW', trodAll_mk1 (shut_bool Tryd.underlying4 _), (trodAll_cons_mk (shut_int Tryd.underlying3 wa) trodAll_mk0), rfl, bel.frame _, fun h => by cases h⟩

/-- A block that holds these cells. -/
def laidAs (cs : Array Value) : Obj → Obj
  | .cells _ t frozen => .cells cs t frozen
  | o => o
/-- A world for the witness: the settled one, each table holding what its initialiser lays. -/
def laidWorld (W : World) : World :=
  { W with heap := (((W).heap.modify 0 (laidAs #[.int .u64 1, .int .u64 10, .int .u64 100, .int .u64 1000, .int .u64 10000, .int .u64 100000, .int .u64 1000000, .int .u64 10000000, .int .u64 100000000, .int .u64 1000000000, .int .u64 10000000000, .int .u64 100000000000, .int .u64 1000000000000, .int .u64 10000000000000, .int .u64 100000000000000, .int .u64 1000000000000000, .int .u64 10000000000000000, .int .u64 100000000000000000, .int .u64 1000000000000000000, .int .u64 10000000000000000000])).modify 1 (laidAs #[.int .u8 0, .int .u8 1, .int .u8 28, .int .u8 2, .int .u8 29, .int .u8 14, .int .u8 24, .int .u8 3, .int .u8 30, .int .u8 22, .int .u8 20, .int .u8 15, .int .u8 25, .int .u8 17, .int .u8 4, .int .u8 8, .int .u8 31, .int .u8 27, .int .u8 13, .int .u8 23, .int .u8 21, .int .u8 19, .int .u8 16, .int .u8 7, .int .u8 26, .int .u8 12, .int .u8 18, .int .u8 6, .int .u8 11, .int .u8 5, .int .u8 10, .int .u8 9])).modify 2 (laidAs #[.int .u8 0, .int .u8 1, .int .u8 56, .int .u8 2, .int .u8 57, .int .u8 49, .int .u8 28, .int .u8 3, .int .u8 61, .int .u8 58, .int .u8 42, .int .u8 50, .int .u8 38, .int .u8 29, .int .u8 17, .int .u8 4, .int .u8 62, .int .u8 47, .int .u8 59, .int .u8 36, .int .u8 45, .int .u8 43, .int .u8 51, .int .u8 22, .int .u8 53, .int .u8 39, .int .u8 33, .int .u8 30, .int .u8 24, .int .u8 18, .int .u8 12, .int .u8 5, .int .u8 63, .int .u8 55, .int .u8 48, .int .u8 27, .int .u8 60, .int .u8 41, .int .u8 37, .int .u8 16, .int .u8 46, .int .u8 35, .int .u8 44, .int .u8 21, .int .u8 52, .int .u8 32, .int .u8 23, .int .u8 11, .int .u8 54, .int .u8 26, .int .u8 40, .int .u8 15, .int .u8 34, .int .u8 20, .int .u8 31, .int .u8 10, .int .u8 25, .int .u8 14, .int .u8 19, .int .u8 9, .int .u8 13, .int .u8 8, .int .u8 7, .int .u8 6]) }
theorem laid_met (os : Os) : laidMet Tryd.prog Rows.fnExactFormatIntRow.laid ((laidWorld (World.holding Tryd.prog os ⟨#[], #[], []⟩)).forCall (fun _ _ => 0) ⟨#[], #[.int .i64 0], []⟩).memory :=
  laidMet_of_run' 8 (by kernel_rfl) (by kernel_rfl)
theorem reads (os : Os) {H : Type} (enc : TypeId × Value → H) : ∃ places, DataW.whole enc Tryd.prog ((laidWorld (World.holding Tryd.prog os ⟨#[], #[], []⟩)).forCall (fun _ _ => 0) ⟨#[], #[.int .i64 0], []⟩).memory Tryd.f3.params.toList Rows.fnExactFormatIntSpec.vars false #[Value.int .i64 0].toList 8 = some ([.lit (.int .i64 0)], [], places) :=
  ⟨[], by kernel_rfl⟩

set_option maxRecDepth 100000 in
theorem lifted (os : Os) (started : os.Started) (H : Type) (enc : TypeId × Value → H) (F : Stop.Interp) :
    ReturnsInHanded {} Tryd.checked os 3 .any ((OpenSpec.ofChange Rows.fnExactFormatIntSpec).preRow enc Tryd.prog Tryd.f3 Rows.fnExactFormatIntRow.domain false Rows.fnExactFormatIntRow.laid) (((OpenSpec.ofChange Rows.fnExactFormatIntSpec).at F).post enc Tryd.prog Tryd.f3 false true false false) := by
  obtain ⟨places, hx⟩ := reads os enc
  refine returnsInHanded_of_row (C := Tryd.checked) (s := OpenSpec.ofChange Rows.fnExactFormatIntSpec) own started (by kernel_rfl) Tryd.func3
    (witness_row_at (enc := enc) (C := Tryd.checked) false (laidWorld (World.holding Tryd.prog os ⟨#[], #[], []⟩)) #[.int .i64 0] rfl (by kernel_rfl) (by kernel_rfl) (by kernel_rfl)
      (OpenSpec.preRow_of_cond 8 hx (by kernel_rfl) (fun k hk => by cases hk) (by kernel_rfl) (laid_met os))) ?_
  intro W base args ds gs before hval hW _ _ _ hL _ _
  exact contract H enc W base args ds gs before hval hW hL

theorem said : Rows.FnExactFormatIntSaid :=
  OpenClaim.holds_of_cond 3 Tryd.f3 rfl rfl rfl rfl rfl rfl rfl ⟨rfl, rfl, rfl, rfl, rfl⟩ rfl rfl rfl rfl rfl (by kernel_rfl) Tryd.func3 (by kernel_rfl)
    (of_decide_eq_true (by kernel_rfl)) (by unfold Func.isWrapper; first | (rw [if_pos (by decide +kernel)]; kernel_rfl) | (rw [if_neg (by decide +kernel)]; exact ⟨rfl, rfl⟩))
    (fun os started H enc _ F => by rw [OpenClaim.pre_eq_preRow]; exact lifted os started H enc F)

theorem plain (f : FuncId) (fn : Func) (hf : Tryd.pinned.checked.prog.funcNamed "loop.example/s02245/laws.FnExactFormatInt" = some f) (hfn : Tryd.pinned.checked.prog.funcs[f]? = some fn) :
    false = Tryd.pinned.checked.prog.looks [] ∧ ∀ (j : Nat) t, fn.params[j]? = some t → Tryd.pinned.checked.prog.wantsStandIn t = false := by
  obtain rfl : f = 3 := Option.some.inj ((show Tryd.prog.funcNamed "loop.example/s02245/laws.FnExactFormatInt" = some 3 by kernel_rfl).symm.trans hf) |>.symm
  obtain rfl : fn = Tryd.f3 := (Option.some.inj (Tryd.func3.symm.trans hfn)).symm
  refine ⟨by kernel_rfl, fun j t ht => ?_⟩
  rw [Tryd.params3] at ht
  obtain rfl : t = 3 := by simpa using Array.mem_of_getElem? ht
  exact (show Tryd.prog.wantsStandIn 3 = false by kernel_rfl)

/-- The card. -/
theorem card : Rows.FnExactFormatIntCardSaid :=
  Claim7.holds_tied_plain_at .later [] _ _ _ _ said (fun _ h => by cases h) (by kernel_rfl) (fun _ h => by cases h) fnExactFormatInt_row_tie rfl ⟨rfl, rfl⟩ (by kernel_rfl) rfl plain (by kernel_rfl)
#print axioms card
end Go.Proofs.YtfhiapcdipgflaaDoor.fnExactFormatInt
