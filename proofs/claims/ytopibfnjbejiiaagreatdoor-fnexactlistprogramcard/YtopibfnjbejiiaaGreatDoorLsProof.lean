import Derived.Test.YtopibfnjbejiiaaGreatDoorCards
import Derived.Test.YtopibfnjbejiiaaGreatDoorTie
import Derived.Test.YtopibfnjbejiiaaGreatDoorLsCore
import Derived.WalkKit
import Derived.ProofKit
import Derived.OpenShut
import Derived.WalkSmall
import Derived.ChangeVars
import Derived.Deep.DeepHandedRow
import Derived.Lib.LaidTab
import Derived.Stop.LaidErr
import Derived.MakeChecks
import Derived.Deep.DeepWitnessRowRef
namespace Go.Proofs.YtopibfnjbejiiaaGreatDoor.fnExactListProgram
open Go.ChangeShapes Go.WideShapes Go.ChangeAt Go.RowKit Go.Proofs.YtopibfnjbejiiaaGreatDoor.bts Go.Proofs.YtopibfnjbejiiaaGreatDoor.pg Go.Proofs.YtopibfnjbejiiaaGreatDoor.chk Go.Proofs.YtopibfnjbejiiaaGreatDoor.ls

theorem own : ownKnob Tryz.prog.godebug = none := by kernel_rfl
theorem laidOut : laidOutB Tryz.prog = true := by kernel_rfl
theorem gTab : Tryz.prog.globalNamed "loop.example/s02245/impl.shapes" = some 1 := by kernel_rfl
theorem gTabType : (Tryz.prog.globals[1]?).map (·.type) = some 118 := by kernel_rfl
theorem cellsTab : Tryz.prog.cellsOf 118 = 112 := by kernel_rfl
theorem cellsShape : Tryz.prog.cellsOf 117 = 4 := by kernel_rfl
theorem cellsUse : Tryz.prog.cellsOf 115 = 1 := by kernel_rfl
theorem laidPlain (W : World) : laidMetH Tryz.prog Rows.fnExactListProgramRow.laid W = laidMet Tryz.prog Rows.fnExactListProgramRow.laid W := Go.MakeChecks.laidMetH_plain _ _ _ (by kernel_rfl)
theorem laidEq : (Rows.laid_loop_example_s02245_impl_shapes : DataW Unit) = .agg ((List.range 28).map fun op => .agg [.lit (.int .i64 (shA op)), .lit (.int .i64 (shB op)), .lit (.int .i64 (tk op)), .lit (.int .i64 (lv op))]) := by kernel_rfl

theorem int_at {W : World} {T : TypeId} {m : Nat} {v : Value} {y : DataW Unit × List MemPlace} {z : Int} (hu : Tryz.prog.underlying T = some (.int .i64)) (h : DataW.trod (fun _ => ()) Tryz.prog W 0 (fun _ => true) false m T [v] = some y) (e : y.1 = .lit (.int .i64 z)) : v = .int .i64 z := by
  obtain ⟨n, e1, e2, _⟩ := DataW.trod_int hu h
  simp only [List.cons.injEq, and_true] at e1
  subst e2
  simp only [DataW.lit.injEq, Lit.int.injEq, true_and] at e
  rw [e1, e]

set_option maxRecDepth 100000 in
theorem shape_at {W : World} {m : Nat} {cs : List Value} {pl : List MemPlace} {a b c d : Int} (h : DataW.trod (fun _ => ()) Tryz.prog W 0 (fun _ => true) false m 117 cs = some (.agg [.lit (.int .i64 a), .lit (.int .i64 b), .lit (.int .i64 c), .lit (.int .i64 d)], pl)) : cs = [.int .i64 a, .int .i64 b, .int .i64 c, .int .i64 d] := by
  obtain ⟨ys, m', _, hy, hl, hlen, hf⟩ := DataW.trod_struct Tryz.underlying117 h
  rw [cellsShape] at hl
  simp only [Prod.mk.injEq, DataW.agg.injEq] at hy
  match cs, hl with
  | [v0, v1, v2, v3], _ =>
    match ys, hlen with
    | [y0, y1, y2, y3], _ =>
      simp only [List.map_cons, List.map_nil, List.cons.injEq, and_true] at hy
      obtain ⟨⟨e0, e1, e2, e3⟩, _⟩ := hy
      rw [int_at Tryz.underlying115 (field (o := 0) (hf 0 _ rfl) cellsUse rfl) e0.symm, int_at Tryz.underlying115 (field (o := 1) (hf 1 _ rfl) cellsUse rfl) e1.symm, int_at Tryz.underlying3 (field (o := 2) (hf 2 _ rfl) cellsInt rfl) e2.symm, int_at Tryz.underlying3 (field (o := 3) (hf 3 _ rfl) cellsInt rfl) e3.symm]

theorem shapes {W : World} (h : laidMetH Tryz.prog Rows.fnExactListProgramRow.laid W) : Shp W := by
  rw [laidPlain] at h
  have h2 : laidMet Tryz.prog [("loop.example/s02245/impl.shapes", Rows.laid_loop_example_s02245_impl_shapes)] W := h.tail.tail.tail.tail.tail
  rw [laidEq] at h2
  obtain ⟨ps, ⟨g', t', cs, fuel, p, q, hg', ht', hvar, hd, _, _⟩, _⟩ := h2
  obtain rfl := Option.some.inj (gTab.symm.trans hg')
  obtain rfl := Option.some.inj (gTabType.symm.trans ht')
  obtain ⟨xs, m, _, hx, hl, hlen, hel⟩ := DataW.trod_array Tryz.underlying118 hd
  rw [cellsTab] at hl
  simp only [Prod.mk.injEq, DataW.agg.injEq] at hx
  intro op ho
  have hE := hel op ho
  rw [cellsShape] at hE
  obtain ⟨y, hy⟩ : ∃ y, xs[op]? = some y := ⟨_, List.getElem?_eq_getElem (by omega)⟩
  have hv := congrArg (fun l => l[op]?) hx.1
  simp only [List.getElem?_map, hy, List.getElem?_range ho, Option.map_some, Option.some.injEq] at hv
  rw [hy] at hE
  obtain ⟨y1, y2⟩ := y
  simp only at hv
  subst hv
  have c4 := shape_at hE
  have ce : ∀ j, j < 4 → W.cell? ⟨1, op * 4 + j, none⟩ = ((cs.toList.drop (op * 4)).take 4)[j]? := by
    intro j hj
    rw [World.var?_cell gTab hvar (op * 4 + j), List.getElem?_take_of_lt hj, List.getElem?_drop, Array.getElem?_toList]
  rw [c4] at ce
  exact ⟨ce 0 (by omega), ce 1 (by omega), ce 2 (by omega), ce 3 (by omega)⟩

theorem gPow : Tryz.prog.globalNamed "internal/strconv.uint64pow10" = some 3 := by kernel_rfl
theorem gPowType : (Tryz.prog.globals[3]?).map (·.type) = some 176 := by kernel_rfl
theorem cellsPow : Tryz.prog.cellsOf 176 = 20 := by kernel_rfl
theorem cellsU : Tryz.prog.cellsOf 111 = 1 := by kernel_rfl
theorem powEq : (Rows.laid_internal_strconv_uint64pow10 : DataW Unit) = Lib.tabData .u64 Lib.pow10Tab := by kernel_rfl
theorem pows {W : World} (h : laidMetH Tryz.prog Rows.fnExactListProgramRow.laid W) : Tab W := by
  rw [laidPlain] at h
  have h2 : laidMet Tryz.prog [("internal/strconv.uint64pow10", Rows.laid_internal_strconv_uint64pow10), ("unicode.White_Space", Rows.laid_unicode_White_Space), ("strings.asciiSpace", Rows.laid_strings_asciiSpace), ("loop.example/s02245/impl.shapes", Rows.laid_loop_example_s02245_impl_shapes)] W := h.tail.tail
  rw [powEq] at h2
  exact Lib.tabIs_of_head gPow gPowType Tryz.underlying176 Tryz.underlying111 cellsU cellsPow h2
theorem gAsc : Tryz.prog.globalNamed "strings.asciiSpace" = some 0 := by kernel_rfl
theorem gAscType : (Tryz.prog.globals[0]?).map (·.type) = some 91 := by kernel_rfl
theorem cellsAsc : Tryz.prog.cellsOf 91 = 256 := by kernel_rfl
set_option maxRecDepth 100000 in
theorem ascEq : (Rows.laid_strings_asciiSpace : DataW Unit) = Lib.tabData .u8 Lib.asciiSpaceTab := by kernel_rfl
theorem ascs {W : World} (h : laidMetH Tryz.prog Rows.fnExactListProgramRow.laid W) : Asc W := by
  rw [laidPlain] at h
  have h2 : laidMet Tryz.prog [("strings.asciiSpace", Rows.laid_strings_asciiSpace), ("loop.example/s02245/impl.shapes", Rows.laid_loop_example_s02245_impl_shapes)] W := h.tail.tail.tail.tail
  rw [ascEq] at h2
  exact Lib.tabIs_of_head gAsc gAscType Tryz.underlying91 Tryz.underlying5 cellsBy cellsAsc h2

set_option maxRecDepth 100000 in
theorem contract (H : Type) (enc : TypeId × Value → H) (W : World) (base : Nat) (args : Array Value) (ds gs : List (DataW H)) (before : List MemPlace)
    (hval : ∀ (j : Nat) t v, Tryz.f3.params[j]? = some t → args[j]? = some v → Value.okWide Tryz.prog W .any base t v)
    (hW : DataW.Whole enc Tryz.prog Tryz.f3.params.toList Rows.fnExactListProgramSpec.vars false W args.toList ds gs before) (hL : laidMetH Tryz.prog Rows.fnExactListProgramRow.laid W) :
    Calls Tryz.prog 3 args W fun e W' => ∃ v, e = .returned v ∧ Rows.fnExactListProgramSpec.post enc Tryz.prog Tryz.f3 false true false false W args v W' := by
  have hW' := hW
  obtain ⟨p, q, hA0, hV0, rfl, hfz, hnd⟩ := hW
  have hA : DataW.TrodAll enc Tryz.prog W 0 (fun _ => true) true Tryz.f3.params.toList args.toList ds p := hA0
  have hV : DataW.TrodVars enc Tryz.prog W (fun _ => true) ["loop.example/s02245/impl.shapes"] gs q := hV0
  rw [Tryz.params3] at hA hval
  obtain ⟨v0, vs0, d0, ds0, p0, q0, hargs, rfl, rfl, h0, r0⟩ := trodAll_cons hA
  obtain ⟨rfl, rfl, rfl⟩ := trodAll_nil r0
  obtain rfl : args = #[v0] := by cases args; simp_all
  obtain ⟨g, t, gcs, gfuel, d, p', rfl, hg, ht, hvar, hd, rfl⟩ := trodVars_one hV
  obtain rfl := Option.some.inj (gTab.symm.trans hg)
  obtain rfl := Option.some.inj (gTabType.symm.trans ht)
  have hltv : ∀ x ∈ p', x.block < W.heap.size := DataW.trod_lt gfuel _ _ _ hd
  obtain ⟨cs, rfl, hcs⟩ := okWide_struct Tryz.underlying25 (hval 0 25 v0 rfl rfl)
  have k0 := h0
  have lt0 : ∀ x ∈ p0, x.block < W.heap.size := by obtain ⟨m, hm⟩ := k0; exact DataW.trod_lt m _ _ _ hm
  obtain ⟨P, uk, up, rfl, hk, hp, hN⟩ : ∃ (P : Pg) (uk up : Value), cs = #[uk, up] ∧ RdKV W uk P.consts ∧ RdPV W up P.protos ∧ Num P.consts := by
    obtain ⟨fuel, hf⟩ := h0
    obtain ⟨P, uk, up, e, h1, h2, h3⟩ := open_programN hf
    exact ⟨P, uk, up, by cases cs; simpa [Value.cells] using e, h1, h2, h3⟩
  have hS := shapes hL
  have hw0 : 1 < W.heap.size := World.block_lt_of_cell? _ _ (hS 0 (by omega)).1
  clear hA0
  refine (core uk up P W hk hp hS (pows hL) (ascs hL) hN).mono fun e W' ⟨he, bel⟩ => ?_
  subst he
  obtain ⟨fuel', hd'⟩ := Below.trod laidOut (by kernel_rfl) (of_decide_eq_true (by kernel_rfl)) (v := .agg gcs) (⟨gfuel, hd⟩ : DataW.Trod enc Tryz.prog W 0 (fun _ => true) true 118 (.agg gcs) d p') bel hltv
  have hv' := trodVars_mk1 (enc := enc) (spare := fun b => decide (b < W.heap.size)) hg ht (var?_below bel hg hw0 hvar) hd'
  exact ⟨_, rfl, _, _, _, [], _, _, hW', trodAll_mk1 (shut_bool Tryz.underlying4 _), (trodAll_cons_mk (Below.trod laidOut (by kernel_rfl) (of_decide_eq_true (by kernel_rfl)) k0 bel lt0) trodAll_mk0), hv', bel.frame _, fun h => by cases h⟩

/-- A block that holds these cells. -/
def laidAs (cs : Array Value) : Obj → Obj
  | .cells _ t frozen => .cells cs t frozen
  | o => o
def extras (N : Nat) : Array Obj := #[.cells #[.int .u16 9, .int .u16 13, .int .u16 1, .int .u16 32, .int .u16 133, .int .u16 101, .int .u16 160, .int .u16 5760, .int .u16 5600, .int .u16 8192, .int .u16 8202, .int .u16 1, .int .u16 8232, .int .u16 8233, .int .u16 1, .int .u16 8239, .int .u16 8287, .int .u16 48, .int .u16 12288, .int .u16 12288, .int .u16 1] 153, .cells #[.slice (some ⟨N, 0, none⟩) 7 7, .slice none 0 0, .int .i64 2] 150]
set_option maxRecDepth 100000 in
/-- A world for the witness: the settled one with two blocks more (the ranges of White_Space and their table), each variable holding what its initialiser lays. -/
def laidWorld (N : Nat) (w0 : World) : World :=
  let h1 := w0.heap.modify 0 (laidAs (Lib.asciiSpaceTab.map fun z => Value.int .u8 z).toArray)
  let h2 := h1.modify 1 (laidAs #[.int .i64 1, .int .i64 0, .int .i64 0, .int .i64 1, .int .i64 0, .int .i64 0, .int .i64 0, .int .i64 1, .int .i64 0, .int .i64 0, .int .i64 0, .int .i64 1, .int .i64 0, .int .i64 0, .int .i64 0, .int .i64 1, .int .i64 2, .int .i64 0, .int .i64 0, .int .i64 1, .int .i64 3, .int .i64 0, .int .i64 0, .int .i64 1, .int .i64 3, .int .i64 0, .int .i64 1, .int .i64 0, .int .i64 3, .int .i64 0, .int .i64 1, .int .i64 0, .int .i64 5, .int .i64 0, .int .i64 0, .int .i64 1, .int .i64 5, .int .i64 0, .int .i64 1, .int .i64 0, .int .i64 6, .int .i64 0, .int .i64 0, .int .i64 1, .int .i64 0, .int .i64 0, .int .i64 0, .int .i64 1, .int .i64 0, .int .i64 0, .int .i64 3, .int .i64 1, .int .i64 0, .int .i64 0, .int .i64 2, .int .i64 1, .int .i64 0, .int .i64 0, .int .i64 3, .int .i64 0, .int .i64 7, .int .i64 0, .int .i64 2, .int .i64 1, .int .i64 0, .int .i64 0, .int .i64 1, .int .i64 1, .int .i64 0, .int .i64 0, .int .i64 1, .int .i64 1, .int .i64 9, .int .i64 0, .int .i64 0, .int .i64 0, .int .i64 9, .int .i64 0, .int .i64 1, .int .i64 0, .int .i64 9, .int .i64 0, .int .i64 1, .int .i64 0, .int .i64 9, .int .i64 0, .int .i64 1, .int .i64 0, .int .i64 8, .int .i64 8, .int .i64 1, .int .i64 0, .int .i64 8, .int .i64 0, .int .i64 1, .int .i64 0, .int .i64 8, .int .i64 0, .int .i64 0, .int .i64 0, .int .i64 0, .int .i64 0, .int .i64 1, .int .i64 0, .int .i64 4, .int .i64 9, .int .i64 0, .int .i64 0, .int .i64 4, .int .i64 9, .int .i64 0, .int .i64 0])
  let h3 := h2.modify 2 (laidAs #[.pointer (some ⟨N + 1, 0, none⟩)])
  let h4 := h3.modify 3 (laidAs (Lib.pow10Tab.map fun z => Value.int .u64 z).toArray)
  let h5 := h4.modify 4 (laidAs #[.int .u8 0, .int .u8 1, .int .u8 28, .int .u8 2, .int .u8 29, .int .u8 14, .int .u8 24, .int .u8 3, .int .u8 30, .int .u8 22, .int .u8 20, .int .u8 15, .int .u8 25, .int .u8 17, .int .u8 4, .int .u8 8, .int .u8 31, .int .u8 27, .int .u8 13, .int .u8 23, .int .u8 21, .int .u8 19, .int .u8 16, .int .u8 7, .int .u8 26, .int .u8 12, .int .u8 18, .int .u8 6, .int .u8 11, .int .u8 5, .int .u8 10, .int .u8 9])
  let h6 := h5.modify 5 (laidAs #[.int .u8 0, .int .u8 1, .int .u8 56, .int .u8 2, .int .u8 57, .int .u8 49, .int .u8 28, .int .u8 3, .int .u8 61, .int .u8 58, .int .u8 42, .int .u8 50, .int .u8 38, .int .u8 29, .int .u8 17, .int .u8 4, .int .u8 62, .int .u8 47, .int .u8 59, .int .u8 36, .int .u8 45, .int .u8 43, .int .u8 51, .int .u8 22, .int .u8 53, .int .u8 39, .int .u8 33, .int .u8 30, .int .u8 24, .int .u8 18, .int .u8 12, .int .u8 5, .int .u8 63, .int .u8 55, .int .u8 48, .int .u8 27, .int .u8 60, .int .u8 41, .int .u8 37, .int .u8 16, .int .u8 46, .int .u8 35, .int .u8 44, .int .u8 21, .int .u8 52, .int .u8 32, .int .u8 23, .int .u8 11, .int .u8 54, .int .u8 26, .int .u8 40, .int .u8 15, .int .u8 34, .int .u8 20, .int .u8 31, .int .u8 10, .int .u8 25, .int .u8 14, .int .u8 19, .int .u8 9, .int .u8 13, .int .u8 8, .int .u8 7, .int .u8 6])
  { w0 with heap := h6 }
theorem laid_met (os : Os) : laidMet Tryz.prog Rows.fnExactListProgramRow.laid ((laidWorld (World.settled Tryz.prog os).heap.size (World.holding Tryz.prog os ⟨extras (World.settled Tryz.prog os).heap.size, #[], []⟩)).forCall (fun _ _ => 0) ⟨#[], #[.agg #[.slice none 0 0, .slice none 0 0]], []⟩).memory :=
  laidMet_of_run' 8 (by kernel_rfl) (by kernel_rfl)
theorem reads (os : Os) {H : Type} (enc : TypeId × Value → H) : ∃ d places, DataW.whole enc Tryz.prog ((laidWorld (World.settled Tryz.prog os).heap.size (World.holding Tryz.prog os ⟨extras (World.settled Tryz.prog os).heap.size, #[], []⟩)).forCall (fun _ _ => 0) ⟨#[], #[.agg #[.slice none 0 0, .slice none 0 0]], []⟩).memory Tryz.f3.params.toList Rows.fnExactListProgramSpec.vars false #[Value.agg #[.slice none 0 0, .slice none 0 0]].toList 8 = some ([.agg [.nil, .nil]], [d], places) :=
  ⟨Rows.laid_loop_example_s02245_impl_shapes, MemPlace.row ⟨1, 0, none⟩ 112, by kernel_rfl⟩

set_option maxRecDepth 100000 in
theorem lifted (os : Os) (started : os.Started) (H : Type) (enc : TypeId × Value → H) (F : Stop.Interp) :
    ReturnsInHanded {} Tryz.checked os 3 .any ((OpenSpec.ofChange Rows.fnExactListProgramSpec).preRow enc Tryz.prog Tryz.f3 Rows.fnExactListProgramRow.domain false Rows.fnExactListProgramRow.laid) (((OpenSpec.ofChange Rows.fnExactListProgramSpec).at F).post enc Tryz.prog Tryz.f3 false true false false) := by
  obtain ⟨d, places, hx⟩ := reads os enc
  refine returnsInHanded_of_row (C := Tryz.checked) (s := OpenSpec.ofChange Rows.fnExactListProgramSpec) own started (by kernel_rfl) Tryz.func3
    (witness_row_atRef (enc := enc) (C := Tryz.checked) false (laidWorld (World.settled Tryz.prog os).heap.size (World.holding Tryz.prog os ⟨extras (World.settled Tryz.prog os).heap.size, #[], []⟩)) #[.agg #[.slice none 0 0, .slice none 0 0]] rfl (by kernel_rfl) (by kernel_rfl) (by kernel_rfl)
      (OpenSpec.preRow_of_cond 8 hx (by kernel_rfl) (fun k hk => by cases hk) (by kernel_rfl) (laid_met os))) ?_
  intro W base args ds gs before hval hW _ _ _ hL _ _
  exact contract H enc W base args ds gs before hval hW hL

theorem said : Rows.FnExactListProgramSaid :=
  OpenClaim.holds_of_cond 3 Tryz.f3 rfl rfl rfl rfl rfl rfl rfl ⟨rfl, rfl, rfl, rfl, rfl⟩ rfl rfl rfl rfl rfl (by kernel_rfl) Tryz.func3 (by kernel_rfl)
    (of_decide_eq_true (by kernel_rfl)) (by unfold Func.isWrapper; first | (rw [if_pos (by decide +kernel)]; kernel_rfl) | (rw [if_neg (by decide +kernel)]; exact ⟨rfl, rfl⟩))
    (fun os started H enc _ F => by rw [OpenClaim.pre_eq_preRow]; exact lifted os started H enc F)

theorem plain (f : FuncId) (fn : Func) (hf : Tryz.pinned.checked.prog.funcNamed "loop.example/s02245/laws.FnExactListProgram" = some f) (hfn : Tryz.pinned.checked.prog.funcs[f]? = some fn) :
    false = Tryz.pinned.checked.prog.looks [] ∧ ∀ (j : Nat) t, fn.params[j]? = some t → Tryz.pinned.checked.prog.wantsStandIn t = false := by
  obtain rfl : f = 3 := Option.some.inj ((show Tryz.prog.funcNamed "loop.example/s02245/laws.FnExactListProgram" = some 3 by kernel_rfl).symm.trans hf) |>.symm
  obtain rfl : fn = Tryz.f3 := (Option.some.inj (Tryz.func3.symm.trans hfn)).symm
  refine ⟨by kernel_rfl, fun j t ht => ?_⟩
  rw [Tryz.params3] at ht
  obtain rfl : t = 25 := by simpa using Array.mem_of_getElem? ht
  exact (show Tryz.prog.wantsStandIn 25 = false by kernel_rfl)

/-- The card. -/
theorem card : Rows.FnExactListProgramCardSaid :=
  Claim7.holds_tied_plain_at .later [] _ _ _ _ said (fun _ h => by cases h) (by kernel_rfl) (fun _ h => by cases h) fnExactListProgram_row_tie rfl ⟨rfl, rfl⟩ (by kernel_rfl) rfl plain (by kernel_rfl)
#print axioms card
end Go.Proofs.YtopibfnjbejiiaaGreatDoor.fnExactListProgram
