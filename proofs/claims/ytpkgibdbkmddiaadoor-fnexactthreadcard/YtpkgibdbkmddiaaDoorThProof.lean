import Derived.Test.YtpkgibdbkmddiaaDoorCards
import Derived.Test.YtpkgibdbkmddiaaDoorTie
import Derived.Test.YtpkgibdbkmddiaaDoorThCore
import Derived.WalkKit
import Derived.ProofKit
import Derived.OpenShut
import Derived.WalkSmall
import Derived.ChangeVars
import Derived.Deep.DeepHandedRow
import Derived.Lib.LaidTab
import Derived.Stop.LaidErr
import Derived.MakeChecks
namespace Go.Proofs.YtpkgibdbkmddiaaDoor.fnExactThread
open Go.ChangeShapes Go.WideShapes Go.ChangeAt Go.RowKit Go.Proofs.YtpkgibdbkmddiaaDoor.bts Go.Proofs.YtpkgibdbkmddiaaDoor.pg Go.Proofs.YtpkgibdbkmddiaaDoor.chk Go.Proofs.YtpkgibdbkmddiaaDoor.th

theorem own : ownKnob Tryd.prog.godebug = none := by kernel_rfl
theorem laidOut : laidOutB Tryd.prog = true := by kernel_rfl
theorem gTab : Tryd.prog.globalNamed "loop.example/s02245/impl.shapes" = some 0 := by kernel_rfl
theorem gTabType : (Tryd.prog.globals[0]?).map (·.type) = some 113 := by kernel_rfl
theorem cellsTab : Tryd.prog.cellsOf 113 = 112 := by kernel_rfl
theorem cellsShape : Tryd.prog.cellsOf 112 = 4 := by kernel_rfl
theorem cellsUse : Tryd.prog.cellsOf 110 = 1 := by kernel_rfl
theorem laidPlain (W : World) : laidMetH Tryd.prog Rows.fnExactThreadRow.laid W = laidMet Tryd.prog Rows.fnExactThreadRow.laid W := Go.MakeChecks.laidMetH_plain _ _ _ (by kernel_rfl)
theorem laidEq : (Rows.laid_loop_example_s02245_impl_shapes : DataW Unit) = .agg ((List.range 28).map fun op => .agg [.lit (.int .i64 (shA op)), .lit (.int .i64 (shB op)), .lit (.int .i64 (tk op)), .lit (.int .i64 (lv op))]) := by kernel_rfl

theorem int_at {W : World} {T : TypeId} {m : Nat} {v : Value} {y : DataW Unit × List MemPlace} {z : Int} (hu : Tryd.prog.underlying T = some (.int .i64)) (h : DataW.trod (fun _ => ()) Tryd.prog W 0 (fun _ => true) false m T [v] = some y) (e : y.1 = .lit (.int .i64 z)) : v = .int .i64 z := by
  obtain ⟨n, e1, e2, _⟩ := DataW.trod_int hu h
  simp only [List.cons.injEq, and_true] at e1
  subst e2
  simp only [DataW.lit.injEq, Lit.int.injEq, true_and] at e
  rw [e1, e]

set_option maxRecDepth 100000 in
theorem shape_at {W : World} {m : Nat} {cs : List Value} {pl : List MemPlace} {a b c d : Int} (h : DataW.trod (fun _ => ()) Tryd.prog W 0 (fun _ => true) false m 112 cs = some (.agg [.lit (.int .i64 a), .lit (.int .i64 b), .lit (.int .i64 c), .lit (.int .i64 d)], pl)) : cs = [.int .i64 a, .int .i64 b, .int .i64 c, .int .i64 d] := by
  obtain ⟨ys, m', _, hy, hl, hlen, hf⟩ := DataW.trod_struct Tryd.underlying112 h
  rw [cellsShape] at hl
  simp only [Prod.mk.injEq, DataW.agg.injEq] at hy
  match cs, hl with
  | [v0, v1, v2, v3], _ =>
    match ys, hlen with
    | [y0, y1, y2, y3], _ =>
      simp only [List.map_cons, List.map_nil, List.cons.injEq, and_true] at hy
      obtain ⟨⟨e0, e1, e2, e3⟩, _⟩ := hy
      rw [int_at Tryd.underlying110 (field (o := 0) (hf 0 _ rfl) cellsUse rfl) e0.symm, int_at Tryd.underlying110 (field (o := 1) (hf 1 _ rfl) cellsUse rfl) e1.symm, int_at Tryd.underlying3 (field (o := 2) (hf 2 _ rfl) cellsInt rfl) e2.symm, int_at Tryd.underlying3 (field (o := 3) (hf 3 _ rfl) cellsInt rfl) e3.symm]

theorem shapes {W : World} (h : laidMetH Tryd.prog Rows.fnExactThreadRow.laid W) : Shp W := by
  rw [laidPlain] at h
  have h2 : laidMet Tryd.prog [("loop.example/s02245/impl.shapes", Rows.laid_loop_example_s02245_impl_shapes)] W := h
  rw [laidEq] at h2
  obtain ⟨ps, ⟨g', t', cs, fuel, p, q, hg', ht', hvar, hd, _, _⟩, _⟩ := h2
  obtain rfl := Option.some.inj (gTab.symm.trans hg')
  obtain rfl := Option.some.inj (gTabType.symm.trans ht')
  obtain ⟨xs, m, _, hx, hl, hlen, hel⟩ := DataW.trod_array Tryd.underlying113 hd
  rw [cellsTab] at hl
  simp only [Prod.mk.injEq, DataW.agg.injEq] at hx
  intro op ho
  have hE := hel op ho
  rw [cellsShape] at hE
  obtain ⟨y, hy⟩ : ∃ y, xs[op]? = some y := ⟨_, List.getElem?_eq_getElem (by omega)⟩
  have hv := congrArg (fun l => l[op]?) hx.1
  simp only [List.getElem?_map, hy, List.getElem?_range ho, Option.map_some, Option.some.injEq] at hv
  rw [hy] at hE
  obtain ⟨y1, y2⟩ := y
  simp only at hv
  subst hv
  have c4 := shape_at hE
  have ce : ∀ j, j < 4 → W.cell? ⟨0, op * 4 + j, none⟩ = ((cs.toList.drop (op * 4)).take 4)[j]? := by
    intro j hj
    rw [World.var?_cell gTab hvar (op * 4 + j), List.getElem?_take_of_lt hj, List.getElem?_drop, Array.getElem?_toList]
  rw [c4] at ce
  exact ⟨ce 0 (by omega), ce 1 (by omega), ce 2 (by omega), ce 3 (by omega)⟩

set_option maxRecDepth 100000 in
theorem contract (H : Type) (enc : TypeId × Value → H) (W : World) (base : Nat) (args : Array Value) (ds gs : List (DataW H)) (before : List MemPlace)
    (hval : ∀ (j : Nat) t v, Tryd.f4.params[j]? = some t → args[j]? = some v → Value.okWide Tryd.prog W .any base t v)
    (hW : DataW.Whole enc Tryd.prog Tryd.f4.params.toList Rows.fnExactThreadSpec.vars false W args.toList ds gs before) (hL : laidMetH Tryd.prog Rows.fnExactThreadRow.laid W) :
    Calls Tryd.prog 4 args W fun e W' => ∃ v, e = .returned v ∧ Rows.fnExactThreadSpec.post enc Tryd.prog Tryd.f4 false true false false W args v W' := by
  have hW' := hW
  obtain ⟨p, q, hA0, hV0, rfl, hfz, hnd⟩ := hW
  have hA : DataW.TrodAll enc Tryd.prog W 0 (fun _ => true) true Tryd.f4.params.toList args.toList ds p := hA0
  have hV : DataW.TrodVars enc Tryd.prog W (fun _ => true) ["loop.example/s02245/impl.shapes"] gs q := hV0
  rw [Tryd.params4] at hA hval
  obtain ⟨v0, vs0, d0, ds0, p0, q0, hargs, rfl, rfl, h0, r0⟩ := trodAll_cons hA
  obtain ⟨rfl, rfl, rfl⟩ := trodAll_nil r0
  obtain rfl : args = #[v0] := by cases args; simp_all
  obtain ⟨g, t, gcs, gfuel, d, p', rfl, hg, ht, hvar, hd, rfl⟩ := trodVars_one hV
  obtain rfl := Option.some.inj (gTab.symm.trans hg)
  obtain rfl := Option.some.inj (gTabType.symm.trans ht)
  have hltv : ∀ x ∈ p', x.block < W.heap.size := DataW.trod_lt gfuel _ _ _ hd
  obtain ⟨cs, rfl, hcs⟩ := okWide_struct Tryd.underlying25 (hval 0 25 v0 rfl rfl)
  have k0 := h0
  have lt0 : ∀ x ∈ p0, x.block < W.heap.size := by obtain ⟨m, hm⟩ := k0; exact DataW.trod_lt m _ _ _ hm
  obtain ⟨P, uk, up, rfl, hk, hp⟩ : ∃ (P : Pg) (uk up : Value), cs = #[uk, up] ∧ RdKV W uk P.consts ∧ RdPV W up P.protos := by
    obtain ⟨fuel, hf⟩ := h0
    obtain ⟨P, uk, up, e, h1, h2⟩ := open_program hf
    exact ⟨P, uk, up, by cases cs; simpa [Value.cells] using e, h1, h2⟩
  have hS := shapes hL
  have hw0 : 0 < W.heap.size := World.block_lt_of_cell? _ _ (hS 0 (by omega)).1
  clear hA0
  refine (core uk up P W hk hp hS hw0).mono fun e W' ⟨he, bel⟩ => ?_
  subst he
  obtain ⟨fuel', hd'⟩ := Below.trod laidOut (by kernel_rfl) (of_decide_eq_true (by kernel_rfl)) (v := .agg gcs) (⟨gfuel, hd⟩ : DataW.Trod enc Tryd.prog W 0 (fun _ => true) true 113 (.agg gcs) d p') bel hltv
  have hv' := trodVars_mk1 (enc := enc) (spare := fun b => decide (b < W.heap.size)) hg ht (var?_below bel hg hw0 hvar) hd'
  exact ⟨_, rfl, _, _, _, [], _, _, hW', trodAll_mk1 (shut_bool Tryd.underlying4 _), (trodAll_cons_mk (Below.trod laidOut (by kernel_rfl) (of_decide_eq_true (by kernel_rfl)) k0 bel lt0) trodAll_mk0), hv', bel.frame _, fun h => by cases h⟩

/-- A block that holds these cells. -/
def laidAs (cs : Array Value) : Obj → Obj
  | .cells _ t frozen => .cells cs t frozen
  | o => o
set_option maxRecDepth 100000 in
/-- A world for the witness: the settled one, the table holding what its initialiser lays. -/
def laidWorld (W : World) : World :=
  { W with heap := W.heap.modify 0 (laidAs #[.int .i64 1, .int .i64 0, .int .i64 0, .int .i64 1, .int .i64 0, .int .i64 0, .int .i64 0, .int .i64 1, .int .i64 0, .int .i64 0, .int .i64 0, .int .i64 1, .int .i64 0, .int .i64 0, .int .i64 0, .int .i64 1, .int .i64 2, .int .i64 0, .int .i64 0, .int .i64 1, .int .i64 3, .int .i64 0, .int .i64 0, .int .i64 1, .int .i64 3, .int .i64 0, .int .i64 1, .int .i64 0, .int .i64 3, .int .i64 0, .int .i64 1, .int .i64 0, .int .i64 5, .int .i64 0, .int .i64 0, .int .i64 1, .int .i64 5, .int .i64 0, .int .i64 1, .int .i64 0, .int .i64 6, .int .i64 0, .int .i64 0, .int .i64 1, .int .i64 0, .int .i64 0, .int .i64 0, .int .i64 1, .int .i64 0, .int .i64 0, .int .i64 3, .int .i64 1, .int .i64 0, .int .i64 0, .int .i64 2, .int .i64 1, .int .i64 0, .int .i64 0, .int .i64 3, .int .i64 0, .int .i64 7, .int .i64 0, .int .i64 2, .int .i64 1, .int .i64 0, .int .i64 0, .int .i64 1, .int .i64 1, .int .i64 0, .int .i64 0, .int .i64 1, .int .i64 1, .int .i64 9, .int .i64 0, .int .i64 0, .int .i64 0, .int .i64 9, .int .i64 0, .int .i64 1, .int .i64 0, .int .i64 9, .int .i64 0, .int .i64 1, .int .i64 0, .int .i64 9, .int .i64 0, .int .i64 1, .int .i64 0, .int .i64 8, .int .i64 8, .int .i64 1, .int .i64 0, .int .i64 8, .int .i64 0, .int .i64 1, .int .i64 0, .int .i64 8, .int .i64 0, .int .i64 0, .int .i64 0, .int .i64 0, .int .i64 0, .int .i64 1, .int .i64 0, .int .i64 4, .int .i64 9, .int .i64 0, .int .i64 0, .int .i64 4, .int .i64 9, .int .i64 0, .int .i64 0]) }
theorem laid_met (os : Os) : laidMet Tryd.prog Rows.fnExactThreadRow.laid ((laidWorld (World.holding Tryd.prog os ⟨#[], #[], []⟩)).forCall (fun _ _ => 0) ⟨#[], #[.agg #[.slice none 0 0, .slice none 0 0]], []⟩).memory :=
  laidMet_of_run' 8 (by kernel_rfl) (by kernel_rfl)
theorem reads (os : Os) {H : Type} (enc : TypeId × Value → H) : ∃ d places, DataW.whole enc Tryd.prog ((laidWorld (World.holding Tryd.prog os ⟨#[], #[], []⟩)).forCall (fun _ _ => 0) ⟨#[], #[.agg #[.slice none 0 0, .slice none 0 0]], []⟩).memory Tryd.f4.params.toList Rows.fnExactThreadSpec.vars false #[Value.agg #[.slice none 0 0, .slice none 0 0]].toList 8 = some ([.agg [.nil, .nil]], [d], places) :=
  ⟨Rows.laid_loop_example_s02245_impl_shapes, MemPlace.row ⟨0, 0, none⟩ 112, by kernel_rfl⟩

set_option maxRecDepth 100000 in
theorem lifted (os : Os) (started : os.Started) (H : Type) (enc : TypeId × Value → H) (F : Stop.Interp) :
    ReturnsInHanded {} Tryd.checked os 4 .any ((OpenSpec.ofChange Rows.fnExactThreadSpec).preRow enc Tryd.prog Tryd.f4 Rows.fnExactThreadRow.domain false Rows.fnExactThreadRow.laid) (((OpenSpec.ofChange Rows.fnExactThreadSpec).at F).post enc Tryd.prog Tryd.f4 false true false false) := by
  obtain ⟨d, places, hx⟩ := reads os enc
  refine returnsInHanded_of_row (C := Tryd.checked) (s := OpenSpec.ofChange Rows.fnExactThreadSpec) own started (by kernel_rfl) Tryd.func4
    (witness_row_at (enc := enc) (C := Tryd.checked) false (laidWorld (World.holding Tryd.prog os ⟨#[], #[], []⟩)) #[.agg #[.slice none 0 0, .slice none 0 0]] rfl (by kernel_rfl) (by kernel_rfl) (by kernel_rfl)
      (OpenSpec.preRow_of_cond 8 hx (by kernel_rfl) (fun k hk => by cases hk) (by kernel_rfl) (laid_met os))) ?_
  intro W base args ds gs before hval hW _ _ _ hL _ _
  exact contract H enc W base args ds gs before hval hW hL

theorem said : Rows.FnExactThreadSaid :=
  OpenClaim.holds_of_cond 4 Tryd.f4 rfl rfl rfl rfl rfl rfl rfl ⟨rfl, rfl, rfl, rfl, rfl⟩ rfl rfl rfl rfl rfl (by kernel_rfl) Tryd.func4 (by kernel_rfl)
    (of_decide_eq_true (by kernel_rfl)) (by unfold Func.isWrapper; first | (rw [if_pos (by decide +kernel)]; kernel_rfl) | (rw [if_neg (by decide +kernel)]; exact ⟨rfl, rfl⟩))
    (fun os started H enc _ F => by rw [OpenClaim.pre_eq_preRow]; exact lifted os started H enc F)

theorem plain (f : FuncId) (fn : Func) (hf : Tryd.pinned.checked.prog.funcNamed "loop.example/s02245/laws.FnExactThread" = some f) (hfn : Tryd.pinned.checked.prog.funcs[f]? = some fn) :
    false = Tryd.pinned.checked.prog.looks [] ∧ ∀ (j : Nat) t, fn.params[j]? = some t → Tryd.pinned.checked.prog.wantsStandIn t = false := by
  obtain rfl : f = 4 := Option.some.inj ((show Tryd.prog.funcNamed "loop.example/s02245/laws.FnExactThread" = some 4 by kernel_rfl).symm.trans hf) |>.symm
  obtain rfl : fn = Tryd.f4 := (Option.some.inj (Tryd.func4.symm.trans hfn)).symm
  refine ⟨by kernel_rfl, fun j t ht => ?_⟩
  rw [Tryd.params4] at ht
  obtain rfl : t = 25 := by simpa using Array.mem_of_getElem? ht
  exact (show Tryd.prog.wantsStandIn 25 = false by kernel_rfl)

/-- The card. -/
theorem card : Rows.FnExactThreadCardSaid :=
  Claim7.holds_tied_plain_at .later [] _ _ _ _ said (fun _ h => by cases h) (by kernel_rfl) (fun _ h => by cases h) fnExactThread_row_tie rfl ⟨rfl, rfl⟩ (by kernel_rfl) rfl plain (by kernel_rfl)
#print axioms card
end Go.Proofs.YtpkgibdbkmddiaaDoor.fnExactThread
