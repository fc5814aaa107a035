import Derived.Test.YtkmiagkehcflnaaGreatDoorCards
import Derived.Test.YtkmiagkehcflnaaGreatDoorTie
import Derived.WalkKit
import Derived.ProofKit
import Derived.OpenShut
import Derived.WalkSmall
import Derived.ChangeVars
import Derived.Deep.DeepHandedRow
import Derived.Lib.LaidTab
import Derived.Stop.LaidErr
import Derived.MakeChecks
import Derived.Test.YtkmiagkehcflnaaGreatDoorMIpCore
set_option maxRecDepth 100000
set_option maxHeartbeats 8000000
namespace Go.Proofs.YtkmiagkehcflnaaGreatDoor
namespace fnExactParse
open Go.ChangeShapes Go.WideShapes Go.ChangeAt Go.RowKit bts ip
theorem own:ownKnob Tryz.prog.godebug=none:=by kernel_rfl
theorem laidOut:laidOutB Tryz.prog=true:=by kernel_rfl
theorem gTab:Tryz.prog.globalNamed "loop.example/s02245/impl.operators" = some 1:=by kernel_rfl
theorem gEt:Tryz.prog.globalNamed "errors.errorType" = some 0:=by kernel_rfl
theorem gTabType:(Tryz.prog.globals[1]?).map (·.type)=some 210:=by kernel_rfl
theorem cellsTab:Tryz.prog.cellsOf 210=56:=by kernel_rfl
theorem cellsOpr:Tryz.prog.cellsOf 208=4:=by kernel_rfl
theorem cellsStr:Tryz.prog.cellsOf 9=1:=by kernel_rfl
theorem cellsInt:Tryz.prog.cellsOf 3=1:=by kernel_rfl
theorem rtRow:(Tryz.prog.cutTypes.find? (·.1== "internal/reflectlite.rtype")).map (·.2)=some 116:=by kernel_rfl
theorem oneRow:((List.range 281).filter fun t=>Tryz.prog.rowNamed t [101,114,114,111,114])=[42]:=by kernel_rfl
theorem sizeT:Tryz.prog.types.size=281:=by kernel_rfl
theorem laidEq:(Rows.laid_loop_example_s02245_impl_operators:DataW Unit)=.agg ((List.range 14).map fun k=>.agg [.lit (.string (opTab.getD k ({data:=#[]},0,0,0)).1.data.toList),.lit (.int .i64 (opTab.getD k ({data:=#[]},0,0,0)).2.1),.lit (.int .i64 (opTab.getD k ({data:=#[]},0,0,0)).2.2.1),.lit (.int .i64 (opTab.getD k ({data:=#[]},0,0,0)).2.2.2)]):=by kernel_rfl
theorem laidParts {W:World} (h:laidMetH Tryz.prog Rows.fnExactParseRow.laid W):laidMet Tryz.prog [("loop.example/s02245/impl.operators",Rows.laid_loop_example_s02245_impl_operators)] W∧handlesMet Tryz.prog [("errors.errorType",Rows.laid_errors_errorType)] W:=h
theorem handle {W:World} (h:laidMetH Tryz.prog Rows.fnExactParseRow.laid W):Hnd W:=by
 obtain ⟨name,u,ty,e1,e2,e3,e4,e5⟩:=(laidParts h).2 _ (List.mem_singleton.2 rfl)
 have en:name=[101,114,114,111,114]:=(Option.some.inj e1).symm
 subst en
 obtain rfl:=Option.some.inj (rtRow.symm.trans e2)
 have hm:ty∈(List.range 281).filter fun t=>Tryz.prog.rowNamed t [101,114,114,111,114]:=List.mem_filter.2 ⟨List.mem_range.2 (by rw [← sizeT];exact e3),e4⟩
 rw [oneRow] at hm
 obtain rfl:=List.mem_singleton.1 hm
 have hh:typeHandle Tryz.prog 42=hd 42:=by kernel_rfl
 rw [hh] at e5
 unfold Hnd
 simpa using World.var?_cell gEt e5 0
theorem field {W:World} {m:Nat} {T:TypeId} {cs:List Value} {o:Nat} {v:Value} {y:DataW Unit×List MemPlace} (h:DataW.trod (fun _=>()) Tryz.prog W 0 (fun _=>true) false m T ((cs.drop o).take (Tryz.prog.cellsOf T))=some y) (hc:Tryz.prog.cellsOf T=1) (e:(cs.drop o).take 1=[v]):DataW.trod (fun _=>()) Tryz.prog W 0 (fun _=>true) false m T [v]=some y:=by
 rw [hc,e] at h;exact h
theorem int_at {W:World} {m:Nat} {v:Value} {y:DataW Unit×List MemPlace} {z:Int} (h:DataW.trod (fun _=>()) Tryz.prog W 0 (fun _=>true) false m 3 [v]=some y) (e:y.1=.lit (.int .i64 z)):v=.int .i64 z:=by
 obtain ⟨n,e1,e2,_⟩:=DataW.trod_int Tryz.underlying3 h
 simp only [List.cons.injEq,and_true] at e1
 subst e2
 simp only [DataW.lit.injEq,Lit.int.injEq,true_and] at e
 rw [e1,e]
theorem str_at {W:World} {m:Nat} {v:Value} {y:DataW Unit×List MemPlace} {s:ByteArray} (h:DataW.trod (fun _=>()) Tryz.prog W 0 (fun _=>true) false m 9 [v]=some y) (e:y.1=.lit (.string s.data.toList)):v=.string s:=by
 obtain ⟨t,e1,e2,_⟩:=DataW.trod_string Tryz.underlying9 h
 simp only [List.cons.injEq,and_true] at e1
 subst e2
 simp only [DataW.lit.injEq,Lit.string.injEq] at e
 obtain ⟨⟨t⟩⟩:=t
 obtain ⟨⟨s⟩⟩:=s
 simp only at e
 rw [e1,e]
theorem opr_at {W:World} {m:Nat} {cs:List Value} {pl:List MemPlace} {a:ByteArray} {b c d:Int} (h:DataW.trod (fun _=>()) Tryz.prog W 0 (fun _=>true) false m 208 cs=some (.agg [.lit (.string a.data.toList),.lit (.int .i64 b),.lit (.int .i64 c),.lit (.int .i64 d)],pl)):cs=[.string a,.int .i64 b,.int .i64 c,.int .i64 d]:=by
 obtain ⟨ys,m',_,hy,hl,hlen,hf⟩:=DataW.trod_struct Tryz.underlying208 h
 rw [cellsOpr] at hl
 simp only [Prod.mk.injEq,DataW.agg.injEq] at hy
 match cs,hl with
 |[v0,v1,v2,v3],_ =>
  match ys,hlen with
  |[y0,y1,y2,y3],_ =>
   simp only [List.map_cons,List.map_nil,List.cons.injEq,and_true] at hy
   obtain ⟨⟨e0,e1,e2,e3⟩,_⟩:=hy
   rw [str_at (field (o:=0) (hf 0 _ rfl) cellsStr rfl) e0.symm,int_at (field (o:=1) (hf 1 _ rfl) cellsInt rfl) e1.symm,int_at (field (o:=2) (hf 2 _ rfl) cellsInt rfl) e2.symm,int_at (field (o:=3) (hf 3 _ rfl) cellsInt rfl) e3.symm]
theorem table {W:World} (h:laidMetH Tryz.prog Rows.fnExactParseRow.laid W):Opr W:=by
 have h2:=(laidParts h).1
 rw [laidEq] at h2
 obtain ⟨ps,⟨g',t',cs,fuel,p,q,hg',ht',hvar,hd,_,_⟩,_⟩:=h2
 obtain rfl:=Option.some.inj (gTab.symm.trans hg')
 obtain rfl:=Option.some.inj (gTabType.symm.trans ht')
 obtain ⟨xs,m,_,hx,hl,hlen,hel⟩:=DataW.trod_array Tryz.underlying210 hd
 rw [cellsTab] at hl
 simp only [Prod.mk.injEq,DataW.agg.injEq] at hx
 intro op ho
 have hE:=hel op ho
 rw [cellsOpr] at hE
 obtain ⟨y,hy⟩:∃y,xs[op]?=some y:=⟨_,List.getElem?_eq_getElem (by omega)⟩
 have hv:=congrArg (fun l=>l[op]?) hx.1
 simp only [List.getElem?_map,hy,List.getElem?_range ho,Option.map_some,Option.some.injEq] at hv
 rw [hy] at hE
 obtain ⟨y1,y2⟩:=y
 simp only at hv
 subst hv
 have c4:=opr_at hE
 have ce:∀j,j<4→W.cell? ⟨1,op*4+j,none⟩=((cs.toList.drop (op*4)).take 4)[j]?:=by
  intro j hj
  rw [World.var?_cell gTab hvar (op*4+j),List.getElem?_take_of_lt hj,List.getElem?_drop,Array.getElem?_toList]
 rw [c4] at ce
 exact ⟨ce 0 (by omega),ce 1 (by omega),ce 2 (by omega),ce 3 (by omega)⟩
theorem walk (a0:Option Addr) (len0 cap0:Nat) (z0:List Int) (w:World) (w0:IsRow .u8 w a0 len0 cap0 z0) (ho:Opr w) (hh:Hnd w) :
  Calls Tryz.prog 3 #[.slice a0 len0 cap0] w fun e w'=>e=.returned (.bool true)∧Below w.heap.size w w':=by
 obtain ⟨ys,rfl,hr,hb⟩:=isRow_rd w0
 exact core a0 cap0 ys w hr hb ho hh
theorem contract (H:Type) (enc:TypeId×Value→H) (W:World) (base:Nat) (args:Array Value) (ds gs:List (DataW H)) (before:List MemPlace)
  (hval:∀(j:Nat) t v,Tryz.f3.params[j]?=some t→args[j]?=some v→Value.okWide Tryz.prog W .any base t v)
  (hW:DataW.Whole enc Tryz.prog Tryz.f3.params.toList Rows.fnExactParseSpec.vars false W args.toList ds gs before) (hL:laidMetH Tryz.prog Rows.fnExactParseRow.laid W) :
  Calls Tryz.prog 3 args W fun e W'=>∃v,e=.returned v∧Rows.fnExactParseSpec.post enc Tryz.prog Tryz.f3 false true false false W args v W':=by
 have hW':=hW
 obtain ⟨p,q,hA0,hV0,rfl,hfz,hnd⟩:=hW
 have hA:DataW.TrodAll enc Tryz.prog W 0 (fun _=>true) true Tryz.f3.params.toList args.toList ds p:=hA0
 have hV:DataW.TrodVars enc Tryz.prog W (fun _=>true) ["loop.example/s02245/impl.operators"] gs q:=hV0
 rw [Tryz.params3] at hA hval
 obtain ⟨v0,vs0,d0,ds0,p0,q0,hargs,rfl,rfl,h0,r0⟩:=trodAll_cons hA
 obtain ⟨rfl,rfl,rfl⟩:=trodAll_nil r0
 obtain rfl:args=#[v0]:=by cases args;simp_all
 obtain ⟨g,t,gcs,gfuel,d,p',rfl,hg,ht,hvar,hd,rfl⟩:=trodVars_one hV
 obtain rfl:=Option.some.inj (gTab.symm.trans hg)
 obtain rfl:=Option.some.inj (gTabType.symm.trans ht)
 have hltv:∀x∈p',x.block<W.heap.size:=DataW.trod_lt gfuel _ _ _ hd
 obtain ⟨a0,len0,cap0,rfl⟩:=okWide_slice Tryz.underlying22 (hval 0 22 v0 rfl rfl)
 have k0:=h0
 have lt0:∀x∈p0,x.block<W.heap.size:=by obtain ⟨m,hm⟩:=k0;exact DataW.trod_lt m _ _ _ hm
 obtain ⟨z0,w0⟩:∃zs,IsRow .u8 W a0 len0 cap0 zs:=by
  obtain ⟨fuel,hf⟩:=h0
  rcases open_ints Tryz.underlying22 Tryz.underlying5 (by kernel_rfl) hf with ⟨hcs,_⟩|⟨x,l,c,zs,hcs,_,hl,hm,hz,_,hcell,hwz⟩
  ·simp [Value.cells] at hcs
   obtain ⟨rfl,rfl,rfl⟩:=hcs
   exact ⟨[],.inl ⟨rfl,rfl,rfl,rfl⟩⟩
  ·simp [Value.cells] at hcs
   obtain ⟨rfl,rfl,rfl⟩:=hcs
   exact ⟨zs,.inr ⟨_,rfl,hl,hm,by simpa using hz,hcell,hwz⟩⟩
 have hS:=table hL
 have hw0:1<W.heap.size:=World.block_lt_of_cell? _ _ (hS 0 (by omega)).1
 clear hA0
 refine (walk a0 len0 cap0 z0 W w0 hS (handle hL)).mono fun e W' ⟨he,bel⟩=>?_
 subst he
 obtain ⟨fuel',hd'⟩:=Below.trod laidOut (by kernel_rfl) (of_decide_eq_true (by kernel_rfl)) (v:=.agg gcs) (⟨gfuel,hd⟩:DataW.Trod enc Tryz.prog W 0 (fun _=>true) true 210 (.agg gcs) d p') bel hltv
 have hv':=trodVars_mk1 (enc:=enc) (spare:=fun b=>decide (b<W.heap.size)) hg ht (var?_below bel hg hw0 hvar) hd'
 exact ⟨_,rfl,_,_,_,[],_,_,hW',trodAll_mk1 (shut_bool Tryz.underlying4 _),(trodAll_cons_mk (Below.trod laidOut (by kernel_rfl) (of_decide_eq_true (by kernel_rfl)) k0 bel lt0) trodAll_mk0),hv',bel.frame _,fun h=>by cases h⟩
def laidAs (cs:Array Value):Obj→Obj
 |.cells _ t frozen=>.cells cs t frozen
 |o=>o
def laidWorld (W:World):World:={W with heap:=(W.heap.modify 1 (laidAs opCells.toArray)).modify 0 (laidAs #[.iface 116 (.agg #[hd 42])])}
theorem laid_met (os:Os):laidMetH Tryz.prog Rows.fnExactParseRow.laid ((laidWorld (World.holding Tryz.prog os ⟨#[],#[],[]⟩)).forCall (fun _ _=>0) ⟨#[],#[.slice none 0 0],[]⟩).memory :=
 laidMetH_of_parts (laidMet_of_run' 8 (by kernel_rfl) (by kernel_rfl)) (by kernel_rfl)
theorem reads (os:Os) {H:Type} (enc:TypeId×Value→H):∃d places,DataW.whole enc Tryz.prog ((laidWorld (World.holding Tryz.prog os ⟨#[],#[],[]⟩)).forCall (fun _ _=>0) ⟨#[],#[.slice none 0 0],[]⟩).memory Tryz.f3.params.toList Rows.fnExactParseSpec.vars false #[Value.slice none 0 0].toList 8=some ([.nil],[d],places) :=
 ⟨Rows.laid_loop_example_s02245_impl_operators,MemPlace.row ⟨1,0,none⟩ 56,by kernel_rfl⟩
theorem lifted (os:Os) (started:os.Started) (H:Type) (enc:TypeId×Value→H) (F:Stop.Interp) :
  ReturnsInHanded {} Tryz.checked os 3 .any ((OpenSpec.ofChange Rows.fnExactParseSpec).preRow enc Tryz.prog Tryz.f3 Rows.fnExactParseRow.domain false Rows.fnExactParseRow.laid) (((OpenSpec.ofChange Rows.fnExactParseSpec).at F).post enc Tryz.prog Tryz.f3 false true false false):=by
 obtain ⟨d,places,hx⟩:=reads os enc
 refine returnsInHanded_of_row (C:=Tryz.checked) (s:=OpenSpec.ofChange Rows.fnExactParseSpec) own started (by kernel_rfl) Tryz.func3
  (witness_row_at (enc:=enc) (C:=Tryz.checked) false (laidWorld (World.holding Tryz.prog os ⟨#[],#[],[]⟩)) #[.slice none 0 0] rfl (by kernel_rfl) (by kernel_rfl) (by kernel_rfl)
   (OpenSpec.preRow_of_cond 8 hx (by kernel_rfl) (fun k hk=>by cases hk) (by kernel_rfl) (laid_met os))) ?_
 intro W base args ds gs before hval hW _ _ _ hL _ _
 exact contract H enc W base args ds gs before hval hW hL
theorem said:Rows.FnExactParseSaid :=
 OpenClaim.holds_of_cond 3 Tryz.f3 rfl rfl rfl rfl rfl rfl rfl ⟨rfl,rfl,rfl,rfl,rfl⟩ rfl rfl rfl rfl rfl (by kernel_rfl) Tryz.func3 (by kernel_rfl)
  (of_decide_eq_true (by kernel_rfl)) (by unfold Func.isWrapper;first|(rw [if_pos (by decide +kernel)];kernel_rfl)|(rw [if_neg (by decide +kernel)];exact ⟨rfl,rfl⟩))
  (fun os started H enc _ F=>by rw [OpenClaim.pre_eq_preRow];exact lifted os started H enc F)
theorem plain (f:FuncId) (fn:Func) (hf:Tryz.pinned.checked.prog.funcNamed "loop.example/s02245/laws.FnExactParse" = some f) (hfn:Tryz.pinned.checked.prog.funcs[f]?=some fn) :
  true=Tryz.pinned.checked.prog.looks []∧∀(j:Nat) t,fn.params[j]?=some t→Tryz.pinned.checked.prog.wantsStandIn t=false:=by
 obtain rfl:f=3:=Option.some.inj ((show Tryz.prog.funcNamed "loop.example/s02245/laws.FnExactParse" = some 3 by kernel_rfl).symm.trans hf) |>.symm
 obtain rfl:fn=Tryz.f3:=(Option.some.inj (Tryz.func3.symm.trans hfn)).symm
 refine ⟨by kernel_rfl,fun j t ht=>?_⟩
 rw [Tryz.params3] at ht
 obtain rfl:t=22:=by simpa using Array.mem_of_getElem? ht
 exact (show Tryz.prog.wantsStandIn 22=false by kernel_rfl)
theorem card:Rows.FnExactParseCardSaid :=
 Claim7.holds_tied_plain_at .later [] _ _ _ _ said (fun _ h=>by cases h) (by kernel_rfl) (fun _ h=>by cases h) fnExactParse_row_tie rfl ⟨rfl,rfl⟩ (by kernel_rfl) rfl plain (by kernel_rfl)
#print axioms card
end fnExactParse
end Go.Proofs.YtkmiagkehcflnaaGreatDoor
