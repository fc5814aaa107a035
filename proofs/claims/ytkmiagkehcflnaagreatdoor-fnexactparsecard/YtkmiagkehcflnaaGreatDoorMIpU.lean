import Derived.Deep.AppendLies
import Derived.WalkKit
import Derived.LaidEql
import Derived.Stop.Asserts
import Derived.RowKitTokens
import Derived.Test.YtkmiagkehcflnaaGreatDoorMTxNil
import Derived.Test.YtkmiagkehcflnaaGreatDoorMPsParse
import Derived.Test.YtkmiagkehcflnaaGreatDoorMIpR
set_option maxRecDepth 100000
set_option maxHeartbeats 8000000
namespace Go.Proofs.YtkmiagkehcflnaaGreatDoor
namespace ip
open Go.RowKit bts nod lex tk vt
open ps (En Ps isP kindP now wrong want got nameT nameS textOf over up_fq own_far bel_alloc pz need need_or cOk ends names starts named bare longer)
def flc (c b:Int):List PanicEntry:=[{v:=.iface 45 (.agg #[.int .i64 c,.int .i64 b]),recovered:=false}]
theorem newParser_any {w:World} {sv:Option Addr} {sc:Nat} {zs:List Int} (hb:Bts zs) (hr:Rd w sv zs) (hz:(sv=none∧sc=0∧zs.length=0)∨∃b,sv=some ⟨b,0,none⟩) (hc:zs.length≤sc) (hm:sc≤9223372036854775807) (ho:Opr w) :
  Calls Tryz.prog 18 #[.slice sv zs.length sc] w fun e w'=>Below w.heap.size w w' ∧
   (((lexR zs).2.1=0∧∃E g,E.zs=zs∧E.T=(lexR zs).1∧Ir E∧Ip E w' g s0∧w.heap.size≤g∧e=.returned (.pointer (some ⟨g,0,none⟩)))∨(¬(lexR zs).2.1=0∧e=.panicked (flc (lexR zs).2.1 (lexR zs).2.2))):=by
 have hT:=lexR_toks hb
 have hsh:(lexR zs).2.1=0→zs.length≤6000:=ps.lexR_short
 obtain ⟨h1,h2⟩:=ps.toks_fit (lexR zs).1 0 hT (Nat.zero_le _)
 have LX:Hid (Calls Tryz.prog 40 #[.slice sv zs.length sc] w (LexPost zs (lexR zs).1.length w)):=by
  rcases hz with ⟨rfl,rfl,h0⟩|⟨b,rfl⟩
  ·have:zs=[]:=List.length_eq_zero_iff.1 h0
   subst this
   exact implLex_nil w
  ·exact implLex_any b _ sc zs w hb hr rfl hm hc
 unfold LexPost at LX
 have HR:Hid (Bts zs∧Rd w sv zs∧((sv=none∧sc=0∧zs.length=0)∨∃b,sv=some ⟨b,0,none⟩)∧zs.length≤sc∧sc≤9223372036854775807∧Opr w∧Toks zs 0 (lexR zs).1):=⟨hb,hr,hz,hc,hm,ho,hT⟩
 have hcode:(lexR zs).2.1=0∨¬(lexR zs).2.1=0:=by omega
 generalize lexR zs=L at *
 obtain ⟨T,cd,ca⟩:=L
 simp only at *
 clear hb hr hz hc hm ho hT h2
 obtain ⟨i0,hi,hz0,hz1,hz2⟩:=info_parts info_tok
 rcases hcode with rfl|hne
 ·have hs6:=hsh rfl
  have hmb:T.length≤6000:=by omega
  clear hsh
  go_enter Tryz.func18,Tryz.ntmps18
  go_wp2_with (first
   |(go_at_call 40;refine LX.out.mono ?_;rintro e w1 ⟨hB,ao,c,rfl,hown⟩;have HB:Hid (Below _ _ _):=hB;have HO:Hid (World.ownsRow _ _ _ _ _ _ _):=hown;have hBs:=hB.size;clear hB hown)
   |(at_builtin;have hown1:=HO.out;refine wpList_append_lies _ rfl _ _ _ rfl w.heap.size 68 i0 (.agg #[.int .i64 0,.int .i64 0,.int .i64 0]) 3 24 Tryz.underlying32 hi hz0 hz1 hz2 rfl (by omega) _ T.length (tcells T) rfl (hown1.alloc _) ⟨_,0,none⟩ 1 1 [.int .i64 0,.int .i64 (zs.length:Int),.int .i64 0] rfl rfl (World.news_of_block (cs:=#[.int .i64 0,.int .i64 (zs.length:Int),.int .i64 0]) (t:=68) (fr:=(0,0)) (heap_alloc_new _ _)) (by simp [Value.oneCell']) (by omega) (by unfold maxLen;omega) (by omega) (by simp;omega) _ rfl ?_;intro g' cap' w2 hown2 hgrow hat hlt2;have HO2:Hid (World.ownsRow _ _ _ _ _ _ _):=hown2;have HG:Hid (World.grownBy _ _ _):=hgrow;clear hown1 hown2 hgrow hat))
  have hgB:∀k,(Value.slice ao T.length c).ownBlock=some k→w.heap.size≤k:=fun k hk=>(HO.out.lt k hk).1
  have B2:Below w.heap.size w w2:=(HB.out.alloc (by omega) _).grown HG.out (by simp;omega) hgB
  have hs2:=B2.size
  have HI:Ir (⟨w2,sv,sc,some ⟨g',0,none⟩,cap',zs,T⟩:En):=by
   obtain ⟨r1,r2,r3,r4,r5,r6,r7⟩:=HR.out
   refine ⟨r1,r2.below B2,r3,?_,r7,hs6,hmb,r4,r5,r6.below B2⟩
   refine RdT.own (n:=T.length+1) (c:=cap') (base:=w.heap.size) ?_ (by simp)
   rw [tcells_snoc]
   exact HO2.out
  go_returns
  refine ⟨B2.trans ((bel_alloc w2 _).mono hs2),.inl ⟨trivial,_,w2.heap.size,rfl,rfl,HI,⟨bel_alloc _ _,Nat.le_refl _,tk.Lone.of (heap_alloc_new _ _) rfl,Nat.zero_le _,by decide⟩,hs2,rfl⟩⟩
 ·have hne0:(cd==0)=false:=by simpa using hne
  go_enter Tryz.func18,Tryz.ntmps18
  go_wp2_with (first
   |(go_at_call 40;refine LX.out.mono ?_;rintro e w1 ⟨hB,ao,c,rfl,hown⟩;have HB:Hid (Below _ _ _):=hB;clear hB hown))
  exact ⟨rfl,HB.out,.inr ⟨hne,rfl⟩⟩
end ip
namespace ip
open Go.RowKit bts nod lex tk vt Go.Extern.Stop Go.Stop Go.Extern
abbrev hd (t:Nat):Value:=.pointer (some ⟨2,t,none⟩)
theorem as_v1 (t:Addr) (w:World):(ReflectliteValue.unpack (.iface 47 (.pointer (some t)))).run Tryz.prog w=.ok (.agg #[hd 47,.pointer (some ⟨w.heap.size,0,none⟩),.int .u64 150]) (w.alloc (.cells #[.pointer (some t)] 47)):=by kernel_rfl
theorem as_v2 (c b:Int) (w:World):(ReflectliteValue.unpack (.iface 45 (.agg #[.int .i64 c,.int .i64 b]))).run Tryz.prog w=.ok (.agg #[hd 45,.pointer (some ⟨w.heap.size,0,none⟩),.int .u64 153]) (w.alloc (.cells #[.int .i64 c,.int .i64 b] 45)):=by kernel_rfl
theorem as_t1 (a:Addr) (w:World):(ReflectliteValue.methodAny (ReflectliteValue.valueError "reflectlite.Value.Type" 0) (fun t _ _ _=>ReflectliteType.toType t) #[.agg #[hd 47,.pointer (some a),.int .u64 150]]).run Tryz.prog w=.ok (.iface 116 (.agg #[hd 47])) w:=by kernel_rfl
theorem as_m1 (h:Value) (w:World):(Go.method 381 116 (.agg #[h]) "Kind").run Tryz.prog w=.ok (149,h) w:=by kernel_rfl
theorem as_m2 (h:Value) (w:World):(Go.method 381 116 (.agg #[h]) "Elem").run Tryz.prog w=.ok (159,.agg #[h]) w:=by kernel_rfl
theorem as_m3 (h:Value) (w:World):(Go.method 381 116 (.agg #[h]) "Implements").run Tryz.prog w=.ok (160,.agg #[h]) w:=by kernel_rfl
theorem as_m4 (h:Value) (w:World):(Go.method 381 116 (.agg #[h]) "AssignableTo").run Tryz.prog w=.ok (157,.agg #[h]) w:=by kernel_rfl
theorem as_k1 (w:World):((ReflectliteType.abiMethod fun t=>Functor.map (fun a:Nat=>Value.int IntKind.u8 (a:Int)) (Rtype.kind t)) #[hd 47]).run Tryz.prog w=.ok (.int .u8 22) w:=by kernel_rfl
theorem as_k2 (w:World):((ReflectliteType.abiMethod fun t=>Functor.map (fun a:Nat=>Value.int IntKind.u8 (a:Int)) (Rtype.kind t)) #[hd 45]).run Tryz.prog w=.ok (.int .u8 25) w:=by kernel_rfl
theorem as_e1 (w:World):(ReflectliteType.method ReflectliteType.elem #[.agg #[hd 47]]).run Tryz.prog w=.ok (.iface 116 (.agg #[hd 45])) w:=by kernel_rfl
theorem as_i1 (w:World):(ReflectliteType.relation "Implements" ReflectliteType.implements_ #[.agg #[hd 45],.iface 116 (.agg #[hd 42])]).run Tryz.prog w=.ok (.bool true) w:=by kernel_rfl
theorem as_o1 (v:Value) (w:World):(ReflectliteType.typeOf #[.iface 45 v]).run Tryz.prog w=.ok (.iface 116 (.agg #[hd 45])) w:=by kernel_rfl
theorem as_a1 (w:World):(ReflectliteType.relation "AssignableTo" ReflectliteType.assignableTo #[.agg #[hd 45],.iface 116 (.agg #[hd 45])]).run Tryz.prog w=.ok (.bool true) w:=by kernel_rfl
theorem as_p1 (a:Addr) (w:World):(ReflectliteValue.parts (.agg #[hd 47,.pointer (some a),.int .u64 150])).run Tryz.prog w=.ok (some (47,a,150)) w:=by kernel_rfl
theorem as_p2 (a:Addr) (w:World):(ReflectliteValue.parts (.agg #[hd 45,.pointer (some a),.int .u64 409])).run Tryz.prog w=.ok (some (45,a,409)) w:=by kernel_rfl
theorem as_p3 (a:Addr) (w:World):(ReflectliteValue.parts (.agg #[hd 45,.pointer (some a),.int .u64 153])).run Tryz.prog w=.ok (some (45,a,153)) w:=by kernel_rfl
theorem as_d1 (w:World):(Rtype.directlyAssignable 45 45).run Tryz.prog w=.ok true w:=by kernel_rfl
theorem as_q1 (w:World):(Rtype.elem? 47).run Tryz.prog w=.ok (some 45) w:=by kernel_rfl
theorem as_mk (p:Addr) (w:World):(ReflectliteValue.mk 45 p ReflectliteValue.flagAddr).run Tryz.prog w=.ok (.agg #[hd 45,.pointer (some p),.int .u64 409]) w:=by kernel_rfl
theorem as_n1 (a p:Addr) (W:World) (ha:W.cell? a=some (.pointer (some p))) :
  (ReflectliteValue.method (ReflectliteValue.valueError "reflectlite.Value.IsNil" 0) ReflectliteValue.isNil #[.agg #[hd 47,.pointer (some a),.int .u64 150]]).run Tryz.prog W=.ok (.bool false) W:=by
 rw [show ReflectliteValue.method _ _ #[Value.agg #[hd 47,.pointer (some a),.int .u64 150]]=(ReflectliteValue.parts (Value.agg #[hd 47,.pointer (some a),.int .u64 150]) >>= _) from rfl]
 simp only [Sem.run_bind,as_p1,Result.andThen]
 simp [ReflectliteValue.isNil,loadVar,isAgg,underlying,Tryz.underlying47,ha,Result.andThen]
theorem as_l1 (a p:Addr) (W:World) (ha:W.cell? a=some (.pointer (some p))) :
  (ReflectliteValue.method (ReflectliteValue.valueError "reflectlite.Value.Elem" 0) ReflectliteValue.elem #[.agg #[hd 47,.pointer (some a),.int .u64 150]]).run Tryz.prog W=.ok (.agg #[hd 45,.pointer (some p),.int .u64 409]) W:=by
 rw [show ReflectliteValue.method _ _ #[Value.agg #[hd 47,.pointer (some a),.int .u64 150]]=(ReflectliteValue.parts (Value.agg #[hd 47,.pointer (some a),.int .u64 150]) >>= _) from rfl]
 simp only [Sem.run_bind,as_p1,Result.andThen]
 simp [ReflectliteValue.elem,loadVar,isAgg,underlying,Tryz.underlying47,ha,Result.andThen,as_q1,as_mk]
theorem as_s1 (g b:Nat) (c d:Int) (o1 o2:Value) (W:World) (h0:W.cell? ⟨b,0,none⟩=some (.int .i64 c)) (h1:W.cell? ⟨b,1,none⟩=some (.int .i64 d)) (hL:tk.Lone 45 2 W g [o1,o2]) :
  (ReflectliteValue.set #[.agg #[hd 45,.pointer (some ⟨g,0,none⟩),.int .u64 409],.agg #[hd 45,.pointer (some ⟨b,0,none⟩),.int .u64 153]]).run Tryz.prog W=.ok (.tuple #[]) ((W.setCell ⟨g,0,none⟩ (.int .i64 c)).setCell ⟨g,1,none⟩ (.int .i64 d)):=by
 rw [show ReflectliteValue.set #[Value.agg #[hd 45,.pointer (some ⟨g,0,none⟩),.int .u64 409],.agg #[hd 45,.pointer (some ⟨b,0,none⟩),.int .u64 153]]=(ReflectliteValue.parts (Value.agg #[hd 45,.pointer (some ⟨g,0,none⟩),.int .u64 409]) >>= _) from rfl]
 have gl:∀(x y:Value) (h1:#[x,y].size=2) (h2:1<2),Array.getLit #[x,y] 1 h1 h2=y:=fun _ _ _ _=>rfl
 simp only [Sem.run_bind,gl,as_p2,as_p3,Result.andThen]
 have ld:(loadCells ⟨b,0,none⟩ 2).run Tryz.prog W=.ok #[.int .i64 c,.int .i64 d] W:=by
  have:=run_loadCells_list (P:=Tryz.prog) (w:=W) ⟨b,0,none⟩ [.int .i64 c,.int .i64 d] (by
   intro j v hj
   match j with
   |0=>simp only [List.getElem?_cons_zero,Option.some.injEq] at hj;subst hj;rw [plainAt];exact h0
   |1=>simp only [List.getElem?_cons_succ,List.getElem?_cons_zero,Option.some.injEq] at hj;subst hj;rw [plainAt];exact h1
   |j+2=>simp at hj)
  exact this
 have c0:=hL.at (j:=0) (by omega)
 have f0:=hL.free 0
 have L1:=hL.set 0 (.int .i64 c)
 have c1:=L1.at (j:=1) (by omega)
 have f1:=L1.free 1
 simp only [List.getElem?_cons_zero,List.set_cons_zero,List.getElem?_cons_succ] at c0 c1
 simp [ReflectliteValue.flagAddr,loadVar,isAgg,underlying,Tryz.underlying45,Result.andThen,as_d1,storeVar,Value.cells,ld,storeCells,Addr.add]
 rw [run_store Tryz.prog W ⟨g,0,none⟩ _ _ (by rfl)]
 simp [c0,f0]
 rw [run_store Tryz.prog _ ⟨g,1,none⟩ _ _ (by rfl)]
 simp [c1,f1]
open ps (bel_alloc)
theorem as_fault {w:World} {g:Nat} {o1 o2:Value} (c b:Int) (hL:tk.Lone 45 2 w g [o1,o2]) (hg:w.cell? ⟨0,0,none⟩=some (.iface 116 (.agg #[hd 42]))) :
  Calls Tryz.prog 17 #[.iface 45 (.agg #[.int .i64 c,.int .i64 b]),.iface 47 (.pointer (some ⟨g,0,none⟩))] w fun e w'=>e=.returned (.bool true)∧tk.Lone 45 2 w' g [.int .i64 c,.int .i64 b]∧Fq g w w':=by
 have h1:=@run_callFunc_extern Tryz.prog 36 _ (fun args=>ReflectliteValue.unpack (args.getD 0 (.tuple #[]))) Tryz.func36 (by kernel_rfl) (by kernel_rfl) (by kernel_rfl) (by kernel_rfl)
 have h2:=@run_callFunc_extern Tryz.prog 37 _ (ReflectliteValue.methodAny (ReflectliteValue.valueError "reflectlite.Value.Type" 0) (fun t _ _ _=>ReflectliteType.toType t)) Tryz.func37 (by kernel_rfl) (by kernel_rfl) (by kernel_rfl) (by kernel_rfl)
 have h3:=@run_callFunc_extern Tryz.prog 38 _ (ReflectliteValue.method (ReflectliteValue.valueError "reflectlite.Value.IsNil" 0) ReflectliteValue.isNil) Tryz.func38 (by kernel_rfl) (by kernel_rfl) (by kernel_rfl) (by kernel_rfl)
 have h4:=@run_callFunc_extern Tryz.prog 149 _ (ReflectliteType.abiMethod fun t=>do pure (.int .u8 (← Rtype.kind t))) Tryz.func149 (by kernel_rfl) (by kernel_rfl) (by kernel_rfl) (by kernel_rfl)
 have h5:=@run_callFunc_extern Tryz.prog 159 _ (ReflectliteType.method ReflectliteType.elem) Tryz.func159 (by kernel_rfl) (by kernel_rfl) (by kernel_rfl) (by kernel_rfl)
 have h6:=@run_callFunc_extern Tryz.prog 160 _ (ReflectliteType.relation "Implements" ReflectliteType.implements_) Tryz.func160 (by kernel_rfl) (by kernel_rfl) (by kernel_rfl) (by kernel_rfl)
 have h7:=@run_callFunc_extern Tryz.prog 69 _ ReflectliteType.typeOf Tryz.func69 (by kernel_rfl) (by kernel_rfl) (by kernel_rfl) (by kernel_rfl)
 have h8:=@run_callFunc_extern Tryz.prog 157 _ (ReflectliteType.relation "AssignableTo" ReflectliteType.assignableTo) Tryz.func157 (by kernel_rfl) (by kernel_rfl) (by kernel_rfl) (by kernel_rfl)
 have h9:=@run_callFunc_extern Tryz.prog 70 _ (ReflectliteValue.method (ReflectliteValue.valueError "reflectlite.Value.Elem" 0) ReflectliteValue.elem) Tryz.func70 (by kernel_rfl) (by kernel_rfl) (by kernel_rfl) (by kernel_rfl)
 have h10:=@run_callFunc_extern Tryz.prog 71 _ ReflectliteValue.set Tryz.func71 (by kernel_rfl) (by kernel_rfl) (by kernel_rfl) (by kernel_rfl)
 have q1:=as_v1
 have q2:=as_v2
 have q3:=as_t1
 have q4:=as_m1
 have q5:=as_m2
 have q6:=as_m3
 have q7:=as_m4
 have q8:=as_k1
 have q9:=as_k2
 have q10:=as_e1
 have q11:=as_i1
 have q12:=as_o1
 have q13:=as_a1
 have hlt:g<w.heap.size:=heap_lt hL.back
 have hl0:0<w.heap.size:=World.block_lt_of_cell? _ ⟨0,0,none⟩ hg
 obtain ⟨W2,hW2⟩:∃W2,W2=(w.alloc (.cells #[.pointer (some ⟨g,0,none⟩)] 47)).alloc (.cells #[hd 47,.pointer (some ⟨w.heap.size,0,none⟩),.int .u64 150] 80):=⟨_,rfl⟩
 obtain ⟨W3,hW3⟩:∃W3,W3=W2.alloc (.cells #[hd 47,.pointer (some ⟨w.heap.size,0,none⟩),.int .u64 150] 80):=⟨_,rfl⟩
 obtain ⟨W4,hW4⟩:∃W4,W4=W3.alloc (.cells #[.int .i64 c,.int .i64 b] 45):=⟨_,rfl⟩
 have B2:Below w.heap.size w W2:=by rw [hW2];exact ((Below.refl _ _).alloc (Nat.le_refl _) _).alloc (by simp) _
 have B3:Below w.heap.size w W3:=by rw [hW3];exact B2.alloc B2.size _
 have B4:Below w.heap.size w W4:=by rw [hW4];exact B3.alloc B3.size _
 have z2:W2.heap.size=w.heap.size+2:=by rw [hW2];simp
 have z3:W3.heap.size=w.heap.size+3:=by rw [hW3];simp [z2]
 have k2:W2.cell? ⟨w.heap.size,0,none⟩=some (.pointer (some ⟨g,0,none⟩)):=by rw [hW2,World.cell?_alloc_lt _ _ ⟨w.heap.size,0,none⟩ (by simp)];simp
 have k3:W3.cell? ⟨w.heap.size,0,none⟩=some (.pointer (some ⟨g,0,none⟩)):=by rw [hW3,World.cell?_alloc_lt _ _ ⟨w.heap.size,0,none⟩ (by simp [z2])];exact k2
 have r0:W4.cell? ⟨W3.heap.size,0,none⟩=some (.int .i64 c):=by rw [hW4];exact World.cell?_alloc_new _ _ _ _
 have r1:W4.cell? ⟨W3.heap.size,1,none⟩=some (.int .i64 b):=by rw [hW4];exact World.cell?_alloc_new _ _ _ _
 rw [z3] at r0 r1
 have n8:=as_n1 ⟨w.heap.size,0,none⟩ ⟨g,0,none⟩ W2 k2
 have hg2:W2.cell? ⟨0,0,none⟩=some (.iface 116 (.agg #[hd 42])):=(B2.cell (p:=⟨0,0,none⟩) hl0).trans hg
 have el:=as_l1 ⟨w.heap.size,0,none⟩ ⟨g,0,none⟩ W3 k3
 have L4:tk.Lone 45 2 W4 g [o1,o2]:=hL.below B4 hlt
 have st:=as_s1 g (w.heap.size+3) c b o1 o2 W4 r0 r1 L4
 have FIN:Hid (tk.Lone 45 2 ((W4.setCell ⟨g,0,none⟩ (.int .i64 c)).setCell ⟨g,1,none⟩ (.int .i64 b)) g [.int .i64 c,.int .i64 b]∧Fq g w ((W4.setCell ⟨g,0,none⟩ (.int .i64 c)).setCell ⟨g,1,none⟩ (.int .i64 b))):=⟨(L4.set 0 _).set 1 _,((Fq.of (Nat.le_of_lt hlt) B4).trans (Fq.set _ _)).trans (Fq.set _ _)⟩
 clear hL B2 B3 B4 z2 z3 k2 k3 r0 r1 L4 hg
 subst hW4
 subst hW3
 subst hW2
 go_enter Tryz.func17,Tryz.ntmps17
 go_wp2
 refine wp_loop_rounds 1 ?_
 rw [rounds_succ]
 go_wp2
 go_returns
 exact ⟨rfl,FIN.out⟩
end ip
end Go.Proofs.YtkmiagkehcflnaaGreatDoor
