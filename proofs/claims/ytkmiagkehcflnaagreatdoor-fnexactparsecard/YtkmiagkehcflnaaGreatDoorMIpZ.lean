import Derived.Defers
import Derived.Recover
import Derived.RecoverIn
import Derived.TacticsInMore
import Derived.OwnWalkIn
import Derived.Laws.Pointers
import Derived.Test.YtkmiagkehcflnaaGreatDoorMIpMk
import Derived.Test.YtkmiagkehcflnaaGreatDoorMIpU
set_option maxRecDepth 100000
set_option maxHeartbeats 8000000
namespace Go.Proofs.YtkmiagkehcflnaaGreatDoor
namespace ip
open Go.RowKit bts nod lex tk vt
theorem lone_keep {T:TypeId} {c:Nat} {w w':World} {g:Nat} {xs:List Value} (h:tk.Lone T c w g xs) (e:w'.heap[g]?=w.heap[g]?) (hc:xs.length=c):tk.Lone T c w' g xs:=tk.Lone.of (e.trans h.back) hc
theorem as_assert_nil (w:World):(Instr.typeAssert .nilIface 20 42 true).run Tryz.prog w=.ok (.tuple #[.nilIface,.bool false]) w:=by kernel_rfl
theorem as_assert (c b:Int) (w:World):(Instr.typeAssert (.iface 45 (.agg #[.int .i64 c,.int .i64 b])) 20 42 true).run Tryz.prog w=.ok (.tuple #[.iface 45 (.agg #[.int .i64 c,.int .i64 b]),.bool true]) w:=by kernel_rfl
theorem catch_fault {n:Nat} {w:World} {a b c:Nat} {ov:Value} {o1 o2:Value} (cd at_:Int) (hne:¬a=b∧¬a=c∧¬b=c) (hA:tk.Lone 23 1 w a [ov]) (hB:tk.Lone 3 1 w b [o1]) (hC:tk.Lone 3 1 w c [o2]) (hg:w.cell? ⟨0,0,none⟩=some (.iface 116 (.agg #[hd 42]))) :
  CallsDIn Fence.wide n Tryz.prog 16 #[.pointer (some ⟨a,0,none⟩),.pointer (some ⟨b,0,none⟩),.pointer (some ⟨c,0,none⟩)] (.panicking (flc cd at_)) w fun e u' w' =>
   e=.returned (.tuple #[])∧u'=.panicking [{v:=.iface 45 (.agg #[.int .i64 cd,.int .i64 at_]),recovered:=true}]∧tk.Lone 23 1 w' a [.slice none 0 0]∧tk.Lone 3 1 w' b [.int .i64 cd]∧tk.Lone 3 1 w' c [.int .i64 at_]∧∀B,B≤a→B≤b→B≤c→Below B w w':=by
 have la:a<w.heap.size:=heap_lt hA.back
 have lb:b<w.heap.size:=heap_lt hB.back
 have lc:c<w.heap.size:=heap_lt hC.back
 have hdd:∀k:Nat,(Fence.wide.depth.isSome=true→1≤k):=fun k h=>by cases h
 have AS:Hid (Calls Tryz.prog 17 #[.iface 45 (.agg #[.int .i64 cd,.int .i64 at_]),.iface 47 (.pointer (some ⟨w.heap.size,0,none⟩))] (w.alloc (.cells #[.int .i64 2,.int .i64 0] 45)) fun e w'=>e=.returned (.bool true)∧tk.Lone 45 2 w' w.heap.size [.int .i64 cd,.int .i64 at_]∧Fq w.heap.size (w.alloc (.cells #[.int .i64 2,.int .i64 0] 45)) w') :=
  as_fault cd at_ (tk.Lone.of (heap_alloc_new _ _) rfl) ((((Below.refl _ _).alloc (Nat.le_refl _) _).cell (p:=⟨0,0,none⟩) (World.block_lt_of_cell? _ ⟨0,0,none⟩ hg)).trans hg)
 have HX:Hid (∀w1,tk.Lone 45 2 w1 w.heap.size [.int .i64 cd,.int .i64 at_]→Fq w.heap.size (w.alloc (.cells #[.int .i64 2,.int .i64 0] 45)) w1→tk.Lone 23 1 w1 a [ov]∧tk.Lone 3 1 w1 b [o1]∧tk.Lone 3 1 w1 c [o2]∧Below w.heap.size w w1∧a<w.heap.size):=fun w1 hL hF=>by
  have hB0:=(Below.refl w.heap.size w).alloc (Nat.le_refl _) (.cells #[.int .i64 2,.int .i64 0] 45)
  have hk:∀k,k<w.heap.size→w1.heap[k]?=w.heap[k]?:=fun k hk=>(hF.keep k (by simp;omega) (by omega)).trans (hB0.block k hk)
  exact ⟨lone_keep hA (hk a la) rfl,lone_keep hB (hk b lb) rfl,lone_keep hC (hk c lc) rfl,hB0.trans hF.below,la⟩
 have HE:Hid (¬a=b∧¬a=c∧¬b=c):=hne
 clear hA hB hC hg la lb lc hne
 unfold flc
 refine callsDIn_of_wpSIn Tryz.func16 rfl trivial fun c₀ cs hu=>?_
 simp only [Tryz.ntmps16,List.size_toArray,List.length_cons,List.length_nil,Nat.reduceAdd,Nat.reduceSub,Array.replicate_succ,Array.replicate_zero,List.push_toArray,List.append_toArray,List.nil_append,List.cons_append]
 have hta:=as_assert cd at_ w
 apply wpSIn_seq
 apply wpSIn_region
 simp [wpOpsSIn,go_sem,recoverD,hu,Exit.thenS,hta]
 refine wpSIn_of_wpIn rfl ?_
 gi_wp2_with fail
 refine ⟨trivial,hdd _,(callsIn_wide.2 AS.out).mono ?_⟩
 rintro e w1 ⟨rfl,hL,hF⟩
 obtain ⟨La,Lb,Lc,hk,hs⟩:=HX.out w1 hL hF
 have x0:=hL.at (j:=0) (by omega)
 have x1:=hL.at (j:=1) (by omega)
 have ya:=La.at (j:=0) (by omega)
 have za:=La.free 0
 have Ma:=La.set 0 (.slice none 0 0)
 have Mb:=Lb.other (b:=a) (o:=0) (u:=.slice none 0 0) HE.out.1
 have yb:=Mb.at (j:=0) (by omega)
 have zb:=Mb.free 0
 have Nb:=Mb.set 0 (.int .i64 cd)
 have Mc:=(Lc.other (b:=a) (o:=0) (u:=.slice none 0 0) HE.out.2.1).other (b:=b) (o:=0) (u:=.int .i64 cd) HE.out.2.2
 have yc:=Mc.at (j:=0) (by omega)
 have zc:=Mc.free 0
 have Oc:=Mc.set 0 (.int .i64 at_)
 simp only [List.getElem?_cons_zero,List.getElem?_cons_succ,List.set_cons_zero] at x0 x1 ya yb yc Ma Nb Oc
 have FIN:Hid _:=And.intro Ma (And.intro Nb (And.intro Oc (And.intro hk hs)))
 clear hL hF La Lb Lc Ma Mb Nb Mc Oc hk hs
 gi_wp2_with fail
 obtain ⟨Ma,Nb,Oc,hk,hs⟩:=FIN.out
 have ne:=HE.out
 refine ⟨rfl,_,rfl,_,results_none rfl _ _ _,rfl,rfl,(Ma.other (fun e=>ne.1 e.symm)).other (fun e=>ne.2.1 e.symm),Nb.other (fun e=>ne.2.2 e.symm),Oc,fun B h1 h2 h3=>?_⟩
 exact (((hk.mono (by omega)).setCell (p:=⟨a,0,none⟩) h1 _).setCell (p:=⟨b,0,none⟩) h2 _).setCell (p:=⟨c,0,none⟩) h3 _
theorem catch_none {n:Nat} {w:World} {p1 p2 p3:Value}:CallsDIn Fence.wide n Tryz.prog 16 #[p1,p2,p3] .returning w fun e u' w'=>e=.returned (.tuple #[])∧u'=.returning∧w'=w:=by
 refine callsDIn_of_wpSIn Tryz.func16 rfl trivial fun c₀ cs hu=>?_
 simp only [Tryz.ntmps16,List.size_toArray,List.length_cons,List.length_nil,Nat.reduceAdd,Nat.reduceSub,Array.replicate_succ,Array.replicate_zero,List.push_toArray,List.append_toArray,List.nil_append,List.cons_append]
 have hta:=as_assert_nil w
 apply wpSIn_seq
 apply wpSIn_region
 simp [wpOpsSIn,go_sem,recoverD,hu,Exit.thenS,hta]
 refine wpSIn_of_wpIn rfl ?_
 gi_wp2_with fail
 cases c₀
 simp_all [bodyPostS,results,Tryz.results16]
end ip
namespace ip
open Go.RowKit Go.Shelf Go.Deep bts nod lex tk vt
open ps (En Ps isP kindP now wrong want got over bel_alloc pz need)
attribute [local go_sem] Oper.semAt_some
def Hnd (w:World):Prop:=w.cell? ⟨0,0,none⟩=some (.iface 116 (.agg #[hd 42]))
theorem Hnd.below {w w':World} (h:Hnd w) (hb:Below w.heap.size w w'):Hnd w':=(hb.cell (p:=⟨0,0,none⟩) (World.block_lt_of_cell? _ ⟨0,0,none⟩ h)).trans h
def Rs3 (w:World) (g:Nat) (v0 v1 v2:Value):Prop:=tk.Lone 23 1 w g [v0]∧tk.Lone 3 1 w (g+1) [v1]∧tk.Lone 3 1 w (g+1+1) [v2]
theorem rs3_new (w:World):Rs3 (((w.alloc (.cells #[.slice none 0 0] 23)).alloc (.cells #[.int .i64 0] 3)).alloc (.cells #[.int .i64 0] 3)) w.heap.size (.slice none 0 0) (.int .i64 0) (.int .i64 0):=by
 have h0:=tk.Lone.of (T:=23) (c:=1) (xs:=[.slice none 0 0]) (heap_alloc_new w (.cells #[.slice none 0 0] 23)) rfl
 have b1:=bel_alloc (w.alloc (.cells #[.slice none 0 0] 23)) (.cells #[.int .i64 0] 3)
 have h1:=tk.Lone.of (T:=3) (c:=1) (xs:=[.int .i64 0]) (heap_alloc_new (w.alloc (.cells #[.slice none 0 0] 23)) (.cells #[.int .i64 0] 3)) rfl
 have b2:=bel_alloc ((w.alloc (.cells #[.slice none 0 0] 23)).alloc (.cells #[.int .i64 0] 3)) (.cells #[.int .i64 0] 3)
 have h2:=tk.Lone.of (T:=3) (c:=1) (xs:=[.int .i64 0]) (heap_alloc_new ((w.alloc (.cells #[.slice none 0 0] 23)).alloc (.cells #[.int .i64 0] 3)) (.cells #[.int .i64 0] 3)) rfl
 refine ⟨(h0.below b1 (by simp)).below b2 (by simp;omega),?_,?_⟩
 ·have:=h1.below b2 (by simp)
  simpa using this
 ·simpa using h2
theorem Rs3.below {w w':World} {g:Nat} {v0 v1 v2:Value} (h:Rs3 w g v0 v1 v2) (hb:Below w.heap.size w w'):Rs3 w' g v0 v1 v2:=⟨h.1.below hb (heap_lt h.1.back),h.2.1.below hb (heap_lt h.2.1.back),h.2.2.below hb (heap_lt h.2.2.back)⟩
theorem door_fault {n:Nat} {w w1:World} {cd at_:Int} {v0 v1 v2 u0:Value} {us:List Value} {P:Ending→World→Prop} (h:Rs3 w1 w.heap.size v0 v1 v2) (hg:Hnd w1) (hb:Below w.heap.size w w1) (hP:∀w',Below w.heap.size w w'→P (.returned (.tuple #[.slice none 0 0,.int .i64 cd,.int .i64 at_])) w') :
  bodyPostM Fence.wide n Tryz.prog Tryz.f6 P (.panic (flc cd at_)) {tmps:=(u0::undef::.pointer (some ⟨w.heap.size,0,none⟩)::.pointer (some ⟨w.heap.size+1,0,none⟩)::.pointer (some ⟨w.heap.size+1+1,0,none⟩)::us).toArray,defers:=[{target:=.fn (.func 16) #[.pointer (some ⟨w.heap.size,0,none⟩),.pointer (some ⟨w.heap.size+1,0,none⟩),.pointer (some ⟨w.heap.size+1+1,0,none⟩)],args:=#[]}]} w1:=by
 have l2:=heap_lt h.2.2.back
 refine ⟨by simp,.inr ⟨(fun h=>by cases h),_,_,_,#[.pointer (some ⟨w.heap.size,0,none⟩),.pointer (some ⟨w.heap.size+1,0,none⟩),.pointer (some ⟨w.heap.size+1+1,0,none⟩)],rfl,by simp [go_sem],fun _ _=>trivial,(catch_fault cd at_ ⟨by omega,by omega,by omega⟩ h.1 h.2.1 h.2.2 hg).mono ?_⟩⟩
 rintro e u' w' ⟨rfl,rfl,ha,hbb,hcc,hk⟩
 have c0:=ha.at (j:=0) (by omega)
 have c1:=hbb.at (j:=0) (by omega)
 have c2:=hcc.at (j:=0) (by omega)
 have hB:Below w.heap.size w w':=hb.trans (hk _ (by omega) (by omega) (by omega))
 simp only [List.getElem?_cons_zero] at c0 c1 c2
 have:=hP w' hB
 simp [LeavesInM,LeavesIn,settle,results,Tryz.results6,go_sem,c0,c1,c2]
 exact this
def bcode (zs:List Int):Int×Int:=if ¬(lexR zs).2.1=0 then ((lexR zs).2.1,(lexR zs).2.2) else if 0≤(topS zs (lexR zs).1).bad then (2,(topS zs (lexR zs).1).bad) else (4,0)
theorem Rs3.fq {w w':World} {g h:Nat} {v0 v1 v2:Value} (r:Rs3 w g v0 v1 v2) (hb:Below h w w') (hg:g+1+1<h):Rs3 w' g v0 v1 v2:=⟨r.1.below hb (by omega),r.2.1.below hb (by omega),r.2.2.below hb hg⟩
theorem parse_bad (n:Nat) {w:World} {sv:Option Addr} {sc:Nat} {zs:List Int} (hb:Bts zs) (hr:Rd w sv zs) (hz:(sv=none∧sc=0∧zs.length=0)∨∃b,sv=some ⟨b,0,none⟩) (hc:zs.length≤sc) (hm:sc≤9223372036854775807) (ho:Opr w) (hh:Hnd w) (hbad:¬((lexR zs).2.1=0∧(topS zs (lexR zs).1).bad<0∧valid ((top zs (lexR zs).1).1.getD 0 [])=true)) :
  CallsIn Fence.wide n Tryz.prog 6 #[.slice sv zs.length sc] w fun e w'=>Below w.heap.size w w'∧e=.returned (.tuple #[.slice none 0 0,.int .i64 (bcode zs).1,.int .i64 (bcode zs).2]):=by
 have hmf:∀(fn:Fn) (first cap:Array Value) (w:World),(Instr.makeFunc fn first cap).run Tryz.prog w=.ok (.func fn first cap) w:=fun _ _ _ _=>rfl
 have hdd:∀k:Nat,(Fence.wide.depth.isSome=true→1≤k):=fun k h=>by cases h
 obtain ⟨W3,hW3⟩:∃W3,W3=(((w.alloc (.cells #[.slice none 0 0] 23)).alloc (.cells #[.int .i64 0] 3)).alloc (.cells #[.int .i64 0] 3)):=⟨_,rfl⟩
 have B3:Below w.heap.size w W3:=by rw [hW3];exact (((Below.refl _ w).alloc (Nat.le_refl _) _).alloc (by simp) _).alloc (by simp;omega) _
 have z3:W3.heap.size=w.heap.size+3:=by rw [hW3];simp
 have r3:Rs3 W3 w.heap.size (.slice none 0 0) (.int .i64 0) (.int .i64 0):=by rw [hW3];exact rs3_new w
 have NP:=newParser_any (w:=W3) hb (hr.below B3) hz hc hm (ho.below B3)
 have h3:=hh.below B3
 have hl0:0<w.heap.size:=World.block_lt_of_cell? _ ⟨0,0,none⟩ hh
 have HBAD:Hid (¬((lexR zs).2.1=0∧(topS zs (lexR zs).1).bad<0∧valid ((top zs (lexR zs).1).1.getD 0 [])=true)):=hbad
 clear hb hr hz hc hm ho hh hbad
 refine callsIn_of_wp_marks Tryz.func6 rfl trivial ?_ rfl
 simp only [Tryz.ntmps6,List.size_toArray,List.length_cons,List.length_nil,Nat.reduceAdd,Nat.reduceSub,Array.replicate_succ,Array.replicate_zero,List.push_toArray,List.append_toArray,List.nil_append,List.cons_append]
 gi_wp2_with fail
 rw [← hW3]
 refine ⟨trivial,hdd _,(callsIn_wide.2 NP).mono ?_⟩
 clear NP
 rintro e w1 ⟨hB,⟨h0,E,g,eE,eT,hI,hP,hgl,rfl⟩|⟨h0,rfl⟩⟩
 rotate_left
 ·exact door_fault (r3.below hB) (h3.below hB) (B3.trans (hB.mono B3.size)) (fun w' hb'=>⟨hb',by unfold bcode;rw [if_pos h0]⟩)
 have b1:Below w.heap.size w w1:=B3.trans (hB.mono B3.size)
 have r1:=r3.below hB
 have h1:=h3.below hB
 have hgs:=hP.lt
 clear B3 r3 h3 hB hW3
 gi_wp2_with fail
 refine ⟨trivial,hdd _,(callsIn_wide.2 (program_any hI w1 g hP)).mono ?_⟩
 rw [eE,eT]
 rintro e w2 ⟨hF,⟨hb2,v,rfl,l,hl,_,hll,hN⟩|⟨hb2,rfl⟩⟩
 rotate_left
 ·exact door_fault (r1.fq hF.below (by omega)) (show Hnd w2 from (hF.below.cell (p:=⟨0,0,none⟩) (show 0<g by omega)).trans h1) (b1.trans (hF.below.mono (by omega))) (fun w' hb'=>⟨hb',by unfold bcode;rw [if_neg (by omega),if_pos hb2]⟩)
 obtain ⟨T,t0,t2,t3,t4,t5,_⟩:=hN.tree
 have t1:=t0.lc (lc_bare _ _)
 have hv:isV T=false:=by
  rw [t5]
  cases hc:valid l with
  |false=>rfl
  |true=>exact absurd ⟨h0,hb2,by rw [hl];exact hc⟩ HBAD.out
 have r2:=r1.fq hF.below (by omega)
 have h2:Hnd w2:=(hF.below.cell (p:=⟨0,0,none⟩) (show 0<g by omega)).trans h1
 have b2:Below w.heap.size w w2:=b1.trans (hF.below.mono (by omega))
 have IV:=isValid_in 3 v T w2 (Nat.le_refl _) t1 t2 (by omega)
 rw [hv] at IV
 obtain ⟨T0,g0,rfl⟩:=hN.isI
 have HC:Hid (bcode zs=(4,0)):=by
  show _=_
  unfold bcode
  rw [if_neg (by omega),if_neg (by omega)]
 clear hN hF t0 t1 t2 t3 t4 t5 hl hb2 r1 h1 b1 hP hI hgs
 gi_wp2_with fail
 refine ⟨trivial,hdd _,(callsIn_wide.2 (callsIn_wide.1 IV)).mono ?_⟩
 rintro e w3 ⟨rfl,hB3⟩
 gi_wp2_with fail
 exact door_fault (r2.below hB3) (h2.below hB3) (b2.trans (hB3.mono b2.size)) (fun w' hb'=>⟨hb',by rw [HC.out]⟩)
end ip
namespace ip
open Go.RowKit Go.Shelf Go.Deep bts nod lex tk vt
open ps (En Ps isP kindP now wrong want got over bel_alloc pz need own_far)
attribute [local go_sem] Oper.semAt_some
def Jk (A B:World):Prop:=∀(b:Nat) (cs:Array Value) (t:TypeId) (fr:Nat×Nat),A.heap[b]?=some (.cells cs t fr)→B.heap[b]?=some (.cells cs t fr)
theorem jk_grown {A B:World} {row:Option Nat} (h:A.grownBy B row) (hr:∀r,row=some r→∃o:Obj,A.heap[r]?=some o∧o.isCells=false):Jk A B:=fun b cs t fr hb=>(h.block b (Array.getElem?_eq_some_iff.1 hb).1 (fun e=>by
 obtain ⟨o,h1,h2⟩:=hr b e.symm
 rw [hb] at h1
 cases h1
 cases h2)).trans hb
theorem own_jk {A B:World} {b T c n:Nat} {v:Value} {us:List Value} (h:A.ownsRow b T c v n us) (hj:Jk A B):B.ownsRow b T c v n us:=by
 obtain ⟨h1,h2|⟨g,cap,cur,e,hg,hh,r⟩⟩:=h
 ·exact ⟨h1,.inl h2⟩
 ·exact ⟨h1,.inr ⟨g,cap,cur,e,hg,hj _ _ _ _ hh,r⟩⟩
theorem Rs3.jk {A B:World} {g:Nat} {v0 v1 v2:Value} (h:Rs3 A g v0 v1 v2) (hj:Jk A B):Rs3 B g v0 v1 v2:=⟨own_jk h.1 hj,own_jk h.2.1 hj,own_jk h.2.2 hj⟩
structure Rnd (w W0:World) (X:Nat) (vs:List Value) (W:World):Prop where
 ex:∃a c,Rs3 W w.heap.size (.slice a vs.length c) (.int .i64 0) (.int .i64 0)∧W.ownsRow X 61 5 (.slice a vs.length c) vs.length (vs.flatMap (rowC W0))
 lk:Lk W0 W
theorem Rnd.jk {w W0 A B:World} {X:Nat} {vs:List Value} (h:Rnd w W0 X vs A) (hg:∃row,A.grownBy B row∧∀r,row=some r→∃o:Obj,A.heap[r]?=some o∧o.isCells=false):Rnd w W0 X vs B:=by
 obtain ⟨row,hg,hr⟩:=hg
 have hj:=jk_grown hg hr
 obtain ⟨a,c,h1,h2⟩:=h.ex
 exact ⟨⟨a,c,h1.jk hj,own_jk h2 hj⟩,fun b o e=>hj _ _ _ _ (h.lk.1 b o e),fun p v e=>cell_kept (h.lk.2 p v e) hg hr⟩
theorem own_type {w:World} {B n:Nat} {v:Value} {us:List Value} {b:Nat} (h:w.ownsRow B 61 5 v n us) (e:v.ownBlock=some b):∃cur,w.heap[b]?=some (.cells cur 61 (0,0)):=by
 rcases h.2 with ⟨rfl,_⟩|⟨g,cap,cur,rfl,_,hh,_⟩
 ·cases e
 ·cases e;exact ⟨cur,hh⟩
theorem round_row {w W0 W w1:World} {X hi:Nat} {vs:List Value} {a:Option Addr} {c:Nat} {x k nn ut un ct:Value} (hw:w.heap.size+2<X) (hX:X≤hi) (h0:∀p v,W0.cell? p=some v→w.heap.size<p.block∧p.block<X) (h00:∀b cs t,W0.heap[b]?=some (.cells cs t (0,0))→w.heap.size<b∧b<X) (hXW:X≤W.heap.size)
  (r3:Rs3 W w.heap.size (.slice a vs.length c) (.int .i64 0) (.int .i64 0)) (ho:W.ownsRow X 61 5 (.slice a vs.length c) vs.length (vs.flatMap (rowC W0))) (lk:Lk W0 W) (hb:Below W.heap.size W w1) (hx:rowC W0 x=[k,nn,ut,un,ct]) (hone:∀u∈[k,nn,ut,un,ct],u.oneCell'=true) (hm:vs.length≤200000) (ty:TypeId) :
  ∃a' c' w3,(Builtin.append_ #[23,23] ty #[.slice a vs.length c,.slice (some ⟨w1.heap.size,0,none⟩) 1 1]).run Tryz.prog (w1.alloc (.cells #[k,nn,ut,un,ct] 61))=.ok (.slice a' (vs.length+1) c') w3∧w3.cell? ⟨w.heap.size,0,none⟩=some (.slice a vs.length c)∧w3.frozen? ⟨w.heap.size,0,none⟩=false ∧
   Rnd w W0 X (vs++[x]) (w3.setCell ⟨w.heap.size,0,none⟩ (.slice a' (vs.length+1) c'))∧Kq w.heap.size hi W (w3.setCell ⟨w.heap.size,0,none⟩ (.slice a' (vs.length+1) c'))∧KeepsOthers W (w3.setCell ⟨w.heap.size,0,none⟩ (.slice a' (vs.length+1) c')):=by
 obtain ⟨i0,hi0,hz0,hz1,hz2⟩:=info_parts tk.info_node
 have hba:Below W.heap.size W (w1.alloc (.cells #[k,nn,ut,un,ct] 61)):=hb.alloc hb.size _
 have o1:=own_far ho (w':=w1.alloc (.cells #[k,nn,ut,un,ct] 61)) (fun b e=>hba.block b (ho.lt b e).2)
 obtain ⟨a',c',w3,e1,e2⟩:=run_append_row (w1.alloc (.cells #[k,nn,ut,un,ct] 61)) 23 ty 61 i0 (.agg #[.int .i64 0,.int .i64 0,.slice none 0 0,.slice none 0 0,.int .i64 0]) 5 72 Tryz.underlying23 hi0 hz0 hz1 hz2 rfl (by omega) X a vs.length c _ o1 (some ⟨w1.heap.size,0,none⟩) 1 1 [k,nn,ut,un,ct] rfl (fun _=>⟨_,rfl,fun j u hu=>by
  rw [plainAt,Nat.zero_add]
  unfold World.cell?
  rw [heap_alloc_new]
  simpa using hu⟩) hone (by unfold maxLen;omega) (by omega) (by have:=hba.size;omega)
 have hl0:=heap_lt r3.1.back
 have sb:=hba.size
 have sg:=e2.grow.size
 have key:∀b,b<W.heap.size→(Value.slice a vs.length c).ownBlock≠some b→w3.heap[b]?=W.heap[b]?:=fun b hb2 hne=>(e2.grow.block b (by omega) (fun e=>hne e.symm)).trans (hba.block b hb2)
 have low:∀b,b<X→w3.heap[b]?=W.heap[b]?:=fun b hb2=>key b (by omega) (fun e=>by have:=(ho.lt b e).1;omega)
 have s0:Rs3 w3 w.heap.size (.slice a vs.length c) (.int .i64 0) (.int .i64 0):=⟨own_far r3.1 (fun b e=>by cases e;exact low _ (show w.heap.size<X by omega)),own_far r3.2.1 (fun b e=>by cases e;exact low _ (show w.heap.size+1<X by omega)),own_far r3.2.2 (fun b e=>by cases e;exact low _ (show w.heap.size+1+1<X by omega))⟩
 have oth:∀b v,¬b=w.heap.size→(w3.setCell ⟨w.heap.size,0,none⟩ v).heap[b]?=w3.heap[b]?:=fun b v hne=>Below.heap_setCell w3 ⟨w.heap.size,0,none⟩ v b hne
 refine ⟨a',c',w3,e1,s0.1.at (j:=0) (by omega),s0.1.free 0,⟨⟨a',c',?_,?_⟩,fun b o e=>?_,fun p v e=>?_⟩,⟨?_,fun b cs fr hb2 hc=>?_⟩,?_,fun b o hc hno=>?_⟩
 ·rw [List.length_append]
  exact ⟨s0.1.set 0 _,s0.2.1.other (by omega),s0.2.2.other (by omega)⟩
 ·rw [List.length_append,List.flatMap_append]
  have:[x].flatMap (rowC W0)=[k,nn,ut,un,ct]:=by simp [hx]
  rw [this]
  exact own_far e2.own (fun b e=>oth b _ (by have:=(e2.own.lt b e).1;omega))
 ·have hq:=h00 b _ _ e
  exact ((oth _ _ (by omega)).trans (low _ hq.2)).trans (lk.1 b o e)
 ·have hq:=h0 p v e
  rw [World.cell?_of_block (a:=p) ((oth _ _ (by omega)).trans (low _ hq.2))]
  exact lk.2 p v e
 ·exact ((hba.mono (by omega)).grown e2.grow (by omega) (fun b e=>by have:=(ho.lt b e).1;omega)).setCell (p:=⟨w.heap.size,0,none⟩) (by simp) _
 ·refine (oth b _ (by omega)).trans ((key b (Array.getElem?_eq_some_iff.1 hc).1 (fun e=>?_)).trans hc)
  obtain ⟨cur,hh⟩:=own_type ho e
  rw [hc] at hh
  simp only [Option.some.injEq,Obj.cells.injEq] at hh
  exact absurd hh.2.1 (by decide)
 ·simp only [World.size_setCell];omega
 ·refine (oth b _ (fun e=>?_)).trans ((key b (Array.getElem?_eq_some_iff.1 hc).1 (fun e=>?_)).trans hc)
  ·subst e
   rw [r3.1.back] at hc
   cases hc
   cases hno
  ·obtain ⟨cur,hh⟩:=own_type ho e
   rw [hc] at hh
   cases hh
   cases hno
theorem RwC.len {w:World}:∀{l:List Nd} {B E:Nat} {us:List Value},RwC w B E us l→us.length=l.length*5
 |[],_,_,_,h=>by rw [h.1];rfl
 |_::_,_,_,_,⟨_,_,_,r,e,_,_,_,h⟩=>by
  have:=h.len
  rw [e]
  simp only [List.length_cons]
  omega
theorem veil_in {n:Nat} {w:World} {b:Nat} {cs:Array Value} {t:TypeId} {fr:Nat×Nat} (h:(veil (tk.lt n) w).heap[b]?=some (.cells cs t fr)):n≤b∧b<w.heap.size:=by
 have hl:=(Array.getElem?_eq_some_iff.1 h).1
 rw [veil_size] at hl
 refine ⟨?_,hl⟩
 rw [veil_get,Array.getElem?_eq_getElem hl] at h
 by_cases hn:b<n
 ·simp [tk.lt,hn] at h
 ·omega
theorem veil_inC {n:Nat} {w:World} {a:Addr} {v:Value} (h:(veil (tk.lt n) w).cell? a=some v):n≤a.block∧a.block<w.heap.size:=by
 obtain ⟨h1,h2⟩:=veil_cell h
 refine ⟨?_,World.block_lt_of_cell? _ _ h1⟩
 simp [tk.lt] at h2
 omega
def OkPost (w:World) (l:List Nd) (e:Ending) (w':World):Prop:=∃(a:Option Addr) (c:Nat) (us:List Value) (B E X:Nat),e=.returned (.tuple #[.slice a l.length c,.int .i64 0,.int .i64 0])∧Below w.heap.size w w'∧w.heap.size≤B∧E≤X∧w'.ownsRow X 61 5 (.slice a l.length c) l.length us∧RwC w' B E us l
theorem parse_in (n:Nat) (hn:3≤n) {w:World} {sv:Option Addr} {sc:Nat} {zs:List Int} (hb:Bts zs) (hr:Rd w sv zs) (hz:(sv=none∧sc=0∧zs.length=0)∨∃b,sv=some ⟨b,0,none⟩) (hc:zs.length≤sc) (hm:sc≤9223372036854775807) (ho:Opr w) {L:List Nd} (hgd:(lexR zs).2.1=0∧(topS zs (lexR zs).1).bad<0∧(top zs (lexR zs).1).1=[L]∧valid L=true) :
  CallsIn Fence.wide n Tryz.prog 6 #[.slice sv zs.length sc] w (OkPost w L):=by
 have h1n:Hid (1≤n):=by show 1≤n;omega
 clear hn
 have hmf:∀(fn:Fn) (first cap:Array Value) (w:World),(Instr.makeFunc fn first cap).run Tryz.prog w=.ok (.func fn first cap) w:=fun _ _ _ _=>rfl
 have hdd:∀k:Nat,(Fence.wide.depth.isSome=true→1≤k):=fun k h=>by cases h
 have hmx:Tryz.prog.follows .mixedOrders=true:=by kernel_rfl
 obtain ⟨W3,hW3⟩:∃W3,W3=(((w.alloc (.cells #[.slice none 0 0] 23)).alloc (.cells #[.int .i64 0] 3)).alloc (.cells #[.int .i64 0] 3)):=⟨_,rfl⟩
 have B3:Below w.heap.size w W3:=by rw [hW3];exact (((Below.refl _ w).alloc (Nat.le_refl _) _).alloc (by simp) _).alloc (by simp;omega) _
 have z3:W3.heap.size=w.heap.size+3:=by rw [hW3];simp
 have r3:Rs3 W3 w.heap.size (.slice none 0 0) (.int .i64 0) (.int .i64 0):=by rw [hW3];exact rs3_new w
 have NP:=newParser_any (w:=W3) hb (hr.below B3) hz hc hm (ho.below B3)
 have HGD:Hid ((lexR zs).2.1=0∧(topS zs (lexR zs).1).bad<0∧(top zs (lexR zs).1).1=[L]∧valid L=true):=hgd
 clear hb hr hz hc hm ho hgd
 refine callsIn_of_wp_marks Tryz.func6 rfl trivial ?_ rfl
 simp only [Tryz.ntmps6,List.size_toArray,List.length_cons,List.length_nil,Nat.reduceAdd,Nat.reduceSub,Array.replicate_succ,Array.replicate_zero,List.push_toArray,List.append_toArray,List.nil_append,List.cons_append]
 gi_wp2_with fail
 rw [← hW3]
 refine ⟨trivial,hdd _,(callsIn_wide.2 NP).mono ?_⟩
 clear NP
 rintro e w1 ⟨hB,⟨h0,E,g,eE,eT,hI,hP,hgl,rfl⟩|⟨h0,rfl⟩⟩
 rotate_left
 ·exact absurd HGD.out.1 h0
 have b1:Below w.heap.size w w1:=B3.trans (hB.mono B3.size)
 have r1:=r3.below hB
 have hgs:=hP.lt
 have hw1:w.heap.size+3≤w1.heap.size:=by have:=hB.size;omega
 clear B3 r3 hB hW3
 gi_wp2_with fail
 refine ⟨trivial,hdd _,(callsIn_wide.2 (program_any hI w1 g hP)).mono ?_⟩
 rw [eE,eT]
 rintro e w2 ⟨hF,⟨hb2,v,rfl,l,hl,_,hll,hN⟩|⟨hb2,rfl⟩⟩
 rotate_left
 ·have:=HGD.out.2.1;omega
 have hl2:l=L:=by
  have:=HGD.out.2.2.1
  rw [hl] at this
  simpa using this
 subst hl2
 obtain ⟨T,t0,t2,t3,t4,t5,t6⟩:=hN.tree
 have t1:=t0.lc (lc_bare _ _)
 have hv:isV T=true:=by
  rw [t5]
  exact HGD.out.2.2.2
 have r2:=r1.fq hF.below (by omega)
 have b2:Below w.heap.size w w2:=b1.trans (hF.below.mono (by omega))
 have s2:=hF.below.size
 have IV:=isValid_in 3 v T w2 (Nat.le_refl _) t1 t2 (by omega)
 rw [hv] at IV
 obtain ⟨T0,g0,rfl⟩:=hN.isI
 clear hN hF t5 hb2 r1 b1 hP hI hgs HGD hl t4 t1 hv
 gi_wp2_with fail
 refine ⟨trivial,hdd _,(callsIn_wide.2 (callsIn_wide.1 IV)).mono ?_⟩
 rintro e w3 ⟨rfl,hB3⟩
 have r3:=r2.below hB3
 have b3:Below w.heap.size w w3:=b2.trans (hB3.mono b2.size)
 have s3:=hB3.size
 obtain ⟨W0,hW0⟩:∃W0,W0=veil (tk.lt w1.heap.size) w2:=⟨_,rfl⟩
 have h00:∀b cs t,W0.heap[b]?=some (.cells cs t (0,0))→w.heap.size+2<b∧b<w3.heap.size:=fun b cs t h=>by rw [hW0] at h;have:=veil_in h;omega
 have h0c:∀p v,W0.cell? p=some v→w.heap.size+2<p.block∧p.block<w3.heap.size:=fun p v h=>by rw [hW0] at h;have:=veil_inC h;omega
 have lk3:Lk W0 w3:=by
  rw [hW0]
  exact ⟨fun b o e=>(hB3.block b (by have:=veil_in e;omega)).trans ((lk_bare _ _).1 b o e),fun p v e=>(hB3.cell (p:=p) (World.block_lt_of_cell? _ _ ((lk_bare _ _).2 p v e))).trans ((lk_bare _ _).2 p v e)⟩
 rw [← hW0] at t0 t6
 clear IV r2 b2 hW0
 gi_wp2_with fail
 refine ⟨trivial,hdd _,(walk_in _ _ _ _).mono ?_⟩
 rintro e w' ⟨rfl,rfl⟩
 gi_wp2_with fail
 have c2:=cellNew (W:=w3) (v:=.iface T0 (.pointer (some ⟨g0,0,none⟩))) (t:=49) w3.heap.size rfl
 have bL:Below w3.heap.size w3 (w3.alloc (.cells #[.iface T0 (.pointer (some ⟨g0,0,none⟩))] 49)):=bel_alloc _ _
 have zL:(w3.alloc (.cells #[.iface T0 (.pointer (some ⟨g0,0,none⟩))] 49)).heap.size=w3.heap.size+1:=by simp
 generalize (w3.alloc (.cells #[.iface T0 (.pointer (some ⟨g0,0,none⟩))] 49))=WL at *
 have RL:Rnd w W0 w3.heap.size [] WL:=⟨⟨none,0,r3.below bL,World.ownsRow_nil _ _ _ _⟩,fun b o e=>(bL.block b (h00 b _ _ e).2).trans (lk3.1 b o e),fun p v e=>(bL.cell (p:=p) (h0c p v e).2).trans (lk3.2 p v e)⟩
 have bwL:Below w.heap.size w WL:=b3.trans (bL.mono b3.size)
 refine wpIn_rangeFunc_ownH rfl h1n.out (gf:=45) (lb:=#[.pointer (some ⟨w3.heap.size,0,none⟩)]) ?hg trivial (enters_of Tryz.func45 (by kernel_rfl) rfl)
  (walk_stops W0 (w3.heap.size+1) w3.heap.size (n-1) (kr_parse (lo:=w.heap.size) (by omega)) _ T WL t0 t2 (by omega) (by omega) RL.lk.2 (by omega) c2.1 (fun ys=>ys.map Vis.v=valsT W0 (.iface T0 (.pointer (some ⟨g0,0,none⟩))) T) (fun _ _ h=>h))
  (kr_parse (W0:=W0) (lo:=w.heap.size) (hi:=w3.heap.size+1) (by omega)).trans ?kb (Below.refl _ _) (fun _=>rfl)
  (fun pre W=>Rnd w W0 w3.heap.size (pre.map Vis.v) W∧Below w.heap.size w W∧w3.heap.size+1≤W.heap.size)
  (fun _ _ _=>False)
  (OwnFrom.and (fun s A B row hs hg hr=>hs.jk ⟨row,hg,fun r e=>(hr r e).2⟩) (OwnFrom.and (ownFrom_below (Nat.le_refl _) (by omega)) (fun s A B row hs hg _=>Nat.le_trans hs hg.size)))
  (fun _ _ _ _ _ h _ _=>h)
  ⟨RL,bwL,by omega⟩
  (fun x a' _=>a'={tmps:=#[.slice sv zs.length sc,undef,.pointer (some ⟨w.heap.size,0,none⟩),.pointer (some ⟨w.heap.size+1,0,none⟩),.pointer (some ⟨w.heap.size+1+1,0,none⟩),.iface T0 (.pointer (some ⟨g0,0,none⟩)),undef,x.v,.func (.func 16) #[] #[.pointer (some ⟨w.heap.size,0,none⟩),.pointer (some ⟨w.heap.size+1,0,none⟩),.pointer (some ⟨w.heap.size+1+1,0,none⟩)],.slice sv zs.length sc,.pointer (some ⟨g,0,none⟩),.iface T0 (.pointer (some ⟨g0,0,none⟩)),.iface T0 (.pointer (some ⟨g0,0,none⟩)),.bool true,.bool false,undef,undef,.iface T0 (.pointer (some ⟨g0,0,none⟩)),.func (.func 45) #[] #[.pointer (some ⟨w3.heap.size,0,none⟩)],.agg #[.int .i64 x.deep,.bool x.lp],x.v,undef,undef,undef,undef,undef,undef],defers:=[]})
  (fun _ _ _ _ _ _ h _ _=>h) ?assign ?body ?done ?stop
 case hg=>rfl
 case kb =>
  intro W l o o' h1 h2 h3 h4
  refine ⟨fun x p v e=>cell_kept (x p v e) (grownBy_putObj' W l o') (fun r e=>by cases e;exact ⟨o,h2,h3⟩),belowK_b (by omega) W l o o' h1 h2 h3 h4,fun k cs fr hk hc=>?_⟩
  rw [World.putObj_heap_other (fun e=>?_)]
  ·exact hc
  ·subst e
   rw [h2] at hc
   cases hc
   cases h3
 case assign =>
  rintro l pre x W K hI hK
  have hKK:Hid _:=hK
  clear hK
  unfold Vis.encs
  gi_wp2_with fail
  exact hKK.out _ _ ((KeepsOthers.refl _).from _) ((kr_parse (by omega)).refl _) hI rfl
 case body =>
  rintro l pre x a' W hl hr ⟨R,hB,hz⟩ rfl hlt
  obtain ⟨gx,ao,cap,at_,an,ca,cn,ev,hk0,hk1,N,_⟩:=x.rep.open
  obtain ⟨a,c,r3w,how⟩:=R.ex
  have hx:rowC W0 x.v=[.int .i64 (dT x.t).kind,.int .i64 (dT x.t).n,.slice at_ (dT x.t).text.length ca,.slice an (dT x.t).names.length cn,.int .i64 (dT x.t).count]:=by
   rw [ev]
   unfold rowC
   simp only [N.c0,N.c1,N.c2,N.c3,N.c4,Option.getD_some]
  have M2:=m_row hk0 hk1 gx
  have cc:W.cell? ⟨w.heap.size,0,none⟩=some (.slice a (pre.map Vis.v).length c):=r3w.1.at (j:=0) (by omega)
  have lcw:Lc W0 W:=R.lk.2
  have RW:Hid (∀W2,Below W.heap.size W W2→Calls Tryz.prog 172 #[.pointer (some ⟨gx,0,none⟩)] W2 fun e w1=>e=.returned (.agg #[.int .i64 (dT x.t).kind,.int .i64 (dT x.t).n,.slice at_ (dT x.t).text.length ca,.slice an (dT x.t).names.length cn,.int .i64 (dT x.t).count])∧Below W.heap.size W w1):=fun W2 h2=>by
   have lc2:=lcw.trans (Lc.of h2)
   refine (row_any gx W2 _ _ _ _ _ _ _ _ _ (lc2 _ _ N.c0) (lc2 _ _ N.c1) (lc2 _ _ N.c2) (lc2 _ _ N.c3) (lc2 _ _ N.c4)).mono ?_
   rintro e w1 ⟨rfl,h3⟩
   exact ⟨rfl,h2.trans (h3.mono h2.size)⟩
  obtain ⟨m,hm⟩:∃m,m=(pre.map Vis.v).length:=⟨_,rfl⟩
  have APP:Hid (∀w1,Below W.heap.size W w1→∃a' c' w4,(Builtin.append_ #[23,23] 23 #[.slice a m c,.slice (some ⟨w1.heap.size,0,none⟩) 1 1]).run Tryz.prog (w1.alloc (.cells #[.int .i64 (dT x.t).kind,.int .i64 (dT x.t).n,.slice at_ (dT x.t).text.length ca,.slice an (dT x.t).names.length cn,.int .i64 (dT x.t).count] 61))=.ok (.slice a' (m+1) c') w4∧w4.cell? ⟨w.heap.size,0,none⟩=some (.slice a m c)∧w4.frozen? ⟨w.heap.size,0,none⟩=false ∧
    Rnd w W0 w3.heap.size (pre.map Vis.v++[x.v]) (w4.setCell ⟨w.heap.size,0,none⟩ (.slice a' (m+1) c'))∧Kq w.heap.size (w3.heap.size+1) W (w4.setCell ⟨w.heap.size,0,none⟩ (.slice a' (m+1) c'))∧KeepsOthers W (w4.setCell ⟨w.heap.size,0,none⟩ (.slice a' (m+1) c'))):=fun w1 h1=>by
   rw [hm]
   exact round_row (by omega) (by omega) (fun p v h=>by have:=h0c p v h;omega) (fun b cs t h=>by have:=h00 b cs t h;omega) (by omega) r3w how R.lk h1 hx (by simp [Value.oneCell']) (by rw [List.length_map];omega) _
  rw [← hm] at cc
  have HBW:Hid (Below w.heap.size w W∧w3.heap.size+1≤W.heap.size):=⟨hB,hz⟩
  simp only [ev]
  generalize ty (dT x.t).kind=TT at *
  generalize (dT x.t).kind=kd at *
  generalize (dT x.t).n=nn at *
  generalize (dT x.t).count=ct at *
  generalize (dT x.t).text.length=pp at *
  generalize (dT x.t).names.length=qq at *
  clear hm how r3w R hx lcw N ev hk0 hk1 hr
  gi_wp2_with fail
  refine wpIn_region_any (by kernel_rfl) ?_
  change wpAnyIn _ _ _ _ _ _ _ _ _ (World.drew _)
  refine wpAnyIn_ready (rs:=[0,1]) (by kernel_rfl) (by simp) ?_
  refine AllReadyIn.cons rfl (fun K hK=>?_) (AllReadyIn.cons rfl (fun K hK=>?_) AllReadyIn.nil)
  all_goals (go_simp;refine hK _ _ ?_;clear hK K)
  refine wpAnyIn_ready (rs:=[1]) (by kernel_rfl) (by simp) ?_;refine AllReadyIn.cons rfl (fun K hK=>?_) AllReadyIn.nil;go_simp;refine hK _ _ ?_;clear hK K
  refine wpAnyIn_ready (rs:=[2]) (by kernel_rfl) (by simp) ?_;refine AllReadyIn.cons rfl (fun K hK=>?_) AllReadyIn.nil;go_simp;refine ⟨trivial,hdd _,(CallsIn.inRound l (callsIn_wide.2 (RW.out _ (by repeat (first|exact Below.refl _ _|refine Below.drew ?_|refine tk.bel_drewN ?_ _))))).mono ?_⟩;rintro e w1 ⟨rfl,hb⟩;obtain ⟨a',c',w4,e1,e2,e3,e4⟩:=APP.out w1 hb;have HF:Hid (_∧_∧_):=e4;have cw:w1.cell? ⟨w.heap.size,0,none⟩=some (.slice a m c):=(hb.cell (p:=⟨w.heap.size,0,none⟩) (show w.heap.size<W.heap.size by have:=HBW.out;omega)).trans cc;have cv:=fun o=>cellAl (W:=w1) o cw;clear e4 hb;refine hK _ _ ?_;clear hK K
  refine wpAnyIn_ready (rs:=[3]) (by kernel_rfl) (by simp) ?_;refine AllReadyIn.cons rfl (fun K hK=>?_) AllReadyIn.nil;go_simp;refine hK _ _ ?_;clear hK K
  rotate_left
  refine wpAnyIn_ready (rs:=[0,2]) (by kernel_rfl) (by simp) ?_
  refine AllReadyIn.cons rfl (fun K hK=>?_) (AllReadyIn.cons rfl (fun K hK=>?_) AllReadyIn.nil)
  (go_simp;refine hK _ _ ?_;clear hK K;refine wpAnyIn_ready (rs:=[2]) (by kernel_rfl) (by simp) ?_;refine AllReadyIn.cons rfl (fun K hK=>?_) AllReadyIn.nil;go_simp;refine ⟨trivial,hdd _,(CallsIn.inRound l (callsIn_wide.2 (RW.out _ (by repeat (first|exact Below.refl _ _|refine Below.drew ?_|refine tk.bel_drewN ?_ _))))).mono ?_⟩;rintro e w1 ⟨rfl,hb⟩;obtain ⟨a',c',w4,e1,e2,e3,e4⟩:=APP.out w1 hb;have HF:Hid (_∧_∧_):=e4;have cw:w1.cell? ⟨w.heap.size,0,none⟩=some (.slice a m c):=(hb.cell (p:=⟨w.heap.size,0,none⟩) (show w.heap.size<W.heap.size by have:=HBW.out;omega)).trans cc;have cv:=fun o=>cellAl (W:=w1) o cw;clear e4 hb;refine hK _ _ ?_;clear hK K;refine wpAnyIn_ready (rs:=[3]) (by kernel_rfl) (by simp) ?_;refine AllReadyIn.cons rfl (fun K hK=>?_) AllReadyIn.nil;go_simp;refine hK _ _ ?_;clear hK K)
  rotate_left
  go_simp;refine ⟨trivial,hdd _,(CallsIn.inRound l (callsIn_wide.2 (RW.out _ (by repeat (first|exact Below.refl _ _|refine Below.drew ?_|refine tk.bel_drewN ?_ _))))).mono ?_⟩;rintro e w1 ⟨rfl,hb⟩;obtain ⟨a',c',w4,e1,e2,e3,e4⟩:=APP.out w1 hb;have HF:Hid (_∧_∧_):=e4;have cw:w1.cell? ⟨w.heap.size,0,none⟩=some (.slice a m c):=(hb.cell (p:=⟨w.heap.size,0,none⟩) (show w.heap.size<W.heap.size by have:=HBW.out;omega)).trans cc;have cv:=fun o=>cellAl (W:=w1) o cw;clear e4 hb;refine hK _ _ ?_;clear hK K
  refine wpAnyIn_ready (rs:=[0,3]) (by kernel_rfl) (by simp) ?_
  refine AllReadyIn.cons rfl (fun K hK=>?_) (AllReadyIn.cons rfl (fun K hK=>?_) AllReadyIn.nil)
  (go_simp;refine hK _ _ ?_;clear hK K;refine wpAnyIn_ready (rs:=[3]) (by kernel_rfl) (by simp) ?_;refine AllReadyIn.cons rfl (fun K hK=>?_) AllReadyIn.nil;go_simp;refine hK _ _ ?_;clear hK K)
  rotate_left
  (go_simp;refine hK _ _ ?_;clear hK K;refine wpAnyIn_ready (rs:=[0]) (by kernel_rfl) (by simp) ?_;refine AllReadyIn.cons rfl (fun K hK=>?_) AllReadyIn.nil;go_simp;refine hK _ _ ?_;clear hK K)
  all_goals
   refine wpAnyIn_ready (rs:=[4]) (by kernel_rfl) (by simp) ?_
   refine AllReadyIn.cons rfl (fun K hK=>?_) AllReadyIn.nil
   rw [if_pos (by kernel_rfl)]
   unfold Oper.wpIn
   refine ⟨fun _ _=>trivial,?_⟩
   simp [Oper.semAt_some,execOp,resolve,invoke,builtin,Oper.uponIn]
   erw [e1]
   refine hK _ _ ?_
   clear hK K
   refine wpAnyIn_ready (rs:=[5]) (by kernel_rfl) (by simp) ?_
   refine AllReadyIn.cons rfl (fun K hK=>?_) AllReadyIn.nil
   go_simp;refine hK _ _ ?_;clear hK K
   refine wpAnyIn_done (by kernel_rfl) ?_ _
   gi_wp2_with fail
   exact ⟨HF.out.2.2.from _,⟨fun _=>HF.out.1.lk.2,HF.out.2.1⟩,by rw [List.map_append];exact HF.out.1,HBW.out.1.trans HF.out.2.1.1,by have:=HF.out.2.1.1.size;have:=HBW.out.2;omega⟩
 case done =>
  rintro D ys W hD hys ⟨R,hB,hz⟩ hK
  obtain ⟨a,c,r3w,how⟩:=R.ex
  have hlen:(ys.map Vis.v).length=l.length:=by
   have h1:=how.1
   rw [hys] at h1 ⊢
   have h2:=t6.len
   omega
  rw [hys] at how
  rw [hlen] at r3w
  have HO:Hid (W.ownsRow w3.heap.size 61 5 (.slice a l.length c) l.length ((valsT W0 (.iface T0 (.pointer (some ⟨g0,0,none⟩))) T).flatMap (rowC W0))):=by
   have:=hlen
   rw [hys] at this
   rw [this] at how
   exact how
  have HT6:Hid (RwC W0 w1.heap.size w2.heap.size ((valsT W0 (.iface T0 (.pointer (some ⟨g0,0,none⟩))) T).flatMap (rowC W0)) l):=t6
  have HLK:Hid (Lk W0 W):=R.lk
  have H3:Hid (Rs3 W w.heap.size (.slice a l.length c) (.int .i64 0) (.int .i64 0)):=r3w
  have HBW:Hid (Below w.heap.size w W∧w3.heap.size+1≤W.heap.size):=⟨hB,hz⟩
  have d0:=r3w.1.at (j:=0) (by omega)
  have d1:=r3w.2.1.at (j:=0) (by omega)
  have d2:=r3w.2.2.at (j:=0) (by omega)
  have f0:=r3w.1.free 0
  have f1:=r3w.2.1.free 0
  have f2:=r3w.2.2.free 0
  simp only [List.getElem?_cons_zero] at d0 d1 d2
  clear how hlen hys R hB r3w t6
  gi_wp2_with fail
  have k1:=(KeepsOthers.setCell W ⟨w.heap.size,0,none⟩ (.slice a l.length c)).trans ((KeepsOthers.setCell _ ⟨w.heap.size+1,0,none⟩ (.int .i64 0)).trans (KeepsOthers.setCell _ ⟨w.heap.size+1+1,0,none⟩ (.int .i64 0)))
  have hK':=k1.same D _ hK rfl
  refine ⟨by simp,.inl ⟨_,_,rfl,run_takeDeferred hK',?_⟩⟩
  have q0:Rs3 (((W.setCell ⟨w.heap.size,0,none⟩ (.slice a l.length c)).setCell ⟨w.heap.size+1,0,none⟩ (.int .i64 0)).setCell ⟨w.heap.size+1+1,0,none⟩ (.int .i64 0)) w.heap.size (.slice a l.length c) (.int .i64 0) (.int .i64 0):=⟨((H3.out.1.set 0 _).other (by omega)).other (by omega),((H3.out.2.1.other (by omega)).set 0 _).other (by omega),((H3.out.2.2.other (by omega)).other (by omega)).set 0 _⟩
  have hfar:∀b,¬b=w.heap.size→¬b=w.heap.size+1→¬b=w.heap.size+1+1→(((W.setCell ⟨w.heap.size,0,none⟩ (.slice a l.length c)).setCell ⟨w.heap.size+1,0,none⟩ (.int .i64 0)).setCell ⟨w.heap.size+1+1,0,none⟩ (.int .i64 0)).heap[b]?=W.heap[b]?:=fun b h1 h2 h3=>((Below.heap_setCell _ ⟨w.heap.size+1+1,0,none⟩ _ b h3).trans (Below.heap_setCell _ ⟨w.heap.size+1,0,none⟩ _ b h2)).trans (Below.heap_setCell _ ⟨w.heap.size,0,none⟩ _ b h1)
  have o0:=own_far HO.out (w':=(((W.setCell ⟨w.heap.size,0,none⟩ (.slice a l.length c)).setCell ⟨w.heap.size+1,0,none⟩ (.int .i64 0)).setCell ⟨w.heap.size+1+1,0,none⟩ (.int .i64 0))) (fun b e=>by have:=(HO.out.lt b e).1;exact hfar b (by omega) (by omega) (by omega))
  have bb:Below w.heap.size w (((W.setCell ⟨w.heap.size,0,none⟩ (.slice a l.length c)).setCell ⟨w.heap.size+1,0,none⟩ (.int .i64 0)).setCell ⟨w.heap.size+1+1,0,none⟩ (.int .i64 0)):=((HBW.out.1.setCell (p:=⟨w.heap.size,0,none⟩) (by simp) _).setCell (p:=⟨w.heap.size+1,0,none⟩) (by simp) _).setCell (p:=⟨w.heap.size+1+1,0,none⟩) (by simp;omega) _
  have l0:Lk W0 (((W.setCell ⟨w.heap.size,0,none⟩ (.slice a l.length c)).setCell ⟨w.heap.size+1,0,none⟩ (.int .i64 0)).setCell ⟨w.heap.size+1+1,0,none⟩ (.int .i64 0)):=⟨fun b o e=>by have:=h00 b _ _ e;exact (hfar b (by omega) (by omega) (by omega)).trans (HLK.out.1 b o e),fun p v e=>by
   have:=h0c p v e
   rw [World.cell?_of_block (a:=p) (hfar p.block (by omega) (by omega) (by omega))]
   exact HLK.out.2 p v e⟩
  generalize (((W.setCell ⟨w.heap.size,0,none⟩ (.slice a l.length c)).setCell ⟨w.heap.size+1,0,none⟩ (.int .i64 0)).setCell ⟨w.heap.size+1+1,0,none⟩ (.int .i64 0))=W5 at *
  have hg5:=grownBy_putObj' W5 D (.deferred none)
  have hr5:∀r,some D=some r→∃o:Obj,W5.heap[r]?=some o∧o.isCells=false:=fun r e=>by cases e;exact ⟨_,hK',rfl⟩
  have j5:=jk_grown hg5 hr5
  have q5:=q0.jk j5
  have c0:=q5.1.at (j:=0) (by omega)
  have c1:=q5.2.1.at (j:=0) (by omega)
  have c2':=q5.2.2.at (j:=0) (by omega)
  simp only [List.getElem?_cons_zero] at c0 c1 c2'
  refine ⟨by simp,.inr ⟨(fun h=>by cases h),_,_,_,#[.pointer (some ⟨w.heap.size,0,none⟩),.pointer (some ⟨w.heap.size+1,0,none⟩),.pointer (some ⟨w.heap.size+1+1,0,none⟩)],rfl,by simp [go_sem],fun _ _=>trivial,catch_none.mono ?_⟩⟩
  rintro e u' w' ⟨rfl,rfl,rfl⟩
  have fin:OkPost w l (.returned (.tuple #[.slice a l.length c,.int .i64 0,.int .i64 0])) (W5.putObj D (.deferred none)):=⟨a,c,_,w1.heap.size,w2.heap.size,w3.heap.size,rfl,bb.trans (belowK_b (w:=w) (Nat.le_refl _) _ D _ _ (by omega) hK' rfl rfl),by omega,by omega,own_jk o0 j5,HT6.out.lk ⟨fun b o e=>j5 _ _ _ _ (l0.1 b o e),fun p v e=>cell_kept (l0.2 p v e) hg5 hr5⟩⟩
  simp [LeavesInM,LeavesIn,settle,results,Tryz.results6,go_sem,c0,c1,c2']
  exact fin
 case stop=>exact fun _ _ _ _ _ _ h=>h.elim
end ip
end Go.Proofs.YtkmiagkehcflnaaGreatDoor
