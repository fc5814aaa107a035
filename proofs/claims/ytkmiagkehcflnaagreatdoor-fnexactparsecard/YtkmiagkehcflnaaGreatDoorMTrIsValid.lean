import Derived.RangeFuncNested
import Derived.RangeFuncBound
import Derived.RangeFuncCalls
import Derived.RangeFuncLeaves
import Derived.Shelf.Abstract
import Derived.Shelf.RegionOpen
import Derived.OwnWalkIn
import Derived.TacticsInMore
import Derived.LoopNIn
import Derived.LoopIn
import Derived.Test.YtkmiagkehcflnaaGreatDoorMTrLc
import Derived.Test.YtkmiagkehcflnaaGreatDoorMTrValid
import Derived.Test.YtkmiagkehcflnaaGreatDoorMTrMeth
import Derived.Test.YtkmiagkehcflnaaGreatDoorMTrNew
import Derived.Test.YtkmiagkehcflnaaGreatDoorMTrDisp
import Derived.Test.YtkmiagkehcflnaaGreatDoorMTrUnder
set_option maxRecDepth 100000
set_option maxHeartbeats 8000000
namespace Go.Proofs.YtkmiagkehcflnaaGreatDoor
namespace vt
open Go.RowKit bts nod lex
def lenOf:Value→Nat
 |.slice _ n _=>n
 |_=>0
theorem own_keep {w w':World} {base:Nat} {e:TypeId} {size:Nat} {v:Value} {n:Nat} {xs:List Value} (h:w.ownsRow base e size v n xs) (hb:Below w.heap.size w w'):w'.ownsRow base e size v n xs :=
 ⟨h.1,h.2.elim .inl fun ⟨g,cap,cur,e,hb1,hh,r⟩=>.inr ⟨g,cap,cur,e,hb1,(hb.block g (Array.getElem?_eq_some_iff.1 hh).1).trans hh,r⟩⟩
end vt
namespace vt
open Go.RowKit bts nod lex
def chk (x:Nat×Bool×Bool×Int):Bool:=decide (x.1≤200)&&(x.2.2.1&&(!(x.2.2.2==8) || x.2.1))
def preT:{D:Nat}→Tr D→Nat→Bool→List (Nat×Bool×Bool×Int)
 |0,_,_,_=>[(0,false,false,0)]
 |_+1,t,deep,lp=>(deep,lp,fitsT t,kindT t)::(t.2.map (fun c=>preT c (deep+1) (innerT t.1.kind lp))).flatten
theorem pre_succ {D:Nat} (t:Tr (D+1)) (deep:Nat) (lp:Bool):preT t deep lp=(deep,lp,fitsT t,kindT t)::(t.2.map (fun c=>preT c (deep+1) (innerT t.1.kind lp))).flatten:=rfl
theorem ok_succ {D:Nat} (t:Tr (D+1)) (deep:Nat) (lp:Bool):okT t deep lp=(nodeOk t deep lp&&t.2.all (fun c=>okT c (deep+1) (innerT t.1.kind lp))):=rfl
theorem size_succ {D:Nat} (t:Tr (D+1)):sizeT t=1+(t.2.map sizeT).sum:=rfl
theorem ok_pre:∀{D:Nat} (t:Tr D) (deep:Nat) (lp:Bool),okT t deep lp=(preT t deep lp).all chk:=by
 intro D
 induction D with
 |zero=>intro t deep lp;rfl
 |succ D ih =>
  intro t deep lp
  rw [ok_succ,pre_succ,List.all_cons,List.all_flatten,List.all_map]
  congr 1
  congr 1
  funext c
  exact ih c _ _
theorem pre_len:∀{D:Nat} (t:Tr D) (deep:Nat) (lp:Bool),(preT t deep lp).length=sizeT t:=by
 intro D
 induction D with
 |zero=>intro t deep lp;rfl
 |succ D ih =>
  intro t deep lp
  rw [pre_succ,size_succ,List.length_cons,List.length_flatten,List.map_map]
  have e:(List.length∘fun c=>preT c (deep+1) (innerT t.1.kind lp))=(sizeT:Tr D→Nat):=by funext c;exact ih c _ _
  rw [e];omega
def wfT:{D:Nat}→Tr D→Prop
 |0,_=>True
 |D+1,t=>(-9223372036854775808≤t.1.n∧t.1.n≤9223372036854775807)∧∀k,k<t.2.length→wfT (t.2.getD k (tr0 D))
theorem take_snoc {α:Type} (z:α) {ts:List α} {k:Nat} (h:k<ts.length):ts.take (k+1)=ts.take k++[ts.getD k z]:=by
 rw [List.take_succ_eq_append_getElem h]
 simp [List.getD_eq_getElem?_getD,List.getElem?_eq_getElem h]
end vt
namespace vt
open Go.RowKit Go.Shelf Go.Deep bts nod lex
attribute [local go_sem] Oper.semAt_some
def Kp (lo hi:Nat) (W W':World):Prop:=Below lo W W'∧∀(k:Nat) (o:Obj),hi≤k→W.heap[k]?=some o→o.isCells=true→W'.heap[k]?=some o
theorem Kp.refl (lo hi:Nat) (W:World):Kp lo hi W W:=⟨Below.refl _ _,fun _ _ _ h _=>h⟩
theorem Kp.trans {lo hi:Nat} {A B C:World} (h:Kp lo hi A B) (h2:Kp lo hi B C):Kp lo hi A C:=⟨h.1.trans h2.1,fun k o hk ho hc=>h2.2 k o hk (h.2 k o hk ho hc) hc⟩
theorem Kp.of {lo hi:Nat} {A B:World} (h:Below A.heap.size A B) (hl:lo≤A.heap.size):Kp lo hi A B:=⟨h.mono hl,fun k _ _ ho _=>(h.block k (Array.getElem?_eq_some_iff.1 ho).1).trans ho⟩
theorem Kp.two {lo hi g:Nat} {A B:World} {cs:Array Value} {t:TypeId} {fr:Nat×Nat} (h:Kp lo hi A B) (hg:hi≤g) (hc:A.heap[g]?=some (.cells cs t fr)):B.heap[g]?=some (.cells cs t fr):=h.2 g _ hg hc rfl
structure Kr (W0:World) (hi:Nat) (R:World→World→Prop):Prop where
 refl:∀W,R W W
 trans:∀{A B C:World},R A B→R B C→R A C
 of:∀{A B:World},hi≤A.heap.size→Below A.heap.size A B→R A B
 two:∀{A B:World} {g:Nat} {cs:Array Value} {fr:Nat×Nat},R A B→hi≤g→A.heap[g]?=some (.cells cs 58 fr)→B.heap[g]?=some (.cells cs 58 fr)
 size:∀{A B:World},R A B→A.heap.size≤B.heap.size
 lc:∀{A B:World},R A B→Lc W0 A→Lc W0 B
structure Vis (W0:World) where
 deep:Nat
 lp:Bool
 v:Value
 D:Nat
 t:Tr D
 rep:Rep W0 v t
 wf:wfT t
 small:deep≤1000000000
def Vis.key {W0:World} (x:Vis W0):Nat×Bool×Bool×Int:=(x.deep,x.lp,fitsT x.t,kindT x.t)
def Vis.encs {W0:World} (x:Vis W0):Array Value:=#[.agg #[.int .i64 x.deep,.bool x.lp],x.v]
def kidV (w:World) (v:Value) (k:Nat):Value :=
 match v with
 |.iface _ (.pointer (some a))=>(match w.cell? ⟨a.block,5,none⟩ with
  |some (.slice (some c) _ _)=>(w.cell? ⟨c.block,c.off+k,none⟩).getD undef
  |_=>undef)
 |_=>undef
def valsT:{D:Nat}→World→Value→Tr D→List Value
 |0,_,_,_=>[]
 |D+1,w,v,t=>v::((List.range t.2.length).map (fun k=>valsT w (kidV w v k) (t.2.getD k (tr0 D)))).flatten
def VPost {W0:World} (R:World→World→Prop) (J Jx:List (Vis W0)→World→Prop) (pre xs:List (Vis W0)) (W:World) (e:Ending) (W':World):Prop :=
 (e=.returned (.bool true)∧J (pre++xs) W'∧R W W')∨(e=.returned (.bool false)∧∃q,q <+: xs∧Jx (pre++q) W')
theorem flat_pre {α:Type} (F:Nat→List α) {k n:Nat} (h:k≤n):((List.range k).map F).flatten <+: ((List.range n).map F).flatten:=by
 induction n with
 |zero=>rw [show k=0 by omega];exact List.prefix_rfl
 |succ n ih =>
  by_cases hk:k=n+1
  ·rw [hk];exact List.prefix_rfl
  ·rw [List.range_succ,List.map_append,List.flatten_append]
   exact (ih (by omega)).trans (List.prefix_append _ _)
theorem flat_le {α:Type} (F:Nat→List α) {k n:Nat} (h:k≤n):((List.range k).map F).flatten.length≤((List.range n).map F).flatten.length:=(flat_pre F h).length_le
theorem visit_in (W0:World) (l hi NN:Nat) {R:World→World→Prop} (hR:Kr W0 hi R) (J Jx:List (Vis W0)→World→Prop) (hJ:Hid (∀pre W W',J pre W→Below W.heap.size W W'→J pre W'))
  (hY:Hid (∀m pre x W,J pre W→pre.length<NN→YieldAt Fence.wide m Tryz.prog l (Vis.encs x) W fun e W'=>(e=.returned (.bool true)∧J (pre++[x]) W'∧R W W')∨(e=.returned (.bool false)∧Jx (pre++[x]) W'))) :
  ∀{D:Nat} (T:Tr D) (v:Value) (deep:Nat) (lp:Bool),Rep W0 v T→wfT T→deep+sizeT T≤1000000000→∃xs:List (Vis W0),(xs.map Vis.key=preT T deep lp∧xs.map Vis.v=valsT W0 v T) ∧
   ∀(m:Nat) (pre:List (Vis W0)) (W:World),Lc W0 W→hi≤W.heap.size→J pre W→pre.length+xs.length≤NN →
    CallsIn Fence.wide m Tryz.prog 46 #[v,.agg #[.int .i64 deep,.bool lp],.func (.yield l) #[] #[]] W (VPost R J Jx pre xs W):=by
 intro D
 induction D with
 |zero=>intro T v deep lp hrep;exact hrep.elim
 |succ D ih =>
  intro T v deep lp hrep hwf hdeep
  have hop:Rep W0 v T:=hrep
  obtain ⟨g,ao,cap,ut,un,U,ev,hk0,hk1,q1,q2,q3,N,ht,hm,hsz,hc,hr⟩:=hop
  rw [size_succ] at hdeep
  have hwf2:wfT T:=hwf
  obtain ⟨_,hwk⟩:=hwf2
  obtain ⟨F,hF⟩:=choose_lt (α:=List (Vis W0)) (p:=fun k xs=>(xs.map Vis.key=preT (T.2.getD k (tr0 D)) (deep+1) (innerT T.1.kind lp)∧xs.map Vis.v=valsT W0 (U k) (T.2.getD k (tr0 D))) ∧
   ∀(m:Nat) (pre:List (Vis W0)) (W:World),Lc W0 W→hi≤W.heap.size→J pre W→pre.length+xs.length≤NN →
    CallsIn Fence.wide m Tryz.prog 46 #[U k,.agg #[.int .i64 ((deep+1:Nat):Int),.bool (innerT T.1.kind lp)],.func (.yield l) #[] #[]] W (VPost R J Jx pre xs W)) (n:=T.2.length) (fun k hk =>
   ih _ (U k) (deep+1) (innerT T.1.kind lp) (hr k hk) (hwk k hk) (by have:=sum_at sizeT (tr0 D) hk;omega))
  clear ih
  obtain ⟨x0,hx0⟩:∃x0:Vis W0,x0=⟨deep,lp,v,D+1,T,hrep,hwf,by omega⟩:=⟨_,rfl⟩
  have flat:∀k,k≤T.2.length→((List.range k).map F).flatten.map Vis.key=((T.2.take k).map (fun c=>preT c (deep+1) (innerT T.1.kind lp))).flatten:=by
   intro k
   induction k with
   |zero=>intro _;rfl
   |succ k ihk =>
    intro hk
    rw [List.range_succ,List.map_append,List.flatten_append,List.map_append,ihk (by omega),take_snoc (tr0 D) (by omega),List.map_append,List.flatten_append]
    simp [(hF k (by omega)).1.1]
  refine ⟨x0::((List.range T.2.length).map F).flatten,?_,?_⟩
  ·refine ⟨by rw [List.map_cons,flat _ (Nat.le_refl _),List.take_length,pre_succ,hx0];rfl,?_⟩
   rw [List.map_cons,List.map_flatten,List.map_map,hx0]
   show v::_=v::_
   congr 2
   refine List.map_congr_left fun k hk=>?_
   have hk2:k<T.2.length:=List.mem_range.1 hk
   obtain ⟨b,off,eo,hcu⟩:=hc k hk2
   have ek:kidV W0 v k=U k:=by
    rw [ev]
    unfold kidV
    simp only [N.2.2.2.2.2,eo,hcu,Option.getD_some]
   rw [ek]
   exact (hF k hk2).1.2
  ·intro m pre W hW hhi hj hN
   rw [List.length_cons] at hN
   have hUn:Hid (∀W,Lc W0 W→Calls Tryz.prog 87 #[.agg #[.int .i64 deep,.bool lp],.iface (ty T.1.kind) (.pointer (some ⟨g,0,none⟩))] W fun e w'=>e=.returned (.agg #[.int .i64 ((deep+1:Nat):Int),.bool (innerT T.1.kind lp)])∧Below W.heap.size W w') :=
    fun W hW=>by have:=under_any deep lp (hrep.lc hW) (by omega);rw [ev] at this;exact this
   have hKi:Hid (∀W,Lc W0 W→Calls Tryz.prog 168 #[.pointer (some ⟨g,0,none⟩)] W fun e w'=>e=.returned (.slice ao T.2.length cap)∧w'=W) :=
    fun W hW=>kids_any g W ao T.2.length cap (N.lc hW).2.2.2.2.2
   have hUk:Hid (∀W,Lc W0 W→∀k,k<T.2.length→∃b off,ao=some ⟨b,off,none⟩∧W.cell? ⟨b,off+k,none⟩=some (U k)):=fun W hW k hk=>by
    obtain ⟨b,off,e,h⟩:=hc k hk
    exact ⟨b,off,e,hW _ _ h⟩
   have M1:=m_children hk0 hk1 g
   have HF:Hid (∀k,k<T.2.length→∀(m:Nat) (pre:List (Vis W0)) (W:World),Lc W0 W→hi≤W.heap.size→J pre W→pre.length+(F k).length≤NN →
    CallsIn Fence.wide m Tryz.prog 46 #[U k,.agg #[.int .i64 ((deep+1:Nat):Int),.bool (innerT T.1.kind lp)],.func (.yield l) #[] #[]] W (VPost R J Jx pre (F k) W)):=fun k hk=>(hF k hk).2
   have HX0:Hid (Vis.encs x0=#[.agg #[.int .i64 deep,.bool lp],.iface (ty T.1.kind) (.pointer (some ⟨g,0,none⟩))]):=by show _=_;rw [hx0];show #[.agg #[.int .i64 deep,.bool lp],v]=_;rw [ev]
   have hdd:∀k:Nat,(Fence.wide.depth.isSome=true→1≤k):=fun k h=>by cases h
   obtain ⟨Wa,hWa⟩:∃Wa,Wa=W.alloc (.cells #[.int .i64 deep,.bool lp] 58):=⟨_,rfl⟩
   have bA:Below W.heap.size W Wa:=by rw [hWa];exact (Below.refl _ _).alloc (Nat.le_refl _) _
   have kA:Wa.heap[W.heap.size]?=some (.cells #[.int .i64 deep,.bool lp] 58 (0,0)):=by rw [hWa];exact heap_alloc_new _ _
   have zA:Wa.heap.size=W.heap.size+1:=by rw [hWa];simp
   have hYx:=hY.out (m-1) pre x0 Wa (hJ.out _ _ _ hj bA) (by omega)
   rw [HX0.out] at hYx
   obtain ⟨fn,tmps,assign,body,hy,hR⟩:=hYx
   rw [hWa] at hy
   have HBA:Hid (Below W.heap.size W Wa):=bA
   have HKA:Hid (Wa.heap[W.heap.size]?=some (.cells #[.int .i64 deep,.bool lp] 58 (0,0))):=kA
   have HW0:Hid (Lc W0 W):=hW
   have HJ0:Hid (J pre W):=hj
   rw [ev]
   generalize hin:innerT T.1.kind lp=lp' at *
   clear hF flat hx0 hc hr N ht hm hsz hrep hwf hwk bA kA hW hj HX0 hY ev
   generalize ty T.1.kind=TT at *
   generalize T.2.length=nk at *
   refine callsIn_of_wp Tryz.func46 rfl trivial ?_ rfl
   simp only [Tryz.ntmps46,List.size_toArray,List.length_cons,List.length_nil,Nat.reduceAdd,Nat.reduceSub,Array.replicate_succ,Array.replicate_zero,List.push_toArray,List.append_toArray,List.nil_append,List.cons_append]
   gi_wp2_with fail
   rw [← hWa]
   refine ⟨hdd _,?_⟩
   refine hR.mono ?_
   clear hR
   rintro e W1 (⟨rfl,hJ1,hK1⟩|⟨rfl,hx1⟩)
   ·have HK1:Hid (R Wa W1):=hK1
    have k1:=hR.two hK1 hhi HKA.out
    have HB1:Hid (Lc W0 W1):=hR.lc hK1 (HW0.out.trans (Lc.of HBA.out))
    have a0:W1.cell? ⟨W.heap.size,0,none⟩=some (.int .i64 deep):=by simp [World.cell?,k1]
    have a1:W1.cell? ⟨W.heap.size,1,none⟩=some (.bool lp):=by simp [World.cell?,k1]
    have HJ1:Hid (J (pre++[x0]) W1):=hJ1
    have hz1:W.heap.size+1≤W1.heap.size:=by have:=hR.size hK1;omega
    clear hK1 hJ1 k1
    gi_wp2_with fail
    refine ⟨trivial,hdd _,(callsIn_wide.2 (hUn.out W1 HB1.out)).mono ?_⟩
    rintro e W2 ⟨rfl,hb2⟩
    have HB2:Hid (Below W1.heap.size W1 W2):=hb2
    have hz2:=hb2.size
    clear hb2
    gi_wp2_with fail
    obtain ⟨W3,hW3⟩:∃W3,W3=W2.alloc (.cells #[.int .i64 ((deep:Int)+1),.bool lp'] 58):=⟨_,rfl⟩
    rw [← hW3]
    have b3:Below W2.heap.size W2 W3:=by rw [hW3];exact (Below.refl _ _).alloc (Nat.le_refl _) _
    have k3:W3.heap[W2.heap.size]?=some (.cells #[.int .i64 ((deep:Int)+1),.bool lp'] 58 (0,0)):=by rw [hW3];exact heap_alloc_new _ _
    have z3:W3.heap.size=W2.heap.size+1:=by rw [hW3];simp
    have HB3:Hid (Below W1.heap.size W1 W3):=HB2.out.trans (b3.mono hz2)
    have HB03:Hid (Lc W0 W3):=HB1.out.trans (Lc.of HB3.out)
    have HK3:Hid (W3.heap[W2.heap.size]?=some (.cells #[.int .i64 ((deep:Int)+1),.bool lp'] 58 (0,0))):=k3
    clear b3 k3 hW3
    refine ⟨trivial,hdd _,(callsIn_wide.2 (hKi.out W3 HB03.out)).mono ?_⟩
    rintro e W3' ⟨rfl,hw3⟩
    replace hw3:=hw3.symm
    subst hw3
    gi_wp2_with fail
    gi_loopw [21] (fun x wr=>∃(k:Nat),k≤nk∧x=.int .i64 k∧Hid (J (pre++(x0::((List.range k).map F).flatten)) wr)∧Hid (R W3 wr)) (fun x _=>nk-(intOf x).toNat)
    case atStart=>exact ⟨0,by omega,rfl,hJ.out _ _ _ HJ1.out HB3.out,hR.refl _⟩
    case round =>
     obtain ⟨k,hk,rfl,HJk,HKk⟩:=hrel
     have HBk:Hid (Lc W0 wr):=hR.lc HKk.out HB03.out
     by_cases hkn:k<nk
     ·obtain ⟨b,off,eo,hcu⟩:=hUk.out wr HBk.out k hkn
      subst eo
      have kk:=hR.two HKk.out (by omega) HK3.out
      have b0:wr.cell? ⟨W2.heap.size,0,none⟩=some (.int .i64 ((deep:Int)+1)):=by simp [World.cell?,kk]
      have b1:wr.cell? ⟨W2.heap.size,1,none⟩=some (.bool lp'):=by simp [World.cell?,kk]
      have hle:=flat_le F (show k+1≤nk by omega)
      have hex:((List.range (k+1)).map F).flatten=((List.range k).map F).flatten++F k:=by rw [List.range_succ,List.map_append,List.flatten_append];simp
      have C:=HF.out k hkn (m-1) (pre++(x0::((List.range k).map F).flatten)) wr HBk.out (by have:=hR.size HKk.out;omega) HJk.out (by rw [hex] at hle;simp only [List.length_append,List.length_cons] at hle ⊢;omega)
      rw [show (((deep+1:Nat):Int))=(deep:Int)+1 by omega] at C
      have i1:(k:Int)<(nk:Int):=by omega
      clear kk
      gi_wp2_with fail
      refine ⟨trivial,hdd _,C.mono ?_⟩
      clear C
      rintro e w4 (⟨rfl,hJ4,hK4⟩|⟨rfl,q,hq,hx4⟩)
      ·have HJ4:Hid (J (pre++(x0::((List.range (k+1)).map F).flatten)) w4):=by show J _ _;rw [hex];simpa [List.append_assoc] using hJ4
       have HK4:Hid (R W3 w4):=hR.trans HKk.out hK4
       clear hJ4 hK4
       gi_wp2_with fail
       go_roundw
       case rel=>exact ⟨k+1,by omega,by go_num,HJ4,HK4⟩
       case measure=>simp [intOf];omega
      ·have HQ:Hid (x0::(((List.range k).map F).flatten++q) <+: x0::((List.range nk).map F).flatten):=by
        obtain ⟨r,hr⟩:=hq
        obtain ⟨r2,hr2⟩:=flat_pre F (show k+1≤nk by omega)
        exact ⟨r++r2,by rw [← hr2,hex,← hr];simp⟩
       have HX4:Hid (Jx (pre++(x0::(((List.range k).map F).flatten++q))) w4):=by show Jx _ _;simpa [List.append_assoc] using hx4
       clear hx4 hq
       gi_wp2_with fail
       go_ret
       exact .inr ⟨rfl,_,HQ.out,HX4.out⟩
     ·have hkn2:k=nk:=by omega
      subst hkn2
      gi_wp2_with fail
      go_ret
      exact .inl ⟨rfl,HJk.out,hR.trans (hR.trans (hR.of hhi HBA.out) HK1.out) (hR.trans (hR.of (by omega) HB3.out) HKk.out)⟩
   ·gi_wp2_with fail
    go_ret
    exact .inr ⟨rfl,[x0],⟨_,rfl⟩,hx1⟩
attribute [local go_sem] Oper.semAt_some
theorem yield_any {m:Nat} (m':Nat) {P:Program} {l:Nat} {args:Array Value} {W:World} {R:Ending→World→Prop} (h:YieldAt Fence.wide m P l args W R):YieldAt Fence.wide m' P l args W R:=by
 obtain ⟨fn,tmps,assign,body,hy,hR⟩:=h
 exact ⟨fn,tmps,assign,body,hy,hR.1,fun c cs _=>hR.2 c cs (fun d h=>by cases h)⟩
theorem grown_of {W W':World} (h:Below W.heap.size W W'):W.grownBy W' none:=⟨h.os,h.tape,h.output,h.size,fun k hk _=>h.block k hk⟩
theorem walk_in (n T0 g:Nat) (w:World) :
  CallsIn Fence.wide n Tryz.prog 21 #[.iface T0 (.pointer (some ⟨g,0,none⟩))] w fun e w'=>e=.returned (.func (.func 45) #[] #[.pointer (some ⟨w.heap.size,0,none⟩)])∧w'=w.alloc (.cells #[.iface T0 (.pointer (some ⟨g,0,none⟩))] 49):=by
 refine callsIn_of_wp Tryz.func21 rfl trivial ?_ rfl
 simp only [Tryz.ntmps21,List.size_toArray,List.length_cons,List.length_nil,Nat.reduceAdd,Nat.reduceSub,Array.replicate_succ,Array.replicate_zero,List.push_toArray,List.append_toArray,List.nil_append,List.cons_append]
 gi_wp2
 go_ret
 exact ⟨rfl,rfl⟩
theorem walk_stops (W0:World) (hi Bt n:Nat) {R:World→World→Prop} (hR:Kr W0 hi R) (v:Value) {D:Nat} (T:Tr D) (w:World) (hrep:Rep W0 v T) (hwf:wfT T) (hsz:1+sizeT T≤1000000000) (hBt:Bt<w.heap.size) (hw:Lc W0 w) (hhi:hi≤w.heap.size) (hc:w.cell? ⟨Bt,0,none⟩=some v) (Φ:List (Vis W0)→Prop) (hΦ:∀xs,xs.map Vis.key=preT T 1 false→xs.map Vis.v=valsT W0 v T→Φ xs) :
  SeqStopsK Fence.wide n Tryz.prog 45 #[.pointer (some ⟨Bt,0,none⟩)] (fun x:Vis W0=>x.encs) R Φ (fun q=>∃xs:List (Vis W0),Φ xs∧q <+: xs) (sizeT T) w:=by
 intro l J Jx W hW hJ hJx hY h0
 obtain ⟨xs,⟨hk,hkv⟩,C⟩:=visit_in W0 l hi (sizeT T) hR J Jx (fun pre W W' h hb=>hJ pre W W' none h (grown_of hb) (fun r e=>by cases e)) (fun m pre x W h1 h2=>yield_any m (hY pre x W h1 h2)) T v 1 false hrep hwf hsz
 have hlen:xs.length=sizeT T:=by rw [← pre_len T 1 false,← hk,List.length_map]
 have C2:=C (n-1) [] W (hw.trans (Lc.of hW)) (by have:=hW.size;omega) h0 (by rw [hlen,List.length_nil];omega)
 have hc2:W.cell? ⟨Bt,0,none⟩=some v:=(hW.cell (p:=⟨Bt,0,none⟩) hBt).trans hc
 have HX:Hid (Φ xs):=hΦ xs hk hkv
 have hdd:∀k:Nat,(Fence.wide.depth.isSome=true→1≤k):=fun k h=>by cases h
 clear C hJ hJx hY h0 hW hw hc hk hkv hΦ hrep hwf
 show CallsIn Fence.wide n Tryz.prog 45 #[.func (.yield l) #[] #[],.pointer (some ⟨Bt,0,none⟩)] W _
 refine callsIn_of_wp Tryz.func45 rfl trivial ?_ rfl
 simp only [Tryz.ntmps45,List.size_toArray,List.length_cons,List.length_nil,Nat.reduceAdd,Nat.reduceSub,Array.replicate_succ,Array.replicate_zero,List.push_toArray,List.append_toArray,List.nil_append,List.cons_append]
 gi_wp2_with fail
 refine ⟨trivial,hdd _,C2.mono ?_⟩
 rintro e W1 (⟨rfl,hJ1,_⟩|⟨rfl,q,hq,hx⟩)
 ·gi_wp2_with fail
  go_end0
  exact ⟨⟨_,rfl⟩,.inl ⟨xs,HX.out,hJ1⟩⟩
 ·gi_wp2_with fail
  go_end0
  exact ⟨⟨_,rfl⟩,.inr ⟨q,⟨xs,HX.out,hq⟩,hx⟩⟩
attribute [local go_sem] Oper.semAt_some
theorem cellNew {W:World} {v:Value} {t:TypeId} (B:Nat) (hB:B=W.heap.size):(W.alloc (.cells #[v] t)).cell? ⟨B,0,none⟩=some v∧(W.alloc (.cells #[v] t)).frozen? ⟨B,0,none⟩=false:=by
 subst hB
 have hh:=heap_alloc_new W (.cells #[v] t)
 constructor
 ·unfold World.cell?;rw [hh];rfl
 ·unfold World.frozen?;rw [hh];rfl
theorem cellAl {W:World} {a:Addr} {v:Value} (o:Obj) (h:W.cell? a=some v):(W.alloc o).cell? a=some v:=cell_kept h (World.grownBy_alloc W o none) (fun r e=>by cases e)
theorem frozAl {W:World} {a:Addr} {v:Value} (o:Obj) (h:W.cell? a=some v) (hf:W.frozen? a=false):(W.alloc o).frozen? a=false:=(frozen_kept h (World.grownBy_alloc W o none) (fun r e=>by cases e)).trans hf
theorem keeps_below {B:Nat} {W W':World} (h:Below W.heap.size W W'):KeepsFrom B W W':=⟨h.size,fun k _ _ hk _=>(h.block k (Array.getElem?_eq_some_iff.1 hk).1).trans hk⟩
theorem kpR {W0:World} {lo hi:Nat} (hlo:W0.heap.size=lo) (hlh:lo≤hi):Kr W0 hi (fun A B=>Kp lo hi A B):=⟨fun _=>Kp.refl _ _ _,fun h k=>h.trans k,fun hl h=>Kp.of h (by omega),fun h hg hc=>h.two hg hc,fun h=>h.1.size,fun h k a v e=>(h.1.cell (p:=a) (by rw [← hlo];exact World.block_lt_of_cell? _ _ e)) ▸ k a v e⟩
theorem kpT {lo hi:Nat}:∀{A B C:World},Kp lo hi A B→Kp lo hi B C→Kp lo hi A C:=fun h k=>h.trans k
theorem kpB {lo hi:Nat} {w:World} (hl:lo≤w.heap.size):∀(W:World) (l:Nat) (o o':Obj),w.heap.size≤l→W.heap[l]?=some o→o.isCells=false→o.isWalk=false→Kp lo hi W (W.putObj l o'):=by
 intro W l o o' h1 h2 h3 h4
 refine ⟨belowK_b hl W l o o' h1 h2 h3 h4,fun k p _ hk hc=>?_⟩
 rw [World.putObj_heap_other (fun e=>?_)]
 ·exact hk
 ·subst e
  rw [h2] at hk
  cases hk
  rw [h3] at hc
  cases hc
theorem kpSet {lo hi:Nat} {W:World} {b:Nat} {v:Value} (h1:lo≤b) (h2:b<hi):Kp lo hi W (W.setCell ⟨b,0,none⟩ v) :=
 ⟨(Below.refl lo W).setCell (p:=⟨b,0,none⟩) h1 _,fun k o hk ho _=>(Below.heap_setCell W ⟨b,0,none⟩ v k (fun e=>by have e2:k=b:=e;omega)).trans ho⟩
theorem wf_root {D:Nat} {w:World} {v:Value} {t:Tr D} (h:Rep w v t) (hw:wfT t):-9223372036854775808≤(dT t).n∧(dT t).n≤9223372036854775807:=by
 cases D with
 |zero=>exact h.elim
 |succ D=>exact hw.1
def isV {D:Nat} (T:Tr D):Bool:=decide (sizeT T≤6000)&&(okT T 1 false&&(kindT T==0))
theorem bad_pre {W0:World} {D:Nat} {T:Tr D} {q xs:List (Vis W0)} (hx:xs.map Vis.key=preT T 1 false) (hq:q <+: xs) (hb:¬((q.map Vis.key).all chk=true∧q.length≤6000)):isV T=false:=by
 rw [Bool.eq_false_iff]
 intro hc
 unfold isV at hc
 simp only [Bool.and_eq_true,decide_eq_true_eq] at hc
 obtain ⟨r,rfl⟩:=hq
 rw [ok_pre,← hx,List.map_append,List.all_append,Bool.and_eq_true] at hc
 have hl:=pre_len T 1 false
 rw [← hx,List.length_map,List.length_append] at hl
 exact hb ⟨hc.2.1.1,by omega⟩
theorem isValid_in (n:Nat) (v:Value) {D0:Nat} (T:Tr D0) (w:World) (hn:3≤n) (hrep:Rep w v T) (hwf:wfT T) (hsz:1+sizeT T≤1000000000) :
  CallsIn Fence.wide n Tryz.prog 20 #[v] w fun e w'=>e=.returned (.bool (isV T))∧Below w.heap.size w w':=by
 have h1:1≤n:=by omega
 obtain ⟨T0,g,rfl⟩:∃T g,v=.iface T (.pointer (some ⟨g,0,none⟩)):=by obtain ⟨g,_,_,_,_,_,_,e,_⟩:=hrep.open;exact ⟨_,g,e⟩
 refine callsIn_of_wp_marks Tryz.func20 rfl trivial ?_ rfl
 simp only [Tryz.ntmps20,List.size_toArray,List.length_cons,List.length_nil,Nat.reduceAdd,Nat.reduceSub,Array.replicate_succ,Array.replicate_zero,List.push_toArray,List.append_toArray,List.nil_append,List.cons_append]
 gi_wp2_with fail
 refine ⟨trivial,(walk_in _ _ _ _).mono ?_⟩
 rintro e w' ⟨rfl,rfl⟩
 gi_wp2_with fail
 have c0:=cellNew (W:=w) (v:=.bool false) (t:=4) w.heap.size rfl
 have c1:=cellNew (W:=w.alloc (.cells #[.bool false] 4)) (v:=.int .i64 0) (t:=3) (w.heap.size+1) (by simp)
 have c2:=cellNew (W:=(w.alloc (.cells #[.bool false] 4)).alloc (.cells #[.int .i64 0] 3)) (v:=.iface T0 (.pointer (some ⟨g,0,none⟩))) (t:=49) (w.heap.size+1+1) (by simp)
 have hB0:Below w.heap.size w (((w.alloc (.cells #[.bool false] 4)).alloc (.cells #[.int .i64 0] 3)).alloc (.cells #[.iface T0 (.pointer (some ⟨g,0,none⟩))] 49)):=(((Below.refl _ w).alloc (Nat.le_refl _) _).alloc (by simp) _).alloc (by simp;omega) _
 have r0:=cellAl (.cells #[.iface T0 (.pointer (some ⟨g,0,none⟩))] 49) (cellAl (.cells #[.int .i64 0] 3) c0.1)
 have f0:=frozAl (.cells #[.iface T0 (.pointer (some ⟨g,0,none⟩))] 49) (cellAl (.cells #[.int .i64 0] 3) c0.1) (frozAl (.cells #[.int .i64 0] 3) c0.1 c0.2)
 have r1:=cellAl (.cells #[.iface T0 (.pointer (some ⟨g,0,none⟩))] 49) c1.1
 have f1:=frozAl (.cells #[.iface T0 (.pointer (some ⟨g,0,none⟩))] 49) c1.1 c1.2
 have hzL:(((w.alloc (.cells #[.bool false] 4)).alloc (.cells #[.int .i64 0] 3)).alloc (.cells #[.iface T0 (.pointer (some ⟨g,0,none⟩))] 49)).heap.size=w.heap.size+3:=by simp
 generalize (((w.alloc (.cells #[.bool false] 4)).alloc (.cells #[.int .i64 0] 3)).alloc (.cells #[.iface T0 (.pointer (some ⟨g,0,none⟩))] 49))=WL at *
 clear c0 c1
 refine wpIn_rangeFunc_ownH rfl h1 (gf:=45) (lb:=#[.pointer (some ⟨w.heap.size+1+1,0,none⟩)]) ?hg trivial (enters_of Tryz.func45 (by kernel_rfl) rfl)
  (walk_stops w (w.heap.size+3) (w.heap.size+1+1) (n-1) (kpR rfl (by omega)) _ T WL hrep hwf hsz (by omega) (Lc.of hB0) (by omega) c2.1 (fun ys=>ys.map Vis.key=preT T 1 false) (fun _ h _=>h)) kpT (kpB (by omega)) (Below.refl _ _) ?hps
  (fun pre W=>(((pre.map Vis.key).all chk=true∧pre.length≤6000)∧W.cell? ⟨w.heap.size+1,0,none⟩=some (.int .i64 pre.length)∧W.frozen? ⟨w.heap.size+1,0,none⟩=false∧W.cell? ⟨w.heap.size,0,none⟩=some (.bool false)∧W.frozen? ⟨w.heap.size,0,none⟩=false)∧Below w.heap.size w W∧w.heap.size+3≤W.heap.size)
  (fun c pre W=>(c=.ret∧¬((pre.map Vis.key).all chk=true∧pre.length≤6000)∧W.cell? ⟨w.heap.size,0,none⟩=some (.bool false))∧Below w.heap.size w W)
  (OwnFrom.and (Own.from (fun s A B row hs hg hr=>⟨hs.1,cell_kept hs.2.1 hg hr,(frozen_kept hs.2.1 hg hr).trans hs.2.2.1,cell_kept hs.2.2.2.1 hg hr,(frozen_kept hs.2.2.2.1 hg hr).trans hs.2.2.2.2⟩) _) (OwnFrom.and (ownFrom_below (Nat.le_refl _) (by omega)) (fun s A B row hs hg _=>Nat.le_trans hs hg.size)))
  (fun c=>OwnFrom.and (Own.from (fun s A B row hs hg hr=>⟨hs.1,hs.2.1,cell_kept hs.2.2 hg hr⟩) _) (ownFrom_below (Nat.le_refl _) (by omega)))
  ⟨⟨⟨rfl,by simp⟩,r1,f1,r0,f0⟩,hB0,by omega⟩
  (fun x a' W=>∃Bx,w.heap.size+3≤Bx∧W.heap[Bx]?=some (.cells #[.int .i64 x.deep,.bool x.lp] 58 (0,0))∧a'={tmps:=#[.iface T0 (.pointer (some ⟨g,0,none⟩)),undef,.pointer (some ⟨w.heap.size,0,none⟩),.pointer (some ⟨w.heap.size+1,0,none⟩),.pointer (some ⟨Bx,0,none⟩),x.v,.iface T0 (.pointer (some ⟨g,0,none⟩)),.func (.func 45) #[] #[.pointer (some ⟨w.heap.size+1+1,0,none⟩)],.agg #[.int .i64 x.deep,.bool x.lp],x.v,undef,undef,undef,undef,undef,undef,undef,undef,undef,undef,undef,undef,undef,undef,undef,undef,undef,undef,undef,undef,undef,undef,undef,undef,undef],defers:=[]})
  (fun x a'=>by
   rintro _ A B row ⟨Bx,hb,hc,ha⟩ hg hr
   refine ⟨Bx,hb,(hg.block Bx (Array.getElem?_eq_some_iff.1 hc).1 (fun e=>?_)).trans hc,ha⟩
   obtain ⟨_,o,ho,hoc⟩:=hr Bx e.symm
   rw [hc] at ho
   cases ho
   cases hoc) ?assign ?body ?done ?stop
 case hg=>rfl
 case hps=>exact fun _=>rfl
 case assign =>
  rintro l pre x W K ⟨hI1,hB,hz⟩ hK
  obtain ⟨gx,_,_,_,_,_,_,ev,_⟩:=x.rep.open
  have hKK:Hid _:=hK
  clear hK
  unfold Vis.encs
  rw [ev]
  gi_wp2_with fail
  refine hKK.out _ _ ((KeepsOthers.alloc _ _).from _) (Kp.of ((Below.refl _ _).alloc (Nat.le_refl _) _) (by omega)) ⟨⟨hI1.1,cellAl _ hI1.2.1,frozAl _ hI1.2.1 hI1.2.2.1,cellAl _ hI1.2.2.2.1,frozAl _ hI1.2.2.2.1 hI1.2.2.2.2⟩,hB.alloc (by omega) _,by simp;omega⟩ ⟨W.heap.size,hz,heap_alloc_new _ _,by rw [ev]⟩
 case body =>
  rintro l pre x a' W hl hr ⟨⟨⟨hp,hlen⟩,hc1,hf1,hc0,hf0⟩,hB,hz⟩ ⟨Bx,hBx,hcx,rfl⟩ hlt
  obtain ⟨gx,ao,cap,at_,an,ca,cn,ev,hk0,hk1,N,_⟩:=x.rep.open
  obtain ⟨W',hW'⟩:∃W',W'=W.setCell ⟨w.heap.size+1,0,none⟩ (.int .i64 ((pre.length:Int)+1)):=⟨_,rfl⟩
  have bW:Below w.heap.size w W':=by rw [hW'];exact hB.setCell (p:=⟨w.heap.size+1,0,none⟩) (by simp) _
  have kW:KeepsOthers W W':=by rw [hW'];exact KeepsOthers.setCell _ _ _
  have pW:Kp w.heap.size (w.heap.size+3) W W':=by rw [hW'];exact kpSet (by omega) (by omega)
  have zW:W'.heap.size=W.heap.size:=by rw [hW'];simp
  have s1:W'.cell? ⟨w.heap.size+1,0,none⟩=some (.int .i64 ((pre.length:Int)+1)):=by rw [hW'];exact World.cell?_setCell_same' _ _ _ (by rw [hc1];rfl)
  have s1f:W'.frozen? ⟨w.heap.size+1,0,none⟩=false:=by rw [hW',World.frozen?_setCell];exact hf1
  have s0:W'.cell? ⟨w.heap.size,0,none⟩=some (.bool false):=by rw [hW',World.cell?_setCell_other _ _ _ _ (by intro e;simp only [Addr.mk.injEq] at e;omega)];exact hc0
  have s0f:W'.frozen? ⟨w.heap.size,0,none⟩=false:=by rw [hW',World.frozen?_setCell];exact hf0
  have xk:W'.heap[Bx]?=some (.cells #[.int .i64 x.deep,.bool x.lp] 58 (0,0)):=by rw [hW'];exact (Below.heap_setCell W ⟨w.heap.size+1,0,none⟩ _ Bx (fun e=>by have e2:Bx=w.heap.size+1:=e;omega)).trans hcx
  have xd:W'.cell? ⟨Bx,0,none⟩=some (.int .i64 x.deep):=by simp [World.cell?,xk]
  obtain ⟨T1,g1,f,e1,M1,HE,C1⟩:=fits_any (x.rep.kept bW) (wf_root x.rep x.wf)
  obtain ⟨d,hd⟩:∃d,d=dT x.t:=⟨_,rfl⟩
  rw [← hd] at ev hk0 hk1 N
  rw [ev] at e1
  simp only [Value.iface.injEq,Value.pointer.injEq,Option.some.injEq,Addr.mk.injEq,and_true] at e1
  obtain ⟨e1,rfl⟩:=e1
  have M2:=m_row hk0 hk1 gx
  rw [← e1] at M1
  have R:Hid (∀W2,Below w.heap.size w W2→_):=fun W2 (hW2:Below w.heap.size w W2)=>row_any gx W2 _ _ _ _ _ _ _ _ _ (N.below hW2).c0 (N.below hW2).c1 (N.below hW2).c2 (N.below hW2).c3 (N.below hW2).c4
  have F:=fun W=>fld0 d.kind d.n d.count (.slice at_ d.text.length ca) (.slice an d.names.length cn) W
  have hchk:Hid (((pre++[x]).map Vis.key).all chk=(decide (x.deep≤200)&&(fitsT x.t&&(!(d.kind==8) || x.lp)))):=by
   show _=_
   rw [List.map_append,List.all_append,hp,Bool.true_and]
   have ek:kindT x.t=d.kind:=by rw [hd];rfl
   simp only [List.map_cons,List.map_nil,List.all_cons,List.all_nil,Bool.and_true,chk,Vis.key,ek]
  have hlen2:Hid ((pre++[x]).length=pre.length+1):=by show _=_;simp
  have HB:Hid (Below w.heap.size w W'):=bW
  have HK:Hid (KeepsOthers W W'):=kW
  have HP:Hid (Kp w.heap.size (w.heap.size+3) W W'):=pW
  have HZ:Hid (w.heap.size+3≤W.heap.size∧W'.heap.size=W.heap.size):=⟨hz,zW⟩
  have HXK:Hid (W'.heap[Bx]?=some (.cells #[.int .i64 x.deep,.bool x.lp] 58 (0,0))):=xk
  have HM1:=M1
  unfold MethodIs at HM1
  simp only [ev]
  clear bW kW pW zW hp hB N hcx M1 hr e1
  have xl:W'.cell? ⟨Bx,1,none⟩=some (.bool x.lp):=by simp [World.cell?,xk]
  have s1':=s1
  have s0':=s0
  have s0f':=s0f
  have xd':=xd
  rw [hW'] at s1' s0' s0f' xd'
  have stop:Hid (∀w2,Below W'.heap.size W' w2→(((pre++[x]).map Vis.key).all chk=false∨6000<pre.length+1)→ownPostG WL.heap.size (Kp w.heap.size (w.heap.size+3)) (fun pre W=>(((pre.map Vis.key).all chk=true∧pre.length≤6000)∧W.cell? ⟨w.heap.size+1,0,none⟩=some (.int .i64 pre.length)∧W.frozen? ⟨w.heap.size+1,0,none⟩=false∧W.cell? ⟨w.heap.size,0,none⟩=some (.bool false)∧W.frozen? ⟨w.heap.size,0,none⟩=false)∧Below w.heap.size w W∧w.heap.size+3≤W.heap.size) (fun c pre W=>(c=.ret∧¬((pre.map Vis.key).all chk=true∧pre.length≤6000)∧W.cell? ⟨w.heap.size,0,none⟩=some (.bool false))∧Below w.heap.size w W) (pre++[x]) W .ret {tmps:=#[],defers:=[]} (w2.setCell ⟨w.heap.size,0,none⟩ (.bool false))):=by
   intro w2 h2 hbad
   have q0:w2.cell? ⟨w.heap.size,0,none⟩=some (.bool false):=(h2.cell (p:=⟨w.heap.size,0,none⟩) (World.block_lt_of_cell? _ _ s0)).trans s0
   refine ⟨((HK.out.from _).trans (keeps_below h2)).trans ((KeepsOthers.setCell _ _ _).from _),⟨rfl,?_,World.cell?_setCell_same' _ _ _ (by rw [q0];rfl)⟩,(HB.out.trans (h2.mono HB.out.size)).setCell (p:=⟨w.heap.size,0,none⟩) (by simp) _⟩
   rintro ⟨g1,g2⟩
   rcases hbad with h|h
   ·rw [h] at g1;cases g1
   ·rw [hlen2.out] at g2;omega
  have goes:Hid (∀w2,Below W'.heap.size W' w2→((pre++[x]).map Vis.key).all chk=true→¬6000<pre.length+1→ownPostG WL.heap.size (Kp w.heap.size (w.heap.size+3)) (fun pre W=>(((pre.map Vis.key).all chk=true∧pre.length≤6000)∧W.cell? ⟨w.heap.size+1,0,none⟩=some (.int .i64 pre.length)∧W.frozen? ⟨w.heap.size+1,0,none⟩=false∧W.cell? ⟨w.heap.size,0,none⟩=some (.bool false)∧W.frozen? ⟨w.heap.size,0,none⟩=false)∧Below w.heap.size w W∧w.heap.size+3≤W.heap.size) (fun c pre W=>(c=.ret∧¬((pre.map Vis.key).all chk=true∧pre.length≤6000)∧W.cell? ⟨w.heap.size,0,none⟩=some (.bool false))∧Below w.heap.size w W) (pre++[x]) W .normal {tmps:=#[],defers:=[]} w2):=by
   intro w2 h2 hok hle
   have hh1:=h2.block (w.heap.size+1) (World.block_lt_of_cell? _ _ s1)
   have hh0:=h2.block w.heap.size (World.block_lt_of_cell? _ _ s0)
   have hzz:=HZ.out
   have hs2:=h2.size
   refine ⟨(HK.out.from _).trans (keeps_below h2),HP.out.trans (Kp.of h2 (by omega)),⟨⟨hok,by rw [hlen2.out];omega⟩,?_,?_,?_,?_⟩,HB.out.trans (h2.mono HB.out.size),by omega⟩
   ·rw [hlen2.out,World.cell?_of_block (a:=⟨w.heap.size+1,0,none⟩) hh1];exact s1
   ·rw [World.frozen?_of_block (a:=⟨w.heap.size+1,0,none⟩) hh1];exact s1f
   ·rw [World.cell?_of_block (a:=⟨w.heap.size,0,none⟩) hh0];exact s0
   ·rw [World.frozen?_of_block (a:=⟨w.heap.size,0,none⟩) hh0];exact s0f
  have after:Hid (∀w2,Below W'.heap.size W' w2→w2.cell? ⟨w.heap.size,0,none⟩=some (.bool false)∧w2.frozen? ⟨w.heap.size,0,none⟩=false∧w2.cell? ⟨Bx,1,none⟩=some (.bool x.lp)):=by
   intro w2 h2
   have hh0:=h2.block w.heap.size (World.block_lt_of_cell? _ _ s0)
   refine ⟨?_,?_,?_⟩
   ·rw [World.cell?_of_block (a:=⟨w.heap.size,0,none⟩) hh0];exact s0
   ·rw [World.frozen?_of_block (a:=⟨w.heap.size,0,none⟩) hh0];exact s0f
   ·exact (h2.cell (p:=⟨Bx,1,none⟩) (World.block_lt_of_cell? _ _ xl)).trans xl
  generalize fitsT x.t=ft at C1 hchk
  generalize ty d.kind=TT at HM1 M2
  generalize d.kind=kd at *
  generalize d.n=nn at *
  generalize d.count=ct at *
  generalize d.text.length=pp at *
  generalize d.names.length=qq at *
  clear xk HXK hd ev hk0 hk1 s1 s0 s0f xd s1f xl
  by_cases hA:6000<pre.length+1
  ·have dA:decide ((6000:Int)<(pre.length:Int)+1)=true:=by simp;omega
   gi_wp2_with fail
   all_goals
    refine ⟨fun _ _=>trivial,?_⟩
    gi_wp2_with fail
    rw [← hW']
    exact stop.out W' (Below.refl _ _) (.inr hA)
  have dA:decide ((6000:Int)<(pre.length:Int)+1)=false:=by simp;omega
  by_cases hD:200<x.deep
  ·have dD:decide ((200:Int)<(x.deep:Int))=true:=by simp;omega
   have hbad:Hid (((pre++[x]).map Vis.key).all chk=false):=by show _=_;rw [hchk.out,decide_eq_false (show ¬x.deep≤200 by omega)];rfl
   gi_wp2_with fail
   all_goals
    refine ⟨fun _ _=>trivial,?_⟩
    gi_wp2_with fail
    rw [← hW']
    exact stop.out W' (Below.refl _ _) (.inl hbad.out)
  have dD:decide ((200:Int)<(x.deep:Int))=false:=by simp;omega
  have hd2:x.deep≤200:=by omega
  gi_wp2_with fail
  rw [← hW']
  refine ⟨trivial,fun h=>(by cases h),(CallsIn.inRound l (callsIn_wide.2 C1)).mono ?_⟩
  rintro e w2 ⟨rfl,hb2⟩
  have HB2:Hid (Below W'.heap.size W' w2):=hb2
  obtain ⟨t0,t0f,tl⟩:=after.out w2 hb2
  clear hb2 C1
  cases ft with
  |false =>
   have hbad:Hid (((pre++[x]).map Vis.key).all chk=false):=by show _=_;rw [hchk.out];simp
   gi_wp2_with fail
   exact stop.out w2 HB2.out (.inl hbad.out)
  |true =>
   have R2:=R.out w2 (HB.out.trans (HB2.out.mono HB.out.size))
   gi_wp2_with fail
   refine ⟨trivial,fun h=>(by cases h),(CallsIn.inRound l (callsIn_wide.2 R2)).mono ?_⟩
   rintro e w3 ⟨rfl,hb3⟩
   have HB3:Hid (Below W'.heap.size W' w3):=HB2.out.trans (hb3.mono HB2.out.size)
   clear t0 t0f tl R2 hb3
   obtain ⟨t0,t0f,tl⟩:=after.out w3 HB3.out
   by_cases k8:kd=8
   ·subst k8
    generalize hlp:x.lp=lpb at tl
    cases lpb with
    |false =>
     have hbad:Hid (((pre++[x]).map Vis.key).all chk=false):=by show _=_;rw [hchk.out,hlp];simp
     gi_wp2_with fail
     exact stop.out w3 HB3.out (.inl hbad.out)
    |true =>
     have hok:Hid (((pre++[x]).map Vis.key).all chk=true):=by show _=_;rw [hchk.out,hlp,decide_eq_true hd2];rfl
     gi_wp2_with fail
     exact goes.out w3 HB3.out hok.out hA
   ·have o8:(kd==8)=false:=by simp;exact k8
    have hok:Hid (((pre++[x]).map Vis.key).all chk=true):=by show _=_;rw [hchk.out,o8,decide_eq_true hd2];rfl
    gi_wp2_with fail
    exact goes.out w3 HB3.out hok.out hA
 case done =>
  rintro D ys W hD hys ⟨⟨⟨hp,hlen⟩,_,_,hc0,hf0⟩,hB,hz⟩ hK
  have hres:isV T=(kindT T==0):=by
   unfold isV
   have hl:=pre_len T 1 false
   rw [← hys,List.length_map] at hl
   rw [ok_pre,← hys,hp,decide_eq_true (by omega),Bool.true_and,Bool.true_and]
  have C:=takes_any 0 (by omega) (hrep.kept hB)
  have ht0:takes 0 (kindT T)=(kindT T==0):=rfl
  rw [ht0] at C
  have HR:Hid (isV T=(kindT T==0)):=hres
  have HB:Hid (Below w.heap.size w W):=hB
  generalize (kindT T==0)=tk at C HR
  clear hres ht0 hp hlen hys hB
  have C2:Calls Tryz.prog 44 #[.int .i64 0,.iface T0 (.pointer (some ⟨g,0,none⟩))] W fun e w'=>e=.returned (.bool tk)∧Below W.heap.size W w':=C
  clear C
  gi_wp2_with fail
  refine ⟨trivial,(callsIn_wide.2 C2).mono ?_⟩
  rintro e W2 ⟨rfl,hb2⟩
  have q0:W2.cell? ⟨w.heap.size,0,none⟩=some (.bool false):=(hb2.cell (p:=⟨w.heap.size,0,none⟩) (World.block_lt_of_cell? _ _ hc0)).trans hc0
  have q0f:W2.frozen? ⟨w.heap.size,0,none⟩=false:=by rw [World.frozen?_of_block (a:=⟨w.heap.size,0,none⟩) (hb2.block w.heap.size (World.block_lt_of_cell? _ _ hc0))];exact hf0
  have hK2:W2.heap[D]?=some (.deferred (some [])):=(hb2.block D (Array.getElem?_eq_some_iff.1 hK).1).trans hK
  have HB2:Hid (Below w.heap.size w W2):=HB.out.trans (hb2.mono HB.out.size)
  clear hb2 C2 hc0 hf0 hK
  gi_wp2_with fail
  have hK':=(KeepsOthers.setCell W2 ⟨w.heap.size,0,none⟩ (.bool tk)).same D _ hK2 rfl
  refine ⟨by simp,.inl ⟨_,_,rfl,run_takeDeferred hK',?_⟩⟩
  have hc5:=cell_kept (World.cell?_setCell_same' W2 ⟨w.heap.size,0,none⟩ (.bool tk) (by rw [q0];rfl)) (grownBy_putObj' _ D (.deferred none)) (fun r e=>by cases e;exact ⟨_,hK',rfl⟩)
  refine ⟨.bool tk,?_,by rw [HR.out],(HB2.out.setCell (p:=⟨w.heap.size,0,none⟩) (by simp) _).trans (belowK_b (w:=w) (Nat.le_refl _) _ D _ _ (by omega) hK' rfl rfl)⟩
  simp [results,Tryz.results20,go_sem,hc5]
 case stop =>
  rintro D c pre W hD ⟨xs,hx,hq⟩ ⟨⟨rfl,hbad,hc0⟩,hB⟩ hK
  have hres:isV T=false:=bad_pre hx hq hbad
  gi_wp2_with fail
  refine ⟨by simp,.inl ⟨_,_,rfl,run_takeDeferred hK,?_⟩⟩
  have hc5:=cell_kept hc0 (grownBy_putObj' _ D (.deferred none)) (fun r e=>by cases e;exact ⟨_,hK,rfl⟩)
  refine ⟨.bool false,?_,by rw [hres],hB.trans (belowK_b (w:=w) (Nat.le_refl _) W D _ _ (by omega) hK rfl rfl)⟩
  simp [results,Tryz.results20,go_sem,hc5]
end vt
end Go.Proofs.YtkmiagkehcflnaaGreatDoor
