import Derived.Deep.Slices
import Derived.OpenShut
import Derived.Deep.RegionHeld3
import Derived.Deep.AppendLies
import Derived.Test.YtkmiagkehcflnaaGreatDoorMIpTab
set_option maxRecDepth 100000
set_option maxHeartbeats 8000000
namespace Go.Proofs.YtkmiagkehcflnaaGreatDoor
namespace nod
open Go.RowKit bts Go.ChangeShapes Go.Deep
structure Nd where
 kind:Int
 n:Int
 text:List Int
 names:List (List Int)
 count:Int
def nd0:Nd:=⟨0,0,[],[],0⟩
def RdV (w:World) (v:Value) (zs:List Int):Prop:=∃ao cap,v=.slice ao zs.length cap∧zs.length≤9223372036854775807∧Rd w ao zs∧Bts zs
def RdVV (w:World) (v:Value) (l:List (List Int)):Prop :=
 ∃ao cap,v=.slice ao l.length cap∧l.length≤9223372036854775807∧∀i,i<l.length→∃b off u,ao=some ⟨b,off,none⟩∧w.cell? ⟨b,off+i,none⟩=some u∧RdV w u (l.getD i [])
def RdN (w:World) (ao:Option Addr) (l:List Nd):Prop :=
 ∀i,i<l.length→∃b off ut un,ao=some ⟨b,off,none⟩∧w.cell? ⟨b,off+i*5,none⟩=some (.int .i64 (l.getD i nd0).kind)∧w.cell? ⟨b,off+i*5+1,none⟩=some (.int .i64 (l.getD i nd0).n) ∧
  w.cell? ⟨b,off+i*5+2,none⟩=some ut∧w.cell? ⟨b,off+i*5+3,none⟩=some un∧w.cell? ⟨b,off+i*5+4,none⟩=some (.int .i64 (l.getD i nd0).count)∧RdV w ut (l.getD i nd0).text∧RdVV w un (l.getD i nd0).names
theorem RdV.below {w w':World} {v:Value} {zs:List Int} (h:RdV w v zs) (hb:Below w.heap.size w w'):RdV w' v zs:=by
 obtain ⟨ao,cap,e,hm,hr,hz⟩:=h
 exact ⟨ao,cap,e,hm,hr.below hb,hz⟩
theorem RdVV.below {w w':World} {v:Value} {l:List (List Int)} (h:RdVV w v l) (hb:Below w.heap.size w w'):RdVV w' v l:=by
 obtain ⟨ao,cap,e,hm,h⟩:=h
 refine ⟨ao,cap,e,hm,fun i hi=>?_⟩
 obtain ⟨b,off,u,e,hc,hr⟩:=h i hi
 exact ⟨b,off,u,e,(hb.cell (p:=⟨b,off+i,none⟩) (World.block_lt_of_cell? _ _ hc)).trans hc,hr.below hb⟩
theorem RdN.below {w w':World} {ao:Option Addr} {l:List Nd} (h:RdN w ao l) (hb:Below w.heap.size w w'):RdN w' ao l:=by
 intro i hi
 obtain ⟨b,off,ut,un,e,c0,c1,c2,c3,c4,ht,hn⟩:=h i hi
 have hlt:=World.block_lt_of_cell? _ _ c0
 exact ⟨b,off,ut,un,e,(hb.cell (p:=⟨b,off+i*5,none⟩) hlt).trans c0,(hb.cell (p:=⟨b,off+i*5+1,none⟩) hlt).trans c1,(hb.cell (p:=⟨b,off+i*5+2,none⟩) hlt).trans c2,(hb.cell (p:=⟨b,off+i*5+3,none⟩) hlt).trans c3,(hb.cell (p:=⟨b,off+i*5+4,none⟩) hlt).trans c4,ht.below hb,hn.below hb⟩
theorem plainAt {b off:Nat} {i:Nat}:(⟨b,off,none⟩:Addr).add i=⟨b,off+i,none⟩:=by
 unfold Addr.add;split
 ·rename_i h;rw [h,Nat.add_zero]
 ·rfl
section
variable {H:Type} {enc:TypeId×Value→H} {W:World} {held:Bool}
end
end nod
namespace nod
open Go.RowKit bts
theorem ret_i {a b:Int} (h:a=b):Ending.returned (.int .i64 a)=.returned (.int .i64 b):=by rw [h]
def lens (l:List (List Int)) (k:Nat):Nat:=((l.take k).map List.length).sum
theorem lens_succ {l:List (List Int)} {k:Nat} (h:k<l.length):lens l (k+1)=lens l k+(l.getD k []).length:=by
 unfold lens
 rw [List.take_succ_eq_append_getElem h,List.map_append,List.sum_append]
 simp [List.getD_eq_getElem?_getD,List.getElem?_eq_getElem h]
theorem lens_le (l:List (List Int)):∀(j k:Nat),k+j=l.length→lens l k≤lens l l.length
 |0,k,h=>by rw [show k=l.length by omega];exact Nat.le_refl _
 |j+1,k,h=>by
  have:=lens_le l j (k+1) (by omega)
  rw [lens_succ (by omega)] at this
  omega
def sizeSS (l:List (List Int)):Nat:=l.length+lens l l.length
def OwS (w:World) (B:Nat) (v:Value) (zs:List Int):Prop:=∃g,v=.slice (some ⟨g,0,none⟩) zs.length zs.length∧w.ownsRow B 5 1 (.slice (some ⟨g,0,none⟩) zs.length zs.length) zs.length (bcells zs)
theorem OwS.below {w w':World} {B X:Nat} {v:Value} {zs:List Int} (h:OwS w B v zs) (hb:Below X w w') (hX:w.heap.size≤X):OwS w' B v zs:=by
 obtain ⟨g,e,ho⟩:=h
 exact ⟨g,e,own_below ho hb (Nat.lt_of_lt_of_le (ho.lt g rfl).2 hX)⟩
theorem OwS.rd {w:World} {B:Nat} {v:Value} {zs:List Int} (h:OwS w B v zs) (hz:Bts zs) (hm:zs.length≤9223372036854775807):RdV w v zs:=by
 obtain ⟨g,e,ho⟩:=h
 exact ⟨_,_,e,hm,Rd.own ho,hz⟩
def OwSS (w:World) (B:Nat) (v:Value) (l:List (List Int)):Prop :=
 ∃(g:Nat) (us:List Value),v=.slice (some ⟨g,0,none⟩) l.length l.length∧w.ownsRow B 22 1 (.slice (some ⟨g,0,none⟩) l.length l.length) l.length us ∧
  ∀i,i<l.length→∃u,us[i]?=some u∧OwS w (g+1) u (l.getD i [])
theorem OwSS.below {w w':World} {B X:Nat} {v:Value} {l:List (List Int)} (h:OwSS w B v l) (hb:Below X w w') (hX:w.heap.size≤X):OwSS w' B v l:=by
 obtain ⟨g,us,e,ho,h⟩:=h
 refine ⟨g,us,e,own_below ho hb (Nat.lt_of_lt_of_le (ho.lt g rfl).2 hX),fun i hi=>?_⟩
 obtain ⟨u,hu,hs⟩:=h i hi
 exact ⟨u,hu,hs.below hb hX⟩
theorem OwSS.rd {w:World} {B:Nat} {v:Value} {l:List (List Int)} (h:OwSS w B v l) (hz:∀i,i<l.length→Bts (l.getD i [])∧(l.getD i []).length≤9223372036854775807) (hm:l.length≤9223372036854775807):RdVV w v l:=by
 obtain ⟨g,us,e,ho,h⟩:=h
 refine ⟨_,_,e,hm,fun i hi=>?_⟩
 obtain ⟨u,hu,hs⟩:=h i hi
 refine ⟨g,0,u,rfl,?_,hs.rd (hz i hi).1 (hz i hi).2⟩
 rw [Nat.zero_add,ho.cellAt i (by omega),hu]
def Lone (w:World) (g:Nat) (xs:List Value):Prop:=w.ownsRow 0 61 5 (.slice (some ⟨g,0,none⟩) 1 1) 1 xs
theorem Lone.of {w:World} {g:Nat} {a b c d e:Value} (h:w.heap[g]?=some (.cells #[a,b,c,d,e] 61 (0,0))):Lone w g [a,b,c,d,e] :=
 ⟨rfl,.inr ⟨g,1,_,rfl,Nat.zero_le _,h,by omega,by unfold maxLen;omega,rfl,rfl⟩⟩
theorem Lone.below {w w':World} {B g:Nat} {xs:List Value} (h:Lone w g xs) (hb:Below B w w') (hg:g<B):Lone w' g xs:=own_below h hb hg
theorem Lone.set {w:World} {g:Nat} {xs:List Value} (h:Lone w g xs) (j:Nat) (u:Value):Lone (w.setCell ⟨g,j,none⟩ u) g (xs.set j u):=(World.ownsRow.stored h j u).1
theorem Lone.at {w:World} {g j:Nat} {xs:List Value} (h:Lone w g xs) (hj:j<5):w.cell? ⟨g,j,none⟩=xs[j]?:=World.ownsRow.cellAt h j (by omega)
theorem Lone.free {w:World} {g:Nat} {xs:List Value} (h:Lone w g xs) (j:Nat):w.frozen? ⟨g,j,none⟩=false:=World.ownsRow.frozenAt h j
theorem Lone.other {w:World} {g b o:Nat} {u:Value} {xs:List Value} (h:Lone w g xs) (hb:¬b=g):Lone (w.setCell ⟨b,o,none⟩ u) g xs:=by
 obtain ⟨h1,h2⟩:=h
 refine ⟨h1,?_⟩
 rcases h2 with h|⟨g',c,cur,e',hb',hh,r⟩
 ·exact .inl h
 ·have e:g'=g:=by simp at e';exact e'.1.symm
  subst e
  exact .inr ⟨g',c,cur,e',hb',(Below.heap_setCell w ⟨b,o,none⟩ u g' (fun e=>hb e.symm)).trans hh,r⟩
theorem Lone.back {w:World} {g:Nat} {a b c d e:Value} (h:Lone w g [a,b,c,d,e]):w.heap[g]?=some (.cells #[a,b,c,d,e] 61 (0,0)):=by
 rcases h.2 with ⟨h,_⟩|⟨g',cap,cur,e',_,hh,_,_,hs,ht⟩
 ·simp at h
 ·simp only [Value.slice.injEq,Option.some.injEq,Addr.mk.injEq,and_true] at e'
  obtain ⟨rfl,_,rfl⟩:=e'
  have hc:cur=#[a,b,c,d,e]:=by
   apply Array.toList_inj.mp
   rw [List.take_of_length_le (by rw [Array.length_toList];omega)] at ht
   exact ht
  rw [hh,hc]
theorem info_node:(Tryz.prog.info? 61).map (fun i=>(i.zero,i.size,i.bytes))=some (some (.agg #[.int .i64 0,.int .i64 0,.slice none 0 0,.slice none 0 0,.int .i64 0]),5,72):=by kernel_rfl
def NdAt (w:World) (B:Nat) (us:List Value) (j:Nat) (d:Nd):Prop :=
 ∃ut un,us[j*5]?=some (.int .i64 d.kind)∧us[j*5+1]?=some (.int .i64 d.n)∧us[j*5+2]?=some ut∧us[j*5+3]?=some un∧us[j*5+4]?=some (.int .i64 d.count)∧OwS w B ut d.text∧OwSS w B un d.names
theorem NdAt.below {w w':World} {B X j:Nat} {us:List Value} {d:Nd} (h:NdAt w B us j d) (hb:Below X w w') (hX:w.heap.size≤X):NdAt w' B us j d:=by
 obtain ⟨ut,un,h0,h1,h2,h3,h4,ht,hn⟩:=h
 exact ⟨ut,un,h0,h1,h2,h3,h4,ht.below hb hX,hn.below hb hX⟩
theorem NdAt.other {w:World} {B j k i:Nat} {u:Value} {us:List Value} {d:Nd} (h:NdAt w B us j d) (hk:¬k=j) (hi:i<5):NdAt w B (us.set (k*5+i) u) j d:=by
 obtain ⟨ut,un,h0,h1,h2,h3,h4,ht,hn⟩:=h
 refine ⟨ut,un,?_,?_,?_,?_,?_,ht,hn⟩
 all_goals rw [List.getElem?_set_ne (by omega)];assumption
def OwN (w:World) (B:Nat) (v:Value) (l:List Nd):Prop :=
 ∃(g:Nat) (us:List Value),v=.slice (some ⟨g,0,none⟩) l.length l.length∧w.ownsRow B 61 5 (.slice (some ⟨g,0,none⟩) l.length l.length) l.length us∧∀j,j<l.length→NdAt w (g+1) us j (l.getD j nd0)
def NdOk (d:Nd):Prop:=(Bts d.text∧d.text.length≤9223372036854775807)∧d.names.length≤9223372036854775807∧∀i,i<d.names.length→Bts (d.names.getD i [])∧(d.names.getD i []).length≤9223372036854775807
theorem RdV.ok {w:World} {v:Value} {zs:List Int} (h:RdV w v zs):Bts zs∧zs.length≤9223372036854775807:=by
 obtain ⟨_,_,_,h1,_,h2⟩:=h;exact ⟨h2,h1⟩
theorem RdVV.ok {w:World} {v:Value} {l:List (List Int)} (h:RdVV w v l):l.length≤9223372036854775807∧∀i,i<l.length→Bts (l.getD i [])∧(l.getD i []).length≤9223372036854775807:=by
 obtain ⟨_,_,_,h1,h⟩:=h
 refine ⟨h1,fun i hi=>?_⟩
 obtain ⟨_,_,_,_,_,hr⟩:=h i hi
 exact hr.ok
theorem RdN.ok {w:World} {ao:Option Addr} {l:List Nd} (h:RdN w ao l):∀i,i<l.length→NdOk (l.getD i nd0):=by
 intro i hi
 obtain ⟨_,_,_,_,_,_,_,_,_,_,ht,hn⟩:=h i hi
 exact ⟨ht.ok,hn.ok⟩
theorem OwN.rd {w:World} {B:Nat} {g n:Nat} {l:List Nd} (h:OwN w B (.slice (some ⟨g,0,none⟩) n n) l) (hok:∀i,i<l.length→NdOk (l.getD i nd0)):RdN w (some ⟨g,0,none⟩) l:=by
 obtain ⟨g',us,e,ho,hx⟩:=h
 simp only [Value.slice.injEq,Option.some.injEq,Addr.mk.injEq,and_true] at e
 obtain ⟨rfl,_,_⟩:=e
 intro i hi
 obtain ⟨ut,un,h0,h1,h2,h3,h4,ht,hn⟩:=hx i hi
 have ok:=hok i hi
 refine ⟨g,0,ut,un,rfl,?_,?_,?_,?_,?_,ht.rd ok.1.1 ok.1.2,hn.rd ok.2.2 ok.2.1⟩
 ·rw [Nat.zero_add,ho.cellAt _ (by omega),h0]
 ·rw [Nat.zero_add,ho.cellAt _ (by omega),h1]
 ·rw [Nat.zero_add,ho.cellAt _ (by omega),h2]
 ·rw [Nat.zero_add,ho.cellAt _ (by omega),h3]
 ·rw [Nat.zero_add,ho.cellAt _ (by omega),h4]
theorem OwN.below {w w':World} {B X:Nat} {v:Value} {l:List Nd} (h:OwN w B v l) (hb:Below X w w') (hX:w.heap.size≤X):OwN w' B v l:=by
 obtain ⟨g,us,e,ho,h⟩:=h
 exact ⟨g,us,e,own_below ho hb (Nat.lt_of_lt_of_le (ho.lt g rfl).2 hX),fun i hi=>(h i hi).below hb hX⟩
theorem bel_drewN {B:Nat} {a w:World} (h:Below B a w) (m:Nat):Below B a (w.drewN m):=h.trans ⟨rfl,rfl,rfl,Nat.le_refl _,fun _ _=>rfl⟩
theorem eqByteSS_same (v v':Value) (l:List (List Int)) (w:World) (hr:RdVV w v l) (hr':RdVV w v' l) (hs:sizeSS l≤1048576) :
  Calls Tryz.prog 47 #[v,v'] w fun e w'=>e=.returned (.bool true)∧∃d,w'=w.drewN d:=by
 have HS:Hid (∀i,i<l.length→(l.getD i []).length≤1048576):=by
  intro i hi
  have h1:=lens_succ hi
  have h2:=lens_le l (l.length-(i+1)) (i+1) (by omega)
  unfold sizeSS at hs
  omega
 have HR:Hid (RdVV w v l):=hr
 have HR':Hid (RdVV w v' l):=hr'
 obtain ⟨ao,cap,rfl,_,_⟩:=hr
 obtain ⟨ao',cap',rfl,_,_⟩:=hr'
 have hn1:l.length≤1048576:=by unfold sizeSS at hs;omega
 obtain ⟨n,hnn⟩:∃n,n=l.length:=⟨_,rfl⟩
 have HL:Hid (l.length=n):=hnn.symm
 rw [← hnn] at hn1 ⊢
 clear hnn hs
 go_enter Tryz.func47,Tryz.ntmps47
 go_wp2
 go_loopw [5] (fun i wr=>∃(k d:Nat),k≤n∧i=.int .i64 k∧wr=w.drewN d) (fun i _=>n-(intOf i).toNat)
 case atStart=>exact ⟨0,0,Nat.zero_le _,rfl,rfl⟩
 case round =>
  obtain ⟨k,d0,hk,rfl,hwr⟩:=hrel
  have hb:Below w.heap.size w wr:=by rw [hwr];exact bel_drewN (Below.refl _ _) _
  have HW:Hid (wr=w.drewN d0):=hwr
  clear hwr
  by_cases hlt:k<n
  ·obtain ⟨_,_,e1,_,h1⟩:=HR.out.below hb
   obtain ⟨_,_,e2,_,h2⟩:=HR'.out.below hb
   simp only [Value.slice.injEq] at e1 e2
   obtain ⟨rfl,_,rfl⟩:=e1
   obtain ⟨rfl,_,rfl⟩:=e2
   obtain ⟨b,off,u,rfl,hc,a1,c1,rfl,_,hrd,_⟩:=h1 k (by rw [HL.out];exact hlt)
   obtain ⟨b',off',u',rfl,hc',a2,c2,rfl,_,hrd',_⟩:=h2 k (by rw [HL.out];exact hlt)
   have hsz:=HS.out k (by rw [HL.out];exact hlt)
   obtain ⟨m,hmm⟩:∃m,m=(l.getD k []).length:=⟨_,rfl⟩
   have C:Hid (∀W,Below wr.heap.size wr W→Calls Tryz.prog 8 #[.slice a1 m c1,.slice a2 m c2] W fun e w'=>e=.returned (.bool true)∧∃d,w'=W.drewN d):=by
    intro W hW
    have:=eqByteS_same a1 a2 c1 c2 (l.getD k []) W (hrd.below hW) (hrd'.below hW) (by omega)
    rw [← hmm] at this
    exact this
   rw [← hmm] at hc hc'
   have hlt':(k:Int)<(n:Int):=by omega
   clear h1 h2 hmm hsz hrd hrd' hb
   go_wp2_with fail
   go_region_held3 (fun w'=>w'.cell? ⟨b,off+k,none⟩=some (.slice a1 m c1)∧w'.cell? ⟨b',off'+k,none⟩=some (.slice a2 m c2)∧Below wr.heap.size wr w') (refine ⟨by simp [*],by simp [*],by repeat (first|exact Below.refl _ _|assumption|refine Below.drew ?_|refine bel_drewN ?_ _)⟩)
    ((go_at_call 8;refine (C.out _ (by repeat (first|exact Below.refl _ _|assumption|refine Below.drew ?_|refine bel_drewN ?_ _))).mono ?_;rintro e w' ⟨rfl,d,rfl⟩))
   go_wp2
   go_roundw
   case rel=>exact ⟨k+1,d0+(1+d),by omega,by go_num,by rw [HW.out];simp⟩
   case measure=>simp [intOf];omega
  ·have hkn:k=n:=by omega
   subst hkn
   go_wp2
   go_ret
   exact ⟨rfl,d0,HW.out⟩
theorem eqNode_same (k n c:Int) (ut un ut' un':Value) (t:List Int) (ns:List (List Int)) (w:World) (ht:RdV w ut t) (hn:RdVV w un ns) (ht':RdV w ut' t) (hn':RdVV w un' ns) (hs:t.length+sizeSS ns≤1048576) :
  Calls Tryz.prog 22 #[.agg #[.int .i64 k,.int .i64 n,ut,un,.int .i64 c],.agg #[.int .i64 k,.int .i64 n,ut',un',.int .i64 c]] w fun e w'=>e=.returned (.bool true)∧∃o o' d,w'=((w.alloc o).alloc o').drewN d:=by
 obtain ⟨ao,cap,rfl,_,hr,_⟩:=ht
 obtain ⟨ao',cap',rfl,_,hr',_⟩:=ht'
 have CT:Hid (∀W,Below w.heap.size w W→Calls Tryz.prog 8 #[.slice ao t.length cap,.slice ao' t.length cap'] W fun e w'=>e=.returned (.bool true)∧∃d,w'=W.drewN d) :=
  fun W hW=>eqByteS_same ao ao' cap cap' t W (hr.below hW) (hr'.below hW) (by omega)
 have CN:Hid (∀W,Below w.heap.size w W→Calls Tryz.prog 47 #[un,un'] W fun e w'=>e=.returned (.bool true)∧∃d,w'=W.drewN d) :=
  fun W hW=>eqByteSS_same un un' ns W (hn.below hW) (hn'.below hW) (by omega)
 clear hr hr' hn hn' hs
 go_enter Tryz.func22,Tryz.ntmps22
 go_wp2_with fail
 refine (CT.out _ (((Below.refl _ _).alloc (Nat.le_refl _) _).alloc (by simp only [World.size_alloc];omega) _)).mono ?_
 rintro e w1 ⟨rfl,d,rfl⟩
 go_wp2_with fail
 refine (CN.out _ (bel_drewN (((Below.refl _ _).alloc (Nat.le_refl _) _).alloc (by simp only [World.size_alloc];omega) _) _)).mono ?_
 rintro e w1 ⟨rfl,d',rfl⟩
 go_wp2
 go_ret
 exact ⟨rfl,_,_,_,rfl⟩
end nod
namespace vt
open Go.RowKit bts nod
def cnt (l:List Nd) (i:Nat):Int:=(l.getD i nd0).count
def loopN (f:Nat→Option Nat):Nat→Nat→Option Nat
 |0,p=>some p
 |c+1,p=>match f p with
  |none=>none
  |some m=>loopN f c m
def endAt (l:List Nd):Nat→Nat→Option Nat
 |0,_=>none
 |d+1,i=>if i<l.length∧0≤cnt l i∧cnt l i≤(l.length:Int) then loopN (endAt l d) (cnt l i).toNat (i+1) else none
theorem loopN_none {f:Nat→Option Nat} {c p:Nat} (h:f p=none):loopN f (c+1) p=none:=by rw [loopN,h]
theorem loopN_some {f:Nat→Option Nat} {c p m:Nat} (h:f p=some m):loopN f (c+1) p=loopN f c m:=by rw [loopN,h]
theorem loopN_mono {f g:Nat→Option Nat} (h:∀i e,f i=some e→g i=some e):∀{c p e:Nat},loopN f c p=some e→loopN g c p=some e:=by
 intro c
 induction c with
 |zero=>intro p e h1;exact h1
 |succ c ih =>
  intro p e h1
  cases hf:f p with
  |none=>rw [loopN_none hf] at h1;cases h1
  |some m=>rw [loopN_some hf] at h1;rw [loopN_some (h _ _ hf)];exact ih h1
theorem endAt_step {l:List Nd} {d i e:Nat} (h:endAt l (d+1) i=some e):(i<l.length∧0≤cnt l i∧cnt l i≤(l.length:Int))∧loopN (endAt l d) (cnt l i).toNat (i+1)=some e:=by
 rw [endAt] at h
 split at h
 ·rename_i hc;exact ⟨hc,h⟩
 ·cases h
theorem endAt_pos {l:List Nd} {d i e:Nat} (h:endAt l d i=some e):∃d',d=d'+1:=by
 cases d with
 |zero=>cases h
 |succ d=>exact ⟨d,rfl⟩
theorem endAt_mono1 (l:List Nd):∀(d i e:Nat),endAt l d i=some e→endAt l (d+1) i=some e:=by
 intro d
 induction d with
 |zero=>intro i e h;cases h
 |succ d ih =>
  intro i e h
  obtain ⟨hc,hl⟩:=endAt_step h
  rw [endAt,if_pos hc]
  exact loopN_mono ih hl
theorem endAt_mono {l:List Nd} {d i e:Nat} (h:endAt l d i=some e):∀k,endAt l (d+k) i=some e
 |0=>h
 |k+1=>endAt_mono1 l (d+k) i e (endAt_mono h k)
theorem endAt_le {l:List Nd} {d d' i e:Nat} (h:endAt l d i=some e) (hd:d≤d'):endAt l d' i=some e:=by
 have:=endAt_mono h (d'-d)
 rwa [show d+(d'-d)=d' by omega] at this
theorem loopN_bd {l:List Nd} {f:Nat→Option Nat} (h:∀i e,f i=some e→i<e∧e≤l.length):∀{c p e:Nat},p≤l.length→loopN f c p=some e→p+c≤e∧e≤l.length:=by
 intro c
 induction c with
 |zero=>intro p e hp h1;rw [loopN] at h1;simp only [Option.some.injEq] at h1;omega
 |succ c ih =>
  intro p e hp h1
  cases hf:f p with
  |none=>rw [loopN_none hf] at h1;cases h1
  |some m =>
   rw [loopN_some hf] at h1
   have a:=h _ _ hf
   have b:=ih a.2 h1
   omega
theorem endAt_bd {l:List Nd}:∀{d i e:Nat},endAt l d i=some e→i<e∧e≤l.length:=by
 intro d
 induction d with
 |zero=>intro i e h;cases h
 |succ d ih =>
  intro i e h
  obtain ⟨hc,hl⟩:=endAt_step h
  have:=loopN_bd (fun i e h=>ih h) (by omega) hl
  omega
theorem loopN_add {f:Nat→Option Nat}:∀{a b p m e:Nat},loopN f a p=some m→loopN f b m=some e→loopN f (a+b) p=some e:=by
 intro a
 induction a with
 |zero=>intro b p m e h1 h2;rw [loopN] at h1;simp only [Option.some.injEq] at h1;subst h1;rw [Nat.zero_add];exact h2
 |succ a ih =>
  intro b p m e h1 h2
  cases hf:f p with
  |none=>rw [loopN_none hf] at h1;cases h1
  |some m' =>
   rw [loopN_some hf] at h1
   rw [show a+1+b=(a+b)+1 by omega,loopN_some hf]
   exact ih h1 h2
theorem open_one {l:List Nd} {D o p e:Nat} (h:loopN (endAt l D) (o+1) p=some e):p<l.length∧0≤cnt l p∧cnt l p≤(l.length:Int)∧loopN (endAt l D) ((cnt l p).toNat+o) (p+1)=some e:=by
 cases hf:endAt l D p with
 |none=>rw [loopN_none hf] at h;cases h
 |some m =>
  rw [loopN_some hf] at h
  obtain ⟨d,rfl⟩:=endAt_pos hf
  obtain ⟨hc,hl⟩:=endAt_step hf
  exact ⟨hc.1,hc.2.1,hc.2.2,loopN_add (loopN_mono (endAt_mono1 l d) hl) h⟩
def endI:Option Nat→Int
 |none=>-1
 |some m=>(m:Int)
def nx (l:List Nd) (i:Nat):Nat:=(endAt l 200 i).getD 0
def kidsL (l:List Nd):Nat→Nat→List Nat
 |0,_=>[]
 |c+1,p=>p::kidsL l c (nx l p)
theorem kidsL_len (l:List Nd):∀(c p:Nat),(kidsL l c p).length=c
 |0,_=>rfl
 |c+1,p=>by rw [kidsL,List.length_cons,kidsL_len l c]
theorem RdN.countAt {w:World} {ao:Option Addr} {l:List Nd} (h:RdN w ao l) {i:Nat} (hi:i<l.length):∃b off,ao=some ⟨b,off,none⟩∧w.cell? ⟨b,off+i*5+4,none⟩=some (.int .i64 (cnt l i)):=by
 obtain ⟨b,off,_,_,e,_,_,_,_,c4,_,_⟩:=h i hi
 exact ⟨b,off,e,c4⟩
theorem l3end_any (ao:Option Addr) (n cap:Nat) (l:List Nd) (w:World) (hl:l.length=n) (hr:RdN w ao l) (hn:n≤6000):∀(deep i:Nat),deep≤200→i≤n →
  Calls Tryz.prog 34 #[.slice ao n cap,.int .i64 i,.int .i64 deep] w fun e w'=>e=.returned (.int .i64 (endI (endAt l deep i)))∧w'=w:=by
 intro deep
 induction deep with
 |zero =>
  intro i _ hi
  have HE:Hid (endI (endAt l 0 i)=-1):=rfl
  by_cases hin:i<n
  ·go_enter Tryz.func34,Tryz.ntmps34
   go_wp2
   go_ret
   exact ⟨ret_i (by rw [HE.out]),rfl⟩
  ·have hin':i=n:=by omega
   subst hin'
   go_enter Tryz.func34,Tryz.ntmps34
   go_wp2
   go_ret
   exact ⟨ret_i (by rw [HE.out]),rfl⟩
 |succ d ih =>
  intro i hd hi
  have HL:Hid (l.length=n):=hl
  have HR:Hid (RdN w ao l):=hr
  have IH:Hid _:=ih
  clear hl hr ih
  by_cases hin:i<n
  ·obtain ⟨b,off,rfl,hc⟩:=RdN.countAt HR.out (show i<l.length by rw [HL.out];exact hin)
   have hine:decide (n≤i)=false:=by simp;omega
   have hd0:((d:Int)+1==0)=false:=by simp;omega
   by_cases hneg:cnt l i<0
   ·have HE:Hid (endI (endAt l (d+1) i)=-1):=by show _=_;rw [endAt,if_neg (by omega)];rfl
    generalize cnt l i=c at hc hneg
    go_enter Tryz.func34,Tryz.ntmps34
    go_wp2
    go_ret
    exact ⟨ret_i (by rw [HE.out]),rfl⟩
   ·have hneg':decide (cnt l i<0)=false:=by simp;omega
    by_cases hbig:(n:Int)<cnt l i
    ·have HE:Hid (endI (endAt l (d+1) i)=-1):=by show _=_;rw [endAt,if_neg (by rw [HL.out];omega)];rfl
     generalize cnt l i=c at hc hneg hneg' hbig
     go_enter Tryz.func34,Tryz.ntmps34
     go_wp2
     go_ret
     exact ⟨ret_i (by rw [HE.out]),rfl⟩
    ·have HE:Hid (endAt l (d+1) i=loopN (endAt l d) (cnt l i).toNat (i+1)):=by show _=_;rw [endAt,if_pos (by rw [HL.out];omega)]
     obtain ⟨c,hcc⟩:∃c:Nat,cnt l i=(c:Int):=⟨(cnt l i).toNat,by omega⟩
     rw [hcc] at hc hneg hneg' hbig
     have HE2:Hid (endAt l (d+1) i=loopN (endAt l d) c (i+1)):=by show _=_;rw [HE.out,hcc];rfl
     clear hcc HE
     have hbig':decide ((n:Int)<(c:Int))=false:=by simp;omega
     go_enter Tryz.func34,Tryz.ntmps34
     go_wp2
     go_loop [7,8] (fun p q=>∃(k m:Nat),k≤c∧m≤n∧p=.int .i64 m∧q=.int .i64 k∧Hid (endAt l (d+1) i=loopN (endAt l d) (c-k) m)) (fun _ q=>c-(intOf q).toNat)
     case atStart=>exact ⟨0,i+1,by omega,by omega,by go_num,rfl,HE2⟩
     case round =>
      obtain ⟨k,m,hk,hm,rfl,rfl,HK⟩:=hrel
      by_cases hkc:k<c
      ·have C:=IH.out m (by omega) hm
       cases hf:endAt l d m with
       |none =>
        rw [hf] at C
        have HF:Hid (endI (endAt l (d+1) i)=-1):=by show _=_;rw [HK.out,show c-k=(c-k-1)+1 by omega,loopN_none hf];rfl
        go_wp2_with fail
        refine C.mono ?_
        rintro e w' ⟨rfl,hw⟩
        replace hw:=hw.symm
        subst hw
        go_wp2
        go_ret
        exact ⟨ret_i (by rw [HF.out]),rfl⟩
       |some m' =>
        rw [hf] at C
        have hb:=endAt_bd hf
        rw [HL.out] at hb
        have HF:Hid (endAt l (d+1) i=loopN (endAt l d) (c-(k+1)) m'):=by show _=_;rw [HK.out,show c-k=(c-(k+1))+1 by omega,loopN_some hf]
        have hm':decide ((m':Int)<0)=false:=by simp
        obtain ⟨hb1,hb2⟩:=hb
        clear hf
        go_wp2_with fail
        refine C.mono ?_
        rintro e w' ⟨rfl,hw⟩
        replace hw:=hw.symm
        subst hw
        unfold endI
        go_wp2
        go_round
        case rel=>exact ⟨k+1,m',by omega,hb2,rfl,by go_num,HF⟩
        case measure=>simp [intOf];omega
      ·have hkc':k=c:=by omega
       subst hkc'
       have HF:Hid (endI (endAt l (d+1) i)=(m:Int)):=by show _=_;rw [HK.out,Nat.sub_self];rfl
       go_wp2
       go_ret
       exact ⟨ret_i (by rw [HF.out]),rfl⟩
  ·have HE:Hid (endI (endAt l (d+1) i)=-1):=by show _=_;rw [endAt,if_neg (by rw [HL.out];omega)];rfl
   have hin':i=n:=by omega
   subst hin'
   go_enter Tryz.func34,Tryz.ntmps34
   go_wp2
   go_ret
   exact ⟨ret_i (by rw [HE.out]),rfl⟩
theorem l3next_any (ao:Option Addr) (n cap:Nat) (l:List Nd) (w:World) (hl:l.length=n) (hr:RdN w ao l) (hn:n≤6000) (i e:Nat) (hE:endAt l 200 i=some e) :
  Calls Tryz.prog 96 #[.slice ao n cap,.int .i64 i] w fun x w'=>x=.returned (.int .i64 (e:Int))∧w'=w:=by
 have HL:Hid (l.length=n):=hl
 have HR:Hid (RdN w ao l):=hr
 have h1:=open_one (l:=l) (D:=200) (o:=0) (p:=i) (e:=e) (by rw [loopN_some hE];rfl)
 rw [hl] at h1
 obtain ⟨hin,hc0,hc1,hlp⟩:=h1
 obtain ⟨b,off,rfl,hc⟩:=RdN.countAt hr (show i<l.length by rw [hl];exact hin)
 have hbd:=endAt_bd hE
 rw [hl] at hbd
 obtain ⟨c,hcc⟩:∃c:Nat,cnt l i=(c:Int):=⟨(cnt l i).toNat,by omega⟩
 rw [hcc] at hc hc1 hlp
 have HP:Hid (loopN (endAt l 200) c (i+1)=some e):=hlp
 obtain ⟨hb1,hb2⟩:=hbd
 clear hlp hcc hc0 hE hl hr
 go_enter Tryz.func96,Tryz.ntmps96
 go_wp2
 go_loop [5,6] (fun p q=>∃(m o:Nat),m+o≤n∧p=.int .i64 m∧q=.int .i64 o∧Hid (loopN (endAt l 200) o m=some e)) (fun p _=>n-(intOf p).toNat)
 case atStart =>
  have:=loopN_bd (l:=l) (fun i e h=>endAt_bd h) (by rw [HL.out];omega) HP.out
  rw [HL.out] at this
  exact ⟨i+1,c,by omega,by go_num,rfl,HP⟩
 case round =>
  obtain ⟨m,o,hmo,rfl,rfl,HK⟩:=hrel
  by_cases ho:0<o
  ·have h1:=open_one (l:=l) (D:=200) (o:=o-1) (p:=m) (e:=e) (by rw [show o-1+1=o by omega];exact HK.out)
   rw [HL.out] at h1
   obtain ⟨hmn,hd0,hd1,hlp⟩:=h1
   obtain ⟨b',off',e',hc'⟩:=RdN.countAt HR.out (show m<l.length by rw [HL.out];exact hmn)
   simp only [Option.some.injEq,Addr.mk.injEq,and_true] at e'
   obtain ⟨rfl,rfl⟩:=e'
   obtain ⟨c',hcc⟩:∃c:Nat,cnt l m=(c:Int):=⟨(cnt l m).toNat,by omega⟩
   rw [hcc] at hc' hd1 hlp
   have HP':Hid (loopN (endAt l 200) (c'+(o-1)) (m+1)=some e):=hlp
   have hbd:=loopN_bd (l:=l) (fun i e h=>endAt_bd h) (by rw [HL.out];omega) HP'.out
   rw [HL.out] at hbd
   obtain ⟨hb3,hb4⟩:=hbd
   clear hlp hcc hd0
   have ho':(0:Int)<(o:Int):=by omega
   go_wp2
   go_round
   case rel=>exact ⟨m+1,c'+(o-1),by omega,by go_num,by go_num,HP'⟩
   case measure=>simp [intOf];omega
  ·have ho':o=0:=by omega
   subst ho'
   have HF:Hid (m=e):=by show _=_;have:=HK.out;rw [loopN] at this;simpa using this
   go_wp2
   go_ret
   exact ⟨ret_i (by rw [HF.out]),rfl⟩
def icells (ks:List Nat):List Value:=ks.map fun (k:Nat)=>Value.int .i64 (k:Int)
theorem info_int:(Tryz.prog.info? 3).map (fun i=>(i.zero,i.size,i.bytes))=some (some (.int .i64 0),1,8):=by kernel_rfl
def kids (l:List Nd) (i:Nat):List Nat:=kidsL l (cnt l i).toNat (i+1)
theorem l3kids_any (ao:Option Addr) (n cap:Nat) (l:List Nd) (w:World) (hl:l.length=n) (hr:RdN w ao l) (hn:n≤6000) (d i e:Nat) (hd:d≤200) (hE:endAt l d i=some e) :
  Calls Tryz.prog 67 #[.slice ao n cap,.int .i64 i] w fun x w'=>∃a' c',x=.returned (.slice a' (kids l i).length c')∧w'.ownsRow w.heap.size 3 1 (.slice a' (kids l i).length c') (kids l i).length (icells (kids l i))∧Below w.heap.size w w':=by
 obtain ⟨i0,hi,hz0,hz1,hz2⟩:=info_parts info_int
 obtain ⟨d,rfl⟩:=endAt_pos hE
 obtain ⟨⟨hin,hc0,hc1⟩,hlp⟩:=endAt_step hE
 have HL:Hid (l.length=n):=hl
 have HR:Hid (RdN w ao l):=hr
 rw [hl] at hin hc1
 obtain ⟨b,off,rfl,hc⟩:=RdN.countAt hr (show i<l.length by rw [hl];exact hin)
 have hgw:=World.block_lt_of_cell? _ _ hc
 obtain ⟨c,hcc⟩:∃c:Nat,cnt l i=(c:Int):=⟨(cnt l i).toNat,by omega⟩
 rw [hcc] at hc hc1 hlp
 have HK:Hid (kids l i=kidsL l c (i+1)):=by show _=_;unfold kids;rw [hcc];rfl
 have HP:Hid (loopN (endAt l d) c (i+1)=some e):=hlp
 obtain ⟨P,hP⟩:∃P:Ending→World→Prop,P=fun x w'=>∃a' c',x=.returned (.slice a' (kids l i).length c')∧w'.ownsRow w.heap.size 3 1 (.slice a' (kids l i).length c') (kids l i).length (icells (kids l i))∧Below w.heap.size w w':=⟨_,rfl⟩
 rw [← hP]
 have HPP:Hid (P=fun x w'=>∃a' c',x=.returned (.slice a' (kids l i).length c')∧w'.ownsRow w.heap.size 3 1 (.slice a' (kids l i).length c') (kids l i).length (icells (kids l i))∧Below w.heap.size w w'):=hP
 clear hlp hcc hc0 hE hl hr hP
 go_enter Tryz.func67,Tryz.ntmps67
 go_wp2
 go_loopw [5,6,7] (fun v p q wr=>∃(k m cp:Nat) (a':Option Addr) (out:List Nat),k≤c∧m≤n∧v=.slice a' k cp∧p=.int .i64 m∧q=.int .i64 k∧Hid (out.length=k)∧wr.ownsRow w.heap.size 3 1 (.slice a' k cp) k (icells out)∧Hid (kids l i=out++kidsL l (c-k) m)∧Hid (loopN (endAt l d) (c-k) m=some e)∧Below w.heap.size w wr) (fun _ _ q _=>c-(intOf q).toNat)
 case atStart=>exact ⟨0,i+1,0,none,[],by omega,by omega,rfl,by go_num,rfl,rfl,World.ownsRow_nil _ _ _ _,HK,HP,Below.refl _ _⟩
 case round =>
  obtain ⟨k,m,cp,a',out,hk,hm,rfl,rfl,rfl,HO,hown,HQ,HJ,hbel⟩:=hrel
  have hcw:=(hbel.cell (p:=⟨b,off+i*5+4,none⟩) hgw).trans hc
  by_cases hkc:k<c
  ·have HJ2:=HJ.out
   rw [show c-k=(c-(k+1))+1 by omega] at HJ2
   cases hf:endAt l d m with
   |none=>rw [loopN_none hf] at HJ2;cases HJ2
   |some m' =>
    rw [loopN_some hf] at HJ2
    have HJ':Hid (loopN (endAt l d) (c-(k+1)) m'=some e):=HJ2
    have hf2:=endAt_le hf (show d≤200 by omega)
    have hb:=endAt_bd hf
    rw [HL.out] at hb
    have HQ':Hid (kids l i=(out++[m])++kidsL l (c-(k+1)) m'):=by
     show _=_
     rw [HQ.out,show c-k=(c-(k+1))+1 by omega,kidsL,List.append_assoc]
     unfold nx;rw [hf2];rfl
    have C:Hid (∀W,Below w.heap.size w W→Calls Tryz.prog 96 #[.slice (some ⟨b,off,none⟩) n cap,.int .i64 m] W fun x w'=>x=.returned (.int .i64 (m':Int))∧w'=W) :=
     fun W hW=>l3next_any (some ⟨b,off,none⟩) n cap l W HL.out (HR.out.below hW) hn m m' hf2
    have HBL:Hid (Below w.heap.size w wr):=hbel
    have hBs:=hbel.size
    have hgB:∀k',(Value.slice a' k cp).ownBlock=some k'→w.heap.size≤k':=fun k' hk'=>(hown.lt k' hk').1
    obtain ⟨hb1,hb2⟩:=hb
    clear hf hf2 HJ2 hbel
    go_wp2_with (at_builtin;refine wpList_append_lies _ rfl _ _ _ rfl w.heap.size 3 i0 (.int .i64 0) 1 8 Tryz.underlying112 hi hz0 hz1 hz2 rfl (by omega) _ k (icells out) rfl (hown.alloc _) ⟨wr.heap.size,0,none⟩ 1 1 [.int .i64 (m:Int)] rfl rfl (World.news_of_block (cs:=#[.int .i64 (m:Int)]) (t:=3) (fr:=(0,0)) (heap_alloc_new wr _)) (by simp [Value.oneCell']) (by omega) (by unfold maxLen;omega) (by omega) (by simp;omega) (wr.heap.size+1) (by simp) ?_;intro g' cap' w1 hown1 hgrow hat hlt2)
    have HB1:Hid (Below w.heap.size w w1):=(HBL.out.alloc (by omega) _).grown hgrow (by simp;omega) hgB
    have HO1:Hid (w1.ownsRow w.heap.size 3 1 (.slice (some ⟨g',0,none⟩) (k+1) cap') (k+1) (icells (out++[m]))):=by
     have e:icells (out++[m])=icells out++[.int .i64 (m:Int)]:=by simp [icells]
     show World.ownsRow _ _ _ _ _ _ _
     rw [e];exact hown1
    clear hown hown1 hgrow hat hlt2
    refine (C.out _ HB1.out).mono ?_
    rintro x w' ⟨rfl,hw⟩
    replace hw:=hw.symm
    subst hw
    go_wp2
    go_roundw
    case rel=>exact ⟨k+1,m',cap',some ⟨g',0,none⟩,out++[m],by omega,hb2,rfl,rfl,by go_num,by show _=_;rw [List.length_append,HO.out];rfl,HO1.out,HQ',HJ',HB1.out⟩
    case measure=>simp [intOf];omega
  ·have hkc':k=c:=by omega
   subst hkc'
   have HF:Hid (kids l i=out):=by show _=_;rw [HQ.out,Nat.sub_self,kidsL,List.append_nil]
   go_wp2
   rw [HPP.out,HF.out,HO.out]
   exact ⟨_,_,rfl,hown,hbel⟩
end vt
end Go.Proofs.YtkmiagkehcflnaaGreatDoor
