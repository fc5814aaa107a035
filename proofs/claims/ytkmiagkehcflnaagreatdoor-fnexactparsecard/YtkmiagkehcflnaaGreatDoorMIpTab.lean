import Derived.Test.YtkmiagkehcflnaaGreatDoorRows
import Derived.WalkKit
import Derived.ProofKit
import Derived.OpenShut
import Derived.WalkLawsBesides
import Derived.RegionTactic
import Derived.ChangeAlike
import Derived.BigQuiet
import Derived.Deep.QuietTactic
import Derived.Outline
import Derived.Handy
set_option maxRecDepth 100000
set_option maxHeartbeats 8000000
namespace Go.Proofs.YtkmiagkehcflnaaGreatDoor
namespace bts
open Go.RowKit
def bcells (zs:List Int):List Value:=zs.map (Value.int .u8)
def Bts (zs:List Int):Prop:=∀i,0≤zs.getD i 0∧zs.getD i 0≤255
def Rd (w:World) (ao:Option Addr) (zs:List Int):Prop :=
 ∀i,i<zs.length→∃b off,ao=some ⟨b,off,none⟩∧w.cell? ⟨b,off+i,none⟩=some (.int .u8 (zs.getD i 0))
theorem Rd.at {w:World} {ao:Option Addr} {zs:List Int} (h:Rd w ao zs) (h0:0<zs.length) :
  ∃b off,ao=some ⟨b,off,none⟩∧b<w.heap.size∧∀i,i<zs.length→w.cell? ⟨b,off+i,none⟩=some (.int .u8 (zs.getD i 0)):=by
 obtain ⟨b,off,e,hc⟩:=h 0 h0
 refine ⟨b,off,e,World.block_lt_of_cell? _ _ hc,fun i hi=>?_⟩
 obtain ⟨b',off',e',hc'⟩:=h i hi
 rw [e] at e'
 simp only [Option.some.injEq,Addr.mk.injEq,and_true] at e'
 obtain ⟨rfl,rfl⟩:=e'
 exact hc'
theorem Rd.below {w w':World} {ao:Option Addr} {zs:List Int} (h:Rd w ao zs) (hb:Below w.heap.size w w'):Rd w' ao zs:=by
 intro i hi
 obtain ⟨b,off,e,hc⟩:=h i hi
 exact ⟨b,off,e,(hb.cell (p:=⟨b,off+i,none⟩) (World.block_lt_of_cell? _ _ hc)).trans hc⟩
theorem Rd.own {w:World} {base g cap:Nat} {E:TypeId} {zs:List Int} (h:w.ownsRow base E 1 (.slice (some ⟨g,0,none⟩) zs.length cap) zs.length (bcells zs)):Rd w (some ⟨g,0,none⟩) zs:=by
 intro i hi
 refine ⟨g,0,rfl,?_⟩
 rw [Nat.zero_add,h.cellAt i (by omega),bcells,List.getElem?_map,List.getElem?_eq_getElem hi]
 simp [List.getD_eq_getElem?_getD,List.getElem?_eq_getElem hi]
theorem bcells_length (zs:List Int):(bcells zs).length=zs.length:=by simp [bcells]
theorem bcells_of {xs:List Value} {zs:List Int} (hl:xs.length=zs.length) (h:∀j,j<zs.length→xs[j]?=some (.int .u8 (zs.getD j 0))):xs=bcells zs:=by
 apply List.ext_getElem?
 intro j
 by_cases hj:j<zs.length
 ·rw [h j hj,bcells,List.getElem?_map,List.getElem?_eq_getElem hj]
  simp [List.getD_eq_getElem?_getD,List.getElem?_eq_getElem hj]
 ·rw [List.getElem?_eq_none (by omega),List.getElem?_eq_none (by rw [bcells_length];omega)]
theorem Bts.drop {zs:List Int} (h:Bts zs) (k:Nat):Bts (zs.drop k):=by
 intro i
 have:=h (k+i)
 simpa [List.getD_eq_getElem?_getD,List.getElem?_drop] using this
theorem drop_cons {zs:List Int} {k:Nat} (h:k<zs.length):zs.drop k=zs.getD k 0::zs.drop (k+1):=by
 rw [List.drop_eq_getElem_cons h]
 simp [List.getD_eq_getElem?_getD,List.getElem?_eq_getElem h]
def IsRow (k:IntKind) (w:World) (a:Option Addr) (len cap:Nat) (zs:List Int):Prop :=
 (a=none∧len=0∧cap=0∧zs=[]) ∨
 ∃x,a=some x∧len≤cap∧cap≤maxLen∧zs.length=cap∧(∀i,i<zs.length→w.cell? (x.add i)=some (.int k (zs.getD i 0)))∧∀n∈zs,(Lit.int k n).wf=true
theorem isRow_rd {w:World} {a:Option Addr} {len cap:Nat} {zs:List Int} (h:IsRow .u8 w a len cap zs) :
  ∃ys:List Int,ys.length=len∧Rd w a ys∧Bts ys:=by
 rcases h with ⟨rfl,rfl,rfl,rfl⟩|⟨x,rfl,hl,hm,hz,hcell,hwz⟩
 ·exact ⟨[],rfl,fun i hi=>absurd hi (by simp),fun i=>by simp⟩
 ·refine ⟨zs.take len,by rw [List.length_take];omega,?_,?_⟩
  ·intro i hi
   rw [List.length_take] at hi
   obtain ⟨b,off,spot⟩:=x
   have hs:spot=none:=by simpa [Addr.add] using World.cell?_spot (hcell 0 (by omega))
   subst hs
   refine ⟨b,off,rfl,?_⟩
   have hc:=hcell i (by omega)
   have e:(zs.take len).getD i 0=zs.getD i 0:=by
    simp [List.getD_eq_getElem?_getD,show i<len by omega]
   rw [e,← hc]
   unfold Addr.add
   split
   ·rename_i h0;rw [h0,Nat.add_zero]
   ·rfl
  ·intro i
   by_cases hi:i<(zs.take len).length
   ·have hmem:(zs.take len).getD i 0∈zs:=by
     rw [List.getD_eq_getElem?_getD,List.getElem?_eq_getElem hi]
     exact List.mem_of_mem_take (List.getElem_mem hi)
    have:=bounds_u8 (hwz _ hmem)
    omega
   ·rw [List.getD_eq_getElem?_getD,List.getElem?_eq_none (by omega)]
    simp
theorem info_u8:(Tryz.prog.info? 5).map (fun i=>(i.zero,i.size,i.bytes))=some (some (.int .u8 0),1,1):=by kernel_rfl
theorem toByteS_any (ao:Option Addr) (cap:Nat) (zs:List Int) (w:World) (hr:Rd w ao zs) (hn:zs.length≤1048576) :
  Calls Tryz.prog 5 #[.slice ao zs.length cap] w fun e w'=>e=.returned (.slice (some ⟨w.heap.size,0,none⟩) zs.length zs.length) ∧
   w'.ownsRow w.heap.size 5 1 (.slice (some ⟨w.heap.size,0,none⟩) zs.length zs.length) zs.length (bcells zs)∧Below w.heap.size w w':=by
 obtain ⟨i0,hi,hz0,hz1,hz2⟩:=info_parts info_u8
 obtain ⟨n,hnn⟩:∃n,n=zs.length:=⟨_,rfl⟩
 have HN:Hid (n=zs.length):=hnn
 rw [← hnn] at hn ⊢
 clear hnn
 have hmx:n≤maxLen:=by unfold maxLen;omega
 go_enter Tryz.func5,Tryz.ntmps5
 go_wp2_with (at_make;refine wpList_make_full _ rfl _ _ 22 rfl w.heap.size 5 i0 (.int .u8 0) 1 Tryz.underlying22 hi hz0 hz1 .i64 .i64 _ _ n rfl rfl rfl rfl (by rw [hz2];omega) hmx (Nat.le_refl _) ?_;intro w1 hown hgrow)
 have hb1:Below w.heap.size w w1:=(Below.refl _ _).grown hgrow (Nat.le_refl _) (by intro k hk;cases hk)
 go_loopw [4] (fun i wr=>∃(k:Nat) (xs:List Value),k≤n∧i=.int .i64 k∧wr.ownsRow w.heap.size 5 1 (.slice (some ⟨w.heap.size,0,none⟩) n n) n xs∧(∀j,j<k→xs[j]?=some (.int .u8 (zs.getD j 0)))∧Below w.heap.size w wr) (fun i _=>n-(intOf i).toNat)
 case atStart=>exact ⟨0,_,Nat.zero_le _,rfl,hown,fun j hj=>absurd hj (by omega),hb1⟩
 case round =>
  clear hown hgrow hb1
  obtain ⟨k,xs,hk,rfl,hown,hxs,hb⟩:=hrel
  by_cases hlt:k<n
  ·obtain ⟨b,off,rfl,hbw,hcell⟩:=hr.at (by have:=HN.out;omega)
   have hc:wr.cell? ⟨b,off+k,none⟩=some (.int .u8 (zs.getD k 0)):=(hb.cell (p:=⟨b,off+k,none⟩) hbw).trans (hcell k (by have:=HN.out;omega))
   obtain ⟨z,hz⟩:∃z,z=zs.getD k 0:=⟨_,rfl⟩
   rw [← hz] at hc
   have HZ:Hid (z=zs.getD k 0):=hz
   have hfr:=hown.frozenAt k
   have hct:=hown.cellAt k (by omega)
   have hxl:xs.length=n:=by have:=hown.1;omega
   obtain ⟨u,hu⟩:∃u,xs[k]?=some u:=⟨_,List.getElem?_eq_getElem (by omega)⟩
   rw [hu] at hct
   have hst:=hown.stored k (.int .u8 z)
   have H:Hid (_∧_):=hst
   have HX:Hid (∀j,j<k→xs[j]?=some (.int .u8 (zs.getD j 0))):=hxs
   have HL:Hid (xs.length=n):=hxl
   clear hz hst hxs hown hxl hu hcell hr
   go_wp2
   go_roundw
   case rel =>
    refine ⟨k+1,xs.set k (.int .u8 z),by omega,by go_num,H.out.1,?_,hb.setCell (Nat.le_refl _) _⟩
    intro j hj
    have hl:=HL.out
    by_cases e:j=k
    ·subst e;rw [List.getElem?_set_self (by omega),HZ.out]
    ·rw [List.getElem?_set_ne (by omega),HX.out j (by omega)]
   case measure=>simp [intOf];omega
  ·have hkn:k=n:=by omega
   subst hkn
   have HO:Hid _:=hown
   have HX:Hid _:=hxs
   clear hown hxs
   go_wp2
   go_ret
   have e:=bcells_of (xs:=xs) (zs:=zs) (by have:=HO.out.1;have:=HN.out;omega) (by rw [← HN.out];exact HX.out)
   rw [e] at HO
   exact ⟨rfl,HO.out,hb⟩
theorem eqByteS_same (ao bo:Option Addr) (cap cap':Nat) (zs:List Int) (w:World) (hr:Rd w ao zs) (hs:Rd w bo zs) (hn:zs.length≤140737488355328) :
  Calls Tryz.prog 8 #[.slice ao zs.length cap,.slice bo zs.length cap'] w fun e w'=>e=.returned (.bool true)∧∃m,w'=w.drewN m:=by
 obtain ⟨n,hnn⟩:∃n,n=zs.length:=⟨_,rfl⟩
 have HN:Hid (n=zs.length):=hnn
 rw [← hnn] at hn ⊢
 clear hnn
 go_enter Tryz.func8,Tryz.ntmps8
 go_wp2
 go_loopw [5] (fun i wr=>∃(k m:Nat),k≤n∧i=.int .i64 k∧wr=w.drewN m) (fun i _=>n-(intOf i).toNat)
 case atStart=>exact ⟨0,0,Nat.zero_le _,rfl,rfl⟩
 case round =>
  obtain ⟨k,m,hk,rfl,rfl⟩:=hrel
  by_cases hlt:k<n
  ·obtain ⟨b,off,rfl,hbw,hcell⟩:=hr.at (by have:=HN.out;omega)
   obtain ⟨b',off',rfl,hbw',hcell'⟩:=hs.at (by have:=HN.out;omega)
   have hc:=hcell k (by have:=HN.out;omega)
   have hc':=hcell' k (by have:=HN.out;omega)
   obtain ⟨z,hz⟩:∃z,z=zs.getD k 0:=⟨_,rfl⟩
   rw [← hz] at hc hc'
   have hlt':(k:Int)<(n:Int):=by omega
   clear hz hcell hcell' hr hs
   go_wp2
   go_quiet (fail)
   go_wp2
   go_roundw
   case rel=>exact ⟨k+1,m+nq,by omega,by go_num,by simp⟩
   case measure=>simp [intOf];omega
  ·go_wp2
   go_ret
   exact ⟨rfl,_,rfl⟩
theorem grown_step {a b c:World} {row:Option Nat} (h:a.grownBy b row) (k:b.grownBy c row):a.grownBy c row :=
 ⟨k.os.trans h.os,k.tape.trans h.tape,k.output.trans h.output,Nat.le_trans h.size k.size,fun i hi hne=>(k.block i (Nat.lt_of_lt_of_le hi h.size) hne).trans (h.block i hi hne)⟩
def marks (k0:Int) (n:Nat):List Int:=(List.range n).map fun j:Nat=>(k0+(j:Int)) % 256
theorem marks_length (k0:Int) (n:Nat):(marks k0 n).length=n:=by simp [marks]
theorem marks_getD (k0:Int) (n j:Nat) (h:j<n):(marks k0 n).getD j 0=(k0+(j:Int)) % 256:=by simp [marks,List.getD_eq_getElem?_getD,h]
theorem markByteS_own (v:Value) (n base:Nat) (xs:List Value) (k0:Int) (h0:0≤k0) (h1:k0≤16777216) (w:World) (hown:w.ownsRow base 5 1 v n xs) (hn:n≤140737488355328) :
  Calls Tryz.prog 9 #[v,.int .i64 k0] w fun e w'=>e=.returned (.int .i64 (k0+(n:Int))) ∧
   w'.ownsRow base 5 1 v n (bcells (marks k0 n))∧w.grownBy w' v.ownBlock:=by
 rcases hown.2 with ⟨rfl,rfl⟩|⟨g,cap,cur,rfl,hbg,hh,hnc,hcm,hcs,htk⟩
 ·go_enter Tryz.func9,Tryz.ntmps9
  go_wp2
  refine wp_loop_rounds 1 ?_
  rw [rounds_succ]
  go_wp2
  go_ret
  exact ⟨by simp,⟨by simp [bcells,marks],.inl ⟨rfl,rfl⟩⟩,World.grownBy.refl _ _⟩
 ·clear hh htk hcs
  go_enter Tryz.func9,Tryz.ntmps9
  go_wp2
  go_loopw [1,5] (fun q i wr=>∃(k:Nat) (xs:List Value),k≤n∧i=.int .i64 k∧q=.int .i64 (k0+(k:Int))∧wr.ownsRow base 5 1 (.slice (some ⟨g,0,none⟩) n cap) n xs∧(∀j,j<k→xs[j]?=some (.int .u8 ((k0+(j:Int)) % 256)))∧w.grownBy wr (some g)) (fun _ i _=>n-(intOf i).toNat)
  case atStart=>exact ⟨0,_,Nat.zero_le _,rfl,by go_num,hown,fun j hj=>absurd hj (by omega),World.grownBy.refl _ _⟩
  case round =>
   clear hown
   obtain ⟨k,xs,hk,rfl,rfl,hown,hxs,hb⟩:=hrel
   by_cases hlt:k<n
   ·have hfr:=hown.frozenAt k
    have hct:=hown.cellAt k (by omega)
    have hxl:xs.length=n:=by have:=hown.1;omega
    obtain ⟨u,hu⟩:∃u,xs[k]?=some u:=⟨_,List.getElem?_eq_getElem (by omega)⟩
    rw [hu] at hct
    clear hu
    have HO:Hid (wr.ownsRow base 5 1 (.slice (some ⟨g,0,none⟩) n cap) n xs):=hown
    have HX:Hid (∀j,j<k→xs[j]?=some (.int .u8 ((k0+(j:Int)) % 256))):=hxs
    have HL:Hid (xs.length=n):=hxl
    clear hxs hown hxl
    go_wp2
    go_roundw
    case rel =>
     refine ⟨k+1,xs.set k (.int .u8 ((k0+(k:Int)) % 256)),by omega,by go_num,by go_num,(HO.out.stored k _).1,?_,grown_step hb (HO.out.stored k _).2⟩
     intro j hj
     have hl:=HL.out
     by_cases e:j=k
     ·subst e;rw [List.getElem?_set_self (by omega)]
     ·rw [List.getElem?_set_ne (by omega),HX.out j (by omega)]
    case measure=>simp [intOf];omega
   ·have hkn:k=n:=by omega
    subst hkn
    have HO:Hid _:=hown
    have HX:Hid _:=hxs
    clear hown hxs
    go_wp2
    go_ret
    have e:=bcells_of (xs:=xs) (zs:=marks k0 k) (by have:=HO.out.1;rw [marks_length];omega) (by
     intro j hj
     rw [marks_length] at hj
     rw [marks_getD _ _ _ hj]
     exact HX.out j hj)
    rw [e] at HO
    exact ⟨rfl,HO.out,hb⟩
def Same (w w':World):Prop:=w'.heap=w.heap∧∀B,Below B w w'
theorem same_drewN (w:World) (m:Nat):Same w (w.drewN m):=⟨rfl,fun _=>⟨rfl,rfl,rfl,Nat.le_refl _,fun _ _=>rfl⟩⟩
theorem own_heap {w w':World} {base:Nat} {e:TypeId} {size:Nat} {v:Value} {n:Nat} {xs:List Value} (h:w.ownsRow base e size v n xs) (he:Same w w'):w'.ownsRow base e size v n xs:=by
 obtain ⟨h1,h2⟩:=h
 refine ⟨h1,?_⟩
 rw [he.1];exact h2
theorem own_below {w w':World} {base:Nat} {e:TypeId} {size B g cap:Nat} {n:Nat} {xs:List Value} (h:w.ownsRow base e size (.slice (some ⟨g,0,none⟩) n cap) n xs) (hb:Below B w w') (hg:g<B):w'.ownsRow base e size (.slice (some ⟨g,0,none⟩) n cap) n xs:=by
 obtain ⟨h1,h2⟩:=h
 refine ⟨h1,?_⟩
 rcases h2 with ⟨h,_⟩|⟨g',cap',cur,h,hb',hh,r⟩
 ·simp at h
 ·have e:g'=g:=by simp at h;exact h.1.symm
  subst e
  exact .inr ⟨g',cap',cur,h,hb',(hb.block _ hg).trans hh,r⟩
theorem Rd.heap {w w':World} {ao:Option Addr} {zs:List Int} (h:Rd w ao zs) (he:Same w w'):Rd w' ao zs:=by
 intro i hi
 obtain ⟨b,off,e,hc⟩:=h i hi
 exact ⟨b,off,e,(World.cell?_of_block (by rw [he.1])).trans hc⟩
theorem Rd.owned {w:World} {base g cap n:Nat} {E:TypeId} {zs:List Int} (h:w.ownsRow base E 1 (.slice (some ⟨g,0,none⟩) n cap) n (bcells zs)) (e:zs.length=n):Rd w (some ⟨g,0,none⟩) zs:=by
 subst e;exact Rd.own h
theorem eqByteS_at (ao bo:Option Addr) (n cap cap':Nat) (zs:List Int) (w:World) (hl:zs.length=n) (hr:Rd w ao zs) (hs:Rd w bo zs) (hn:n≤140737488355328) :
  Calls Tryz.prog 8 #[.slice ao n cap,.slice bo n cap'] w fun e w'=>e=.returned (.bool true)∧Same w w':=by
 subst hl
 refine (eqByteS_same ao bo cap cap' zs w hr hs hn).mono ?_
 rintro e w' ⟨h,m,rfl⟩
 exact ⟨h,same_drewN w m⟩
end bts
namespace tk
open Go.RowKit bts
theorem cellB {w w':World} {b o:Nat} {v:Value} (h:w.cell? ⟨b,o,none⟩=some v) (hb:Below w.heap.size w w'):w'.cell? ⟨b,o,none⟩=some v :=
 (hb.cell (p:=⟨b,o,none⟩) (World.block_lt_of_cell? _ _ h)).trans h
theorem heap_lt {w:World} {b:Nat} {o:Obj} (h:w.heap[b]?=some o):b<w.heap.size:=by
 rcases Nat.lt_or_ge b w.heap.size with hlt|hge
 ·exact hlt
 ·rw [Array.getElem?_eq_none hge] at h;cases h
theorem bel_drewN {B:Nat} {a w:World} (h:Below B a w) (m:Nat):Below B a (w.drewN m):=h.trans ⟨rfl,rfl,rfl,Nat.le_refl _,fun _ _=>rfl⟩
def Lone (T:TypeId) (c:Nat) (w:World) (g:Nat) (xs:List Value):Prop:=w.ownsRow 0 T c (.slice (some ⟨g,0,none⟩) 1 1) 1 xs
theorem Lone.of {T:TypeId} {c:Nat} {w:World} {g:Nat} {xs:List Value} (h:w.heap[g]?=some (.cells xs.toArray T (0,0))) (hc:xs.length=c):Lone T c w g xs:=by
 subst hc
 exact ⟨by omega,.inr ⟨g,1,_,rfl,Nat.zero_le _,h,by omega,by unfold maxLen;omega,by simp,by simp⟩⟩
theorem Lone.below {T:TypeId} {c:Nat} {w w':World} {B g:Nat} {xs:List Value} (h:Lone T c w g xs) (hb:Below B w w') (hg:g<B):Lone T c w' g xs:=own_below h hb hg
theorem Lone.set {T:TypeId} {c:Nat} {w:World} {g:Nat} {xs:List Value} (h:Lone T c w g xs) (j:Nat) (u:Value):Lone T c (w.setCell ⟨g,j,none⟩ u) g (xs.set j u):=(World.ownsRow.stored h j u).1
theorem Lone.at {T:TypeId} {c:Nat} {w:World} {g j:Nat} {xs:List Value} (h:Lone T c w g xs) (hj:j<c):w.cell? ⟨g,j,none⟩=xs[j]?:=World.ownsRow.cellAt h j (by omega)
theorem Lone.free {T:TypeId} {c:Nat} {w:World} {g:Nat} {xs:List Value} (h:Lone T c w g xs) (j:Nat):w.frozen? ⟨g,j,none⟩=false:=World.ownsRow.frozenAt h j
theorem Lone.other {T:TypeId} {c:Nat} {w:World} {g b o:Nat} {u:Value} {xs:List Value} (h:Lone T c w g xs) (hb:¬b=g):Lone T c (w.setCell ⟨b,o,none⟩ u) g xs:=by
 obtain ⟨h1,h2⟩:=h
 refine ⟨h1,?_⟩
 rcases h2 with h|⟨g',c,cur,e',hb',hh,r⟩
 ·exact .inl h
 ·have e:g'=g:=by simp at e';exact e'.1.symm
  subst e
  exact .inr ⟨g',c,cur,e',hb',(Below.heap_setCell w ⟨b,o,none⟩ u g' (fun e=>hb e.symm)).trans hh,r⟩
theorem Lone.back {T:TypeId} {c:Nat} {w:World} {g:Nat} {xs:List Value} (h:Lone T c w g xs):w.heap[g]?=some (.cells xs.toArray T (0,0)):=by
 have hl:=h.1
 rcases h.2 with ⟨h,_⟩|⟨g',cap,cur,e',_,hh,_,_,hs,ht⟩
 ·simp at h
 ·simp only [Value.slice.injEq,Option.some.injEq,Addr.mk.injEq,and_true] at e'
  obtain ⟨rfl,_,rfl⟩:=e'
  have hc:cur=xs.toArray:=by
   apply Array.toList_inj.mp
   rw [List.take_of_length_le (by rw [Array.length_toList];omega)] at ht
   simpa using ht
  rw [hh,hc]
structure Fq (g:Nat) (w w':World):Prop where
 below:Below g w w'
 keep:∀b,b<w.heap.size→b≠g→w'.heap[b]?=w.heap[b]?
theorem Fq.refl (g:Nat) (w:World):Fq g w w:=⟨Below.refl _ _,fun _ _ _=>rfl⟩
theorem Fq.trans {g:Nat} {a b c:World} (h:Fq g a b) (k:Fq g b c):Fq g a c :=
 ⟨h.below.trans k.below,fun x hx hg=>(k.keep x (Nat.lt_of_lt_of_le hx h.below.size) hg).trans (h.keep x hx hg)⟩
theorem Fq.grown {g:Nat} {a b c:World} (h:Fq g a b) (hg:g≤b.heap.size) (k:Below b.heap.size b c):Fq g a c :=
 h.trans ⟨k.mono hg,fun x hx _=>k.block x hx⟩
theorem Fq.of {g:Nat} {a b:World} (hg:g≤a.heap.size) (k:Below a.heap.size a b):Fq g a b:=(Fq.refl g a).grown hg k
theorem Fq.set {g o:Nat} (w:World) (v:Value):Fq g w (w.setCell ⟨g,o,none⟩ v) :=
 ⟨(Below.refl _ _).setCell (p:=⟨g,o,none⟩) (Nat.le_refl _) _,fun b _ hb=>Below.heap_setCell w ⟨g,o,none⟩ _ b hb⟩
theorem drew_lone {T:TypeId} {c g:Nat} {w:World} {xs:List Value} (h:Lone T c w g xs) (k:Nat):Lone T c (w.drewN k) g xs:=h.below (bel_drewN (Below.refl _ _) k) (heap_lt h.back)
theorem Fq.drewN {g:Nat} {w w':World} (h:Fq g w w') (k:Nat):Fq g w (w'.drewN k):=⟨bel_drewN h.below k,fun b hb hbg=>by
 have:(w'.drewN k).heap=w'.heap:=World.heap_drewN _ _
 rw [this]
 exact h.keep b hb hbg⟩
def nx (bs:List Int) (i:Nat):Int:=if i<bs.length then bs.getD i 0 else 0
end tk
namespace scn
open Go.RowKit bts
def hexv (c:Int):Int:=if 48≤c∧c≤57 then c-48 else if 97≤c∧c≤102 then c-97+10 else if 65≤c∧c≤70 then c-65+10 else -1
theorem hexv_bd (c:Int):-1≤hexv c∧hexv c≤15:=by unfold hexv;split <;> (try split) <;> (try split) <;> omega
def digv (c:Int):Int:=if hexv c<0 then 16 else hexv c
theorem digv_bd (c:Int):0≤digv c∧digv c≤16:=by have:=hexv_bd c;unfold digv;split <;> omega
def sc (base:Int) (v:Int):List Int→Option Int
 |[]=>some v
 |c::cs=>if hexv c<0∨base≤hexv c then none else sc base (wrap64 (wrap64 (v*base)+hexv c)) cs
def res (n:Nat):Option Int→Int×Int
 |none=>(0,2)
 |some v=>if 40<n then (0,4) else (v,0)
def hx (zs:List Int):Bool:=decide (2≤zs.length)&&(zs.getD 0 0==48)&&((zs.getD 1 0==120) || (zs.getD 1 0==88))
def scan (zs:List Int):Int×Int :=
 if hx zs then (if zs.length=2 then (0,2) else res zs.length (sc 16 0 (zs.drop 2)))
 else if zs.length=0 then (0,2) else res zs.length (sc 10 0 zs)
theorem sc_bad {base v:Int} {zs:List Int} {k:Nat} (hk:k<zs.length) (h:hexv (zs.getD k 0)<0∨base≤hexv (zs.getD k 0)):sc base v (zs.drop k)=none:=by
 rw [drop_cons hk,sc,if_pos h]
theorem sc_good {base v:Int} {zs:List Int} {k:Nat} (hk:k<zs.length) (h1:¬hexv (zs.getD k 0)<0) (h2:¬base≤hexv (zs.getD k 0)) :
  sc base v (zs.drop k)=sc base (wrap64 (wrap64 (v*base)+hexv (zs.getD k 0))) (zs.drop (k+1)):=by
 rw [drop_cons hk,sc,if_neg (by omega)]
theorem sc_end {base v:Int} {zs:List Int} {k:Nat} (hk:zs.length≤k):sc base v (zs.drop k)=some v:=by
 rw [List.drop_of_length_le hk];rfl
theorem scan_hex {zs:List Int} (h:hx zs=true) (h2:2<zs.length):scan zs=res zs.length (sc 16 0 (zs.drop 2)):=by
 simp only [scan,h,if_true];rw [if_neg (by omega)]
theorem scan_hex2 {zs:List Int} (h:hx zs=true) (h2:zs.length=2):scan zs=(0,2):=by
 simp only [scan,h,if_true];rw [if_pos h2]
theorem scan_dec {zs:List Int} (h:hx zs=false) (h2:0<zs.length):scan zs=res zs.length (sc 10 0 zs):=by
 simp only [scan,h];rw [if_neg (by decide),if_neg (by omega)]
theorem scan_nil {zs:List Int} (h2:zs.length=0):scan zs=(0,2):=by
 have:hx zs=false:=by simp [hx,h2]
 simp only [scan,this];rw [if_neg (by decide),if_pos h2]
theorem scan_hex2_dec {zs:List Int} (h:hx zs=true) (h2:zs.length=2):res 2 (sc 10 0 zs)=(0,2):=by
 have e:sc 10 0 (zs.drop 0)=none:=by
  simp only [hx,Bool.and_eq_true,Bool.or_eq_true,beq_iff_eq] at h
  obtain ⟨⟨_,h0⟩,h1⟩:=h
  rw [drop_cons (by omega),h0,sc,if_neg (by simp [hexv])]
  refine sc_bad (by omega) (.inl ?_)
  rcases h1 with h1|h1 <;> rw [show 0+1=1 from rfl,h1] <;> simp [hexv]
 rw [List.drop_zero] at e
 rw [e];rfl
end scn
namespace lit
open Go.RowKit bts scn
def rc (zs:List Int) (i:Nat):Option (Int×Nat) :=
 if zs.getD i 0=10 then none
 else if ¬zs.getD i 0=92 then some (zs.getD i 0,1)
 else if zs.length≤i+1 then none
 else if zs.getD (i+1) 0=120 then
  (if zs.length≤i+3 then none else if hexv (zs.getD (i+2) 0)<0∨hexv (zs.getD (i+3) 0)<0 then none
   else some (hexv (zs.getD (i+2) 0)*16+hexv (zs.getD (i+3) 0),4))
 else if zs.getD (i+1) 0=110 then some (10,2)
 else if zs.getD (i+1) 0=116 then some (9,2)
 else if zs.getD (i+1) 0=92∨zs.getD (i+1) 0=34∨zs.getD (i+1) 0=39 then some (zs.getD (i+1) 0,2)
 else none
def rlF (q:Int) (zs:List Int):Nat→Nat→List Int→Option (List Int×Nat)
 |0,_,_=>none
 |f+1,i,out=>if i<zs.length then
   (if zs.getD i 0=q then some (out,i+1)
   else match rc zs i with
    |none=>none
    |some (c,s)=>if s=0 then none else rlF q zs f (i+s) (out++[c]))
  else none
theorem rlF_any {q:Int} {zs:List Int}:∀{f f' i:Nat} {out:List Int},zs.length-i<f→zs.length-i<f'→rlF q zs f i out=rlF q zs f' i out:=by
 intro f
 induction f with
 |zero=>intro f' i out h;omega
 |succ f ih =>
  intro f' i out h h'
  obtain ⟨f',rfl⟩:∃g,f'=g+1:=⟨f'-1,by omega⟩
  rw [rlF,rlF]
  by_cases hi:i<zs.length
  ·rw [if_pos hi,if_pos hi]
   by_cases hq:zs.getD i 0=q
   ·rw [if_pos hq,if_pos hq]
   ·rw [if_neg hq,if_neg hq]
    cases rc zs i with
    |none=>rfl
    |some x =>
     obtain ⟨c,s⟩:=x
     simp only
     by_cases hs:s=0
     ·rw [if_pos hs,if_pos hs]
     ·rw [if_neg hs,if_neg hs]
      exact ih (by omega) (by omega)
  ·rw [if_neg hi,if_neg hi]
def rl (q:Int) (zs:List Int) (i:Nat) (out:List Int):Option (List Int×Nat):=rlF q zs (zs.length+1) i out
theorem rl_eq (q:Int) (zs:List Int) (i:Nat) (out:List Int):rl q zs i out=if i<zs.length then
  (if zs.getD i 0=q then some (out,i+1)
  else match rc zs i with
   |none=>none
   |some (c,s)=>if s=0 then none else rl q zs (i+s) (out++[c]))
 else none:=by
 unfold rl
 rw [rlF]
 by_cases hi:i<zs.length
 ·rw [if_pos hi,if_pos hi]
  by_cases hq:zs.getD i 0=q
  ·rw [if_pos hq,if_pos hq]
  ·rw [if_neg hq,if_neg hq]
   cases rc zs i with
   |none=>rfl
   |some x =>
    obtain ⟨c,s⟩:=x
    simp only
    by_cases hs:s=0
    ·rw [if_pos hs,if_pos hs]
    ·rw [if_neg hs,if_neg hs]
     exact rlF_any (by omega) (by omega)
 ·rw [if_neg hi,if_neg hi]
theorem rl_end {q:Int} {zs:List Int} {i:Nat} {out:List Int} (h:¬i<zs.length):rl q zs i out=none:=by rw [rl_eq,if_neg h]
theorem rl_close {q:Int} {zs:List Int} {i:Nat} {out:List Int} (h:i<zs.length) (hq:zs.getD i 0=q):rl q zs i out=some (out,i+1):=by rw [rl_eq,if_pos h,if_pos hq]
theorem rl_bad {q:Int} {zs:List Int} {i:Nat} {out:List Int} (h:i<zs.length) (hq:¬zs.getD i 0=q) (hc:rc zs i=none):rl q zs i out=none:=by rw [rl_eq,if_pos h,if_neg hq,hc]
theorem rl_step {q c:Int} {zs:List Int} {i s:Nat} {out:List Int} (h:i<zs.length) (hq:¬zs.getD i 0=q) (hc:rc zs i=some (c,s)) (hs:¬s=0):rl q zs i out=rl q zs (i+s) (out++[c]):=by
 rw [rl_eq,if_pos h,if_neg hq,hc];simp only;rw [if_neg hs]
theorem rc_lf {zs:List Int} {i:Nat} (h:zs.getD i 0=10):rc zs i=none:=by rw [rc,if_pos h]
theorem rc_self {zs:List Int} {i:Nat} {z:Int} (e:zs.getD i 0=z) (h:¬z=10) (h2:¬z=92):rc zs i=some (z,1):=by subst e;rw [rc,if_neg h,if_pos h2]
theorem rc_short {zs:List Int} {i:Nat} (h:zs.getD i 0=92) (h2:zs.length≤i+1):rc zs i=none:=by rw [rc,if_neg (by omega),if_neg (by omega),if_pos h2]
theorem rc_hshort {zs:List Int} {i:Nat} (h:zs.getD i 0=92) (h2:¬zs.length≤i+1) (h3:zs.getD (i+1) 0=120) (h4:zs.length≤i+3):rc zs i=none:=by
 rw [rc,if_neg (by omega),if_neg (by omega),if_neg h2,if_pos h3,if_pos h4]
theorem rc_hbad {zs:List Int} {i:Nat} (h:zs.getD i 0=92) (h2:¬zs.length≤i+1) (h3:zs.getD (i+1) 0=120) (h4:¬zs.length≤i+3) (h5:hexv (zs.getD (i+2) 0)<0∨hexv (zs.getD (i+3) 0)<0):rc zs i=none:=by
 rw [rc,if_neg (by omega),if_neg (by omega),if_neg h2,if_pos h3,if_neg h4,if_pos h5]
theorem rc_hex {zs:List Int} {i:Nat} {a b:Int} (h:zs.getD i 0=92) (h2:¬zs.length≤i+1) (h3:zs.getD (i+1) 0=120) (h4:¬zs.length≤i+3) (ea:zs.getD (i+2) 0=a) (eb:zs.getD (i+3) 0=b) (h5:¬hexv a<0) (h6:¬hexv b<0) :
  rc zs i=some (hexv a*16+hexv b,4):=by
 subst ea;subst eb
 rw [rc,if_neg (by omega),if_neg (by omega),if_neg h2,if_pos h3,if_neg h4,if_neg (by omega)]
theorem rc_n {zs:List Int} {i:Nat} (h:zs.getD i 0=92) (h2:¬zs.length≤i+1) (h3:zs.getD (i+1) 0=110):rc zs i=some (10,2):=by
 rw [rc,if_neg (by omega),if_neg (by omega),if_neg h2,if_neg (by omega),if_pos h3]
theorem rc_t {zs:List Int} {i:Nat} (h:zs.getD i 0=92) (h2:¬zs.length≤i+1) (h3:zs.getD (i+1) 0=116):rc zs i=some (9,2):=by
 rw [rc,if_neg (by omega),if_neg (by omega),if_neg h2,if_neg (by omega),if_neg (by omega),if_pos h3]
theorem rc_esc {zs:List Int} {i:Nat} {e:Int} (h:zs.getD i 0=92) (h2:¬zs.length≤i+1) (he:zs.getD (i+1) 0=e) (h3:e=92∨e=34∨e=39):rc zs i=some (e,2):=by
 subst he
 rw [rc,if_neg (by omega),if_neg (by omega),if_neg h2,if_neg (by omega),if_neg (by omega),if_neg (by omega),if_pos h3]
theorem rc_none {zs:List Int} {i:Nat} {e:Int} (h:zs.getD i 0=92) (h2:¬zs.length≤i+1) (he:zs.getD (i+1) 0=e) (h3:¬e=120) (h4:¬e=110) (h5:¬e=116) (h6:¬e=92) (h7:¬e=34) (h8:¬e=39):rc zs i=none:=by
 subst he
 rw [rc,if_neg (by omega),if_neg (by omega),if_neg h2,if_neg (by omega),if_neg (by omega),if_neg (by omega),if_neg (by omega)]
theorem rc_fits {zs:List Int} (hb:Bts zs) {i s:Nat} {c:Int} (hi:i<zs.length) (h:rc zs i=some (c,s)):0≤c∧c≤255∧1≤s∧i+s≤zs.length:=by
 have b0:=hb i
 have b1:=hb (i+1)
 have x2:=hexv_bd (zs.getD (i+2) 0)
 have x3:=hexv_bd (zs.getD (i+3) 0)
 unfold rc at h
 (repeat' split at h) <;> simp only [Option.some.injEq,Prod.mk.injEq,reduceCtorEq] at h <;> omega
def litAt (zs:List Int) (k:Nat):Option (List Int×Nat) :=
 if k<zs.length∧(zs.getD k 0=34∨zs.getD k 0=39) then rl (zs.getD k 0) zs (k+1) [] else none
def unq (zs:List Int):Option (List Int) :=
 match litAt zs 0 with
 |none=>none
 |some (t,n)=>if n=zs.length then some t else none
def unqText (zs:List Int):List Int:=(unq zs).getD []
def unqCode (zs:List Int):Int:=if (unq zs).isSome then 0 else 2
theorem rl_fits {q:Int} {zs:List Int} (hb:Bts zs):∀(k i:Nat) (out t:List Int) (n:Nat),zs.length-i≤k→rl q zs i out=some (t,n)→out.length≤i→t.length≤n∧n≤zs.length∧i<n:=by
 intro k
 induction k with
 |zero =>
  intro i out t n hk h ho
  rw [rl_end (by omega)] at h;cases h
 |succ k ih =>
  intro i out t n hk h ho
  by_cases hi:i<zs.length
  ·by_cases hq:zs.getD i 0=q
   ·rw [rl_close hi hq] at h
    simp only [Option.some.injEq,Prod.mk.injEq] at h
    obtain ⟨rfl,rfl⟩:=h
    omega
   ·cases hc:rc zs i with
    |none=>rw [rl_bad hi hq hc] at h;cases h
    |some p =>
     obtain ⟨c,s⟩:=p
     have f:=rc_fits hb hi hc
     rw [rl_step hi hq hc (by omega)] at h
     have:=ih (i+s) (out++[c]) t n (by omega) h (by simp;omega)
     omega
  ·rw [rl_end hi] at h;cases h
end lit
namespace ip
open Go.RowKit bts tk
def opTab:List (ByteArray×Int×Int×Int):=[({data:=#[111,114]},23,0,1),({data:=#[97,110,100]},22,0,2),({data:=#[61,61]},21,6,3),({data:=#[126,61]},21,7,3),({data:=#[60]},21,8,3),({data:=#[60,61]},21,9,3),({data:=#[62]},21,10,3),({data:=#[62,61]},21,11,3),({data:=#[46,46]},21,5,4),({data:=#[43]},21,0,5),({data:=#[45]},21,1,5),({data:=#[42]},21,2,6),({data:=#[47,47]},21,3,6),({data:=#[37]},21,4,6)]
def lookF (x:ByteArray):List (ByteArray×Int×Int×Int)→ByteArray×Int×Int×Int
 |[]=>({data:=#[]},0,0,0)
 |t::r=>if t.1.toList==x.toList then t else lookF x r
def look (x:ByteArray):ByteArray×Int×Int×Int:=lookF x opTab
def opCells:List Value:=opTab.flatMap fun t=>[.string t.1,.int .i64 t.2.1,.int .i64 t.2.2.1,.int .i64 t.2.2.2]
def opAt (k:Nat):ByteArray×Int×Int×Int:=opTab.getD k ({data:=#[]},0,0,0)
def Opr (w:World):Prop:=∀i,i<14→w.cell? ⟨1,i*4,none⟩=some (.string (opTab.getD i ({data:=#[]},0,0,0)).1)∧w.cell? ⟨1,i*4+1,none⟩=some (.int .i64 (opTab.getD i ({data:=#[]},0,0,0)).2.1)∧w.cell? ⟨1,i*4+2,none⟩=some (.int .i64 (opTab.getD i ({data:=#[]},0,0,0)).2.2.1)∧w.cell? ⟨1,i*4+3,none⟩=some (.int .i64 (opTab.getD i ({data:=#[]},0,0,0)).2.2.2)
theorem Opr.below {w w':World} (h:Opr w) (hb:Below w.heap.size w w'):Opr w':=fun i hi=>by
 obtain ⟨a,b,c,d⟩:=h i hi
 exact ⟨cellB a hb,cellB b hb,cellB c hb,cellB d hb⟩
end ip
end Go.Proofs.YtkmiagkehcflnaaGreatDoor
