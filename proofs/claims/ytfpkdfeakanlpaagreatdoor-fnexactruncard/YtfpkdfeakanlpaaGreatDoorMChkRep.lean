import Derived.Deep.AppendLies
import Derived.Lib.VarintBits
import Derived.Laws.CopyOwn
import Derived.Deep.LoopGhost
import Derived.Test.YtfpkdfeakanlpaaGreatDoorMChkSpecB
set_option linter.all false
set_option maxRecDepth 100000
set_option maxHeartbeats 8000000
namespace Go.Proofs.YtfpkdfeakanlpaaGreatDoor
open Go.Proofs.Tryz
namespace chk
open RowKit bts pg
variable{us xs:List Value}{B E g j n:Nat}{v:Value}{w w':World}
def ED(p:Pg)(f:Pr)(x:In)(uk up uc ud:Value)(w:World)(hk:lX w uk p.dv)(hp:kZ w up p.cU)(hc:qk w uc f.fP)(hd:qO w ud f.dw)(h0:0<=f.da)(h1:f.da<=200):
  zC 42 #[.agg #[uk,up],.agg #[zI f.params,zI f.da,uc,ud],.agg (zW x.op x.a x.b)] w (zR w (.bool (kj p f x))):=by
 by_cases aq:x.op<0
 .have HE:kj p f x=false:=by unfold kj;rw[fj cM];rfl
  rw[HE];obtain⟨xo,xa,xb⟩:=x;simp only at aq|-;clear HE hk hp hc hd;go_enter Vk,Tk;go_wp2;go_returns;exact⟨rfl,by go_grown⟩
 by_cases aB:27<x.op
 .have HE:kj p f x=false:=by unfold kj;rw[fj (show¬x.op<=27 by omega)];simp
  rw[HE];obtain⟨xo,xa,xb⟩:=x;simp only at aq aB|-;clear HE hk hp hc hd;go_enter Vk,Tk;go_wp2;go_returns;exact⟨rfl,by go_grown⟩
 obtain⟨E,aC,ar⟩:=sO (z:=x.op) cM cM;have au:=RH E aC;obtain⟨M,O,rfl,_,rk⟩:=hk;obtain⟨ap,cp,rfl,_,rp⟩:=hp;obtain⟨ac,cc,rfl,_,rc⟩:=hc;obtain⟨ad,cd,rfl,_,rd⟩:=hd;have C:Hid (∀W,zB w W->zC 73 #[zI E] W (zR W (.tuple #[.string {data:=#[DC (sg E),DC (uS E)]},zI (tk E),zI (Lk E)]))):=λW _=>A7 E aC W;have CA:Hid (∀W,zB w W->zC 74 #[.agg #[.slice M p.dv.length O,.slice ap p.cU.length cp],.agg #[zI f.params,zI f.da,.slice ac f.fP.length cc,.slice ad f.dw.length cd],.int .u8 (DC (sg E)).toNat,zI x.a] W
   (zR W (.bool (mY p f (sg E) x.a)))):=λW _=>(tT (sg E) au.1 M ap ac ad _ O _ cp _ cc _ cd f.params f.da x.a h0 h1 W)
 have CB:Hid (∀W,zB w W->zC 74 #[.agg #[.slice M p.dv.length O,.slice ap p.cU.length cp],.agg #[zI f.params,zI f.da,.slice ac f.fP.length cc,.slice ad f.dw.length cd],.int .u8 (DC (uS E)).toNat,zI x.b] W
   (zR W (.bool (mY p f (uS E) x.b)))):=λW _=>(tT (uS E) au.2 M ap ac ad _ O _ cp _ cc _ cd f.params f.da x.b h0 h1 W)
 have HI:Hid (kj p f x=(mY p f (sg E) x.a&&(mY p f (uS E) x.b&&(if x.op=10 then(p.cU.getD x.a.toNat gu).fP.all (me f)else true)))):=by show _=_;unfold kj;rw[fM (show 0<=x.op by omega),fM (show x.op<=27 by omega),ar];rfl
 generalize kj p f x=aD at HI|-;have am:Hid (mY p f (sg E) x.a=true->sg E=6->1<=x.a/\x.a<(p.cU.length:Int)):=by intro h e;have:=vu h;rwa[e]at this
 have aw:Hid (x.op=10->sg E=6):=by intro e;have:E=10:=cM;subst this;rfl
 generalize mY p f (sg E) x.a=ka at CA am HI;generalize mY p f (uS E) x.b=kb at CB HI;generalize aO:DC (sg E)=ca at C CA;generalize aP:DC (uS E)=cb at C CB;generalize tk E=t at C;generalize Lk E=ls at C;clear aO aP au aq aB;obtain⟨xo,xa,xb⟩:=x;simp only at ar CA CB am aw HI|-;subst ar;have aE:=cO rp;have aX:(E:Int)<=27:=cM;clear rk rp rc rd;go_enter Vk,Tk;go_wp2_with fail;refine(C.out _ (by go_grown)).mono ?_;rintro e w1 ⟨rfl,J⟩;have ab:Hid (zB w w1):=jW (by go_grown) (J.mono ti);have p0:=di (iF (o:=.cells (zW E xa xb) 105) (iF (o:=.cells #[zI f.params,zI f.da,.slice ac f.fP.length cc,.slice ad f.dw.length cd] 100) (fE (w:=w) (cs:=#[.slice M p.dv.length O,.slice ap p.cU.length cp]) (t:=36) (j:=0) (v:=.slice M p.dv.length O) rfl))) J;have p1:=di (iF (o:=.cells (zW E xa xb) 105) (iF (o:=.cells #[zI f.params,zI f.da,.slice ac f.fP.length cc,.slice ad f.dw.length cd] 100) (fE (w:=w) (cs:=#[.slice M p.dv.length O,.slice ap p.cU.length cp]) (t:=36) (j:=1) (v:=.slice ap p.cU.length cp) rfl))) J;have f0:=di (iF (o:=.cells (zW E xa xb) 105) (fE (w:=w.alloc (.cells #[.slice M p.dv.length O,.slice ap p.cU.length cp] 36)) (cs:=#[zI f.params,zI f.da,.slice ac f.fP.length cc,.slice ad f.dw.length cd]) (t:=100) (j:=0) (v:=zI f.params) rfl)) J;have f1:=di (iF (o:=.cells (zW E xa xb) 105) (fE (w:=w.alloc (.cells #[.slice M p.dv.length O,.slice ap p.cU.length cp] 36)) (cs:=#[zI f.params,zI f.da,.slice ac f.fP.length cc,.slice ad f.dw.length cd]) (t:=100) (j:=1) (v:=zI f.da) rfl)) J;have f2:=di (iF (o:=.cells (zW E xa xb) 105) (fE (w:=w.alloc (.cells #[.slice M p.dv.length O,.slice ap p.cU.length cp] 36)) (cs:=#[zI f.params,zI f.da,.slice ac f.fP.length cc,.slice ad f.dw.length cd]) (t:=100) (j:=2) (v:=.slice ac f.fP.length cc) rfl)) J;have f3:=di (iF (o:=.cells (zW E xa xb) 105) (fE (w:=w.alloc (.cells #[.slice M p.dv.length O,.slice ap p.cU.length cp] 36)) (cs:=#[zI f.params,zI f.da,.slice ac f.fP.length cc,.slice ad f.dw.length cd]) (t:=100) (j:=3) (v:=.slice ad f.dw.length cd) rfl)) J;have x0:=di (fE (w:=(w.alloc (.cells #[.slice M p.dv.length O,.slice ap p.cU.length cp] 36)).alloc (.cells #[zI f.params,zI f.da,.slice ac f.fP.length cc,.slice ad f.dw.length cd] 100)) (cs:=(zW E xa xb)) (t:=105) (j:=0) (v:=zI E) rfl) J;have x1:=di (fE (w:=(w.alloc (.cells #[.slice M p.dv.length O,.slice ap p.cU.length cp] 36)).alloc (.cells #[zI f.params,zI f.da,.slice ac f.fP.length cc,.slice ad f.dw.length cd] 100)) (cs:=(zW E xa xb)) (t:=105) (j:=1) (v:=zI xa) rfl) J;have x2:=di (fE (w:=(w.alloc (.cells #[.slice M p.dv.length O,.slice ap p.cU.length cp] 36)).alloc (.cells #[zI f.params,zI f.da,.slice ac f.fP.length cc,.slice ad f.dw.length cd] 100)) (cs:=(zW E xa xb)) (t:=105) (j:=2) (v:=zI xb) rfl) J;simp only[dk]at p0 p1 f0 f1 f2 f3 x0 x1 x2;clear J C;generalize a0:w.heap.size+1=L at*;have HC:Hid (∀W,zB w1 W->zE W w.heap.size 0 (.slice M p.dv.length O)/\zE W w.heap.size 1 (.slice ap p.cU.length cp)/\zE W L 0 (zI f.params)/\zE W L 1 (zI f.da)/\zE W L 2 (.slice ac f.fP.length cc)/\zE W L 3 (.slice ad f.dw.length cd)/\zE W (L+1) 0 (zI E)/\zE W (L+1) 1 (zI xa)/\zE W (L+1) 2 (zI xb)):=
  λW hW=>⟨di p0 hW,di p1 hW,di f0 hW,di f1 hW,di f2 hW,di f3 hW,di x0 hW,di x1 hW,di x2 hW⟩
 have DA:Hid (∀W,zB w1 W->zC 74 #[.agg #[.slice M p.dv.length O,.slice ap p.cU.length cp],.agg #[zI f.params,zI f.da,.slice ac f.fP.length cc,.slice ad f.dw.length cd],.int .u8 (({data:=#[ca,cb]}:ByteArray)[0]'(show 0<2 by omega)).toNat,zI xa] W
   (zR w1 (.bool ka))):=λW hW=>(CA.out W (ab.out.trans (hW.mono ab.out.size))).mono λ_ _ ⟨a,b⟩=>⟨a,iy hW b⟩
 have DB:Hid (∀W,zB w1 W->zC 74 #[.agg #[.slice M p.dv.length O,.slice ap p.cU.length cp],.agg #[zI f.params,zI f.da,.slice ac f.fP.length cc,.slice ad f.dw.length cd],.int .u8 (({data:=#[ca,cb]}:ByteArray)[1]'(show 1<2 by omega)).toNat,zI xb] W
   (zR w1 (.bool kb))):=λW hW=>(CB.out W (ab.out.trans (hW.mono ab.out.size))).mono λ_ _ ⟨a,b⟩=>⟨a,iy hW b⟩
 clear CA CB;cases ka with
 |false=>
  go_wp2_with fail;refine wp_region_noPanic ?_;refine wp_region_held_drew (S:=(λW=>(zE W w.heap.size 0 (.slice M p.dv.length O)/\zE W w.heap.size 1 (.slice ap p.cU.length cp)/\zE W L 0 (zI f.params)/\zE W L 1 (zI f.da)/\zE W L 2 (.slice ac f.fP.length cc)/\zE W L 3 (.slice ad f.dw.length cd)/\zE W (L+1) 0 (zI E)/\zE W (L+1) 1 (zI xa)/\zE W (L+1) 2 (zI xb))/\zB w1 W)) gA ?_ (λF=>?_)
  (exact⟨HC.out _ (eb (cN _ _)),eb (cN _ _)⟩)
  refine wpAnyH_take (i:=0) (v:=?_) rfl gA gA gA (λ_ _ _ h=>h) (Or.inl ⟨by rfl,?_⟩) xq ?_
  rotate_left
  (intro W I;obtain⟨⟨q0,q1,q2,q3,q4,q5,q6,q7,q8⟩,q9⟩:=I;go_simp;try with_reducible rfl)
  try simp only[Act.put,jb]
  refine wpAnyH_take (i:=1) (v:=?_) rfl gA gA gA (λ_ _ _ h=>h) (Or.inl ⟨by rfl,?_⟩) xq ?_
  rotate_left
  (intro W I;obtain⟨⟨q0,q1,q2,q3,q4,q5,q6,q7,q8⟩,q9⟩:=I;go_simp;try with_reducible rfl)
  try simp only[Act.put]
  refine wpAnyH_take (i:=2) (v:=?_) rfl gA gA gA (λ_ _ _ h=>h) (Or.inl ⟨by rfl,?_⟩) xq ?_
  rotate_left
  (intro W I;obtain⟨⟨q0,q1,q2,q3,q4,q5,q6,q7,q8⟩,q9⟩:=I;go_simp;try with_reducible rfl)
  try simp only[Act.put]
  refine wpAnyH_take (i:=4) (v:=?_) rfl gA gA gA (λ_ _ _ h=>h) (Or.inl ⟨by rfl,?_⟩) xq ?_
  rotate_left
  (intro W I;obtain⟨⟨q0,q1,q2,q3,q4,q5,q6,q7,q8⟩,q9⟩:=I;go_simp;try with_reducible rfl)
  try simp only[Act.put]
  refine wpAnyH_take (i:=5) (v:=?_) rfl gA gA gA (λ_ _ _ h=>h) (Or.inl ⟨by rfl,?_⟩) xq ?_
  rotate_left
  (intro W I;obtain⟨⟨q0,q1,q2,q3,q4,q5,q6,q7,q8⟩,q9⟩:=I;go_simp;try with_reducible rfl)
  try simp only[Act.put]
  refine wpAnyH_ready (rs:=[3]) gA dC ?_;refine AllReadyH.cons rfl (λK hK=>?_) AllReadyH.nil;go_simp;refine hK.out _ _ F (λD=>?_);clear hK K F;try simp only[Act.put,jb,tN,tP]
  refine wpAnyH_ready (rs:=[6]) gA dC ?_;refine AllReadyH.cons rfl (λK hK=>?_) AllReadyH.nil;go_simp;with_reducible refine(DA.out _ D.2).mono ?_;rintro e w2 ⟨rfl,ax⟩;dsimp only;refine hK.out _ _ ⟨HC.out _ ax,ax⟩ (λF=>?_);clear hK K D;try simp only[Act.put,jb,tN,tP]
  refine wpAnyH_take (i:=7) (v:=?_) rfl gA gA gA (λ_ _ _ h=>h) (Or.inl ⟨by rfl,?_⟩) xq ?_
  rotate_left
  (intro W I;obtain⟨⟨q0,q1,q2,q3,q4,q5,q6,q7,q8⟩,q9⟩:=I;go_simp;try with_reducible rfl)
  try simp only[Act.put,jb]
  refine wpAnyH_take (i:=8) (v:=?_) rfl gA gA gA (λ_ _ _ h=>h) (Or.inl ⟨by rfl,?_⟩) xq ?_
  rotate_left
  (intro W I;obtain⟨⟨q0,q1,q2,q3,q4,q5,q6,q7,q8⟩,q9⟩:=I;go_simp;try with_reducible rfl)
  try simp only[Act.put]
  refine wpAnyH_take (i:=9) (v:=undef) rfl gA gA gA (λ_ _ _ h=>h) (Or.inr ⟨by rfl,rfl⟩) xq ?_;try simp only[Act.put]
  refine wpAnyH_take (i:=10) (v:=undef) rfl gA gA gA (λ_ _ _ h=>h) (Or.inr ⟨by rfl,rfl⟩) xq ?_;try simp only[Act.put]
  refine wpAnyH_take (i:=11) (v:=undef) rfl gA gA gA (λ_ _ _ h=>h) (Or.inr ⟨by rfl,rfl⟩) xq ?_;try simp only[Act.put]
  refine wpAnyH_take (i:=13) (v:=undef) rfl gA gA gA (λ_ _ _ h=>h) (Or.inr ⟨by rfl,rfl⟩) xq ?_;try simp only[Act.put]
  refine wpAnyH_take (i:=14) (v:=undef) rfl gA gA gA (λ_ _ _ h=>h) (Or.inr ⟨by rfl,rfl⟩) xq ?_;try simp only[Act.put]
  refine wpAnyH_ready (rs:=[12]) gA dC ?_;refine AllReadyH.cons rfl (λK hK=>?_) AllReadyH.nil;go_simp;refine hK.out _ _ F (λD=>?_);clear hK K F;have F:=D;clear D;try simp only[Act.put,jb,tN,tP]
  refine wpAnyH_ready (rs:=[15]) gA dC ?_;refine AllReadyH.cons rfl (λK hK=>?_) AllReadyH.nil;go_simp;refine hK.out _ _ F (λD=>?_);clear hK K F;have F:=D;clear D;try simp only[Act.put,jb,tN,tP]
  refine wpAnyH_take (i:=16) (v:=undef) rfl gA gA gA (λ_ _ _ h=>h) (Or.inr ⟨by rfl,rfl⟩) xq ?_;try simp only[Act.put,jb]
  refine wpAnyH_take (i:=17) (v:=?_) rfl gA gA gA (λ_ _ _ h=>h) (Or.inl ⟨by rfl,?_⟩) xq ?_
  rotate_left
  (intro W I;obtain⟨⟨q0,q1,q2,q3,q4,q5,q6,q7,q8⟩,q9⟩:=I;go_simp;try with_reducible rfl)
  try simp only[Act.put]
  refine wpAnyH_done gA ?_ _;refine NoPanic.normal ?_;go_wp2_with fail;all_goals
   go_returns;exact⟨jx (by rw[HI.out];rfl),ab.out.trans (ax.mono ab.out.size)⟩
 |true=>
  go_wp2_with fail;go_region_held3 (λW=>(zE W w.heap.size 0 (.slice M p.dv.length O)/\zE W w.heap.size 1 (.slice ap p.cU.length cp)/\zE W L 0 (zI f.params)/\zE W L 1 (zI f.da)/\zE W L 2 (.slice ac f.fP.length cc)/\zE W L 3 (.slice ad f.dw.length cd)/\zE W (L+1) 0 (zI E)/\zE W (L+1) 1 (zI xa)/\zE W (L+1) 2 (zI xb))/\zB w1 W) (refine⟨?_,?_⟩<;>first|(refine HC.out _ ?_;repeat(first|exact cN _ _|assumption|refine eb ?_|refine dQ ?_ _))|(repeat(first|exact cN _ _|assumption|refine eb ?_|refine dQ ?_ _)))
    (first|(go_at_call 74;with_reducible refine(DA.out _ ?_).mono ?_;clear DA;(repeat(first|exact cN _ _|assumption|refine eb ?_|refine dQ ?_ _));rintro e w' ⟨rfl,aQ⟩)|(go_at_call 74;with_reducible refine(DB.out _ ?_).mono ?_;clear DB;(repeat(first|exact cN _ _|assumption|refine eb ?_|refine dQ ?_ _));rintro e w' ⟨rfl,aQ⟩))
  have ah:=cO (ab.out.trans (tR xq ab.out.size));have aF:zB w1 w':=xq;obtain⟨y0,y1,y2,y3,y4,y5,y6,y7,y8⟩:=HC.out w' aF;clear p0 p1 f0 f1 f2 f3 x0 x1 x2 aF HC;cases kb with
  |false=>
   go_wp2_with fail;all_goals
    go_returns;exact⟨jx (by rw[HI.out];rfl),ah.out⟩
  |true=>
   by_cases ai:(E:Int)=10
   .have hk:=am.out (by first|rfl|trivial) (aw.out ai);obtain⟨k,aR⟩:∃k:Nat,xa=(k:Int):=⟨xa.toNat,cM⟩
    subst aR;have aS:k<p.cU.length:=cM;obtain⟨b,off,a1,a6,rfl,z0,z1,z2,z3,ay,aG⟩:=(aE.out.below ah.out) k aS;have HE:Hid (aD=(p.cU.getD k gu).fP.all (me f)):=by show _=_;rw[HI.out,cR ai];rfl
    clear HI;generalize p.cU.getD k gu=q at z0 z1 ay aG HE;have az:=cO ay;obtain⟨a2,c2,rfl,l2,_⟩:=ay;obtain⟨a3,c3,rfl,l3,_⟩:=aG;rw[ai]at y6|-;have a7:(k:Int)<(p.cU.length:Int):=cM;clear am aw aE hk ai DA DB;obtain⟨qp,qs,qc,qi⟩:=q;simp only at z0 z1 l2 l3 HE az|-;have aH:Hid (Ox w' a2 qc):=by obtain⟨_,_,e,_,h⟩:=az.out;simp only[de]at e;obtain⟨rfl,_,_⟩:=e;exact h
    obtain⟨n,hn⟩:=eX qc.length;have HN:=cO hn.symm;rw[<-hn]at z2 l2;obtain⟨nc,aI⟩:=eX f.fP.length;have aJ:Hid (∀c:Cp,me f c=if c.up then decide (c.index<(nc:Int))else decide (c.index<f.da)):=by intro c;rw[aI];rfl
    rw[<-aI]at y4;clear az hn;go_wp2_with fail;have B0:Hid (zB w (w'.alloc (.cells #[zI qp,zI qs,.slice a2 n c2,.slice a3 qi.length c3] 100))):=ah.out.alloc ah.out.size _;have t0:=fE (w:=w') (cs:=#[zI qp,zI qs,.slice a2 n c2,.slice a3 qi.length c3]) (t:=100) (j:=2) (v:=.slice a2 n c2) rfl;have t1:=iF (o:=.cells #[zI qp,zI qs,.slice a2 n c2,.slice a3 qi.length c3] 100) y3;have t2:=iF (o:=.cells #[zI qp,zI qs,.slice a2 n c2,.slice a3 qi.length c3] 100) y4;have aT:Hid (Ox (w'.alloc (.cells #[zI qp,zI qs,.slice a2 n c2,.slice a3 qi.length c3] 100)) a2 qc):=aH.out.below (ba);go_loopw[11] (λi wr=>∃j:Nat,j<=n/\i=zI j/\Hid (∀i,i<j->me f (qc.getD i lY)=true)/\Below (w'.alloc (.cells #[zI qp,zI qs,.slice a2 n c2,.slice a3 qi.length c3] 100)).heap.size (w'.alloc (.cells #[zI qp,zI qs,.slice a2 n c2,.slice a3 qi.length c3] 100)) wr) (λi _=>n-(intOf i).toNat)
    case atStart=>exact⟨0,dM _,rfl,λi hi=>absurd hi cM,cN _ _⟩
    case round=>
     obtain⟨j,hj,rfl,ag,aa⟩:=hrel;have r0:=di t0 aa;have r1:=di t1 aa;have r2:=di t2 aa;have an:=cO (B0.out.trans (aa.mono B0.out.size));have aK:=an.out.size;generalize w'.alloc (.cells #[zI qp,zI qs,.slice a2 n c2,.slice a3 qi.length c3] 100)=W1 at*;clear t0 t1 t2 y0 y1 y2 y3 y4 y5 y6 y7 y8 z0 z1 z2 z3;by_cases aL:j<n
     .obtain⟨b5,aY,rfl,u0,u1⟩:=(aT.out.below aa) j (by rw[HN.out];exact aL);have aM:=aJ.out (qc.getD j lY);have HD:=cO aM;clear aM;have HX:Hid (me f (qc.getD j lY)=false->qc.all (me f)=false):=by
       intro h;rw[Gi];refine⟨qc.getD j lY,?_,by rw[h];simp⟩;have aN:j<qc.length:=by rw[HN.out];exact aL
       rw[cB,cG aN];exact fA aN
      have HY:Hid (me f (qc.getD j lY)=true->∀i,i<j+1->me f (qc.getD i lY)=true):=by
       intro h i hi;by_cases e:i=j
       .rw[e];exact h
       .exact ag.out i cM
      have aZ:(j:Int)<(n:Int):=cM;generalize qc.getD j lY=cj at u0 u1 HD HX HY;obtain⟨cu,ci⟩:=cj;simp only at u0 u1 HD;cases cu with
      |true=>
       rw[cR rfl]at HD;have aU:=iF (o:=.cells #[.bool true,zI ci] 102) r1;have aV:=iF (o:=.cells #[.bool true,zI ci] 102) r2;by_cases ae:ci<(nc:Int)
       .have aA:decide ((nc:Int)<=ci)=false:=iY;have aj:=HY.out (by rw[HD.out,fM ae]);have ak:=cO aj;clear HX HY HD aj ag;go_wp2_with fail;go_roundw
        case rel=>exact⟨j+1,cM,l9,ak.out,aa.alloc aa.size _⟩
        case measure=>simp[intOf];omega
       .have aA:decide ((nc:Int)<=ci)=true:=iY;have af:=HX.out (by rw[HD.out,fj ae]);have al:=cO af;clear HX HY HD af ag;go_wp2_with fail;go_returns;exact⟨jx (HE.out.trans al.out).symm,an.out.alloc aK _⟩
      |false=>
       rw[cK dC]at HD;have aU:=iF (o:=.cells #[.bool false,zI ci] 102) r1;have aV:=iF (o:=.cells #[.bool false,zI ci] 102) r2;by_cases ae:ci<f.da
       .have aA:decide (f.da<=ci)=false:=iY;have aj:=HY.out (by rw[HD.out,fM ae]);have ak:=cO aj;clear HX HY HD aj ag;go_wp2_with fail;go_roundw
        case rel=>exact⟨j+1,cM,l9,ak.out,aa.alloc aa.size _⟩
        case measure=>simp[intOf];omega
       .have aA:decide (f.da<=ci)=true:=iY;have af:=HX.out (by rw[HD.out,fj ae]);have al:=cO af;clear HX HY HD af ag;go_wp2_with fail;go_returns;exact⟨jx (HE.out.trans al.out).symm,an.out.alloc aK _⟩
     .have aW:j=n:=cM;subst aW;have HF:Hid (qc.all (me f)=true):=by
       show _=_;rw[oE];intro x hx;obtain⟨i,hi,rfl⟩:=gM hx;have:=ag.out i (by rw[<-HN.out];exact hi);rwa[cB,cG hi]at this
      go_wp2_with fail;go_returns;exact⟨jx (HE.out.trans HF.out).symm,an.out⟩
   .have a8:((E:Int) != 10)=true:=iY;have HE:Hid (aD=true):=by show _=_;rw[HI.out,cK ai];rfl
    go_wp2_with fail;all_goals
     go_returns;exact⟨jx HE.out.symm,ah.out⟩
def ic(l:List Int):List Value:=l.map (Value.int .i64)
def nc(t:List Nat):List Value:=t.map (λn:Nat=>Value.int .i64 (n:Int))
def wT{l:List Int}{i:Nat}(h:i<l.length):(ic l)[i]?=some (.int .i64 (l.getD i (-1))):=by simp[ic,ed,cG h,cB]
def No(l:List Int)(i:Nat)(z:Int):ic (l.set i z)=(ic l).set i (.int .i64 z):=by simp[ic,Tt]
def vd(t:List Nat)(a:Nat):nc (t++[a])=nc t++[.int .i64 (a:Int)]:=by simp[nc]
def vA:(Tryz.prog.info? 3).map (λi=>(i.zero,i.size,i.bytes))=some (some (.int .i64 0),1,8):=gA
def JH{c cap:Nat}{row:Option Nat}(h:w.ownsRow B E c (.slice (some ⟨g,0,none⟩) n cap) n us)(M:w.grownBy w' row)(F:some g≠row):w'.ownsRow B E c (.slice (some ⟨g,0,none⟩) n cap) n us:=by
 obtain⟨O,h2⟩:=h;refine⟨O,?_⟩;obtain⟨h,_⟩|⟨K,D,I,e,J,L,r⟩:=h2
 .simp at h
 .have e2:K=g:=by simp at e;exact e.1.symm
  subst e2;exact .inr ⟨K,D,I,e,J,(M.block _ (dS.1 L).1 F).trans L,r⟩
structure Fl(w:World)(cJ g N:Nat)(hs:List Int)(v:Value)(t:List Nat):Prop where
 own:w.ownsRow cJ 3 1 (.slice (some ⟨g,0,none⟩) N N) N (ic hs)
 todo:w.ownsRow cJ 3 1 v t.length (nc t)
 apart:v.ownBlock≠some g
 len:hs.length=N
def Fl.below{cJ N X:Nat}{hs:List Int}{t:List Nat}(h:Fl w cJ g N hs v t)(I:Below X w w')(J:w.heap.size<=X):Fl w' cJ g N hs v t:=by
 refine⟨km h.own I (dj (h.own.lt g rfl).2 J),?_,h.apart,h.len⟩;obtain⟨L,M⟩:=h.todo
 refine⟨L,?_⟩;obtain O|⟨K,D,E,e,F,hh,r⟩:=M
 .exact .inl O
 .exact .inr ⟨K,D,E,e,F,(I.block _ (dj (h.todo.lt K (by rw[e];rfl)).2 J)).trans hh,r⟩
def rQ(cJ g N eA:Nat)(n:Int)(hs:List Int)(K:Option Addr)(L:Nat)(t:List Nat)(w:World)(F:Fl w cJ g N hs (.slice K t.length L) t)(_:N<=1048576)(h:300<n\/jd hs t eA n=none):
  zC 75 #[zI eA,zI n,zS g N N,.slice K t.length L] w (zR w (.tuple #[.slice K t.length L,.bool false])):=by
 by_cases I:eA<N
 .by_cases hn:300<n
  .have M:decide ((N:Int)<=(eA:Int))=false:=iY;clear h;go_enter zY,xd;go_wp2;go_returns;exact⟨rfl,by go_grown⟩
  .have E:=h.resolve_left hn;have O:=F.own.cellAt eA cM;rw[wT (F.len▸I)]at O;unfold jd at E;rw[cR (F.len▸I)]at E;by_cases D:hs.getD eA (-1)<0
   .rw[cR D]at E;cases E
   .rw[cK D]at E;have J:¬hs.getD eA (-1)=n:=by intro e;rw[cR e]at E;cases E
    generalize hs.getD eA (-1)=z at O D J;have M:decide ((N:Int)<=(eA:Int))=false:=iY;have aa:decide ((300:Int)<n)=false:=iY;have hz:(z==n)=false:=by simpa using J
    have ha:(eA:Int)<(N:Int):=cM;clear h E;go_enter zY,xd;go_wp2;first
     |(go_returns
       exact⟨rfl,by go_grown⟩)
     |(go_quiet (fail)
       go_wp2;go_returns;exact⟨rfl,dQ (cN _ _) _⟩)
 .have M:decide ((N:Int)<=(eA:Int))=true:=iY;clear h;go_enter zY,xd;go_wp2;go_returns;exact⟨rfl,by go_grown⟩
def qb(cJ g N eA:Nat)(n:Int)(hs ab:List Int)(L:Option Addr)(M:Nat)(t t':List Nat)(w:World)(F:Fl w cJ g N hs (.slice L t.length M) t)(_:N<=1048576)(ht:t.length<=8388608)(hn:n<=300)(hb:cJ<=w.heap.size)(I:jd hs t eA n=some (ab,t')):
  zC 75 #[zI eA,zI n,zS g N N,.slice L t.length M] w λe w'=>∃ac ad,e=.returned (.tuple #[.slice ac t'.length ad,.bool true])/\Fl w' cJ g N ab (.slice ac t'.length ad) t'/\Below cJ w w'/\(∀b,b<w.heap.size->b≠g->(Value.slice L t.length M).ownBlock≠some b->w'.heap[b]?=w.heap[b]?):=by
 obtain⟨i0,hi,ag,ah,ai⟩:=fQ vA;unfold jd at I;by_cases K:eA<hs.length
 .rw[cR K]at I;have ar:eA<N:=by rw[<-F.len];exact K
  have hc:=F.own.cellAt eA cM;rw[wT K]at hc;have hd:decide ((N:Int)<=(eA:Int))=false:=iY;have aw:decide ((300:Int)<n)=false:=iY;have ha:(eA:Int)<(N:Int):=cM;by_cases E:hs.getD eA (-1)<0
  .rw[cR E]at I;simp only[dB,fS]at I;obtain⟨rfl,rfl⟩:=I;generalize hs.getD eA (-1)=z at hc E;have ax:=F.own.frozenAt eA;have aj:=F.own.stored eA (zI n);have ak:=(F.own.lt g rfl)
   have O:(w.setCell (zA g eA) (zI n)).ownsRow cJ 3 1 (.slice L t.length M) t.length (nc t):=by
    obtain⟨h1,h2⟩:=F.todo
    refine⟨h1,?_⟩;obtain h0|⟨g',J,al,e,am,hh,r⟩:=h2
    .exact .inl h0
    .refine .inr ⟨g',J,al,e,am,(cZ w (zA g eA) _ g' (λe2=>?_)).trans hh,r⟩;have e3:=e2;exact F.apart (by rw[e,e3];rfl)
   obtain⟨m,hm⟩:=eX t.length;have HM:=cO hm.symm;rw[<-hm]at O ht|-;have an:∀k,(Value.slice L m M).ownBlock=some k->cJ<=k:=λk hk=>(O.lt k hk).1;clear hm;go_enter zY,xd;go_wp2_with(at_builtin;refine wpList_append_lies _ rfl _ _ _ rfl cJ 3 i0 (zI 0) 1 8 kN hi ag ah ai rfl cM _ m (nc t) rfl (O.alloc _) (zA w.heap.size 0) 1 1 [zI (eA:Int)] rfl rfl (World.news_of_block (cs:=#[zI (eA:Int)]) (t:=3) (fr:=(0,0)) (by have:=dJ (w.setCell (zA g eA) (zI n)) (Obj.cells #[zI (eA:Int)] 3 (0,0));simpa using this)) OJ cM (by unfold maxLen;omega) cM iY (w.heap.size+1) dC ?_;intro g' J w2 aa D ae au)
   go_returns;have af:(t++[eA]).length=m+1:=by simp[HM.out]
   refine⟨some (zA g' 0),J,by rw[af];rfl,⟨?_,?_,?_,?_⟩,?_,?_⟩
   .rw[No];have e:some g≠(Value.slice L m M).ownBlock:=by rw[<-HM];exact λe=>F.apart e.symm
    exact JH (aj.1.alloc _) D e
   .rw[af,vd];exact aa
   .intro e;have e2:g'=g:=by simpa[Value.ownBlock]using e
    obtain h|h:=ae
    .have h':(Value.slice L m M).ownBlock=some g':=h;exact F.apart (by rw[HM,h',e2])
    .omega
   .simp[F.len]
   .exact(((cN cJ w).setCell (p:=(zA g eA)) ak.1 _).alloc (by simpa using hb) _).grown D iY an
   .intro b ay ap aq;rw[D.block b iY (λe=>aq e.symm),iZ _ _ iY];exact cZ w (zA g eA) _ b ap
  .rw[cK E]at I;by_cases he:hs.getD eA (-1)=n
   .rw[cR he]at I;simp only[dB,fS]at I;obtain⟨rfl,rfl⟩:=I;rw[he]at hc E;go_enter zY,xd;go_wp2;first
     |(go_returns
       exact⟨_,_,rfl,F,cN _ _,λ_ _ _ _=>rfl⟩)
     |(go_quiet (fail)
       go_wp2;go_returns;exact⟨_,_,rfl,F.below (dQ (cN _ _) _) (cE _),dQ (cN _ _) _,λ_ _ _ _=>rfl⟩)
   .rw[cK he]at I;cases I
 .rw[cK K]at I;cases I
def QS{a b c d:Int}(h:a=b)(D:c=d):Ending.returned (.tuple #[.int .u64 a,.int .u64 c])=.returned (.tuple #[.int .u64 b,.int .u64 d]):=by rw[h,D]
def JR(N:Nat)(I:N<=1048576)(w:World):
  zC 184 #[.int .u64 1,.int .u64 N] w (zR w (.tuple #[.int .u64 0,.int .u64 N])):=by
 go_enter func184,ntmps184;go_wp2;first
  |go_returns
  |(go_quiet (fail)
    go_wp2;go_returns)
 refine⟨QS ?_ ?_,by first|exact cN _ _|exact dQ (cN _ _) _⟩
 .have h:bits BinOp.and IntKind.u64 1 4294967295=1:=by decide +kernel
  have D:bits BinOp.and IntKind.u64 (N:Int) 4294967295=(N:Int):=by have:=bits_mask .u64 64 iM wraps_u64 32 iM (N:Int) cM cM;have e:bits BinOp.and IntKind.u64 (N:Int) 4294967295=(N:Int) % 4294967296:=this;rw[e];omega
  have E:IntKind.u64.wrap (1*(N:Int))=(N:Int):=by simp only[v7];omega
  have F:(N:Int) / 4294967296=0:=cM;simp only[h,D,E,F];decide +kernel
 .rfl
def MV(N:Nat)(D:N<=1048576)(w:World):
  zC 154 #[.int .u64 1,.int .u64 N] w (zR w (.tuple #[.int .u64 0,.int .u64 N])):=by
 have C:=JR N D w;have E:(0:Int)<=(N:Int)/\(N:Int)<=1048576:=cM;go_enter func154,ntmps154;go_wp2_with fail;refine C.mono ?_;rintro e F ⟨rfl,h⟩;clear C;go_wp2_with fail;go_returns;exact⟨QS (by first|rfl|omega|(simp;omega)) (by first|rfl|omega|(simp;omega)),h⟩
def JI(h:w.ownsRow B E 1 (.slice (some ⟨g,0,none⟩) n n) n xs):w.heap[g]?=some (.cells xs.toArray E (0,0))/\xs.length=n/\B<=g:=by
 have M:=h.1;obtain⟨h,_⟩|⟨O,cap,D,F,J,K,_,_,hs,I⟩:=h.2
 .simp at h
 .simp only[de,dB,fC,and_true,true_and]at F;obtain⟨rfl,rfl⟩:=F;have L:D=xs.toArray:=by
   apply Xa.mp;rw[iI (by rw[mI];omega)]at I;simpa using I
  exact⟨by rw[K,L],cM,J⟩
def KG(h:w.heap[g]?=some (.cells xs.toArray E (0,0)))(D:xs.length=n)(F:n<=maxLen)(I:B<=g):w.ownsRow B E 1 (.slice (some ⟨g,0,none⟩) n n) n xs:=by subst D;exact⟨cM,.inr ⟨g,_,_,rfl,I,h,cE _,F,dC,dC⟩⟩
def Ib(h:w.heap[g]?=some (.cells xs.toArray E (0,0))):w.cell? ⟨g,j,none⟩=xs[j]?:=by simp only[World.cell?,h];simp
def NW{b:Nat}{u:Value}(h:w.cell? ⟨b,0,none⟩=some u)(D:[u][j]?=some v):w.cell? ((⟨b,0,none⟩:Addr).add j)=some v:=by
 cases j with
 |zero=>simp only[kO,dB]at D;subst D;rw[iK];exact h
 |succ j=>simp at D
def Sk(E:us.length=n)(h:∀j,j<n->us[j]?=some (.int .i64 (-1))):us=ic (List.replicate n (-1)):=by
 apply iE;intro j;by_cases D:j<n
 .rw[h j D];simp[ic,D]
 .rw[dO cM,dO (by simp[ic];omega)]
def AN{L cs:List Value}{off:Nat}(I:off+cs.length<=L.length)(E:j<off->L[j]?=some v)(F:∀u∈cs,u=v)(J:j<off+cs.length):(splice L off cs)[j]?=some v:=by
 unfold splice;by_cases h:j<off
 .rw[fH iY,jA h];exact E h
 .rw[fB iY,fH iY];have D:j-(L.take off).length<cs.length:=iY;rw[cG D,F _ (fA D)]
def GJ(b N:Nat)(hN:N<=1048576)(h0:0<N)(w:World)(hc:w.cell? ⟨b,0,none⟩=some (.int .i64 (-1))):
  Calls Tryz.prog 98 #[.slice (some ⟨b,0,none⟩) 1 1,.int .i64 N] w λe w'=>∃gB,w.heap.size<=gB/\e=.returned (.slice (some ⟨gB,0,none⟩) N N)/\w'.ownsRow w.heap.size 3 1 (.slice (some ⟨gB,0,none⟩) N N) N (ic (List.replicate N (-1)))/\Below w.heap.size w w':=by
 obtain⟨i0,hi,au,aw,ax⟩:=fQ vA;have C:=MV N hN w;have ah:N<=maxLen:=by unfold maxLen;omega
 have aG:(0:Int)<=(N:Int):=cM;have aH:(N:Int)<=1048576:=cM;go_enter func98,ntmps98;go_wp2_with fail;refine C.mono ?_;rintro e w1 ⟨rfl,ab⟩;clear C;have ai:=di hc ab;clear hc;have M:(Tryz.prog.info? 3).map (·.size)=some 1:=gA;have aj:[Value.int .i64 (-1)].length=Nat.min 1 N:=by show 1=min 1 N;omega
 have ak:∀v∈[Value.int .i64 (-1)],v.oneCell'=true:=by intro v F;simp at F;subst F;rfl
 go_wp2_with(first|(at_make;refine lH _ rfl _ _ 62 rfl w1.heap.size 3 i0 (.int .i64 0) 1 kN hi au aw .i64 .i64 _ _ N rfl rfl rfl rfl (by rw[ax];omega) ah (cE _) ?_;intro w2 O I;have HR:=JI O;obtain⟨D,aa,ay⟩:∃D:List Value,w2.heap[w1.heap.size]?=some (.cells D.toArray 3 (0,0))/\D.length=N:=⟨_,HR.1,HR.2.1⟩;clear HR O;have ac:=(cN _ _).grown I (cE _) (by intro k hk;cases hk);have al:=di ai ac;have E:0 + [Value.int .i64 (-1)].length<=D.length:=by(simp only[j9];omega))|(refine wpList_copy_splice rfl _ _ _ _ rfl 3 kN M (some ⟨w1.heap.size,0,none⟩) (some ⟨b,0,none⟩) N N 1 1 rfl rfl w1.heap.size 0 D 3 aa [.int .i64 (-1)] aj (λ_=>⟨rfl,_,rfl,λj v F=>NW al F⟩) E ak w1.heap.size w1 ac (cE _) ?_;intro w3 K ae))
 have am:=cO (iy ab ae);obtain⟨g,hg⟩:=eX w1.heap.size;have HG:Hid (w.heap.size<=g):=hg▸ab.size;have H3:Hid (w3.heap[g]?=some (.cells (splice D 0 [.int .i64 (-1)]).toArray 3 (0,0))/\(splice D 0 [.int .i64 (-1)]).length=N/\∀j,j<1->(splice D 0 [.int .i64 (-1)])[j]?=some (.int .i64 (-1))):=by refine⟨hg▸K,by rw[length_splice _ _ _ iY];exact ay,λj hj=>AN iY (λh=>absurd h cM) dC iY⟩
 rw[<-hg];generalize splice D 0 [.int .i64 (-1)]=L1 at H3;clear K ae ac al aa I ai hg;go_loopg[8] (N-1) (λgk x wr=>∃(k:Nat)(L:List Value),1<=k/\k<=N/\N-k=gk/\x=.int .i64 k/\Hid (wr.heap[g]?=some (.cells L.toArray 3 (0,0))/\L.length=N/\∀j,j<k->L[j]?=some (.int .i64 (-1)))/\Below w.heap.size w wr)
 case atStart=>exact⟨1,L1,cE _,h0,rfl,by rw[show Nat.min 1 N=1 from by show min 1 N=1;omega],H3,am⟩
 case round=>
  clear H3 am;obtain⟨k,L,aI,aJ,aK,rfl,J,hb⟩:=hrel;by_cases aL:k<N
  .obtain⟨q,hq⟩:=eX (Nat.min k gk);have az:q=min k gk:=hq;have aM:0<q/\q<=gk/\q<=k:=cM;have aF:(k:Int)<(N:Int):=cM;have an:wr.drew.heap[g]?=some (.cells L.toArray 3 (0,0)):=J.1;have ap:(List.replicate q (Value.int .i64 (-1))).length=Nat.min k gk:=lO▸hq;have E:k+(List.replicate q (Value.int .i64 (-1))).length<=L.length:=by rw[lO,J.2.1];omega
   have af:∀v∈List.replicate q (Value.int .i64 (-1)),v.oneCell'=true:=by intro v F;rw[(Ww.1 F).2];rfl
   have aq:0<(List.replicate q (Value.int .i64 (-1))).length->(if N=k then some ⟨g,0,none⟩else some ⟨g,k,none⟩:Option Addr)=some ⟨g,k,none⟩/\∃ad,(some ⟨g,0,none⟩:Option Addr)=some ad/\∀j v,(List.replicate q (Value.int .i64 (-1)))[j]?=some v->wr.drew.cell? (ad.add j)=some v:=by
    refine λ_=>⟨cK cM,_,rfl,λj v F=>?_⟩
    rw[iK,dU,Ib an];have hj:j<q:=by
     by_cases h:j<q
     .exact h
     .rw[dO iY]at F;cases F
    rw[J.2.2 j cM];simp[hj]at F;rw[F]
   have aA:=hb.drew;have aB:=HG;have ag:Hid (∀w3:World,w3.heap[g]?=some (.cells (splice L k (List.replicate q (Value.int .i64 (-1)))).toArray 3 (0,0))->w3.heap[g]?=some (.cells (splice L k (List.replicate q (Value.int .i64 (-1)))).toArray 3 (0,0))/\(splice L k (List.replicate q (Value.int .i64 (-1)))).length=N/\∀j,j<k+q->(splice L k (List.replicate q (Value.int .i64 (-1))))[j]?=some (.int .i64 (-1))):=λw3 h=>⟨h,by rw[length_splice _ _ _ E];exact J.2.1,λj hj=>AN E (λaC=>J.2.2 j aC) (λu hu=>(Ww.1 hu).2) (lO▸hj)⟩
   have HQ:=cO hq.symm;have aD:Hid (IntKind.i64.wrap ((k:Int)+(q:Int))=((k+q:Nat):Int)):=by show _=_;simp only[IntKind.wrap_i64];omega
   have ar:Hid (k+q<=N/\N-(k+q)<gk):=⟨cM,cM⟩
   clear J hq az;go_wp2_with fail;go_region_held3 (λW=>Below w.heap.size w W) (repeat(first|exact cN _ _|assumption|refine eb ?_|refine dQ ?_ _))
    ((refine step_copy_splice rfl _ _ _ _ rfl 3 kN M (if N=k then some ⟨g,0,none⟩else some ⟨g,k,none⟩) (some ⟨g,0,none⟩) gk gk k N rfl rfl g k L 3 an (List.replicate q (Value.int .i64 (-1))) ap aq E af w.heap.size w aA aB ?_;intro w3 K ae))
   go_wp2_with fail;go_roundg (N-(k+q))
   case measure=>exact ar.2
   case rel=>exact⟨k+q,_,cM,ar.1,rfl,by rw[HQ,aD],ag w3 K,xq⟩
  .have aE:k=N:=cM;subst aE;have HE:Hid (wr.ownsRow w.heap.size 3 1 (.slice (some ⟨g,0,none⟩) k k) k (ic (List.replicate k (-1)))):=by
    have e:=Sk J.2.1 J.2.2;have h:=J.1;rw[e]at h;exact KG h (by simp[ic]) ah HG
   clear J;go_wp2_with fail;go_returns;exact⟨g,HG,rfl,HE,hb⟩
end chk
end Go.Proofs.YtfpkdfeakanlpaaGreatDoor
