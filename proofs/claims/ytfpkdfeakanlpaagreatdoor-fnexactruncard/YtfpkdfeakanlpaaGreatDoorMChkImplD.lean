import Derived.Test.YtfpkdfeakanlpaaGreatDoorMChkImplF
set_option linter.all false
set_option maxRecDepth 100000
set_option maxHeartbeats 8000000
namespace Go.Proofs.YtfpkdfeakanlpaaGreatDoor
open Go.Proofs.Tryz
namespace chk
open RowKit bts pg
def Mm(op:Nat)(h:op<28):sg op<10/\uS op<10:=by
 revert op;decide
def CG(g:Nat)(p:Pg)(f:Pr)(ak ap ac ad:Option Addr)(ck cp cc cd:Nat)(vT vB:Value)(h0:0<=f.da)(h1:f.da<=200)(w:World)(C:Ck w g (.slice ak p.dv.length ck) (.slice ap p.cU.length cp) f.params f.da (.slice ac f.fP.length cc) (.slice ad f.dw.length cd) vT vB)(hS:Fy w)(hp:SF w ap p.cU)(hd:Lm w ad f.dw)(hnd:f.dw.length<=1048576)(_hnp:p.cU.length<=1048576)(hpos:∀i,i<p.cU.length->∀j,j<(p.cU.getD i gu).fP.length->0<=((p.cU.getD i gu).fP.getD j lY).index)(bb:Bool)(HBB:Hid (bb=true↔∀i,i<f.dw.length->kj p f (f.dw.getD i jI)=true)):
  zC 57 #[zP g] w (zR w (.bool bb)):=by
 obtain⟨n,hn⟩:=eX f.dw.length;have HN:=cO hn.symm;obtain⟨np,hnpE⟩:=eX p.cU.length;have HNP:=cO hnpE.symm;have hw0:=hS.lt;have HCK:=cO (λW (hW:zB w W)=>C.below hW C.lt);have HSH:=cO (λW (hW:zB w W)=>hS.below hW hw0);have HP:=cO hp;have HD:=cO hd;have HPOS:=cO hpos;have c5:=C.at 5 _ rfl;rw[<-hn]at c5 hnd;rw[<-hnpE]at _hnp;clear C hS hp hd hn hpos hnpE;go_enter func57,ntmps57;go_wp2_with fail;go_loopw[11] (λx wr=>∃i:Nat,i<=n/\x=zI i/\Hid (∀j,j<i->kj p f (f.dw.getD j jI)=true)/\zB w wr) (λx _=>n-(intOf x).toNat)
 case atStart=>exact⟨0,dM _,rfl,λj hj=>absurd hj cM,cN _ _⟩
 case round=>
  obtain⟨i,hil,rfl,HOI,hbi⟩:=hrel;have hsz:=hbi.size;by_cases hli:i<n
  .obtain⟨b5,off5,rfl,e0,e1,e2⟩:=(HD.out.below hbi) i (by rw[HN.out];exact hli);have hli':(i:Int)<(n:Int):=cM;generalize hX:f.dw.getD i jI=X at e0 e1 e2;have HX:=cO hX;clear hX;have fin:Hid (kj p f X=false->false=bb):=by
    intro h;cases bb with
    |false=>rfl
    |true=>
     have:=HBB.out.1 rfl i (by rw[HN.out];exact hli);rw[HX.out,h]at this;cases this
   have goes:Hid (kj p f X=true->∀j,j<i+1->kj p f (f.dw.getD j jI)=true):=by
    intro h j hj;by_cases e:j=i
    .rw[e,HX.out];exact h
    .exact HOI.out j cM
   clear HOI;by_cases hlo:X.op<0
   .have d1:decide (X.op<0)=true:=by simpa using hlo
    have HF:=cO (fin.out (by unfold kj;rw[fj cM];rfl));obtain⟨xo,xa,xb⟩:=X;simp only at e0 e1 e2 d1;clear fin goes;go_wp2_with fail;go_returns;exact⟨gZ HF.out,hbi.alloc hsz _⟩
   have d1:decide (X.op<0)=false:=iY;by_cases hhi:28<=X.op
   .have d2:decide (28<=X.op)=true:=by simpa using hhi
    have HF:=cO (fin.out (by unfold kj;rw[fj (show¬X.op<=27 by omega)];simp));obtain⟨xo,xa,xb⟩:=X;simp only at e0 e1 e2 d1 d2;clear fin goes;go_wp2_with fail;go_returns;exact⟨gZ HF.out,hbi.alloc hsz _⟩
   have d2:decide (28<=X.op)=false:=iY;obtain⟨op,hop,eop⟩:=sO (z:=X.op) cM cM;have HI:Hid (kj p f X=(mY p f (sg op) X.a&&(mY p f (uS op) X.b&&(if X.op=10 then(p.cU.getD X.a.toNat gu).fP.all (me f)else true)))):=by show _=_;unfold kj;rw[fM (show 0<=X.op by omega),fM (show X.op<=27 by omega),eop];rfl
   have HKA6:Hid (mY p f (sg op) X.a=true->sg op=6->1<=X.a/\X.a<(p.cU.length:Int)):=by intro h e;have:=vu h;rwa[e]at this
   have H10:Hid (X.op=10->sg op=6):=by intro e;have:op=10:=cM;subst this;rfl
   have hab:=Mm op hop;obtain⟨W1,hW1⟩:=eX (wr.alloc (.cells (zW X.op X.a X.b) 105));have hb1:zB w W1:=by rw[hW1];exact hbi.alloc hsz _
   have KA:Hid (∀W,zB w W->zC 96 #[zP g,zI (sg op),zI X.a] W λe w'=>e=.returned (.bool (mY p f (sg op) X.a))/\∃m,w'=W.drewN m):=λW hW=>tB g (sg op) hab.1 _ _ _ _ _ _ _ _ _ _ _ _ _ _ X.a vT vB h0 h1 W (HCK.out W hW);have KB:Hid (∀W,zB w W->zC 96 #[zP g,zI (uS op),zI X.b] W λe w'=>e=.returned (.bool (mY p f (uS op) X.b))/\∃m,w'=W.drewN m):=λW hW=>tB g (uS op) hab.2 _ _ _ _ _ _ _ _ _ _ _ _ _ _ X.b vT vB h0 h1 W (HCK.out W hW);obtain⟨s0,s1,s2,s3⟩:=HSH.out W1 hb1 op hop;generalize mY p f (sg op) X.a=ka at KA HI HKA6;generalize mY p f (uS op) X.b=kb at KB HI;have HB1:=cO hb1;obtain⟨xo,xa,xb⟩:=X;simp only at e0 e1 e2 d1 d2 eop HI HKA6 H10 KA KB hW1 fin goes;subst eop;have x0:zE W1 wr.heap.size 0 (zI op):=by rw[hW1];exact fE rfl
   have x1:zE W1 wr.heap.size 1 (zI xa):=by rw[hW1];exact fE rfl
   have x2:zE W1 wr.heap.size 2 (zI xb):=by rw[hW1];exact fE rfl
   have ho':(op:Int)<28:=cM;generalize hsa:((sg op:Nat):Int)=sa at s0 KA;generalize hsb:((uS op:Nat):Int)=sb at s1 KB;have HW1:=cO hW1;clear hhi hlo hb1 s2 s3 hsa hsb hW1;cases ka with
   |false=>
    have HF:=cO (fin.out (by rw[HI.out];rfl));clear fin goes HI HKA6 H10;go_wp2_with fail;rw[<-HW1.out];go_quiet (first|(go_at_call 96;with_reducible exact Calls.quiet_of (KA.out _ (dQ HB1.out _)))|(go_at_call 96;with_reducible exact Calls.quiet_of (KB.out _ (dQ HB1.out _))));go_wp2_with fail;go_returns;exact⟨gZ HF.out,dQ HB1.out _⟩
   |true=>
   cases kb with
   |false=>
    have HF:=cO (fin.out (by rw[HI.out];rfl));clear fin goes HI HKA6 H10;go_wp2_with fail;rw[<-HW1.out];go_quiet (first|(go_at_call 96;with_reducible exact Calls.quiet_of (KA.out _ (dQ HB1.out _)))|(go_at_call 96;with_reducible exact Calls.quiet_of (KB.out _ (dQ HB1.out _))));go_wp2_with fail;go_returns;exact⟨gZ HF.out,dQ HB1.out _⟩
   |true=>
    by_cases h10:(op:Int)=10
    .have hk:=HKA6.out (by first|rfl|trivial) (H10.out h10);obtain⟨k,hkx⟩:∃k:Nat,xa=(k:Int):=⟨xa.toNat,cM⟩
     subst hkx;have hkl:k<p.cU.length:=cM;have o10:((op:Int)==10)=true:=by simpa using h10
     obtain⟨b6,off6,uc2,ud2,rfl,z0,z1,z2,z3,hc2,hd2⟩:=(HP.out.below HB1.out) k hkl;have c1:=(HCK.out W1 HB1.out).at 1 _ rfl;have HE:Hid (kj p f ⟨(op:Int),(k:Int),xb⟩=(p.cU.getD k gu).fP.all (me f)):=by show _=_;rw[HI.out,cR h10];rfl
     have hpos:=HPOS.out k hkl;rw[HNP.out]at c1;generalize p.cU.getD k gu=q at z0 z1 hc2 hd2 HE hpos;have DL:Hid (∀W,zB W1 W->zC 97 #[zP g,uc2] W (zR W1 (.bool (q.fP.all (me f))))):=λW hW=>
      (JX g f q.fP _ _ _ _ _ _ _ _ _ _ uc2 vT vB h0 h1 W (HCK.out W (HB1.out.trans (hW.mono HB1.out.size))) (hc2.below hW) hpos).mono λ_ _ ⟨a,b⟩=>⟨a,iy hW b⟩
     obtain⟨a2,c2,rfl,l2,_⟩:=hc2;obtain⟨n2,U9⟩:=eX q.fP.length;rw[<-U9]at z2 DL l2;have hk1:(k:Int)<(np:Int):=by have:=HNP.out;omega
     have HCC:Hid (∀W,zB W1 W->zE W g 1 (.slice (some (zA b6 off6)) np cp)/\zE W wr.heap.size 0 (zI op)/\zE W wr.heap.size 1 (zI k)/\zE W b6 (off6+k*4+2) (.slice a2 n2 c2)):=λW hW=>⟨di c1 hW,di x0 hW,di x1 hW,di z2 hW⟩
     generalize q.fP.all (me f)=lr at DL HE;clear hpos HI HKA6 H10 h10 hk U9 z0 z1 z3 hd2;cases lr with
     |false=>
      have HF:=cO (fin.out HE.out);clear fin goes;go_wp2_with fail;rw[<-HW1.out];go_quiet (first|(go_at_call 96;with_reducible exact Calls.quiet_of (KA.out _ (dQ HB1.out _)))|(go_at_call 96;with_reducible exact Calls.quiet_of (KB.out _ (dQ HB1.out _))));go_wp2_with fail;go_region_held3 (λW=>(zE W g 1 (.slice (some (zA b6 off6)) np cp)/\zE W wr.heap.size 0 (zI op)/\zE W wr.heap.size 1 (zI k)/\zE W b6 (off6+k*4+2) (.slice a2 n2 c2))/\zB W1 W) (refine⟨?_,?_⟩<;>first|(refine HCC.out _ ?_;repeat(first|exact cN _ _|assumption|refine eb ?_|refine dQ ?_ _))|(repeat(first|exact cN _ _|assumption|refine eb ?_|refine dQ ?_ _)))
       ((go_at_call 97;with_reducible refine(DL.out _ ?_).mono ?_;(repeat(first|exact cN _ _|assumption|refine eb ?_|refine dQ ?_ _));rintro e w' ⟨rfl,hb'⟩))
      go_wp2_with fail;go_returns;exact⟨gZ HF.out,HB1.out.trans (tR xq HB1.out.size)⟩
     |true=>
      have HG:=cO (goes.out HE.out);clear fin goes;go_wp2_with fail;rw[<-HW1.out];go_quiet (first|(go_at_call 96;with_reducible exact Calls.quiet_of (KA.out _ (dQ HB1.out _)))|(go_at_call 96;with_reducible exact Calls.quiet_of (KB.out _ (dQ HB1.out _))));go_wp2_with fail;go_region_held3 (λW=>(zE W g 1 (.slice (some (zA b6 off6)) np cp)/\zE W wr.heap.size 0 (zI op)/\zE W wr.heap.size 1 (zI k)/\zE W b6 (off6+k*4+2) (.slice a2 n2 c2))/\zB W1 W) (refine⟨?_,?_⟩<;>first|(refine HCC.out _ ?_;repeat(first|exact cN _ _|assumption|refine eb ?_|refine dQ ?_ _))|(repeat(first|exact cN _ _|assumption|refine eb ?_|refine dQ ?_ _)))
       ((go_at_call 97;with_reducible refine(DL.out _ ?_).mono ?_;(repeat(first|exact cN _ _|assumption|refine eb ?_|refine dQ ?_ _));rintro e w' ⟨rfl,hb'⟩))
      go_wp2_with fail;go_roundw
      case rel=>exact⟨i+1,cM,l9,HG.out,HB1.out.trans (tR xq HB1.out.size)⟩
      case measure=>simp[intOf];omega
    .have o10:((op:Int)==10)=false:=by simpa using h10
     have HG:=cO (goes.out (by rw[HI.out,cK h10];rfl));clear fin goes HI HKA6 H10;go_wp2_with fail;rw[<-HW1.out];go_quiet (first|(go_at_call 96;with_reducible exact Calls.quiet_of (KA.out _ (dQ HB1.out _)))|(go_at_call 96;with_reducible exact Calls.quiet_of (KB.out _ (dQ HB1.out _))));go_wp2_with fail;first
      |go_roundw
      |(go_quiet (fail)
        go_wp2_with fail;go_roundw)
     case rel=>exact⟨i+1,cM,l9,HG.out,by repeat(first|exact HB1.out|refine dQ ?_ _)⟩
     case measure=>simp[intOf];omega
  .have HF:=cO ((HBB.out.2 (λj hj=>HOI.out j (by have:=HN.out;omega))).symm);clear HOI;go_wp2_with fail;go_returns;exact⟨gZ HF.out,hbi⟩
end chk
end Go.Proofs.YtfpkdfeakanlpaaGreatDoor
