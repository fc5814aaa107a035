import Derived.Test.YtfpkdfeakanlpaaGreatDoorMChkHeights
set_option linter.all false
set_option maxRecDepth 100000
set_option maxHeartbeats 8000000
namespace Go.Proofs.YtfpkdfeakanlpaaGreatDoor
open Go.Proofs.Tryz
namespace chk
open RowKit bts pg
def qh{l:List Pr}{k:Nat}(h:k<l.length):pk l (k+1)=pk l k+(l.getD k gu).dw.length:=by unfold pk;rw[mm h,gX,Lq];simp[cB,cG h]
def vS(l:List Pr):∀k,k<=l.length->pk l k<=jH l
 |0,_=>by unfold pk;simp
 |k+1,h=>by
  have D:∀j,j<=l.length->pk l j<=fN kL l j:=by
   intro j
   induction j with
   |zero=>intro _;simp[pk]
   |succ j E=>
    intro F;rw[qh cM,kF gu cM];have:=E cM;have e:kL (l.getD j gu)=(l.getD j gu).fP.length+(l.getD j gu).dw.length:=rfl;omega
  have I:=D (k+1) h;have J:=oW (f:=kL) gu l (l.length-(k+1)) (k+1) cM;unfold jH;omega
def Af(p:Pg)(uk up:Value)(w:World)(hk:lX w uk p.dv)(hp:kZ w up p.cU)(hs:jT p<=1048576)(bS:Bool)(a9:Hid (bS=true↔j5 p)):
  zC 20 #[.agg #[uk,up]] w (zR w (.bool bS)):=by
 have aS:Hid (lX w uk p.dv):=hk;have aT:Hid (kZ w up p.cU):=hp;have bc:jw p.dv<=1048576:=by unfold jT at hs;omega
 have aU:jH p.cU<=1048576:=by unfold jT at hs;omega
 have bs:p.dv.length<=1048576:=by unfold jw at bc;omega
 have bt:p.cU.length<=1048576:=by unfold jH at aU;omega
 have bd:Hid (jH p.cU<=1048576):=aU;obtain⟨ak,ck,rfl,_,_⟩:=hk;obtain⟨ap,cp,rfl,_,_⟩:=hp;obtain⟨nk,az⟩:∃n,n=p.dv.length:=⟨_,rfl⟩
 obtain⟨np,aA⟩:∃n,n=p.cU.length:=⟨_,rfl⟩
 have am:Hid (p.dv.length=nk):=az.symm;have I:Hid (p.cU.length=np):=aA.symm;rw[<-az]at bs aS|-;rw[<-aA]at bt aT|-;clear hs bc aU az aA;have aa:Hid (¬j5 p->false=bS):=by
  intro h;cases bS with
  |false=>rfl
  |true=>exact absurd (a9.out.1 rfl) h
 by_cases q1:np<1
 .have D:Hid (¬j5 p):=by show¬_;intro h;have:=h.1.1.1;have:=I.out;omega
  have d1:decide ((np:Int)<1)=true:=iY;go_enter Lg,Ga;go_wp2_with fail;go_returns;exact⟨jx (aa.out D.out),by go_grown⟩
 by_cases q2:500<np
 .have D:Hid (¬j5 p):=by show¬_;intro h;have:=h.1.1.2.1;have:=I.out;omega
  have d1:decide ((np:Int)<1)=false:=iY;have d2:decide ((500:Int)<(np:Int))=true:=iY;go_enter Lg,Ga;go_wp2_with fail;go_returns;exact⟨jx (aa.out D.out),by go_grown⟩
 by_cases q3:20000<nk
 .have D:Hid (¬j5 p):=by show¬_;intro h;have:=h.1.1.2.2;have:=am.out;omega
  have d1:decide ((np:Int)<1)=false:=iY;have d2:decide ((500:Int)<(np:Int))=false:=iY;have d3:decide ((20000:Int)<(nk:Int))=true:=iY;go_enter Lg,Ga;go_wp2_with fail;go_returns;exact⟨jx (aa.out D.out),by go_grown⟩
 have d1:decide ((np:Int)<1)=false:=iY;have d2:decide ((500:Int)<(np:Int))=false:=iY;have d3:decide ((20000:Int)<(nk:Int))=false:=iY;obtain⟨W0,aB⟩:∃W0,W0=w.alloc (.cells #[.slice ak nk ck,.slice ap np cp] 36):=⟨_,rfl⟩
 have z0:zE W0 w.heap.size 0 (.slice ak nk ck):=by rw[aB];exact fE rfl
 have z1:zE W0 w.heap.size 1 (.slice ap np cp):=by rw[aB];exact fE rfl
 have ae:Hid (zB w W0):=by rw[aB];exact ba
 have be:Hid (lX W0 (.slice ak nk ck) p.dv):=aS.out.below ae.out;have aV:Hid (kZ W0 (.slice ap np cp) p.cU):=aT.out.below ae.out;clear aS aT;go_enter Lg,Ga;go_wp2_with fail;rw[<-aB];clear aB;go_loopw[3] (λi wr=>∃k:Nat,k<=nk/\i=zI k/\Hid (∀j,j<k->qm (p.dv.getD j mU))/\zB W0 wr) (λi _=>nk-(intOf i).toNat)
 case atStart=>exact⟨0,dM _,rfl,λj hj=>absurd hj cM,cN _ _⟩
 case round=>
  obtain⟨k,hk,rfl,F,E⟩:=hrel;have r0:=di z0 E;have r1:=di z1 E;have L:Hid (zB w wr):=ae.out.trans (E.mono ae.out.size);have ad:=L.out.size;by_cases K:k<nk
  .obtain⟨_,_,eK,_,rK⟩:=be.out.below E;simp only[de]at eK;obtain⟨rfl,-,rfl⟩:=eK;obtain⟨b,off,ut,rfl,c0,c1,c2,ht⟩:=rK k (by rw[am.out];exact K);clear rK;generalize hD:p.dv.getD k mU=d at c0 c1 ht;have HD:Hid (p.dv.getD k mU=d):=hD;clear hD;obtain⟨kb,nn,tx⟩:=d;simp only at c0 c1 ht;obtain⟨aX,cX,rfl,bD,_,_⟩:=ht;have aN:(k:Int)<(nk:Int):=cM;have v0:=iF (o:=.cells #[.bool kb,zI nn,.slice aX tx.length cX] 96) r1;by_cases hT:5000<tx.length
   .have t1:decide ((5000:Int)<(tx.length:Int))=true:=iY;have D:Hid (¬j5 p):=by
     show¬_;intro h;have:=h.1.2.1 k (by rw[am.out];exact K);rw[HD.out]at this;exact absurd this (by unfold qm;simp only;omega)
    clear F;go_wp2_with fail;go_returns;exact⟨jx (aa.out D.out),L.out.alloc ad _⟩
   .have t1:decide ((5000:Int)<(tx.length:Int))=false:=iY;cases kb with
    |true=>
     by_cases aW:nn=0
     .subst aW;have af:Hid (∀j,j<k+1->qm (p.dv.getD j mU)):=by
       intro j hj;by_cases e:j=k
       .rw[e,HD.out];unfold qm;simp;omega
       .exact F.out j cM
      clear F;go_wp2_with fail;go_roundw
      case rel=>exact⟨k+1,cM,l9,af.out,E.alloc E.size _⟩
      case measure=>simp[intOf];omega
     .have t2:(nn != 0)=true:=by simpa using aW
      have D:Hid (¬j5 p):=by show¬_;intro h;have:=h.1.2.1 k (by rw[am.out];exact K);rw[HD.out]at this;exact absurd this (by unfold qm;simp[aW])
      clear F;go_wp2_with fail;go_returns;exact⟨jx (aa.out D.out),L.out.alloc ad _⟩
    |false=>
     by_cases aY:tx.length=0
     .have t3:((tx.length:Int) != 0)=false:=by rw[aY];rfl
      have af:Hid (∀j,j<k+1->qm (p.dv.getD j mU)):=by
       intro j hj;by_cases e:j=k
       .rw[e,HD.out];unfold qm;simp only[aY];simp
       .exact F.out j cM
      clear F;go_wp2_with fail;go_roundw
      case rel=>exact⟨k+1,cM,l9,af.out,E.alloc E.size _⟩
      case measure=>simp[intOf];omega
     .have t3:((tx.length:Int) != 0)=true:=by simp;intro e;simp[e]at aY
      have D:Hid (¬j5 p):=by show¬_;intro h;have:=h.1.2.1 k (by rw[am.out];exact K);rw[HD.out]at this;exact absurd this (by unfold qm;intro h3;have:=h3.2.2 rfl;simp only at this;omega)
      clear F;go_wp2_with fail;go_returns;exact⟨jx (aa.out D.out),L.out.alloc ad _⟩
  .have aZ:nk=k:=cM;subst aZ;have bu:Hid (∀i,i<p.dv.length->qm (p.dv.getD i mU)):=by intro i hi;exact F.out i (by rw[<-am.out];exact hi)
   clear F;go_wp2_with fail;go_loopw[5,6] (λtt i wr=>∃k:Nat,k<=np/\i=zI k/\(∃c:Nat,c<=1048576/\tt=zI c/\Hid (pk p.cU k=c))/\Hid ((∀j,j<k->vX (p.cU.getD j gu))/\(0<k->(p.cU.getD 0 gu).params=0/\(p.cU.getD 0 gu).fP.length=0))/\zB W0 wr) (λ_ i _=>np-(intOf i).toNat)
   case atStart=>exact⟨0,dM _,rfl,⟨0,cM,rfl,by show _=_;simp[pk]⟩,⟨λj hj=>absurd hj cM,λh=>absurd h cM⟩,E⟩
   case round=>
    clear r0 r1 L ad E hk K;obtain⟨k,hk,rfl,⟨c,bE,rfl,HC⟩,F,E⟩:=hrel;have r0:=di z0 E;have r1:=di z1 E;have L:Hid (zB w wr):=ae.out.trans (E.mono ae.out.size);have ad:=L.out.size;by_cases K:k<np
    .obtain⟨_,_,eP,_,rP⟩:=aV.out.below E;simp only[de]at eP;obtain⟨rfl,-,rfl⟩:=eP;obtain⟨b,off,uc,ud,rfl,c0,c1,c2,c3,hc,hd⟩:=rP k (by rw[I.out];exact K);clear rP;have aE:Hid (pk p.cU (k+1)=c+(p.cU.getD k gu).dw.length):=by show _=_;rw[qh (by rw[I.out];exact K),HC.out]
     have a0:c+(p.cU.getD k gu).dw.length<=1048576:=by rw[<-aE.out];exact cV (vS p.cU (k+1) (by rw[I.out];omega)) bd.out
     generalize hD:p.cU.getD k gu=d at c0 c1 hc hd aE a0;have HD:Hid (p.cU.getD k gu=d):=hD;clear hD;obtain⟨J,M,fc,fd⟩:=d;simp only at c0 c1 hc hd aE a0;have an:Hid (qk wr uc fc):=hc;obtain⟨aC,cC,rfl,aI,_⟩:=hc;obtain⟨aD,cD,rfl,aJ,_⟩:=hd;have aN:(k:Int)<(np:Int):=cM;have bv:(c:Int)+(fd.length:Int)<=1048576:=cM;have v1:=iF (o:=.cells #[zI J,zI M,.slice aC fc.length cC,.slice aD fd.length cD] 100) r1;by_cases b1:J<0
     .have t1:decide (J<0)=true:=iY;have D:Hid (¬j5 p):=by
       show¬_;intro h;have:=h.1.2.2.1 k (by rw[I.out];exact K);rw[HD.out]at this;obtain⟨e1,e2,e3,e4,e5,_⟩:=this;simp only at e1 e2 e3 e4 e5;omega
      clear F;go_wp2_with fail;go_returns;exact⟨jx (aa.out D.out),L.out.alloc ad _⟩
     have t1:decide (J<0)=false:=iY;by_cases b2:M<J
     .have t2:decide (M<J)=true:=iY;have D:Hid (¬j5 p):=by
       show¬_;intro h;have:=h.1.2.2.1 k (by rw[I.out];exact K);rw[HD.out]at this;obtain⟨e1,e2,e3,e4,e5,_⟩:=this;simp only at e1 e2 e3 e4 e5;omega
      clear F;go_wp2_with fail;go_returns;exact⟨jx (aa.out D.out),L.out.alloc ad _⟩
     have t2:decide (M<J)=false:=iY;by_cases b3:200<M
     .have t3:decide (200<M)=true:=iY;have D:Hid (¬j5 p):=by
       show¬_;intro h;have:=h.1.2.2.1 k (by rw[I.out];exact K);rw[HD.out]at this;obtain⟨e1,e2,e3,e4,e5,_⟩:=this;simp only at e1 e2 e3 e4 e5;omega
      clear F;go_wp2_with fail;go_returns;exact⟨jx (aa.out D.out),L.out.alloc ad _⟩
     have t3:decide (200<M)=false:=iY;by_cases b4:100<fc.length
     .have t4:decide ((100:Int)<(fc.length:Int))=true:=iY;have D:Hid (¬j5 p):=by
       show¬_;intro h;have:=h.1.2.2.1 k (by rw[I.out];exact K);rw[HD.out]at this;obtain⟨e1,e2,e3,e4,e5,_⟩:=this;simp only at e1 e2 e3 e4 e5;omega
      clear F;go_wp2_with fail;go_returns;exact⟨jx (aa.out D.out),L.out.alloc ad _⟩
     have t4:decide ((100:Int)<(fc.length:Int))=false:=iY;by_cases b5:fd.length=0
     .have t5:((fd.length:Int)==0)=true:=by rw[b5];rfl
      have D:Hid (¬j5 p):=by show¬_;intro h;have:=h.1.2.2.1 k (by rw[I.out];exact K);rw[HD.out]at this;obtain⟨e1,e2,e3,e4,e5,_⟩:=this;simp only at e1 e2 e3 e4 e5;omega
      clear F;go_wp2_with fail;go_returns;exact⟨jx (aa.out D.out),L.out.alloc ad _⟩
     have t5:((fd.length:Int)==0)=false:=by simp;intro e;simp[e]at b5
     obtain⟨O,aj⟩:∃n,n=fc.length:=⟨_,rfl⟩
     obtain⟨ld,ai⟩:∃n,n=fd.length:=⟨_,rfl⟩
     have al:Hid (fc.length=O):=aj.symm;have aq:Hid (fd.length=ld):=ai.symm;rw[<-aj]at c2 v1 t4 b4 aI;rw[<-ai]at c3 v1 t5 b5 a0 bv aJ;clear aj ai;by_cases au:k=0/\¬(J=0/\O=0)
     .obtain⟨au,hz⟩:=au;have t6:((k:Int)==0)=true:=by rw[au];rfl
      have D:Hid (¬j5 p):=by
       show¬_;intro h;have h5:=h.1.2.2.2.2;have e0:p.cU.getD 0 gu=p.cU.getD k gu:=by rw[au]
       rw[e0,HD.out]at h5;simp only at h5;have:=al.out;omega
      clear F au;obtain p0|⟨p0,l0⟩:=(by omega:¬J=0\/(J=0/\¬O=0))
      all_goals
       try have t7:(J != 0)=true:=by simpa using p0
       try have t7:(J != 0)=false:=by rw[p0];rfl
       try have t8:((O:Int) != 0)=true:=iY
       clear hz;go_wp2_with fail;go_returns;exact⟨jx (aa.out D.out),L.out.alloc ad _⟩
     have HZ:Hid (0<k+1->(p.cU.getD 0 gu).params=0/\(p.cU.getD 0 gu).fP.length=0):=by
      intro _;by_cases h0:k=0
      .have e0:p.cU.getD 0 gu=p.cU.getD k gu:=by rw[h0]
       rw[e0,HD.out];have:=al.out;show J=0/\fc.length=0;omega
      .exact F.out.2 cM
     obtain⟨k0,p0,l0⟩|k0:=(by omega:(k=0/\J=0/\O=0)\/¬k=0)
     all_goals
      try have t6:((k:Int)==0)=true:=by rw[k0];rfl
      try have t6:((k:Int)==0)=false:=iY
      try have t7:(J != 0)=false:=by rw[p0];rfl
      try have t8:((O:Int) != 0)=false:=by rw[l0];rfl
      clear au k0;try clear p0 l0
      have aO:Hid (Ox wr aC fc):=by obtain⟨_,_,e,_,h⟩:=an.out;simp only[de]at e;obtain⟨rfl,_,_⟩:=e;exact h
      clear an;go_wp2_with fail;have B0:Hid (zB W0 (wr.alloc (.cells #[zI J,zI M,.slice aC O cC,.slice aD ld cD] 100))):=E.alloc E.size _;have s0:=fE (w:=wr) (cs:=#[zI J,zI M,.slice aC O cC,.slice aD ld cD]) (t:=100) (j:=2) (v:=.slice aC O cC) rfl;have a1:Hid (Ox (wr.alloc (.cells #[zI J,zI M,.slice aC O cC,.slice aD ld cD] 100)) aC fc):=aO.out.below (ba);obtain⟨g1,aF⟩:∃g,g=wr.heap.size:=⟨_,rfl⟩
      rw[<-aF]at s0|-;generalize wr.alloc (.cells #[zI J,zI M,.slice aC O cC,.slice aD ld cD] 100)=W1 at*;clear r0 r1 v1 c0 c1 c2 c3 L E ad aO aF;go_loopw[8] (λx wr=>∃i:Nat,i<=O/\x=zI i/\Hid (∀j,j<i->0<=(fc.getD j lY).index/\(fc.getD j lY).index<200)/\zB W1 wr) (λx _=>O-(intOf x).toNat)
      case atStart=>exact⟨0,dM _,rfl,λj hj=>absurd hj cM,cN _ _⟩
      case round=>
       obtain⟨i,bw,rfl,ag,ab⟩:=hrel;have u0:=di s0 ab;have ah:Hid (zB W0 wr):=B0.out.trans (ab.mono B0.out.size);have ar:Hid (zB w wr):=ae.out.trans (ah.out.mono ae.out.size);by_cases aw:i<O
       .obtain⟨b5,ac,rfl,e0,e1⟩:=(a1.out.below ab) i (by rw[al.out];exact aw);have bf:(i:Int)<(O:Int):=cM;generalize bg:(fc.getD i lY).index=ix at e1;have HE:Hid ((fc.getD i lY).index=ix):=bg;clear bg e0;by_cases n1:ix<0
        .have m1:decide (ix<0)=true:=iY;have D:Hid (¬j5 p):=by
          show¬_;intro h;have h6:=(h.1.2.2.1 k (by rw[I.out];exact K)).2.2.2.2.2;rw[HD.out]at h6;have h7:=h6 i (by simp only;rw[al.out];exact aw);simp only at h7;rw[HE.out]at h7;omega
         clear ag;go_wp2_with fail;go_returns;exact⟨jx (aa.out D.out),ar.out⟩
        have m1:decide (ix<0)=false:=iY;by_cases n2:200<=ix
        .have m2:decide (200<=ix)=true:=iY;have D:Hid (¬j5 p):=by
          show¬_;intro h;have h6:=(h.1.2.2.1 k (by rw[I.out];exact K)).2.2.2.2.2;rw[HD.out]at h6;have h7:=h6 i (by simp only;rw[al.out];exact aw);simp only at h7;rw[HE.out]at h7;omega
         clear ag;go_wp2_with fail;go_returns;exact⟨jx (aa.out D.out),ar.out⟩
        have m2:decide (200<=ix)=false:=iY;have aG:Hid (∀j,j<i+1->0<=(fc.getD j lY).index/\(fc.getD j lY).index<200):=by
         intro j hj;by_cases e:j=i
         .rw[e,HE.out];omega
         .exact ag.out j cM
        clear ag;go_wp2_with fail;go_roundw
        case rel=>exact⟨i+1,cM,l9,aG.out,ab⟩
        case measure=>simp[intOf];omega
       .have aK:i=O:=cM;subst aK;have af:Hid ((∀j,j<k+1->vX (p.cU.getD j gu))/\(0<k+1->(p.cU.getD 0 gu).params=0/\(p.cU.getD 0 gu).fP.length=0)):=by
         refine⟨λj hj=>?_,HZ.out⟩;by_cases e:j=k
         .rw[e,HD.out];refine⟨by simp only;omega,by simp only;omega,by simp only;omega,by simp only;have:=al.out;omega,by simp only;have:=aq.out;omega,λj hj=>ag.out j (by rw[<-al.out];exact hj)⟩
         .exact F.out.1 j cM
        have a2:Hid (pk p.cU (k+1)=c+ld):=by show _=_;rw[aE.out,aq.out]
        clear F ag aE;go_wp2_with fail;go_roundw
        case rel=>exact⟨k+1,cM,l9,⟨c+ld,cM,l9,a2.out⟩,af.out,ah.out⟩
        case measure=>simp[intOf];omega
    .have aZ:np=k:=cM;subst aZ;have bh:Hid ((∀i,i<p.cU.length->vX (p.cU.getD i gu))/\(p.cU.getD 0 gu).params=0/\(p.cU.getD 0 gu).fP.length=0):=⟨λi hi=>F.out.1 i (by rw[<-I.out];exact hi),F.out.2 cM⟩
     have bi:Hid (pk p.cU p.cU.length=c):=by show _=_;rw[I.out];exact HC.out
     clear F HC;by_cases bC:20000<c
     .have t1:decide ((20000:Int)<(c:Int))=true:=iY;have D:Hid (¬j5 p):=by
       show¬_;intro h;have h7:=h.1.2.2.2.1;rw[bi.out]at h7;omega
      go_wp2_with fail;go_returns;exact⟨jx (aa.out D.out),L.out⟩
     have t1:decide ((20000:Int)<(c:Int))=false:=iY;have aP:Hid (xC p):=⟨⟨by rw[I.out];omega,by rw[I.out];omega,by rw[am.out];omega⟩,bu.out,bh.out.1,by rw[bi.out];omega,bh.out.2⟩
     go_wp2_with fail;go_loopw[9] (λx wr=>∃k:Nat,k<=np/\x=zI k/\Hid (∀j,j<k->Ot p (p.cU.getD j gu))/\zB W0 wr) (λx _=>np-(intOf x).toNat)
     case atStart=>exact⟨0,dM _,rfl,λj hj=>absurd hj cM,E⟩
     case round=>
      clear r0 r1 L ad E;obtain⟨k,hk,rfl,F,E⟩:=hrel;have r0:=di z0 E;have r1:=di z1 E;have L:Hid (zB w wr):=ae.out.trans (E.mono ae.out.size);have ad:=L.out.size;by_cases K:k<np
      .have bj:Hid (lX wr (.slice ak nk ck) p.dv):=be.out.below E;have bk:Hid (kZ wr (.slice ap np cp) p.cU):=aV.out.below E;obtain⟨_,_,eP,_,rP⟩:=aV.out.below E;simp only[de]at eP;obtain⟨rfl,-,rfl⟩:=eP;obtain⟨b,off,uc,ud,rfl,c0,c1,c2,c3,hc,hd⟩:=rP k (by rw[I.out];exact K);clear rP;have aH:Hid (vX (p.cU.getD k gu)):=aP.out.2.2.1 k (by rw[I.out];exact K);have aL:Hid ((p.cU.getD k gu).dw.length<=1048576):=by
        show _<=_;have e1:=qh (l:=p.cU) (k:=k) (by rw[I.out];exact K);have e2:=vS p.cU (k+1) (by rw[I.out];omega);have e3:=bd.out;omega
       generalize hD:p.cU.getD k gu=d at c0 c1 hc hd aH aL;have HD:Hid (p.cU.getD k gu=d):=hD;clear hD;have an:Hid (qk wr uc d.fP):=hc;have aM:Hid (qO wr ud d.dw):=hd;obtain⟨aC,cC,rfl,aI,_⟩:=hc;obtain⟨aD,cD,rfl,aJ,rD⟩:=hd;have aN:(k:Int)<(np:Int):=cM;obtain⟨J,M,fc,fd⟩:=d;simp only at c0 c1 c2 c3 an aM aI aJ rD aL;have bl:Hid (Lm wr aD fd):=rD;obtain⟨O,aj⟩:∃n,n=fc.length:=⟨_,rfl⟩
       obtain⟨ld,ai⟩:∃n,n=fd.length:=⟨_,rfl⟩
       have al:Hid (fc.length=O):=aj.symm;have aq:Hid (fd.length=ld):=ai.symm;rw[<-aj]at c2 aI;rw[<-ai]at c3 aJ;have bm:ld<=1048576:=by rw[ai];exact aL.out
       rw[<-aj]at an;rw[<-ai]at aM;clear aj ai rD aL;go_wp2_with fail;have B0:Hid (zB W0 (wr.alloc (.cells #[zI J,zI M,.slice aC O cC,.slice aD ld cD] 100))):=E.alloc E.size _;have f0:=fE (w:=wr) (cs:=#[zI J,zI M,.slice aC O cC,.slice aD ld cD]) (t:=100) (j:=0) (v:=zI J) rfl;have f1:=fE (w:=wr) (cs:=#[zI J,zI M,.slice aC O cC,.slice aD ld cD]) (t:=100) (j:=1) (v:=zI M) rfl;have f2:=fE (w:=wr) (cs:=#[zI J,zI M,.slice aC O cC,.slice aD ld cD]) (t:=100) (j:=2) (v:=.slice aC O cC) rfl;have f3:=fE (w:=wr) (cs:=#[zI J,zI M,.slice aC O cC,.slice aD ld cD]) (t:=100) (j:=3) (v:=.slice aD ld cD) rfl;have v0:=iF (o:=.cells #[zI J,zI M,.slice aC O cC,.slice aD ld cD] 100) r0;have v1:=iF (o:=.cells #[zI J,zI M,.slice aC O cC,.slice aD ld cD] 100) r1;have ax:zB wr (wr.alloc (.cells #[zI J,zI M,.slice aC O cC,.slice aD ld cD] 100)):=ba;have a1:Hid (Lm (wr.alloc (.cells #[zI J,zI M,.slice aC O cC,.slice aD ld cD] 100)) aD fd):=bl.out.below ax;have a2:Hid (qk (wr.alloc (.cells #[zI J,zI M,.slice aC O cC,.slice aD ld cD] 100)) (.slice aC O cC) fc):=an.out.below ax;have bn:Hid (qO (wr.alloc (.cells #[zI J,zI M,.slice aC O cC,.slice aD ld cD] 100)) (.slice aD ld cD) fd):=aM.out.below ax;have bx:Hid (lX (wr.alloc (.cells #[zI J,zI M,.slice aC O cC,.slice aD ld cD] 100)) (.slice ak nk ck) p.dv):=bj.out.below ax;have bz:Hid (kZ (wr.alloc (.cells #[zI J,zI M,.slice aC O cC,.slice aD ld cD] 100)) (.slice (some (zA b off)) np cp) p.cU):=bk.out.below ax;obtain⟨g1,aF⟩:∃g,g=wr.heap.size:=⟨_,rfl⟩
       rw[<-aF]at f0 f1 f2 f3|-;generalize wr.alloc (.cells #[zI J,zI M,.slice aC O cC,.slice aD ld cD] 100)=W1 at*;clear r0 r1 c0 c1 c2 c3 L E ad an aM bl bj bk ax aF;go_loopw[11] (λx wr=>∃i:Nat,i<=ld/\x=zI i/\Hid (∀j,j<i->kj p ⟨J,M,fc,fd⟩ (fd.getD j jI)=true)/\zB W1 wr) (λx _=>ld-(intOf x).toNat)
       case atStart=>exact⟨0,dM _,rfl,λj hj=>absurd hj cM,cN _ _⟩
       case round=>
        obtain⟨i,bw,rfl,ag,ab⟩:=hrel;have u0:=di f0 ab;have u1:=di f1 ab;have u2:=di f2 ab;have u3:=di f3 ab;have y0:=di v0 ab;have y1:=di v1 ab;have ah:Hid (zB W0 wr):=B0.out.trans (ab.mono B0.out.size);have ar:Hid (zB w wr):=ae.out.trans (ah.out.mono ae.out.size);by_cases aw:i<ld
        .obtain⟨b5,ac,rfl,e0,e1,e2⟩:=(a1.out.below ab) i (by rw[aq.out];exact aw);have bf:(i:Int)<(ld:Int):=cM;generalize hX:fd.getD i jI=X at e0 e1 e2;have HX:Hid (fd.getD i jI=X):=hX;clear hX;have C:Hid (∀W,zB wr W->zC 42 #[.agg #[.slice ak nk ck,.slice (some (zA b off)) np cp],.agg #[zI J,zI M,.slice aC O cC,.slice (some (zA b5 ac)) ld cD],.agg (zW X.op X.a X.b)] W (zR wr (.bool (kj p ⟨J,M,fc,fd⟩ X)))):=by
          intro W hW;have ay:zB W1 W:=iy ab hW;exact(ED p ⟨J,M,fc,fd⟩ X _ _ _ _ W (bx.out.below ay) (bz.out.below ay) (a2.out.below ay) (bn.out.below ay) (by have:=aH.out.1;have:=aH.out.2.1;simp only at*;omega) aH.out.2.2.1).mono λ_ _ ⟨a,b⟩=>⟨a,iy hW b⟩
         generalize bo:kj p ⟨J,M,fc,fd⟩ X=io at C;have bp:Hid (kj p ⟨J,M,fc,fd⟩ X=io):=bo;clear bo;have HC:Hid (∀W,zB wr W->zE W w.heap.size 0 (.slice ak nk ck)/\zE W w.heap.size 1 (.slice (some (zA b off)) np cp)/\zE W g1 0 (zI J)/\zE W g1 1 (zI M)/\zE W g1 2 (.slice aC O cC)/\zE W g1 3 (.slice (some (zA b5 ac)) ld cD)/\zE W b5 (ac+i*3) (zI X.op)/\zE W b5 (ac+i*3+1) (zI X.a)/\zE W b5 (ac+i*3+2) (zI X.b)):=
          λW hW=>⟨di y0 hW,di y1 hW,di u0 hW,di u1 hW,di u2 hW,di u3 hW,di e0 hW,di e1 hW,di e2 hW⟩
         go_wp2_with fail;go_region_held3 (λW=>(zE W w.heap.size 0 (.slice ak nk ck)/\zE W w.heap.size 1 (.slice (some (zA b off)) np cp)/\zE W g1 0 (zI J)/\zE W g1 1 (zI M)/\zE W g1 2 (.slice aC O cC)/\zE W g1 3 (.slice (some (zA b5 ac)) ld cD)/\zE W b5 (ac+i*3) (zI X.op)/\zE W b5 (ac+i*3+1) (zI X.a)/\zE W b5 (ac+i*3+2) (zI X.b))/\zB wr W) (refine⟨?_,?_⟩<;>first|(refine HC.out _ ?_;repeat(first|exact cN _ _|assumption|refine eb ?_|refine dQ ?_ _))|(repeat(first|exact cN _ _|assumption|refine eb ?_|refine dQ ?_ _)))
          ((go_at_call 42;with_reducible refine(C.out _ ?_).mono ?_;(repeat(first|exact cN _ _|assumption|refine eb ?_|refine dQ ?_ _));rintro e w' ⟨rfl,bF⟩))
         have a3:zB wr w':=xq;have a6:Hid (zB W1 w'):=iy ab a3;have a7:Hid (zB w w'):=ar.out.trans (a3.mono ar.out.size);clear a3 C HC u0 u1 u2 u3 y0 y1 e0 e1 e2;cases io with
         |false=>
          have D:Hid (¬j5 p):=by show¬_;intro h;have h6:=(h.2 k (by rw[I.out];exact K)).1;rw[HD.out]at h6;have h7:=h6 i (by simp only;rw[aq.out];exact aw);simp only at h7;rw[HX.out,bp.out]at h7;cases h7
          go_wp2_with fail;go_returns;exact⟨jx (aa.out D.out),a7.out⟩
         |true=>
          have aG:Hid (∀j,j<i+1->kj p ⟨J,M,fc,fd⟩ (fd.getD j jI)=true):=by
           intro j hj;by_cases e:j=i
           .rw[e,HX.out];exact bp.out
           .exact ag.out j cM
          clear ag;go_wp2_with fail;go_roundw
          case rel=>exact⟨i+1,cM,l9,aG.out,a6.out⟩
          case measure=>simp[intOf];omega
        .have aK:ld=i:=cM;have bA:Hid (ld=i):=aK;have aQ:Hid (∀j,j<fd.length->kj p ⟨J,M,fc,fd⟩ (fd.getD j jI)=true):=λj hj=>ag.out j (by rw[<-bA.out,<-aq.out];exact hj);have CH:Hid (∀W,zB wr W->zC 43 #[.agg #[zI J,zI M,.slice aC O cC,.slice aD ld cD]] W λe w'=>∃b:Bool,e=.returned (.bool b)/\(b=true↔oM (qq fd) fd.length)/\zB W w'):=by
          intro W hW;have ay:zB W1 W:=iy ab hW;exact Aj ⟨J,M,fc,fd⟩ _ _ W (bn.out.below ay) (λi hi=>vz (aQ.out i hi)) aH.out.2.2.2.2.1 (by simp only;rw[aq.out];exact bm)
         clear ag aK;go_wp2_with fail;refine(CH.out _ (cN _ _)).mono ?_;rintro e w2 ⟨bb,rfl,bq,a8⟩;have aR:Hid (bb=true↔oM (qq fd) fd.length):=bq;have a6:Hid (zB W0 w2):=ah.out.trans (a8.mono ah.out.size);have a7:Hid (zB w w2):=ar.out.trans (a8.mono ar.out.size);clear a8 bq CH u0 u1 u2 u3 y0 y1;cases bb with
         |false=>
          have D:Hid (¬j5 p):=by show¬_;intro h;have h6:=(h.2 k (by rw[I.out];exact K)).2;rw[HD.out]at h6;have:=aR.out.2 h6;cases this
          go_wp2_with fail;go_returns;exact⟨jx (aa.out D.out),a7.out⟩
         |true=>
          have af:Hid (∀j,j<k+1->Ot p (p.cU.getD j gu)):=by
           intro j hj;by_cases e:j=k
           .rw[e,HD.out];exact⟨aQ.out,aR.out.1 rfl⟩
           .exact F.out j cM
          clear F;go_wp2_with fail;go_roundw
          case rel=>exact⟨k+1,cM,l9,af.out,a6.out⟩
          case measure=>simp[intOf];omega
      .have br:k=np:=cM;have bB:Hid (true=bS):=by
        show _=_;exact(a9.out.2 ⟨aP.out,λi hi=>F.out i (by rw[br,<-I.out];exact hi)⟩).symm
       clear F;go_wp2_with fail;go_returns;exact⟨jx bB.out,L.out⟩
end chk
end Go.Proofs.YtfpkdfeakanlpaaGreatDoor
