import Derived.Deep.LoopGhost
import Derived.Test.YtfpkdfeakanlpaaGreatDoorMChkRep
set_option linter.all false
set_option maxRecDepth 100000
set_option maxHeartbeats 8000000
namespace Go.Proofs.YtfpkdfeakanlpaaGreatDoor
open Go.Proofs.Tryz
namespace chk
open RowKit bts pg
variable{D hs:List Int}{F:List Nat}{N a g:Nat}{w:World}
def MJ{B E n cap:Nat}{xs:List Value}{x:Value}(h:w.ownsRow B E 1 (.slice (some ⟨g,0,none⟩) (n+1) cap) (n+1) (xs++[x])):w.ownsRow B E 1 (.slice (some ⟨g,0,none⟩) n cap) n xs:=by
 obtain⟨J,K⟩:=h;have L:xs.length=n:=by simp at J;omega
 refine⟨cM,?_⟩;obtain⟨h,_⟩|⟨g',I,D,e,F,M,hn,O,hs,ht⟩:=K
 .simp at h
 .simp only[de,dB,fC,and_true,true_and]at e;obtain⟨rfl,rfl⟩:=e;refine .inr ⟨g,cap,D,rfl,F,M,cM,O,hs,?_⟩;have e2:D.toList.take (n*1)=(D.toList.take ((n+1)*1)).take n:=by rw[OE];congr 1;omega
  rw[e2,ht,List.take_left' L]
def pW(N i:Nat):(List.replicate N (-1:Int)).getD i (-1)=-1:=by simp only[cB,pO];split<;>rfl
def Uz{us:List Value}(E:us.length=hs.length)(h:∀j,j<hs.length->us[j]?=some (.int .i64 (hs.getD j (-1)))):us=ic hs:=by
 apply iE;intro j;by_cases D:j<hs.length
 .rw[h j D,wT D]
 .rw[dO cM,dO (by simp[ic];omega)]
def gR:∀(xs h:List (Nat×Int)) (hs:List Int) (t:List Nat),fO hs t (xs++h)=match fO hs t xs with|none=>none|some (D,E)=>fO D E h
 |[],h,hs,t=>rfl
 |e::xs,h,hs,t=>by
  simp only[ey,fO];cases jd hs t e.1 e.2 with
  |none=>rfl
  |some q=>exact gR xs h q.1 q.2
def gQ(hs:List Int)(t:List Nat)(a:Nat)(n:Int):fO hs t [(a,n)]=jd hs t a n:=by
 simp only[fO];cases jd hs t a n with
 |none=>rfl
 |some q=>rfl
def tr{t E:List Nat}{n:Int}(h:jd hs t a n=some (D,E)):E.length<=t.length+1:=by
 unfold jd at h;split at h
 .split at h
  .simp only[dB,fS]at h;obtain⟨rfl,rfl⟩:=h;simp
  .split at h
   .simp only[dB,fS]at h;obtain⟨rfl,rfl⟩:=h;omega
   .cases h
 .cases h
def UR{dw:List In}{t:List Nat}(I:zt (qq dw) N hs (t++[a]))(h:hs.getD a (-1)-jq (dw.getD a jI)<0\/300<hs.getD a (-1)-jq (dw.getD a jI)+qK (dw.getD a jI)):¬oM (qq dw) N:=
 xJ I (λE D=>by unfold qq at D;rw[cR h]at D;cases D)
def Om{dw:List In}{t:List Nat}(I:zt (qq dw) N hs (t++[a]))(h:fO hs t (zF (dw.getD a jI) a (hs.getD a (-1)-jq (dw.getD a jI)))=none):¬oM (qq dw) N:=
 xJ I (λE D=>by
  unfold qq at D;split at D
  .cases D
  .simp only[dB]at D;subst D;rw[gR,h])
def Qq{dw:List In}{t:List Nat}(I:zt (qq dw) N hs (t++[a]))(h:fO hs t (zF (dw.getD a jI) a (hs.getD a (-1)-jq (dw.getD a jI)))=some (D,F))(J:fO D F (uR (dw.getD a jI) (hs.getD a (-1)-jq (dw.getD a jI)))=none):¬oM (qq dw) N:=
 xJ I (λK E=>by
  unfold qq at E;split at E
  .cases E
  .simp only[dB]at E;subst E;rw[gR,h];exact J)
def RV{dw:List In}{E:List Int}{t J:List Nat}(JG:∀a h K,0<=h->h<=300->qq dw a h=some K->∀e∈K,0<=e.2/\e.2<=300)(I:zt (qq dw) N hs (t++[a]))(L:¬(hs.getD a (-1)-jq (dw.getD a jI)<0\/300<hs.getD a (-1)-jq (dw.getD a jI)+qK (dw.getD a jI)))(h:fO hs t (zF (dw.getD a jI) a (hs.getD a (-1)-jq (dw.getD a jI)))=some (E,J))(M:fO E J (uR (dw.getD a jI) (hs.getD a (-1)-jq (dw.getD a jI)))=some (D,F)):zt (qq dw) N D F/\left D F<left hs (t++[a]):=
 EF JG I (by unfold qq;rw[cK L]) (by rw[gR,h];exact M)
def Fl.Mj{cJ gT cT:Nat}{t:List Nat}(F:Fl w cJ g N hs (.slice (some ⟨gT,0,none⟩) (t.length+1) cT) (t++[a])):Fl w cJ g N hs (.slice (some ⟨gT,0,none⟩) t.length cT) t:=by
 refine⟨F.own,MJ (x:=zI (a:Int)) ?_,F.apart,F.len⟩;have:=F.todo
 rw[vd,dq,j9]at this;exact this
def Aj(f:Pr)(uc ud:Value)(w:World)(hd:qO w ud f.dw)(aR:∀i,i<f.dw.length->Fw f.dw.length (f.dw.getD i jI))(h0:0<f.dw.length)(h1:f.dw.length<=1048576):
  Calls Tryz.prog 43 #[.agg #[.int .i64 f.params,.int .i64 f.da,uc,ud]] w λe w'=>∃b:Bool,e=.returned (.bool b)/\(b=true↔oM (qq f.dw) f.dw.length)/\Below w.heap.size w w':=by
 obtain⟨i0,hi,bw,bx,bz⟩:=fQ vA;obtain⟨fp,fs,fc,dw⟩:=f;simp only at hd aR h0 h1|-;obtain⟨ad,cd,rfl,_,rd⟩:=hd;obtain⟨N,hN⟩:=eX dw.length;have HN:Hid (dw.length=N):=hN.symm;have HP:Hid (∀a h es,0<=h->h<=300->qq dw a h=some es->∀e∈es,0<=e.2/\e.2<=300):=Mb aR;have bA:Hid (∀i,i<N->Fw N (dw.getD i jI)):=hN▸aR;have bd:Hid (Lm w ad dw):=rd;rw[<-hN]at h0 h1|-;clear aR rd hN;have bB:N<=maxLen:=by unfold maxLen;omega
 obtain⟨W0,aH⟩:=eX (w.alloc (.cells #[zI fp,zI fs,uc,.slice ad N cd] 100));have aW:W0.heap.size=w.heap.size+1:=by rw[aH];simp
 have cF:W0.cell? (zA w.heap.size 3)=some (.slice ad N cd):=aH▸fE rfl;have aD:Hid (Below w.heap.size w W0):=aH▸ba;have be:Hid (Lm W0 ad dw):=bd.below aD;go_enter func43,ntmps43;go_wp2_with(at_make;refine lH _ rfl _ _ 62 rfl (w.heap.size+1) 3 i0 (zI 0) 1 kN hi bw bx .i64 .i64 _ _ N rfl rfl rfl rfl (by rw[bz];omega) bB dC ?_;intro w1 K ax)
 rw[<-aH]at K ax;rw[aW]at K;have bf:Below (w.heap.size+1) W0 w1:=(cN _ _).grown ax cM (by intro k hk;cases hk);clear ax bd;have bg:Hid (Below (w.heap.size+1) W0 w1):=bf;have bh:Hid _:=K;clear bf K aH;go_loopw[4] (λi wr=>∃(k:Nat)(us:List Value),k<=N/\i=zI k/\wr.ownsRow (w.heap.size+1) 3 1 (zS (w.heap.size+1) N N) N us/\(∀j,j<k->us[j]?=some (zI (-1)))/\Below (w.heap.size+1) W0 wr) (λi _=>N-(intOf i).toNat)
 case atStart=>exact⟨0,_,dM _,rfl,bh,λj hj=>absurd hj cM,bg⟩
 case round=>
  clear bh bg;obtain⟨k,us,hk,rfl,K,aS,hb⟩:=hrel;by_cases bR:k<N
  .have bT:=K.frozenAt k;have bC:=K.cellAt k cM;have aI:us.length=N:=by have:=K.1;omega
   obtain⟨u,hu⟩:∃u,us[k]?=some u:=⟨_,cG cM⟩
   rw[hu]at bC;have bi:=K.stored k (zI (-1));have H:Hid (_/\_):=bi;have HX:Hid (∀j,j<k->us[j]?=some (zI (-1))):=aS;have HL:Hid (us.length=N):=aI;clear bi aS K aI hu;go_wp2;go_roundw
   case rel=>
    refine⟨k+1,us.set k (zI (-1)),cM,l9,H.1,?_,hb.setCell (p:=(zA (w.heap.size+1) k)) (cE _) _⟩;intro j hj;have hl:=HL.out;by_cases e:j=k
    .subst e;rw[dP cM]
    .rw[dm cM,HX j cM]
   case measure=>simp[intOf];omega
  .have bD:k=N:=cM;subst bD;have e:=Uz (us:=us) (hs:=List.replicate k (-1)) (by have:=K.1;simp;omega) (by intro j hj;rw[pW];exact aS j (by simpa using hj));rw[e]at K;have F0:Fl wr (w.heap.size+1) (w.heap.size+1) k (List.replicate k (-1)) (zN) []:=⟨K,⟨rfl,.inl ⟨rfl,rfl⟩⟩,by simp[Value.ownBlock],dC⟩
   have bj:jd (List.replicate k (-1)) [] 0 0=some ((List.replicate k (-1)).set 0 0,[0]):=by unfold jd;rw[cR (by simpa using h0),pW,cR cM];rfl
   have C:=qb (w.heap.size+1) (w.heap.size+1) k 0 0 _ _ none 0 [] [0] wr F0 h1 dC cM (by have:=hb.size;omega) bj;have HB:Hid (Below (w.heap.size+1) W0 wr):=hb;clear F0 bj K aS e hb;go_wp2_with fail;refine C.mono ?_;rintro e w2 ⟨aT,cT,rfl,F2,bk,_⟩;clear C;have bl:Hid (Below (w.heap.size+1) W0 w2):=HB.trans bk;have bm:Hid (Fl w2 (w.heap.size+1) (w.heap.size+1) k ((List.replicate k (-1)).set 0 0) (.slice aT 1 cT) [0]):=F2;clear F2 bk;simp only[j9];go_wp2_with fail;go_loopg[5] (left ((List.replicate k (-1)).set 0 0) [0]) (λgk v wr=>∃(t:List Nat)(aT:Option Addr)(cT:Nat)(J:List Int),v=.slice aT t.length cT/\Fl wr (w.heap.size+1) (w.heap.size+1) k J (.slice aT t.length cT) t/\zt (qq dw) k J t/\left J t=gk/\gk<=2*k+1/\Below (w.heap.size+1) W0 wr)
   case atStart=>
    refine⟨[0],aT,cT,_,rfl,bm,A8 h0,rfl,?_,bl⟩;unfold left;have:=U3 (λz:Int=>decide (z<0)) ((List.replicate k (-1)).set 0 0);simp only[df,lO,j9]at this|-;omega
   case round=>
    clear bm bl HB;obtain⟨t,aT,cT,J,rfl,F,I,aE,bU,hb⟩:=hrel;have bE:w.heap.size+1<=wr.heap.size:=by have:=hb.size;omega
    have aF:Hid (Below w.heap.size w wr):=aD.trans (hb.mono cM);obtain rfl|⟨t,a,rfl⟩:=U5 t
    .have HG:Hid (oM (qq dw) k):=I6 I;clear I F hb aE;simp only[dG];go_wp2_with fail;go_returns;exact⟨true,rfl,⟨λ_=>HG,λ_=>rfl⟩,aF⟩
    .rw[U6]at F I aE|-;have aJ:(t++[a]).length=t.length+1:=dC;rw[aJ]at F|-;obtain⟨gT,rfl⟩:∃gT,aT=some (zA gT 0):=by
      obtain⟨h,_⟩|⟨g',c',bF,h,_⟩:=F.todo.2
      .simp at h
      .simp only[de]at h;exact⟨g',h.1⟩
     have bn:t.length+1<=cT:=by
      obtain⟨h,_⟩|⟨g',c',bF,h,_,_,hn,_⟩:=F.todo.2
      .simp at h
      .simp only[de]at h;rw[aJ]at hn;omega
     have aZ:=I.todo a dC;have bP:=(I.db a)
     have bo:wr.cell? (zA gT t.length)=some (zI (a:Int)):=by
      have bp:=F.todo
      rw[aJ]at bp;rw[bp.cellAt t.length cM,vd,fB (by simp[nc])];simp[nc]
     have a0:t.length<=4194304:=by unfold left at aE;rw[aJ]at aE;omega
     have F1:=F.Mj;have bG:wr.cell? (zA w.heap.size 3)=some (.slice ad k cd):=(hb.cell (p:=(zA w.heap.size 3)) (by show w.heap.size<w.heap.size+1;omega)).trans cF;obtain⟨bI,bQ,rfl,bq,br,bs⟩:=(be.below (aW▸hb)) a (HN▸aZ.1);have hx:=bA a aZ.1;have bV:=hx.AK;have HI:Hid (zt (qq dw) k J (t++[a])):=I;have bH:Hid (left J (t++[a])=gk):=aE;have BN:Hid (J.getD a (-1)-jq (dw.getD a jI)<0\/300<J.getD a (-1)-jq (dw.getD a jI)+qK (dw.getD a jI)->¬oM (qq dw) k):=λh=>UR HI h;have BX:Hid (fO J t (zF (dw.getD a jI) a (J.getD a (-1)-jq (dw.getD a jI)))=none->¬oM (qq dw) k):=λh=>Om HI h;have BT:Hid (∀E O,fO J t (zF (dw.getD a jI) a (J.getD a (-1)-jq (dw.getD a jI)))=some (E,O)->fO E O (uR (dw.getD a jI) (J.getD a (-1)-jq (dw.getD a jI)))=none->¬oM (qq dw) k):=λ_ _ h h2=>Qq HI h h2;have BO:Hid (¬(J.getD a (-1)-jq (dw.getD a jI)<0\/300<J.getD a (-1)-jq (dw.getD a jI)+qK (dw.getD a jI))->∀E O aa t2,fO J t (zF (dw.getD a jI) a (J.getD a (-1)-jq (dw.getD a jI)))=some (E,O)->fO E O (uR (dw.getD a jI) (J.getD a (-1)-jq (dw.getD a jI)))=some (aa,t2)->zt (qq dw) k aa t2/\left aa t2<gk):=λhn _ _ _ _ h h2=>by rw[<-bH];exact RV HP HI hn h h2
     have a1:=λW=>wR (dw.getD a jI) k hx W;have cH:=F1.own.cellAt a cM;rw[wT (F1.len▸aZ.1)]at cH;generalize hz:J.getD a (-1)=z at*;generalize hX:dw.getD a jI=X at*;have bJ:=hx.lo;have bK:=hx.hi;have a2:=hx.Wi;have aI:=hx.loop;have aK:Hid (∀n,zF X a n=if X.op=18\/X.op=23\/X.op=24 then[]else[(a+1,n+qK X)]):=λ_=>rfl;have aL:Hid (∀n,uR X n=if X.op=18\/X.op=19 then[(X.a.toNat,n)]else if X.op=20\/X.op=21 then[(X.a.toNat,n+1)]else if X.op=26\/X.op=27 then[(X.b.toNat,n)]else[]):=λ_=>rfl;have a3:(X.op=20\/X.op=21)->jq X=1:=by intro h;unfold jq;rw[cK cM];exact Gn cM
     have aU:(X.op=18\/X.op=23\/X.op=24)->qK X=0:=by intro h;unfold qK;rw[cK cM];obtain h|h|h:=h<;>rw[h]<;>rfl
     generalize jq X=T at*;generalize qK X=L at*;obtain⟨x,a6⟩:=eX X;rw[<-a6]at BX BT BO;have ar:Hid (x=X):=a6;clear a6;obtain⟨M,xa,xb⟩:=X;simp only at bq br bs a1 bJ bK a2 aI a3 aU aK aL;have bt:Hid (Fl wr (w.heap.size+1) (w.heap.size+1) k J (zS gT t.length cT) t):=F1;have bL:Hid (Below (w.heap.size+1) W0 wr):=hb;have bW:(a:Int)<(k:Int):=cM;obtain⟨m,hm⟩:=eX t.length;have HM:Hid (t.length=m):=hm.symm;rw[<-hm]at bo a0 bn|-;have a7:Hid (w.heap.size+1<wr.heap.size):=(F1.own.lt _ rfl).2;have a8:Hid (gT<wr.heap.size):=(F1.todo.lt gT rfl).2;clear F F1 I aE hb hx hz hX aJ hm;go_wp2_with fail;refine(a1 _).mono ?_;rintro e w3 ⟨rfl,aG⟩;have au:Hid (Below wr.heap.size wr w3):=(ba).trans (aG.mono dC);have x0:=di (fE (w:=wr) (cs:=(zW M xa xb)) (t:=105) (j:=0) (v:=zI M) rfl) aG;have x1:=di (fE (w:=wr) (cs:=(zW M xa xb)) (t:=105) (j:=1) (v:=zI xa) rfl) aG;have x2:=di (fE (w:=wr) (cs:=(zW M xa xb)) (t:=105) (j:=2) (v:=zI xb) rfl) aG;have HX:Hid (w3.heap.size≥wr.heap.size+1):=by have:=aG.size;simp at this;exact this
     have bX:=di cH au;have F3:Hid (Fl w3 (w.heap.size+1) (w.heap.size+1) k J (zS gT t.length cT) t):=bt.below au (cE _);have ac:Hid (Below (w.heap.size+1) W0 w3):=bL.trans (au.mono bE);clear aG bt a1 bq br bs bo bG cH;by_cases bu:z-T<0
     .have ak:Hid (¬oM (qq dw) k):=BN (.inl bu);clear BN BX BT BO;go_wp2_with fail;go_returns;exact⟨false,rfl,⟨λh=>(by cases h),λh=>absurd h ak⟩,iy aF au⟩
     have bY:0<=z/\z<=300:=cM;have aX:Hid (w.heap.size+1<wr.heap.size):=a7;have aY:Hid (gT<wr.heap.size):=a8;by_cases ay:M=18
     .subst ay;have a9:Hid (z-T<=300):=by show _<=_;omega
      have bZ:=a2 cM cM;have bM:=aU cM;have az:Hid (uR x (z-T)=[(xa.toNat,z-T)]):=by show _=_;rw[ar,aL];simp
      have al:Hid (fO J t (zF x a (z-T))=some (J,t)):=by show _=_;rw[ar,aK];rfl
      have am:Hid (m=t.length):=HM.symm;have aA:Hid (t.length<=4194304):=by show _<=_;rw[HM];exact a0
      have aw:Hid (uR x (z-T)=[(xa.toNat,z-T)]):=az;by_cases ae:jd J t xa.toNat (z-T)=none
      .have ak:Hid (¬oM (qq dw) k):=BT _ _ al (by rw[aw.out,gQ];exact ae);have C:=rQ (w.heap.size+1) (w.heap.size+1) k (xa.toNat) (z-T) J (some (zA gT 0)) cT t w3 (F3) h1 (.inr ae);rw[(show((xa.toNat:Nat):Int)=xa by omega)]at C;rw[<-am]at C;clear BN BX BT BO ae;go_wp2_with fail;refine C.mono ?_;rintro e w5 ⟨rfl,af⟩;have aB:Hid (Below w.heap.size w w5):=(aD.trans (ac.mono cM)).trans (af.mono (by have:=(aD.trans (ac.mono cM)).size;exact this));clear af C;go_wp2_with fail;go_returns;exact⟨false,rfl,⟨λh=>(by cases h),λh=>absurd h ak⟩,aB⟩
      .obtain⟨aa,t2,aC⟩:∃aa t2,jd J t xa.toNat (z-T)=some (aa,t2):=by
        cases h:jd J t xa.toNat (z-T)with
        |none=>exact absurd h ae
        |some q=>exact⟨q.1,q.2,rfl⟩
       have ag:Hid (fO J t (uR x (z-T))=some (aa,t2)):=by show _=_;rw[aw,gQ];exact aC
       have D:=BO cM _ _ _ _ al ag;have ab:Hid _:=D;have ah:=D.2;have C:=qb (w.heap.size+1) (w.heap.size+1) k (xa.toNat) (z-T) J aa (some (zA gT 0)) cT t t2 w3 (F3) h1 (by have:=aA.out;omega) (by have:=a9.out;omega) (by have:=ac.size;omega) aC;rw[(show((xa.toNat:Nat):Int)=xa by omega)]at C;rw[<-am]at C;clear BN BX BT BO ae D aC ag;go_wp2_with fail;refine C.mono ?_;rintro e w5 ⟨bN,bO,rfl,F5,af,_⟩;have bb:Hid _:=F5;have aM:Hid (Below (w.heap.size+1) W0 w5):=ac.trans af;clear F5 af C;go_wp2_with fail;go_roundg (left aa t2)
       case measure=>exact ah
       case rel=>exact⟨t2,_,_,aa,rfl,bb,ab.1,rfl,cM,aM⟩
     by_cases ay:M=23\/M=24
     .obtain rfl|rfl:=ay;all_goals
       have bM:=aU cM;have az:Hid (uR x (z-T)=[]):=by show _=_;rw[ar,aL];simp
       have al:Hid (fO J t (zF x a (z-T))=some (J,t)):=by show _=_;rw[ar,aK];rfl
       have am:Hid (m=t.length):=HM.symm;have aA:Hid (t.length<=4194304):=by show _<=_;rw[HM];exact a0
       have ag:Hid (fO J t (uR x (z-T))=some (J,t)):=by show _=_;rw[az];rfl
       have D:=BO cM _ _ _ _ al ag;have ab:Hid _:=D;have ah:=D.2;clear BN BX BT BO D ag;go_wp2_with fail;go_roundg (left J t)
       case measure=>exact ah
       case rel=>exact⟨t,_,_,J,by rw[<-am],F3,ab.1,rfl,cM,ac⟩
     by_cases ay:M=19\/M=20\/M=21\/M=26\/M=27
     .obtain⟨jn,aV⟩:∃jn:Nat,(jn:Int)=if M=26\/M=27 then xb else xa:=by
       by_cases h:M=26\/M=27
       .rw[cR h];exact⟨xb.toNat,by have:=aI cM;omega⟩
       .rw[cK h];exact⟨xa.toNat,by have:=a2 cM cM;omega⟩
      obtain⟨y,hy⟩:=eX (if M=20\/M=21 then z-T+1 else z-T);have a9:Hid (y<=300):=by
       show _<=_;rw[hy];by_cases h:M=20\/M=21
       .rw[cR h];have:=a3 h;omega
       .rw[cK h];omega
      have az:Hid (uR x (z-T)=[(jn,y)]):=by show _=_;rw[ar,aL];obtain rfl|rfl|rfl|rfl|rfl:=ay<;>simp at aV hy|- <;> omega
      have aN:Hid (zF x a (z-T)=[(a+1,z-T+L)]):=by show _=_;rw[ar,aK];obtain rfl|rfl|rfl|rfl|rfl:=ay<;>simp
      clear a3 aU;obtain rfl|rfl|rfl|rfl|rfl:=ay;all_goals
       simp at aV hy;have HJ:Hid _:=aV;have HY:Hid _:=hy;clear aV hy;have eC:((a+1:Nat):Int)=(a:Int)+1:=cM;by_cases hf:300<z-T+L\/jd J t (a+1) (z-T+L)=none
       .have ak:Hid (¬oM (qq dw) k):=by
         show¬_;obtain h|h:=hf
         .exact BN (.inr h)
         .exact BX (by rw[aN.out,gQ];exact h)
        have C:=rQ (w.heap.size+1) (w.heap.size+1) k (a+1) (z-T+L) J (some (zA gT 0)) cT t w3 F3 h1 hf;rw[eC,HM]at C;clear BN BX BT BO hf;go_wp2_with fail;refine C.mono ?_;rintro e w4 ⟨rfl,ai⟩;have aB:Hid (Below w.heap.size w w4):=(iy aF au).trans (ai.mono (iy aF au).size);clear ai C;go_wp2_with fail;go_returns;exact⟨false,rfl,⟨λh=>(by cases h),λh=>absurd h ak⟩,aB⟩
       .obtain⟨E,O,an⟩:∃E O,jd J t (a+1) (z-T+L)=some (E,O):=by
         cases h:jd J t (a+1) (z-T+L)with
         |none=>exact absurd (.inr h) hf
         |some q=>exact⟨q.1,q.2,rfl⟩
        have bc:z-T+L<=300:=cM;have al:Hid (fO J t (zF x a (z-T))=some (E,O)):=by show _=_;rw[aN,gQ];exact an
        have aA:Hid (O.length<=4194305):=by show _<=_;have:=tr an;have:=HM.out;omega
        have C:=qb (w.heap.size+1) (w.heap.size+1) k (a+1) (z-T+L) J E (some (zA gT 0)) cT t O w3 F3 h1 (by have:=HM.out;omega) bc (by have:=ac.out.size;omega) an;rw[eC,HM]at C;clear hf an;go_wp2_with fail;refine C.mono ?_;rintro e w4 ⟨aO,aP,rfl,F4,ai,aQ⟩;have ap:=aQ wr.heap.size (by have:=HX.out;omega) (by have:=aX.out;omega) (by have:=aY.out;simp only[Value.ownBlock];intro e;simp at e;omega);have y0:=(dK (a:=(zA wr.heap.size 0)) ap).trans x0;have y1:=(dK (a:=(zA wr.heap.size 1)) ap).trans x1;have y2:=(dK (a:=(zA wr.heap.size 2)) ap).trans x2;obtain⟨m4,aq⟩:=eX O.length;have am:Hid (m4=O.length):=aq;have bv:m4<=4194305:=aq▸aA;have F4:Hid (Fl w4 (w.heap.size+1) (w.heap.size+1) k E (.slice aO O.length aP) O):=F4;rw[<-aq];have aj:Hid (Below (w.heap.size+1) W0 w4):=ac.trans ai;clear ai C aQ ap x0 x1 x2 aq;have aw:Hid (uR x (z-T)=[(jn,y)]):=az;by_cases ae:jd E O jn y=none
        .have ak:Hid (¬oM (qq dw) k):=BT _ _ al (by rw[aw.out,gQ];exact ae);have C:=rQ (w.heap.size+1) (w.heap.size+1) k jn y E aO aP O w4 (F4) h1 (.inr ae);rw[HJ,HY]at C;rw[<-am]at C;clear BN BX BT BO ae;go_wp2_with fail;refine C.mono ?_;rintro e w5 ⟨rfl,af⟩;have aB:Hid (Below w.heap.size w w5):=(aD.trans (aj.mono cM)).trans (af.mono (by have:=(aD.trans (aj.mono cM)).size;exact this));clear af C;go_wp2_with fail;go_returns;exact⟨false,rfl,⟨λh=>(by cases h),λh=>absurd h ak⟩,aB⟩
        .obtain⟨aa,t2,aC⟩:∃aa t2,jd E O jn y=some (aa,t2):=by
          cases h:jd E O jn y with
          |none=>exact absurd h ae
          |some q=>exact⟨q.1,q.2,rfl⟩
         have ag:Hid (fO E O (uR x (z-T))=some (aa,t2)):=by show _=_;rw[aw,gQ];exact aC
         have D:=BO cM _ _ _ _ al ag;have ab:Hid _:=D;have ah:=D.2;have C:=qb (w.heap.size+1) (w.heap.size+1) k jn y E aa aO aP O t2 w4 (F4) h1 (by have:=aA.out;omega) (by have:=a9.out;omega) (by have:=aj.out.size;omega) aC;rw[HJ,HY]at C;rw[<-am]at C;clear BN BX BT BO ae D aC ag;go_wp2_with fail;refine C.mono ?_;rintro e w5 ⟨bN,bO,rfl,F5,af,_⟩;have bb:Hid _:=F5;have aM:Hid (Below (w.heap.size+1) W0 w5):=aj.trans af;clear F5 af C;go_wp2_with fail;go_roundg (left aa t2)
         case measure=>exact ah
         case rel=>exact⟨t2,_,_,aa,rfl,bb,ab.1,rfl,cM,aM⟩
     have b0:(M==18)=false:=iY;have b1:(M != 18)=true:=iY;have b2:(M==19)=false:=iY;have b3:(M != 19)=true:=iY;have b4:(M==20)=false:=iY;have b5:(M != 20)=true:=iY;have b6:(M==21)=false:=iY;have b7:(M != 21)=true:=iY;have b8:(M==23)=false:=iY;have b9:(M != 23)=true:=iY;have ca:(M==24)=false:=iY;have cb:(M != 24)=true:=iY;have cc:(M==26)=false:=iY;have ce:(M != 26)=true:=iY;have cf:(M==27)=false:=iY;have cg:(M != 27)=true:=iY;have az:Hid (uR x (z-T)=[]):=by show _=_;rw[ar,aL,cK cM,cK cM,cK cM]
     have aN:Hid (zF x a (z-T)=[(a+1,z-T+L)]):=by show _=_;rw[ar,aK,cK cM]
     have eC:((a+1:Nat):Int)=(a:Int)+1:=cM;by_cases hf:300<z-T+L\/jd J t (a+1) (z-T+L)=none
     .have ak:Hid (¬oM (qq dw) k):=by
       show¬_;obtain h|h:=hf
       .exact BN (.inr h)
       .exact BX (by rw[aN.out,gQ];exact h)
      have C:=rQ (w.heap.size+1) (w.heap.size+1) k (a+1) (z-T+L) J (some (zA gT 0)) cT t w3 F3 h1 hf;rw[eC,HM]at C;clear BN BX BT BO hf;go_wp2_with fail;refine C.mono ?_;rintro e w4 ⟨rfl,ai⟩;have aB:Hid (Below w.heap.size w w4):=(iy aF au).trans (ai.mono (iy aF au).size);clear ai C;go_wp2_with fail;go_returns;exact⟨false,rfl,⟨λh=>(by cases h),λh=>absurd h ak⟩,aB⟩
     .obtain⟨E,O,an⟩:∃E O,jd J t (a+1) (z-T+L)=some (E,O):=by
       cases h:jd J t (a+1) (z-T+L)with
       |none=>exact absurd (.inr h) hf
       |some q=>exact⟨q.1,q.2,rfl⟩
      have bc:z-T+L<=300:=cM;have al:Hid (fO J t (zF x a (z-T))=some (E,O)):=by show _=_;rw[aN,gQ];exact an
      have aA:Hid (O.length<=4194305):=by show _<=_;have:=tr an;have:=HM.out;omega
      have C:=qb (w.heap.size+1) (w.heap.size+1) k (a+1) (z-T+L) J E (some (zA gT 0)) cT t O w3 F3 h1 (by have:=HM.out;omega) bc (by have:=ac.out.size;omega) an;rw[eC,HM]at C;clear hf an;go_wp2_with fail;refine C.mono ?_;rintro e w4 ⟨aO,aP,rfl,F4,ai,aQ⟩;have ap:=aQ wr.heap.size (by have:=HX.out;omega) (by have:=aX.out;omega) (by have:=aY.out;simp only[Value.ownBlock];intro e;simp at e;omega);have y0:=(dK (a:=(zA wr.heap.size 0)) ap).trans x0;have y1:=(dK (a:=(zA wr.heap.size 1)) ap).trans x1;have y2:=(dK (a:=(zA wr.heap.size 2)) ap).trans x2;obtain⟨m4,aq⟩:=eX O.length;have am:Hid (m4=O.length):=aq;have bv:m4<=4194305:=aq▸aA;have F4:Hid (Fl w4 (w.heap.size+1) (w.heap.size+1) k E (.slice aO O.length aP) O):=F4;rw[<-aq];have aj:Hid (Below (w.heap.size+1) W0 w4):=ac.trans ai;clear ai C aQ ap x0 x1 x2 aq;have ag:Hid (fO E O (uR x (z-T))=some (E,O)):=by show _=_;rw[az];rfl
      have D:=BO cM _ _ _ _ al ag;have ab:Hid _:=D;have ah:=D.2;clear BN BX BT BO D ag;go_wp2_with fail;go_roundg (left E O)
      case measure=>exact ah
      case rel=>exact⟨O,_,_,E,by rw[<-am],F4,ab.1,rfl,cM,aj⟩
end chk
end Go.Proofs.YtfpkdfeakanlpaaGreatDoor
