import Derived.Test.YtfpkdfeakanlpaaGreatDoorMChkSpec
set_option linter.all false
set_option maxRecDepth 100000
set_option maxHeartbeats 8000000
namespace Go.Proofs.YtfpkdfeakanlpaaGreatDoor
open Go.Proofs.Tryz
namespace chk
open RowKit bts pg
variable{J:Int}{g:Nat}{D E F I uc ud:Value}{w:World}
def gZ{a b:Bool}(h:a=b):Ending.returned (.bool a)=.returned (.bool b):=by rw[h]
def Fy(w:World):Prop:=∀h,h<28->w.cell? ⟨0,h*4,none⟩=some (.int .i64 (sg h))/\w.cell? ⟨0,h*4+1,none⟩=some (.int .i64 (uS h))/\w.cell? ⟨0,h*4+2,none⟩=some (.int .i64 (tk h))/\w.cell? ⟨0,h*4+3,none⟩=some (.int .i64 (lv h))
def Fy.below{w':World}{B:Nat}(h:Fy w)(E:Below B w w')(F:0<B):Fy w':=by intro D I;obtain⟨J,K,L,M⟩:=h D I;exact⟨(E.cell (p:=(zA (0) (D*4))) F).trans J,(E.cell (p:=(zA (0) (D*4+1))) F).trans K,(E.cell (p:=(zA (0) (D*4+2))) F).trans L,(E.cell (p:=(zA (0) (D*4+3))) F).trans M⟩
def Fy.lt(h:Fy w):0<w.heap.size:=dy _ _ (h 0 cM).1
def Ck(w:World)(g:Nat)(h D:Value)(E fs:Int)(uc ud F I:Value):Prop:=w.heap[g]?=some (.cells #[h,D,.int .i64 E,.int .i64 fs,uc,ud,F,I] 125 (0,0))
def Ck.at{fs:Int}(h:Ck w g D E J fs uc ud F I)(j:Nat)(v:Value)(K:#[D,E,.int .i64 J,.int .i64 fs,uc,ud,F,I][j]?=some v):w.cell? ⟨g,j,none⟩=some v:=by simp only[World.cell?];rw[show w.heap[g]?=_ from h];exact K
def Ck.free{fs:Int}(h:Ck w g D E J fs uc ud F I)(j:Nat):w.frozen? ⟨g,j,none⟩=false:=by simp only[World.frozen?];rw[show w.heap[g]?=_ from h];simp
def tB(g u:Nat)(L:u<10)(M O ac ad:Option Addr)(E ck np cp F cc I cd:Nat)(fp fs v:Int)(vT vB:Value)(h0:0<=fs)(h1:fs<=200)(w:World)(C:Ck w g (.slice M E ck) (.slice O np cp) fp fs (.slice ac F cc) (.slice ad I cd) vT vB):
  zC 96 #[zP g,zI u,zI v] w λe w'=>e=.returned (.bool (kn E np fs F I u v))/\∃m,w'=w.drewN m:=by
 have hc:u=0\/u=1\/u=2\/u=3\/u=4\/u=5\/u=6\/u=7\/u=8\/u=9:=cM;have c0:=C.at 0 _ rfl;have c1:=C.at 1 _ rfl;have c3:=C.at 3 _ rfl;have c4:=C.at 4 _ rfl;have c5:=C.at 5 _ rfl;clear C L;obtain rfl|rfl|rfl|rfl|rfl|rfl|rfl|rfl|rfl|rfl:=hc
 .by_cases D:0<=v
  .have h:Hid (kn E np fs F I 0 v=decide (v<1)):=by show _=_;unfold kn pA db;simp[D]
   have K:decide (0<=v)=true:=by simpa using D
   generalize kn E np fs F I 0 v=J at h|-;go_enter iz,gK;go_wp2;go_returns;exact⟨gZ h.symm,0,rfl⟩
  .have h:Hid (kn E np fs F I 0 v=false):=by show _=_;unfold kn pA;simp[D]
   have K:decide (0<=v)=false:=by simpa using D
   generalize kn E np fs F I 0 v=J at h|-;go_enter iz,gK;go_wp2;go_returns;exact⟨gZ h.symm,0,rfl⟩
 .by_cases D:0<=v
  .have h:Hid (kn E np fs F I 1 v=decide (v<(E:Int))):=by show _=_;unfold kn pA db;simp[D]
   have K:decide (0<=v)=true:=by simpa using D
   generalize kn E np fs F I 1 v=J at h|-;go_enter iz,gK;go_wp2;go_returns;exact⟨gZ h.symm,0,rfl⟩
  .have h:Hid (kn E np fs F I 1 v=false):=by show _=_;unfold kn pA;simp[D]
   have K:decide (0<=v)=false:=by simpa using D
   generalize kn E np fs F I 1 v=J at h|-;go_enter iz,gK;go_wp2;go_returns;exact⟨gZ h.symm,0,rfl⟩
 .by_cases D:0<=v
  .have h:Hid (kn E np fs F I 2 v=decide (v<10)):=by show _=_;unfold kn pA db;simp[D]
   have K:decide (0<=v)=true:=by simpa using D
   generalize kn E np fs F I 2 v=J at h|-;go_enter iz,gK;go_wp2;go_returns;exact⟨gZ h.symm,0,rfl⟩
  .have h:Hid (kn E np fs F I 2 v=false):=by show _=_;unfold kn pA;simp[D]
   have K:decide (0<=v)=false:=by simpa using D
   generalize kn E np fs F I 2 v=J at h|-;go_enter iz,gK;go_wp2;go_returns;exact⟨gZ h.symm,0,rfl⟩
 .by_cases D:0<=v
  .have h:Hid (kn E np fs F I 3 v=decide (v<fs)):=by show _=_;unfold kn pA db;simp[D]
   have K:decide (0<=v)=true:=by simpa using D
   generalize kn E np fs F I 3 v=J at h|-;go_enter iz,gK;go_wp2;go_returns;exact⟨gZ h.symm,0,rfl⟩
  .have h:Hid (kn E np fs F I 3 v=false):=by show _=_;unfold kn pA;simp[D]
   have K:decide (0<=v)=false:=by simpa using D
   generalize kn E np fs F I 3 v=J at h|-;go_enter iz,gK;go_wp2;go_returns;exact⟨gZ h.symm,0,rfl⟩
 .by_cases D:0<=v
  .have h:Hid (kn E np fs F I 4 v=decide (v<fs-2)):=by show _=_;unfold kn pA db;simp[D]
   have K:decide (0<=v)=true:=by simpa using D
   generalize kn E np fs F I 4 v=J at h|-;go_enter iz,gK;go_wp2;go_returns;exact⟨gZ h.symm,0,rfl⟩
  .have h:Hid (kn E np fs F I 4 v=false):=by show _=_;unfold kn pA;simp[D]
   have K:decide (0<=v)=false:=by simpa using D
   generalize kn E np fs F I 4 v=J at h|-;go_enter iz,gK;go_wp2;go_returns;exact⟨gZ h.symm,0,rfl⟩
 .by_cases D:0<=v
  .have h:Hid (kn E np fs F I 5 v=decide (v<(F:Int))):=by show _=_;unfold kn pA db;simp[D]
   have K:decide (0<=v)=true:=by simpa using D
   generalize kn E np fs F I 5 v=J at h|-;go_enter iz,gK;go_wp2;go_returns;exact⟨gZ h.symm,0,rfl⟩
  .have h:Hid (kn E np fs F I 5 v=false):=by show _=_;unfold kn pA;simp[D]
   have K:decide (0<=v)=false:=by simpa using D
   generalize kn E np fs F I 5 v=J at h|-;go_enter iz,gK;go_wp2;go_returns;exact⟨gZ h.symm,0,rfl⟩
 .by_cases D:1<=v
  .have h:Hid (kn E np fs F I 6 v=decide (v<(np:Int))):=by show _=_;unfold kn pA db;simp[D]
   have K:decide (1<=v)=true:=by simpa using D
   generalize kn E np fs F I 6 v=J at h|-;go_enter iz,gK;go_wp2;go_quiet (fail);go_wp2;go_returns;exact⟨gZ h.symm,_,rfl⟩
  .have h:Hid (kn E np fs F I 6 v=false):=by show _=_;unfold kn pA;simp[D]
   have K:decide (1<=v)=false:=by simpa using D
   generalize kn E np fs F I 6 v=J at h|-;go_enter iz,gK;go_wp2;go_quiet (fail);go_wp2;go_returns;exact⟨gZ h.symm,_,rfl⟩
 .by_cases D:0<=v
  .have h:Hid (kn E np fs F I 7 v=decide (v<12)):=by show _=_;unfold kn pA db;simp[D]
   have K:decide (0<=v)=true:=by simpa using D
   generalize kn E np fs F I 7 v=J at h|-;go_enter iz,gK;go_wp2;go_returns;exact⟨gZ h.symm,0,rfl⟩
  .have h:Hid (kn E np fs F I 7 v=false):=by show _=_;unfold kn pA;simp[D]
   have K:decide (0<=v)=false:=by simpa using D
   generalize kn E np fs F I 7 v=J at h|-;go_enter iz,gK;go_wp2;go_returns;exact⟨gZ h.symm,0,rfl⟩
 .by_cases D:0<=v
  .have h:Hid (kn E np fs F I 8 v=decide (v<51)):=by show _=_;unfold kn pA db;simp[D]
   have K:decide (0<=v)=true:=by simpa using D
   generalize kn E np fs F I 8 v=J at h|-;go_enter iz,gK;go_wp2;go_returns;exact⟨gZ h.symm,0,rfl⟩
  .have h:Hid (kn E np fs F I 8 v=false):=by show _=_;unfold kn pA;simp[D]
   have K:decide (0<=v)=false:=by simpa using D
   generalize kn E np fs F I 8 v=J at h|-;go_enter iz,gK;go_wp2;go_returns;exact⟨gZ h.symm,0,rfl⟩
 .by_cases D:0<=v
  .have h:Hid (kn E np fs F I 9 v=decide (v<(I:Int))):=by show _=_;unfold kn pA db;simp[D]
   have K:decide (0<=v)=true:=by simpa using D
   generalize kn E np fs F I 9 v=J at h|-;go_enter iz,gK;go_wp2;go_returns;exact⟨gZ h.symm,0,rfl⟩
  .have h:Hid (kn E np fs F I 9 v=false):=by show _=_;unfold kn pA;simp[D]
   have K:decide (0<=v)=false:=by simpa using D
   generalize kn E np fs F I 9 v=J at h|-;go_enter iz,gK;go_wp2;go_returns;exact⟨gZ h.symm,0,rfl⟩
def Az(J:Bool)(F:Int)(K:Option Addr)(m L:Nat)(w:World)(b:Bool)(I:Hid (b=true↔(m<=5000/\(J=true->F=0)/\(J=false->m=0)))):
  zC 94 #[.agg #[.bool J,zI F,.slice K m L]] w (zR w (.bool b)):=by
 cases J with
 |true=>
  by_cases D:F=0
  .have M:(F==0)=true:=by simpa using D
   have E:Hid (decide ((m:Int)<=5000)=b):=by
    show _=_;by_cases h:m<=5000
    .rw[fM cM,I.2 ⟨h,λ_=>D,λe=>by cases e⟩]
    .rw[fj cM];cases b with
     |false=>rfl
     |true=>exact absurd (I.1 rfl).1 h
   clear D;go_enter Vh,Th;go_wp2;go_returns;exact⟨gZ (by first|exact E|(rw[<-E];simp)),by go_grown⟩
  .have M:(F==0)=false:=by simpa using D
   have E:Hid (false=b):=by
    show _=_;cases b with
    |false=>rfl
    |true=>exact absurd ((I.1 rfl).2.1 rfl) D
   clear D;go_enter Vh,Th;go_wp2;go_returns;exact⟨gZ E,by go_grown⟩
 |false=>
  have E:Hid (((m:Int)==0)=b):=by
   show _=_;by_cases h:m=0
   .subst h;rw[I.2 ⟨cM,λe=>(by cases e),λ_=>rfl⟩];rfl
   .have O:((m:Int)==0)=false:=iY;rw[O];cases b with
    |false=>rfl
    |true=>exact absurd ((I.1 rfl).2.2 rfl) h
  go_enter Vh,Th;go_wp2;go_returns;exact⟨gZ (by first|exact E|(rw[<-E];simp)),by go_grown⟩
def Ag(F fs:Int)(uc:Value)(E:List Cp)(aD:Option Addr)(M cD:Nat)(w:World)(hc:qk w uc E)(ap:M<=1048576)(b:Bool)(O:Hid (b=true↔(0<=F/\F<=fs/\fs<=200/\E.length<=100/\0<M/\∀i,i<E.length->0<=(E.getD i lY).index/\(E.getD i lY).index<200))):
  zC 95 #[.agg #[zI F,zI fs,uc,.slice aD M cD]] w (zR w (.bool b)):=by
 have ae:=cO hc;obtain⟨aC,cC,rfl,aj,_⟩:=hc;obtain⟨J,ab⟩:=eX E.length;have ak:=cO ab.symm;rw[<-ab]at O aj|-;have af:Hid (Ox w aC E):=by obtain⟨_,_,e,_,h⟩:=ae;simp only[de]at e;obtain⟨rfl,_,_⟩:=e;exact h
 have D:Hid (¬(0<=F/\F<=fs/\fs<=200/\J<=100/\0<M/\∀i,i<J->0<=(E.getD i lY).index/\(E.getD i lY).index<200)->false=b):=by
  intro h;cases b with
  |false=>rfl
  |true=>exact absurd (O.1 rfl) h
 clear ab ae;by_cases b1:F<0
 .have t1:decide (F<0)=true:=iY;have K:=cO (D (by rintro⟨e1,e2,e3,e4,e5,_⟩;omega));clear D O;go_enter zU,wZ;go_wp2_with fail;go_returns;exact⟨gZ K,by go_grown⟩
 have t1:decide (F<0)=false:=iY;by_cases b2:fs<F
 .have t2:decide (fs<F)=true:=iY;have K:=cO (D (by rintro⟨e1,e2,e3,e4,e5,_⟩;omega));clear D O;go_enter zU,wZ;go_wp2_with fail;go_returns;exact⟨gZ K,by go_grown⟩
 have t2:decide (fs<F)=false:=iY;by_cases b3:200<fs
 .have t3:decide (200<fs)=true:=iY;have K:=cO (D (by rintro⟨e1,e2,e3,e4,e5,_⟩;omega));clear D O;go_enter zU,wZ;go_wp2_with fail;go_returns;exact⟨gZ K,by go_grown⟩
 have t3:decide (200<fs)=false:=iY;by_cases b4:100<J
 .have t4:decide ((100:Int)<(J:Int))=true:=iY;have K:=cO (D (by rintro⟨e1,e2,e3,e4,e5,_⟩;omega));clear D O;go_enter zU,wZ;go_wp2_with fail;go_returns;exact⟨gZ K,by go_grown⟩
 have t4:decide ((100:Int)<(J:Int))=false:=iY;go_enter zU,wZ;go_wp2_with fail;have B0:Hid (zB w (w.alloc (.cells #[zI F,zI fs,.slice aC J cC,.slice aD M cD] 100))):=ba;have s3:=fE (w:=w) (cs:=#[zI F,zI fs,.slice aC J cC,.slice aD M cD]) (t:=100) (j:=3) (v:=.slice aD M cD) rfl;have al:=cO (af.below B0);obtain⟨g1,ac⟩:=eX w.heap.size;rw[<-ac]at s3|-;have aq:=cO ac;generalize w.alloc (.cells #[zI F,zI fs,.slice aC J cC,.slice aD M cD] 100)=W1 at*;clear ac;go_loopw[29] (λx wr=>∃i:Nat,i<=J/\x=zI i/\Hid (∀j,j<i->0<=(E.getD j lY).index/\(E.getD j lY).index<200)/\zB W1 wr) (λx _=>J-(intOf x).toNat)
 case atStart=>exact⟨0,dM _,rfl,λj hj=>absurd hj cM,cN _ _⟩
 case round=>
  obtain⟨i,ar,rfl,I,L⟩:=hrel;have u3:=di s3 L;have aa:=cO (iy B0 L);have ag:=aa.size;by_cases ad:i<J
  .obtain⟨b5,am,rfl,e0,e1⟩:=(al.below L) i (ak▸ad);have an:(i:Int)<(J:Int):=cM;generalize ah:(E.getD i lY).index=ix at e1;have HE:=cO ah;generalize(E.getD i lY).up=iu at e0;clear ah;by_cases n1:ix<0
   .have m1:decide (ix<0)=true:=iY;have K:Hid (false=b):=D (by
     rintro⟨_,_,_,_,_,e6⟩;have:=e6 i ad;rw[HE]at this;omega)
    clear D O I;go_wp2_with fail;go_returns;exact⟨gZ K,aa.alloc ag _⟩
   have m1:decide (ix<0)=false:=iY;by_cases n2:200<=ix
   .have m2:decide (200<=ix)=true:=iY;have K:Hid (false=b):=D (by
     rintro⟨_,_,_,_,_,e6⟩;have:=e6 i ad;rw[HE]at this;omega)
    clear D O I;go_wp2_with fail;go_returns;exact⟨gZ K,aa.alloc ag _⟩
   have m2:decide (200<=ix)=false:=iY;have ai:Hid (∀j,j<i+1->0<=(E.getD j lY).index/\(E.getD j lY).index<200):=by
    intro j hj;by_cases e:j=i
    .rw[e,HE];omega
    .exact I j cM
   clear I;go_wp2_with fail;go_roundw
   case rel=>exact⟨i+1,cM,l9,ai,L.alloc L.size _⟩
   case measure=>simp[intOf];omega
  .have HE:Hid (decide ((0:Int)<(M:Int))=b):=by
    show _=_;by_cases h:0<M
    .rw[fM cM,O.2 ⟨cM,cM,cM,cM,h,λj hj=>I j cM⟩]
    .rw[fj cM];exact D (by rintro⟨_,_,_,_,e5,_⟩;exact h e5)
   clear I D O;go_wp2_with fail;go_returns;exact⟨gZ (by first|exact HE|(rw[<-HE];simp)),aa⟩
def Cm(p:Pg)(uk up:Value)(w:World)(hk:lX w uk p.dv)(hp:kZ w up p.cU)(hs:jT p<=1048576)(bS:Bool)(aq:Hid (bS=true↔xC p)):
  zC 56 #[.agg #[uk,up]] w (zR w (.bool bS)):=by
 have ar:=cO hk;have au:=cO hp;have ay:jw p.dv<=1048576:=by unfold jT at hs;omega
 have aw:jH p.cU<=1048576:=by unfold jT at hs;omega
 have aH:p.dv.length<=1048576:=by unfold jw at ay;omega
 have aI:p.cU.length<=1048576:=by unfold jH at aw;omega
 have aJ:=cO aw;obtain⟨ak,ck,rfl,_,_⟩:=hk;obtain⟨ap,cp,rfl,_,_⟩:=hp;obtain⟨nk,af⟩:=eX p.dv.length;obtain⟨np,ag⟩:=eX p.cU.length;have M:=cO af.symm;have E:=cO ag.symm;rw[<-af]at aH ar|-;rw[<-ag]at aI au|-;clear hs ay aw af ag;have K:Hid (¬xC p->false=bS):=by
  intro h;cases bS with
  |false=>rfl
  |true=>exact absurd (aq.1 rfl) h
 by_cases q1:np<1
 .have L:Hid (¬xC p):=by show¬_;intro h;have:=h.1.1;have:=E.out;have:=M.out;omega
  have d1:decide ((np:Int)<1)=true:=iY;go_enter La,FX;go_wp2_with fail;go_returns;exact⟨jx (K L),by go_grown⟩
 have d1:decide ((np:Int)<1)=false:=iY;by_cases q2:500<np
 .have L:Hid (¬xC p):=by show¬_;intro h;have:=h.1.2.1;have:=E.out;have:=M.out;omega
  have d2:decide ((500:Int)<(np:Int))=true:=iY;go_enter La,FX;go_wp2_with fail;go_returns;exact⟨jx (K L),by go_grown⟩
 have d2:decide ((500:Int)<(np:Int))=false:=iY;by_cases q3:20000<nk
 .have L:Hid (¬xC p):=by show¬_;intro h;have:=h.1.2.2;have:=E;have:=M.out;omega
  have d3:decide ((20000:Int)<(nk:Int))=true:=iY;go_enter La,FX;go_wp2_with fail;go_returns;exact⟨jx (K L),by go_grown⟩
 have d3:decide ((20000:Int)<(nk:Int))=false:=iY;obtain⟨W0,ah⟩:=eX (w.alloc (.cells #[.slice ak nk ck,.slice ap np cp] 36));have z0:zE W0 w.heap.size 0 (.slice ak nk ck):=ah▸fE rfl;have z1:zE W0 w.heap.size 1 (.slice ap np cp):=ah▸fE rfl;have ac:Hid (zB w W0):=ah▸ba;have aK:=cO (ar.below ac);have az:=cO (au.below ac);have aL:=cO ah;clear ar au ah;go_enter La,FX;go_wp2_with fail;rw[<-aL];go_loopw[28] (λx wr=>∃k:Nat,k<=nk/\x=zI k/\Hid (∀j,j<k->qm (p.dv.getD j mU))/\zB W0 wr) (λx _=>nk-(intOf x).toNat)
 case atStart=>exact⟨0,dM _,rfl,λj hj=>absurd hj cM,cN _ _⟩
 case round=>
  obtain⟨k,hk,rfl,F,D⟩:=hrel;have r1:=di z1 D;have O:=cO (iy ac D);have ai:=O.size;by_cases aa:k<nk
  .obtain⟨_,_,eK,_,rK⟩:=aK.below D;simp only[de]at eK;obtain⟨rfl,-,rfl⟩:=eK;obtain⟨b,off,ut,rfl,c0,c1,c2,ht⟩:=rK k (M▸aa);clear rK;generalize hD:p.dv.getD k mU=d at c0 c1 ht;have HD:=cO hD;clear hD;obtain⟨kb,nn,tx⟩:=d;simp only at c0 c1 ht;obtain⟨aX,cX,rfl,aO,_,_⟩:=ht;have aA:(k:Int)<(nk:Int):=cM;obtain⟨bk,ab⟩:∃bk:Bool,bk=true↔qm ⟨kb,nn,tx⟩:=by
    by_cases h:qm ⟨kb,nn,tx⟩
    .exact⟨true,by simp[h]⟩
    .exact⟨false,by simp[h]⟩
   have aj:=cO ab;have CF:=cO (λW=>Az kb nn aX tx.length cX W bk ab);clear ab;go_wp2_with fail;refine(CF _).mono ?_;rintro e w2 ⟨rfl,ad⟩;have al:=cO ((D.alloc D.size _).trans (ad.mono (by simp;have:=D.size;omega)));clear ad CF;cases bk with
   |false=>
    have L:Hid (¬xC p):=by show¬_;intro h;have:=h.2.1 k (M▸aa);rw[HD]at this;have:=aj.2 this;cases this
    clear F;go_wp2_with fail;go_returns;exact⟨jx (K L),iy ac al⟩
   |true=>
    have am:Hid (∀j,j<k+1->qm (p.dv.getD j mU)):=by
     intro j hj;by_cases e:j=k
     .rw[e,HD];exact aj.1 rfl
     .exact F j cM
    clear F;go_wp2_with fail;go_roundw
    case rel=>exact⟨k+1,cM,l9,am,al⟩
    case measure=>simp[intOf];omega
  .have ae:nk=k:=cM;have aM:Hid (∀i,i<p.dv.length->qm (p.dv.getD i mU)):=by intro i hi;exact F i (by rw[<-ae,<-M];exact hi)
   clear F ae;go_wp2_with fail;go_loopw[5,39] (λtt x wr=>∃k:Nat,k<=np/\x=zI k/\(∃c:Nat,c<=1048576/\tt=zI c/\Hid (pk p.cU k=c))/\Hid (∀j,j<k->vX (p.cU.getD j gu))/\zB W0 wr) (λ_ x _=>np-(intOf x).toNat)
   case atStart=>exact⟨0,dM _,rfl,⟨0,cM,rfl,by show _=_;simp[pk]⟩,λj hj=>absurd hj cM,D⟩
   case round=>
    clear r1 O ai D hk aa;obtain⟨k,hk,rfl,⟨c,aP,rfl,HC⟩,F,D⟩:=hrel;have r1:=di z1 D;have O:=cO (iy ac D);have ai:=O.size;by_cases aa:k<np
    .obtain⟨_,_,eP,_,rP⟩:=az.below D;simp only[de]at eP;obtain⟨rfl,-,rfl⟩:=eP;obtain⟨b,off,uc,ud,rfl,c0,c1,c2,c3,hc,hd⟩:=rP k (E▸aa);clear rP;have an:Hid (pk p.cU (k+1)=c+(p.cU.getD k gu).dw.length):=by show _=_;rw[qh (E▸aa),HC]
     have aB:c+(p.cU.getD k gu).dw.length<=1048576:=by rw[<-an];exact cV (vS p.cU (k+1) (by rw[E];omega)) aJ
     generalize hD:p.cU.getD k gu=d at c0 c1 hc hd an aB;have HD:=cO hD;clear hD;obtain⟨fp,fs,fc,fd⟩:=d;simp only at c0 c1 hc hd an aB;obtain⟨bk,ab⟩:∃bk:Bool,bk=true↔vX ⟨fp,fs,fc,fd⟩:=by
      by_cases h:vX ⟨fp,fs,fc,fd⟩
      .exact⟨true,by simp[h]⟩
      .exact⟨false,by simp[h]⟩
     have aj:=cO ab;obtain⟨aD,cD,rfl,aN,_⟩:=hd;have CF:=cO (λW (hW:zB wr W)=>Ag fp fs uc fc aD fd.length cD W (hc.below hW) cM bk ab);obtain⟨aC,cC,rfl,aE,_⟩:=hc;have aA:(k:Int)<(np:Int):=cM;have aQ:(c:Int)+(fd.length:Int)<=1048576:=cM;clear ab;go_wp2_with fail;refine(CF _ (ba)).mono ?_;rintro e w2 ⟨rfl,ad⟩;have al:=cO ((D.alloc D.size _).trans (ad.mono (by simp;have:=D.size;omega)));have v3:=di (fE (w:=wr) (cs:=#[zI fp,zI fs,.slice aC fc.length cC,.slice aD fd.length cD]) (t:=100) (j:=3) (v:=.slice aD fd.length cD) rfl) ad;clear ad CF;cases bk with
     |false=>
      have L:Hid (¬xC p):=by show¬_;intro h;have:=h.2.2.1 k (E▸aa);rw[HD]at this;have:=aj.2 this;cases this
      clear F;go_wp2_with fail;go_returns;exact⟨jx (K L),iy ac al⟩
     |true=>
      have am:Hid (∀j,j<k+1->vX (p.cU.getD j gu)):=by
       intro j hj;by_cases e:j=k
       .rw[e,HD];exact aj.1 rfl
       .exact F j cM
      clear F;go_wp2_with fail;go_roundw
      case rel=>exact⟨k+1,cM,l9,⟨c+fd.length,cM,l9,an⟩,am,al⟩
      case measure=>simp[intOf];omega
    .have ae:np=k:=cM;have aF:=cO (λi (hi:i<p.cU.length)=>F i (by rw[<-ae,<-E];exact hi));have ax:Hid (pk p.cU p.cU.length=c):=by show _=_;rw[E,ae];exact HC
     clear F HC ae;obtain⟨_,_,eP,_,rP⟩:=az.below D;simp only[de]at eP;obtain⟨rfl,-,rfl⟩:=eP;obtain⟨b,off,uc,ud,rfl,c0,c1,c2,c3,hc,hd⟩:=rP 0 (by rw[E];omega);simp only[gh,eD]at c0 c1 c2 c3;clear rP;have J:Hid (xC p↔c<=20000/\(p.cU.getD 0 gu).params=0/\(p.cU.getD 0 gu).fP.length=0):=by
      constructor
      .intro h;have:=h.2.2.2;rwa[ax]at this
      .rintro⟨h1,h2,h3⟩;exact⟨⟨by rw[E];omega,by rw[E];omega,by rw[M];omega⟩,aM,aF,ax▸h1,h2,h3⟩
     generalize p.cU.getD 0 gu=d at c0 c1 hc hd J;obtain⟨fp,fs,fc,fd⟩:=d;simp only at c0 c1 hc hd J;obtain⟨aC,cC,rfl,aE,_⟩:=hc;obtain⟨aD,cD,rfl,aN,_⟩:=hd;have HB:Hid (bS=true↔c<=20000/\fp=0/\fc.length=0):=⟨λh=>J.1 (aq.1 h),λh=>aq.2 (J.2 h)⟩
     have I:=cO (λ(h:¬(c<=20000/\fp=0/\fc.length=0))=>K (λh'=>h (J.1 h')));obtain⟨lc,aG⟩:=eX fc.length;rw[<-aG]at c2 HB I aE;clear J aF ax aG;by_cases x1:c<=20000
     .have t1:decide ((c:Int)<=20000)=true:=iY;by_cases x2:fp=0
      .have t2:(fp==0)=true:=by simpa using x2
       have HE:Hid (((lc:Int)==0)=bS):=by
        show _=_;by_cases h:lc=0
        .rw[h,HB.2 ⟨x1,x2,h⟩];rfl
        .have e1:((lc:Int)==0)=false:=iY;rw[e1];exact I (λh'=>h h'.2.2)
       clear K I x2 HB;go_wp2_with fail;go_returns;exact⟨jx (by first|exact HE|(rw[<-HE];simp)),O.alloc ai _⟩
      .have t2:(fp==0)=false:=by simpa using x2
       have HE:=cO (I (λh'=>x2 h'.2.1));clear K I HB;go_wp2_with fail;go_returns;exact⟨jx HE,O.alloc ai _⟩
     .have t1:decide ((c:Int)<=20000)=false:=iY;have HE:=cO (I (λh'=>x1 h'.1));clear K I HB;go_wp2_with fail;go_returns;exact⟨jx HE,O.alloc ai _⟩
end chk
end Go.Proofs.YtfpkdfeakanlpaaGreatDoor
