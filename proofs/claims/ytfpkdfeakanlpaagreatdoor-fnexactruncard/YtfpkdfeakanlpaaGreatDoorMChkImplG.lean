import Derived.RangeFuncNested
import Derived.Test.YtfpkdfeakanlpaaGreatDoorMChkImplF
set_option linter.all false
set_option maxRecDepth 100000
set_option maxHeartbeats 8000000
namespace Go.Proofs.YtfpkdfeakanlpaaGreatDoor
open Go.Proofs.Tryz
namespace chk
open RowKit bts pg
variable{e:Ending}{hs:List Int}{N cJ g gB:Nat}{r:Option (List Int×List Nat)}{uc ud:Value}{w w':World}
def KT(g:Nat)(w w':World):Prop:=w.heap.size<=w'.heap.size/\∀b o,w.heap[b]?=some o->(∀h,o≠.cells h 3 (0,0))->b≠g->w'.heap[b]?=some o
def KT.trans{a b c:World}(h:KT g a b)(k:KT g b c):KT g a c:=⟨cV h.1 k.1,λx o F D E=>k.2 x o (h.2 x o F D E) D E⟩
def j4{W D:World}(h:Below W.heap.size W D):KT g W D:=⟨h.size,λk _ E _ _=>(h.block k (dS.1 E).1).trans E⟩
def EE{O:Option Addr}{cT:Nat}{t:List Nat}{uk up:Value}{fp fs:Int}(F:Fi w cJ g gB N hs O cT t uk up uc ud fp fs)(J:w.heap.size<=w'.heap.size)(hk:∀b,b<w.heap.size->b≠g->b≠gB->(Value.slice O t.length cT).ownBlock≠some b->w'.heap[b]?=w.heap[b]?):KT g w w':=by
 refine⟨J,λk o D hc hg=>?_⟩;rw[hk k (dS.1 D).1 hg ?_ ?_]
 .exact D
 .intro e;subst e;obtain⟨h,_⟩|⟨K,c',L,E,_,I,_⟩:=F.fl.own.2
  .simp at h
  .have M:k=K:=by simp at E;exact E.1
   rw[M,I]at D;cases D;exact hc _ rfl
 .intro e;obtain⟨h,_⟩|⟨K,c',L,E,_,I,_⟩:=F.fl.todo.2
  .rw[h]at e;cases e
  .rw[E]at e;have M:K=k:=by simpa[Value.ownBlock]using e
   rw[M]at I;rw[I]at D;cases D;exact hc _ rfl
def SH(w w':World)(e:Ending)(cJ g gB N:Nat)(_:List Int)(_:List Nat)(E F uc ud:Value)(I fs:Int)(r:Option (List Int×List Nat)):Prop:=
 Below cJ w w'/\KT g w w'/\match r with
  |none=>e=.returned (.bool false)
  |some q=>e=.returned (.bool true)/\∃h D,Fi w' cJ g gB N q.1 h D q.2 E F uc ud I fs
def tE{t:List Nat}{h D:Value}{E fs:Int}(F:r=none)(I:e=.returned (.bool false))(J:Below cJ w w')(K:KT g w w'):SH w w' e cJ g gB N hs t h D uc ud E fs r:=by subst F;exact⟨J,K,I⟩
def xM{h:List Int}{t F:List Nat}{I J:Value}{K fs:Int}(L:r=some (h,F))(M:e=.returned (.bool true))(O:Below cJ w w')(hk:KT g w w'){D:Option Addr}{E:Nat}(hF:Fi w' cJ g gB N h D E F I J uc ud K fs):SH w w' e cJ g gB N hs t I J uc ud K fs r:=by subst L;exact⟨O,hk,M,D,E,hF⟩
def uX(dw:List In)(hs:List Int)(t:List Nat)(a:Nat):Option (List Int×List Nat):=
 match Gx dw a (hs.getD a (-1))with
 |none=>none
 |some h=>fO hs t h
def Hu(cJ g gB a:Nat)(hs:List Int)(aT:Option Addr)(cT:Nat)(t:List Nat)(uk up uc:Value)(aD:Option Addr)(cD:Nat)(fp fs:Int)(dw:List In)(w:World)(F:Fi w cJ g gB dw.length hs aT cT t uk up uc (.slice aD dw.length cD) fp fs)(hN:dw.length<=1048576)(ht:t.length<=4194304)(hb:cJ<=w.heap.size)(bj:0<cJ)(hS:Fy w)(hd:Lm w aD dw)(ha:a<dw.length)(hz:0<=hs.getD a (-1)/\hs.getD a (-1)<=300)(hx:Fw dw.length (dw.getD a jI)):
  zC 101 #[zP g,zI a] w λe w'=>SH w w' e cJ g gB dw.length hs t uk up uc (.slice aD dw.length cD) fp fs (uX dw hs t a):=by
 obtain⟨N,aG⟩:=eX dw.length;have bk:=F.ck.lt;have bh:=(F.fl.own.lt gB rfl).2;obtain⟨gx,aH⟩:=eX w.heap.size;have c5:=F.ck.at 5 _ rfl;have c7:=F.ck.at 7 _ rfl;have cH:=F.fl.own.cellAt a cM;rw[wT (F.fl.len▸ha)]at cH;obtain⟨bI,J,rfl,i0,i1,i2⟩:=hd a ha;have ak:Hid (uX dw hs t a=if hs.getD a (-1)-jq (dw.getD a jI)<0\/300<hs.getD a (-1)-jq (dw.getD a jI)+qK (dw.getD a jI)then none else fO hs t (uR (dw.getD a jI) (hs.getD a (-1)-jq (dw.getD a jI))++zF (dw.getD a jI) a (hs.getD a (-1)-jq (dw.getD a jI)))):=by
  show _=_;unfold uX Gx;by_cases h:hs.getD a (-1)-jq (dw.getD a jI)<0\/300<hs.getD a (-1)-jq (dw.getD a jI)+qK (dw.getD a jI)
  .rw[cR h,cR h]
  .rw[cK h,cK h]
 generalize uX dw hs t a=st at ak|-;have bl:=hx.AK;have CM:=λW h1 h2=>JT gx _ (dw.getD a jI) hx W h1 h2;have aW:=λW h1 h2=>Gq gx _ (dw.getD a jI) hx W h1 h2;generalize hs.getD a (-1)=z at*;generalize dw.getD a jI=X at*;have a7:=hx.lo;have a8:=hx.hi;have aN:=hx.Wi;have aX:=hx.loop;have ag:(X.op=18\/X.op=19\/X.op=20\/X.op=21\/X.op=23\/X.op=24\/X.op=26\/X.op=27)->qK X=0:=by intro h;unfold qK;rw[cK cM];obtain h|h|h|h|h|h|h|h:=h<;>rw[h]<;>rfl
 have au:Hid (∀n,zF X a n=if X.op=18\/X.op=23\/X.op=24 then[]else[(a+1,n+qK X)]):=λ_=>rfl;have aw:Hid (∀n,uR X n=if X.op=18\/X.op=19 then[(X.a.toNat,n)]else if X.op=20\/X.op=21 then[(X.a.toNat,n+1)]else if X.op=26\/X.op=27 then[(X.b.toNat,n)]else[]):=λ_=>rfl;have ax:Hid (ON gx X=if 18<=X.op/\X.op<=21 then .pointer (some (zA gx 1))else if 26<=X.op then .pointer (some (zA gx 2))else .pointer none):=rfl;generalize ON gx X=tp at*;generalize jq X=T at*;generalize qK X=L at*;obtain⟨xo,xa,xb⟩:=X;simp only at i0 i1 i2 a7 a8 aN aX ag au aw ax;have HF:Hid (Fi w cJ g gB dw.length hs aT cT t uk up uc (.slice (some (zA bI J)) dw.length cD) fp fs):=F;have aY:Hid (Fy w):=hS;have bm:(a:Int)<(N:Int):=cM;have aZ:(Value.slice aT t.length cT).ownBlock≠some gx:=λe=>by have:=(F.fl.todo.lt gx e).2;omega
 have a0:Hid ((Value.slice aT t.length cT).ownBlock≠some gx):=aZ;clear aZ;obtain⟨W1,ay⟩:=eX (w.alloc (.cells (zW xo xa xb) 105));have aO:zB w W1:=ay▸ba;have I1:Te W1 gx ⟨xo,xa,xb⟩:=ay▸aH▸⟨fE rfl,fE rfl,fE rfl⟩;have a9:W1.heap.size=gx+1:=by rw[ay,aH];simp
 have M:=CM W1 (hS.below aO cM) I1;have aI:Hid (Te W1 gx ⟨xo,xa,xb⟩):=I1;have bb:Hid (zB w W1):=aO;have bc:Hid (W1=w.alloc (.cells (zW xo xa xb) 105)):=ay;have a1:Hid (∀W,Fy W->Te W gx ⟨xo,xa,xb⟩->zC 158 #[zP gx] W (zR W tp)):=aW;rw[<-aG]at c5 c7;have bd:Hid (gx=w.heap.size):=aH;have be:Hid (dw.length=N):=aG.symm;have ah:N<=1048576:=aG▸hN;have bi:g<gx/\gB<gx/\cJ<=gx:=cM;clear F hS hd CM aW hx aO I1 ay aG hN aH;rw[be]at HF|-;go_enter func101,ntmps101;go_wp2_with fail;rw[<-bc,<-bd];refine M.mono ?_;rintro e w2 ⟨rfl,aq⟩;clear M;have I:Hid (zB w w2):=iy bb aq;have aJ:Hid (Te w2 gx ⟨xo,xa,xb⟩):=⟨di aI.1 aq,di aI.2.1 aq,di aI.2.2 aq⟩
 have a2:Hid (gx+1<=w2.heap.size):=by have:=aq.size;rwa[a9]at this
 have aK:Hid (Fi w2 cJ g gB N hs aT cT t uk up uc (.slice (some (zA bI J)) N cD) fp fs):=HF.below I (cE _);have x0:=aJ.1;have x1:=aJ.2.1;have x2:=aJ.2.2;simp only at x0 x1 x2;have d7:=di c7 I;have dH:=di cH I;have a3:Hid (Fy w2):=aY.below I cM;clear aq i0 i1 i2 c5 c7 cH aI HF aY;by_cases aM:z<T
 .have t1:decide (z<T)=true:=by simpa using aM
  have HR:Hid (st=none):=by show _=_;rw[ak,cR (.inl cM)]
  clear ak;go_wp2_with fail;first
   |go_returns
   |(go_quiet (fail)
     go_wp2_with fail;go_returns)
  exact tE HR rfl (by first|exact I.mono hb|exact dQ (I.mono hb) _) (j4 (by first|exact I|exact dQ I _))
 have t1:decide (z<T)=false:=by simpa using aM
 by_cases az:300<z-T+L
 .have t2:decide (300<z-T+L)=true:=by simpa using az
  have HR:Hid (st=none):=by show _=_;rw[ak,cR (.inr az)]
  clear ak;go_wp2_with fail;first
   |go_returns
   |(go_quiet (fail)
     go_wp2_with fail;go_returns)
  exact tE HR rfl (by first|exact I.mono hb|exact dQ (I.mono hb) _) (j4 (by first|exact I|exact dQ I _))
 have t2:decide (300<z-T+L)=false:=by simpa using az
 have E:Hid (st=fO hs t (uR ⟨xo,xa,xb⟩ (z-T)++zF ⟨xo,xa,xb⟩ a (z-T))):=by show _=_;rw[ak,cK cM]
 obtain⟨x,aP⟩:=eX (⟨xo,xa,xb⟩:In);rw[<-aP]at E;have ai:Hid (x=⟨xo,xa,xb⟩):=aP;clear aP;clear ak;have T2:=a1 w2 a3 aJ;clear a1;by_cases ar:xo=18
 .subst ar;have bn:=aN cM cM;have HL:Hid (L=0):=ag cM;clear ag;have aA:Hid (tp=.pointer (some (zA gx 1))):=by show _=_;rw[ax];simp
  rw[aA]at T2;have ad:Hid (uR x (z-T)=[(xa.toNat,z-T+L)]):=by show _=_;rw[ai,aw];have:=HL.out;simp;omega
  go_wp2_with fail;refine T2.mono ?_;rintro e w3 ⟨rfl,D⟩;clear T2;have K:Hid (Below cJ w w3):=(I.mono hb).trans (D.mono (by have:=I.size;omega));have ae:Hid (KT g w w3):=(j4 I).trans (j4 D);have ac:Hid (Fi w3 cJ g gB N hs aT cT t uk up uc (.slice (some (zA bI J)) N cD) fp fs):=aK.below D (cE _);have y0:=di x0 D;have y1:=di x1 D;have y2:=di x2 D;have aQ:Hid (gx+1<=w3.heap.size):=cV a2 D.size;clear D x0 x1 x2 d7 dH;cases O:jd hs t xa.toNat (z-T+L)with
  |none=>
   have HR:Hid (st=none):=by show _=_;rw[E,gR,ad,gQ,O]
   have C:=tw cJ g gB N (xa.toNat) (z-T+L) hs aT cT t uk up uc (.slice (some (zA bI J)) N cD) fp fs w3 ac ah O;rw[(show((xa.toNat:Nat):Int)=xa by omega)]at C;clear E O;go_wp2_with fail;refine C.mono ?_;rintro e w4 ⟨rfl,aa⟩;have af:Hid (Below cJ w w4):=K.trans (aa.mono (by have:=K.size;omega));have aj:Hid (KT g w w4):=ae.trans (j4 aa);clear aa C;go_wp2_with fail;go_returns;exact tE HR rfl af aj
  |some q1=>
   have ap:Hid (fO hs t (uR x (z-T))=some (q1.1,q1.2)):=by show _=_;rw[ad,gQ];exact O
   have C:=qU cJ g gB N (xa.toNat) (z-T+L) hs q1.1 aT cT t q1.2 uk up uc (.slice (some (zA bI J)) N cD) fp fs w3 ac ah cM (by have:=K.size;omega) O;rw[(show((xa.toNat:Nat):Int)=xa by omega)]at C;have a6:Hid (q1.2.length<=4194305):=by show _<=_;have:=tr O;omega
   clear O;go_wp2_with fail;refine C.mono ?_;rintro e w4 ⟨rfl,aR,aS,F4,aa,al⟩;have aB:Hid _:=F4;have af:Hid (Below cJ w w4):=K.trans aa;have aj:Hid (KT g w w4):=ae.trans (EE ac aa.size al);have aC:=al gx (by have:=aQ.out;omega) cM cM a0.out;have v0:=(dK (a:=(zA gx 0)) aC).trans y0;clear F4 aa C al aC y0 y1 y2;have HR:Hid (st=some (q1.1,q1.2)):=by show _=_;rw[E,gR,ap,ai,au];rfl
   clear E;go_wp2_with fail;go_returns;exact xM HR rfl af aj aB
 by_cases ar:xo=23\/xo=24
 .obtain rfl|rfl:=ar;all_goals
   have HL:Hid (L=0):=ag cM;clear ag;have aA:Hid (tp=.pointer none):=by show _=_;rw[ax];rfl
   rw[aA]at T2;have ad:Hid (fO hs t (uR x (z-T))=some (hs,t)):=by show _=_;rw[ai,aw];rfl
   go_wp2_with fail;refine T2.mono ?_;rintro e w3 ⟨rfl,D⟩;clear T2;have K:Hid (Below cJ w w3):=(I.mono hb).trans (D.mono (by have:=I.size;omega));have ae:Hid (KT g w w3):=(j4 I).trans (j4 D);have ac:Hid (Fi w3 cJ g gB N hs aT cT t uk up uc (.slice (some (zA bI J)) N cD) fp fs):=aK.below D (cE _);have y0:=di x0 D;clear D x0 x1 x2 d7 dH;have HR:Hid (st=some (hs,t)):=by show _=_;rw[E,gR,ad,ai,au];rfl
   clear E;go_wp2_with fail;go_returns;exact xM HR rfl K ae ac
 by_cases ar:xo=19\/xo=20\/xo=21\/xo=26\/xo=27
 .obtain⟨jn,aL⟩:∃jn:Nat,(jn:Int)=if xo=26\/xo=27 then xb else xa:=by
   by_cases h:xo=26\/xo=27
   .rw[cR h];exact⟨xb.toNat,by have:=aX cM;omega⟩
   .rw[cK h];exact⟨xa.toNat,by have:=aN cM cM;omega⟩
  obtain⟨y,hy⟩:=eX (if xo=20\/xo=21 then z-T+L+1 else z-T+L);have HL:Hid (L=0):=ag cM;clear ag;have ad:Hid (uR x (z-T)=[(jn,y)]):=by show _=_;rw[ai,aw];have:=HL.out;obtain rfl|rfl|rfl|rfl|rfl:=ar<;>simp at aL hy|- <;> omega
  obtain rfl|rfl|rfl|rfl|rfl:=ar;all_goals
   simp at aL hy;have HJ:Hid _:=aL;have HY:Hid _:=hy;have aU:=ax;simp at aU;rw[aU]at T2;clear aL hy aU;go_wp2_with fail;refine T2.mono ?_;rintro e w3 ⟨rfl,D⟩;clear T2;have K:Hid (Below cJ w w3):=(I.mono hb).trans (D.mono (by have:=I.size;omega));have ae:Hid (KT g w w3):=(j4 I).trans (j4 D);have ac:Hid (Fi w3 cJ g gB N hs aT cT t uk up uc (.slice (some (zA bI J)) N cD) fp fs):=aK.below D (cE _);have y0:=di x0 D;have y1:=di x1 D;have y2:=di x2 D;have aQ:Hid (gx+1<=w3.heap.size):=cV a2 D.size;clear D x0 x1 x2 d7 dH;cases O:jd hs t jn y with
   |none=>
    have HR:Hid (st=none):=by show _=_;rw[E,gR,ad,gQ,O]
    have C:=tw cJ g gB N jn y hs aT cT t uk up uc (.slice (some (zA bI J)) N cD) fp fs w3 ac ah O;rw[HJ,HY]at C;clear E O;go_wp2_with fail;refine C.mono ?_;rintro e w4 ⟨rfl,aa⟩;have af:Hid (Below cJ w w4):=K.trans (aa.mono (by have:=K.size;omega));have aj:Hid (KT g w w4):=ae.trans (j4 aa);clear aa C;go_wp2_with fail;go_returns;exact tE HR rfl af aj
   |some q1=>
    have ap:Hid (fO hs t (uR x (z-T))=some (q1.1,q1.2)):=by show _=_;rw[ad,gQ];exact O
    have C:=qU cJ g gB N jn y hs q1.1 aT cT t q1.2 uk up uc (.slice (some (zA bI J)) N cD) fp fs w3 ac ah cM (by have:=K.size;omega) O;rw[HJ,HY]at C;have a6:Hid (q1.2.length<=4194305):=by show _<=_;have:=tr O;omega
    clear O;go_wp2_with fail;refine C.mono ?_;rintro e w4 ⟨rfl,aR,aS,F4,aa,al⟩;have aB:Hid _:=F4;have af:Hid (Below cJ w w4):=K.trans aa;have aj:Hid (KT g w w4):=ae.trans (EE ac aa.size al);have aC:=al gx (by have:=aQ.out;omega) cM cM a0.out;have v0:=(dK (a:=(zA gx 0)) aC).trans y0;clear F4 aa C al aC y0 y1 y2;have aE:Hid (zF x a (z-T)=[(a+1,z-T+L)]):=by show _=_;rw[ai,au];simp
    have eC:((a+1:Nat):Int)=(a:Int)+1:=cM;cases hn:jd q1.1 q1.2 (a+1) (z-T+L)with
    |none=>
     have HR:Hid (st=none):=by show _=_;rw[E,gR,ap,aE];simp only;rw[gQ];exact hn
     have C:=tw cJ g gB N (a+1) (z-T+L) q1.1 aR aS q1.2 uk up uc (.slice (some (zA bI J)) N cD) fp fs w4 aB ah hn;rw[eC]at C;clear E hn;go_wp2_with fail;refine C.mono ?_;rintro e w9 ⟨rfl,ab⟩;have am:Hid (Below cJ w w9):=af.trans (ab.mono (by have:=af.size;omega));have an:Hid (KT g w w9):=aj.trans (j4 ab);clear ab C;go_wp2_with fail;go_returns;exact tE HR rfl am an
    |some q=>
     have HR:Hid (st=some (q.1,q.2)):=by show _=_;rw[E,gR,ap,aE];simp only;rw[gQ];exact hn
     have C:=qU cJ g gB N (a+1) (z-T+L) q1.1 q.1 aR aS q1.2 q.2 uk up uc (.slice (some (zA bI J)) N cD) fp fs w4 aB ah (by have:=a6.out;omega) (by have:=af.out.size;omega) hn;rw[eC]at C;clear E hn;go_wp2_with fail;refine C.mono ?_;rintro e w9 ⟨rfl,bf,bg,F9,ab,aF⟩;have aV:Hid _:=F9;have am:Hid (Below cJ w w9):=af.trans ab;have an:Hid (KT g w w9):=aj.trans (EE aB ab.size aF);clear ab C F9 aF;go_wp2_with fail;go_returns;exact xM HR rfl am an aV
 have bo:(xo==18)=false:=iY;have bp:(xo==20)=false:=iY;have bq:(xo==21)=false:=iY;have br:(xo==23)=false:=iY;have bs:(xo==24)=false:=iY;clear ag;have aA:Hid (tp=.pointer none):=by show _=_;rw[ax,cK cM,cK cM]
 rw[aA]at T2;have ad:Hid (fO hs t (uR x (z-T))=some (hs,t)):=by show _=_;rw[ai,aw,cK cM,cK cM,cK cM];rfl
 go_wp2_with fail;refine T2.mono ?_;rintro e w3 ⟨rfl,D⟩;clear T2;have K:Hid (Below cJ w w3):=(I.mono hb).trans (D.mono (by have:=I.size;omega));have ae:Hid (KT g w w3):=(j4 I).trans (j4 D);have ac:Hid (Fi w3 cJ g gB N hs aT cT t uk up uc (.slice (some (zA bI J)) N cD) fp fs):=aK.below D (cE _);have y0:=di x0 D;clear D x0 x1 x2 d7 dH;have aE:Hid (zF x a (z-T)=[(a+1,z-T+L)]):=by show _=_;rw[ai,au,cK cM]
 have eC:((a+1:Nat):Int)=(a:Int)+1:=cM;cases hn:jd hs t (a+1) (z-T+L)with
 |none=>
  have HR:Hid (st=none):=by show _=_;rw[E,gR,ad,aE];simp only;rw[gQ];exact hn
  have C:=tw cJ g gB N (a+1) (z-T+L) hs aT cT t uk up uc (.slice (some (zA bI J)) N cD) fp fs w3 ac ah hn;rw[eC]at C;clear E hn;go_wp2_with fail;refine C.mono ?_;rintro e w9 ⟨rfl,ab⟩;have am:Hid (Below cJ w w9):=K.trans (ab.mono (by have:=K.size;omega));have an:Hid (KT g w w9):=ae.trans (j4 ab);clear ab C;go_wp2_with fail;go_returns;exact tE HR rfl am an
 |some q=>
  have HR:Hid (st=some (q.1,q.2)):=by show _=_;rw[E,gR,ad,aE];simp only;rw[gQ];exact hn
  have C:=qU cJ g gB N (a+1) (z-T+L) hs q.1 aT cT t q.2 uk up uc (.slice (some (zA bI J)) N cD) fp fs w3 ac ah (by have:=ht;omega) (by have:=K.size;omega) hn;rw[eC]at C;clear E hn;go_wp2_with fail;refine C.mono ?_;rintro e w9 ⟨rfl,bf,bg,F9,ab,aF⟩;have aV:Hid _:=F9;have am:Hid (Below cJ w w9):=K.trans ab;have an:Hid (KT g w w9):=ae.trans (EE ac ab.size aF);clear ab C F9 aF;go_wp2_with fail;go_returns;exact xM HR rfl am an aV
end chk
end Go.Proofs.YtfpkdfeakanlpaaGreatDoor
