import Derived.Test.YtfpkdfeakanlpaaGreatDoorMImMap
set_option linter.all false
set_option maxRecDepth 100000
set_option maxHeartbeats 8000000
namespace Go.Proofs.YtfpkdfeakanlpaaGreatDoor
open Go.Proofs.Tryz
namespace rn
open RowKit pg
variable{cs:Array Value}{rz rz':Bool×Vl}{f:Fr}{xs:List Vl}{b cJ c cap d dap g i j k:Nat}{S S1 S2:Nat→Prop}{r:fW}{V W:St}{R R':eO→fW}{ty:TypeId}{a u:Value}{w w' w1 w2:World}
def Gl(k:Nat):TypeId:=[56,208,210,64,61,3,111,3,56].getD k 0
def DU(k:Nat):Nat:=[3,1,6,2,8,1,7,1,3].getD k 1
def sv(s:List UInt8):Value:=.string ⟨s.toArray⟩
def vc(v:Vl):List Value:=[.int .i64 v.k,.int .i64 v.n,sv v.s]
def pc(e:Vl×Vl):List Value:=vc e.1++vc e.2
def cc(h:Value)(c:Co):List Value:=[h,.int .i64 c.state]++vc c.body++[.int .i64 c.gq,.int .i64 c.want,.int .i64 c.held]
def mO:Value:=.slice none 0 0
def fc(R:eO->fW)(c j:Nat)(f:Fr):List Value:=
 [.bool f.guard,.int .i64 f.want,.int .i64 f.eR,.int .i64 f.eA,if f.guard then mO else(R (5,f.fn,0)).v,if f.guard then mO else(R (7,c,j)).v,if f.guard then mO else(R (8,c,j)).v]
def St.fr(W:St)(c j:Nat):Fr:=(W.cS.getD c dE).cy.getD j pG
def rM(W:St)(t:eO):Nat:=
 if t.1=0 then W.vars.length else if t.1=1 then W.tables.length else if t.1=2 then(W.tables.getD t.2.1 []).length
 else if t.1=3 then W.funcs.length else if t.1=4 then W.cS.length else if t.1=5 then(W.funcs.getD t.2.1 (0,[])).2.length
 else if t.1=6 then(W.cS.getD t.2.1 dE).cy.length else if t.1=7 then(W.fr t.2.1 t.2.2).da.length else(W.fr t.2.1 t.2.2).ops.length
def lJ(W:St)(R:eO->fW)(t:eO):List Value:=
 if t.1=0 then W.vars.flatMap vc
 else if t.1=1 then(List.range W.tables.length).flatMap λi=>[(R (2,i,0)).v]
 else if t.1=2 then(W.tables.getD t.2.1 []).flatMap pc
 else if t.1=3 then(List.range W.funcs.length).flatMap λi=>[.int .i64 (W.funcs.getD i (0,[])).1,(R (5,i,0)).v]
 else if t.1=4 then(List.range W.cS.length).flatMap λc=>cc (R (6,c,0)).v (W.cS.getD c dE)
 else if t.1=5 then(W.funcs.getD t.2.1 (0,[])).2.flatMap λ(x:Nat)=>[.int .i64 (x:Int)]
 else if t.1=6 then(List.range (W.cS.getD t.2.1 dE).cy.length).flatMap λj=>fc R t.2.1 j (W.fr t.2.1 j)
 else if t.1=7 then(W.fr t.2.1 t.2.2).da.flatMap λ(x:Nat)=>[.int .i64 (x:Int)]
 else(W.fr t.2.1 t.2.2).ops.flatMap vc
def fZ(W:St)(t:eO):Prop:=
 (t=(0,0,0)\/t=(1,0,0)\/t=(3,0,0)\/t=(4,0,0))\/(t.1=2/\t.2.1<W.tables.length/\t.2.2=0)\/(t.1=5/\t.2.1<W.funcs.length/\t.2.2=0) \/
 (t.1=6/\t.2.1<W.cS.length/\t.2.2=0)\/((t.1=7\/t.1=8)/\t.2.1<W.cS.length/\t.2.2<(W.cS.getD t.2.1 dE).cy.length/\(W.fr t.2.1 t.2.2).guard=false)
structure Hd where
 ks:Value
 ps:Value
 ins:Value
 pr:Value
 er:Value
def gc(W:St)(R:eO->fW)(H:Hd)(rz:Bool×Vl):List Value:=
 [H.ks,H.ps,H.ins,(R (0,0,0)).v,(R (1,0,0)).v,(R (3,0,0)).v,(R (4,0,0)).v,.int .i64 W.cQ,.bool W.oz,.int .i64 W.dw,H.pr,H.er,.int .i64 W.dz,.int .i64 W.iq,.int .i64 W.size,.bool rz.1]++vc rz.2
structure Sp(cJ g:Nat)(W:St)(R:eO→fW)(H:Hd)(rz:Bool×Vl)(w:World):Prop where
 eH:Rows cJ Gl DU (fZ W) R w
 ij:∀t,fZ W t→(R t).n=rM W t
 cells:∀t,fZ W t→(R t).cs=lJ W R t
 own:∀t,fZ W t→(R t).v.ownBlock≠some g
 block:w.heap[g]?=some (.cells (gc W R H rz).toArray 58 (0,0))
def rG(v:Vl):(vc v).length=3:=rfl
def yx(e:Vl×Vl):(pc e).length=6:=rfl
def rZ(h:Value)(c:Co):(cc h c).length=8:=rfl
def uF(R:eO->fW)(c j:Nat)(f:Fr):(fc R c j f).length=7:=rfl
section
variable{H:Hd}
def Sp.eA(h:Sp cJ g W R H rz w)(D:(gc W R H rz)[j]?=some u):w.cell? ⟨g,j,none⟩=some u:=by simp only[World.cell?,h.block];simpa using D
def Sp.free(h:Sp cJ g W R H rz w)(j:Nat):w.frozen? ⟨g,j,none⟩=false:=frozen_of_row w g j _ _ h.block
def kU:fZ W (0,0,0):=.inl (.inl rfl)
def iT:fZ W (1,0,0):=.inl (.inr (.inl rfl))
def iW:fZ W (3,0,0):=.inl (.inr (.inr (.inl rfl)))
def iN:fZ W (4,0,0):=.inl (.inr (.inr (.inr rfl)))
def mS(h:i<W.tables.length):fZ W (2,i,0):=.inr (.inl ⟨rfl,h,rfl⟩)
def vC(h:i<W.funcs.length):fZ W (5,i,0):=.inr (.inr (.inl ⟨rfl,h,rfl⟩))
def gz(h:c<W.cS.length):fZ W (6,c,0):=.inr (.inr (.inr (.inl ⟨rfl,h,rfl⟩)))
def qZ(h:c<W.cS.length)(D:j<(W.cS.getD c dE).cy.length)(E:(W.fr c j).guard=false):fZ W (7,c,j):=.inr (.inr (.inr (.inr ⟨.inl rfl,h,D,E⟩)))
def vD(h:c<W.cS.length)(D:j<(W.cS.getD c dE).cy.length)(E:(W.fr c j).guard=false):fZ W (8,c,j):=.inr (.inr (.inr (.inr ⟨.inr rfl,h,D,E⟩)))
def nO(h:W.cQ<W.cS.length)(f:Fr)(c:Nat):(W.dN f).cS.getD c dE=if c=W.cQ then {W.co with cy:=W.co.cy.set (W.co.cy.length-1) f}else W.cS.getD c dE:=by
 by_cases e:c=W.cQ
 .subst e;rw[cR rfl];exact ez _ _ _ _ h
 .rw[cK e];exact dR _ _ _ _ _ (λx=>e x.symm)
def gP(h:W.cQ<W.cS.length)(f:Fr)(c:Nat):((W.dN f).cS.getD c dE).cy.length=(W.cS.getD c dE).cy.length:=by
 rw[nO h];by_cases e:c=W.cQ
 .subst e;rw[cR rfl];show(W.co.cy.set _ f).length=W.co.cy.length;rw[df]
 .rw[cK e]
def iB(h:W.cQ<W.cS.length)(D:0<W.co.cy.length)(f:Fr):(W.dN f).fr W.cQ (W.co.cy.length-1)=f:=by unfold St.fr;rw[nO h,cR rfl];exact ez _ _ _ _ cM
def gO(h:W.cQ<W.cS.length)(f:Fr)(D:¬(c=W.cQ/\j=W.co.cy.length-1)):(W.dN f).fr c j=W.fr c j:=by
 unfold St.fr;rw[nO h];by_cases e:c=W.cQ
 .subst e;rw[cR rfl];exact dR _ _ _ _ _ λx=>D ⟨rfl,x.symm⟩
 .rw[cK e]
def jO(W:St)(f:Fr):(W.dN f).cS.length=W.cS.length:=by show(W.cS.set _ _).length=_;rw[df]
def pJ(h:W.cQ<W.cS.length)(D:0<W.co.cy.length)(E:f.guard=W.db.guard)(c j:Nat):((W.dN f).fr c j).guard=(W.fr c j).guard:=by
 by_cases e:c=W.cQ/\j=W.co.cy.length-1
 .obtain⟨rfl,rfl⟩:=e;rw[iB h D,E];rfl
 .rw[gO h f e]
def mF(h:W.cQ<W.cS.length)(D:0<W.co.cy.length)(E:f.guard=W.db.guard)(t:eO):fZ (W.dN f) t↔fZ W t:=by unfold fZ;rw[jO,gP h,pJ h D E];exact j8
def Bf(W:St)(R:eO->fW){r:Nat}(h:j<(W.cS.getD c dE).cy.length)(D:r<7):(lJ W R (6,c,0))[j*7+r]?=(fc R c j (W.fr c j))[r]? :=
 oY (f:=λj=>fc R c j (W.fr c j)) (λj=>uF R c j _) h D
def NT(W:St)(R:eO->fW){r:Nat}(h:c<W.cS.length)(D:r<8):(lJ W R (4,0,0))[c*8+r]?=(cc (R (6,c,0)).v (W.cS.getD c dE))[r]? :=
 oY (f:=λc=>cc (R (6,c,0)).v (W.cS.getD c dE)) (λc=>rZ _ _) h D
def Sp.cy(h:Sp cJ g W R H rz w)(I:c<W.cS.length)(J:0<(W.cS.getD c dE).cy.length):
  ∃b cap,(R (6,c,0)).v=.slice (some ⟨b,0,none⟩) (W.cS.getD c dE).cy.length cap/\cJ<=b/\b≠g/\∀j r u,j<(W.cS.getD c dE).cy.length->r<7->(fc R c j (W.fr c j))[r]?=some u->w.cell? ⟨b,j*7+r,none⟩=some u:=by
 have D:=gz (W:=W) I;have E:(R (6,c,0)).n=(W.cS.getD c dE).cy.length:=h.ij _ D;obtain⟨b,cap,F,K,_⟩:=h.eH.uE D (E▸J);refine⟨b,cap,by rw[F,E],K,λe=>h.own _ D (by rw[F,e];rfl),λj r u L M O=>?_⟩;refine h.eH.cell D F ?_ ?_
 .rw[E];show j*7+r<(W.cS.getD c dE).cy.length*7;omega
 .rw[h.cells _ D,Bf W R L M];exact O
def Sp.cS(h:Sp cJ g W R H rz w)(I:0<W.cS.length):
  ∃b cap,(R (4,0,0)).v=.slice (some ⟨b,0,none⟩) W.cS.length cap/\cJ<=b/\b≠g/\∀c r u,c<W.cS.length->r<8->(cc (R (6,c,0)).v (W.cS.getD c dE))[r]?=some u->w.cell? ⟨b,c*8+r,none⟩=some u:=by
 have D:=iN (W:=W);have E:(R (4,0,0)).n=W.cS.length:=h.ij _ D;obtain⟨b,cap,F,J,_⟩:=h.eH.uE D (E▸I);refine⟨b,cap,by rw[F,E],J,λe=>h.own _ D (by rw[F,e];rfl),λc r u K L M=>?_⟩;refine h.eH.cell D F ?_ ?_
 .rw[E];show c*8+r<W.cS.length*8;omega
 .rw[h.cells _ D,NT W R K L];exact M
def tI(D:W.cQ<W.cS.length)(O:0<W.co.cy.length)(hs:f.da=W.db.da)(I:∀u,u≠(8,W.cQ,W.co.cy.length-1)->(R' u).v=(R u).v){t:eO}(ht:fZ W t)(h6:t≠(6,W.cQ,0))(h8:t≠(8,W.cQ,W.co.cy.length-1)):
  lJ (W.dN f) R' t=lJ W R t/\rM (W.dN f) t=rM W t:=by
 have kt:W.db=W.fr W.cQ (W.co.cy.length-1):=rfl;have h:∀c j,((W.dN f).fr c j).da=(W.fr c j).da:=by
  intro c j;by_cases e:c=W.cQ/\j=W.co.cy.length-1
  .obtain⟨rfl,rfl⟩:=e;rw[iB D O,hs,kt]
  .rw[gO D _ e]
 obtain⟨a,b,c⟩:=t;unfold lJ rM;obtain(e|e|e|e)|e|e|e|⟨e|e,J,K,h4⟩:=ht
 .cases e;exact⟨rfl,rfl⟩
 .cases e;refine⟨fX λi _=>?_,rfl⟩;rw[I _ dC]
 .cases e;refine⟨fX λi _=>?_,rfl⟩;rw[I _ dC];rfl
 .cases e;refine⟨?_,jO _ _⟩;show(List.range (W.dN _).cS.length).flatMap _=_;rw[jO];refine fX λi _=>?_;rw[I _ dC,nO D];by_cases e:i=W.cQ
  .subst e;rw[cR rfl];rfl
  .rw[cK e]
 .obtain⟨E,_,F⟩:=e;dsimp only at E F;subst E F;exact⟨rfl,rfl⟩
 .obtain⟨E,_,F⟩:=e;dsimp only at E F;subst E F;exact⟨rfl,rfl⟩
 .obtain⟨E,_,F⟩:=e;dsimp only at E F;subst E F;have L:b≠W.cQ:=λe=>h6 (by rw[e]);refine⟨?_,gP D _ b⟩;show(List.range ((W.dN _).cS.getD b dE).cy.length).flatMap _=_;rw[gP D];refine fX λj _=>?_;dsimp only;rw[gO D _ (λe=>L e.1)];unfold fc;rw[I (5,_,0) dC,I (7,b,j) dC,I (8,b,j) (λe=>L (by simp at e;exact e.1))]
 .dsimp only at e J K;subst e;refine⟨?_,?_⟩
  .show((W.dN _).fr b c).da.flatMap _=(W.fr b c).da.flatMap _;rw[h]
  .show((W.dN _).fr b c).da.length=(W.fr b c).da.length;rw[h]
 .dsimp only at e J K;subst e;have M:¬(b=W.cQ/\c=W.co.cy.length-1):=λe=>h8 (by rw[e.1,e.2]);refine⟨?_,?_⟩
  .show((W.dN _).fr b c).ops.flatMap _=(W.fr b c).ops.flatMap _;rw[gO D _ M]
  .show((W.dN _).fr b c).ops.length=(W.fr b c).ops.length;rw[gO D _ M]
def Sp.yq(h:Sp cJ g W R H rz w)(E:W.cQ<W.cS.length)(L:0<W.co.cy.length)(hg:W.db.guard=false)(hr:r.n=xs.length)(hc:r.cs=xs.flatMap vc)(hw:Rows cJ Gl DU (fZ W) (jG R (8,W.cQ,W.co.cy.length-1) r) w1)(ho:r.v.ownBlock≠some g)(hb:w1.heap[g]?=w.heap[g]?)(hv:(R (6,W.cQ,0)).v=.slice (some ⟨b,0,none⟩) W.co.cy.length cap):
  Sp cJ g (W.dN {W.db with ops:=xs}) (jG (jG R (8,W.cQ,W.co.cy.length-1) r) (6,W.cQ,0) ⟨(R (6,W.cQ,0)).v,(R (6,W.cQ,0)).n,(R (6,W.cQ,0)).cs.set ((W.co.cy.length-1)*7+6) r.v⟩) H rz (w1.setCell ⟨b,(W.co.cy.length-1)*7+6,none⟩ r.v):=by
 have O:=gz (W:=W) E;have n6:(R (6,W.cQ,0)).n=W.co.cy.length:=h.ij _ O;have ne:((6,W.cQ,0):eO)≠(8,W.cQ,W.co.cy.length-1):=dC;have e6:jG R (8,W.cQ,W.co.cy.length-1) r (6,W.cQ,0)=R (6,W.cQ,0):=dh R r ne;have st:=hw.store O (g:=b) (cap:=cap) (by rw[e6,hv,n6]) ((W.co.cy.length-1)*7+6) r.v;rw[e6]at st;have M:=λt=>mF (f:={W.db with ops:=xs}) E L rfl t;generalize J:jG (jG R (8,W.cQ,W.co.cy.length-1) r) (6,W.cQ,0) ⟨(R (6,W.cQ,0)).v,(R (6,W.cQ,0)).n,(R (6,W.cQ,0)).cs.set ((W.co.cy.length-1)*7+6) r.v⟩=R' at st;have r6:R' (6,W.cQ,0)=⟨(R (6,W.cQ,0)).v,(R (6,W.cQ,0)).n,(R (6,W.cQ,0)).cs.set ((W.co.cy.length-1)*7+6) r.v⟩:=by rw[<-J,dD]
 have r8:R' (8,W.cQ,W.co.cy.length-1)=r:=by rw[<-J,dh _ _ ne.symm,dD]
 have ro:∀u,u≠(6,W.cQ,0)->u≠(8,W.cQ,W.co.cy.length-1)->R' u=R u:=λu h1 h2=>by rw[<-J,dh _ _ h1,dh _ _ h2]
 have D:∀u,u≠(8,W.cQ,W.co.cy.length-1)->(R' u).v=(R u).v:=by
  intro u hu;by_cases e:u=(6,W.cQ,0)
  .subst e;rw[r6]
  .rw[ro u e hu]
 have bg:b≠g:=λe=>h.own _ O (by rw[hv,e];rfl);refine⟨st.sub λt I=>(M t).1 I,λt I=>?_,λt I=>?_,λt I=>?_,?_⟩
 .by_cases K:t=(6,W.cQ,0)
  .subst K;rw[r6];show(R (6,W.cQ,0)).n=((W.dN _).cS.getD W.cQ dE).cy.length;rw[n6,gP E];rfl
  .by_cases F:t=(8,W.cQ,W.co.cy.length-1)
   .subst F;rw[r8,hr];show xs.length=((W.dN _).fr W.cQ (W.co.cy.length-1)).ops.length;rw[iB E L]
   .rw[ro t K F,h.ij t ((M t).1 I),(tI (f:={W.db with ops:=xs}) E L rfl D ((M t).1 I) K F).2]
 .by_cases K:t=(6,W.cQ,0)
  .subst K;rw[r6,h.cells _ O];show((List.range W.co.cy.length).flatMap λj=>fc R W.cQ j (W.fr W.cQ j)).set ((W.co.cy.length-1)*7+6) r.v=(List.range ((W.dN _).cS.getD W.cQ dE).cy.length).flatMap λj=>fc R' W.cQ j ((W.dN _).fr W.cQ j);rw[gP E];refine pQ (λj=>uF _ _ _ _) (λj=>uF _ _ _ _) cM cM ?_ λj _ hj=>?_
   .rw[iB E L];have aa:(W.fr W.cQ (W.co.cy.length-1)).guard=false:=hg;show fc R' W.cQ (W.co.cy.length-1) {W.fr W.cQ (W.co.cy.length-1)with ops:=xs}=_;unfold fc;rw[r8,D (5,_,0) dC,D (7,_,_) dC];simp[aa]
   .rw[gO E _ (λe=>hj e.2)];unfold fc;rw[D (5,_,0) dC,D (7,_,_) dC,D (8,W.cQ,j) (λe=>hj (by simp at e;exact e))]
  .by_cases F:t=(8,W.cQ,W.co.cy.length-1)
   .subst F;rw[r8,hc];show _=((W.dN _).fr W.cQ (W.co.cy.length-1)).ops.flatMap vc;rw[iB E L]
   .rw[ro t K F,h.cells t ((M t).1 I),(tI (f:={W.db with ops:=xs}) E L rfl D ((M t).1 I) K F).1]
 .by_cases F:t=(8,W.cQ,W.co.cy.length-1)
  .subst F;rw[r8];exact ho
  .rw[D t F];exact h.own t ((M t).1 I)
 .rw[lM w1 (zA b _) g _ (λe=>bg e.symm),hb,h.block];have:gc (W.dN {W.db with ops:=xs}) R' H rz=gc W R H rz:=by
   unfold gc;rw[D _ dC,D _ dC,D _ dC,D _ dC];rfl
  rw[this]
def Sp.ID(h:Sp cJ g W R H rz w)(F:W.cQ<W.cS.length)(K:0<W.co.cy.length)(a:Nat)(hv:(R (6,W.cQ,0)).v=.slice (some ⟨b,0,none⟩) W.co.cy.length cap):
  Sp cJ g (W.gi a) (jG R (6,W.cQ,0) ⟨(R (6,W.cQ,0)).v,(R (6,W.cQ,0)).n,(R (6,W.cQ,0)).cs.set ((W.co.cy.length-1)*7+3) (.int .i64 a)⟩) H rz (w.setCell ⟨b,(W.co.cy.length-1)*7+3,none⟩ (.int .i64 a)):=by
 have T6:=gz (W:=W) F;have n6:(R (6,W.cQ,0)).n=W.co.cy.length:=h.ij _ T6;have st:=h.eH.store T6 (g:=b) (cap:=cap) (by rw[hv,n6]) ((W.co.cy.length-1)*7+3) (zI a);have L:=λt=>mF (f:={W.db with eA:=a}) F K rfl t;generalize M:jG R (6,W.cQ,0) ⟨(R (6,W.cQ,0)).v,(R (6,W.cQ,0)).n,(R (6,W.cQ,0)).cs.set ((W.co.cy.length-1)*7+3) (zI a)⟩=R' at st;have r6:R' (6,W.cQ,0)=⟨(R (6,W.cQ,0)).v,(R (6,W.cQ,0)).n,(R (6,W.cQ,0)).cs.set ((W.co.cy.length-1)*7+3) (zI a)⟩:=by rw[<-M,dD]
 have ro:∀u,u≠(6,W.cQ,0)->R' u=R u:=λu h1=>by rw[<-M,dh _ _ h1]
 have D:∀u,(R' u).v=(R u).v:=by
  intro u;by_cases e:u=(6,W.cQ,0)
  .subst e;rw[r6]
  .rw[ro u e]
 have bg:b≠g:=λe=>h.own _ T6 (by rw[hv,e];rfl);have kt:W.db=W.fr W.cQ (W.co.cy.length-1):=rfl;have E:∀t,t=((8,W.cQ,W.co.cy.length-1):eO)->lJ (W.gi a) R' t=lJ W R t/\rM (W.gi a) t=rM W t:=by
  intro t e;subst e;refine⟨?_,?_⟩
  .show((W.dN _).fr W.cQ (W.co.cy.length-1)).ops.flatMap vc=(W.fr W.cQ (W.co.cy.length-1)).ops.flatMap vc;rw[iB F K,kt]
  .show((W.dN _).fr W.cQ (W.co.cy.length-1)).ops.length=(W.fr W.cQ (W.co.cy.length-1)).ops.length;rw[iB F K,kt]
 refine⟨st.sub λt I=>(L t).1 I,λt I=>?_,λt I=>?_,λt I=>?_,?_⟩
 .by_cases J:t=(6,W.cQ,0)
  .subst J;rw[r6];show(R (6,W.cQ,0)).n=((W.dN _).cS.getD W.cQ dE).cy.length;rw[n6,gP F];rfl
  .rw[ro t J,h.ij t ((L t).1 I)];by_cases O:t=(8,W.cQ,W.co.cy.length-1)
   .exact(E t O).2.symm
   .exact(tI (f:={W.db with eA:=a}) F K rfl (λu _=>D u) ((L t).1 I) J O).2.symm
 .by_cases J:t=(6,W.cQ,0)
  .subst J;rw[r6,h.cells _ T6];show((List.range W.co.cy.length).flatMap λj=>fc R W.cQ j (W.fr W.cQ j)).set ((W.co.cy.length-1)*7+3) (zI a)=(List.range ((W.dN _).cS.getD W.cQ dE).cy.length).flatMap λj=>fc R' W.cQ j ((W.dN _).fr W.cQ j);rw[gP F];refine pQ (λj=>uF _ _ _ _) (λj=>uF _ _ _ _) cM cM ?_ λj _ hj=>?_
   .rw[iB F K];show fc R' W.cQ (W.co.cy.length-1) {W.fr W.cQ (W.co.cy.length-1)with eA:=a}=_;unfold fc;rw[D (5,_,0),D (7,_,_),D (8,_,_)];simp
   .rw[gO F _ (λe=>hj e.2)];unfold fc;rw[D (5,_,0),D (7,_,_),D (8,_,_)]
  .rw[ro t J,h.cells t ((L t).1 I)];by_cases O:t=(8,W.cQ,W.co.cy.length-1)
   .exact(E t O).1.symm
   .exact(tI (f:={W.db with eA:=a}) F K rfl (λu _=>D u) ((L t).1 I) J O).1.symm
 .rw[D t];exact h.own t ((L t).1 I)
 .rw[lM w (zA b _) g _ (λe=>bg e.symm),h.block];have:gc (W.gi a) R' H rz=gc W R H rz:=by
   unfold gc;rw[D,D,D,D];rfl
  rw[this]
def rX{t:eO}(F:t≠(0,0,0))(I:fZ W t):lJ {W with vars:=xs} (jG R (0,0,0) r) t=lJ W R t/\rM {W with vars:=xs} t=rM W t:=by
 have E:∀u:eO,u.1≠0->jG R (0,0,0) r u=R u:=λu J=>dh R r (λe=>J (by rw[e]));obtain⟨a,b,c⟩:=t;unfold lJ rM;obtain(e|e|e|e)|e|e|e|⟨e|e,K,L,M⟩:=I
 .exact absurd e F
 .cases e;refine⟨fX λi _=>?_,rfl⟩;rw[E _ dC]
 .cases e;refine⟨fX λi _=>?_,rfl⟩;rw[E _ dC]
 .cases e;refine⟨fX λi _=>?_,rfl⟩;rw[E _ dC]
 .obtain⟨h,_,D⟩:=e;dsimp only at h D;subst h D;exact⟨rfl,rfl⟩
 .obtain⟨h,_,D⟩:=e;dsimp only at h D;subst h D;exact⟨rfl,rfl⟩
 .obtain⟨h,_,D⟩:=e;dsimp only at h D;subst h D;refine⟨fX λj _=>?_,rfl⟩;dsimp only;unfold fc;rw[E (5,_,0) dC,E (7,b,j) dC,E (8,b,j) dC];rfl
 .dsimp only at e;subst e;exact⟨rfl,rfl⟩
 .dsimp only at e;subst e;exact⟨rfl,rfl⟩
def Sp.Pc(h:Sp cJ g W R H rz w)(E:r.n=xs.length)(F:r.cs=xs.flatMap vc)(I:Rows cJ Gl DU (fZ W) (jG R (0,0,0) r) w1)(J:r.v.ownBlock≠some g)(K:w1.heap[g]?=w.heap[g]?):
  Sp cJ g {W with vars:=xs} (jG R (0,0,0) r) H rz (w1.setCell ⟨g,3,none⟩ r.v):=by
 have own:∀t,fZ W t->(jG R (0,0,0) r t).v.ownBlock≠some g:=by
  intro t D;by_cases e:t=(0,0,0)
  .subst e;rw[dD];exact J
  .rw[dh R r e];exact h.own t D
 refine⟨I.AA own _,λt D=>?_,λt D=>?_,own,?_⟩
 .have D:fZ W t:=D;by_cases e:t=(0,0,0)
  .subst e;rw[dD];exact E
  .rw[dh R r e,h.ij t D,(rX (xs:=xs) (R:=R) (r:=r) e D).2]
 .have D:fZ W t:=D;by_cases e:t=(0,0,0)
  .subst e;rw[dD];exact F
  .rw[dh R r e,h.cells t D,(rX (xs:=xs) (R:=R) (r:=r) e D).1]
 .rw[mg w1 g 3 _ _ _ (K.trans h.block)];have L:(jG R (0,0,0) r (1,0,0))=R (1,0,0):=dh R r dC;have M:(jG R (0,0,0) r (3,0,0))=R (3,0,0):=dh R r dC;have O:(jG R (0,0,0) r (4,0,0))=R (4,0,0):=dh R r dC;have:(gc {W with vars:=xs} (jG R (0,0,0) r) H rz).toArray=(gc W R H rz).toArray.setIfInBounds 3 r.v:=by
   unfold gc;rw[L,M,O,dD];simp
  rw[this]
def Sp.TX(h:Sp cJ g W R H rz w)(v:Vl):
  Sp cJ g W R H (true,v) ((((w.setCell ⟨g,15,none⟩ (.bool true)).setCell ⟨g,16,none⟩ (.int .i64 v.k)).setCell ⟨g,17,none⟩ (.int .i64 v.n)).setCell ⟨g,18,none⟩ (sv v.s)):=by
 refine⟨(((h.eH.AA h.own _).AA h.own _).AA h.own _).AA h.own _,h.ij,h.cells,h.own,?_⟩;rw[mg _ g 18 _ _ _ (mg _ g 17 _ _ _ (mg _ g 16 _ _ _ (mg w g 15 _ _ _ h.block)))];have:(gc W R H (true,v)).toArray=((((gc W R H rz).toArray.setIfInBounds 15 (.bool true)).setIfInBounds 16 (zI v.k)).setIfInBounds 17 (zI v.n)).setIfInBounds 18 (sv v.s):=by unfold gc vc;simp
 rw[this]
def Sp.lt(h:Sp cJ g W R H rz w):g<w.heap.size:=gC h.block
def Sp.WO(h:Sp cJ g W R H rz w){t:eO}(D:fZ W t)(J:w1.ownsRow cJ (Gl t.1) (DU t.1) r.v r.n r.cs)(E:w.grownBy w1 (R t).v.ownBlock)(F:∀k,r.v.ownBlock=some k->(R t).v.ownBlock=some k\/w.heap.size<=k):
  Rows cJ Gl DU (fZ W) (jG R t r) w1/\r.v.ownBlock≠some g/\w1.heap[g]?=w.heap[g]?:=by
 refine⟨h.eH.put D E J F,λe=>?_,E.block g h.lt λe=>h.own t D e.symm⟩;obtain I|I:=F g e
 .exact h.own t D I
 .have:=h.lt;omega
def Sp.grown(h:Sp cJ g W R H rz w)(D:w.grownBy w1 none):Sp cJ g W R H rz w1:=
 ⟨h.eH.kept D λt _=>by cases(R t).v.ownBlock<;>simp,h.ij,h.cells,h.own,(D.block g h.lt dC).trans h.block⟩
def Sp.alloc(h:Sp cJ g W R H rz w)(o:Obj):Sp cJ g W R H rz (w.alloc o):=h.grown (V1 w o none)
def vR(h:W.cQ<W.cS.length)(c:Nat):W.fU.cS.getD c dE=if c=W.cQ then {W.co with cy:=W.co.cy.take (W.co.cy.length-1)}else W.cS.getD c dE:=by
 by_cases e:c=W.cQ
 .subst e;rw[cR rfl];exact ez _ _ _ _ h
 .rw[cK e];exact dR _ _ _ _ _ (λx=>e x.symm)
def kX(W:St):W.fU.cS.length=W.cS.length:=by show(W.cS.set _ _).length=_;rw[df]
def ph(h:W.cQ<W.cS.length)(c:Nat):(W.fU.cS.getD c dE).cy.length=if c=W.cQ then W.co.cy.length-1 else(W.cS.getD c dE).cy.length:=by
 rw[vR h];by_cases e:c=W.cQ
 .rw[cR e,cR e];show(W.co.cy.take _).length=_;rw[dX];omega
 .rw[cK e,cK e]
def oJ(h:W.cQ<W.cS.length)(D:j<(W.fU.cS.getD c dE).cy.length):W.fU.fr c j=W.fr c j:=by
 rw[ph h]at D;unfold St.fr;rw[vR h];by_cases e:c=W.cQ
 .subst e;rw[cR rfl]at D|-;exact oH _ _ _ _ D
 .rw[cK e]
def Jc(h:W.cQ<W.cS.length){t:eO}(E:fZ W.fU t):fZ W t:=by
 unfold fZ at E|-;rw[kX]at E;obtain e|e|e|e|⟨e,I,D,F⟩:=E
 .exact .inl e
 .exact .inr (.inl e)
 .exact .inr (.inr (.inl e))
 .exact .inr (.inr (.inr (.inl e)))
 .rw[oJ h D]at F;refine .inr (.inr (.inr (.inr ⟨e,I,?_,F⟩)));rw[ph h]at D;by_cases x:t.2.1=W.cQ
  .rw[cR x]at D;rw[x];have:(W.cS.getD W.cQ dE).cy.length=W.co.cy.length:=rfl;omega
  .rwa[cK x]at D
def Sp.fU(h:Sp cJ g W R H rz w)(I:W.cQ<W.cS.length)(hl:0<W.co.cy.length)(hv:(R (6,W.cQ,0)).v=.slice (some ⟨b,0,none⟩) W.co.cy.length cap)(hd:(R (4,0,0)).v=.slice (some ⟨d,0,none⟩) W.cS.length dap):
  ∃R',Sp cJ g W.fU R' H rz (w.setCell ⟨d,W.cQ*8,none⟩ (.slice (some ⟨b,0,none⟩) (W.co.cy.length-1) cap)) /\
   (R' (6,W.cQ,0)).v=.slice (some ⟨b,0,none⟩) (W.co.cy.length-1) cap/\(∀u,u≠(6,W.cQ,0)->(R' u).v=(R u).v):=by
 have T6:=gz (W:=W) I;have T4:=iN (W:=W);have n6:(R (6,W.cQ,0)).n=W.co.cy.length:=h.ij _ T6;have n4:(R (4,0,0)).n=W.cS.length:=h.ij _ T4;have c1:=h.eH.cut T6 (g:=b) (cap:=cap) (by rw[hv,n6]) (n:=W.co.cy.length-1) (by rw[n6];omega);generalize O:(⟨zS b (W.co.cy.length-1) cap,W.co.cy.length-1,(R (6,W.cQ,0)).cs.take ((W.co.cy.length-1)*DU 6)⟩:fW)=q6 at c1;have e4:jG R (6,W.cQ,0) q6 (4,0,0)=R (4,0,0):=dh R q6 dC;have s1:=c1.store T4 (g:=d) (cap:=dap) (by rw[e4,hd,n4]) (W.cQ*8) (zS b (W.co.cy.length-1) cap);rw[e4]at s1;generalize L:jG (jG R (6,W.cQ,0) q6) (4,0,0) ⟨(R (4,0,0)).v,(R (4,0,0)).n,(R (4,0,0)).cs.set (W.cQ*8) (zS b (W.co.cy.length-1) cap)⟩=R' at s1;have r4:R' (4,0,0)=⟨(R (4,0,0)).v,(R (4,0,0)).n,(R (4,0,0)).cs.set (W.cQ*8) (zS b (W.co.cy.length-1) cap)⟩:=by rw[<-L,dD]
 have r6:R' (6,W.cQ,0)=q6:=by rw[<-L,dh _ _ dC,dD]
 have ro:∀u,u≠(4,0,0)->u≠(6,W.cQ,0)->R' u=R u:=λu h1 h2=>by rw[<-L,dh _ _ h1,dh _ _ h2]
 have F:∀u,u≠(6,W.cQ,0)->(R' u).v=(R u).v:=by
  intro u hu;by_cases e:u=(4,0,0)
  .subst e;rw[r4]
  .rw[ro u e hu]
 have dg:d≠g:=λe=>h.own _ T4 (by rw[hd,e];rfl);have bg:b≠g:=λe=>h.own _ T6 (by rw[hv,e];rfl);have hT:=λ(t:eO) (K:fZ W.fU t)=>Jc I K;have fl:(W.fU.cS.getD W.cQ dE).cy.length=W.co.cy.length-1:=by rw[ph I,cR rfl]
 refine⟨R',⟨s1.sub hT,λt K=>?_,λt K=>?_,λt K=>?_,?_⟩,by rw[r6,<-O],F⟩
 .by_cases J:t=(6,W.cQ,0)
  .subst J;rw[r6,<-O];exact fl.symm
  .by_cases M:t=(4,0,0)
   .subst M;rw[r4];show(R (4,0,0)).n=W.fU.cS.length;rw[n4,kX]
   .rw[ro t M J,h.ij t (hT t K)];obtain⟨a,c,j⟩:=t;obtain(e|e|e|e)|e|e|e|⟨e|e,h2,h3,h4⟩:=K
    .cases e;rfl
    .cases e;rfl
    .cases e;rfl
    .exact absurd e M
    .obtain⟨D,_,E⟩:=e;dsimp only at D E;subst D E;rfl
    .obtain⟨D,_,E⟩:=e;dsimp only at D E;subst D E;rfl
    .obtain⟨D,_,E⟩:=e;dsimp only at D E;subst D E;show(W.cS.getD c dE).cy.length=(W.fU.cS.getD c dE).cy.length;rw[ph I,cK (λe=>J (by rw[e]))]
    .dsimp only at e;subst e;show(W.fr c j).da.length=(W.fU.fr c j).da.length;rw[oJ I h3]
    .dsimp only at e;subst e;show(W.fr c j).ops.length=(W.fU.fr c j).ops.length;rw[oJ I h3]
 .by_cases J:t=(6,W.cQ,0)
  .subst J;rw[r6,<-O];show(R (6,W.cQ,0)).cs.take ((W.co.cy.length-1)*7)=(List.range (W.fU.cS.getD W.cQ dE).cy.length).flatMap λj=>fc R' W.cQ j (W.fU.fr W.cQ j);rw[h.cells _ T6,fl];show((List.range W.co.cy.length).flatMap λj=>fc R W.cQ j (W.fr W.cQ j)).take ((W.co.cy.length-1)*7)=_;rw[<-rq (λj=>uF R W.cQ j (W.fr W.cQ j)),List.take_range,sw cM];refine fX λj hj=>?_;rw[oJ I (fl▸hj)];unfold fc;rw[F (5,_,0) dC,F (7,_,_) dC,F (8,_,_) dC]
  .by_cases M:t=(4,0,0)
   .subst M;rw[r4,h.cells _ T4];show((List.range W.cS.length).flatMap λc=>cc (R (6,c,0)).v (W.cS.getD c dE)).set (W.cQ*8+0) _=(List.range W.fU.cS.length).flatMap λc=>cc (R' (6,c,0)).v (W.fU.cS.getD c dE);rw[kX];refine pQ (λc=>rZ _ _) (λc=>rZ _ _) I cM ?_ λc _ hc=>?_
    .rw[r6,<-O,vR I,cR rfl];rfl
    .rw[F _ (by simpa using hc),vR I,cK hc]
   .rw[ro t M J,h.cells t (hT t K)];obtain⟨a,c,j⟩:=t;obtain(e|e|e|e)|e|e|e|⟨e|e,h2,h3,h4⟩:=K
    .cases e;rfl
    .cases e;refine fX λi _=>?_;rw[F _ dC]
    .cases e;refine fX λi _=>?_;rw[F _ dC];rfl
    .exact absurd e M
    .obtain⟨D,_,E⟩:=e;dsimp only at D E;subst D E;rfl
    .obtain⟨D,_,E⟩:=e;dsimp only at D E;subst D E;rfl
    .obtain⟨D,_,E⟩:=e;dsimp only at D E;subst D E;have nc:c≠W.cQ:=λe=>J (by rw[e]);show(List.range (W.cS.getD c dE).cy.length).flatMap _=(List.range (W.fU.cS.getD c dE).cy.length).flatMap _;have aa:(W.fU.cS.getD c dE).cy.length=(W.cS.getD c dE).cy.length:=by rw[ph I,cK nc]
     rw[aa];refine fX λk hk=>?_;dsimp only;rw[oJ I (aa▸hk)];unfold fc;rw[F (5,_,0) dC,F (7,_,_) dC,F (8,_,_) dC]
    .dsimp only at e;subst e;show(W.fr c j).da.flatMap _=(W.fU.fr c j).da.flatMap _;rw[oJ I h3]
    .dsimp only at e;subst e;show(W.fr c j).ops.flatMap _=(W.fU.fr c j).ops.flatMap _;rw[oJ I h3]
 .by_cases J:t=(6,W.cQ,0)
  .subst J;rw[r6,<-O];show some b≠some g;simpa using bg
  .rw[F t J];exact h.own t (hT t K)
 .rw[lM w (zA d _) g _ (λe=>dg e.symm),h.block];have:gc W.fU R' H rz=gc W R H rz:=by
   unfold gc;rw[F _ dC,F _ dC,F _ dC,F _ dC];rfl
  rw[this]
end
section
variable{H H':Hd}
def Sp.cell(h:Sp cJ g W R H rz w)(F:(gc V R H' rz').toArray=(gc W R H rz).toArray.setIfInBounds j u)(E:∀t,fZ V t↔fZ W t)(I:∀t,fZ W t->rM V t=rM W t)(J:∀t,fZ W t->lJ V R t=lJ W R t):Sp cJ g V R H' rz' (w.setCell ⟨g,j,none⟩ u):=
 ⟨(h.eH.AA h.own u).sub λt D=>(E t).1 D,λt D=>by rw[h.ij t ((E t).1 D),I t ((E t).1 D)],λt D=>by rw[h.cells t ((E t).1 D),J t ((E t).1 D)],λt D=>h.own t ((E t).1 D),by rw[mg w g j _ _ _ h.block,F]⟩
def Sp.dz(h:Sp cJ g W R H rz w)(k:Nat):Sp cJ g {W with dz:=k} R H rz (w.setCell ⟨g,12,none⟩ (.int .i64 k)):=
 h.cell (by unfold gc;simp) (λ_=>j8) (λ_ _=>rfl) (λ_ _=>rfl)
def Sp.iq(h:Sp cJ g W R H rz w)(k:Nat):Sp cJ g {W with iq:=k} R H rz (w.setCell ⟨g,13,none⟩ (.int .i64 k)):=
 h.cell (by unfold gc;simp) (λ_=>j8) (λ_ _=>rfl) (λ_ _=>rfl)
def Sp.size(h:Sp cJ g W R H rz w)(k:Nat):Sp cJ g {W with size:=k} R H rz (w.setCell ⟨g,14,none⟩ (.int .i64 k)):=
 h.cell (by unfold gc;simp) (λ_=>j8) (λ_ _=>rfl) (λ_ _=>rfl)
def Sp.oz(h:Sp cJ g W R H rz w)(b:Bool):Sp cJ g {W with oz:=b} R H rz (w.setCell ⟨g,8,none⟩ (.bool b)):=
 h.cell (by unfold gc;simp) (λ_=>j8) (λ_ _=>rfl) (λ_ _=>rfl)
def Sp.dw(h:Sp cJ g W R H rz w)(k:Int):Sp cJ g {W with dw:=k} R H rz (w.setCell ⟨g,9,none⟩ (.int .i64 k)):=
 h.cell (by unfold gc;simp) (λ_=>j8) (λ_ _=>rfl) (λ_ _=>rfl)
def Sp.cQ(h:Sp cJ g W R H rz w)(k:Nat):Sp cJ g {W with cQ:=k} R H rz (w.setCell ⟨g,7,none⟩ (.int .i64 k)):=
 h.cell (by unfold gc;simp) (λ_=>j8) (λ_ _=>rfl) (λ_ _=>rfl)
def Sp.ins(h:Sp cJ g W R H rz w)(u:Value)(l:List (List Int)):Sp cJ g {W with ins:=l} R {H with ins:=u} rz (w.setCell ⟨g,2,none⟩ u):=
 h.cell (by unfold gc;simp) (λ_=>j8) (λ_ _=>rfl) (λ_ _=>rfl)
def Sp.dn(h:Sp cJ g W R H rz w)(u:Value)(l:List (List UInt8)):Sp cJ g {W with dn:=l} R {H with pr:=u} rz (w.setCell ⟨g,10,none⟩ u):=
 h.cell (by unfold gc;simp) (λ_=>j8) (λ_ _=>rfl) (λ_ _=>rfl)
def Sp.lu(h:Sp cJ g W R H rz w)(u:Value)(l:List UInt8):Sp cJ g {W with lu:=l} R {H with er:=u} rz (w.setCell ⟨g,11,none⟩ u):=
 h.cell (by unfold gc;simp) (λ_=>j8) (λ_ _=>rfl) (λ_ _=>rfl)
def tH(W:St)(h:c<W.cS.length)(k:Co)(i:Nat):(W.dW c k).cS.getD i dE=if i=c then k else W.cS.getD i dE:=by
 by_cases e:i=c
 .subst e;rw[cR rfl];exact ez _ _ _ _ h
 .rw[cK e];exact dR _ _ _ _ _ (λx=>e x.symm)
def pK(W:St)(h:c<W.cS.length){k:Co}(D:k.cy=(W.cS.getD c dE).cy)(i:Nat):((W.dW c k).cS.getD i dE).cy=(W.cS.getD i dE).cy:=by
 rw[tH W h];by_cases e:i=c
 .subst e;rw[cR rfl,D]
 .rw[cK e]
def sY(W:St)(h:c<W.cS.length){k:Co}(D:k.cy=(W.cS.getD c dE).cy)(i j:Nat):(W.dW c k).fr i j=W.fr i j:=by unfold St.fr;rw[pK W h D]
def rh(W:St)(h:c<W.cS.length){k:Co}(D:k.cy=(W.cS.getD c dE).cy)(t:eO):fZ (W.dW c k) t↔fZ W t:=by
 unfold fZ;rw[pK W h D,sY W h D];have:(W.dW c k).cS.length=W.cS.length:=by simp[St.dW]
 rw[this];exact j8
def Sp.dW(h:Sp cJ g W R H rz w)(E:c<W.cS.length){k:Co}(I:k.cy=(W.cS.getD c dE).cy)(hj:j<8)(hu:cc (R (6,c,0)).v k=(cc (R (6,c,0)).v (W.cS.getD c dE)).set j u)(hd:(R (4,0,0)).v=.slice (some ⟨d,0,none⟩) W.cS.length dap):
  ∃R',Sp cJ g (W.dW c k) R' H rz (w.setCell ⟨d,c*8+j,none⟩ u)/\∀t,(R' t).v=(R t).v:=by
 have M:=iN (W:=W);have n4:(R (4,0,0)).n=W.cS.length:=h.ij _ M;have s1:=h.eH.store M (g:=d) (cap:=dap) (by rw[hd,n4]) (c*8+j) u;generalize K:jG R (4,0,0) ⟨(R (4,0,0)).v,(R (4,0,0)).n,(R (4,0,0)).cs.set (c*8+j) u⟩=R' at s1;have O:R' (4,0,0)=⟨(R (4,0,0)).v,(R (4,0,0)).n,(R (4,0,0)).cs.set (c*8+j) u⟩:=by rw[<-K,dD]
 have ro:∀t,t≠(4,0,0)->R' t=R t:=λt h1=>by rw[<-K,dh _ _ h1]
 have D:∀t,(R' t).v=(R t).v:=by
  intro t;by_cases e:t=(4,0,0)
  .subst e;rw[O]
  .rw[ro t e]
 have dg:d≠g:=λe=>h.own _ M (by rw[hd,e];rfl);have L:=rh W E I;have cl:(W.dW c k).cS.length=W.cS.length:=by simp[St.dW]
 refine⟨R',⟨s1.sub λt F=>(L t).1 F,λt F=>?_,λt F=>?_,λt F=>?_,?_⟩,D⟩
 .by_cases J:t=(4,0,0)
  .subst J;rw[O];show(R (4,0,0)).n=(W.dW c k).cS.length;rw[n4,cl]
  .rw[ro t J,h.ij t ((L t).1 F)];unfold rM;rw[pK W E I,sY W E I,cl];rfl
 .by_cases J:t=(4,0,0)
  .subst J;rw[O,h.cells _ M];show((List.range W.cS.length).flatMap λc=>cc (R (6,c,0)).v (W.cS.getD c dE)).set (c*8+j) u=(List.range (W.dW c k).cS.length).flatMap λi=>cc (R' (6,i,0)).v ((W.dW c k).cS.getD i dE);rw[cl];refine pQ (λc=>rZ _ _) (λc=>rZ _ _) E hj ?_ λi _ hi=>?_
   .rw[D,tH W E,cR rfl];exact hu
   .rw[D,tH W E,cK hi]
  .rw[ro t J,h.cells t ((L t).1 F)];have h4:t.1≠4:=by
    obtain(e|e|e|e)|e|e|e|⟨e|e,_⟩:=(L t).1 F
    .rw[e];simp
    .rw[e];simp
    .rw[e];simp
    .exact absurd e J
    .rw[e.1];simp
    .rw[e.1];simp
    .rw[e.1];simp
    .rw[e];simp
    .rw[e];simp
   unfold lJ;rw[cK h4,cK h4];have ef:∀i j,fc R' i j ((W.dW c k).fr i j)=fc R i j (W.fr i j):=by intro i j;rw[sY W E I];unfold fc;rw[D,D,D]
   simp only[D,pK W E I,sY W E I];have aa:∀i j,fc R' i j (W.fr i j)=fc R i j (W.fr i j):=by intro i j;have:=ef i j;rwa[sY W E I]at this
   simp only[aa];rfl
 .rw[D t];exact h.own t ((L t).1 F)
 .rw[lM w (zA d _) g _ (λe=>dg e.symm),h.block];have:gc (W.dW c k) R' H rz=gc W R H rz:=by
   unfold gc;rw[D,D,D,D];rfl
  rw[this]
end
def Ft(g:Nat)(W:St)(R:eO->fW)(k:Nat):Prop:=k=g\/∃t,fZ W t/\(R t).v.ownBlock=some k
structure Kp(S S':Nat→Prop)(w w':World):Prop where
 os:w'.os=w.os
 tape:w'.tape=w.tape
 output:w'.output=w.output
 size:w.heap.size≤w'.heap.size
 kg:∀k,k<w.heap.size→¬S k→w'.heap[k]?=w.heap[k]?
 out:∀k,k<w.heap.size→¬S k→¬S' k
abbrev zK(g:Nat)(W:St)(R:eO->fW)(w w':World):Prop:=Kp (Ft g W R) (Ft g W R) w w'
abbrev zL(g:Nat)(W:St)(R:eO->fW)(V:St)(R':eO->fW)(w w':World):Prop:=Kp (Ft g W R) (Ft g V R') w w'
def Kp.refl(S:Nat->Prop)(w:World):Kp S S w w:=⟨rfl,rfl,rfl,cE _,λ_ _ _=>rfl,λ_ _ h=>h⟩
def Kp.trans(h:Kp S S1 w w1)(k:Kp S1 S2 w1 w2):Kp S S2 w w2:=
 ⟨k.os.trans h.os,k.tape.trans h.tape,k.output.trans h.output,cV h.size k.size,λi D E=>(k.kg i (dj D h.size) (h.out i D E)).trans (h.kg i D E),λi D E=>k.out i (dj D h.size) (h.out i D E)⟩
def Kp.drew(h:Kp S S1 w w1):Kp S S1 w w1.drew:=⟨h.os,h.tape,h.output,h.size,h.kg,h.out⟩
def Kp.grown{row:Option Nat}(D:w.grownBy w1 row)(I:∀k,row=some k->k<w.heap.size->S k)(hs:∀k,S1 k->S k\/w.heap.size<=k):Kp S S1 w w1:=
 ⟨D.os,D.tape,D.output,D.size,λk E F=>D.block k E λe=>F (I k e.symm E),λk E F J=>(hs k J).elim F λh=>cM⟩
def Kp.setCell{a:Addr}(u:Value)(D:S a.block):Kp S S w (w.setCell a u):=
 ⟨rfl,rfl,rfl,QB,λk _ E=>cZ _ _ _ _ λe=>E (e▸D),λ_ _ h=>h⟩
def Kp.alloc(o:Obj):Kp S S w (w.alloc o):=
 ⟨rfl,rfl,rfl,dC,λk D _=>gH _ _ _ D,λ_ _ h=>h⟩
def Kp.sub(h:Kp S S1 w w1)(hs:∀k,S2 k->S1 k\/w.heap.size<=k):Kp S S2 w w1:=
 ⟨h.os,h.tape,h.output,h.size,h.kg,λk D E F=>(hs k F).elim (h.out k D E) λh=>cM⟩
def Kp.below{B:Nat}(h:Kp S S1 w w1)(F:B<=w.heap.size)(D:∀k,S k->B<=k):Below B w w1:=
 ⟨h.os,h.tape,h.output,h.size,λk I=>h.kg k cM λE=>by have:=D k E;omega⟩
def Lc(S:Nat->Prop)(w:World)(k:Nat)(cs:Array Value)(ty:TypeId):Prop:=¬S k/\w.heap[k]?=some (.cells cs ty (0,0))
def Lc.lt(h:Lc S w k cs ty):k<w.heap.size:=gC h.2
def Lc.kept(h:Lc S w k cs ty)(D:Kp S S1 w w1):Lc S1 w1 k cs ty:=⟨D.out k h.lt h.1,(D.kg k h.lt h.1).trans h.2⟩
def Lc.cell(h:Lc S w k cs ty)(D:cs[j]?=some u):w.cell? ⟨k,j,none⟩=some u:=by simp only[World.cell?,h.2];simpa using D
def Lc.free(h:Lc S w k cs ty)(j:Nat):w.frozen? ⟨k,j,none⟩=false:=frozen_of_row w k j _ _ h.2
def Lc.c3{b c:Value}(h:Lc S w k #[a,b,c] ty):w.cell? ⟨k,0,none⟩=some a/\w.cell? ⟨k,1,none⟩=some b/\w.cell? ⟨k,2,none⟩=some c:=⟨h.cell rfl,h.cell rfl,h.cell rfl⟩
def Lc.c4{b c d:Value}(h:Lc S w k #[a,b,c,d] ty):w.cell? ⟨k,0,none⟩=some a/\w.cell? ⟨k,1,none⟩=some b/\w.cell? ⟨k,2,none⟩=some c/\w.cell? ⟨k,3,none⟩=some d:=⟨h.cell rfl,h.cell rfl,h.cell rfl,h.cell rfl⟩
def Lc.c7{b c d e f g:Value}(h:Lc S w k #[a,b,c,d,e,f,g] ty):w.cell? ⟨k,0,none⟩=some a/\w.cell? ⟨k,1,none⟩=some b/\w.cell? ⟨k,2,none⟩=some c/\w.cell? ⟨k,3,none⟩=some d/\w.cell? ⟨k,4,none⟩=some e/\w.cell? ⟨k,5,none⟩=some f/\w.cell? ⟨k,6,none⟩=some g:=⟨h.cell rfl,h.cell rfl,h.cell rfl,h.cell rfl,h.cell rfl,h.cell rfl,h.cell rfl⟩
def Lc.alloc(h:Lc S w k cs ty)(o:Obj):Lc S (w.alloc o) k cs ty:=⟨h.1,(gH _ _ _ h.lt).trans h.2⟩
def Lc.new(w:World)(D:∀k,S k->k<w.heap.size)(cs:Array Value)(ty:TypeId):Lc S (w.alloc (.cells cs ty)) w.heap.size cs ty:=
 ⟨λh=>gE _ (D _ h),dJ w _⟩
def Lc.drew(h:Lc S w k cs ty):Lc S w.drew k cs ty:=h
def oL{R' R:eO->fW}{t:eO}(F:t.1=0->V.vars=W.vars)(I:t.1=1->V.tables.length=W.tables.length/\∀i,i<W.tables.length->(R' (2,i,0)).v=(R (2,i,0)).v)(J:t.1=2->V.tables.getD t.2.1 []=W.tables.getD t.2.1 [])(K:t.1=3->V.funcs=W.funcs/\∀i,i<W.funcs.length->(R' (5,i,0)).v=(R (5,i,0)).v)(L:t.1=4->V.cS.length=W.cS.length/\∀c,c<W.cS.length->cc (R' (6,c,0)).v (V.cS.getD c dE)=cc (R (6,c,0)).v (W.cS.getD c dE))(M:t.1=5->V.funcs.getD t.2.1 (0,[])=W.funcs.getD t.2.1 (0,[]))(O:t.1=6->(V.cS.getD t.2.1 dE).cy.length=(W.cS.getD t.2.1 dE).cy.length/\∀j,j<(W.cS.getD t.2.1 dE).cy.length->fc R' t.2.1 j (V.fr t.2.1 j)=fc R t.2.1 j (W.fr t.2.1 j))(h7:t.1=7->(V.fr t.2.1 t.2.2).da=(W.fr t.2.1 t.2.2).da)(h8:t.1=8->(V.fr t.2.1 t.2.2).ops=(W.fr t.2.1 t.2.2).ops)(hk:t.1<=8):lJ V R' t=lJ W R t/\rM V t=rM W t:=by
 obtain⟨a,b,c⟩:=t;dsimp only at*;have ha:a=0\/a=1\/a=2\/a=3\/a=4\/a=5\/a=6\/a=7\/a=8:=cM;unfold lJ rM;obtain rfl|rfl|rfl|rfl|rfl|rfl|rfl|rfl|rfl:=ha
 .have:=F rfl;exact⟨by show V.vars.flatMap vc=W.vars.flatMap vc;rw[this],by show V.vars.length=W.vars.length;rw[this]⟩
 .obtain⟨h,D⟩:=I rfl;refine⟨?_,h⟩;show(List.range V.tables.length).flatMap _=(List.range W.tables.length).flatMap _;rw[h];exact fX λi E=>by rw[D i E]
 .have:=J rfl;exact⟨by show(V.tables.getD b []).flatMap pc=(W.tables.getD b []).flatMap pc;rw[this],by show(V.tables.getD b []).length=(W.tables.getD b []).length;rw[this]⟩
 .obtain⟨h,D⟩:=K rfl;refine⟨?_,by show V.funcs.length=W.funcs.length;rw[h]⟩;show(List.range V.funcs.length).flatMap (λi=>[zI (V.funcs.getD i (0,[])).1,(R' (5,i,0)).v])=(List.range W.funcs.length).flatMap (λi=>[zI (W.funcs.getD i (0,[])).1,(R (5,i,0)).v]);rw[h];exact fX λi E=>by rw[D i E]
 .obtain⟨h,D⟩:=L rfl;refine⟨?_,h⟩;show(List.range V.cS.length).flatMap _=(List.range W.cS.length).flatMap _;rw[h];exact fX λi E=>D i E
 .have:=M rfl;exact⟨by show(V.funcs.getD b (0,[])).2.flatMap _=(W.funcs.getD b (0,[])).2.flatMap _;rw[this],by show(V.funcs.getD b (0,[])).2.length=(W.funcs.getD b (0,[])).2.length;rw[this]⟩
 .obtain⟨h,D⟩:=O rfl;refine⟨?_,h⟩;show(List.range (V.cS.getD b dE).cy.length).flatMap _=(List.range (W.cS.getD b dE).cy.length).flatMap _;rw[h];exact fX λi E=>D i E
 .have:=h7 rfl;exact⟨by show(V.fr b c).da.flatMap _=(W.fr b c).da.flatMap _;rw[this],by show(V.fr b c).da.length=(W.fr b c).da.length;rw[this]⟩
 .have:=h8 rfl;exact⟨by show(V.fr b c).ops.flatMap _=(W.fr b c).ops.flatMap _;rw[this],by show(V.fr b c).ops.length=(W.fr b c).ops.length;rw[this]⟩
section
variable{H H':Hd}
def wz{t:eO}(h:fZ W t):t.1<=8:=by obtain(e|e|e|e)|e|e|e|⟨e|e,_⟩:=h<;>first|(rw[e];decide)|omega
def Sp.to(h:Sp cJ g W R H rz w)(T:eO->Prop)(M:Rows cJ Gl DU (fZ V) R' w')(O:∀t,fZ V t->(R' t).v.ownBlock≠some g)(hb:w'.heap[g]?=some (.cells (gc V R' H' rz').toArray 58 (0,0)))(I:∀t,fZ V t->¬T t->fZ W t/\R' t=R t/\lJ V R' t=lJ W R t/\rM V t=rM W t)(J:∀t,fZ V t->T t->(R' t).n=rM V t/\(R' t).cs=lJ V R' t):Sp cJ g V R' H' rz' w':=by
 refine⟨M,λt D=>?_,λt D=>?_,O,hb⟩
 .by_cases e:T t
  .exact(J t D e).1
  .obtain⟨E,F,K,L⟩:=I t D e;rw[F,h.ij t E,L]
 .by_cases e:T t
  .exact(J t D e).2
  .obtain⟨E,F,K,L⟩:=I t D e;rw[F,h.cells t E,K]
def Ft.lt(h:Sp cJ g W R H rz w)(D:Ft g W R k):k<w.heap.size:=by
 obtain rfl|⟨t,E,e⟩:=D
 .exact h.lt
 .exact((h.eH.own t E).lt k e).2
def Ft.from(h:Sp cJ g W R H rz w)(D:cJ<=g)(E:Ft g W R k):cJ<=k:=by
 obtain rfl|⟨t,F,e⟩:=E
 .exact D
 .exact((h.eH.own t F).lt k e).1
def Ft.rE{t:eO}(h:fZ W t)(e:(R t).v.ownBlock=some k):Ft g W R k:=.inr ⟨t,h,e⟩
def Ft.nj:Ft g W R g:=.inl rfl
def Ft.same(E:∀t,fZ V t->fZ W t)(F:∀t,fZ V t->(R' t).v=(R t).v)(h:Ft g V R' k):Ft g W R k:=by
 obtain rfl|⟨t,D,e⟩:=h
 .exact .inl rfl
 .exact .inr ⟨t,E t D,by rw[<-F t D];exact e⟩
def fF(h:w.heap[g]?=some (.cells cs ty (0,0))):(w.setCell ⟨g,j,none⟩ u).heap[g]?=some (.cells (cs.setIfInBounds j u) ty (0,0)):=mg w g j _ _ _ h
def Sp.s9(h:Sp cJ g W R H rz w)(hr:r.n=W.tables.length+1)(hc:r.cs=(R (1,0,0)).cs++[mO])(hw:Rows cJ Gl DU (fZ W) (jG R (1,0,0) r) w1)(ho:r.v.ownBlock≠some g)(hb:w1.heap[g]?=w.heap[g]?):
  ∃R',Sp cJ g {W with tables:=W.tables++[[]]} R' H rz (w1.setCell ⟨g,4,none⟩ r.v)/\(R' (1,0,0)).v=r.v/\(R' (2,W.tables.length,0)).v=mO/\∀t,t≠(1,0,0)->t≠(2,W.tables.length,0)->R' t=R t:=by
 have own:∀t,fZ W t->(jG R (1,0,0) r t).v.ownBlock≠some g:=by
  intro t E;by_cases e:t=(1,0,0)
  .subst e;rw[dD];exact ho
  .rw[dh R r e];exact h.own t E
 have r2:=(hw.AA (a:=(zA g 4)) own r.v).nil (2,W.tables.length,0);generalize D:jG (jG R (1,0,0) r) (2,W.tables.length,0) lA=R' at r2;have L:R' (1,0,0)=r:=by rw[<-D,dh _ _ dC,dD]
 have I:R' (2,W.tables.length,0)=lA:=by rw[<-D,dD]
 have F:∀t,t≠(1,0,0)->t≠(2,W.tables.length,0)->R' t=R t:=λt h1 h2=>by rw[<-D,dh _ _ h2,dh _ _ h1]
 have M:∀t,fZ {W with tables:=W.tables++[[]]} t->fZ W t\/t=(2,W.tables.length,0):=by
  intro t E;obtain e|⟨e1,J,e3⟩|e:=E
  .exact .inl (.inl e)
  .have J:=J;rw[dq]at J;simp only[dt,dG]at J;by_cases q:t.2.1=W.tables.length
   .exact .inr (by obtain⟨a,b,c⟩:=t;dsimp only at*;rw[e1,q,e3])
   .exact .inl (.inr (.inl ⟨e1,cM,e3⟩))
  .exact .inl (.inr (.inr e))
 refine⟨R',h.to (λt=>t=(1,0,0)\/t=(2,W.tables.length,0)) (r2.sub M) (λt E=>?_) ?_ (λt E O=>?_) (λt E O=>?_),by rw[L],by rw[I];rfl,F⟩
 .by_cases e:t=(2,W.tables.length,0)
  .subst e;rw[I];simp[lA,Value.ownBlock]
  .have:=own t ((M t E).resolve_right e);rwa[<-D,dh _ _ e]
 .rw[fF (hb.trans h.block)];have:(gc {W with tables:=W.tables++[[]]} R' H rz).toArray=(gc W R H rz).toArray.setIfInBounds 4 r.v:=by
   unfold gc;rw[L,F (0,0,0) dC dC,F (3,0,0) dC dC,F (4,0,0) dC dC];simp
  rw[this]
 .obtain⟨n1,n2⟩:=OB.1 O;have K:=(M t E).resolve_right n2;have key:∀u:eO,u.1≠1->u.1≠2->R' u=R u:=λu a b=>F u (λe=>a (by rw[e])) (λe=>b (by rw[e]));refine⟨K,F t n1 n2,oL (λ_=>rfl) (λe=>?_) (λe=>?_) (λ_=>⟨rfl,λi _=>by rw[key _ dC dC]⟩) (λ_=>⟨rfl,λc _=>by rw[key _ dC dC]⟩) (λ_=>rfl) (λ_=>⟨rfl,λj _=>?_⟩) (λ_=>rfl) (λ_=>rfl) (wz K)⟩
  .exfalso
   obtain(q|q|q|q)|q|q|q|⟨q|q,_⟩:=K
   .rw[q]at e;simp at e
   .exact n1 q
   .rw[q]at e;simp at e
   .rw[q]at e;simp at e
   all_goals omega
  .have hl:t.2.1<W.tables.length:=by
    obtain(q|q|q|q)|q|q|q|⟨q|q,_⟩:=K
    .rw[q]at e;simp at e
    .rw[q]at e;simp at e
    .rw[q]at e;simp at e
    .rw[q]at e;simp at e
    .exact q.2.1
    all_goals omega
   exact iL _ _ _ _ hl
  .show fc R' t.2.1 j (W.fr t.2.1 j)=_;unfold fc;rw[key (5,_,0) dC dC,key (7,_,_) dC dC,key (8,_,_) dC dC]
 .obtain rfl|rfl:=O
  .rw[L];refine⟨by rw[hr];show _=(W.tables++[[]]).length;simp,?_⟩;rw[hc,h.cells _ iT];show((List.range W.tables.length).flatMap λi=>[(R (2,i,0)).v])++[mO]=(List.range (W.tables++[[]]).length).flatMap λi=>[(R' (2,i,0)).v]
   rw[dq,dt,dG,kR,mf,I];congr 1;exact fX λi hi=>by rw[F (2,i,0) dC (λe=>by simp at e;omega)]
  .rw[I];have e:(W.tables++[[]]).getD W.tables.length []=([]:List (Vl×Vl)):=gD _ _ _;refine⟨?_,?_⟩
   .show 0=((W.tables++[[]]).getD W.tables.length []).length;rw[e];rfl
   .show[]=((W.tables++[[]]).getD W.tables.length []).flatMap pc;rw[e];rfl
def Sp.Eb(h:Sp cJ g W R H rz w)(K:i<W.tables.length){xs:List (Vl×Vl)}(hr:Rows cJ Gl DU (fZ W) R' w1)(E:(R' (2,i,0)).n=xs.length)(hc:(R' (2,i,0)).cs=xs.flatMap pc)(h1:(R' (1,0,0)).v=(R (1,0,0)).v/\(R' (1,0,0)).n=(R (1,0,0)).n/\(R' (1,0,0)).cs=(R (1,0,0)).cs.set i (R' (2,i,0)).v)(F:∀t,t≠(1,0,0)->t≠(2,i,0)->R' t=R t)(ho:(R' (2,i,0)).v.ownBlock≠some g)(hb:w1.heap[g]?=w.heap[g]?):
  Sp cJ g {W with tables:=W.tables.set i xs} R' H rz w1:=by
 obtain⟨L,q2,q3⟩:=h1;have J:∀t,fZ {W with tables:=W.tables.set i xs} t->fZ W t:=by intro t D;unfold fZ at D;dsimp only at D;rwa[df]at D
 have key:∀u:eO,u.1≠1->u.1≠2->R' u=R u:=λu a b=>F u (λe=>a (by rw[e])) (λe=>b (by rw[e]));refine h.to (λt=>t=(1,0,0)\/t=(2,i,0)) (hr.sub J) (λt D=>?_) ?_ (λt D E=>?_) (λt D E=>?_)
 .by_cases e:t=(2,i,0)
  .subst e;exact ho
  .by_cases M:t=(1,0,0)
   .subst M;rw[L];exact h.own _ iT
   .rw[F t M e];exact h.own t (J t D)
 .rw[hb,h.block];have:gc {W with tables:=W.tables.set i xs} R' H rz=gc W R H rz:=by
   unfold gc;rw[L,key (0,0,0) dC dC,key (3,0,0) dC dC,key (4,0,0) dC dC]
  rw[this]
 .obtain⟨O,n2⟩:=OB.1 E;have I:=J t D;refine⟨I,F t O n2,oL (λ_=>rfl) (λe=>?_) (λe=>?_) (λ_=>⟨rfl,λi _=>by rw[key _ dC dC]⟩) (λ_=>⟨rfl,λc _=>by rw[key _ dC dC]⟩) (λ_=>rfl) (λ_=>⟨rfl,λj _=>?_⟩) (λ_=>rfl) (λ_=>rfl) (wz I)⟩
  .exfalso
   obtain(q|q|q|q)|q|q|q|⟨q|q,_⟩:=I
   .rw[q]at e;simp at e
   .exact O q
   .rw[q]at e;simp at e
   .rw[q]at e;simp at e
   all_goals omega
  .have hl:t.2.1≠i:=by
    intro x;obtain(q|q|q|q)|q|q|q|⟨q|q,_⟩:=I
    .rw[q]at e;simp at e
    .rw[q]at e;simp at e
    .rw[q]at e;simp at e
    .rw[q]at e;simp at e
    .exact n2 (by obtain⟨a,b,c⟩:=t;dsimp only at*;rw[q.1,x,q.2.2])
    all_goals omega
   exact dR _ _ _ _ _ λe=>hl e.symm
  .show fc R' t.2.1 j (W.fr t.2.1 j)=_;unfold fc;rw[key (5,_,0) dC dC,key (7,_,_) dC dC,key (8,_,_) dC dC]
 .obtain rfl|rfl:=E
  .refine⟨by rw[q2,h.ij _ iT];show W.tables.length=(W.tables.set i xs).length;simp,?_⟩;rw[q3,h.cells _ iT];show((List.range W.tables.length).flatMap λi=>[(R (2,i,0)).v]).set i _=(List.range (W.tables.set i xs).length).flatMap λi=>[(R' (2,i,0)).v]
   rw[df];have:=pQ (f:=λi=>[(R (2,i,0)).v]) (f':=λi=>[(R' (2,i,0)).v]) (c:=1) (n:=W.tables.length) (i:=i) (r:=0) (u:=(R' (2,i,0)).v) (λ_=>rfl) (λ_=>rfl) K cM rfl (λj _ hj=>by rw[F (2,j,0) dC (λe=>hj (by simp at e;exact e))]);rwa[show i*1+0=i by omega]at this
  .have e:(W.tables.set i xs).getD i []=xs:=ez _ _ _ _ K;refine⟨?_,?_⟩
   .show _=((W.tables.set i xs).getD i []).length;rw[e,E]
   .show _=((W.tables.set i xs).getD i []).flatMap pc;rw[e,hc]
def Vd(W:St):Prop:=∀c j,c<W.cS.length->j<(W.cS.getD c dE).cy.length->(W.fr c j).guard=false->(W.fr c j).fn<W.funcs.length
def Sp.Qw(h:Sp cJ g W R H rz w)(hF:Vd W){p:Nat}{us:List Nat}{ru:fW}(hr:r.n=W.funcs.length+1)(hc:r.cs=(R (3,0,0)).cs++[.int .i64 p,ru.v])(hw:Rows cJ Gl DU (fZ W) (jG R (3,0,0) r) w1)(ho:r.v.ownBlock≠some g)(hb:w1.heap[g]?=w.heap[g]?)(M:w1.ownsRow cJ 3 1 ru.v ru.n ru.cs)(un:ru.n=us.length)(uc:ru.cs=us.flatMap λ(x:Nat)=>[.int .i64 (x:Int)])(ua:∀k,ru.v.ownBlock=some k->k≠g/\∀t,fZ W t->(jG R (3,0,0) r t).v.ownBlock≠some k):
  ∃R',Sp cJ g {W with funcs:=W.funcs++[(p,us)]} R' H rz (w1.setCell ⟨g,5,none⟩ r.v)/\(R' (3,0,0)).v=r.v/\(R' (5,W.funcs.length,0)).v=ru.v/\∀t,t≠(3,0,0)->t≠(5,W.funcs.length,0)->R' t=R t:=by
 have own:∀t,fZ W t->(jG R (3,0,0) r t).v.ownBlock≠some g:=by
  intro t E;by_cases e:t=(3,0,0)
  .subst e;rw[dD];exact ho
  .rw[dh R r e];exact h.own t E
 have ug:ru.v.ownBlock≠some g:=λe=>(ua g e).1 rfl;have O:(w1.setCell (zA g 5) r.v).ownsRow cJ 3 1 ru.v ru.n ru.cs:=iQ M ug _;have r2:=(hw.AA (a:=(zA g 5)) own r.v).add (t:=(5,W.funcs.length,0)) (r:=ru) O λk hk u M _=>(ua k hk).2 u M;generalize D:jG (jG R (3,0,0) r) (5,W.funcs.length,0) ru=R' at r2;have q1:R' (3,0,0)=r:=by rw[<-D,dh _ _ dC,dD]
 have J:R' (5,W.funcs.length,0)=ru:=by rw[<-D,dD]
 have K:∀t,t≠(3,0,0)->t≠(5,W.funcs.length,0)->R' t=R t:=λt h1 h2=>by rw[<-D,dh _ _ h2,dh _ _ h1]
 have key:∀u:eO,u.1≠3->u.1≠5->R' u=R u:=λu a b=>K u (λe=>a (by rw[e])) (λe=>b (by rw[e]));have F:∀i,i<W.funcs.length->R' (5,i,0)=R (5,i,0):=λi hi=>K _ dC (λe=>by simp at e;omega);have hT:∀t,fZ {W with funcs:=W.funcs++[(p,us)]} t->fZ W t\/t=(5,W.funcs.length,0):=by
  intro t E;obtain e|e|⟨e1,L,e3⟩|e:=E
  .exact .inl (.inl e)
  .exact .inl (.inr (.inl e))
  .have L:=L;rw[dq]at L;simp only[dt,dG]at L;by_cases q:t.2.1=W.funcs.length
   .exact .inr (by obtain⟨a,b,c⟩:=t;dsimp only at*;rw[e1,q,e3])
   .exact .inl (.inr (.inr (.inl ⟨e1,cM,e3⟩)))
  .exact .inl (.inr (.inr (.inr e)))
 refine⟨R',h.to (λt=>t=(3,0,0)\/t=(5,W.funcs.length,0)) (r2.sub hT) (λt E=>?_) ?_ (λt E hn=>?_) (λt E hn=>?_),by rw[q1],by rw[J],K⟩
 .by_cases e:t=(5,W.funcs.length,0)
  .subst e;rw[J];exact ug
  .have:=own t ((hT t E).resolve_right e);rwa[<-D,dh _ _ e]
 .rw[fF (hb.trans h.block)];have:(gc {W with funcs:=W.funcs++[(p,us)]} R' H rz).toArray=(gc W R H rz).toArray.setIfInBounds 5 r.v:=by
   unfold gc;rw[q1,key (0,0,0) dC dC,key (1,0,0) dC dC,key (4,0,0) dC dC];simp
  rw[this]
 .obtain⟨n1,n2⟩:=OB.1 hn;have I:=(hT t E).resolve_right n2;refine⟨I,K t n1 n2,oL (λ_=>rfl) (λ_=>⟨rfl,λi _=>by rw[key _ dC dC]⟩) (λ_=>rfl) (λe=>?_) (λ_=>⟨rfl,λc _=>by rw[key _ dC dC]⟩) (λe=>?_) (λe=>⟨rfl,λj hj=>?_⟩) (λ_=>rfl) (λ_=>rfl) (wz I)⟩
  .exfalso
   obtain(q|q|q|q)|q|q|q|⟨q|q,_⟩:=I
   .rw[q]at e;simp at e
   .rw[q]at e;simp at e
   .exact n1 q
   .rw[q]at e;simp at e
   all_goals omega
  .have hl:t.2.1<W.funcs.length:=by
    obtain(q|q|q|q)|q|q|q|⟨q|q,_⟩:=I
    .rw[q]at e;simp at e
    .rw[q]at e;simp at e
    .rw[q]at e;simp at e
    .rw[q]at e;simp at e
    .omega
    .exact q.2.1
    all_goals omega
   exact iL _ _ _ _ hl
  .have aa:t.2.1<W.cS.length:=by
    obtain(q|q|q|q)|q|q|q|⟨q|q,_⟩:=I
    .rw[q]at e;simp at e
    .rw[q]at e;simp at e
    .rw[q]at e;simp at e
    .rw[q]at e;simp at e
    .omega
    .omega
    .exact q.2.1
    all_goals omega
   show fc R' t.2.1 j (W.fr t.2.1 j)=_;unfold fc;rw[key (7,_,_) dC dC,key (8,_,_) dC dC];by_cases e:(W.fr t.2.1 j).guard=true
   .simp only[e,wY]
   .rw[F _ (hF _ _ aa hj (by simpa using e))]
 .obtain rfl|rfl:=hn
  .rw[q1];refine⟨by rw[hr];show _=(W.funcs++[(p,us)]).length;simp,?_⟩;rw[hc,h.cells _ iW];show((List.range W.funcs.length).flatMap λi=>[zI (W.funcs.getD i (0,[])).1,(R (5,i,0)).v])++[zI p,ru.v]=(List.range (W.funcs++[(p,us)]).length).flatMap λi=>[zI ((W.funcs++[(p,us)]).getD i (0,[])).1,(R' (5,i,0)).v]
   rw[dq,dt,dG,kR,mf,J,gD];congr 1;exact fX λi hi=>by rw[F i hi,iL _ _ _ _ hi]
  .rw[J];have e:(W.funcs++[(p,us)]).getD W.funcs.length (0,[])=(p,us):=gD _ _ _;refine⟨?_,?_⟩
   .show _=((W.funcs++[(p,us)]).getD W.funcs.length (0,[])).2.length;rw[e,un]
   .show _=((W.funcs++[(p,us)]).getD W.funcs.length (0,[])).2.flatMap _;rw[e,uc]
def Sp.On(h:Sp cJ g W R H rz w){k:Co}(hk:k.cy=[])(hr:r.n=W.cS.length+1)(O:r.cs=(R (4,0,0)).cs++cc mO k)(hw:Rows cJ Gl DU (fZ W) (jG R (4,0,0) r) w1)(ho:r.v.ownBlock≠some g)(hb:w1.heap[g]?=w.heap[g]?):
  ∃R',Sp cJ g {W with cS:=W.cS++[k]} R' H rz (w1.setCell ⟨g,6,none⟩ r.v)/\(R' (4,0,0)).v=r.v/\(R' (6,W.cS.length,0)).v=mO/\∀t,t≠(4,0,0)->t≠(6,W.cS.length,0)->R' t=R t:=by
 have own:∀t,fZ W t->(jG R (4,0,0) r t).v.ownBlock≠some g:=by
  intro t J;by_cases e:t=(4,0,0)
  .subst e;rw[dD];exact ho
  .rw[dh R r e];exact h.own t J
 have r2:=(hw.AA (a:=(zA g 6)) own r.v).nil (6,W.cS.length,0);generalize D:jG (jG R (4,0,0) r) (6,W.cS.length,0) lA=R' at r2;have q1:R' (4,0,0)=r:=by rw[<-D,dh _ _ dC,dD]
 have L:R' (6,W.cS.length,0)=lA:=by rw[<-D,dD]
 have ro:∀t,t≠(4,0,0)->t≠(6,W.cS.length,0)->R' t=R t:=λt h1 h2=>by rw[<-D,dh _ _ h2,dh _ _ h1]
 have key:∀u:eO,u.1≠4->u.1≠6->R' u=R u:=λu a b=>ro u (λe=>a (by rw[e])) (λe=>b (by rw[e]));have aa:∀i,i<W.cS.length->R' (6,i,0)=R (6,i,0):=λi hi=>ro _ dC (λe=>by simp at e;omega);have eg:∀c,c<W.cS.length->(W.cS++[k]).getD c dE=W.cS.getD c dE:=λc O=>iL _ _ _ _ O;have el:(W.cS++[k]).getD W.cS.length dE=k:=gD _ _ _;have E:∀c j,c<W.cS.length->St.fr {W with cS:=W.cS++[k]} c j=W.fr c j:=λc j O=>by show((W.cS++[k]).getD c dE).cy.getD j pG=_;rw[eg c O];rfl
 have hT:∀t,fZ {W with cS:=W.cS++[k]} t->fZ W t\/t=(6,W.cS.length,0):=by
  intro t J;obtain e|e|e|⟨e1,F,I⟩|⟨e1,F,I,e4⟩:=J
  .exact .inl (.inl e)
  .exact .inl (.inr (.inl e))
  .exact .inl (.inr (.inr (.inl e)))
  .have F:=F;rw[dq]at F;simp only[dt,dG]at F;by_cases q:t.2.1=W.cS.length
   .exact .inr (by obtain⟨a,b,c⟩:=t;dsimp only at*;rw[e1,q,I])
   .exact .inl (.inr (.inr (.inr (.inl ⟨e1,cM,I⟩))))
  .have F:=F;rw[dq]at F;simp only[dt,dG]at F;have I:=I;by_cases q:t.2.1=W.cS.length
   .rw[q,el,hk]at I;exact absurd I (dT _)
   .have M:t.2.1<W.cS.length:=cM;rw[eg _ M]at I;rw[E _ _ M]at e4;exact .inl (.inr (.inr (.inr (.inr ⟨e1,M,I,e4⟩))))
 have cl:∀t,fZ W t->(t.1=6\/t.1=7\/t.1=8)->t.2.1<W.cS.length:=by
  intro t K e;obtain(q|q|q|q)|q|q|q|⟨q|q,L,_⟩:=K
  .rw[q]at e;simp at e
  .rw[q]at e;simp at e
  .rw[q]at e;simp at e
  .rw[q]at e;simp at e
  .omega
  .omega
  .exact q.2.1
  .exact L
  .exact L
 refine⟨R',h.to (λt=>t=(4,0,0)\/t=(6,W.cS.length,0)) (r2.sub hT) (λt J=>?_) ?_ (λt J hn=>?_) (λt J hn=>?_),by rw[q1],by rw[L];rfl,ro⟩
 .by_cases e:t=(6,W.cS.length,0)
  .subst e;rw[L];simp[lA,Value.ownBlock]
  .have:=own t ((hT t J).resolve_right e);rwa[<-D,dh _ _ e]
 .rw[fF (hb.trans h.block)];have:(gc {W with cS:=W.cS++[k]} R' H rz).toArray=(gc W R H rz).toArray.setIfInBounds 6 r.v:=by
   unfold gc;rw[q1,key (0,0,0) dC dC,key (1,0,0) dC dC,key (3,0,0) dC dC];simp
  rw[this]
 .obtain⟨n1,n2⟩:=OB.1 hn;have K:=(hT t J).resolve_right n2;refine⟨K,ro t n1 n2,oL (λ_=>rfl) (λ_=>⟨rfl,λi _=>by rw[key _ dC dC]⟩) (λ_=>rfl) (λ_=>⟨rfl,λi _=>by rw[key _ dC dC]⟩) (λe=>?_) (λ_=>rfl) (λe=>?_) (λe=>?_) (λe=>?_) (wz K)⟩
  .exfalso
   obtain(q|q|q|q)|q|q|q|⟨q|q,_⟩:=K
   .rw[q]at e;simp at e
   .rw[q]at e;simp at e
   .rw[q]at e;simp at e
   .exact n1 q
   all_goals omega
  .have M:=cl t K (.inl e);refine⟨?_,λj hj=>?_⟩
   .show((W.cS++[k]).getD t.2.1 dE).cy.length=_;rw[eg _ M]
   .rw[E _ _ M];unfold fc;rw[key (5,_,0) dC dC,key (7,_,_) dC dC,key (8,_,_) dC dC]
  .rw[E _ _ (cl t K (.inr (.inl e)))]
  .rw[E _ _ (cl t K (.inr (.inr e)))]
 .obtain rfl|rfl:=hn
  .rw[q1];refine⟨by rw[hr];show _=(W.cS++[k]).length;simp,?_⟩;rw[O,h.cells _ iN];show((List.range W.cS.length).flatMap λc=>cc (R (6,c,0)).v (W.cS.getD c dE))++cc mO k=(List.range (W.cS++[k]).length).flatMap λc=>cc (R' (6,c,0)).v ((W.cS++[k]).getD c dE);rw[dq,dt,dG,kR,mf,L,el];congr 1;exact fX λi hi=>by rw[aa i hi,eg i hi]
  .rw[L];refine⟨?_,?_⟩
   .show 0=((W.cS++[k]).getD W.cS.length dE).cy.length;rw[el,hk];rfl
   .show[]=(List.range ((W.cS++[k]).getD W.cS.length dE).cy.length).flatMap _;rw[el,hk];rfl
def Sp.Cd(h:Sp cJ g W R H rz w)(E:W.cQ<W.cS.length)(J:0<W.co.cy.length)(hg:W.db.guard=false){a x:Nat}(hv:(R (7,W.cQ,W.co.cy.length-1)).v=.slice (some ⟨b,0,none⟩) W.db.da.length cap):
  ∃R',Sp cJ g (W.dN {W.db with da:=W.db.da.set a x}) R' H rz (w.setCell ⟨b,a,none⟩ (.int .i64 x))/\∀t,(R' t).v=(R t).v:=by
 have M:=qZ (W:=W) E (j:=W.co.cy.length-1) (by show _<W.co.cy.length;omega) hg;have n7:(R (7,W.cQ,W.co.cy.length-1)).n=W.db.da.length:=h.ij _ M;have s1:=h.eH.store M (g:=b) (cap:=cap) (by rw[hv,n7]) a (zI x);generalize K:jG R (7,W.cQ,W.co.cy.length-1) ⟨(R (7,W.cQ,W.co.cy.length-1)).v,(R (7,W.cQ,W.co.cy.length-1)).n,(R (7,W.cQ,W.co.cy.length-1)).cs.set a (zI x)⟩=R' at s1;have r7:R' (7,W.cQ,W.co.cy.length-1)=⟨(R (7,W.cQ,W.co.cy.length-1)).v,(R (7,W.cQ,W.co.cy.length-1)).n,(R (7,W.cQ,W.co.cy.length-1)).cs.set a (zI x)⟩:=by rw[<-K,dD]
 have ro:∀t,t≠(7,W.cQ,W.co.cy.length-1)->R' t=R t:=λt h1=>by rw[<-K,dh _ _ h1]
 have D:∀t,(R' t).v=(R t).v:=by
  intro t;by_cases e:t=(7,W.cQ,W.co.cy.length-1)
  .subst e;rw[r7]
  .rw[ro t e]
 have bg:b≠g:=λe=>h.own _ M (by rw[hv,e];rfl);have O:=λt=>mF (f:={W.db with da:=W.db.da.set a x}) E J rfl t;have kt:W.db=W.fr W.cQ (W.co.cy.length-1):=rfl;refine⟨R',h.to (λt=>t=(7,W.cQ,W.co.cy.length-1)) (s1.sub λt F=>(O t).1 F) (λt F=>by rw[D];exact h.own t ((O t).1 F)) ?_ (λt F L=>?_) (λt F e=>?_),D⟩
 .rw[lM w (zA b _) g _ (λe=>bg e.symm),h.block];have:gc (W.dN {W.db with da:=W.db.da.set a x}) R' H rz=gc W R H rz:=by
   unfold gc;rw[D,D,D,D];rfl
  rw[this]
 .have hW:=(O t).1 F;have aa:∀c j,fc R' c j ((W.dN {W.db with da:=W.db.da.set a x}).fr c j)=fc R c j (W.fr c j):=by
   intro c j;by_cases e:c=W.cQ/\j=W.co.cy.length-1
   .obtain⟨rfl,rfl⟩:=e;rw[iB E J,<-kt];unfold fc;rw[D,D,D]
   .rw[gO E _ e];unfold fc;rw[D,D,D]
  refine⟨hW,ro t L,oL (λ_=>rfl) (λ_=>⟨rfl,λi _=>by rw[D]⟩) (λ_=>rfl) (λ_=>⟨rfl,λi _=>by rw[D]⟩) (λ_=>⟨jO _ _,λc _=>?_⟩) (λ_=>rfl) (λe=>⟨gP E _ _,λj _=>aa _ _⟩) (λe=>?_) (λe=>?_) (wz hW)⟩
  .rw[D,nO E];by_cases e:c=W.cQ
   .subst e;rw[cR rfl];rfl
   .rw[cK e]
  .rw[gO E];intro I;exact L (by obtain⟨a,b,c⟩:=t;dsimp only at*;rw[e,I.1,I.2])
  .by_cases I:t.2.1=W.cQ/\t.2.2=W.co.cy.length-1
   .rw[I.1,I.2,iB E J,kt]
   .rw[gO E _ I]
 .subst e;rw[r7];refine⟨?_,?_⟩
  .show(R (7,W.cQ,W.co.cy.length-1)).n=((W.dN _).fr W.cQ (W.co.cy.length-1)).da.length;rw[iB E J,n7,df]
  .show(R (7,W.cQ,W.co.cy.length-1)).cs.set a (zI x)=((W.dN _).fr W.cQ (W.co.cy.length-1)).da.flatMap _;rw[iB E J,h.cells _ M];show(W.db.da.flatMap λ(x:Nat)=>[Value.int .i64 (x:Int)]).set a (zI (x:Int))=(W.db.da.set a x).flatMap λ(x:Nat)=>[Value.int .i64 (x:Int)]
   rw[<-V6,<-V6,Tt]
def St.od(W:St)(f:Fr):St:=W.du (W.co.cy++[f])
def IJ(W:St)(f:Fr):W.push f={W.od f with iq:=max W.iq (W.co.cy.length+1)}:=rfl
def sZ(h:W.cQ<W.cS.length)(f:Fr)(c:Nat):(W.od f).cS.getD c dE=if c=W.cQ then {W.co with cy:=W.co.cy++[f]}else W.cS.getD c dE:=tH W h _ c
def mT(W:St)(f:Fr):(W.od f).cS.length=W.cS.length:=by show(W.cS.set _ _).length=_;rw[df]
def pS(h:W.cQ<W.cS.length)(f:Fr)(c:Nat):((W.od f).cS.getD c dE).cy.length=if c=W.cQ then W.co.cy.length+1 else(W.cS.getD c dE).cy.length:=by
 rw[sZ h];by_cases e:c=W.cQ
 .rw[cR e,cR e];simp
 .rw[cK e,cK e]
def pL(h:W.cQ<W.cS.length)(f:Fr):(W.od f).fr W.cQ W.co.cy.length=f:=by unfold St.fr;rw[sZ h,cR rfl];exact gD _ _ _
def rm(h:W.cQ<W.cS.length)(f:Fr)(D:¬(c=W.cQ/\j=W.co.cy.length)):(W.od f).fr c j=W.fr c j:=by
 unfold St.fr;rw[sZ h];by_cases e:c=W.cQ
 .subst e;rw[cR rfl];have E:j≠W.co.cy.length:=λx=>D ⟨rfl,x⟩;show(W.co.cy++[f]).getD j pG=W.co.cy.getD j pG;by_cases q:j<W.co.cy.length
  .exact iL _ _ _ _ q
  .rw[cB,dO iY,cB,dO cM]
 .rw[cK e]
def P9(R:eO->fW)(f:Fr)(sl:Value):List Value:=
 [.bool f.guard,.int .i64 f.want,.int .i64 f.eR,.int .i64 f.eA,if f.guard then mO else(R (5,f.fn,0)).v,if f.guard then mO else sl,mO]
def Sp.od(h:Sp cJ g W R H rz w)(F:W.cQ<W.cS.length)(hf:f.ops=[]){rs:fW}(hr:r.n=W.co.cy.length+1)(O:r.cs=(R (6,W.cQ,0)).cs++P9 R f rs.v)(hw:Rows cJ Gl DU (fZ W) (jG R (6,W.cQ,0) r) w1)(ho:r.v.ownBlock≠some g)(hb:w1.heap[g]?=w.heap[g]?)(hs:f.guard=false->w1.ownsRow cJ 3 1 rs.v rs.n rs.cs/\rs.n=f.da.length/\(rs.cs=f.da.flatMap λ(x:Nat)=>[.int .i64 (x:Int)]) /\
   ∀k,rs.v.ownBlock=some k->k≠g/\∀t,fZ W t->(jG R (6,W.cQ,0) r t).v.ownBlock≠some k)(hd:(R (4,0,0)).v=.slice (some ⟨d,0,none⟩) W.cS.length dap):
  ∃R',Sp cJ g (W.od f) R' H rz (w1.setCell ⟨d,W.cQ*8,none⟩ r.v)/\(R' (6,W.cQ,0)).v=r.v/\(f.guard=false->(R' (7,W.cQ,W.co.cy.length)).v=rs.v/\(R' (8,W.cQ,W.co.cy.length)).v=mO) /\
   ∀t,t≠(6,W.cQ,0)->t≠(7,W.cQ,W.co.cy.length)->t≠(8,W.cQ,W.co.cy.length)->(R' t).v=(R t).v:=by
 have T4:=iN (W:=W);have n4:(R (4,0,0)).n=W.cS.length:=h.ij _ T4;have e4:jG R (6,W.cQ,0) r (4,0,0)=R (4,0,0):=dh R r dC;have s1:=hw.store T4 (g:=d) (cap:=dap) (by rw[e4,hd,n4]) (W.cQ*8) r.v;rw[e4]at s1;have dg:d≠g:=λe=>h.own _ T4 (by rw[hd,e];rfl);generalize ab:(⟨(R (4,0,0)).v,(R (4,0,0)).n,(R (4,0,0)).cs.set (W.cQ*8) r.v⟩:fW)=r4 at s1;have ac:r4.v=(R (4,0,0)).v:=by rw[<-ab]
 generalize hQ:jG (jG R (6,W.cQ,0) r) (4,0,0) r4=Q at s1;have Qv:∀t,(Q t).v=(jG R (6,W.cQ,0) r t).v:=by
  intro t;rw[<-hQ];by_cases e:t=(4,0,0)
  .subst e;rw[dD,e4,ac]
  .rw[dh _ _ e]
 obtain⟨R',aa,q6,q4,L,ro⟩:∃R',Rows cJ Gl DU (fZ (W.od f)) R' (w1.setCell (zA d (W.cQ*8)) r.v)/\R' (6,W.cQ,0)=r/\R' (4,0,0)=r4/\(f.guard=false->R' (7,W.cQ,W.co.cy.length)=rs/\R' (8,W.cQ,W.co.cy.length)=lA) /\
   ∀t,t≠(6,W.cQ,0)->t≠(4,0,0)->t≠(7,W.cQ,W.co.cy.length)->t≠(8,W.cQ,W.co.cy.length)->R' t=R t:=by
  have hT:∀t,fZ (W.od f) t->fZ W t\/(f.guard=false/\(t=(7,W.cQ,W.co.cy.length)\/t=(8,W.cQ,W.co.cy.length))):=by
   intro t D;unfold fZ at D;rw[mT]at D;obtain e|e|e|e|⟨e,M,J,I⟩:=D
   .exact .inl (.inl e)
   .exact .inl (.inr (.inl e))
   .exact .inl (.inr (.inr (.inl e)))
   .exact .inl (.inr (.inr (.inr (.inl e))))
   .by_cases q:t.2.1=W.cQ/\t.2.2=W.co.cy.length
    .rw[q.1,q.2,pL F]at I;refine .inr ⟨I,?_⟩;obtain⟨a,b,c⟩:=t;dsimp only at*;obtain e|e:=e
     .exact .inl (by rw[e,q.1,q.2])
     .exact .inr (by rw[e,q.1,q.2])
    .rw[rm F _ q]at I;refine .inl (.inr (.inr (.inr (.inr ⟨e,M,?_,I⟩))));rw[pS F]at J;by_cases x:t.2.1=W.cQ
     .rw[cR x]at J;have:t.2.2≠W.co.cy.length:=λy=>q ⟨x,y⟩;rw[x];show t.2.2<W.co.cy.length;omega
     .rwa[cK x]at J
  by_cases E:f.guard=false
  .obtain⟨o1,_,_,o4⟩:=hs E;have n7:¬rs.v.ownBlock=some d:=λe=>(o4 d e).2 (4,0,0) T4 (by rw[e4,hd];rfl);have ag:(w1.setCell (zA d (W.cQ*8)) r.v).ownsRow cJ 3 1 rs.v rs.n rs.cs:=iQ o1 n7 _;have a1:=(s1.add (t:=(7,W.cQ,W.co.cy.length)) (r:=rs) ag λk hk u hu _=>by rw[Qv];exact(o4 k hk).2 u hu).nil (8,W.cQ,W.co.cy.length);refine⟨_,a1.sub λt D=>?_,?_,?_,λ_=>⟨?_,?_⟩,λt h1 M J I=>?_⟩
   .obtain e|⟨_,e|e⟩:=hT t D
    .exact .inl (.inl e)
    .exact .inl (.inr e)
    .exact .inr e
   .rw[dh _ _ dC,dh _ _ dC,<-hQ,dh _ _ dC,dD]
   .rw[dh _ _ dC,dh _ _ dC,<-hQ,dD]
   .rw[dh _ _ dC,dD]
   .rw[dD]
   .rw[dh _ _ I,dh _ _ J,<-hQ,dh _ _ M,dh _ _ h1]
  .refine⟨Q,s1.sub λt D=>?_,?_,?_,λe=>absurd e E,λt h1 M _ _=>?_⟩
   .obtain e|⟨e,_⟩:=hT t D
    .exact e
    .exact absurd e E
   .rw[<-hQ,dh _ _ dC,dD]
   .rw[<-hQ,dD]
   .rw[<-hQ,dh _ _ M,dh _ _ h1]
 have rv:∀t,t≠(6,W.cQ,0)->t≠(7,W.cQ,W.co.cy.length)->t≠(8,W.cQ,W.co.cy.length)->(R' t).v=(R t).v:=by
  intro t h1 J I;by_cases e:t=(4,0,0)
  .subst e;rw[q4,ac]
  .rw[ro t h1 e J I]
 have key:∀u:eO,u.1≠6->u.1≠7->u.1≠8->(R' u).v=(R u).v:=λu a b c=>rv u (λe=>a (by rw[e])) (λe=>b (by rw[e])) (λe=>c (by rw[e]));have ad:∀c j,¬(c=W.cQ/\j=W.co.cy.length)->fc R' c j ((W.od f).fr c j)=fc R c j (W.fr c j):=by intro c j e;rw[rm F _ e];unfold fc;rw[key (5,_,0) dC dC dC,rv (7,c,j) dC (λx=>e (by simp at x;exact x)) dC,rv (8,c,j) dC dC (λx=>e (by simp at x;exact x))]
 have ae:∀t,fZ (W.od f) t->t≠(7,W.cQ,W.co.cy.length)->t≠(8,W.cQ,W.co.cy.length)->fZ W t:=by
  intro t D n7 n8;unfold fZ at D;rw[mT]at D;obtain e|e|e|e|⟨e,M,J,I⟩:=D
  .exact .inl e
  .exact .inr (.inl e)
  .exact .inr (.inr (.inl e))
  .exact .inr (.inr (.inr (.inl e)))
  .have q:¬(t.2.1=W.cQ/\t.2.2=W.co.cy.length):=by
    intro q;obtain⟨a,b,c⟩:=t;dsimp only at*;obtain e|e:=e
    .exact n7 (by rw[e,q.1,q.2])
    .exact n8 (by rw[e,q.1,q.2])
   rw[rm F _ q]at I;refine .inr (.inr (.inr (.inr ⟨e,M,?_,I⟩)));rw[pS F]at J;by_cases x:t.2.1=W.cQ
   .rw[cR x]at J;have:t.2.2≠W.co.cy.length:=λy=>q ⟨x,y⟩;rw[x];show t.2.2<W.co.cy.length;omega
   .rwa[cK x]at J
 have gd:∀t,fZ (W.od f) t->t=(7,W.cQ,W.co.cy.length)\/t=(8,W.cQ,W.co.cy.length)->f.guard=false:=by
  intro t D e;obtain q|q|q|q|⟨q,M,J,I⟩:=D
  .obtain e|e:=e<;>rw[e]at q<;>simp at q
  .obtain e|e:=e<;>rw[e]at q<;>simp at q
  .obtain e|e:=e<;>rw[e]at q<;>simp at q
  .obtain e|e:=e<;>rw[e]at q<;>simp at q
  .obtain e|e:=e<;>rw[e]at I<;>dsimp only at I<;>rwa[pL F]at I
 refine⟨R',h.to (λt=>t=(6,W.cQ,0)\/t=(4,0,0)\/t=(7,W.cQ,W.co.cy.length)\/t=(8,W.cQ,W.co.cy.length)) aa (λt D=>?_) ?_ (λt D K=>?_) (λt D e=>?_),by rw[q6],λE=>⟨by rw[(L E).1],by rw[(L E).2];rfl⟩,rv⟩
 .by_cases e6:t=(6,W.cQ,0)
  .subst e6;rw[q6];exact ho
  by_cases e7:t=(7,W.cQ,W.co.cy.length)
  .have E:=gd t D (.inl e7);subst e7;rw[(L E).1];intro e;exact((hs E).2.2.2 g e).1 rfl
  by_cases e8:t=(8,W.cQ,W.co.cy.length)
  .have E:=gd t D (.inr e8);subst e8;rw[(L E).2];simp[lA,Value.ownBlock]
  rw[rv t e6 e7 e8];exact h.own t (ae t D e7 e8)
 .rw[lM w1 (zA d _) g _ (λe=>dg e.symm),hb,h.block];have:gc (W.od f) R' H rz=gc W R H rz:=by
   unfold gc;rw[key _ dC dC dC,key _ dC dC dC,key _ dC dC dC,key _ dC dC dC];rfl
  rw[this]
 .obtain⟨n6,K⟩:=OB.1 K;obtain⟨af,K⟩:=OB.1 K;obtain⟨n7,n8⟩:=OB.1 K;have hW:=ae t D n7 n8;refine⟨hW,ro t n6 af n7 n8,oL (λ_=>rfl) (λ_=>⟨rfl,λi _=>by rw[key _ dC dC dC]⟩) (λ_=>rfl) (λ_=>⟨rfl,λi _=>by rw[key _ dC dC dC]⟩) (λe=>?_) (λ_=>rfl) (λe=>?_) (λe=>?_) (λe=>?_) (wz hW)⟩
  .exfalso
   obtain(q|q|q|q)|q|q|q|⟨q|q,_⟩:=hW
   .rw[q]at e;simp at e
   .rw[q]at e;simp at e
   .rw[q]at e;simp at e
   .exact af q
   all_goals omega
  .have O:t.2.1≠W.cQ:=by
    intro x;obtain(q|q|q|q)|q|q|q|⟨q|q,_⟩:=hW
    .rw[q]at e;simp at e
    .rw[q]at e;simp at e
    .rw[q]at e;simp at e
    .rw[q]at e;simp at e
    .omega
    .omega
    .exact n6 (by obtain⟨a,b,c⟩:=t;dsimp only at*;rw[q.1,x,q.2.2])
    all_goals omega
   refine⟨by rw[pS F,cK O],λj _=>ad _ _ λx=>O x.1⟩
  .rw[rm F];intro x;exact n7 (by obtain⟨a,b,c⟩:=t;dsimp only at*;rw[e,x.1,x.2])
  .rw[rm F];intro x;exact n8 (by obtain⟨a,b,c⟩:=t;dsimp only at*;rw[e,x.1,x.2])
 .obtain e|e|e|e:=e
  .subst e;rw[q6];refine⟨?_,?_⟩
   .rw[hr];show _=((W.od f).cS.getD W.cQ dE).cy.length;rw[pS F,cR rfl]
   .rw[O,h.cells _ (gz F)];show((List.range W.co.cy.length).flatMap λj=>fc R W.cQ j (W.fr W.cQ j))++P9 R f rs.v=(List.range ((W.od f).cS.getD W.cQ dE).cy.length).flatMap λj=>fc R' W.cQ j ((W.od f).fr W.cQ j);rw[pS F,cR rfl,kR,mf,pL F];have e1:P9 R f rs.v=fc R' W.cQ W.co.cy.length f:=by
     unfold P9 fc;rw[key (5,_,0) dC dC dC];by_cases E:f.guard=false
     .rw[(L E).1,(L E).2];simp[E,lA,mO]
     .simp only[Bool.not_eq_false]at E;simp[E]
    rw[e1];congr 1;exact fX λj hj=>(ad _ _ λx=>cM).symm
  .subst e;rw[q4,<-ab];refine⟨n4▸(mT W f).symm,?_⟩;rw[h.cells _ T4];show((List.range W.cS.length).flatMap λc=>cc (R (6,c,0)).v (W.cS.getD c dE)).set (W.cQ*8+0) r.v=(List.range (W.od f).cS.length).flatMap λc=>cc (R' (6,c,0)).v ((W.od f).cS.getD c dE);rw[mT];refine pQ (λc=>rZ _ _) (λc=>rZ _ _) F cM ?_ λc _ O=>?_
   .rw[q6,sZ F,cR rfl];rfl
   .rw[rv _ (by simpa using O) dC dC,sZ F,cK O]
  .have E:=gd t D (.inl e);subst e;rw[(L E).1];obtain⟨_,o2,o3,_⟩:=hs E;refine⟨?_,?_⟩
   .show _=((W.od f).fr W.cQ W.co.cy.length).da.length;rw[pL F,o2]
   .show _=((W.od f).fr W.cQ W.co.cy.length).da.flatMap _;rw[pL F,o3]
  .have E:=gd t D (.inr e);subst e;rw[(L E).2];refine⟨?_,?_⟩
   .show 0=((W.od f).fr W.cQ W.co.cy.length).ops.length;rw[pL F,hf];rfl
   .show[]=((W.od f).fr W.cQ W.co.cy.length).ops.flatMap vc;rw[pL F,hf];rfl
end
end rn
end Go.Proofs.YtfpkdfeakanlpaaGreatDoor
