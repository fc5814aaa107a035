import Derived.Deep.Cut
import Derived.Test.YtfpkdfeakanlpaaGreatDoorMRnFor
import Derived.Test.YtfpkdfeakanlpaaGreatDoorMChkSpecB
set_option linter.all false
set_option maxRecDepth 100000
set_option maxHeartbeats 8000000
namespace Go.Proofs.YtfpkdfeakanlpaaGreatDoor
open Go.Proofs.Tryz
namespace rn
open pg chk
variable{f:Fr}{W:St}
def DJ(v:Vl)(h:W.cQ<W.cS.length)(E:0<W.co.cy.length)(D:W.db.guard=false)(l:List Vl):je v (W.ee l).co.cy.length (W.ee l)=je v W.co.cy.length W:=by
 have F:(W.ee l).co.cy.length=W.co.cy.length:=jg h _;have I:(W.ee l).db.guard=false:=by show(W.dN _).db.guard=false;rw[jf h E];exact D
 have J:(W.ee l).fU=W.fU:=rL h _;rw[F];obtain⟨m,K⟩:∃m,W.co.cy.length=m+1:=⟨W.co.cy.length-1,cM⟩
 rw[K];unfold je;rw[I,D,J];rfl
def GD(p:Pg)(W:St)(x:In)(i:List Vl)(h:x.op=26\/x.op=27):∃r,(x.op=26/\r=xP W x.a.toNat x.b.toNat\/x.op=27/\r=xQ W x.a.toNat x.b.toNat)/\ew p W x i=match r with|some V=>ok V|none=>mW W vN:=by
 obtain h|h:=h
 .refine⟨_,.inl ⟨h,rfl⟩,?_⟩;unfold ew xP;rw[h];dsimp only;show(if _ then _ else _)=_;split<;>rfl
 .refine⟨_,.inr ⟨h,rfl⟩,?_⟩;unfold ew xQ;rw[h];dsimp only;show(if _ then _ else _)=_;split<;>rfl
end rn
namespace rn
open RowKit bts pg chk
variable{ops:Array Oper}{cf cx:Array Value}{rz:Bool×Vl}{Q:Exit→Act→World→Prop}{H H':Hd}{x:In}{a b cW:Int}{us:List Nat}{s:List UInt8}{i l:List Vl}{E cJ bl cv g j k n n':Nat}{S:Nat->Prop}{Hs:Nat→List Int}{D ao av:Option Addr}{p:Pg}{P:Program}{r:mX}{U V W:St}{R R':eO→fW}{u:Value}{v y:Vl}{w w' w0 w1:World}
def jU(l:List (List Int))(n:Int):Bool:=decide (0<=n/\n<=100000/\l.length<=1000/\∀x∈l,x.length<=5000)
def sT{cap:Nat}{l:List (List Int)}{n:Int}(h:nP w (.slice ao E cap) l)(D:E=l.length):
  zC 21 #[.slice ao E cap,zI n] w λe w'=>e=.returned (.bool (jU l n))/\w'=w:=by
 obtain⟨ae,ad,e,hc,hm,hr⟩:=h;simp only[de]at e;obtain⟨rfl,_,rfl⟩:=e;have af:E<=9223372036854775807:=cM;clear hc hm;by_cases h0:n<0
 .have F:Hid (jU l n=false):=by unfold jU;exact fj (λq=>by have:=D;omega)
  go_enter Lf,F8;go_wp2;go_returns;exact⟨by rw[F];rfl,rfl⟩
 by_cases h1:100000<n
 .have F:Hid (jU l n=false):=by unfold jU;exact fj (λq=>by have:=D;omega)
  go_enter Lf,F8;go_wp2;go_returns;exact⟨by rw[F];rfl,rfl⟩
 by_cases h2:1000<E
 .have F:Hid (jU l n=false):=by unfold jU;exact fj (λq=>by have:=D;omega)
  have aa:(1000:Int)<(E:Int):=cM;go_enter Lf,F8;go_wp2;go_returns;exact⟨by rw[F];rfl,rfl⟩
 have aa:¬(1000:Int)<(E:Int):=cM;go_enter Lf,F8;go_wp2;go_loopw[5] (λx wr=>∃j:Nat,j<=E/\x=zI (j:Int)/\Hid (wr=w)/\Hid (∀i,i<j->(l.getD i []).length<=5000)) (λx _=>E-(intOf x).toNat)
 case atStart=>exact⟨0,dM _,rfl,rfl,λi O=>cM⟩
 case round=>
  obtain⟨j,hj,rfl,HW,HA⟩:=hrel;obtain rfl:=HW;by_cases K:j<E
  .have L:(j:Int)<(E:Int):=cM;obtain⟨b,off,u,rfl,J,ja,jc,rfl,ab,_,_⟩:=hr j (by rw[<-D];exact K);obtain⟨nx,I⟩:=eX ((l.getD j []).length);rw[<-I]at J ab;by_cases h5:5000<nx
   .have ac:(5000:Int)<(nx:Int):=cM;have F:Hid (jU l n=false):=by
     unfold jU;refine fj (λq=>?_);have M:j<l.length:=by rw[<-D];exact K
     have:=q.2.2.2 _ (fA M);have e:l.getD j []=l[j]:=by simp[cB,M]
     rw[e]at I;omega
    clear I;go_wp2;go_returns;exact⟨by rw[F];rfl,rfl⟩
   .have ac:¬(5000:Int)<(nx:Int):=cM;have HB:Hid (∀i,i<j+1->(l.getD i []).length<=5000):=by
     intro i O;by_cases e:i=j
     .subst e;omega
     .exact HA i cM
    clear I;go_wp2;go_roundw
    case rel=>exact⟨j+1,cM,l9,by first|exact trivial|exact rfl,HB⟩
    case measure=>simp[intOf];omega
  .obtain rfl:j=E:=cM;have L:¬(j:Int)<(j:Int):=cM;have F:Hid (jU l n=true):=by
    unfold jU;refine fM ⟨cM,cM,by rw[<-D];omega,λx hx=>?_⟩;obtain⟨i,O,rfl⟩:=gM hx;have:=HA i (D▸O);have e:l.getD i []=l[i]:=by simp[cB,O]
    rwa[e]at this
   go_wp2;go_returns;exact⟨by rw[F];rfl,rfl⟩
def EJ{c:Nat×List Nat}{t:eO}(I:fZ {W with funcs:=W.funcs++[c]} t)(h:t≠(5,W.funcs.length,0)):fZ W t:=by
 have J:(W.funcs++[c]).length=W.funcs.length+1:=dC;obtain e|e|⟨E,D,F⟩|e|e:=I
 .exact .inl e
 .exact .inr (.inl e)
 .have D:=D;rw[J]at D;have:t.2.1≠W.funcs.length:=λq=>h (by obtain⟨a,b,c⟩:=t;dsimp only at*;rw[E,q,F]);exact .inr (.inr (.inl ⟨E,cM,F⟩))
 .exact .inr (.inr (.inr (.inl e)))
 .exact .inr (.inr (.inr (.inr e)))
def Sp.Bb(h:Sp cJ g W R H rz w)(hF:Vd W){p:Nat}{ru:fW}{B:Nat}(hB:cJ<=B)(F:∀k,Ft g W R k->k<B)(hu:w.ownsRow B 3 1 ru.v ru.n ru.cs)(un:ru.n=us.length)(uc:ru.cs=us.flatMap λ(x:Nat)=>[.int .i64 (x:Int)])(hv:(R (3,0,0)).v=.slice av n cv)(M:n'=W.funcs.length+1)(hA:sd 64 2 w cJ av n cv ((R (3,0,0)).cs++[.int .i64 p,ru.v]) D n' E w1):
  ∃R',Sp cJ g {W with funcs:=W.funcs++[(p,us)]} R' H rz (w1.setCell ⟨g,5,none⟩ (.slice D n' E))/\∀k,Ft g {W with funcs:=W.funcs++[(p,us)]} R' k->Ft g W R k\/ru.v.ownBlock=some k\/w.heap.size<=k:=by
 have A:=h.Ih iW rfl rfl hv hA;have I:∀k,ru.v.ownBlock=some k->B<=k/\k<w.heap.size:=λk e=>hu.lt k e;have J:∀k,ru.v.ownBlock=some k->(R (3,0,0)).v.ownBlock≠some k:=λk e q=>by have:=F k (Ft.rE iW q);have:=(I k e).1;omega
 have O:w1.ownsRow cJ 3 1 ru.v ru.n ru.cs:=by
  have q:w1.ownsRow B 3 1 ru.v ru.n ru.cs:=hu.kept A.jz (by
   cases e:ru.v.ownBlock with
   |none=>exact .inl rfl
   |some k=>exact .inr (λq=>J k e q.symm))
  exact⟨q.1,q.2.imp id (λ⟨g',K,aa,x,xb,r⟩=>⟨g',K,aa,x,cV hB xb,r⟩)⟩
 obtain⟨R',hS,e1,e2,e3⟩:=h.Qw hF (p:=p) (us:=us) (r:=⟨.slice D n' E,n',(R (3,0,0)).cs++[zI p,ru.v]⟩) (ru:=ru) M rfl A.eH A.own A.heap O un uc (by
  intro k L;have ac:=I k L;refine⟨λe=>?_,λt ht q=>?_⟩
  .have:=F g Ft.nj;omega
  .by_cases e:t=(3,0,0)
   .subst e;rw[dD]at q;obtain q|q:=A.qA k q
    .exact J k L q
    .omega
   .rw[dh _ _ e]at q;have:=F k (Ft.rE ht q);omega)
 refine⟨R',hS,λk L=>?_⟩;obtain rfl|⟨u,ab,e⟩:=L
 .exact .inl Ft.nj
 .by_cases u3:u=(3,0,0)
  .subst u3;rw[e1]at e;exact(A.qA k e).imp (λx=>Ft.rE iW x) .inr
  .by_cases u5:u=(5,W.funcs.length,0)
   .subst u5;rw[e2]at e;exact .inr (.inl e)
   .rw[e3 u u3 u5]at e;exact .inl (Ft.rE (EJ ab u5) e)
def C9{t:eO}(I:fZ {W with tables:=W.tables++[[]]} t)(h:t≠(2,W.tables.length,0)):fZ W t:=by
 have J:(W.tables++[[]]).length=W.tables.length+1:=dC;obtain e|⟨E,D,F⟩|e|e|e:=I
 .exact .inl e
 .have D:=D;rw[J]at D;have:t.2.1≠W.tables.length:=λq=>h (by obtain⟨a,b,c⟩:=t;dsimp only at*;rw[E,q,F]);exact .inr (.inl ⟨E,cM,F⟩)
 .exact .inr (.inr (.inl e))
 .exact .inr (.inr (.inr (.inl e)))
 .exact .inr (.inr (.inr (.inr e)))
def Sp.Gs(h:Sp cJ g W R H rz w)(M:(R (1,0,0)).v=.slice av n cv)(F:n'=W.tables.length+1)(O:sd 208 1 w cJ av n cv ((R (1,0,0)).cs++[mO]) D n' E w1):
  ∃R',Sp cJ g {W with tables:=W.tables++[[]]} R' H rz (w1.setCell ⟨g,4,none⟩ (.slice D n' E))/\Kp (Ft g W R) (Ft g {W with tables:=W.tables++[[]]} R') w (w1.setCell ⟨g,4,none⟩ (.slice D n' E)):=by
 have A:=h.Ih iT rfl rfl M O;obtain⟨R',hS,e1,e2,e3⟩:=h.s9 (r:=⟨.slice D n' E,n',(R (1,0,0)).cs++[mO]⟩) F rfl A.eH A.own A.heap;refine⟨R',hS,(Kp.grown A.jz (λk I _=>Ft.rE iT I) λk I=>?_).trans (Kp.setCell _ Ft.nj)⟩;obtain rfl|⟨u,J,e⟩:=I
 .exact .inl Ft.nj
 .by_cases L:u=(1,0,0)
  .subst L;rw[e1]at e;exact(A.qA k e).imp (λx=>Ft.rE iT x) id
  .by_cases K:u=(2,W.tables.length,0)
   .subst K;rw[e2]at e;cases e
   .rw[e3 u L K]at e;exact .inl (Ft.rE (C9 J K) e)
def Fx(cJ g:Nat)(U:St)(R:eO->fW)(H:Hd)(rz:Bool×Vl)(w:World)(r:mX)(w':World):Prop:=
 match r.2 with
 |none=>∃R',Sp cJ g r.1 R' H rz w'/\Kp (Ft g U R) (Ft g r.1 R') w w'
 |some v=>∃V R',Sp cJ g V R' H (true,v) w'/\Kp (Ft g U R) (Ft g V R') w w'/\(V=r.1\/∃l,V=r.1.ee l/\∀x∈l,gG r.1.sz x)
def jN(e:r=ok V)(h:Sp cJ g V R' H rz w')(k:Kp (Ft g U R) (Ft g V R') w w'):Fx cJ g U R H rz w r w':=e▸⟨R',h,k⟩
def IB(e:r=mW V s)(h:Sp cJ g V R' H (true,tv s) w')(k:Kp (Ft g U R) (Ft g V R') w w'):Fx cJ g U R H rz w r w':=e▸⟨V,R',h,k,.inl rfl⟩
def uY(e:r=mW V s)(D:∀x∈l,gG V.sz x)(h:Sp cJ g (V.ee l) R' H (true,tv s) w')(k:Kp (Ft g U R) (Ft g (V.ee l) R') w w'):Fx cJ g U R H rz w r w':=e▸⟨_,R',h,k,.inr ⟨l,rfl,D⟩⟩
def kT(h:U.cQ<U.cS.length)(D:0<U.co.cy.length)(n:Nat):(U.dZ n).cQ=U.cQ/\(U.dZ n).cS.length=U.cS.length/\(U.dZ n).co.cy.length=U.co.cy.length/\(U.dZ n).db={U.db with ops:=U.db.ops.take (U.db.ops.length-n)} :=
 ⟨rfl,by simp[St.dZ,St.dN,St.du,St.dW],jg h _,jf h D _⟩
def Sp.WD{R:eO->fW}(h:Sp cJ g W R H rz w)(F:W.cQ<W.cS.length){m:Nat}(L:W.co.cy.length=m+1)(I:W.db.guard=false){b c:Nat}(J:(R (7,W.cQ,m)).v=.slice (some ⟨b,0,none⟩) W.db.da.length c)(r:Nat):w.frozen? ⟨b,r,none⟩=false:=by
 have D:W.co.cy.length-1=m:=cM;have E:=qZ (W:=W) F (j:=m) (by show m<W.co.cy.length;omega) (by rw[<-D];exact I);have K:(R (7,W.cQ,m)).n=W.db.da.length:=by have:=h.ij _ E;rw[<-D]at this|-;exact this
 exact h.eH.free E (g:=b) (cap:=c) (K▸J) r
def fI.below{row:Option Nat}(h:Below w.heap.size w w1):fI w row w1:=⟨h.size,λk D _=>h.block k D⟩
def Ls.one{off:Nat}(h:Ls S w (some ⟨bl,off,none⟩) i)(J:j<i.length)(K:y=i.getD j v0){D:ByteArray}(e:vc y=[.int .i64 y.k,.int .i64 y.n,.string D]):
  w.cell? ⟨bl,off+j*3,none⟩=some (.int .i64 y.k)/\w.cell? ⟨bl,off+j*3+1,none⟩=some (.int .i64 y.n)/\w.cell? ⟨bl,off+j*3+2,none⟩=some (.string D):=by
 obtain⟨b,o,q,F,I,E⟩:=h.eA J;cases q;rw[<-K]at F I E;have:sv y.s=.string D:=by have:=ga (λq:List Value=>q[2]?) e;simpa[vc]using this
 rw[this]at E;exact⟨F,I,E⟩
def yc:∀(l m:List Oper)(a:Act)(w:World),wpList P ops (Qn Q λD w'=>wpList P ops Q m D w') l a w->wpList P ops Q (l++m) a w
 |[],_,_,_,h=>h
 |o::l,m,a,w,h=>by
  have I:=yc l m;show wpList P ops Q (o::(l++m)) a w;unfold wpList at h|-;split at h
  .rename_i E;rw[cR E];exact h.imp (λJ=>sE (λD w' F=>I D w' F) J) id
  .rename_i E;rw[cK E];exact I _ _ h
def qJ{id:Nat}{l:List Oper}{a:Act}(k:Nat)(h:wpList P l.toArray (Qn Q λD w'=>wpList P l.toArray Q (l.drop k) D w') (l.take k) a w):(Code.region id l.toArray false).wp P Q a w:=by refine wp_region_lit ?_;have:=yc (l.take k) (l.drop k) a w h;rwa[xX]at this
def QZ(bl off:Nat)(i:List Vl)(k:Nat)(cf cx:Array Value)(X:World):Prop:=∃T:Nat->Prop,Ls T X (some ⟨bl,off,none⟩) i/\Lc T X k cf 111/\Lc T X (k+1) cx 105
section
variable{off:Nat}{S:World→Prop}
def Wd.val(D:S=QZ bl off i k cf cx)(x:Wd S)(E:j<i.length)(F:y=i.getD j v0){h:ByteArray}(e:vc y=[.int .i64 y.k,.int .i64 y.n,.string h]):
  x.w.cell? ⟨bl,off+j*3,none⟩=some (.int .i64 y.k)/\x.w.cell? ⟨bl,off+j*3+1,none⟩=some (.int .i64 y.n)/\x.w.cell? ⟨bl,off+j*3+2,none⟩=some (.string h):=by
 subst D;obtain⟨T,I,_⟩:=x.ok;exact I.one E F e
def Wd.fr(h:S=QZ bl off i k cf cx)(x:Wd S)(D:cf[j]?=some u):x.w.cell? ⟨k,j,none⟩=some u:=by subst h;obtain⟨T,_,E,_⟩:=x.ok;exact E.cell D
def Wd.ins(h:S=QZ bl off i k cf cx)(x:Wd S)(D:cx[j]?=some u):x.w.cell? ⟨k+1,j,none⟩=some u:=by subst h;obtain⟨T,_,_,E⟩:=x.ok;exact E.cell D
end
section
variable{t k:Vl}
def Ip{z:Sz}(h:gG z t)(D:t.k=4):t=⟨4,(t.n.toNat:Nat),t.s⟩/\t.n.toNat<z.ts:=by have q:=h.qT D;refine⟨?_,cM⟩;obtain⟨F,E,I⟩:=t;dsimp only at*;subst D;rw[show((E.toNat:Nat):Int)=E by omega]
def DX(M:Sp cJ g W R H rz w)(D:¬(t.k=4/\k.k≠0)):zC 86 #[zP g,vv t,vv k,vv v] w λe w'=>(∃x,e=.returned x)/\Sp cJ g W R H (true,tv kM) w'/\zK g W R w w':=by
 by_cases E:t.k=4
 .exact Gz M E (oO λh=>D ⟨E,h⟩)
 .exact Gy M E
def AM(M:Sp cJ g W R H rz w)(D:cJ<=w.heap.size)(h:t.k=4/\k.k≠0)(E:gG W.sz t)(F:∀j,(W.tables.getD j []).length<=1000000000):
  zC 86 #[zP g,vv t,vv k,vv v] w λe w'=>(∃x,e=.returned x)/\∃R',Sp cJ g {W with tables:=W.tables.set t.n.toNat (put (W.tables.getD t.n.toNat []) k v)} R' H rz w'/\Kp (Ft g W R) (Ft g {W with tables:=W.tables.set t.n.toNat (put (W.tables.getD t.n.toNat []) k v)} R') w w':=by
 obtain⟨e,I⟩:=Ip E h.1;have:=Jw M D (i:=t.n.toNat) I (s:=t.s) (v:=v) h.2 (F _);rwa[<-e]at this
def J8(M:Sp cJ g W R H rz w)(h:t.k=4)(D:gG W.sz t):
  zC 87 #[zP g,vv t,vv k] w (zR w (vv (pI (W.tables.getD t.n.toNat []) k))):=by
 obtain⟨e,E⟩:=Ip D h;have:=Kf M (i:=t.n.toNat) E (s:=t.s) (k:=k);rwa[<-e]at this
end
structure Em(p:Pg)(Hs:Nat→List Int)(W U V:St)(n:Nat)(x:In):Prop where
 db:U.db={W.db with eA:=W.db.eA+1}
 cQ:U.cQ=W.cQ
 len:U.co.cy.length=W.co.cy.length
 cS:U.cS.length=W.cS.length
 OU:jq x=n
 le:n≤W.db.ops.length
 xf:Xf p (p.cU.getD W.db.eR gu) x
 xk:Fw (p.cU.getD W.db.eR gu).dw.length x
 zw:∀v∈U.taken n,gG W.sz v
 sz:V.sz=W.sz
 iv:x.op≠18→x.op≠23→x.op≠24→Iv p Hs V (qK x)
 nV:V.cQ<V.cS.length
 fU:V.fU={W.fU with dz:=W.dz+1}
 U8:Iv p Hs {W.fU with dz:=W.dz+1} W.db.want
 Ro:St.sz {W.fU with dz:=W.dz+1}=W.sz
def Iv.IW(E:mz p Hs)(h:Iv p Hs W 0)(L:0<W.co.cy.length)(F:W.db.guard=false):W.db.ops.length<=1000:=by
 have t:=h.kI L;have J:=t.eR F;have K:=t.eA F;have I:=t.Kg F;rw[Int.add_zero]at I;obtain⟨es,D,M⟩:=(E.PT _ J).2.2 _ K (by rw[I];omega);have O:=(vz ((E.jZ.2 _ J).1 _ K)).AK;rw[I]at D;unfold qq at D;generalize(p.cU.getD W.db.eR gu).dw.getD W.db.eA jI=x at O D;by_cases c:(W.db.ops.length:Int)-jq x<0\/300<(W.db.ops.length:Int)-jq x+qK x
 .rw[cR c]at D;cases D
 .omega
def rJ(p:Pg)(V:St)(x:In)(i:List Vl):((ew p V x i).1.ins=V.ins/\(ew p V x i).1.dn=V.dn/\(ew p V x i).1.lu=V.lu)/\((ew p V x i).2≠none->(ew p V x i).1=V):=by
 have D:∀a b c,((V.store a b c).1.ins=V.ins/\(V.store a b c).1.dn=V.dn/\(V.store a b c).1.lu=V.lu)/\((V.store a b c).2≠none->(V.store a b c).1=V):=by
  intro a b c;unfold St.store;split
  .exact⟨⟨rfl,rfl,rfl⟩,λh=>absurd rfl h⟩
  .exact⟨⟨rfl,rfl,rfl⟩,λ_=>rfl⟩
 have A:∀U:St,U.ins=V.ins/\U.dn=V.dn/\U.lu=V.lu->((ok U).1.ins=V.ins/\(ok U).1.dn=V.dn/\(ok U).1.lu=V.lu)/\((ok U).2≠none->(ok U).1=V):=λU h=>⟨h,λq=>absurd rfl q⟩
 have C:∀s,((mW V s).1.ins=V.ins/\(mW V s).1.dn=V.dn/\(mW V s).1.lu=V.lu)/\((mW V s).2≠none->(mW V s).1=V):=λs=>⟨⟨rfl,rfl,rfl⟩,λ_=>rfl⟩
 unfold ew;dsimp only;split
 case h_13=>
  have:=D (i.getD 0 v0) (i.getD 1 v0) (i.getD 2 v0);generalize V.store (i.getD 0 v0) (i.getD 1 v0) (i.getD 2 v0)=r at this;obtain⟨U,_|v⟩:=r
  .exact A _ this.1
  .exact this
 case h_15=>exact D _ _ _
 all_goals first
  |exact A _ ⟨rfl,rfl,rfl⟩
  |(split<;>first|exact C _|exact A _ ⟨rfl,rfl,rfl⟩|(refine A _ ?_;split<;>exact⟨rfl,rfl,rfl⟩))
  |(refine A _ ?_;split<;>exact⟨rfl,rfl,rfl⟩)
def EM(E:mz p Hs)(h:Iv p Hs W 0)(D:0<W.co.cy.length)(F:W.db.guard=false)(hx:(p.cU.getD W.db.eR gu).dw.getD W.db.eA jI=x)(I:U={W.gi (W.db.eA+1)with dz:=W.dz+1})(L:n=(jq x).toNat)(J:U.dZ n=V):Em p Hs W U V n x:=by
 have A:=h.eA E D F;have t:=h.kI D;have xk:=vz ((E.jZ.2 _ (t.eR F)).1 _ (t.eA F));rw[hx]at A xk;have m:=Ha h.cQ D (jq x).toNat (W.dz+1);rw[<-I,<-L]at m;rw[m.1]at J;have K:(W.db.ops.take (W.db.ops.length-(jq x).toNat)).length=W.db.ops.length-(jq x).toNat:=by rw[dX];omega
 have M:((W.db.ops.length-(jq x).toNat:Nat):Int)=(W.db.ops.length:Int)-jq x:=by have:=A.JG;have:=A.zd;omega
 have hi:∀v∈W.db.ops.drop (W.db.ops.length-n),gG W.sz v:=λv O=>t.ops F v (fK O);have fr:∀(a:Nat)(q:Int),a<(p.cU.getD W.db.eR gu).dw.length->(Hs W.db.eR).getD a (-1)=(W.db.ops.length:Int)-jq x+q ->
   pM p Hs W.sz {W.db with eA:=a,ops:=W.db.ops.take (W.db.ops.length-n)} q:=by
  intro a q h1 h2;refine⟨t.nQ,t.sH,t.eR,λ_=>h1,λ_=>?_,t.da,t.um,t.oo,t.up,λ_ v O=>t.ops F v (ox O),t.fn⟩;rw[L,K,M];exact h2
 have et:(W.gi (W.db.eA+1)).db={W.db with eA:=W.db.eA+1}:=jf h.cQ D _;have el:(W.gi (W.db.eA+1)).co.cy.length=W.co.cy.length:=jg h.cQ _;have ec:(W.gi (W.db.eA+1)).cS.length=W.cS.length:=by simp[St.gi,St.dN,St.du,St.dW]
 refine⟨I▸et,by rw[I];rfl,I▸el,I▸ec,by rw[L];have:=A.JG;omega,by rw[L];have:=A.JG;have:=A.zd;omega,A.ok,xk,m.2▸hi,?_,λa1 a2 a3=>?_,?_,?_,?_,?_⟩
 .rw[<-J];exact pP W _
 .have q:=A.next a1 a2 a3;rw[<-J];exact(h.set (f:={W.db with eA:=W.db.eA+1,ops:=W.db.ops.take (W.db.ops.length-n)}) D rfl (fr _ _ q.1 q.2)).rH rfl rfl rfl rfl rfl rfl
 .rw[<-J];show W.cQ<(W.dN _).cS.length;have:=h.cQ;simpa[St.dN,St.du,St.dW]using this
 .rw[<-J];show({(W.dN {W.db with eA:=W.db.eA+1,ops:=W.db.ops.take (W.db.ops.length-n)}).fU with dz:=W.dz+1}:St)=_;rw[rL h.cQ]
 .exact(jS h D).rH rfl rfl rfl rfl rfl rfl
 .exact jv W (W.co.cy.take (W.co.cy.length-1))
def vO(h:(p.cU.getD W.db.eR gu).dw.getD W.db.eA jI=x)(D:U={W.gi (W.db.eA+1)with dz:=W.dz+1})(E:n=(jq x).toNat)(F:U.dZ n=V):
  pj p W=if x.op=22 then tX p V ((U.taken n).getD 0 v0) ((U.taken n).drop 1) x.b else if x.op=23 then tX p V.fU ((U.taken n).getD 0 v0) ((U.taken n).drop 1) W.db.want else if x.op=24 then ok (gv V.fU (U.taken n) W.db.want)else ew p V x (U.taken n):=by
 unfold pj;dsimp only;rw[h,<-D,<-E,F]
def uf(v:Vl):∀(n:Nat)(W:St),(je v n W).ins=W.ins/\(je v n W).dn=W.dn
 |0,W=>by
  unfold je;split
  .exact⟨rfl,rfl⟩
  .rw[(mr _ _ _).1,(mr _ _ _).2];exact⟨rfl,rfl⟩
 |n+1,W=>by
  unfold je;split
  .rw[(mr _ _ _).1,(mr _ _ _).2];exact⟨rfl,rfl⟩
  .rw[(uf v n _).1,(uf v n _).2];exact⟨rfl,rfl⟩
def AH(E:mz p Hs)(M:Mc w0 g V R H (true,v) w)(I:Iv p Hs V cW)(L:gG V.sz v)(J:je v V.co.cy.length V=U):
  zC 53 #[zP g] w λe h=>(∃x,e=.returned x)/\Cf w0 g H.ks H.ps (ok U) h:=by
 refine(CD E M.sp M.mV.size I L J).mono ?_;rintro e h ⟨O,R',u,h1,K,hb⟩;have D:=uf v V.co.cy.length V;rw[J]at D;refine⟨O,R',{H with er:=u},v,rfl,rfl,⟨h1,M.pA,M.mV.trans (K.below M.mV.size λk F=>Ft.from M.sp M.pA F),by show nP w0 H.ins U.ins;rw[D.1];exact M.ins,by show Pt _ (Ft g U R') h H.pr U.dn;rw[D.2];exact M.pr.kept K,hb _ (λk F=>?_) M.er⟩⟩;obtain⟨hs,q1,_⟩:=M.pr;exact(q1.lt k F).2
def Ij(w0:World)(g:Nat)(h D:Value)(r:mX)(w':World):Prop:=
 match r.2 with
 |none=>Cf w0 g h D r w'
 |some v=>∃V R' H',H'.ks=h/\H'.ps=D/\Mc w0 g V R' H' (true,v) w'/\(V=r.1\/∃l,V=r.1.ee l/\(∀x∈l,gG r.1.sz x)/\r.1.cQ<r.1.cS.length/\0<r.1.co.cy.length/\r.1.db.guard=false)
def Cf.ex{D E:Value}(h:Cf w0 g D E r w'):Ij w0 g D E r w':=by
 obtain⟨V,o⟩:=r;cases o with
 |none=>exact h
 |some v=>
  obtain⟨R',H',J,F,I,M⟩:=h;exact⟨V,R',H',F,I,M,.inl rfl⟩
def RF{ev:Vl}(M:Mc w0 g U R H (false,ev) w)(h:Fx w0.heap.size g U R H (false,ev) w r w')(D:r.1.ins=U.ins/\r.1.dn=U.dn/\r.1.lu=U.lu)(K:r.2≠none->r.1.cQ<r.1.cS.length/\0<r.1.co.cy.length/\r.1.db.guard=false):Ij w0 g H.ks H.ps r w':=by
 obtain⟨V,o⟩:=r;cases o with
 |none=>
  obtain⟨R',F,I⟩:=h;exact⟨R',H,ev,rfl,rfl,M.gY F I D.1 D.2.1 D.2.2⟩
 |some v=>
  obtain⟨E,R',F,I,J⟩:=h;have q:E.ins=U.ins/\E.dn=U.dn/\E.lu=U.lu:=by
   obtain e|⟨l,e,_⟩:=J
   .rw[e];exact D
   .rw[e];exact D
  refine⟨E,R',H,rfl,rfl,M.gY F I q.1 q.2.1 q.2.2,J.imp id λ⟨l,e,L⟩=>⟨l,e,L,K dC⟩⟩
def yp(B:Bd W)(hs:W.dz<=100000)(h:V.vars=W.vars)(D:V.dn=W.dn)(E:V.size=W.size)(I:V.cS.length=W.cS.length)(J:ft V<=ft W){G:Nat}(K:G<=3*V.cS.length+1000):td V G:=by have L:=B.vars;have M:=B.dn;have F:=B.size;have O:=B.cS;have b5:=B.cy;have b6:W.dz*(3*W.dz+60)<=100000*300060:=tM hs cM;exact⟨cM,by rw[h];omega,by rw[D];omega,E▸F,cM⟩
def Ls.tail{off:Nat}(h:Ls S w (some ⟨bl,off,none⟩) i):Ls S w (some ⟨bl,off+3,none⟩) (i.drop 1):=by
 by_cases D:1<i.length
 .obtain⟨b,o,e,q⟩:=h.drop 1 D;cases e;exact q
 .intro E;rw[eZ]at E;omega
def Ls.Xb{h:Option Addr}(_:Ls S w ao i)(F:i.length=1){D:Nat->Prop}:Ls D w' h (i.drop 1):=λE=>by rw[eZ]at E;omega
def De(E:mz p Hs){F I:Value}(J:pj p W=r)(D:mX.ok p Hs (pj p W))(h:Ij w0 g F I r w'):
  (∃R7 K ev,K.ks=F/\K.ps=I/\Mc w0 g (gY p W) R7 K (false,ev) w') \/
  (zE w' g 15 (.bool true)/\zC 53 #[zP g] w' λe L=>(∃x,e=.returned x)/\Cf w0 g F I (ok (gY p W)) L):=by
 obtain⟨V,o⟩:=r;cases o with
 |none=>
  have O:gY p W=V:=by unfold gY;rw[J]
  obtain⟨R',H',ev,e1,e2,M⟩:=h;rw[O];exact .inl ⟨R',H',ev,e1,e2,M⟩
 |some v=>
  have O:gY p W=je v V.co.cy.length V:=by unfold gY;rw[J]
  rw[J]at D;obtain⟨V2,R',H',e1,e2,M,hV⟩:=h;obtain⟨hv,q,hq⟩:=D.2 v rfl;refine .inr ⟨M.sp.eA (j:=15) rfl,?_⟩;rw[O,<-e1,<-e2];obtain e|⟨l,e,hl,h1,h2,h3⟩:=hV
  .rw[e]at M;exact AH E M hq hv rfl
  .rw[e]at M;have aa:Iv p Hs (V.ee l) (q-l.length):=hq.ee h2 h3 hl cM;refine AH E M aa ?_ (DJ v h1 h2 h3 l);rw[show(V.ee l).sz=V.sz from pP _ _];exact hv
def tS(us sl:List Nat)(c:Cp):Nat:=if c.up then us.getD c.index.toNat 0 else sl.getD c.index.toNat 0
def qI(us sl:List Nat)(l:List Cp)(k:Nat):List Nat:=(l.take k).map (tS us sl)
def Ie{sl:List Nat}{l:List Cp}(h:k<l.length):qI us sl l (k+1)=qI us sl l k++[tS us sl (l.getD k lY)]:=by unfold qI;rw[List.take_succ,gX,cG h,cB,cG h];rfl
def KK(us sl:List Nat)(l:List Cp):qI us sl l l.length=l.map (tS us sl):=by unfold qI;rw[qR]
def Hh(h:Sp cJ g W R H rz w)(hB:cJ<=w.heap.size)(hF:Vd W)(aO:W.funcs.length<=1000000000){pi:Nat}(hp:pi<p.cU.length){l:List Cp}(hq:(p.cU.getD pi gu).fP=l)(hP:kZ w H.ps p.cU)(aQ:l.length<=1000){sl:List Nat}{ua sa:Option Addr}{un uc sn sc:Nat}{q0 q1 q2 q3 q6:Value}(bg:un<=9223372036854775807)(bh:sn<=9223372036854775807)(hr:∀i,i<l.length->∃I b:Nat,(l.getD i lY).index=(I:Nat)/\zE w b I (zI (tS us sl (l.getD i lY):Nat))/\(((l.getD i lY).up=true/\ua=some (zA b 0)/\I<un)\/((l.getD i lY).up=false/\sa=some (zA b 0)/\I<sn))):
  zC 85 #[zP g,.agg #[q0,q1,q2,q3,.slice ua un uc,.slice sa sn sc,q6],zI (pi:Int)] w λe w'=>e=.returned (.agg (zV 5 (W.funcs.length:Int) ⟨#[]⟩))/\∃R',Sp cJ g {W with funcs:=W.funcs++[(pi,l.map (tS us sl))]} R' H rz w'/\Kp (Ft g W R) (Ft g {W with funcs:=W.funcs++[(pi,l.map (tS us sl))]} R') w w':=by
 obtain⟨aP,cP,eP,ay,rP⟩:=hP;obtain⟨bP,oP,bi,ud,aR,p0,p1,p2,p3,az,aS⟩:=rP _ hp;rw[hq]at az;obtain⟨a7,c7,aA,aT,rC⟩:=az;rw[aA]at p2;subst aR;obtain⟨n,hn⟩:=eX l.length;rw[<-hn]at p2 aQ aT;have HE:=cO h;have HF:=cO hF;have HN:=cO hn;have HW:=cO (λk (hk:Ft g W R k)=>Ft.lt h hk);have aB:Hid (∀X,zB w X->zE X g 1 (.slice (some (zA bP oP)) p.cU.length cP)):=by intro X hX;have:=(HE.below hX).eA (j:=1) rfl;rwa[eP]at this
 have aU:=cO (λX (hX:zB w X)=>di p2 hX);have aV:Hid (∀X,zB w X->∀k,k<n->∃b o I bb:Nat,a7=some (zA b o)/\zE X b (o+k*2) (.bool (l.getD k lY).up)/\zE X b (o+k*2+1) (zI (I:Int))/\zE X bb I (zI (tS us sl (l.getD k lY):Nat))/\(((l.getD k lY).up=true/\ua=some (zA bb 0)/\I<un)\/((l.getD k lY).up=false/\sa=some (zA bb 0)/\I<sn))):=by intro X hX k hk;obtain⟨b,o,e,x0,x1⟩:=rC k (by rw[<-hn];exact hk);obtain⟨I,bb,e2,x2,x3⟩:=hr k (by rw[<-hn];exact hk);rw[e2]at x1;exact⟨b,o,I,bb,e,di x0 hX,di x1 hX,di x2 hX,x3⟩
 have aC:=ay;obtain⟨np,aD⟩:=eX p.cU.length;rw[<-aD]at aB aC hp;obtain⟨av,cv,hv⟩:=h.eH.sliced (iW (W:=W));have n0:(R (3,0,0)).n=W.funcs.length:=h.ij _ iW;obtain⟨no,ag⟩:=eX W.funcs.length;rw[n0,<-ag]at hv;have HV:=cO hv;have HO:Hid (∀X,Sp cJ g W R H rz X->X.ownsRow cJ 64 2 (.slice av no cv) no (R (3,0,0)).cs):=by intro X hX;have:=hX.eH.own _ (iW (W:=W));rwa[hv,n0,<-ag]at this
 have HG:=cO (Dc h iW);have aE:Hid (∀X,Sp cJ g W R H rz X->zE X g 5 (.slice av no cv)):=by intro X hX;have:=hX.eA (j:=5) rfl;rwa[hv]at this
 have bd:no<=1000000000:=cM;rw[<-ag];have aW:=cO ag;obtain⟨i0,hi,aX,aY,aZ⟩:=fQ Nj;obtain⟨j0,hj,a0,a1,a2⟩:=fQ EG;clear h hv n0 ag aO hF rP p0 p1 p2 p3 ud aS aA eP hr rC aD ay hn hq;go_enter func85,ntmps85;go_upto_region 2 with fail;refine dx λw2 ah=>?_;have B2:Hid (zB w w2):=ah▸((ba).alloc dC _).alloc ti _;have aF:Hid (Lc (λ_=>False) w2 w.heap.size #[q0,q1,q2,q3,.slice ua un uc,.slice sa sn sc,q6] 111):=by rw[ah];exact((Lc.new w (λ_ h=>h.elim) _ _).alloc _).alloc _
 have aG:Hid (Lc (λ_=>False) w2 (w.heap.size+1) (zV 0 0 ⟨#[]⟩) 56):=by have:=(Lc.new (S:=λ_=>False) (w.alloc (.cells #[q0,q1,q2,q3,.slice ua un uc,.slice sa sn sc,q6] 111)) (λ_ h=>h.elim) (zV 0 0 ⟨#[]⟩) 56).alloc (.cells #[zI (pi:Int),zN] 64);rw[dk]at this;rw[ah];exact this
 have aH:Hid (Lc (λ_=>False) w2 (w.heap.size+1+1) #[zI (pi:Int),zN] 64):=by have:=Lc.new (S:=λ_=>False) ((w.alloc (.cells #[q0,q1,q2,q3,.slice ua un uc,.slice sa sn sc,q6] 111)).alloc (.cells (zV 0 0 ⟨#[]⟩) 56)) (λ_ h=>h.elim) #[zI (pi:Int),zN] 64;rw[dk,dk]at this;rw[ah];exact this
 clear ah;have g1:=aB _ B2;have g2:=aU _ B2;go_wp2_with fail;clear g1 g2;have ak:Hid (∀k F ty X,Lc (λ_=>False) X k F ty->Lc (λb=>(Value.slice none 0 0).ownBlock=some b) X k F ty):=λk F ty X h=>⟨λy=>(by cases y),h.2⟩
 go_loopw[9] (λx wr=>∃(k:Nat)(D:Option Addr)(F:Nat),k<=n/\x=zI (k:Int)/\Hid (zB w wr)/\Hid (wr.ownsRow w.heap.size 3 1 (.slice D k F) k (mw (qI us sl l k)))/\Hid (Lc (λb=>(Value.slice D k F).ownBlock=some b) wr w.heap.size #[q0,q1,q2,q3,.slice ua un uc,.slice sa sn sc,q6] 111)/\Hid (Lc (λb=>(Value.slice D k F).ownBlock=some b) wr (w.heap.size+1) (zV 0 0 ⟨#[]⟩) 56)/\Hid (Lc (λb=>(Value.slice D k F).ownBlock=some b) wr (w.heap.size+1+1) #[zI (pi:Int),.slice D k F] 64)) (λx _=>n-(intOf x).toNat)
 case atStart=>exact⟨0,none,0,dM _,rfl,B2,fD _ _ _ _,ak _ _ _ _ aF,ak _ _ _ _ aG,ak _ _ _ _ aH⟩
 case round=>
  clear ak aF aG aH B2;obtain⟨k,D,F,hk,rfl,aa,aI,aq,ad,al⟩:=hrel;by_cases aJ:k<n
  .have be:(k:Int)<(n:Int):=cM;obtain⟨bC,oC,I,bb,rfl,x0,x1,x2,hd⟩:=aV _ (cN _ _) k aJ;have x0:=di x0 aa;obtain⟨vl,ar⟩:=eX (tS us sl (l.getD k lY));rw[<-ar]at x2;have a3:Hid (qI us sl l (k+1)=qI us sl l k++[vl]):=ar▸Ie (by rw[<-HN];exact aJ);have f4:=aq.cell (j:=4) rfl;have f5:=aq.cell (j:=5) rfl;have c1:=al.cell (j:=1) rfl;have HX:Hid (∀X,zB w X->zE X bC (oC+k*2+1) (zI (I:Int))/\zE X bb I (zI (vl:Int))):=λX hX=>⟨di x1 hX,di x2 hX⟩
   obtain⟨S,hS⟩:=eX (λX=>(zE X (w.heap.size+1+1) 1 (.slice D k F)/\zE X w.heap.size 4 (.slice ua un uc)/\zE X w.heap.size 5 (.slice sa sn sc)/\zE X bC (oC+k*2+1) (zI (I:Int))/\zE X bb I (zI (vl:Int))):World->Prop);have E:Hid (∀X,S X↔(zE X (w.heap.size+1+1) 1 (.slice D k F)/\zE X w.heap.size 4 (.slice ua un uc)/\zE X w.heap.size 5 (.slice sa sn sc)/\zE X bC (oC+k*2+1) (zI (I:Int))/\zE X bb I (zI (vl:Int)))):=λX=>by rw[hS]
   have y0:=λx:Wd S=>((E x.w).1 x.ok).1;have y1:=λx:Wd S=>((E x.w).1 x.ok).2.1;have y2:=λx:Wd S=>((E x.w).1 x.ok).2.2.1;have y3:=λx:Wd S=>((E x.w).1 x.ok).2.2.2.1;have y4:=λx:Wd S=>((E x.w).1 x.ok).2.2.2.2;have au:=cO ((E _).2 ⟨c1,f4,f5,HX _ aa⟩);haveI:Nonempty (Wd S):=⟨⟨_,au⟩⟩
   clear hS ar f4 f5 c1 x1 x2;obtain⟨aw,rfl,aK⟩|⟨aw,rfl,aK⟩:=hd;all_goals
    rw[aw]at x0;have bf:=xm.2 aK;clear aw;go_wp2_with fail;refine uq S 11 2 ((E wr.drew).2 ((E wr).1 au)) ?_;simp only[List.take,List.drop];repeat(go_big_quiet_step(fail))
    refine wpQuiet_nil ?_;refine dI ?_;go_wp2;clear y0 y1 y2 y3 y4;have a6:Hid (S (wr.drew.alloc (.cells #[zI (vl:Int)] 3))):=by obtain⟨s0,s1,s2,s3,s4⟩:=(E wr).1 au;exact(E _).2 ⟨fJ s0,fJ s1,fJ s2,fJ s3,fJ s4⟩
    refine⟨a6,?_⟩;refine dI ?_;refine gJ λwc ai=>?_;have Bc:Hid (zB w wc):=ai▸eb (aa.alloc aa.size _);have aL:Hid (wc.ownsRow w.heap.size 3 1 (.slice D k F) k (mw (qI us sl l k))):=ai▸aI.alloc _;have J:=aq.alloc (.cells #[zI (vl:Int)] 3);have K:=ad.alloc (.cells #[zI (vl:Int)] 3);have L:=al.alloc (.cells #[zI (vl:Int)] 3);replace J:=J.drew;replace K:=K.drew;replace L:=L.drew;have aM:=ai;rw[<-aM]at J K L;have ax:Hid (∀j u,([zI (vl:Int)]:List Value)[j]?=some u->wc.cell? (((zA wr.heap.size 0):Addr).add j)=some u):=by rw[ai];intro j u hu;rw[iK,dU];exact Lc.cell (S:=λ_=>False) (cs:=#[zI (vl:Int)]) ⟨λh=>h,dJ wr _⟩ (by simpa using hu)
    clear ai aM;refine eI rfl _ _ _ rfl 3 i0 (zI 0) 1 8 kN hi aX aY aZ rfl cM w.heap.size D k F (mw (qI us sl l k)) rfl aL (some (zA wr.heap.size 0)) 1 1 [zI (vl:Int)] rfl rfl (λ_=>⟨_,rfl,ax⟩) (by intro u hu;simp only[eQ,eh,iw]at hu;subst hu;rfl) (by unfold maxLen;omega) cM Bc.size ?_;intro M ab wd hA;have an:∀b,(Value.slice M (k+1) ab).ownBlock=some b->(Value.slice D k F).ownBlock=some b\/wc.heap.size<=b:=by
     intro b hb;obtain⟨e,_⟩|⟨q',e,h1|h1⟩:=hA.qA
     .subst e;cases M with
      |none=>cases hb
      |some a=>exact .inl hb
     .subst e;cases hb;exact .inl h1
     .subst e;cases hb;exact .inr (mi h1.symm)
    have aj:=Kp.grown hA.jz (λb hb _=>hb) an;have ac:=cO (J.kept aj);have ap:=cO (K.kept aj);have O:=cO (L.kept aj);have Bd:=cO (Bc.trans (aj.below Bc.size λb hb=>(aL.lt b hb).1));have a8:Hid (wd.ownsRow w.heap.size 3 1 (.slice M (k+1) ab) (k+1) (mw (qI us sl l (k+1)))):=by rw[a3];unfold mw;rw[mf];exact hA.own
    have x5:=O.cell (j:=1) rfl;have y5:=O.free 1;clear hA an aj J K L;refine lK ?_;refine⟨(E wd).2 ⟨x5,ac.cell (j:=4) rfl,ac.cell (j:=5) rfl,HX _ Bd⟩,?_⟩;refine ej ?_;go_wp2;go_roundw
    case rel=>
     have nR:=O.1;refine⟨k+1,M,ab,cM,l9,Bd.setCell (by show _<=w.heap.size+1+1;omega) _,iQ a8 nR _,⟨ac.1,?_⟩,⟨ap.1,?_⟩,⟨O.1,fF O.2⟩⟩
     .exact(cZ wd (zA (w.heap.size+1+1) 1) _ w.heap.size (by show w.heap.size≠w.heap.size+1+1;omega)).trans ac.2
     .exact(cZ wd (zA (w.heap.size+1+1) 1) _ (w.heap.size+1) (by show w.heap.size+1≠w.heap.size+1+1;omega)).trans ap.2
    case measure=>simp[intOf];omega
  .obtain rfl:k=n:=cM;have am:=cO (HE.below aa);have HT:Hid (∀j,w.heap.size<=j->some j≠(R (3,0,0)).v.ownBlock):=λj hj e=>by have:=HW _ (Ft.rE iW e.symm);omega
   obtain⟨S,hS⟩:=eX (fI wr (R (3,0,0)).v.ownBlock);have y5:=Wd.ce hS (aE wr am) HG;have z0:=Wd.ce hS (al.cell (j:=0) rfl) (HT _ cM);have z1:=Wd.ce hS (al.cell (j:=1) rfl) (HT _ cM);have HS:=cO hS;clear hS;haveI:=pz HS;go_wp2_with fail;refine uq S 6 2 (HS▸(fI.refl _ _).drew) ?_;simp only[List.take,List.drop];repeat(go_big_quiet_step(fail))
   refine wpQuiet_nil ?_;refine dI ?_;go_wp2;refine⟨HS▸(fI.refl _ _).drew.alloc _,?_⟩;refine dI ?_;clear y5 z0 z1;refine gJ λw3 ae=>?_;have B3:Hid (zB w w3):=ae▸eb (aa.alloc aa.size _);have aN:Hid (w3.ownsRow w.heap.size 3 1 (.slice D k F) k (mw (qI us sl l k))):=ae▸aI.alloc _;have a9:Hid (w.heap.size+1<w3.heap.size):=by have:=ad.lt;rw[ae];show _<(wr.alloc _).heap.size;rw[dk];omega
   have S3:Hid (fI wr (R (3,0,0)).v.ownBlock w3):=ae▸((fI.refl _ _).alloc _).drew;have ax:Hid (∀j u,([zI (pi:Int),.slice D k F]:List Value)[j]?=some u->w3.cell? (((zA wr.heap.size 0):Addr).add j)=some u):=by rw[ae];intro j u hu;rw[iK,dU];exact Lc.cell (S:=λ_=>False) (cs:=#[zI (pi:Int),.slice D k F]) ⟨λh=>h,dJ wr _⟩ (by simpa using hu)
   clear ae;refine eI rfl _ _ _ rfl 64 j0 (.agg #[zI 0,zN]) 2 32 WT hj a0 a1 a2 rfl cM cJ av no cv (R (3,0,0)).cs rfl (HO _ (HE.below B3)) (some (zA wr.heap.size 0)) 1 1 [zI (pi:Int),.slice D k F] rfl rfl (λ_=>⟨_,rfl,ax⟩) (by intro u hu;simp only[eQ,eh,iw]at hu;obtain rfl|rfl:=hu<;>rfl) (by unfold maxLen;omega) cM (cV hB B3.size) ?_;intro M ab w4 hA;have bc:Hid (∃R',Sp cJ g {W with funcs:=W.funcs++[(pi,l.map (tS us sl))]} R' H rz (w4.setCell (zA g 5) (.slice M (no+1) ab))/\∀j,Ft g {W with funcs:=W.funcs++[(pi,l.map (tS us sl))]} R' j->Ft g W R j\/(Value.slice D k F).ownBlock=some j\/w3.heap.size<=j):=
    (HE.below B3).Bb HF (us:=l.map (tS us sl)) (ru:=⟨.slice D k F,k,mw (qI us sl l k)⟩) hB HW aN (by rw[dY];exact HN.out) (by show mw (qI us sl l k)=mw _;rw[HN,KK]) HV (by rw[aW]) hA
   have K4:Hid (zK g W R w (w4.setCell (zA g 5) (.slice M (no+1) ab))):=(Kp.cY B3).trans ((Kp.grown hA.jz (λb hb _=>Ft.rE iW (HV▸hb)) (λb hb=>.inl hb)).trans (Kp.setCell _ Ft.nj));have S4:=cO (S3.grown (HV▸hA.jz));have c5:=S4.cell (aE wr am) HG;have f5:=(dA (a:=(zA g 5)) (S4.block g am.lt HG)).trans (am.free 5);have af:=cO (ad.2);have e1:¬w.heap.size+1=g:=λe=>by have:=HW g Ft.nj;omega
   have e2:¬g=w.heap.size+1:=λe=>e1 e.symm;have af:Lc (λ_=>False) (w4.setCell (zA g 5) (.slice M (no+1) ab)) (w.heap.size+1) (zV 0 0 ⟨#[]⟩) 56:=⟨λh=>h,(cZ _ _ _ _ e1).trans ((S4.block _ ad.lt (HT (w.heap.size+1) cM)).trans ad.2)⟩
   have r0:=af.cell (j:=0) (u:=zI 0) rfl;have r1:=af.cell (j:=1) (u:=zI 0) rfl;have r2:=af.cell (j:=2) (u:=zT) rfl;have rf:=af.free;obtain⟨t0,t1,t2⟩:=mL r0 r1 r2;clear af;clear hA;refine lK ?_;refine⟨HS▸S4,?_⟩;refine ej ?_;go_wp2;refine eS (v:=.agg (zV 5 (no:Int) ⟨#[]⟩)) (by simp[results,results85,go_sem,t0,t1,t2]) rfl ?_;obtain⟨R',h1,h2⟩:=bc;have nF:¬Ft g {W with funcs:=W.funcs++[(pi,l.map (tS us sl))]} R' (w.heap.size+1):=λx=>by
    obtain y|y|y:=h2 _ x
    .have:=HW _ y;omega
    .exact ad.1 y
    .have:=a9.out;omega
   exact⟨rfl,R',((h1.off (a:=(zA (w.heap.size+1) 0)) nF _).off (a:=(zA (w.heap.size+1) 1)) nF _).off (a:=(zA (w.heap.size+1) 2)) nF _,(((K4.off (a:=(zA (w.heap.size+1) 0)) (by show _<=w.heap.size+1;omega) _).off (a:=(zA (w.heap.size+1) 1)) (by show _<=w.heap.size+1;omega) _).off (a:=(zA (w.heap.size+1) 2)) (by show _<=w.heap.size+1;omega) _).sub λj hj=>(h2 j hj).imp id λy=>y.elim (λy=>(aN.lt j y).1) (λy=>cV B3.size y)⟩
def TO:ew p V ⟨0,a,b⟩ i=ok (V.ee [iU (p.dv.getD a.toNat mU)]):=by unfold ew;rfl
def TM:ew p V ⟨1,a,b⟩ i=ok (V.ee [v0]):=by unfold ew;rfl
def TL:ew p V ⟨2,a,b⟩ i=ok (V.ee [bv true]):=by unfold ew;rfl
def TJ:ew p V ⟨3,a,b⟩ i=ok (V.ee [bv false]):=by unfold ew;rfl
def TI:ew p V ⟨4,a,b⟩ i=ok (V.ee [⟨6,a,[]⟩]):=by unfold ew;rfl
def TG:ew p V ⟨5,a,b⟩ i=ok (V.ee [V.vars.getD (V.db.da.getD a.toNat 0) v0]):=by unfold ew;rfl
def TF:ew p V ⟨6,a,b⟩ i=ok {V with vars:=V.vars.set (V.db.da.getD a.toNat 0) (i.getD 0 v0)}:=by unfold ew;rfl
def TE:ew p V ⟨7,a,b⟩ i=ok ({V with vars:=V.vars++[i.getD 0 v0]}.dN {V.db with da:=V.db.da.set a.toNat V.vars.length}):=by unfold ew;rfl
def TC:ew p V ⟨8,a,b⟩ i=ok (V.ee [V.vars.getD (V.db.oo.getD a.toNat 0) v0]):=by unfold ew;rfl
def TA:ew p V ⟨9,a,b⟩ i=ok {V with vars:=V.vars.set (V.db.oo.getD a.toNat 0) (i.getD 0 v0)}:=by unfold ew;rfl
def QP:ew p V ⟨10,a,b⟩ i=ok ({V with funcs:=V.funcs++[(a.toNat,(p.cU.getD a.toNat gu).fP.map (tS V.db.oo V.db.da))]}.ee [⟨5,V.funcs.length,[]⟩]):=by unfold ew;rfl
def QO:ew p V ⟨11,a,b⟩ i=ok ({V with tables:=V.tables++[[]]}.ee [⟨4,V.tables.length,[]⟩]):=by unfold ew;rfl
def Mg:ew p V ⟨12,a,b⟩ i=(match V.store (i.getD 0 v0) (i.getD 1 v0) (i.getD 2 v0)with|(W,none)=>ok (W.ee [i.getD 0 v0])|r=>r):=by unfold ew;rfl
def Mf:ew p V ⟨13,a,b⟩ i=if (i.getD 0 v0).k=4 then ok (V.ee [pI (V.tables.getD (i.getD 0 v0).n.toNat []) (i.getD 1 v0)])else mW V kM:=by unfold ew;rfl
def QN:ew p V ⟨14,a,b⟩ i=V.store (i.getD 0 v0) (i.getD 1 v0) (i.getD 2 v0):=by unfold ew;rfl
def QM:ew p V ⟨15,a,b⟩ i=(match pv a (i.getD 0 v0) (i.getD 1 v0)with|.inl v=>ok (V.ee [v])|.inr s=>mW V s):=by unfold ew;rfl
def QL:ew p V ⟨16,a,b⟩ i=ok (V.ee [bv (!jr (i.getD 0 v0))]):=by unfold ew;rfl
def Me:ew p V ⟨17,a,b⟩ i=if (i.getD 0 v0).k=2 then ok (V.ee [nv (wrap (0-(i.getD 0 v0).n))])else mW V nz:=by unfold ew;rfl
def QK:ew p V ⟨18,a,b⟩ i=ok (V.gi a.toNat):=by unfold ew;rfl
def QJ:ew p V ⟨19,a,b⟩ i=ok (if jr (i.getD 0 v0)then V else V.gi a.toNat):=by unfold ew;rfl
def QI:ew p V ⟨20,a,b⟩ i=ok (if jr (i.getD 0 v0)then V else(V.ee [i.getD 0 v0]).gi a.toNat):=by unfold ew;rfl
def QH:ew p V ⟨21,a,b⟩ i=ok (if jr (i.getD 0 v0)then(V.ee [i.getD 0 v0]).gi a.toNat else V):=by unfold ew;rfl
def QG:ew p V ⟨25,a,b⟩ i=ok V:=by unfold ew;rfl
end rn
end Go.Proofs.YtfpkdfeakanlpaaGreatDoor
