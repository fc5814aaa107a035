import Derived.Laws.BytesArg
import Derived.Test.YtfpkdfeakanlpaaGreatDoorMRnBiC
import Derived.Test.YtfpkdfeakanlpaaGreatDoorMRnBiD
set_option linter.all false
set_option maxRecDepth 100000
set_option maxHeartbeats 8000000
namespace Go.Proofs.YtfpkdfeakanlpaaGreatDoor
open Go.Proofs.Tryz
namespace rn
open RowKit bts pg chk
variable{rz rz':Bool×Vl}{f:Fr}{H H':Hd}{cW:Int}{l:List (List Int)}{args:List Vl}{cJ cap g n na:Nat}{Hs:Nat→List Int}{ao:Option Addr}{p:Pg}{RES:mX}{V W:St}{R R':eO→fW}{ev:Vl}{w w0 w1:World}
def PE{S:Nat->Prop}{b off:Nat}{l:List Vl}(h:Ls S w (some ⟨b,off,none⟩) l)(E:1<l.length):Ls S w (some ⟨b,off+3,none⟩) (l.drop 1):=by obtain⟨I,D,e,F⟩:=h.drop 1 E;cases e;exact F
def KQ(B:Bh p Hs cW w0 ev g W R H w ao na cap args)(F:∀X,Mc w0 g W R H (false,ev) X->jC w0 g H 81 #[.pointer (some ⟨g,0,none⟩),vv (first args),vv (args.getD 1 v0),.int .i64 cW] RES X):xD cW w0 g H w ao na cap 7 RES:=by
 obtain⟨v,u,vs,us,h,D,M,I,O,J,K⟩:=B.head;rw[<-h,<-D,I,J]at F;clear h D;unfold xD;unfold jC at F|-;obtain⟨bl,off,rfl,h1,E⟩|⟨rfl,rfl,h1,E⟩:=K;all_goals
  clear B;go_enter lE,kB;go_wp2_with(first|(go_at_call 77;refine cA E ?_;rintro e w1 ⟨rfl,L,aa,m1⟩)|(go_at_call 81;refine cA (F _ (L.FC _ _)) ?_;rintro e w6 ⟨⟨x,rfl⟩,h6⟩))
  go_returns;exact⟨⟨_,rfl⟩,h6⟩
def Oj(B:Bh p Hs cW w0 ev g W R H w ao na cap args){F:Fr}(eF:F=⟨true,cW,0,0,[],[],[],0⟩)(aa:W.co.cy.length<=1000000000000)(CL:∀R2 X I n' D,Mc w0 g (W.push F) R2 H (false,ev) X->Ls (Ft g (W.push F) R2) X I (args.drop 1)->n'=(args.drop 1).length->n'<=D->D<=9223372036854775807->jC w0 g H 22 #[.pointer (some ⟨g,0,none⟩),vv (first args),.slice I n' D,.int .i64 1] RES X):xD cW w0 g H w ao na cap 4 RES:=by
 obtain⟨v,u,vs,us,J,ab,ah,ac,ai,aj,ad⟩:=B.head;rw[<-J,ac.out]at CL;have PU:Hid (∀X,Mc w0 g W R H (false,ev) X->zC 48 #[zP g,.agg #[.bool true,zI cW,zI 0,zI 0,zN,zN,zN]] X λe w'=>(∃x,e=.returned x)/\∃R',Mc w0 g (W.push F) R' H (false,ev) w'/\zL g W R (W.push F) R' X w'):=by
  intro X hX;subst eF;refine(yJ (f:=⟨true,cW,0,0,[],[],[],0⟩) (rs:=lA) (a4:=none) (n4:=0) (c4:=0) (a5:=none) (n5:=0) (c5:=0) hX.sp hX.mV.size B.I.cQ aa rfl rfl rfl (λe=>by cases e)).mono ?_;rintro e w' ⟨hx,R',q1,E⟩;have q3:zL g W R (W.push ⟨true,cW,0,0,[],[],[],0⟩) R' X w':=⟨E.os,E.tape,E.output,E.size,λk K hs=>E.kg k K λy=>y.elim hs (λz=>by cases z.1),λk K hs=>E.out k K λy=>y.elim hs (λz=>by cases z.1)⟩
  exact⟨hx,R',hX.gY q1 q3 rfl rfl rfl,q3⟩
 have ak:=B.Wj;have al:=B.WN;have HN:=cO B.S8;have ae:1<na->¬cap=1:=λh e=>cM;clear J ab eF;unfold xD;unfold jC at CL|-;obtain⟨bl,off,rfl,h1,L⟩|⟨rfl,rfl,h1,L⟩:=ad;all_goals
  clear B;go_enter lE,kB;go_wp2_with(first|(go_at_call 77;refine cA L ?_;rintro e w1 ⟨rfl,M,af,m1⟩)|(go_at_call 48;refine cA (PU _ (M.FC _ _)) ?_;rintro e w5 ⟨⟨x5,rfl⟩,R5,h5,k5⟩;have O:=Lc.kept ((Lc.new w1 (S:=Ft g W R) (λk K=>Ft.lt M.sp K) (zV v.k v.n vs) 56).alloc _) k5;obtain⟨q0,q1,E⟩:=O.c3;have ag:=cO (((af.alloc _).alloc _).kept k5);clear O)|(go_at_call 22;refine cA (CL R5 _ _ _ _ h5 (by first|exact PE ag (by rw[<-HN];omega)|(rw[qz (by rw[<-HN];omega)];exact Ls.nil _ _ _)) (by rw[eZ,<-HN];first|rfl|omega|done) cM cM) ?_;rintro e w6 ⟨⟨x,rfl⟩,h6⟩))
  go_returns;exact⟨⟨_,rfl⟩,h6⟩
def KN(B:Bh p Hs cW w0 ev g W R H w ao na cap args)(M:W.cQ=0):xD cW w0 g H w ao na cap 8 (plain W 8 args cW):=by
 obtain⟨v,u,vs,us,E,F,aa,ab,ac,ad,I⟩:=B.head;have J:=cO (λX=>jo rU X);have K:=cO (λX (hX:Mc w0 g W R H (false,ev) X)=>qV hX (tv rU) W);rw[show plain W 8 args cW=mW W rU by unfold plain;dsimp only;rw[cR M];rfl];clear E F;unfold xD jC;obtain⟨bl,off,rfl,h1,h⟩|⟨rfl,rfl,h1,h⟩:=I;all_goals
  clear B;go_enter lE,kB;go_wp2_with(first|(go_at_call 77;refine cA h ?_;rintro e w1 ⟨rfl,D,ae,m1⟩;have c7:=λa b=>(D.FC a b).sp.c7;rw[M]at c7)|(go_at_call 46;refine cA (J _) ?_;rintro e w5 ⟨rfl,O⟩;have L:=cO (Mc.below (D.FC _ _) O);clear O)|(go_at_call 45;refine cA (K _ L) ?_;rintro e w6 ⟨⟨x,rfl⟩,h6⟩))
  go_returns;exact⟨⟨_,rfl⟩,h6⟩
def Og(B:Bh p Hs cW w0 ev g W R H w ao na cap args)(h0:W.cQ≠0):xD cW w0 g H w ao na cap 8 (plain W 8 args cW):=by
 obtain⟨v,u,vs,us,aa,ai,aj,ak,ap,aq,al⟩:=B.head;have J:=B.I.cQ;obtain⟨d,ar,h4,au,ab⟩:=B.M.sp.zH J;have aw:=B.M.sp.Dl;have ax:¬(W.cQ:Int)=0:=cM;obtain⟨E,h⟩:=eX (W.dW W.cQ {W.co with held:=cW});obtain⟨ac,ad⟩:W.co.gq<W.cS.length/\Iv p Hs (E.fy 0) W.co.want:=⟨(B.I.gq W.cQ J h0 (.inl B.I.run)).1,h▸(B.I.BA B.hp h0).1⟩
 have F:E.co={W.co with held:=cW}:=h▸ez _ _ _ _ J;have ae:E.sz=W.sz:=by rw[h];simp[St.dW,St.sz]
 have K:E.cS.length=W.cS.length:=h▸df;obtain⟨r,hr⟩:=eX (plain W 8 args cW);have er:r=ok (gv (E.fy 0) [bv true,v] W.co.want):=by rw[hr];unfold plain;dsimp only;rw[cK h0,<-aa,<-h,F];rfl
 have BK:Hid (∀X R1,Sp w0.heap.size g E R1 H (false,ev) X->w0.heap.size<=X.heap.size->zC 82 #[zP g,zI 0,zI 1,vv v] X λe w'=>(∃x,e=.returned x)/\∃R',Sp w0.heap.size g r.1 R' H (false,ev) w'/\Kp (Ft g E R1) (Ft g r.1 R') X w'):=by
  intro X R1 hX hb;have L:E.co.want=W.co.want:=by rw[F]
  have:=uy hX hb (K▸h▸J) (F▸K▸ac) 0 true v (λR2 w2 am af s1 b1 l1 _ _=>nN B.E _ _ _ _ R2 w2 am 2 af (cE _) (L▸ad) (L▸(B.I.pU W.cQ J).1) (by rw[oV,ae];exact yC (iX _ _) aj.out) s1 b1 l1 rfl cM);rw[er,<-L];exact this
 have I:Hid (r.1.ins=W.ins/\r.1.dn=W.dn/\r.1.lu=W.lu/\r.2=none):=by rw[er,h];exact⟨(mr _ _ _).1,(mr _ _ _).2,pC _ _ _,rfl⟩
 rw[ak]at BK;rw[<-hr];clear h0 ac ad F aa ai er hr ae K;unfold xD jC;obtain⟨bl,off,rfl,h1,ag⟩|⟨rfl,rfl,h1,ag⟩:=al;all_goals
  clear B;go_enter lE,kB;go_wp2_with(first|(go_at_call 77;refine cA ag ?_;rintro e w1 ⟨rfl,M,ay,m1⟩;have c7:=λa b=>(M.FC a b).sp.c7))
  refine dx λw4 O=>?_;have D:Mc w0 g W R H (false,ev) w4:=O▸M.FC _ _;have ah:Lc (Ft g W R) w4 w1.heap.size (zV v.k v.n vs) 56:=O▸(Lc.new w1 (λk hk=>Ft.lt M.sp hk) _ _).alloc _;clear O c7 m1;have c6:=D.sp.c6 h4;have c7:=D.sp.c7;obtain⟨u7,ku⟩:∃x,zE w4 d (W.cQ*8+7) x:=⟨_,D.sp.Ll h4 J (r:=7) rfl⟩
  have kf:=D.sp.S9 h4 (W.cQ*8+7);obtain⟨b0,b1,b2⟩:=ah.c3;have x1:¬w1.heap.size=d:=λe=>ah.1 (e▸ab);have x2:¬d=w1.heap.size:=λe=>x1 e.symm;have HY:=cO (D.sp.drew.dW J (k:={W.co with held:=cW}) rfl (j:=7) cM (u:=zI cW) (by rfl) h4.cS);refine uZ 11 ?_;simp only[List.take,List.drop];repeat(go_big_quiet_step(fail))
  apply wpQuiet_nil;go_wp2_with fail;obtain⟨R5,h5,e5⟩:=HY;have an:Ft g E R5=Ft g W R:=h▸vJ (λt=>rh W J (k:={W.co with held:=cW}) rfl t) e5;rw[<-h]at h5;refine cA (BK _ R5 h5 (by have:=D.mV.size;simpa[World.setCell]using this)) ?_;rintro e w9 ⟨⟨x,rfl⟩,R9,h9,k9⟩;rw[an]at k9;have HC:Hid (Cf w0 g H.ks H.ps r w9):=⟨R9,H,ev,rfl,rfl,I.out.2.2.2▸D.gY h9 (((Kp.refl _ _).drew.trans (Kp.setCell (a:=(zA d (W.cQ*8+7))) _ ab)).trans k9) I.1 I.2.1 I.2.2.1⟩
  clear h9 k9;go_wp2;go_returns;exact⟨⟨_,rfl⟩,HC⟩
def Mc.Ux(h:Mc w0 g W R H rz w){u:Value}(E:nP w0 u l):Mc w0 g {W with ins:=l} R {H with ins:=u} rz (w.setCell ⟨g,2,none⟩ u):=by have D:zK g W R w (w.setCell (zA g 2) u):=Kp.setCell _ Ft.nj;exact⟨h.sp.ins u l,h.pA,h.mV.trans (D.below h.mV.size λk D=>Ft.from h.sp h.pA D),E,h.pr.kept D,h.er.kept (D.ee _)⟩
def xR{zs:List Int}(h:Rd w ao zs)(D:n=zs.length):(convert 29 9 (.slice ao n cap)).run Tryz.prog w=.ok (.string ⟨(gj zs).toArray⟩) w:=by
 subst D;by_cases E:0<zs.length
 .obtain⟨b,off,rfl,_,F⟩:=h.at E;exact run_convert_bytes_arg w 29 5 ie jJ b off zs.length cap zs rfl F 9 ji
 .obtain rfl:zs=[]:=eJ.1 cM;cases ao with
  |none=>exact run_convert_bytes_nil w 29 5 ie jJ 0 cap 9 ji
  |some a=>
   rw[run_convert_bytes_string w 29 9 5 _ _ cap ie jJ ji];simp[Conv.bytesToString,loadCells];rfl
def Oh(B:Bh p Hs cW w0 ev g W R H w ao na cap args)(I:W.ins=[]):xD cW w0 g H w ao na cap 1 (plain W 1 args cW):=by
 obtain⟨v,u,vs,us,J,K,aa,ab,ac,ad,L⟩:=B.head;obtain⟨ia,ic,h,_,_,_⟩:=B.M.ins;rw[I]at h;have M:Hid (∀X,Sp w0.heap.size g W R H (false,ev) X->zE X g 2 (.slice ia 0 ic)):=by intro X O;have:=O.eA (j:=2) (u:=H.ins) rfl;rwa[h]at this
 have D:=cO (λX n hn O=>UD (w0:=w0) (g:=g) (R:=R) (H:=H) (ev:=ev) (X:=X) (n:=n) B.E B.I B.hp.1 (xu _) rfl hn O);rw[show plain W 1 args cW=ok (gv W [v0] cW) by unfold plain;dsimp only;rw[I];rfl];clear I h J K;unfold xD;unfold jC at D|-;obtain⟨bl,off,rfl,h1,E⟩|⟨rfl,rfl,h1,E⟩:=L;all_goals
  clear B;go_enter lE,kB;go_wp2_with(first|(go_at_call 77;refine cA E ?_;rintro e w1 ⟨rfl,F,ae,m1⟩;have c2:=λa b c=>M _ (Mc.sp (Mc.below (F.FC a b) ((cN _ _).alloc (cE _) c))))|(go_at_call 51;refine cA (D _ _ (by simp only[dk]) (Mc.below (F.FC _ _) (ba))) ?_;rintro e w6 ⟨⟨x,rfl⟩,h6⟩))
  go_returns;exact⟨⟨_,rfl⟩,h6⟩
def Qp(B:Bh p Hs cW w0 ev g W R H w ao na cap args){x:List Int}(h0:W.ins=x::l):xD cW w0 g H w ao na cap 1 (plain W 1 args cW):=by
 obtain⟨v,u,vs,us,ai,aj,ax,ay,az,aA,ak⟩:=B.head;obtain⟨ia,K,L,M,al,F⟩:=B.M.ins;rw[h0]at L M F;obtain⟨ib,D,iu,rfl,E,ja,jc,rfl,_,O,_⟩:=F 0 dC;have e0:(x::l).getD 0 []=x:=rfl;rw[e0]at E O;rw[eD]at E;have aB:l.length+1<=K:=by simpa using M
 obtain⟨nl,aa⟩:=eX l.length;have J:H.ins=.slice (some (zA ib D)) (nl+1) K:=by rw[L,aa];rfl
 have au:nl+1<=K:=cM;have am:Hid (∀a c,(K≠1->a=some (zA ib (D+1)))->c=K-1->nP w0 (.slice a nl c) l):=by intro a c ha an;subst an;refine⟨a,K-1,by rw[aa],cM,cM,λi hi=>?_⟩;obtain⟨b2,aw,u2,q1,q2,q3⟩:=F (i+1) (by simpa using hi);cases q1;rw[ha cM];refine⟨ib,D+1,u2,rfl,by rw[show D+1+i=D+(i+1) by omega];exact q2,?_⟩;simpa using q3
 obtain⟨sb,ad,hb,ap,aq⟩:=Mq (gj x);obtain⟨nx,ab⟩:=eX x.length;rw[<-ab]at E;have ae:Hid (∀X,Mc w0 g W R H (false,ev) X->zE X g 2 (.slice (some (zA ib D)) (nl+1) K)/\zE X ib D (.slice ja nx jc)/\(convert 29 9 (.slice ja nx jc)).run Tryz.prog X=.ok (.string sb) X/\X.frozen? (zA g 2)=false):=by
  intro X hX;refine⟨?_,di E (hX.mV),?_,hX.sp.free 2⟩
  .have:=hX.sp.eA (j:=2) (u:=H.ins) rfl;rwa[J]at this
  .rw[ad];exact xR (O.below hX.mV) ab
 have ar:=B.I.ins x (h0▸fR);have af:Iv p Hs {W with ins:=l} cW:=B.I.data rfl rfl ⟨cE _,cE _,gS _,cE _⟩ B.I.vars B.I.tables B.I.funcs λy hy=>B.I.ins y (h0▸ig _ hy);have ag:=cO (λX n u2 hn hX=>UD (w0:=w0) (g:=g) (R:=R) (H:={H with ins:=u2}) (ev:=ev) (X:=X) (n:=n) B.E af B.hp.1 (jF _ (by unfold gj;rw[dY];exact ar)) hb hn hX);rw[show plain W 1 args cW=ok (gv {W with ins:=l} [tv (gj x)] cW) by unfold plain;dsimp only;rw[h0];rfl];clear h0 L J M al F E O e0 ad ab aa af hb ap ai aj;unfold xD;unfold jC at ag|-;obtain⟨bl,off,rfl,h1,ah⟩|⟨rfl,rfl,h1,ah⟩:=ak;all_goals
  clear B;go_enter lE,kB;go_wp2_with(first|(go_at_call 77;refine cA ah ?_;rintro e w1 ⟨rfl,I,aC,m1⟩;have c2:=λa b c=>ae _ (Mc.below (I.FC a b) ((cN _ _).alloc (cE _) c)))|(go_at_call 46;refine cA (aq _) ?_;rintro e w5 ⟨rfl,b5⟩;have B5:=cO ((((ba).alloc dC _).alloc ti _).trans (b5.mono ti));have ac:=cO (I.Wh b5);have M5:=I.below B5;clear c2 m1;obtain⟨c2,_,_,f2⟩:=ae _ M5;have n5:¬g=w1.heap.size+1+1:=(λe=>ac.1 (e▸Ft.nj));have n6:¬w1.heap.size+1+1=g:=(λe=>n5 e.symm);clear b5 M5;obtain⟨q0,q1,q2⟩:=ac.c3;have qf:=ac.free)|(go_at_call 51;refine cA (ag _ _ _ ?hs (Mc.Ux (I.below (((B5.setCell (by show _<=w1.heap.size+1+1;omega) _).setCell (by show _<=w1.heap.size+1+1;omega) _).setCell (by show _<=w1.heap.size+1+1;omega) _)) ?hi)) ?_;(case hs=>simp only[jD]);(case hi=>exact am _ _ (λh=>by first|rfl|(exfalso;omega)) cM);rintro e w9 ⟨⟨y,rfl⟩,h9⟩;have HC:Hid (Cf w0 g H.ks H.ps (ok (gv {W with ins:=l} [tv (gj x)] cW)) w9):=h9;clear h9))
  all_goals(go_returns;exact⟨⟨_,rfl⟩,HC⟩)
def uH(M:Mc w0 g W R H (false,ev) w)(F:Ls (Ft g W R) w ao args){f:Vl}(D:f.k=6)(E:∀X,Mc w0 g W R H (false,ev) X->Ls (Ft g W R) X ao args->jC w0 g H 44 #[.pointer (some ⟨g,0,none⟩),.int .i64 f.n,.slice ao na cap,.int .i64 cW] RES X):
  jC w0 g H 22 #[.pointer (some ⟨g,0,none⟩),vv f,.slice ao na cap,.int .i64 cW] RES w:=by
 unfold jC at E|-;obtain⟨I,h,_,_⟩:=qn f;rw[h,D];clear h D;generalize f.n=J at*;go_enter Vm,Tl;go_wp2_with(go_at_call 44;refine cA (E _ (M.below (ba)) (F.alloc _)) ?_;rintro e K ⟨⟨x,rfl⟩,D⟩)
 go_returns;exact⟨⟨_,rfl⟩,D⟩
def zm(M:Mc w0 g W R H (false,ev) w){f:Vl}(I:¬f.k=6)(L:¬f.k=5):
  jC w0 g H 22 #[.pointer (some ⟨g,0,none⟩),vv f,.slice ao na cap,.int .i64 cW] (mW W yY) w:=by
 unfold jC;obtain⟨O,h,_,_⟩:=qn f;rw[h];generalize f.k=fk at*;generalize f.n=fn at*;have D:=cO (λX=>jo yY X);have E:=cO (λX (K:Mc w0 g W R H (false,ev) X)=>qV K (tv yY) W);clear h;go_enter Vm,Tl;go_wp2_with(first
  |(go_at_call 46;refine cA (D _) ?_;rintro e w5 ⟨rfl,J⟩;have F:=cO ((M.below (ba)).below J);clear J)
  |(go_at_call 45;refine cA (E _ F) ?_;rintro e w6 ⟨⟨x,rfl⟩,I⟩))
 go_returns;exact⟨⟨_,rfl⟩,I⟩
structure td(W:St)(n:Nat):Prop where
 ft:ft W+n≤1000000000000
 vars:W.vars.length≤100000000
 dn:W.dn.length≤1000000000
 size:W.size≤100000
 cS:W.cS.length≤1000000000000
def xy(B:Bh p Hs cW w0 ev g W R H w ao na cap args)(S:td W n){k:Int}(L:0<=k/\k<10)(M:¬k=4)(D:¬k=7):xD cW w0 g H w ao na cap k (plain W k args cW):=by
 have K:k=0\/k=1\/(k=2\/k=3)\/k=5\/k=6\/k=8\/k=9:=cM;obtain rfl|rfl|h|rfl|rfl|rfl|rfl:=K
 .exact Oi B S.dn S.size
 .cases E:W.ins with
  |nil=>exact Oh B E
  |cons x l=>exact Qp B E
 .exact SA B h
 .exact Ok B
 .by_cases F:(first args).k=5
  .exact Bu B (.inl rfl) F S.cS
  .by_cases I:(first args).k=6
   .exact Bu B (.inr rfl) I S.cS
   .exact Ol B (.inl ⟨rfl,F,I⟩)
 .by_cases J:W.cQ=0
  .exact KN B J
  .exact Og B J
 .by_cases D:(first args).k=7
  .exact KO B D
  .exact Ol B (.inr ⟨rfl,D⟩)
def yv(h:Iv p Hs W cW){t:Nat}(D:t<W.cS.length)(E:(W.cS.getD t dE).state=0):((iV W t cW).cS.map mC).sum+1=(W.cS.map mC).sum/\ft (iV W t cW)=ft W:=⟨AP h D E,IG h D E⟩
def p8(E:mz p Hs)(HP:kZ w0 H.ps p.cU):∀(G:Nat)(W:St)(f:Vl)(args:List Vl)(cW:Int)(R:eO->fW)(w:World)(ao:Option Addr)(na cap:Nat),3*(W.cS.map mC).sum+args.length+(if f.k=6 then 2 else 1)<=G->Iv p Hs W cW->0<=cW/\cW<=50->gG W.sz f->(∀v∈args,gG W.sz v)->td W G->Mc w0 g W R H (false,ev) w->Ls (Ft g W R) w ao args->na=args.length->na<=1000->na<=cap->cap<=9223372036854775807 ->
  jC w0 g H 22 #[.pointer (some ⟨g,0,none⟩),vv f,.slice ao na cap,.int .i64 cW] (call p G W f args cW) w
 |0,W,f,args,cW,R,w,ao,na,cap,O,I,F,hf,ha,B,M,hL,J,aa,ab,ac=>by split at O<;>omega
 |G+1,W,f,args,cW,R,w,ao,na,cap,O,I,F,hf,ha,B,M,hL,J,aa,ab,ac=>by
  have ak:=wV I.cQ;have hB:=B.ft;unfold call;by_cases k6:f.k=6
  .rw[cR k6]at O|-;refine uH M hL k6 λX MX LX=>?_;have BH:Bh p Hs cW w0 ev g W R H X ao na cap args:=⟨E,MX,I,F,ha,LX,J,aa,ab,ac⟩
   by_cases n4:f.n=4
   .rw[cR n4,n4];refine Oj BH rfl cM λR2 X2 ah n' ad M2 L2 e1 e2 e3=>?_;have ai:pM p Hs W.sz ⟨true,cW,0,0,[],[],[],0⟩ 1:=⟨F.1,F.2,nb,nb,nb,nb,nb,nb,nb,nb,nb⟩
    have hz:(W.push ⟨true,cW,0,0,[],[],[],0⟩).sz=W.sz:=by simp[St.push,St.du,St.dW,St.sz]
    have aj:((W.push ⟨true,cW,0,0,[],[],[],0⟩).cS.map mC).sum=(W.cS.map mC).sum:=sL I.cQ _;have al:(args.drop 1).length=args.length-1:=eZ;refine p8 E HP G _ _ _ 1 R2 X2 ah n' ad ?_ (I.push rfl ai) cM (hz▸ir ha) (hz▸λv hv=>ha v (fK hv)) ⟨by have:=xO I.cQ ⟨true,cW,0,0,[],[],[],0⟩;omega,B.vars,B.dn,B.size,by have:=B.cS;simpa[St.push,St.du,St.dW]using this⟩ M2 L2 e1 cM e2 e3;rw[aj];cases args with
    |nil=>simp[first,v0]at O|-;omega
    |cons x l=>simp at O|-;split<;>omega
   .rw[cK n4];by_cases n7:f.n=7
    .rw[cR n7,n7];dsimp only;have hv:=ir ha;have hu:=iR ha 1;refine KQ BH λY MY=>?_;by_cases k7:(first args).k=7
     .rw[cR k7];have ht:=hv.co k7;obtain⟨t,ae⟩:∃t:Nat,(first args).n=t:=⟨(first args).n.toNat,cM⟩
      have h:t<W.cS.length:=by have:W.sz.cs=W.cS.length:=rfl;omega
      have ef:first args=⟨7,t,(first args).s⟩:=by rw[<-ae,<-k7]
      generalize(first args).s=fs at ef;rw[ae,fh,ef];by_cases K:(W.cS.getD t dE).state=0
      .rw[cR K];have am:=yv I h K;refine ur MY I fs h K (λe R2 w2 af M2 L2=>?_) (λe R2 w2 af M2 L2=>?_)
       .rw[cR e];refine p8 E HP G (iV W t cW) _ _ 1 R2 w2 af 1 1 ?_ (qF I F h K λx=>absurd e x) cM (by rw[qE];exact(I.body t h).1) (by rw[qE];exact pY hu) ⟨cM,B.vars,B.dn,B.size,by have:=B.cS;simpa[iV,St.dW]using this⟩ M2 L2 rfl cM (cE _) cM;show 3*((iV W t cW).cS.map mC).sum+1+_<=G;split<;>omega
       .rw[cK e];exact xN E M2 (qF I F h K λ_=>rfl) cM (show∀v∈_,gG (iV W t cW).sz v by rw[qE];exact pY hu) L2 rfl cM
      .rw[cK K];exact wi E MY I F.1 fs h K
     .rw[cK k7];exact GI MY k7
    .rw[cK n7];exact xy BH B (hf.pv k6) n4 n7
  .rw[cK k6]at O|-;by_cases k5:f.k=5
   .rw[cR k5];have an:=hf.fn k5;obtain⟨fn,ag⟩:∃fn:Nat,f.n=fn:=⟨f.n.toNat,cM⟩
    have L:fn<W.funcs.length:=by have e:W.sz.fs=W.funcs.length:=rfl;omega
    have hc:=I.funcs _ (fA L);have ec:W.funcs.getD fn (0,[])=W.funcs[fn]:=by simp[cB,L]
    rw[<-ec]at hc;have D:=E.jZ.1.2.2.1 _ hc.1;have ef:f=⟨5,fn,f.s⟩:=by rw[<-ag,<-k5]
    rw[ag,fh,ef];refine(EA M.sp M.mV.size I.cQ cM B.vars L rfl hc.1 (HP.below M.mV) ?_ ?_ hL J cM f.s cW).mono ?_
    .have:=D.1;have:=D.2.2.1;have:=D.2.1;omega
    .have:=D.1;have:=D.2.1;omega
    .rintro e w' ⟨hx,R',q1,q2⟩;exact⟨hx,R',H,ev,rfl,rfl,M.gY q1 q2 rfl rfl rfl⟩
   .rw[cK k5];exact zm M k6 k5
end rn
namespace rn
open RowKit bts pg chk Go.ChangeShapes Go.WideShapes Go.ChangeAt
variable{a b op:Int}
def fl(a b:Int):Int:=if (a.tmod b != 0)&&!(decide (a<0)==decide (b<0))then wrap64 (wrap64 (a.tdiv b)-1)else wrap64 (a.tdiv b)
def UJ(h:a.tmod b=0):wrap64 (a.tdiv b)=fl a b:=by simp[fl,h]
def UI(h:(a.tmod b != 0)=true/\(!decide (a<0)==decide (b<0))=true):wrap64 (wrap64 (a.tdiv b)-1)=fl a b:=by unfold fl;rw[cR (by simp only[h.1,h.2,Bool.and_self])]
def UH(h:(a.tmod b != 0)=false\/(!decide (a<0)==decide (b<0))=false):wrap64 (a.tdiv b)=fl a b:=by unfold fl;rw[cK (by obtain h|h:=h<;>simp only[h,OI,OH]<;>decide)]
def Ch{k:IntKind}(h:a=b):Ending.returned (.int k a)=.returned (.int k b):=by rw[h]
def Bv(b:Bool):Int:=if b then 1 else 0
def rR(b:Bool)(w:World):
  zC 182 #[.bool b] w λe h=>e=.returned (zI (Bv b))/\h=w:=by
 cases b<;>
 .go_enter func182,ntmps182;go_wp2;go_ret;exact⟨rfl,rfl⟩
def Bg(a b:Int)(D:¬b=0)(w:World):
  zC 181 #[zI a,zI b] w λe h=>e=.returned (zI (fl a b))/\h=w:=by
 go_enter func181,ntmps181;go_wp2;all_goals go_ret
 .exact⟨Ch (UJ ‹_›),rfl⟩
 .exact⟨Ch (UI ‹_›),rfl⟩
 .exact⟨Ch (UH ‹_›),rfl⟩
def RN{c:Int}(h:a=b):Ending.returned (.tuple #[.int .i64 a,.int .i64 c])=.returned (.tuple #[.int .i64 b,.int .i64 c]):=by rw[h]
def RD(a b:Int)(w:World):
  zC 151 (zW 0 a b) w λe h=>e=.returned (.tuple #[zI (wrap64 (a+b)),zI 0])/\h=w:=by
 go_enter lC,kE;go_wp2;go_ret2;exact⟨rfl,rfl⟩
def Ry(a b:Int)(w:World):
  zC 151 (zW 1 a b) w λe h=>e=.returned (.tuple #[zI (wrap64 (a-b)),zI 0])/\h=w:=by
 go_enter lC,kE;go_wp2;go_ret2;exact⟨rfl,rfl⟩
def Rx(a b:Int)(w:World):
  zC 151 (zW 2 a b) w λe h=>e=.returned (.tuple #[zI (wrap64 (a*b)),zI 0])/\h=w:=by
 go_enter lC,kE;go_wp2;go_ret2;exact⟨rfl,rfl⟩
def Rv(a b:Int)(D:¬b=0)(w:World):
  zC 151 (zW 3 a b) w λe h=>e=.returned (.tuple #[zI (fl a b),zI 0])/\h=w:=by
 go_enter lC,kE;go_wp2_with(go_at_call 181;refine(Bg _ _ D _).mono ?_;rintro e h ⟨rfl,rfl⟩)
 go_ret2;exact⟨rfl,rfl⟩
def O4(a:Int)(w:World):
  zC 151 (zW 3 a 0) w λe h=>e=.returned (.tuple #[zI (0),zI 5])/\h=w:=by
 go_enter lC,kE;go_wp2;go_ret2;exact⟨rfl,rfl⟩
def Ru(a b:Int)(D:¬b=0)(w:World):
  zC 151 (zW 4 a b) w λe h=>e=.returned (.tuple #[zI (wrap64 (a-wrap64 (b*fl a b))),zI 0])/\h=w:=by
 go_enter lC,kE;go_wp2_with(go_at_call 181;refine(Bg _ _ D _).mono ?_;rintro e h ⟨rfl,rfl⟩)
 go_ret2;exact⟨rfl,rfl⟩
def OZ(a:Int)(w:World):
  zC 151 (zW 4 a 0) w λe h=>e=.returned (.tuple #[zI (0),zI 5])/\h=w:=by
 go_enter lC,kE;go_wp2;go_ret2;exact⟨rfl,rfl⟩
def Rt(a b:Int)(w:World):
  zC 151 (zW 8 a b) w λe h=>e=.returned (.tuple #[zI (Bv (decide (a<b))),zI 0])/\h=w:=by
 go_enter lC,kE;go_wp2_with(go_at_call 182;refine(rR _ _).mono ?_;rintro e h ⟨rfl,rfl⟩)
 go_ret2;exact⟨rfl,rfl⟩
def Rr(a b:Int)(w:World):
  zC 151 (zW 9 a b) w λe h=>e=.returned (.tuple #[zI (Bv (decide (a<=b))),zI 0])/\h=w:=by
 go_enter lC,kE;go_wp2_with(go_at_call 182;refine(rR _ _).mono ?_;rintro e h ⟨rfl,rfl⟩)
 go_ret2;exact⟨rfl,rfl⟩
def Pa(a b:Int)(w:World):
  zC 151 (zW 10 a b) w λe h=>e=.returned (.tuple #[zI (Bv (decide (b<a))),zI 0])/\h=w:=by
 go_enter lC,kE;go_wp2_with(go_at_call 182;refine(rR _ _).mono ?_;rintro e h ⟨rfl,rfl⟩)
 go_ret2;exact⟨rfl,rfl⟩
def O7(a b:Int)(w:World):
  zC 151 (zW 11 a b) w λe h=>e=.returned (.tuple #[zI (Bv (decide (b<=a))),zI 0])/\h=w:=by
 go_enter lC,kE;go_wp2_with(go_at_call 182;refine(rR _ _).mono ?_;rintro e h ⟨rfl,rfl⟩)
 go_ret2;exact⟨rfl,rfl⟩
def Sr(a b:Int)(E:b≠0):a.fdiv b=if (a.tmod b != 0)&&!(decide (a<0)==decide (b<0))then a.tdiv b-1 else a.tdiv b:=by
 rw[Int.fdiv_eq_tdiv];by_cases h:a.tmod b=0
 .have D:=Int.dvd_of_tmod_eq_zero h;simp[h,D]
 .have D:¬b ∣ a:=λe=>h (Int.tmod_eq_zero_of_dvd e);rw[cK D];obtain q|q:=Int.lt_or_lt_of_ne E<;>by_cases p:a<0
  .rw[cK cM,cK cM,Int.sign_eq_neg_one_of_neg q];simp[q,p]
  .rw[cR cM,cK cM];simp[h,q,p]
  .rw[cK cM,cR cM,Int.sign_eq_one_of_pos q];simp[h,p];omega
  .rw[cR cM,cR cM];simp[h,p];omega
def lG(n:Int):wrap64 n=wrap n:=by unfold wrap64 wrap;rfl
def Jr(n:Int):wrap (wrap n-1)=wrap (n-1):=by unfold wrap;omega
def DH(a n:Int):wrap (a-wrap n)=wrap (a-n):=by unfold wrap;omega
def Je(h:b≠0):fl a b=wrap (a.fdiv b):=by rw[Sr a b h];unfold fl;simp only[lG,Jr];split<;>rfl
def By(h:0<=op/\op<=4)(w:World):
  zC 151 (zW op a b) w λe E=>e=.returned (.tuple #[zI ((mZ op a b).getD 0),zI (if (mZ op a b).isSome then 0 else 5)])/\E=w:=by
 have F:op=0\/op=1\/op=2\/op=3\/op=4:=cM;obtain rfl|rfl|rfl|rfl|rfl:=F
 .have:=RD a b w;rwa[lG]at this
 .have:=Ry a b w;rwa[lG]at this
 .have:=Rx a b w;rwa[lG]at this
 .by_cases D:b=0
  .subst D;exact O4 a w
  .have:=Rv a b D w;rw[Je D]at this;rw[show mZ 3 a b=some (wrap (a.fdiv b)) by unfold mZ;simp[D]];exact this
 .by_cases D:b=0
  .subst D;exact OZ a w
  .have:=Ru a b D w;rw[Je D,lG,lG,DH]at this;rw[show mZ 4 a b=some (wrap (a-b*wrap (a.fdiv b))) by unfold mZ;simp[D]];exact this
def xW{p q:Prop}[Decidable p][Decidable q](h:p↔¬q):Bv (decide p)=Bv (!decide q):=by
 by_cases D:q
 .rw[fj (λe=>h.1 e D),fM D];rfl
 .rw[fM (h.2 D),fj D];rfl
def AY(h:8<=op/\op<=11)(w:World):
  zC 151 (zW op a b) w λe D=>e=.returned (.tuple #[zI (Bv (holds op (decide (a<b)) (decide (b<a)))),zI 0])/\D=w:=by
 have E:op=8\/op=9\/op=10\/op=11:=cM;obtain rfl|rfl|rfl|rfl:=E
 .exact Rt a b w
 .have:=Rr a b w;rwa[xW (p:=a<=b) (q:=b<a) cM]at this
 .exact Pa a b w
 .have:=O7 a b w;rwa[xW (p:=b<=a) (q:=a<b) cM]at this
end rn
end Go.Proofs.YtfpkdfeakanlpaaGreatDoor
