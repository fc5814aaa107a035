import Derived.Lib.AppendStr
import Derived.Test.YtfpkdfeakanlpaaGreatDoorMRnWalkH
set_option linter.all false
set_option maxRecDepth 100000
set_option maxHeartbeats 8000000
namespace Go.Proofs.YtfpkdfeakanlpaaGreatDoor
open Go.Proofs.Tryz
namespace rn
open RowKit bts pg chk
variable{rz rz':Bool×Vl}{f:Fr}{H H':Hd}{cW:Int}{l:List Vl}{cJ g n:Nat}{S S1:Nat->Prop}{Hs:Nat→List Int}{ao:Option Addr}{p:Pg}{V W:St}{R R':eO→fW}{v:Value}{w w0 w1:World}
def Ht(h:Sp cJ g W R H rz w)(hB:cJ<=w.heap.size)(I:Iv p Hs W cW)(hl:0<W.co.cy.length)(hg:W.db.guard=true){D:Nat}(hL:Ls (Ft g W R) w ao l)(af:n=l.length)(GV:∀R1 w1 ao cap,Sp cJ g W.fU R1 H rz w1->cJ<=w1.heap.size->Ls (Ft g W.fU R1) w1 ao [bv true,first l]->2<=cap->cap<=9223372036854775807->zC 51 #[zP g,.slice ao 2 cap,zI W.db.want] w1 λe w'=>(∃x,e=.returned x)/\∃R',Sp cJ g (gv W.fU [bv true,first l] W.db.want) R' H rz w'/\Kp (Ft g W.fU R1) (Ft g (gv W.fU [bv true,first l] W.db.want) R') w1 w'):
  zC 51 #[zP g,.slice ao n D,zI cW] w λe w'=>(∃x,e=.returned x)/\∃R',Sp cJ g (gv W l cW) R' H rz w'/\zL g W R (gv W l cW) R' w w':=by
 have M:=I.cQ;obtain⟨d,ar,h4,au,aw⟩:=h.zH M;obtain⟨b,cap,h6,ax,ay⟩:=h.SE M hl;obtain⟨m,hm⟩:=GS (n:=W.co.cy.length) cM;have az:m+1<=9223372036854775807:=by rw[<-hm];exact h.ny M
 have e1:W.co.cy.length-1=m:=cM;have L:Hid (∀w1,Sp cJ g W R H rz w1->zC 50 #[zP g] w1 λe w'=>e=.returned (.agg #[.bool true,zI W.db.want,zI W.db.eR,zI W.db.eA,zN,zN,zN])/\∃R',Sp cJ g W.fU R' H rz w'/\Kp (Ft g W R) (Ft g W.fU R') w1 w'):=by intro w1 F;refine(tA F M hl (λe=>by rw[hg]at e;cases e)).mono ?_;rintro e w' ⟨rfl,R',r1,r2,_⟩;refine⟨?_,R',r1,r2⟩;unfold fv fc;rw[hg];rfl
 have aj:Hid (∀w1,Sp cJ g W R H rz w1->w1.cell? (zA b (m*7))=some (.bool true)):=by intro w1 F;have:=F.So M h6 (j:=W.co.cy.length-1) (r:=0) cM (u:=.bool W.db.guard) rfl;rwa[e1,hg]at this
 rw[vG I cM hg];obtain⟨q1,O⟩:=eX W.db.want;obtain⟨q2,ag⟩:=eX (W.db.eR:Int);obtain⟨q3,ah⟩:=eX (W.db.eA:Int);rw[<-O,<-ag,<-ah]at L;rw[<-O]at GV|-;obtain⟨fk,aa⟩:=eX ((first l).k);obtain⟨fn,ab⟩:=eX ((first l).n);obtain⟨fs,ac⟩:=eX (⟨(first l).s.toArray⟩:ByteArray);have ak:Hid (vv (first l)=.agg (zV fk fn fs)):=by unfold vv;rw[kJ ac.symm,aa,ab];rfl
 have al:Hid (vc (first l)=[zI fk,zI fn,.string fs]):=by unfold vc;rw[kJ ac.symm,aa,ab];rfl
 have am:Hid (∀(S:Nat->Prop) w1,Ls S w1 ao l->zC 77 #[.slice ao n D] w1 (zR w1 (.agg (zV fk fn fs)))):=by intro S w1 F;have:=sU w1 F (cap:=D) af;rwa[ak]at this
 clear hl e1 af I hg O ag ah aa ab ac;go_enter Lb,FY;go_wp2;refine dx λw1 ad=>?_;have J:Sp cJ g W R H rz w1:=ad▸h;have K1:zK g W R w w1:=ad▸Kp.refl _ _;clear ad;have c6:=J.c6 h4;have c7:=J.c7;have k0:=J.k0 M hm h4 h6;go_quiet (fail);go_wp2;refine dx λw2 ae=>?_;have E:Sp cJ g W R H rz w2:=ae▸J.drewN _;have K2:zK g W R w w2:=ae▸K1.drewN _;clear ae;have c6:=E.c6 h4;have c7:=E.c7;have k0:=E.k0 M hm h4 h6;have t0:=aj _ E;go_quiet (fail);go_wp2_with(go_at_call 50;refine cA (L _ (E.drewN nq)) ?_;rintro e w3 ⟨rfl,R3,F,h2⟩;have K3:=cO ((K2.drewN nq).trans h2);clear h2 c6 c7 k0 t0)
 refine dx λw4 K=>?_;have an:Sp cJ g W.fU R3 H rz w4:=K▸F.alloc _;have K4:Kp (Ft g W R) (Ft g W.fU R3) w w4:=K▸K3.trans (Kp.alloc _);have ap:Lc (Ft g W.fU R3) w4 w3.heap.size #[.bool true,zI q1,zI q2,zI q3,zN,zN,zN] 111:=by rw[K];exact Lc.new w3 (λk hk=>Ft.lt F hk) _ _
 clear K;obtain⟨S,hS⟩:=eX (fI w4 none);have z1:=Wd.cn hS (ap.cell (j:=1) rfl);have HS:=cO hS;clear hS;haveI:=pz HS;refine Cg S [0,1,2,5,6] [3,4] [7] (HS▸(fI.refl _ _).drew) ?_;simp only[pick,ey,eB,eL,eM,dt,dG];repeat(go_big_quiet_step(fail))
 apply wpQuiet_nil;apply dI;clear z1;go_wp2_with(go_at_call 77;refine cA (am (Ft g W.fU R3) _ ((hL.kept K4).drew)) ?_;rintro e w5 ⟨rfl,b5⟩)
 refine⟨HS▸⟨b5.size,λk hk _=>b5.block k hk⟩,?_⟩;apply dI;have ai:=cO (an.drew.below b5);have K5:=cO ((K4.drew).trans (Kp.cY b5));go_wp2;refine⟨HS▸fI.alloc (w:=w4) (row:=none) ⟨b5.size,λk hk _=>b5.block k hk⟩ _,?_⟩;apply ej;have aq:Ls (Ft g W.fU R3) (w5.alloc (.cells #[zI 1,zI 1,zT,zI fk,zI fn,.string fs] 56)) (some (zA w5.heap.size 0)) [bv true,first l]:=by refine Ls.lit (λk hk=>Ft.lt ai hk) ?_;rw[eE,eE,oD,kS,al];rfl
 go_wp2_with(go_at_call 51;refine cA (GV R3 _ _ _ (ai.alloc _) (cV hB (cV K5.size dC)) aq (cE _) cM) ?_;rintro e w6 ⟨⟨x,rfl⟩,R6,F,h2⟩;have HR:Sp cJ g (gv W.fU [bv true,first l] q1) R6 H rz w6/\Kp (Ft g W.fU R3) (Ft g (gv W.fU [bv true,first l] q1) R6) (w5.alloc (.cells #[zI 1,zI 1,zT,zI fk,zI fn,.string fs] 56)) w6:=⟨F,h2⟩;clear h2)
 go_returns;exact⟨⟨_,rfl⟩,R6,HR.1,(K5.trans (Kp.alloc _)).trans HR.2⟩
def Nw(E:mz p Hs)(h:Sp cJ g W R H rz w)(hB:cJ<=w.heap.size)(I:Iv p Hs W cW)(hp:0<=cW)(hl:0<W.co.cy.length)(hg:W.db.guard=false){ah:Nat}(hL:Ls (Ft g W R) w ao l)(ai:n=l.length)(ax:n<=9223372036854775807):
  zC 51 #[zP g,.slice ao n ah,zI cW] w λe w'=>(∃x,e=.returned x)/\∃R',Sp cJ g (gv W l cW) R' H rz w'/\zL g W R (gv W l cW) R' w w':=by
 have D:=I.cQ;have ay:=pM.UK E (I.kI hl) hg hp;obtain⟨O,rfl⟩:∃O:Nat,cW=O:=⟨cW.toNat,cM⟩
 obtain⟨d,az,h4,aA,aB⟩:=h.zH D;obtain⟨b,cap,h6,aC,aD⟩:=h.SE D hl;obtain⟨m,hm⟩:=GS (n:=W.co.cy.length) cM;have aE:m+1<=9223372036854775807:=by rw[<-hm];exact h.ny D
 have e1:W.co.cy.length-1=m:=cM;have am:Hid (∀w1,Sp cJ g W R H rz w1->w1.cell? (zA b (m*7))=some (.bool false)):=by intro w1 L;have:=L.So D h6 (j:=W.co.cy.length-1) (r:=0) cM (u:=.bool W.db.guard) rfl;rwa[e1,hg]at this
 rw[Da cM hg,fh];have HN:=cO ai;have aj:Hid (∀(k:Nat) F w1,k<=O->Sp cJ g (W.ee ((List.range k).map λi=>l.getD i v0)) F H rz w1->cJ<=w1.heap.size->zC 83 #[zP g,vv (l.getD k v0)] w1 λe w'=>(∃x,e=.returned x)/\∃R',Sp cJ g (W.ee ((List.range (k+1)).map λi=>l.getD i v0)) R' H rz w'/\Kp (Ft g (W.ee ((List.range k).map λi=>l.getD i v0)) F) (Ft g (W.ee ((List.range (k+1)).map λi=>l.getD i v0)) R') w1 w'):=by intro k F w1 hk L an;have et:(W.ee ((List.range k).map λi=>l.getD i v0)).db={W.db with ops:=W.db.ops++((List.range k).map λi=>l.getD i v0)}:=jf D hl _;refine(nG L an (by show W.cQ<(W.dN _).cS.length;rw[jO];exact D) (by unfold St.ee;rw[jg D];exact hl) (et▸hg) (by rw[et];simp;omega) (l.getD k v0)).mono ?_;rintro e w' ⟨hx,R',r1,r2,_⟩;rw[A5 D hl,show((List.range k).map λi=>l.getD i v0)++[l.getD k v0]=(List.range (k+1)).map (λi=>l.getD i v0) by rw[kR,gX];rfl]at r1 r2;exact⟨hx,R',r1,r2⟩
 have ap:Hid (W.ee ((List.range 0).map λi=>l.getD i v0)=W):=Ev D hl;have aq:Hid (∀k,n<=k->l.getD k v0=v0):=by intro k hk;rw[cB,dO cM];rfl
 clear hl e1 ai I hg;go_enter Lb,FY;go_wp2;refine dx λw1 aa=>?_;have M:Sp cJ g W R H rz w1:=aa▸h;have K1:zK g W R w w1:=aa▸Kp.refl _ _;clear aa;have c6:=M.c6 h4;have c7:=M.c7;have k0:=M.k0 D hm h4 h6;go_quiet (fail);go_wp2;refine dx λw2 ab=>?_;have J:Sp cJ g W R H rz w2:=ab▸M.drewN _;have K2:zK g W R w w2:=ab▸K1.drewN _;clear ab;have c6:=J.c6 h4;have c7:=J.c7;have k0:=J.k0 D hm h4 h6;have t0:=am _ J;go_quiet (fail);go_wp2;clear c6 c7 k0 t0;refine dx λw3 ac=>?_;have ar:Sp cJ g W R H rz w3:=ac▸J.drewN _;have K3:zK g W R w w3:=ac▸K2.drewN _;clear ac;go_loopw[8] (λx wr=>∃k:Nat,k<=O/\x=zI (k:Int)/\Hid (∃F,Sp cJ g (W.ee ((List.range k).map λi=>l.getD i v0)) F H rz wr/\Kp (Ft g W R) (Ft g (W.ee ((List.range k).map λi=>l.getD i v0)) F) w wr)) (λx _=>O-(intOf x).toNat)
 case atStart=>exact⟨0,dM _,rfl,by show∃_,_;rw[ap];exact⟨R,ar,K3⟩⟩
 case round=>
  obtain⟨k,hk,rfl,HR⟩:=hrel;by_cases aF:k<O
  .have aw:(k:Int)<(O:Int):=cM;obtain⟨F,ak,K⟩:=HR.out;have ad:=hL.kept K;clear HR;by_cases au:k<n
   .have al:(k:Int)<(n:Int):=cM;obtain⟨bl,off,rfl,l1,l2,l3⟩:=ad.eA (i:=k) (by rw[<-HN];exact au);have m1:=fJ (o:=.cells (zV 0 0 ⟨#[]⟩) 56) l1;have m2:=fJ (o:=.cells (zV 0 0 ⟨#[]⟩) 56) l2;have m3:=fJ (o:=.cells (zV 0 0 ⟨#[]⟩) 56) l3;obtain⟨gk,ae⟩:=eX ((l.getD k v0).k);obtain⟨gn,af⟩:=eX ((l.getD k v0).n);obtain⟨gs,ag⟩:=eX (⟨(l.getD k v0).s.toArray⟩:ByteArray);have OP:=aj k F (wr.alloc (.cells (zV gk gn gs) 56)) hk (ak.alloc _) (cV hB (cV K.size dC));rw[show vv (l.getD k v0)=.agg (zV gk gn gs) by unfold vv;rw[kJ ag.symm,ae,af]]at OP;rw[<-ae]at m1;rw[<-af]at m2;rw[kJ ag.symm]at m3;clear ad l1 l2 l3 ae af ag;go_wp2_with(go_at_call 83;refine cA OP ?_;rintro e w5 ⟨⟨x,rfl⟩,R5,L,h2⟩;have K5:=cO ((K.trans (Kp.alloc _)).trans h2);clear h2)
    go_roundw
    case rel=>exact⟨_,_,_,_,_,_,_,_,_,_,_,_,_,_,_,_,_,_,_,⟨k+1,cM,l9,⟨R5,L,K5⟩⟩,rfl⟩
    case measure=>simp[intOf];omega
   .have al:¬(k:Int)<(n:Int):=cM;have OP:=aj k F (wr.alloc (.cells (zV 0 0 ⟨#[]⟩) 56)) hk (ak.alloc _) (cV hB (cV K.size dC));rw[aq k cM,show vv v0=.agg (zV 0 0 ⟨#[]⟩)from rfl]at OP;clear ad;go_wp2_with(go_at_call 83;refine cA OP ?_;rintro e w5 ⟨⟨x,rfl⟩,R5,L,h2⟩;have K5:Kp (Ft g W R) (Ft g (W.ee ((List.range (k+1)).map λi=>l.getD i v0)) R5) w w5:=(K.trans (Kp.alloc _)).trans h2;clear h2)
    go_roundw
    case rel=>exact⟨_,_,_,_,_,_,_,_,_,_,_,_,_,_,_,_,_,_,_,⟨k+1,cM,l9,⟨R5,L,K5⟩⟩,rfl⟩
    case measure=>simp[intOf];omega
  .obtain rfl:k=O:=cM;go_wp2;go_returns;obtain⟨F,L,h2⟩:=HR;exact⟨⟨_,rfl⟩,F,L,h2⟩
def nN(E:mz p Hs):∀(N:Nat)(W:St)(cW:Int)(l:List Vl)(R:eO->fW)(w:World)(ao:Option Addr)(n cap:Nat),vH W<=N->Iv p Hs W cW->0<=cW->(∀v∈l,gG W.sz v)->Sp cJ g W R H rz w->cJ<=w.heap.size->Ls (Ft g W R) w ao l->n=l.length->n<=9223372036854775807 ->
  zC 51 #[zP g,.slice ao n cap,zI cW] w λe w'=>(∃x,e=.returned x)/\∃R',Sp cJ g (gv W l cW) R' H rz w'/\zL g W R (gv W l cW) R' w w'
 |0,W,cW,l,R,w,ao,n,cap,hN,I,hp,hv,h,L,M,F,K=>by rw[oS]at hN;omega
 |N+1,W,cW,l,R,w,ao,n,cap,hN,I,hp,hv,h,L,M,F,K=>by
  have h2:∀v∈[bv true,first l],gG W.sz v:=yC (iX _ _) (ir hv);by_cases e:W.co.cy.length=0
  .by_cases O:W.cQ=0
   .exact Kk h I.cQ e O l cW
   .have ef:=eJ.1 e;have:=qd I O ef;exact Hr h L I e O M F λR1 w1 J D s1 b1 l1 _ _=>nN E N _ _ _ R1 w1 J 2 D cM (I.sR O ef) (I.pU W.cQ I.cQ).1 (by rw[oV];exact h2) s1 b1 l1 rfl cM
  .by_cases eg:W.db.guard=true
   .have:=sW I cM;exact Ht h L I cM eg M F λR1 w1 J D s1 b1 l1 _ _=>nN E N _ _ _ R1 w1 J 2 D cM (jS I cM) (I.kI cM).nQ (by unfold St.fU;rw[jv];exact h2) s1 b1 l1 rfl cM
   .exact Nw E h L I hp cM (by simpa using eg) M F K
def yQ:∀(n:Nat)(W:St)(l:List Vl)(q:Int),(sA n W l q).lu=W.lu
 |0,W,l,q=>rfl
 |n+1,W,l,q=>by
  unfold sA;split
  .split
   .rfl
   .rw[yQ n];rfl
  .split
   .rw[yQ n];rfl
   .rfl
def pC(W:St)(l:List Vl)(q:Int):(gv W l q).lu=W.lu:=yQ _ W l q
def Bt(S:Nat->Prop)(w:World)(v:Value)(l:List UInt8):Prop:=∃h cap,v=.slice h l.length cap/\l.length<=9223372036854775807/\(0<l.length->∃b off,h=some ⟨b,off,none⟩/\¬S b/\b<w.heap.size/\∀j u,l[j]?=some u->w.cell? ⟨b,off+j,none⟩=some (.int .u8 (u.toNat:Int)))
def Bt.kept{l:List UInt8}(h:Bt S w v l)(D:Kp S S1 w w1):Bt S1 w1 v l:=by obtain⟨I,cap,e,J,h⟩:=h;refine⟨I,cap,e,J,λK=>?_⟩;obtain⟨b,off,e,F,E,L⟩:=h K;exact⟨b,off,e,D.out b E F,dj E D.size,λj u M=>(dK (a:=(zA b (off+j))) (D.kg b E F)).trans (L j u M)⟩
def Ho(h:Kp S S1 w w1)(T:Nat->Prop):Kp (λk=>S k\/T k) (λk=>S1 k\/T k) w w1:=
 ⟨h.os,h.tape,h.output,h.size,λk E D=>h.kg k E λx=>D (.inl x),λk E D x=>x.elim (h.out k E λy=>D (.inl y)) λy=>D (.inr y)⟩
def vU(w:World)(e:TypeId)(s:ByteArray):Below w.heap.size w (Lib.bytesWorld w e s):=⟨rfl,rfl,rfl,by rw[Lib.bytesWorld_size];omega,λk h=>Lib.bytesWorld_at_old w e s k h⟩
def Vv:Option Value->Nat
 |some (.slice _ n _)=>n
 |_=>0
def CD(E:mz p Hs){v:Vl}{rb:Bool}(h:Sp cJ g W R H (rb,v) w)(hB:cJ<=w.heap.size)(I:Iv p Hs W cW)(hv:gG W.sz v){U:St}(hU:je v W.co.cy.length W=U):
  zC 53 #[zP g] w λe w'=>(∃x,e=.returned x)/\∃R' u,Sp cJ g U R' {H with er:=u} (false,v) w'/\zL g W R U R' w w'/\∀T:Nat->Prop,(∀k,T k->k<w.heap.size)->Bt (λk=>Ft g W R k\/T k) w H.er W.lu->Bt (λk=>Ft g U R' k\/T k) w' u U.lu:=by
 have hn:=I.cQ;obtain⟨d,aA,h4,a7,aK⟩:=h.zH hn;have H4:=cO h4.cS;have a8:=h.Dl;have aL:=h.eA (j:=15) rfl;have aM:=h.free 15;have aB:Hid (Sp cJ g W R H (false,v) (w.setCell (zA g 15) (.bool false))):=h.cell (by unfold gc;simp) (λ_=>j8) (λ_ _=>rfl) (λ_ _=>rfl);have HI:=cO I;have al:=cO hv;have HU:=cO hU;obtain⟨vs,aC⟩:=eX (⟨v.s.toArray⟩:ByteArray);have af:=cO (kJ aC.symm);clear h h4 aK I hv hU aC;go_enter func53,ntmps53;go_wp2;clear aL aM;refine dx λw1 ar=>?_;rw[<-ar]at aB;have K1:Hid (zK g W R w w1):=ar▸Kp.setCell (a:=(zA g 15)) _ Ft.nj;clear ar;go_loopw[] (λwr=>∃V q R1,Hid (V.cQ=W.cQ/\V.cS.length=W.cS.length/\(R1 (4,0,0)).v=(R (4,0,0)).v)/\Hid (Iv p Hs V q/\V.sz=W.sz/\je v V.co.cy.length V=U/\V.lu=W.lu)/\Hid (Sp cJ g V R1 H (false,v) wr)/\Hid (zL g W R V R1 w wr)) (λwr=>Vv (wr.cell? (zA d (W.cQ*8))))
 case atStart=>exact⟨W,cW,R,⟨rfl,rfl,rfl⟩,⟨HI,rfl,HU,rfl⟩,aB.out,K1.out⟩
 case round=>
  obtain⟨V,q,R1,HA,HP,J,HK⟩:=hrel;obtain⟨en,L,aD⟩:=HA.out;obtain⟨IV,M,eU,D⟩:=HP.out;have F:=IV.cQ;have am:Qy V R1 d aA:=⟨by rw[aD,H4.out,L]⟩
  have aE:=cO am;have c6:=J.out.c6 am;have c7:=J.out.c7;rw[L]at c6;rw[en]at c7;obtain⟨a0,c0,au⟩:=J.out.eH.sliced (gz F);have n6:=J.out.ij _ (gz F);rw[n6]at au;have k0:wr.cell? (zA d (W.cQ*8))=some (.slice a0 V.co.cy.length c0):=by have:=J.out.Ll am F (r:=0) rfl;rw[au]at this;rw[<-en];exact this
  have aN:=cO k0;clear am au n6 aD;by_cases hz:V.co.cy.length=0
  .rw[hz]at k0;have K:=eU;rw[hz]at K;unfold je at K;have aO:=cO D;have aq:Hid (∀X,Sp cJ g V R1 H (false,v) X->X.cell? (zA g 16)=some (zI v.k)/\X.cell? (zA g 17)=some (zI v.n)/\X.cell? (zA g 18)=some (.string vs)):=λX hX=>⟨hX.eA (j:=16) rfl,hX.eA (j:=17) rfl,by rw[<-af.out];exact hX.eA (j:=18) rfl⟩
   by_cases h0:W.cQ=0
   .have aa:=en.trans h0;rw[cR aa]at K;have ac:=cO K;have c8:=J.out.eA (j:=8) rfl;have c9:=J.out.eA (j:=9) rfl;have aP:=J.out.eA (j:=11) rfl;have f8:=J.out.free 8;have f9:=J.out.free 9;have aQ:=J.out.free 11;obtain⟨ag,ah,ai⟩:=aq.out _ J.out;rw[h0]at c7;rw[h0,gh]at k0;have ba:(0:Int)<W.cS.length:=cM;have aR:Hid (∀X,zC 79 #[.agg (zV v.k v.n vs)] X (zR X (.string ⟨(jY v).toArray⟩))):=by
     intro X;have:=om v al.out X;unfold vv at this;rwa[af.out]at this
    have kv:=λX=>Lib.run_convert_string_bytes (P:=Tryz.prog) X 9 29 5 ⟨(jY v).toArray⟩ ji ie jJ;clear K eU IV M D HA HP hz aa h0;go_wp2;go_quiet (fail);go_wp2_with(go_at_call 79;refine cA (aR.out _) ?_;rintro e w5 ⟨rfl,b5⟩;have aj:=cO ((((J.out.oz true).dw 6).drewN nq).below b5);have K5:=cO (HK.out.trans (((Kp.setCell (a:=(zA g 8)) _ Ft.nj).trans (Kp.setCell (a:=(zA g 9)) _ Ft.nj)).drewN nq |>.trans (Kp.cY b5)));have bb:=(aj.out.below (vU w5 5 ⟨(jY v).toArray⟩)).eA (j:=11) rfl;have bc:=(aj.out.below (vU w5 5 ⟨(jY v).toArray⟩)).free 11;clear b5 c8 c9 aP f8 f9 aQ ag ah ai)
    go_returns;rw[<-ac.out];have aF:=vU w5 5 ⟨(jY v).toArray⟩;refine⟨⟨_,rfl⟩,R1,_,(aj.out.below aF).lu _ (jY v),K5.out.trans ((Kp.cY aF).trans (Kp.setCell (a:=(zA g 11)) _ Ft.nj)),λT hT _=>?_⟩;have aS:(⟨(jY v).toArray⟩:ByteArray).size=(jY v).length:=by simp[ByteArray.size]
    refine⟨_,_,rfl,cV (mM al.out) cM,λ_=>⟨w5.heap.size,0,rfl,λhk=>hk.elim (λhk=>gE _ (Ft.lt aj.out hk)) (λhk=>by have:=hT _ hk;have:=K5.out.size;omega),?_,λj u hu=>?_⟩⟩
    .simp[World.setCell,Lib.bytesWorld_size]
    .have hj:=(fG.1 hu).1;rw[dU];have aT:w5.heap.size≠g:=λe=>by have:=aj.out.lt;omega
     have:=Lib.bytesWorld_cell w5 5 ⟨(jY v).toArray⟩ j (by rw[aS];exact hj);rw[dK (w:=Lib.bytesWorld w5 5 ⟨(jY v).toArray⟩) (a:=(zA w5.heap.size j)) (cZ _ (zA g 11) _ _ aT),this];have e2:(jY v).getD j 0=u:=by have aU:=hu;rw[cB,aU];rfl
     show some (Value.int .u8 (((jY v).getD j 0).toNat:Int))=_;rw[e2]
   .have aa:V.cQ≠0:=λe=>h0 (en.symm.trans e);rw[cK aa]at K;have ac:=cO K;obtain⟨ag,ah,ai⟩:=aq.out _ J.out;have bd:¬(W.cQ:Int)=0:=cM;have ef:=eJ.1 hz;have aV:Hid (∀w1,Sp cJ g V R1 H (false,v) w1->cJ<=w1.heap.size->zC 82 #[zP g,zI 3,zI 0,.agg (zV v.k v.n vs)] w1 λe w'=>(∃x,e=.returned x) /\
      ∃R',Sp cJ g U R' H (false,v) w'/\zL g V R1 U R' w1 w'):=by
     intro w1 h1 hb;rw[<-K];have:=uy h1 hb F (IV.gq V.cQ F aa (.inl IV.run)).1 3 false v (λR2 w2 aW aG s1 b1 l1 _ _=>nN E _ _ _ _ R2 w2 aW 2 aG (cE _) (IV.sR aa ef) (IV.pU V.cQ F).1 (by rw[oV,M];exact yC (iX _ _) al.out) s1 b1 l1 rfl cM);unfold vv at this;rwa[af.out]at this
    clear K eU IV M D HA HP hz aa h0 ef;go_wp2;go_quiet (fail);go_wp2_with(go_at_call 82;refine cA (aV.out _ (J.out.drewN nq) (cV hB HK.out.size)) ?_;rintro e w2 ⟨⟨x,rfl⟩,R2,h1,h2⟩;have HR:Hid (Sp cJ g U R2 H (false,v) w2/\zL g W R U R2 w w2):=⟨h1,HK.out.trans ((Kp.refl _ _).drewN nq |>.trans h2)⟩;clear h1 h2)
    go_returns;refine⟨⟨_,rfl⟩,R2,H.er,HR.out.1,HR.out.2,λT _ hb=>?_⟩;have hk:=hb.kept (Ho HR.out.2 T);rw[<-ac.out,pC];rw[<-ac.out]at hk;rw[show(V.fy 3).lu=W.lu from aO.out];exact hk
  .obtain⟨m,hm⟩:=GS (n:=V.co.cy.length) cM;rw[hm]at k0;have be:m+1<=9223372036854775807:=by rw[<-hm];exact J.out.ny F
   have tO:=IV.kI cM;obtain⟨a4,n4,c4,a5,n5,c5,a6,n6,aw,aH⟩:=J.out.Gp F cM (λe=>(tO.fn e).1);have ad:Hid (∀w1,Sp cJ g V R1 H (false,v) w1->zC 50 #[zP g] w1 λe w'=>e=.returned (.agg #[.bool V.db.guard,zI V.db.want,zI V.db.eR,zI V.db.eA,.slice a4 n4 c4,.slice a5 n5 c5,.slice a6 n6 aw])/\∃R',Sp cJ g V.fU R' H (false,v) w'/\Kp (Ft g V R1) (Ft g V.fU R') w1 w'/\(R' (4,0,0)).v=(R1 (4,0,0)).v):=by intro w1 h1;refine(tA h1 F cM (λe=>(tO.fn e).1)).mono ?_;rintro e w' ⟨rfl,R',r1,r2,r3⟩;refine⟨?_,R',r1,r2,r3 _ dC⟩;show Ending.returned (.agg (tc V R1).toArray)=_;rw[aH]
   have IP:=cO (jS IV cM);have aX:=cO tO.nQ;rw[hm]at eU;unfold je at eU;have ae:=cO eU;have ax:=cO hm;have an:Hid (V.sz=W.sz/\V.lu=W.lu/\V.cQ=W.cQ/\V.cS.length=W.cS.length):=⟨M,D,en,L⟩
   clear eU aH tO IV HA HP hm hz L M D;rename_i bf;have bg:(0:Int)<(m:Int)+1:=cM;cases hg:V.db.guard
   .rw[hg]at ad ae;have O:Hid (je v m V.fU=U):=by have:=ae;rwa[cK dC]at this
    clear ae hg;go_wp2;go_quiet (fail);go_wp2_with(go_at_call 50;refine cA (ad _ (J.drewN nq)) ?_;rintro e w3 ⟨rfl,R3,h1,h2,h3⟩;have ab:=cO h1;have K3:=cO (HK.out.trans ((Kp.refl _ _).drewN nq |>.trans h2));have aI:=cO h3;clear h1 h2 h3)
    go_roundw
    case rel=>
     obtain⟨M,D,ay,L⟩:=an.out;refine⟨V.fU,V.db.want,R3,⟨ay,by rw[kX];exact L,by rw[aI.out,aE.out.cS,H4.out,L]⟩,⟨IP.out,by show(V.du _).sz=_;rw[jv];exact M,?_,D⟩,ab.out.alloc _,K3.out.trans (Kp.alloc _)⟩;have:V.fU.co.cy.length=m:=by unfold St.fU;rw[rW F];simp;rw[ax];omega
     rw[this];exact O
    case measure=>
     obtain⟨M,D,ay,L⟩:=an;rw[aN.out,ax.out];have az:V.fU.cQ<V.fU.cS.length:=by rw[kX];exact F
     obtain⟨a9,c9,aY⟩:=ab.eH.sliced (gz az);have e9:=ab.Ll (d:=d) (dap:=aA) ⟨by rw[aI,aE.cS,kX]⟩ az (r:=0) rfl;rw[aY,ab.ij _ (gz az)]at e9;have aJ:=fJ (o:=.cells #[.bool false,zI V.db.want,zI V.db.eR,zI V.db.eA,.slice a4 n4 c4,.slice a5 n5 c5,.slice a6 n6 aw] 111) e9;have aZ:rM V.fU (6,V.fU.cQ,0)=m:=by show V.fU.co.cy.length=m;unfold St.fU;rw[rW F];simp;rw[ax];omega
     rw[aZ]at aJ;rw[show W.cQ*8=V.fU.cQ*8+0 by rw[<-ay];rfl,aJ];show m<m+1;omega
   .rw[hg]at ad ae;have O:Hid (gv V.fU [bv false,v] V.db.want=U):=by have:=ae;rwa[cR rfl]at this
    clear ae hg;go_wp2;go_quiet (fail);go_wp2_with(go_at_call 50;refine cA (ad _ (J.drewN nq)) ?_;rintro e w3 ⟨rfl,R3,h1,h2,h3⟩;have ab:=cO h1;have K3:=cO (HK.trans ((Kp.refl _ _).drewN nq |>.trans h2));clear h1 h2 h3 c6 c7 k0)
    refine dx λw4 ap=>?_;have ak:Sp cJ g V.fU R3 H (false,v) w4:=ap▸ab.alloc _;have K4:Kp (Ft g W R) (Ft g V.fU R3) w w4:=ap▸K3.trans (Kp.alloc _);have a1:Lc (Ft g V.fU R3) w4 w3.heap.size #[.bool true,zI V.db.want,zI V.db.eR,zI V.db.eA,.slice a4 n4 c4,.slice a5 n5 c5,.slice a6 n6 aw] 111:=by rw[ap];exact Lc.new w3 (λk hk=>Ft.lt ab hk) _ _
    clear ap;have ag:=ak.eA (j:=16) rfl;have ah:=ak.eA (j:=17) rfl;have ai:w4.cell? (zA g 18)=some (.string vs):=by rw[<-af];exact ak.eA (j:=18) rfl
    obtain⟨S,hS⟩:=eX (fI w4 none);have z1:=Wd.cn hS (a1.cell (j:=1) rfl);have z2:=Wd.cn hS ag;have z3:=Wd.cn hS ah;have z4:=Wd.cn hS ai;have HS:=cO hS;clear hS ag ah ai;haveI:=pz HS;refine Cg S [0,1,2,3,4,5,7,8] [6] [9] (HS▸(fI.refl _ _).drew) ?_;simp only[pick,ey,eB,eL,eM,dt,dG];repeat(go_big_quiet_step(fail))
    apply wpQuiet_nil;apply dI;clear z1 z2 z3 z4;go_wp2;refine⟨HS▸(fI.refl _ _).drew.alloc _,?_⟩;apply ej;have a2:Ls (Ft g V.fU R3) (w4.alloc (.cells #[zI 1,zI 0,zT,zI v.k,zI v.n,.string vs] 56)) (some (zA w4.heap.size 0)) [bv false,v]:=by refine Ls.lit (λk hk=>Ft.lt ak hk) ?_;rw[eE,eE,oD,kS];unfold vc;rw[af];rfl
    have a3:Hid (zC 51 #[zP g,zS w4.heap.size 2 2,zI V.db.want] (w4.alloc (.cells #[zI 1,zI 0,zT,zI v.k,zI v.n,.string vs] 56)).drew λe w'=>(∃x,e=.returned x)/\∃R',Sp cJ g U R' H (false,v) w'/\Kp (Ft g V.fU R3) (Ft g U R') (w4.alloc (.cells #[zI 1,zI 0,zT,zI v.k,zI v.n,.string vs] 56)).drew w'):=by
     rw[<-O];refine nN E _ V.fU V.db.want [bv false,v] R3 _ _ 2 2 (cE _) IP aX ?_ (ak.alloc _).drew (cV hB (cV K4.size dC)) a2.drew rfl cM;have:V.fU.sz=W.sz:=by show(V.du _).sz=_;rw[jv];exact an.1
     rw[this];exact yC (iX _ _) al
    go_wp2_with(go_at_call 51;refine cA a3 ?_;rintro e w6 ⟨⟨x,rfl⟩,R6,h1,h2⟩;have HR:Sp cJ g U R6 H (false,v) w6/\zL g W R U R6 w w6:=⟨h1,((K4.trans (Kp.alloc _)).drew).trans h2⟩;clear h1 h2)
    go_returns;refine⟨⟨_,rfl⟩,R6,H.er,HR.1,HR.2,λT _ hb=>?_⟩;rw[<-O,pC];have:=hb.kept (Ho HR.2 T);rw[<-O]at this;rw[show V.fU.lu=W.lu from an.2.1];exact this
def Sp.Wn(h:Sp cJ g W R H rz w){i:Nat}(I:i<W.funcs.length):∃b c,(R (3,0,0)).v=.slice (some ⟨b,0,none⟩) W.funcs.length c/\w.cell? ⟨b,i*2,none⟩=some (.int .i64 (W.funcs.getD i (0,[])).1)/\w.cell? ⟨b,i*2+1,none⟩=some (R (5,i,0)).v:=by
 have D:=iW (W:=W);have E:(R (3,0,0)).n=W.funcs.length:=h.ij _ D;obtain⟨b,c,F,_,_⟩:=h.eH.uE D (by rw[E];omega);have key:∀r u,r<2->([zI (W.funcs.getD i (0,[])).1,(R (5,i,0)).v]:List Value)[r]?=some u->zE w b (i*2+r) u:=by
  intro r u J K;refine h.eH.cell D F ?_ ?_
  .rw[E];show i*2+r<W.funcs.length*2;omega
  .rw[h.cells _ D];show((List.range W.funcs.length).flatMap λi=>[Value.int .i64 (W.funcs.getD i (0,[])).1,(R (5,i,0)).v])[i*2+r]?=some u;rw[oY (c:=2) (f:=λi=>[Value.int .i64 (W.funcs.getD i (0,[])).1,(R (5,i,0)).v]) (λ_=>rfl) I J];exact K
 exact⟨b,c,by rw[F,E],key 0 _ cM rfl,key 1 _ cM rfl⟩
def Sp.UG(h:Sp cJ g W R H rz w):W.funcs.length<=9223372036854775807:=by
 have e:(R (3,0,0)).n=W.funcs.length:=h.ij _ iW;obtain⟨_,E⟩|⟨_,_,_,_,_,_,F,D,_⟩:=(h.eH.own _ (iW (W:=W))).2
 .omega
 .unfold maxLen at D;omega
def Kp.ee(h:Kp S S1 w w1)(T:Nat->Prop):Kp (λk=>S k\/T k) (λk=>S1 k\/T k) w w1:=
 ⟨h.os,h.tape,h.output,h.size,λk E D=>h.kg k E λx=>D (.inl x),λk E D x=>x.elim (h.out k E λy=>D (.inl y)) λy=>D (.inr y)⟩
def nP(w:World)(v:Value)(l:List (List Int)):Prop:=∃h cap,v=.slice h l.length cap/\l.length<=cap/\cap<=9223372036854775807/\∀i,i<l.length->∃b off u,h=some ⟨b,off,none⟩/\w.cell? ⟨b,off+i,none⟩=some u/\AB w u (l.getD i [])
def Pt(cJ:Nat)(S:Nat->Prop)(w:World)(v:Value)(l:List (List UInt8)):Prop:=
 ∃h:List Value,w.ownsRow cJ 29 1 v l.length h/\(∀k,v.ownBlock=some k->¬S k)/\∀i,i<l.length->∃u,h[i]?=some u/\Bt (λk=>S k\/v.ownBlock=some k) w u (l.getD i [])
def Pt.kept{l:List (List UInt8)}(h:Pt cJ S w v l)(E:Kp S S1 w w1):Pt cJ S1 w1 v l:=by
 obtain⟨M,F,K,O⟩:=h;refine⟨M,?_,λk e=>E.out k ((F.lt k e).2) (K k e),λi hi=>?_⟩
 .refine⟨F.1,?_⟩;obtain x|⟨I,D,J,x,xb,L,xr⟩:=F.2
  .exact .inl x
  .refine .inr ⟨I,D,J,x,xb,?_,xr⟩;rw[E.kg I (dS.1 L).1 (K I (by rw[x];rfl))];exact L
 .obtain⟨u,e,hb⟩:=O i hi;exact⟨u,e,hb.kept (E.ee _)⟩
structure Mc(w0:World)(g:Nat)(W:St)(R:eO→fW)(H:Hd)(rz:Bool×Vl)(w:World):Prop where
 sp:Sp w0.heap.size g W R H rz w
 pA:w0.heap.size≤g
 mV:Below w0.heap.size w0 w
 ins:nP w0 H.ins W.ins
 pr:Pt w0.heap.size (Ft g W R) w H.pr W.dn
 er:Bt (fun k=>Ft g W R k∨H.pr.ownBlock=some k) w H.er W.lu
def Mc.gY(h:Mc w0 g W R H rz w)(hs:Sp w0.heap.size g V R' H rz' w1)(D:Kp (Ft g W R) (Ft g V R') w w1)(E:V.ins=W.ins)(F:V.dn=W.dn)(I:V.lu=W.lu):Mc w0 g V R' H rz' w1:=
 ⟨hs,h.pA,h.mV.trans (D.below h.mV.size λk D=>Ft.from h.sp h.pA D),E▸h.ins,F▸h.pr.kept D,I▸h.er.kept (D.ee _)⟩
def Mc.below(h:Mc w0 g W R H rz w)(D:Below w.heap.size w w1):Mc w0 g W R H rz w1:=h.gY (h.sp.below D) (Kp.cY D) rfl rfl rfl
def Cf(w0:World)(g:Nat)(h D:Value)(r:mX)(w':World):Prop:=
 ∃R' H' E,H'.ks=h/\H'.ps=D/\Mc w0 g r.1 R' H' (match r.2 with|none=>(false,E)|some x=>(true,x)) w'
def sV:∀(n:Nat)(W:St)(l:List Vl)(q:Int),(sA n W l q).ins=W.ins/\(sA n W l q).dn=W.dn
 |0,W,l,q=>⟨rfl,rfl⟩
 |n+1,W,l,q=>by
  unfold sA;split
  .split
   .exact⟨rfl,rfl⟩
   .rw[(sV n _ _ _).1,(sV n _ _ _).2];exact⟨rfl,rfl⟩
  .split
   .rw[(sV n _ _ _).1,(sV n _ _ _).2];exact⟨rfl,rfl⟩
   .exact⟨rfl,rfl⟩
def mr(W:St)(l:List Vl)(q:Int):(gv W l q).ins=W.ins/\(gv W l q).dn=W.dn:=sV _ W l q
end rn
end Go.Proofs.YtfpkdfeakanlpaaGreatDoor
