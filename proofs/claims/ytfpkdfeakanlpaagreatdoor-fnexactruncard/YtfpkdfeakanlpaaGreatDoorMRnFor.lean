import Derived.Deep.Cut
import Derived.Test.YtfpkdfeakanlpaaGreatDoorMRnVar
set_option linter.all false
set_option maxRecDepth 100000
set_option maxHeartbeats 8000000
namespace Go.Proofs.YtfpkdfeakanlpaaGreatDoor
open Go.Proofs.Tryz
namespace rn
open RowKit bts pg chk
variable{rz rz':Bool×Vl}{f:Fr}{H H':Hd}{a cJ g sb:Nat}{V W:St}{R R':eO→fW}{q0 q1 q2 q3 q4 q6:Value}{w w1:World}
def Oq(cJ g:Nat)(W:St)(R:eO->fW)(H:Hd)(rz:Bool×Vl)(w:World)(r:Option St)(w':World):Prop:=
 match r with
 |some V=>∃R',Sp cJ g V R' H rz w'/\Kp (Ft g W R) (Ft g V R') w w'
 |none=>Sp cJ g W R H (true,tv vN) w'/\Kp (Ft g W R) (Ft g W R) w w'
def xP(W:St)(a to:Nat):Option St:=
 let i:=W.vars.getD (W.db.da.getD a 0) v0;let l:=W.vars.getD (W.db.da.getD (a+1) 0) v0;let d:=W.vars.getD (W.db.da.getD (a+2) 0) v0
 if i.k=2/\l.k=2/\d.k=2/\d.n≠0 then some (if (0<d.n/\l.n<i.n)\/(d.n<0/\i.n<l.n)then W.gi to else W)else none
def xQ(W:St)(a to:Nat):Option St:=
 let i:=W.vars.getD (W.db.da.getD a 0) v0;let d:=W.vars.getD (W.db.da.getD (a+2) 0) v0
 if i.k=2/\d.k=2 then
  let z:=wrap (i.n+d.n)
  some (if (0<d.n/\z<i.n)\/(d.n<0/\i.n<z)then W else {W with vars:=W.vars.set (W.db.da.getD a 0) (nv z)}.gi to)
 else none
abbrev SI(X:World)(sb h a s:Nat)(z:Vl)(zs:ByteArray):Prop:=X.cell? ⟨sb,a,none⟩=some (.int .i64 (s:Nat))/\X.cell? ⟨h,s*3,none⟩=some (.int .i64 z.k)/\X.cell? ⟨h,s*3+1,none⟩=some (.int .i64 z.n)/\X.cell? ⟨h,s*3+2,none⟩=some (.string zs)
def Wd.for{F:Nat->Prop}{S:World->Prop}{D K E L I:Value}{k j M O J s:Nat}{z:Vl}{zs:ByteArray}(h:S=fI w none)(LF:Lc F w k #[q0,q1,q2,q3,q4,D,q6] M)(LX:Lc F w j #[K,E,L] O)(g3:w.cell? ⟨g,3,none⟩=some I)(c:SI w sb J a s z zs)(x:Wd S):x.w.cell? ⟨k,5,none⟩=some D/\x.w.cell? ⟨j,1,none⟩=some E/\x.w.cell? ⟨g,3,none⟩=some I/\SI x.w sb J a s z zs:=
 ⟨x.cell h (LF.cell rfl) dC,x.cell h (LX.cell rfl) dC,x.cell h g3 dC,x.cell h c.1 dC,x.cell h c.2.1 dC,x.cell h c.2.2.1 dC,x.cell h c.2.2.2 dC⟩
def P7(M:Sp cJ g W R H rz w)(hn:W.cQ<W.cS.length)(ap:0<W.co.cy.length)(hg:W.db.guard=false){to sc ns:Nat}(ha:a+2<W.db.da.length)(aC:ns=W.db.da.length)(e7:∀m,W.co.cy.length=m+1->zS sb ns sc=(R (7,W.cQ,m)).v)(aD:ns<=9223372036854775807)(J:∀q,q<=2->W.db.da.getD (a+q) 0<W.vars.length){op:Int}{r:Option St}(hr:op=26/\r=xP W a to\/op=27/\r=xQ W a to):zC 91 #[zP g,.agg #[q0,q1,q2,q3,q4,zS sb ns sc,q6],.agg (zW op (a:Int) (to:Int))] w λe w'=>(∃x,e=.returned x)/\Oq cJ g W R H rz w r w':=by
 have HM:=cO M;have E:=cO (λk (hk:Ft g W R k)=>Ft.lt M hk);obtain⟨m,hm⟩:∃m,W.co.cy.length=m+1:=⟨W.co.cy.length-1,cM⟩
 obtain⟨h,ac,F,_,aq,_⟩:=M.Vr (J 0 cM);obtain⟨ar,K⟩:=eX W.vars.length;rw[<-K]at F;obtain⟨s,hs⟩:=eX (λq=>W.db.da.getD (a+q) 0);obtain⟨z,hz⟩:=eX (λq=>W.vars.getD (s q) v0);obtain⟨zs,au⟩:∃zs:Nat->ByteArray,∀q,vc (z q)=[zI (z q).k,zI (z q).n,.string (zs q)]:=⟨λq=>⟨(z q).s.toArray⟩,λ_=>rfl⟩
 have HX:Hid (∀X,zB w X->zE X g 3 (zS h ar ac)/\∀q,q<=2->SI X sb h (a+q) (s q) (z q) (zs q)):=by
  intro X L;have MX:=M.below L;refine⟨(MX.eA (j:=3) rfl).trans (by rw[F]),λq hq=>?_⟩;obtain⟨b1,c1,e1,l1,_⟩:=MX.SU hn hm hg (a:=a+q) cM;rw[<-e7 m hm]at e1;simp only[de,dB,fC,and_true]at e1;obtain⟨rfl,_,_⟩:=e1;obtain⟨b2,c2,e2,l2,_,_⟩:=MX.Vr (J q hq);rw[F]at e2;simp only[de,dB,fC,and_true]at e2;obtain⟨rfl,_,_⟩:=e2;have e3:s q=W.db.da.getD (a+q) 0:=by rw[hs]
  have e4:z q=W.vars.getD (s q) v0:=by rw[hz]
  rw[<-e3,<-e4,au]at l2;rw[<-e3]at l1;exact⟨l1,l2 0 cM,l2 1 cM,l2 2 cM⟩
 have aE:=cO (λX=>jo vN X);have aF:=cO (λX (L:Sp cJ g W R H rz X)=>lT L (tv vN));obtain⟨y,hy⟩:=eX (wrap ((z 0).n+(z 2).n));have aM:wrap64 ((z 0).n+(z 2).n)=y:=hy▸lG _;obtain⟨V,hV⟩:=eX {W with vars:=W.vars.set (s 0) (nv y)};have aG:=cO (λX (L:Sp cJ g W R H rz X)=>oG L hn ap to);have aH:=cO (λX R1 (L:Sp cJ g V R1 H rz X)=>oG L (hV▸hn) (hV▸ap) to);have aI:Hid (∀X,zB w X->∃R',Sp cJ g V R' H rz (((X.setCell (zA h (s 0*3)) (zI 2)).setCell (zA h (s 0*3+1)) (zI y)).setCell (zA h (s 0*3+2)) (zT))/\Ft g V R'=Ft g W R):=by intro X L;have hx:s 0<W.vars.length:=hs▸J 0 cM;obtain⟨R',h1,h2⟩:=(M.below L).v8 hx (by rw[F,K]) (nv y);subst hV;exact⟨R',h1,vJ (λt=>j8) h2⟩
 have aa:=cO aq;have aJ:Hid (∀X,zB w X->∀r,X.frozen? (zA h r)=false):=by intro X L r;have n0:(R (0,0,0)).n=W.vars.length:=M.ij _ kU;exact(M.below L).eH.free kU (g:=h) (cap:=ac) (by rw[F,n0,K]) r
 have ls:∀q,q<=2->(s q:Int)<(ar:Int):=λq hq=>by have:=J q hq;rw[hs,K];exact xm.2 this
 have li:=ls 0 cM;have ll:=ls 1 cM;have ld:=ls 2 cM;have la:(a:Int)+2<(ns:Int):=cM;have aN:(a:Int)<(ns:Int):=cM;have aO:(a:Int)+1<(ns:Int):=cM;have aP:=cO aD;have HR:Hid ((op=26/\(z 0).k=2/\(z 1).k=2/\(z 2).k=2/\(z 2).n≠0/\r=some (if (0<(z 2).n/\(z 1).n<(z 0).n)\/((z 2).n<0/\(z 0).n<(z 1).n)then W.gi to else W))\/(op=27/\(z 0).k=2/\(z 2).k=2/\r=some (if (0<(z 2).n/\y<(z 0).n)\/((z 2).n<0/\(z 0).n<y)then W else V.gi to))\/r=none/\((op=26\/op=27)/\(((z 0).k != 2)=true\/((z 0).k != 2)=false/\((z 2).k != 2)=true)\/op=26/\((z 0).k != 2)=false/\((z 2).k != 2)=false/\(((z 1).k != 2)=true\/((z 1).k != 2)=false/\((z 2).n==0)=true))):=by
  show _\/_;have e1:xP W a to=if (z 0).k=2/\(z 1).k=2/\(z 2).k=2/\(z 2).n≠0 then some (if (0<(z 2).n/\(z 1).n<(z 0).n)\/((z 2).n<0/\(z 0).n<(z 1).n)then W.gi to else W)else none:=by subst hz hs;rfl
  have e2:xQ W a to=if (z 0).k=2/\(z 2).k=2 then some (if (0<(z 2).n/\y<(z 0).n)\/((z 2).n<0/\(z 0).n<y)then W else V.gi to)else none:=by subst hV hy hz hs;rfl
  rw[e1,e2]at hr;clear e1 e2;obtain⟨ho,hr⟩|⟨ho,hr⟩:=hr<;>by_cases k0:(z 0).k=2<;>by_cases k2:(z 2).k=2<;>by_cases k1:(z 1).k=2<;>by_cases k3:(z 2).n=0<;>simp only[k0,k1,k2,k3,ne_eq,not_true,not_false_iff,and_true,WY,wY,Ve]at hr<;>simp[ho,hr,k0,k1,k2,k3]
 have ad:op=26\/op=27:=hr.imp And.left And.left;clear M F aq hm hs hz au J e7 K ha aC hr hV hy ls;go_enter func91,ntmps91;go_wp2_with fail;refine dx λw2 ab=>?_;have B2:Hid (zB w w2):=ab▸(ba).alloc dC _;have ae:Hid (Lc (Ft g W R) w2 w.heap.size #[q0,q1,q2,q3,q4,zS sb ns sc,q6] 111):=ab▸(Lc.new w E _ _).alloc _;have af:Hid (Lc (Ft g W R) w2 (w.heap.size+1) (zW op (a:Int) (to:Int)) 105):=by have:=Lc.new (S:=Ft g W R) (w.alloc (.cells #[q0,q1,q2,q3,q4,zS sb ns sc,q6] 111)) (λk hk=>by have:=E k hk;simp only[dk];omega) (zW op (a:Int) (to:Int)) 105;rw[dk]at this;rw[ab];exact this
 clear ab;obtain⟨S,O⟩:=eX (fI w2 none);have c:SI w2 sb h (a) (s 0) (z 0) (zs 0):=(HX w2 B2).2 0 cM;have Y:=Wd.for O ae af (HX w2 B2).1 c;have D:=cO O;clear O c;haveI:=pz D;refine uq S 12 1 (D▸(fI.refl _ _).drew) ?_;simp only[List.take,List.drop];repeat(go_big_quiet_step(fail))
 refine wpQuiet_nil ?_;refine dI ?_;go_wp2;refine⟨D▸(fI.refl _ _).drew.alloc _,?_⟩;refine ej ?_;clear Y D;go_upto_region 2 with fail;refine dx λw3 ag=>?_;have C3:Hid (zB w2 w3):=ag▸(ba).drew;have B3:=cO (iy B2 C3);have ah:=cO (ae.kept (Kp.cY C3));have ai:=cO (af.kept (Kp.cY C3));have aw:Hid (Lc (Ft g W R) w3 w2.heap.size (zV ((z 0).k) ((z 0).n) (zs 0)) 56):=ag▸(Lc.new w2 (λk hk=>dj (E k hk) B2.size) _ _).drew;clear ag;obtain⟨S,O⟩:=eX (fI w3 none);have c:SI w3 sb h (a+1) (s 1) (z 1) (zs 1):=(HX w3 B3).2 1 cM;have Y:=Wd.for O ah ai (HX w3 B3).1 c;have D:=cO O;clear O c;haveI:=pz D;refine uq S 13 1 (D▸(fI.refl _ _).drew) ?_;simp only[List.take,List.drop];repeat(go_big_quiet_step(fail))
 refine wpQuiet_nil ?_;refine dI ?_;go_wp2;refine⟨D▸(fI.refl _ _).drew.alloc _,?_⟩;refine ej ?_;clear Y D;go_upto_region 3 with fail;refine dx λw4 aj=>?_;have C4:Hid (zB w3 w4):=aj▸(ba).drew;have B4:=cO (iy B3 C4);have ak:=cO (ah.kept (Kp.cY C4));have al:=cO (ai.kept (Kp.cY C4));have ax:Hid (Lc (Ft g W R) w4 w3.heap.size (zV ((z 1).k) ((z 1).n) (zs 1)) 56):=aj▸(Lc.new w3 (λk hk=>dj (E k hk) B3.size) _ _).drew;have ay:=cO (aw.kept (Kp.cY C4));clear aj;obtain⟨S,O⟩:=eX (fI w4 none);have c:SI w4 sb h (a+2) (s 2) (z 2) (zs 2):=(HX w4 B4).2 2 cM;have Y:=Wd.for O ak al (HX w4 B4).1 c;have D:=cO O;clear O c;haveI:=pz D;refine uq S 13 1 (D▸(fI.refl _ _).drew) ?_;simp only[List.take,List.drop];repeat(go_big_quiet_step(fail))
 refine wpQuiet_nil ?_;refine dI ?_;go_wp2;refine⟨D▸(fI.refl _ _).drew.alloc _,?_⟩;refine ej ?_;clear Y D;go_upto_region 4 with fail;refine dx λw5 am=>?_;have C5:Hid (zB w4 w5):=am▸(ba).drew;have B5:=cO (iy B4 C5);have aK:=cO (ak.kept (Kp.cY C5));have an:=cO (al.kept (Kp.cY C5));have az:Hid (Lc (Ft g W R) w5 w4.heap.size (zV ((z 2).k) ((z 2).n) (zs 2)) 56):=by rw[am];exact(Lc.new w4 (λk hk=>dj (E k hk) B4.size) _ _).drew
 have aA:=cO (ay.kept (Kp.cY C5));have aB:=cO (ax.kept (Kp.cY C5));clear am;have i0:=aA.cell (j:=0) rfl;have i1:=aA.cell (j:=1) rfl;have l0:=aB.cell (j:=0) rfl;have l1:=aB.cell (j:=1) rfl;have d0:=az.cell (j:=0) rfl;have d1:=az.cell (j:=1) rfl;have x0:=an.cell (j:=0) rfl;have x2:=an.cell (j:=2) rfl;clear aw ay ax ae ah ak af ai al C3 C4 C5;obtain⟨rfl,k0,k1,k2,k3,er⟩|⟨rfl,k0,k2,er⟩|⟨er,hb⟩:=HR.out;all_goals have ER:=cO er
 .have b0:((z 0).k != 2)=false:=by simpa using k0
  have b1:((z 1).k != 2)=false:=by simpa using k1
  have b2:((z 2).k != 2)=false:=by simpa using k2
  have b3:((z 2).n==0)=false:=by simpa using k3
  clear k0 k1 k2 HR ad er;by_cases hc:(0<(z 2).n/\(z 1).n<(z 0).n)\/((z 2).n<0/\(z 0).n<(z 1).n)
  .have HC:=cO hc;have I:(0<(z 2).n/\(z 1).n<(z 0).n)\/(¬0<(z 2).n/\(z 2).n<0/\(z 0).n<(z 1).n):=cM;clear hc;obtain⟨h1,h2⟩|⟨h0,h1,h2⟩:=I;all_goals
    go_wp2_with(go_at_call 90;refine cA (aG _ (HM.below B5)) ?_;rintro e w7 ⟨⟨x,rfl⟩,R7,h7,k7,_⟩;have K7:=cO ((Kp.cY B5).trans k7);clear k7)
    go_returns;rw[ER,cR HC.out];exact⟨⟨_,rfl⟩,R7,h7,K7⟩
  .have HC:=cO hc;have I:(0<(z 2).n/\¬(z 1).n<(z 0).n/\¬(z 2).n<0)\/(¬0<(z 2).n/\(z 2).n<0/\¬(z 0).n<(z 1).n):=cM;clear hc;obtain⟨h1,h2,I⟩|⟨h1,h2,I⟩:=I;all_goals
    go_wp2;go_returns;rw[ER,cK HC.out];exact⟨⟨_,rfl⟩,R,HM.below B5,Kp.cY B5⟩
 .have b0:((z 0).k != 2)=false:=by simpa using k0
  have b2:((z 2).k != 2)=false:=by simpa using k2
  clear k0 k2 HR ad er;by_cases hc:(0<(z 2).n/\y<(z 0).n)\/((z 2).n<0/\(z 0).n<y)
  .have HC:=cO hc;have I:(0<(z 2).n/\y<(z 0).n)\/(¬0<(z 2).n/\(z 2).n<0/\(z 0).n<y):=cM;clear hc;obtain⟨h1,h2⟩|⟨h0,h1,h2⟩:=I;all_goals
    go_wp2;go_returns;rw[ER,cR HC.out];exact⟨⟨_,rfl⟩,R,HM.below B5,Kp.cY B5⟩
  .have HC:=cO hc;have I:(0<(z 2).n/\¬y<(z 0).n/\¬(z 2).n<0)\/(¬0<(z 2).n/\(z 2).n<0/\¬(z 0).n<y)\/(¬0<(z 2).n/\¬(z 2).n<0/\0<=(z 2).n):=cM;clear hc;obtain⟨h1,h2,I⟩|⟨h1,h2,I⟩|⟨h1,h2,I⟩:=I;all_goals
    go_wp2_with fail;obtain⟨g3,gc⟩:=HX w5 B5;obtain⟨j0,j1,j2,j3⟩:SI w5 sb h a (s 0) (z 0) (zs 0):=gc 0 cM;have f5:=aK.cell (j:=5) rfl;have x1:=an.cell (j:=1) rfl;have zf:=aJ w5 B5;have aL:¬h=w.heap.size+1:=by have:=E h aa;omega
    have aQ:¬w.heap.size+1=h:=λe=>aL e.symm;clear gc i0 i1 l0 l1 d0 d1 x0;refine uZ 12 ?_;simp only[List.take,List.drop];repeat(go_big_quiet_step(fail))
    refine wpQuiet_nil ?_;go_wp2_with(go_at_call 90;obtain⟨R6,h6,e6⟩:=aI w5.drew (B5.drew);refine cA (aH _ R6 h6) ?_;rintro e w7 ⟨⟨x,rfl⟩,R7,h7,k7,_⟩;have k7:Kp (Ft g V R6) _ _ _:=k7;rw[e6]at k7;clear e6)
    go_returns;rw[ER,cK HC.out];exact⟨⟨_,rfl⟩,R7,h7,((Kp.cY B5).drew.trans (((Kp.setCell (a:=(zA h _)) _ aa).trans (Kp.setCell (a:=(zA h _)) _ aa)).trans (Kp.setCell (a:=(zA h _)) _ aa))).trans k7⟩
 .clear HR ad er;obtain⟨rfl|rfl,b0|⟨b0,b2⟩⟩|⟨rfl,b0,b2,b1|⟨b1,b3⟩⟩:=hb;all_goals
   go_wp2_with(first
    |(go_at_call 46;refine cA (aE _) ?_;rintro e w6 ⟨rfl,b6⟩;have B6:=cO (iy B5 b6);clear b6)
    |(go_at_call 45;refine cA (aF _ (HM.below B6)) ?_;rintro e w7 ⟨⟨x,rfl⟩,h7,k7⟩;have K7:=cO ((Kp.cY B6).trans k7);clear k7))
   go_returns;rw[ER];exact⟨⟨_,rfl⟩,h7,K7⟩
end rn
end Go.Proofs.YtfpkdfeakanlpaaGreatDoor
