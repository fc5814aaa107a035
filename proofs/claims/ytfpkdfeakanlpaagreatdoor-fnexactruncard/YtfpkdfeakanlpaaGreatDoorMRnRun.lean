import Derived.Deep.Cut
import Derived.Test.YtfpkdfeakanlpaaGreatDoorMRnSm
set_option linter.all false
set_option maxRecDepth 100000
set_option maxHeartbeats 8000000
namespace Go.Proofs.YtfpkdfeakanlpaaGreatDoor
open Go.Proofs.Tryz
namespace rn
open RowKit bts pg chk
variable{bS:Bool}{H H':Hd}{n:Int}{cJ ci ck cp g ni nk np:Nat}{Hs:Nat→List Int}{S:Nat→Prop}{ai ak ap:Option Addr}{p:Pg}{W:St}{R R':eO→fW}{v:Value}{ev:Vl}{X w w0 w1:World}
def Hf(E:mz p Hs)(M:Mc w0 g W R H (false,ev) w)(I:Iv p Hs W 0)(hl:0<W.co.cy.length)(hg:W.db.guard=false)(B:Bd W)(aK:W.dz<=100000)(hP:kZ w0 H.ps p.cU)(hK:lX w0 H.ks p.dv):
  Calls Tryz.prog 23 #[.pointer (some ⟨g,0,none⟩)] w λe w'=>(∃x,e=.returned x)/\Cf w0 g H.ks H.ps (ok (gY p W)) w':=by
 obtain⟨⟨op,O,xb⟩,hx⟩:∃x,(p.cU.getD W.db.eR gu).dw.getD W.db.eA jI=x:=⟨_,rfl⟩
 have hn:=I.cQ;have t:=I.kI hl;obtain⟨d,a3,h4,bp,a7⟩:=M.sp.zH hn;obtain⟨b,cap,h6,bq,a8⟩:=M.sp.SE hn hl;obtain⟨a4,n4,c4,a5,n5,c5,a6,n6,c6,ak⟩:=M.sp.Gp hn hl (λe=>(t.fn e).1);rw[hg]at ak;have eu:(R (5,W.db.fn,0)).v=.slice a4 n4 c4:=by have:=ga (λq:List Value=>q[4]?) ak;simpa[tc,fc,hg]using this
 have es:(R (7,W.cQ,W.co.cy.length-1)).v=.slice a5 n5 c5:=by have:=ga (λq:List Value=>q[5]?) ak;simpa[tc,fc,hg]using this
 obtain⟨n,aL⟩:=eX ((jq ⟨op,O,xb⟩).toNat);obtain⟨U,hU⟩:=eX ({W.gi (W.db.eA+1)with dz:=W.dz+1}:St);obtain⟨V,hV⟩:∃V,U.dZ n=V:=⟨_,rfl⟩
 obtain⟨i,hi⟩:∃i,U.taken n=i:=⟨_,rfl⟩
 have h:=cO (EM E I hl hg hx hU aL hV);have EX:=cO (vO (p:=p) hx hU aL hV);rw[hi]at EX;have aA:=cO (tF E I hl hg);obtain⟨aP,cP,eP,a9,rP⟩:=hP;obtain⟨bP,oP,bO,ud,br,p0,p1,p2,p3,bs,bt⟩:=rP _ (t.eR hg);obtain⟨aI,cI,bb,bu,rI⟩:=bt;obtain⟨bI,oI,bv,x0,x1,x2⟩:=rI _ (t.eA hg);rw[hx]at x0 x1 x2;dsimp only at x0 x1 x2;subst br;subst bv;rw[bb]at p3;have bc:=t.eR hg;have be:=t.eA hg;obtain⟨np,aB⟩:∃z,z=p.cU.length:=⟨_,rfl⟩
 obtain⟨nc,bf⟩:∃z,z=(p.cU.getD W.db.eR gu).dw.length:=⟨_,rfl⟩
 rw[<-aB]at bc a9;rw[<-bf]at be bu p3;obtain⟨wt,aM⟩:∃z,z=W.db.want:=⟨_,rfl⟩
 obtain⟨pi,aN⟩:∃z,z=W.db.eR:=⟨_,rfl⟩
 obtain⟨ai,aC⟩:∃z,z=W.db.eA:=⟨_,rfl⟩
 rw[<-aM,<-aN,<-aC]at ak;rw[<-aN]at bc p3;rw[<-aC]at be x0 x1 x2;obtain⟨m,hm⟩:∃m,W.co.cy.length=m+1:=⟨W.co.cy.length-1,cM⟩
 have bQ:m+1<=9223372036854775807:=by rw[<-hm];exact M.sp.ny hn
 have bR:m+1<=cap:=by rw[<-hm];exact h6.le
 have HX:Hid (∀X,Below w0.heap.size w0 X->X.cell? (zA bP (oP+pi*4+3))=some (.slice (some (zA bI oI)) nc cI)/\X.cell? (zA bI (oI+ai*3))=some (zI op)/\X.cell? (zA bI (oI+ai*3+1))=some (zI O)/\X.cell? (zA bI (oI+ai*3+2))=some (zI xb)):=λX hX=>⟨di p3 hX,di x0 hX,di x1 hX,di x2 hX⟩
 have bw:Hid (∀{rz:Bool×Vl} X,Sp w0.heap.size g W R H rz X->X.cell? (zA g 1)=some (.slice (some (zA bP oP)) np cP)):=by intro rz X hX;have:=hX.eA (j:=1) rfl;rwa[eP,<-aB]at this
 have HM:=cO M;have HT:=cO ak;have bT:=cO a7;have bx:=cO a8;have al:=cO hm;have HI:=cO I;have HW:=cO (λk (hk:Ft g W R k)=>Ft.lt M.sp hk);have HU:=cO hU;have HV:=cO hV;have Hi:=cO hi;have HB:=cO B;have J:=cO hl;have am:=cO hg;have bz:=cO eu;have bA:=cO es;have bB:Hid (op=22\/op=23\/op=24\/(op≠22/\op≠23/\op≠24)):=by show _\/_;omega
 have aO:Hid (kZ w0 H.ps p.cU):=⟨some (zA bP oP),cP,eP,by rw[<-aB];exact a9,rP⟩
 have bC:=cO hK;have ap:=cO aM;have bD:=cO aC;obtain⟨ns,aQ⟩:∃z,z=W.dz:=⟨_,rfl⟩
 have aq:=cO aQ;rw[<-aQ]at aK;clear M I hl hg B hK hx t a7 a8 ak eu es aL hU hV hi p0 p1 p2 p3 bs bb rP rI eP x0 x1 x2 aB bf aM aN aC hm aQ bp bq;go_enter func23,ntmps23;go_wp2_with fail;have c6:=HM.sp.c6 h4;have c7:=HM.sp.c7;have k0:=HM.sp.k0 hn al h4 h6;have aD:=HM.sp.Dl;go_quiet (fail);go_wp2;clear c6 c7 k0;refine dx λw2 bg=>?_;have B2:Hid (Below w.heap.size w w2):=bg▸dQ (cN _ _) _;clear bg;have E2:=cO (HM.sp.below B2);obtain⟨S,F⟩:=eX (fI w2 none);have y6:=Wd.cn F (E2.c6 h4);have y7:=Wd.cn F E2.c7;have y0:=Wd.cn F (E2.k0 hn al h4 h6);obtain⟨t0,t1,t2,t3,t4,t5,t6⟩:=E2.Tx hn al h6 HT;have z0:=Wd.cn F t0;have z1:=Wd.cn F t1;have z2:=Wd.cn F t2;have z3:=Wd.cn F t3;have z4:=Wd.cn F t4;have z5:=Wd.cn F t5;have z6:=Wd.cn F t6;clear t0 t1 t2 t3 t4 t5 t6;have HS:=cO F;clear F;haveI:=pz HS;refine uq S 14 1 (HS▸(fI.refl _ _).drew) ?_;simp only[List.take,List.drop];repeat(go_big_quiet_step(fail))
 refine wpQuiet_nil ?_;refine dI ?_;go_wp2;refine⟨HS▸(fI.refl _ _).drew.alloc _,?_⟩;refine ej ?_;go_wp2;clear y6 y7 y0 z0 z1 z2 z3 z4 z5 z6;refine dx λw3 aR=>?_;have C3:Hid (Below w2.heap.size w2 w3):=aR▸(ba).drew;have B3:=cO (iy B2 C3);have aE:Hid (Lc (Ft g W R) w3 w2.heap.size #[.bool false,zI wt,zI (pi:Int),zI (ai:Int),.slice a4 n4 c4,.slice a5 n5 c5,.slice a6 n6 c6] 111):=by rw[aR];exact(Lc.new w2 (λk hk=>Ft.lt E2 hk) _ _).drew
 clear aR HS;have E3:=cO (HM.sp.below B3);obtain⟨S,F⟩:=eX (fI w3 none);obtain⟨u0,u1,u2,u3⟩:=HX _ (HM.mV.trans (B3.mono HM.mV.size));have y0:=Wd.cn F u0;have y1:=Wd.cn F u1;have y2:=Wd.cn F u2;have y3:=Wd.cn F u3;have y4:=Wd.cn F (bw _ E3);have y5:=Wd.cn F (aE.cell (j:=2) rfl);have y6:=Wd.cn F (aE.cell (j:=3) rfl);clear u0 u1 u2 u3;have HS:=cO F;clear F;haveI:=pz HS;refine uq S 14 1 (HS▸(fI.refl _ _).drew) ?_;simp only[List.take,List.drop];repeat(go_big_quiet_step(fail))
 refine wpQuiet_nil ?_;refine dI ?_;go_wp2;refine⟨HS▸(fI.refl _ _).drew.alloc _,?_⟩;refine ej ?_;go_upto_region 3 with fail;clear y0 y1 y2 y3 y4 y5 y6;refine dx λw4 aS=>?_;have C4:Hid (Below w3.heap.size w3 w4):=aS▸(ba).drew;have B4:=cO (iy B3 C4);have bh:=cO (aE.kept (Kp.cY C4));have bi:Hid (Lc (Ft g W R) w4 w3.heap.size (zW op O xb) 105):=by rw[aS];exact(Lc.new w3 (λk hk=>Ft.lt E3 hk) _ _).drew
 clear aS HS aE C3 C4 E2 E3 B2 B3;have E4:=cO (HM.sp.below B4);have bj:=E4.eA (j:=12) (u:=zI (W.dz:Int)) rfl;rw[<-aq]at bj;have bE:=E4.free 12;go_wp2_with fail;refine dx λw5 aF=>?_;have E5:Hid (Sp w0.heap.size g {W with dz:=W.dz+1} R H (false,ev) w5):=aF▸aq▸E4.dz (W.dz+1);have K5:Hid (Kp (Ft g W R) (Ft g W R) w w5):=aF▸(Kp.cY B4).trans (Kp.setCell _ Ft.nj);have aT:Hid (Kp (Ft g W R) (Ft g W R) w4 w5):=aF▸Kp.setCell _ Ft.nj;have aU:=cO (bh.kept aT);have bk:=cO (bi.kept aT);clear aF bj bE bh bi aT E4 B4;have c6:=E5.c6 (d:=d) (dap:=a3) ⟨h4.cS⟩;have c7:=E5.c7;have k0:=E5.k0 hn al (d:=d) (dap:=a3) ⟨h4.cS⟩ (b:=b) (cap:=cap) ⟨h6.cy,h6.le⟩;have k3:=E5.So hn (b:=b) (cap:=cap) ⟨h6.cy,h6.le⟩ (j:=m) (r:=3) (by show m<W.co.cy.length;rw[al];omega) rfl;have f3:=E5.UF hn (b:=b) (cap:=cap) ⟨h6.cy,h6.le⟩ (m*7+3);have l3:=aU.cell (j:=3) rfl;dsimp only at c6 c7 k0 k3;refine uZ 15 ?_;simp only[List.take,List.drop];repeat(go_big_quiet_step(fail))
 refine wpQuiet_nil ?_;go_upto_region 5 with fail;clear c6 c7 k0 k3 f3 l3;refine dx λw6 aV=>?_;obtain⟨R6,e6,k6,r6⟩:∃R6,Sp w0.heap.size g U R6 H (false,ev) w6/\Kp (Ft g W R) (Ft g U R6) w5 w6/\∀u,(R6 u).v=(R u).v:=by
  have e1:W.co.cy.length-1=m:=by rw[al];omega
  have F:Sp w0.heap.size g (St.gi {W with dz:=W.dz+1} (ai+1)) (jG R (6,W.cQ,0) ⟨(R (6,W.cQ,0)).v,(R (6,W.cQ,0)).n,(R (6,W.cQ,0)).cs.set ((W.co.cy.length-1)*7+3) (zI (ai+1:Nat))⟩) H (false,ev) (w5.setCell (zA b ((W.co.cy.length-1)*7+3)) (zI (ai+1:Nat))):=E5.ID hn J (ai+1) (b:=b) (cap:=cap) h6.cy;rw[e1]at F;have bF:St.gi {W with dz:=W.dz+1} (ai+1)=U:=by rw[HU,bD];rfl
  rw[bF]at F;have hr:∀u,(jG R (6,W.cQ,0) ⟨(R (6,W.cQ,0)).v,(R (6,W.cQ,0)).n,(R (6,W.cQ,0)).cs.set (m*7+3) (zI (ai+1:Nat))⟩ u).v=(R u).v:=by
   intro u;by_cases e:u=(6,W.cQ,0)
   .subst e;rw[dD]
   .rw[dh _ _ e]
  refine⟨_,aV▸F.drew,?_,hr⟩;rw[vJ (W:=W) (R:=R) (λt=>HU▸mF (f:={W.db with eA:=W.db.eA+1}) hn J rfl t) hr,aV];exact(Kp.setCell (a:=(zA b _)) _ bx).drew
 have aG:=cO (aU.kept k6);have aa:=cO (bk.kept k6);have M6:Hid (Mc w0 g U R6 H (false,ev) w6):=HM.gY e6 (K5.trans k6) (by rw[HU];rfl) (by rw[HU];rfl) (by rw[HU];rfl);have RE:=cO r6;have nU:U.cQ<U.cS.length:=h.out.cQ▸h.out.cS▸hn;have lU:0<U.co.cy.length:=h.out.len▸J;have gU:U.db.guard=false:=h.out.db▸am;have tU:U.db.ops.length=W.db.ops.length:=by rw[h.db]
 have oU:=Iv.IW E HI J am;have bU:U.db.ops.length<=1000000000:=cM;have nl:n<=U.db.ops.length:=tU▸h.le;have LT:=kT nU lU n;rw[HV]at LT;have NU:=cO nU;have LU:=cO lU;have GU:=cO gU;have BU:=cO bU;have NL:=cO nl;have ab:=cO LT;clear k6 r6 aV E5 K5 aU bk nU lU gU tU bU nl LT oU;have x0:=aa.cell (j:=0) rfl;obtain rfl|rfl|rfl|bG:=bB
 .have ka:=jy h.xf.a;have aW:0<=O:=ka.1;have bH:O<51:=ka.2.2;have kb:=jy h.xf.b;have aX:0<=xb:=kb.1;have bV:xb<51:=kb.2.2;have tk:=h.OU;have ar:jq ⟨22,O,xb⟩=1+O:=rfl;obtain⟨an,rfl⟩:∃an:Nat,O=an:=⟨O.toNat,cM⟩
  obtain rfl:n=an+1:=cM;have TK:Hid (Calls Tryz.prog 49 #[zP g,zI ((an:Int)+1)] w6 λe w'=>∃ao co R',e=.returned (.slice ao (an+1) co)/\an+1<=co/\co<=9223372036854775807/\Ls (Ft g V R') w' ao i/\Sp w0.heap.size g V R' H (false,ev) w'/\Kp (Ft g U R6) (Ft g V R') w6 w'/\∀u,u≠(8,U.cQ,U.co.cy.length-1)->(R' u).v=(R6 u).v):=by have:=rO e6 NU LU GU BU (an+1) NL;rw[HV,Hi]at this;rw[show((an:Int)+1)=((an+1:Nat):Int)from cM];exact this
  have NV:=cO h.nV;have LV:Hid (0<V.co.cy.length):=ab.out.2.2.1▸LU;have fV:V.db.guard=false->V.db.fn<V.funcs.length:=λ_=>by have:=((HI.kI J).fn am).1;rw[show V.db.fn=W.db.fn by rw[ab.2.2.2,h.db],show V.funcs=W.funcs by rw[<-HV,HU];rfl];exact this
  have FV:=cO fV;have D:Hid (V.ins=U.ins/\V.dn=U.dn/\V.lu=U.lu):=by rw[<-HV];exact⟨rfl,rfl,rfl⟩
  clear fV;have x1:=aa.cell (j:=1) rfl;have il:i.length=an+1:=by rw[<-Hi];show(U.db.ops.drop _).length=_;rw[eZ];have:=NL.out;omega
  have K:=cO il;obtain⟨y0,ac⟩:∃y,y=i.getD 0 v0:=⟨_,rfl⟩
  obtain⟨bJ,au,aw,q_⟩:=qn y0;have vo:∀v∈i,gG (V).sz v:=by rw[h.sz,<-Hi];exact h.zw
  have ad:Hid (pj p W=call p (nX (V) (i.drop 1)) (V) y0 (i.drop 1) (xb)):=EX▸ac▸rfl;have aY:Hid (td (V) (nX (V) (i.drop 1))):=by
   have hf:ft (V)<=ft W:=by rw[<-HV,HU];exact cV (mQ (pX hn _) _).cy (mQ hn _).cy
   have aD:(V).cS.length=W.cS.length:=ga Sz.cs h.sz;refine yp HB (by rw[<-aq];exact aK) (by rw[<-HV,HU];rfl) (by rw[<-HV,HU];rfl) (by rw[<-HV,HU];rfl) aD hf ?_;unfold nX;have:=xE (V).cS;rw[eZ,il];omega
  have ax:=cO (λ(X:World) (R8:eO->fW) (ao:Option Addr) (na cap:Nat) (hM:Mc w0 g (V) R8 H (false,ev) X) (hL:Ls (Ft g (V) R8) X ao (i.drop 1)) (h1:na=(i.drop 1).length) (h2:na<=1000) (h3:na<=cap) (h4:cap<=9223372036854775807)=>p8 E aO (nX (V) (i.drop 1)) (V) y0 (i.drop 1) (xb) R8 X ao na cap (by unfold nX;split<;>omega) (h.iv (by show(22:Int)≠18;decide) (by show(22:Int)≠23;decide) (by show(22:Int)≠24;decide)) cM (ac▸iR vo 0) (λv hv=>vo v (fK hv)) aY hM hL h1 h2 h3 h4);rw[au]at ax;have aZ:=cO ac;have a0:=cO aw;clear ka aW kb aX tk ar il ac au aw q_ vo;go_wp2_with(first|(go_at_call 49;refine cA TK ?_;rintro e w7 ⟨ao,co,R7,rfl,bm,bn,l7,e7,k7,r7⟩;have af:=cO (aG.kept k7);have ae:=cO (aa.kept k7);have M7:=cO (M6.gY e7 k7 D.1 D.2.1 D.2.2);have f1:=af.cell (j:=1) rfl;have x0:=ae.cell (j:=0) rfl;have x2:=ae.cell (j:=2) rfl;clear k7 r7)|fail)
  obtain⟨bl,off,rfl,q_⟩:=l7.eA (i:=0) (by rw[K];omega);clear q_;obtain⟨m0,m1,m2⟩:=l7.one (j:=0) (by rw[K];omega) aZ a0;simp only[gh,eD]at m0 m1 m2;refine uZ 7 ?_;simp only[List.take,List.drop];repeat(go_big_quiet_step(fail))
  refine wpQuiet_nil ?_;have MX:=cO (M7.below ((cN _ _).drew));go_wp2_with fail;all_goals
   go_at_call 22;refine cA (ax _ _ _ _ _ MX (by first|exact l7.drew.tail|exact Ls.Xb l7 (by rw[K];omega)) (by rw[eZ,K];omega) cM cM cM) ?_;rintro e w9 ⟨⟨x,rfl⟩,h9⟩;have X7:Ij w0 g H.ks H.ps (pj p W) w9:=ad▸Cf.ex h9;clear h9;obtain q|⟨ag,L⟩:=De E rfl aA X7
   .have Q7:=cO q;have ag:w9.cell? (zA g 15)=some (.bool false):=by
     obtain⟨_,_,_,_,_,M7⟩:=q;exact M7.sp.eA (j:=15) rfl
    clear q X7;go_wp2;go_returns;obtain⟨R7,H7,ah,e1,e2,M7⟩:=Q7;exact⟨⟨_,rfl⟩,R7,H7,ah,e1,e2,M7⟩
   .have aj:=cO L;clear L X7;go_wp2_with(go_at_call 53;refine cA aj ?_;rintro e w8 ⟨⟨x,rfl⟩,h8⟩)
    go_returns;exact⟨⟨_,rfl⟩,h8⟩
 .have ka:=jy h.xf.a;have aW:0<=O:=ka.1;have bH:O<51:=ka.2.2;have kb:=jy h.xf.b;have aX:0<=xb:=kb.1;have tk:=h.OU;have ar:jq ⟨23,O,xb⟩=1+O:=rfl;obtain⟨an,rfl⟩:∃an:Nat,O=an:=⟨O.toNat,cM⟩
  obtain rfl:n=an+1:=cM;have TK:Hid (Calls Tryz.prog 49 #[zP g,zI ((an:Int)+1)] w6 λe w'=>∃ao co R',e=.returned (.slice ao (an+1) co)/\an+1<=co/\co<=9223372036854775807/\Ls (Ft g V R') w' ao i/\Sp w0.heap.size g V R' H (false,ev) w'/\Kp (Ft g U R6) (Ft g V R') w6 w'/\∀u,u≠(8,U.cQ,U.co.cy.length-1)->(R' u).v=(R6 u).v):=by have:=rO e6 NU LU GU BU (an+1) NL;rw[HV,Hi]at this;rw[show((an:Int)+1)=((an+1:Nat):Int)from cM];exact this
  have NV:=cO h.nV;have LV:Hid (0<V.co.cy.length):=ab.out.2.2.1▸LU;have fV:V.db.guard=false->V.db.fn<V.funcs.length:=λ_=>by have:=((HI.kI J).fn am).1;rw[show V.db.fn=W.db.fn by rw[ab.2.2.2,h.db],show V.funcs=W.funcs by rw[<-HV,HU];rfl];exact this
  have FV:=cO fV;have D:Hid (V.ins=U.ins/\V.dn=U.dn/\V.lu=U.lu):=by rw[<-HV];exact⟨rfl,rfl,rfl⟩
  clear fV;have x1:=aa.cell (j:=1) rfl;have il:i.length=an+1:=by rw[<-Hi];show(U.db.ops.drop _).length=_;rw[eZ];have:=NL.out;omega
  have K:=cO il;obtain⟨y0,ac⟩:∃y,y=i.getD 0 v0:=⟨_,rfl⟩
  obtain⟨bJ,au,aw,q_⟩:=qn y0;have vo:∀v∈i,gG (V.fU).sz v:=by rw[h.fU,h.Ro,<-Hi];exact h.zw
  have ad:Hid (pj p W=call p (nX (V.fU) (i.drop 1)) (V.fU) y0 (i.drop 1) (wt)):=EX▸ac▸ap▸rfl;have aY:Hid (td (V.fU) (nX (V.fU) (i.drop 1))):=by have hf:ft (V.fU)<=ft W:=h.out.fU▸(qL hn).cy;have aD:(V.fU).cS.length=W.cS.length:=h.out.fU▸ga Sz.cs h.Ro;refine yp HB (by rw[<-aq];exact aK) (by rw[<-HV,HU];rfl) (by rw[<-HV,HU];rfl) (by rw[<-HV,HU];rfl) aD hf ?_;unfold nX;have:=xE (V.fU).cS;rw[eZ,il];omega
  have ax:=cO (λ(X:World) (R8:eO->fW) (ao:Option Addr) (na cap:Nat) (hM:Mc w0 g (V.fU) R8 H (false,ev) X) (hL:Ls (Ft g (V.fU) R8) X ao (i.drop 1)) (h1:na=(i.drop 1).length) (h2:na<=1000) (h3:na<=cap) (h4:cap<=9223372036854775807)=>p8 E aO (nX (V.fU) (i.drop 1)) (V.fU) y0 (i.drop 1) (wt) R8 X ao na cap (by unfold nX;split<;>omega) (h.out.fU▸ap▸h.U8) (ap▸⟨(HI.kI J).nQ,(HI.kI J).sH⟩) (ac▸iR vo 0) (λv hv=>vo v (fK hv)) aY hM hL h1 h2 h3 h4);rw[au]at ax;have aZ:=cO ac;have a0:=cO aw;clear ka aW kb aX tk ar il ac au aw q_ vo;go_wp2_with(first|(go_at_call 49;refine cA TK ?_;rintro e w7 ⟨ao,co,R7,rfl,bm,bn,l7,e7,k7,r7⟩;have af:=cO (aG.kept k7);have ae:=cO (aa.kept k7);have M7:=cO (M6.gY e7 k7 D.1 D.2.1 D.2.2);have f1:=af.cell (j:=1) rfl;have x0:=ae.cell (j:=0) rfl;have x2:=ae.cell (j:=2) rfl;clear k7 r7)|(go_at_call 50;refine cA (tA e7 NV LV FV) ?_;rintro e w8 ⟨rfl,R8,h8,k8,_⟩;have M8:Hid (Mc w0 g V.fU R8 H (false,ev) w8):=M7.gY h8 k8 rfl rfl rfl;have L8:=cO (l7.kept k8);have a1:=cO (af.kept k8);clear f1 x0 x2;have f1:=a1.cell (j:=1) rfl;clear k8))
  obtain⟨bl,off,rfl,q_⟩:=L8.eA (i:=0) (by rw[K];omega);clear q_;obtain⟨m0,m1,m2⟩:=L8.one (j:=0) (by rw[K];omega) aZ a0;simp only[gh,eD]at m0 m1 m2;refine uZ 7 ?_;simp only[List.take,List.drop];repeat(go_big_quiet_step(fail))
  refine wpQuiet_nil ?_;have MX:=cO (M8.below ((cN _ _).drew));go_wp2_with fail;all_goals
   go_at_call 22;refine cA (ax _ _ _ _ _ MX (by first|exact L8.drew.tail|exact Ls.Xb L8 (by rw[K];omega)) (by rw[eZ,K];omega) cM cM cM) ?_;rintro e w9 ⟨⟨x,rfl⟩,h9⟩;have X7:Ij w0 g H.ks H.ps (pj p W) w9:=ad▸Cf.ex h9;clear h9;obtain q|⟨ag,L⟩:=De E rfl aA X7
   .have Q7:=cO q;have ag:w9.cell? (zA g 15)=some (.bool false):=by
     obtain⟨_,_,_,_,_,M7⟩:=q;exact M7.sp.eA (j:=15) rfl
    clear q X7;go_wp2;go_returns;obtain⟨R7,H7,ah,e1,e2,M7⟩:=Q7;exact⟨⟨_,rfl⟩,R7,H7,ah,e1,e2,M7⟩
   .have aj:=cO L;clear L X7;go_wp2_with(go_at_call 53;refine cA aj ?_;rintro e w8 ⟨⟨x,rfl⟩,h8⟩)
    go_returns;exact⟨⟨_,rfl⟩,h8⟩
 .have tk:=h.OU;have ar:jq ⟨24,O,xb⟩=0+O:=rfl;have TK:Hid (Calls Tryz.prog 49 #[zP g,zI O] w6 λe w'=>∃ao co R',e=.returned (.slice ao n co)/\n<=co/\co<=9223372036854775807/\Ls (Ft g V R') w' ao i/\Sp w0.heap.size g V R' H (false,ev) w'/\Kp (Ft g U R6) (Ft g V R') w6 w'/\∀u,u≠(8,U.cQ,U.co.cy.length-1)->(R' u).v=(R6 u).v):=by
   have:=rO e6 NU LU GU BU n NL;rw[HV,Hi]at this;rw[show O=(n:Int)from cM];exact this
  have NV:=cO h.nV;have LV:Hid (0<V.co.cy.length):=ab.out.2.2.1▸LU;have fV:V.db.guard=false->V.db.fn<V.funcs.length:=λ_=>by have:=((HI.kI J).fn am).1;rw[show V.db.fn=W.db.fn by rw[ab.2.2.2,h.db],show V.funcs=W.funcs by rw[<-HV,HU];rfl];exact this
  have FV:=cO fV;have D:Hid (V.ins=U.ins/\V.dn=U.dn/\V.lu=U.lu):=by rw[<-HV];exact⟨rfl,rfl,rfl⟩
  clear fV;have ad:Hid (pj p W=ok (gv V.fU i wt)):=EX▸ap▸rfl;have x1:=aa.cell (j:=1) rfl;have il:i.length=n:=by rw[<-Hi];show(U.db.ops.drop _).length=_;rw[eZ];have:=NL.out;omega
  have K:=cO il;have bK:=cO (λ(X:World) (R8:eO->fW) (ao:Option Addr) (co:Nat) (hM:Mc w0 g V.fU R8 H (false,ev) X) (hL:Ls (Ft g V.fU R8) X ao i)=>xN (cW:=wt) (n:=n) (cap:=co) E hM (h.out.fU▸ap▸h.U8) (ap▸(HI.kI J).nQ) (by rw[h.fU,h.Ro,<-Hi];exact h.zw) hL K.symm (by have:=h.le;have:=Iv.IW E HI J am;omega));clear tk ar il;go_wp2_with(first|(go_at_call 49;refine cA TK ?_;rintro e w7 ⟨ao,co,R7,rfl,bm,bn,l7,e7,k7,r7⟩;have af:=cO (aG.kept k7);have ae:=cO (aa.kept k7);have M7:=cO (M6.gY e7 k7 D.1 D.2.1 D.2.2);have f1:=af.cell (j:=1) rfl;have x0:=ae.cell (j:=0) rfl;have x2:=ae.cell (j:=2) rfl;clear k7 r7)|(go_at_call 50;refine cA (tA e7 NV LV FV) ?_;rintro e w8 ⟨rfl,R8,h8,k8,_⟩;have M8:Hid (Mc w0 g V.fU R8 H (false,ev) w8):=M7.gY h8 k8 rfl rfl rfl;have L8:=cO (l7.kept k8);have a1:=cO (af.kept k8);clear f1 x0 x2;have f1:=a1.cell (j:=1) rfl;clear k8)|fail)
  go_at_call 51;refine cA (bK _ _ _ _ M8 L8) ?_;rintro e w9 ⟨⟨x,rfl⟩,h9⟩;have X7:Ij w0 g H.ks H.ps (pj p W) w9:=ad▸Cf.ex h9;clear h9;obtain q|⟨ag,L⟩:=De E rfl aA X7
  .have Q7:=cO q;have ag:w9.cell? (zA g 15)=some (.bool false):=by
    obtain⟨_,_,_,_,_,M7⟩:=q;exact M7.sp.eA (j:=15) rfl
   clear q X7;go_wp2;go_returns;obtain⟨R7,H7,ah,e1,e2,M7⟩:=Q7;exact⟨⟨_,rfl⟩,R7,H7,ah,e1,e2,M7⟩
  .have aj:=cO L;clear L X7;go_wp2_with(go_at_call 53;refine cA aj ?_;rintro e w8 ⟨⟨x,rfl⟩,h8⟩)
   go_returns;exact⟨⟨_,rfl⟩,h8⟩
 .obtain⟨aH,ay,az⟩:=bG;have ad:pj p W=ew p V ⟨op,O,xb⟩ i:=by rw[EX,cK aH,cK ay,cK az]
  have bo:=rJ p V ⟨op,O,xb⟩ i;have vt:V.db={U.db with ops:=U.db.ops.take (U.db.ops.length-n)}:=ab.2.2.2;have vp:V.db.eR=W.db.eR:=by rw[vt,h.db]
  have vb:V.vars.length=W.vars.length:=ga Sz.vs h.sz;have a2:V.tables=W.tables:=by rw[<-HV,HU];rfl
  have vf:V.funcs=W.funcs:=by rw[<-HV,HU];rfl
  have vi:V.ins=U.ins/\V.dn=U.dn/\V.lu=U.lu:=by rw[<-HV];exact⟨rfl,rfl,rfl⟩
  have bd:=HB;have b1:=bd.vars;have b2:=bd.tables;have b3:=bd.funcs;rw[<-aq]at b1 b2 b3;have bL:=cO (GF (cW:=qK ⟨op,O,xb⟩) E e6 HM.pA M6.mV NU LU GU BU NL HV Hi h.nV (λbM=>h.iv bM ay az) (by rw[h.sz,<-Hi];exact h.zw) (vp▸h.xf) h.xk h.OU aO bC cM (by rw[vf];omega) (by rw[a2];omega) (by intro j;rw[a2];have:=bd.eH;rw[<-aq]at this;exact nW (P:=λt:List (Vl×Vl)=>t.length<=1000000000) (λt ht=>cV (this t ht) cM) (dM _)) (q0:=.bool false) (q1:=zI wt) (q2:=zI (pi:Int)) (q3:=zI (ai:Int)) (q6:=.slice a6 n6 c6) (by rw[h.out.db];exact(RE.out _).trans bz) (h.out.cQ▸h.out.len▸(RE _).trans bA) ⟨aH,ay,az⟩);have bN:=cO ad;have aJ:=cO bo;have D:=cO vi;have bW:(op==22)=false:=by simpa using aH
  have bX:(op==23)=false:=by simpa using ay
  have bY:(op==24)=false:=by simpa using az
  obtain⟨f0,f1,f2,f3,f4,f5,f6⟩:=aG.c7;have x1:=aa.cell (j:=1) rfl;have x2:=aa.cell (j:=2) rfl;clear ad bo vt vp vb a2 vf vi bd b1 b2 b3 aH ay az;go_wp2_with fail;go_at_call 52;refine cA bL ?_;rintro e w7 ⟨⟨x,rfl⟩,h7⟩;have X7:Ij w0 g H.ks H.ps (pj p W) w7:=by rw[bN];refine RF M6 h7 ⟨aJ.1.1.trans D.1,aJ.1.2.1.trans D.2.1,aJ.1.2.2.trans D.2.2⟩ λq=>?_;rw[aJ.2 q];exact⟨h.nV,ab.out.2.2.1▸LU,ab.out.2.2.2▸GU⟩
  clear h7;obtain q|⟨ag,L⟩:=De E rfl aA X7
  .have Q7:=cO q;have ag:w7.cell? (zA g 15)=some (.bool false):=by
    obtain⟨_,_,_,_,_,M7⟩:=q;exact M7.sp.eA (j:=15) rfl
   clear q X7;go_wp2;go_returns;obtain⟨R7,H7,ah,e1,e2,M7⟩:=Q7;exact⟨⟨_,rfl⟩,R7,H7,ah,e1,e2,M7⟩
  .have aj:=cO L;clear L X7;go_wp2_with(go_at_call 53;refine cA aj ?_;rintro e w8 ⟨⟨x,rfl⟩,h8⟩)
   go_returns;exact⟨⟨_,rfl⟩,h8⟩
def SV(ins:List (List Int)):St:=⟨ins,[],[],[],[],0,false,0,[],[],0,0,0⟩
def zD(ins:List (List Int)):St:=⟨ins,[],[],[(0,[])],[⟨[],1,v0,0,0,0⟩],0,false,0,[],[],0,0,0⟩
def D0(E:mz p Hs){ins:List (List Int)}(h:∀x∈ins,x.length<=5000):Iv p Hs (zD ins) 0:=by
 have one:∀i,i<1->i=0:=λi h=>cM;refine⟨by simp[zD],rfl,λi h _=>one i h,.inl rfl,λi h=>?_,λi h D=>absurd (one i h) D,λi j h L D=>absurd (one i h) D,λv I=>(by cases I),λt J=>(by cases J),λc F=>?_,λi h=>?_,λi h=>?_,λi h D=>?_,λi h=>?_,λi h D=>?_,λi h D=>?_,λi h D=>absurd (one i h) D,j7.nil,h⟩
 .rw[one i h];simp[zD]
 .simp only[zD,eQ,eh,iw]at F;subst F;exact⟨E.jZ.1.1.1,E.jZ.1.2.2.2.2.2.symm,λx K=>by cases K⟩
 .rw[one i h];simp[zD]
 .rw[one i h];simp[zD]
 .rw[one i h]at D;simp[zD]at D
 .rw[one i h];exact⟨xu _,λD=>by simp[zD]at D⟩
 .rw[one i h]at D;simp[zD]at D
 .rw[one i h]at D;simp[zD]at D
def uh(E:mz p Hs)(h:zJ p Hs W)(I:W.oz=false):(gY p W).dz=W.dz+1:=by
 obtain h|⟨h,D,F⟩:=h
 .rw[I]at h;cases h
 have x:=tF E h D F;have g:=Dd E h D F;unfold gY;generalize pj p W=r at x g;obtain⟨V,_|v⟩:=r
 .exact g.dz
 .obtain⟨K,q,J⟩:=x.2 v rfl;exact(we _ V q rfl J).dz.trans g.dz
def Ee(n:Nat)(h:W.oz=true):run p n W=W:=by cases n<;>(unfold run;rw[cR h])
def Ec(h:W.oz=false):run p 0 W={W with dw:=7}:=by unfold run;rw[cK (by rw[h];simp)]
def Ed(n:Nat)(h:W.oz=false):run p (n+1) W=run p n (gY p W):=by rw[run];rw[cK (by rw[h];simp)]
def Sp.SC(ins:List (List Int))(H:Hd)(w:World):Sp w.heap.size w.heap.size (SV ins) (λ_=>⟨mO,0,[]⟩) H (false,v0) (w.alloc (.cells (gc (SV ins) (λ_=>⟨mO,0,[]⟩) H (false,v0)).toArray 58)):=by
 have key:∀t,fZ (SV ins) t->t=(0,0,0)\/t=(1,0,0)\/t=(3,0,0)\/t=(4,0,0):=by
  intro t D;obtain h|⟨_,h,_⟩|⟨_,h,_⟩|⟨_,h,_⟩|⟨_,h,_⟩:=D
  .exact h
  .exact absurd h (dT _)
  .exact absurd h (dT _)
  .exact absurd h (dT _)
  .exact absurd h (dT _)
 refine⟨⟨λt D=>fD _ _ _ _,λt u D I E b F=>(by cases F)⟩,λt D=>?_,λt D=>?_,λt D h=>(by cases h),dJ w _⟩
 .obtain rfl|rfl|rfl|rfl:=key t D<;>rfl
 .obtain rfl|rfl|rfl|rfl:=key t D<;>rfl
def vL{k:Nat}{ty:TypeId}{a b c d e:Value}(h:w.heap[k]?=some (.cells #[a,b,c,d,e] ty (0,0)))(D E F I J:Value):Lc (λ_=>False) (((((w.setCell ⟨k,0,none⟩ D).setCell ⟨k,1,none⟩ E).setCell ⟨k,2,none⟩ F).setCell ⟨k,3,none⟩ I).setCell ⟨k,4,none⟩ J) k #[D,E,F,I,J] ty:=
 ⟨λh=>h,fF (fF (fF (fF (fF h))))⟩
section
variable{ins:List (List Int)}
def nP.below{w':World}(h:nP w v ins)(D:Below w.heap.size w w'):nP w' v ins:=by obtain⟨E,cap,e,F,I,J⟩:=h;refine⟨E,cap,e,F,I,λi K=>?_⟩;obtain⟨b,off,u,e,q,r⟩:=J i K;exact⟨b,off,u,e,di q D,r.below D⟩
def wP(CK:∀X,zB w X->zC 20 #[.agg #[.slice ak nk ck,.slice ap np cp]] X (zR X (.bool bS)))(hi:nP w (.slice ai ni ci) ins)(J:ni=ins.length)(E:(bS&&jU ins n)=false):
  zC 6 #[.agg #[.slice ak nk ck,.slice ap np cp],.slice ai ni ci,zI n] w (zR w (.agg #[zI 1,zN,zN,zI 0,zI 0])):=by
 have M:=cO (λ(X:World) (hX:zB w X)=>sT (n:=n) (hi.below hX) J);clear hi J;have K:Hid (zB w ((w.alloc (.cells #[.slice ak nk ck,.slice ap np cp] 36)).alloc (.cells #[zI 0,zN,zN,zI 0,zI 0] 31))):=(ba).alloc dC _;have RL:Hid (((w.alloc (.cells #[.slice ak nk ck,.slice ap np cp] 36)).alloc (.cells #[zI 0,zN,zN,zI 0,zI 0] 31)).heap[w.heap.size+1]?=some (.cells #[zI 0,zN,zN,zI 0,zI 0] 31 (0,0))):=by have:=dJ (w.alloc (.cells #[.slice ak nk ck,.slice ap np cp] 36)) (.cells #[zI 0,zN,zN,zI 0,zI 0] 31);rw[dk]at this;exact this
 cases bS with
 |false=>
  clear E M;go_enter Ws,Vf;go_wp2_with(go_at_call 20;refine cA (CK _ K) ?_;rintro e O ⟨rfl,I⟩;have L:=cO (iy K I);have D:Hid (Lc (λ_=>False) O (w.heap.size+1) #[zI 0,zN,zN,zI 0,zI 0] 31):=⟨λh=>h,(I.block (w.heap.size+1) (by rw[dk,dk];omega)).trans RL⟩;have q0:=D.cell (j:=0) rfl;have q1:=D.cell (j:=1) rfl;have q2:=D.cell (j:=2) rfl;have q3:=D.cell (j:=3) rfl;have q4:=D.cell (j:=4) rfl;have qf:=D.free;clear I)
  refine eS (v:=.agg #[zI 1,zN,zN,zI 0,zI 0]) (by have F:=vL D.2 (zI 1) (zN) (zN) (zI 0) (zI 0);have z0:=F.cell (j:=0) (u:=zI 1) rfl;have z1:=F.cell (j:=1) (u:=zN) rfl;have z2:=F.cell (j:=2) (u:=zN) rfl;have z3:=F.cell (j:=3) (u:=zI 0) rfl;have z4:=F.cell (j:=4) (u:=zI 0) rfl;simp[results,Dv,go_sem,z0,z1,z2,z3,z4]) rfl ?_;exact⟨rfl,((((L.setCell (by show _<=w.heap.size+1;omega) _).setCell (by show _<=w.heap.size+1;omega) _).setCell (by show _<=w.heap.size+1;omega) _).setCell (by show _<=w.heap.size+1;omega) _).setCell (by show _<=w.heap.size+1;omega) _⟩
 |true=>
  have E:jU ins n=false:=by simpa using E
  rw[E]at M;clear E;go_enter Ws,Vf;go_wp2_with(first|(go_at_call 20;refine cA (CK _ K) ?_;rintro e O ⟨rfl,I⟩;have L:=cO (iy K I);have D:Hid (Lc (λ_=>False) O (w.heap.size+1) #[zI 0,zN,zN,zI 0,zI 0] 31):=⟨λh=>h,(I.block (w.heap.size+1) (by rw[dk,dk];omega)).trans RL⟩;have q0:=D.cell (j:=0) rfl;have q1:=D.cell (j:=1) rfl;have q2:=D.cell (j:=2) rfl;have q3:=D.cell (j:=3) rfl;have q4:=D.cell (j:=4) rfl;have qf:=D.free;clear I)|(go_at_call 21;refine cA (M _ L) ?_;rintro e w4 ⟨rfl,rfl⟩))
  refine eS (v:=.agg #[zI 1,zN,zN,zI 0,zI 0]) (by have F:=vL D.2 (zI 1) (zN) (zN) (zI 0) (zI 0);have z0:=F.cell (j:=0) (u:=zI 1) rfl;have z1:=F.cell (j:=1) (u:=zN) rfl;have z2:=F.cell (j:=2) (u:=zN) rfl;have z3:=F.cell (j:=3) (u:=zI 0) rfl;have z4:=F.cell (j:=4) (u:=zI 0) rfl;simp[results,Dv,go_sem,z0,z1,z2,z3,z4]) rfl ?_;exact⟨rfl,((((L.setCell (by show _<=w.heap.size+1;omega) _).setCell (by show _<=w.heap.size+1;omega) _).setCell (by show _<=w.heap.size+1;omega) _).setCell (by show _<=w.heap.size+1;omega) _).setCell (by show _<=w.heap.size+1;omega) _⟩
end
def qP(s:List UInt8):List Int:=s.map λc=>(c.toNat:Int)
def Oo(cJ:Nat)(S:Nat->Prop)(w X:World):Prop:=∀b off u,¬S b->w.cell? ⟨b,off,none⟩=some u->(cJ<=b\/∃z,u=.int .u8 z)->X.cell? ⟨b,off,none⟩=some u
def Bt.out{s:List UInt8}{T:Nat->Prop}(h:Bt T w v s)(F:∀b,S b->T b)(I:Oo cJ S w X):AB X v (qP s):=by
 obtain⟨J,cap,e,K,h⟩:=h;have E:(qP s).length=s.length:=dY ..;refine⟨J,cap,E▸e,E▸K,?_,?_⟩
 .by_cases L:0<s.length
  .obtain⟨b,off,rfl,M,hl,O⟩:=h L;intro j D;rw[E]at D;refine⟨b,off,rfl,?_⟩;refine I _ _ _ (λx=>M (F b x)) ?_ (.inr ⟨_,rfl⟩);have:=O j s[j] (cG D);rw[this];congr 2;unfold qP;simp[D]
  .intro j D;rw[E]at D;omega
 .intro j;refine nW (P:=λz:Int=>0<=z/\z<=255) (λz hz=>?_) cM;obtain⟨c,_,rfl⟩:=jj.1 hz;have:c.toNat<256:=c.toNat_lt;omega
def Pt.out{l:List (List UInt8)}(h:Pt cJ S w v l)(F:Oo cJ S w X):nP X v (l.map qP):=by
 obtain⟨hs,I,K,L⟩:=h;have D:(l.map qP).length=l.length:=dY ..;obtain⟨e,J⟩|⟨g,cap,M,e,O,hh,q1,q2,q3,q4⟩:=I.2
 .refine⟨none,0,by rw[D,e,J],by rw[D,J];omega,cM,λi E=>?_⟩;rw[D]at E;omega
 .refine⟨some (zA g 0),cap,D▸e,by rw[D];exact q1,by unfold maxLen at q2;omega,λi E=>?_⟩;rw[D]at E;obtain⟨u,hu,bt⟩:=L i E;refine⟨g,0,u,rfl,?_,?_⟩
  .have:=I.cells (g:=g) (by rw[e];rfl) i u hu;rw[iK]at this;exact F _ _ _ (K g (by rw[e];rfl)) this (.inl O)
  .have eg:(l.map qP).getD i []=qP (l.getD i []):=by
    rw[cB,cB,ed,cG E];rfl
   rw[eg];exact bt.out (λb x=>.inl x) F
def Bm{wr:World}{K:Nat}{R:eO->fW}{E:Bool×Vl}(M:Mc w0 g W R H E wr)(hK:K<w0.heap.size)(F:wr.heap[K]?=some (.cells #[.int .i64 0,.slice none 0 0,.slice none 0 0,.int .i64 0,.int .i64 0] 31 (0,0)))(I:∀b,b≠g->X.heap[b]?=wr.heap[b]?)(J L O x3 x4:Value):Oo w0.heap.size (Ft g W R) wr (((((X.setCell ⟨K,0,none⟩ J).setCell ⟨K,1,none⟩ L).setCell ⟨K,2,none⟩ O).setCell ⟨K,3,none⟩ x3).setCell ⟨K,4,none⟩ x4):=by
 intro b off u hS hc hu;have hg:b≠g:=λe=>hS (.inl e);have D:b≠K:=by
  obtain h|⟨z,rfl⟩:=hu
  .omega
  .rintro rfl;simp only[World.cell?,F]at hc;obtain _|_|_|_|_|off:=off;all_goals simp at hc
 refine(dK (a:=(zA b off)) ?_).trans hc;rw[cZ _ (zA K 4) _ b D,cZ _ (zA K 3) _ b D,cZ _ (zA K 2) _ b D,cZ _ (zA K 1) _ b D,cZ _ (zA K 0) _ b D];exact I b hg
section
variable{ins:List (List Int)}{n:Nat}
def Nl:Option Value->Nat
 |some (.int _ z)=>z.toNat
 |_=>0
def Cc(E:mz p Hs)(CK:∀X,zB w X->zC 20 #[.agg #[.slice ak nk ck,.slice ap np cp]] X (zR X (.bool true)))(hk:lX w (.slice ak nk ck) p.dv)(hp:kZ w (.slice ap np cp) p.cU)(hi:nP w (.slice ai ni ci) ins)(hni:ni=ins.length)(hok:jU ins n=true){V:St}(hV:run p n (start p ins)=V):
  zC 6 #[.agg #[.slice ak nk ck,.slice ap np cp],.slice ai ni ci,zI (n:Int)] w λe w'=>zB w w'/\∃u1 u2,e=.returned (.agg #[zI V.dw,u1,u2,zI (V.dz:Int),zI (V.iq:Int)])/\nP w' u1 (V.dn.map qP)/\AB w' u2 (qP V.lu):=by
 have HC:=cO CK;have HN:=cO (λ(X:World) (hX:zB w X)=>sT (n:=(n:Int)) (hi.below hX) hni);rw[hok]at HN;have ok2:(0<=(n:Int)/\(n:Int)<=100000/\ins.length<=1000/\∀x∈ins,x.length<=5000):=by simpa[jU]using hok
 have HOK:=cO ok2;have hn1:n<=100000:=cM;have HK:=cO hk;have HP:=cO hp;have HIN:=cO hi;have HNI:=cO hni;have HV:=cO hV;obtain⟨Pg_,hPg⟩:∃cs:Array Value,cs=#[.slice ak nk ck,.slice ap np cp]:=⟨_,rfl⟩
 have RB:Hid (zB w ((w.alloc (.cells #[.slice ak nk ck,.slice ap np cp] 36)).alloc (.cells #[zI 0,zN,zN,zI 0,zI 0] 31))):=(ba).alloc dC _;have RL:Hid (((w.alloc (.cells #[.slice ak nk ck,.slice ap np cp] 36)).alloc (.cells #[zI 0,zN,zN,zI 0,zI 0] 31)).heap[w.heap.size+1]?=some (.cells #[zI 0,zN,zN,zI 0,zI 0] 31 (0,0))):=by have:=dJ (w.alloc (.cells #[.slice ak nk ck,.slice ap np cp] 36)) (.cells #[zI 0,zN,zN,zI 0,zI 0] 31);rw[dk]at this;exact this
 have RP:=cO ((Lc.new w (S:=λ_=>False) (λ_ h=>h.elim) #[.slice ak nk ck,.slice ap np cp] 36).alloc (.cells #[zI 0,zN,zN,zI 0,zI 0] 31));clear CK hi hni hok ok2 hk hp hV hPg;go_enter Ws,Vf;go_upto_region 3 with(first
  |(go_at_call 20;refine cA (HC _ RB) ?_;rintro e w3 ⟨rfl,b0⟩;have B0:=cO (iy RB b0);have L0:Hid (Lc (λ_=>False) w3 (w.heap.size+1) #[zI 0,zN,zN,zI 0,zI 0] 31):=⟨λh=>h,(b0.block (w.heap.size+1) (by rw[dk,dk];omega)).trans RL⟩;have P0:=cO (RP.kept (Kp.cY b0));clear b0)
  |(go_at_call 21;refine cA (HN _ B0) ?_;rintro e w0 ⟨rfl,rfl⟩))
 have p0:=P0.cell (j:=0) rfl;have p1:=P0.cell (j:=1) rfl;clear RB RL RP HC HN;go_upto_region 4 with fail;refine dx λw1 hw1=>?_;obtain⟨H,hH⟩:=eX (⟨.slice ak nk ck,.slice ap np cp,.slice ai ni ci,mO,mO⟩:Hd);have HH:=cO hH;have S1:Hid (Sp w0.heap.size w0.heap.size (SV ins) (λ_=>⟨mO,0,[]⟩) H (false,v0) w1):=hw1▸hH▸Sp.SC ins _ w0;have B1:Hid (zB w0 w1):=hw1▸ba;clear hw1 hH p0 p1;obtain⟨i0,hi0,hz0,hz1,hz2⟩:=fQ I8;obtain⟨j0,hj0,hy0,hy1,hy2⟩:=fQ EG;have c6:=S1.eA (j:=6) (u:=zN) rfl;refine qJ 7 ?_;simp only[List.take,List.drop];go_wp2;refine gJ λw2 hw2=>?_;have B2:Hid (zB w1 w2):=hw2▸ba;have HN2:Hid (∀j u,(cc mO ⟨[],1,v0,0,0,0⟩)[j]?=some u->w2.cell? (((zA w1.heap.size 0):Addr).add j)=some u):=by rw[hw2];intro j u hu;rw[iK,dU];exact Lc.cell (S:=λ_=>False) (cs:=(cc mO ⟨[],1,v0,0,0,0⟩).toArray) ⟨λh=>h,dJ w1 _⟩ (by simpa using hu)
 clear hw2 c6;refine eI rfl _ _ _ rfl 61 i0 (.agg #[zN,zI 0,zI 0,zI 0,zT,zI 0,zI 0,zI 0]) 8 88 WS hi0 hz0 hz1 hz2 rfl cM w0.heap.size none 0 0 [] rfl (fD _ _ _ _) (some (zA w1.heap.size 0)) 1 1 (cc mO ⟨[],1,v0,0,0,0⟩) rfl rfl (λ_=>⟨_,rfl,HN2⟩) (by intro u hu;simp only[cc,vc,sv,ey,eB,eQ,eh,iw]at hu;obtain rfl|rfl|rfl|rfl|rfl|rfl|rfl|rfl:=hu<;>rfl) (by unfold maxLen;omega) cM (cV B1.size B2.size) ?_;intro av' cv' w3 hA;have TD:=cO ((S1.below B2).Jh (k:=⟨[],1,v0,0,0,0⟩) rfl (av:=none) (n:=0) (cv:=0) (n':=1) rfl rfl hA);have S3:=cO ((fI.below (row:=none) B2).grown hA.jz);have c6:=S3.cell (S1.eA (j:=6) (u:=zN) rfl) dC;have f6:=(dA (a:=(zA w0.heap.size 6)) (S3.block w0.heap.size S1.lt dC)).trans (S1.out.free 6);clear hA;go_upto_region 5 with fail;clear c6 f6 S3;refine dx λw4 hw4=>?_;obtain⟨R4,s4,k4⟩:=TD.out;rw[<-hw4]at s4 k4;have S4:=cO s4;have B4:=cO (B1.out.trans (((Kp.cY B2.out).trans k4).below B1.out.size (λk hk=>Ft.from S1.out (cE _) hk)));clear s4 k4 hw4 TD B2 HN2;obtain⟨W1,hW1⟩:=eX ({SV ins with cS:=(SV ins).cS++[⟨[],1,v0,0,0,0⟩]}:St);have HW1:=cO hW1;rw[<-hW1]at S4;clear hW1;obtain⟨av,cv,hav⟩:=S4.eH.sliced (iW (W:=W1));have n3:(R4 (3,0,0)).n=0:=by rw[S4.ij _ iW,HW1];rfl
 rw[n3]at hav;have HAV:=cO hav;have HO:Hid (∀X,Sp w0.heap.size w0.heap.size W1 R4 H (false,v0) X->X.ownsRow w0.heap.size 64 2 (.slice av 0 cv) 0 (R4 (3,0,0)).cs):=by intro X hX;have:=hX.eH.own _ (iW (W:=W1));rw[hav,n3]at this;exact this
 have c5:=S4.eA (j:=5) (u:=(R4 (3,0,0)).v) rfl;rw[hav]at c5;have HG:=cO (Dc S4 iW);clear hav n3;refine qJ 7 ?_;simp only[List.take,List.drop];go_wp2;refine gJ λw5 hw5=>?_;have B5:Hid (zB w4 w5):=hw5▸ba;have HN5:Hid (∀j u,([zI 0,zN]:List Value)[j]?=some u->w5.cell? (((zA w4.heap.size 0):Addr).add j)=some u):=by rw[hw5];intro j u hu;rw[iK,dU];exact Lc.cell (S:=λ_=>False) (cs:=#[zI 0,zN]) ⟨λh=>h,dJ w4 _⟩ (by simpa using hu)
 clear hw5 c5;refine eI rfl _ _ _ rfl 64 j0 (.agg #[zI 0,zN]) 2 32 WT hj0 hy0 hy1 hy2 rfl cM w0.heap.size av 0 cv (R4 (3,0,0)).cs rfl (HO _ (S4.below B5)) (some (zA w4.heap.size 0)) 1 1 [zI 0,zN] rfl rfl (λ_=>⟨_,rfl,HN5⟩) (by intro u hu;simp only[eQ,eh,iw]at hu;obtain rfl|rfl:=hu<;>rfl) (by unfold maxLen;omega) cM (cV B4.size B5.size) ?_;intro av2 cv2 w6 hA;have FD:=cO ((S4.below B5).Bb (n':=1) (p:=0) (us:=[]) (ru:=⟨mO,0,[]⟩) (B:=w4.heap.size) (λc j hc hj hg=>by
   rw[HW1]at hc hj;have:c=0:=by have hc:c<1:=hc;omega
   subst this;exact absurd hj (dT _)) B4.size (λk hk=>Ft.lt S4 hk) (fD _ _ _ _) rfl rfl HAV (by rw[HW1];rfl) hA)
 have K6:Hid (Kp (Ft w0.heap.size W1 R4) (Ft w0.heap.size W1 R4) w4 (w6.setCell (zA w0.heap.size 5) (.slice av2 1 cv2))):=(Kp.cY B5).trans ((Kp.grown hA.jz (λb hb _=>Ft.rE iW (HAV▸hb)) (λb hb=>.inl hb)).trans (Kp.setCell _ Ft.nj));have S6:=cO ((fI.below (row:=(R4 (3,0,0)).v.ownBlock) B5).grown (HAV▸hA.jz));have c5:=S6.cell (S4.eA (j:=5) (u:=(R4 (3,0,0)).v) rfl) HG;rw[HAV]at c5;have f5:=(dA (a:=(zA w0.heap.size 5)) (S6.block w0.heap.size S4.lt HG)).trans (S4.out.free 5);clear hA;go_upto_region 6 with fail;clear c5 f5 S6;refine dx λw7 hw7=>?_;obtain⟨R7,s7,_⟩:=FD.out;have K7:=K6.out;rw[<-hw7]at s7 K7;have e01:({W1 with funcs:=W1.funcs++[(0,[])]}:St)=zD ins:=by rw[HW1.out];rfl
 rw[e01]at s7;have M7:Hid (Mc w0 w0.heap.size (zD ins) R7 H (false,v0) w7):=by
  refine⟨s7,cE _,B4.out.trans (K7.below B4.out.size (λk hk=>Ft.from S4.out (cE _) hk)),?_,?_,?_⟩
  .rw[HH.out];exact HIN.out.below B0.out
  .rw[HH.out];exact⟨[],fD _ _ _ _,λk e=>(by cases e),λi hi=>absurd hi (dT _)⟩
  .rw[HH.out];exact⟨none,0,rfl,dM _,λh=>absurd h (gE _)⟩
 clear s7 K7 hw7 FD K6 e01 HAV HO HG HN5 B5 S4 B4 HW1 S1 B1;have PS:Hid (kZ w0 H.ps p.cU):=HH▸HP.below B0;have KS:Hid (lX w0 H.ks p.dv):=HH▸HK.below B0;have CAL:Hid (zC 22 #[zP w0.heap.size,.agg (zV 5 0 ⟨#[]⟩),zN,zI 0] w7 λe w'=>(∃x,e=.returned x)/\Cf w0 w0.heap.size H.ks H.ps (ok (start p ins)) w'):=
  p8 E PS 1 (zD ins) ⟨5,0,[]⟩ [] 0 R7 w7 none 0 0 (by show 3*(0+0)+0+1<=1;omega) (D0 E HOK.2.2.2) cM (by constructor<;>simp[zD,St.sz,Sz.fs]) (λv hv=>(by cases hv)) ⟨by show 0+1<=_;omega,by show 0<=_;omega,by show 0<=_;omega,by show 0<=_;omega,by show 1<=_;omega⟩ M7 (Ls.nil _ _ _) rfl cM (cE _) cM
 go_wp2_with(go_at_call 22;refine cA CAL ?_;rintro e w8 ⟨⟨x,rfl⟩,h8⟩)
 have ST:Hid (zJ p Hs (start p ins)/\Bd (start p ins)):=⟨ym E HOK.2.2.2,yo E ins⟩
 clear CAL M7;go_loopw[] (λwr=>∃W R7 H7 ev,Hid (H7.ks=H.ks/\H7.ps=H.ps/\Mc w0 w0.heap.size W R7 H7 (false,ev) wr)/\Hid (zJ p Hs W/\Bd W/\W.dz<=n/\run p (n-W.dz) W=V)) (λwr=>n-Nl (wr.cell? (zA w0.heap.size 12)))
 case atStart=>
  obtain⟨R8,H8,ev,e1,e2,M8⟩:=h8;exact⟨start p ins,R8,H8,ev,⟨e1,e2,M8⟩,ST.1,ST.2,dM _,HV⟩
 case round=>
  clear ST;obtain⟨W,R7,H7,ev,HM,HR⟩:=hrel;have MM:=cO HM.2.2;have PRX:∃a1 n1 c1,H7.pr=.slice a1 n1 c1:=by obtain⟨hs,q1,_⟩:=MM.pr;obtain⟨e,_⟩|⟨_,_,_,e,_⟩:=q1.2<;>exact⟨_,_,_,e⟩
  have ERX:∃a2 n2 c2,H7.er=.slice a2 n2 c2:=by obtain⟨ao,cap,e,_⟩:=MM.er;exact⟨_,_,_,e⟩
  obtain⟨a1,n1,c1,hpr⟩:=PRX;obtain⟨a2,n2,c2,her⟩:=ERX;have PR:=cO hpr;have ER:=cO her;have c8:=MM.sp.eA (j:=8) (u:=.bool W.oz) rfl;have c9:=MM.sp.eA (j:=9) (u:=zI W.dw) rfl;have c10:=MM.sp.eA (j:=10) (u:=H7.pr) rfl;have c11:=MM.sp.eA (j:=11) (u:=H7.er) rfl;have c12:=MM.sp.eA (j:=12) (u:=zI (W.dz:Int)) rfl;have c13:=MM.sp.eA (j:=13) (u:=zI (W.iq:Int)) rfl;rw[hpr]at c10;rw[her]at c11;have f9:=MM.sp.free 9;have KL:=cO L0.lt;have LW:=cO ((MM.mV.block _ L0.lt).trans L0.out.2);have LC:Lc (λ_=>False) wr (w.heap.size+1) #[zI 0,zN,zN,zI 0,zI 0] 31:=⟨λh=>h,LW.out⟩
  have q0:=LC.cell (j:=0) rfl;have q1:=LC.cell (j:=1) rfl;have q2:=LC.cell (j:=2) rfl;have q3:=LC.cell (j:=3) rfl;have q4:=LC.cell (j:=4) rfl;have qf:=LC.free;have ne1:¬w.heap.size+1=w0.heap.size:=by have:=KL.out;omega
  have ne2:¬w0.heap.size=w.heap.size+1:=λe=>ne1 e.symm;clear LC hpr her;cases ho:W.oz with
  |true=>
   rw[ho]at c8;obtain rfl:W=V:=by have:=HR.2.2.2;rw[Ee _ ho]at this;exact this
   have LX:=cO LW;clear ho;go_wp2;refine eS (v:=.agg #[zI W.dw,.slice a1 n1 c1,.slice a2 n2 c2,zI (W.dz:Int),zI (W.iq:Int)]) (by
   have FSa:=vL (w:=wr) LX (zI W.dw) (.slice a1 n1 c1) (.slice a2 n2 c2) (zI (W.dz:Int)) (zI (W.iq:Int));have z0:=FSa.cell (j:=0) (u:=zI W.dw) rfl;have z1:=FSa.cell (j:=1) (u:=.slice a1 n1 c1) rfl;have z2:=FSa.cell (j:=2) (u:=.slice a2 n2 c2) rfl;have z3:=FSa.cell (j:=3) (u:=zI (W.dz:Int)) rfl;have z4:=FSa.cell (j:=4) (u:=zI (W.iq:Int)) rfl;simp[results,Dv,go_sem,z0,z1,z2,z3,z4]) rfl ?_
   have hk:=λb:Nat=>(uO w.heap.size:w.heap.size<=w.heap.size+1)
   have st:=Bm MM KL LW (X:=wr) (λ_ _=>rfl) (zI W.dw) (.slice a1 n1 c1) (.slice a2 n2 c2) (zI (W.dz:Int)) (zI (W.iq:Int));refine⟨((((((B0.out.trans (MM.out.mV.mono B0.out.size)).setCell (hk 0) _).setCell (hk 0) _).setCell (hk 0) _).setCell (hk 0) _).setCell (hk 0) _),_,_,rfl,?_,?_⟩
   .have:=MM.out.pr.out st;rw[PR.out]at this;exact this
   .have:=MM.out.er.out (λb x=>.inl x) st;rw[ER]at this;exact this
  |false=>
   rw[ho]at c8;by_cases hsn:W.dz=n
   .have e7:({W with dw:=7}:St)=V:=by have:=HR.2.2.2;rw[hsn,qv,Ec ho]at this;exact this
    rw[hsn]at c12;have VE:Hid (V.dw=7/\V.dz=n/\V.iq=W.iq/\V.dn=W.dn/\V.lu=W.lu):=by rw[<-e7];exact⟨rfl,hsn,rfl,rfl,rfl⟩
    have LX:Hid ((wr.setCell (zA w0.heap.size 9) (zI 7)).heap[w.heap.size+1]?=some (.cells #[zI 0,zN,zN,zI 0,zI 0] 31 (0,0))):=(cZ _ _ _ _ ne1).trans LW;clear ho e7 hsn;go_wp2;refine eS (v:=.agg #[zI 7,.slice a1 n1 c1,.slice a2 n2 c2,zI (n:Int),zI (W.iq:Int)]) (by
    have FSa:=vL (w:=wr.setCell (zA w0.heap.size 9) (zI 7)) LX (zI 7) (.slice a1 n1 c1) (.slice a2 n2 c2) (zI (n:Int)) (zI (W.iq:Int));have z0:=FSa.cell (j:=0) (u:=zI 7) rfl;have z1:=FSa.cell (j:=1) (u:=.slice a1 n1 c1) rfl;have z2:=FSa.cell (j:=2) (u:=.slice a2 n2 c2) rfl;have z3:=FSa.cell (j:=3) (u:=zI (n:Int)) rfl;have z4:=FSa.cell (j:=4) (u:=zI (W.iq:Int)) rfl;simp[results,Dv,go_sem,z0,z1,z2,z3,z4]) rfl ?_
    rw[VE.1,VE.2.1,VE.2.2.1,VE.2.2.2.1,VE.2.2.2.2];have hk:=λb:Nat=>(uO w.heap.size:w.heap.size<=w.heap.size+1)
    have st:=Bm MM KL LW (X:=wr.setCell (zA w0.heap.size 9) (zI 7)) (λb hb=>cZ _ _ _ _ hb) (zI 7) (.slice a1 n1 c1) (.slice a2 n2 c2) (zI (n:Int)) (zI (W.iq:Int));refine⟨(((((((B0.trans (MM.out.mV.mono B0.out.size)).setCell B0.out.size _).setCell (hk 0) _).setCell (hk 0) _).setCell (hk 0) _).setCell (hk 0) _).setCell (hk 0) _),_,_,rfl,?_,?_⟩
    .have:=MM.out.pr.out st;rw[PR.out]at this;exact this
    .have:=MM.out.er.out (λb x=>.inl x) st;rw[ER]at this;exact this
   .have hlt:=Nat.lt_of_le_of_ne HR.2.2.1 hsn;have hne:¬(W.dz:Int)=(n:Int):=cM;have STP:Hid (zC 23 #[zP w0.heap.size] wr λe w'=>(∃x,e=.returned x)/\Cf w0 w0.heap.size H.ks H.ps (ok (gY p W)) w'):=by
     obtain⟨e1,e2,M⟩:=HM;obtain⟨hr,bd,_,_⟩:=HR;obtain h|⟨I,hl,hg⟩:=hr
     .rw[ho]at h;cases h
     .rw[<-e1,<-e2];exact Hf E M I hl hg bd cM (e2▸PS) (e1▸KS)
    have NXT:Hid (zJ p Hs (gY p W)/\Bd (gY p W)/\(gY p W).dz=W.dz+1/\run p (n-(gY p W).dz) (gY p W)=V):=by obtain⟨hr,bd,_,hrun⟩:=HR;have es:=uh E hr ho;refine⟨Ca E hr ho,Cb E hr ho bd,es,?_⟩;rw[show n-W.dz=(n-(W.dz+1))+1 by omega,Ed _ ho]at hrun;rw[es];exact hrun
    have CI:Hid (Nl (wr.cell? (zA w0.heap.size 12))=W.dz):=c12▸fh _;clear ho hsn;go_wp2_with(go_at_call 23;refine cA STP ?_;rintro e w9 ⟨⟨x,rfl⟩,h9⟩)
    go_roundw
    case rel=>
     obtain⟨R8,H8,ev8,e1,e2,M8⟩:=h9;exact⟨gY p W,R8,H8,ev8,⟨e1,e2,M8⟩,NXT.1,NXT.2.1,by rw[NXT.2.2.1];omega,NXT.2.2.2⟩
    case measure=>
     obtain⟨R8,H8,ev8,e1,e2,M8⟩:=h9;have:=M8.sp.eA (j:=12) (u:=zI ((gY p W).dz:Int)) rfl;have e3:Nl (w9.cell? (zA w0.heap.size 12))=W.dz+1:=by rw[this,<-NXT.2.2.1];exact fh _
     rw[e3,CI];omega
end
end rn
end Go.Proofs.YtfpkdfeakanlpaaGreatDoor
