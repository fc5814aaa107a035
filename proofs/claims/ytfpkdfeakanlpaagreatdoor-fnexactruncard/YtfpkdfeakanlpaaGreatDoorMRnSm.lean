import Derived.Deep.Cut
import Derived.Test.YtfpkdfeakanlpaaGreatDoorMRnSimE
set_option linter.all false
set_option maxRecDepth 100000
set_option maxHeartbeats 8000000
namespace Go.Proofs.YtfpkdfeakanlpaaGreatDoor
open Go.Proofs.Tryz
namespace rn
open RowKit bts pg chk
variable{rz:Bool×Vl}{H H':Hd}{cW q:Int}{i:List Vl}{F cJ g sn uc un:Nat}{Hs:Nat→List Int}{sa ua:Option Addr}{p:Pg}{U V:St}{R R':eO→fW}{w w0 w1:World}
def Ls.Pu{S:Nat->Prop}{z:Sz}{bl off:Nat}(h:Ls S w (some ⟨bl,off,none⟩) i)(F:∀v∈i,gG z v)(j:Nat)(I:j<i.length):∃y D,y=i.getD j v0/\Hid (y=i.getD j v0)/\Hid (vv y=.agg #[.int .i64 y.k,.int .i64 y.n,.string D])/\Hid (vc y=[.int .i64 y.k,.int .i64 y.n,.string D])/\Hid (gG z y)/\w.cell? ⟨bl,off+j*3,none⟩=some (.int .i64 y.k)/\w.cell? ⟨bl,off+j*3+1,none⟩=some (.int .i64 y.n)/\w.cell? ⟨bl,off+j*3+2,none⟩=some (.string D):=
 have⟨D,J,E,_⟩:=qn (i.getD j v0)
 ⟨i.getD j v0,D,rfl,rfl,J,E,iR F j,h.one I rfl E⟩
def Sp.QQ(h:Sp cJ g V R H rz w)(E:mz p Hs)(t:pM p Hs V.sz V.db q)(K:V.cQ<V.cS.length)(lV:0<V.co.cy.length)(D:V.db.guard=false){sc:Nat}(J:(R (7,V.cQ,V.co.cy.length-1)).v=.slice sa sn sc)(ha:(F:Int)<(p.cU.getD V.db.eR gu).da):∃sb sl,sa=some ⟨sb,0,none⟩/\sl=V.db.da.getD F 0/\sl<V.vars.length/\F<sn/\sn<=1000000/\w.cell? ⟨sb,F,none⟩=some (.int .i64 (sl:Nat)):=by
 obtain⟨m,L⟩:∃m,V.co.cy.length=m+1:=⟨V.co.cy.length-1,cM⟩
 have I:F<V.db.da.length:=by rw[t.da D];omega
 obtain⟨sb,c,M,O,_⟩:=h.SU K L D I;rw[show V.co.cy.length-1=m by omega,M]at J;simp only[de]at J;obtain⟨rfl,aa,_⟩:=J;exact⟨sb,_,rfl,rfl,mG (P:=λx=>x<V.vars.length) (t.um D) I,cM,by have:=(E.jZ.1.2.2.1 _ (t.eR D)).2.2.1;have:=t.da D;omega,O⟩
def Sp.V8(h:Sp cJ g V R H rz w)(E:mz p Hs)(t:pM p Hs V.sz V.db q)(D:V.db.guard=false)(L:(R (5,V.db.fn,0)).v=.slice ua un uc)(ha:(F:Int)<((p.cU.getD V.db.eR gu).fP.length:Int)):∃sb sl,ua=some ⟨sb,0,none⟩/\sl=V.db.oo.getD F 0/\sl<V.vars.length/\F<un/\un<=1000000/\w.cell? ⟨sb,F,none⟩=some (.int .i64 (sl:Nat)):=by
 have M:V.db.fn<V.funcs.length:=(t.fn D).1;have I:V.funcs.getD V.db.fn (0,[])=(V.db.eR,V.db.oo):=(t.fn D).2;have J:F<V.db.oo.length:=by rw[t.oo D];omega
 obtain⟨sb,c,O,c7,_⟩:=h.Wa M (a:=F) (by rw[I];exact J);rw[I]at O c7;rw[O]at L;simp only[de]at L;obtain⟨rfl,K,_⟩:=L;replace K:V.db.oo.length=un:=K;exact⟨sb,_,rfl,rfl,mG (P:=λx=>x<V.vars.length) (t.up D) J,cM,by have:=(E.jZ.1.2.2.1 _ (t.eR D)).2.2.2.1;have:=t.oo D;omega,c7⟩
def Sp.Il(h:Sp cJ g V R H rz w){sl:Nat}(K:sl<V.vars.length):∃E D n y J,y=V.vars.getD sl v0/\vv y=.agg #[.int .i64 y.k,.int .i64 y.n,.string J]/\(R (0,0,0)).v=.slice (some ⟨E,0,none⟩) V.vars.length D/\w.cell? ⟨g,3,none⟩=some (.slice (some ⟨E,0,none⟩) n D)/\w.cell? ⟨E,sl*3,none⟩=some (.int .i64 y.k)/\w.cell? ⟨E,sl*3+1,none⟩=some (.int .i64 y.n)/\w.cell? ⟨E,sl*3+2,none⟩=some (.string J)/\(sl:Int)<(n:Int)/\Ft g V R E/\∀r,w.frozen? ⟨E,r,none⟩=false:=by obtain⟨E,D,I,F,L,M⟩:=h.Vr K;obtain⟨J,O,aa,_⟩:=qn (V.vars.getD sl v0);rw[aa]at F;exact⟨E,D,_,_,J,rfl,O,I,(h.eA (j:=3) rfl).trans (by rw[I]),F 0 cM,F 1 cM,F 2 cM,cM,L,M⟩
def GF(E:mz p Hs)(h:Sp w0.heap.size g U R H rz w)(hlow:w0.heap.size<=g)(hbel:zB w0 w)(hn:U.cQ<U.cS.length)(hl:0<U.co.cy.length)(hg:U.db.guard=false)(hb:U.db.ops.length<=1000000000){n:Nat}(hle:n<=U.db.ops.length)(hV:U.dZ n=V)(hi:U.taken n=i){op a b:Int}(nV:V.cQ<V.cS.length)(I:op≠18->Iv p Hs V cW)(hv:∀v∈i,gG V.sz v)(X:Xf p (p.cU.getD V.db.eR gu) ⟨op,a,b⟩){N:Nat}(xk:Fw N ⟨op,a,b⟩)(hnx:jq ⟨op,a,b⟩=n)(hP:kZ w0 H.ps p.cU)(hK:lX w0 H.ks p.dv)(hvb:V.vars.length<=100000000)(hfb:V.funcs.length<=1000000000)(htb:V.tables.length<=1000000000)(hpb:∀j,(V.tables.getD j []).length<=1000000000){sc:Nat}{q0 q1 q2 q3 q6:Value}(eu:(R (5,U.db.fn,0)).v=.slice ua un uc)(es:(R (7,U.cQ,U.co.cy.length-1)).v=.slice sa sn sc)(hop:op≠22/\op≠23/\op≠24):
  zC 52 #[zP g,.agg #[q0,q1,q2,q3,.slice ua un uc,.slice sa sn sc,q6],.agg (zW op a b)] w λe w'=>(∃x,e=.returned x)/\Fx w0.heap.size g U R H rz w (ew p V ⟨op,a,b⟩ i) w':=by
 have tV:=kT hn hl n;rw[hV]at tV;obtain⟨v1,v2,v3,v4⟩:=tV;have HI:=cO I;have lV:0<V.co.cy.length:=v3▸hl;have gV:V.db.guard=false:=v4▸hg;have bV:V.db.ops.length<=1000000000:=by rw[v4];show(U.db.ops.take _).length<=_;rw[dX];omega
 have il:i.length=n:=by rw[<-hi];show(U.db.ops.drop _).length=_;rw[eZ];omega
 obtain⟨lz,hlz⟩:∃z,z=qK ⟨op,a,b⟩:=⟨_,rfl⟩
 have C:Hid (∀X,zC 76 #[.agg (zW op a b)] X (zR X (.tuple #[zI (n:Int),zI lz]))):=λX=>by rw[<-hnx,hlz];exact wR ⟨op,a,b⟩ N xk X
 have TK:Hid (∀X,Sp w0.heap.size g U R H rz X->zC 49 #[zP g,zI n] X λe w'=>∃ao co R',e=.returned (.slice ao n co)/\n<=co/\co<=9223372036854775807/\Ls (Ft g V R') w' ao i/\Sp w0.heap.size g V R' H rz w'/\zL g U R V R' X w'/\∀u,u≠(8,U.cQ,U.co.cy.length-1)->(R' u).v=(R u).v):=λX hX=>by have:=rO hX hn hl hg hb n hle;rw[hV,hi]at this;exact this
 have HW:=cO (λk (hk:Ft g U R k)=>Ft.lt h hk);have HE:=cO h;have HFB:=cO (λk (hk:Ft g U R k)=>Ft.from h hlow hk);have hB:w0.heap.size<=w.heap.size:=hbel.size;have GB:=cO hbel;have HX:=cO X;have HP:=cO hP;have HK:=cO hK;have HPB:=cO hpb;have HNX:=cO hnx;have HOP:Hid ((op=1\/op=2\/op=3\/op=4)\/op=25\/op=11\/(op=0\/op=18\/op=10\/(op=26\/op=27)\/op=5\/op=8)\/(op=16\/op=17\/op=19\/op=6\/op=9\/op=7\/op=20\/op=21)\/(op=13\/op=15)\/op=12\/op=14):=by have h1:0<=op:=X.lo;have h2:op<=27:=X.hi;show _\/_;omega
 have HVO:=cO hv;have HIL:=cO il;have HEU:Hid ((R (5,V.db.fn,0)).v=.slice ua un uc):=v4▸eu;have HES:Hid ((R (7,V.cQ,V.co.cy.length-1)).v=.slice sa sn sc):=by rw[v1,v3];exact es
 have NV:=cO nV;have LV:=cO lV;have GV:=cO gV;have BV:=cO bV;have hn53:n<=53:=by have:=xk.AK;omega
 clear hop h hlow hbel hn hl hg hb hle hV hi I hv X xk hnx hP hK hpb eu es v1 v2 v3 v4 hlz il nV lV gV bV;go_enter func52,ntmps52;go_upto_region 3 with(first
  |(go_at_call 76;refine cA (C _) ?_;rintro e w3 ⟨rfl,b3⟩;have B3:Hid (zB w w3):=((ba).alloc dC _).trans (b3.mono ti);have LF3:=cO (((Lc.new w HW #[q0,q1,q2,q3,.slice ua un uc,.slice sa sn sc,q6] 111).alloc (.cells (zW op a b) 105)).kept (Kp.cY b3));have LX3:=(Lc.new (S:=Ft g U R) (w.alloc (.cells #[q0,q1,q2,q3,.slice ua un uc,.slice sa sn sc,q6] 111)) (λk hk=>by have:=HW k hk;simp only[dk];omega) (zW op a b) 105).kept (Kp.cY b3);rw[dk]at LX3;replace LX3:=cO LX3;clear b3)
  |(go_at_call 49;refine cA (TK _ (HE.below B3)) ?_;rintro e w5 ⟨ao,co,R5,rfl,hco,Wj,l5,e5,k5,r5⟩;have L5:=cO l5;have E5:=cO e5;have LF5:=cO (LF3.kept k5);have LX5:=cO (LX3.kept k5);have K5:=(Kp.cY B3).trans k5;have BW5:=cO (GB.trans (((Kp.cY B3).trans k5).below hB HFB));have EU5:=cO ((r5 _ dC).trans HEU);have ES5:=cO ((r5 _ dC).trans HES);have hB5:w0.heap.size<=w5.heap.size:=cV hB K5.size;clear l5 e5 k5 r5 TK C LF3 LX3 B3))
 have OPD:=cO (λ(v:Vl) (X:World) {rz':Bool×Vl} (hX:Sp w0.heap.size g V R5 H rz' X) (hb:w0.heap.size<=X.heap.size)=>nG hX hb NV LV GV BV v);have x0:=LX5.cell (j:=0) rfl;obtain hop|rfl|rfl|hop|hop|hop|rfl|rfl:=HOP
 .obtain rfl|rfl|rfl|rfl:=hop
  .go_wp2_with(go_at_call 83;refine cA (OPD (v0) _ E5 hB5) ?_;rintro e w7 ⟨⟨x,rfl⟩,R7,h7,k7,_⟩;have K7:=(K5).trans k7)
   go_returns;exact⟨⟨_,rfl⟩,jN TM h7 K7⟩
  .go_wp2_with(go_at_call 83;refine cA (OPD (bv true) _ E5 hB5) ?_;rintro e w7 ⟨⟨x,rfl⟩,R7,h7,k7,_⟩;have K7:=(K5).trans k7)
   go_returns;exact⟨⟨_,rfl⟩,jN TL h7 K7⟩
  .go_wp2_with(go_at_call 83;refine cA (OPD (bv false) _ E5 hB5) ?_;rintro e w7 ⟨⟨x,rfl⟩,R7,h7,k7,_⟩;have K7:=(K5).trans k7)
   go_returns;exact⟨⟨_,rfl⟩,jN TJ h7 K7⟩
  .have x1:=LX5.cell (j:=1) rfl;go_wp2_with(go_at_call 83;refine cA (OPD (⟨6,a,[]⟩) _ E5 hB5) ?_;rintro e w7 ⟨⟨x,rfl⟩,R7,h7,k7,_⟩;have K7:=(K5).trans k7)
   go_returns;exact⟨⟨_,rfl⟩,jN TI h7 K7⟩
 .go_wp2;go_returns;exact⟨⟨_,rfl⟩,jN QG E5 K5⟩
 .obtain⟨av,cv,hav⟩:=E5.eH.sliced (iT (W:=V));have n1:(R5 (1,0,0)).n=V.tables.length:=E5.ij _ iT;obtain⟨nt,hnt⟩:∃z,z=V.tables.length:=⟨_,rfl⟩
  rw[n1,<-hnt]at hav;have g4:zE w5 g 4 (.slice av nt cv):=by have:=E5.eA (j:=4) (u:=(R5 (1,0,0)).v) rfl;rwa[hav]at this
  have HAV:=cO hav;have HNT:=cO hnt;have HO:Hid (∀X,Sp w0.heap.size g V R5 H rz X->X.ownsRow w0.heap.size 208 1 (.slice av nt cv) nt (R5 (1,0,0)).cs):=by intro X hX;have:=hX.eH.own _ (iT (W:=V));rw[hav,n1,<-hnt]at this;exact this
  have hnt2:nt<=1000000000:=cM;obtain⟨i0,hi0,hz0,hz1,hz2⟩:=fQ Hm;obtain⟨V2,hV2⟩:=eX ({V with tables:=V.tables++[[]]});have HV2:=cO hV2;have OP2:=cO (λ(X:World) (R6:eO->fW) (hX:Sp w0.heap.size g V2 R6 H rz X) (hb:w0.heap.size<=X.heap.size)=>nG hX hb (hV2▸NV) (hV2▸LV) (hV2▸GV) (hV2▸BV) ⟨4,nt,[]⟩);have RES:Hid (ew p V ⟨11,a,b⟩ i=ok (V2.ee [⟨4,nt,[]⟩])):=by show ew p V _ i=_;rw[QO,hV2,hnt]
  have HG:=cO (Dc E5 iT);clear hV2 hnt hav n1 htb;go_upto_region 26 with fail;refine qJ 6 ?_;simp only[List.take,List.drop];go_wp2;refine gJ λw6 hw6=>?_;have b6:Hid (zB w5 w6):=hw6▸ba;have HN3:Hid (∀j u,([zN]:List Value)[j]?=some u->w6.cell? (((zA w5.heap.size 0):Addr).add j)=some u):=by rw[hw6];intro j u hu;rw[iK,dU];exact Lc.cell (S:=λ_=>False) (cs:=#[zN]) ⟨λh=>h,dJ w5 _⟩ (by simpa using hu)
  clear hw6 g4;refine eI rfl _ _ _ rfl 208 i0 (zN) 1 24 underlying52 hi0 hz0 hz1 hz2 rfl cM w0.heap.size av nt cv (R5 (1,0,0)).cs rfl (HO _ (E5.below b6)) (some (zA w5.heap.size 0)) 1 1 [zN] rfl rfl (λ_=>⟨_,rfl,HN3⟩) (by intro u hu;simp only[eQ,eh,iw]at hu;subst hu;rfl) (by unfold maxLen;omega) cM (cV hB5 b6.size) ?_;intro av' cv' w7 hA;have TD:=cO ((E5.below b6).Gs HAV (by rw[HNT]) hA);have S7:=cO ((fI.below (row:=(R5 (1,0,0)).v.ownBlock) b6).grown (HAV▸hA.jz));have c4:=S7.cell (E5.eA (j:=4) (u:=(R5 (1,0,0)).v) rfl) HG;rw[HAV]at c4;have f4:w7.frozen? (zA g 4)=false:=(dA (a:=(zA g 4)) (S7.block g E5.lt HG)).trans (E5.free 4);rw[<-HV2]at TD;clear hA;go_wp2_with(go_at_call 83;obtain⟨R6,h6,k6⟩:=TD;refine cA (OP2 _ _ h6 (cV hB ((K5.trans (Kp.cY b6)).trans k6).size)) ?_;rintro e w8 ⟨⟨x,rfl⟩,R7,h7,k7,_⟩;have K7:=cO (((K5.trans (Kp.cY b6)).trans k6).trans k7))
  go_returns;exact⟨⟨_,rfl⟩,jN RES h7 K7⟩
 .obtain rfl|rfl|rfl|ho|rfl|rfl:=hop;all_goals
   have ka:=jy HX.a;obtain⟨an,rfl⟩:∃an:Nat,a=an:=⟨a.toNat,by have q:0<=a:=ka.1;omega⟩
   have x1:=LX5.cell (j:=1) rfl
  .have ka2:(an:Int)<(p.dv.length:Int):=ka.2.2;obtain⟨ak,ck,ek,hkm,rk⟩:=HK;obtain⟨cb,coff,ut,eak,c0,c1,c2,rdv⟩:=rk an cM;subst eak;obtain⟨c,hc⟩:=eX (p.dv.getD an mU);rw[<-hc]at c0 c1 rdv;have c0:=di c0 BW5;have c1:=di c1 BW5;have c2:=di c2 BW5;have g0:zE w5 g 0 (.slice (some (zA cb coff)) p.dv.length ck):=by
    have:=E5.eA (j:=0) (u:=H.ks) rfl;rwa[ek]at this
   obtain⟨nk,hnk⟩:∃z,z=p.dv.length:=⟨_,rfl⟩
   rw[<-hnk]at g0 ka2 hkm;obtain⟨u,hu⟩:=eX (iU c);obtain⟨us,eu,q1_,q2_⟩:=qn u;clear q1_ q2_;have CST:=cO (λ(X:World) (hX:zB w0 X)=>EC c (rdv.below hX));rw[<-hu,eu]at CST;have OP:=cO (λ(X:World) (hX:Sp w0.heap.size g V R5 H rz X) (hb:w0.heap.size<=X.heap.size)=>OPD u X hX hb);rw[eu]at OP;have RES:Hid (ew p V ⟨0,(an:Int),b⟩ i=ok (V.ee [u])):=by rw[hu,hc];exact TO
   generalize c.pB=ct at*;generalize c.n=cn at*;obtain⟨S,hS⟩:=eX (fI w5 none);have y0:=Wd.cn hS c0;have y1:=Wd.cn hS c1;have y2:=Wd.cn hS c2;have y3:=Wd.cn hS g0;have y4:=Wd.cn hS x1;have HS:=cO hS;clear hS c0 c1 c2 g0 x1 hu eu hc hnk ka rk ek rdv;haveI:=pz HS;go_wp2_with fail;refine uq S 10 1 (HS▸(fI.refl _ _).drew) ?_;simp only[List.take,List.drop];repeat(go_big_quiet_step(fail))
   refine wpQuiet_nil ?_;refine dI ?_;clear y0 y1 y2 y3 y4;go_wp2_with(go_at_call 84;refine cA (CST _ BW5.drew) ?_;rintro e w6 ⟨rfl,b6⟩;have b6:Hid (zB w5 w6):=(cN _ _).drew.trans b6)
   refine⟨HS▸fI.below b6,?_⟩;refine ej ?_;go_wp2_with(go_at_call 83;refine cA (OP _ (E5.below b6) (cV hB5 b6.size)) ?_;rintro e w7 ⟨⟨x,rfl⟩,R7,h7,k7,_⟩;have K7:=(K5.trans (Kp.cY b6)).trans k7)
   go_returns;exact⟨⟨_,rfl⟩,jN RES h7 K7⟩
  .go_wp2_with(go_at_call 90;refine cA (oG E5 NV LV an) ?_;rintro e w7 ⟨⟨x,rfl⟩,R7,h7,k7,_⟩;have K7:=(K5).trans k7)
   go_returns;exact⟨⟨_,rfl⟩,jN QK h7 K7⟩
  all_goals
   have t:=(HI cM).kI LV;obtain⟨m,hm⟩:∃m,V.co.cy.length=m+1:=⟨V.co.cy.length-1,by have:=LV.out;omega⟩
  .have ka2:(an:Int)<(p.cU.length:Int):=ka.2.2;have hff:V.db.fn<V.funcs.length:=(t.fn GV).1;have hfe:V.funcs.getD V.db.fn (0,[])=(V.db.eR,V.db.oo):=(t.fn GV).2;have cap:∀c∈(p.cU.getD an gu).fP,me (p.cU.getD V.db.eR gu) c=true:=HX.fP rfl;have fit:=E.jZ.1.2.2.1 an cM;have fit0:=E.jZ.1.2.2.1 _ (t.eR GV);have hfs:Vd V:=λc j hc hj hg=>(HI cM).Wm hc hj hg;have eu5:=EU5;have es5:=ES5;rw[show V.co.cy.length-1=m by omega]at es5;have hun:un=V.db.oo.length:=by
    have q:=E5.ij _ (vC hff);have q2:=E5.eH.sliced (vC hff);obtain⟨qa,qc,qe⟩:=q2;rw[eu5]at qe;simp only[de]at qe;rw[qe.2.1,q];show(V.funcs.getD V.db.fn (0,[])).2.length=_;rw[hfe]
   have hsn:sn=V.db.da.length:=by
    have e1:V.co.cy.length-1=m:=cM;have T7:=qZ (W:=V) NV (j:=m) (by show m<V.co.cy.length;omega) (by rw[<-e1];exact GV);have q:(R5 (7,V.cQ,m)).n=V.db.da.length:=by have:=E5.ij _ T7;rw[<-e1]at this|-;exact this
    obtain⟨qa,qc,qe⟩:=E5.eH.sliced T7;rw[es5]at qe;simp only[de]at qe;rw[qe.2.1,q]
   have MK:=cO (Hh (p:=p) (q0:=q0) (q1:=q1) (q2:=q2) (q3:=q3) (q6:=q6) (uc:=uc) (sc:=sc) (us:=V.db.oo) (sl:=V.db.da) (ua:=ua) (sa:=sa) (un:=un) (sn:=sn) E5 hB5 hfs hfb (pi:=an) cM rfl (HP.below BW5) (by have:=fit.2.2.2.1;omega) (by rw[hun,t.oo GV];have:=fit0.2.2.2.1;omega) (by rw[hsn,t.da GV];have:=fit0.2.2.1;omega) (by
    intro k hk;have co:=cap ((p.cU.getD an gu).fP.getD k lY) (by generalize(p.cU.getD an gu).fP=L at hk|-;rw[cB,cG hk];exact fA hk);have fk:=fit.2.2.2.2.2 k hk;generalize(p.cU.getD an gu).fP.getD k lY=c at co fk;refine⟨c.index.toNat,?_⟩;unfold me at co;by_cases u:c.up=true
    .rw[cR u]at co;have co:=iC co;obtain⟨b',c',e',l',_⟩:=E5.Wa hff (a:=c.index.toNat) (by rw[hfe];show _<V.db.oo.length;rw[t.oo GV];omega);rw[eu5]at e';simp only[de]at e';rw[hfe]at l';refine⟨b',cM,?_,.inl ⟨u,e'.1,by rw[hun,t.oo GV];omega⟩⟩;unfold tS;rw[cR u];exact l'
    .rw[cK u]at co;have co:=iC co;obtain⟨b',c',e',l',_⟩:=E5.SU NV hm GV (a:=c.index.toNat) (by rw[t.da GV];omega);rw[es5]at e';simp only[de]at e';refine⟨b',cM,?_,.inr ⟨by simpa using u,e'.1,by rw[hsn,t.da GV];omega⟩⟩;unfold tS;rw[cK u];exact l'))
   obtain⟨V2,hV2⟩:=eX ({V with funcs:=V.funcs++[(an,(p.cU.getD an gu).fP.map (tS V.db.oo V.db.da))]});rw[<-hV2]at MK;obtain⟨nf,hnf⟩:∃z,z=V.funcs.length:=⟨_,rfl⟩
   rw[<-hnf]at MK;have OP2:=cO (λ(X:World) (R6:eO->fW) (hX:Sp w0.heap.size g V2 R6 H rz X) (hb:w0.heap.size<=X.heap.size)=>nG hX hb (hV2▸NV) (hV2▸LV) (hV2▸GV) (hV2▸BV) ⟨5,nf,[]⟩);have RES:Hid (ew p V ⟨10,(an:Int),b⟩ i=ok (V2.ee [⟨5,nf,[]⟩])):=by show ew p V _ i=_;rw[QP,hV2,hnf];rfl
   have f0:=LF5.cell (j:=0) rfl;have f1:=LF5.cell (j:=1) rfl;have f2:=LF5.cell (j:=2) rfl;have f3:=LF5.cell (j:=3) rfl;have f4:=LF5.cell (j:=4) rfl;have f5:=LF5.cell (j:=5) rfl;have f6:=LF5.cell (j:=6) rfl;clear t hm ka ka2 hff hfe cap fit fit0 hfs eu5 es5 hun hsn hV2 hnf hfb;go_wp2_with(first
    |(go_at_call 85;refine cA MK ?_;rintro e w6 ⟨rfl,R6,h6,k6⟩;have K6:=K5.trans k6)
    |(go_at_call 83;refine cA (OP2 _ _ h6 (cV hB K6.size)) ?_;rintro e w7 ⟨⟨x,rfl⟩,R7,h7,k7,_⟩;have K7:=K6.trans k7))
   go_returns;exact⟨⟨_,rfl⟩,jN RES h7 K7⟩
  .have kb:=jy HX.b;have kb0:0<=b:=kb.1;obtain⟨bn,rfl⟩:∃bn:Nat,b=bn:=⟨b.toNat,cM⟩
   clear kb0;have ka2:(an:Int)<(p.cU.getD V.db.eR gu).da-2:=by obtain rfl|rfl:=ho<;>exact ka.2.2
   have hal:an+2<V.db.da.length:=by rw[t.da GV];omega
   have hsl:∀q,q<=2->V.db.da.getD (an+q) 0<V.vars.length:=λq hq=>mG (P:=λx=>x<V.vars.length) (t.um GV) cM;obtain⟨sb,sc',e7,_,_⟩:=E5.SU NV hm GV (a:=an) cM;have es5:=ES5;rw[show V.co.cy.length-1=m by omega,e7]at es5;simp only[de]at es5;obtain⟨rfl,hsn,rfl⟩:=es5;have hsb:sn<=1000000:=by have:=(E.jZ.1.2.2.1 _ (t.eR GV)).2.2.1;have:=t.da GV;omega
   obtain⟨r,hr,SZ⟩:=GD p V ⟨op,an,bn⟩ i ho;have RES:=cO SZ;have FO:=cO (λ(X:World) (hX:Sp w0.heap.size g V R5 H rz X)=>P7 (q0:=q0) (q1:=q1) (q2:=q2) (q3:=q3) (q4:=.slice ua un uc) (q6:=q6) (sb:=sb) (sc:=sc') (to:=bn) hX NV LV GV hal hsn.symm (λm' hm'=>by rw[show m'=m by omega,e7,hsn]) cM hsl hr);have f0:=LF5.cell (j:=0) rfl;have f1:=LF5.cell (j:=1) rfl;have f2:=LF5.cell (j:=2) rfl;have f3:=LF5.cell (j:=3) rfl;have f4:=LF5.cell (j:=4) rfl;have f5:=LF5.cell (j:=5) rfl;have f6:=LF5.cell (j:=6) rfl;have x2:=LX5.cell (j:=2) rfl;clear t hm ka kb ka2 hal hsl e7 hsn hr SZ;cases r with
   |some V2=>
    unfold Oq at FO;dsimp only at FO;obtain rfl|rfl:=ho;all_goals
     go_wp2_with(go_at_call 91;refine cA (FO _ E5) ?_;rintro e w7 ⟨⟨x,rfl⟩,R7,h7,k7⟩;have K7:=K5.trans k7)
     go_returns;exact⟨⟨_,rfl⟩,jN RES h7 K7⟩
   |none=>
    unfold Oq at FO;dsimp only at FO;obtain rfl|rfl:=ho;all_goals
     go_wp2_with(go_at_call 91;refine cA (FO _ E5) ?_;rintro e w7 ⟨⟨x,rfl⟩,h7,k7⟩;have K7:=K5.trans k7)
     go_returns;exact⟨⟨_,rfl⟩,IB RES h7 K7⟩
  all_goals
   first
    |(obtain⟨sb,sl,rfl,hsl,hsv,hal,hsb,c7⟩:=E5.QQ E t NV LV GV ES5 ka.2.2;obtain⟨vb,vcap,nv_,y,ys,hy,ey1,hvv,g3,z0,z1,z2,hs',hvF,hvf⟩:=E5.Il hsv;have f5:=LF5.cell (j:=5) rfl;have RES:Hid (ew p V ⟨5,(an:Int),b⟩ i=ok (V.ee [y])):=(by rw[hy,hsl];exact TG))
    |(obtain⟨sb,sl,rfl,hsl,hsv,hal,hsb,c7⟩:=E5.V8 E t GV EU5 ka.2.2;obtain⟨vb,vcap,nv_,y,ys,hy,ey1,hvv,g3,z0,z1,z2,hs',hvF,hvf⟩:=E5.Il hsv;have f5:=LF5.cell (j:=4) rfl;have RES:Hid (ew p V ⟨8,(an:Int),b⟩ i=ok (V.ee [y])):=(by rw[hy,hsl];exact TC))
   have ha':=xm.2 hal;have OP:=cO (λ(X:World) (hX:Sp w0.heap.size g V R5 H rz X) (hb:w0.heap.size<=X.heap.size)=>OPD y X hX hb);rw[ey1]at OP;clear t hm ka hsl hvv hsv hy ey1 hvF hvf;go_wp2_with fail;refine uZ 13 ?_;simp only[List.take,List.drop];repeat(go_big_quiet_step(fail))
   refine wpQuiet_nil ?_;go_wp2_with(go_at_call 83;refine cA (OP _ E5.drew hB5) ?_;rintro e w7 ⟨⟨x,rfl⟩,R7,h7,k7,_⟩;have K7:=(K5.drew).trans k7)
   go_returns;exact⟨⟨_,rfl⟩,jN RES h7 K7⟩
 .obtain rfl|rfl|rfl|rfl|rfl|rfl|rfl|rfl:=hop;all_goals
   have hnn:(1:Int)=(n:Int):=HNX;obtain rfl:n=1:=cM;clear hnn;obtain⟨bl,off,rfl,-⟩:=L5.eA (i:=0) (by rw[HIL];omega);obtain⟨y0,ys0,hy0,HY0,EY0,EC0,VY0,m00,m01,m02⟩:=L5.Pu HVO 0 (by rw[HIL];omega);simp only[gh,eD]at m00 m01 m02
  .have RES:Hid (ew p V ⟨16,a,b⟩ i=ok (V.ee [bv (!jr y0)])):=hy0▸QL;have nF:¬Ft g V R5 w5.heap.size:=λh=>gE _ (Ft.lt E5 h);have NF:=cO nF;clear hy0 nF;cases ht:jr y0 with
   |true=>
    have TRU:=cO (λX=>lP y0 X);rw[EY0,ht]at TRU;rw[ht]at RES;have m00:=fJ (o:=.cells (zV 1 1 ⟨#[]⟩) 56) m00;have m01:=fJ (o:=.cells (zV 1 1 ⟨#[]⟩) 56) m01;have m02:=fJ (o:=.cells (zV 1 1 ⟨#[]⟩) 56) m02;go_wp2_with(first|(go_at_call 89;refine cA (TRU _) ?_;rintro e w6 ⟨rfl,b6⟩;have LL:=(Lc.new w5 (S:=Ft g V R5) (λk hk=>Ft.lt E5 hk) (zV 1 1 ⟨#[]⟩) 56).kept (Kp.cY b6);have n0:=LL.cell (j:=0) rfl;have n1:=LL.cell (j:=1) rfl;have n2:=LL.cell (j:=2) rfl;have nf:=LL.free;clear LL;have B7:Hid (zB w5 w6):=(ba).trans (b6.mono dC))|(go_at_call 83;refine cA (OPD (bv false) _ ((E5.below B7).off (a:=(zA w5.heap.size 1)) NF _) (by simpa[World.setCell]using cV hB5 B7.size)) ?_;rintro e w7 ⟨⟨x,rfl⟩,R7,h7,k7,_⟩;have K7:=cO ((K5.trans ((Kp.cY B7).off (a:=(zA w5.heap.size 1)) (cE _) _)).trans k7)))
    go_returns;exact⟨⟨_,rfl⟩,jN RES h7 K7⟩
   |false=>
    have TRU:=cO (λX=>lP y0 X);rw[EY0,ht]at TRU;rw[ht]at RES;have m00:=fJ (o:=.cells (zV 1 1 ⟨#[]⟩) 56) m00;have m01:=fJ (o:=.cells (zV 1 1 ⟨#[]⟩) 56) m01;have m02:=fJ (o:=.cells (zV 1 1 ⟨#[]⟩) 56) m02;go_wp2_with(first|(go_at_call 89;refine cA (TRU _) ?_;rintro e w6 ⟨rfl,b6⟩;have LL:=(Lc.new w5 (S:=Ft g V R5) (λk hk=>Ft.lt E5 hk) (zV 1 1 ⟨#[]⟩) 56).kept (Kp.cY b6);have n0:=LL.cell (j:=0) rfl;have n1:=LL.cell (j:=1) rfl;have n2:=LL.cell (j:=2) rfl;have nf:=LL.free;clear LL;have B7:Hid (zB w5 w6):=(ba).trans (b6.mono dC))|(go_at_call 83;refine cA (OPD (bv true) _ (E5.below B7) (cV hB5 B7.size)) ?_;rintro e w7 ⟨⟨x,rfl⟩,R7,h7,k7,_⟩;have K7:=(K5.trans (Kp.cY B7)).trans k7))
    go_returns;exact⟨⟨_,rfl⟩,jN RES h7 K7⟩
  .have SAY:=cO (λX=>jo nz X);have RAI:=cO (λ(X:World) (hX:Sp w0.heap.size g V R5 H rz X)=>lT hX (tv nz));by_cases hk:y0.k=2
   .have b2:(y0.k != 2)=false:=by simpa using hk
    have RES:Hid (ew p V ⟨17,a,b⟩ i=ok (V.ee [nv (wrap (0-y0.n))])):=by show ew p V _ i=_;rw[Me,<-hy0,cR hk]
    clear hk hy0;rw[show wrap (0-y0.n)=wrap64 (-y0.n) by rw[Int.zero_sub];exact(lG _).symm]at RES;go_wp2_with(go_at_call 83;refine cA (OPD (nv (wrap64 (-y0.n))) _ E5 hB5) ?_;rintro e w7 ⟨⟨x,rfl⟩,R7,h7,k7,_⟩;have K7:=K5.trans k7)
    go_returns;exact⟨⟨_,rfl⟩,jN RES h7 K7⟩
   .have b2:(y0.k != 2)=true:=by simpa using hk
    have RES:Hid (ew p V ⟨17,a,b⟩ i=mW V nz):=by show ew p V _ i=_;rw[Me,<-hy0,cK hk]
    clear hk hy0;go_wp2_with(first
     |(go_at_call 46;refine cA (SAY _) ?_;rintro e w6 ⟨rfl,b6⟩)
     |(go_at_call 45;refine cA (RAI _ (E5.below b6)) ?_;rintro e w7 ⟨⟨x,rfl⟩,h7,k7⟩;have h6:=h7;have K6:=K5.trans ((Kp.cY b6).trans k7);have L6:=cO (L5.kept ((Kp.cY b6).trans k7));clear m00 m01 m02;obtain⟨m00,m01,m02⟩:=L6.one (j:=0) (by rw[HIL];omega) HY0 EC0;simp only[gh,eD]at m00 m01 m02)
     |(go_at_call 83;refine cA (OPD (nv (wrap64 (-y0.n))) _ h6 (cV hB K6.size)) ?_;rintro e w8 ⟨⟨x,rfl⟩,R7,h7,k7,_⟩;have K7:=K6.trans k7))
    go_returns;exact⟨⟨_,rfl⟩,uY RES (pY (rF _ (by rw[lG];exact(og _).1) (by rw[lG];exact(og _).2))) h7 K7⟩
  all_goals
   have ka:=jy HX.a;obtain⟨an,rfl⟩:∃an:Nat,a=an:=⟨a.toNat,by have q:0<=a:=ka.1;omega⟩
   have x1:=LX5.cell (j:=1) rfl
  .have RES:Hid (ew p V ⟨19,(an:Int),b⟩ i=ok (if jr y0 then V else V.gi an)):=hy0▸QJ;clear hy0;cases ht:jr y0 with
   |true=>
    have TRU:=cO (λX=>lP y0 X);rw[EY0,ht]at TRU;rw[ht]at RES;go_wp2_with(go_at_call 89;refine cA (TRU _) ?_;rintro e w6 ⟨rfl,b6⟩)
    go_returns;exact⟨⟨_,rfl⟩,jN RES (E5.below b6) (K5.trans (Kp.cY b6))⟩
   |false=>
    have TRU:=cO (λX=>lP y0 X);rw[EY0,ht]at TRU;rw[ht]at RES;go_wp2_with(first|(go_at_call 89;refine cA (TRU _) ?_;rintro e w6 ⟨rfl,b6⟩;have x1:=(LX5.kept (Kp.cY b6)).cell (j:=1) rfl)|(go_at_call 90;refine cA (oG (E5.below b6) NV LV an) ?_;rintro e w7 ⟨⟨x,rfl⟩,R7,h7,k7,_⟩;have K7:=(K5.trans (Kp.cY b6)).trans k7))
    go_returns;exact⟨⟨_,rfl⟩,jN RES h7 K7⟩
  iterate 2
   focus
    have t:=(HI cM).kI LV;first
     |(obtain⟨sb,sl,rfl,hsl,hsv,hal,hsb,c7⟩:=E5.QQ E t NV LV GV ES5 ka.2.2;obtain⟨vb,vcap,nv_,y,ys,hy,ey1,hvv,g3,z0,z1,z2,hs',hvF,hvf⟩:=E5.Il hsv;have f5:=LF5.cell (j:=5) rfl;have RES:Hid (ew p V ⟨6,(an:Int),b⟩ i=ok {V with vars:=V.vars.set sl y0}):=(by rw[hy0,hsl];exact TF))
     |(obtain⟨sb,sl,rfl,hsl,hsv,hal,hsb,c7⟩:=E5.V8 E t GV EU5 ka.2.2;obtain⟨vb,vcap,nv_,y,ys,hy,ey1,hvv,g3,z0,z1,z2,hs',hvF,hvf⟩:=E5.Il hsv;have f5:=LF5.cell (j:=4) rfl;have RES:Hid (ew p V ⟨9,(an:Int),b⟩ i=ok {V with vars:=V.vars.set sl y0}):=(by rw[hy0,hsl];exact TA))
    have ha':=xm.2 hal;have HVS:=cO (λ(X:World) (hX:Sp w0.heap.size g V R5 H rz X)=>hX.v8 hsv hvv y0);rw[show sv y0.s=.string ys0 by have:=ga (λq:List Value=>q[2]?) EC0;simpa[vc]using this]at HVS;have HVF:=cO hvF;clear t ka hsl hvv hsv hy ey1 hvF hy0;go_wp2_with fail;refine uZ 13 ?_;simp only[List.take,List.drop];repeat(go_big_quiet_step(fail))
    refine wpQuiet_nil ?_;go_wp2;go_returns;obtain⟨R6,h6,e6⟩:=HVS _ E5;refine⟨⟨_,rfl⟩,jN RES h6.drew ?_⟩;have hft:Ft g {V with vars:=V.vars.set sl y0} R6=Ft g V R5:=vJ (λt=>j8) e6;rw[hft];exact(K5.trans (((Kp.setCell (a:=(zA vb _)) _ HVF).trans (Kp.setCell (a:=(zA vb _)) _ HVF)).trans (Kp.setCell (a:=(zA vb _)) _ HVF))).drew
  .have t:=(HI cM).kI LV;obtain⟨m,hm⟩:∃m,V.co.cy.length=m+1:=⟨V.co.cy.length-1,by have:=LV.out;omega⟩
   clear m00 m01 m02 x1;have FR:=cO LF5.1;have ka2:(an:Int)<(p.cU.getD V.db.eR gu).da:=ka.2.2;have hal:an<V.db.da.length:=by rw[t.da GV];omega
   obtain⟨sl,hsl⟩:∃z,z=V.db.da.getD an 0:=⟨_,rfl⟩
   have hsv:sl<V.vars.length:=hsl▸mG (P:=λx=>x<V.vars.length) (t.um GV) hal;obtain⟨sb,sc',e7,c7,f7⟩:=E5.SU NV hm GV hal;have es5:=ES5;rw[show V.co.cy.length-1=m by omega,e7]at es5;simp only[de]at es5;obtain⟨rfl,hsn,_⟩:=es5;rw[hsn]at hal e7;rw[<-hsl]at c7;have hsb:sn<=1000000:=by have:=(E.jZ.1.2.2.1 _ (t.eR GV)).2.2.1;have:=t.da GV;omega
   obtain⟨S,hS⟩:=eX (QZ bl off i w.heap.size #[q0,q1,q2,q3,.slice ua un uc,zS sb sn sc,q6] (zW 7 (an:Int) b));have m00:=λx:Wd S=>(x.val hS (j:=0) (by rw[HIL];omega) HY0 EC0).1;have m01:=λx:Wd S=>(x.val hS (j:=0) (by rw[HIL];omega) HY0 EC0).2.1;have m02:=λx:Wd S=>(x.val hS (j:=0) (by rw[HIL];omega) HY0 EC0).2.2;simp only[gh,lF,Nat.reduceMul,eD]at m00 m01 m02;have f5:=λx:Wd S=>x.fr hS (j:=5) rfl;have x1:=λx:Wd S=>x.ins hS (j:=1) rfl;have HS:=cO hS;clear hS;have SW:Hid (S w5):=HS▸⟨_,L5,LF5,LX5⟩;haveI:Nonempty (Wd S):=⟨⟨w5,SW⟩⟩
   have VR:=cO (λ(X:World) (hX:Sp w0.heap.size g V R5 H rz X) (hb:w0.heap.size<=X.heap.size)=>sS hX hb cM y0);rw[EY0]at VR;obtain⟨V2,hV2⟩:=eX ({V with vars:=V.vars++[y0]});rw[<-hV2]at VR;obtain⟨nv_,hnv⟩:∃z,z=V.vars.length:=⟨_,rfl⟩
   rw[<-hnv]at VR;have N2:Hid (V2.cQ<V2.cS.length/\V2.co.cy.length=m+1/\V2.db=V.db/\V2.cQ=V.cQ):=hV2▸⟨NV,hm,rfl,rfl⟩;have RES:Hid (ew p V ⟨7,(an:Int),b⟩ i=ok (V2.dN {V.db with da:=V.db.da.set an nv_})):=by show ew p V _ i=_;rw[TE,<-hy0,hV2,hnv];rfl
   have HE7:=cO e7;have HSN:=cO hsn;have HAL:=cO hal;have ha':=xm.2 hal;clear t hm ka ka2 hsl hsn hnv e7 hsv f7 c7 hV2 hy0;go_wp2_with fail;refine uq S 8 1 (HS▸⟨_,L5,LF5,LX5⟩) ?_;simp only[List.take,List.drop];repeat(go_big_quiet_step(fail))
   refine wpQuiet_nil ?_;refine dI ?_;clear m00 m01 m02 f5 x1;go_wp2_with(go_at_call 47;refine cA (VR _ E5.drew hB5) ?_;rintro e w6 ⟨rfl,R6,h6,k6,r6⟩;have K6:=(Kp.refl _ _).drew.trans k6;have R6E:=cO ((r6 (7,V.cQ,m) dC).trans HE7);clear r6)
   refine⟨HS▸⟨_,L5.kept K6,LF5.kept K6,LX5.kept K6⟩,?_⟩;refine ej ?_;have c7:zE w6 sb an (zI (V.db.da.getD an 0:Nat))/\Ft g V2 R6 sb/\∀r,w6.frozen? (zA sb r)=false:=by obtain⟨q1,q2,q3,q4⟩:=N2;obtain⟨b',c',e',l',F'⟩:=h6.SU q1 q2 (q3▸GV) (a:=an) (by rw[q3,HSN];exact HAL);rw[q3,q4]at e';rw[q3]at l';have e2:=R6E;rw[e']at e2;simp only[de,dB,fC,and_true]at e2;obtain⟨rfl,_⟩:=e2;exact⟨l',F',h6.WD q1 q2 (q3▸GV) (by rw[q4,q3];exact e')⟩
   obtain⟨c7,F7,z7⟩:=c7;have HF7:=cO F7;clear F7;go_wp2;go_returns;obtain⟨q1,q2,q3,q4⟩:=N2;have q5:0<V2.co.cy.length:=cM;obtain⟨R9,h9,r9⟩:=h6.Cd q1 q5 (q3▸GV) (a:=an) (x:=nv_) (b:=sb) (cap:=_) (by rw[q4,show V2.co.cy.length-1=m by omega,q3,HSN];exact R6E);rw[q3]at h9;refine⟨⟨_,rfl⟩,jN RES h9 ?_⟩;have hft:Ft g (V2.dN {V.db with da:=V.db.da.set an nv_}) R9=Ft g V2 R6:=vJ (λt=>mF (f:={V.db with da:=V.db.da.set an nv_}) q1 q5 (by rw[q3]) t) r9;rw[hft];exact(K5.trans K6).trans (Kp.setCell (a:=(zA sb _)) _ HF7)
  .clear m00 m01 m02 x1;obtain⟨S,hS⟩:=eX (QZ bl off i w.heap.size #[q0,q1,q2,q3,.slice ua un uc,.slice sa sn sc,q6] (zW 20 (an:Int) b));have m00:=λx:Wd S=>(x.val hS (j:=0) (by rw[HIL];omega) HY0 EC0).1;have m01:=λx:Wd S=>(x.val hS (j:=0) (by rw[HIL];omega) HY0 EC0).2.1;have m02:=λx:Wd S=>(x.val hS (j:=0) (by rw[HIL];omega) HY0 EC0).2.2;simp only[gh,lF,Nat.reduceMul,eD]at m00 m01 m02;have z0:=λx:Wd S=>x.ins hS (j:=0) rfl;have HS:=cO hS;clear hS;have SW:Hid (S w5):=HS▸⟨_,L5,LF5,LX5⟩;haveI:Nonempty (Wd S):=⟨⟨w5,SW⟩⟩
   have OP:=cO (λ(X:World) {rz':Bool×Vl} (hX:Sp w0.heap.size g V R5 H rz' X) (hb:w0.heap.size<=X.heap.size)=>OPD y0 X hX hb);rw[EY0]at OP;have RES:Hid (ew p V ⟨20,(an:Int),b⟩ i=ok (if jr y0 then V else(V.ee [y0]).gi an)):=hy0▸QI;have NM:Hid ((V.ee [y0]).cQ<(V.ee [y0]).cS.length):=by have:=NV;simpa[St.ee,St.dN,St.du,St.dW,Hid]using this
   have LM:Hid (0<(V.ee [y0]).co.cy.length):=by show 0<(V.dN _).co.cy.length;rw[jg NV];exact LV
   clear hy0;cases ht:jr y0 with
   |true=>
    have TRU:=cO (λX=>lP y0 X);rw[EY0,ht]at TRU;rw[ht]at RES;go_wp2_with fail;refine Cg S [0,1,2,4,5,6] [3] [7] (HS▸⟨_,L5,LF5,LX5⟩) ?_;simp only[pick,ey,eB,eL,eM,dt,dG];repeat(go_big_quiet_step(fail))
    refine wpQuiet_nil ?_;refine dI ?_;clear m00 m01 m02 x0;go_wp2_with(go_at_call 89;refine cA (TRU _) ?_;rintro e w6 ⟨rfl,b6⟩;have b6:Hid (zB w5 w6):=(cN _ _).drew.trans b6)
    refine⟨HS▸⟨_,L5.kept (Kp.cY b6),LF5.kept (Kp.cY b6),LX5.kept (Kp.cY b6)⟩,?_⟩;refine ej ?_;go_wp2;go_returns;exact⟨⟨_,rfl⟩,jN RES (E5.below b6) (K5.trans (Kp.cY b6))⟩
   |false=>
    have TRU:=cO (λX=>lP y0 X);rw[EY0,ht]at TRU;rw[ht]at RES;go_wp2_with fail;refine Cg S [0,1,2,4,5,6] [3] [7] (HS▸⟨_,L5,LF5,LX5⟩) ?_;simp only[pick,ey,eB,eL,eM,dt,dG];repeat(go_big_quiet_step(fail))
    refine wpQuiet_nil ?_;refine dI ?_;clear m00 m01 m02 x0;go_wp2_with(go_at_call 89;refine cA (TRU _) ?_;rintro e w6 ⟨rfl,b6⟩;have b6:Hid (zB w5 w6):=(cN _ _).drew.trans b6)
    refine⟨HS▸⟨_,L5.kept (Kp.cY b6),LF5.kept (Kp.cY b6),LX5.kept (Kp.cY b6)⟩,?_⟩;refine ej ?_;have L6:=cO (L5.kept (Kp.cY b6));obtain⟨m00,m01,m02⟩:=L6.one (j:=0) (by rw[HIL];omega) HY0 EC0;simp only[gh,eD]at m00 m01 m02;go_wp2_with(first
     |(go_at_call 83;refine cA (OP _ (E5.below b6) (cV hB5 b6.size)) ?_;rintro e w7 ⟨⟨x,rfl⟩,R7,h7,k7,_⟩;have K7:=(K5.trans (Kp.cY b6)).trans k7;have x1:=((LX5.kept (Kp.cY b6)).kept k7).cell (j:=1) rfl)
     |(go_at_call 90;refine cA (oG h7 NM LM an) ?_;rintro e w8 ⟨⟨x,rfl⟩,R8,h8,k8,_⟩;have K8:=K7.trans k8))
    go_returns;exact⟨⟨_,rfl⟩,jN RES h8 K8⟩
  .clear m00 m01 m02 x1;obtain⟨S,hS⟩:=eX (QZ bl off i w.heap.size #[q0,q1,q2,q3,.slice ua un uc,.slice sa sn sc,q6] (zW 21 (an:Int) b));have m00:=λx:Wd S=>(x.val hS (j:=0) (by rw[HIL];omega) HY0 EC0).1;have m01:=λx:Wd S=>(x.val hS (j:=0) (by rw[HIL];omega) HY0 EC0).2.1;have m02:=λx:Wd S=>(x.val hS (j:=0) (by rw[HIL];omega) HY0 EC0).2.2;simp only[gh,lF,Nat.reduceMul,eD]at m00 m01 m02;have z0:=λx:Wd S=>x.ins hS (j:=0) rfl;have HS:=cO hS;clear hS;have SW:Hid (S w5):=HS▸⟨_,L5,LF5,LX5⟩;haveI:Nonempty (Wd S):=⟨⟨w5,SW⟩⟩
   have OP:=cO (λ(X:World) {rz':Bool×Vl} (hX:Sp w0.heap.size g V R5 H rz' X) (hb:w0.heap.size<=X.heap.size)=>OPD y0 X hX hb);rw[EY0]at OP;have RES:Hid (ew p V ⟨21,(an:Int),b⟩ i=ok (if jr y0 then(V.ee [y0]).gi an else V)):=hy0▸QH;have NM:Hid ((V.ee [y0]).cQ<(V.ee [y0]).cS.length):=by have:=NV;simpa[St.ee,St.dN,St.du,St.dW,Hid]using this
   have LM:Hid (0<(V.ee [y0]).co.cy.length):=by show 0<(V.dN _).co.cy.length;rw[jg NV];exact LV
   clear hy0;cases ht:jr y0 with
   |true=>
    have TRU:=cO (λX=>lP y0 X);rw[EY0,ht]at TRU;rw[ht]at RES;go_wp2_with fail;refine Cg S [0,1,2,4,5,6] [3] [7] (HS▸⟨_,L5,LF5,LX5⟩) ?_;simp only[pick,ey,eB,eL,eM,dt,dG];repeat(go_big_quiet_step(fail))
    refine wpQuiet_nil ?_;refine dI ?_;clear m00 m01 m02 x0;go_wp2_with(go_at_call 89;refine cA (TRU _) ?_;rintro e w6 ⟨rfl,b6⟩;have b6:Hid (zB w5 w6):=(cN _ _).drew.trans b6)
    refine⟨HS▸⟨_,L5.kept (Kp.cY b6),LF5.kept (Kp.cY b6),LX5.kept (Kp.cY b6)⟩,?_⟩;refine ej ?_;have L6:=cO (L5.kept (Kp.cY b6));obtain⟨m00,m01,m02⟩:=L6.one (j:=0) (by rw[HIL];omega) HY0 EC0;simp only[gh,eD]at m00 m01 m02;go_wp2_with(first
     |(go_at_call 83;refine cA (OP _ (E5.below b6) (cV hB5 b6.size)) ?_;rintro e w7 ⟨⟨x,rfl⟩,R7,h7,k7,_⟩;have K7:=(K5.trans (Kp.cY b6)).trans k7;have x1:=((LX5.kept (Kp.cY b6)).kept k7).cell (j:=1) rfl)
     |(go_at_call 90;refine cA (oG h7 NM LM an) ?_;rintro e w8 ⟨⟨x,rfl⟩,R8,h8,k8,_⟩;have K8:=K7.trans k8))
    go_returns;exact⟨⟨_,rfl⟩,jN RES h8 K8⟩
   |false=>
    have TRU:=cO (λX=>lP y0 X);rw[EY0,ht]at TRU;rw[ht]at RES;go_wp2_with fail;refine Cg S [0,1,2,4,5,6] [3] [7] (HS▸⟨_,L5,LF5,LX5⟩) ?_;simp only[pick,ey,eB,eL,eM,dt,dG];repeat(go_big_quiet_step(fail))
    refine wpQuiet_nil ?_;refine dI ?_;clear m00 m01 m02 x0;go_wp2_with(go_at_call 89;refine cA (TRU _) ?_;rintro e w6 ⟨rfl,b6⟩;have b6:Hid (zB w5 w6):=(cN _ _).drew.trans b6)
    refine⟨HS▸⟨_,L5.kept (Kp.cY b6),LF5.kept (Kp.cY b6),LX5.kept (Kp.cY b6)⟩,?_⟩;refine ej ?_;go_wp2;go_returns;exact⟨⟨_,rfl⟩,jN RES (E5.below b6) (K5.trans (Kp.cY b6))⟩
 .obtain rfl|rfl:=hop;all_goals
   have hnn:(2:Int)=(n:Int):=HNX;obtain rfl:n=2:=cM;clear hnn;obtain⟨bl,off,rfl,-⟩:=L5.eA (i:=0) (by rw[HIL];omega);obtain⟨y0,ys0,hy0,HY0,EY0,EC0,VY0,-⟩:=L5.Pu HVO 0 (by rw[HIL];omega);obtain⟨y1,ys1,hy1,HY1,EY1,EC1,VY1,-⟩:=L5.Pu HVO 1 (by rw[HIL];omega)
  .obtain⟨S,hS⟩:=eX (QZ bl off i w.heap.size #[q0,q1,q2,q3,.slice ua un uc,.slice sa sn sc,q6] (zW 13 a b));have m00:=λx:Wd S=>(x.val hS (j:=0) (by rw[HIL];omega) HY0 EC0).1;have m01:=λx:Wd S=>(x.val hS (j:=0) (by rw[HIL];omega) HY0 EC0).2.1;have m02:=λx:Wd S=>(x.val hS (j:=0) (by rw[HIL];omega) HY0 EC0).2.2;simp only[gh,lF,Nat.reduceMul,eD]at m00 m01 m02;have m10:=λx:Wd S=>(x.val hS (j:=1) (by rw[HIL];omega) HY1 EC1).1;have m11:=λx:Wd S=>(x.val hS (j:=1) (by rw[HIL];omega) HY1 EC1).2.1;have m12:=λx:Wd S=>(x.val hS (j:=1) (by rw[HIL];omega) HY1 EC1).2.2;simp only[gh,lF,Nat.reduceMul,eD]at m10 m11 m12;have HS:=cO hS;clear hS;have SW:Hid (S w5):=HS▸⟨_,L5,LF5,LX5⟩;haveI:Nonempty (Wd S):=⟨⟨w5,SW⟩⟩
   clear hy0 hy1;by_cases h4:y0.k=4
   .obtain⟨u,hu⟩:=eX (pI (V.tables.getD y0.n.toNat []) y1);have IX:=cO (λ(X:World) (hX:Sp w0.heap.size g V R5 H rz X)=>J8 (k:=y1) hX h4 VY0);obtain⟨us,eu,q1_,q2_⟩:=qn u;clear q1_ q2_;rw[EY0,EY1,<-hu,eu]at IX;have OP:=cO (λ(X:World) (hX:Sp w0.heap.size g V R5 H rz X) (hb:w0.heap.size<=X.heap.size)=>OPD u X hX hb);rw[eu]at OP;have RES:Hid (ew p V ⟨13,a,b⟩ i=ok (V.ee [u])):=by
     show ew p V _ i=_;rw[Mf,<-HY0,<-HY1,cR h4,hu]
    clear h4 hu eu;go_wp2_with fail;refine uq S 8 1 (HS▸⟨_,L5,LF5,LX5⟩) ?_;simp only[List.take,List.drop];repeat(go_big_quiet_step(fail))
    refine wpQuiet_nil ?_;refine dI ?_;clear m00 m01 m02 m10 m11 m12;go_wp2_with(go_at_call 87;refine cA (IX _ E5.drew) ?_;rintro e w6 ⟨rfl,b6⟩;have b6:Hid (zB w5 w6):=(cN _ _).drew.trans b6)
    refine⟨HS▸⟨_,L5.kept (Kp.cY b6),LF5.kept (Kp.cY b6),LX5.kept (Kp.cY b6)⟩,?_⟩;refine ej ?_;go_wp2_with(go_at_call 83;refine cA (OP _ (E5.below b6) (cV hB5 b6.size)) ?_;rintro e w7 ⟨⟨x,rfl⟩,R7,h7,k7,_⟩;have K7:=(K5.trans (Kp.cY b6)).trans k7)
    go_returns;exact⟨⟨_,rfl⟩,jN RES h7 K7⟩
   .have IX:=cO (λ(X:World) (hX:Sp w0.heap.size g V R5 H rz X)=>Ke (k:=y1) hX h4);rw[EY0,EY1]at IX;have RES:Hid (ew p V ⟨13,a,b⟩ i=mW V kM):=by
     show ew p V _ i=_;rw[Mf,<-HY0,cK h4]
    clear h4;go_wp2_with fail;refine uq S 8 1 (HS▸⟨_,L5,LF5,LX5⟩) ?_;simp only[List.take,List.drop];repeat(go_big_quiet_step(fail))
    refine wpQuiet_nil ?_;refine dI ?_;clear m00 m01 m02 m10 m11 m12;go_wp2_with(go_at_call 87;refine cA (IX _ E5.drew) ?_;rintro e w6 ⟨rfl,h6,k6⟩;have K6:=(Kp.refl _ _).drew.trans k6)
    refine⟨HS▸⟨_,L5.kept K6,LF5.kept K6,LX5.kept K6⟩,?_⟩;refine ej ?_;go_wp2_with(go_at_call 83;refine cA (OPD v0 _ h6 (cV hB5 K6.size)) ?_;rintro e w7 ⟨⟨x,rfl⟩,R7,h7,k7,_⟩;have K7:=(K5.trans K6).trans k7)
    go_returns;exact⟨⟨_,rfl⟩,uY RES (pY (xu _)) h7 K7⟩
  .have ka:=jy HX.a;have ko:0<=a/\a<=11:=⟨ka.1,by have:a<12:=ka.2.2;omega⟩
   clear ka;obtain⟨S,hS⟩:=eX (QZ bl off i w.heap.size #[q0,q1,q2,q3,.slice ua un uc,.slice sa sn sc,q6] (zW 15 a b));have m00:=λx:Wd S=>(x.val hS (j:=0) (by rw[HIL];omega) HY0 EC0).1;have m01:=λx:Wd S=>(x.val hS (j:=0) (by rw[HIL];omega) HY0 EC0).2.1;have m02:=λx:Wd S=>(x.val hS (j:=0) (by rw[HIL];omega) HY0 EC0).2.2;simp only[gh,lF,Nat.reduceMul,eD]at m00 m01 m02;have m10:=λx:Wd S=>(x.val hS (j:=1) (by rw[HIL];omega) HY1 EC1).1;have m11:=λx:Wd S=>(x.val hS (j:=1) (by rw[HIL];omega) HY1 EC1).2.1;have m12:=λx:Wd S=>(x.val hS (j:=1) (by rw[HIL];omega) HY1 EC1).2.2;simp only[gh,lF,Nat.reduceMul,eD]at m10 m11 m12;have x1:=λx:Wd S=>x.ins hS (j:=1) rfl;have HS:=cO hS;clear hS;have SW:Hid (S w5):=HS▸⟨_,L5,LF5,LX5⟩;haveI:Nonempty (Wd S):=⟨⟨w5,SW⟩⟩
   clear hy0 hy1;have BN:=cO (λ(X:World) (hX:Sp w0.heap.size g V R5 H rz X)=>JZ hX ko VY0 VY1);rw[EY0,EY1]at BN;have RES:Hid (ew p V ⟨15,a,b⟩ i=match pv a y0 y1 with|.inl v=>ok (V.ee [v])|.inr s=>mW V s):=by rw[HY0,HY1];exact QM
   cases hbn:pv a y0 y1 with
   |inl u=>
    rw[hbn]at BN RES;unfold Ou at BN;dsimp only at BN;obtain⟨us,eu,q1_,q2_⟩:=qn u;clear q1_ q2_;rw[eu]at BN;have OP:=cO (λ(X:World) (hX:Sp w0.heap.size g V R5 H rz X) (hb:w0.heap.size<=X.heap.size)=>OPD u X hX hb);rw[eu]at OP;clear hbn eu ko;go_wp2_with fail;refine uq S 10 1 (HS▸⟨_,L5,LF5,LX5⟩) ?_;simp only[List.take,List.drop];repeat(go_big_quiet_step(fail))
    refine wpQuiet_nil ?_;refine dI ?_;clear m00 m01 m02 m10 m11 m12 x1;go_wp2_with(go_at_call 88;refine cA (BN _ E5.drew) ?_;rintro e w6 ⟨rfl,b6⟩;have b6:Hid (zB w5 w6):=(cN _ _).drew.trans b6)
    refine⟨HS▸⟨_,L5.kept (Kp.cY b6),LF5.kept (Kp.cY b6),LX5.kept (Kp.cY b6)⟩,?_⟩;refine ej ?_;go_wp2_with(go_at_call 83;refine cA (OP _ (E5.below b6) (cV hB5 b6.size)) ?_;rintro e w7 ⟨⟨x,rfl⟩,R7,h7,k7,_⟩;have K7:=(K5.trans (Kp.cY b6)).trans k7)
    go_returns;exact⟨⟨_,rfl⟩,jN RES h7 K7⟩
   |inr s=>
    rw[hbn]at BN RES;unfold Ou at BN;dsimp only at BN;clear hbn ko;go_wp2_with fail;refine uq S 10 1 (HS▸⟨_,L5,LF5,LX5⟩) ?_;simp only[List.take,List.drop];repeat(go_big_quiet_step(fail))
    refine wpQuiet_nil ?_;refine dI ?_;clear m00 m01 m02 m10 m11 m12 x1;go_wp2_with(go_at_call 88;refine cA (BN _ E5.drew) ?_;rintro e w6 ⟨⟨u,rfl,hu_⟩,h6,k6⟩;have HUV:=cO hu_;clear hu_;have K6:=(Kp.refl _ _).drew.trans k6)
    refine⟨HS▸⟨_,L5.kept K6,LF5.kept K6,LX5.kept K6⟩,?_⟩;refine ej ?_;go_wp2_with(go_at_call 83;refine cA (OPD u _ h6 (cV hB5 K6.size)) ?_;rintro e w7 ⟨⟨x,rfl⟩,R7,h7,k7,_⟩;have K7:=(K5.trans K6).trans k7)
    go_returns;exact⟨⟨_,rfl⟩,uY RES (pY (HUV _)) h7 K7⟩
 .have hnn:(3:Int)=(n:Int):=HNX;obtain rfl:n=3:=cM;clear hnn;obtain⟨bl,off,rfl,-⟩:=L5.eA (i:=0) (by rw[HIL];omega);obtain⟨y0,ys0,hy0,HY0,EY0,EC0,VY0,m00,m01,m02⟩:=L5.Pu HVO 0 (by rw[HIL];omega);obtain⟨y1,ys1,hy1,HY1,EY1,EC1,VY1,m10,m11,m12⟩:=L5.Pu HVO 1 (by rw[HIL];omega);obtain⟨y2,ys2,hy2,HY2,EY2,EC2,VY2,m20,m21,m22⟩:=L5.Pu HVO 2 (by rw[HIL];omega);simp only[gh,lF,Nat.reduceMul,eD]at m00 m01 m02 m10 m11 m12 m20 m21 m22;have OP:=cO (λ(X:World) {rz':Bool×Vl} (hX:Sp w0.heap.size g V R5 H rz' X) (hb:w0.heap.size<=X.heap.size)=>OPD y0 X hX hb);rw[EY0]at OP;clear hy0 hy1 hy2;by_cases hs:y0.k=4/\y1.k≠0
  .obtain⟨V2,hV2⟩:=eX ({V with tables:=V.tables.set y0.n.toNat (put (V.tables.getD y0.n.toNat []) y1 y2)});have ST:=cO (λ(X:World) (hX:Sp w0.heap.size g V R5 H rz X) (hb:w0.heap.size<=X.heap.size)=>AM hX hb hs VY0 HPB (v:=y2));rw[EY0,EY1,EY2,<-hV2]at ST;have OP2:=cO (λ(X:World) (R6:eO->fW) (hX:Sp w0.heap.size g V2 R6 H rz X) (hb:w0.heap.size<=X.heap.size)=>nG hX hb (hV2▸NV) (hV2▸LV) (hV2▸GV) (hV2▸BV) y0);rw[EY0]at OP2;have RES:Hid (ew p V ⟨12,a,b⟩ i=ok (V2.ee [y0])):=by
    show ew p V _ i=_;rw[Mg,<-HY0,<-HY1,<-HY2];unfold St.store;rw[cR hs,hV2];rfl
   clear hs hV2;go_wp2_with fail;refine uZ 10 ?_;simp only[List.take,List.drop];repeat(go_big_quiet_step(fail))
   refine wpQuiet_nil ?_;go_wp2_with(first
    |(go_at_call 86;refine cA (ST _ E5.drew hB5) ?_;rintro e w6 ⟨⟨x,rfl⟩,R6,h6,k6⟩;have K6:=K5.drew.trans k6;have L6:=cO (L5.kept ((Kp.refl _ _).drew.trans k6));clear m00 m01 m02;obtain⟨m00,m01,m02⟩:=L6.one (j:=0) (by rw[HIL];omega) HY0 EC0;simp only[gh,eD]at m00 m01 m02)
    |(go_at_call 83;refine cA (OP2 _ _ h6 (cV hB K6.size)) ?_;rintro e w7 ⟨⟨x,rfl⟩,R7,h7,k7,_⟩;have K7:=K6.trans k7))
   go_returns;exact⟨⟨_,rfl⟩,jN RES h7 K7⟩
  .have ST:=cO (λ(X:World) (hX:Sp w0.heap.size g V R5 H rz X)=>DX hX hs (v:=y2));rw[EY0,EY1,EY2]at ST;have RES:Hid (ew p V ⟨12,a,b⟩ i=mW V kM):=by
    show ew p V _ i=_;rw[Mg,<-HY0,<-HY1,<-HY2];unfold St.store;rw[cK hs];rfl
   clear hs;go_wp2_with fail;refine uZ 10 ?_;simp only[List.take,List.drop];repeat(go_big_quiet_step(fail))
   refine wpQuiet_nil ?_;go_wp2_with(first
    |(go_at_call 86;refine cA (ST _ E5.drew) ?_;rintro e w6 ⟨⟨x,rfl⟩,h6,k6⟩;have K6:=K5.drew.trans k6;have L6:=cO (L5.kept ((Kp.refl _ _).drew.trans k6));clear m00 m01 m02;obtain⟨m00,m01,m02⟩:=L6.one (j:=0) (by rw[HIL];omega) HY0 EC0;simp only[gh,eD]at m00 m01 m02)
    |(go_at_call 83;refine cA (OP _ h6 (cV hB K6.size)) ?_;rintro e w7 ⟨⟨x,rfl⟩,R7,h7,k7,_⟩;have K7:=K6.trans k7))
   go_returns;exact⟨⟨_,rfl⟩,uY RES (pY VY0) h7 K7⟩
 .have hnn:(3:Int)=(n:Int):=HNX;obtain rfl:n=3:=cM;clear hnn;obtain⟨bl,off,rfl,-⟩:=L5.eA (i:=0) (by rw[HIL];omega);obtain⟨y0,ys0,hy0,HY0,EY0,EC0,VY0,m00,m01,m02⟩:=L5.Pu HVO 0 (by rw[HIL];omega);obtain⟨y1,ys1,hy1,HY1,EY1,EC1,VY1,m10,m11,m12⟩:=L5.Pu HVO 1 (by rw[HIL];omega);obtain⟨y2,ys2,hy2,HY2,EY2,EC2,VY2,m20,m21,m22⟩:=L5.Pu HVO 2 (by rw[HIL];omega);simp only[gh,lF,Nat.reduceMul,eD]at m00 m01 m02 m10 m11 m12 m20 m21 m22;have RES:Hid (ew p V ⟨14,a,b⟩ i=V.store y0 y1 y2):=by rw[hy0,hy1,hy2];exact QN
  clear hy0 hy1 hy2;by_cases hs:y0.k=4/\y1.k≠0
  .have ST:=cO (λ(X:World) (hX:Sp w0.heap.size g V R5 H rz X) (hb:w0.heap.size<=X.heap.size)=>AM hX hb hs VY0 HPB (v:=y2));rw[EY0,EY1,EY2]at ST;have RE2:Hid (V.store y0 y1 y2=ok {V with tables:=V.tables.set y0.n.toNat (put (V.tables.getD y0.n.toNat []) y1 y2)}):=by unfold St.store;rw[cR hs];exact rfl
   clear hs;go_wp2_with fail;refine uZ 10 ?_;simp only[List.take,List.drop];repeat(go_big_quiet_step(fail))
   refine wpQuiet_nil ?_;go_wp2_with(go_at_call 86;refine cA (ST _ E5.drew hB5) ?_;rintro e w7 ⟨⟨x,rfl⟩,R7,h7,k7⟩;have K7:=K5.drew.trans k7)
   go_returns;exact⟨⟨_,rfl⟩,jN (RES.trans RE2) h7 K7⟩
  .have ST:=cO (λ(X:World) (hX:Sp w0.heap.size g V R5 H rz X)=>DX hX hs (v:=y2));rw[EY0,EY1,EY2]at ST;have RE2:Hid (V.store y0 y1 y2=mW V kM):=by unfold St.store;rw[cK hs];exact rfl
   clear hs;go_wp2_with fail;refine uZ 10 ?_;simp only[List.take,List.drop];repeat(go_big_quiet_step(fail))
   refine wpQuiet_nil ?_;go_wp2_with(go_at_call 86;refine cA (ST _ E5.drew) ?_;rintro e w7 ⟨⟨x,rfl⟩,h7,k7⟩;have K7:=K5.drew.trans k7)
   go_returns;exact⟨⟨_,rfl⟩,IB (RES.trans RE2) h7 K7⟩
end rn
end Go.Proofs.YtfpkdfeakanlpaaGreatDoor
