import Derived.Test.YtfpkdfeakanlpaaGreatDoorMImNew
set_option linter.all false
set_option maxRecDepth 100000
set_option maxHeartbeats 8000000
namespace Go.Proofs.YtfpkdfeakanlpaaGreatDoor
open Go.Proofs.Tryz
namespace im
open RowKit bts pg rn
variable{G G':Gh}{H:Hi}{b op z:Int}{l:List (Vl×Vl)}{a cJ g j m n q r x x0 x1 x2:Nat}{o:Obj}{V W:St}{Z:eO->Value}{R R':eO→fW}{mv u:Value}{d i k v y:Vl}{w w1:World}
def Sl.db(h:Sl W)(E:W.cQ<W.cS.length)(J:0<W.co.cy.length){f:Fr}(K:∀x∈f.da,x<W.vars.length):Sl (W.dN f):=by
 intro c j F I x D;rw[jO]at F;rw[gP E]at I;by_cases e:c=W.cQ/\j=W.co.cy.length-1
 .rw[e.1,e.2,iB E J]at D;exact K x D
 .rw[gO E _ e]at D;exact h c j F I x D
def Sl.Vt(h:Sl W)(D:W.cQ<W.cS.length)(E:0<W.co.cy.length):∀x∈W.db.da,x<W.vars.length:=h W.cQ _ D (by show W.co.cy.length-1<W.co.cy.length;omega)
def Cu.Wk(h:Cu cJ W G R H m w):(W.fr W.cQ m).guard=false:=by rw[show m=W.co.cy.length-1 by rw[h.len];rfl];exact h.gd
def Kt(h:Cu cJ W G R H m w)(K:Sl W)(ha:a<W.db.da.length)(hs:W.db.da.length<=1000)(h0:0<W.db.ops.length)(hv:v=W.db.ops.getD (W.db.ops.length-1) v0):
  zC 109 #[mv,im.ptr (hd R (6,W.cQ,m)),.agg (zW op (a:Int) b)] w (To cJ W G R H m w ({W.dZ 1 with vars:=(W.dZ 1).vars++[v]}.dN {(W.dZ 1).db with da:=(W.dZ 1).db.da.set a (W.dZ 1).vars.length})):=by
 obtain⟨t7,E,sc,f,h6,ab,h7,c2,_,_⟩:=h.im.da h.cQ h.len h.gd ha;have hf:im.ptr (hd R (6,W.cQ,m))=zP f:=by rw[h6];rfl
 obtain⟨t,ht⟩:=eX (dV (hd R) v);have hl:0<W.co.cy.length:=by rw[h.len];omega
 have lt:=(kT h.cQ hl 1).2.2.2;have ls:(W.dZ 1).db.da=W.db.da:=by rw[lt]
 have LS:=cO ls;have SL:Hid (Sl (W.dZ 1)):=K.db h.cQ hl (K.Vt h.cQ hl);have HA:=cO ha;have UP:Hid (∀D X,Cu cJ (W.dZ 1) G D H m X->(∀t,t.1≠8->hd D t=hd R t)->zE X f 2 (zS E W.db.da.length sc)/\(D (7,W.cQ,m)).v=zS E W.db.da.length sc/\(∃u,zE X E a u)/\X.frozen? (zA E a)=false):=by intro D X I d4;obtain⟨_,ag,ah,f',ac,_,L,aa,ad,ae⟩:=I.im.da I.cQ I.len I.gd (a:=a) (ls▸ha);rw[ls]at L aa;have k6:hd D (6,(W.dZ 1).cQ,m)=hd R (6,W.cQ,m):=d4 (6,W.cQ,m) dC;have k7:(D (7,W.cQ,m)).v=(R (7,W.cQ,m)).v:=d4 (7,W.cQ,m) dC;rw[ac,h6]at k6;rw[show(D (7,W.cQ,m)).v=_ from L,h7]at k7;cases k7;simp only[de,dB,fC]at k6;obtain⟨⟨rfl,_⟩,_⟩:=k6;exact⟨aa,L,⟨_,ad⟩,ae⟩
 have PO:=cO (λX (hX:zB w X)=>(h.below hX).fU h0 hv);have HT:=cO ht;have LT:=cO (λk (hk:eY W G R k)=>eY.lt h.im hk);have st:=(gm (hd R) v).store;rw[hf]at PO|-;unfold jX vq at PO;rw[<-ht]at PO st;obtain⟨nu,M⟩:∃n,n=W.db.da.length:=⟨_,rfl⟩
 rw[<-M]at c2 ha hs UP;have af:=cO M;have ai:(a:Int)<(nu:Int):=cM;clear h hf ht h6 h7 lt ls h0 hv K hl t7 ab M;go_enter func109,ntmps109;go_wp2;refine dx λw1 O=>?_;have B1:Hid (zB w w1):=O▸ba;have L1:Hid (Lc (eY W G R) w1 w.heap.size (zW op (a:Int) b) 105):=O▸Lc.new w LT _ _;clear O;obtain⟨S,hS⟩:=eX (λX:World=>zE X f 2 (zS E nu sc)/\zE X w.heap.size 1 (zI (a:Int)));have mk:∀X:World,zE X f 2 (zS E nu sc)->zE X w.heap.size 1 (zI (a:Int))->S X:=λX q1 q2=>hS▸⟨q1,q2⟩;have un:∀X:World,S X->zE X f 2 (zS E nu sc)/\zE X w.heap.size 1 (zI (a:Int)):=λX q=>by rw[hS]at q;exact q
 have S1:Hid (S w1):=mk _ (di c2 B1) (L1.cell (j:=1) rfl);have y0:=λx:Wd S=>(un _ x.ok).1;have y1:=λx:Wd S=>(un _ x.ok).2;have MK:=cO mk;clear hS c2 un mk;haveI:Nonempty (Wd S):=⟨⟨w1,S1⟩⟩
 refine uq S 7 3 (MK _ (y0 ⟨_,S1⟩) (y1 ⟨_,S1⟩)) ?_;simp only[List.take,List.drop];repeat(go_big_quiet_step(fail))
 refine wpQuiet_nil ?_;refine dI ?_;clear y0 y1;go_wp2_with(go_at_call 161;refine cA (PO _ B1.drew) ?_;rintro e J ⟨rfl,D,I,d4,k4⟩;have L4:=cO ((L1.drew).kept k4);have U4:=cO (UP D J I d4);have F:=cO I;have D4:=cO d4;have K4:=cO ((Kp.cY B1.drew).trans k4);clear I d4 k4)
 refine⟨MK _ U4.1 (L4.cell (j:=1) rfl),?_⟩;refine dI ?_;go_wp2;refine⟨MK _ U4.1 (L4.cell (j:=1) rfl),?_⟩;refine dI ?_;go_wp2;have B5:Hid (zB J (J.alloc (.cells #[zI v.k,zI (hC G v),.string ⟨v.s.toArray⟩,t] 196))):=ba;refine⟨MK _ (di U4.1 B5) (di (L4.cell (j:=1) rfl) B5),?_⟩;refine ej ?_;obtain⟨u,hu⟩:=U4.2.2.1;have cu:=di hu B5;have fu:(J.alloc (.cells #[zI v.k,zI (hC G v),.string ⟨v.s.toArray⟩,t] 196)).frozen? (zA E a)=false:=(dA (a:=(zA E a)) (gH _ _ _ (dy _ _ hu))).trans U4.2.2.2;clear hu;go_wp2;go_returns;have e4:dV (hd D) v=t:=by rw[HT];unfold dV;rw[D4 (1,_,0) dC,D4 (2,_,0) dC,D4 (4,_,0) dC]
 have own:(J.alloc (.cells #[zI v.k,zI (hC G v),.string ⟨v.s.toArray⟩,t] 196)).ownsRow cJ 196 4 (zS J.heap.size 1 1) 1 (vi G (hd D) v):=by have:=jt (base:=cJ) (e:=196) (size:=4) J #[zI v.k,zI (hC G v),.string ⟨v.s.toArray⟩,t] 1 F.bs (by unfold maxLen;omega) rfl;unfold vi;rw[e4];exact this
 have i5:=F.im.Ii (v:=v) (r:=⟨zS J.heap.size 1 1,1,vi G (hd D) v⟩) B5 SL own (λk hk=>by cases hk;exact cE _) (.inl ⟨rfl,rfl⟩);obtain⟨R6,i6,d6,_⟩:=i5.Cd (m:=m) (a:=a) (x:=(W.dZ 1).vars.length) F.cQ F.len F.gd (by show a<(W.dZ 1).db.da.length;rw[LS];exact HA) (b:=E) (cap:=sc) (by rw[dh _ _ dC];show(D (7,W.cQ,m)).v=.slice _ (W.dZ 1).db.da.length _;rw[LS,<-af];exact U4.2.1) (by rw[dD]);rw[wx,jL]at i6;rw[wx]at d6;have hh:∀t,t.1≠0->t.1≠8->hd R6 t=hd R t:=λt h0 h8=>by rw[d6,dL (λe=>h0 (by rw[e]))];exact D4 t h8
 refine⟨⟨_,rfl⟩,R6,i6,hh,?_⟩;have fq:eY (W.dZ 1) G D E:=.row (t:=(7,W.cQ,m)) ⟨F.cQ,by show m<(W.dZ 1).co.cy.length;rw[F.len];omega,F.Wk⟩ (by unfold hd;rw[U4.2.1];rfl);refine(K4.trans ((Kp.alloc _).trans (Kp.setCell (a:=(zA E a)) _ fq))).sub λk hk=>?_;obtain⟨s,hs,e⟩|q:=hk
 .replace hs:=(nS s).1 ((kV (W:={W.dZ 1 with vars:=(W.dZ 1).vars++[v]}) (f:={(W.dZ 1).db with da:=(W.dZ 1).db.da.set a (W.dZ 1).vars.length}) F.cQ (by show 0<(W.dZ 1).co.cy.length;rw[F.len];omega) rfl s).1 hs);rw[d6]at e;obtain hs|hs:=hs
  .have ne:s≠(0,(W.dZ 1).vars.length,0):=λq=>by subst q;exact gE _ hs.1
   rw[dL ne]at e;exact .inl (.row hs e)
  .subst hs;rw[jL]at e;cases e;exact .inr K4.size
 .exact .inl (.inr q)
def Im.mP(h:Im cJ W G R H w):∃f cap,hd R (9,0,0)=.slice (some ⟨f,0,none⟩) 1 cap/\(∀j u,(gF W G H (hd R) (9,0,0))[j]?=some u->w.cell? ⟨f,j,none⟩=some u)/\(∀j,w.frozen? ⟨f,j,none⟩=false)/\eY W G R f:=by have D:eW W (9,0,0):=rfl;obtain⟨f,F,E,_,I,J,_⟩:=h.eA D (h.ij _ D dC) dC;exact⟨f,F,E,I,J,.row D (by unfold hd;rw[E];rfl)⟩
structure Nm(W:St)(G:Gh):Prop where
 qT:∀i j,i<W.tables.length→j<W.tables.length→G.ij 1 i=G.ij 1 j→i=j
 fn:∀i j,i<W.funcs.length→j<W.funcs.length→G.ij 2 i=G.ij 2 j→i=j
 co:∀i j,i<W.cS.length→j<W.cS.length→G.ij 4 i=G.ij 4 j→i=j
def Jb(h:Nm W G){x:Vl}(E:gG W.sz x)(F:gG W.sz y)(D:x.k=y.k):hC G x=hC G y↔x.n=y.n:=by
 unfold hC;rw[D];split
 .rename_i e;have a:=E.qT (D.trans e);have b:=F.qT e;change 0<=x.n/\x.n<(W.tables.length:Int)at a;change 0<=y.n/\y.n<(W.tables.length:Int)at b;refine⟨λq=>?_,λq=>by rw[q]⟩;have:=h.qT x.n.toNat y.n.toNat cM cM (by exact_mod_cast q);omega
 .split
  .rename_i e;have a:=E.fn (D.trans e);have b:=F.fn e;change 0<=x.n/\x.n<(W.funcs.length:Int)at a;change 0<=y.n/\y.n<(W.funcs.length:Int)at b;refine⟨λq=>?_,λq=>by rw[q]⟩;have:=h.fn x.n.toNat y.n.toNat cM cM (by exact_mod_cast q);omega
  .split
   .rename_i e;have a:=E.co (D.trans e);have b:=F.co e;change 0<=x.n/\x.n<(W.cS.length:Int)at a;change 0<=y.n/\y.n<(W.cS.length:Int)at b;refine⟨λq=>?_,λq=>by rw[q]⟩;have:=h.co x.n.toNat y.n.toNat cM cM (by exact_mod_cast q);omega
   .exact j8
def wm(h:Nm W G){x:Vl}(D:gG W.sz x)(E:gG W.sz y):vh (An G x) (An G y)=same y x:=by
 have e:(⟨x.s.toArray⟩:ByteArray).toList=x.s:=by rw[iP]
 have F:(⟨y.s.toArray⟩:ByteArray).toList=y.s:=by rw[iP]
 unfold vh same An;dsimp only;rw[e,F,Bool.eq_iff_iff];simp only[fY,oq];constructor
 .rintro⟨a,b,c⟩;exact⟨⟨a.symm,((Jb h D E a).1 b).symm⟩,c.symm⟩
 .rintro⟨⟨a,b⟩,c⟩;exact⟨a.symm,(Jb h D E a.symm).2 b.symm,c.symm⟩
def Bj(h:Nm W G)(D:gG W.sz k)(V:eO->Value):∀(l:List (Vl×Vl)) (i:Nat),(∀e∈l,gG W.sz e.1/\gG W.sz e.2)->((rA (An G k) (l.map λe=>(An G e.1,Value.agg (vi G V e.2).toArray)) i).map (·.2)).getD Ri=.agg (vi G V (rn.pI l k)).toArray
 |[],_,_=>rfl
 |e::l,i,E=>by
  rw[jP];unfold rA rn.pI;rw[wm h D (E e dC).1];cases same e.1 k
  .exact Bj h D V l (i+1) λe F=>E e (by simp[F])
  .rfl
def IH(h:Nm W G)(D:gG W.sz k)(V:eO->Value):∀(l:List (Vl×Vl)),(∀e∈l,gG W.sz e.1/\gG W.sz e.2)->Cl (An G k) (.agg (vi G V v).toArray) (l.map λe=>(An G e.1,Value.agg (vi G V e.2).toArray))=(rn.put l k v).map λe=>(An G e.1,Value.agg (vi G V e.2).toArray)
 |[],_=>rfl
 |e::l,E=>by
  rw[jP];unfold Cl rn.put;have F:=wm h D (E e dC).1;dsimp only;rw[F];cases I:same e.1 k
  .rw[cK dC,cK dC,jP,IH h D V l λe J=>E e (by simp[J])]
  .rw[cR rfl,cR rfl,jP,I2 (F.trans I)]
def Rz(cJ:Nat)(W:St)(G:Gh)(R:eO->fW)(H:Hi)(w:World)(r:mX)(e:Ending)(w':World):Prop:=(match r.2 with|none=>∃x,e=.returned x|some v=>e=.panicked (BM (jX G (hd R) v)))/\∃R',Im cJ r.1 G R' H w'/\(∀t,t.1≠0->t.1≠8->hd R' t=hd R t)/\Kp (eY W G R) (eY r.1 G R') w w'
def A6(h:W.cQ<W.cS.length)(D:0<W.co.cy.length)(i j:Nat):(W.dZ i).dZ j=W.dZ (i+j):=by have t:=kT h D i;unfold St.dZ at t|-;rw[t.2.2.2,oR h];dsimp only;rw[OE,dX,show min (min (W.db.ops.length-i) W.db.ops.length-j) (W.db.ops.length-i)=W.db.ops.length-(i+j) by omega]
section
variable{tv:Vl}
def Cu.IN{i:Nat}(h:Cu cJ (W.dZ i) G R H m w)(D:W.cQ<W.cS.length)(E:0<W.co.cy.length)(K:i<W.db.ops.length)(J:v=W.db.ops.getD (W.db.ops.length-1-i) v0):
  zC 161 #[im.ptr (hd R (6,W.cQ,m))] w λe F=>e=.returned (jX G (hd R) v)/\∃R',Cu cJ (W.dZ (i+1)) G R' H m F/\(∀t,t.1≠8->hd R' t=hd R t)/\Kp (eY (W.dZ i) G R) (eY (W.dZ (i+1)) G R') w F:=by
 have t:(W.dZ i).db.ops=W.db.ops.take (W.db.ops.length-i):=by rw[(kT D E i).2.2.2]
 have I:(W.dZ i).db.ops.length=W.db.ops.length-i:=by rw[t,dX];omega
 rw[<-A6 D E];refine h.fU (by rw[I];omega) ?_;rw[J,I,t,cB,cB,jA cM,show W.db.ops.length-i-1=W.db.ops.length-1-i by omega]
def oZ(x:Value):∃q,ptr x=.pointer q:=by unfold ptr;split<;>exact⟨_,rfl⟩
def E6(h:Cu cJ W G R H m w)(nm:Nm W G)(O:∀t∈W.tables,∀e∈t,gG W.sz e.1/\gG W.sz e.2)(h2:2<=W.db.ops.length)(hk:k=W.db.ops.getD (W.db.ops.length-1) v0)(I:tv=W.db.ops.getD (W.db.ops.length-1-1) v0)(aa:gG W.sz k)(ab:gG W.sz tv):
  zC 115 #[mv,im.ptr (hd R (6,W.cQ,m)),.agg (zW op (a:Int) b)] w (Rz cJ W G R H w (if tv.k=4 then ok ((W.dZ 2).ee [rn.pI (W.tables.getD tv.n.toNat []) k])else mW (W.dZ 2) kM)):=by
 obtain⟨f,hf,_⟩:=h.ptr;have hl:0<W.co.cy.length:=by rw[h.len];omega
 have NO:=cO h.cQ;have PA:=cO (λX (hX:zB w X)=>(h.below hX).fU cM hk);have PB:=cO (λK X (c3:Cu cJ (W.dZ 1) G K H m X)=>c3.IN h.cQ hl cM I);obtain⟨tk,ae⟩:∃t,t=dV (hd R) k:=⟨_,rfl⟩
 obtain⟨tt,ac⟩:∃t,t=dV (hd R) tv:=⟨_,rfl⟩
 have th:∀K:eO->fW,(∀t,t.1≠8->hd K t=hd R t)->dV (hd K)=dV (hd R):=λK d=>by funext v;unfold dV;rw[d (1,_,0) dC,d (2,_,0) dC,d (4,_,0) dC]
 have ad:=cO ac;have TH:=cO th;have HF:=cO hf;have af:=(gm (hd R) k).store;have ag:=(gm (hd R) tv).store;rw[hf]at PA|-;unfold jX vq at PA;rw[<-ae]at PA af;rw[<-ac]at ag;have LT:=cO (λX (hX:zB w X)=>λk (hk:eY W G R k)=>eY.lt (h.below hX).im hk);clear h hf ae ac hk I h2 hl th;go_enter func115,ntmps115;go_upto_region 2 with(first
  |(go_at_call 161;refine cA (PA _ (ba)) ?_;rintro e w3 ⟨rfl,K,c3,d3,k3⟩;have D3:=cO d3;have K3:=cO ((Kp.alloc _).trans k3);have P3:=PB K w3 c3;rw[d3 (6,W.cQ,m) dC,HF]at P3;unfold jX vq at P3;rw[TH K d3,<-ad]at P3;have PO:=cO P3;clear P3 c3 d3 k3 PA)
  |(go_at_call 161;refine cA PO ?_;rintro e w4 ⟨rfl,F,c4,d4,k4⟩;have C4:=cO c4;have D4:=cO (λt I=>(d4 t I).trans (D3 t I));have K4:=cO (K3.trans k4);clear c4 d4 k4))
 refine dx λD J=>?_;have B5:Hid (zB w4 D):=J▸(ba).alloc dC _;have LK:Hid (Lc (λ_=>False) D w4.heap.size #[zI k.k,zI (hC G k),.string ⟨k.s.toArray⟩,tk] 132):=J▸(Lc.new w4 (λ_ h=>h.elim) _ _).kept (Kp.alloc _);have LV:Hid (Lc (λ_=>False) D (w4.heap.size+1) #[zI tv.k,zI (hC G tv),.string ⟨tv.s.toArray⟩,tt] 132):=by rw[J];have:=Lc.new (S:=λ_=>False) (w4.alloc (.cells #[zI k.k,zI (hC G k),.string ⟨k.s.toArray⟩,tk] 132)) (λ_ h=>h.elim) #[zI tv.k,zI (hC G tv),.string ⟨tv.s.toArray⟩,tt] 132;rwa[show(w4.alloc (.cells #[zI k.k,zI (hC G k),.string ⟨k.s.toArray⟩,tk] 132)).heap.size=w4.heap.size+1 by simp]at this
 clear J;have K5:=cO (K4.trans (Kp.cY B5));have C5:=cO (C4.below B5);obtain⟨S,hS⟩:=eX (Below D.heap.size D);have L:∀X,S X->zB D X:=λX q=>by rw[hS]at q;exact q
 have y0:=λx:Wd S=>di (LK.cell (j:=0) rfl) (L _ x.ok);have y1:=λx:Wd S=>di (LK.cell (j:=1) rfl) (L _ x.ok);have y2:=λx:Wd S=>di (LK.cell (j:=2) rfl) (L _ x.ok);have z0:=λx:Wd S=>di (LV.cell (j:=0) rfl) (L _ x.ok);have z1:=λx:Wd S=>di (LV.cell (j:=1) rfl) (L _ x.ok);have z2:=λx:Wd S=>di (LV.cell (j:=2) rfl) (L _ x.ok);have z3:=λx:Wd S=>di (LV.cell (j:=3) rfl) (L _ x.ok);have MK:Hid (∀X,zB D X->S X):=λX q=>hS▸q;clear hS L;haveI:Nonempty (Wd S):=⟨⟨D,MK _ (cN _ _)⟩⟩
 refine Cg S [0,1,6,7] [2,3,4,5,8] [9] (MK _ (cN _ _).drew) ?_;simp only[pick,ey,eB,eL,eM,dt,dG];repeat(go_big_quiet_step(fail))
 refine wpQuiet_nil ?_;clear y0 y1 y2 z0 z1 z2 z3;by_cases h4:tv.k=4
 .rw[cR h4];obtain⟨o0,o1⟩:=ab.qT h4;obtain⟨n,hn⟩:=eX tv.n.toNat;have nl:n<W.tables.length:=by
   have:tv.n<(W.tables.length:Int):=o1;omega
  have t1:eW (W.dZ 2) (1,n,0):=⟨nl,rfl⟩
  obtain⟨q,cq,hq,_,cc,_⟩:=C5.im.eA t1 (C5.im.ij _ t1 dC) dC;have ah:=cc 0 _ rfl;have te:tt=.iface 226 (zP q):=by rw[ad];unfold dV;rw[cR h4,<-hn,<-D4 (1,n,0) dC];unfold hd;rw[hq];rfl
  have TY:=cO (λX=>wN (w:=X) tv.k (hC G tv) ⟨tv.s.toArray⟩ (some (zA q 0)));unfold vq at TY;rw[te,<-hn];have ma:=(C5.im.pZ n nl).1;have fl:=Bj nm aa (hd F) (W.tables.getD n []) 0 (by rw[cB,cG nl];exact O _ (fA nl));have LO:Hid (∀X,zB D X->(Instr.lookup 227 (.map (some (G.map n))) (.agg #[zI k.k,zI (hC G k),.string ⟨k.s.toArray⟩]) false).run Tryz.prog X=.ok (jX G (hd F) (rn.pI (W.tables.getD n []) k)) X):=λX hX=>by
   have:zp X (G.map n) (rB (W.dZ 2) G (hd F) n):=by obtain⟨es,c,q1,q2⟩:=ma;exact⟨es,c,by rw[hX.block _ (dS.1 q1).1];exact q1,q2⟩
   refine(Hc this (An G k)).trans ?_;rw[show rB (W.dZ 2) G (hd F) n=(W.tables.getD n []).map λe=>(An G e.1,Value.agg (vi G (hd F) e.2).toArray)from rfl,fl];rfl
  have PU:Hid (∀X,zB D X->zC 159 #[zP f,jX G (hd F) (rn.pI (W.tables.getD n []) k)] X λe w'=>(∃x,e=.returned x)/\∃R' u,Im cJ ((W.dZ 2).ee [rn.pI (W.tables.getD n []) k]) G R' H w'/\hd R'=gy (hd F) (8,W.cQ,m) u/\Kp (eY (W.dZ 2) G F) (eY ((W.dZ 2).ee [rn.pI (W.tables.getD n []) k]) G R') X w'):=λX hX=>by have:=(C5.below hX).push (rn.pI (W.tables.getD n []) k);rwa[show hd F (6,(W.dZ (1+1)).cQ,m)=hd R (6,W.cQ,m)from D4 _ dC,HF]at this
  obtain⟨val,M⟩:∃x,x=jX G (hd F) (rn.pI (W.tables.getD n []) k):=⟨_,rfl⟩
  rw[<-M]at LO PU;refine dI ?_;clear af ag te fl ma cc hq t1 nl hn o0 o1 M h4 ab aa O nm;go_wp2_with(go_at_call 163;refine cA (TY _) ?_;rintro e w6 ⟨rfl,b6⟩;have E:=cO ((cN D.heap.size D).drew.trans b6);clear b6)
  refine⟨MK _ E,?_⟩;have c6:=di ah E;have lk:=LO _ E;clear ah;refine dI ?_;go_wp2;refine⟨MK _ E,?_⟩;refine dI ?_;go_wp2;refine⟨MK _ E,?_⟩;refine dI ?_;go_wp2;refine⟨MK _ E,?_⟩;refine dI ?_;go_wp2;refine⟨MK _ E,?_⟩;refine ej ?_;go_wp2_with(go_at_call 159;refine cA (PU _ E) ?_;rintro e w7 ⟨⟨x,rfl⟩,R7,u7,i7,d7,k7⟩;have I7:=cO i7;have D7:=cO d7;have K7:=cO ((K5.trans (Kp.cY E)).trans k7);clear i7 d7 k7)
  go_returns;exact⟨⟨_,rfl⟩,R7,I7,λt _ I=>by rw[D7,dL (λe=>I (by rw[e]))];exact D4 t I,K7⟩
 .rw[cK h4];have tn:tt=.nilIface\/∃q,tt=.iface 140 (.pointer q)\/tt=.iface 79 (.pointer q):=by
   rw[ad];unfold dV;rw[cK h4];split
   .obtain⟨q,e⟩:=oZ (hd R (2,tv.n.toNat,0));exact .inr ⟨q,.inl (by rw[e])⟩
   .split
    .obtain⟨q,e⟩:=oZ (hd R (4,tv.n.toNat,0));exact .inr ⟨q,.inr (by rw[e])⟩
    .exact .inl rfl
  have TN:=cO (λX=>yj (w:=X) tv.k (hC G tv) ⟨tv.s.toArray⟩ tn);unfold vq at TN;refine dI ?_;clear tn h4 ab aa O nm;go_wp2_with(go_at_call 163;refine cA (TN _) ?_;rintro e w6 ⟨rfl,b6⟩;have E:=cO ((cN D.heap.size D).drew.trans b6);clear b6)
  refine⟨rfl,rfl,F,(C5.below E).im,λt _ I=>D4 t I,K5.trans (Kp.cY E)⟩
def uD(h:j≠r):(w.heap.setIfInBounds r o)[j]?=w.heap[j]?:=by rw[Ik (λe=>h e.symm)]
def Im.Hb(h:Im cJ W G R H w)(L:n<W.tables.length)(O:zp {w with heap:=w.heap.setIfInBounds (G.map n) o} (G.map n) (l.map λe=>(An G e.1,Value.agg (vi G (hd R) e.2).toArray))):
  Im cJ {W with tables:=W.tables.set n l} G R H {w with heap:=w.heap.setIfInBounds (G.map n) o}:=by
 have E:∀s,eW {W with tables:=W.tables.set n l} s↔eW W s:=by intro s;unfold eW;rw[df];exact j8
 refine⟨?_,λs F J=>?_,h.var,λs F J=>?_,λi I=>?_,λi j I M=>?_,h.fP,h.lone⟩
 .refine(h.eH.kept (w':={w with heap:=w.heap.setIfInBounds (G.map n) o}) (row:=some (G.map n)) ⟨rfl,rfl,rfl,dC,λk _ (hk:some k≠some (G.map n))=>uD (λe=>hk (ga some e))⟩ λt K=>.inr ?_).sub λs F=>(E s).1 F;exact(h.pZ n L).2.2 t K
 .rw[h.ij s ((E s).1 F) J];rfl
 .rw[h.cells s ((E s).1 F) J];rfl
 .have D:i<W.tables.length:=by have:i<(W.tables.set n l).length:=I;rwa[df]at this
  refine⟨?_,(h.pZ i D).2.1,λt K=>(h.pZ i D).2.2 t ((E t).1 K)⟩;by_cases e:i=n
  .subst e;unfold rB;dsimp only;rw[ez _ _ _ _ D];exact O
  .obtain⟨es,c,q1,q2⟩:=(h.pZ i D).1;refine⟨es,c,by rw[uD (λq=>e (h.wj _ _ D L q))];exact q1,?_⟩;rw[q2];unfold rB;dsimp only;rw[dR _ _ _ _ _ (λq=>e q.symm)]
 .rw[df]at I M;exact h.wj i j I M
def Kp.Hb{S:Nat->Prop}(D:S r):Kp S S w {w with heap:=w.heap.setIfInBounds r o} :=
 ⟨rfl,rfl,rfl,dC,λk _ E=>uD (λe=>E (e▸D)),λ_ _ h=>h⟩
def eY.yh(h:eY {W with tables:=W.tables.set n l} G R j):eY W G R j:=by
 obtain⟨s,D,e⟩|⟨i,E,e⟩:=h
 .refine .row ?_ e;unfold eW at D|-;rw[df]at D;exact D
 .rw[df]at E;exact .inr ⟨i,E,e⟩
def MT(h:¬tv.k=4){V:eO->Value}:dV V tv=.nilIface\/∃q,dV V tv=.iface 140 (.pointer q)\/dV V tv=.iface 79 (.pointer q):=by
 unfold dV;rw[cK h];split
 .obtain⟨q,e⟩:=oZ (V (2,tv.n.toNat,0));exact .inr ⟨q,.inl (by rw[e])⟩
 .split
  .obtain⟨q,e⟩:=oZ (V (4,tv.n.toNat,0));exact .inr ⟨q,.inr (by rw[e])⟩
  .exact .inl rfl
def wU(h:Cu cJ W G R H m w)(nm:Nm W G)(ae:∀t∈W.tables,∀e∈t,gG W.sz e.1/\gG W.sz e.2)(h2:3<=W.db.ops.length)(hv:v=W.db.ops.getD (W.db.ops.length-1) v0)(hk:k=W.db.ops.getD (W.db.ops.length-1-1) v0)(D:tv=W.db.ops.getD (W.db.ops.length-1-2) v0)(af:gG W.sz k)(ag:gG W.sz tv):
  zC 116 #[mv,im.ptr (hd R (6,W.cQ,m)),.agg (zW op (a:Int) b)] w (Rz cJ W G R H w ((W.dZ 3).store tv k v)):=by
 obtain⟨f,hf,_⟩:=h.ptr;have hl:0<W.co.cy.length:=by rw[h.len];omega
 have PA:=cO (λX (hX:zB w X)=>(h.below hX).fU cM hv);have PB:=cO (λO X (c3:Cu cJ (W.dZ 1) G O H m X)=>c3.IN h.cQ hl cM hk);have PC:=cO (λO X (c3:Cu cJ (W.dZ 2) G O H m X)=>c3.IN h.cQ hl cM D);obtain⟨tx,aa⟩:∃t,t=dV (hd R) v:=⟨_,rfl⟩
 obtain⟨tk,ab⟩:∃t,t=dV (hd R) k:=⟨_,rfl⟩
 obtain⟨tt,ac⟩:∃t,t=dV (hd R) tv:=⟨_,rfl⟩
 have th:∀O:eO->fW,(∀t,t.1≠8->hd O t=hd R t)->dV (hd O)=dV (hd R):=λO d=>by funext v;unfold dV;rw[d (1,_,0) dC,d (2,_,0) dC,d (4,_,0) dC]
 have ak:=cO aa;have al:=cO ab;have ad:=cO ac;have TH:=cO th;have HF:=cO hf;have stx:=(gm (hd R) v).store;have ah:=(gm (hd R) k).store;have ai:=(gm (hd R) tv).store;rw[hf]at PA|-;unfold jX vq at PA;rw[<-aa]at PA stx;rw[<-ab]at ah;rw[<-ac]at ai;have am:=cO af;have an:=cO ag;have NM:=cO nm;have ap:=cO ae;clear h hf aa ab ac hv hk D h2 hl th nm ae af ag;have d1:∀(X:World)(c0 c1 c2 c3:Value)(T:TypeId)(o1 o2:Obj),((((X.alloc (.cells #[c0,c1,c2,c3] T)).alloc o1).alloc o2).cell? (zA X.heap.size 3)).isSome=true:=λX c0 c1 c2 c3 T o1 o2=>by rw[(((Lc.new X (S:=λ_=>False) (λ_ h=>h.elim) #[c0,c1,c2,c3] T).alloc o1).alloc o2).cell (j:=3) rfl];rfl
 have d2:∀(X:World)(c0 c1 c2:Array Value)(T0 T1 T2:TypeId),(((X.alloc (.cells c0 T0)).alloc (.cells c1 T1)).alloc (.cells c2 T2)).frozen? (zA X.heap.size 3)=false:=λX c0 c1 c2 T0 T1 T2=>by exact(((Lc.new X (S:=λ_=>False) (λ_ h=>h.elim) c0 T0).alloc _).alloc _).free 3
 go_enter func116,ntmps116;go_upto_region 2 with(first
  |(go_at_call 161;refine cA (PA _ (ba)) ?_;rintro e w2 ⟨rfl,R2,c2,d2,k2⟩;have D2:=cO d2;have K2:=cO ((Kp.alloc _).trans k2);have P2:=PB R2 w2 c2;rw[d2 (6,W.cQ,m) dC,HF]at P2;unfold jX vq at P2;rw[TH R2 d2,<-al]at P2;have PO:=cO P2;clear P2 c2 d2 k2 PA)
  |(go_at_call 161;refine cA PO ?_;rintro e w3 ⟨rfl,O,c3,d3,k3⟩;have D3:=cO (λt D=>(d3 t D).trans (D2 t D));have K3:=cO (K2.trans k3);have P3:=PC O w3 c3;rw[D3 (6,W.cQ,m) dC,HF]at P3;unfold jX vq at P3;rw[TH O D3,<-ad]at P3;have PP:=cO P3;clear P3 c3 d3 k3 PO)
  |(go_at_call 161;refine cA PP ?_;rintro e w4 ⟨rfl,R4,c4,d4,k4⟩;have C4:=cO c4;have D4:=cO (λt D=>(d4 t D).trans (D3 t D));have K4:=cO (K3.trans k4);clear c4 d4 k4))
 refine dx λF L=>?_;have e1:∀(X:World)(o:Obj),(X.alloc o).heap.size=X.heap.size+1:=λX o=>dC;have B5:Hid (zB w4 F):=L▸((ba).alloc dC _).alloc iY _;have LX:Hid (Lc (λ_=>False) F w4.heap.size #[zI v.k,zI (hC G v),.string ⟨v.s.toArray⟩,tx] 132):=L▸((Lc.new w4 (λ_ h=>h.elim) _ _).alloc _).alloc _;have LK:Hid (Lc (λ_=>False) F (w4.heap.size+1) #[zI k.k,zI (hC G k),.string ⟨k.s.toArray⟩,tk] 132):=by rw[L];have:=(Lc.new (S:=λ_=>False) (w4.alloc (.cells #[zI v.k,zI (hC G v),.string ⟨v.s.toArray⟩,tx] 132)) (λ_ h=>h.elim) #[zI k.k,zI (hC G k),.string ⟨k.s.toArray⟩,tk] 132).alloc (.cells #[zI tv.k,zI (hC G tv),.string ⟨tv.s.toArray⟩,tt] 132);rwa[e1]at this
 have LV:Hid (Lc (λ_=>False) F (w4.heap.size+1+1) #[zI tv.k,zI (hC G tv),.string ⟨tv.s.toArray⟩,tt] 132):=by rw[L];have:=Lc.new (S:=λ_=>False) ((w4.alloc (.cells #[zI v.k,zI (hC G v),.string ⟨v.s.toArray⟩,tx] 132)).alloc (.cells #[zI k.k,zI (hC G k),.string ⟨k.s.toArray⟩,tk] 132)) (λ_ h=>h.elim) #[zI tv.k,zI (hC G tv),.string ⟨tv.s.toArray⟩,tt] 132;rwa[e1,e1]at this
 clear L e1;have K5:=cO (K4.trans (Kp.cY B5));have C5:=cO (C4.below B5);have y0:=LK.cell (j:=0) rfl;have RA:=cO (λX=>jR (w:=X) ⟨#[105,110,100,101,120]⟩);unfold vq at RA;clear stx ah ai d1 d2;by_cases I:k.k=0
 .have e:(W.dZ 3).store tv k v=mW (W.dZ 3) kM:=by unfold St.store;rw[cK (by simp[I])]
  have E:=cO e;have b0:((k.k:Int)==0)=true:=by rw[I];rfl
  clear e I;go_wp2_with(go_at_call 164;refine cA (RA _) ?_;rintro e w6 ⟨rfl,b6⟩;have J:=cO b6;clear b6)
  refine⟨rfl,?_⟩;rw[E];exact⟨rfl,R4,(C5.below J).im,λt _ D=>D4 t D,K5.trans (Kp.cY J)⟩
 .have b0:((k.k:Int)==0)=false:=by simpa using I
  have aq:=cO I;clear I;go_upto_region 4 with fail;clear y0 b0;obtain⟨S,hS⟩:=eX (Below F.heap.size F);have K:∀X,S X->zB F X:=λX q=>by rw[hS]at q;exact q
  have y0:=λx:Wd S=>di (LK.cell (j:=0) rfl) (K _ x.ok);have y1:=λx:Wd S=>di (LK.cell (j:=1) rfl) (K _ x.ok);have y2:=λx:Wd S=>di (LK.cell (j:=2) rfl) (K _ x.ok);have x0:=λx:Wd S=>di (LX.cell (j:=0) rfl) (K _ x.ok);have x1:=λx:Wd S=>di (LX.cell (j:=1) rfl) (K _ x.ok);have x2:=λx:Wd S=>di (LX.cell (j:=2) rfl) (K _ x.ok);have x3:=λx:Wd S=>di (LX.cell (j:=3) rfl) (K _ x.ok);have z0:=λx:Wd S=>di (LV.cell (j:=0) rfl) (K _ x.ok);have z1:=λx:Wd S=>di (LV.cell (j:=1) rfl) (K _ x.ok);have z2:=λx:Wd S=>di (LV.cell (j:=2) rfl) (K _ x.ok);have z3:=λx:Wd S=>di (LV.cell (j:=3) rfl) (K _ x.ok);have MK:Hid (∀X,zB F X->S X):=λX q=>hS▸q;clear hS K;haveI:Nonempty (Wd S):=⟨⟨F,MK _ (cN _ _)⟩⟩
  refine Cg S [0,5,6,7] [1,2,3,4] [8] (MK _ (cN _ _).drew) ?_;simp only[pick,ey,eB,eL,eM,dt,dG];repeat(go_big_quiet_step(fail))
  refine wpQuiet_nil ?_;clear y0 y1 y2 z0 z1 z2 z3 x0 x1 x2 x3;by_cases h4:tv.k=4
  .have e:(W.dZ 3).store tv k v=ok {W.dZ 3 with tables:=W.tables.set tv.n.toNat (rn.put (W.tables.getD tv.n.toNat []) k v)}:=by unfold St.store;rw[cR ⟨h4,aq⟩];rfl
   rw[e];obtain⟨o0,o1⟩:=an.qT h4;obtain⟨n,hn⟩:=eX tv.n.toNat;have nl:n<W.tables.length:=by have:tv.n<(W.tables.length:Int):=o1;omega
   have NL:=cO nl;have t1:eW (W.dZ 3) (1,n,0):=⟨nl,rfl⟩
   obtain⟨q,cq,hq,_,cc,_⟩:=C5.im.eA t1 (C5.im.ij _ t1 dC) dC;have aj:=cc 0 _ rfl;have te:tt=.iface 226 (zP q):=by rw[ad];unfold dV;rw[cR h4,<-hn,<-D4 (1,n,0) dC];unfold hd;rw[hq];rfl
   have TY:=cO (λX=>wN (w:=X) tv.k (hC G tv) ⟨tv.s.toArray⟩ (some (zA q 0)));unfold vq at TY;rw[te,<-hn];have PP:Hid _:=IH (v:=v) NM am (hd R4) (W.tables.getD n []) (by rw[cB,cG nl];exact ap _ (fA nl));have EX:=cO (show dV (hd R4) v=tx by rw[ak,TH R4 D4]);refine dI ?_;clear te cc hq t1 nl hn o0 o1 h4 e;go_wp2_with(go_at_call 163;refine cA (TY _) ?_;rintro e w6 ⟨rfl,b6⟩;have J:=cO ((cN F.heap.size F).drew.trans b6);clear b6)
   refine⟨MK _ J,?_⟩;have c6:=di aj J;have C6:=cO (C5.below J);obtain⟨o,mu,MA⟩:=Gk (C6.im.pZ n NL).1 (An G k) (.agg (vi G (hd R4) v).toArray);replace MA:=cO MA;have mu:(Instr.mapUpdate 227 (.map (some (G.map n))) (.agg #[zI k.k,zI (hC G k),.string ⟨k.s.toArray⟩]) (.agg #[zI v.k,zI (hC G v),.string ⟨v.s.toArray⟩,tx])).run Tryz.prog w6=.ok () {w6 with heap:=w6.heap.setIfInBounds (G.map n) o}:=by rw[<-EX];exact mu
   clear aj;refine dI ?_;go_wp2;refine⟨MK _ J,?_⟩;refine dI ?_;go_wp2;refine⟨MK _ J,?_⟩;refine dI ?_;go_wp2;refine⟨MK _ J,?_⟩;refine ej ?_;go_wp2;go_returns;have M:=MA;rw[show rB (W.dZ 3) G (hd R4) n=(W.tables.getD n []).map λe=>(An G e.1,Value.agg (vi G (hd R4) e.2).toArray)from rfl,PP]at M;exact⟨⟨_,rfl⟩,R4,C6.im.Hb (n:=n) NL M,λt _ D=>D4 t D,((K5.trans (Kp.cY J)).trans (Kp.Hb (.inr ⟨n,NL,rfl⟩))).sub λk hk=>.inl (eY.yh (W:=W.dZ 3) hk)⟩
  .have e:(W.dZ 3).store tv k v=mW (W.dZ 3) kM:=by unfold St.store;rw[cK (λq=>h4 q.1)]
   rw[e];have tn:tt=.nilIface\/∃q,tt=.iface 140 (.pointer q)\/tt=.iface 79 (.pointer q):=by rw[ad];exact MT h4
   have TN:=cO (λX=>yj (w:=X) tv.k (hC G tv) ⟨tv.s.toArray⟩ tn);unfold vq at TN;refine dI ?_;clear tn h4 e;go_wp2_with(go_at_call 163;refine cA (TN _) ?_;rintro e w6 ⟨rfl,b6⟩;have J:=cO ((cN F.heap.size F).drew.trans b6);clear b6)
   refine⟨rfl,rfl,R4,(C5.below J).im,λt _ D=>D4 t D,K5.trans (Kp.cY J)⟩
def Cu.VB(h:Cu cJ W G R H m w)(L:q<W.db.ops.length)(M:v=W.db.ops.getD q v0):∃f I O,im.ptr (hd R (6,W.cQ,m))=.pointer (some ⟨f,0,none⟩)/\w.cell? ⟨f,3,none⟩=some (.slice (some ⟨I,0,none⟩) W.db.ops.length O)/\∀r,r<4->w.cell? ⟨I,q*4+r,none⟩=(vi G (hd R) v)[r]?:=by obtain⟨t6,E,D,c8,b,cap,av,cv,h6,h8,ca,cf⟩:=h.im.db h.cQ h.len h.gd;obtain⟨b8,J,K,_,aa⟩:=h.im.eH.uE E (by rw[D];omega);have F:=K;rw[D,h8]at F;simp only[de]at F;obtain⟨rfl,_,rfl⟩:=F;refine⟨b,b8,cv,by unfold hd;rw[h6];rfl,ca,λr hr=>?_⟩;have:=kh (c:=4) (f:=vi G (hd R)) (λ_=>rfl) v0 W.db.ops q r L hr;rw[<-c8,<-M]at this;rw[<-this,cG (by rw[(h.im.eH.own _ E).1,D];show _<W.db.ops.length*4;omega)];exact h.im.eH.cell E K (by rw[D];show _<W.db.ops.length*4;omega) (cG _)
def E7(h:Cu cJ W G R H m w)(nm:Nm W G)(aa:∀t∈W.tables,∀e∈t,gG W.sz e.1/\gG W.sz e.2)(h2:3<=W.db.ops.length)(hv:v=W.db.ops.getD (W.db.ops.length-1) v0)(M:k=W.db.ops.getD (W.db.ops.length-1-1) v0)(O:tv=W.db.ops.getD (W.db.ops.length-1-2) v0)(ab:gG W.sz k)(ac:gG W.sz tv):
  zC 114 #[mv,im.ptr (hd R (6,W.cQ,m)),.agg (zW op (a:Int) b)] w (Rz cJ W G R H w (match (W.dZ 3).store tv k v with
   |(W,none)=>ok (W.ee [tv])
   |r=>r)):=by
 obtain⟨r,hr⟩:=eX ((match (W.dZ 3).store tv k v with|(W,none)=>ok (W.ee [tv])|r=>r):mX);rw[<-hr];have HR:=cO hr;clear hr;obtain⟨q,hq⟩:∃q,W.db.ops.length=q+3:=⟨W.db.ops.length-3,cM⟩
 obtain⟨f,ob,oc,hf,c3,cl⟩:=h.VB (v:=tv) (q:=q) cM (by rw[O,hq];rfl);have hl:0<W.co.cy.length:=by rw[h.len];omega
 have C3:Hid (∀l R7 X,Im cJ {W.dZ 3 with tables:=l} G R7 H X->w.heap.size<=X.heap.size->Cu cJ {W.dZ 3 with tables:=l} G R7 H m X):=λl R7 X i hX=>by
  have t:=kT h.cQ hl 3;refine⟨i,cV h.bs hX,by show W.cQ<(W.dZ 3).cS.length;rw[t.2.1];exact h.cQ,t.2.2.1.trans h.len,?_,?_⟩
  .show(W.dZ 3).db.guard=false;rw[t.2.2.2];exact h.gd
  .show(W.dZ 3).db.ops.length<=200000;rw[t.2.2.2];have:=h.ops;show(W.db.ops.take _).length<=_;rw[dX];omega
 have F:=cO (λX (hX:zB w X)=>wU (mv:=mv) (op:=op) (a:=a) (b:=b) (h.below hX) nm aa h2 hv M O ab ac);obtain⟨tt,D⟩:∃t,t=dV (hd R) tv:=⟨_,rfl⟩
 have LT:=cO (λk (M:eY W G R k)=>eY.lt h.im M);have y0:=cl 0 cM;have y1:=cl 1 cM;have y2:=cl 2 cM;have y3:zE w ob (q*4+3) tt:=D▸cl 3 cM;have st:=(gm (hd R) tv).store;have hb:=h.ops;have HF:=cO hf;have ad:=cO D;rw[<-D]at st;rw[hf]at F|-;rw[hq]at c3 hb;replace y0:zE w ob (q*4) (zI tv.k):=y0;replace y1:zE w ob (q*4+1) (zI (hC G tv)):=y1;replace y2:zE w ob (q*4+2) (.string ⟨tv.s.toArray⟩):=y2;clear h hf D hv M O h2 hl cl hq nm aa ab ac;go_enter func114,ntmps114;go_upto_region 1 with fail;refine dx λw1 I=>?_;have J:Hid (zB w w1):=I▸ba;have L1:Hid (Lc (eY W G R) w1 w.heap.size (zW op (a:Int) b) 105):=I▸Lc.new w LT _ _;clear I;obtain⟨S,hS⟩:=eX (Below w1.heap.size w1);have un:∀X,S X->zB w1 X:=λX q=>by rw[hS]at q;exact q
 have x0:=λx:Wd S=>di (di y0 J) (un _ x.ok);have x1:=λx:Wd S=>di (di y1 J) (un _ x.ok);have x2:=λx:Wd S=>di (di y2 J) (un _ x.ok);have x3:=λx:Wd S=>di (di y3 J) (un _ x.ok);have x4:=λx:Wd S=>di (di c3 J) (un _ x.ok);have MK:Hid (∀X,zB w1 X->S X):=λX q=>hS▸q;clear hS un y0 y1 y2 y3 c3;haveI:Nonempty (Wd S):=⟨⟨w1,MK _ (cN _ _)⟩⟩
 refine uq S 12 1 (MK _ (cN _ _).drew) ?_;simp only[List.take,List.drop];repeat(go_big_quiet_step(fail))
 refine wpQuiet_nil ?_;clear x0 x1 x2 x3 x4;refine dI ?_;go_wp2;refine⟨MK _ ((cN _ _).drew.alloc (cE _) _),?_⟩;refine ej ?_;go_upto_region 2 with fail;refine dx λw2 K=>?_;have C2:Hid (zB w1 w2):=K▸((cN _ _).drew.alloc (cE _) _);have L2:Hid (Lc (eY W G R) w2 w1.heap.size #[zI tv.k,zI (hC G tv),.string ⟨tv.s.toArray⟩,tt] 132):=by rw[K];exact Lc.new w1.drew (λk M=>dj (LT k M) J.size) _ _
 clear K;have B2:=cO (iy J C2);have J2:=cO (L1.kept (Kp.cY C2));obtain⟨j0,j1,j2⟩:=J2.c3;clear st;by_cases hc:tv.k=4/\k.k≠0
 .have e:(W.dZ 3).store tv k v=ok {W.dZ 3 with tables:=W.tables.set tv.n.toNat (rn.put (W.tables.getD tv.n.toNat []) k v)}:=by unfold St.store;rw[cR hc];rfl
  rw[e]at F HR;clear e hc;obtain⟨l,hl⟩:=eX (W.tables.set tv.n.toNat (rn.put (W.tables.getD tv.n.toNat []) k v));rw[<-hl]at F HR;clear hl;unfold Rz at F;go_wp2_with(first
   |(go_at_call 116;refine cA (F _ B2) ?_;rintro e w3 ⟨⟨x,rfl⟩,R3,i3,E,L⟩;have D3:=cO E;have K3:=cO ((Kp.cY B2).trans L);have N3:=cO (C3 l R3 w3 i3 (cV B2.size L.size));have M3:=cO (L2.kept L);obtain⟨y0,y1,y2,y3⟩:=M3.c4;have P3:=N3.push tv;rw[show hd R3 (6,({W.dZ 3 with tables:=l}:St).cQ,m)=hd R (6,W.cQ,m)from E _ dC dC,HF]at P3;unfold jX vq at P3;rw[show dV (hd R3) tv=tt by rw[ad];unfold dV;rw[E (1,_,0) dC dC,E (2,_,0) dC dC,E (4,_,0) dC dC]]at P3;replace P3:=cO P3;clear i3 E L)
   |(go_at_call 159;refine cA P3 ?_;rintro e w7 ⟨⟨x,rfl⟩,R7,u7,i7,d7,k7⟩;have I7:=cO i7;have D7:=cO d7;have K7:=cO (K3.trans k7);clear i7 d7 k7))
  go_returns;rw[HR];exact⟨⟨_,rfl⟩,R7,I7,λt h0 O=>by rw[D7,dL (λe=>O (by rw[e]))];exact D3 t h0 O,K7⟩
 .have e:(W.dZ 3).store tv k v=mW (W.dZ 3) kM:=by unfold St.store;rw[cK hc]
  rw[e]at F HR;clear e hc;unfold Rz at F;go_wp2_with(go_at_call 116;refine cA (F _ B2) ?_;rintro e w3 ⟨rfl,R3,i3,E,L⟩;have D3:=cO E;have K3:=cO ((Kp.cY B2).trans L);have I3:=cO i3;clear i3 E L)
  refine⟨rfl,?_⟩;rw[HR];exact⟨rfl,R3,I3,D3,K3⟩
structure Vs(W:St):Prop where
 vars:∀i,i<W.vars.length→gG W.sz (W.vars.getD i v0)
 ops:∀c j,c<W.cS.length→j<(W.cS.getD c dE).cy.length→∀v∈(W.fr c j).ops,gG W.sz v
 body:∀c,c<W.cS.length→gG W.sz (W.cS.getD c dE).body
 yh:∀t∈W.tables,∀e∈t,gG W.sz e.1∧gG W.sz e.2
def Gh.qT(G:Gh)(n r:Nat):Gh:={G with ij:=λs i=>if s=1/\i=n then G.iG+1 else G.ij s i,map:=λi=>if i=n then r else G.map i,iG:=G.iG+1}
def Ja(h:gG W.sz v)(D:n=W.tables.length):hC (G.qT n r) v=hC G v:=by
 unfold hC Gh.qT;dsimp only;split
 .rename_i e;have:0<=v.n/\v.n<(W.tables.length:Int):=h.qT e;rw[cK cM]
 .split
  .rw[cK cM]
  .split
   .rw[cK cM]
   .rfl
def BC(h:gG W.sz v)(D:n=W.tables.length):vi (G.qT n r) (gy Z (1,n,0) u) v=vi G Z v:=by
 unfold vi;rw[Ja h D];congr 4;unfold dV;split
 .rename_i e;have:0<=v.n/\v.n<(W.tables.length:Int):=h.qT e;rw[dL (by simp only[ne_eq,fS,true_and,and_true];omega)]
 .rw[dL dC,dL dC]
def Jd(D:n=W.tables.length):∀l:List Vl,(∀v∈l,gG W.sz v)->l.flatMap (vi (G.qT n r) (gy Z (1,n,0) u))=l.flatMap (vi G Z)
 |[],_=>rfl
 |v::l,h=>by rw[eE,eE,BC (h v dC) D,Jd D l λv E=>h v (by simp[E])]
def KF(h:n=W.tables.length)(D:Vs W){s:eO}(hs:eW W s)(E:s.1≠9)(F:s≠(1,n,0)):gF {W with tables:=W.tables++[[]]} (G.qT n r) H (gy Z (1,n,0) u) s=gF W G H Z s:=by
 obtain⟨s,i,j⟩:=s;have e:∀a b c,a≠1->gy Z (1,n,0) u (a,b,c)=Z (a,b,c):=λa b c q=>dL (λp=>q (by cases p;rfl)) u;obtain _|_|_|_|_|_|_|_|_|_|s:=s
 .exact BC (D.vars i hs.1) h
 .have I:j=0:=hs.2;show[Value.map (some (if i=n then r else G.map i))]=[Value.map (some (G.map i))];rw[cK (λq=>F (by rw[q,I]))]
 .show _++[gy _ _ _ _]=_++[_];rw[e _ _ _ iM]
 .show((W.funcs.getD i (0,[])).2.flatMap λx=>[ptr (gy Z (1,n,0) u (0,x,0))])=_;exact ga (λq=>(W.funcs.getD i (0,[])).2.flatMap q) (funext λx=>by rw[e _ _ _ iM])
 .show[_,gy _ _ _ _]++vi _ _ _++[_,if _ then _ else ptr (gy _ _ _ _),_,_]=_;rw[BC (D.body i hs.1) h,e _ _ _ iM,e _ _ _ iM];rfl
 .show(List.range _).flatMap _=(List.range _).flatMap _;refine ga (λq=>(List.range _).flatMap q) (funext λk=>?_);rw[e _ _ _ iM];rfl
 .show[ptr (gy _ _ _ _),_,gy _ _ _ _,gy _ _ _ _,_]=_;rw[e _ _ _ iM,e _ _ _ iM,e _ _ _ iM];rfl
 .show((W.fr i j).da.flatMap λx=>[ptr (gy Z (1,n,0) u (0,x,0))])=_;exact ga (λq=>(W.fr i j).da.flatMap q) (funext λx=>by rw[e _ _ _ iM])
 .exact Jd h _ (D.ops i j hs.1 hs.2.1)
 .exact absurd rfl E
 .exact absurd hs (by intro q;exact q)
def nT(s:eO):eW {W with tables:=W.tables++[[]]} s↔eW W s\/s=(1,W.tables.length,0):=by
 obtain⟨s,i,j⟩:=s;obtain _|_|s:=s
 .show eW W (0,i,j)↔eW W (0,i,j)\/_;simp
 .show i<(W.tables++[[]]).length/\j=0↔(i<W.tables.length/\j=0)\/_;rw[dq];simp only[dt,dG,fS,true_and];omega
 .have:eW {W with tables:=W.tables++[[]]} (s+1+1,i,j)↔eW W (s+1+1,i,j):=by
   obtain _|_|_|_|_|_|_|_|s:=s<;>exact j8
  rw[this];simp
def Im.s9(h:Im cJ W G R H w)(vs:Vs W){cap:Nat}(J:n=W.tables.length)(hw:Below w.heap.size w w1)(hm:zp w1 r [])(hr:w.heap.size<=r)(ho:w1.ownsRow cJ 229 1 (.slice (some ⟨q,0,none⟩) 1 1) 1 [.map (some r)])(hq:w.heap.size<=q)(aa:q≠r)(hB:cJ<=w.heap.size)(h9:(R (9,0,0)).v=.slice (some ⟨g,0,none⟩) 1 cap):
  ∃R',Im cJ {W with tables:=W.tables++[[]]} (G.qT n r) R' H (w1.setCell ⟨g,42,none⟩ (.int .i64 ((G.iG+1:Nat):Int)))/\hd R'=gy (hd R) (1,n,0) (.slice (some ⟨q,0,none⟩) 1 1):=by
 have h1:=h.below hw;have t9:eW W (9,0,0):=rfl;have n9:=h.ij _ t9 dC;have c9:=h.cells _ t9 (λe=>by simp at e);have out:∀s,eW W s->s≠(1,n,0):=by intro s E e;subst e;have:n<W.tables.length:=E.1;omega
 have lt:∀s,eW W s->∀k,(R s).v.ownBlock=some k->k<w.heap.size:=λs E k hk=>((h.eH.own s E).lt k hk).2;have lg:=lt _ t9 g (by rw[h9];rfl);have A:=h1.eH.add (t:=(1,n,0)) (r:=⟨zS q 1 1,1,[.map (some r)]⟩) ho λk hk u hu _ p=>by
  have e:q=k:=by simpa[Value.ownBlock]using hk
  have:=lt u hu k p;omega
 have u9:jG R (1,n,0) ⟨zS q 1 1,1,[.map (some r)]⟩ (9,0,0)=R (9,0,0):=dh _ _ dC;have B:=A.store (t:=(9,0,0)) (.inl t9) (g:=g) (cap:=cap) (u9▸n9▸h9) 42 (zI ((G.iG+1:Nat):Int));rw[u9]at B;generalize K:jG (jG R (1,n,0) ⟨zS q 1 1,1,[.map (some r)]⟩) (9,0,0) ⟨(R (9,0,0)).v,(R (9,0,0)).n,(R (9,0,0)).cs.set 42 (zI ((G.iG+1:Nat):Int))⟩=R' at B;have r1:R' (1,n,0)=⟨zS q 1 1,1,[.map (some r)]⟩:=by rw[<-K,dh _ _ dC,dD]
 have r9:R' (9,0,0)=⟨(R (9,0,0)).v,(R (9,0,0)).n,(R (9,0,0)).cs.set 42 (zI ((G.iG+1:Nat):Int))⟩:=by rw[<-K,dD]
 have ro:∀s,s≠(1,n,0)->s≠(9,0,0)->R' s=R s:=λs L M=>by rw[<-K,dh _ _ M,dh _ _ L]
 have hh:hd R'=gy (hd R) (1,n,0) (zS q 1 1):=by
  funext s;unfold hd;by_cases e:s=(1,n,0)
  .subst e;rw[r1,jL]
  .rw[dL e];by_cases e2:s=(9,0,0)
   .subst e2;rw[r9]
   .rw[ro s e e2]
 have F:∀s,s≠(1,n,0)->(R' s).n=(R s).n:=λs e=>by
  by_cases e2:s=(9,0,0)
  .subst e2;rw[r9]
  .rw[ro s e e2]
 have O:∀s,s≠(1,n,0)->(R' s).v=(R s).v:=λs e=>by have:=qt hh s;rw[dL e]at this;exact this
 have mp:∀i,i<W.tables.length->(G.qT n r).map i=G.map i:=λi I=>by show(if i=n then r else G.map i)=_;rw[cK cM]
 have mn:(G.qT n r).map n=r:=by show(if n=n then r else G.map n)=_;rw[cR rfl]
 have ml:∀i,i<W.tables.length->G.map i<w.heap.size:=λi I=>by obtain⟨⟨_,_,p,_⟩,_⟩:=h.pZ i I;exact(dS.1 p).1
 have cs:∀i,i<(W.tables++[[]]).length->i<W.tables.length\/i=n:=λi I=>by rw[dq]at I;simp only[dt,dG]at I;omega
 refine⟨R',⟨B.sub λs E=>J▸(nT s).1 E,λs E h0=>?_,λy hy=>?_,λs E h0=>?_,λi I=>?_,λi j I hj e=>?_,λi I y hy=>?_,?_⟩,hh⟩
 .obtain p|p:=(nT s).1 E
  .rw[F s (out s p),h.ij s p h0];obtain⟨s,i,j⟩:=s;obtain _|_|_|_|_|_|_|_|_|s:=s<;>rfl
  .rw[p,<-J,r1];rfl
 .rw[F _ dC,O _ dC];exact h.var y hy
 .rw[hh];obtain p|p:=(nT s).1 E
  .by_cases e9:s=(9,0,0)
   .subst e9;rw[r9];show(R (9,0,0)).cs.set 42 _=[H.ps,H.ks,H.ins]++zG++[ptr (gy (hd R) (1,n,0) _ (4,W.cQ,0)),_,_,_,_,_,_,_,_];rw[c9,dL dC];rfl
   .rw[F s (out s p)]at h0;rw[ro s (out s p) e9,h.cells s p h0,KF J vs p (λe=>e9 ?_) (out s p)];obtain⟨s,i,j⟩:=s;have e:=e;subst e;have p:(i,j)=(0,0):=p;rw[p]
  .rw[p,<-J,r1];show _=[Value.map (some ((G.qT n r).map n))];rw[mn]
 .rw[hh];obtain p|p:=cs i I
  .obtain⟨⟨es,c,L,M⟩,q3,q4⟩:=h1.pZ i p;rw[mp i p];refine⟨⟨es,c,?_,?_⟩,q3,λs E=>?_⟩
   .rw[cZ _ (zA g 42) _ _ (λe=>q4 _ t9 (by rw[h9,e];rfl))];exact L
   .rw[M];unfold rB;dsimp only;rw[cB,cB,fH p,cG p];refine ga (List.map _) ?_;refine mH λe he=>?_;have ok:=vs.yh _ (fA p) e he;rw[BC ok.2 J];unfold An;rw[Ja ok.1 J]
   .obtain D|D:=(nT s).1 E
    .rw[O s (out s D)];exact q4 s D
    .rw[D,<-J,r1];intro e;have:q=G.map i:=by simpa[Value.ownBlock]using e
     have:=ml i p;omega
  .subst p;rw[mn];obtain⟨es,c,L,M⟩:=hm;refine⟨⟨es,c,?_,?_⟩,cM,λs E=>?_⟩
   .rw[cZ _ (zA g 42) _ _ (by show r≠g;omega)];exact L
   .rw[M];unfold rB;dsimp only;rw[J,cB,fB (cE _),qv];rfl
   .obtain D|D:=(nT s).1 E
    .rw[O s (out s D)];intro e;have:=lt s D _ e;omega
    .rw[D,<-J,r1];intro e;have:q=r:=by simpa[Value.ownBlock]using e
     omega
 .obtain p|p:=cs i I<;>obtain D|D:=cs j hj
  .rw[mp i p,mp j D]at e;exact h.wj i j p D e
  .rw[mp i p,D,mn]at e;have:=ml i p;omega
  .rw[mp j D,p,mn]at e;have:=ml j D;omega
  .omega
 .rw[F _ dC];exact h.fP i I y hy
 .intro c j a1 c' j2 a2 L M q3 q4 q5 q6 q7;rw[F _ dC];exact h.lone c j a1 c' j2 a2 L M q3 q4 q5 q6 q7
def Cu.s9(h:Cu cJ W G R H m w)(J:Vs W)(E:Below w.heap.size w w1){K:Nat}(L:hd R (9,0,0)=.slice (some ⟨g,0,none⟩) 1 K):∃R',Cu cJ {W with tables:=W.tables++[[]]} (G.qT W.tables.length w1.heap.size) R' H m (((w1.alloc (.map #[] 0)).alloc (.cells #[.map (some w1.heap.size)] 229)).setCell ⟨g,42,none⟩ (.int .i64 ((G.iG+1:Nat):Int)))/\hd R'=gy (hd R) (1,W.tables.length,0) (.slice (some ⟨w1.heap.size+1,0,none⟩) 1 1)/\∀k,eY {W with tables:=W.tables++[[]]} (G.qT W.tables.length w1.heap.size) R' k->eY W G R k\/w.heap.size<=k:=by
 have F:=E.size;have D:(w1.alloc (.map #[] 0)).heap.size=w1.heap.size+1:=dC;have own:=jt (base:=cJ) (e:=229) (size:=1) (w1.alloc (.map #[] 0)) #[.map (some w1.heap.size)] 1 (by rw[D];have:=h.bs;omega) (by unfold maxLen;omega) rfl;rw[D]at own;have M:(w1.alloc (.map #[] 0)).heap[w1.heap.size]?=some (.map #[] 0):=dJ w1 _;obtain⟨R',i,d⟩:=h.im.s9 J (w1:=(w1.alloc (.map #[] 0)).alloc (.cells #[.map (some w1.heap.size)] 229)) (r:=w1.heap.size) (q:=w1.heap.size+1) rfl ((E.alloc F _).alloc (by rw[D];omega) _) ⟨#[],0,by rw[gH _ _ _ (by rw[D];omega)];exact M,rfl⟩ F own cM cM h.bs L;refine⟨R',⟨i,?_,h.cQ,h.len,h.gd,h.ops⟩,d,λk O=>?_⟩
 .have:=h.bs;simp[World.setCell];omega
 .obtain⟨s,hs,e⟩|⟨j,I,e⟩:=O
  .rw[d]at e;obtain p|p:=(nT s).1 hs
   .rw[dL (λq=>by subst q;exact gE _ p.1)]at e;exact .inl (.row p e)
   .subst p;rw[jL]at e;have:w1.heap.size+1=k:=by simpa[Value.ownBlock]using e
    exact .inr cM
  .change k=(if j=W.tables.length then w1.heap.size else G.map j)at e;by_cases q:j=W.tables.length
   .rw[cR q]at e;exact .inr cM
   .rw[cK q]at e;rw[dq]at I;simp only[dt,dG]at I;exact .inl (.inr ⟨j,cM,e⟩)
def EW(h:Cu cJ W G R H m w)(vs:Vs W)(D:G.iG<=1000000000):
  zC 113 #[im.ptr (hd R (9,0,0)),im.ptr (hd R (6,W.cQ,m)),.agg (zW op (a:Int) b)] w λe w'=>(∃x,e=.returned x)/\∃r R',Im cJ ({W with tables:=W.tables++[[]]}.ee [⟨4,W.tables.length,[]⟩]) (G.qT W.tables.length r) R' H w'/\(∀t,eW W t->t.1≠8->hd R' t=hd R t)/\Kp (eY W G R) (eY ({W with tables:=W.tables++[[]]}.ee [⟨4,W.tables.length,[]⟩]) (G.qT W.tables.length r) R') w w':=by
 obtain⟨f,hf,_⟩:=h.ptr;obtain⟨g,cg,h9,c9,f9,F⟩:=h.im.mP;have hg:im.ptr (hd R (9,0,0))=zP g:=by rw[h9];rfl
 have E:=c9 42 _ rfl;have FR:=cO (λX q (hX:zB w X)=>wC (w:=X) (g:=g) (m:=G.iG) (k:=4) 226 q D (di E hX) ((dA (a:=(zA g 42)) (hX.block g (dy _ _ E))).trans (f9 42)));unfold vq at FR;have HC:=cO h;have HV:=cO vs;have H9:=cO h9;have HF:=cO hf;have FG:=cO F;rw[hf,hg];clear h hf h9 c9 f9 hg E vs F;go_enter func113,ntmps113;go_upto_region 1 with fail;refine dx λw1 I=>?_;have K:Hid (zB w w1):=I▸ba;clear I;obtain⟨L,c2,d2,fk⟩:=HC.s9 HV K H9;have BX:Hid (zB w ((w1.alloc (.map #[] 0)).alloc (.cells #[.map (some w1.heap.size)] 229))):=(K.alloc K.size _).alloc (by have:=K.size;simp;omega) _;have VA:Hid (jX (G.qT W.tables.length w1.heap.size) (hd L) ⟨4,W.tables.length,[]⟩=.agg #[zI 4,zI ((G.iG+1:Nat):Int),zT,.iface 226 (zP (w1.heap.size+1))]):=by
  have a1:hC (G.qT W.tables.length w1.heap.size) ⟨4,W.tables.length,[]⟩=((G.iG+1:Nat):Int):=by unfold hC Gh.qT;dsimp only;rw[cR rfl,cR ⟨rfl,fh _⟩]
  have a2:dV (hd L) ⟨4,W.tables.length,[]⟩=.iface 226 (zP (w1.heap.size+1)):=by unfold dV;dsimp only;rw[cR rfl,d2,fh,jL];rfl
  unfold jX vq;rw[a1,a2];rfl
 have J:=cO c2;have D2:=cO d2;have FK:=cO fk;clear c2 d2 fk;have aa:=@run_makeMap Tryz.prog;go_wp2_with(first
  |(go_at_call 162;refine cA (FR _ _ BX) ?_;rintro e w3 ⟨rfl,M⟩;have I3:=J.im.wr M;have C3:=cO (show Cu cJ _ _ L H m w3 from⟨I3,cV HC.bs (cV BX.size (by have:=M.size;simpa[World.setCell]using this)),J.cQ,J.len,J.gd,J.ops⟩);have K3:=cO (((Kp.cY (S:=eY W G R) BX).trans (Kp.wr FG M)).sub FK);have O:=C3.push ⟨4,W.tables.length,[]⟩;rw[show hd L (6,({W with tables:=W.tables++[[]]}:St).cQ,m)=hd R (6,W.cQ,m) by rw[D2.out];exact dL dC _,HF.out,VA]at O;clear I3 M;replace O:=cO O)
  |(go_at_call 159;refine cA O ?_;rintro e w7 ⟨⟨x,rfl⟩,R7,u7,i7,d7,k7⟩;have I7:=cO i7;have D7:=cO d7;have K7:=cO (K3.trans k7);clear i7 d7 k7))
 go_returns;exact⟨⟨_,rfl⟩,w1.heap.size,R7,I7,λt ht h8=>by rw[D7,dL (λe=>h8 (by rw[e])),D2,dL (λq=>by subst q;exact gE _ ht.1)],K7⟩
def vg(h:Cu cJ W G R H m w)(ha:a<W.db.da.length)(hs:W.db.da.length<=1000000000)(hx:W.db.da.getD a 0=x)(E:x<W.vars.length)(hv:v=W.vars.getD x v0):
  zC 170 #[im.ptr (hd R (6,W.cQ,m)),zI (a:Int)] w λe w'=>e=(if v.k=2 then .returned (zI v.n)else .panicked (BM (vq 3 0 ⟨#[102,111,114]⟩ .nilIface)))/\∃R',Cu cJ W G R' H m w'/\(∀t,t≠(0,x,0)->hd R' t=hd R t)/\Kp (eY W G R) (eY W G R') w w':=by
 obtain⟨f,hf,_⟩:=h.ptr;have VA:=cO (λX (hX:zB w X)=>qC (h.below hX) ha hs hx E);have I:=cO hv;have K:=cO E;rw[hf]at VA|-;clear h hf ha hs hx E hv;by_cases J:v.k=2
 .rw[cR J];have L:=cO (λX t=>yz (w:=X) v.n ⟨v.s.toArray⟩ ⟨#[102,111,114]⟩ t);have aa:Hid (hC G v=v.n):=by unfold hC;rw[cK cM,cK cM,cK cM];exact rfl
  have H2:=cO J;unfold vq at L;clear J;go_enter func170,ntmps170;go_wp2_with(first
   |(go_at_call 160;refine cA (VA _ (cN _ _)) ?_;rintro e w3 ⟨R3,q,cq,rfl,F,M,O,d3,k3⟩;have D3:=cO d3;have C3:=cO F;have K3:=cO k3;obtain⟨q',_,e9,_,D,_⟩:=F.im.eA (t:=(0,x,0)) ⟨K,rfl⟩ M dC;rw[O]at e9;cases e9;have y0:=D 0 (zI 2) (by rw[<-H2,I];rfl);have y1:=D 1 (zI v.n) (by rw[<-aa,I];rfl);have y2:=D 2 (.string ⟨v.s.toArray⟩) (by rw[I];rfl);have y3:=D 3 _ rfl;clear F M O d3 k3 D)
   |(go_at_call 188;refine cA (L _ _) ?_;rintro e w4 ⟨rfl,b4⟩;have B4:=cO b4;clear b4))
  go_returns;exact⟨rfl,R3,C3.below B4,D3,K3.trans (Kp.cY B4)⟩
 .rw[cK J];have L:=cO (λX n t=>AZ (w:=X) J n ⟨v.s.toArray⟩ ⟨#[102,111,114]⟩ t);unfold vq at L|-;clear J;go_enter func170,ntmps170;go_wp2_with(first
   |(go_at_call 160;refine cA (VA _ (cN _ _)) ?_;rintro e w3 ⟨R3,q,cq,rfl,F,M,O,d3,k3⟩;have D3:=cO d3;have C3:=cO F;have K3:=cO k3;obtain⟨q',_,e9,_,D,_⟩:=F.im.eA (t:=(0,x,0)) ⟨K,rfl⟩ M dC;rw[O]at e9;cases e9;have y0:=D 0 (zI v.k) (by rw[I];rfl);have y1:=D 1 (zI (hC G v)) (by rw[I];rfl);have y2:=D 2 (.string ⟨v.s.toArray⟩) (by rw[I];rfl);have y3:=D 3 _ rfl;clear F M O d3 k3 D)
   |(go_at_call 188;refine cA (L _ _ _) ?_;rintro e w4 ⟨rfl,b4⟩;have B4:=cO b4;clear b4))
  exact⟨rfl,rfl,R3,C3.below B4,D3,K3.trans (Kp.cY B4)⟩
end
section
variable{b:Nat}{l:Vl}
def Aw(h:Cu cJ W G R H m w)(ha:a+2<W.db.da.length)(hs:W.db.da.length<=1000)(aa:W.db.da.getD a 0=x0)(ab:W.db.da.getD (a+1) 0=x1)(ac:W.db.da.getD (a+2) 0=x2)(l0:x0<W.vars.length)(l1:x1<W.vars.length)(l2:x2<W.vars.length)(I:i=W.vars.getD x0 v0)(K:l=W.vars.getD x1 v0)(ad:d=W.vars.getD x2 v0):
  zC 128 #[mv,im.ptr (hd R (6,W.cQ,m)),.agg (zW op (a:Int) (b:Int))] w (Rz cJ W G R H w (if i.k=2/\l.k=2/\d.k=2/\d.n≠0 then ok (if (0<d.n/\l.n<i.n)\/(d.n<0/\i.n<l.n)then W.gi b else W)else mW W vN)):=by
 obtain⟨r,hr⟩:=eX ((if i.k=2/\l.k=2/\d.k=2/\d.n≠0 then ok (if (0<d.n/\l.n<i.n)\/(d.n<0/\i.n<l.n)then W.gi b else W)else mW W vN):mX);rw[<-hr];have E:=cO hr;clear hr;obtain⟨f,hf,ae⟩:=h.ptr;have HF:=cO hf;have LA:=cO (λX (hX:zB w X)=>vg (h.below hX) (a:=a) cM cM aa l0 I);have LB:=cO (λM X (c:Cu cJ W G M H m X)=>vg c (a:=a+1) cM cM ab l1 K);have LC:=cO (λM X (c:Cu cJ W G M H m X)=>vg c (a:=a+2) cM cM ac l2 ad);rw[show((a+1:Nat):Int)=(a:Int)+1 by simp]at LB;rw[show((a+2:Nat):Int)=(a:Int)+2 by simp]at LC;have LT:=cO (λk (hk:eY W G R k)=>eY.lt h.im hk);have RA:=cO (λX=>jR (w:=X) ⟨#[102,111,114]⟩);rw[hf]at LA|-;have hb:(a:Int)+2<1000:=cM;clear h hf aa ab ac l0 l1 l2 I K ad ha hs;go_enter func128,ntmps128;go_upto_region 1 with fail;refine dx λw1 O=>?_;have B1:Hid (zB w w1):=O▸ba;have L1:Hid (Lc (eY W G R) w1 w.heap.size (zW op (a:Int) (b:Int)) 105):=O▸Lc.new w LT _ _;clear O;obtain⟨S,hS⟩:=eX (λX:World=>zE X w.heap.size 1 (zI (a:Int)));have un:∀X,S X->zE X w.heap.size 1 (zI (a:Int)):=λX q=>by rw[hS]at q;exact q
 have x1:=λx:Wd S=>un _ x.ok;have MK:Hid (∀X,zE X w.heap.size 1 (zI (a:Int))->S X):=λX q=>hS▸q;clear hS un;have s1:=L1.cell (j:=1) rfl;haveI:Nonempty (Wd S):=⟨⟨w1,MK _ s1⟩⟩
 refine Cg S [0,1,2,4,5,6,7,9,10,11,12] [3,8,13] [14,15,16] (MK _ s1) ?_;simp only[pick,ey,eB,eL,eM,dt,dG];repeat(go_big_quiet_step(fail))
 refine wpQuiet_nil ?_;clear x1 s1;refine dI ?_;by_cases I:i.k=2
 .rw[cR I]at LA;have HI:=cO I;clear I;go_wp2_with(go_at_call 170;refine cA (LA _ B1.drew) ?_;rintro e w3 ⟨rfl,M,c3,d3,k3⟩;have D3:=cO d3;have C3:=cO c3;have L3:=cO (L1.drew.kept k3);have K3:=cO ((Kp.cY B1.drew).trans k3);have P:=LB M w3 c3;rw[d3 (6,W.cQ,m) dC,HF]at P;have PB:=cO P;clear P c3 d3 k3)
  refine⟨MK _ (L3.cell (j:=1) rfl),?_⟩;refine dI ?_;by_cases K:l.k=2
  .rw[cR K]at PB;have HL:=cO K;clear K;go_wp2_with(go_at_call 170;refine cA PB ?_;rintro e w4 ⟨rfl,R4,c4,d4,k4⟩;have D4:Hid (∀t,t.1≠0->hd R4 t=hd R t):=(λt D=>(d4 t (λe=>D (by rw[e]))).trans (D3 t (λe=>D (by rw[e]))));have C4:=cO c4;have L4:=cO (L3.kept k4);have K4:=cO (K3.trans k4);have P:=LC R4 w4 c4;rw[D4 (6,W.cQ,m) dC,HF]at P;have PC:=cO P;clear P c4 d4 k4)
   refine⟨MK _ (L4.cell (j:=1) rfl),?_⟩;refine dI ?_;by_cases F:d.k=2
   .rw[cR F]at PC;have HD:=cO F;clear F;go_wp2_with(go_at_call 170;refine cA PC ?_;rintro e w5 ⟨rfl,R5,c5,d5,k5⟩;have L:=cO (λt D=>(d5 t (λe=>D (by rw[e]))).trans (D4 t D));have C5:=cO c5;have L5:=cO (L4.kept k5);have K5:=cO (K4.trans k5);clear c5 d5 k5)
    refine⟨MK _ (L5.cell (j:=1) rfl),?_⟩;refine ej ?_;go_upto_region 2 with fail;by_cases D:d.n=0
    .rw[cK (λq=>q.2.2.2 D)]at E;have b0:(d.n==0)=true:=by rw[D];rfl
     unfold vq at RA;clear D;go_wp2_with(go_at_call 164;refine cA (RA _) ?_;rintro e w6 ⟨rfl,b6⟩;have B6:=cO b6;clear b6)
     refine⟨rfl,?_⟩;rw[E];exact⟨rfl,R5,(C5.below B6).im,λt D _=>L t D,K5.trans (Kp.cY B6)⟩
    .rw[cR ⟨HI,HL,HD,D⟩]at E;have b0:(d.n==0)=false:=by simpa using D
     have y2:=L5.cell (j:=2) rfl;have J:=cO (C5.gi b (by rw[show hd R5 (6,W.cQ,m)=hd R (6,W.cQ,m)from L _ dC];exact HF));obtain⟨f1,⟨u1,q1⟩,_⟩:=J.out;by_cases hc:(0<d.n/\l.n<i.n)\/(d.n<0/\i.n<l.n)
     .rw[cR hc]at E;obtain⟨p1,p2⟩|⟨p1,p2⟩:=hc
      .have p3:¬d.n<0:=cM;clear D;go_wp2;go_returns;rw[E.out];obtain⟨_,_,R',c,d,k⟩:=J.out;exact⟨⟨_,rfl⟩,R',c.im,λt D _=>d▸L t D,K5.out.trans k⟩
      .have p3:¬0<d.n:=cM;clear D;go_wp2;go_returns;rw[E.out];obtain⟨_,_,R',c,d,k⟩:=J.out;exact⟨⟨_,rfl⟩,R',c.im,λt D _=>d▸L t D,K5.trans k⟩
     .rw[cK hc]at E;obtain p1|p1:=Int.lt_or_gt_of_ne D
      .have p3:¬0<d.n:=cM;have p4:¬i.n<l.n:=cM;clear D hc;go_wp2;go_returns;rw[E];exact⟨⟨_,rfl⟩,R5,C5.im,λt D _=>L t D,K5⟩
      .have p2:0<d.n:=cM;have p3:¬d.n<0:=cM;have p4:¬l.n<i.n:=cM;clear D hc p1;go_wp2;go_returns;rw[E];exact⟨⟨_,rfl⟩,R5,C5.im,λt D _=>L t D,K5⟩
   .rw[cK F]at PC;rw[cK (λq=>F q.2.2.1)]at E;unfold vq at PC;clear F;go_wp2_with(go_at_call 170;refine cA PC ?_;rintro e w5 ⟨rfl,R5,c5,d5,k5⟩;have L:=cO (λt D=>(d5 t (λe=>D (by rw[e]))).trans (D4 t D));have C5:=cO c5;have K5:=cO (K4.trans k5);clear c5 d5 k5)
    refine⟨rfl,?_⟩;rw[E];exact⟨rfl,R5,C5.im,λt D _=>L t D,K5⟩
  .rw[cK K]at PB;rw[cK (λq=>K q.2.1)]at E;unfold vq at PB;clear K;go_wp2_with(go_at_call 170;refine cA PB ?_;rintro e w4 ⟨rfl,R4,c4,d4,k4⟩;have D4:Hid (∀t,t.1≠0->hd R4 t=hd R t):=(λt D=>(d4 t (λe=>D (by rw[e]))).trans (D3 t (λe=>D (by rw[e]))));have C4:=cO c4;have K4:=cO (K3.trans k4);clear c4 d4 k4)
   refine⟨rfl,?_⟩;rw[E];exact⟨rfl,R4,C4.im,λt D _=>D4 t D,K4⟩
 .rw[cK I]at LA;rw[cK (λq=>I q.1)]at E;unfold vq at LA;clear I;go_wp2_with(go_at_call 170;refine cA (LA _ B1.drew) ?_;rintro e w3 ⟨rfl,M,c3,d3,k3⟩;have D3:=cO d3;have C3:=cO c3;have K3:=cO ((Kp.cY B1.drew).trans k3);clear c3 d3 k3)
  refine⟨rfl,?_⟩;rw[E];exact⟨rfl,M,C3.im,λt D _=>D3 t (λe=>D (by rw[e])),K3⟩
end
section
variable{b:Nat}
def Ax(h:Cu cJ W G R H m w)(ha:a+2<W.db.da.length)(hs:W.db.da.length<=1000)(K:W.db.da.getD a 0=x0)(ab:W.db.da.getD (a+2) 0=x2)(l0:x0<W.vars.length)(l2:x2<W.vars.length)(I:i=W.vars.getD x0 v0)(ac:d=W.vars.getD x2 v0)(hz:z=wrap (i.n+d.n)):
  zC 129 #[mv,im.ptr (hd R (6,W.cQ,m)),.agg (zW op (a:Int) (b:Int))] w (Rz cJ W G R H w (if i.k=2/\d.k=2 then ok (if (0<d.n/\z<i.n)\/(d.n<0/\i.n<z)then W else {W with vars:=W.vars.set x0 (nv z)}.gi b)else mW W vN)):=by
 obtain⟨r,hr⟩:=eX ((if i.k=2/\d.k=2 then ok (if (0<d.n/\z<i.n)\/(d.n<0/\i.n<z)then W else {W with vars:=W.vars.set x0 (nv z)}.gi b)else mW W vN):mX);rw[<-hr];have F:=cO hr;clear hr;obtain⟨f,hf,ad⟩:=h.ptr;have HF:=cO hf;have ae:wrap64 (i.n+d.n)=z:=hz▸lG _;have LA:=cO (λX (hX:zB w X)=>vg (h.below hX) (a:=a) cM cM K l0 I);have LB:=cO (λL X (c:Cu cJ W G L H m X)=>vg c (a:=a+2) cM cM ab l2 ac);have VA:=cO (λL X (c:Cu cJ W G L H m X)=>qC c (a:=a) cM cM K l0);rw[show((a+2:Nat):Int)=(a:Int)+2 by simp]at LB;have LT:=cO (λk (hk:eY W G R k)=>eY.lt h.im hk);have NV:=cO (λX=>nK (w:=X) z);unfold vq at NV;have X0:=cO l0;rw[hf]at LA|-;have hb:(a:Int)+2<1000:=cM;clear h hf K ab l0 l2 I ac ha hs hz;go_enter func129,ntmps129;go_upto_region 1 with fail;refine dx λw1 M=>?_;have B1:Hid (zB w w1):=M▸ba;have L1:Hid (Lc (eY W G R) w1 w.heap.size (zW op (a:Int) (b:Int)) 105):=M▸Lc.new w LT _ _;clear M;obtain⟨S,hS⟩:=eX (λX:World=>zE X w.heap.size 1 (zI (a:Int)));have un:∀X,S X->zE X w.heap.size 1 (zI (a:Int)):=λX q=>by rw[hS]at q;exact q
 have x1:=λx:Wd S=>un _ x.ok;have MK:Hid (∀X,zE X w.heap.size 1 (zI (a:Int))->S X):=λX q=>hS▸q;clear hS un;have s1:=L1.cell (j:=1) rfl;haveI:Nonempty (Wd S):=⟨⟨w1,MK _ s1⟩⟩
 refine Cg S [0,1,2,4,5,6,7] [3,8] [9,10] (MK _ s1) ?_;simp only[pick,ey,eB,eL,eM,dt,dG];repeat(go_big_quiet_step(fail))
 refine wpQuiet_nil ?_;clear x1 s1;refine dI ?_;by_cases I:i.k=2
 .rw[cR I]at LA;have HI:=cO I;clear I;go_wp2_with(go_at_call 170;refine cA (LA _ B1.drew) ?_;rintro e w3 ⟨rfl,L,c3,d3,k3⟩;have D3:=cO d3;have C3:=cO c3;have L3:=cO (L1.drew.kept k3);have K3:=cO ((Kp.cY B1.drew).trans k3);have P:=LB L w3 c3;rw[d3 (6,W.cQ,m) dC,HF]at P;have PB:=cO P;clear P c3 d3 k3)
  refine⟨MK _ (L3.cell (j:=1) rfl),?_⟩;refine dI ?_;by_cases E:d.k=2
  .rw[cR E]at PB;rw[cR ⟨HI,E⟩]at F;clear E;go_wp2_with(go_at_call 170;refine cA PB ?_;rintro e w4 ⟨rfl,O,c4,d4,k4⟩;have D4:Hid (∀t,t.1≠0->hd O t=hd R t):=(λt D=>(d4 t (λe=>D (by rw[e]))).trans (D3 t (λe=>D (by rw[e]))));have C4:=cO c4;have L4:=cO (L3.kept k4);have K4:=cO (K3.trans k4);clear c4 d4 k4)
   refine⟨MK _ (L4.cell (j:=1) rfl),?_⟩;refine ej ?_;by_cases hc:(0<d.n/\z<i.n)\/(d.n<0/\i.n<z)
   .rw[cR hc]at F;obtain⟨p1,p2⟩|⟨p1,p2⟩:=hc
    .have p3:¬d.n<0:=cM;go_wp2;go_returns;rw[F];exact⟨⟨_,rfl⟩,O,C4.im,λt D _=>D4 t D,K4⟩
    .have p3:¬0<d.n:=cM;go_wp2;go_returns;rw[F];exact⟨⟨_,rfl⟩,O,C4.im,λt D _=>D4 t D,K4⟩
   .rw[cK hc]at F;have y1:=L4.cell (j:=1) rfl;have P:=VA O w4 C4;rw[D4 (6,W.cQ,m) dC,HF]at P;have PV:=cO P;clear P;obtain⟨p1,p2,p3⟩|⟨p1,p2,p3⟩|⟨p1,p2⟩:=(by omega:(0<d.n/\¬d.n<0/\¬z<i.n)\/(¬0<d.n/\d.n<0/\¬i.n<z)\/(¬0<d.n/\¬d.n<0))
    all_goals
     clear hc;go_upto_region 5 with(first
      |(go_at_call 160;refine cA PV ?_;rintro e w5 ⟨R5,q,cq,rfl,c5,n5,v5,d5,k5⟩;have D5:=cO (λt D=>(d5 t (λe=>D (by rw[e]))).trans (D4 t D));have C5:=cO c5;have N5:=cO n5;have V5:=cO v5;have L5:=cO (L4.kept k5);have K5:=cO (K4.trans k5);clear c5 n5 v5 d5 k5)
      |(go_at_call 61;refine cA (NV _) ?_;rintro e w6 ⟨rfl,b6⟩;have C6:=cO (C5.below b6);have L6:=cO (L5.kept (Kp.cY b6));have K6:=cO (K5.trans (Kp.cY b6));obtain⟨q',_,e9,_,cc,fz,_⟩:=C6.im.eA (t:=(0,x0,0)) ⟨X0,rfl⟩ N5 dC;rw[V5]at e9;cases e9;have z0:=cc 0 _ rfl;have z1:=cc 1 _ rfl;have z2:=cc 2 _ rfl;have z3:=cc 3 _ rfl;clear cc b6))
     refine dx λw7 aa=>?_;obtain⟨R7,i7,d7,_⟩:=C6.im.v8 X0 N5 V5 (nv z);have fq:eY W G R5 q:=.row (t:=(0,x0,0)) ⟨X0,rfl⟩ (by unfold hd;rw[V5];rfl);have ks:Kp (eY W G R5) (eY W G R5) w6 w7:=by rw[aa];exact((Kp.setCell (a:=(zA q 0)) _ fq).trans (Kp.setCell (a:=(zA q 1)) _ fq)).trans ((Kp.setCell (a:=(zA q 2)) _ fq).trans (Kp.setCell (a:=(zA q 3)) _ fq))
     have L7:=cO (L6.kept ks);have K7:Hid (Kp (eY W G R) (eY {W with vars:=W.vars.set x0 (nv z)} G R7) w w7):=(K6.trans ks).sub λk hk=>.inl (by
      obtain⟨s,hs,e⟩|p:=hk
      .rw[d7]at e;refine .row ?_ e;unfold eW at hs|-;rw[df]at hs;exact hs
      .exact .inr p)
     have C7:Hid (Cu cJ {W with vars:=W.vars.set x0 (nv z)} G R7 H m w7):=⟨aa▸i7,cV C6.bs ks.size,C6.cQ,C6.len,C6.gd,C6.ops⟩
     have D7:Hid (∀t,t.1≠0->hd R7 t=hd R t):=λt D=>d7▸D5 t D;have J:=cO (C7.gi b (by rw[show hd R7 (6,({W with vars:=W.vars.set x0 (nv z)}:St).cQ,m)=hd R (6,W.cQ,m)from D7 _ dC];exact HF));obtain⟨f1,⟨u1,q1⟩,_⟩:=J.out;have j2:=L7.out.cell (j:=2) rfl;clear aa i7 d7 ks z0 z1 z2 z3 fz;go_wp2;go_returns;rw[F.out];obtain⟨_,_,R',c,d,k⟩:=J.out;exact⟨⟨_,rfl⟩,R',c.im,λt D _=>d▸D7 t D,K7.trans k⟩
  .rw[cK E]at PB;rw[cK (λq=>E q.2)]at F;unfold vq at PB;clear E;go_wp2_with(go_at_call 170;refine cA PB ?_;rintro e w4 ⟨rfl,O,c4,d4,k4⟩;have D4:Hid (∀t,t.1≠0->hd O t=hd R t):=(λt D=>(d4 t (λe=>D (by rw[e]))).trans (D3 t (λe=>D (by rw[e]))));have C4:=cO c4;have K4:=cO (K3.trans k4);clear c4 d4 k4)
   refine⟨rfl,?_⟩;rw[F];exact⟨rfl,O,C4.im,λt D _=>D4 t D,K4⟩
 .rw[cK I]at LA;rw[cK (λq=>I q.1)]at F;unfold vq at LA;clear I;go_wp2_with(go_at_call 170;refine cA (LA _ B1.drew) ?_;rintro e w3 ⟨rfl,L,c3,d3,k3⟩;have D3:=cO d3;have C3:=cO c3;have K3:=cO ((Kp.cY B1.drew).trans k3);clear c3 d3 k3)
  refine⟨rfl,?_⟩;rw[F];exact⟨rfl,L,C3.im,λt D _=>D3 t (λe=>D (by rw[e])),K3⟩
end
end im
end Go.Proofs.YtfpkdfeakanlpaaGreatDoor
