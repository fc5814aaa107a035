import Derived.Test.YtfpkdfeakanlpaaGreatDoorMImFunB
set_option linter.all false
set_option maxRecDepth 100000
set_option maxHeartbeats 8000000
namespace Go.Proofs.YtfpkdfeakanlpaaGreatDoor
open Go.Proofs.Tryz
namespace im
open RowKit bts pg rn chk
variable{G G':Gh}{H H':Hi}{cW want:Int}{args:List Vl}{cJ cg g md n:Nat}{f:Nat->Nat}{ra ya:Nat→Int}{Hs:Nat→List Int}{p:Pg}{V W:St}{R R':eO→fW}{v:Value}{w w0 w1:World}
def Tb.up(D:Tb w0)(E:Below w0.heap.size w0 w):Tb w:=⟨λk h=>di (D.kn k h) E,λk h=>di (D.sn k h) E⟩
def DN(M:Mi w0 p W G R H w)(E:mz p Hs)(tb:Tb w0)(pw:Pw w0)(I:Iv p Hs W cW)(hp:0<=cW)(hv:∀x∈args,gG W.sz x)(h:ft W<=1000000000000)(hw:Wt W cW want)(A:Av (Fs W G R H) w G (hd R) v args):
  zC 132 #[ptr (hd R (9,0,0)),v,zI want] w (Cz w0 p W G R H w (ok (gv W [tv (jY (first args))] cW))):=by
 obtain⟨x,K⟩:=eX (first args);have F:=ir hv;rw[<-K]at F|-;have L:=cO (λX (J:zB w X)=>sj (A.below J) 0);rw[show args.getD 0 v0=x from K.symm]at L;have SP:=cO (λX (J:zB w X)=>oX (w:=X) (G:=G) (Z:=hd R) F (tb.up (M.mV.trans (J.mono M.mV.size))) (Lib.tabBelow_of_tabIs pw X (M.mV.trans (J.mono M.mV.size))));have O:=cO (λY (hY:zB w Y)=>M.Ba (x:=tv (jY x)) E I hp (jF _ (mM F)) h hw hY);have TV:=cO (λX=>ki (w:=X) ⟨(jY x).toArray⟩);unfold vq at TV;obtain⟨g,cg,h9,_⟩:=M.im.mP;have p9:ptr (hd R (9,0,0))=zP g:=by rw[h9];rfl
 rw[p9]at O|-;rw[show dV (hd R) (tv (jY x))=.nilIface from rfl,show hC G (tv (jY x))=0 from rfl,show(tv (jY x)).k=3 from rfl,show(tv (jY x)).s=jY x from rfl]at O;obtain⟨vx,D⟩:∃t,t=jX G (hd R) x:=⟨_,rfl⟩
 rw[<-D]at L SP;generalize aa:(⟨(jY x).toArray⟩:ByteArray)=ss at*;clear M E tb pw I hp hv h hw A K F h9 p9 D aa;go_enter func132,ntmps132;go_wp2_with(first
  |(go_at_call 172;refine cA (L _ (cN _ _)) ?_;rintro e w3 ⟨rfl,b3⟩;have B3:=cO b3;clear b3)
  |(go_at_call 146;refine cA (SP _ B3) ?_;rintro e w4 ⟨rfl,b4⟩;have B4:=cO (iy B3 b4);clear b4)
  |(go_at_call 62;refine cA (TV _) ?_;rintro e w5 ⟨rfl,b5⟩;have B5:=cO (iy B4 b5);clear b5)
  |(go_at_call 142;refine cA (O _ B5) ?_;intro e w6 c6;obtain⟨x6,rfl⟩:=c6.ret;have C6:=cO c6;clear c6))
 go_returns;exact C6.re _
def Qb(M:Mi w0 p W G R H w)(A:Av (Fs W G R H) w G (hd R) v args){mv J:Value}:
  zC 135 #[mv,v,J] w (Cz w0 p W G R H w (W,some (first args))):=by
 have D:=cO (sj A 0);have L:=cO M;rw[show args.getD 0 v0=first args from rfl]at D;have E:Hid (∀X,zB w X->Cz w0 p W G R H w (W,some (first args)) (.panicked (BM (jX G (hd R) (first args)))) X):=λX F=>⟨G,R,H,M.below F,Kp.cY F,rfl,rfl⟩
 obtain⟨O,h⟩:∃t,t=jX G (hd R) (first args):=⟨_,rfl⟩
 rw[<-h]at D E;unfold jX vq at h;generalize dV (hd R) (first args)=tt at h;subst h;clear M A;go_enter func135,ntmps135;go_wp2_with(go_at_call 172;refine cA D ?_;rintro e w3 ⟨rfl,I⟩;have K:=cO I;clear I)
 exact⟨rfl,E _ K⟩
def DZ(M:Mi w0 p W G R H w)(E:mz p Hs)(tb:Tb w0)(I:Iv p Hs W cW)(hp:0<=cW)(hv:∀x∈args,gG W.sz x)(D:ft W<=1000000000000)(hw:Wt W cW want)(A:Av (Fs W G R H) w G (hd R) v args):
  zC 139 #[ptr (hd R (9,0,0)),v,zI want] w (Cz w0 p W G R H w (if (first args).k=7 then ok (gv W [tv (lQ (W.cS.getD (first args).n.toNat dE).state)] cW)else mW W rV)):=by
 obtain⟨x,hx⟩:=eX (first args);have xo:=ir hv;rw[<-hx]at xo|-;have J:=cO (sj A 0);rw[show args.getD 0 v0=x from hx.symm]at J;obtain⟨g,cg,h9,_⟩:=M.im.mP;have p9:ptr (hd R (9,0,0))=zP g:=by rw[h9];rfl
 unfold jX vq at J;by_cases F:x.k=7
 .rw[cR F];have xn:0<=x.n/\x.n<(W.cS.length:Int):=xo.co F;obtain⟨n,hn⟩:=eX x.n.toNat;have nl:n<W.cS.length:=cM;obtain⟨c,cc,h4,_,c4,_⟩:=M.im.Br nl;have th:dV (hd R) x=.iface 79 (zP c):=by
   unfold dV;rw[cK cM,cK cM,cR F,<-hn,h4];rfl
  rw[th]at J;have CY:=cO (λX=>pD (w:=X) x.k (hC G x) ⟨x.s.toArray⟩ (some (zA c 0)));unfold vq at CY;rw[<-hn];have sk:=I.vw n nl;obtain⟨h,K⟩:∃h:Nat,(W.cS.getD n dE).state=h:=⟨(W.cS.getD n dE).state.toNat,cM⟩
  have c0:=c4 0 _ rfl;rw[K]at c0 sk|-;have ls:h<4:=cM;have CS:=cO (λX (hX:zB w X)=>And.intro (di c0 hX) (di (tb.sn h ls) (M.mV.trans (hX.mono M.mV.size))));have GV:=cO (λY (hY:zB w Y)=>M.Ba (x:=tv (lQ h)) E I hp (jF _ (cV (uj _) cM)) D hw hY);have TV:=cO (λX=>ki (w:=X) ⟨(lQ h).toArray⟩);unfold vq at TV;rw[p9]at GV|-;rw[show dV (hd R) (tv (lQ h))=.nilIface from rfl,show hC G (tv (lQ h))=0 from rfl,show(tv (lQ h)).k=3 from rfl,show(tv (lQ h)).s=lQ h from rfl]at GV;generalize(⟨(lQ (h:Int)).toArray⟩:ByteArray)=ss at*;have aa:(h:Int)<4:=cM;clear M E tb I hp hv D hw A hx xo h9 p9 F xn hn nl h4 c4 th sk K c0;go_enter func139,ntmps139;go_wp2_with(first
   |(go_at_call 172;refine cA J ?_;rintro e w3 ⟨rfl,L⟩;have B3:=cO L;clear L)
   |(go_at_call 174;refine cA (CY _) ?_;rintro e w4 ⟨rfl,O⟩;have B4:=cO (iy B3 O);have s0:=(CS _ B4).1;have s1:=(CS _ B4).2;clear O)
   |(go_at_call 62;refine cA (TV _) ?_;rintro e w5 ⟨rfl,b5⟩;have B5:=cO (iy B4 b5);clear b5)
   |(go_at_call 142;refine cA (GV _ B5) ?_;intro e w6 c6;obtain⟨x6,rfl⟩:=c6.ret;have C6:=cO c6;clear c6))
  go_returns;exact C6.re _
 .rw[cK F];have tn:dV (hd R) x=.nilIface\/∃q,dV (hd R) x=.iface 226 (.pointer q)\/dV (hd R) x=.iface 140 (.pointer q):=by
   unfold dV;split
   .obtain⟨q,e⟩:=oZ (hd R (1,x.n.toNat,0));exact .inr ⟨q,.inl (by rw[e])⟩
   .split
    .obtain⟨q,e⟩:=oZ (hd R (2,x.n.toNat,0));exact .inr ⟨q,.inr (by rw[e])⟩
    .exact .inl rfl
  have CN:=cO (λX=>s8 (w:=X) x.k (hC G x) ⟨x.s.toArray⟩ tn);unfold vq at CN;have FI:=cO (λX (hX:zB w X)=>Cz.mW M rV hX);generalize dV (hd R) x=tt at*;rw[p9];clear M E tb I hp hv D hw A hx xo h9 p9 F tn;go_enter func139,ntmps139;go_wp2_with(first
   |(go_at_call 172;refine cA J ?_;rintro e w3 ⟨rfl,L⟩;have B3:=cO L;clear L)
   |(go_at_call 174;refine cA (CN _) ?_;rintro e w4 ⟨rfl,O⟩;have B4:=cO (iy B3 O);clear O))
  exact⟨rfl,FI _ B4⟩
def Mi.m9(M:Mi w0 p W G R H w)(K:V.vars=W.vars)(E:V.tables=W.tables)(J:V.funcs=W.funcs)(D:V.cS=W.cS)(h:H'.pc=H.pc)(L:H'.ps=H.ps)(O:H'.ks=H.ks)(F:H'.pr=H.pr)(hP:V.dn=W.dn)(I:H'.er=H.er)(hE:V.lu=W.lu)(hi:nP w0 H'.ins V.ins)(h9:hd R (9,0,0)=.slice (some ⟨g,0,none⟩) 1 cg){j:Nat}{u:Value}(aa:(gF W G H (hd R) (9,0,0)).set j u=gF V G H' (hd R) (9,0,0)):
  ∃R',Mi w0 p V G R' H' (w.setCell ⟨g,j,none⟩ u)/\hd R'=hd R/\Kp (Fs W G R H) (Fs V G R' H') w (w.setCell ⟨g,j,none⟩ u):=by
 obtain⟨R',i,d,_⟩:=M.im.m9 (V:=V) (H':=H') K E J D h h9 aa;have fg:eY W G R g:=.row (t:=(9,0,0)) rfl (by rw[h9];rfl);have ab:∀s,eW V s->eW W s:=λs hs=>by obtain⟨a1,a2,a3,a4,a5,a6,a7,a8,a9,ac,ad,ae,af⟩:=V;dsimp only at K E J D;subst K E J D;exact hs
 have k:Kp (eY W G R) (eY V G R') w (w.setCell (zA g j) u):=(Kp.setCell (a:=(zA g j)) u fg).sub λb hb=>.inl (eY.eq ab d E rfl hb);have kk:Kp (Fs W G R H) (Fs V G R' H') w (w.setCell (zA g j) u):=by unfold Fs;rw[F];exact k.ee _
 refine⟨R',⟨i,M.mV.trans (k.below M.mV.size λk hk=>eY.from M.im hk),M.gw.pF (by rw[E]) (by rw[J]) (by rw[D]) (λc=>by rw[D]) (λc=>D▸⟨rfl,rfl,rfl,rfl⟩) (λc j=>by unfold St.fr;rw[D];exact⟨rfl,rfl⟩) (λc j _=>by unfold St.fr;rw[D];exact⟨rfl,rfl⟩),⟨L▸h▸M.pm.ps,h▸M.pm.l4,h▸M.pm.pc⟩,?_,hi,?_,I▸hE▸M.er.kept kk⟩,d,kk⟩
 .rw[O];refine(M.ks.kept kk).re λx hx=>?_;obtain⟨c,_,rfl⟩:=jj.1 hx;exact sI c _ _ _ _
 .obtain⟨hs,q,a⟩:=M.pr;exact⟨hs,F▸hP▸q.kept k,I▸a⟩
def Pj(M:Mi w0 p W G R H w)(E:mz p Hs)(I:Iv p Hs W cW)(hp:0<=cW)(aa:ft W<=1000000000000)(hw:Wt W cW want):
  zC 131 #[ptr (hd R (9,0,0)),v,zI want] w (Cz w0 p W G R H w (plain W 1 args cW)):=by
 obtain⟨g,cg,h9,c9,f9,_⟩:=M.im.mP;have p9:ptr (hd R (9,0,0))=zP g:=by rw[h9];rfl
 obtain⟨ia,K,J,ab,an,L⟩:=M.ins;have c2:=c9 2 _ rfl;cases h0:W.ins with
 |nil=>
  rw[show plain W 1 args cW=ok (gv W [v0] cW) by unfold plain;dsimp only;rw[h0];rfl];rw[h0]at J;rw[J]at c2;have GV:=cO (λY (hY:zB w Y)=>M.Ba (x:=v0) E I hp (xu _) aa hw hY);rw[p9]at GV|-;clear M E I hp aa hw h9 c9 f9 p9 J ab an L h0;go_enter func131,ntmps131;go_upto_region 1 with fail;refine dx λw1 F=>?_;have B1:Hid (zB w w1):=F▸ba;have L1:Hid (Lc (λ_=>False) w1 w.heap.size #[zI 0,zI 0,zT,.nilIface] 132):=F▸Lc.new w (λ_ h=>h.elim) _ _;clear F;have aw:=di c2 B1;obtain⟨z0,z1,z2,z3⟩:=L1.c4;clear c2;go_wp2_with(go_at_call 142;refine cA (GV _ B1) ?_;intro e w6 c6;obtain⟨x6,rfl⟩:=c6.ret;have C6:=cO c6;clear c6)
  go_returns;exact C6.re _
 |cons x l=>
  rw[show plain W 1 args cW=ok (gv {W with ins:=l} [tv (gj x)] cW) by unfold plain;dsimp only;rw[h0];rfl];rw[h0]at J ab L;obtain⟨ib,D,iu,rfl,O,ja,jc,rfl,_,ae,_⟩:=L 0 dC;have e0:(x::l).getD 0 []=x:=rfl;rw[e0]at O ae;rw[eD]at O;have ap:l.length+1<=K:=by simpa using ab
  obtain⟨nl,af⟩:=eX l.length;have ad:H.ins=.slice (some (zA ib D)) (nl+1) K:=by rw[J,af];rfl
  have ak:Hid (∀a c,(K≠1->a=some (zA ib (D+1)))->c=K-1->nP w0 (.slice a nl c) l):=by intro a c ha ag;subst ag;refine⟨a,K-1,by rw[af],cM,cM,λi hi=>?_⟩;obtain⟨b2,ar,u2,q1,q2,q3⟩:=L (i+1) (by simpa using hi);simp only[dB,fC,and_true]at q1;obtain⟨rfl,rfl⟩:=q1;rw[ha cM];refine⟨ib,D+1,u2,rfl,by rw[show D+1+i=D+(i+1) by omega];exact q2,?_⟩;simpa using q3
  obtain⟨sb,ah⟩:∃x':ByteArray,x'=⟨(gj x).toArray⟩:=⟨_,rfl⟩
  obtain⟨nx,ai⟩:=eX x.length;rw[<-ai]at O;rw[ad]at c2;have CV:=cO (λX (hX:zB w X)=>show zE X g 2 (.slice (some (zA ib D)) (nl+1) K)/\zE X ib D (.slice ja nx jc)/\(convert 29 9 (.slice ja nx jc)).run Tryz.prog X=.ok (.string sb) X/\X.frozen? (zA g 2)=false from⟨di c2 hX,di O (M.mV.trans (hX.mono M.mV.size)),ah▸xR (ae.below (M.mV.trans (hX.mono M.mV.size))) ai,(dA (a:=(zA g 2)) (hX.block g (dy _ _ c2))).trans (f9 2)⟩);have al:=I.ins x (h0▸fR);have am:Iv p Hs {W with ins:=l} cW:=I.data rfl rfl ⟨cE _,cE _,gS _,cE _⟩ I.vars I.tables I.funcs λy hy=>I.ins y (h0▸ig _ hy);have GV:Hid (∀X a c,zB w X->(K≠1->a=some (zA ib (D+1)))->c=K-1->zC 142 #[zP g,zS X.heap.size 1 1,zI want] ((X.setCell (zA g 2) (.slice a nl c)).alloc (.cells #[zI 3,zI 0,.string sb,.nilIface] 132)) (Cz w0 p W G R H w (ok (gv {W with ins:=l} [tv (gj x)] cW)))):=λX a c hX ha ag=>by obtain⟨R2,m2,d2,k2⟩:=(M.below hX).m9 (V:={W with ins:=l}) (H':={H with ins:=.slice a nl c}) rfl rfl rfl rfl rfl rfl rfl rfl rfl rfl rfl (ak a c ha ag) h9 (j:=2) (u:=.slice a nl c) rfl;have gg:=m2.Ba (x:=tv (gj x)) E am hp (jF _ (by unfold gj;rw[dY];exact al)) aa (want:=want) (λj q1 q2=>hw j q1 q2) (cN _ _);rw[show hd R2 (9,0,0)=hd R (9,0,0) by rw[d2],p9,show dV (hd R2) (tv (gj x))=.nilIface from rfl,show hC G (tv (gj x))=0 from rfl,show(tv (gj x)).k=3 from rfl,show(tv (gj x)).s=gj x from rfl,<-ah,show(X.setCell (zA g 2) (.slice a nl c)).heap.size=X.heap.size by simp[World.setCell]]at gg;refine gg.mono ?_;intro e w' cz;exact cz.from ((Kp.cY hX).trans k2) (by rw[d2])
  have TV:=cO (λX=>ki (w:=X) sb);unfold vq at TV;rw[p9];have lg:=dy _ _ c2;have au:nl+1<=K:=cM;clear M E I hp aa hw h9 c9 f9 p9 J ad ab L c2 h0 O ae am al ah ai af ak e0 ap;by_cases aq:K=1;all_goals
   go_enter func131,ntmps131;go_upto_region 1 with fail;refine dx λw1 F=>?_;have B1:Hid (zB w w1):=F▸ba;have L1:Hid (Lc (λ_=>False) w1 w.heap.size #[zI 0,zI 0,zT,.nilIface] 132):=F▸Lc.new w (λ_ h=>h.elim) _ _;clear F;obtain⟨a1,a2,a3,_⟩:=CV w1 B1;go_upto_region 3 with(go_at_call 62;refine cA (TV _) ?_;rintro e w5 ⟨rfl,b5⟩;have B5:=cO b5;have L5:=cO (L1.kept (Kp.cY b5));obtain⟨z0,z1,z2,z3⟩:=L5.c4;have zf:=L5.free;clear b5)
   refine dx λw6 aj=>?_;have B6:Hid (zB w w6):=aj▸qM (iy B1 B5) (cE _) _ _ _ _;have L6:Hid (Lc (λ_=>False) w6 w.heap.size #[zI 3,zI 0,.string sb,.nilIface] 132):=aj▸mb L5.2 _ _ _ _;clear aj a1 a2 a3 z0 z1 z2 z3 zf;obtain⟨a1,_,_,a4⟩:=CV w6 B6;go_upto_region 4 with fail;refine dx λw7 ac=>?_;have G7:=cO (by first|exact GV w6 (some (zA ib D)) 0 B6 (λh=>absurd aq h) cM|exact GV w6 (some (zA ib (D+1))) (K-1) B6 (λ_=>rfl) rfl);rw[<-ac,show w6.heap.size=w7.heap.size by rw[ac];simp[World.setCell]]at G7;have L7:Hid (Lc (λ_=>False) w7 w.heap.size #[zI 3,zI 0,.string sb,.nilIface] 132):=ac▸⟨λh=>h,(cZ _ (zA g 2) _ _ (by show w.heap.size≠g;omega)).trans L6.2⟩;obtain⟨z0,z1,z2,z3⟩:=L7.c4;clear ac GV a1 a4;go_wp2_with(go_at_call 142;refine cA G7 ?_;intro e w8 c8;obtain⟨x8,rfl⟩:=c8.ret;have C8:=cO c8;clear c8)
   go_returns;exact C8.re _
def Gw.cS(h:Gw W G)(O:V.tables.length=W.tables.length)(hf:V.funcs.length=W.funcs.length)(E:V.cS.length=W.cS.length)(D:∀c,(V.cS.getD c dE).cy=(W.cS.getD c dE).cy)(hr:∀c,c<W.cS.length->c≠0->nr (V.cS.getD c dE)->∀j,(W.cS.getD (V.cS.getD c dE).gq dE).cy.length=j+1->(W.fr (V.cS.getD c dE).gq j).guard=false->ra c=(V.cS.getD c dE).want)(hy:∀c,c<W.cS.length->(V.cS.getD c dE).state=0->0<=(V.cS.getD c dE).held->∀j,(W.cS.getD c dE).cy.length=j+1->(W.fr c j).guard=false->ya c=(V.cS.getD c dE).held)(hb:∀c,c<W.cS.length->(V.cS.getD c dE).gq<W.cS.length):Gw V {G with rw:=ra,yw:=ya}:=by
 have M:∀c j,V.fr c j=W.fr c j:=λc j=>by unfold St.fr;rw[D]
 refine⟨λc j F I J=>?_,λc F I J j K L=>?_,λc F I J j K L=>?_,λc F=>E▸hb c (E▸F),⟨O▸h.nm.qT,hf▸h.nm.fn,E▸h.nm.co⟩,λc j F I J=>?_,O▸hf▸E▸h.le,O▸hf▸E▸h.iG⟩
 .rw[M]at J|-;rw[D]at I;exact h.wa c j (E▸F) I J
 .rw[D]at K;rw[M]at L;exact hr c (E▸F) I J j K L
 .rw[D]at K;rw[M]at L;exact hy c (E▸F) I J j K L
 .rw[M]at J|-;rw[D]at I;exact h.gs c j (E▸F) I J
def P6(E:V.cS.length=W.cS.length)(F:∀c,(V.cS.getD c dE).cy=(W.cS.getD c dE).cy):ft V=ft W:=by unfold ft;congr 1;refine Jp (by simp[E]) λi h D=>?_;rw[vZ,vZ];have:=F i;rw[dY]at h D;rw[cB,cG h,cB,cG D]at this;unfold ny;rw[show V.cS[i].cy=W.cS[i].cy from this]
def Lv(M:Mi w0 p W G R H w)(E:mz p Hs)(I:Iv p Hs W cW)(hp:0<=cW/\cW<=50)(hv:∀x∈args,gG W.sz x)(ab:ft W<=1000000000000)(hw:Wt W cW want)(A:Av (Fs W G R H) w G (hd R) v args):
  zC 138 #[ptr (hd R (9,0,0)),v,zI want] w (Cz w0 p W G R H w (plain W 8 args cW)):=by
 obtain⟨g,cg,h9,c9,f9,_⟩:=M.im.mP;have p9:ptr (hd R (9,0,0))=zP g:=by rw[h9];rfl
 have J:=I.cQ;obtain⟨c,cc,h4,fc,c4,z4⟩:=M.im.Br J;have p4:ptr (hd R (4,W.cQ,0))=zP c:=by rw[h4];rfl
 have af:zE w g 41 (zP c):=by rw[<-p4];exact c9 41 _ rfl
 have c7:zE w c 7 (if W.cQ=0\/W.co.held<0 then .pointer none else ptr (hd R (4,W.co.gq,0))):=c4 7 _ rfl;have IM:=cO (λ(X:World) (q:Option Addr) (hq:zE X c 7 (.pointer q))=>uz hq);have e8:plain W 8 args cW=if W.cQ=0 then mW W rU else ok (gv ((W.dW W.cQ {W.co with held:=cW}).fy 0) [bv true,first args] (W.dW W.cQ {W.co with held:=cW}).co.want):=rfl;rw[e8];by_cases O:W.cQ=0
 .rw[cR O];rw[cR (.inl O)]at c7;have RA:=cO (λX=>jR (w:=X) ⟨rU.toArray⟩);unfold rU at RA;unfold vq at RA;have FI:Hid (∀X,zB w X->Cz w0 p W G R H w (mW W rU) (.panicked (BM (.agg #[zI 3,zI 0,.string ⟨#[121,105,101,108,100]⟩,.nilIface]))) X):=λX hX=>Cz.mW M rU hX;rw[p9];clear M E I hp hv ab hw A h9 c9 f9 p9 J h4 fc c4 z4 p4 O e8;go_enter func138,ntmps138;go_wp2_with(first
   |(go_at_call 145;refine cA (IM _ _ c7) ?_;rintro e w4 ⟨rfl,rfl⟩)
   |(go_at_call 164;refine cA (RA _) ?_;rintro e w5 ⟨rfl,b5⟩;have B5:=cO b5;clear b5))
  exact⟨rfl,FI _ B5⟩
 .rw[cK O];have hh:0<=W.co.held:=Wy.1 λq=>by have:=(I.fresh W.cQ J q).1;rw[I.run]at this;omega
  have hb:=I.gq W.cQ J O (.inl I.run);have nb:W.co.gq≠W.cQ:=λq=>by have:=hb.2;unfold St.co at q;rw[q,I.run]at this;omega
  obtain⟨r,cr,h5,_⟩:=M.im.Br hb.1;rw[cK cM,show hd R (4,W.co.gq,0)=_ from h5,show ptr (zS r 1 cr)=zP r from rfl]at c7;obtain⟨F,D⟩:=eX (W.dW W.cQ {W.co with held:=cW});have K:F.co={W.co with held:=cW}:=D▸ez _ _ _ _ J;have n1:F.cQ=W.cQ:=by rw[D];rfl
  have l1:F.cS.length=W.cS.length:=D▸df ..;have ac:∀i,F.cS.getD i dE=if i=W.cQ then {W.co with held:=cW}else W.cS.getD i dE:=λi=>by
   rw[D];show(W.cS.set W.cQ _).getD i dE=_;by_cases e:i=W.cQ
   .rw[cR e,e,ez _ _ _ _ J]
   .rw[cK e,dR _ _ _ _ _ (λq=>e q.symm)]
  obtain⟨Iy,wy,sy⟩:=I.BA hp O;rw[<-D]at Iy wy sy|-;rw[wy];have t4:eW W (4,W.cQ,0):=⟨J,rfl⟩
  have n4:=M.im.ij _ t4 dC;have st:=M.im.eH.store t4 (g:=c) (cap:=cc) (n4▸h4) 9 (zI want);have I1:∃R1,Im w0.heap.size F {G with yw:=λj=>if j=W.cQ then want else G.yw j} R1 H (w.setCell (zA c 9) (zI want))/\hd R1=hd R/\∀s,(R1 s).n=(R s).n:=by
   rw[D];refine M.im.Qh (ra:=G.rw) (ya:=λj=>if j=W.cQ then want else G.yw j) (c':={W.co with held:=cW}) J rfl (λj hj=>⟨rfl,cK hj⟩) ?_ (λk hk=>cZ _ (zA c 9) _ k (λe=>hk (by rw[show(R (4,W.cQ,0)).v=_ from h4,e];rfl)));rw[M.im.cells _ t4 (λe=>by simp at e)]at st;have e:(gF W G H (hd R) (4,W.cQ,0)).set 9 (zI want)=gF (W.dW W.cQ {W.co with held:=cW}) {G with yw:=λj=>if j=W.cQ then want else G.yw j} H (hd R) (4,W.cQ,0):=by show([Value.int .i64 W.co.state,hd R (5,W.cQ,0)]++vi G (hd R) W.co.body++[.bool (decide (W.cQ≠0/\0<=W.co.held)),if W.cQ=0\/W.co.held<0 then .pointer none else ptr (hd R (4,W.co.gq,0)),zI (G.rw W.cQ),zI (G.yw W.cQ)]).set 9 _=[Value.int .i64 ((W.cS.set W.cQ {W.co with held:=cW}).getD W.cQ dE).state,_]++vi _ _ ((W.cS.set W.cQ {W.co with held:=cW}).getD W.cQ dE).body++[.bool (decide (W.cQ≠0/\0<=((W.cS.set W.cQ {W.co with held:=cW}).getD W.cQ dE).held)),if W.cQ=0\/((W.cS.set W.cQ {W.co with held:=cW}).getD W.cQ dE).held<0 then .pointer none else ptr (hd R (4,((W.cS.set W.cQ {W.co with held:=cW}).getD W.cQ dE).gq,0)),zI (G.rw W.cQ),zI (if W.cQ=W.cQ then want else G.yw W.cQ)];rw[ez _ _ _ _ J,cR rfl,cK cM,cK Jq,fM (show W.cQ≠0/\0<=W.co.held from⟨O,hh⟩),fM (show W.cQ≠0/\0<=({W.co with held:=cW}:Co).held from⟨O,hp.1⟩)];rfl
   rw[e]at st;exact st
  obtain⟨R1,i1,d1,_⟩:=I1;obtain⟨G1,L⟩:=eX ({G with yw:=λj=>if j=W.cQ then want else G.yw j}:Gh);rw[<-L]at i1;have cL:∀i,(F.fy 0).cS.getD i dE=if i=W.co.gq then {W.cS.getD W.co.gq dE with state:=1}else if i=W.cQ then {W.co with held:=cW,state:=0}else W.cS.getD i dE:=by
   intro i;have e:(F.fy 0).cS=(F.cS.set W.cQ {W.co with held:=cW,state:=0}).set W.co.gq {(F.cS.set W.cQ {W.co with held:=cW,state:=0}).getD W.co.gq dE with state:=1}:=by unfold St.fy;dsimp only;rw[K,n1];rfl
   rw[e];by_cases a:i=W.co.gq
   .rw[cR a,a,ez _ _ _ _ (by rw[df,l1];exact hb.1),dR _ _ _ _ _ (λq=>nb q.symm),ac,cK nb]
   .rw[cK a,dR _ _ _ _ _ (λq=>a q.symm)];by_cases b:i=W.cQ
    .rw[cR b,b,ez _ _ _ _ (l1▸J)]
    .rw[cK b,dR _ _ _ _ _ (λq=>b q.symm),ac,cK b]
  have fL:∀i,((F.fy 0).cS.getD i dE).cy=(W.cS.getD i dE).cy/\((F.fy 0).cS.getD i dE).gq=(W.cS.getD i dE).gq/\((F.fy 0).cS.getD i dE).want=(W.cS.getD i dE).want:=λi=>by
   rw[cL];split
   .rename_i e;rw[e];exact⟨rfl,rfl,rfl⟩
   .split
    .rename_i e;rw[e];exact⟨rfl,rfl,rfl⟩
    .exact⟨rfl,rfl,rfl⟩
  have lL:(F.fy 0).cS.length=W.cS.length:=by simp[St.fy,St.dW,D]
  have nL:(F.fy 0).cQ=W.co.gq:=by show F.co.gq=_;rw[K]
  have gL:Gw (F.fy 0) G1:=by
   rw[L];refine M.gw.cS (ra:=G.rw) (by rw[D];rfl) (by rw[D];rfl) lL (λi=>(fL i).1) (λi q1 q2 q3 j q4 q5=>?_) (λi q1 q2 q3 j q4 q5=>?_) (λi q=>by rw[(fL i).2.1];exact M.gw.gq i q)
   .rw[(fL i).2.1]at q4 q5;rw[(fL i).2.2];refine M.gw.rw i q1 q2 ?_ j q4 q5;rw[cL]at q3;split at q3
    .rename_i e;rw[e];exact .inr hb.2
    .split at q3
     .obtain x|x:=q3
      .have x:(0:Int)=1:=x;omega
      .have x:(0:Int)=2:=x;omega
     .exact q3
   .rw[cL]at q2 q3|-;split at q2
    .have x:(1:Int)=0:=q2;omega
    .rename_i e;rw[cK e]at q3|-;split at q2
     .rename_i e';subst e';rw[cR rfl,cR rfl];exact hw j q4 q5
     .rename_i e';rw[cK e']at q3|-;rw[cK e'];exact M.gw.yw i q1 q2 q3 j q4 q5
  have wL:Wt (F.fy 0) W.co.want (G.rw W.cQ):=λj q1 q2=>by
   have fe:(F.fy 0).co.cy=(W.cS.getD W.co.gq dE).cy:=by show((F.fy 0).cS.getD (F.fy 0).cQ dE).cy=_;rw[nL];exact(fL _).1
   refine M.gw.rw W.cQ J O (.inl I.run) j (fe▸q1) ?_;rw[show(F.fy 0).fr (F.fy 0).cQ j=(F.fy 0).co.cy.getD j pG from rfl,fe]at q2;exact q2
  have vk:vi G1 (hd R1)=vi G (hd R):=by rw[d1,L];rfl
  have ad:∀s,eW F s->eW W s:=λs hs=>by rw[D]at hs;exact(wB (c':={W.co with held:=cW}) J rfl s).1 hs
  have k1:Kp (eY W G R) (eY F G1 R1) w (w.setCell (zA c 9) (zI want)):=(Kp.setCell (a:=(zA c 9)) _ fc).sub λb hb=>.inl (eY.eq ad d1 (by rw[D];rfl) (by rw[L]) hb);have AT:=cO (λX (hX:Below (w.setCell (zA c 9) (zI want)).heap.size (w.setCell (zA c 9) (zI want)) X)=>sj ((A.sub (S1:=eY W G R) (λk q=>.inl q)).kept (k1.trans (Kp.cY hX))) 0);rw[show args.getD 0 v0=first args from rfl]at AT;have LV:Hid (∀X,Below (w.setCell (zA c 9) (zI want)).heap.size (w.setCell (zA c 9) (zI want)) X->zC 147 #[zP g,zI 0] (X.alloc (.cells #[zI 1,zI 1,zT,.nilIface,zI (first args).k,zI (hC G (first args)),.string ⟨(first args).s.toArray⟩,dV (hd R) (first args)] 132)) λe w4=>e=.returned (zI (G.rw W.cQ))/\zC 142 #[zP g,zS X.heap.size 2 2,zI (G.rw W.cQ)] w4 (Cz w0 p W G R H w (ok (gv (F.fy 0) [bv true,first args] W.co.want)))):=λX hX=>by
   have B2:=(cN X.heap.size X).alloc (cE _) (.cells #[zI 1,zI 1,zT,.nilIface,zI (first args).k,zI (hC G (first args)),.string ⟨(first args).s.toArray⟩,dV (hd R) (first args)] 132);have B3:=iy hX B2;have lv:=yI (i1.below B3) (n1▸l1▸J) (n1▸O) (K▸hp.1) (K▸l1▸hb.1) (K▸n1▸nb) 0;rw[d1,p9,n1]at lv;refine lv.mono ?_;rintro e w4 ⟨rfl,R4,i4,d4,k4⟩;refine⟨by rw[L],?_⟩;obtain⟨m4,kk⟩:=M.gY i4 gL ((k1.trans (Kp.cY B3)).trans k4) (by rw[D];rfl) (by rw[D];rfl) (by rw[D];rfl);have av:Av (eY F G1 R1) (X.alloc (.cells #[zI 1,zI 1,zT,.nilIface,zI (first args).k,zI (hC G (first args)),.string ⟨(first args).s.toArray⟩,dV (hd R) (first args)] 132)) G1 (hd R1) (zS X.heap.size 2 2) [bv true,first args]:=by have A2:=Av.lit (G:=G1) (Z:=hd R1) (w:=X) (S:=eY F G1 R1) (λk hk=>dj (eY.lt i1 hk) hX.size) [bv true,first args] dC;rw[vk]at A2;exact A2
   have gg:=m4.sA E Iy (I.pU W.cQ J).1 (l:=[bv true,first args]) (yC (iX _ _) (sy▸ir hv)) (cV (mi ?_) ab) wL (v:=zS X.heap.size 2 2) (by rw[d4,<-d1];exact av.kept k4)
   .rw[d4,p9]at gg;refine gg.mono ?_;intro e' w5 cz;exact cz.from kk (by rw[d4])
   .exact P6 lL λi=>(fL i).1
  rw[p9];have BV:=cO (λX=>jM (w:=X) true);unfold jX vq at AT;have ag:=c4 9 _ rfl;have z9:=z4 9;have ts:=(gm (hd R) (first args)).store;generalize dV (hd R) (first args)=tt at*;obtain⟨r8,aa⟩:∃r:mX,r=ok (gv (F.fy 0) [bv true,first args] W.co.want):=⟨_,rfl⟩
  rw[<-aa]at LV|-;have RT:Hid (∀e X,Cz w0 p W G R H w r8 e X->∃x,e=.returned x):=λe X h=>by rw[aa]at h;exact h.ret
  have RE:Hid (∀e X y,Cz w0 p W G R H w r8 e X->Cz w0 p W G R H w r8 (.returned y) X):=λe X y h=>by rw[aa]at h|-;exact h.re y
  generalize(⟨(first args).s.toArray⟩:ByteArray)=fs at*;generalize hC G (first args)=fi at*;generalize(first args).k=fk at*;generalize G.rw W.cQ=ah at*;clear st M E I hp hv ab hw A h9 c9 f9 p9 J h4 fc c4 z4 p4 O e8 aa hh hb nb h5 K n1 l1 ac Iy wy sy t4 n4 i1 d1 L cL fL lL nL gL wL vk ad k1 D;go_enter func138,ntmps138;go_upto_region 4 with(go_at_call 145;refine cA (IM _ _ c7) ?_;rintro e w4 ⟨rfl,rfl⟩)
  refine dx λw1 ae=>?_;rw[<-ae]at AT LV;clear ae af c7 ag z9;go_wp2_with(first
   |(go_at_call 143;refine cA (BV _) ?_;rintro e w3 ⟨rfl,b3⟩;have B3:=cO b3;clear b3)
   |(go_at_call 172;refine cA (AT _ B3) ?_;rintro e w4 ⟨rfl,b4⟩;have B4:=cO (iy B3 b4);clear b4)
   |(go_at_call 147;refine cA (LV w4 B4) ?_;rintro e w5 ⟨rfl,g5⟩;have G5:=cO g5;clear g5)
   |(go_at_call 142;refine cA G5 ?_;intro e w6 c6;obtain⟨x6,rfl⟩:=RT _ _ c6;have C6:=cO c6;clear c6))
  go_returns;exact RE _ _ _ C6
abbrev lW(x:Vl):Co:=⟨[],0,x,0,0,-1⟩
def CQ(h:∀i j,i<n->j<n->f i=f j->i=j)(D:∀i,i<n->f i<=md):∀i j,i<n+1->j<n+1->(if i=n then md+1 else f i)=(if j=n then md+1 else f j)->i=j:=by
 intro i j E F e;by_cases a:i=n
 .by_cases b:j=n
  .omega
  .rw[cR a,cK b]at e;have:=D j cM;omega
 .by_cases b:j=n
  .rw[cK a,cR b]at e;have:=D i cM;omega
  .rw[cK a,cK b]at e;exact h i j cM cM e
def He(h:∀i,i<n->f i<=md):∀i,i<n+1->(if i=n then md+1 else f i)<=md+1:=by
 intro i D;split
 .omega
 .have:=h i cM;omega
def Gw.qT(h:Gw W G)(r:Nat):Gw {W with tables:=W.tables++[[]]} (G.qT W.tables.length r):=by
 have l:(W.tables++[([]:List (Vl×Vl))]).length=W.tables.length+1:=dC;have e:∀s i,s≠1->(G.qT W.tables.length r).ij s i=G.ij s i:=λs i q=>cK (λx=>q x.1);have E:∀i,(G.qT W.tables.length r).ij 1 i=if i=W.tables.length then G.iG+1 else G.ij 1 i:=λi=>by show(if 1=1/\i=W.tables.length then _ else _)=_;simp
 refine⟨h.wa,h.rw,h.yw,h.gq,⟨λi j=>?_,λi j=>?_,λi j=>?_⟩,h.gs,⟨λi D=>?_,λi D=>?_,λi D=>?_⟩,?_⟩
 .rw[E,E];show i<(W.tables++[[]]).length->j<(W.tables++[[]]).length->_;rw[l];exact CQ h.nm.qT h.le.1 i j
 .rw[e _ _ iM,e _ _ iM];exact h.nm.fn i j
 .rw[e _ _ iM,e _ _ iM];exact h.nm.co i j
 .rw[E];exact He h.le.1 i (l▸D)
 .rw[e _ _ iM];exact mh (h.le.2.1 i D)
 .rw[e _ _ iM];exact mh (h.le.2.2 i D)
 .show G.iG+1<=(W.tables++[[]]).length+W.funcs.length+W.cS.length;have:=h.iG;omega
def Gw.fn(h:Gw W G)(c:Nat×List Nat):Gw {W with funcs:=W.funcs++[c]} (G.fn W.funcs.length):=by
 have l:(W.funcs++[c]).length=W.funcs.length+1:=dC;have e:∀s i,s≠2->(G.fn W.funcs.length).ij s i=G.ij s i:=λs i q=>cK (λx=>q x.1);have E:∀i,(G.fn W.funcs.length).ij 2 i=if i=W.funcs.length then G.iG+1 else G.ij 2 i:=λi=>by show(if 2=2/\i=W.funcs.length then _ else _)=_;simp
 refine⟨h.wa,h.rw,h.yw,h.gq,⟨λi j=>?_,λi j=>?_,λi j=>?_⟩,h.gs,⟨λi D=>?_,λi D=>?_,λi D=>?_⟩,?_⟩
 .rw[e _ _ iM,e _ _ iM];exact h.nm.qT i j
 .rw[E,E];show i<(W.funcs++[c]).length->j<(W.funcs++[c]).length->_;rw[l];exact CQ h.nm.fn h.le.2.1 i j
 .rw[e _ _ iM,e _ _ iM];exact h.nm.co i j
 .rw[e _ _ iM];exact mh (h.le.1 i D)
 .rw[E];exact He h.le.2.1 i (l▸D)
 .rw[e _ _ iM];exact mh (h.le.2.2 i D)
 .show G.iG+1<=W.tables.length+(W.funcs++[c]).length+W.cS.length;have:=h.iG;omega
def Gh.co(G:Gh)(n:Nat):Gh:={G with ij:=λs i=>if s=4/\i=n then G.iG+1 else G.ij s i,rw:=λi=>if i=n then 0 else G.rw i,yw:=λi=>if i=n then 0 else G.yw i,iG:=G.iG+1}
def Gw.co(h:Gw W G)(x:Vl)(hn:0<W.cS.length):Gw {W with cS:=W.cS++[lW x]} (G.co W.cS.length):=by
 have l:(W.cS++[lW x]).length=W.cS.length+1:=dC;have e:∀s i,s≠4->(G.co W.cS.length).ij s i=G.ij s i:=λs i q=>cK (λx=>q x.1);have e1:∀i,(G.co W.cS.length).ij 4 i=if i=W.cS.length then G.iG+1 else G.ij 4 i:=λi=>by show(if 4=4/\i=W.cS.length then _ else _)=_;simp
 have F:∀i,i<W.cS.length->(W.cS++[lW x]).getD i dE=W.cS.getD i dE:=λi J=>iL _ _ _ _ J;have new:(W.cS++[lW x]).getD W.cS.length dE=lW x:=gD _ _ _;have M:∀i,i<(W.cS++[lW x]).length->i<W.cS.length\/i=W.cS.length:=λi J=>cM;have O:∀i j,i<W.cS.length->({W with cS:=W.cS++[lW x]}:St).fr i j=W.fr i j:=λi j J=>by show((W.cS++_).getD i dE).cy.getD j pG=_;rw[F i J];rfl
 refine⟨λc j K D E=>?_,λc K D E j I L=>?_,λc K D E j I L=>?_,λc K=>?_,⟨λi j=>?_,λi j=>?_,λi j=>?_⟩,λc j K D E=>?_,⟨λi J=>?_,λi J=>?_,λi J=>?_⟩,?_⟩
 .obtain q|q:=M c K
  .rw[O c _ q]at E|-;have D:=D;rw[F c q]at D;exact h.wa c j q D E
  .subst q;have D:=D;rw[new]at D;exact absurd D (dT _)
 .have E:=E;have I:=I;have L:=L;show(if c=W.cS.length then 0 else G.rw c)=((W.cS++[lW x]).getD c dE).want;obtain q|q:=M c K
  .rw[F c q]at E I L|-;rw[F _ (h.gq c q)]at I;rw[O _ _ (h.gq c q)]at L;rw[cK cM];exact h.rw c q D E j I L
  .subst q;rw[new]at E;obtain y|y:=E
   .have y:(0:Int)=1:=y;omega
   .have y:(0:Int)=2:=y;omega
 .have D:=D;have E:=E;have I:=I;show(if c=W.cS.length then 0 else G.yw c)=((W.cS++[lW x]).getD c dE).held;obtain q|q:=M c K
  .rw[F c q]at D E I|-;rw[O c j q]at L;rw[cK cM];exact h.yw c q D E j I L
  .subst q;rw[new]at I;exact absurd I dC
 .show((W.cS++[lW x]).getD c dE).gq<(W.cS++[lW x]).length;rw[l];obtain q|q:=M c K
  .rw[F c q];have:=h.gq c q;omega
  .subst q;rw[new];show 0<_;omega
 .rw[e _ _ iM,e _ _ iM];exact h.nm.qT i j
 .rw[e _ _ iM,e _ _ iM];exact h.nm.fn i j
 .rw[e1,e1];show i<(W.cS++[lW x]).length->j<(W.cS++[lW x]).length->_;rw[l];exact CQ h.nm.co h.le.2.2 i j
 .have D:=D;obtain q|q:=M c K
  .rw[O c j q]at E|-;rw[F c q]at D;exact h.gs c j q D E
  .subst q;rw[new]at D;exact absurd D (dT _)
 .rw[e _ _ iM];exact mh (h.le.1 i J)
 .rw[e _ _ iM];exact mh (h.le.2.1 i J)
 .rw[e1];exact He h.le.2.2 i (l▸J)
 .show G.iG+1<=W.tables.length+W.funcs.length+(W.cS++[lW x]).length;have:=h.iG;omega
def Im.On(h:Im cJ W G R H w)(F:Wf W){x:Vl}(hx:gG W.sz x)(M:Below w.heap.size w w1)(hB:cJ<=w.heap.size)(h9:hd R (9,0,0)=.slice (some ⟨g,0,none⟩) 1 cg):
  ∃R',Im cJ {W with cS:=W.cS++[lW x]} (G.co W.cS.length) R' H ((w1.alloc (.cells #[.int .i64 0,.slice none 0 0,.int .i64 x.k,.int .i64 (hC G x),.string ⟨x.s.toArray⟩,dV (hd R) x,.bool false,.pointer none,.int .i64 0,.int .i64 0] 138)).setCell ⟨g,42,none⟩ (.int .i64 ((G.iG+1:Nat):Int)))/\(∀t,eW W t->hd R' t=hd R t)/\jX (G.co W.cS.length) (hd R') ⟨7,W.cS.length,[]⟩=.agg #[.int .i64 7,.int .i64 ((G.iG+1:Nat):Int),.string ⟨#[]⟩,.iface 79 (.pointer (some ⟨w1.heap.size,0,none⟩))]/\∀k,eY {W with cS:=W.cS++[lW x]} (G.co W.cS.length) R' k->eY W G R k\/w.heap.size<=k:=by
 obtain⟨n,hn⟩:=eX W.cS.length;obtain⟨K,L⟩:=eX ([zI 0,zN,zI x.k,zI (hC G x),.string ⟨x.s.toArray⟩,dV (hd R) x,.bool false,.pointer none,zI 0,zI 0]:List Value);obtain⟨I,J⟩:=eX (jG (jG R (4,n,0) ⟨zS w1.heap.size 1 1,1,K⟩) (5,n,0) lA);have q4:I (4,n,0)=⟨zS w1.heap.size 1 1,1,K⟩:=by rw[J,dh _ _ dC,dD]
 have q5:I (5,n,0)=lA:=by rw[J,dD]
 have qo:∀s,s≠(4,n,0)->s≠(5,n,0)->I s=R s:=λs e1 e2=>by rw[J,dh _ _ e2,dh _ _ e1]
 have out:∀s,eW W s\/s.1=0->I s=R s:=λs E=>by
  refine qo s (λe=>?_) (λe=>?_)<;>subst e
  .obtain q|q:=E
   .have:n<W.cS.length:=q.1;omega
   .simp at q
  .obtain q|q:=E
   .have:n<W.cS.length:=q.1;omega
   .simp at q
 have B2:=M.alloc M.size (.cells K.toArray 138);have ow:=jt (base:=cJ) (e:=138) (size:=10) w1 K.toArray 1 (cV hB M.size) (by unfold maxLen;omega) (by rw[L];rfl);have aa:rn.Rows cJ Is Iz (λs=>eW W s\/(s=(4,n,0)\/s=(5,n,0))) I (w1.alloc (.cells K.toArray 138)):=by
  have A:=(h.below B2).eH.add (t:=(4,n,0)) (r:=⟨zS w1.heap.size 1 1,1,K⟩) ow λk hk u hu _ e=>by
   have kk:w1.heap.size=k:=by simpa[Value.ownBlock]using hk
   have:=((h.eH.own u hu).lt k e).2;have:=M.size;omega
  have B:=A.nil (5,n,0);rw[<-J]at B;exact B.sub λs E=>by
   obtain q|q|q:=E
   .exact .inl (.inl q)
   .exact .inl (.inr q)
   .exact .inr q
 have ab:∀s,eW {W with cS:=W.cS++[lW x]} s->eW W s\/(s=(4,n,0)\/s=(5,n,0)):=by
  intro s E;obtain⟨s,i,j⟩:=s;have key:i<(W.cS++[lW x]).length->i<W.cS.length\/i=n:=λq=>by rw[dq]at q;simp only[dt,dG]at q;omega
  have no:¬(j<((W.cS++[lW x]).getD n dE).cy.length):=by rw[hn,gD];exact dT _
  have fr:i<W.cS.length->(W.cS++[lW x]).getD i dE=W.cS.getD i dE:=λq=>iL _ _ _ _ q;have up:i<(W.cS++[lW x]).length/\j<((W.cS++[lW x]).getD i dE).cy.length/\(((W.cS++[lW x]).getD i dE).cy.getD j pG).guard=false->i<W.cS.length/\j<(W.cS.getD i dE).cy.length/\(W.fr i j).guard=false:=λ⟨a,b,c⟩=>by
   obtain q|q:=key a
   .rw[fr q]at b c;exact⟨q,b,c⟩
   .subst q;exact absurd b no
  obtain _|_|_|_|_|_|_|_|_|_|s:=s
  .exact .inl E
  .exact .inl E
  .exact .inl E
  .exact .inl E
  .obtain q|q:=key E.1
   .exact .inl ⟨q,E.2⟩
   .exact .inr (.inl (by rw[q,show j=0 from E.2]))
  .obtain q|q:=key E.1
   .exact .inl ⟨q,E.2⟩
   .exact .inr (.inr (by rw[q,show j=0 from E.2]))
  .exact .inl (up E)
  .exact .inl (up E)
  .exact .inl (up E)
  .exact .inl E
  .exact .inl E
 have D:Mo W G W.funcs (W.cS++[lW x]) (G.co n).ij (G.co n).rw (G.co n).yw:=⟨cE _,dC,λ_ _=>rfl,λi hi=>iL _ _ _ _ hi,λk i q=>cK cM,λi hi=>⟨cK cM,cK cM⟩⟩
 have hz:∀s:eO,eW W s->hd I s=hd R s:=λs q=>by unfold hd;rw[out s (.inl q)]
 have vx:=BE (G':=G.co n) (Z':=hd I) (Z:=hd R) hz D.nu hx;obtain⟨R',i,d⟩:=h.jz (fs:=W.funcs) (cs:=W.cS++[lW x]) (nu:=(G.co n).ij) (ra:=(G.co n).rw) (ya:=(G.co n).yw) (md:=G.iG+1) (N:=λs=>s=(4,n,0)\/s=(5,n,0)) F D out aa B2 ab (λs q=>by
   obtain rfl|rfl:=q
   .refine⟨dC,dC,by rw[q4];rfl,?_,λi hi e=>?_⟩
    .rw[q4];show K=[Value.int .i64 ((W.cS++[lW x]).getD n dE).state,hd I (5,n,0)]++vi _ (hd I) ((W.cS++[lW x]).getD n dE).body++[.bool (decide (n≠0/\0<=((W.cS++[lW x]).getD n dE).held)),if n=0\/((W.cS++[lW x]).getD n dE).held<0 then .pointer none else _,zI (if n=n then 0 else G.rw n),zI (if n=n then 0 else G.yw n)];have gl:(W.cS++[lW x]).getD n dE=lW x:=hn▸gD _ _ _;rw[gl,cR rfl,cR rfl,cR (Or.inr (show(-1:Int)<0 by decide)),fj (show¬(n≠0/\(0:Int)<=(lW x).held)from λq=>by have h:(0:Int)<=-1:=q.2;omega)];show K=[zI 0,hd I (5,n,0)]++vi (G.co n) (hd I) x++_;rw[vx,show hd I (5,n,0)=zN by unfold hd;rw[q5];rfl,L];rfl
    .rw[q4]at e;obtain⟨⟨es,c,m1,_⟩,_⟩:=h.pZ i hi;have:w1.heap.size=G.map i:=by simpa[Value.ownBlock]using e
     have:=(dS.1 m1).1;have:=M.size;omega
   .refine⟨dC,dC,?_,?_,λi hi e=>by rw[q5]at e;cases e⟩
    .rw[q5];show 0=((W.cS++[lW x]).getD n dE).cy.length;rw[hn,gD];rfl
    .rw[q5];show[]=(List.range ((W.cS++[lW x]).getD n dE).cy.length).flatMap _;rw[hn,gD];rfl) h.fP (by
   refine Lo.sub h.lone λc j a q1 O q3=>?_;have q1:=q1;have O:=O;rw[dq]at q1;simp only[dt,dG]at q1;by_cases q:c<W.cS.length
   .have e:(W.cS++[lW x]).getD c dE=W.cS.getD c dE:=iL _ _ _ _ q;rw[e]at O;exact⟨q,O,by unfold St.fr;rw[show({W with cS:=W.cS++[lW x]}:St).cS.getD c dE=W.cS.getD c dE from e]⟩
   .rw[show c=W.cS.length by omega,gD]at O;exact absurd O (dT _)) h9
 subst hn;refine⟨R',by rw[<-L];exact i,λt ht=>d▸hz t ht,?_,λk hk=>?_⟩
 .have a1:hC (G.co W.cS.length) ⟨7,W.cS.length,[]⟩=((G.iG+1:Nat):Int):=by
   unfold hC Gh.co;dsimp only;rw[cK iM,cK iM,cR rfl,cR ⟨rfl,fh _⟩]
  have a2:dV (hd R') ⟨7,W.cS.length,[]⟩=.iface 79 (zP w1.heap.size):=by unfold dV;dsimp only;rw[cK iM,cK iM,cR rfl,d,fh];unfold hd;rw[q4];rfl
  unfold jX vq;rw[a1,a2]
 .obtain⟨s,E,e⟩|q:=hk
  .rw[d]at e;obtain q|q|q:=ab s E
   .exact .inl (.row q (by rw[<-hz s q];exact e))
   .subst q;unfold hd at e;rw[q4]at e;have:w1.heap.size=k:=by simpa[Value.ownBlock]using e
    exact .inr (by have:=M.size;omega)
   .subst q;unfold hd at e;rw[q5]at e;cases e
  .exact .inl (.inr q)
def KC(M:Mi w0 p W G R H w)(E:mz p Hs)(I:Iv p Hs W cW)(hp:0<=cW)(hv:∀x∈args,gG W.sz x)(L:ft W<=1000000000000)(D:G.iG<=1000000000)(hw:Wt W cW want)(A:Av (Fs W G R H) w G (hd R) v args):
  zC 136 #[ptr (hd R (9,0,0)),v,zI want] w (Cz w0 p W G R H w (plain W 6 args cW)):=by
 obtain⟨x,hx⟩:=eX (first args);have xo:=ir hv;have e6:plain W 6 args cW=if (first args).k=5\/(first args).k=6 then ok (gv {W with cS:=W.cS++[⟨[],0,first args,0,0,-1⟩]} [⟨7,W.cS.length,[]⟩] cW)else mW W rV:=rfl;rw[e6];rw[<-hx]at xo|-;have AT:=cO (λX (O:zB w X)=>sj (A.below O) 0);rw[show args.getD 0 v0=x from hx.symm]at AT;obtain⟨g,cg,h9,c9,f9,_⟩:=M.im.mP;have p9:ptr (hd R (9,0,0))=zP g:=by rw[h9];rfl
 unfold jX vq at AT;have IF:=cO (λX=>yN (w:=X) x.k (hC G x) ⟨x.s.toArray⟩ (dV (hd R) x));unfold vq at IF;by_cases J:x.k=5\/x.k=6
 .rw[cR J];rw[show(x.k==5 || x.k==6)=true by obtain q|q:=J<;>rw[q]<;>rfl]at IF;have FR:Hid (∀X,zB w X->zC 162 #[zP g,zI 7,.iface 79 (zP X.heap.size)] (X.alloc (.cells #[zI 0,zN,zI x.k,zI (hC G x),.string ⟨x.s.toArray⟩,dV (hd R) x,.bool false,.pointer none,zI 0,zI 0] 138)) λe w3=>e=.returned (.agg #[zI 7,zI ((G.iG+1:Nat):Int),zT,.iface 79 (zP X.heap.size)])/\zC 142 #[zP g,zS w3.heap.size 1 1,zI want] (w3.alloc (.cells #[zI 7,zI ((G.iG+1:Nat):Int),zT,.iface 79 (zP X.heap.size)] 132)) (Cz w0 p W G R H w (ok (gv {W with cS:=W.cS++[⟨[],0,x,0,0,-1⟩]} [⟨7,W.cS.length,[]⟩] cW)))):=λX O=>by
   obtain⟨R',i,d,vv,fp⟩:=M.im.On (M.gw.wf I) xo O M.bs h9;have B2:=O.trans (((cN X.heap.size X).alloc (cE _) (.cells #[zI 0,zN,zI x.k,zI (hC G x),.string ⟨x.s.toArray⟩,dV (hd R) x,.bool false,.pointer none,zI 0,zI 0] 138)).mono O.size);refine(wC (m:=G.iG) (k:=7) 79 (some (zA X.heap.size 0)) D (di (c9 42 _ rfl) B2) ((dA (a:=(zA g 42)) (B2.block g (dy _ _ (c9 42 _ rfl)))).trans (f9 42))).mono ?_;rintro e w3 ⟨rfl,K⟩;refine⟨rfl,?_⟩;have k1:Kp (eY W G R) (eY {W with cS:=W.cS++[lW x]} (G.co W.cS.length) R') w w3:=((Kp.cY B2).trans (Kp.wr (eY.row (t:=(9,0,0)) rfl (by rw[h9];rfl)) K)).sub λk hk=>fp k hk;obtain⟨m,kp⟩:=M.gY (i.wr K) (M.gw.co x (by have:=I.cQ;omega)) k1 rfl rfl rfl;have vc:=I.Di xo J;have fe:ft {W with cS:=W.cS++[lW x]}=ft W:=by unfold ft;rw[gX,Lq];rfl
   have dd:=d (9,0,0) rfl;have gg:=m.Ba (want:=want) E vc hp (x:=⟨7,W.cS.length,[]⟩) (Lx (by simp[St.sz])) (fe▸L) (λj q1 q2=>by
    have e:({W with cS:=W.cS++[lW x]}:St).cS.getD W.cQ dE=W.cS.getD W.cQ dE:=iL _ _ _ _ I.cQ;refine hw j ?_ ?_
    .unfold St.co at q1|-;rw[<-e];exact q1
    .unfold St.fr at q2|-;rw[<-e];exact q2) (cN _ _)
   rw[dd,p9]at gg;unfold jX vq at vv;simp only[Value.agg.injEq,Array.mk.injEq,iA,and_true]at vv;unfold zI at gg;rw[vv.2.1,vv.2.2.2]at gg;refine gg.mono ?_;intro e w4 cz;exact cz.from kp dd
  obtain⟨r8,F⟩:∃r:mX,r=ok (gv {W with cS:=W.cS++[⟨[],0,x,0,0,-1⟩]} [⟨7,W.cS.length,[]⟩] cW):=⟨_,rfl⟩
  rw[<-F]at FR|-;have RT:Hid (∀e X,Cz w0 p W G R H w r8 e X->∃x,e=.returned x):=λe X h=>by rw[F]at h;exact h.ret
  have RE:Hid (∀e X y,Cz w0 p W G R H w r8 e X->Cz w0 p W G R H w r8 (.returned y) X):=λe X y h=>by rw[F]at h|-;exact h.re y
  have ts:=(gm (hd R) x).store;generalize dV (hd R) x=tt at*;generalize(⟨x.s.toArray⟩:ByteArray)=fs at*;generalize hC G x=fi at*;generalize x.k=fk at*;generalize((G.iG+1:Nat):Int)=md at*;rw[p9];clear M E I hp hv L hw A h9 c9 f9 p9 F D xo e6 J hx;go_enter func136,ntmps136;go_upto_region 2 with(first
   |(go_at_call 172;refine cA (AT _ (cN _ _)) ?_;rintro e w3 ⟨rfl,K⟩;have B3:=cO K;clear K)
   |(go_at_call 173;refine cA (IF _) ?_;rintro e w4 ⟨rfl,b4⟩;have B4:=cO (iy B3 b4);clear b4))
  go_wp2_with(first
   |(go_at_call 172;refine cA (AT _ B4) ?_;rintro e w5 ⟨rfl,b5⟩;have B5:=cO (iy B4 b5);clear b5)
   |(go_at_call 162;refine cA (FR w5 B5) ?_;rintro e w6 ⟨rfl,g6⟩;have G6:=cO g6;clear g6)
   |(go_at_call 142;refine cA G6 ?_;intro e w7 c7;obtain⟨x7,rfl⟩:=RT _ _ c7;have C7:=cO c7;clear c7))
  go_returns;exact RE _ _ _ C7.out
 .rw[cK J];rw[show(x.k==5 || x.k==6)=false by rw[Bool.or_eq_false_iff,sB,sB];exact⟨λq=>J (.inl q),λq=>J (.inr q)⟩]at IF;have RA:=cO (λX=>jR (w:=X) ⟨rV.toArray⟩);unfold rV at RA;unfold vq at RA;have FI:=cO (λX (O:zB w X)=>Cz.mW M rV O);generalize dV (hd R) x=tt at*;rw[p9];clear M E I hp hv L hw A h9 c9 f9 p9 D xo e6 J hx;go_enter func136,ntmps136;go_wp2_with(first
   |(go_at_call 172;refine cA (AT _ (cN _ _)) ?_;rintro e w3 ⟨rfl,K⟩;have B3:=cO K;clear K)
   |(go_at_call 173;refine cA (IF _) ?_;rintro e w4 ⟨rfl,b4⟩;have B4:=cO (iy B3 b4);clear b4)
   |(go_at_call 164;refine cA (RA _) ?_;rintro e w5 ⟨rfl,b5⟩;have B5:=cO (iy B4 b5);clear b5))
  exact⟨rfl,FI _ B5⟩
end im
end Go.Proofs.YtfpkdfeakanlpaaGreatDoor
