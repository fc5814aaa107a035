import Derived.Deep.RegionHeld3
import Derived.Test.YtfpkdfeakanlpaaGreatDoorMImPr
set_option linter.all false
set_option maxRecDepth 100000
set_option maxHeartbeats 8000000
namespace Go.Proofs.YtfpkdfeakanlpaaGreatDoor
open Go.Proofs.Tryz
namespace im
open RowKit bts pg rn chk
variable{G G':Gh}{H H':Hi}{b op cW want:Int}{args:List Vl}{N a c cg g m:Nat}{Hs:Nat→List Int}{p:Pg}{T V W W0:St}{R R' R0:eO→fW}{v:Value}{f x:Vl}{X w w0 w1:World}
def My(E:mz p Hs)(h:Tb w0)(D:Pw w0):UZ w0 p Hs 130 0:=λW G R H w cW want args v M I hp hv hal n B hm hw A=>
 MC M E h D I hp.1 hv hal (by have:=B.ft;omega) B.size B.dn hw A
def Fp(E:mz p Hs)(D:Tb w0)(F:Pw w0)(I:Iv p Hs W cW)(J:0<=cW/\cW<=50)(K:gG W.sz f)(L:∀x∈args,gG W.sz x)(h:args.length<=1000)(B:td W (nX W args))(O:W.tables.length+W.funcs.length+W.cS.length<=1000000000)(M:Mi w0 p W G R H w)(hw:Wt W cW want)(A:Av (Fs W G R H) w G (hd R) v args):
  zC 169 #[ptr (hd R (9,0,0)),jX G (hd R) f,v,zI want] w (Cz w0 p W G R H w (tX p W f args cW)):=
 Dq E D F (My E D F) _ W f args cW want G R H w v (by unfold nX;split<;>omega) I J K L h B O M hw A
def Av.own{S:Nat->Prop}{Z:eO->Value}{l:List Vl}{B n D:Nat}{E:Option Addr}(h:w.ownsRow B 132 4 (.slice E n D) n (l.flatMap (vi G Z)))(F:n=l.length)(J:∀k,S k->k<B):Av S w G Z (.slice E n D) l:=by
 obtain⟨e,z⟩|⟨g,cap,K,e,hb,hh,q1,L,q3,q4⟩:=h.2
 .simp only[de]at e;obtain⟨rfl,e2,rfl⟩:=e;exact⟨none,0,by rw[F],cM,cM,λq=>absurd q cM⟩
 .simp only[de]at e;obtain⟨rfl,-,rfl⟩:=e;refine⟨_,_,by rw[F],cM,by unfold maxLen at L;omega,λq=>⟨g,0,rfl,λs=>by have:=J g s;omega,λi r u M I=>?_⟩⟩;have O:r<4:=by
   have:=(fG.1 I).1;simpa[vi]using this
  rw[dU,h.cellAt _ cM];rw[kh (c:=4) (λx=>rfl) v0 l i r M O];exact I
def Kw(M:Mi w0 p W G R H w)(E:mz p Hs)(tb:Tb w0)(pw:Pw w0)(h:W.cQ<W.cS.length)(hl:W.co.cy.length=m+1)(hg:W.db.guard=false)(ho:W.db.ops.length<=200000)(ha:a+1<=W.db.ops.length)(ac:a<=1000)(I:Iv p Hs (W.dZ (a+1)) b)(hp:0<=b/\b<=50)(hv:∀x∈W.taken (a+1),gG (W.dZ (a+1)).sz x)(B:td (W.dZ (a+1)) (nX (W.dZ (a+1)) ((W.taken (a+1)).drop 1)))(hm:W.tables.length+W.funcs.length+W.cS.length<=1000000000):
  zC 124 #[ptr (hd R (9,0,0)),ptr (hd R (6,W.cQ,m)),.agg (zW op (a:Int) b)] w (Cz w0 p W G R H w (tX p (W.dZ (a+1)) ((W.taken (a+1)).getD 0 v0) ((W.taken (a+1)).drop 1) b)):=by
 have CU:Cu w0.heap.size W G R H m w:=⟨M.im,M.bs,h,hl,hg,ho⟩
 obtain⟨f,hf,_⟩:=CU.ptr;obtain⟨g,cg,h9,_⟩:=M.im.mP;have p9:ptr (hd R (9,0,0))=zP g:=by rw[h9];rfl
 obtain⟨r,hr⟩:=eX (tX p (W.dZ (a+1)) ((W.taken (a+1)).getD 0 v0) ((W.taken (a+1)).drop 1) b);rw[<-hr];obtain⟨vx,D⟩:∃v,v=jX G (hd R) ((W.taken (a+1)).getD 0 v0):=⟨_,rfl⟩
 have l0:0<W.co.cy.length:=cM;have tl:W.taken (a+1)=W.db.ops.getD (W.db.ops.length-a-1) v0::W.taken a:=by unfold St.taken;rw[show W.db.ops.length-(a+1)=W.db.ops.length-a-1 by omega,lZ cM,show W.db.ops.length-a-1+1=W.db.ops.length-a by omega,cB,cG cM];rfl
 have ta:(W.taken (a+1)).drop 1=W.taken a:=by rw[tl];rfl
 have la:(W.taken a).length=a:=by unfold St.taken;rw[eZ];omega
 have LT:=cO (λk (hk:eY W G R k)=>eY.lt M.im hk);have gl:∀n,Gw (W.dZ n) G:=λn=>M.gw.db h l0 rfl rfl (λe=>by rw[hg]at e;cases e);have TK:Hid (∀X,zB w X->zC 168 #[zP f,zI (a:Int)] X λe O=>∃F J,e=.returned (.slice F a J)/\(∀c cs ty,Lc (eY W G R) X c cs ty->∃S1,Lc S1 O c cs ty/\∀Y,zB O Y->zC 161 #[zP f] Y λe w4=>e=.returned vx/\(∃S2,Lc S2 w4 c cs ty)/\zC 169 #[zP g,vx,.slice F a J,zI b] w4 (Cz w0 p W G R H w r))):=λX hX=>by
  have t:=Iw (M.im.below hX) h hl hg cM (n:=a) cM;rw[hf]at t;refine t.mono ?_;rintro e O ⟨F,J,rfl,ow,R3,u3,i3,d3,k3,ad⟩;refine⟨F,J,rfl,λc cs ty L=>⟨_,L.kept k3,λY hY=>?_⟩⟩;have aa:vi G (hd R3)=vi G (hd R):=by rw[d3,nJ dC]
  obtain⟨_,tc,tf,tp⟩:=kT h l0 a;have n3:(W.dZ a).cQ<(W.dZ a).cS.length:=tc▸h;have l3:(W.dZ a).co.cy.length=m+1:=tf▸hl;have p3:ptr (hd R3 (6,W.cQ,m))=zP f:=by rw[d3,dL dC];exact hf
  have pp:=MD (i3.below hY) n3 l3 (tp▸hg) (by rw[tp];show(W.db.ops.take _).length<=_;rw[dX];omega) (by rw[tp];show 0<(W.db.ops.take _).length;rw[dX];omega) (v:=(W.taken (a+1)).getD 0 v0) (by rw[tl,tp];show _=(W.db.ops.take (W.db.ops.length-a)).getD ((W.db.ops.take (W.db.ops.length-a)).length-1) v0;rw[dX,sw cM,cB (l:=W.db.ops.take _),Wx,cR cM,<-cB];rfl);rw[show(W.dZ a).cQ=W.cQ from rfl,p3]at pp;refine pp.mono ?_;rintro e w4 ⟨rfl,R4,u4,i4,d4,k4⟩;rw[A6 h l0]at i4 k4;have ab:vi G (hd R4)=vi G (hd R):=by rw[d4,nJ dC,aa]
  have vv:∀Z,vi G Z=vi G (hd R)->jX G Z ((W.taken (a+1)).getD 0 v0)=vx:=λZ e=>by rw[D];show Value.agg ⟨vi G Z _⟩=.agg ⟨vi G (hd R) _⟩;rw[e]
  refine⟨by rw[vv _ aa],⟨_,((L.kept k3).kept (Kp.cY hY)).kept k4⟩,?_⟩;have kA:=(((Kp.cY hX).trans k3).trans (Kp.cY hY)).trans k4;obtain⟨M4,kk⟩:=M.gY i4 (gl _) kA rfl rfl rfl;have d9:hd R4 (9,0,0)=hd R (9,0,0):=by rw[d4,dL dC,d3,dL dC]
  have sX:=hX.size;have av:Av (Fs (W.dZ (a+1)) G R4 H) w4 G (hd R4) (.slice F a J) ((W.taken (a+1)).drop 1):=by rw[ta];have q:Av (Fs (W.dZ a) G R3 H) O G (hd R) (.slice F a J) (W.taken a):=Av.own ow la.symm λk hk=>dj (Fs.lt M (hk.imp (ad k) id)) sX;exact((q.kept (Kp.cY hY)).kept (k4.ee _)).re λx _=>by rw[ab]
  have c:=Fp (f:=(W.taken (a+1)).getD 0 v0) E tb pw I hp (tl▸hv _ (by rw[tl];exact fR)) (λx hx=>hv x (fK hx)) (by rw[ta,la];exact ac) B (by rw[(kT h l0 (a+1)).2.1];exact hm) M4 (want:=b) (λ_ _ _=>rfl) av;rw[d9,p9,vv _ ab,<-hr]at c;exact c.mono λe w' cz=>cz.from kk d9
 have CC:=Cz.parts w0 p W G R H w r;have TV:∃k i s t,vx=.agg #[zI k,zI i,.string s,t]:=⟨_,_,_,_,D⟩
 obtain⟨kx,ix,sx,tx,ae⟩:=TV;rw[p9,hf];subst ae;clear M E tb pw h hl hg ho ha I hp hv B hm CU hf h9 p9 hr D l0 tl ta la gl;go_enter func124,ntmps124;go_upto_region 1 with fail;refine dx λw1 K=>?_;have B1:Hid (zB w w1):=K▸ba;have L1:Hid (Lc (eY W G R) w1 w.heap.size (zW op (a:Int) b) 105):=K▸Lc.new w LT _ _;clear K;have x1:=L1.cell (j:=1) rfl;go_upto_region 2 with(go_at_call 168;refine cA (TK _ B1) ?_;rintro e O ⟨F,J,rfl,p3⟩;obtain⟨S1,l3,q3⟩:=p3 _ _ _ L1;have L3:=cO l3;have P3:=cO q3;clear p3 l3 q3 x1)
 obtain⟨S,hS⟩:=eX (λX:World=>zE X w.heap.size 2 (zI b));have un:∀X,S X->zE X w.heap.size 2 (zI b):=λX q=>by rw[hS]at q;exact q
 have y1:=λx:Wd S=>un _ x.ok;have MK:Hid (∀X,zE X w.heap.size 2 (zI b)->S X):=λX q=>hS▸q;clear hS un TK;haveI:Nonempty (Wd S):=⟨⟨O,MK _ (L3.cell (j:=2) rfl)⟩⟩
 refine Cg S [0,1,3,4,5] [2] [6] (MK _ (L3.drew.cell (j:=2) rfl)) ?_;simp only[pick,ey,eB,eL,eM,dt,dG];repeat(go_big_quiet_step(fail))
 refine wpQuiet_nil ?_;clear y1;refine dI ?_;go_wp2_with(go_at_call 161;refine cA (P3 _ (cN _ _).drew) ?_;rintro e w4 ⟨rfl,⟨S2,l4⟩,g4⟩;have L4:=cO l4;have G4:=cO g4;clear l4 g4)
 refine⟨MK _ (L4.cell (j:=2) rfl),?_⟩;refine ej ?_;obtain rc|rc:=CC<;>have RC:=cO rc<;>clear rc
 .go_wp2_with(go_at_call 169;refine cA G4 ?_;intro e w7 c7;obtain⟨x7,rfl,d7⟩:=RC _ _ c7;have D7:=cO d7;clear d7 c7)
  go_returns;exact D7 _
 .go_wp2_with(go_at_call 169;refine cA G4 ?_;intro e w7 c7;obtain⟨x7,rfl,d7⟩:=RC _ _ c7;have D7:=cO d7;clear d7 c7)
  exact⟨rfl,D7⟩
def Jf(M:Mi w0 p W G R H w)(D:W.cQ<W.cS.length)(gp:Gw W.fU G)(hl:W.co.cy.length=m+1)(hg:W.db.guard=false)(K:m<=1000000000000){f cf cc:Nat}(h6:hd R (6,W.cQ,m)=.slice (some ⟨f,0,none⟩) 1 cf)(h4:hd R (4,W.cQ,0)=.slice (some ⟨c,0,none⟩) 1 cc)(hX:Below w.heap.size w X):
  Calls Tryz.prog 141 #[.pointer (some ⟨c,0,none⟩)] X λe I=>e=.returned (.iface 147 (.pointer (some ⟨f,0,none⟩)))/\(∀k,k<X.heap.size->k≠c->I.heap[k]?=X.heap[k]?)/\f≠c/\∃h,Im w0.heap.size W.fU G h H I/\Gw W.fU G/\vi G (hd h)=vi G (hd R)/\hd h (9,0,0)=hd R (9,0,0)/\Kp (eY W G R) (eY W.fU G h) w I/\(∀k,eY W.fU G h k->eY W G R k)/\¬eY W.fU G h f/\Wt W.fU W.db.want (G.wa W.cQ m):=by
 have L:=(M.im.db D hl hg).1;have O:(R (6,W.cQ,m)).v.ownBlock=some f:=by rw[show(R (6,W.cQ,m)).v=_ from h6];rfl
 have b4:(R (4,W.cQ,0)).v.ownBlock=some c:=by rw[show(R (4,W.cQ,0)).v=_ from h4];rfl
 have d:=ze (M.im.below hX) D hl K;rw[h4]at d;refine cA (show Calls _ _ #[.pointer (some ⟨c,0,none⟩)] _ _ from d) ?_;rintro e I ⟨rfl,h,u,i3,d3,k3,fp,kp⟩;refine⟨by unfold PZ;rw[hg,h6];rfl,λk E q=>kp k E (λe=>q (by simpa[Value.ownBlock]using e.symm)),λe=>M.im.eH.apart (6,W.cQ,m) (4,W.cQ,0) L ⟨D,rfl⟩ dC f O (by rw[b4,e]),h,i3,gp,by rw[d3,nJ dC],by rw[d3,dL dC],(Kp.cY hX).trans k3,λk E=>?_,λE=>?_,λj q1 J=>?_⟩
 .obtain⟨s,hs,_,_,e⟩|⟨i,hi,e⟩:=fp k E
  .exact .row hs e
  .exact .inr ⟨i,hi,e⟩
 .obtain⟨s,hs,ne,_,e⟩|⟨i,hi,e⟩:=fp f E
  .exact M.im.eH.apart (6,W.cQ,m) s L hs (λq=>ne q.symm) f O e
  .exact(M.im.pZ i hi).2.2 _ L (by rw[O,e])
 .have e1:W.co.cy.length-1=m:=cM;have F:W.fU.co.cy=W.co.cy.take m:=by
   show((W.du (W.co.cy.take (W.co.cy.length-1))).cS.getD W.cQ dE).cy=_;rw[oK D,cR rfl,e1]
  rw[F,dX]at q1;have mj:m=j+1:=cM;have J:(W.fU.co.cy.getD j pG).guard=false:=J;rw[F,oH _ _ _ _ cM]at J;have:=M.gw.wa W.cQ j D (by show j+1<W.co.cy.length;omega) J;rw[<-mj]at this;rw[this];unfold St.db;rw[e1];rfl
def EZ(M:Mi w0 p W G R H w)(E:mz p Hs)(hn:W.cQ<W.cS.length)(gp:Gw W.fU G)(hl:W.co.cy.length=m+1)(hg:W.db.guard=false)(aa:m<=1000000000000)(ho:W.db.ops.length<=200000)(ha:a<=W.db.ops.length)(I:Iv p Hs W.fU W.db.want)(hp:0<=W.db.want)(hv:∀x∈W.taken a,gG W.fU.sz x)(ab:ft W.fU<=1000000000000):
  Calls Tryz.prog 126 #[ptr (hd R (9,0,0)),ptr (hd R (6,W.cQ,m)),.agg #[.int .i64 op,.int .i64 (a:Int),.int .i64 b]] w (Cz w0 p W G R H w (ok (gv W.fU (W.taken a) W.db.want))):=by
 obtain⟨t6,t8,n8,c8,f,cf,av,cv,h6,h8,ca,ac⟩:=M.im.db hn hl hg;obtain⟨c,cc,h4,fc,c4,z4⟩:=M.im.Br hn;obtain⟨g,cg,h9,c9,_,_⟩:=M.im.mP;have p9:ptr (hd R (9,0,0))=.pointer (some ⟨g,0,none⟩):=by rw[h9];rfl
 have p6:ptr (hd R (6,W.cQ,m))=.pointer (some ⟨f,0,none⟩):=by unfold hd;rw[h6];rfl
 have af:Hid (∀X,Below w.heap.size w X->X.cell? ⟨g,41,none⟩=some (.pointer (some ⟨c,0,none⟩))):=λX hX=>by rw[show Value.pointer (some ⟨c,0,none⟩)=ptr (hd R (4,W.cQ,0)) by rw[h4];rfl];exact di (c9 41 _ rfl) hX
 have la:(W.taken a).length=a:=by unfold St.taken;rw[eZ];omega
 have ff:eY W G R f:=.row t6 (by unfold hd;rw[h6];rfl);have lf:=eY.lt M.im ff;obtain⟨aj,ag,ad,_,c6,_,_⟩:=M.im.eA t6 (M.im.ij _ t6 dC) dC;rw[h6]at ad;cases ad;have ae:=c6 4 _ rfl;have own:=M.im.eH.own _ t8;rw[h8,n8]at own;obtain⟨r8,F⟩:∃r:mX,r=ok (gv W.fU (W.taken a) W.db.want):=⟨_,rfl⟩
 rw[<-F,p9,p6];have RT:Hid (∀e X,Cz w0 p W G R H w r8 e X->∃x,e=.returned x):=λe X h=>by rw[F]at h;exact h.ret
 have RE:Hid (∀e X y,Cz w0 p W G R H w r8 e X->Cz w0 p W G R H w r8 (.returned y) X):=λe X y h=>by rw[F]at h|-;exact h.re y
 have DR:Hid (∀X,Below w.heap.size w X->Calls Tryz.prog 141 #[.pointer (some ⟨c,0,none⟩)] X λe D=>e=.returned (.iface 147 (.pointer (some ⟨f,0,none⟩)))/\(∀k,k<X.heap.size->k≠c->D.heap[k]?=X.heap[k]?)/\c<w.heap.size/\Calls Tryz.prog 242 #[.pointer (some ⟨f,0,none⟩)] D (λe w'=>e=.returned (.int .i64 (G.wa W.cQ m))/\w'=D)/\Calls Tryz.prog 168 #[.pointer (some ⟨f,0,none⟩),.int .i64 (a:Int)] D λe w4=>∃bv cw,e=.returned (.slice bv a cw)/\Calls Tryz.prog 142 #[.pointer (some ⟨g,0,none⟩),.slice bv a cw,.int .i64 (G.wa W.cQ m)] w4 (Cz w0 p W G R H w r8)):=λX hX=>by
  refine(Jf M hn gp hl hg aa h6 h4 hX).mono ?_;rintro e D ⟨rfl,kp,ah,R3,i3,g3,vk,d9,L,fs,nf,wt⟩;have sX:=hX.size;have bf:=(kp f cM ah).trans (hX.block f lf);have ai:∀k,(Value.slice av W.db.ops.length cv).ownBlock=some k->D.heap[k]?=w.heap[k]?:=λk e=>by have lk:=(own.lt k e).2;refine(kp k cM λq=>?_).trans (hX.block k lk);subst q;exact M.im.eH.apart (8,W.cQ,m) (4,W.cQ,0) t8 ⟨hn,rfl⟩ dC k (by rw[h8];exact e) (by rw[show(R (4,W.cQ,0)).v=_ from h4];rfl)
  refine⟨rfl,kp,eY.lt M.im fc,wK ((dK (a:=⟨f,4,none⟩) bf).trans ae),?_⟩;refine(DS (w:=D) ((dK (a:=⟨f,3,none⟩) bf).trans ca) ((dA (a:=⟨f,3,none⟩) bf).trans ac) (jm own ai) (by rw[c8];intro u hu;obtain⟨v,_,hv⟩:=Jo.1 hu;exact Ly G (hd R) v u hv) cM ha).mono ?_;rintro e w4 ⟨bv,cw,rfl,o,J⟩;refine⟨bv,cw,rfl,?_⟩;rw[c8,<-ry (c:=4) (λ_=>rfl)]at o;have s3:D.heap.size<=w4.heap.size:=by have:=J.size;simpa[World.setCell]using this
  have k4:∀k,k<D.heap.size->k≠f->w4.heap[k]?=D.heap[k]?:=λk K q=>(J.block k K).trans (cZ _ ⟨f,3,none⟩ _ k q);have i4:=i3.heap λk K=>k4 k (eY.lt i3 K) λq=>nf (q▸K);have kA:Kp (eY W G R) (eY W.fU G R3) w w4:=⟨J.os.trans L.os,J.tape.trans L.tape,J.output.trans L.output,cV L.size s3,λk K q=>(k4 k (dj K L.size) λe=>q (e▸ff)).trans (L.kg k K q),L.out⟩
  obtain⟨M4,kk⟩:=M.gY i4 g3 kA rfl rfl rfl;have gg:=M4.sA (want:=G.wa W.cQ m) E I hp (l:=W.taken a) hv ab wt (v:=.slice bv a cw) ((Av.own o la.symm λk K=>eY.lt i3 K).re λx _=>by rw[vk]);rw[d9,p9]at gg;rw[F];exact gg.mono λe w' cz=>cz.from kk d9
 generalize G.wa W.cQ m=wa at*;have LT:=cO (λ(_:Unit)=>lf);clear M E gp hl hg aa ho ha I hp hv ab t6 t8 n8 c8 h6 h8 ca ac h4 fc c4 z4 h9 c9 p9 p6 la ff lf c6 ae own F;go_enter func126,ntmps126;go_upto_region 1 with fail;refine dx λw1 O=>?_;have B1:Hid (Below w.heap.size w w1):=O▸ba;have L1:Hid (Lc (λ_=>False) w1 w.heap.size #[.int .i64 op,.int .i64 (a:Int),.int .i64 b] 105):=O▸Lc.new w (λ_ h=>h.elim) _ _;clear O;have c1:=af _ B1;go_wp2_with(first
  |(go_at_call 141;refine cA (DR _ B1) ?_;rintro e D ⟨rfl,kp,lc,WA,TK⟩;have wA:=cO WA;have tK:=cO TK;have L3:Hid (Lc (λ_=>False) D w.heap.size #[.int .i64 op,.int .i64 (a:Int),.int .i64 b] 105):=⟨λh=>h,(kp _ L1.lt cM).trans L1.2⟩;have x1:=L3.cell (j:=1) rfl;clear kp lc WA TK c1)
  |(go_at_call 242;refine cA wA ?_;rintro e w4 ⟨rfl,rfl⟩)
  |(go_at_call 168;refine cA tK ?_;rintro e w5 ⟨bv,cw,rfl,g5⟩;have G5:=cO g5;clear g5)
  |(go_at_call 142;refine cA G5 ?_;intro e w6 c6;obtain⟨x6,rfl⟩:=RT _ _ c6;have C6:=cO c6;clear c6))
 go_returns;exact RE _ _ _ C6
def It(h:W.cQ<W.cS.length)(f:Fr):(W.dN f).fU=W.fU:=by have c:(W.dN f).co={W.co with cy:=W.co.cy.set (W.co.cy.length-1) f}:=ez _ _ _ _ h;unfold St.fU;rw[c];dsimp only;rw[df,V4 (cE _)];unfold St.du;rw[c];unfold St.dN St.du St.dW;dsimp only;rw[nD]
def Km(M:Mi w0 p W G R H w)(E:mz p Hs)(tb:Tb w0)(pw:Pw w0)(hn:W.cQ<W.cS.length)(gp:Gw W.fU G)(hl:W.co.cy.length=m+1)(hg:W.db.guard=false)(af:m<=1000000000000)(ho:W.db.ops.length<=200000)(ha:a+1<=W.db.ops.length)(ag:a<=1000)(I:Iv p Hs W.fU W.db.want)(hp:0<=W.db.want/\W.db.want<=50)(hv:∀x∈W.taken (a+1),gG W.fU.sz x)(B:td W.fU (nX W.fU ((W.taken (a+1)).drop 1)))(hm:W.fU.tables.length+W.fU.funcs.length+W.fU.cS.length<=1000000000):
  Calls Tryz.prog 125 #[ptr (hd R (9,0,0)),ptr (hd R (6,W.cQ,m)),.agg #[.int .i64 op,.int .i64 (a:Int),.int .i64 b]] w (Cz w0 p W G R H w (tX p W.fU ((W.taken (a+1)).getD 0 v0) ((W.taken (a+1)).drop 1) W.db.want)):=by
 have l0:0<W.co.cy.length:=cM;obtain⟨t6,_,_,_,f,cf,_,_,h6,_,_,_⟩:=M.im.db hn hl hg;obtain⟨c,cc,h4,fc,c4,z4⟩:=M.im.Br hn;obtain⟨g,cg,h9,c9,_,_⟩:=M.im.mP;have p9:ptr (hd R (9,0,0))=.pointer (some ⟨g,0,none⟩):=by rw[h9];rfl
 have p6:ptr (hd R (6,W.cQ,m))=.pointer (some ⟨f,0,none⟩):=by unfold hd;rw[h6];rfl
 obtain⟨r,hr⟩:=eX (tX p W.fU ((W.taken (a+1)).getD 0 v0) ((W.taken (a+1)).drop 1) W.db.want);rw[<-hr,p9,p6];obtain⟨vx,O⟩:∃v,v=jX G (hd R) ((W.taken (a+1)).getD 0 v0):=⟨_,rfl⟩
 have tl:W.taken (a+1)=W.db.ops.getD (W.db.ops.length-a-1) v0::W.taken a:=by unfold St.taken;rw[show W.db.ops.length-(a+1)=W.db.ops.length-a-1 by omega,lZ cM,show W.db.ops.length-a-1+1=W.db.ops.length-a by omega,cB,cG cM];rfl
 have ta:(W.taken (a+1)).drop 1=W.taken a:=by rw[tl];rfl
 have la:(W.taken a).length=a:=by unfold St.taken;rw[eZ];omega
 have lp:(W.dZ a).fU=W.fU:=It hn _;have TK:Hid (∀X,Below w.heap.size w X->Calls Tryz.prog 168 #[.pointer (some ⟨f,0,none⟩),.int .i64 (a:Int)] X λe w3=>∃bv cw,e=.returned (.slice bv a cw)/\w3.cell? ⟨g,41,none⟩=some (.pointer (some ⟨c,0,none⟩))/\Calls Tryz.prog 141 #[.pointer (some ⟨c,0,none⟩)] w3 λe F=>e=.returned (.iface 147 (.pointer (some ⟨f,0,none⟩)))/\Calls Tryz.prog 242 #[.pointer (some ⟨f,0,none⟩)] F (λe w'=>e=.returned (.int .i64 (G.wa W.cQ m))/\w'=F)/\Calls Tryz.prog 161 #[.pointer (some ⟨f,0,none⟩)] F λe w5=>e=.returned vx/\Calls Tryz.prog 169 #[.pointer (some ⟨g,0,none⟩),vx,.slice bv a cw,.int .i64 (G.wa W.cQ m)] w5 (Cz w0 p W G R H w r)):=λX hX=>by
  have t:=Iw (M.im.below hX) hn hl hg cM (n:=a) cM;rw[p6]at t;refine t.mono ?_;rintro e w3 ⟨bv,cw,rfl,ow,J,u3,i3,d3,k3,aq⟩;obtain⟨tn,tc,tf,tp⟩:=kT hn l0 a;have sX:=hX.size;have n3:(W.dZ a).cQ<(W.dZ a).cS.length:=tc▸hn;have l3:(W.dZ a).co.cy.length=m+1:=tf▸hl;have g3:(W.dZ a).db.guard=false:=tp▸hg;have ah:vi G (hd J)=vi G (hd R):=by rw[d3,nJ dC]
  have aa:∀s,s≠(8,W.cQ,m)->hd J s=hd R s:=λs q=>by rw[d3,dL q]
  obtain⟨M3,ar⟩:=M.gY i3 (M.gw.db hn l0 rfl rfl (λe=>by rw[hg]at e;cases e)) ((Kp.cY hX).trans k3) rfl rfl rfl;obtain⟨g',aI,ai,au,_,_⟩:=M3.im.mP;rw[aa _ dC,h9]at ai;cases ai;have ab:hd J (6,(W.dZ a).cQ,m)=.slice (some ⟨f,0,none⟩) 1 cf:=(aa _ dC).trans h6;have ac:hd J (4,(W.dZ a).cQ,0)=.slice (some ⟨c,0,none⟩) 1 cc:=(aa _ dC).trans h4;obtain⟨ad,aj,aw,ax,f',aJ,av,cv,ak,al,ca,ay⟩:=M3.im.db n3 l3 g3;rw[show(J (6,(W.dZ a).cQ,m)).v=_ from ab]at ak;cases ak;obtain⟨aK,az,am,_,c6,_,_⟩:=M3.im.eA ad (M3.im.ij _ ad dC) dC;rw[show(J (6,(W.dZ a).cQ,m)).v=_ from ab]at am;cases am;have ff:eY (W.dZ a) G J f:=.row ad (by rw[ab];rfl);refine⟨bv,cw,rfl,?_,?_⟩
  .rw[show Value.pointer (some ⟨c,0,none⟩)=ptr (hd J (4,(W.dZ a).cQ,0)) by rw[ac];rfl];exact au 41 _ rfl
  refine(Jf M3 n3 (by rw[lp];exact gp) l3 g3 af ab ac (cN _ _)).mono ?_;rintro e F ⟨rfl,kp,aA,R4,i4,g4,aB,aC,k4,fs,nf,wt⟩;rw[lp]at i4 g4 k4 fs nf wt;have aD:(W.dZ a).db.want=W.db.want:=by rw[tp]
  rw[aD]at wt;have lf:=eY.lt M3.im ff;have bf:=kp f lf aA;refine⟨rfl,wK ((dK (a:=⟨f,4,none⟩) bf).trans (c6 4 _ rfl)),?_⟩;obtain⟨n,D⟩:∃n,(W.dZ a).db.ops.length=n+1:=⟨(W.dZ a).db.ops.length-1,by rw[tp];show _=(W.db.ops.take _).length-1+1;show(W.db.ops.take _).length=_;rw[dX];omega⟩
  have own:=M3.im.eH.own _ aj;rw[al,aw,D]at own;rw[D]at ca;obtain⟨e0,e1⟩|⟨b8,aH,aL,e0,aM,aN,q1,q2,q3,q4⟩:=own.2
  .omega
  simp only[de]at e0;obtain⟨rfl,-,rfl⟩:=e0;have xo:(W.dZ a).db.ops.getD n v0=(W.taken (a+1)).getD 0 v0:=by rw[tl];rw[tp]at D|-;have D:=D;rw[dX]at D;show(W.db.ops.take (W.db.ops.length-a)).getD n v0=W.db.ops.getD (W.db.ops.length-a-1) v0;rw[show W.db.ops.length-a-1=n by omega,cB,Wx,cR cM,<-cB]
  have aE:b8≠c:=λe=>M3.im.eH.apart (8,(W.dZ a).cQ,m) (4,(W.dZ a).cQ,0) aj ⟨n3,rfl⟩ dC b8 (by rw[al];rfl) (by rw[show(J (4,(W.dZ a).cQ,0)).v=_ from ac,e];rfl);have l8:=(own.lt b8 rfl).2;have cell:∀rr u,(vi G (hd R) ((W.taken (a+1)).getD 0 v0))[rr]?=some u->F.cell? ⟨b8,n*4+rr,none⟩=some u:=λrr u q=>by
   have r4:rr<4:=by have:=(fG.1 q).1;simpa[vi]using this
   rw[dK (a:=⟨b8,n*4+rr,none⟩) (kp b8 l8 aE),own.cellAt _ (by show _<(n+1)*4;omega),ax,kh (c:=4) (λx=>rfl) v0 _ n rr cM r4,xo,ah];exact q
  have aF:n<=1000000000:=by
   have h:n+1<=W.db.ops.length:=by rw[<-D,tp];show(W.db.ops.take _).length<=_;rw[dX];omega
   omega
  refine(IL (w:=F) (a:=f) (n:=n) (k:=((W.taken (a+1)).getD 0 v0).k) (m:=hC G ((W.taken (a+1)).getD 0 v0)) (s:=⟨((W.taken (a+1)).getD 0 v0).s.toArray⟩) (t:=dV (hd R) ((W.taken (a+1)).getD 0 v0)) ((dK (a:=⟨f,3,none⟩) bf).trans ca) ((dA (a:=⟨f,3,none⟩) bf).trans ay) q1 aF (cell 0 _ rfl) (cell 1 _ rfl) (cell 2 _ rfl) (cell 3 _ rfl) (gm _ _)).mono ?_;rintro e w5 ⟨rfl,K⟩;refine⟨by rw[O];rfl,?_⟩;have s4:F.heap.size<=w5.heap.size:=by have:=K.size;simpa[World.setCell]using this
  have k5:∀k,k<F.heap.size->k≠f->w5.heap[k]?=F.heap[k]?:=λk hk q=>(K.block k hk).trans (cZ _ ⟨f,3,none⟩ _ k q);have i5:=i4.heap λk hk=>k5 k (eY.lt i4 hk) λq=>nf (q▸hk);have kA:Kp (eY (W.dZ a) G J) (eY W.fU G R4) w3 w5:=⟨K.os.trans k4.os,K.tape.trans k4.tape,K.output.trans k4.output,cV k4.size s4,λk hk q=>(k5 k (dj hk k4.size) λe=>q (e▸ff)).trans (k4.kg k hk q),k4.out⟩
  obtain⟨M5,an⟩:=M3.gY i5 g4 kA (by rfl) (by rfl) (by rfl);have d9:=aC.trans (aa _ dC);have ap:=aB.trans ah;have av:Av (Fs W.fU G R4 H) w5 G (hd R4) (.slice bv a cw) ((W.taken (a+1)).drop 1):=by rw[ta];have q:Av (Fs (W.dZ a) G J H) w3 G (hd R) (.slice bv a cw) (W.taken a):=Av.own ow la.symm λk hk=>dj (Fs.lt M (hk.imp (aq k) id)) sX;exact(q.kept an).re λx _=>by rw[ap]
  have cs:=Fp (f:=(W.taken (a+1)).getD 0 v0) E tb pw I hp (tl▸hv _ (by rw[tl];exact fR)) (λx hx=>hv x (fK hx)) (by rw[ta,la];exact ag) B hm M5 wt av;rw[d9,p9,show jX G (hd R4) ((W.taken (a+1)).getD 0 v0)=vx by rw[O];show Value.agg ⟨vi G (hd R4) _⟩=.agg ⟨vi G (hd R) _⟩;rw[ap],<-hr]at cs;exact cs.mono λe w' cz=>cz.from (ar.trans an) d9
 have CC:=Cz.parts w0 p W G R H w r;have TV:∃k i s t,vx=.agg #[.int .i64 k,.int .i64 i,.string s,t]:=⟨_,_,_,_,O⟩
 obtain⟨kx,ix,sx,tx,aG⟩:=TV;generalize G.wa W.cQ m=wa at*;subst aG;clear M E tb pw gp hl hg af ho ha ag I hp hv B hm hn l0 t6 h6 h4 fc c4 z4 h9 c9 p9 p6 hr O tl ta la lp;obtain rc|rc:=CC<;>have RC:=cO rc<;>clear rc
 .go_enter func125,ntmps125;go_wp2_with(first
   |(go_at_call 168;refine cA (TK _ (ba)) ?_;rintro e w3 ⟨bv,cw,rfl,ae,d3⟩;have D3:=cO d3;clear d3)
   |(go_at_call 141;refine cA D3 ?_;rintro e F ⟨rfl,L,p4⟩;have WA:=cO L;have P4:=cO p4;clear L p4 ae)
   |(go_at_call 242;refine cA WA ?_;rintro e w5 ⟨rfl,rfl⟩)
   |(go_at_call 161;refine cA P4 ?_;rintro e w6 ⟨rfl,g6⟩;have G6:=cO g6;clear g6)
   |(go_at_call 169;refine cA G6 ?_;intro e w7 c7;obtain⟨x7,rfl,d7⟩:=RC _ _ c7;have D7:=cO d7;clear d7 c7))
  go_returns;exact D7 _
 .go_enter func125,ntmps125;go_wp2_with(first
   |(go_at_call 168;refine cA (TK _ (ba)) ?_;rintro e w3 ⟨bv,cw,rfl,ae,d3⟩;have D3:=cO d3;clear d3)
   |(go_at_call 141;refine cA D3 ?_;rintro e F ⟨rfl,L,p4⟩;have WA:=cO L;have P4:=cO p4;clear L p4 ae)
   |(go_at_call 242;refine cA WA ?_;rintro e w5 ⟨rfl,rfl⟩)
   |(go_at_call 161;refine cA P4 ?_;rintro e w6 ⟨rfl,g6⟩;have G6:=cO g6;clear g6)
   |(go_at_call 169;refine cA G6 ?_;intro e w7 c7;obtain⟨x7,rfl,d7⟩:=RC _ _ c7;have D7:=cO d7;clear d7 c7))
  exact⟨rfl,D7⟩
def Mi.UL(M:Mi w0 p W G R H w)(D:Below w.heap.size w X){u:Value}{s:List UInt8}(J:Bo w0.heap.size (λk=>Fs W G R H k\/k<w.heap.size) X u s){O:Nat}(K:hd R (9,0,0)=.slice (some ⟨g,0,none⟩) 1 O):
  ∃R',Mi w0 p {W with lu:=s} G R' {H with er:=u} (X.setCell ⟨g,47,none⟩ u)/\hd R'=hd R/\Kp (Fs W G R H) (Fs {W with lu:=s} G R' {H with er:=u}) w (X.setCell ⟨g,47,none⟩ u):=by
 have E:=M.below D;have fg:eY W G R g:=.row (t:=(9,0,0)) rfl (by rw[K];rfl);obtain⟨R',i,d,_⟩:=E.im.m9 (V:={W with lu:=s}) (H':={H with er:=u}) (j:=47) (u:=u) rfl rfl rfl rfl rfl K rfl;have k:Kp (eY W G R) (eY {W with lu:=s} G R') X (X.setCell (zA g 47) u):=(Kp.setCell (a:=(zA g 47)) u fg).sub λb D=>.inl (eY.eq (λ_ h=>h) d rfl rfl D);have F:Kp (Fs W G R H) (Fs {W with lu:=s} G R' {H with er:=u}) X (X.setCell (zA g 47) u):=k.ee _;obtain⟨hs,L,_⟩:=M.pr;have q:=L.kept (Kp.cY D);refine⟨R',⟨i,E.mV.trans (k.below E.mV.size λk hk=>eY.from E.im hk),M.gw.pF rfl rfl rfl (λ_=>rfl) (λ_=>⟨rfl,rfl,rfl,rfl⟩) (λ_ _=>⟨rfl,rfl⟩) (λ_ _ _=>⟨rfl,rfl⟩),⟨M.pm.ps,M.pm.l4,M.pm.pc⟩,(E.ks.kept F).re λx I=>?_,M.ins,⟨hs,q.kept k,λx I b e e2=>?_⟩,(J.sub λk=>.inl).kept F⟩,d,(Kp.cY D).trans F⟩
 .obtain⟨c,_,rfl⟩:=jj.1 I;exact sI c _ _ _ _
 .obtain⟨_,_,_,z⟩:=L.nw I;exact(J.lt (show u.ownBlock=some b from e2)).2.2 (.inr (z.lt e).2.1)
section
def Mi.UB(M:Mi w0 p W G R H w)(E:mz p Hs)(I:Iv p Hs W cW)(L:0<=cW)(b:Bool)(O:gG W.sz x)(D:ft W<=1000000000000)(hw:Wt W cW want){Y Z:World}(F:Below w.heap.size w Y)(J:Below (Y.heap.size+1) (Y.alloc (.cells #[.int .i64 1,.int .i64 (if b then 1 else 0),.string ⟨#[]⟩,.nilIface,.int .i64 x.k,.int .i64 (hC G x),.string ⟨x.s.toArray⟩,dV (hd R) x] 132)) Z):
  Calls Tryz.prog 142 #[ptr (hd R (9,0,0)),.slice (some ⟨Y.heap.size,0,none⟩) 2 2,.int .i64 want] Z λe K=>Cz w0 p W G R H w (ok (gv W [bv b,x] cW)) e K/\∀k,w.heap.size<=k->k<Z.heap.size->K.heap[k]?=Z.heap[k]?:=by
 rw[<-dk Y (.cells #[zI 1,zI (if b then 1 else 0),zT,.nilIface,zI x.k,zI (hC G x),.string ⟨x.s.toArray⟩,dV (hd R) x] 132)]at J;have B0:=(cN Y.heap.size Y).alloc (cE _) (.cells #[zI 1,zI (if b then 1 else 0),zT,.nilIface,zI x.k,zI (hC G x),.string ⟨x.s.toArray⟩,dV (hd R) x] 132);have B:=F.trans ((iy B0 J).mono F.size);refine((M.below B).sA E I L (yC (iX _ b) O) D hw ((Av.lit (G:=G) (Z:=hd R) (w:=Y) (λk hk=>dj (eY.lt M.im hk) F.size) [bv b,x] dC).below J)).mono λe K c=>⟨c.from (Kp.cY B) rfl,λk h1 h2=>?_⟩
 obtain⟨_,_,_,_,q,_⟩:=c;exact q.kg k h2 λh=>by have:=Fs.lt M h;omega
def Uj(p:Pg)(Hs:Nat->List Int)(w0:World)(W0:St)(G:Gh)(R0:eO->fW)(H:Hi)(w1:World)(T:St)(x:Vl)(N:Nat)(w:World):Prop:=
 ∃W cW R,W.co.cy.length=N/\Iv p Hs W cW/\gG W.sz x/\W.cQ=W0.cQ/\rn.je x N W=T/\ft W<=1000000000000/\Mi w0 p W G R H w/\(∀t,t.1≠5->t.1≠8->hd R t=hd R0 t)/\Kp (Fs W0 G R0 H) (Fs W G R H) w1 w
section
variable{cc:Nat}
def Uj.below(j:Uj p Hs w0 W0 G R0 H w1 T x N w)(D:Below w.heap.size w X):Uj p Hs w0 W0 G R0 H w1 T x N X:=by obtain⟨W,cW,R,E,I,F,J,K,h,M,d,k⟩:=j;exact⟨W,cW,R,E,I,F,J,K,h,M.below D,d,k.trans (Kp.cY D)⟩
def Uj.cases(E:mz p Hs)(tb:Tb w0)(pw:Pw w0)(j:Uj p Hs w0 W0 G R0 H w1 T x N w)(h9:hd R0 (9,0,0)=.slice (some ⟨g,0,none⟩) 1 cg)(h4:hd R0 (4,W0.cQ,0)=.slice (some ⟨c,0,none⟩) 1 cc):
  Kp (Fs W0 G R0 H) (λ_=>False) w1 w/\(∃av cv,N<=cv/\N<=1000000000000/\w.cell? ⟨c,1,none⟩=some (.slice av N cv)) /\
   ((∃M zz,N=M+1/\Calls Tryz.prog 141 #[.pointer (some ⟨c,0,none⟩)] w λe J=>e=.returned (.iface 199 (.agg #[.int .i64 zz]))/\Kp (Fs W0 G R0 H) (λ_=>False) w1 J/\∀Y Z,Below J.heap.size J Y->Below (Y.heap.size+1) (Y.alloc (.cells #[.int .i64 1,.int .i64 0,.string ⟨#[]⟩,.nilIface,.int .i64 x.k,.int .i64 (hC G x),.string ⟨x.s.toArray⟩,dV (hd R0) x] 132)) Z->Calls Tryz.prog 142 #[.pointer (some ⟨g,0,none⟩),.slice (some ⟨Y.heap.size,0,none⟩) 2 2,.int .i64 zz] Z λe w'=>Cz w0 p W0 G R0 H w1 (ok T) e w'/\∀k,J.heap.size<=k->k<Z.heap.size->w'.heap[k]?=Z.heap[k]?) \/
   (∃M q,N=M+1/\Calls Tryz.prog 141 #[.pointer (some ⟨c,0,none⟩)] w λe J=>e=.returned (.iface 147 (.pointer q))/\Uj p Hs w0 W0 G R0 H w1 T x M J) \/
   (N=0/\w.cell? ⟨c,7,none⟩=some (.pointer none)/\(∀X,Below w.heap.size w X->Calls Tryz.prog 146 #[jX G (hd R0) x] X λe w'=>e=.returned (.string ⟨(jY x).toArray⟩)/\Below X.heap.size X w')/\∀X,Below w.heap.size w X->∀Y,Y=Lib.bytesWorld X 5 ⟨(jY x).toArray⟩->(∃u,Y.cell? ⟨g,47,none⟩=some u)/\Y.frozen? ⟨g,47,none⟩=false/\Calls Tryz.prog 30 #[.pointer (some ⟨g,0,none⟩),.int .i64 6] (Y.setCell ⟨g,47,none⟩ (.slice (some ⟨X.heap.size,0,none⟩) (jY x).length (grownCap X (jY x).length 0 5))) (Cz w0 p W0 G R0 H w1 (ok T))) \/
   (∃q zz,N=0/\w.cell? ⟨c,7,none⟩=some (.pointer (some q))/\Calls Tryz.prog 147 #[.pointer (some ⟨g,0,none⟩),.int .i64 3] w λe J=>e=.returned (.int .i64 zz)/\Kp (Fs W0 G R0 H) (λ_=>False) w1 J/\∀Y Z,Below J.heap.size J Y->Below (Y.heap.size+1) (Y.alloc (.cells #[.int .i64 1,.int .i64 0,.string ⟨#[]⟩,.nilIface,.int .i64 x.k,.int .i64 (hC G x),.string ⟨x.s.toArray⟩,dV (hd R0) x] 132)) Z->Calls Tryz.prog 142 #[.pointer (some ⟨g,0,none⟩),.slice (some ⟨Y.heap.size,0,none⟩) 2 2,.int .i64 zz] Z λe w'=>Cz w0 p W0 G R0 H w1 (ok T) e w'/\∀k,J.heap.size<=k->k<Z.heap.size->w'.heap[k]?=Z.heap[k]?)):=by
 obtain⟨W,cW,R,hN,I,hx,en,eT,ac,M,d,k⟩:=j;have K:=I.cQ;have aa:=(d (9,0,0) dC dC).trans h9;have ad:hd R (4,W.cQ,0)=zS c 1 cc:=en▸(d (4,W0.cQ,0) dC dC).trans h4;obtain⟨g',ah,e9,c9,f9,aq⟩:=M.im.mP;rw[aa]at e9;cases e9;have p9:ptr (hd R (9,0,0))=zP g:=by rw[aa];rfl
 obtain⟨c',ar,e4,fc,c4,z4⟩:=M.im.Br K;rw[ad]at e4;cases e4;have p4:ptr (hd R (4,W.cQ,0))=zP c:=by rw[ad];rfl
 have lf:=wV K;have vk:vi G (hd R)=vi G (hd R0):=Lz d;have tk:dV (hd R) x=dV (hd R0) x:=by have:=qt vk x;unfold vi at this;simpa using this
 have ab:∀{W1:St}{R1:eO->fW}{J:World}{pd zz:Int},Mi w0 p W1 G R1 H J->Iv p Hs W1 pd->0<=pd->gG W1.sz x->ft W1<=1000000000000->Wt W1 pd zz->gv W1 [bv false,x] pd=T->(∀t,t.1≠5->t.1≠8->hd R1 t=hd R0 t)->Kp (Fs W0 G R0 H) (Fs W1 G R1 H) w1 J->Kp (Fs W0 G R0 H) (λ_=>False) w1 J/\∀Y Z,zB J Y->Below (Y.heap.size+1) (Y.alloc (.cells #[zI 1,zI 0,zT,.nilIface,zI x.k,zI (hC G x),.string ⟨x.s.toArray⟩,dV (hd R0) x] 132)) Z->zC 142 #[zP g,zS Y.heap.size 2 2,zI zz] Z λe w'=>Cz w0 p W0 G R0 H w1 (ok T) e w'/\∀k,J.heap.size<=k->k<Z.heap.size->w'.heap[k]?=Z.heap[k]?:=by
  intro W1 R1 J pd zz O I1 hp ai aj ak e1 d1 k1;have al:dV (hd R1) x=dV (hd R0) x:=by have:=qt (Lz (G:=G) d1) x;unfold vi at this;simpa using this
  refine⟨k1.sub λ_ h=>h.elim,λY Z hY hZ=>?_⟩;rw[<-al]at hZ;have gg:=O.UB E I1 hp false ai aj ak hY hZ;rw[d1 (9,0,0) dC dC,h9,e1]at gg;exact gg.mono λe w' cz=>⟨cz.1.from k1 (d1 _ dC dC),cz.2⟩
 obtain⟨av,cv,ae⟩:=M.im.eH.sliced (t:=(5,W.cQ,0)) ⟨K,rfl⟩;have n5:(R (5,W.cQ,0)).n=N:=by rw[<-hN];exact M.im.ij (5,W.cQ,0) ⟨K,rfl⟩ dC
 have af:N<=cv:=by
  obtain⟨e,e0⟩|⟨g',ap,au,e,_,_,q,_⟩:=(M.im.eH.own (5,W.cQ,0) ⟨K,rfl⟩).2
  .omega
  .rw[ae]at e;simp only[de]at e;omega
 refine⟨k.sub λ_ h=>h.elim,⟨av,cv,af,cM,?_⟩,?_⟩
 .rw[<-n5,<-ae];exact c4 1 _ rfl
 obtain _|m:=N
 .refine .inr (.inr ?_);have ef:=eJ.1 hN;have c7:zE w c 7 (if W.cQ=0\/W.co.held<0 then .pointer none else ptr (hd R (4,W.co.gq,0))):=c4 7 _ rfl;by_cases e0:W.cQ=0
  .refine .inl ⟨rfl,by rw[c7,cR (.inl e0)],λX hX=>?_,λX hX Y hY=>?_⟩
   .have B:=M.mV.trans (hX.mono M.mV.size);rw[show jX G (hd R0) x=jX G (hd R) x by unfold jX;rw[tk]];exact oX (w:=X) (G:=G) (Z:=hd R) hx (tb.up B) (Lib.tabBelow_of_tabIs pw X B)
   .have O:=M.below hX;obtain⟨g',ah,e9,am,an,_⟩:=O.im.mP;rw[aa]at e9;cases e9;have bY:zB X Y:=hY▸wF X _;have ag:=am 47 _ rfl;refine⟨⟨_,di ag bY⟩,(dA (a:=(zA g 47)) (bY.block g (dy _ (zA g 47) ag))).trans (an 47),?_⟩;rw[hY];have sl:(jY x).length<=5000:=mM hx;obtain⟨R2,M2,d2,k2⟩:=O.UL (wF X ⟨(jY x).toArray⟩) (Od (cJ:=w0.heap.size) (S:=λk=>Fs W G R H k\/k<X.heap.size) (w:=X) (jY x) cM O.bs λq hq=>hq.elim (Fs.lt O) id) aa;have en:=Hx M2.im 6;rw[d2,p9]at en;refine en.mono ?_;rintro e w' ⟨q,R3,i3,d3,k3⟩;have F:rn.je x 0 W=_:=eT;unfold rn.je at F;rw[cR e0]at F;subst F;obtain⟨M3,kk⟩:=M2.gY i3 (M2.gw.pF rfl rfl rfl (λ_=>rfl) (λ_=>⟨rfl,rfl,rfl,rfl⟩) (λ_ _=>⟨rfl,rfl⟩) (λ_ _ _=>⟨rfl,rfl⟩)) k3 rfl rfl rfl;exact⟨G,R3,_,M3,((k.trans (Kp.cY hX)).trans k2).trans kk,d3▸d _ dC dC,q⟩
  .have hh:0<=W.co.held:=Wy.1 λq=>by have:=(I.fresh W.cQ K q).1;rw[I.run]at this;omega
   have hb:=I.gq W.cQ K e0 (.inl I.run);have nb:W.co.gq≠W.cQ:=λq=>by have:=hb.2;unfold St.co at q;rw[q,I.run]at this;omega
   obtain⟨r,cr,h5,_⟩:=M.im.Br hb.1;refine .inr ⟨(zA r 0),G.rw W.cQ,rfl,by rw[c7,cK cM,show hd R (4,W.co.gq,0)=_ from h5];rfl,?_⟩;have L:=yI M.im K e0 hh hb.1 nb 3;rw[p9]at L;refine L.mono ?_;rintro e' J ⟨rfl,R1,i1,d1,k1⟩;obtain⟨O,kk⟩:=M.gY i1 (M.gw.fy I e0 (.inl rfl)) k1 rfl rfl rfl;have F:=eT;unfold rn.je at F;rw[cK e0]at F;exact⟨rfl,ab O (I.sR e0 ef) (I.pU W.cQ K).1 (by rw[oV];exact hx) (cV (vm I e0 3).cy ac) (Wt.fy M.gw I e0 3) F (λt q5 q8=>by rw[d1];exact d t q5 q8) (k.trans kk)⟩
 .have hl:0<W.co.cy.length:=cM;have D:=ze M.im K hN cM;rw[p4]at D;unfold PZ at D;have F:=eT;unfold rn.je at F;have xp:gG W.fU.sz x:=by unfold St.fU;rw[jv];exact hx
  by_cases eg:W.db.guard=true
  .rw[cR eg]at D F;refine .inl ⟨m,G.wa W.cQ m,rfl,D.mono ?_⟩;rintro e' J ⟨rfl,R1,u1,i1,d1,k1,_⟩;obtain⟨O,kk⟩:=M.gY i1 (M.gw.fU I) k1 rfl rfl rfl;exact⟨rfl,ab O (jS I hl) (I.kI hl).nQ xp (cV (qL K).cy ac) (Wt.fU M.gw K hN) F (λt q5 q8=>by rw[d1,dL (λq=>q5 (by rw[q]))];exact d t q5 q8) (k.trans kk)⟩
  .rw[cK eg]at D F;obtain⟨f,cf,h6⟩:∃f cf,hd R (6,W.cQ,m)=.slice f 1 cf:=by
    have t6:=(M.im.db K hN (by simpa using eg)).1;obtain⟨a,b,q⟩:=M.im.eH.sliced t6;rw[M.im.ij _ t6 dC]at q;exact⟨a,b,q⟩
   rw[h6]at D;refine .inr (.inl ⟨m,f,rfl,D.mono ?_⟩);rintro e' J ⟨rfl,R1,u1,i1,d1,k1,_⟩;obtain⟨O,kk⟩:=M.gY i1 (M.gw.fU I) k1 rfl rfl rfl;exact⟨rfl,W.fU,_,R1,by rw[show W.fU.co.cy=W.co.cy.take (W.co.cy.length-1) by show((W.du (W.co.cy.take (W.co.cy.length-1))).cS.getD W.cQ dE).cy=_;rw[oK K,cR rfl],dX];omega,jS I hl,xp,en,F,cV (qL K).cy ac,O,λt q5 q8=>by rw[d1,dL (λq=>q5 (by rw[q]))];exact d t q5 q8,k.trans kk⟩
end
end
def Jt(M:Mi w0 p W G R H w)(E:mz p Hs)(tb:Tb w0)(pw:Pw w0)(I:Iv p Hs W cW)(hx:gG W.sz x)(ad:ft W<=1000000000000)(hT:rn.je x W.co.cy.length W=T):
  Calls Tryz.prog 65 #[ptr (hd R (9,0,0)),jX G (hd R) x] w (Cz w0 p W G R H w (ok T)):=by
 obtain⟨g,cg,h9,c9,_,_⟩:=M.im.mP;obtain⟨c,cc,h4,fc,c4,z4⟩:=M.im.Br I.cQ;rw[show ptr (hd R (9,0,0))=zP g by rw[h9];rfl];have sl:=mM hx;have FO:Hid (∀w1,w1=w.alloc (.cells #[zI x.k,zI (hC G x),.string ⟨x.s.toArray⟩,dV (hd R) x] 132)->w1.cell? (zA g 41)=some (zP c)/\Uj p Hs w0 W G R H w1 T x W.co.cy.length w1/\(∀S X,Kp (Fs W G R H) S w1 X->X.cell? (zA w.heap.size 0)=some (zI x.k)/\X.cell? (zA w.heap.size 1)=some (zI (hC G x))/\X.cell? (zA w.heap.size 2)=some (.string ⟨x.s.toArray⟩)/\X.cell? (zA w.heap.size 3)=some (dV (hd R) x))/\∀e X,Cz w0 p W G R H w1 (ok T) e X->∃y,e=.returned y/\(∀z,Cz w0 p W G R H w (ok T) (.returned z) X)/\∃S,Kp (Fs W G R H) S w1 X):=λw1 hw=>by
  have b1:Below w.heap.size w w1:=by rw[hw];exact ba
  have L:Lc (Fs W G R H) w1 w.heap.size #[zI x.k,zI (hC G x),.string ⟨x.s.toArray⟩,dV (hd R) x] 132:=by rw[hw];exact Lc.new w (λk hk=>Fs.lt M hk) _ _
  refine⟨di ((c9 41 _ rfl).trans (by rw[h4];rfl)) b1,⟨W,cW,R,rfl,I,hx,rfl,hT,ad,M.below b1,λ_ _ _=>rfl,Kp.refl _ _⟩,λS X k=>?_,λe X F=>?_⟩
  .have l:=L.kept k;exact⟨l.cell rfl,l.cell rfl,l.cell rfl,l.cell rfl⟩
  .obtain⟨y,rfl⟩:=F.ret;exact⟨y,rfl,λz=>(F.re z).from (Kp.cY b1) rfl,let ⟨_,_,_,_,k,_⟩:=F;⟨_,k⟩⟩
 have CA:=cO (λw1 N wr (j:Uj p Hs w0 W G R H w1 T x N wr)=>Uj.cases E tb pw j h9 h4);unfold jX vq at CA|-;have ts:=(gm (hd R) x).store;have BV:Hid (∀X,Calls Tryz.prog 143 #[.bool false] X λe w'=>e=.returned (.agg #[zI 1,zI 0,zT,.nilIface])/\Below X.heap.size X w'):=λX=>jM (w:=X) false;have WG:=cO (λX z=>wJ (w:=X) z);have IM:=cO (λX (a:Nat) (q:Option Addr)=>uz (w:=X) (a:=a) (q:=q));have t1:∀(f:Option Addr) X,(Instr.typeAssert (.iface 147 (.pointer f)) 149 199 true).run Tryz.prog X=.ok (.tuple #[.agg #[zI 0],.bool false]) X:=λf X=>gA;have t3:∀(z:Int) X,(Instr.typeAssert (.iface 199 (.agg #[zI z])) 149 199 true).run Tryz.prog X=.ok (.tuple #[.agg #[zI z],.bool true]) X:=λz X=>gA;obtain⟨LS,aa⟩:∃b:ByteArray,b=⟨(jY x).toArray⟩:=⟨_,rfl⟩
 obtain⟨ln,ab⟩:∃l,l=(jY x).length:=⟨_,rfl⟩
 have ae:LS.size=ln:=by rw[aa,ab];simp[ByteArray.size]
 rw[<-aa,<-ab]at CA;have KV:=λX=>Lib.run_convert_string_bytes (P:=Tryz.prog) X 9 29 5 LS ji ie jJ;rw[ae]at KV;have KW:=cO KV;generalize dV (hd R) x=tt at*;generalize hC G x=ii at*;generalize(⟨x.s.toArray⟩:ByteArray)=sx at*;generalize x.k=kx at*;obtain⟨N0,af⟩:∃n,n=W.co.cy.length:=⟨_,rfl⟩
 rw[<-af]at FO;clear hT M E tb pw I hx ad h9 c9 h4 fc c4 z4 aa ab ae KV af sl;go_enter func65,ntmps65;go_upto_region 1 with fail;refine dx λw1 ag=>?_;obtain⟨ah,j1,lc,fi⟩:=FO.out w1 ag;have J1:=cO j1;have LC:=cO lc;have FI:=cO fi;have CW:=cO (CA.out w1);clear j1 lc fi ag CA FO;go_wp2;go_loopg[] N0 (λN wr=>Hid (Uj p Hs w0 W G R H w1 T x N wr))
 case atStart=>exact J1
 case round=>
  obtain⟨kp,⟨av,cv,ak,hN,c1⟩,ai⟩:=CW.out _ _ hrel.out;have KP:=cO kp;clear kp hrel J1 ah;obtain⟨M,zz,rfl,dr⟩|⟨M,q,rfl,dr⟩|⟨rfl,c7,sp,en⟩|⟨q,zz,rfl,c7,lv⟩:=ai
  .have DR:=cO dr;clear dr t1;go_upto_region 5 with(go_at_call 141;refine cA DR.out ?_;rintro e J ⟨rfl,k3,g3⟩;have L3:=cO (LC.out _ _ k3);have G3:=cO g3;clear k3 g3)
   refine dx λK ac=>?_;have B4:Hid (Below J.heap.size J K):=by rw[ac];exact ba
   have Z4:Hid (K.cell? (zA J.heap.size 0)=some (zI zz)):=by rw[ac];exact(Lc.new J (S:=λ_=>False) (λ_ h=>h.elim) #[zI zz] 199).cell rfl
   clear ac;have HC:Hid (∀X,Below K.heap.size K X->X.cell? (zA w.heap.size 0)=some (zI kx)/\X.cell? (zA w.heap.size 1)=some (zI ii)/\X.cell? (zA w.heap.size 2)=some (.string sx)/\X.cell? (zA w.heap.size 3)=some tt/\X.cell? (zA J.heap.size 0)=some (zI zz)):=λX hX=>⟨di (di L3.out.1 B4.out) hX,di (di L3.out.2.1 B4.out) hX,di (di L3.out.2.2.1 B4.out) hX,di (di L3.out.2.2.2 B4.out) hX,di Z4.out hX⟩
   have KS:Hid (∀Z O S,Kp (Fs W G R H) S w1 O->(∀k,J.heap.size<=k->k<Z.heap.size->O.heap[k]?=Z.heap[k]?)->Below K.heap.size K Z->_/\_/\_/\_/\O.cell? (zA J.heap.size 0)=some (zI zz)):=λZ O S kq kz hZ=>let q:=LC.out _ _ kq;⟨q.1,q.2.1,q.2.2.1,q.2.2.2,by rw[dK (a:=(zA J.heap.size 0)) (kz _ (cE _) (dy _ (zA J.heap.size 0) (di Z4.out hZ)))];exact di Z4.out hZ⟩;go_region_held3 (λX=>X.cell? (zA w.heap.size 0)=some (zI kx)/\X.cell? (zA w.heap.size 1)=some (zI ii)/\X.cell? (zA w.heap.size 2)=some (.string sx)/\X.cell? (zA w.heap.size 3)=some tt/\X.cell? (zA J.heap.size 0)=some (zI zz)) (first|exact S7|(refine HC.out _ ?_;(repeat(first|exact cN _ _|assumption|refine eb ?_|refine dQ ?_ _|refine jK ?_ (by first|exact B6.size|exact B5.size) _)))) (first
    |(go_at_call 143;with_reducible refine cA (BV.out _) ?_;rintro e D ⟨rfl,b5⟩;have B5:Below K.heap.size K D:=jW bq (b5.mono (cE _));clear b5)
    |(go_at_call 144;with_reducible refine cA (WG.out _ _) ?_;rintro e w6 ⟨rfl,b6⟩;have B6:Below K.heap.size K w6:=jW (by repeat(first|exact cN _ _|assumption|refine eb ?_|refine dQ ?_ _|refine jK ?_ B5.size _)) (b6.mono (by first|exact Below.size xq|(simp;exact mh B5.size)));have aj:=cO b6;clear b6)
    |(go_at_call 142;(first|with_reducible refine cA (G3.out D w6 (B4.out.trans (B5.mono B4.out.size)) (by have:=aj.out;rwa[dk]at this)) ?_|with_reducible refine cA (G3.out w6 _ (B4.out.trans (B6.mono B4.out.size)) (cN _ _)) ?_);rintro e O ⟨F,kz⟩;obtain⟨y,rfl,d7,_,kq⟩:=FI.out _ _ F;have D7:=cO d7;have S7:O.cell? (zA w.heap.size 0)=some (zI kx)/\O.cell? (zA w.heap.size 1)=some (zI ii)/\O.cell? (zA w.heap.size 2)=some (.string sx)/\O.cell? (zA w.heap.size 3)=some tt/\O.cell? (zA J.heap.size 0)=some (zI zz):=KS.out _ _ _ kq kz (by first|exact B6|exact B6.alloc B6.size _);clear F d7 kq kz))
   all_goals(go_wp2;go_returns;exact D7.out _)
  .have DR:=cO dr;clear dr t3;go_wp2_with(go_at_call 141;refine cA DR.out ?_;rintro e J ⟨rfl,j3⟩;have J3:=cO (j3.below ((cN _ _).alloc (cE _) (.cells #[zI 0] 199)));clear j3)
   go_roundg M
   case measure=>omega
   case rel=>exact J3
  .have C7:=cO c7;have SP:=cO sp;have EN:=cO en;clear c7 sp en t1 t3;obtain⟨z0,z1,z2,z3⟩:=LC.out _ _ KP.out;go_upto_region 7 with(go_at_call 145;refine cA (IM.out _ _ _ C7.out) ?_;rintro e K ⟨rfl,rfl⟩)
   clear C7 IM;go_wp2_with(first
    |(go_at_call 146;refine cA (SP.out _ (cN _ _)) ?_;rintro e D ⟨rfl,b5⟩;obtain⟨⟨u,y0⟩,y1,y2⟩:=EN.out _ b5 _ rfl;have Y2:=cO y2;have kv:=KW.out D;clear y2 b5 EN SP KW;generalize Lib.bytesWorld D 5 LS=Y at*)
    |(go_at_call 30;refine cA Y2.out ?_;intro e O F;obtain⟨y,rfl,d7,_⟩:=FI.out _ _ F;have D7:=cO d7;clear F d7))
   go_returns;exact D7.out _
  .have C7:=cO c7;have LV:=cO lv;clear c7 lv t1 t3;go_upto_region 10 with(first
    |(go_at_call 145;refine cA (IM.out _ _ _ C7.out) ?_;rintro e K ⟨rfl,rfl⟩)
    |(go_at_call 147;refine cA LV.out ?_;rintro e D ⟨rfl,k5,g5⟩;have L5:=cO (LC.out _ _ k5);have G5:=cO g5;clear k5 g5))
   clear C7 IM;obtain⟨S,hS⟩:∃S,S=Below D.heap.size D:=⟨_,rfl⟩
   have un:∀X,S X->Below D.heap.size D X:=λX q=>by rw[hS]at q;exact q
   have x0:=λx:Wd S=>di L5.out.1 (un _ x.ok);have x1:=λx:Wd S=>di L5.out.2.1 (un _ x.ok);have x2:=λx:Wd S=>di L5.out.2.2.1 (un _ x.ok);have x3:=λx:Wd S=>di L5.out.2.2.2 (un _ x.ok);have MK:Hid (∀X,Below D.heap.size D X->S X):=λX q=>by rw[hS];exact q
   clear hS un L5;haveI:Nonempty (Wd S):=⟨⟨D,MK.out _ (cN _ _)⟩⟩
   refine Cg S [0,2,4] [1,3] [5] (MK.out _ (cN _ _).drew) ?_;simp only[pick,ey,eB,eL,eM,dt,dG];repeat(go_big_quiet_step(fail))
   refine wpQuiet_nil ?_;refine dI ?_;go_wp2_with(go_at_call 143;refine cA (BV.out _) ?_;rintro e w6 ⟨rfl,b6⟩;have B6:=cO ((cN D.heap.size D).drew.trans b6);clear b6)
   refine⟨MK.out _ B6.out,?_⟩;refine dI ?_;go_wp2;refine⟨MK.out _ (B6.out.alloc B6.out.size _),?_⟩;refine ej ?_;go_wp2_with(go_at_call 142;refine cA (G5.out _ _ B6.out (cN _ _)) ?_;rintro e O ⟨F,_⟩;obtain⟨y,rfl,d7,_⟩:=FI.out _ _ F;have D7:=cO d7;clear F d7)
   go_returns;exact D7.out _
end im
end Go.Proofs.YtfpkdfeakanlpaaGreatDoor
