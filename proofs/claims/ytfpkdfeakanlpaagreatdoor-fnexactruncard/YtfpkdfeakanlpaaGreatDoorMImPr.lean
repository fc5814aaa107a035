import Derived.Shelf.Strings.OnBuilder
import Derived.Test.YtfpkdfeakanlpaaGreatDoorMImBiE
set_option linter.all false
set_option maxRecDepth 100000
set_option maxHeartbeats 8000000
namespace Go.Proofs.YtfpkdfeakanlpaaGreatDoor
open Go.Proofs.Tryz
namespace im
open RowKit bts pg rn chk
variable{s:ByteArray}{Q:Ending->World->Prop}{G G':Gh}{H H':Hi}{cW want:Int}{args:List Vl}{b cJ c cb cg cv g n:Nat}{S:Nat->Prop}{Hs:Nat→List Int}{av:Option Addr}{p:Pg}{r:mX}{V W:St}{R R':eO→fW}{v:Value}{X Y Z w w0 w1:World}
section
variable{t:Nat}
def Im.heap(h:Im cJ W G R H w)(D:∀k,eY W G R k->w1.heap[k]?=w.heap[k]?):Im cJ W G R H w1:=by refine⟨⟨λt E=>jm (h.eH.own t E) λk e=>D k (.row E e),h.eH.apart⟩,h.ij,h.var,h.cells,λi F=>?_,h.wj,h.fP,h.lone⟩;obtain⟨⟨I,c,J,K⟩,L⟩:=h.pZ i F;exact⟨⟨I,c,(D _ (.inr ⟨i,F,rfl⟩)).trans J,K⟩,L⟩
def Iq(R:eO->fW)(t:eO)(r h:fW):jG (jG R t r) t h=jG R t h:=by funext s;unfold jG;split<;>rfl
def tj(h:W.cQ<W.cS.length)(D:t<W.cS.length)(E:t≠W.cQ)(i:Nat):(iV W t cW).cS.getD i dE=if i=t then {W.cS.getD t dE with state:=1,gq:=W.cQ,want:=cW,held:=if (W.cS.getD t dE).held<0 then 0 else(W.cS.getD t dE).held}else if i=W.cQ then {W.co with state:=2}else W.cS.getD i dE:=by
 show((W.cS.set W.cQ {W.co with state:=2}).set t _).getD i dE=_;by_cases a:i=t
 .rw[cR a,a,ez _ _ _ _ (by rw[df];exact D)]
 .rw[cK a,dR _ _ _ _ _ (λq=>a q.symm)];by_cases b:i=W.cQ
  .rw[cR b,b,ez _ _ _ _ h]
  .rw[cK b,dR _ _ _ _ _ (λq=>b q.symm)]
def qB(X:World)(c b g:Nat)(want:Int):World:=((((X.setCell ⟨c,0,none⟩ (.int .i64 2)).setCell ⟨b,0,none⟩ (.int .i64 1)).setCell ⟨b,7,none⟩ (.pointer (some ⟨c,0,none⟩))).setCell ⟨b,8,none⟩ (.int .i64 want)).setCell ⟨g,41,none⟩ (.pointer (some ⟨b,0,none⟩))
def RO(M:Mi w0 p W G R H w)(I:Iv p Hs W cW)(hw:Wt W cW want)(ht:t<W.cS.length)(s0:(W.cS.getD t dE).state=0){cc:Nat}(h9:hd R (9,0,0)=.slice (some ⟨g,0,none⟩) 1 cg)(h4:hd R (4,W.cQ,0)=.slice (some ⟨c,0,none⟩) 1 cc)(h5:hd R (4,t,0)=.slice (some ⟨b,0,none⟩) 1 cb)(hY:Below w.heap.size (qB w c b g want) Y)(hZ:Z=if (W.cS.getD t dE).held<0 then Y.setCell ⟨b,6,none⟩ (.bool true)else Y):
  ∃R',Mi w0 p (iV W t cW) {G with rw:=λj=>if j=t then want else G.rw j} R' H Z/\hd R'=hd R/\Kp (Fs W G R H) (Fs (iV W t cW) {G with rw:=λj=>if j=t then want else G.rw j} R' H) w Z/\∀k,eY (iV W t cW) {G with rw:=λj=>if j=t then want else G.rw j} R' k->eY W G R k:=by
 have hn:=I.cQ;have nt:t≠W.cQ:=λe=>by rw[e,I.run]at s0;omega
 have t0:t≠0:=λe=>by obtain q|q:=I.main<;>(rw[<-e,s0]at q;omega)
 have b4:(R (4,W.cQ,0)).v.ownBlock=some c:=by rw[show(R (4,W.cQ,0)).v=_ from h4];rfl
 have b5:(R (4,t,0)).v.ownBlock=some b:=by rw[show(R (4,t,0)).v=_ from h5];rfl
 have b9:(R (9,0,0)).v.ownBlock=some g:=by rw[show(R (9,0,0)).v=_ from h9];rfl
 have t4:eW W (4,W.cQ,0):=⟨hn,rfl⟩
 have t5:eW W (4,t,0):=⟨ht,rfl⟩
 have cb':¬c=b:=λe=>M.im.eH.apart _ _ t4 t5 (λq=>nt (by simpa using q.symm)) c b4 (by rw[b5,e]);have cg':¬c=g:=λe=>M.im.eH.apart _ (9,0,0) t4 rfl dC c b4 (by rw[b9,e]);have bg':¬b=g:=λe=>M.im.eH.apart _ (9,0,0) t5 rfl dC b b5 (by rw[b9,e]);obtain⟨R1,i1,d1,_⟩:=M.im.state hn 2 h4;obtain⟨R2,i2,d2,n2⟩:=i1.m9 (V:={W.dW W.cQ {W.cS.getD W.cQ dE with state:=2}with cQ:=t}) (H':=H) (g:=g) (cap:=cg) (j:=41) (u:=zP b) rfl rfl rfl rfl rfl (show hd R1 (9,0,0)=_ by rw[d1];exact h9) (by rw[d1];show _=[H.ps,H.ks,H.ins]++zG++[ptr (hd R (4,t,0)),_,_,_,_,_,_,_,_];rw[h5];rfl);obtain⟨A,hA⟩:=eX ({W.dW W.cQ {W.cS.getD W.cQ dE with state:=2}with cQ:=t}:St);rw[<-hA]at i2;have la:A.cS.length=W.cS.length:=hA▸df ..;have eA:A.cS.getD t dE=W.cS.getD t dE:=hA▸dR _ _ _ _ _ (λe=>nt e.symm);have ta:eW A (4,t,0):=⟨la▸ht,rfl⟩
 have hv:(R2 (4,t,0)).v=zS b (R2 (4,t,0)).n cb:=by rw[i2.ij _ ta dC];show hd R2 (4,t,0)=_;rw[d2,d1];exact h5
 obtain⟨cv,hcv⟩:=eX ({W.cS.getD t dE with state:=1,gq:=W.cQ,want:=cW,held:=if (W.cS.getD t dE).held<0 then 0 else(W.cS.getD t dE).held}:Co);have eV:A.dW t cv=iV W t cW:=by rw[hA,hcv];rfl
 have cf:cv.cy=(A.cS.getD t dE).cy:=by rw[eA,hcv]
 have ff:∀i,((iV W t cW).cS.getD i dE).cy=(W.cS.getD i dE).cy:=λi=>by
  rw[tj hn ht nt];split
  .rename_i e;rw[e]
  .split
   .rename_i e;rw[e];rfl
   .rfl
 have lr:(iV W t cW).cS.length=W.cS.length:=by simp[iV,St.dW]
 have FH:∀s,eW (iV W t cW) s->eW W s:=λs hs=>by rw[<-eV]at hs;have q:=(wB (W:=A) (i:=t) (c':=cv) (la▸ht) cf s).1 hs;rw[hA]at q;exact(wB (W:=W) (i:=W.cQ) (c':={W.cS.getD W.cQ dE with state:=2}) hn rfl s).1 q
 have gw:Gw (iV W t cW) {G with rw:=λj=>if j=t then want else G.rw j}:=by
  refine M.gw.cS (ra:=λj=>if j=t then want else G.rw j) (ya:=G.yw) rfl rfl lr ff (λi q1 q2 q3 j q4 q5=>?_) (λi q1 q2 q3 j q4 q5=>?_) λi q=>?_
  .rw[tj hn ht nt]at q3 q4 q5|-;split at q3
   .rename_i e;rw[cR e]at q4 q5|-;rw[cR e];exact hw j q4 q5
   .rename_i e;rw[cK e]at q4 q5|-;rw[cK e];split at q3
    .rename_i e';rw[cR e']at q4 q5|-;rw[e']at q2|-;exact M.gw.rw W.cQ hn q2 (.inl I.run) j q4 q5
    .rename_i e';rw[cK e']at q4 q5|-;exact M.gw.rw i q1 q2 q3 j q4 q5
  .rw[tj hn ht nt]at q2 q3|-;split at q2
   .have x:(1:Int)=0:=q2;omega
   .rename_i e;rw[cK e]at q3|-;split at q2
    .have x:(2:Int)=0:=q2;omega
    .rename_i e';rw[cK e']at q3|-;exact M.gw.yw i q1 q2 q3 j q4 q5
  .rw[tj hn ht nt];split
   .exact hn
   .split
    .rename_i e;exact M.gw.gq W.cQ hn
    .exact M.gw.gq i q
 have st:=((i2.eH.store ta hv 0 (zI 1)).store ta (g:=b) (cap:=cb) (by rw[dD];exact hv) 7 (zP c)).store ta (g:=b) (cap:=cb) (by rw[dD,dD];exact hv) 8 (zI want);have f5:∀k,eY W G R k->(qB w c b g want).heap[k]?=((((((w.setCell (zA c 0) (zI 2)).setCell (zA g 41) (zP b)).setCell (zA b 0) (zI 1)).setCell (zA b 7) (zP c)).setCell (zA b 8) (zI want))).heap[k]?:=λk _=>by
  unfold qB World.setCell;simp only[oa];by_cases q1:g=k
  .have:¬b=k:=λe=>bg' (e.trans q1.symm);simp only[cR q1,cK this]
  .simp only[cK q1]
 have ptw:ptr (hd R (4,W.cQ,0))=zP c:=by rw[h4];rfl
 have fin:∃R',Im w0.heap.size (iV W t cW) {G with rw:=λj=>if j=t then want else G.rw j} R' H Z/\hd R'=hd R:=by
  have lst:∀(hl:Int),[Value.int .i64 cv.state,hd R2 (5,t,0)]++vi G (hd R2) cv.body++[.bool (decide (t≠0/\0<=cv.held)),if t=0\/cv.held<0 then .pointer none else ptr (hd R2 (4,cv.gq,0)),zI (if t=t then want else G.rw t),zI (G.yw t)]=gF (A.dW t cv) {G with rw:=λj=>if j=t then want else G.rw j} H (hd R2) (4,t,0):=λ_=>by show _=[Value.int .i64 ((A.cS.set t cv).getD t dE).state,_]++vi _ _ ((A.cS.set t cv).getD t dE).body++[.bool (decide (t≠0/\0<=((A.cS.set t cv).getD t dE).held)),if t=0\/((A.cS.set t cv).getD t dE).held<0 then .pointer none else ptr (hd R2 (4,((A.cS.set t cv).getD t dE).gq,0)),zI (if t=t then want else G.rw t),zI (G.yw t)];rw[ez _ _ _ _ (la▸ht)];rfl
  have G8:gF A G H (hd R2) (4,t,0)=[Value.int .i64 (W.cS.getD t dE).state,hd R2 (5,t,0)]++vi G (hd R2) (W.cS.getD t dE).body++[.bool (decide (t≠0/\0<=(W.cS.getD t dE).held)),if t=0\/(W.cS.getD t dE).held<0 then .pointer none else ptr (hd R2 (4,(W.cS.getD t dE).gq,0)),zI (G.rw t),zI (G.yw t)]:=by rw[<-eA];rfl
  by_cases hh:(W.cS.getD t dE).held<0
  .have st2:=st.store ta (g:=b) (cap:=cb) (by rw[dD,dD,dD];exact hv) 6 (.bool true);simp only[dD,Iq]at st2;rw[i2.cells _ ta (λe=>by simp at e),G8]at st2;have e:(((([Value.int .i64 (W.cS.getD t dE).state,hd R2 (5,t,0)]++vi G (hd R2) (W.cS.getD t dE).body++[.bool (decide (t≠0/\0<=(W.cS.getD t dE).held)),if t=0\/(W.cS.getD t dE).held<0 then .pointer none else ptr (hd R2 (4,(W.cS.getD t dE).gq,0)),zI (G.rw t),zI (G.yw t)]).set 0 (zI 1)).set 7 (zP c)).set 8 (zI want)).set 6 (.bool true)=gF (A.dW t cv) {G with rw:=λj=>if j=t then want else G.rw j} H (hd R2) (4,t,0):=by
    rw[<-lst 0,hcv];dsimp only;rw[cR rfl,cR hh,cK (show¬(t=0\/(0:Int)<0) by omega),fM (show t≠0/\(0:Int)<=0 from⟨t0,Int.le_refl _⟩),d2,d1,ptw];rfl
   rw[e]at st2;obtain⟨R3,i3,d3,_⟩:=i2.Qh (ra:=λj=>if j=t then want else G.rw j) (ya:=G.yw) (c':=cv) (la▸ht) cf (λj hj=>⟨cK hj,rfl⟩) st2 (λk hk=>by have kb:¬b=k:=λe=>hk (by rw[hv,e];rfl);unfold World.setCell;simp only[oa,cK kb]);rw[eV]at i3;refine⟨R3,i3.heap λk hk=>?_,by rw[d3,d2,d1]⟩;have fk:eY W G R k:=eY.eq FH (by rw[d3,d2,d1]) rfl rfl hk;rw[hZ,cR hh];by_cases kb:b=k
   .subst kb;show(World.setCell _ _ _).heap[b]?=(World.setCell _ _ _).heap[b]?;have:=(hY.block b (eY.lt M.im fk)).trans (f5 b fk);generalize((((w.setCell (zA c 0) (zI 2)).setCell (zA g 41) (zP b)).setCell (zA b 0) (zI 1)).setCell (zA b 7) (zP c)).setCell (zA b 8) (zI want)=Q at*;unfold World.setCell;simp only[oa,this]
   .have kb:k≠b:=λe=>kb e.symm;rw[cZ _ (zA b 6) _ k kb,cZ _ (zA b 6) _ k kb];exact(hY.block k (eY.lt M.im fk)).trans (f5 k fk)
  .simp only[dD,Iq]at st;rw[i2.cells _ ta (λe=>by simp at e),G8]at st;have e:((([Value.int .i64 (W.cS.getD t dE).state,hd R2 (5,t,0)]++vi G (hd R2) (W.cS.getD t dE).body++[.bool (decide (t≠0/\0<=(W.cS.getD t dE).held)),if t=0\/(W.cS.getD t dE).held<0 then .pointer none else ptr (hd R2 (4,(W.cS.getD t dE).gq,0)),zI (G.rw t),zI (G.yw t)]).set 0 (zI 1)).set 7 (zP c)).set 8 (zI want)=gF (A.dW t cv) {G with rw:=λj=>if j=t then want else G.rw j} H (hd R2) (4,t,0):=by
    rw[<-lst 0,hcv];dsimp only;rw[cR rfl,cK hh,cK (show¬(t=0\/(W.cS.getD t dE).held<0) by omega),cK (show¬(t=0\/(W.cS.getD t dE).held<0) by omega),d2,d1,ptw];rfl
   rw[e]at st;obtain⟨R3,i3,d3,_⟩:=i2.Qh (ra:=λj=>if j=t then want else G.rw j) (ya:=G.yw) (c':=cv) (la▸ht) cf (λj hj=>⟨cK hj,rfl⟩) st (λk hk=>by have kb:¬b=k:=λe=>hk (by rw[hv,e];rfl);unfold World.setCell;simp only[oa,cK kb]);rw[eV]at i3;refine⟨R3,i3.heap λk hk=>?_,by rw[d3,d2,d1]⟩;have fk:eY W G R k:=eY.eq FH (by rw[d3,d2,d1]) rfl rfl hk;rw[hZ,cK hh];exact(hY.block k (eY.lt M.im fk)).trans (f5 k fk)
 obtain⟨R',i,d⟩:=fin;have fb:eY W G R b:=.row t5 b5;have k1:Kp (eY W G R) (eY W G R) w (qB w c b g want):=((((Kp.setCell (a:=(zA c 0)) _ (.row t4 b4)).trans (Kp.setCell (a:=(zA b 0)) _ fb)).trans (Kp.setCell (a:=(zA b 7)) _ fb)).trans (Kp.setCell (a:=(zA b 8)) _ fb)).trans (Kp.setCell (a:=(zA g 41)) _ (.row (t:=(9,0,0)) rfl b9));have k2:Kp (eY W G R) (eY W G R) w Y:=k1.trans (Kp.cY (by rw[show(qB w c b g want).heap.size=w.heap.size by simp[qB,World.setCell]];exact hY));have k3:Kp (eY W G R) (eY W G R) w Z:=by
  rw[hZ];split
  .exact k2.trans (Kp.setCell (a:=(zA b 6)) _ fb)
  .exact k2
 obtain⟨m,kk⟩:=M.gY i gw (k3.sub λk hk=>.inl (eY.eq FH d rfl rfl hk)) rfl rfl rfl;exact⟨R',m,d,kk,λk hk=>eY.eq FH d rfl rfl hk⟩
end
def JC(W:St)(args:List Vl)(cW:Int)(r:mX):mX:=
 if (first args).k=7 then
  if (W.cS.getD (first args).n.toNat dE).state=0 then
   if (W.cS.getD (first args).n.toNat dE).held<0 then r
   else ok (gv (iV W (first args).n.toNat cW) [args.getD 1 v0] (W.cS.getD (first args).n.toNat dE).held)
  else ok (gv W [bv false,tv lR] cW)
 else mW W rV
def wi(M:Mi w0 p W G R H w)(E:mz p Hs)(I:Iv p Hs W cW)(hp:0<=cW/\cW<=50)(hv:∀x∈args,gG W.sz x)(F:ft W<=1000000000000)(hw:Wt W cW want)(A:Av (Fs W G R H) w G (hd R) v args)(h0:¬((first args).k=7/\(W.cS.getD (first args).n.toNat dE).state=0)):
  Calls Tryz.prog 137 #[ptr (hd R (9,0,0)),v,.int .i64 want] w (Cz w0 p W G R H w (JC W args cW r)):=by
 unfold JC;obtain⟨x,hx⟩:=eX (first args);have xo:=ir hv;rw[<-hx]at xo h0|-;have L:=cO (sj A 0);rw[show args.getD 0 v0=x from hx.symm]at L;obtain⟨g,cg,h9,_⟩:=M.im.mP;have p9:ptr (hd R (9,0,0))=.pointer (some ⟨g,0,none⟩):=by rw[h9];rfl
 unfold jX vq at L;by_cases J:x.k=7
 .have xn:0<=x.n/\x.n<(W.cS.length:Int):=xo.co J;obtain⟨n,hn⟩:=eX x.n.toNat;have nl:n<W.cS.length:=cM;have sn:¬(W.cS.getD n dE).state=0:=λq=>h0 ⟨J,by rw[<-hn];exact q⟩;rw[cR J,<-hn,cK sn];obtain⟨c,cc,h4,_,c4,_⟩:=M.im.Br nl;have th:dV (hd R) x=.iface 79 (.pointer (some ⟨c,0,none⟩)):=by
   unfold dV;rw[cK cM,cK cM,cR J,<-hn,h4];rfl
  rw[th]at L;have CY:=cO (λX=>pD (w:=X) x.k (hC G x) ⟨x.s.toArray⟩ (some ⟨c,0,none⟩));unfold vq at CY;have c0:=c4 0 _ rfl;generalize(W.cS.getD n dE).state=st at*;have CS:=cO (λX (hX:Below w.heap.size w X)=>di c0 hX);have K:=cO (λY (hY:Below w.heap.size w Y)=>M.UC (x:=tv lR) E I hp.1 false (jF _ iM) F hw hY);have TV:=cO (λX=>ki (w:=X) ⟨lR.toArray⟩);unfold vq at TV;have BV:=cO (λX=>jM (w:=X) false);rw[p9]at K|-;rw[show dV (hd R) (tv lR)=.nilIface from rfl,show hC G (tv lR)=0 from rfl,show(tv lR).k=3 from rfl,show(tv lR).s=lR from rfl]at K;rw[show(if false=true then(1:Int)else 0)=0 from rfl]at K;obtain⟨r8,D⟩:∃r:mX,r=ok (gv W [bv false,tv lR] cW):=⟨_,rfl⟩
  rw[<-D]at K|-;have RT:Hid (∀e X,Cz w0 p W G R H w r8 e X->∃x,e=.returned x):=λe X h=>by rw[D]at h;exact h.ret
  have RE:Hid (∀e X y,Cz w0 p W G R H w r8 e X->Cz w0 p W G R H w r8 (.returned y) X):=λe X y h=>by rw[D]at h|-;exact h.re y
  unfold lR at TV K;clear M E I hp hv F hw A hx xo h9 p9 J xn hn nl h4 c4 th c0 h0 D;go_enter Gc,Dx;go_wp2_with(first
   |(go_at_call 172;refine cA L ?_;rintro e w3 ⟨rfl,O⟩;have B3:=cO O;clear O)
   |(go_at_call 174;refine cA (CY _) ?_;rintro e w4 ⟨rfl,b4⟩;have B4:=cO (iy B3 b4);have s0:=CS _ B4;clear b4)
   |(go_at_call 143;refine cA (BV _) ?_;rintro e w5 ⟨rfl,b5⟩;have B5:=cO (iy B4 b5);clear b5)
   |(go_at_call 62;refine cA (TV _) ?_;rintro e w6 ⟨rfl,b6⟩;have B6:=cO (iy B5 b6);clear b6)
   |(go_at_call 142;refine cA (K _ B6) ?_;intro e w7 c7;obtain⟨x7,rfl⟩:=RT _ _ c7;have C7:=cO c7;clear c7))
  go_returns;exact RE _ _ _ C7
 .rw[cK J];have tn:dV (hd R) x=.nilIface\/∃q,dV (hd R) x=.iface 226 (.pointer q)\/dV (hd R) x=.iface 140 (.pointer q):=by
   unfold dV;split
   .obtain⟨q,e⟩:=oZ (hd R (1,x.n.toNat,0));exact .inr ⟨q,.inl (by rw[e])⟩
   .split
    .obtain⟨q,e⟩:=oZ (hd R (2,x.n.toNat,0));exact .inr ⟨q,.inr (by rw[e])⟩
    .exact .inl rfl
  have CN:=cO (λX=>s8 (w:=X) x.k (hC G x) ⟨x.s.toArray⟩ tn);unfold vq at CN;have FI:Hid (∀X,Below w.heap.size w X->Cz w0 p W G R H w (mW W rV) (.panicked (BM (.agg #[.int .i64 3,.int .i64 0,.string ⟨#[97,114,103,117,109,101,110,116]⟩,.nilIface]))) X):=λX hX=>Cz.mW M rV hX;generalize dV (hd R) x=tt at*;rw[p9];clear M E I hp hv F hw A hx xo h9 p9 J tn h0;go_enter Gc,Dx;go_wp2_with(first
   |(go_at_call 172;refine cA L ?_;rintro e w3 ⟨rfl,O⟩;have B3:=cO O;clear O)
   |(go_at_call 174;refine cA (CN _) ?_;rintro e w4 ⟨rfl,b4⟩;have B4:=cO (iy B3 b4);clear b4))
  exact⟨rfl,FI _ B4⟩
def Cz.parts(w0:World)(p:Pg)(W:St)(G:Gh)(R:eO->fW)(H:Hi)(w:World)(r:mX):(∀e w',Cz w0 p W G R H w r e w'->∃x,e=.returned x/\∀y,Cz w0 p W G R H w r (.returned y) w')\/(∀e w',Cz w0 p W G R H w r e w'->∃z,e=.panicked z/\Cz w0 p W G R H w r (.panicked z) w'):=by
 obtain⟨V,o⟩:=r;cases o with
 |none=>
  refine .inl λe w' h=>?_;obtain⟨x,rfl⟩:=Cz.ret (V:=V) h;exact⟨x,rfl,λy=>Cz.re (V:=V) h y⟩
 |some x=>
  refine .inr λe w' h=>?_;have D:=h;obtain⟨a,b,c,d,f,k,q⟩:=h;have q:e=_:=q;subst q;exact⟨_,rfl,D⟩
def Fs.lt(M:Mi w0 p W G R H w){q:Nat}(h:Fs W G R H q):q<w.heap.size:=by
 obtain z|z:=h
 .exact eY.lt M.im z
 .obtain⟨_,P,_⟩:=M.pr;exact(P.own.lt q z).2
def RQ{u:Vl}{t:Nat}(M:Mi w0 p W G R H w)(I:Iv p Hs W cW)(O:Wt W cW want)(J:t<W.cS.length)(s0:(W.cS.getD t dE).state=0){cc:Nat}(h9:hd R (9,0,0)=.slice (some ⟨g,0,none⟩) 1 cg)(h4:hd R (4,W.cQ,0)=.slice (some ⟨c,0,none⟩) 1 cc)(K:hd R (4,t,0)=.slice (some ⟨b,0,none⟩) 1 cb)(D:Below w.heap.size w X)(E:Below X.heap.size (qB X c b g want) Y)(L:Z=if (W.cS.getD t dE).held<0 then(Y.alloc (.cells #[.int .i64 u.k,.int .i64 (hC G u),.string ⟨u.s.toArray⟩,dV (hd R) u] 132)).setCell ⟨b,6,none⟩ (.bool true)else Y.alloc (.cells #[.int .i64 u.k,.int .i64 (hC G u),.string ⟨u.s.toArray⟩,dV (hd R) u] 132)):
  ∃R',Mi w0 p (iV W t cW) {G with rw:=λj=>if j=t then want else G.rw j} R' H Z/\hd R'=hd R/\Kp (Fs W G R H) (Fs (iV W t cW) {G with rw:=λj=>if j=t then want else G.rw j} R' H) w Z/\Av (Fs (iV W t cW) {G with rw:=λj=>if j=t then want else G.rw j} R' H) Z {G with rw:=λj=>if j=t then want else G.rw j} (hd R') (.slice (some ⟨Y.heap.size,0,none⟩) 1 1) [u]:=by
 have h:(qB X c b g want).heap.size=X.heap.size:=by simp[qB,World.setCell]
 have hs:X.heap.size<=Y.heap.size:=h▸E.size;have B:=E.trans (((cN Y.heap.size Y).alloc (cE _) (.cells #[.int .i64 u.k,.int .i64 (hC G u),.string ⟨u.s.toArray⟩,dV (hd R) u] 132)).mono hs);obtain⟨R',m,d,k,nf⟩:=RO (M.below D) I O J s0 h9 h4 K B L;refine⟨R',m,d,(Kp.cY D).trans k,?_⟩;have lw:w.heap.size<=Y.heap.size:=cV D.size (h▸E.size);have av:Av (Fs W G R H) (Y.alloc (.cells #[.int .i64 u.k,.int .i64 (hC G u),.string ⟨u.s.toArray⟩,dV (hd R) u] 132)) G (hd R) (.slice (some ⟨Y.heap.size,0,none⟩) 1 1) [u]:=Av.lit (G:=G) (Z:=hd R) (w:=Y) (λq F=>dj (Fs.lt M F) lw) [u] dC;have t5:eW W (4,t,0):=⟨J,rfl⟩
 have fb:eY W G R b:=.row t5 (by rw[K];rfl);have kz:Kp (Fs W G R H) (Fs (iV W t cW) {G with rw:=λj=>if j=t then want else G.rw j} R' H) (Y.alloc (.cells #[.int .i64 u.k,.int .i64 (hC G u),.string ⟨u.s.toArray⟩,dV (hd R) u] 132)) Z:=by
  refine Kp.sub (S1:=Fs W G R H) ?_ λq F=>.inl (F.imp (nf q) id);rw[L];split
  .exact Kp.setCell (a:=⟨b,6,none⟩) _ (.inl fb)
  .exact Kp.refl _ _
 exact(av.kept kz).re λx _=>by rw[d];rfl
def ur(M:Mi w0 p W G R H w)(E:mz p Hs)(I:Iv p Hs W cW)(hp:0<=cW/\cW<=50)(hv:∀x∈args,gG W.sz x)(ae:ft W<=1000000000000)(hw:Wt W cW want)(A:Av (Fs W G R H) w G (hd R) v args)(k7:(first args).k=7)(s0:(W.cS.getD (first args).n.toNat dE).state=0)(CL:(W.cS.getD (first args).n.toNat dE).held<0->∀G' R' Z v',G'.iG=G.iG->Mi w0 p (iV W (first args).n.toNat cW) G' R' H Z->Av (Fs (iV W (first args).n.toNat cW) G' R' H) Z G' (hd R') v' [args.getD 1 v0]->Calls Tryz.prog 169 #[ptr (hd R' (9,0,0)),jX G' (hd R') (W.cS.getD (first args).n.toNat dE).body,v',.int .i64 0] Z (Cz w0 p (iV W (first args).n.toNat cW) G' R' H Z r)):
  Calls Tryz.prog 137 #[ptr (hd R (9,0,0)),v,.int .i64 want] w (Cz w0 p W G R H w (JC W args cW r)):=by
 unfold JC;obtain⟨x,hx⟩:=eX (first args);have xo:=ir hv;rw[<-hx]at xo k7 s0 CL|-;have AT:=cO (sj A 0);rw[show args.getD 0 v0=x from hx.symm]at AT;obtain⟨g,cg,h9,c9,f9,_⟩:=M.im.mP;have p9:ptr (hd R (9,0,0))=.pointer (some ⟨g,0,none⟩):=by rw[h9];rfl
 unfold jX vq at AT;have xn:0<=x.n/\x.n<(W.cS.length:Int):=xo.co k7;obtain⟨t,ac⟩:∃n,n=x.n.toNat:=⟨_,rfl⟩
 have ht:t<W.cS.length:=cM;rw[<-ac]at s0 CL|-;rw[cR k7,cR s0];have hn:=I.cQ;have nt:t≠W.cQ:=λe=>by rw[e,I.run]at s0;omega
 have t0:t≠0:=λe=>by obtain q|q:=I.main<;>(rw[<-e,s0]at q;omega)
 obtain⟨c,cc,h4,fc,c4,z4⟩:=M.im.Br hn;obtain⟨b,cb,h5,fb,c5,z5⟩:=M.im.Br ht;have b4:(R (4,W.cQ,0)).v.ownBlock=some c:=by rw[show(R (4,W.cQ,0)).v=_ from h4];rfl
 have b5:(R (4,t,0)).v.ownBlock=some b:=by rw[show(R (4,t,0)).v=_ from h5];rfl
 have b9:(R (9,0,0)).v.ownBlock=some g:=by rw[show(R (9,0,0)).v=_ from h9];rfl
 have t4:eW W (4,W.cQ,0):=⟨hn,rfl⟩
 have t5:eW W (4,t,0):=⟨ht,rfl⟩
 have n1:¬c=b:=λe=>M.im.eH.apart _ _ t4 t5 (λq=>nt (by simpa using q.symm)) c b4 (by rw[b5,e]);have n2:¬c=g:=λe=>M.im.eH.apart _ (9,0,0) t4 rfl dC c b4 (by rw[b9,e]);have n3:¬b=g:=λe=>M.im.eH.apart _ (9,0,0) t5 rfl dC b b5 (by rw[b9,e]);have m1:¬b=c:=λe=>n1 e.symm;have m2:¬g=c:=λe=>n2 e.symm;have m3:¬g=b:=λe=>n3 e.symm;have th:dV (hd R) x=.iface 79 (.pointer (some ⟨b,0,none⟩)):=by unfold dV;rw[cK cM,cK cM,cR k7,<-ac,h5];rfl
 rw[th]at AT;have CY:=cO (λX=>pD (w:=X) x.k (hC G x) ⟨x.s.toArray⟩ (some ⟨b,0,none⟩));unfold vq at CY;have ad:w.cell? ⟨g,41,none⟩=some (.pointer (some ⟨c,0,none⟩)):=by rw[show Value.pointer (some ⟨c,0,none⟩)=ptr (hd R (4,W.cQ,0)) by rw[h4];rfl];exact c9 41 _ rfl
 obtain⟨u,hu⟩:=eX (args.getD 1 v0);have uo:gG W.sz u:=hu▸iR hv 1;rw[<-hu]at CL|-;obtain⟨y,hy⟩:=eX ((W.cS.getD t dE).body);rw[<-hy]at CL;have fz:∀{X:World}(j k:Nat),Below w.heap.size w X->k<w.heap.size->w.frozen? ⟨k,j,none⟩=false->X.frozen? ⟨k,j,none⟩=false:=λj k D hl q=>(dA (a:=⟨k,j,none⟩) (D.block k hl)).trans q;have lc:=eY.lt M.im fc;have lb:=eY.lt M.im fb;have lg:=dy _ _ ad;obtain⟨o7,af⟩:∃o,o=(if t=0\/(W.cS.getD t dE).held<0 then Value.pointer none else ptr (hd R (4,(W.cS.getD t dE).gq,0))):=⟨_,rfl⟩
 have CS:Hid (∀X,Below w.heap.size w X->X.cell? ⟨g,41,none⟩=some (.pointer (some ⟨c,0,none⟩))/\X.frozen? ⟨g,41,none⟩=false/\X.cell? ⟨c,0,none⟩=some (.int .i64 W.co.state)/\X.frozen? ⟨c,0,none⟩=false/\X.cell? ⟨b,0,none⟩=some (.int .i64 0)/\X.frozen? ⟨b,0,none⟩=false/\X.cell? ⟨b,7,none⟩=some o7/\X.frozen? ⟨b,7,none⟩=false/\X.cell? ⟨b,8,none⟩=some (.int .i64 (G.rw t))/\X.frozen? ⟨b,8,none⟩=false):=λX D=>⟨di ad D,fz 41 g D lg (f9 41),di (c4 0 _ rfl) D,fz 0 c D lc (z4 0),by rw[<-s0];exact di (c5 0 _ rfl) D,fz 0 b D lb (z5 0),af▸di (c5 7 _ rfl) D,fz 7 b D lb (z5 7),di (c5 8 _ rfl) D,fz 8 b D lb (z5 8)⟩
 have ah:∀X:World,(qB X c b g want).heap.size=X.heap.size:=λX=>by simp[qB,World.setCell]
 have FE:Hid (∀X,Below w.heap.size w X->∀Y,Below X.heap.size (qB X c b g want) Y->Y.cell? ⟨b,6,none⟩=some (.bool (decide (t≠0/\0<=(W.cS.getD t dE).held)))/\Y.frozen? ⟨b,6,none⟩=false/\Y.cell? ⟨b,9,none⟩=some (.int .i64 (G.yw t))/\Y.cell? ⟨b,2,none⟩=some (.int .i64 y.k)/\Y.cell? ⟨b,3,none⟩=some (.int .i64 (hC G y))/\Y.cell? ⟨b,4,none⟩=some (.string ⟨y.s.toArray⟩)/\Y.cell? ⟨b,5,none⟩=some (dV (hd R) y)/\b<Y.heap.size):=λX D Y O=>by
  have lx:=dj lb D.size;have ce:∀j z,j≠0->j≠7->j≠8->w.cell? ⟨b,j,none⟩=some z->Y.cell? ⟨b,j,none⟩=some z:=λj z q1 q2 q3 e=>by
   have e2:(qB X c b g want).cell? ⟨b,j,none⟩=some z:=by
    unfold qB;iterate 5 (refine(iH _ _ _ _ (λe=>by simp only[fC]at e;omega)).trans ?_)
    exact di e D
   exact di e2 (by rw[ah];exact O)
  have fe:Y.frozen? ⟨b,6,none⟩=false:=by refine(dA (a:=⟨b,6,none⟩) (O.block b lx)).trans ?_;unfold qB;simp only[U0];exact fz 6 b D lb (z5 6)
  refine⟨ce 6 _ cM cM cM (c5 6 _ rfl),fe,ce 9 _ cM cM cM (c5 9 _ rfl),?_,?_,?_,?_,dj lx (ah X▸O.size)⟩<;>(rw[hy];refine ce _ _ cM cM cM (c5 _ _ rfl))
 have k5:∀X,Below w.heap.size w X->Kp (eY W G R) (eY W G R) w (qB X c b g want):=λX D=>(Kp.cY D).trans (((((Kp.setCell (a:=⟨c,0,none⟩) _ fc).trans (Kp.setCell (a:=⟨b,0,none⟩) _ fb)).trans (Kp.setCell (a:=⟨b,7,none⟩) _ fb)).trans (Kp.setCell (a:=⟨b,8,none⟩) _ fb)).trans (Kp.setCell (a:=⟨g,41,none⟩) _ (.row (t:=(9,0,0)) rfl b9)));have AU:=cO (λX (D:Below w.heap.size w X)=>sj ((A.sub (S1:=eY W G R) (λk q=>.inl q)).kept (k5 X D)) 1);rw[<-hu]at AU;unfold jX vq at AU;obtain⟨G2,aa⟩:=eX ({G with rw:=λj=>if j=t then want else G.rw j}:Gh);have RS:=λX D Y O Z hZ=>RQ (u:=u) M I hw ht s0 h9 h4 h5 (X:=X) D (Y:=Y) O (Z:=Z) hZ;rw[<-aa]at RS;have ts:=(gm (hd R) u).store;rw[p9];have v2:∀R',hd R'=hd R->jX G2 (hd R') y=.agg #[.int .i64 y.k,.int .i64 (hC G y),.string ⟨y.s.toArray⟩,dV (hd R) y]:=λR' e=>by rw[e,aa];rfl
 by_cases hh:(W.cS.getD t dE).held<0
 .rw[cR hh];have GO:Hid (∀X,Below w.heap.size w X->∀Y,Below X.heap.size (qB X c b g want) Y->Calls Tryz.prog 169 #[.pointer (some ⟨g,0,none⟩),.agg #[.int .i64 y.k,.int .i64 (hC G y),.string ⟨y.s.toArray⟩,dV (hd R) y],.slice (some ⟨Y.heap.size,0,none⟩) 1 1,.int .i64 0] ((Y.setCell ⟨b,6,none⟩ (.bool true)).alloc (.cells #[.int .i64 u.k,.int .i64 (hC G u),.string ⟨u.s.toArray⟩,dV (hd R) u] 132)) (Cz w0 p W G R H w r)):=λX D Y O=>by
   rw[<-World.setCell_alloc_past _ _ _ _ (FE X D Y O).2.2.2.2.2.2.2];obtain⟨R',m,d,k,av⟩:=RS X D Y O _ rfl;rw[cR hh]at m k av;have q:=CL hh G2 R' _ _ (by rw[aa]) m av;rw[v2 R' d,d,p9]at q;exact q.mono λe w' cz=>cz.from k (by rw[d])
  have FF:Hid (∀X,Below w.heap.size w X->∀Y,Below X.heap.size (qB X c b g want) Y->Y.cell? ⟨b,6,none⟩=some (.bool false)/\Y.frozen? ⟨b,6,none⟩=false/\Y.cell? ⟨b,2,none⟩=some (.int .i64 y.k)/\Y.cell? ⟨b,3,none⟩=some (.int .i64 (hC G y))/\Y.cell? ⟨b,4,none⟩=some (.string ⟨y.s.toArray⟩)/\Y.cell? ⟨b,5,none⟩=some (dV (hd R) y)/\b<Y.heap.size):=λX D Y O=>by have q:=FE X D Y O;rw[fj (λz=>by have:=z.2;omega)]at q;exact⟨q.1,q.2.1,q.2.2.2⟩
  have CC:=Cz.parts w0 p W G R H w r;generalize dV (hd R) u=tu at*;generalize dV (hd R) y=ty at*;generalize(⟨u.s.toArray⟩:ByteArray)=us at*;generalize(⟨y.s.toArray⟩:ByteArray)=ys at*;generalize hC G u=ui at*;generalize hC G y=yi at*;generalize u.k=uk at*;generalize y.k=yk at*;clear FE RS v2 CL M E I hp hv ae hw A h9 c9 f9 p9 h4 h5 c4 c5 z4 z5 fc fb b4 b5 b9 t4 t5 th ad xo k7 xn hx aa hy hu uo fz k5 af s0 nt t0 hn ht ac hh;go_enter Gc,Dx;go_upto_region 1 with(first
   |(go_at_call 172;refine cA AT ?_;rintro e w3 ⟨rfl,b3⟩;have B3:=cO b3;clear b3)
   |(go_at_call 174;refine cA (CY _) ?_;rintro e w4 ⟨rfl,b4⟩;have B4:=cO (iy B3 b4);clear b4))
  have K:=cO (AU w4 B4);have F:=cO (GO w4 B4);have J:=cO (FF w4 B4);unfold qB at K F J;obtain⟨e1,e2,e3,e4,e5,e6,e7,e8,e9,ag⟩:=CS w4 B4;clear AU GO FF CS;go_upto_region 6 with fail;refine dx λw5 L=>?_;rw[<-L]at K F J;have s5:w5.heap.size=w4.heap.size:=by rw[L];simp[World.setCell]
  rw[<-s5]at F J;clear L e1 e2 e3 e4 e5 e6 e7 e8 e9 ag s5;obtain rc|rc:=CC<;>have RC:=cO rc<;>clear rc
  .go_wp2_with(first
    |(go_at_call 172;refine cA K ?_;rintro e w6 ⟨rfl,b6⟩;have G6:=cO (F _ b6);obtain⟨q1,q2,q3,q4,q5,q6,q7⟩:=J _ b6;clear b6)
    |(go_at_call 169;refine cA G6 ?_;intro e w7 c7;obtain⟨x7,rfl,d7⟩:=RC _ _ c7;have D7:=cO d7;clear d7 c7))
   go_returns;exact D7 _
  .go_wp2_with(first
    |(go_at_call 172;refine cA K ?_;rintro e w6 ⟨rfl,b6⟩;have G6:=cO (F _ b6);obtain⟨q1,q2,q3,q4,q5,q6,q7⟩:=J _ b6;clear b6)
    |(go_at_call 169;refine cA G6 ?_;intro e w7 c7;obtain⟨x7,rfl,d7⟩:=RC _ _ c7;have D7:=cO d7;clear d7 c7))
   exact⟨rfl,D7⟩
 .rw[cK hh];have lr:(iV W t cW).cS.length=W.cS.length:=by simp[iV,St.dW]
  have cr:(iV W t cW).co.cy=(W.cS.getD t dE).cy:=by show((iV W t cW).cS.getD t dE).cy=_;rw[tj hn ht nt,cR rfl]
  obtain⟨r8,ab⟩:∃r:mX,r=ok (gv (iV W t cW) [u] (W.cS.getD t dE).held):=⟨_,rfl⟩
  rw[<-ab];have GO:Hid (∀X,Below w.heap.size w X->∀Y,Below X.heap.size (qB X c b g want) Y->Calls Tryz.prog 142 #[.pointer (some ⟨g,0,none⟩),.slice (some ⟨Y.heap.size,0,none⟩) 1 1,.int .i64 (G.yw t)] (Y.alloc (.cells #[.int .i64 u.k,.int .i64 (hC G u),.string ⟨u.s.toArray⟩,dV (hd R) u] 132)) (Cz w0 p W G R H w r8)):=λX D Y O=>by obtain⟨R',m,d,k,av⟩:=RS X D Y O _ rfl;rw[cK hh]at m k av;have q:=m.sA (want:=G.yw t) E (qF I hp ht s0 λ_=>rfl) cM (pY (by rw[qE];exact uo)) (by rw[(yv I ht s0).2];exact ae) (λj q1 q2=>by rw[cr]at q1;rw[show(iV W t cW).fr (iV W t cW).cQ j=(iV W t cW).co.cy.getD j pG from rfl,cr]at q2;exact M.gw.yw t ht s0 cM j q1 q2) (av.sub λ_ z=>.inl z);rw[d,p9]at q;rw[ab];exact q.mono λe w' cz=>cz.from k (by rw[d])
  have FF:Hid (∀X,Below w.heap.size w X->∀Y,Below X.heap.size (qB X c b g want) Y->Y.cell? ⟨b,6,none⟩=some (.bool true)/\Y.cell? ⟨b,9,none⟩=some (.int .i64 (G.yw t))/\b<Y.heap.size):=λX D Y O=>by have q:=FE X D Y O;rw[fM (show t≠0/\0<=(W.cS.getD t dE).held from⟨t0,cM⟩)]at q;exact⟨q.1,q.2.2.1,q.2.2.2.2.2.2.2⟩
  have RT:Hid (∀e X,Cz w0 p W G R H w r8 e X->∃x,e=.returned x):=λe X h=>by rw[ab]at h;exact h.ret
  have RE:Hid (∀e X y,Cz w0 p W G R H w r8 e X->Cz w0 p W G R H w r8 (.returned y) X):=λe X y h=>by rw[ab]at h|-;exact h.re y
  generalize dV (hd R) u=tu at*;generalize(⟨u.s.toArray⟩:ByteArray)=us at*;generalize hC G u=ui at*;generalize u.k=uk at*;generalize G.yw t=yw at*;clear FE RS v2 CL M E I hp hv ae hw A h9 c9 f9 p9 h4 h5 c4 c5 z4 z5 fc fb b4 b5 b9 t4 t5 th ad xo k7 xn hx aa hy hu uo fz k5 af s0 nt t0 hn ht ac hh ab lr cr;go_enter Gc,Dx;go_upto_region 1 with(first
   |(go_at_call 172;refine cA AT ?_;rintro e w3 ⟨rfl,b3⟩;have B3:=cO b3;clear b3)
   |(go_at_call 174;refine cA (CY _) ?_;rintro e w4 ⟨rfl,b4⟩;have B4:=cO (iy B3 b4);clear b4))
  have K:=cO (AU w4 B4);have F:=cO (GO w4 B4);have J:=cO (FF w4 B4);unfold qB at K F J;obtain⟨e1,e2,e3,e4,e5,e6,e7,e8,e9,ag⟩:=CS w4 B4;clear AU GO FF CS;go_upto_region 6 with fail;refine dx λw5 L=>?_;rw[<-L]at K F J;have s5:w5.heap.size=w4.heap.size:=by rw[L];simp[World.setCell]
  rw[<-s5]at F J;clear L e1 e2 e3 e4 e5 e6 e7 e8 e9 ag s5;go_wp2_with(first
   |(go_at_call 172;refine cA K ?_;rintro e w6 ⟨rfl,b6⟩;have G6:=cO (F _ b6);obtain⟨q1,q2,q3⟩:=J _ b6;clear b6)
   |(go_at_call 142;refine cA G6 ?_;intro e w7 c7;obtain⟨x7,rfl⟩:=RT _ _ c7;have C7:=cO c7;clear c7))
  go_returns;exact RE _ _ _ C7
abbrev Ap(cW:Int):Fr:=⟨true,cW,0,0,[],[],[],0⟩
def Nu(M:Mi w0 p W G R H w)(I:Iv p Hs W cW)(J:W.co.cy.length<=1000000000000)(hw:Wt W cW want):
  zC 140 #[ptr (hd R (9,0,0)),.iface 199 (.agg #[zI want])] w λe K=>(∃x,e=.returned x)/\∃G' R',Mi w0 p (W.push (Ap cW)) G' R' H K/\hd R' (9,0,0)=hd R (9,0,0)/\vi G' (hd R')=vi G (hd R)/\G'.iG=G.iG/\Kp (Fs W G R H) (Fs (W.push (Ap cW)) G' R' H) w K:=by
 obtain⟨fw,E⟩:=eX (λc j=>if c=W.cQ/\j=W.co.cy.length then want else G.wa c j:Nat->Nat->Int);have P:=Eh (N:=λ_=>False) (f:=Ap cW) (z:=want) (fw:=fw) M.im M.bs I.cQ J E (λs h=>h.elim) (nb) (by
  refine⟨λt L=>M.im.eH.own t (L.resolve_right id),λs t hs L=>M.im.eH.apart s t (hs.resolve_right id) (L.resolve_right id)⟩) (λ_ s h=>h.elim) (Lo.sub M.im.lone λc j a O D F=>by
   rw[tW I.cQ]at F|-;rw[oK I.cQ]at D;rw[show(W.du (W.co.cy++[Ap cW])).cS.length=W.cS.length from tG W _]at O;by_cases e:c=W.cQ
   .rw[cR e]at F D|-;have D:j<(W.co.cy++[Ap cW]).length:=D;rw[dq,dt,dG]at D;by_cases l:j<W.co.cy.length
    .rw[iL _ _ _ _ l];exact⟨O,e▸l,by rw[e];rfl⟩
    .rw[show j=W.co.cy.length by omega,gD]at F;exact absurd F (dT _)
   .rw[cK e]at F D|-;exact⟨O,D,rfl⟩) (T:=199) (x:=.agg #[zI want]) rfl
 refine P.mono ?_;rintro e K ⟨hx,R',u,i,d,k,f⟩;obtain⟨m,kk⟩:=M.gY i (M.gw.push I.cQ I.run (λi h1 h2 h3=>I.gq i h1 h2 h3) E hw λ_=>⟨rfl,rfl⟩) (k.sub λq hq=>by
  obtain a|⟨s,h,_⟩|a:=f q hq
  .exact .inl a
  .exact h.elim
  .exact .inr a) rfl rfl rfl
 refine⟨hx,_,R',m,by rw[d,dL dC],?_,rfl,kk⟩;rw[d,nJ dC];rfl
def Kd(n:Nat)(ao:Option Addr)(E:Value):Prop:=∃D h,E=.slice D (n-1) h/\n-1<=h/\h<=9223372036854775807/\(1<n->∃b off,ao=some ⟨b,off,none⟩/\D=some ⟨b,off+4,none⟩)
def Av.UM{Z:eO->Value}{l:List Vl}{ao:Option Addr}{cap:Nat}{J:Value}(h:Av S w G Z (.slice ao l.length cap) l)(k:Kd l.length ao J):Av S w G Z J (l.drop 1):=by obtain⟨F,D,rfl,O,k2,k3⟩:=k;obtain⟨aa,c2,e,h1,h2,h3⟩:=h;simp only[de]at e;obtain⟨rfl,-,rfl⟩:=e;have E:(l.drop 1).length=l.length-1:=eZ;refine⟨F,D,by rw[E],E▸O,k2,λq=>?_⟩;rw[E]at q;obtain⟨b,off,e,e'⟩:=k3 cM;obtain⟨b2,K,L,n2,hc⟩:=h3 cM;rw[e]at L;cases L;refine⟨b,off+4,e',n2,λi I u hi M=>?_⟩;rw[E]at hi;have:=hc (i+1) I u cM (by rw[cB,lN,Gd]at M;rw[cB];exact M);rw[show off+(i+1)*4+I=off+4+i*4+I by omega]at this;exact this
def GR(M:Mi w0 p W G R H w)(I:Iv p Hs W cW)(aa:W.co.cy.length<=1000000000000)(hw:Wt W cW want)(A:Av (Fs W G R H) w G (hd R) v args)(CL:∀G' R' Z v',G'.iG=G.iG->Mi w0 p (W.push (Ap cW)) G' R' H Z->Av (Fs (W.push (Ap cW)) G' R' H) Z G' (hd R') v' (args.drop 1)->zC 169 #[ptr (hd R' (9,0,0)),jX G' (hd R') (first args),v',zI 0] Z (Cz w0 p (W.push (Ap cW)) G' R' H Z r)):
  zC 134 #[ptr (hd R (9,0,0)),v,zI want] w (Cz w0 p W G R H w r):=by
 obtain⟨g,cg,h9,_⟩:=M.im.mP;have p9:ptr (hd R (9,0,0))=zP g:=by rw[h9];rfl
 have PU:=Nu M I aa hw;rw[p9]at PU|-;obtain⟨x,hx⟩:=eX (first args);obtain⟨vx,J⟩:=eX (jX G (hd R) x);obtain⟨O,cap,rfl,a1,a2,a3⟩:=id A;obtain⟨n,hn⟩:=eX args.length;have CC:=Cz.parts w0 p W G R H w r;have PP:Hid (zC 140 #[zP g,.iface 199 (.agg #[zI want])] w λe w'=>(∃x,e=.returned x)/\∀X,zB w' X->zC 172 #[.slice O n cap,zI 0] X λe w4=>e=.returned vx/\∀F,Kd n O F->zC 169 #[zP g,vx,F,zI 0] w4 (Cz w0 p W G R H w r)):=by
  refine PU.mono ?_;rintro e w' ⟨ae,G',R',m,d,vk,md,k⟩;refine⟨ae,λX hX=>?_⟩;have av:=(A.kept k).re (G':=G') (Z':=hd R') λy _=>by rw[vk]
  have ab:jX G' (hd R') x=vx:=by rw[J];show Value.agg ⟨vi G' (hd R') x⟩=.agg ⟨vi G (hd R) x⟩;rw[vk]
  have ac:=sj (av.below hX) 0;rw[show args.getD 0 v0=x from hx.symm,ab]at ac;rw[hn];refine ac.mono ?_;rintro e w4 ⟨rfl,b4⟩;refine⟨rfl,λF kd=>?_⟩;have B4:=iy hX b4;have ad:Av (Fs (W.push (Ap cW)) G' R' H) w4 G' (hd R') F (args.drop 1):=(av.below B4).UM (hn▸kd);have c:=CL G' R' w4 F md (m.below B4) ad;rw[d,p9,<-hx,ab]at c;refine c.mono ?_;intro e w5 cz;exact cz.from (k.trans (Kp.cY B4)) d
 rw[<-hn];have nb:(n:Int)<=9223372036854775807/\n<=cap:=cM;have TV:∃k i s t,vx=.agg #[zI k,zI i,.string s,t]:=⟨_,_,_,_,J⟩
 obtain⟨kx,ix,sx,tx,af⟩:=TV;have HA:Hid (0<n->∃b off,O=some (zA b off)):=λq=>by obtain⟨b,off,e,_⟩:=a3 (hn▸q);exact⟨b,off,e⟩
 have n1:=nb.2;have n2:=a2;clear M I aa hw A CL h9 p9 PU hx J a1 a2 a3 hn nb;subst af;go_enter func134,ntmps134;go_upto_region 1 with(go_at_call 140;refine cA PP ?_;rintro e w3 ⟨⟨x3,rfl⟩,p3⟩;have P3:=cO p3;clear p3)
 obtain⟨S,hS⟩:=eX (λ_=>True:World->Prop);have MK:Hid (∀X,S X):=λX=>by rw[hS];trivial
 clear hS PP;haveI:Nonempty (Wd S):=⟨⟨w3,MK _⟩⟩
 obtain h0|h0:=DF n
 .subst h0;obtain⟨F,h⟩:=eX (.slice (if cap=(min 1 (0:Int)).toNat then O else Option.map (λx=>x.add ((min 1 (0:Int)).toNat*4)) O) 0 (cap-(min 1 (0:Int)).toNat):Value);have KD:Hid (Kd 0 O F):=by
   rw[h];exact⟨_,_,rfl,dM _,cV (Wu _ _) n2,λq=>absurd q cM⟩
  clear HA;refine Cg S [0,1,3,4,5,6,7] [2] [8] (MK _) ?_;simp only[pick,ey,eB,eL,eM,dt,dG];repeat(go_big_quiet_step(fail))
  rw[<-h];refine wpQuiet_nil ?_;clear h;refine dI ?_;go_wp2_with(go_at_call 172;refine cA (P3 _ (cN _ _).drew) ?_;rintro e w4 ⟨rfl,g4⟩;have G4:=cO (g4 _ KD);clear g4)
  refine⟨MK _,?_⟩;refine ej ?_;obtain K|K:=CC<;>have RC:=cO K<;>clear K
  .go_wp2_with(go_at_call 169;refine cA G4 ?_;intro e w7 D;obtain⟨x7,rfl,E⟩:=RC _ _ D;have L:=cO E;clear E D)
   go_returns;exact L _
  .go_wp2_with(go_at_call 169;refine cA G4 ?_;intro e w7 D;obtain⟨x7,rfl,E⟩:=RC _ _ D;have L:=cO E;clear E D)
   exact⟨rfl,L⟩
 .obtain⟨m,rfl⟩:∃m,n=m+1:=⟨n-1,cM⟩
  obtain⟨b,off,rfl⟩:=HA h0;obtain⟨F,h⟩:=eX (.slice (if cap=(min 1 ((m:Int)+1)).toNat then some (zA b off)else some (zA b (off+(min 1 ((m:Int)+1)).toNat*4))) (m+1-(min 1 ((m:Int)+1)).toNat) (cap-(min 1 ((m:Int)+1)).toNat):Value);have KD:Hid (Kd (m+1) (some (zA b off)) F):=by rw[h];rw[show(min 1 ((m:Int)+1)).toNat=1 by omega];refine⟨_,_,rfl,cM,cM,λq=>⟨b,off,rfl,cK cM⟩⟩
  clear HA;refine Cg S [0,1,3,4,5,6,7] [2] [8] (MK _) ?_;simp only[pick,ey,eB,eL,eM,dt,dG];repeat(go_big_quiet_step(fail))
  rw[<-h];refine wpQuiet_nil ?_;clear h;refine dI ?_;go_wp2_with(go_at_call 172;refine cA (P3 _ (cN _ _).drew) ?_;rintro e w4 ⟨rfl,g4⟩;have G4:=cO (g4 _ KD);clear g4)
  refine⟨MK _,?_⟩;refine ej ?_;obtain K|K:=CC<;>have RC:=cO K<;>clear K
  .go_wp2_with(go_at_call 169;refine cA G4 ?_;intro e w7 D;obtain⟨x7,rfl,E⟩:=RC _ _ D;have L:=cO E;clear E D)
   go_returns;exact L _
  .go_wp2_with(go_at_call 169;refine cA G4 ?_;intro e w7 D;obtain⟨x7,rfl,E⟩:=RC _ _ D;have L:=cO E;clear E D)
   exact⟨rfl,L⟩
def Pl(Q:Ending->World->Prop):Prop:=(∀e h,Q e h->∃x,e=.returned x/\∀y,Q (.returned y) h)\/(∀e h,Q e h->∃z,e=.panicked z/\Q (.panicked z) h)
def Qk{n:Int}{q:Option Addr}(L:Pl Q)(I:∀X,zB w X->zC 63 #[zP g,.pointer q,v,zI want] X Q):
  zC 169 #[zP g,.agg #[zI 5,zI n,.string s,.iface 140 (.pointer q)],v,zI want] w Q:=by
 have J:=cO I;have ta:∀X,(Instr.typeAssert (.iface 140 (.pointer q)) 20 140 false).run Tryz.prog X=.ok (.pointer q) X:=λX=>gA;clear I;obtain E|E:=L<;>have K:=cO E<;>clear E
 .go_enter Gb,Dw;go_wp2_with(go_at_call 63;refine cA (J _ (ba)) ?_;intro e M h;obtain⟨O,rfl,D⟩:=K _ _ h;have F:=cO D;clear D h)
  go_returns;exact F _
 .go_enter Gb,Dw;go_wp2_with(go_at_call 63;refine cA (J _ (ba)) ?_;intro e M h;obtain⟨O,rfl,D⟩:=K _ _ h;have F:=cO D;clear D h)
  exact⟨rfl,F⟩
def zm{k n:Int}{t:Value}(I:¬k=5)(J:¬k=6):
  zC 169 #[zP g,.agg #[zI k,zI n,.string s,t],v,zI want] w λe E=>e=.panicked (BM (.agg #[zI 3,zI 0,.string ⟨#[99,97,108,108]⟩,.nilIface]))/\zB w E:=by
 have h:=cO (λX=>jR (w:=X) ⟨yY.toArray⟩);unfold yY at h;unfold vq at h;go_enter Gb,Dw;go_wp2_with(go_at_call 164;refine cA (h _) ?_;rintro e K ⟨rfl,D⟩;have F:=cO (((cN w.heap.size w).alloc (cE _) _).trans (D.mono dC));clear D)
 exact⟨rfl,rfl,F⟩
def uH{f:Nat}{t:Value}(hn:n<10)(I:zE w g (31+n) (.func (.func f) #[] #[]))(aa:∀X,Sem.run Tryz.prog (callFunc f #[zP g,v,zI want]) X=.ok (.enter f #[zP g,v,zI want]) X)(hQ:Pl Q)(K:∀X,zB w X->zC f #[zP g,v,zI want] X Q):
  zC 169 #[zP g,.agg #[zI 6,zI (n:Int),.string s,t],v,zI want] w Q:=by
 have E1:=cO K;have hl:=dy w (zA g (31+n)) I;have ab:(n:Int)<10:=cM;clear K;go_enter Gb,Dw;go_upto_region 6 with fail;refine dx λw1 D=>?_;have L:Hid (zB w w1):=D▸ba;have L1:Hid (Lc (λ_=>False) w1 w.heap.size #[zI 6,zI (n:Int),.string s,t] 132):=D▸Lc.new w (λ_ h=>h.elim) _ _;clear D;replace I:=di I L;have x1:=L1.cell (j:=1) rfl;refine uZ 11 ?_;simp only[List.take,List.drop];repeat(go_big_quiet_step(fail))
 refine wpQuiet_nil ?_;have M:=cO (E1 _ L.drew);obtain J|J:=hQ<;>have O:=cO J<;>clear J
 .go_wp2;refine cA M ?_;intro e w7 E;obtain⟨x7,rfl,F⟩:=O _ _ E;have D7:=cO F;clear F E;dsimp only;go_wp2;go_returns;exact D7 _
 .go_wp2;refine cA M ?_;intro e w7 E;obtain⟨x7,rfl,F⟩:=O _ _ E;exact⟨rfl,F⟩
def UZ(w0:World)(p:Pg)(Hs:Nat->List Int)(f:FuncId)(k:Int):Prop:=∀(W:St)(G:Gh)(R:eO->fW)(H:Hi)(w:World)(h D:Int)(args:List Vl)(v:Value),Mi w0 p W G R H w->Iv p Hs W h->0<=h/\h<=50->(∀x∈args,gG W.sz x)->args.length<=1000->∀n,td W n->W.tables.length+W.funcs.length+W.cS.length<=1000000000->Wt W h D->Av (Fs W G R H) w G (hd R) v args ->
 Calls Tryz.prog f #[ptr (hd R (9,0,0)),v,.int .i64 D] w (Cz w0 p W G R H w (plain W k args h))
def Dq(E:mz p Hs)(tb:Tb w0)(pw:Pw w0)(PR:UZ w0 p Hs 130 0):∀(n:Nat)(W:St)(f:Vl)(args:List Vl)(cW want:Int)(G:Gh)(R:eO->fW)(H:Hi)(w:World)(v:Value),3*(W.cS.map mC).sum+args.length+(if f.k=6 then 2 else 1)<=n->Iv p Hs W cW->0<=cW/\cW<=50->gG W.sz f->(∀x∈args,gG W.sz x)->args.length<=1000->td W n->W.tables.length+W.funcs.length+W.cS.length<=1000000000->Mi w0 p W G R H w->Wt W cW want->Av (Fs W G R H) w G (hd R) v args ->
  zC 169 #[ptr (hd R (9,0,0)),jX G (hd R) f,v,zI want] w (Cz w0 p W G R H w (call p n W f args cW))
 |0,W,f,args,cW,want,G,R,H,w,v,hg,I,F,hf,J,af,B,hm,M,L,A=>by split at hg<;>omega
 |n+1,W,f,args,cW,want,G,R,H,w,v,hg,I,F,hf,J,af,B,hm,M,L,A=>by
  have am:=wV I.cQ;have hB:=B.ft;have D:ft W<=1000000000000:=cM;have ad:G.iG<=1000000000:=by have:=M.gw.iG;omega
  obtain⟨g,cg,h9,c9,_,_⟩:=M.im.mP;have p9:ptr (hd R (9,0,0))=zP g:=by rw[h9];rfl
  have PL:=Cz.parts w0 p W G R H w;unfold call;by_cases k6:f.k=6
  .rw[cR k6]at hg|-;have hb:=hf.pv k6;obtain⟨m,ag⟩:∃m:Nat,f.n=m:=⟨f.n.toNat,cM⟩
   have vf:jX G (hd R) f=.agg #[zI 6,zI (m:Int),.string ⟨f.s.toArray⟩,.nilIface]:=by unfold jX vq hC dV;rw[k6];simp only[ag];rfl
   rw[vf,p9];have go:∀(K:Nat)(r:mX),(zG[28+m]?=some (.func (.func K) #[] #[]))->(∀X,Sem.run Tryz.prog (callFunc K #[zP g,v,zI want]) X=.ok (.enter K #[zP g,v,zI want]) X)->(∀X,zB w X->zC K #[ptr (hd R (9,0,0)),v,zI want] X (Cz w0 p W G R H X r))->zC 169 #[zP g,.agg #[zI 6,zI (m:Int),.string ⟨f.s.toArray⟩,.nilIface],v,zI want] w (Cz w0 p W G R H w r):=λK r q1 q2 q3=>by
    refine uH (f:=K) cM (c9 (31+m) _ ?_) q2 (PL r) λX h=>?_
    .show([H.ps,H.ks,H.ins]++zG++_)[31+m]?=_;have l3:zG.length=38:=rfl;rw[fH (by rw[dq,l3];simp only[dt,dG];omega),fB (by simp only[dt,dG];omega)];rw[show 31+m - [H.ps,H.ks,H.ins].length=28+m by simp only[dt,dG];omega];exact q1
    .rw[<-p9];exact(q3 X h).mono λe w' c=>c.from (Kp.cY h) rfl
   rw[ag]at hb|-;have al:m<10:=cM;by_cases n4:m=4
   .subst n4;rw[cR (show((4:Nat):Int)=4 from rfl)];refine go 134 _ rfl (λX=>gA) λX h=>?_;refine GR (M.below h) I cM L (A.below h) λG' R' Z v' md M' A'=>?_;have ai:pM p Hs W.sz (Ap cW) 1:=⟨F.1,F.2,nb,nb,nb,nb,nb,nb,nb,nb,nb⟩
    have hz:(W.push (Ap cW)).sz=W.sz:=by simp[St.push,St.du,St.dW,St.sz]
    have aj:((W.push (Ap cW)).cS.map mC).sum=(W.cS.map mC).sum:=sL I.cQ _;have an:(args.drop 1).length=args.length-1:=eZ;have O:(W.push (Ap cW)).cS.length=W.cS.length:=tG W _;refine Dq E tb pw PR n _ _ _ 1 0 G' R' H Z v' ?_ (I.push rfl ai) cM (hz▸ir J) (hz▸λv hv=>J v (fK hv)) cM ⟨by have:=xO I.cQ (Ap cW);omega,B.vars,B.dn,B.size,O▸B.cS⟩ (O▸hm) M' (λj q1 q2=>?_) A'
    .rw[aj];cases args with
     |nil=>simp[first,v0]at hg|-;omega
     |cons x l=>simp at hg|-;split<;>omega
    .exfalso
     have ff:(W.push (Ap cW)).fr W.cQ j=(W.co.cy++[Ap cW]).getD j pG:=(tW I.cQ (W.co.cy++[Ap cW]) W.cQ j).trans (cR rfl);have fl:(W.push (Ap cW)).co.cy=W.co.cy++[Ap cW]:=(ga Co.cy (oK I.cQ (W.co.cy++[Ap cW]) W.cQ)).trans (by rw[cR rfl]);rw[fl,dq,dt,dG]at q1;rw[show(W.push (Ap cW)).cQ=W.cQ from rfl,ff,show j=W.co.cy.length by omega,gD]at q2;exact Bool.noConfusion q2
   .rw[cK cM];by_cases n7:m=7
    .subst n7;rw[cR (show((7:Nat):Int)=7 from rfl)];dsimp only;refine go 137 _ rfl (λX=>gA) λX h=>?_;have MX:=M.below h;have AX:=A.below h;have hu:=iR J 1;by_cases h0:(first args).k=7/\(W.cS.getD (first args).n.toNat dE).state=0
     .obtain⟨k7,s0⟩:=h0;have ht:=(ir J).co k7;obtain⟨t,ae⟩:=eX ((first args).n.toNat:Nat);have aa:t<W.cS.length:=by have:W.sz.cs=W.cS.length:=rfl;omega
      have ap:=yv (cW:=cW) I (t:=t) aa (ae▸s0);have O:(iV W t cW).cS.length=W.cS.length:=by simp[iV,St.dW]
      have q:=ur (r:=call p n (iV W t cW) (W.cS.getD t dE).body [args.getD 1 v0] 1) MX E I F J D L AX k7 s0 (λhh G' R' Z v' md M' A'=>by
       rw[<-ae]at hh M' A' s0|-;refine Dq E tb pw PR n (iV W t cW) _ _ 1 0 G' R' H Z v' ?_ (qF I F aa s0 λx=>absurd hh x) cM (by rw[qE];exact(I.body t aa).1) (by rw[qE];exact pY hu) dC ⟨cM,B.vars,B.dn,B.size,by rw[O];exact B.cS⟩ (O▸hm) M' (λj q1 q2=>?_) A'
       .show 3*((iV W t cW).cS.map mC).sum+1+_<=n;split<;>omega
       .exfalso
        have nt:t≠W.cQ:=λe=>by rw[e,I.run]at s0;omega
        have fl:(iV W t cW).co.cy=(W.cS.getD t dE).cy:=by show((iV W t cW).cS.getD t dE).cy=_;rw[tj I.cQ aa nt,cR rfl]
        rw[fl,(I.fresh t aa hh).2]at q1;simp at q1)
      unfold JC at q;rw[<-ae]at q s0|-;rw[cR k7,cR s0]at q|-;exact q
     .have q:=wi (r:=ok W) MX E I F J D L AX h0;unfold JC at q;by_cases k7:(first args).k=7
      .have s0:¬(W.cS.getD (first args).n.toNat dE).state=0:=λe=>h0 ⟨k7,e⟩;rw[cR k7,cK s0]at q|-;exact q
      .rw[cK k7]at q|-;exact q
    .rw[cK cM];have hc:m=0\/m=1\/m=2\/m=3\/m=5\/m=6\/m=8\/m=9:=cM;obtain rfl|rfl|rfl|rfl|rfl|rfl|rfl|rfl:=hc
     .exact go 130 _ rfl (λX=>gA) λX h=>PR W G R H X cW want args v (M.below h) I F J af _ B hm L (A.below h)
     .exact go 131 _ rfl (λX=>gA) λX h=>Pj (M.below h) E I F.1 D L
     .exact go 132 _ rfl (λX=>gA) λX h=>DN (M.below h) E tb pw I F.1 J D L (A.below h)
     .exact go 133 _ rfl (λX=>gA) λX h=>Ju (M.below h) E tb I F.1 J D L (A.below h)
     .exact go 135 _ rfl (λX=>gA) λX h=>Qb (M.below h) (A.below h)
     .exact go 136 _ rfl (λX=>gA) λX h=>KC (M.below h) E I F.1 J D ad L (A.below h)
     .exact go 138 _ rfl (λX=>gA) λX h=>Lv (M.below h) E I F J D L (A.below h)
     .exact go 139 _ rfl (λX=>gA) λX h=>DZ (M.below h) E tb I F.1 J D L (A.below h)
  .rw[cK k6]at hg|-;by_cases k5:f.k=5
   .rw[cR k5];have aq:=hf.fn k5;obtain⟨fn,ah⟩:∃fn:Nat,f.n=fn:=⟨f.n.toNat,cM⟩
    have ac:fn<W.funcs.length:=by have e:W.sz.fs=W.funcs.length:=rfl;omega
    have hc:=I.funcs _ (fA ac);have ec:W.funcs.getD fn (0,[])=W.funcs[fn]:=by simp[cB,ac]
    rw[<-ec]at hc;have ab:=E.jZ.1.2.2.1 _ hc.1;obtain⟨uc,ud,ak,_,_⟩:=M.pm.pc _ hc.1;have t2:eW W (2,fn,0):=⟨ac,rfl⟩
    obtain⟨bc,cc,h2,_⟩:=M.im.eA t2 (M.im.ij _ t2 dC) dC;have p2:ptr (hd R (2,fn,0))=zP bc:=by unfold hd;rw[h2];rfl
    have vf:jX G (hd R) f=.agg #[zI 5,zI (hC G f),.string ⟨f.s.toArray⟩,.iface 140 (zP bc)]:=by rw[<-p2];unfold jX vq dV;rw[k5,cK iM,cR rfl,ah,fh]
    rw[vf,p9,ah,fh];refine Qk (PL _) λX h=>?_;have q:=EV (T:=enter p W fn args cW) I M.gw L (M.im.below h) (cV M.bs h.size) ((A.below h).sub (S1:=eY W G R) λk z=>.inl z) ac cM (np:=(p.cU.getD (W.funcs.getD fn (0,[])).1 gu).params.toNat) (ns:=(p.cU.getD (W.funcs.getD fn (0,[])).1 gu).da.toNat) (uc:=uc) (ud:=ud) (by rw[ak,sC ab.1,sC (Int.le_trans ab.1 ab.2.1)]) (by have:=ab.2.1;omega) (by have:=ab.2.2.1;omega) rfl;rw[p9,p2]at q;refine q.mono ?_;rintro e w' ⟨hx,G',R',i,gw,d,k⟩;obtain⟨m,kk⟩:=(M.below h).gY i gw k rfl rfl rfl;exact⟨G',R',H,m,(Kp.cY h).trans kk,d,hx⟩
   .rw[cK k5];have vf:∃nn s t,jX G (hd R) f=.agg #[zI f.k,zI nn,.string s,t]:=⟨_,_,_,rfl⟩
    obtain⟨nn,s,t,vf⟩:=vf;rw[vf,p9];refine(zm k5 k6).mono ?_;rintro e w' ⟨rfl,b⟩;exact Cz.mW M yY b
def yL:∀l:List (List UInt8),Lib.join l [9]=mE l
 |[]=>rfl
 |[x]=>Lib.join_one x [9]
 |x::y::l=>by have h:=yL (y::l);rw[Lib.join_cons]at h|-;show _=x++9::mE (y::l);rw[<-h];simp[Lib.joinTail]
def Nd{l:List (List UInt8)}(own:w.ownsRow cJ 9 1 (.slice av n cv) n (l.map λs=>Value.string ⟨s.toArray⟩))(E:n=l.length)(L:l.length<=1000)(h:∀s∈l,s.length<=5000):
  zC 171 #[.slice av n cv,.string ⟨#[9]⟩] w (zR w (.string ⟨(mE l).toArray⟩)):=by
 obtain F|F:=DF n
 .subst F;have J:=List.eq_nil_of_length_eq_zero E.symm;subst J;refine(Any.strings_Join_none Tryz.lays156 Tryz.Builder_Extra_156 av cv ⟨#[9]⟩ w).mono ?_;rintro e M ⟨rfl,rfl⟩;exact⟨rfl,cN _ _⟩
 .obtain⟨e,O⟩|⟨g,cap,K,e,hb,hh,q1,q2,q3,q4⟩:=own.2
  .omega
  simp only[de]at e;obtain⟨rfl,-,rfl⟩:=e;have jl:=tD l h;have q:=Any.strings_Join Tryz.lays156 Tryz.Builder_Extra_156 g 0 cv (l.map λs=>(⟨s.toArray⟩:ByteArray)) ⟨#[9]⟩ w (λj x D=>by
   rw[ed]at D;rw[dU,own.cellAt j (by have:=(fG.1 (by rw[<-ed]at D;exact D)).1;rw[dY]at this;omega),ed];cases I:l[j]? with
   |none=>rw[I]at D;cases D
   |some s=>rw[I]at D;cases D;rfl) (own.lt g rfl).2 (by rw[dY];omega) (by rw[dY];omega) (by
   rw[xl,show((λx:ByteArray=>x.data.toList)∘λs:List UInt8=>(⟨s.toArray⟩:ByteArray))=id by funext s;simp,Vp,show(⟨#[9]⟩:ByteArray).data.toList=[9]from rfl,yL];omega)
  rw[xl,show((λx:ByteArray=>x.data.toList)∘λs:List UInt8=>(⟨s.toArray⟩:ByteArray))=id by funext s;simp,Vp,show(⟨#[9]⟩:ByteArray).data.toList=[9]from rfl,yL,dY,<-E]at q;exact q
def Mi.nw(M:Mi w0 p W G R H w){w4:World}(hb:Below w.heap.size w X){u:Value}{nw:List UInt8}(bo:Bo w0.heap.size (λk=>Fs W G R H k\/k<w.heap.size) X u nw){hs:List Value}(P:Pi w0.heap.size (eY W G R) w H.pr hs W.dn)(PA:∀u∈hs,∀b,u.ownBlock=some b->H.er.ownBlock≠some b){D:Option Addr}{E:Nat}(K:H.pr=.slice av n cv)(hn:n=W.dn.length)(hA:sd 29 1 X w0.heap.size av n cv (hs++[u]) D (n+1) E w4)(h9:hd R (9,0,0)=.slice (some ⟨g,0,none⟩) 1 cg):
  ∃R',Mi w0 p {W with dn:=W.dn++[nw]} G R' {H with pr:=.slice D (n+1) E} (w4.setCell ⟨g,46,none⟩ (.slice D (n+1) E))/\hd R'=hd R/\Kp (Fs W G R H) (Fs {W with dn:=W.dn++[nw]} G R' {H with pr:=.slice D (n+1) E}) w (w4.setCell ⟨g,46,none⟩ (.slice D (n+1) E)):=by
 have fg:eY W G R g:=.row (t:=(9,0,0)) rfl (by rw[h9];rfl);have lg:=eY.lt M.im fg;have pb:∀k,H.pr.ownBlock=some k->k<w.heap.size/\¬eY W G R k:=λk e=>⟨(P.own.lt k e).2,P.out k e⟩
 rw[K]at pb;have nb:∀k,(Value.slice D (n+1) E).ownBlock=some k->(Value.slice av n cv).ownBlock=some k\/X.heap.size<=k:=λk e=>by
  obtain⟨e1,e2⟩|⟨q,e1,e2⟩:=hA.qA
  .refine .inl ?_;rw[e1]at e;cases av with
   |none=>cases e
   |some a=>exact e
  .rw[e1]at e;have e:q=k:=by simpa[Value.ownBlock]using e
   subst e;obtain z|z:=e2
   .exact .inl z
   .exact .inr cM
 have sX:=hb.size;have s4:=hA.jz.size;have I:∀k,k<X.heap.size->(Value.slice av n cv).ownBlock≠some k->w4.heap[k]?=X.heap[k]?:=λk F q=>hA.jz.block k F (λe=>q e.symm);have J:∀k,k<X.heap.size->(Value.slice av n cv).ownBlock≠some k->k≠g->(w4.setCell (zA g 46) (.slice D (n+1) E)).heap[k]?=X.heap[k]?:=λk F q e=>by rw[cZ _ (zA g 46) _ k e];exact I k F q
 have i4:=(M.im.below hb).heap λk F=>I k (dj (eY.lt M.im F) sX) λe=>(pb k e).2 F;obtain⟨R',i5,d5,_⟩:=i4.m9 (V:={W with dn:=W.dn++[nw]}) (H':={H with pr:=.slice D (n+1) E}) (j:=46) (u:=.slice D (n+1) E) rfl rfl rfl rfl rfl h9 rfl;have fe:∀k,eY {W with dn:=W.dn++[nw]} G R' k->eY W G R k:=λk F=>eY.eq (λ_ h=>h) d5 rfl rfl F;have out:∀k,k<w.heap.size->¬Fs W G R H k->¬Fs {W with dn:=W.dn++[nw]} G R' {H with pr:=.slice D (n+1) E} k:=λk F q h=>by
  obtain z|z:=h
  .exact q (.inl (fe k z))
  .obtain y|y:=nb k z
   .exact q (.inr (K▸y))
   .omega
 have kk:Kp (Fs W G R H) (Fs {W with dn:=W.dn++[nw]} G R' {H with pr:=.slice D (n+1) E}) w (w4.setCell (zA g 46) (.slice D (n+1) E)):=by
  refine⟨hA.jz.os.trans hb.os,hA.jz.tape.trans hb.tape,hA.jz.output.trans hb.output,?_,λk F q=>?_,λk F q=>out k F q⟩
  .simp[World.setCell];omega
  .exact(J k cM (λe=>q (.inr (K▸e))) (λe=>q (.inl (e▸fg)))).trans (hb.block k F)
 refine⟨R',⟨i5,M.mV.trans (kk.below M.mV.size λk F=>?_),M.gw.pF rfl rfl rfl (λ_=>rfl) (λ_=>⟨rfl,rfl,rfl,rfl⟩) (λ_ _=>⟨rfl,rfl⟩) (λ_ _ _=>⟨rfl,rfl⟩),⟨M.pm.ps,M.pm.l4,M.pm.pc⟩,(M.ks.kept kk).re λx L=>?_,M.ins,⟨hs++[u],?_,λx L b e e2=>?_⟩,M.er.kept kk⟩,d5,kk⟩
 .obtain z|z:=F
  .exact eY.from M.im z
  .exact(P.own.lt k z).1
 .obtain⟨c,_,rfl⟩:=jj.1 L;exact sI c _ _ _ _
 .have ln:(W.dn++[nw]).length=n+1:=by rw[dq,hn];rfl
  have lh:hs.length=n:=by have:=P.own.1;rw[hn];omega
  have nF:∀k,(Value.slice D (n+1) E).ownBlock=some k->¬eY {W with dn:=W.dn++[nw]} G R' k:=λk e h=>by
   obtain y|y:=nb k e
   .exact(pb k y).2 (fe k h)
   .have:=eY.lt M.im (fe k h);omega
  have O:∀(v:Value)(s:List UInt8)(S:Nat->Prop),Bo w0.heap.size S X v s->(∀k,k=g->S k)->(∀k,(Value.slice av n cv).ownBlock=some k->S k)->(∀k,eY W G R k->S k)->Bo w0.heap.size (λk=>eY {W with dn:=W.dn++[nw]} G R' k\/(Value.slice D (n+1) E).ownBlock=some k) (w4.setCell (zA g 46) (.slice D (n+1) E)) v s:=λv s S h s1 s2 s3=>by
   obtain h|⟨b,cap,aa,fz,h1,h2,h3,h4,h5⟩:=h
   .exact .inl h
   .have bl:=gC h4;refine .inr ⟨b,cap,aa,fz,h1,h2,λq=>?_,(J b bl (λe=>h3 (s2 b e)) (λe=>h3 (s1 b e))).trans h4,h5⟩;obtain z|z:=q
    .exact h3 (s3 b (fe b z))
    .obtain y|y:=nb b z
     .exact h3 (s2 b y)
     .omega
  refine⟨?_,nF,λi hi=>?_,λi j x y b ad L hy e e'=>?_⟩
  .rw[ln];refine jm hA.own λk e=>cZ _ (zA g 46) _ k λq=>?_;have q:=q;subst q;obtain y|y:=nb _ e
   .exact(pb _ y).2 fg
   .omega
  .rw[ln]at hi;by_cases l:i<n
   .obtain⟨x,L,ab⟩:=P.eA i cM;refine⟨x,by rw[fH cM];exact L,?_⟩;rw[iL _ _ _ _ cM];refine O x _ (λk=>eY W G R k\/H.pr.ownBlock=some k) (ab.kept (Kp.cY hb)) (λk e=>.inl (e▸fg)) (λk e=>.inr (K▸e)) λk h=>.inl h
   .have this:i=n:=cM;have gl:(W.dn++[nw]).getD i []=nw:=this▸hn▸gD _ _ _;rw[gl];subst this;refine⟨u,by rw[fB cM,lh,qv];rfl,?_⟩;refine O u _ _ bo (λk e=>.inr cM) (λk e=>.inr (pb k e).1) λk h=>.inl (.inl h)
  .have jl:j<n+1:=by
    have:=(fG.1 hy).1;rw[dq,lh]at this;simpa using this
   rw[fH cM]at L;by_cases l:j<n
   .rw[fH cM]at hy;exact P.apart i j x y b ad L hy e e'
   .have:j=n:=cM;subst this;rw[fB cM,lh,qv]at hy;have:u=y:=by simpa using hy
    subst this;obtain⟨x',ac,ab⟩:=P.eA i cM;rw[L]at ac;cases ac;have b1:b<w.heap.size:=by
     obtain⟨z,_⟩|⟨b2,cap,aa,fz,h1,h2,h3,h4,h5⟩:=ab
     .rw[z]at e;cases e
     .rw[h1]at e;have e:b2=b:=by simpa[Value.ownBlock]using e
      subst e;exact gC h4
    obtain⟨z,_⟩|⟨b2,cap,aa,fz,h1,h2,h3,h4,h5⟩:=bo
    .rw[z]at e';cases e'
    .rw[h1]at e';have e':b2=b:=by simpa[Value.ownBlock]using e'
     subst e';exact h3 (.inr b1)
 .obtain q|q:=gI.1 L
  .exact PA x q b e e2
  .have:x=u:=by simpa using q
   subst this;exact(bo.lt e).2.2 (.inr (M.er.lt e2).2.1)
def Od(l:List UInt8)(E:l.length<=9223372036854775807)(F:cJ<=w.heap.size)(I:∀k,S k->k<w.heap.size):Bo cJ S (Lib.bytesWorld w 5 ⟨l.toArray⟩) (.slice (some ⟨w.heap.size,0,none⟩) l.length (grownCap w l.length 0 5)) l:=by
 have J:(⟨l.toArray⟩:ByteArray).size=l.length:=by simp[ByteArray.size]
 have K:=grownCap_ge w l.length 0 5;have D:(Lib.bytesCells w 5 ⟨l.toArray⟩).size=grownCap w l.length 0 5:=by unfold Lib.bytesCells;rw[J,Array.size_append,Array.size_map,Array.size_replicate];show l.toArray.size+_=_;rw[qw];omega
 refine .inr ⟨w.heap.size,_,_,_,rfl,F,λh=>gE _ (I _ h),Lib.bytesWorld_at_new w 5 ⟨l.toArray⟩,.inr (by rw[D]),K,grownCap_le_maxLen _ _ _ _ E,D,?_⟩;unfold Lib.bytesCells;rw[Array.toList_append,List.take_append_of_le_length dC];rw[W9,iI dC];unfold jh qP;rw[xl];rfl
def wF(w:World)(s:ByteArray):Below w.heap.size w (Lib.bytesWorld w 5 s):=
 ⟨rfl,rfl,rfl,by rw[Lib.bytesWorld_size];omega,λj h=>Lib.bytesWorld_at_old w 5 s j h⟩
def Nh:(Tryz.prog.info? 9).map (λi=>(i.zero,i.size,i.bytes))=some (some (.string ⟨#[]⟩),1,16):=gA
def MC(M:Mi w0 p W G R H w)(E:mz p Hs)(tb:Tb w0)(pw:Pw w0)(I:Iv p Hs W cW)(hp:0<=cW)(hv:∀x∈args,gG W.sz x)(an:args.length<=1000)(ap:ft W<=1000000000000)(aD:W.size<=100000)(aE:W.dn.length<=1000000000)(hw:Wt W cW want)(A:Av (Fs W G R H) w G (hd R) v args):
  Calls Tryz.prog 130 #[ptr (hd R (9,0,0)),v,.int .i64 want] w (Cz w0 p W G R H w (plain W 0 args cW)):=by
 obtain⟨g,cg,h9,c9,f9,_⟩:=M.im.mP;have p9:ptr (hd R (9,0,0))=zP g:=by rw[h9];rfl
 obtain⟨i0,aF,aG,aH,aI⟩:=fQ Nh;obtain⟨ao,cap,rfl,a1,a2,a3⟩:=id A;obtain⟨n,hn⟩:=eX args.length;rw[p9,<-hn];rw[<-hn]at an a1;obtain⟨J,hJ⟩:=eX (λk K L wr=>Below w.heap.size w wr/\wr.ownsRow w.heap.size 9 1 (.slice K k L) k (((args.take k).map jY).map λs=>Value.string ⟨s.toArray⟩):Nat->Option Addr->Nat->World->Prop);have J0:Hid (J 0 none 0 w):=hJ▸⟨cN _ _,fD _ _ _ _⟩;have JK:Hid (∀k K L wr,J k K L wr->k<n->∃b off kx ix sx tx ss us,ao=some (zA b off)/\Tg tx/\wr.cell? (zA b (off+k*4))=some (zI kx)/\wr.cell? (zA b (off+k*4+1))=some (zI ix)/\wr.cell? (zA b (off+k*4+2))=some (.string sx)/\wr.cell? (zA b (off+k*4+3))=some tx/\(∀X,Below wr.heap.size wr X->X.ownsRow w.heap.size 9 1 (.slice K k L) k us/\w.heap.size<=X.heap.size/\Calls Tryz.prog 146 #[.agg #[zI kx,zI ix,.string sx,tx]] X λe w'=>e=.returned (.string ss)/\Below X.heap.size X w')/\∀X ae af w',Below wr.heap.size wr X->sd 9 1 X w.heap.size K k L (us++[.string ss]) ae (k+1) af w'->J (k+1) ae af w'):=λk K L wr j hk=>by
  rw[hJ]at j;obtain⟨b,off,e,_,hc⟩:=a3 cM;obtain⟨x,hx⟩:=eX (args.getD k v0);have xo:gG W.sz x:=hx▸iR hv k;have cc:∀r u,(vi G (hd R) x)[r]?=some u->wr.cell? (zA b (off+k*4+r))=some u:=λr u q=>di (hc k r u cM (by rw[<-hx];exact q)) j.1;refine⟨b,off,x.k,hC G x,⟨x.s.toArray⟩,dV (hd R) x,⟨(jY x).toArray⟩,_,e,gm _ _,cc 0 _ rfl,cc 1 _ rfl,cc 2 _ rfl,cc 3 _ rfl,λX hX=>⟨jm j.2 λq hq=>hX.block q (j.2.lt q hq).2,cV j.1.size hX.size,?_⟩,λX ae af w' hX hA=>?_⟩
  .have B:=M.mV.trans ((j.1.trans (hX.mono j.1.size)).mono M.mV.size);have q:=oX (w:=X) (G:=G) (Z:=hd R) xo (tb.up B) (Lib.tabBelow_of_tabIs pw X B);unfold jX vq at q;exact q
  .rw[hJ];refine⟨(j.1.trans (hX.mono j.1.size)).grown hA.jz (cV j.1.size hX.size) (λq hq=>(j.2.lt q hq).1),?_⟩;have:=hA.own;rw[show(args.take (k+1)).map jY=(args.take k).map jY++[jY x] by
    rw[mm cM,gX,hx,cB,cG cM];rfl,gX]
   exact this
 have n1:(n:Int)<=1000:=cM;have n2:=a1;obtain⟨nw,F⟩:∃l,l=mE (args.map jY):=⟨_,rfl⟩
 obtain⟨D,ab⟩:∃l,l=nw.length:=⟨_,rfl⟩
 obtain⟨LS,ag⟩:∃b:ByteArray,b=⟨nw.toArray⟩:=⟨_,rfl⟩
 have aJ:LS.size=D:=by rw[ag,ab];simp[ByteArray.size]
 have so:∀q∈args.map jY,q.length<=5000:=λq hq=>by obtain⟨x,hx,rfl⟩:=jj.1 hq;exact mM (hv x hx)
 have lb:D<=5001000:=by have:=tD (args.map jY) so;rw[dY,<-hn]at this;rw[ab,F];omega
 have JO:Hid (∀K L wr,J n K L wr->Calls Tryz.prog 171 #[.slice K n L,.string ⟨#[9]⟩] wr λe w'=>e=.returned (.string LS)/\Below w.heap.size w w'):=λK L wr j=>by rw[hJ]at j;rw[hn,qR,<-hn]at j;refine(Nd j.2 (by rw[dY,hn]) (by rw[dY,<-hn];exact an) so).mono ?_;rintro e w' ⟨rfl,b⟩;exact⟨by rw[ag,F],j.1.trans (b.mono j.1.size)⟩
 have e0:plain W 0 args cW=if 100000<W.size+nw.length then mW W Aq else ok (gv {W with size:=W.size+nw.length,dn:=W.dn++[nw]} [] cW):=by rw[F];rfl
 rw[e0,<-ab];have FI:=cO (λX (hX:Below w.heap.size w X)=>Cz.mW M Aq hX);have RA:=cO (λX=>jR (w:=X) ⟨Aq.toArray⟩);unfold vq at RA;have CE:Hid (∀X,Below w.heap.size w X->X.cell? (zA g 43)=some (zI W.size)/\X.frozen? (zA g 43)=false):=λX hX=>⟨di (c9 43 _ rfl) hX,(dA (a:=(zA g 43)) (hX.block g (dy _ _ (c9 43 _ rfl)))).trans (f9 43)⟩
 obtain⟨r8,ac⟩:∃r:mX,r=ok (gv {W with size:=W.size+D,dn:=W.dn++[nw]} [] cW):=⟨_,rfl⟩
 rw[<-ac];have RT:Hid (∀e X,Cz w0 p W G R H w r8 e X->∃x,e=.returned x):=λe X h=>by rw[ac]at h;exact h.ret
 have RE:Hid (∀e X y,Cz w0 p W G R H w r8 e X->Cz w0 p W G R H w r8 (.returned y) X):=λe X y h=>by rw[ac]at h|-;exact h.re y
 obtain⟨pn,ad⟩:∃q,q=W.dn.length:=⟨_,rfl⟩
 have aK:∃pa pc,H.pr=.slice pa pn pc:=by
  obtain⟨_,P,_⟩:=M.pr;obtain⟨e,z⟩|⟨g',aO,aQ,e,_⟩:=P.own.2
  .exact⟨none,0,by rw[e,ad,z]⟩
  .exact⟨_,_,by rw[e,ad]⟩
 obtain⟨pa,pc,aa⟩:=aK;have GO:Hid (∀X,Below w.heap.size w X->(X.setCell (zA g 43) (zI ((W.size+D:Nat):Int))).cell? (zA g 46)=some (.slice pa pn pc)/\∃hs,∀Y,Y=Lib.bytesWorld (X.setCell (zA g 43) (zI ((W.size+D:Nat):Int))) 5 LS->(Y.alloc (.cells #[.slice (some ⟨(X.setCell (zA g 43) (zI ((W.size+D:Nat):Int))).heap.size,0,none⟩) D (grownCap (X.setCell (zA g 43) (zI ((W.size+D:Nat):Int))) D 0 5)] 29)).ownsRow w0.heap.size 29 1 (.slice pa pn pc) pn hs/\w0.heap.size<=(Y.alloc (.cells #[.slice (some ⟨(X.setCell (zA g 43) (zI ((W.size+D:Nat):Int))).heap.size,0,none⟩) D (grownCap (X.setCell (zA g 43) (zI ((W.size+D:Nat):Int))) D 0 5)] 29)).heap.size/\∀ah ai w7,sd 29 1 (Y.alloc (.cells #[.slice (some ⟨(X.setCell (zA g 43) (zI ((W.size+D:Nat):Int))).heap.size,0,none⟩) D (grownCap (X.setCell (zA g 43) (zI ((W.size+D:Nat):Int))) D 0 5)] 29)) w0.heap.size pa pn pc (hs++[.slice (some ⟨(X.setCell (zA g 43) (zI ((W.size+D:Nat):Int))).heap.size,0,none⟩) D (grownCap (X.setCell (zA g 43) (zI ((W.size+D:Nat):Int))) D 0 5)]) ah (pn+1) ai w7->w7.cell? (zA g 46)=some (.slice pa pn pc)/\w7.frozen? (zA g 46)=false/\Calls Tryz.prog 142 #[zP g,zN,zI want] (w7.setCell (zA g 46) (.slice ah (pn+1) ai)) (Cz w0 p W G R H w r8)):=λX hX=>by
  obtain⟨R1,M1,d1,k1⟩:=(M.below hX).m9 (V:={W with size:=W.size+D}) (H':=H) rfl rfl rfl rfl rfl rfl rfl rfl rfl rfl rfl M.ins h9 (j:=43) (u:=zI ((W.size+D:Nat):Int)) rfl;generalize X.setCell (zA g 43) (zI ((W.size+D:Nat):Int))=O at M1 k1|-;have aq:hd R1 (9,0,0)=zS g 1 cg:=d1▸h9;obtain⟨g',aR,ar,c5,f5,fg⟩:=M1.im.mP;rw[aq]at ar;cases ar;obtain⟨hs,P,PA⟩:=M1.pr;refine⟨by rw[<-aa];exact c5 46 _ rfl,hs,λY hY=>?_⟩;have bY:Below O.heap.size O Y:=by rw[hY];exact wF _ _
  generalize aL:grownCap O D 0 5=cp;have bZ:=bY.alloc bY.size (.cells #[zS O.heap.size D cp] 29);have ow:O.ownsRow w0.heap.size 29 1 (.slice pa pn pc) pn hs:=by rw[<-aa,ad];exact P.own
  refine⟨jm ow λk e=>bZ.block k (ow.lt k e).2,cV M1.bs bZ.size,λah ai w7 hA=>?_⟩;have bo:Bo w0.heap.size (λk=>Fs {W with size:=W.size+D} G R1 H k\/k<O.heap.size) Y (zS O.heap.size D cp) nw:=by have q:=Od (w:=O) (S:=λk=>Fs {W with size:=W.size+D} G R1 H k\/k<O.heap.size) (cJ:=w0.heap.size) nw cM M1.bs (λk hk=>hk.elim (λz=>Fs.lt M1 z) id);rw[<-ab,aL,<-ag,<-hY]at q;exact q
  have ng:(Value.slice pa pn pc).ownBlock≠some g:=λe=>P.out g (aa▸e) fg;have lg:=eY.lt M1.im fg;have au:=(hA.jz.block g (dj lg bZ.size) (λe=>ng e.symm)).trans (bZ.block g lg);obtain⟨R2,M2,d2,k2⟩:=M1.nw bZ (bo.kept (Kp.cY (ba))) P PA aa ad hA aq;refine⟨?_,(dA (a:=(zA g 46)) au).trans (f5 46),?_⟩
  .rw[dK (a:=(zA g 46)) au,<-aa];exact c5 46 _ rfl
  .have gg:=M2.sA (want:=want) E (I.data rfl rfl ⟨cE _,cE _,gS _,cE _⟩ I.vars I.tables I.funcs I.ins) hp (l:=[]) (λx hx=>absurd hx dC) ap hw (v:=zN) ⟨none,0,rfl,cE _,cM,λq=>absurd q dC⟩;rw[d2,d1,p9]at gg;rw[ac];exact gg.mono λe w' cz=>cz.from (((Kp.cY hX).trans k1).trans k2) (by rw[d2,d1])
 obtain⟨rr,al⟩:∃r:mX,r=if 100000<W.size+D then mW W Aq else r8:=⟨_,rfl⟩
 rw[<-al];have HR:=cO al;obtain⟨ib,aw,ax,ay,az⟩:=fQ I9;have KV:=λX=>Lib.run_convert_string_bytes (P:=Tryz.prog) X 9 29 5 LS ji ie jJ;rw[aJ]at KV;have KW:=cO KV;unfold Aq at RA FI;have aM:(W.size:Int)<=100000:=cM;have pl:pn<=1000000000:=cM;have aS:(D:Int)<=5001000:=cM;obtain⟨sz,aj⟩:∃q,q=W.size:=⟨_,rfl⟩
 rw[<-aj]at HR CE GO aM;clear al KV e0 so F ab ag ac aa ad aj;clear M E tb pw I hp hv ap aD aE hw A h9 c9 f9 p9 a1 a2 a3 hn hJ;go_enter func130,ntmps130;go_wp2;go_loopw[6,12] (λu x wr=>∃k:Nat,k<=n/\x=zI (k:Int)/\∃K L,u=.slice K k L/\Hid (J k K L wr)) (λ_ x _=>n-(intOf x).toNat)
 case atStart=>exact⟨0,dM _,rfl,none,0,rfl,J0⟩
 case round=>
  obtain⟨k,hk,rfl,K,L,rfl,am⟩:=hrel;by_cases aA:k<n
  .have aP:(k:Int)<(n:Int):=cM;obtain⟨b,off,kx,ix,sx,tx,ss,us,rfl,aB,e0,e1,e2,e3,SP,NX⟩:=JK _ _ _ _ am aA;have ts:=aB.store;replace SP:=cO SP;replace NX:=cO NX;clear aB;go_wp2_with(first
    |(go_at_call 146;refine cA (SP _ (ba)).2.2 ?_;rintro e w6 ⟨rfl,b6⟩;have B6:=cO (((cN wr.heap.size wr).alloc (cE _) (.cells #[zI kx,zI ix,.string sx,tx] 132)).trans (b6.mono dC));clear b6)
    |(refine eI rfl _ _ _ rfl 9 i0 (zT) 1 16 underlying171 aF aG aH aI rfl cM w.heap.size K k L us rfl (SP _ (B6.out.alloc B6.out.size _)).1 (some (zA w6.heap.size 0)) 1 1 [.string ss] rfl rfl (λ_=>⟨_,rfl,λj u hu=>by rw[iK,dU];exact Lc.cell (S:=λ_=>False) (cs:=#[.string ss]) ⟨λh=>h,dJ w6 _⟩ (by simpa using hu)⟩) (by intro u hu;simp only[eQ,eh,iw]at hu;rw[hu];rfl) (by unfold maxLen;omega) cM (SP.out _ (B6.out.alloc B6.out.size _)).2.1 ?_;intro ae af w7 hA;have J7:=cO (NX.out _ _ _ _ (B6.out.alloc B6.out.size _) hA);clear hA))
   go_roundw
   case rel=>exact⟨k+1,cM,l9,_,_,rfl,J7⟩
   case measure=>simp[intOf];omega
  .obtain rfl:k=n:=cM;have J1:=cO (JO _ _ _ am);clear JK J0 am JO aA;by_cases ak:100000<sz+D
   .rw[cR ak]at HR;have aN:(100000:Int)<(sz:Int)+(D:Int):=cM;go_wp2_with(first
     |(go_at_call 171;refine cA J1 ?_;rintro e w6 ⟨rfl,b6⟩;have B6:=cO b6;have s6:=(CE _ b6).1;clear b6)
     |(go_at_call 164;refine cA (RA _) ?_;rintro e w7 ⟨rfl,b7⟩;have B7:=cO (B6.trans (b7.mono B6.out.size));clear b7))
    exact⟨rfl,by rw[HR.out];exact FI.out _ B7.out⟩
   .rw[cK ak]at HR;have aN:¬(100000:Int)<(sz:Int)+(D:Int):=cM;go_upto_region 10 with(first
     |(go_at_call 171;refine cA J1.out ?_;rintro e w6 ⟨rfl,b6⟩;have G6:=cO (GO.out _ b6);obtain⟨s6,z6⟩:=CE.out _ b6;clear b6))
    refine dx λO aC=>?_;rw[show((sz+D:Nat):Int)=(sz:Int)+(D:Int)from Int.natCast_add _ _,<-aC]at G6;obtain⟨aT,hs,GY⟩:=G6.out;have KV:=KW.out O;have GZ:=cO (GY _ rfl);clear GY G6 aC s6 z6 KW GO CE;generalize grownCap O D 0 5=cp at KV GZ;generalize Lib.bytesWorld O 5 LS=Y at KV GZ;go_wp2_with(first
     |(refine eI rfl _ _ _ rfl 29 ib (zN) 1 24 qu aw ax ay az rfl cM w0.heap.size pa pn pc hs rfl GZ.out.1 (some (zA Y.heap.size 0)) 1 1 [zS O.heap.size D cp] rfl rfl (λ_=>⟨_,rfl,λj u hu=>by rw[iK,dU];exact Lc.cell (S:=λ_=>False) (cs:=#[zS O.heap.size D cp]) ⟨λh=>h,dJ Y _⟩ (by simpa using hu)⟩) (by intro u hu;simp only[eQ,eh,iw]at hu;rw[hu];rfl) (by unfold maxLen;omega) cM GZ.out.2.1 ?_;intro ah ai w7 hA;obtain⟨q1,q2,q3⟩:=GZ.out.2.2 _ _ _ hA;have G7:=cO q3;clear hA q3)
     |(go_at_call 142;refine cA G7.out ?_;intro e w8 c8;obtain⟨x8,rfl⟩:=RT.out _ _ c8;have C8:=cO c8;clear c8))
    go_returns;rw[HR];exact RE _ _ _ C8
end im
end Go.Proofs.YtfpkdfeakanlpaaGreatDoor
