import Derived.Test.YtfpkdfeakanlpaaGreatDoorLaid
import Derived.Test.YtfpkdfeakanlpaaGreatDoorMImEntC
set_option linter.all false
set_option maxRecDepth 100000
set_option maxHeartbeats 8000000
namespace Go.Proofs.YtfpkdfeakanlpaaGreatDoor
open Go.Proofs.Tryz
namespace im
open RowKit bts pg rn chk
variable{e:Ending}{G G':Gh}{H H':Hi}{cW want:Int}{l:List UInt8}{hs:List Value}{args:List Vl}{cJ:Nat}{Hs:Nat→List Int}{S S1:Nat→Prop}{p:Pg}{V W:St}{R R' R0:eO→fW}{u v:Value}{x:Vl}{X Y w w' w0 w1:World}
section
variable{l:List Vl}
def Bo(cJ:Nat)(S:Nat->Prop)(w:World)(u:Value)(l:List UInt8):Prop:=
 (u=.slice none 0 0/\l=[])\/∃g cap cur fz,u=.slice (some ⟨g,0,none⟩) l.length cap/\cJ<=g/\¬S g/\w.heap[g]?=some (.cells cur 5 fz)/\(fz=(0,0)\/fz=(cap,cap+1))/\l.length<=cap/\cap<=maxLen/\cur.size=cap/\cur.toList.take l.length=jh (qP l)
def Bo.kept{l:List UInt8}(h:Bo cJ S w u l)(F:Kp S S1 w w1):Bo cJ S1 w1 u l:=by
 obtain h|⟨g,cap,D,J,K,L,I,E,M⟩:=h
 .exact .inl h
 .exact .inr ⟨g,cap,D,J,K,L,F.out g (gC E) I,(F.kg g (gC E) I).trans E,M⟩
structure Pi(cJ:Nat)(S:Nat→Prop)(w:World)(v:Value)(hs:List Value)(l:List (List UInt8)):Prop where
 own:w.ownsRow cJ 29 1 v l.length hs
 out:∀k,v.ownBlock=some k→¬S k
 eA:∀i,i<l.length→∃u,hs[i]?=some u∧Bo cJ (fun k=>S k∨v.ownBlock=some k) w u (l.getD i [])
 apart:∀(i j:Nat)(u u':Value)(b:Nat),i<j→hs[i]?=some u→hs[j]?=some u'→u.ownBlock=some b→u'.ownBlock≠some b
def Pi.kept{l:List (List UInt8)}(h:Pi cJ S w v hs l)(D:Kp S S1 w w1):Pi cJ S1 w1 v hs l:=
 ⟨jm h.own λk e=>D.kg k (h.own.lt k e).2 (h.out k e),λk e=>D.out k (h.own.lt k e).2 (h.out k e),λi E=>(h.eA i E).imp λu q=>⟨q.1,q.2.kept (D.ee _)⟩,h.apart⟩
def Bo.sub{l:List UInt8}(h:Bo cJ S w u l)(hs:∀k,S1 k->S k):Bo cJ S1 w u l:=
 h.imp id λ⟨g,cap,D,E,F,I,J,K⟩=>⟨g,cap,D,E,F,I,λq=>J (hs g q),K⟩
def Bo.lt{l:List UInt8}(h:Bo cJ S w u l){b:Nat}(e:u.ownBlock=some b):cJ<=b/\b<w.heap.size/\¬S b:=by
 obtain⟨z,_⟩|⟨g,cap,D,K,E,F,I,J,_⟩:=h
 .rw[z]at e;cases e
 .rw[E]at e;have e:g=b:=by simpa[Value.ownBlock]using e
  subst e;exact⟨F,gC J,I⟩
def Pi.nw{l:List (List UInt8)}(h:Pi cJ S w v hs l)(E:u∈hs):∃i,i<l.length/\hs[i]?=some u/\Bo cJ (λk=>S k\/v.ownBlock=some k) w u (l.getD i []):=by obtain⟨i,D,rfl⟩:=gM E;have:=h.own.1;obtain⟨u,e,q⟩:=h.eA i cM;rw[cG D]at e;cases e;exact⟨i,cM,cG D,q⟩
def Fs(W:St)(G:Gh)(R:eO->fW)(H:Hi)(k:Nat):Prop:=eY W G R k\/H.pr.ownBlock=some k
structure Pm(w0:World)(p:Pg)(H:Hi):Prop where
 ps:∃pb po cap,H.ps=.slice (some ⟨pb,po,none⟩) p.cU.length cap∧p.cU.length≤9223372036854775807∧∀i,i<p.cU.length→∀j u,(H.pc i)[j]?=some u→w0.cell? ⟨pb,po+i*4+j,none⟩=some u
 l4:∀q,(H.pc q).length=4
 pc:∀i,i<p.cU.length→∃uc ud,H.pc i=[.int .i64 (p.cU.getD i gu).params,.int .i64 (p.cU.getD i gu).da,uc,ud]∧qk w0 uc (p.cU.getD i gu).fP∧qO w0 ud (p.cU.getD i gu).dw
structure Mi(w0:World)(p:Pg)(W:St)(G:Gh)(R:eO→fW)(H:Hi)(w:World):Prop where
 im:Im w0.heap.size W G R H w
 mV:Below w0.heap.size w0 w
 gw:Gw W G
 pm:Pm w0 p H
 ks:Av (Fs W G R H) w G (hd R) H.ks (p.dv.map iU)
 ins:nP w0 H.ins W.ins
 pr:∃hs,Pi w0.heap.size (eY W G R) w H.pr hs W.dn∧∀u∈hs,∀b,u.ownBlock=some b→H.er.ownBlock≠some b
 er:Bo w0.heap.size (Fs W G R H) w H.er W.lu
def eY.from(h:Im cJ W G R H w){k:Nat}(D:eY W G R k):cJ<=k:=by
 obtain⟨t,E,e⟩|⟨i,F,rfl⟩:=D
 .exact((h.eH.own t E).lt k e).1
 .exact(h.pZ i F).2.1
def sI(c:Cn)(G G':Gh)(Z Z':eO->Value):vi G' Z' (iU c)=vi G Z (iU c):=by unfold iU;split<;>rfl
def Mi.gY(M:Mi w0 p W G R H w)(i:Im w0.heap.size V G' R' H w1)(g:Gw V G')(k:Kp (eY W G R) (eY V G' R') w w1)(D:V.ins=W.ins)(E:V.dn=W.dn)(F:V.lu=W.lu):Mi w0 p V G' R' H w1/\Kp (Fs W G R H) (Fs V G' R' H) w w1:=by
 have h:Kp (Fs W G R H) (Fs V G' R' H) w w1:=k.ee _;refine⟨⟨i,M.mV.trans (k.below M.mV.size λk I=>eY.from M.im I),g,M.pm,(M.ks.kept h).re λx J=>?_,D▸M.ins,?_,F▸M.er.kept h⟩,h⟩
 .obtain⟨c,_,rfl⟩:=jj.1 J;exact sI c _ _ _ _
 .obtain⟨K,q,a⟩:=M.pr;exact⟨K,E▸q.kept k,a⟩
def Mi.below(M:Mi w0 p W G R H w)(h:Below w.heap.size w w1):Mi w0 p W G R H w1:=(M.gY (M.im.below h) M.gw (Kp.cY h) rfl rfl rfl).1
def Mi.bs(M:Mi w0 p W G R H w):w0.heap.size<=w.heap.size:=M.mV.size
def Cz(w0:World)(p:Pg)(W:St)(G:Gh)(R:eO->fW)(H:Hi)(w:World)(r:mX)(e:Ending)(w':World):Prop:=
 ∃G' R' H',Mi w0 p r.1 G' R' H' w'/\Kp (Fs W G R H) (Fs r.1 G' R' H') w w'/\hd R' (9,0,0)=hd R (9,0,0)/\(match r.2 with|none=>∃x,e=.returned x|some x=>e=.panicked (BM (jX G' (hd R') x)))
def Cz.from{r:mX}(h:Cz w0 p V G' R' H' w1 r e w')(k:Kp (Fs W G R H) (Fs V G' R' H') w w1)(d:hd R' (9,0,0)=hd R (9,0,0)):Cz w0 p W G R H w r e w':=by obtain⟨D,E,F,m,I,J,q⟩:=h;exact⟨D,E,F,m,k.trans I,J.trans d,q⟩
def Cz.ret(h:Cz w0 p W G R H w (ok V) e w'):∃x,e=.returned x:=by obtain⟨_,_,_,_,_,_,q⟩:=h;exact q
def Cz.re(h:Cz w0 p W G R H w (ok V) e w')(y:Value):Cz w0 p W G R H w (ok V) (.returned y) w':=by obtain⟨a,b,c,d,f,g,_⟩:=h;exact⟨a,b,c,d,f,g,y,rfl⟩
def Cz.mW(M:Mi w0 p W G R H w)(s:List UInt8)(h:Below w.heap.size w w1):Cz w0 p W G R H w (mW W s) (.panicked (BM (vq 3 0 ⟨s.toArray⟩ .nilIface))) w1:=
 ⟨G,R,H,M.below h,Kp.cY h,rfl,rfl⟩
def Mi.sA(M:Mi w0 p W G R H w)(E:mz p Hs)(I:Iv p Hs W cW)(D:0<=cW)(F:∀x∈l,gG W.sz x)(h:ft W<=1000000000000)(J:Wt W cW want)(A:Av (eY W G R) w G (hd R) v l):
  zC 142 #[ptr (hd R (9,0,0)),v,zI want] w (Cz w0 p W G R H w (ok (gv W l cW))):=by
 refine(PX E I D F h M.gw J M.im M.bs A).mono ?_;rintro e O ⟨K,R',i,g,d,k⟩;obtain⟨m,L⟩:=M.gY i g k (mr _ _ _).1 (mr _ _ _).2 (pC _ _ _);exact⟨G,R',H,m,L,d (9,0,0) dC dC,K⟩
def Av.sub{Z:eO->Value}(h:Av S w G Z v l)(hs:∀k,S1 k->S k):Av S1 w G Z v l:=by obtain⟨D,cap,e,E,F,I⟩:=h;exact⟨D,cap,e,E,F,λq=>let ⟨b,off,e,n,J⟩:=I q;⟨b,off,e,λh=>n (hs _ h),J⟩⟩
def Mi.Ba(M:Mi w0 p W G R H w)(E:mz p Hs)(I:Iv p Hs W cW)(F:0<=cW)(J:gG W.sz x)(h:ft W<=1000000000000)(K:Wt W cW want)(D:zB w Y):
  zC 142 #[ptr (hd R (9,0,0)),zS Y.heap.size 1 1,zI want] (Y.alloc (.cells #[zI x.k,zI (hC G x),.string ⟨x.s.toArray⟩,dV (hd R) x] 132)) (Cz w0 p W G R H w (ok (gv W [x] cW))):=by
 have B:=D.trans (((cN Y.heap.size Y).alloc (cE _) (.cells #[zI x.k,zI (hC G x),.string ⟨x.s.toArray⟩,dV (hd R) x] 132)).mono D.size);refine((M.below B).sA E I F (pY J) h K (Av.lit (G:=G) (Z:=hd R) (w:=Y) (λk L=>dj (eY.lt M.im L) D.size) [x] dC)).mono ?_;intro e O c;exact c.from (Kp.cY B) rfl
def Mi.UC(M:Mi w0 p W G R H w)(E:mz p Hs)(I:Iv p Hs W cW)(F:0<=cW)(b:Bool)(J:gG W.sz x)(h:ft W<=1000000000000)(K:Wt W cW want)(D:zB w Y):
  zC 142 #[ptr (hd R (9,0,0)),zS Y.heap.size 2 2,zI want] (Y.alloc (.cells #[zI 1,zI (if b then 1 else 0),zT,.nilIface,zI x.k,zI (hC G x),.string ⟨x.s.toArray⟩,dV (hd R) x] 132)) (Cz w0 p W G R H w (ok (gv W [bv b,x] cW))):=by
 have B:=D.trans (((cN Y.heap.size Y).alloc (cE _) (.cells #[zI 1,zI (if b then 1 else 0),zT,.nilIface,zI x.k,zI (hC G x),.string ⟨x.s.toArray⟩,dV (hd R) x] 132)).mono D.size);refine((M.below B).sA E I F (yC (iX _ b) J) h K (Av.lit (G:=G) (Z:=hd R) (w:=Y) (λk L=>dj (eY.lt M.im L) D.size) [bv b,x] dC)).mono ?_;intro e O c;exact c.from (Kp.cY B) rfl
end
structure Tb(w:World):Prop where
 kn:∀k:Nat,k<8→w.cell? ⟨1,k,none⟩=some (.string ⟨(nH k).toArray⟩)
 sn:∀k:Nat,k<4→w.cell? ⟨2,k,none⟩=some (.string ⟨(lQ k).toArray⟩)
def VW(k n:Int)(s:ByteArray)(t:Value):(Instr.field 132 (.agg #[.int .i64 k,.int .i64 n,.string s,t]) 0).run Tryz.prog X=.ok (.agg #[.int .i64 k,.int .i64 n,.string s]) X:=gA
def VU(k n:Int)(s:ByteArray):(Instr.field 130 (.agg #[.int .i64 k,.int .i64 n,.string s]) 0).run Tryz.prog X=.ok (.int .i64 k) X:=gA
def Ju(M:Mi w0 p W G R H w)(E:mz p Hs)(tb:Tb w0)(I:Iv p Hs W cW)(hp:0<=cW)(hv:∀x∈args,gG W.sz x)(F:ft W<=1000000000000)(hw:Wt W cW want)(A:Av (Fs W G R H) w G (hd R) v args):
  zC 133 #[ptr (hd R (9,0,0)),v,zI want] w (Cz w0 p W G R H w (ok (gv W [tv (nH (first args).k)] cW))):=by
 obtain⟨x,O⟩:=eX (first args);have K:=ir hv;rw[<-O]at K|-;have J:=cO (λX (hX:zB w X)=>sj (A.below hX) 0);rw[show args.getD 0 v0=x from O.symm]at J;obtain⟨h,D⟩:∃h:Nat,x.k=h:=⟨x.k.toNat,by have:=K.lo;omega⟩
 have lk:h<8:=by have:=K.hi;omega
 have nm:=cO (λX (hX:zB w X)=>di (tb.kn h lk) (M.mV.trans (hX.mono M.mV.size)));have L:=cO (λY (hY:zB w Y)=>M.Ba (x:=tv (nH h)) E I hp (jF _ (cV (tC _) cM)) F hw hY);rw[D];unfold jX vq at J;rw[D]at J;obtain⟨s,hs⟩:=eX (⟨(nH (h:Int)).toArray⟩:ByteArray);rw[show(tv (nH h)).s=nH (h:Int)from rfl,<-hs]at L;rw[<-hs]at nm;have TV:=cO (λX=>ki (w:=X) s);unfold vq at TV;obtain⟨g,cg,h9,_⟩:=M.im.mP;have p9:ptr (hd R (9,0,0))=zP g:=by rw[h9];rfl
 rw[p9]at L|-;rw[show dV (hd R) (tv (nH (h:Int)))=.nilIface from rfl,show hC G (tv (nH (h:Int)))=0 from rfl,show(tv (nH (h:Int))).k=3 from rfl]at L;have ts:=(gm (hd R) x).store;obtain⟨tt,ht⟩:∃t,t=dV (hd R) x:=⟨_,rfl⟩
 rw[<-ht]at J ts;have aa:(h:Int)<8:=cM;have fd:=λX=>VW (X:=X) h (hC G x) ⟨x.s.toArray⟩ tt;have fe:=λX=>VU (X:=X) h (hC G x) ⟨x.s.toArray⟩;clear M E tb I hp hv F hw A O K D hs h9 p9 ht;go_enter func133,ntmps133;go_wp2_with(first
  |(go_at_call 172;refine cA (J _ (cN _ _)) ?_;rintro e w3 ⟨rfl,b3⟩;have B3:=cO b3;have ab:=nm _ b3;clear b3)
  |(go_at_call 62;refine cA (TV _) ?_;rintro e w4 ⟨rfl,b4⟩;have B4:=cO (iy B3 b4);clear b4)
  |(go_at_call 142;refine cA (L _ B4) ?_;intro e w5 c5;obtain⟨x5,rfl⟩:=c5.ret;have C5:=cO c5;clear c5))
 go_returns;exact C5.re _
end im
namespace im
open RowKit bts pg rn chk fmt
variable{G G':Gh}{H H':Hi}{b op cW want:Int}{cs:List Co}{cl:List Cp}{xs:List Nat}{a cJ bc cv cv' g k m md x:Nat}{ra ya:Nat→Int}{Hs:Nat→List Int}{nu:Nat→Nat→Nat}{av av':Option Addr}{p:Pg}{V W:St}{z:Sz}{N:eO→Prop}{R R' R1 R2:eO→fW}{Z Z':eO→Value}{y:Vl}{X Y w w0 w1 w4:World}
section
variable{x:Vl}
def EI(a:Int)(I:-9223372036854775808<=a)(K:a<=9223372036854775807)(w:World)(F:Lib.TabIs Tryz.prog w "internal/strconv.uint64pow10" .u64 Lib.pow10Tab):
  zC 177 #[zI a] w (vW a (fi a).length w):=by
 have C:=Any.strconv_AppendInt_10 Tryz.lays176 w.heap.size 0 a I K (zN) [] w (fD _ _ _ _) (cE _) cM (Lib.tabBelow_of_tabIs F);have L:zC 193 #[zN,zI a,zI 10] w (vW a (fi a).length w):=by
  refine C.mono ?_;rintro e M ⟨v,rfl,E,D,_⟩;have O:(fi a).length=0+(Lib.itoa a).length:=by unfold fi;rw[mR,dU]
  have h:M.ownsRow w.heap.size 5 1 v (fi a).length (jh (fi a)):=by rw[O];unfold fi;rw[KU];exact E
  obtain⟨J,I⟩|⟨g,cap,aa,J,_⟩:=h.2
  .refine⟨D,none,0,?_,?_⟩
   .rw[I];rw[J]
   .rw[I];rw[J,I]at h;exact h
  .subst J;exact⟨D,_,_,rfl,h⟩
 clear C F I K;go_enter func177,ntmps177;go_wp2_with fail;refine L.mono ?_;rintro e M ⟨D,ao,c,rfl,E⟩;clear L;go_wp2;go_ret;exact⟨D,ao,c,rfl,E⟩
def Pw(w:World):Prop:=Lib.TabIs Tryz.prog w "internal/strconv.uint64pow10" .u64 Lib.pow10Tab
def oX(D:gG z x)(tb:Tb w)(pw:Pw w):zC 146 #[jX G Z x] w (zR w (.string ⟨(jY x).toArray⟩)):=by
 have E:Hid (∀u:Value,zB w (w.alloc (.cells #[zI x.k,zI (hC G x),.string ⟨x.s.toArray⟩,u] 132))):=λu=>ba;unfold jX vq jY;have ts:=(gm Z x).store;generalize dV Z x=J at*;by_cases F:x.k=1
 .rw[cR F];have h:hC G x=x.n:=by unfold hC;rw[cK cM,cK cM,cK cM]
  have K:=cO (λX=>wS (w:=X) 1 x.n ⟨x.s.toArray⟩ J);rw[h,F];unfold vq at K;obtain e|e:=D.bool F
  .rw[e]at K|-;clear E F h D e;go_enter xi,uU;go_wp2_with(go_at_call 166;refine cA (K _) ?_;rintro e w3 ⟨rfl,L⟩;have B3:=cO (((cN w.heap.size w).alloc (cE _) (.cells #[zI 1,zI 0,.string ⟨x.s.toArray⟩,J] 132)).trans (L.mono dC));clear L)
   go_returns;exact⟨rfl,B3⟩
  .rw[e]at K|-;clear E F h D e;go_enter xi,uU;go_wp2_with(go_at_call 166;refine cA (K _) ?_;rintro e w3 ⟨rfl,L⟩;have B3:=cO (((cN w.heap.size w).alloc (cE _) (.cells #[zI 1,zI 1,.string ⟨x.s.toArray⟩,J] 132)).trans (L.mono dC));clear L)
   go_returns;exact⟨rfl,B3⟩
 rw[cK F];by_cases I:x.k=2
 .rw[cR I];have h:hC G x=x.n:=by unfold hC;rw[cK cM,cK cM,cK cM]
  have hn:=D.ij I;have FM:=cO (λX (hX:zB w X)=>EI x.n hn.1 hn.2 X (Lib.tabBelow_of_tabIs pw X hX));rw[h,I,Fb];clear F I h D hn pw tb;generalize x.n=n at*;generalize(⟨x.s.toArray⟩:ByteArray)=bs at*;have B2:Hid (zB w (w.alloc (.cells #[zI 2,zI n,.string bs,J] 132))):=ba;clear E;go_enter xi,uU;go_wp2_with(go_at_call 177;refine(FM _ B2).mono ?_;rintro e w1 ⟨b1,ao,c,rfl,ho⟩;have E:=cO (iy B2 b1);have kv:=Bp (c:=c) (n:=(fi n).length) (l:=Lib.itoa n) (Mu ho) (by have:=yW n;rw[fi,mR]at this;exact this) (by rw[fi,mR]);clear ho b1)
  go_returns;exact⟨rfl,E⟩
 rw[cK I];by_cases M:x.k=3
 .rw[cR M,M];clear E F I M D;go_enter xi,uU;go_wp2;go_returns;exact⟨rfl,ba⟩
 .rw[cK M];obtain⟨O,aa⟩:∃O:Nat,x.k=O:=⟨x.k.toNat,by have:=D.lo;omega⟩
  have lk:O<8:=by have:=D.hi;omega
  rw[aa]at E F I M|-;have nm:=di (tb.kn O lk) (E J);have ab:(O:Int)<8:=cM;clear E aa D tb;go_enter xi,uU;go_wp2;go_returns;exact⟨rfl,ba⟩
end
section
structure Wf(W:St):Prop where
 vs:Vs W
 fn:∀c j,c<W.cS.length→j<(W.cS.getD c dE).cy.length→(W.fr c j).guard=false→(W.fr c j).fn<W.funcs.length
 gq:∀c,c<W.cS.length→(W.cS.getD c dE).gq<W.cS.length
 cQ:W.cQ<W.cS.length
def Gw.wf(g:Gw W G)(I:Iv p Hs W cW):Wf W:=by
 refine⟨⟨λi F=>mG I.vars F,λc j h D v E=>?_,λc q=>(I.body c q).1,I.tables⟩,λc j h D J=>I.Wm h D J,g.gq,I.cQ⟩;by_cases q:(W.fr c j).guard=true
 .rw[(g.gs c j h D q).2]at E;cases E
 .obtain⟨_,k⟩:=I.NI h;exact(k j D).ops (uQ.2 q) v E
def BE(F:∀s:eO,eW W s->Z' s=Z s)(I:∀k i,(k=1/\i<W.tables.length)\/(k=2/\i<W.funcs.length)\/(k=4/\i<W.cS.length)->G'.ij k i=G.ij k i){v:Vl}(J:gG W.sz v):vi G' Z' v=vi G Z v:=by
 have a:hC G' v=hC G v/\dV Z' v=dV Z v:=by
  unfold hC dV;by_cases h:v.k=4
  .have q:0<=v.n/\v.n<(W.tables.length:Int):=J.qT h;rw[cR h,cR h,cR h,cR h,I 1 _ (.inl ⟨rfl,cM⟩),F (1,v.n.toNat,0) (show eW W (1,v.n.toNat,0)from⟨by show v.n.toNat<W.tables.length;omega,rfl⟩)];exact⟨rfl,rfl⟩
  rw[cK h,cK h,cK h,cK h];by_cases D:v.k=5
  .have q:0<=v.n/\v.n<(W.funcs.length:Int):=J.fn D;rw[cR D,cR D,cR D,cR D,I 2 _ (.inr (.inl ⟨rfl,cM⟩)),F (2,v.n.toNat,0) (show eW W (2,v.n.toNat,0)from⟨by show v.n.toNat<W.funcs.length;omega,rfl⟩)];exact⟨rfl,rfl⟩
  rw[cK D,cK D,cK D,cK D];by_cases E:v.k=7
  .have q:0<=v.n/\v.n<(W.cS.length:Int):=J.co E;rw[cR E,cR E,cR E,cR E,I 4 _ (.inr (.inr ⟨rfl,cM⟩)),F (4,v.n.toNat,0) (show eW W (4,v.n.toNat,0)from⟨by show v.n.toNat<W.cS.length;omega,rfl⟩)];exact⟨rfl,rfl⟩
  rw[cK E,cK E,cK E,cK E];exact⟨rfl,rfl⟩
 unfold vi;rw[a.1,a.2]
def Bi{f g:Vl->List Value}:∀{l:List Vl},(∀v∈l,f v=g v)->l.flatMap f=l.flatMap g
 |[],_=>rfl
 |v::l,h=>by rw[eE,eE,h v dC,Bi λv D=>h v (by simp[D])]
structure Mo(W:St)(G:Gh)(fs:List (Nat×List Nat))(cs:List Co)(nu:Nat→Nat→Nat)(ra ya:Nat→Int):Prop where
 fl:W.funcs.length≤fs.length
 cl:W.cS.length≤cs.length
 fs:∀i,i<W.funcs.length→fs.getD i (0,[])=W.funcs.getD i (0,[])
 cs:∀i,i<W.cS.length→cs.getD i dE=W.cS.getD i dE
 nu:∀k i,(k=1∧i<W.tables.length)∨(k=2∧i<W.funcs.length)∨(k=4∧i<W.cS.length)→nu k i=G.ij k i
 ra:∀i,i<W.cS.length→ra i=G.rw i∧ya i=G.yw i
variable{fs:List (Nat×List Nat)}
def Fe(F:Wf W)(D:Mo W G fs cs nu ra ya)(E:∀s:eO,eW W s\/s.1=0->Z' s=Z s){s:eO}(hs:eW W s)(L:s.1≠9):
  gF {W with funcs:=fs,cS:=cs} {G with ij:=nu,rw:=ra,yw:=ya,iG:=md} H Z' s=gF W G H Z s/\sP {W with funcs:=fs,cS:=cs} s=sP W s:=by
 have J:∀{v:Vl},gG W.sz v->vi {G with ij:=nu,rw:=ra,yw:=ya,iG:=md} Z' v=vi G Z v:=λh=>BE (W:=W) (λs hs=>E s (.inl hs)) D.nu h;have K:∀x,Z' (0,x,0)=Z (0,x,0):=λx=>E _ (.inr rfl);have I:∀c j,c<W.cS.length->({W with funcs:=fs,cS:=cs}:St).fr c j=W.fr c j:=λc j q=>by show(cs.getD c dE).cy.getD j pG=_;rw[D.cs c q];rfl
 obtain⟨s,i,j⟩:=s;obtain _|_|_|_|_|_|_|_|_|_|s:=s
 .exact⟨J (F.vs.vars i hs.1),rfl⟩
 .exact⟨rfl,rfl⟩
 .refine⟨?_,rfl⟩;show H.pc (fs.getD i (0,[])).1++[Z' (3,i,0)]=_;rw[D.fs i hs.1,E (3,i,0) (.inl ⟨hs.1,rfl⟩)];rfl
 .have e:=D.fs i hs.1;refine⟨?_,by show(fs.getD i (0,[])).2.length=_;rw[e];rfl⟩;show((fs.getD i (0,[])).2.flatMap λx=>[ptr (Z' (0,x,0))])=_;rw[e];exact ga (λq=>(W.funcs.getD i (0,[])).2.flatMap q) (funext λx=>by rw[K])
 .refine⟨?_,rfl⟩;show[Value.int .i64 (cs.getD i dE).state,Z' (5,i,0)]++vi _ Z' (cs.getD i dE).body++[.bool (decide (i≠0/\0<=(cs.getD i dE).held)),if i=0\/(cs.getD i dE).held<0 then .pointer none else ptr (Z' (4,(cs.getD i dE).gq,0)),zI (ra i),zI (ya i)]=_;rw[D.cs i hs.1,J (F.vs.body i hs.1),E (5,i,0) (.inl ⟨hs.1,rfl⟩),E (4,(W.cS.getD i dE).gq,0) (.inl (show eW W (4,(W.cS.getD i dE).gq,0)from⟨F.gq i hs.1,rfl⟩)),(D.ra i hs.1).1,(D.ra i hs.1).2];rfl
 .have e:=D.cs i hs.1;refine⟨?_,by show(cs.getD i dE).cy.length=_;rw[e];rfl⟩;show((List.range (cs.getD i dE).cy.length).flatMap λk=>[if (({W with funcs:=fs,cS:=cs}:St).fr i k).guard then Value.iface 199 (.agg #[zI (G.wa i k)])else .iface 147 (ptr (Z' (6,i,k)))])=_;rw[e];refine fX λk M=>?_;rw[I i k hs.1];by_cases q:(W.fr i k).guard=true
  .rw[cR q,cR q]
  .rw[cK q,cK q,E (6,i,k) (.inl ⟨hs.1,M,uQ.2 q⟩)]
 .refine⟨?_,rfl⟩;show[ptr (Z' (2,(({W with funcs:=fs,cS:=cs}:St).fr i j).fn,0)),zI (({W with funcs:=fs,cS:=cs}:St).fr i j).eA,Z' (7,i,j),Z' (8,i,j),_]=_;rw[I i j hs.1,E (2,(W.fr i j).fn,0) (.inl (show eW W (2,(W.fr i j).fn,0)from⟨F.fn i j hs.1 hs.2.1 hs.2.2,rfl⟩)),E (7,i,j) (.inl hs),E (8,i,j) (.inl hs)];rfl
 .refine⟨?_,by show(({W with funcs:=fs,cS:=cs}:St).fr i j).da.length=_;rw[I i j hs.1];rfl⟩;show((({W with funcs:=fs,cS:=cs}:St).fr i j).da.flatMap λx=>[ptr (Z' (0,x,0))])=_;rw[I i j hs.1];exact ga (λq=>(W.fr i j).da.flatMap q) (funext λx=>by rw[K])
 .refine⟨?_,by show(({W with funcs:=fs,cS:=cs}:St).fr i j).ops.length=_;rw[I i j hs.1];rfl⟩;show(({W with funcs:=fs,cS:=cs}:St).fr i j).ops.flatMap (vi _ Z')=_;rw[I i j hs.1];exact Bi λv O=>J (F.vs.ops i j hs.1 hs.2.1 v O)
 .exact absurd rfl L
 .exact absurd hs (by intro q;exact q)
def Im.jz(h:Im cJ W G R H w)(F:Wf W)(D:Mo W G fs cs nu ra ya)(K:∀s:eO,eW W s\/s.1=0->R1 s=R s)(M:rn.Rows cJ Is Iz (λs=>eW W s\/N s) R1 w1)(hb:Below w.heap.size w w1)(E:∀s,eW {W with funcs:=fs,cS:=cs} s->eW W s\/N s)(hN:∀s,N s->s.1≠0/\s.1≠9/\(R1 s).n=sP {W with funcs:=fs,cS:=cs} s/\(R1 s).cs=gF {W with funcs:=fs,cS:=cs} {G with ij:=nu,rw:=ra,yw:=ya,iG:=md} H (hd R1) s/\∀i,i<W.tables.length->(R1 s).v.ownBlock≠some (G.map i))(O:∀i,i<fs.length->∀x∈(fs.getD i (0,[])).2,x<W.vars.length/\(R (0,x,0)).n=1)(lo:Lo {W with funcs:=fs,cS:=cs} R){cap:Nat}(h9:hd R (9,0,0)=.slice (some ⟨g,0,none⟩) 1 cap):
  ∃R',Im cJ {W with funcs:=fs,cS:=cs} {G with ij:=nu,rw:=ra,yw:=ya,iG:=md} R' H (w1.setCell ⟨g,42,none⟩ (.int .i64 (md:Int)))/\hd R'=hd R1:=by
 have t9:eW W (9,0,0):=rfl;have n9:=h.ij _ t9 dC;have c9:=h.cells _ t9 (λe=>by simp at e);have r9:=K (9,0,0) (.inl t9);have B:=M.store (t:=(9,0,0)) (.inl t9) (g:=g) (cap:=cap) (r9▸n9▸h9) 42 (zI (md:Int));rw[r9]at B;have hz:∀s:eO,eW W s\/s.1=0->hd R1 s=hd R s:=λs q=>by unfold hd;rw[K s q]
 have vv:∀{v:Vl},gG W.sz v->vi {G with ij:=nu,rw:=ra,yw:=ya,iG:=md} (hd R1) v=vi G (hd R) v:=λq=>BE (W:=W) (λs J=>hz s (.inl J)) D.nu q;generalize aa:jG R1 (9,0,0) ⟨(R (9,0,0)).v,(R (9,0,0)).n,(R (9,0,0)).cs.set 42 (zI (md:Int))⟩=R' at B;have q9:R' (9,0,0)=⟨(R (9,0,0)).v,(R (9,0,0)).n,(R (9,0,0)).cs.set 42 (zI (md:Int))⟩:=by rw[<-aa,dD]
 have qo:∀s,s≠(9,0,0)->R' s=R1 s:=λs e=>by rw[<-aa,dh _ _ e]
 have hh:hd R'=hd R1:=by
  funext s;unfold hd;by_cases e:s=(9,0,0)
  .subst e;rw[q9,r9]
  .rw[qo s e]
 have e0:∀x,R' (0,x,0)=R (0,x,0):=λx=>(qo _ dC).trans (K _ (.inr rfl));refine⟨R',⟨B.sub E,λs J q=>?_,λx hx=>by rw[e0];exact h.var x hx,λs J q=>?_,λi L=>?_,h.wj,λi L x hx=>by rw[e0];exact O i L x hx,λc j a c' j' a' h1 h2 h3 h4 h5 h6 h7=>by rw[e0];exact lo c j a c' j' a' h1 h2 h3 h4 h5 h6 h7⟩,hh⟩
 .by_cases e:s=(9,0,0)
  .subst e;rw[q9];exact n9
  .rw[qo s e];obtain p|p:=E s J
   .rw[K s (.inl p),h.ij s p q];by_cases I:s.1=9
    .obtain⟨s,i⟩:=s;have I:=I;subst I;rfl
    .exact(Fe (H:=H) (md:=md) F D hz p I).2.symm
   .exact(hN s p).2.2.1
 .rw[hh];by_cases e:s=(9,0,0)
  .subst e;rw[q9];show(R (9,0,0)).cs.set 42 _=[H.ps,H.ks,H.ins]++zG++[ptr (hd R1 (4,W.cQ,0)),_,_,_,_,_,_,_,_];rw[c9,hz (4,W.cQ,0) (.inl ⟨F.cQ,rfl⟩)];rfl
  .rw[qo s e]at q|-;obtain p|p:=E s J
   .rw[K s (.inl p)]at q|-;rw[h.cells s p q];refine(Fe F D hz p (λI=>e ?_)).1.symm;obtain⟨s,i,j⟩:=s;have I:=I;subst I;rw[show(i,j)=(0,0)from p]
   .exact(hN s p).2.2.2.1
 .obtain⟨⟨es,c,q1,q2⟩,q3,q4⟩:=h.pZ i L;have ml:=(dS.1 q1).1;refine⟨⟨es,c,?_,?_⟩,q3,λs J=>?_⟩
  .rw[cZ _ (zA g 42) _ _ (λe=>q4 _ t9 (by rw[show(R (9,0,0)).v=_ from h9,e];rfl)),hb.block _ ml];exact q1
  .rw[q2,hh];unfold rB;refine ga (List.map _) (mH λe he=>?_);have ok:=F.vs.yh _ (by rw[cB,cG L];exact fA L) e he;have a:=vv ok.1;have b:=vv ok.2;rw[b];unfold vi at a;simp only[iA,Value.int.injEq,true_and]at a;unfold An;rw[a.1]
  .rw[show(R' s).v=(R1 s).v from qt hh s];obtain p|p:=E s J
   .rw[K s (.inl p)];exact q4 s p
   .exact(hN s p).2.2.2.2 i L
end
section
variable{wr:World}{AW:List Value}
structure Fj(cJ:Nat)(W:St)(G:Gh)(R:eO→fW)(H:Hi)(m:Nat)(w:World)(bc:Nat)(AW:List Value)(xs:List Nat)(k:Nat)(wr:World)(R1:eO→fW)(av:Option Addr)(cv:Nat):Prop where
 cu:Cu cJ W G R1 H m wr
 PN:∀t:eO,t.1≠0→hd R1 t=hd R t
 Oe:wr.heap[bc]?=some (.cells (AW++[Value.slice av k cv]).toArray 143 (0,0))
 own:wr.ownsRow cJ 195 1 (.slice av k cv) k ((xs.take k).map fun x=>ptr (hd R1 (0,x,0)))
 new:∀b,(Value.slice av k cv).ownBlock=some b→w.heap.size≤b∧b≠bc
 Ta:w.heap.size≤bc
 ne:∀b,eY W G R1 b→b≠bc∧(Value.slice av k cv).ownBlock≠some b
 md:∀i,i<k→i<xs.length→(R1 (0,xs.getD i 0,0)).n=1
 kp:Kp (eY W G R) (eY W G R1) w wr
def Ma(l:List Nat)(h:k<l.length):l.take (k+1)=l.take k++[l.getD k 0]:=by rw[Ge,cG h,cB,cG h];rfl
def Ao{b:Nat}{u v:Value}{ty:TypeId}(D:AW.length=4)(h:w.heap[b]?=some (.cells (AW++[u]).toArray ty (0,0))):(w.setCell ⟨b,4,none⟩ v).heap[b]?=some (.cells (AW++[v]).toArray ty (0,0)):=by rw[fF h];congr 2;apply Array.ext';simp[List.set_append,D]
def Fj.gY(h:Fj cJ W G R H m w bc AW xs k wr R1 av cv)(hp:AW.length=4)(hk:k<xs.length)(hx:xs.getD k 0=x)(J:Cu cJ W G R2 H m X)(d2:∀t,t≠(0,x,0)->hd R2 t=hd R1 t)(n2:(R2 (0,x,0)).n=1)(e2:(R1 (0,x,0)).n=1->R2=R1)(o2:∀s,s≠(0,x,0)->(R2 s).n=(R1 s).n)(E:Kp (eY W G R1) (eY W G R2) wr X)(F:Below X.heap.size X Y)(K:sd 195 1 Y cJ av k cv (((xs.take k).map λx=>ptr (hd R1 (0,x,0)))++[ptr (hd R2 (0,x,0))]) av' (k+1) cv' w4):
  Fj cJ W G R H m w bc AW xs (k+1) (w4.setCell ⟨bc,4,none⟩ (.slice av' (k+1) cv')) R2 av' cv':=by
 have M:=gC h.Oe;have hs:=h.kp.size;have kx:=E.trans (Kp.cY F);have I:∀b,eY W G R2 b->b≠bc/\(Value.slice av k cv).ownBlock≠some b:=λb D=>by
  by_cases q:b<wr.heap.size
  .have:eY W G R1 b:=oO λn=>E.out b q n D;exact h.ne b this
  .exact⟨cM,λe=>by have:=(h.own.lt b e).2;omega⟩
 have ly:∀b,(Value.slice av' (k+1) cv').ownBlock=some b->(Value.slice av k cv).ownBlock=some b\/b=Y.heap.size:=by
  intro b D;obtain⟨e,_⟩|⟨q,e,O|O⟩:=K.qA
  .subst e;cases av' with
   |none=>cases D
   |some a=>exact .inl D
  .subst e;cases D;exact .inl O
  .subst e;cases D;exact .inr O
 have aa:=cV E.size F.size;have bk:Y.heap[bc]?=some (.cells (AW++[Value.slice av k cv]).toArray 143 (0,0)):=by rw[F.block bc (dj M E.size),E.kg bc M (λq=>(h.ne bc q).1 rfl)];exact h.Oe
 have nb:(Value.slice av k cv).ownBlock≠some bc:=λe=>(h.new bc e).2 rfl;have ab:w4.heap[bc]?=some (.cells (AW++[Value.slice av k cv]).toArray 143 (0,0)):=by rw[K.jz.block bc (dj M aa) (λe=>nb e.symm)];exact bk
 have ac:(Value.slice av' (k+1) cv').ownBlock≠some bc:=λe=>by
  obtain q|q:=ly bc e
  .exact nb q
  .omega
 have L:∀b,b<X.heap.size->b≠bc->(Value.slice av k cv).ownBlock≠some b->(w4.setCell (zA bc 4) (.slice av' (k+1) cv')).heap[b]?=X.heap[b]?:=λb D O q2=>by show(w4.setCell (zA bc 4) (.slice av' (k+1) cv')).heap[b]?=_;rw[cZ _ (zA bc 4) _ _ O,K.jz.block b (dj D F.size) (λe=>q2 e.symm),F.block b D]
 have sz:X.heap.size<=(w4.setCell (zA bc 4) (.slice av' (k+1) cv')).heap.size:=by have:=cV F.size K.jz.size;show _<=(w4.setCell (zA bc 4) (.slice av' (k+1) cv')).heap.size;simp only[World.setCell,Array.size_modify];exact this
 refine⟨⟨J.im.apart λb D=>L b (eY.lt J.im D) (I b D).1 (I b D).2,cV J.bs sz,J.cQ,J.len,J.gd,J.ops⟩,λt ht=>by rw[d2 t (λe=>ht (by rw[e]))];exact h.PN t ht,Ao hp ab,?_,λb D=>?_,h.Ta,λb D=>⟨(I b D).1,λe=>?_⟩,λi hi hl=>?_,⟨?_,?_,?_,cV hs (cV E.size sz),λb D hn=>?_,λb D hn=>E.out b cM (h.kp.out b D hn)⟩⟩
 .have o:=K.own;rw[show(((xs.take k).map λx=>ptr (hd R1 (0,x,0)))++[ptr (hd R2 (0,x,0))])=(xs.take (k+1)).map λx=>ptr (hd R2 (0,x,0))from ?_]at o
  .exact jm o λb e=>cZ _ (zA bc 4) _ _ (λq=>ac (by rw[e,q]))
  .rw[Ma xs hk,gX,hx];congr 1;refine mH λy hy=>?_;by_cases e:y=x
   .subst e;obtain⟨i,hi,q⟩:=gM hy;have il:i<k:=by rw[dX]at hi;omega
    have:=h.md i il cM;rw[show xs.getD i 0=y by rw[<-q,List.getElem_take,cB,cG cM];rfl]at this;rw[e2 this]
   .rw[d2 _ (by simpa using e)]
 .obtain q|q:=ly b D
  .exact h.new b q
  .omega
 .obtain q|q:=ly b e
  .exact(I b D).2 q
  .have:=eY.lt J.im D;have:=F.size;omega
 .by_cases e:xs.getD i 0=x
  .rw[e];exact n2
  .rw[o2 _ (by simpa using e)];by_cases q:i=k
   .subst q;exact absurd hx e
   .exact h.md i cM hl
 .exact(K.jz.os.trans F.os).trans (E.os.trans h.kp.os)
 .exact(K.jz.tape.trans F.tape).trans (E.tape.trans h.kp.tape)
 .exact(K.jz.output.trans F.output).trans (E.output.trans h.kp.output)
 .rw[L b (by have:=E.size;omega) (by have:=h.Ta;omega) (λe=>by have:=(h.new b e).1;omega),E.kg b cM (h.kp.out b D hn)];exact h.kp.kg b D hn
def Gh.fn(G:Gh)(n:Nat):Gh:={G with ij:=λs i=>if s=2/\i=n then G.iG+1 else G.ij s i,iG:=G.iG+1}
def Fj.fin(h:Fj cJ W G R H m w bc (H.pc a) xs xs.length wr R1 av cv)(F:Wf W)(hB:cJ<=w.heap.size)(hp:(H.pc a).length=4)(ab:∀x∈xs,x<W.vars.length){cg:Nat}(h9:hd R (9,0,0)=.slice (some ⟨g,0,none⟩) 1 cg){w':World}(hb:Below wr.heap.size (wr.setCell ⟨g,42,none⟩ (.int .i64 ((G.iG+1:Nat):Int))) w'):
  ∃R2,Cu cJ {W with funcs:=W.funcs++[(a,xs)]} (G.fn W.funcs.length) R2 H m w'/\(∀t,eW W t->t.1≠0->hd R2 t=hd R t)/\jX (G.fn W.funcs.length) (hd R2) ⟨5,W.funcs.length,[]⟩=.agg #[.int .i64 5,.int .i64 ((G.iG+1:Nat):Int),.string ⟨#[]⟩,.iface 140 (.pointer (some ⟨bc,0,none⟩))]/\Kp (eY W G R) (eY {W with funcs:=W.funcs++[(a,xs)]} (G.fn W.funcs.length) R2) w w':=by
 have h1:=h.cu.im;obtain⟨n,hn⟩:=eX W.funcs.length;have fe:(W.funcs++[(a,xs)]).getD n (0,[])=(a,xs):=hn▸gD _ _ _;obtain⟨R2,E⟩:=eX (jG (jG R1 (2,n,0) ⟨zS bc 1 1,1,H.pc a++[Value.slice av xs.length cv]⟩) (3,n,0) ⟨.slice av xs.length cv,xs.length,(xs.take xs.length).map λx=>ptr (hd R1 (0,x,0))⟩);have K:R2 (2,n,0)=⟨zS bc 1 1,1,H.pc a++[Value.slice av xs.length cv]⟩:=by rw[E,dh _ _ dC,dD]
 have L:R2 (3,n,0)=⟨.slice av xs.length cv,xs.length,(xs.take xs.length).map λx=>ptr (hd R1 (0,x,0))⟩:=by rw[E,dD]
 have qo:∀s,s≠(2,n,0)->s≠(3,n,0)->R2 s=R1 s:=λs e1 e2=>by rw[E,dh _ _ e2,dh _ _ e1]
 have out:∀s,eW W s\/s.1=0->R2 s=R1 s:=λs D=>by
  refine qo s (λe=>?_) (λe=>?_)<;>subst e
  .obtain q|q:=D
   .have:n<W.funcs.length:=q.1;omega
   .simp at q
  .obtain q|q:=D
   .have:n<W.funcs.length:=q.1;omega
   .simp at q
 have M:rn.Rows cJ Is Iz (λs=>eW W s\/(s=(2,n,0)\/s=(3,n,0))) R2 wr:=by
  have A:=h1.eH.add (t:=(2,n,0)) (r:=⟨zS bc 1 1,1,H.pc a++[Value.slice av xs.length cv]⟩) (lI h.Oe (cV hB h.Ta) (by unfold maxLen;omega) (by show(H.pc a++_).toArray.size=1*5;simp[hp]) dC) λk I u hu _ e=>by
   have:bc=k:=by simpa[Value.ownBlock]using I
   exact(h.ne k (.row hu e)).1 this.symm
  have B:=A.add (t:=(3,n,0)) (r:=⟨.slice av xs.length cv,xs.length,(xs.take xs.length).map λx=>ptr (hd R1 (0,x,0))⟩) h.own λk I u hu ac e=>by
   by_cases eu:u=(2,n,0)
   .subst eu;rw[dD]at e;have:bc=k:=by simpa[Value.ownBlock]using e
    exact(h.new k I).2 this.symm
   .rw[dh _ _ eu]at e;exact(h.ne k (.row (hu.resolve_right eu) e)).2 I
  rw[<-E]at B;exact B.sub λs D=>by
   obtain q|q|q:=D
   .exact .inl (.inl q)
   .exact .inl (.inr q)
   .exact .inr q
 have O:∀s,eW {W with funcs:=W.funcs++[(a,xs)]} s->eW W s\/(s=(2,n,0)\/s=(3,n,0)):=by
  intro s D;obtain⟨s,i,j⟩:=s;have key:i<(W.funcs++[(a,xs)]).length->i<W.funcs.length\/i=n:=λq=>by rw[dq]at q;simp only[dt,dG]at q;omega
  obtain _|_|_|_|s:=s
  .exact .inl D
  .exact .inl D
  .obtain q|q:=key D.1
   .exact .inl ⟨q,D.2⟩
   .exact .inr (.inl (by rw[q,show j=0 from D.2]))
  .obtain q|q:=key D.1
   .exact .inl ⟨q,D.2⟩
   .exact .inr (.inr (by rw[q,show j=0 from D.2]))
  .obtain _|_|_|_|_|_|s:=s<;>exact .inl D
 have aa:=(h.PN _ dC).trans h9;have e3:hd R2 (3,n,0)=.slice av xs.length cv:=by unfold hd;rw[L]
 have e0:∀x,hd R2 (0,x,0)=hd R1 (0,x,0):=λx=>by unfold hd;rw[out _ (.inr rfl)]
 obtain⟨R3,i3,d3⟩:=h1.jz (fs:=W.funcs++[(a,xs)]) (cs:=W.cS) (nu:=(G.fn n).ij) (ra:=G.rw) (ya:=G.yw) (md:=G.iG+1) (N:=λs=>s=(2,n,0)\/s=(3,n,0)) (w1:=wr) F
  ⟨dC,cE _,λi J=>iL _ _ _ _ J,λ_ _=>rfl,λk i q=>cK cM,λ_ _=>⟨rfl,rfl⟩⟩ out M (cN _ _) O (λs q=>by
   obtain rfl|rfl:=q
   .refine⟨dC,dC,by rw[K];rfl,?_,λi J e=>?_⟩
    .rw[K];show H.pc a++[Value.slice av xs.length cv]=H.pc ((W.funcs++[(a,xs)]).getD n (0,[])).1++[hd R2 (3,n,0)];rw[fe,e3]
    .rw[K]at e;exact(h.ne (G.map i) (.inr ⟨i,J,rfl⟩)).1 (by simpa[Value.ownBlock]using e.symm)
   .refine⟨dC,dC,?_,?_,λi J e=>?_⟩
    .rw[L];show xs.length=((W.funcs++[(a,xs)]).getD n (0,[])).2.length;rw[fe]
    .rw[L];show(xs.take xs.length).map (λx=>ptr (hd R1 (0,x,0)))=((W.funcs++[(a,xs)]).getD n (0,[])).2.flatMap λx=>[ptr (hd R2 (0,x,0))]
     rw[fe,qR];have:∀l:List Nat,l.map (λx=>ptr (hd R1 (0,x,0)))=l.flatMap λx=>[ptr (hd R2 (0,x,0))]:=by
      intro l
      induction l with
      |nil=>rfl
      |cons y l ih=>rw[jP,eE,ih,e0];rfl
     exact this xs
    .rw[L]at e;exact(h.ne (G.map i) (.inr ⟨i,J,rfl⟩)).2 e)
  (λi J x hx=>by
   rw[dq]at J;simp only[dt,dG]at J;by_cases q:i<W.funcs.length
   .rw[iL _ _ _ _ q]at hx;exact h1.fP i q x hx
   .rw[show i=n by omega,fe]at hx;obtain⟨j,hj,e⟩:=gM hx;have:=h.md j hj hj;rw[cB,cG hj]at this;exact⟨ab x hx,by rw[<-e];exact this⟩) h1.lone aa
 have i4:=i3.wr hb;have sz:wr.heap.size<=w'.heap.size:=by have:=hb.size;simpa[World.setCell]using this
 subst hn;have gt:eY W G R1 g:=.row (t:=(9,0,0)) rfl (by rw[aa];rfl);have fk:∀k,eY {W with funcs:=W.funcs++[(a,xs)]} (G.fn W.funcs.length) R3 k->eY W G R1 k\/w.heap.size<=k:=by
  intro k I;obtain⟨s,D,e⟩|q:=I
  .rw[d3]at e;obtain q|q|q:=O s D
   .refine .inl (.row q ?_);unfold hd at e|-;rwa[out s (.inl q)]at e
   .subst q;unfold hd at e;rw[K]at e;have:bc=k:=by simpa[Value.ownBlock]using e
    exact .inr (by have:=h.Ta;omega)
   .subst q;unfold hd at e;rw[L]at e;exact .inr (h.new k e).1
  .exact .inl (.inr q)
 refine⟨R3,⟨i4,cV h.cu.bs sz,h.cu.cQ,h.cu.len,h.cu.gd,h.cu.ops⟩,λt ht q=>?_,?_,?_⟩
 .rw[d3];show(R2 t).v=_;rw[out t (.inl ht)];exact h.PN t q
 .have a1:hC (G.fn W.funcs.length) ⟨5,W.funcs.length,[]⟩=((G.iG+1:Nat):Int):=by
   unfold hC Gh.fn;dsimp only;rw[cK iM,cR rfl,cR ⟨rfl,fh _⟩]
  have a2:dV (hd R3) ⟨5,W.funcs.length,[]⟩=.iface 140 (zP bc):=by unfold dV;dsimp only;rw[cK iM,cR rfl,d3,fh];unfold hd;rw[K];rfl
  unfold jX vq;rw[a1,a2]
 .refine(h.kp.trans (Kp.wr gt hb)).sub λk I=>fk k I
def Fj.below(h:Fj cJ W G R H m w bc AW xs k wr R1 av cv)(D:Below wr.heap.size wr X):Fj cJ W G R H m w bc AW xs k X R1 av cv:=
 ⟨h.cu.below D,h.PN,(D.block bc (gC h.Oe)).trans h.Oe,jm h.own λk e=>D.block k (h.own.lt k e).2,h.new,h.Ta,h.ne,h.md,h.kp.trans (Kp.cY D)⟩
def wE(W:St)(c:Cp):Nat:=if c.up then W.db.oo.getD c.index.toNat 0 else W.db.da.getD c.index.toNat 0
def H6(h:Cu cJ W G R H m w)(F:Wf W)(aB:w0.heap.size<=cJ)(ah:zB w0 w)(P:Pm w0 p H)(ha:a<p.cU.length)(aC:cl=(p.cU.getD a gu).fP)(hn:cl.length<=100)(ai:W.db.fn<W.funcs.length)(aj:W.db.oo=(W.funcs.getD W.db.fn (0,[])).2)(aD:W.db.oo.length<=1000)(a0:W.db.da.length<=1000)(aq:∀x∈W.db.da,x<W.vars.length)(aE:∀x∈W.db.oo,x<W.vars.length)(hc:∀i,i<cl.length->0<=(cl.getD i lY).index/\((cl.getD i lY).up=true->(cl.getD i lY).index<W.db.oo.length)/\((cl.getD i lY).up=false->(cl.getD i lY).index<W.db.da.length))(ag:G.iG<=1000000000):
  zC 112 #[im.ptr (hd R (9,0,0)),im.ptr (hd R (6,W.cQ,m)),.agg (zW op (a:Int) b)] w λe w'=>(∃x,e=.returned x)/\∃R',Im cJ ({W with funcs:=W.funcs++[(a,cl.map (wE W))]}.ee [⟨5,W.funcs.length,[]⟩]) (G.fn W.funcs.length) R' H w'/\hd R' (9,0,0)=hd R (9,0,0)/\Kp (eY W G R) (eY ({W with funcs:=W.funcs++[(a,cl.map (wE W))]}.ee [⟨5,W.funcs.length,[]⟩]) (G.fn W.funcs.length) R') w w':=by
 obtain⟨f,hf,aF⟩:=h.ptr;obtain⟨g,cg,h9,c9,f9,a1⟩:=h.im.mP;have p9:im.ptr (hd R (9,0,0))=zP g:=by rw[h9];rfl
 obtain⟨pb,po,aG,aH,aI,aJ⟩:=P.ps;obtain⟨uc,ud,I,aK,a2⟩:=P.pc a ha;rw[<-aC]at aK;obtain⟨ad,cd,rfl,_⟩:=a2;obtain⟨nd,aL⟩:∃n,n=(p.cU.getD a gu).dw.length:=⟨_,rfl⟩
 rw[<-aL]at I;obtain⟨ac,cc,rfl,a3,aM⟩:=aK;obtain⟨n,ar⟩:=eX cl.length;obtain⟨q0,aN⟩:∃q,q=(p.cU.getD a gu).params:=⟨_,rfl⟩
 obtain⟨q1,aO⟩:∃q,q=(p.cU.getD a gu).da:=⟨_,rfl⟩
 rw[<-aN,<-aO,<-ar]at I;have C0:Hid (zE w g 0 (.slice (some (zA pb po)) p.cU.length aG)):=by rw[<-aH];exact c9 0 _ rfl
 have CP:=cO (λj u (hj:(H.pc a)[j]?=some u)=>di (aJ a ha j u hj) ah);have XL:Hid ((cl.map (wE W)).length=n):=by rw[dY,ar];exact rfl
 have LT:=cO (λk (hk:eY W G R k)=>eY.lt h.im hk);have HC:=cO h;obtain⟨J,hJ⟩:=eX (λbc k av cv wr=>∃R1,Fj cJ W G R H m w bc (H.pc a) (cl.map (wE W)) k wr R1 av cv:Nat->Nat->Option Addr->Nat->World->Prop);have JS:Hid (∀X,zB w X->J X.heap.size 0 none 0 (X.alloc (.cells #[zI q0,zI q1,.slice ac n cc,.slice ad nd cd,zN] 143))):=λX hX=>by rw[hJ];have B:=hX.trans (((cN X.heap.size X).alloc (cE _) (.cells #[zI q0,zI q1,.slice ac n cc,.slice ad nd cd,zN] 143)).mono hX.size);refine⟨R,h.below B,λ_ _=>rfl,?_,fD _ _ _ _,λb hb=>(by cases hb),hX.size,λb hb=>⟨by have:=eY.lt h.im hb;have:=hX.size;omega,by simp[Value.ownBlock]⟩,λi hi=>absurd hi (dT _),Kp.cY B⟩;rw[I];exact dJ _ _
 have FN:Hid (∀bc av cv wr,J bc n av cv wr->zC 162 #[zP g,zI 5,.iface 140 (zP bc)] wr λe O=>e=.returned (.agg #[zI 5,zI ((G.iG+1:Nat):Int),zT,.iface 140 (zP bc)])/\zC 159 #[zP f,.agg #[zI 5,zI ((G.iG+1:Nat):Int),zT,.iface 140 (zP bc)]] O λe w'=>(∃x,e=.returned x)/\∃R',Im cJ ({W with funcs:=W.funcs++[(a,cl.map (wE W))]}.ee [⟨5,W.funcs.length,[]⟩]) (G.fn W.funcs.length) R' H w'/\hd R' (9,0,0)=hd R (9,0,0)/\Kp (eY W G R) (eY ({W with funcs:=W.funcs++[(a,cl.map (wE W))]}.ee [⟨5,W.funcs.length,[]⟩]) (G.fn W.funcs.length) R') w w'):=λbc av cv wr j=>by
  rw[hJ]at j;obtain⟨R1,D⟩:=j;have a7:=(D.PN _ dC).trans h9;obtain⟨g',bj,e9,d9,z9,_⟩:=D.cu.im.mP;rw[a7]at e9;cases e9;refine(wC (m:=G.iG) (k:=5) 140 (some (zA bc 0)) ag (d9 42 _ rfl) (z9 42)).mono ?_;rintro e O ⟨rfl,b3⟩;refine⟨rfl,?_⟩;rw[<-XL]at D;obtain⟨R2,c2,d2,vv,k2⟩:=D.fin F h.bs (P.l4 a) (λx hx=>by
   obtain⟨c,a8,rfl⟩:=jj.1 hx;obtain⟨i,hi,e⟩:=gM a8;have q:=hc i hi;rw[cB,cG hi,qQ,e]at q;unfold wE;split
   .rename_i u;exact aE _ (qX (by have:=q.2.1 u;omega))
   .rename_i u;exact aq _ (qX (by have:=q.2.2 (by simpa using u);omega))) h9 b3
  have P3:=c2.push ⟨5,W.funcs.length,[]⟩;rw[show hd R2 (6,({W with funcs:=W.funcs++[(a,cl.map (wE W))]}:St).cQ,m)=hd R (6,W.cQ,m)from d2 (6,W.cQ,m) ⟨h.cQ,by show m<W.co.cy.length;rw[h.len];omega,h.Wk⟩ dC,hf,vv]at P3;refine P3.mono ?_;rintro e w' ⟨hx,R',u,i,d,k⟩;exact⟨hx,R',i,by rw[d,dL dC];exact d2 (9,0,0) rfl dC,k2.trans k⟩
 have p4:=P.l4 a;have CB:Hid (∀bc k av cv wr,J bc k av cv wr->zB w0 wr/\w.heap.size<=bc/\bc<wr.heap.size/\zE wr bc 4 (.slice av k cv)/\zE wr bc 2 (.slice ac n cc)/\wr.frozen? (zA bc 4)=false/\some bc≠(Value.slice av k cv).ownBlock/\(∀X,zB wr X->J bc k av cv X)):=λbc k av cv wr j=>by
  rw[hJ]at j;obtain⟨R1,D⟩:=j;have L:Lc (λ_=>False) wr bc (H.pc a++[Value.slice av k cv]).toArray 143:=⟨λh=>h,D.Oe⟩
  refine⟨ah.trans (D.kp.below ah.size λq hq=>cV aB (eY.from h.im hq)),D.Ta,gC D.Oe,L.cell (by rw[I];rfl),L.cell (by rw[I];rfl),L.free 4,λe=>(D.new bc e.symm).2 rfl,λX hX=>hJ▸⟨R1,D.below hX⟩⟩
 have UP:Hid (∀bc k av cv wr,J bc k av cv wr->k<n->(cl.getD k lY).up=true->∃c t cu q us,zE wr f 0 (zP c)/\zE wr c 4 (zS t W.db.oo.length cu)/\zE wr t ((cl.getD k lY).index.toNat) (zP q)/\(∀b,eY W G R b->some b≠(Value.slice av k cv).ownBlock)/\(eY W G R f/\eY W G R c/\eY W G R t)/\wr.ownsRow cJ 195 1 (.slice av k cv) k us/\∀Y av' cv' w4,zB wr Y->sd 195 1 Y cJ av k cv (us++[zP q]) av' (k+1) cv' w4->J bc (k+1) av' cv' (w4.setCell (zA bc 4) (.slice av' (k+1) cv'))):=λbc k av cv wr j hk E=>by
  rw[hJ]at j;obtain⟨R1,D⟩:=j;have qi:=hc k cM;have ql:=qi.2.1 E;obtain⟨x,hx⟩:=eX (W.db.oo.getD (cl.getD k lY).index.toNat 0);obtain⟨_,x1,f',c,t,cf,bk,q,cq,h6,h2,h3,e0,e4,et,⟨cx,hq⟩,_⟩:=D.cu.im.oo D.cu.cQ D.cu.len D.cu.gd P.l4 ai (a:=(cl.getD k lY).index.toNat) (x:=x) (by rw[<-aj];omega) (by rw[<-aj,hx]);have ef:f'=f:=by have:=hf;rw[<-D.PN (6,W.cQ,m) dC,h6]at this;simpa[im.ptr]using this
  subst ef;have bl:∀b,eY W G R1 b->some b≠(Value.slice av k cv).ownBlock:=λb hb e=>(D.ne b hb).2 e.symm;have o0:∀b,eY W G R b->some b≠(Value.slice av k cv).ownBlock:=λb hb e=>by have:=eY.lt h.im hb;have:=(D.new b e.symm).1;omega
  have g2:eY W G R c:=.row (t:=(2,W.db.fn,0)) ⟨ai,rfl⟩ (by rw[<-D.PN (2,_,0) dC,h2];rfl);have g3:eY W G R t:=.row (t:=(3,W.db.fn,0)) ⟨ai,rfl⟩ (by rw[<-D.PN (3,_,0) dC,h3];rfl);refine⟨c,t,cq,q,_,e0,aj▸e4,et,o0,⟨aF,g2,g3⟩,D.own,λY av' cv' w4 hY hA=>?_⟩;rw[hJ];have xk:(cl.map (wE W)).getD k 0=x:=by rw[cB,ed,cG cM,kP,qQ];unfold wE;rw[show cl[k]=cl.getD k lY by rw[cB,cG cM];rfl,cR E,hx]
  exact⟨R1,D.gY p4 (XL▸hk) xk D.cu (λ_ _=>rfl) x1 (λ_=>rfl) (λ_ _=>rfl) (Kp.refl _ _) hY (by rw[show im.ptr (hd R1 (0,x,0))=zP q by unfold hd;rw[hq];rfl];exact hA)⟩
 have SL:Hid (∀bc k av cv wr,J bc k av cv wr->k<n->(cl.getD k lY).up=false->∃us,∀X,zB wr X->zC 160 #[zP f,zI ((cl.getD k lY).index.toNat:Int)] X λe O=>∃q,e=.returned (zP q)/\(∀k',wr.heap.size<=k'\/k'=bc->k'<X.heap.size->O.heap[k']?=X.heap[k']?)/\cJ<=O.heap.size/\X.heap.size<=O.heap.size/\O.ownsRow cJ 195 1 (.slice av k cv) k us/\∀Y av' cv' w4,zB O Y->sd 195 1 Y cJ av k cv (us++[zP q]) av' (k+1) cv' w4->J bc (k+1) av' cv' (w4.setCell (zA bc 4) (.slice av' (k+1) cv'))):=λbc k av cv wr j hk E=>by
  rw[hJ]at j;obtain⟨R1,D⟩:=j;have qi:=hc k cM;have ql:=qi.2.2 E;obtain⟨x,hx⟩:=eX (W.db.da.getD (cl.getD k lY).index.toNat 0);refine⟨((cl.map (wE W)).take k).map λx=>im.ptr (hd R1 (0,x,0)),λX hX=>?_⟩;have fx:=D.below hX;have va:=uW fx.cu (a:=(cl.getD k lY).index.toNat) (x:=x) cM cM hx.symm (hx▸aq _ (qX cM));rw[D.PN (6,W.cQ,m) dC,hf]at va;refine va.mono ?_;rintro e O ⟨R2,q,cq,rfl,c2,n2,v2,d2,k2,e2,o2⟩;refine⟨q,rfl,λk' a9 hl=>k2.kg k' hl (λq=>?_),cV fx.cu.bs k2.size,k2.size,jm fx.own λb e=>k2.kg b (fx.own.lt b e).2 (λq=>(fx.ne b q).2 e),λY av' cv' w4 hY hA=>?_⟩
  .obtain r|r:=a9
   .have:=eY.lt D.cu.im q;omega
   .exact(fx.ne k' q).1 r
  .rw[hJ];have xk:(cl.map (wE W)).getD k 0=x:=by
    rw[cB,ed,cG cM,kP,qQ];unfold wE;rw[show cl[k]=cl.getD k lY by rw[cB,cG cM];rfl,cK (by rw[E];simp),hx]
   exact⟨R2,fx.gY p4 (XL▸hk) xk c2 d2 n2 e2 o2 k2 hY (by rw[show im.ptr (hd R2 (0,x,0))=zP q by unfold hd;rw[v2];rfl];exact hA)⟩
 have BS:Hid (∀bc k av cv wr,J bc k av cv wr->cJ<=wr.heap.size):=λbc k av cv wr j=>by rw[hJ]at j;obtain⟨R1,D⟩:=j;exact D.cu.bs
 have bb:Hid (∀bc k av cv wr,J bc k av cv wr->∀{b:Nat},wr.heap.size<=b->some b≠(Value.slice av k cv).ownBlock):=λbc k av cv wr j b hb e=>by rw[hJ]at j;obtain⟨R1,D⟩:=j;have:=(D.own.lt b e.symm).2;omega
 have NU:=cO aD;have CC:=cO (λk (hk:k<n)=>aM k cM);have IX:Hid (∀k,k<n->(cl.getD k lY).index=((cl.getD k lY).index.toNat:Int)/\((cl.getD k lY).up=true->(cl.getD k lY).index.toNat<W.db.oo.length)):=λk hk=>⟨by have:=(hc k cM).1;omega,λu=>by have:=(hc k cM).2.1 u;have:=(hc k cM).1;omega⟩
 rw[p9,hf];have bm:n<=100:=cM;have c0:=CP 0 (zI q0) (by rw[I];rfl);have c1:=CP 1 (zI q1) (by rw[I];rfl);have c2:=CP 2 (.slice ac n cc) (by rw[I];rfl);have c3:=CP 3 (.slice ad nd cd) (by rw[I];rfl);have aP:(a:Int)<(p.cU.length:Int):=cM;obtain⟨np,aQ⟩:∃n,n=p.cU.length:=⟨_,rfl⟩
 rw[<-aQ]at C0 aI aP;have bd:∃d:Option Addr,True:=⟨none,trivial⟩
 clear hJ aQ h F ah P ha aC hn ai aj aD a0 aq aE hc ag h9 c9 f9 a1 aF p9 aH aJ I aM a3 ar aN aO aL aB p4 CP bd HC XL hf;go_enter func112,ntmps112;go_upto_region 1 with fail;refine dx λw1 au=>?_;have B1:Hid (zB w w1):=au▸ba;have x1:zE w1 w.heap.size 1 (zI (a:Int)):=au▸(Lc.new (S:=λ_=>False) w (λ_ h=>h.elim) _ _).cell rfl;clear au;replace c0:=di c0 B1;replace c1:=di c1 B1;replace c2:=di c2 B1;replace c3:=di c3 B1;have cp:=di C0 B1;rw[eD]at c0;obtain⟨i0,aR,aS,aT,aU⟩:=fQ (show(Tryz.prog.info? 195).map (λi=>(i.zero,i.size,i.bytes))=some (some (.pointer none),1,8) by kernel_rfl);refine uZ 9 ?_;simp only[List.take,List.drop];repeat(go_big_quiet_step(fail))
 refine wpQuiet_nil ?_;go_upto_region 2 with fail;refine dx λw2 aw=>?_;have J2:Hid (J w1.heap.size 0 none 0 w2):=aw▸JS w1.drew B1.drew;have bx:=(CB _ _ _ _ _ J2).2.2.2.2.1;have B2:Hid (zB w w2):=aw▸B1.drew.alloc B1.drew.size _;clear aw c0 c1 c2 c3 cp x1 JS aP aI;go_wp2;go_loopw[25] (λx wr=>∃k:Nat,k<=n/\x=zI (k:Int)/\Hid (∃av cv,J w1.heap.size k av cv wr)) (λx _=>n-(intOf x).toNat)
 case atStart=>exact⟨0,dM _,rfl,⟨none,0,J2⟩⟩
 case round=>
  obtain⟨k,hk,rfl,JK⟩:=hrel;obtain⟨av,cv,jk⟩:=JK;have JK:=cO jk;clear jk bx;by_cases ak:k<n
  .have bi:(k:Int)<(n:Int):=cM;obtain⟨ax,bn,al,b4,b2,bf,am,JB⟩:=CB _ _ _ _ _ JK;obtain⟨cb,co,rfl,ae,K⟩:=CC k ak;replace ae:=di ae ax;replace K:=di K ax;have ix:=IX k ak;replace JB:=cO JB;clear ax;cases E:(cl.getD k lY).up with
   |true=>
    rw[E]at ae;obtain⟨c,t,bo,q,us,f0,c4,tq,o0,⟨gf,gc,gt⟩,own,ay⟩:=UP _ _ _ _ _ JK ak E;have aV:=ix.2 E;rw[ix.1]at K;obtain⟨id,M⟩:∃i,i=(cl.getD k lY).index.toNat:=⟨_,rfl⟩
    rw[<-M]at K tq aV;have aW:(id:Int)<(W.db.oo.length:Int):=cM;obtain⟨nu,aX⟩:∃i,i=W.db.oo.length:=⟨_,rfl⟩
    rw[<-aX]at c4 aW;have bp:(nu:Int)<=1000:=by have:=NU.out;omega
    replace ay:=cO ay;have HO:=cO own;have O0:=cO o0;have af:=cO am;clear E ix UP SL FN own o0 M aV aX;go_upto_region 6 with fail;refine dx λw5 aa=>?_;have B5:Hid (zB wr w5):=aa▸ba;have i5:zE w5 wr.heap.size 1 (zI (id:Int)):=aa▸(Lc.new (S:=λ_=>False) wr (λ_ h=>h.elim) _ _).cell rfl;clear aa;obtain⟨S,hS⟩:=eX (fI w5 (Value.slice av k cv).ownBlock);have y1:=Wd.ce hS (di b4 B5) af;have y2:=Wd.ce hS (di f0 B5) (O0 f gf);have y3:=Wd.ce hS (di c4 B5) (O0 c gc);have y4:=Wd.ce hS (di tq B5) (O0 t gt);have y5:=Wd.ce hS i5 (λe=>by have:=(HO.lt _ e.symm).2;omega);have HS:=cO hS;have be:=cO b4;clear hS b4 f0 c4 tq i5 ae K am b2;haveI:=pz HS;refine uq S 16 2 (HS▸(fI.refl _ _).drew) ?_;simp only[List.take,List.drop];repeat(go_big_quiet_step(fail))
    refine wpQuiet_nil ?_;refine dI ?_;go_wp2;refine⟨HS▸(fI.refl _ _).drew.alloc _,?_⟩;refine dI ?_;clear y1 y2 y3 y4 y5;refine gJ λO ab=>?_;have B3:Hid (zB w5 O):=ab▸(ba).drew;have az:Hid (∀j u,([zP q]:List Value)[j]?=some u->O.cell? (((zA w5.heap.size 0):Addr).add j)=some u):=by rw[ab];intro j u E;rw[iK,dU];exact Lc.cell (S:=λ_=>False) (cs:=#[zP q]) ⟨λh=>h,dJ w5 _⟩ (by simpa using E)
    clear ab;have BR:=cO (iy B5 B3);have aA:=cO (jm HO λb e=>BR.block b (HO.lt b e).2);refine eI rfl _ _ _ rfl 195 i0 (.pointer none) 1 8 DE aR aS aT aU rfl cM cJ av k cv us rfl aA (some (zA w5.heap.size 0)) 1 1 [zP q] rfl rfl (λ_=>⟨_,rfl,az⟩) (by intro u E;simp only[eQ,eh,iw]at E;rw[E];rfl) (by unfold maxLen;omega) cM (cV (BS _ _ _ _ _ JK) BR.size) ?_;intro av' cv' w6 hA;have J6:=cO (ay _ _ _ _ BR hA);have S6:=cO ((fI.below (row:=(Value.slice av k cv).ownBlock) BR).grown hA.jz);have S7:=cO ((fI.below (row:=(Value.slice av k cv).ownBlock) B3).grown hA.jz);have d4:=S6.cell be af;have f4:=(dA (a:=(zA w1.heap.size 4)) (S6.block _ al af)).trans bf;clear hA;refine lK ?_;refine⟨HS▸S7,?_⟩;refine ej ?_;go_wp2;go_roundw
    case rel=>exact⟨k+1,cM,l9,⟨_,_,J6⟩⟩
    case measure=>simp[intOf];omega
   |false=>
    rw[E]at ae;obtain⟨us,an⟩:=SL _ _ _ _ _ JK ak E;rw[ix.1]at K;obtain⟨id,M⟩:∃i,i=(cl.getD k lY).index.toNat:=⟨_,rfl⟩
    rw[<-M]at K an;replace an:=cO an;have af:=cO am;clear E ix UP SL FN M;go_upto_region 7 with fail;refine dx λw5 aa=>?_;have B5:Hid (zB wr w5):=aa▸ba;have L5:Hid (Lc (λ_=>False) w5 wr.heap.size #[.bool false,zI (id:Int)] 102):=aa▸Lc.new wr (λ_ h=>h.elim) _ _;clear aa;obtain⟨S,hS⟩:=eX (λX:World=>zE X w1.heap.size 4 (.slice av k cv)/\zE X wr.heap.size 1 (zI (id:Int)));have un:∀X,S X->zE X w1.heap.size 4 (.slice av k cv)/\zE X wr.heap.size 1 (zI (id:Int)):=λX q=>by rw[hS]at q;exact q
    have y1:=λx:Wd S=>(un _ x.ok).1;have y2:=λx:Wd S=>(un _ x.ok).2;have MK:Hid (∀X:World,zE X w1.heap.size 4 (.slice av k cv)->zE X wr.heap.size 1 (zI (id:Int))->S X):=λX q1 q2=>hS▸⟨q1,q2⟩;have a4:=cO (di b4 B5);clear hS un b4 ae K am b2;haveI:Nonempty (Wd S):=⟨⟨w5,MK _ a4 (L5.cell rfl)⟩⟩
    refine Cg S [0,1,2,3,4,5,6,7] [8,9,10] [11,12,13] (MK _ a4 (L5.cell rfl)) ?_;simp only[pick,ey,eB,eL,eM,dt,dG];repeat(go_big_quiet_step(fail))
    refine wpQuiet_nil ?_;clear y1 y2;refine dI ?_;go_wp2_with(go_at_call 160;refine cA (an _ B5.drew) ?_;rintro e w6 ⟨q,rfl,kk,aY,bq,ap,aZ⟩;have L6:=cO (show Lc (λ_=>False) w6 wr.heap.size #[.bool false,zI (id:Int)] 102 from⟨λh=>h,(kk _ (.inl (cE _)) L5.lt).trans L5.2⟩);have a6:=cO ((dK (a:=(zA w1.heap.size 4)) (kk _ (.inr rfl) (dj al B5.size))).trans a4);have f6:=cO ((dA (a:=(zA w1.heap.size 4)) ((kk _ (.inr rfl) (dj al B5.size)).trans (B5.block _ al))).trans bf);have bg:=cO aY;have O6:=cO ap;have NX:=cO aZ;clear kk aY ap aZ)
    refine⟨MK _ a6 (L6.cell rfl),?_⟩;refine dI ?_;go_wp2;refine⟨MK _ (fJ a6) (fJ (L6.cell rfl)),?_⟩;refine dI ?_;refine gJ λO ab=>?_;have B3:Hid (zB w6 O):=ab▸ba;have az:Hid (∀j u,([zP q]:List Value)[j]?=some u->O.cell? (((zA w6.heap.size 0):Addr).add j)=some u):=by rw[ab];intro j u E;rw[iK,dU];exact Lc.cell (S:=λ_=>False) (cs:=#[zP q]) ⟨λh=>h,dJ w6 _⟩ (by simpa using E)
    clear ab;have aA:=cO (jm O6 λb e=>B3.block b (O6.lt b e).2);refine eI rfl _ _ _ rfl 195 i0 (.pointer none) 1 8 DE aR aS aT aU rfl cM cJ av k cv us rfl aA (some (zA w6.heap.size 0)) 1 1 [zP q] rfl rfl (λ_=>⟨_,rfl,az⟩) (by intro u E;simp only[eQ,eh,iw]at E;rw[E];rfl) (by unfold maxLen;omega) cM (cV bg B3.size) ?_;intro av' cv' w7 hA;have J7:=cO (NX _ _ _ _ B3 hA);have S7:=cO ((fI.below (row:=(Value.slice av k cv).ownBlock) B3).grown hA.jz);have d4:=S7.cell a6 af;have bh:=dy _ _ a6;have f4:=(dA (a:=(zA w1.heap.size 4)) (S7.block _ bh af)).trans f6;have d1:=S7.cell (L6.cell (j:=1) rfl) (bb _ _ _ _ _ JK (cE _));clear hA;refine lK ?_;refine⟨MK _ d4 d1,?_⟩;refine ej ?_;go_wp2;go_roundw
    case rel=>exact⟨k+1,cM,l9,⟨_,_,J7⟩⟩
    case measure=>simp[intOf];omega
  .obtain rfl:k=n:=cM;have F1:=cO (FN _ _ _ _ JK);clear FN;go_wp2_with(first
    |(go_at_call 162;refine cA F1 ?_;rintro e O ⟨rfl,q3⟩;have Q3:=cO q3;clear q3)
    |(go_at_call 159;refine cA Q3 ?_;rintro e w4 ⟨⟨x,rfl⟩,q4⟩;have Q4:=cO q4;clear q4))
   go_returns;exact⟨⟨_,rfl⟩,Q4⟩
end
end im
end Go.Proofs.YtfpkdfeakanlpaaGreatDoor
