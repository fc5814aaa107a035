import Derived.Handy
import Derived.Deep.RegionHeld3
import Derived.Test.YtfpkdfeakanlpaaGreatDoorMPgSz
set_option linter.all false
set_option maxRecDepth 100000
set_option maxHeartbeats 8000000
namespace Go.Proofs.YtfpkdfeakanlpaaGreatDoor
open Go.Proofs.Tryz
namespace pg
open RowKit bts
variable{d:Cn}{l:List Cn}{zs:List Int}{us xs:List Value}{B D E F H H' X b c g i j k n o:Nat}{T:TypeId}{u v:Value}{a w w':World}
def wH(w:World)(B:Nat)(v:Value)(zs:List Int):Prop:=∃g,v=.slice (some ⟨g,0,none⟩) zs.length zs.length/\w.ownsRow B 5 1 (.slice (some ⟨g,0,none⟩) zs.length zs.length) zs.length (jh zs)
def UX(us:List Value)(j:Nat)(d:In):Prop:=us[j*3]?=some (.int .i64 d.op)/\us[j*3+1]?=some (.int .i64 d.a)/\us[j*3+2]?=some (.int .i64 d.b)
def UY(us:List Value)(j:Nat)(d:Cp):Prop:=us[j*2]?=some (.bool d.up)/\us[j*2+1]?=some (.int .i64 d.index)
def vV(w:World)(B:Nat)(v:Value)(l:List In):Prop:=
 ∃(g:Nat)(h:List Value),v=.slice (some ⟨g,0,none⟩) l.length l.length/\w.ownsRow B 105 3 (.slice (some ⟨g,0,none⟩) l.length l.length) l.length h/\∀j,j<l.length->UX h j (l.getD j jI)
def tZ(w:World)(B:Nat)(v:Value)(l:List Cp):Prop:=
 ∃(g:Nat)(h:List Value),v=.slice (some ⟨g,0,none⟩) l.length l.length/\w.ownsRow B 102 2 (.slice (some ⟨g,0,none⟩) l.length l.length) l.length h/\∀j,j<l.length->UY h j (l.getD j lY)
def zu(w:World)(B:Nat)(us:List Value)(j:Nat)(d:Cn):Prop:=
 ∃h,us[j*3]?=some (.bool d.pB)/\us[j*3+1]?=some (.int .i64 d.n)/\us[j*3+2]?=some h/\wH w B h d.oy
def zn(w:World)(B:Nat)(us:List Value)(j:Nat)(d:Pr):Prop:=
 ∃h D,us[j*4]?=some (.int .i64 d.params)/\us[j*4+1]?=some (.int .i64 d.da)/\us[j*4+2]?=some h/\us[j*4+3]?=some D/\tZ w B h d.fP/\vV w B D d.dw
def zo(w:World)(B:Nat)(v:Value)(l:List Cn):Prop:=
 ∃(g:Nat)(h:List Value),v=.slice (some ⟨g,0,none⟩) l.length l.length/\w.ownsRow B 96 3 (.slice (some ⟨g,0,none⟩) l.length l.length) l.length h/\∀j,j<l.length->zu w (g+1) h j (l.getD j mU)
def FB(w:World)(B:Nat)(v:Value)(l:List Pr):Prop:=
 ∃(g:Nat)(h:List Value),v=.slice (some ⟨g,0,none⟩) l.length l.length/\w.ownsRow B 100 4 (.slice (some ⟨g,0,none⟩) l.length l.length) l.length h/\∀j,j<l.length->zn w (g+1) h j (l.getD j gu)
def nM(h:w.ownsRow B E c v n us)(M:F<=B):w.ownsRow F E c v n us:=by
 obtain⟨I,J⟩:=h;refine⟨I,?_⟩;obtain h|⟨K,c,D,L,O,r⟩:=J
 .exact .inl h
 .exact .inr ⟨K,c,D,L,cM,r⟩
def wH.below{l:List Int}(h:wH w B v l)(E:Below X w w')(F:w.heap.size<=X):wH w' B v l:=by obtain⟨g,e,D⟩:=h;exact⟨g,e,km D E (dj (D.lt g rfl).2 F)⟩
def wH.store{l:List Int}(h:wH w B v l)(D:b<B):wH (w.setCell ⟨b,o,none⟩ u) B v l:=by obtain⟨g,e,E⟩:=h;exact⟨g,e,nY E D u⟩
def wH.oh{l:List Int}(h:wH w B v l)(E:D<=B):wH w D v l:=by obtain⟨g,e,F⟩:=h;exact⟨g,e,nM F E⟩
def vV.below{l:List In}(h:vV w B v l)(E:Below X w w')(F:w.heap.size<=X):vV w' B v l:=by obtain⟨g,I,e,D,J⟩:=h;exact⟨g,I,e,km D E (dj (D.lt g rfl).2 F),J⟩
def vV.store{l:List In}(h:vV w B v l)(D:b<B):vV (w.setCell ⟨b,o,none⟩ u) B v l:=by obtain⟨g,E,e,F,I⟩:=h;exact⟨g,E,e,nY F D u,I⟩
def vV.oh{l:List In}(h:vV w B v l)(E:D<=B):vV w D v l:=by obtain⟨g,F,e,I,J⟩:=h;exact⟨g,F,e,nM I E,J⟩
def tZ.below{l:List Cp}(h:tZ w B v l)(E:Below X w w')(F:w.heap.size<=X):tZ w' B v l:=by obtain⟨g,I,e,D,J⟩:=h;exact⟨g,I,e,km D E (dj (D.lt g rfl).2 F),J⟩
def tZ.store{l:List Cp}(h:tZ w B v l)(D:b<B):tZ (w.setCell ⟨b,o,none⟩ u) B v l:=by obtain⟨g,E,e,F,I⟩:=h;exact⟨g,E,e,nY F D u,I⟩
def tZ.oh{l:List Cp}(h:tZ w B v l)(E:D<=B):tZ w D v l:=by obtain⟨g,F,e,I,J⟩:=h;exact⟨g,F,e,nM I E,J⟩
def wH.rd(h:wH w B v zs)(D:OA zs)(E:zs.length<=9223372036854775807):AB w v zs:=by obtain⟨g,e,F⟩:=h;exact⟨_,_,e,E,Rd.own F,D⟩
def vV.rd{l:List In}(h:vV w B v l)(E:l.length<=9223372036854775807):qO w v l:=by
 obtain⟨g,M,e,D,F⟩:=h;refine⟨_,_,e,E,λi I=>?_⟩;obtain⟨J,K,L⟩:=F i I;refine⟨g,0,rfl,?_,?_,?_⟩
 .rw[dU,D.cellAt _ cM,J]
 .rw[dU,D.cellAt _ cM,K]
 .rw[dU,D.cellAt _ cM,L]
def tZ.rd{l:List Cp}(h:tZ w B v l)(E:l.length<=9223372036854775807):qk w v l:=by
 obtain⟨g,L,e,D,F⟩:=h;refine⟨_,_,e,E,λi I=>?_⟩;obtain⟨J,K⟩:=F i I;refine⟨g,0,rfl,?_,?_⟩
 .rw[dU,D.cellAt _ cM,J]
 .rw[dU,D.cellAt _ cM,K]
def zu.below(h:zu w B us j d)(D:Below X w w')(E:w.heap.size<=X):zu w' B us j d:=by obtain⟨F,I,J,K,L⟩:=h;exact⟨F,I,J,K,L.below D E⟩
def zu.store(h:zu w B us j d)(D:b<B):zu (w.setCell ⟨b,o,none⟩ u) B us j d:=by obtain⟨E,F,I,J,K⟩:=h;exact⟨E,F,I,J,K.store D⟩
def zu.qG(h:zu w B us j d)(F:¬k=j)(I:i<3):zu w B (us.set (k*3+i) u) j d:=by obtain⟨D,J,K,L,E⟩:=h;refine⟨D,?_,?_,?_,E⟩;all_goals rw[dm cM];assumption
def zn.below{d:Pr}(h:zn w B us j d)(D:Below X w w')(E:w.heap.size<=X):zn w' B us j d:=by obtain⟨F,I,J,K,L,M,O,o1⟩:=h;exact⟨F,I,J,K,L,M,O.below D E,o1.below D E⟩
def zn.store{d:Pr}(h:zn w B us j d)(D:b<B):zn (w.setCell ⟨b,o,none⟩ u) B us j d:=by obtain⟨E,F,I,J,K,L,M,O⟩:=h;exact⟨E,F,I,J,K,L,M.store D,O.store D⟩
def zn.qG{d:Pr}(h:zn w B us j d)(J:¬k=j)(K:i<4):zn w B (us.set (k*4+i) u) j d:=by obtain⟨D,E,L,M,O,h3,F,I⟩:=h;refine⟨D,E,?_,?_,?_,?_,F,I⟩;all_goals rw[dm cM];assumption
def zo.below(h:zo w B v l)(D:Below X w w')(E:w.heap.size<=X):zo w' B v l:=by obtain⟨g,I,e,F,h⟩:=h;exact⟨g,I,e,km F D (dj (F.lt g rfl).2 E),λi J=>(h i J).below D E⟩
def zo.store(h:zo w B v l)(E:b<B):zo (w.setCell ⟨b,o,none⟩ u) B v l:=by obtain⟨g,F,e,D,h⟩:=h;have J:=(D.lt g rfl).1;exact⟨g,F,e,nY D E u,λi I=>(h i I).store cM⟩
def zo.oh(h:zo w B v l)(E:D<=B):zo w D v l:=by obtain⟨g,F,e,I,h⟩:=h;exact⟨g,F,e,nM I E,h⟩
def FB.store{l:List Pr}(h:FB w B v l)(E:b<B):FB (w.setCell ⟨b,o,none⟩ u) B v l:=by obtain⟨g,F,e,D,h⟩:=h;have J:=(D.lt g rfl).1;exact⟨g,F,e,nY D E u,λi I=>(h i I).store cM⟩
def FB.oh{l:List Pr}(h:FB w B v l)(E:D<=B):FB w D v l:=by obtain⟨g,F,e,I,h⟩:=h;exact⟨g,F,e,nM I E,h⟩
def Wp(l:List Cn):Prop:=l.length<=9223372036854775807/\∀i,i<l.length->OA (l.getD i mU).oy/\(l.getD i mU).oy.length<=9223372036854775807
def Wo(l:List Pr):Prop:=l.length<=9223372036854775807/\∀i,i<l.length->(l.getD i gu).fP.length<=9223372036854775807/\(l.getD i gu).dw.length<=9223372036854775807
def lX.ok(h:lX w v l):Wp l:=by obtain⟨_,_,_,D,h⟩:=h;refine⟨D,λi E=>?_⟩;obtain⟨_,_,_,_,_,_,_,_,_,_,F,_,I⟩:=h i E;exact⟨I,F⟩
def kZ.ok{l:List Pr}(h:kZ w v l):Wo l:=by obtain⟨_,_,_,D,h⟩:=h;refine⟨D,λi E=>?_⟩;obtain⟨_,_,_,_,_,_,_,_,_,⟨_,_,_,F,_⟩,_,_,_,I,_⟩:=h i E;exact⟨F,I⟩
def zo.rd(h:zo w B v l)(ok:Wp l):lX w v l:=by
 obtain⟨g,O,e,D,F⟩:=h;refine⟨_,_,e,ok.1,λi E=>?_⟩;obtain⟨I,J,K,L,M⟩:=F i E;refine⟨g,0,I,rfl,?_,?_,?_,M.rd (ok.2 i E).1 (ok.2 i E).2⟩
 .rw[dU,D.cellAt _ cM,J]
 .rw[dU,D.cellAt _ cM,K]
 .rw[dU,D.cellAt _ cM,L]
def FB.rd{l:List Pr}(h:FB w B v l)(ok:Wo l):kZ w v l:=by
 obtain⟨g,us,e,D,F⟩:=h;refine⟨_,_,e,ok.1,λi E=>?_⟩;obtain⟨I,J,K,L,M,O,hc,hd⟩:=F i E;refine⟨g,0,I,J,rfl,?_,?_,?_,?_,hc.rd (ok.2 i E).1,hd.rd (ok.2 i E).2⟩
 .rw[dU,D.cellAt _ cM,K]
 .rw[dU,D.cellAt _ cM,L]
 .rw[dU,D.cellAt _ cM,M]
 .rw[dU,D.cellAt _ cM,O]
def Ni:(Tryz.prog.info? 105).map (λi=>(i.zero,i.size,i.bytes))=some (some (.agg #[.int .i64 0,.int .i64 0,.int .i64 0]),3,24):=gA
def Nk:(Tryz.prog.info? 102).map (λi=>(i.zero,i.size,i.bytes))=some (some (.agg #[.bool false,.int .i64 0]),2,16):=gA
def Hn:(Tryz.prog.info? 96).map (λi=>(i.zero,i.size,i.bytes))=some (some (.agg #[.bool false,.int .i64 0,.slice none 0 0]),3,40):=gA
def Hl:(Tryz.prog.info? 100).map (λi=>(i.zero,i.size,i.bytes))=some (some (.agg #[.int .i64 0,.int .i64 0,.slice none 0 0,.slice none 0 0]),4,64):=gA
def Jv(d:In)(w:World):
  zC 153 #[.agg (zW d.op d.a d.b)] w (zR w (.agg (zW d.op d.a d.b))):=by
 obtain⟨x,y,z⟩:=d;go_enter func153,ntmps153;go_wp2;go_returns;exact⟨rfl,by go_grown⟩
def Ad(d:Cp)(w:World):
  zC 152 #[.agg #[.bool d.up,zI d.index]] w (zR w (.agg #[.bool d.up,zI d.index])):=by
 obtain⟨x,y⟩:=d;go_enter func152,ntmps152;go_wp2;go_returns;exact⟨rfl,by go_grown⟩
def lq(T:TypeId)(c:Nat)(w:World)(g:Nat)(xs:List Value):Prop:=w.ownsRow 0 T c (.slice (some ⟨g,0,none⟩) 1 1) 1 xs
def lq.of(h:w.heap[g]?=some (.cells xs.toArray T (0,0)))(D:xs.length=c):lq T c w g xs:=by subst D;exact⟨cM,.inr ⟨g,1,_,rfl,dM _,h,cM,by unfold maxLen;omega,dC,dC⟩⟩
def lq.below(h:lq T c w g xs)(D:Below B w w')(E:g<B):lq T c w' g xs:=km h D E
def lq.set(h:lq T c w g xs)(j:Nat)(u:Value):lq T c (w.setCell ⟨g,j,none⟩ u) g (xs.set j u):=(World.ownsRow.stored h j u).1
def lq.at(h:lq T c w g xs)(D:j<c):w.cell? ⟨g,j,none⟩=xs[j]?:=World.ownsRow.cellAt h j cM
def lq.free(h:lq T c w g xs)(j:Nat):w.frozen? ⟨g,j,none⟩=false:=World.ownsRow.frozenAt h j
def lq.qG(h:lq T c w g xs)(J:¬b=g):lq T c (w.setCell ⟨b,o,none⟩ u) g xs:=by
 obtain⟨K,L⟩:=h;refine⟨K,?_⟩;obtain h|⟨D,c,E,F,I,M,r⟩:=L
 .exact .inl h
 .have e:D=g:=by simp at F;exact F.1.symm
  subst e;exact .inr ⟨D,c,E,F,I,(cZ w (zA b o) u D (λe=>J e.symm)).trans M,r⟩
def lq.Ds(h:lq T c w g xs):w.heap[g]?=some (.cells xs.toArray T (0,0)):=by
 have K:=h.1;obtain⟨h,_⟩|⟨L,cap,D,E,_,I,_,_,M,F⟩:=h.2
 .simp at h
 .simp only[de,dB,fC,and_true]at E;obtain⟨rfl,_,rfl⟩:=E;have J:D=xs.toArray:=by
   apply Xa.mp;rw[iI (by rw[mI];omega)]at F;simpa using F
  rw[I,J]
def Gm(v:Value)(l:List In)(w:World)(hr:qO w v l)(hs:l.length<=1048576):
  zC 93 #[v] w λe w'=>e=.returned (zS w.heap.size l.length l.length)/\vV w' w.heap.size (zS w.heap.size l.length l.length) l/\zB w w':=by
 obtain⟨i0,hi,ab,ac,ad⟩:=fQ Ni;obtain⟨ao,cap,rfl,_,hr⟩:=hr;have K:=hs;obtain⟨n,I⟩:=eX l.length;have HL:=cO I.symm;have ak:n<=1048576:=I▸K;rw[<-I];clear I hs K;have ae:n<=maxLen:=by unfold maxLen;omega
 go_enter func93,ntmps93;go_wp2_with(at_make;refine lH _ rfl _ _ 98 rfl w.heap.size 105 i0 (.agg (zW 0 0 0)) 3 underlying98 hi ab ac .i64 .i64 _ _ n rfl rfl rfl rfl (by rw[ad];omega) ae (cE _) ?_;intro w1 h E)
 have F:=(cN _ _).grown E (cE _) (by intro k hk;cases hk);go_loopw[4] (λi wr=>∃(k:Nat)(J:List Value),k<=n/\i=zI k/\wr.ownsRow w.heap.size 105 3 (zS w.heap.size n n) n J/\(∀j,j<k->UX J j (l.getD j jI))/\zB w wr) (λi _=>n-(intOf i).toNat)
 case atStart=>exact⟨0,_,dM _,rfl,h,λj hj=>absurd hj cM,F⟩
 case round=>
  clear h E F;obtain⟨k,J,hk,rfl,h,L,hb⟩:=hrel;have af:=(h.lt w.heap.size rfl).2;by_cases ag:k<n
  .obtain⟨b,off,rfl,c0,c1,c2⟩:=(Lm.below hr hb) k (HL▸ag);obtain⟨d,hd⟩:=eX (l.getD k jI);rw[<-hd]at c0 c1 c2;have HD:=cO hd.symm;clear hd;have C:=Jv d wr;go_wp2_with fail;refine C.mono ?_;rintro e w1 ⟨rfl,F⟩;clear C;have D:=km h F af;have ah:=D.1;have f0:=D.frozenAt (k*3);have f1:=D.frozenAt (k*3+1);have f2:=D.frozenAt (k*3+2);have e0:=D.cellAt (k*3) cM;have e1:=D.cellAt (k*3+1) cM;have e2:=D.cellAt (k*3+2) cM;obtain⟨u0,M⟩:∃u,J[k*3]?=some u:=⟨_,cG cM⟩
   rw[M]at e0;obtain⟨u1,O⟩:∃u,J[k*3+1]?=some u:=⟨_,cG cM⟩
   rw[O]at e1;obtain⟨u2,aa⟩:∃u,J[k*3+2]?=some u:=⟨_,cG cM⟩
   rw[aa]at e2;clear M O aa;go_wp2;go_roundw
   case rel=>
    have s0:=D.stored (k*3) (zI d.op);have s1:=s0.1.stored (k*3+1) (zI d.a);have s2:=s1.1.stored (k*3+2) (zI d.b);have ai:=iy hb F;refine⟨k+1,_,cM,l9,s2.1,?_,(((ai.setCell (cE _) _).setCell (cE _) _).setCell (cE _) _)⟩;intro j hj;have hl:=ah;by_cases e:j=k
    .subst e;rw[HD.out];refine⟨?_,?_,?_⟩
     .rw[dm cM,dm cM,dP (by first|omega|(simp only[df];omega))]
     .rw[dm cM,dP (by first|omega|(simp only[df];omega))]
     .rw[dP (by first|omega|(simp only[df];omega))]
    .obtain⟨h0,h1,h2⟩:=L j cM;refine⟨?_,?_,?_⟩;all_goals
      repeat rw[dm cM]
      assumption
   case measure=>simp[intOf];omega
  .have aj:k=n:=cM;subst aj;go_wp2;go_ret;refine⟨rfl,⟨w.heap.size,J,by rw[HL],HL▸h,λi hi=>L i (by rw[<-HL];exact hi)⟩,hb⟩
def yg(v:Value)(l:List Cp)(w:World)(hr:qk w v l)(hs:l.length<=1048576):
  zC 92 #[v] w λe w'=>e=.returned (zS w.heap.size l.length l.length)/\tZ w' w.heap.size (zS w.heap.size l.length l.length) l/\zB w w':=by
 obtain⟨i0,hi,aa,ab,ac⟩:=fQ Nk;obtain⟨ao,cap,rfl,_,hr⟩:=hr;have K:=hs;obtain⟨n,I⟩:=eX l.length;have HL:=cO I.symm;have aj:n<=1048576:=I▸K;rw[<-I];clear I hs K;have ad:n<=maxLen:=by unfold maxLen;omega
 go_enter func92,ntmps92;go_wp2_with(at_make;refine lH _ rfl _ _ 97 rfl w.heap.size 102 i0 (.agg #[.bool false,zI 0]) 2 underlying97 hi aa ab .i64 .i64 _ _ n rfl rfl rfl rfl (by rw[ac];omega) ad (cE _) ?_;intro w1 h E)
 have F:=(cN _ _).grown E (cE _) (by intro k hk;cases hk);go_loopw[4] (λi wr=>∃(k:Nat)(J:List Value),k<=n/\i=zI k/\wr.ownsRow w.heap.size 102 2 (zS w.heap.size n n) n J/\(∀j,j<k->UY J j (l.getD j lY))/\zB w wr) (λi _=>n-(intOf i).toNat)
 case atStart=>exact⟨0,_,dM _,rfl,h,λj hj=>absurd hj cM,F⟩
 case round=>
  clear h E F;obtain⟨k,J,hk,rfl,h,L,hb⟩:=hrel;have ae:=(h.lt w.heap.size rfl).2;by_cases af:k<n
  .obtain⟨b,off,rfl,c0,c1⟩:=(Ox.below hr hb) k (HL▸af);obtain⟨d,hd⟩:=eX (l.getD k lY);rw[<-hd]at c0 c1;have HD:=cO hd.symm;clear hd;have C:=Ad d wr;go_wp2_with fail;refine C.mono ?_;rintro e w1 ⟨rfl,F⟩;clear C;have D:=km h F ae;have ag:=D.1;have f0:=D.frozenAt (k*2);have f1:=D.frozenAt (k*2+1);have e0:=D.cellAt (k*2) cM;have e1:=D.cellAt (k*2+1) cM;obtain⟨u0,M⟩:∃u,J[k*2]?=some u:=⟨_,cG cM⟩
   rw[M]at e0;obtain⟨u1,O⟩:∃u,J[k*2+1]?=some u:=⟨_,cG cM⟩
   rw[O]at e1;clear M O;go_wp2;go_roundw
   case rel=>
    have s0:=D.stored (k*2) (.bool d.up);have s1:=s0.1.stored (k*2+1) (zI d.index);have ah:=iy hb F;refine⟨k+1,_,cM,l9,s1.1,?_,((ah.setCell (cE _) _).setCell (cE _) _)⟩;intro j hj;have hl:=ag;by_cases e:j=k
    .subst e;rw[HD.out];refine⟨?_,?_⟩
     .rw[dm cM,dP (by first|omega|(simp only[df];omega))]
     .rw[dP (by first|omega|(simp only[df];omega))]
    .obtain⟨h0,h1⟩:=L j cM;refine⟨?_,?_⟩;all_goals
      repeat rw[dm cM]
      assumption
   case measure=>simp[intOf];omega
  .have ai:k=n:=cM;subst ai;go_wp2;go_ret;refine⟨rfl,⟨w.heap.size,J,by rw[HL],HL▸h,λi hi=>L i (by rw[<-HL];exact hi)⟩,hb⟩
def DP(k:Bool)(n:Int)(ut:Value)(t:List Int)(w:World)(ht:AB w ut t)(hs:t.length<=1048576):
  Calls Tryz.prog 54 #[.agg #[.bool k,.int .i64 n,ut]] w λe F=>∃I,e=.returned (.agg #[.bool k,.int .i64 n,I])/\wH F w.heap.size I t/\Below w.heap.size w F:=by
 obtain⟨J,cap,rfl,_,hr,_⟩:=ht;have CT:Hid (∀W,Below w.heap.size w W->Calls Tryz.prog 26 #[.slice J t.length cap] W λe F=>e=.returned (zS W.heap.size t.length t.length)/\wH F W.heap.size (zS W.heap.size t.length t.length) t/\Below W.heap.size W F):=by intro W hW;refine(wM J cap t W (hr.below hW) cM).mono ?_;rintro e F ⟨h1,h2,h3⟩;exact⟨h1,⟨_,rfl,h2⟩,h3⟩
 clear hr hs;go_enter func54,ntmps54;go_wp2_with fail;refine(CT _ (by go_grown)).mono ?_;rintro e K ⟨rfl,D,h⟩;simp only[dk]at D h|-;have M:Hid (Below w.heap.size w K):=jW (by go_grown) (h.mono cM);have L:Hid (lq 96 3 K (w.heap.size+1+1) [.bool k,zI n,zN]):=by refine lq.of ((h.block _ cM).trans ?_) rfl;have:=dJ ((w.alloc (Obj.cells #[.bool k,Value.int IntKind.i64 n,.slice J t.length cap] 90)).alloc (Obj.cells #[.bool false,Value.int IntKind.i64 0,Value.slice none 0 0] 96)) (Obj.cells #[.bool k,Value.int IntKind.i64 n,Value.slice none 0 0] 96);simpa only[dk]using this
 have E:Hid (lq 96 3 K (w.heap.size+1) [.bool false,zI 0,zN]):=by refine lq.of ((h.block _ cM).trans ?_) rfl;rw[iZ _ _ ti];have:=dJ (w.alloc (Obj.cells #[.bool k,Value.int IntKind.i64 n,.slice J t.length cap] 90)) (Obj.cells #[.bool false,Value.int IntKind.i64 0,Value.slice none 0 0] 96);simpa only[dk]using this
 have O:Hid (wH K (w.heap.size+1+1+1) (zS (w.heap.size+1+1+1) t.length t.length) t):=D;have aa:=L.free 2;have c0:=L.at (j:=0) cM;have c1:=L.at (j:=1) cM;have c2:=L.at (j:=2) cM;have g0:=E.free 0;have g1:=E.free 1;have g2:=E.free 2;have m0:=E.at (j:=0) cM;have m1:=E.at (j:=1) cM;have m2:=E.at (j:=2) cM;simp only[kO,mK]at c0 c1 c2 m0 m1 m2;clear D h;go_wp2_with fail;have MG:=(((E.qG (b:=w.heap.size+1+1) (o:=2) (u:=zS (w.heap.size+1+1+1) t.length t.length) cM).set 0 (.bool k)).set 1 (zI n)).set 2 (zS (w.heap.size+1+1+1) t.length t.length);refine eS (kl results54 _ _ (w.heap.size+1) 96 _ _ _ rfl (lq.Ds MG) underlying96 rfl rfl) rfl ?_;refine⟨_,rfl,?_,?_⟩
 .exact wH.oh (B:=w.heap.size+1+1+1) (wH.store (wH.store (wH.store (wH.store O cM) cM) cM) cM) cM
 .have P1:w.heap.size<=w.heap.size+1+1:=cM;have P2:w.heap.size<=w.heap.size+1:=cM;exact(((M.setCell (p:=(zA (w.heap.size+1+1) 2)) P1 _).setCell (p:=(zA (w.heap.size+1) 0)) P2 _).setCell (p:=(zA (w.heap.size+1) 1)) P2 _).setCell (p:=(zA (w.heap.size+1) 2)) P2 _
def DO(k n:Int)(uc ud:Value)(c:List Cp)(d:List In)(w:World)(hc:qk w uc c)(hd:qO w ud d)(hs:c.length+d.length<=1048576):
  Calls Tryz.prog 55 #[.agg #[.int .i64 k,.int .i64 n,uc,ud]] w λe I=>∃ac ad,e=.returned (.agg #[.int .i64 k,.int .i64 n,ac,ad])/\tZ I w.heap.size ac c/\vV I w.heap.size ad d/\Below w.heap.size w I:=by
 have CT:Hid (∀W,Below w.heap.size w W->Calls Tryz.prog 92 #[uc] W λe I=>e=.returned (zS W.heap.size c.length c.length)/\tZ I W.heap.size (zS W.heap.size c.length c.length) c/\Below W.heap.size W I):=
  λW hW=>yg uc c W (hc.below hW) cM
 have CN:Hid (∀W,Below w.heap.size w W->Calls Tryz.prog 93 #[ud] W λe I=>e=.returned (zS W.heap.size d.length d.length)/\vV I W.heap.size (zS W.heap.size d.length d.length) d/\Below W.heap.size W I):=
  λW hW=>Gm ud d W (hd.below hW) cM
 obtain⟨F,O⟩:=eX c.length;obtain⟨M,aa⟩:=eX d.length;rw[<-O]at CT;rw[<-aa]at CN;obtain⟨ao,cap,rfl,_,_⟩:=hc;obtain⟨bo,D,rfl,_,_⟩:=hd;rw[<-O]at CT|-;rw[<-aa]at CN|-;clear hs O aa;go_enter func55,ntmps55;go_wp2_with fail;refine(CT _ (by go_grown)).mono ?_;rintro e w1 ⟨rfl,ae,h⟩;simp only[dk]at ae h|-;have J:Hid (Below w.heap.size w w1):=jW (by go_grown) (h.mono cM);have L0:Hid (lq 100 4 w1 (w.heap.size+1+1) [zI k,zI n,zN,zN]):=by refine lq.of ((h.block _ cM).trans ?_) rfl;have:=dJ ((w.alloc (Obj.cells #[zI k,Value.int IntKind.i64 n,.slice ao F cap,.slice bo M D] 95)).alloc (Obj.cells #[zI 0,Value.int IntKind.i64 0,Value.slice none 0 0,Value.slice none 0 0] 100)) (Obj.cells #[zI k,Value.int IntKind.i64 n,Value.slice none 0 0,Value.slice none 0 0] 100);simpa only[dk]using this
 have M0:Hid (lq 100 4 w1 (w.heap.size+1) [zI 0,zI 0,zN,zN]):=by refine lq.of ((h.block _ cM).trans ?_) rfl;rw[iZ _ _ ti];have:=dJ (w.alloc (Obj.cells #[zI k,Value.int IntKind.i64 n,.slice ao F cap,.slice bo M D] 95)) (Obj.cells #[zI 0,Value.int IntKind.i64 0,Value.slice none 0 0,Value.slice none 0 0] 100);simpa only[dk]using this
 have A0:w1.heap[w.heap.size]?=some (Obj.cells #[Value.int IntKind.i64 k,Value.int IntKind.i64 n,.slice ao F cap,.slice bo M D] 95):=by rw[h.block _ cM,iZ _ _ ti,iZ _ _ ti];exact dJ _ _
 have a3:w1.cell? (zA w.heap.size 3)=some (.slice bo M D):=by simp only[World.cell?,A0];rfl
 have ah:=L0.free 2;have ai:=L0.at (j:=2) cM;have K:Hid (w.heap.size+1+1+1<=w1.heap.size):=by have:=h.size;simp only[dk]at this;exact this
 clear h A0;go_wp2_with fail;refine(CN _ (J.setCell (p:=(zA (w.heap.size+1+1) 2)) (by show _<=w.heap.size+1+1;omega) _)).mono ?_;rintro e w2 ⟨rfl,ab,E⟩;simp only[jD]at ab E|-;have af:=E.size;simp only[jD]at af;have aj:=cO ((J.setCell (p:=(zA (w.heap.size+1+1) 2)) (by show _<=w.heap.size+1+1;omega) _).trans (E.mono J.size));have L1:Hid (lq 100 4 w2 (w.heap.size+1+1) [zI k,zI n,zS (w.heap.size+1+1+1) F F,zN]):=
  lq.below (L0.set 2 (zS (w.heap.size+1+1+1) F F)) E (by have:=K.out;omega)
 have L:Hid (lq 100 4 w2 (w.heap.size+1) [zI 0,zI 0,zN,zN]):=
  lq.below (M0.qG cM) E (by have:=K.out;omega)
 have ak:Hid (tZ w2 (w.heap.size+1+1+1) (zS (w.heap.size+1+1+1) F F) c):=
  tZ.below (tZ.store ae cM) E (by simp only[jD];exact cE _)
 have ag:=cO (ab.oh K);have al:=L1.free 3;have c0:=L1.at (j:=0) cM;have c1:=L1.at (j:=1) cM;have c2:=L1.at (j:=2) cM;have c3:=L1.at (j:=3) cM;have g0:=L.free 0;have g1:=L.free 1;have g2:=L.free 2;have g3:=L.free 3;have m0:=L.at (j:=0) cM;have m1:=L.at (j:=1) cM;have m2:=L.at (j:=2) cM;have m3:=L.at (j:=3) cM;simp only[kO,mK]at c0 c1 c2 c3 m0 m1 m2 m3;clear ab af a3 ah ai;generalize w1.heap.size=s1 at ag|-;clear L0 M0 K J;go_wp2_with fail;have MG:=(((((L.qG (b:=w.heap.size+1+1) (o:=3) (u:=zS s1 M M) cM).set 0 (zI k)).set 1 (zI n)).set 2 (zS (w.heap.size+1+1+1) F F)).set 3 (zS s1 M M))
 refine eS (kl results55 _ _ (w.heap.size+1) 100 _ _ _ rfl (lq.Ds MG) underlying100 rfl rfl) rfl ?_;refine⟨_,_,rfl,?_,?_,?_⟩
 .exact tZ.oh (B:=w.heap.size+1+1+1) (tZ.store (tZ.store (tZ.store (tZ.store (tZ.store ak cM) cM) cM) cM) cM) cM
 .exact vV.oh (B:=w.heap.size+1+1+1) (vV.store (vV.store (vV.store (vV.store (vV.store ag cM) cM) cM) cM) cM) cM
 .have P1:w.heap.size<=w.heap.size+1+1:=cM;have P2:w.heap.size<=w.heap.size+1:=cM;exact((((aj.setCell (p:=(zA (w.heap.size+1+1) 3)) P1 _).setCell (p:=(zA (w.heap.size+1) 0)) P2 _).setCell (p:=(zA (w.heap.size+1) 1)) P2 _).setCell (p:=(zA (w.heap.size+1) 2)) P2 _).setCell (p:=(zA (w.heap.size+1) 3)) P2 _
def BI(v:Value)(l:List Cn)(w:World)(hr:lX w v l)(hs:jw l<=1048576):
  zC 24 #[v] w λe w'=>e=.returned (zS w.heap.size l.length l.length)/\zo w' w.heap.size (zS w.heap.size l.length l.length) l/\zB w w':=by
 obtain⟨i0,hi,ag,ah,ai⟩:=fQ Hn;obtain⟨ao,cap,rfl,_,hr⟩:=hr;have HS:Hid (∀i,i<l.length->(l.getD i mU).oy.length<=1048576):=by intro i hi;have h1:=pV (f:=kG) mU hi;unfold jw at hs;have h3:kG (l.getD i mU)=(l.getD i mU).oy.length:=rfl;omega
 have aa:l.length<=1048576:=by unfold jw at hs;omega
 obtain⟨n,K⟩:=eX l.length;have HL:=cO K.symm;have ap:n<=1048576:=K▸aa;rw[<-K];clear K hs aa;have aj:n<=maxLen:=by unfold maxLen;omega
 go_enter func24,ntmps24;go_wp2_with(at_make;refine lH _ rfl _ _ 33 rfl w.heap.size 96 i0 (.agg #[.bool false,zI 0,zN]) 3 underlying33 hi ag ah .i64 .i64 _ _ n rfl rfl rfl rfl (by rw[ai];omega) aj (cE _) ?_;intro w1 D I)
 have F:=(cN _ _).grown I (cE _) (by intro k hk;cases hk);go_loopw[4] (λi wr=>∃(k:Nat)(M:List Value),k<=n/\i=zI k/\wr.ownsRow w.heap.size 96 3 (zS w.heap.size n n) n M/\(∀j,j<k->zu wr (w.heap.size+1) M j (l.getD j mU))/\zB w wr) (λi _=>n-(intOf i).toNat)
 case atStart=>exact⟨0,_,dM _,rfl,D,λj hj=>absurd hj cM,F⟩
 case round=>
  clear D I F;obtain⟨k,M,hk,rfl,D,ab,hb⟩:=hrel;have ak:=(D.lt w.heap.size rfl).2;by_cases ac:k<n
  .obtain⟨b,off,ut,rfl,c0,c1,c2,ht⟩:=(Td.below hr hb) k (HL▸ac);have L:=HS k (HL▸ac);obtain⟨dd,O⟩:=eX (l.getD k mU);rw[<-O]at c0 c1 ht L;have HD:=cO O.symm;clear O;obtain⟨kb,nn,J⟩:=dd;simp only at c0 c1 ht L;have C:=DP kb nn ut J wr ht L;obtain⟨eA,aq,rfl,_,_,_⟩:=ht;clear L;go_wp2_with fail;refine C.mono ?_;rintro e w1 ⟨ar,rfl,⟨gt,rfl,ot⟩,F⟩;clear C;have HT:Hid (wH w1 (w.heap.size+1) (zS gt J.length J.length) J):=wH.oh (B:=wr.heap.size) ⟨gt,rfl,ot⟩ cM;clear ot;have E:=km D F ak;have al:=E.1;have f0:=E.frozenAt (k*3);have f1:=E.frozenAt (k*3+1);have f2:=E.frozenAt (k*3+2);have e0:=E.cellAt (k*3) cM;have e1:=E.cellAt (k*3+1) cM;have e2:=E.cellAt (k*3+2) cM;obtain⟨u0,ad⟩:∃u,M[k*3]?=some u:=⟨_,cG cM⟩
   rw[ad]at e0;obtain⟨u1,ae⟩:∃u,M[k*3+1]?=some u:=⟨_,cG cM⟩
   rw[ae]at e1;obtain⟨u2,af⟩:∃u,M[k*3+2]?=some u:=⟨_,cG cM⟩
   rw[af]at e2;clear ad ae af;go_wp2;go_roundw
   case rel=>
    have s0:=E.stored (k*3) (.bool kb);have s1:=s0.1.stored (k*3+1) (zI nn);have s2:=s1.1.stored (k*3+2) (zS gt J.length J.length);have am:=iy hb F;refine⟨k+1,_,cM,l9,s2.1,?_,(((am.setCell (cE _) _).setCell (cE _) _).setCell (cE _) _)⟩;intro j hj;have hl:=al;by_cases e:j=k
    .subst e;rw[HD.out];refine⟨_,?_,?_,?_,wH.store (wH.store (wH.store HT.out cM) cM) cM⟩
     .rw[dm cM,dm cM,dP (by first|omega|(simp only[df];omega))]
     .rw[dm cM,dP (by first|omega|(simp only[df];omega))]
     .rw[dP (by first|omega|(simp only[df];omega))]
    .have h:=(ab j cM).below F (cE _);have h0:=(h.store (b:=w.heap.size) (o:=k*3) (u:=(.bool kb)) cM).qG (k:=k) (i:=0) (u:=(.bool kb)) cM cM;have h1:=(h0.store (b:=w.heap.size) (o:=k*3+1) (u:=(zI nn)) cM).qG (k:=k) (i:=1) (u:=(zI nn)) cM cM;have h2:=(h1.store (b:=w.heap.size) (o:=k*3+2) (u:=(zS gt J.length J.length)) cM).qG (k:=k) (i:=2) (u:=(zS gt J.length J.length)) cM cM;exact h2
   case measure=>simp[intOf];omega
  .have an:k=n:=cM;subst an;go_wp2;go_ret;refine⟨rfl,⟨w.heap.size,M,by rw[HL],HL▸D,λi hi=>ab i (by rw[<-HL];exact hi)⟩,hb⟩
def BF(v:Value)(l:List Pr)(w:World)(hr:kZ w v l)(hs:jH l<=1048576):
  zC 25 #[v] w λe w'=>e=.returned (zS w.heap.size l.length l.length)/\FB w' w.heap.size (zS w.heap.size l.length l.length) l/\zB w w':=by
 obtain⟨i0,hi,ai,aj,ak⟩:=fQ Hl;obtain⟨ao,cap,rfl,_,hr⟩:=hr;have HS:Hid (∀i,i<l.length->(l.getD i gu).fP.length+(l.getD i gu).dw.length<=1048576):=by intro i hi;have h1:=pV (f:=kL) gu hi;unfold jH at hs;have h3:kL (l.getD i gu)=(l.getD i gu).fP.length+(l.getD i gu).dw.length:=rfl;omega
 have ab:l.length<=1048576:=by unfold jH at hs;omega
 obtain⟨n,L⟩:=eX l.length;have HL:=cO L.symm;have aw:n<=1048576:=L▸ab;rw[<-L];clear L hs ab;have al:n<=maxLen:=by unfold maxLen;omega
 go_enter func25,ntmps25;go_wp2_with(at_make;refine lH _ rfl _ _ 34 rfl w.heap.size 100 i0 (.agg #[zI 0,zI 0,zN,zN]) 4 underlying34 hi ai aj .i64 .i64 _ _ n rfl rfl rfl rfl (by rw[ak];omega) al (cE _) ?_;intro w1 F J)
 have I:=(cN _ _).grown J (cE _) (by intro k hk;cases hk);go_loopw[4] (λi wr=>∃(k:Nat)(O:List Value),k<=n/\i=zI k/\wr.ownsRow w.heap.size 100 4 (zS w.heap.size n n) n O/\(∀j,j<k->zn wr (w.heap.size+1) O j (l.getD j gu))/\zB w wr) (λi _=>n-(intOf i).toNat)
 case atStart=>exact⟨0,_,dM _,rfl,F,λj hj=>absurd hj cM,I⟩
 case round=>
  clear F J I;obtain⟨k,O,hk,rfl,F,ac,hb⟩:=hrel;have am:=(F.lt w.heap.size rfl).2;by_cases ad:k<n
  .obtain⟨b,off,uc,ud,rfl,c0,c1,c2,c3,hc,hd⟩:=(SF.below hr hb) k (HL▸ad);have M:=HS k (HL▸ad);obtain⟨dd,aa⟩:=eX (l.getD k gu);rw[<-aa]at c0 c1 hc hd M;have HD:=cO aa.symm;clear aa;obtain⟨kd,nn,K,D⟩:=dd;simp only at c0 c1 hc hd M;have C:=DO kd nn uc ud K D wr hc hd M;obtain⟨eA,ax,rfl,_,_⟩:=hc;obtain⟨ay,az,rfl,_,_⟩:=hd;clear M;go_wp2_with fail;refine C.mono ?_;rintro e w1 ⟨aA,aB,rfl,⟨gt,an,rfl,ot,xt⟩,⟨gn,ap,rfl,on,xn⟩,I⟩;clear C;have HT:Hid (tZ w1 (w.heap.size+1) (zS gt K.length K.length) K):=tZ.oh (B:=wr.heap.size) ⟨gt,an,rfl,ot,xt⟩ cM;have HN:Hid (vV w1 (w.heap.size+1) (zS gn D.length D.length) D):=vV.oh (B:=wr.heap.size) ⟨gn,ap,rfl,on,xn⟩ cM;clear ot on xt xn;have E:=km F I am;have aq:=E.1;have f0:=E.frozenAt (k*4);have f1:=E.frozenAt (k*4+1);have f2:=E.frozenAt (k*4+2);have f3:=E.frozenAt (k*4+3);have e0:=E.cellAt (k*4) cM;have e1:=E.cellAt (k*4+1) cM;have e2:=E.cellAt (k*4+2) cM;have e3:=E.cellAt (k*4+3) cM;obtain⟨u0,ae⟩:∃u,O[k*4]?=some u:=⟨_,cG cM⟩
   rw[ae]at e0;obtain⟨u1,af⟩:∃u,O[k*4+1]?=some u:=⟨_,cG cM⟩
   rw[af]at e1;obtain⟨u2,ag⟩:∃u,O[k*4+2]?=some u:=⟨_,cG cM⟩
   rw[ag]at e2;obtain⟨u3,ah⟩:∃u,O[k*4+3]?=some u:=⟨_,cG cM⟩
   rw[ah]at e3;clear ae af ag ah;go_wp2;go_roundw
   case rel=>
    have s0:=E.stored (k*4) (zI kd);have s1:=s0.1.stored (k*4+1) (zI nn);have s2:=s1.1.stored (k*4+2) (zS gt K.length K.length);have s3:=s2.1.stored (k*4+3) (zS gn D.length D.length);have ar:=hb.trans (I.mono hb.size);refine⟨k+1,_,cM,l9,s3.1,?_,((((ar.setCell (cE _) _).setCell (cE _) _).setCell (cE _) _).setCell (cE _) _)⟩;intro j hj;have hl:=aq;by_cases e:j=k
    .subst e;rw[HD.out];refine⟨_,_,?_,?_,?_,?_,tZ.store (tZ.store (tZ.store (tZ.store HT.out cM) cM) cM) cM,vV.store (vV.store (vV.store (vV.store HN.out cM) cM) cM) cM⟩
     .rw[dm cM,dm cM,dm cM,dP (by first|omega|(simp only[df];omega))]
     .rw[dm cM,dm cM,dP (by first|omega|(simp only[df];omega))]
     .rw[dm cM,dP (by first|omega|(simp only[df];omega))]
     .rw[dP (by first|omega|(simp only[df];omega))]
    .have h:=(ac j cM).below I (cE _);have h0:=(h.store (b:=w.heap.size) (o:=k*4) (u:=(zI kd)) cM).qG (k:=k) (i:=0) (u:=(zI kd)) cM cM;have h1:=(h0.store (b:=w.heap.size) (o:=k*4+1) (u:=(zI nn)) cM).qG (k:=k) (i:=1) (u:=(zI nn)) cM cM;have h2:=(h1.store (b:=w.heap.size) (o:=k*4+2) (u:=(zS gt K.length K.length)) cM).qG (k:=k) (i:=2) (u:=(zS gt K.length K.length)) cM cM;have h3:=(h2.store (b:=w.heap.size) (o:=k*4+3) (u:=(zS gn D.length D.length)) cM).qG (k:=k) (i:=3) (u:=(zS gn D.length D.length)) cM cM;exact h3
   case measure=>simp[intOf];omega
  .have au:k=n:=cM;subst au;go_wp2;go_ret;refine⟨rfl,⟨w.heap.size,O,by rw[HL],HL▸F,λi hi=>ac i (by rw[<-HL];exact hi)⟩,hb⟩
def dQ(h:Below B a w)(m:Nat):Below B a (w.drewN m):=h.trans ⟨rfl,rfl,rfl,cE _,λ_ _=>rfl⟩
def bq(h:Below B a w:=by repeat(first|exact cN _ _|assumption|refine eb ?_|refine dQ ?_ _)):Below B a w:=h
def Hw(d:In)(w:World):
  zC 179 #[.agg (zW d.op d.a d.b),.agg (zW d.op d.a d.b)] w (zR w (.bool true)):=by
 obtain⟨x,y,z⟩:=d;go_enter func179,ntmps179;go_wp2;go_returns;exact⟨rfl,by go_grown⟩
def y9(d:Cp)(w:World):
  zC 178 #[.agg #[.bool d.up,zI d.index],.agg #[.bool d.up,zI d.index]] w (zR w (.bool true)):=by
 obtain⟨x,y⟩:=d;cases x;all_goals
  go_enter func178,ntmps178;go_wp2;go_returns;exact⟨rfl,by go_grown⟩
def ET(v v':Value)(l:List In)(w:World)(M:qO w v l)(I:qO w v' l)(hz:l.length<=1048576):
  zC 149 #[v,v'] w (zR w (.bool true)):=by
 have K:=hz;obtain⟨ao,cap,rfl,_,M⟩:=M;obtain⟨bo,aa,rfl,_,I⟩:=I;obtain⟨n,E⟩:=eX l.length;have HL:=cO E.symm;have ac:n<=1048576:=E▸K;rw[<-E];clear hz E K;go_enter func149,ntmps149;go_wp2;go_loopw[5] (λi wr=>∃(k:Nat),k<=n/\i=zI k/\zB w wr) (λi _=>n-(intOf i).toNat)
 case atStart=>exact⟨0,dM _,rfl,cN _ _⟩
 case round=>
  obtain⟨k,hk,rfl,D⟩:=hrel;by_cases L:k<n
  .obtain⟨b,off,rfl,c0,c1,c2⟩:=(M.below D) k (HL▸L);obtain⟨J,h,rfl,e0,e1,e2⟩:=(I.below D) k (HL▸L);generalize l.getD k jI=d at c0 c1 c2 e0 e1 e2;have C:Hid (∀W,zB wr W->zC 179 #[.agg (zW d.op d.a d.b),.agg (zW d.op d.a d.b)] W (zR wr (.bool true))):=λW F=>(Hw d W).mono (λ_ _ ⟨h1,h2⟩=>⟨h1,iy F h2⟩);have ab:(k:Int)<(n:Int):=cM;have HC:Hid (∀W,zB wr W->W.cell? (zA b (off+k*3))=some (zI d.op)/\W.cell? (zA b (off+k*3+1))=some (zI d.a)/\W.cell? (zA b (off+k*3+2))=some (zI d.b)/\W.cell? (zA J (h+k*3))=some (zI d.op)/\W.cell? (zA J (h+k*3+1))=some (zI d.a)/\W.cell? (zA J (h+k*3+2))=some (zI d.b)):=by
    intro W F;exact⟨di c0 F,di c1 F,di c2 F,di e0 F,di e1 F,di e2 F⟩
   go_wp2_with fail;go_region_held3 (λW=>(W.cell? (zA b (off+k*3))=some (zI d.op)/\W.cell? (zA b (off+k*3+1))=some (zI d.a)/\W.cell? (zA b (off+k*3+2))=some (zI d.b)/\W.cell? (zA J (h+k*3))=some (zI d.op)/\W.cell? (zA J (h+k*3+1))=some (zI d.a)/\W.cell? (zA J (h+k*3+2))=some (zI d.b))/\zB wr W) (refine⟨?_,?_⟩<;>first|(refine HC _ ?_;repeat(first|exact cN _ _|assumption|refine eb ?_|refine dQ ?_ _))|(repeat(first|exact cN _ _|assumption|refine eb ?_|refine dQ ?_ _)))
    ((go_at_call 179;refine(C _ bq).mono ?_;rintro e w' ⟨rfl,ad⟩))
   go_wp2;go_roundw
   case rel=>exact⟨k+1,cM,l9,D.trans (tR (by first|assumption|(repeat(first|exact cN _ _|assumption|refine eb ?_|refine dQ ?_ _))) D.size)⟩
   case measure=>simp[intOf];omega
  .have O:k=n:=cM;subst O;go_wp2;go_ret;exact⟨rfl,D⟩
def xA(v v':Value)(l:List Cp)(w:World)(M:qk w v l)(F:qk w v' l)(hz:l.length<=1048576):
  zC 148 #[v,v'] w (zR w (.bool true)):=by
 have J:=hz;obtain⟨ao,cap,rfl,_,M⟩:=M;obtain⟨bo,aa,rfl,_,F⟩:=F;obtain⟨n,E⟩:=eX l.length;have HL:=cO E.symm;have ac:n<=1048576:=E▸J;rw[<-E];clear hz E J;go_enter func148,ntmps148;go_wp2;go_loopw[5] (λi wr=>∃(k:Nat),k<=n/\i=zI k/\zB w wr) (λi _=>n-(intOf i).toNat)
 case atStart=>exact⟨0,dM _,rfl,cN _ _⟩
 case round=>
  obtain⟨k,hk,rfl,h⟩:=hrel;by_cases K:k<n
  .obtain⟨b,off,rfl,c0,c1⟩:=(M.below h) k (HL▸K);obtain⟨L,D,rfl,e0,e1⟩:=(F.below h) k (HL▸K);generalize l.getD k lY=d at c0 c1 e0 e1;have C:Hid (∀W,zB wr W->zC 178 #[.agg #[.bool d.up,zI d.index],.agg #[.bool d.up,zI d.index]] W (zR wr (.bool true))):=λW I=>(y9 d W).mono (λ_ _ ⟨h1,h2⟩=>⟨h1,iy I h2⟩);have ab:(k:Int)<(n:Int):=cM;have HC:Hid (∀W,zB wr W->W.cell? (zA b (off+k*2))=some (.bool d.up)/\W.cell? (zA b (off+k*2+1))=some (zI d.index)/\W.cell? (zA L (D+k*2))=some (.bool d.up)/\W.cell? (zA L (D+k*2+1))=some (zI d.index)):=by
    intro W I;exact⟨di c0 I,di c1 I,di e0 I,di e1 I⟩
   go_wp2_with fail;go_region_held3 (λW=>(W.cell? (zA b (off+k*2))=some (.bool d.up)/\W.cell? (zA b (off+k*2+1))=some (zI d.index)/\W.cell? (zA L (D+k*2))=some (.bool d.up)/\W.cell? (zA L (D+k*2+1))=some (zI d.index))/\zB wr W) (refine⟨?_,?_⟩<;>first|(refine HC _ ?_;repeat(first|exact cN _ _|assumption|refine eb ?_|refine dQ ?_ _))|(repeat(first|exact cN _ _|assumption|refine eb ?_|refine dQ ?_ _)))
    ((go_at_call 178;refine(C _ bq).mono ?_;rintro e w' ⟨rfl,ad⟩))
   go_wp2;go_roundw
   case rel=>exact⟨k+1,cM,l9,h.trans (tR (by first|assumption|(repeat(first|exact cN _ _|assumption|refine eb ?_|refine dQ ?_ _))) h.size)⟩
   case measure=>simp[intOf];omega
  .have O:k=n:=cM;subst O;go_wp2;go_ret;exact⟨rfl,h⟩
def iF{o:Obj}(h:w.cell? ⟨b,j,none⟩=some v):(w.alloc o).cell? ⟨b,j,none⟩=some v:=
 di h (ba)
def Dh(k:Bool)(n:Int)(J D:Value)(t:List Int)(w:World)(O:AB w J t)(I:AB w D t)(hs:t.length<=1048576):
  zC 67 #[.agg #[.bool k,zI n,J],.agg #[.bool k,zI n,D]] w (zR w (.bool true)):=by
 obtain⟨K,cap,rfl,_,L,_⟩:=O;obtain⟨E,h,rfl,_,F,_⟩:=I;have CT:Hid (∀W,zB w W->zC 32 #[.slice K t.length cap,.slice E t.length h] W λe w'=>e=.returned (.bool true)/\∃d,w'=W.drewN d):=
  λW M=>vP K E cap h t W (L.below M) (F.below M) cM
 clear L F hs;cases k;all_goals
  go_enter func67,ntmps67;go_wp2_with fail;refine(CT _ (by go_grown)).mono ?_;rintro e w1 ⟨rfl,d,rfl⟩;go_wp2;go_ret;exact⟨rfl,dQ (by go_grown) _⟩
def Au(v v':Value)(l:List Cn)(w:World)(hr:lX w v l)(M:lX w v' l)(hz:jw l<=1048576):
  zC 33 #[v,v'] w (zR w (.bool true)):=by
 have HS:Hid (∀i,i<l.length->(l.getD i mU).oy.length<=1048576):=by intro i hi;have h1:=pV (f:=kG) mU hi;unfold jw at hz;have h3:kG (l.getD i mU)=(l.getD i mU).oy.length:=rfl;omega
 have aa:l.length<=1048576:=by unfold jw at hz;omega
 obtain⟨ao,cap,rfl,_,hr⟩:=hr;obtain⟨bo,ac,rfl,_,M⟩:=M;obtain⟨n,I⟩:=eX l.length;have HL:=cO I.symm;have ae:n<=1048576:=I▸aa;rw[<-I];clear hz I aa;go_enter func33,ntmps33;go_wp2;go_loopw[5] (λi wr=>∃(k:Nat),k<=n/\i=zI k/\zB w wr) (λi _=>n-(intOf i).toNat)
 case atStart=>exact⟨0,dM _,rfl,cN _ _⟩
 case round=>
  obtain⟨k,hk,rfl,D⟩:=hrel;by_cases O:k<n
  .obtain⟨b,off,ut,rfl,c0,c1,c2,J⟩:=(hr.below D) k (HL▸O);obtain⟨b',h,K,rfl,e0,e1,e2,E⟩:=(M.below D) k (HL▸O);have L:=HS k (HL▸O);generalize l.getD k mU=d at c0 c1 J e0 e1 E L;obtain⟨kb,nn,tx⟩:=d;simp only at c0 c1 J e0 e1 E L;have C:Hid (∀W,zB wr W->zC 67 #[.agg #[.bool kb,zI nn,ut],.agg #[.bool kb,zI nn,K]] W (zR wr (.bool true))):=λW F=>(Dh kb nn ut K tx W (J.below F) (E.below F) L).mono (λ_ _ ⟨h1,h2⟩=>⟨h1,iy F h2⟩);clear L;have ad:(k:Int)<(n:Int):=cM;have HB:Hid (zB w wr):=D;have HC:Hid (∀W,zB wr W->zE W b (off+k*3) (.bool kb)/\zE W b (off+k*3+1) (zI nn)/\zE W b (off+k*3+2) ut/\zE W b' (h+k*3) (.bool kb)/\zE W b' (h+k*3+1) (zI nn)/\zE W b' (h+k*3+2) K):=by
    intro W F;exact⟨di c0 F,di c1 F,di c2 F,di e0 F,di e1 F,di e2 F⟩
   clear J E D;go_wp2_with fail;go_region_held3 (λW=>(zE W b (off+k*3) (.bool kb)/\zE W b (off+k*3+1) (zI nn)/\zE W b (off+k*3+2) ut/\zE W b' (h+k*3) (.bool kb)/\zE W b' (h+k*3+1) (zI nn)/\zE W b' (h+k*3+2) K)/\zB wr W) (refine⟨?_,?_⟩<;>first|(refine HC _ ?_;repeat(first|exact cN _ _|assumption|refine eb ?_|refine dQ ?_ _))|(repeat(first|exact cN _ _|assumption|refine eb ?_|refine dQ ?_ _)))
    ((go_at_call 67;refine(C _ bq).mono ?_;rintro e w' ⟨rfl,af⟩))
   go_wp2;go_roundw
   case rel=>exact⟨k+1,cM,l9,HB.trans (tR (by first|assumption|(repeat(first|exact cN _ _|assumption|refine eb ?_|refine dQ ?_ _))) HB.size)⟩
   case measure=>simp[intOf];omega
  .have ab:k=n:=cM;subst ab;go_wp2;go_ret;exact⟨rfl,D⟩
def Dg(k n:Int)(uc ud h D:Value)(c:List Cp)(d:List In)(w:World)(hc:qk w uc c)(hd:qO w ud d)(K:qk w h c)(L:qO w D d)(hs:c.length+d.length<=1048576):
  zC 68 #[.agg #[zI k,zI n,uc,ud],.agg #[zI k,zI n,h,D]] w (zR w (.bool true)):=by
 have CT:Hid (∀W,zB w W->zC 148 #[uc,h] W (zR W (.bool true))):=
  λW M=>xA uc h c W (hc.below M) (K.below M) cM
 have CN:Hid (∀W,zB w W->zC 149 #[ud,D] W (zR W (.bool true))):=
  λW M=>ET ud D d W (hd.below M) (L.below M) cM
 obtain⟨ao,cap,rfl,_,_⟩:=hc;obtain⟨bo,F,rfl,_,_⟩:=hd;obtain⟨O,I,rfl,_,_⟩:=K;obtain⟨aa,J,rfl,_,_⟩:=L;clear hs;go_enter func68,ntmps68;go_wp2_with fail;refine(CT _ (by go_grown)).mono ?_;rintro e w1 ⟨rfl,E⟩;have ab:Hid (zB w w1):=jW (by go_grown) (E.mono ti);have q1:=di (fE (w:=w.alloc (.cells #[zI k,zI n,.slice ao c.length cap,.slice bo d.length F] 100)) (cs:=#[zI k,zI n,.slice O c.length I,.slice aa d.length J]) (t:=100) (j:=3) rfl) E;have q0:=di (iF (o:=.cells #[zI k,zI n,.slice O c.length I,.slice aa d.length J] 100) (fE (w:=w) (cs:=#[zI k,zI n,.slice ao c.length cap,.slice bo d.length F]) (t:=100) (j:=3) rfl)) E;simp only[dk]at q0 q1;clear E;go_wp2_with fail;refine(CN _ ab).mono ?_;rintro e w2 ⟨rfl,ac⟩;have ad:=cO (iy ab ac);clear ac;go_wp2;go_ret;exact⟨rfl,ad⟩
def Ar(v v':Value)(l:List Pr)(w:World)(hr:kZ w v l)(ab:kZ w v' l)(hz:jH l<=1048576):
  zC 34 #[v,v'] w (zR w (.bool true)):=by
 have HS:Hid (∀i,i<l.length->(l.getD i gu).fP.length+(l.getD i gu).dw.length<=1048576):=by intro i hi;have h1:=pV (f:=kL) gu hi;unfold jH at hz;have h3:kL (l.getD i gu)=(l.getD i gu).fP.length+(l.getD i gu).dw.length:=rfl;omega
 have ad:l.length<=1048576:=by unfold jH at hz;omega
 obtain⟨ao,cap,rfl,_,hr⟩:=hr;obtain⟨bo,ag,rfl,_,ab⟩:=ab;obtain⟨n,J⟩:=eX l.length;have HL:=cO J.symm;have ai:n<=1048576:=J▸ad;rw[<-J];clear hz J ad;go_enter func34,ntmps34;go_wp2;go_loopw[5] (λi wr=>∃(k:Nat),k<=n/\i=zI k/\zB w wr) (λi _=>n-(intOf i).toNat)
 case atStart=>exact⟨0,dM _,rfl,cN _ _⟩
 case round=>
  obtain⟨k,hk,rfl,D⟩:=hrel;by_cases ac:k<n
  .obtain⟨b,off,uc,ud,rfl,c0,c1,c2,c3,K,L⟩:=(hr.below D) k (HL▸ac);obtain⟨b',h,M,O,rfl,e0,e1,e2,e3,E,F⟩:=(ab.below D) k (HL▸ac);have aa:=HS k (HL▸ac);generalize l.getD k gu=d at c0 c1 K L e0 e1 E F aa;obtain⟨kd,nn,tx,ae⟩:=d;simp only at c0 c1 K L e0 e1 E F aa;have C:Hid (∀W,zB wr W->zC 68 #[.agg #[zI kd,zI nn,uc,ud],.agg #[zI kd,zI nn,M,O]] W (zR wr (.bool true))):=λW I=>(Dg kd nn uc ud M O tx ae W (K.below I) (L.below I) (E.below I) (F.below I) aa).mono (λ_ _ ⟨h1,h2⟩=>⟨h1,iy I h2⟩);clear aa;have ah:(k:Int)<(n:Int):=cM;have HB:Hid (zB w wr):=D;have HC:Hid (∀W,zB wr W->zE W b (off+k*4) (zI kd)/\zE W b (off+k*4+1) (zI nn)/\zE W b (off+k*4+2) uc/\zE W b (off+k*4+3) ud/\zE W b' (h+k*4) (zI kd)/\zE W b' (h+k*4+1) (zI nn)/\zE W b' (h+k*4+2) M/\zE W b' (h+k*4+3) O):=by
    intro W I;exact⟨di c0 I,di c1 I,di c2 I,di c3 I,di e0 I,di e1 I,di e2 I,di e3 I⟩
   clear K L E F D;go_wp2_with fail;go_region_held3 (λW=>(zE W b (off+k*4) (zI kd)/\zE W b (off+k*4+1) (zI nn)/\zE W b (off+k*4+2) uc/\zE W b (off+k*4+3) ud/\zE W b' (h+k*4) (zI kd)/\zE W b' (h+k*4+1) (zI nn)/\zE W b' (h+k*4+2) M/\zE W b' (h+k*4+3) O)/\zB wr W) (refine⟨?_,?_⟩<;>first|(refine HC _ ?_;repeat(first|exact cN _ _|assumption|refine eb ?_|refine dQ ?_ _))|(repeat(first|exact cN _ _|assumption|refine eb ?_|refine dQ ?_ _)))
    ((go_at_call 68;refine(C _ bq).mono ?_;rintro e w' ⟨rfl,aj⟩))
   go_wp2;go_roundw
   case rel=>exact⟨k+1,cM,l9,HB.trans (tR (by first|assumption|(repeat(first|exact cN _ _|assumption|refine eb ?_|refine dQ ?_ _))) HB.size)⟩
   case measure=>simp[intOf];omega
  .have af:k=n:=cM;subst af;go_wp2;go_ret;exact⟨rfl,D⟩
def yZ(uk up h D:Value)(p:Pg)(w:World)(hk:lX w uk p.dv)(hp:kZ w up p.cU)(K:lX w h p.dv)(L:kZ w D p.cU)(hs:jT p<=1048576):
  zC 11 #[.agg #[uk,up],.agg #[h,D]] w (zR w (.bool true)):=by
 have M:jw p.dv<=1048576:=by unfold jT at hs;omega
 have O:jH p.cU<=1048576:=by unfold jT at hs;omega
 have CT:Hid (∀W,zB w W->zC 33 #[uk,h] W (zR W (.bool true))):=
  λW hW=>Au uk h p.dv W (hk.below hW) (K.below hW) M
 have CN:Hid (∀W,zB w W->zC 34 #[up,D] W (zR W (.bool true))):=
  λW hW=>Ar up D p.cU W (hp.below hW) (L.below hW) O
 obtain⟨ao,cap,rfl,_,_⟩:=hk;obtain⟨bo,F,rfl,_,_⟩:=hp;obtain⟨aa,I,rfl,_,_⟩:=K;obtain⟨ab,J,rfl,_,_⟩:=L;clear hs M O;go_enter func11,ntmps11;go_wp2_with fail;refine(CT _ (by go_grown)).mono ?_;rintro e w1 ⟨rfl,E⟩;have ac:Hid (zB w w1):=jW (by go_grown) (E.mono ti);have q1:=di (fE (w:=w.alloc (.cells #[.slice ao p.dv.length cap,.slice bo p.cU.length F] 36)) (cs:=#[.slice aa p.dv.length I,.slice ab p.cU.length J]) (t:=36) (j:=1) rfl) E;have q0:=di (iF (o:=.cells #[.slice aa p.dv.length I,.slice ab p.cU.length J] 36) (fE (w:=w) (cs:=#[.slice ao p.dv.length cap,.slice bo p.cU.length F]) (t:=36) (j:=1) rfl)) E;simp only[dk]at q0 q1;clear E;go_wp2_with fail;refine(CN _ ac).mono ?_;rintro e w2 ⟨rfl,ad⟩;have ae:=cO (iy ac ad);clear ad;go_wp2;go_ret;exact⟨rfl,ae⟩
structure Mk(B H:Nat)(w w':World):Prop where
 below:Below B w w'
 Qa:∀b,H≤b→b<w.heap.size→w'.heap[b]?=w.heap[b]?
 pF:∀(b:Nat)(cs:Array Value)(t:TypeId)(fr:Nat×Nat),w.heap[b]?=some (Obj.cells cs t fr)→∃cs':Array Value,w'.heap[b]?=some (Obj.cells cs' t fr)∧cs'.size=cs.size
def CZ{o:Obj}(h:w.heap[b]?=some o):b<w.heap.size:=by
 obtain D|E:=xj b w.heap.size
 .exact D
 .rw[Tu E]at h;cases h
def Mk.refl(B H:Nat)(w:World):Mk B H w w:=⟨cN _ _,λ_ _ _=>rfl,λ_ D _ _ h=>⟨D,h,rfl⟩⟩
def Mk.trans{b c:World}(h:Mk B H a b)(k:Mk B H b c):Mk B H a c:=
 ⟨h.below.trans k.below,λx D I=>(k.Qa x D (dj I h.below.size)).trans (h.Qa x D I),λx K t J D=>by obtain⟨E,L,M⟩:=h.pF x K t J D;obtain⟨F,O,e2⟩:=k.pF x E t J L;exact⟨F,O,e2.trans M⟩⟩
def Mk.mono{b:World}(h:Mk B H a b)(E:D<=B)(I:H<=H'):Mk D H' a b:=
 ⟨h.below.mono E,λx J F=>h.Qa x cM F,h.pF⟩
def Mk.row{cs D:Array Value}{t:TypeId}{fr:Nat×Nat}(F:w.grownBy w' (some g))(h:w.heap[g]?=some (.cells cs t fr))(I:w'.heap[g]?=some (.cells D t fr))(hs:D.size=cs.size)(J:B<=g)(hH:g<H):Mk B H w w':=by
 have K:=CZ h;refine⟨(cN B w).grown F cM (λk L=>by cases L;exact J),λb E M=>F.block b M (by intro e;cases e;omega),λb c t' f E=>?_⟩;by_cases e:b=g
 .subst e;rw[h]at E;cases E;exact⟨D,I,hs⟩
 .exact⟨c,(F.block b (CZ E) (by intro O;cases O;exact e rfl)).trans E,rfl⟩
def Rw(E c h H:Nat)(w:World)(v:Value)(n:Nat):Prop:=∃g D,v=.slice (some ⟨g,0,none⟩) n n/\g<H/\w.ownsRow h E c (.slice (some ⟨g,0,none⟩) n n) n D
def u6{m:Nat}(h:w.ownsRow B E c (.slice (some ⟨g,0,none⟩) n m) n xs):∃D:Array Value,B<=g/\w.heap[g]?=some (.cells D E (0,0))/\n<=m/\m<=maxLen/\D.size=m*c/\D.toList.take (n*c)=xs:=by
 obtain⟨F,_⟩|⟨J,I,D,F,r⟩:=h.2
 .simp at F
 .simp only[de,dB,fC,and_true,true_and]at F;obtain⟨rfl,rfl⟩:=F;exact⟨D,r⟩
def Rw.mk(h:Rw E c F H w v n)(k:Mk B H' w w'):Rw E c F H w' v n:=by obtain⟨g,xs,e,K,L⟩:=h;obtain⟨M,O,h2,h3,h4,I,h6⟩:=u6 L;obtain⟨D,k1,J⟩:=k.pF _ _ _ _ h2;exact⟨g,D.toList.take (n*c),e,K,by rw[dX];simp;rw[J,I];omega,.inr ⟨g,n,D,rfl,O,k1,h3,h4,by rw[J,I],rfl⟩⟩
def Mk.own{I:List Value}(J:w.grownBy w' (some g))(h:w.ownsRow D E c (.slice (some ⟨g,0,none⟩) n n) n xs)(K:w'.ownsRow D E c (.slice (some ⟨g,0,none⟩) n n) n I)(L:B<=g)(M:g<H):Mk B H w w':=by obtain⟨O,h1,h2,h3,h4,h5,h6⟩:=u6 h;obtain⟨F,k1,k2,k3,k4,k5,k6⟩:=u6 K;exact Mk.row J h2 k2 (by rw[h5,k5]) L M
def Rw.set(h:Rw E c D H w (.slice (some ⟨g,0,none⟩) n n) n)(j:Nat)(u:Value):Rw E c D H (w.setCell ⟨g,j,none⟩ u) (.slice (some ⟨g,0,none⟩) n n) n:=by obtain⟨J,K,e,F,I⟩:=h;simp only[de,dB,fC,and_true]at e;subst e;exact⟨g,_,rfl,F,(I.stored j u).1⟩
def Mk.put(k:Mk B H a w)(h:Rw E c F H w (.slice (some ⟨g,0,none⟩) n n) n)(I:B<=F)(j:Nat)(u:Value):Mk B H a (w.setCell ⟨g,j,none⟩ u):=by obtain⟨K,L,e,J,D⟩:=h;simp only[de,dB,fC,and_true]at e;subst e;exact k.trans (Mk.own (D.stored j u).2 D (D.stored j u).1 (cV I (D.lt g rfl).1) J)
def Rw.at(h:Rw E c F H w (.slice (some ⟨g,0,none⟩) n n) n)(j:Nat)(I:j<n*c):w.frozen? ⟨g,j,none⟩=false/\∃u,w.cell? ⟨g,j,none⟩=some u:=by obtain⟨J,K,e,L,D⟩:=h;simp only[de,dB,fC,and_true]at e;subst e;have M:=D.1;exact⟨D.frozenAt j,_,(D.cellAt j I).trans (cG cM)⟩
def wk(v:Value)(n F B H:Nat)(k0:Int)(h0:0<=k0)(h1:k0<=16777216)(w:World)(L:Rw 102 2 F H w v n)(J:B<=F)(hn:n<=1048576):
  zC 69 #[v,zI k0] w λe M=>e=.returned (zI (k0+2*(n:Int)))/\Mk B H w M:=by
 obtain⟨g,O,rfl,E,h⟩:=L;have D:Hid (Rw 102 2 F H w (zS g n n) n):=⟨g,O,rfl,E,h⟩
 clear h E;go_enter func69,ntmps69;go_wp2;go_loopw[1,5] (λq i wr=>∃(k:Nat),k<=n/\i=zI k/\q=zI (k0+2*(k:Int))/\Hid (Rw 102 2 F H wr (zS g n n) n)/\Hid (Mk B H w wr)) (λ_ i _=>n-(intOf i).toNat)
 case atStart=>exact⟨0,dM _,rfl,l9,D,Mk.refl _ _ _⟩
 case round=>
  clear D;obtain⟨k,hk,rfl,rfl,D,K⟩:=hrel;by_cases aa:k<n
  .obtain⟨f0,u0,e0⟩:=D.at (k*2) cM;obtain⟨f1,u1,e1⟩:=D.at (k*2+1) cM;go_wp2;go_roundw
   case rel=>exact⟨k+1,cM,l9,l9,((D).set _ _).set _ _,((K).put (D) J _ _).put ((D).set _ _) J _ _⟩
   case measure=>simp[intOf];omega
  .have I:k=n:=cM;subst I;go_wp2;go_ret;exact⟨rfl,K⟩
def Cv(v:Value)(n F B H:Nat)(k0:Int)(h0:0<=k0)(h1:k0<=16777216)(w:World)(L:Rw 105 3 F H w v n)(I:B<=F)(hn:n<=1048576):
  zC 70 #[v,zI k0] w λe M=>e=.returned (zI (k0+3*(n:Int)))/\Mk B H w M:=by
 obtain⟨g,O,rfl,E,D⟩:=L;have h:Hid (Rw 105 3 F H w (zS g n n) n):=⟨g,O,rfl,E,D⟩
 clear D E;go_enter func70,ntmps70;go_wp2;go_loopw[1,5] (λq i wr=>∃(k:Nat),k<=n/\i=zI k/\q=zI (k0+3*(k:Int))/\Hid (Rw 105 3 F H wr (zS g n n) n)/\Hid (Mk B H w wr)) (λ_ i _=>n-(intOf i).toNat)
 case atStart=>exact⟨0,dM _,rfl,l9,h,Mk.refl _ _ _⟩
 case round=>
  clear h;obtain⟨k,hk,rfl,rfl,h,K⟩:=hrel;by_cases aa:k<n
  .obtain⟨f0,u0,e0⟩:=h.at (k*3) cM;obtain⟨f1,u1,e1⟩:=h.at (k*3+1) cM;obtain⟨f2,u2,e2⟩:=h.at (k*3+2) cM;go_wp2;go_roundw
   case rel=>exact⟨k+1,cM,l9,l9,(((h).set _ _).set _ _).set _ _,(((K).put (h) I _ _).put ((h).set _ _) I _ _).put (((h).set _ _).set _ _) I _ _⟩
   case measure=>simp[intOf];omega
  .have J:k=n:=cM;subst J;go_wp2;go_ret;exact⟨rfl,K⟩
def wH.rw(h:wH w B v zs)(E:w.heap.size<=H):Rw 5 1 B H w v zs.length:=by obtain⟨g,e,D⟩:=h;exact⟨g,_,e,dj (D.lt g rfl).2 E,D⟩
def vV.rw{l:List In}(h:vV w B v l)(E:w.heap.size<=H):Rw 105 3 B H w v l.length:=by obtain⟨g,F,e,D,_⟩:=h;exact⟨g,F,e,dj (D.lt g rfl).2 E,D⟩
def tZ.rw{l:List Cp}(h:tZ w B v l)(E:w.heap.size<=H):Rw 102 2 B H w v l.length:=by obtain⟨g,F,e,D,_⟩:=h;exact⟨g,F,e,dj (D.lt g rfl).2 E,D⟩
def Rw.kg(h:Rw E c D H w v n)(I:Below H w w'):Rw E c D H w' v n:=by obtain⟨g,J,e,F,K⟩:=h;exact⟨g,J,e,F,km K I F⟩
structure AD(w:World)(B H:Nat)(g:Nat)(l:List Cn):Prop where
 row:Rw 96 3 B H w (.slice (some ⟨g,0,none⟩) l.length l.length) l.length
 DQ:∀j,j<l.length→∃ut,w.cell? ⟨g,j*3+2,none⟩=some ut∧Rw 5 1 (g+1) H w ut (l.getD j mU).oy.length
structure wW(w:World)(B H:Nat)(g:Nat)(l:List Pr):Prop where
 row:Rw 100 4 B H w (.slice (some ⟨g,0,none⟩) l.length l.length) l.length
 parts:∀j,j<l.length→∃uc ud,w.cell? ⟨g,j*4+2,none⟩=some uc∧w.cell? ⟨g,j*4+3,none⟩=some ud∧Rw 102 2 (g+1) H w uc (l.getD j gu).fP.length∧Rw 105 3 (g+1) H w ud (l.getD j gu).dw.length
def zo.mk(h:zo w B v l):∃g,v=.slice (some ⟨g,0,none⟩) l.length l.length/\B<=g/\AD w B w.heap.size g l:=by obtain⟨g,E,e,D,F⟩:=h;refine⟨g,e,(D.lt g rfl).1,⟨g,E,rfl,(D.lt g rfl).2,D⟩,λj I=>?_⟩;obtain⟨J,M,O,K,L⟩:=F j I;exact⟨J,by rw[D.cellAt _ cM,K],L.rw (cE _)⟩
def FB.mk{l:List Pr}(h:FB w B v l):∃g,v=.slice (some ⟨g,0,none⟩) l.length l.length/\B<=g/\wW w B w.heap.size g l:=by obtain⟨g,E,e,D,F⟩:=h;refine⟨g,e,(D.lt g rfl).1,⟨g,E,rfl,(D.lt g rfl).2,D⟩,λj I=>?_⟩;obtain⟨J,K,h0,h1,L,M,O,hd⟩:=F j I;exact⟨J,K,by rw[D.cellAt _ cM,L],by rw[D.cellAt _ cM,M],O.rw (cE _),hd.rw (cE _)⟩
def AD.kg(h:AD w B H g l)(D:Below H w w'):AD w' B H g l:=by
 have E:g<H:=by obtain⟨_,_,e,E,_⟩:=h.row;simp only[de,dB,fC,and_true]at e;omega
 refine⟨h.row.kg D,λj F=>?_⟩;obtain⟨I,J,K⟩:=h.DQ j F;exact⟨I,(D.cell (p:=(zA g (j*3+2))) E).trans J,K.kg D⟩
def wW.kg{l:List Pr}(h:wW w B H g l)(D:Below H w w'):wW w' B H g l:=by
 have E:g<H:=by obtain⟨_,_,e,E,_⟩:=h.row;simp only[de,dB,fC,and_true]at e;omega
 refine⟨h.row.kg D,λj F=>?_⟩;obtain⟨I,J,K,L,M,O⟩:=h.parts j F;exact⟨I,J,(D.cell (p:=(zA g (j*4+2))) E).trans K,(D.cell (p:=(zA g (j*4+3))) E).trans L,M.kg D,O.kg D⟩
def Rw.same(h:Rw E c D H w v n)(L:∀b,D<=b->b<H->w'.heap[b]?=w.heap[b]?):Rw E c D H w' v n:=by obtain⟨g,M,e,I,J⟩:=h;obtain⟨F,K,O,h3⟩:=u6 J;exact⟨g,M,e,I,J.1,.inr ⟨g,n,F,rfl,K,(L g K I).trans O,h3⟩⟩
def AD.same(h:AD w B H g l)(F:B<=g)(D:∀b,B<=b->b<H->w'.heap[b]?=w.heap[b]?):AD w' B H g l:=by
 have E:g<H:=by obtain⟨_,_,e,E,_⟩:=h.row;simp only[de,dB,fC,and_true]at e;omega
 refine⟨h.row.same D,λj I=>?_⟩;obtain⟨J,K,L⟩:=h.DQ j I;exact⟨J,(dK (a:=(zA g (j*3+2))) (D g F E)).trans K,L.same (λb M=>D b cM)⟩
def wW.same{l:List Pr}(h:wW w B H g l)(F:B<=g)(D:∀b,B<=b->b<H->w'.heap[b]?=w.heap[b]?):wW w' B H g l:=by
 have E:g<H:=by obtain⟨_,_,e,E,_⟩:=h.row;simp only[de,dB,fC,and_true]at e;omega
 refine⟨h.row.same D,λj I=>?_⟩;obtain⟨J,K,L,M,O,h4⟩:=h.parts j I;exact⟨J,K,(dK (a:=(zA g (j*4+2))) (D g F E)).trans L,(dK (a:=(zA g (j*4+3))) (D g F E)).trans M,O.same (λb hb=>D b cM),h4.same (λb hb=>D b cM)⟩
def wW.Qa{l:List Pr}(h:wW w g H' g l)(k:Mk B H w w')(D:H<=g)(hs:H'<=w.heap.size):wW w' g H' g l:=
 h.same (cE _) (λb E F=>k.Qa b cM cM)
def AD.Dr(h:AD w B H g l)(k:Mk (g+1) H w w'):AD w' B H g l:=by refine⟨h.row.mk k,λj D=>?_⟩;obtain⟨E,F,I⟩:=h.DQ j D;exact⟨E,(k.below.cell (p:=(zA g (j*3+2))) (by show g<g+1;omega)).trans F,I.mk k⟩
def wW.Dr{l:List Pr}(h:wW w B H g l)(k:Mk (g+1) H w w'):wW w' B H g l:=by refine⟨h.row.mk k,λj D=>?_⟩;obtain⟨E,F,I,J,K,L⟩:=h.parts j D;exact⟨E,F,(k.below.cell (p:=(zA g (j*4+2))) (by show g<g+1;omega)).trans I,(k.below.cell (p:=(zA g (j*4+3))) (by show g<g+1;omega)).trans J,K.mk k,L.mk k⟩
def pq(h:j≠D):(w.setCell ⟨g,j,none⟩ u).cell? ⟨g,D,none⟩=w.cell? ⟨g,D,none⟩:=iH _ _ _ _ (by intro e;cases e;exact h rfl)
def AD.set(h:AD w B H g l)(K:i<2):AD (w.setCell ⟨g,k*3+i,none⟩ u) B H g l:=by have D:Mk B H w (w.setCell (zA g (k*3+i)) u):=(Mk.refl B H w).put h.row (cE _) _ _;refine⟨h.row.set _ _,λj E=>?_⟩;obtain⟨F,I,J⟩:=h.DQ j E;exact⟨F,(pq cM).trans I,J.mk D⟩
def wW.set{l:List Pr}(h:wW w B H g l)(O:i<2):wW (w.setCell ⟨g,k*4+i,none⟩ u) B H g l:=by have D:Mk B H w (w.setCell (zA g (k*4+i)) u):=(Mk.refl B H w).put h.row (cE _) _ _;refine⟨h.row.set _ _,λj E=>?_⟩;obtain⟨F,I,J,K,L,M⟩:=h.parts j E;exact⟨F,I,(pq cM).trans J,(pq cM).trans K,L.mk D,M.mk D⟩
def Cw(v:Value)(n h B H:Nat)(k0:Int)(J:0<=k0)(K:k0<=16777216)(w:World)(L:Rw 5 1 h H w v n)(M:B<=h)(hn:n<=1048576):
  zC 37 #[v,zI k0] w λe I=>e=.returned (zI (k0+(n:Int)))/\Mk B H w I:=by
 obtain⟨g,O,rfl,hg,D⟩:=L;refine(Ai _ n h O k0 J K w D cM).mono ?_;rintro e I ⟨rfl,E,F⟩;exact⟨rfl,Mk.own F D E (cV M (D.lt g rfl).1) hg⟩
def yG(g B H:Nat)(l:List Cn)(k0:Int)(h0:0<=k0)(h1:k0<=1048576)(w:World)(hr:AD w B H g l)(hB:B<=g)(hs:jw l<=1048576):
  zC 35 #[zS g l.length l.length,zI k0] w λe w'=>e=.returned (zI (k0+2*(l.length:Int)+(fN kG l l.length:Nat)))/\Mk B H w w':=by
 have I:=cO hr;have HB:Hid (B<=g+1):=by show B<=g+1;omega
 obtain⟨n,hn⟩:=eX l.length;have HN:=cO hn.symm;have ab:Hid (∀k,k<=n->fN kG l k<=1048576-n):=λk hk=>by have:=oW (f:=kG) mU l (l.length-k) k (by have:=HN;omega);unfold jw at hs;have:=HN;omega
 have ah:n<=1048576:=by unfold jw at hs;omega
 rw[<-hn];clear hr hn hB hs;go_enter func35,ntmps35;go_wp2;go_loopw[1,5] (λq i wr=>∃(k S:Nat),k<=n/\S<=1048576/\i=zI k/\q=zI (k0+2*(k:Int)+(S:Int))/\Hid (S=fN kG l k)/\Hid (AD wr B H g l)/\Hid (Mk B H w wr)) (λ_ i _=>n-(intOf i).toNat)
 case atStart=>exact⟨0,0,dM _,cM,rfl,l9,by show _=_;simp[fN],I,Mk.refl _ _ _⟩
 case round=>
  clear I;obtain⟨k,S,hk,hS,rfl,rfl,HS,I,HM⟩:=hrel;by_cases ac:k<n
  .have J:k<l.length:=HN▸ac;have E:Hid (S+(l.getD k mU).oy.length=fN kG l (k+1)):=by show _=_;rw[kF mU J,<-HS];rfl
   have K:S+(l.getD k mU).oy.length<=1048576:=by rw[E];have:=ab (k+1) cM;omega
   obtain⟨ut,c2,hu⟩:=I.DQ k J;have h:=I.row;rw[HN]at h;obtain⟨f0,u0,e0⟩:=h.at (k*3) cM;obtain⟨f1,u1,e1⟩:=h.at (k*3+1) cM;have HU:=cO hu;have D:=cO h;obtain⟨gt,xt,rfl,_,_⟩:=hu;generalize(l.getD k mU).oy.length=tl at E K HU c2;have ag:(k:Int)<(n:Int):=cM;clear h;go_wp2_with fail;have L:=HM.put D (cE B) (k*3) (.bool ((k0+2*(k:Int)+(S:Int)) % 3==0));have M:=L.put (D.set _ _) (cE B) (k*3+1) (zI (k0+2*(k:Int)+(S:Int)+1));have O:=(I.set (k:=k) (i:=0) (u:=.bool ((k0+2*(k:Int)+(S:Int)) % 3==0)) cM).set (k:=k) (i:=1) (u:=zI (k0+2*(k:Int)+(S:Int)+1)) cM;have aa:=(HU.mk ((Mk.refl B H wr).put D (cE B) (k*3) (.bool ((k0+2*(k:Int)+(S:Int)) % 3==0)))).mk ((Mk.refl B H _).put (D.set (k*3) (.bool ((k0+2*(k:Int)+(S:Int)) % 3==0))) (cE B) (k*3+1) (zI (k0+2*(k:Int)+(S:Int)+1)));refine(Cw _ tl (g+1) (g+1) H _ cM cM _ aa (cE _) cM).mono ?_;rintro e w2 ⟨rfl,F⟩;have ad:=cO (M.trans (F.mono HB (cE _)));have ae:=cO (AD.Dr O F);clear L M O aa F c2 e0 e1 f0 f1;go_wp2;go_roundw
   case rel=>exact⟨k+1,S+tl,cM,K,l9,l9,E,ae,ad⟩
   case measure=>simp[intOf];omega
  .have af:k=n:=cM;subst af;go_wp2;go_ret;exact⟨by rw[<-HS];rfl,HM⟩
def BB(d:Pr):Nat:=2*d.fP.length+3*d.dw.length
def QD(l:List Pr):∀k,fN BB l k<=3*fN kL l k:=by
 intro k;unfold fN;generalize l.take k=m
 induction m with
 |nil=>simp
 |cons d m h=>simp only[jP,List.sum_cons];unfold BB kL at*;omega
def yE(g B H:Nat)(l:List Pr)(k0:Int)(h0:0<=k0)(h1:k0<=4194304)(w:World)(hr:wW w B H g l)(hB:B<=g)(hs:jH l<=1048576):
  zC 36 #[zS g l.length l.length,zI k0] w λe w'=>e=.returned (zI (k0+2*(l.length:Int)+(fN BB l l.length:Nat)))/\Mk B H w w':=by
 have K:=cO hr;have HB:Hid (B<=g+1):=by show B<=g+1;omega
 obtain⟨n,hn⟩:=eX l.length;have L:=cO hn.symm;have af:Hid (∀k,k<=n->fN BB l k<=3145728):=λk hk=>by have:=oW (f:=kL) gu l (l.length-k) k (by have:=L;omega);have:=QD l k;unfold jH at hs;have:=L;omega
 have ag:Hid (∀k,k<n->(l.getD k gu).fP.length<=1048576/\(l.getD k gu).dw.length<=1048576):=λk hk=>by have hz:=pV (f:=kL) gu (l:=l) (i:=k) (by have:=L;omega);have e:kL (l.getD k gu)=(l.getD k gu).fP.length+(l.getD k gu).dw.length:=rfl;unfold jH at hs;exact⟨cM,cM⟩
 have ar:n<=1048576:=by unfold jH at hs;omega
 rw[<-hn];clear hr hn hB hs;go_enter func36,ntmps36;go_wp2;go_loopw[1,5] (λq i wr=>∃(k S:Nat),k<=n/\S<=3145728/\i=zI k/\q=zI (k0+2*(k:Int)+(S:Int))/\Hid (S=fN BB l k)/\Hid (wW wr B H g l)/\Hid (Mk B H w wr)) (λ_ i _=>n-(intOf i).toNat)
 case atStart=>exact⟨0,0,dM _,cM,rfl,l9,by show _=_;simp[fN],K,Mk.refl _ _ _⟩
 case round=>
  clear K;obtain⟨k,S,hk,hS,rfl,rfl,HS,K,HM⟩:=hrel;by_cases M:k<n
  .have O:k<l.length:=L▸M;have F:Hid (S+(2*(l.getD k gu).fP.length+3*(l.getD k gu).dw.length)=fN BB l (k+1)):=by show _=_;rw[kF gu O,<-HS];rfl
   have I:S+(2*(l.getD k gu).fP.length+3*(l.getD k gu).dw.length)<=3145728:=F▸af (k+1) cM;obtain⟨ah,ai⟩:=ag k M;obtain⟨uc,ud,c2,c3,hu,hv⟩:=K.parts k O;have D:=K.row;rw[L]at D;obtain⟨f0,u0,e0⟩:=D.at (k*4) cM;obtain⟨f1,u1,e1⟩:=D.at (k*4+1) cM;have HU:=cO hu;have HV:=cO hv;have E:=cO D;obtain⟨gt,xt,rfl,_,_⟩:=hu;obtain⟨gv,xv,rfl,_,_⟩:=hv;generalize(l.getD k gu).fP.length=tl at F I HU c2 ah;generalize(l.getD k gu).dw.length=tm at F I HV c3 ai;have aq:(k:Int)<(n:Int):=cM;clear D;go_wp2_with fail;have aa:=HM.put E (cE B) (k*4) (zI (k0+2*(k:Int)+(S:Int)));have ab:=aa.put (E.set _ _) (cE B) (k*4+1) (zI (k0+2*(k:Int)+(S:Int)+1));have ac:=(K.set (k:=k) (i:=0) (u:=zI (k0+2*(k:Int)+(S:Int))) cM).set (k:=k) (i:=1) (u:=zI (k0+2*(k:Int)+(S:Int)+1)) cM;have hq:=(Mk.refl B H wr).put E (cE B) (k*4) (zI (k0+2*(k:Int)+(S:Int)));have J:=(Mk.refl B H _).put (E.set (k*4) (zI (k0+2*(k:Int)+(S:Int)))) (cE B) (k*4+1) (zI (k0+2*(k:Int)+(S:Int)+1));have ad:=(HU.mk hq).mk J;have ae:=cO ((HV.mk hq).mk J);have d3:((wr.setCell (zA g (k*4)) (zI (k0+2*(k:Int)+(S:Int)))).setCell (zA g (k*4+1)) (zI (k0+2*(k:Int)+(S:Int)+1))).cell? (zA g (k*4+3))=some (zS gv tm tm):=(pq cM).trans ((pq cM).trans c3);refine(wk _ tl (g+1) (g+1) H _ cM cM _ ad (cE _) cM).mono ?_;rintro e w2 ⟨rfl,h⟩;have aj:=cO (ab.trans (h.mono HB (cE _)));have ak:=cO (wW.Dr ac h);have al:=cO (Rw.mk ae h);have g3:=(h.below.cell (p:=(zA g (k*4+3))) (by show g<g+1;omega)).trans d3;clear aa ab ac ad h c2 c3 d3 e0 e1 f0 f1 hq J ae HV HU;go_wp2_with fail;refine(Cv _ tm (g+1) (g+1) H _ cM cM _ al (cE _) cM).mono ?_;rintro e w3 ⟨rfl,h⟩;have am:=cO (aj.trans (h.mono HB (cE _)));have an:Hid (wW w3 B H g l):=ak.Dr h;clear h g3;go_wp2;go_roundw
   case rel=>exact⟨k+1,S+(2*tl+3*tm),cM,I,l9,l9,F,an,am⟩
   case measure=>simp[intOf];omega
  .have ap:k=n:=cM;subst ap;go_wp2;go_ret;exact⟨by rw[<-HS];rfl,HM⟩
def BG(uk up:Value)(p:Pg)(w:World)(hk:lX w uk p.dv)(hp:kZ w up p.cU)(hs:jT p<=1048576):
  Calls Tryz.prog 7 #[.agg #[uk,up]] w λe K=>∃gk gp,e=.returned (.agg #[.slice (some ⟨gk,0,none⟩) p.dv.length p.dv.length,.slice (some ⟨gp,0,none⟩) p.cU.length p.cU.length])/\zo K w.heap.size (.slice (some ⟨gk,0,none⟩) p.dv.length p.dv.length) p.dv/\FB K w.heap.size (.slice (some ⟨gp,0,none⟩) p.cU.length p.cU.length) p.cU/\Below w.heap.size w K/\w.heap.size<=gk/\AD K gk gp gk p.dv/\wW K gp K.heap.size gp p.cU:=by
 have af:jw p.dv<=1048576:=by unfold jT at hs;omega
 have M:jH p.cU<=1048576:=by unfold jT at hs;omega
 have CT:Hid (∀W,Below w.heap.size w W->Calls Tryz.prog 24 #[uk] W λe K=>e=.returned (zS W.heap.size p.dv.length p.dv.length)/\zo K W.heap.size (zS W.heap.size p.dv.length p.dv.length) p.dv/\Below W.heap.size W K):=
  λW hW=>BI uk p.dv W (hk.below hW) af
 have CN:Hid (∀W,Below w.heap.size w W->Calls Tryz.prog 25 #[up] W λe K=>e=.returned (zS W.heap.size p.cU.length p.cU.length)/\FB K W.heap.size (zS W.heap.size p.cU.length p.cU.length) p.cU/\Below W.heap.size W K):=
  λW hW=>BF up p.cU W (hp.below hW) M
 obtain⟨I,O⟩:=eX p.dv.length;obtain⟨J,aa⟩:=eX p.cU.length;rw[<-O]at CT;rw[<-aa]at CN;obtain⟨ao,cap,rfl,_,_⟩:=hk;obtain⟨bo,D,rfl,_,_⟩:=hp;have ag:=cO O.symm;have ah:=cO aa.symm;rw[<-O]at CT;rw[<-aa]at CN;clear hs af M;rw[show(Value.slice ao p.dv.length cap)=.slice ao I cap by rw[O],show(Value.slice bo p.cU.length D)=.slice bo J D by rw[aa]];clear O aa;go_enter func7,ntmps7;go_wp2_with fail;refine(CT _ (by go_grown)).mono ?_;rintro e L ⟨rfl,ae,E⟩;simp only[dk]at ae E|-;have ac:Hid (Below w.heap.size w L):=jW (by go_grown) (E.mono cM);have L0:Hid (lq 36 2 L (w.heap.size+1+1) [zN,zN]):=by refine lq.of ((E.block _ cM).trans ?_) rfl;have:=dJ ((w.alloc (Obj.cells #[.slice ao I cap,.slice bo J D] 25)).alloc (Obj.cells #[Value.slice none 0 0,Value.slice none 0 0] 36)) (Obj.cells #[Value.slice none 0 0,Value.slice none 0 0] 36);simpa only[dk]using this
 have M0:Hid (lq 36 2 L (w.heap.size+1) [zN,zN]):=by refine lq.of ((E.block _ cM).trans ?_) rfl;rw[iZ _ _ ti];have:=dJ (w.alloc (Obj.cells #[.slice ao I cap,.slice bo J D] 25)) (Obj.cells #[Value.slice none 0 0,Value.slice none 0 0] 36);simpa only[dk]using this
 have A0:L.heap[w.heap.size]?=some (Obj.cells #[.slice ao I cap,.slice bo J D] 25):=by rw[E.block _ cM,iZ _ _ ti,iZ _ _ ti];exact dJ _ _
 have a3:L.cell? (zA w.heap.size 1)=some (.slice bo J D):=by simp only[World.cell?,A0];rfl
 have an:=L0.free 0;have ap:=L0.at (j:=0) cM;have ai:Hid (AD L (w.heap.size+1+1+1) L.heap.size (w.heap.size+1+1+1) p.dv):=by obtain⟨g,e,_,h⟩:=ae.mk;simp only[de,dB,fC,and_true]at e;obtain⟨rfl,-,-⟩:=e;exact h
 have ab:Hid (w.heap.size+1+1+1<=L.heap.size):=by have:=E.size;simp only[dk]at this;exact this
 clear E A0;go_wp2_with fail;refine(CN _ (ac.setCell (p:=(zA (w.heap.size+1+1) 0)) (by show _<=w.heap.size+1+1;omega) _)).mono ?_;rintro e w2 ⟨rfl,ad,F⟩;simp only[jD]at ad F|-;have M:=F.size;simp only[jD]at M;have aq:=cO ((ac.setCell (p:=(zA (w.heap.size+1+1) 0)) (by show _<=w.heap.size+1+1;omega) _).trans (F.mono ac.size));have L1:Hid (lq 36 2 w2 (w.heap.size+1+1) [zS (w.heap.size+1+1+1) I I,zN]):=
  lq.below (L0.set 0 (zS (w.heap.size+1+1+1) I I)) F (by have:=ab.out;omega)
 have M1:Hid (lq 36 2 w2 (w.heap.size+1) [zN,zN]):=
  lq.below (M0.qG cM) F (by have:=ab.out;omega)
 have ar:Hid (zo w2 (w.heap.size+1+1+1) (zS (w.heap.size+1+1+1) I I) p.dv):=
  zo.below (zo.store ae cM) F (by simp only[jD];exact cE _)
 have aj:=cO (ai.same (cE _) (λb h1 h2=>(F.block b h2).trans (cZ L (zA (w.heap.size+1+1) 0) _ b (by show b≠w.heap.size+1+1;omega))));have ak:Hid (wW w2 L.heap.size w2.heap.size L.heap.size p.cU):=by obtain⟨g,e,_,h⟩:=ad.mk;simp only[de,dB,fC,and_true]at e;obtain⟨rfl,-,-⟩:=e;exact h
 have al:=cO (ad.oh ab);have au:=L1.free 1;have c0:=L1.at (j:=0) cM;have c1:=L1.at (j:=1) cM;have g0:=M1.free 0;have g1:=M1.free 1;have m0:=M1.at (j:=0) cM;have m1:=M1.out.at (j:=1) cM;simp only[kO,mK]at c0 c1 m0 m1;clear ad M a3 an ap;have am:=cO ab.out;generalize L.heap.size=s1 at al aj ak am|-;clear L0 M0 ab ac ai;go_wp2_with fail;have MG:=((M1.out.qG (b:=w.heap.size+1+1) (o:=1) (u:=zS s1 J J) cM).set 0 (zS (w.heap.size+1+1+1) I I)).set 1 (zS s1 J J);refine eS (kl results7 _ _ (w.heap.size+1) 36 _ _ _ rfl (lq.Ds MG) underlying36 rfl rfl) rfl ?_;have SM:∀b,w.heap.size+1+1+1<=b->(((w2.setCell (zA (w.heap.size+1+1) 1) (zS s1 J J)).setCell (zA (w.heap.size+1) 0) (zS (w.heap.size+1+1+1) I I)).setCell (zA (w.heap.size+1) 1) (zS s1 J J)).heap[b]?=w2.heap[b]?:=λb hb=>by rw[cZ _ (zA (w.heap.size+1) 1) _ b (by show b≠w.heap.size+1;omega),cZ _ (zA (w.heap.size+1) 0) _ b (by show b≠w.heap.size+1;omega),cZ _ (zA (w.heap.size+1+1) 1) _ b (by show b≠w.heap.size+1+1;omega)]
 refine⟨w.heap.size+1+1+1,s1,by rw[ag.out,ah.out];rfl,?_,?_,?_,cM,aj.out.same (cE _) (λb h1 _=>SM b h1),?_⟩
 .rw[ag.out];exact zo.oh (B:=w.heap.size+1+1+1) (zo.store (zo.store (zo.store ar.out cM) cM) cM) cM
 .rw[ah.out];exact FB.oh (B:=w.heap.size+1+1+1) (FB.store (FB.store (FB.store al.out cM) cM) cM) cM
 .have P1:w.heap.size<=w.heap.size+1+1:=cM;have P2:w.heap.size<=w.heap.size+1:=cM;exact((aq.out.setCell (p:=(zA (w.heap.size+1+1) 1)) P1 _).setCell (p:=(zA (w.heap.size+1) 0)) P2 _).setCell (p:=(zA (w.heap.size+1) 1)) P2 _
 .refine wW.same ?_ (cE _) (λb h1 _=>SM b (by have:=am.out;omega));simp only[jD];exact ak
def yF(p:Pg)(E D B H:Nat)(w:World)(hk:AD w E D E p.dv)(K:wW w D H D p.cU)(hB:B<=E)(ae:E<D)(hH:H<=w.heap.size)(hs:jT p<=1048576):
  zC 13 #[.agg #[zS E p.dv.length p.dv.length,zS D p.cU.length p.cU.length],zI 1] w λe L=>∃k:Nat,e=.returned (zI (k:Int))/\Mk B H w L/\k<=16777216:=by
 have F:jw p.dv<=1048576:=by unfold jT at hs;omega
 have I:jH p.cU<=1048576:=by unfold jT at hs;omega
 have af:D<H:=by obtain⟨_,_,e,hg,_⟩:=K.row;simp only[de,dB,fC,and_true]at e;omega
 have HA:Hid (∀o,AD (w.alloc o) E D E p.dv/\wW (w.alloc o) D H D p.cU):=λo=>⟨hk.kg ((cN _ _).alloc cM o),K.kg ((cN _ _).alloc cM o)⟩
 have M:fN kG p.dv p.dv.length<=1048576:=by unfold jw at F;omega
 have ag:p.dv.length<=1048576:=by unfold jw at F;omega
 have CK:=cO (λW (h:AD W E D E p.dv)=>yG E E D p.dv 1 cM cM W h (cE _) F);have O:Hid (∀W,wW W D H D p.cU->zC 36 #[zS D p.cU.length p.cU.length,zI (1+2*(p.dv.length:Int)+(fN kG p.dv p.dv.length:Nat))] W λe L=>e=.returned (zI (1+2*(p.dv.length:Int)+(fN kG p.dv p.dv.length:Nat)+2*(p.cU.length:Int)+(fN BB p.cU p.cU.length:Nat)))/\Mk D H W L):=λW h=>yE D D H p.cU _ cM cM W h (cE _) I;have aa:fN BB p.cU p.cU.length<=3145728/\p.cU.length<=1048576:=by have:=QD p.cU p.cU.length;unfold jH at I;omega
 generalize fN kG p.dv p.dv.length=sk at CK O M;generalize fN BB p.cU p.cU.length=sp at O aa;clear hk K hs F I;go_enter func13,ntmps13;go_wp2_with fail;refine(CK _ (HA _).1).mono ?_;rintro e w1 ⟨rfl,J⟩;have z1:=(dK (a:=(zA w.heap.size 1)) (J.Qa w.heap.size cM dC)).trans (fE rfl);have ab:=cO ((HA _).2.Qa J (cE _) iY);have ac:Hid (Mk B H w w1):=Mk.trans ⟨(cN B w).alloc cM _,λb _ hb=>iZ _ _ hb,λb cs t fr h=>⟨cs,(iZ _ _ (CZ h)).trans h,rfl⟩⟩ (J.mono hB cM);clear J;go_wp2_with fail;refine(O _ ab).mono ?_;rintro e w2 ⟨rfl,m2⟩;have ad:=cO (ac.trans (m2.mono cM (cE _)));clear m2;go_wp2;go_returns;exact⟨1+2*p.dv.length+sk+2*p.cU.length+sp,dC,ad,cM⟩
end pg
end Go.Proofs.YtfpkdfeakanlpaaGreatDoor
