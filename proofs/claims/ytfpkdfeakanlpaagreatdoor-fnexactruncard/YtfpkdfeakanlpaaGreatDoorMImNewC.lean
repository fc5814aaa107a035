import Derived.Deep.WholeRow
import Derived.Great.Ranges
import Derived.Laws.Tables
import Derived.Test.YtfpkdfeakanlpaaGreatDoorMImUnC
set_option linter.all false
set_option maxRecDepth 100000
set_option maxHeartbeats 8000000
namespace Go.Proofs.YtfpkdfeakanlpaaGreatDoor
open Go.Proofs.Tryz
namespace im
open RowKit bts pg rn chk
variable{cs:Array Value}{cv g k:Nat}{Hs:Nat→List Int}{av:Option Addr}{p:Pg}{X Y w w0 w1:World}
section
variable{ins:List (List Int)}
def g0:Gh:=⟨λ_ _=>0,λ_=>0,λ_ _=>0,λ_=>0,λ_=>0,0⟩
def m0(H:Hi)(c:Nat):List Value:=[H.ps,H.ks,H.ins]++zG++[.pointer (some ⟨c,0,none⟩),.int .i64 0,.int .i64 0,.bool false,.int .i64 0,.slice none 0 0,.slice none 0 0,.int .i64 0,.int .i64 0]
def AW(w0:World)(h D:Nat)(i:Nat):List Value:=[(w0.cell? ⟨h,D+i*4+0,none⟩).getD .nilIface,(w0.cell? ⟨h,D+i*4+1,none⟩).getD .nilIface,(w0.cell? ⟨h,D+i*4+2,none⟩).getD .nilIface,(w0.cell? ⟨h,D+i*4+3,none⟩).getD .nilIface]
def T3{M:Value}(h:kZ w0 M p.cU)(h1:1<=p.cU.length):∃D E cap,M=.slice (some ⟨D,E,none⟩) p.cU.length cap/\p.cU.length<=9223372036854775807/\∀H:Hi,H.ps=M->H.pc=AW w0 D E->Pm w0 p H:=by
 obtain⟨ao,cap,rfl,hl,r⟩:=h;obtain⟨D,E,_,_,rfl,_⟩:=r 0 cM;refine⟨D,E,cap,rfl,hl,λH e1 O=>?_⟩;have key:∀i,i<p.cU.length->∃I J,AW w0 D E i=[zI (p.cU.getD i gu).params,zI (p.cU.getD i gu).da,I,J]/\qk w0 I (p.cU.getD i gu).fP/\qO w0 J (p.cU.getD i gu).dw/\∀j u,(AW w0 D E i)[j]?=some u->zE w0 D (E+i*4+j) u:=λi K=>by
  obtain⟨b,off,I,J,e,L,c1,c2,c3,r1,r2⟩:=r i K;cases e;have L:w0.cell? (zA D (E+i*4+0))=_:=L;have e:AW w0 D E i=[zI (p.cU.getD i gu).params,zI (p.cU.getD i gu).da,I,J]:=by unfold AW;rw[L,c1,c2,c3];rfl
  refine⟨I,J,e,r1,r2,λj u F=>?_⟩;rw[e]at F;obtain _|_|_|_|j:=j
  .cases F;exact L
  .cases F;exact c1
  .cases F;exact c2
  .cases F;exact c3
  .cases F
 refine⟨⟨D,E,cap,e1,hl,λi K j u F=>?_⟩,λq=>by rw[O];rfl,λi K=>?_⟩
 .rw[O]at F;obtain⟨_,_,_,_,_,k⟩:=key i K;exact k j u F
 .obtain⟨I,J,k1,k2,k3,_⟩:=key i K;exact⟨I,J,O▸k1,k2,k3⟩
def Cr{cJ b z:Nat}{T:TypeId}(E:cJ<=b)(h:w.heap[b]?=some (.cells cs T (0,0)))(D:cs.size=z):w.ownsRow cJ T z (.slice (some ⟨b,0,none⟩) 1 1) 1 cs.toList:=
 ⟨by rw[mI,D,lF],.inr ⟨b,1,cs,rfl,E,h,cE _,by unfold maxLen;omega,by rw[D,lF],by rw[lF,iI (mI▸D▸cE _)]⟩⟩
def PQ{t:eO}(h:eW (zD ins) t):t=(2,0,0)\/t=(3,0,0)\/t=(4,0,0)\/t=(5,0,0)\/t=(9,0,0):=by
 obtain⟨s,i,j⟩:=t;have one:∀{n:Nat},n<1/\j=0->i=n->i=0/\j=0:=λh e=>cM;obtain _|_|_|_|_|_|_|_|_|_|s:=s
 .exact absurd h.1 (dT _)
 .exact absurd h.1 (dT _)
 .obtain⟨rfl,rfl⟩:=one h rfl;exact .inl rfl
 .obtain⟨rfl,rfl⟩:=one h rfl;exact .inr (.inl rfl)
 .obtain⟨rfl,rfl⟩:=one h rfl;exact .inr (.inr (.inl rfl))
 .obtain⟨rfl,rfl⟩:=one h rfl;exact .inr (.inr (.inr (.inl rfl)))
 .obtain⟨D,E,_⟩:=h;obtain rfl:i=0:=by have:i<1:=D;omega
  exact absurd E (dT _)
 .obtain⟨D,E,_⟩:=h;obtain rfl:i=0:=by have:i<1:=D;omega
  exact absurd E (dT _)
 .obtain⟨D,E,_⟩:=h;obtain rfl:i=0:=by have:i<1:=D;omega
  exact absurd E (dT _)
 .have h:=h;cases h;exact .inr (.inr (.inr (.inr rfl)))
 .exact h.elim
def WJ{H:Hi}{c:Nat}(O:Below w0.heap.size w0 w)(hm:Pm w0 p H)(D:nP w0 H.ins ins)(ek:H.ks=.slice av p.dv.length cv)(J:H.pr=.slice none 0 0)(aa:H.er=.slice none 0 0)(hg:w.heap[g]?=some (.cells (m0 H c).toArray 81 (0,0)))(hc:w.heap[c]?=some (.cells #[.int .i64 1,.slice none 0 0,.int .i64 0,.int .i64 0,.string ⟨#[]⟩,.nilIface,.bool false,.pointer none,.int .i64 0,.int .i64 0] 138 (0,0)))(hk:w.heap[k]?=some (.cells (H.pc 0++[Value.slice none 0 0]).toArray 143 (0,0)))(K:w0.heap.size<=g/\w0.heap.size<=c/\w0.heap.size<=k)(ae:g≠c/\g≠k/\c≠k)(ho:w.ownsRow w0.heap.size 132 4 H.ks p.dv.length ((p.dv.map iU).flatMap (vi g0 λ_=>.nilIface)))(ab:∀b,H.ks.ownBlock=some b->b≠g/\b≠c/\b≠k)(ac:p.dv.length<=cv/\cv<=9223372036854775807):
  ∃R,Mi w0 p (zD ins) g0 R H w/\hd R (9,0,0)=.slice (some ⟨g,0,none⟩) 1 1/\hd R (2,0,0)=.slice (some ⟨k,0,none⟩) 1 1/\∀b,Fs (zD ins) g0 R H b->w0.heap.size<=b:=by
 obtain⟨R,hR⟩:=eX (λt=>if t=(9,0,0)then⟨zS g 1 1,1,m0 H c⟩else if t=(4,0,0)then⟨zS c 1 1,1,[zI 1,zN,zI 0,zI 0,zT,.nilIface,.bool false,.pointer none,zI 0,zI 0]⟩else if t=(2,0,0)then⟨zS k 1 1,1,H.pc 0++([zN]:List Value)⟩else lA:eO->fW);have r9:R (9,0,0)=⟨zS g 1 1,1,m0 H c⟩:=hR▸cR rfl;have r4:R (4,0,0)=⟨zS c 1 1,1,[zI 1,zN,zI 0,zI 0,zT,.nilIface,.bool false,.pointer none,zI 0,zI 0]⟩:=hR▸(cK iM).trans (cR rfl);have r2:R (2,0,0)=⟨zS k 1 1,1,H.pc 0++[zN]⟩:=hR▸(cK iM).trans ((cK iM).trans (cR rfl));have r3:R (3,0,0)=lA:=hR▸(cK iM).trans ((cK iM).trans (cK iM));have r5:R (5,0,0)=lA:=hR▸(cK iM).trans ((cK iM).trans (cK iM));have own:∀t,eW (zD ins) t->w.ownsRow w0.heap.size (Is t.1) (Iz t.1) (R t).v (R t).n (R t).cs:=λt I=>by
  obtain rfl|rfl|rfl|rfl|rfl:=PQ I
  .rw[r2];exact Cr (z:=5) K.2.2 hk (by rw[qw,dq,hm.l4];rfl)
  .rw[r3];exact fD _ _ _ _
  .rw[r4];exact Cr (z:=10) K.2.1 hc rfl
  .rw[r5];exact fD _ _ _ _
  .rw[r9];exact Cr (z:=50) K.1 hg rfl
 have L:∀t b,eW (zD ins) t->(R t).v.ownBlock=some b->(t=(2,0,0)/\b=k)\/(t=(4,0,0)/\b=c)\/(t=(9,0,0)/\b=g):=λt b I e=>by
  obtain rfl|rfl|rfl|rfl|rfl:=PQ I
  .rw[r2]at e;cases e;exact .inl ⟨rfl,rfl⟩
  .rw[r3]at e;cases e
  .rw[r4]at e;cases e;exact .inr (.inl ⟨rfl,rfl⟩)
  .rw[r5]at e;cases e
  .rw[r9]at e;cases e;exact .inr (.inr ⟨rfl,rfl⟩)
 have one:∀{i:Nat},i<1->i=0:=λh=>cM;have im:Im w0.heap.size (zD ins) g0 R H w:=by
  refine⟨⟨own,λt u I M hn b e1 e2=>?_⟩,λt I h0=>?_,λx hx=>absurd hx (dT _),λt I _=>?_,λi D=>absurd D (dT _),λi _ D=>absurd D (dT _),λi D x hx=>?_,λa j _ _ _ _ E _ h3=>?_⟩
  .obtain⟨rfl,rfl⟩|⟨rfl,rfl⟩|⟨rfl,rfl⟩:=L t b I e1<;>obtain⟨rfl,q⟩|⟨rfl,q⟩|⟨rfl,q⟩:=L u _ M e2<;>first|exact hn rfl|omega
  .obtain rfl|rfl|rfl|rfl|rfl:=PQ I
   .rw[r2];rfl
   .rw[r3];rfl
   .rw[r4];rfl
   .rw[r5];rfl
   .rw[r9];rfl
  .have v3:hd R (3,0,0)=zN:=by unfold hd;rw[r3];rfl
   have v5:hd R (5,0,0)=zN:=by unfold hd;rw[r5];rfl
   have v4:ptr (hd R (4,0,0))=zP c:=by unfold hd;rw[r4];rfl
   obtain rfl|rfl|rfl|rfl|rfl:=PQ I
   .rw[r2];show _=H.pc 0++[hd R (3,0,0)];rw[v3]
   .rw[r3];rfl
   .rw[r4];show _=[zI 1,hd R (5,0,0)]++vi g0 (hd R) v0++[_,_,_,_];rw[v5];rfl
   .rw[r5];rfl
   .rw[r9];show _=[H.ps,H.ks,H.ins]++zG++[ptr (hd R (4,0,0)),_,_,_,_,H.pr,H.er,_,_];rw[v4,J,aa];rfl
  .obtain rfl:=one (show i<1 from D);cases hx
  .obtain rfl:=one (show a<1 from E);exact absurd h3 (dT _)
 have fs:∀b,Fs (zD ins) g0 R H b->b=k\/b=c\/b=g:=λb h=>by
  obtain(⟨t,I,e⟩|⟨i,D,_⟩)|e:=h
  .obtain h|h|h:=L t b I e
   .exact .inl h.2
   .exact .inr (.inl h.2)
   .exact .inr (.inr h.2)
  .exact absurd D (dT _)
  .rw[J]at e;cases e
 refine⟨R,⟨im,O,?_,hm,?_,D,⟨[],⟨J▸fD _ _ _ _,λb e=>(by rw[J]at e;cases e),λi D=>absurd D (dT _),λi j _ _ _ _ h=>(by cases h)⟩,λu M=>(by cases M)⟩,.inl ⟨aa,rfl⟩⟩,by unfold hd;rw[r9],by unfold hd;rw[r2],λb h=>?_⟩
 .have z:∀i,i<1->(zD ins).cS.getD i dE=⟨[],1,v0,0,0,0⟩:=λi D=>by obtain rfl:=one D;rfl
  refine⟨λa j E F=>?_,λa E F=>absurd (one E) F,λa E F=>?_,λa E=>?_,⟨λ_ _ h=>absurd h (dT _),λi j E F _=>(one E).trans (one F).symm,λi j E F _=>(one E).trans (one F).symm⟩,λa j E F=>?_,⟨λ_ h=>absurd h (dT _),λ_ _=>cE _,λ_ _=>cE _⟩,dM _⟩
  .rw[z a E]at F;exact absurd F (dT _)
  .rw[z a E]at F;cases F
  .rw[z a E];exact Nat.zero_lt_one
  .rw[z a E]at F;exact absurd F (dT _)
 .have hl:(p.dv.map iU).length=p.dv.length:=dY _;refine⟨av,cv,hl▸ek,hl▸ac.1,ac.2,λh0=>?_⟩;rw[hl]at h0;rw[ek]at ho ab;obtain⟨_,e⟩|⟨b,cap,af,e,_⟩:=ho.2
  .omega
  simp only[de]at e;obtain⟨rfl,_,rfl⟩:=e;have hb:=ab b rfl;refine⟨b,0,rfl,λh=>?_,λi r u D M=>?_⟩
  .obtain e|e|e:=fs b h<;>omega
  .rw[hl]at D;have ad:r<4:=(fG.1 M).1;rw[dU,ho.cellAt _ cM,kh (c:=4) (λx=>rfl) v0 _ i r (hl▸D) ad,<-M];rw[Bq D,sI _ g0 g0 _ (hd R)]
 .obtain e|e|e:=fs b h<;>omega
def Hk:zC 59 #[] w (zR w (.agg (zG.take 28).toArray)):=by
 have B:=cO (λh=>(cN w.heap.size w).alloc (cE _) (.cells h 75));go_enter func59,ntmps59;go_wp2_with(refine oA rfl 75 _ _ rfl _ _ rfl rfl 75 _ (heap_alloc_last _ _) gA rfl OJ ?_;rw[World.setRow_alloc_new])
 exact eS (kl results59 _ _ _ 75 _ _ _ rfl (heap_alloc_last _ _) underlying75 rfl gA) rfl ⟨rfl,B _⟩
def Kl:zC 60 #[] w (zR w (.agg (zG.drop 28).toArray)):=by
 have B:=cO (λh=>(cN w.heap.size w).alloc (cE _) (.cells h 78));go_enter func60,ntmps60;go_wp2_with(refine oA rfl 78 _ _ rfl _ _ rfl rfl 78 _ (heap_alloc_last _ _) gA rfl OJ ?_;rw[World.setRow_alloc_new])
 exact eS (kl results60 _ _ _ 78 _ _ _ rfl (heap_alloc_last _ _) underlying78 rfl gA) rfl ⟨rfl,B _⟩
def S0(h D E:Value)(c:Value):Array Value:=([h,D,E]++zG++[c,.int .i64 0,.int .i64 0,.bool false,.int .i64 0,.slice none 0 0,.slice none 0 0,.int .i64 0,.int .i64 0]).toArray
structure Jn(p:Pg)(w4:World)(up ui:Value)(g k:Nat)(av:Option Addr)(cv:Nat)(w:World):Prop where
 mV:Below g w4 w
 eA:w.heap[g]?=some (.cells (S0 up (.slice av k cv) ui (.pointer none)) 81 (0,0))
 own:w.ownsRow (g+1) 132 4 (.slice av k cv) k (((p.dv.take k).map iU).flatMap (vi g0 fun _=>.nilIface))
 sz:g+1≤w.heap.size
def Jn.Oe{E:World}{F I:Value}(J:Jn p E F I g k av cv X)(D:Below X.heap.size X Y):Y.cell? ⟨g,1,none⟩=some (.slice av k cv)/\Y.frozen? ⟨g,1,none⟩=false/\Y.ownsRow (g+1) 132 4 (.slice av k cv) k (((p.dv.take k).map iU).flatMap (vi g0 λ_=>.nilIface))/\g+1<=Y.heap.size:=by
 have e:=(D.block g (gC J.eA)).trans J.eA;have L:Lc (λ_=>False) Y g _ _:=⟨λh=>h,e⟩
 exact⟨L.cell rfl,L.free 1,jm J.own λb q=>D.block b (J.own.lt b q).2,cV J.sz D.size⟩
def Jn.next{I Z:World}{K L:Value}{h:Option Addr}{D:Nat}{cs:List Value}(J:Jn p I K L g k av cv X)(F:Below X.heap.size X Y)(M:k<p.dv.length)(hv:vi g0 (λ_=>.nilIface) (iU (p.dv.getD k mU))=cs)(E:sd 132 4 Y (g+1) av k cv (((p.dv.take k).map iU).flatMap (vi g0 λ_=>.nilIface)++cs) h (k+1) D Z):Jn p I K L g (k+1) h D (Z.setCell ⟨g,1,none⟩ (.slice h (k+1) D)):=by
 obtain⟨_,_,own,sz⟩:=J.Oe F;have O:=gC J.eA;have eg:Z.heap[g]?=X.heap[g]?:=(E.jz.block g (dj O F.size) λe=>by have:=(own.lt g e.symm).1;omega).trans (F.block g O);refine⟨?_,?_,?_,?_⟩
 .have b1:Below g I Z:=(J.mV.trans (F.mono cM)).grown E.jz cM λb q=>by have:=(own.lt b q).1;omega
  exact b1.setCell (cE _) _
 .rw[fF (eg.trans J.eA)];rfl
 .have e:(p.dv.take (k+1)).map iU=(p.dv.take k).map iU++[iU (p.dv.getD k mU)]:=by
   rw[mm M,gX,cB,cG M];rfl
  rw[e,V7,List.flatMap_singleton,hv];refine jm E.own λb q=>cZ _ (zA g 1) _ b λe=>?_;have:=(E.own.lt b q).1;have e:b=g:=e;omega
 .have:=E.jz.size;simp[World.setCell];omega
def yd{P:Program}{ops:Array Oper}{D:List Oper}{o:Oper}{a:Act}{Q:Exit->Act->World->Prop}(F:o.guard=none)(t:TypeId)(parts:Array (Nat×Operand))(I:o.op=.build t parts)(l:List (Nat×Value))(J:(parts.map λ(i,x)=>(i,a.eval x)).toList=l)(E:P.built t l=some cs)(h:wpList P ops Q D (a.put o.dst (.agg cs)) w):wpList P ops Q (o::D) a w:=by subst J;refine wpList_build F t parts I (by rw[E];rfl) ?_;rw[E];exact h
def yA(E:mz p Hs){uk up ui:Value}(hk:lX w uk p.dv)(hp:kZ w up p.cU)(hi:nP w ui ins)(h5:∀x∈ins,x.length<=5000):
  zC 29 #[.agg #[uk,up],ui] w λe w'=>∃G R H,Mi w p (rn.start p ins) G R H w'/\e=.returned (ptr (hd R (9,0,0))):=by
 obtain⟨pb,po,pc,rfl,aC,aD⟩:=T3 hp E.jZ.1.1.1;obtain⟨ak,ck,rfl,aE,rk⟩:=hk;obtain⟨ai,ci,rfl,an,am,ri⟩:=hi;obtain⟨nk,aa⟩:∃n,n=p.dv.length:=⟨_,rfl⟩
 obtain⟨np,af⟩:∃n,n=p.cU.length:=⟨_,rfl⟩
 obtain⟨ni,ag⟩:∃n,n=ins.length:=⟨_,rfl⟩
 rw[<-aa,<-af,<-ag];obtain⟨i0,aK,aL,aM,aN⟩:=fQ uB;have aO:nk<=20000:=aa▸E.jZ.1.1.2.2;have D:=cO (And.intro aa (And.intro af ag));have RK:=cO rk;have RI:=cO ri;have PM:=cO aD;have HE:=cO E;have H5:=cO h5;rw[<-aa]at aE;rw[<-af]at aC;rw[<-ag]at an;clear aa af ag rk ri aD E hp h5;obtain⟨up,aF⟩:∃u,u=Value.slice (some (zA pb po)) np pc:=⟨_,rfl⟩
 obtain⟨ui,aG⟩:∃u,u=Value.slice ai ni ci:=⟨_,rfl⟩
 have HU:=cO (And.intro aF aG);clear aF aG;have HB:Hid (Tryz.prog.built 81 [(0,.slice (some (zA pb po)) np pc),(2,.slice ai ni ci),(3,.agg (zG.take 28).toArray),(4,.agg (zG.drop 28).toArray)]=some (S0 (.slice (some (zA pb po)) np pc) (zN) (.slice ai ni ci) (.pointer none))):=by show _=_;kernel_rfl
 have NV:=cO (λX n=>nK (w:=X) n);have TV:=cO (λX n=>ki (w:=X) n);unfold vq at NV TV;unfold e0 at NV;have IA:=cO (λX=>Hk (w:=X));have FA:=cO (λX=>Kl (w:=X));go_enter func29,ntmps29;go_upto_region 1 with fail;refine dx λw1 ap=>?_;have B1:Hid (zB w w1):=ap▸ba;have L1:Hid (Lc (λ_=>False) w1 w.heap.size #[.slice ak nk ck,.slice (some (zA pb po)) np pc] 36):=ap▸Lc.new w (S:=λ_=>False) (λ_ h=>h.elim) _ _;clear ap;obtain⟨S,hS⟩:=eX (Below w1.heap.size w1);have un:=cO (λX (q:S X)=>show zB w1 X by rw[hS]at q;exact q);have y0:=λx:Wd S=>di (L1.cell (j:=1) rfl) (un _ x.ok);have MK:Hid (∀X,zB w1 X->S X):=λX q=>hS▸q;clear hS;haveI:Nonempty (Wd S):=⟨⟨w1,MK _ (cN _ _)⟩⟩
 refine Cg S [0,1,2] [3,4] [5,6,7] (MK _ (cN _ _).drew) ?_;simp only[pick,ey,eB,eL,eM,dt,dG];repeat(go_big_quiet_step(fail))
 refine wpQuiet_nil ?_;clear y0;refine dI ?_;go_wp2_with(go_at_call 59;refine cA (IA _) ?_;rintro e w3 ⟨rfl,b3⟩;have B3:=cO ((cN w1.heap.size w1).drew.trans b3);clear b3)
 refine⟨MK _ B3,?_⟩;refine dI ?_;go_wp2_with(go_at_call 60;refine cA (FA _) ?_;rintro e w4 ⟨rfl,b4⟩;have B4:=cO (iy B3 b4);clear b4)
 refine⟨MK _ B4,?_⟩;refine ej ?_;generalize hI:Value.agg (zG.take 28).toArray=vI at*;generalize hF:Value.agg (zG.drop 28).toArray=vF at*;generalize hM:S0 (.slice (some (zA pb po)) np pc) (zN) (.slice ai ni ci) (.pointer none)=mc at*;refine yd rfl 81 _ rfl [(0,.slice (some (zA pb po)) np pc),(2,.slice ai ni ci),(3,vI),(4,vF)] (by simp[Act.eval]) HB ?_;refine Go.Great.wpList_boxTo rfl 81 _ rfl _ rfl w4.heap.size rfl mc rfl ?_;go_upto_region 2 with fail;refine dx λw5 aq=>?_;obtain⟨g,hg⟩:=eX w4.heap.size;rw[<-hg];have B5:Hid (Below g w4 w5):=aq▸hg▸ba;have L5:Hid (w5.heap[g]?=some (.cells mc 81 (0,0))/\w5.heap.size=g+1):=aq▸hg▸⟨dJ _ _,dk _ _⟩;have GW:=cO hg;clear aq hg;have l1:=di (L1.cell (j:=0) rfl) (show zB w1 w5 from B4.trans (B5.mono (GW▸B4.size)));go_wp2;go_loopw[19] (λx wr=>∃k:Nat,k<=nk/\x=zI (k:Int)/\∃K L,Hid (Jn p w4 up ui g k K L wr)) (λx _=>nk-(intOf x).toNat)
 case atStart=>
  refine⟨0,dM _,rfl,none,0,?_⟩;have e:S0 up (zN) ui (.pointer none)=mc:=HU.out.1▸HU.out.2▸hM;exact⟨B5,e▸L5.1,fD _ _ _ _,L5.out.2▸cE _⟩
 case round=>
  obtain⟨k,aT,rfl,K,L,J⟩:=hrel;have BW:=cO (B1.trans ((B4.trans (J.mV.mono (GW▸B4.size))).mono B1.size));by_cases ar:k<nk
  .have aS:(k:Int)<(nk:Int):=cM;obtain⟨b,off,ut,rfl,k0,k1,k2,rt⟩:=RK k (by rw[<-D.1];exact ar);obtain⟨eA,ac,rfl,aU,hr,_⟩:=rt;have y0:=di k0 BW;have y1:=di k1 BW;have y2:=di k2 BW;obtain⟨it,ah⟩:∃b,b=(p.dv.getD k mU).pB:=⟨_,rfl⟩
   obtain⟨nn,au⟩:∃b,b=(p.dv.getD k mU).n:=⟨_,rfl⟩
   obtain⟨tn,aw⟩:∃b,b=(p.dv.getD k mU).oy.length:=⟨_,rfl⟩
   rw[<-ah]at y0;rw[<-au]at y1;rw[<-aw]at y2;obtain⟨ts,ax⟩:∃b:ByteArray,b=⟨(gj (p.dv.getD k mU).oy).toArray⟩:=⟨_,rfl⟩
   have CV:Hid (∀Y,zB wr Y->(convert 29 9 (.slice eA tn ac)).run Tryz.prog Y=.ok (.string ts) Y):=λY hY=>by rw[ax];exact xR (hr.below (iy BW hY)) aw
   have VC:Hid ((it=false->vi g0 (λ_=>.nilIface) (iU (p.dv.getD k mU))=[zI 2,zI nn,zT,.nilIface])/\(it=true->vi g0 (λ_=>.nilIface) (iU (p.dv.getD k mU))=[zI 3,zI 0,.string ts,.nilIface])):=⟨λe=>by rw[ah]at e;unfold iU;rw[e,au];rfl,λe=>by rw[ah]at e;unfold iU;rw[e,ax];rfl⟩
   clear ah au aw ax k0 k1 k2 hr;go_upto_region 6 with(go_at_call 61;refine cA (NV _ _) ?_;rintro e F ⟨rfl,b6⟩;have B6:=cO b6;clear b6)
   refine dx λO aj=>?_;have C6:=cO (((cN wr.heap.size wr).alloc (cE _) (.cells #[.bool it,zI nn,.slice eA tn ac] 96)).trans (B6.mono dC));have L7:Hid (Lc (λ_=>False) O wr.heap.size #[.bool it,zI nn,.slice eA tn ac] 96):=by rw[aj];exact((Lc.new wr (S:=λ_=>False) (λ_ h=>h.elim) _ _).kept (Kp.cY B6)).alloc _
   have K7:Hid (Lc (λ_=>False) O F.heap.size #[zI 2,zI nn,zT,.nilIface] 132):=by rw[aj];exact Lc.new F (S:=λ_=>False) (λ_ h=>h.elim) _ _
   have B7:Hid (zB wr O):=aj▸C6.alloc C6.size _;have Q6:=cO C6.size;clear aj C6 y0 y1 y2;have x0:=L7.cell (j:=0) rfl;have x2:=L7.cell (j:=2) rfl;cases it;focus go_upto_region 8 with fail
   refine dx λw9 ab=>?_;obtain⟨vk,vn,vs,V9⟩:∃vk vn vs,Hid (Lc (λ_=>False) w9 F.heap.size #[zI vk,zI vn,.string vs,.nilIface] 132/\zB wr w9/\vi g0 (λ_=>.nilIface) (iU (p.dv.getD k mU))=[zI vk,zI vn,.string vs,.nilIface]):=⟨_,_,_,by rw[ab];exact⟨K7.out,B7,VC.1 rfl⟩⟩
   clear ab
   rotate_left
   have aP:=CV O B7;focus go_upto_region 8 with(go_at_call 62;refine cA (TV _ _) ?_;rintro e w8 ⟨rfl,b8⟩;have K8:=cO (K7.kept (Kp.cY b8));have B8:=cO (iy B7 b8);obtain⟨z0,z1,z2,z3⟩:=K8.c4;have f0:=K8.free 0;have f1:=K8.free 1;have f2:=K8.free 2;have f3:=K8.free 3;clear b8)
   refine dx λw9 ab=>?_;obtain⟨vk,vn,vs,V9⟩:∃vk vn vs,Hid (Lc (λ_=>False) w9 F.heap.size #[zI vk,zI vn,.string vs,.nilIface] 132/\zB wr w9/\vi g0 (λ_=>.nilIface) (iU (p.dv.getD k mU))=[zI vk,zI vn,.string vs,.nilIface]):=⟨_,_,_,by rw[ab];have q:=cV (uO _) (by have:=B6.size;simpa using this);exact⟨⟨λh=>h,fF (fF (fF (fF K8.2)))⟩,(((B8.setCell q _).setCell q _).setCell q _).setCell q _,VC.2 trivial⟩⟩
   clear ab z0 z1 z2 z3 f0 f1 f2 f3 aP K8 B8;all_goals
    clear x0 x2 L7 K7 B7 B6 CV VC;have NL:Hid (some F.heap.size≠(Value.slice K k L).ownBlock):=λe=>by have:=(J.own.lt _ e.symm).2;have:=Q6.out;omega
    have NG:Hid (some g≠(Value.slice K k L).ownBlock):=λe=>by have:=(J.own.lt _ e.symm).1;omega
    obtain⟨S,hS⟩:=eX (fI w9 (Value.slice K k L).ownBlock);have q0:=Wd.ce hS (V9.1.cell (j:=0) rfl) NL;have q1:=Wd.ce hS (V9.1.cell (j:=1) rfl) NL;have q2:=Wd.ce hS (V9.1.cell (j:=2) rfl) NL;have q3:=Wd.ce hS (V9.1.cell (j:=3) rfl) NL;have q4:=λx:Wd S=>x.cell hS (J.Oe V9.2.1).1 NG;have HS:=cO hS;clear hS;haveI:=pz HS;refine uq S 6 2 (HS▸(fI.refl _ _).drew) ?_;simp only[List.take,List.drop];repeat(go_big_quiet_step(fail))
    refine wpQuiet_nil ?_;clear q0 q1 q2 q3 q4;refine dI ?_;go_wp2;refine⟨HS▸(fI.refl _ _).drew.alloc _,?_⟩;refine dI ?_;refine gJ λay ad=>?_;have aH:Hid (zB w9 ay):=ad▸(cN _ _).drew.alloc (cE _) _;have HN:Hid (∀j u,([zI vk,zI vn,.string vs,.nilIface]:List Value)[j]?=some u->ay.cell? (((zA w9.heap.size 0):Addr).add j)=some u):=by rw[ad];intro j u hu;rw[iK,dU];exact Lc.cell (S:=λ_=>False) (cs:=#[zI vk,zI vn,.string vs,.nilIface]) ⟨λh=>h,dJ w9.drew _⟩ (by simpa using hu)
    clear ad;have aI:=cO (V9.2.1.trans (aH.mono V9.2.1.size));have BK:=cO (J.Oe aI);refine eI rfl _ _ _ rfl 132 i0 (.agg #[zI 0,zI 0,zT,.nilIface]) 4 48 underlying72 aK aL aM aN rfl cM (g+1) K k L _ rfl BK.2.2.1 (some (zA w9.heap.size 0)) 1 1 [zI vk,zI vn,.string vs,.nilIface] rfl rfl (λ_=>⟨_,rfl,HN⟩) (by intro u hu;simp only[eQ,eh,iw]at hu;obtain rfl|rfl|rfl|rfl:=hu<;>rfl) (by unfold maxLen;omega) cM BK.2.2.2 ?_;intro aV aW aQ hA;have aR:=cO (J.next aI (by rw[<-D.1];exact ar) V9.2.2 hA);have NH:aQ.heap[g]?=ay.heap[g]?:=hA.jz.block g (by have:=BK.2.2.2;omega) λe=>by have:=(BK.2.2.1.lt g e.symm).1;omega
    have aX:=(dK (a:=(zA g 1)) NH).trans BK.1;have aY:=(dA (a:=(zA g 1)) NH).trans BK.2.1;have SS:=cO ((fI.below (row:=(Value.slice K k L).ownBlock) aH).grown hA.jz);clear NH hA;refine lK ?_;refine⟨HS▸SS,?_⟩;refine ej ?_;go_wp2;go_roundw
    case rel=>exact⟨k+1,cM,l9,_,_,aR⟩
    case measure=>simp[intOf];omega
  .obtain rfl:k=nk:=cM;have JJ:=cO J;have NB:Hid (∀o,(wr.alloc o).heap[g]?=wr.heap[g]?):=λo=>gH _ _ _ (gC J.eA);have LG:Hid (Lc (λ_=>False) wr g (S0 up (.slice K k L) ui (.pointer none)) 81):=⟨λh=>h,J.eA⟩
   have a1:=λo=>(dK (a:=(zA g 41)) (NB o)).trans (LG.cell (j:=41) rfl);have a2:=λo=>(dA (a:=(zA g 41)) (NB o)).trans (LG.free 41);clear ar l1;go_upto_region 11 with fail;refine dx λF aJ=>?_;have F6:Hid (Below g w4 F/\F.heap[g]?=some (.cells (S0 up (.slice K k L) ui (zP wr.heap.size)) 81 (0,0))/\F.heap[wr.heap.size]?=some (.cells #[zI 1,zN,zI 0,zI 0,zT,.nilIface,.bool false,.pointer none,zI 0,zI 0] 138 (0,0))/\F.ownsRow (g+1) 132 4 (.slice K k L) k (((p.dv.take k).map iU).flatMap (vi g0 λ_=>.nilIface))/\F.heap.size=wr.heap.size+1):=by
    rw[aJ];have lg:=gC J.eA;refine⟨(J.mV.alloc (by have:=J.sz;omega) _).setCell (cE _) _,?_,?_,jm J.own λb q=>?_,QB⟩
    .rw[fF ((NB _).trans J.eA)];rfl
    .rw[cZ _ (zA g 41) _ _ (by show wr.heap.size≠g;omega)];exact dJ _ _
    .have:=J.own.lt b q;rw[cZ _ (zA g 41) _ _ (by show b≠g;omega)];exact gH _ _ _ this.2
   clear aJ a1 a2 LG NB;have BX:=cO (B1.trans ((B4.trans (F6.1.mono (GW▸B4.size))).mono B1.size));have l1:=di (L1.cell (j:=1) rfl) (show zB w1 F from B4.trans (F6.1.mono (GW▸B4.size)));obtain⟨H,hH⟩:=eX (⟨up,.slice K k L,ui,zN,zN,AW w pb po⟩:Hi);have M:=PM H (by rw[hH,HU.1,D.2.1]) (by rw[hH]);obtain⟨uc,ud,al,_,_⟩:=M.pc 0 HE.jZ.1.1.1;have I:=HE.jZ.1.2.2.1 0 HE.jZ.1.1.1;obtain⟨u0,az⟩:∃u,u=Value.int .i64 (p.cU.getD 0 gu).params:=⟨_,rfl⟩
   obtain⟨u1,aA⟩:∃u,u=Value.int .i64 (p.cU.getD 0 gu).da:=⟨_,rfl⟩
   have CE:∀j u,(H.pc 0)[j]?=some u->zE F pb (po+j) u:=λj u hu=>by obtain⟨aZ,a0,c',e,_,q⟩:=M.ps;rw[hH]at e;have e:=e;rw[HU.1]at e;simp only[de,dB,fC]at e;obtain⟨⟨rfl,rfl,_⟩,_,_⟩:=e;have:=di (q 0 HE.jZ.1.1.1 j u hu) BX;rwa[gh,eD]at this
   rw[al,<-az,<-aA]at CE;have y0:F.cell? (zA pb po)=_:=CE 0 _ rfl;have y1:=CE 1 _ rfl;have y2:=CE 2 _ rfl;have y3:=CE 3 _ rfl;have EN:Hid (∀O,O=F.alloc (.cells #[u0,u1,uc,ud,zN] 143)->zC 63 #[zP g,zP F.heap.size,zN,zI 0] O λe w8=>(∃x,e=.returned x)/\∃G R,Mi w p (rn.start p ins) G R H w8/\ptr (hd R (9,0,0))=zP g):=λO h7=>by
    have b7:zB F O:=h7▸ba;obtain⟨_,fg,fc,fo,fs⟩:=F6;have lg:=gC fg;have gB:w.heap.size<=g:=by have:=B1.size;have:=B4.size;rw[GW];omega
    have s6:=BX.size;have rl:w.heap.size<=wr.heap.size:=by have:=J.sz;omega
    have aB:H.ks=.slice K k L:=by rw[hH]
    have ae:O.ownsRow (g+1) 132 4 (.slice K k L) k ((p.dv.map iU).flatMap (vi g0 λ_=>.nilIface)):=by have q:=jm (w1:=O) fo λb q=>b7.block b (fo.lt b q).2;rwa[D.1,qR,<-D.1]at q
    obtain⟨R,MM,r9,r2,_⟩:=WJ (w0:=w) (w:=O) (H:=H) (ins:=ins) (g:=g) (c:=wr.heap.size) (k:=F.heap.size) (av:=K) (cv:=L) (BX.trans (b7.mono s6)) M (hH▸⟨ai,ci,by rw[HU.2,D.2.2],by rw[<-D.2.2];exact an,am,RI⟩) (by rw[aB,<-D.1]) (by rw[hH]) (by rw[hH]) (by rw[b7.block g lg,fg,hH];rfl) ((b7.block _ (gC fc)).trans fc) (by rw[h7,al,<-az,<-aA];exact dJ _ _) ⟨gB,rl,s6⟩ (by have:=J.sz;omega) (by rw[aB,<-D.1];exact⟨ae.1,ae.2.imp id λ⟨a,b,c,d,e,f⟩=>⟨a,b,c,d,cM,f⟩⟩) (λb q=>by rw[aB]at q;have:=fo.lt b q;have:b<wr.heap.size:=(J.own.lt b q).2;omega) (by
     obtain⟨e,e0⟩|⟨a,b,c,e,_,_,q1,q2,_⟩:=ae.2
     .simp only[de]at e;rw[<-D.1];omega
     .simp only[de]at e;unfold maxLen at q2;rw[<-D.1];omega)
    have en:=EV (fn:=0) (args:=[]) (v:=zN) (D0 HE H5) MM.gw (want:=0) (λj q=>by cases q) MM.im MM.bs ⟨none,0,rfl,cE _,cM,λq=>absurd q dC⟩ Nat.zero_lt_one (dM _) (np:=(p.cU.getD 0 gu).params.toNat) (ns:=(p.cU.getD 0 gu).da.toNat) (uc:=uc) (ud:=ud) (by show H.pc 0=_;rw[al,sC I.1,sC (Int.le_trans I.1 I.2.1)]) (by have:=I.1;have:=I.2.1;omega) (by have:=I.2.2.1;omega) (T:=rn.start p ins) rfl;rw[r9,r2]at en;refine en.mono ?_;rintro e w8 ⟨hx,G,R',im,gw,d9,kp⟩;obtain⟨m8,_⟩:=MM.gY im gw kp rfl rfl rfl;exact⟨hx,G,R',m8,by rw[d9];rfl⟩
   have a3:0<np:=D.out.2.1▸HE.jZ.1.1.1;have a6:(0:Int)<(np:Int):=cM;clear M I al CE az aA hM hI hF aO aE aC an am;go_wp2_with(go_at_call 63;refine cA (EN _ rfl) ?_;rintro e w8 ⟨⟨x,rfl⟩,G,R,m8,e8⟩;have M8:=cO m8;have E8:=cO e8;clear m8 e8)
   go_returns;exact⟨G,R,H,M8,by rw[E8];rfl⟩
end
end im
end Go.Proofs.YtfpkdfeakanlpaaGreatDoor
