import Derived.Deep.Cut
import Derived.Test.YtfpkdfeakanlpaaGreatDoorMRnRun
import Derived.Test.YtfpkdfeakanlpaaGreatDoorMChkSpec
set_option linter.all false
set_option maxRecDepth 100000
set_option maxHeartbeats 8000000
namespace Go.Proofs.YtfpkdfeakanlpaaGreatDoor
open Go.Proofs.Tryz
namespace rn
open RowKit bts pg chk
variable{n:Int}{p:Pg}{w:World}
section
variable{ins:List (List Int)}
structure Oc where
 dw:Int
 dn:List (List UInt8)
 lu:List UInt8
 dz:Nat
 iq:Nat
def oc(V:St):Oc:=⟨V.dw,V.dn,V.lu,V.dz,V.iq⟩
def Qx(p:Pg)(ins:List (List Int))(n:Int)(o:Oc):Prop:=
 (j5 p/\jU ins n=true/\o=oc (run p n.toNat (start p ins)))\/(¬(j5 p/\jU ins n=true)/\o=⟨1,[],[],0,0⟩)
def FJ(w:World)(v:Value)(o:Oc):Prop:=∃h D,v=.agg #[.int .i64 o.dw,h,D,.int .i64 (o.dz:Int),.int .i64 (o.iq:Int)]/\nP w h (o.dn.map qP)/\AB w D (qP o.lu)
def D6{uk up ui:Value}(hs:jT p<=1048576)(hn:∀i,i<p.dv.length->-9223372036854775808<=(p.dv.getD i mU).n/\(p.dv.getD i mU).n<=9223372036854775807)(L:lX w uk p.dv)(M:kZ w up p.cU)(D:nP w ui ins){o:Oc}(ho:Qx p ins n o):
  zC 6 #[.agg #[uk,up],ui,zI n] w λe I=>zB w I/\∃v,e=.returned v/\FJ I v o:=by
 obtain⟨ak,ck,rfl,aa,rk⟩:=L;obtain⟨ap,cp,rfl,ab,rp⟩:=M;obtain⟨ai,ci,rfl,ac,ad,ri⟩:=D;have L:lX w (.slice ak p.dv.length ck) p.dv:=⟨ak,ck,rfl,aa,rk⟩
 have M:kZ w (.slice ap p.cU.length cp) p.cU:=⟨ap,cp,rfl,ab,rp⟩
 have D:nP w (.slice ai ins.length ci) ins:=⟨ai,ci,rfl,ac,ad,ri⟩
 have CK:∀O:Bool,(O=true↔j5 p)->∀X,zB w X->zC 20 #[.agg #[.slice ak p.dv.length ck,.slice ap p.cU.length cp]] X (zR X (.bool O)):=λO h X hX=>Af p _ _ X (L.below hX) (M.below hX) hs O h;obtain⟨F,J,rfl⟩|⟨ae,rfl⟩:=ho
 .obtain⟨Hs,E⟩:=mz.of F hn;have h0:0<=n:=(show(0<=n/\n<=100000/\ins.length<=1000/\∀x∈ins,x.length<=5000) by simpa[jU]using J).1;obtain⟨m,rfl⟩:∃m:Nat,n=m:=⟨n.toNat,cM⟩
  refine(Cc E (CK true ⟨λ_=>F,λ_=>rfl⟩) L M D rfl J rfl).mono ?_;rintro e I ⟨K,u1,u2,rfl,h1,h2⟩;exact⟨K,_,rfl,u1,u2,rfl,h1,h2⟩
 .by_cases F:j5 p
  .refine(wP (CK true ⟨λ_=>F,λ_=>rfl⟩) D rfl (by rw[Bool.true_and];exact uQ.2 λh=>ae ⟨F,h⟩)).mono ?_;rintro e I ⟨rfl,K⟩;exact⟨K,_,rfl,_,_,rfl,⟨none,0,rfl,cE _,cM,λi D=>absurd D (dT _)⟩,⟨none,0,rfl,dM _,λi D=>absurd D (dT _),λi=>by simp[qP]⟩⟩
  .refine(wP (bS:=false) (CK false ⟨λh=>(by cases h),λh=>absurd h F⟩) D rfl rfl).mono ?_;rintro e I ⟨rfl,K⟩;exact⟨K,_,rfl,_,_,rfl,⟨none,0,rfl,cE _,cM,λi D=>absurd D (dT _)⟩,⟨none,0,rfl,dM _,λi D=>absurd D (dT _),λi=>by simp[qP]⟩⟩
end
end rn
namespace im
open RowKit bts pg rn
variable{s:ByteArray}{f:Fr}{b k op z:Int}{l:List Nat}{us:List Value}{a cJ c cap cv g i j m n x:Nat}{ao av:Option Addr}{r:fW}{V W:St}{R R':eO→fW}{mv u y:Value}{v:Vl}{X w w' w1:World}
def vq(k n:Int)(s:ByteArray)(t:Value):Value:=.agg #[.int .i64 k,.int .i64 n,.string s,t]
def e0:ByteArray:=⟨#[]⟩
def Tg(t:Value):Prop:=t=.nilIface\/∃T a,t=.iface T (.pointer a)
def Tg.store{t:Value}(h:Tg t)(a:Addr)(Y:World)(D:(Y.cell? a).isSome=true)(E:Y.frozen? a=false):(store a t).run Tryz.prog Y=.ok () (Y.setCell a t):=by obtain⟨u,F⟩:=py.1 D;obtain rfl|⟨T,b,rfl⟩:=h<;>simp[go_sem,F,E]
def BM(v:Value):List PanicEntry:=[{v:=.iface 145 v,recovered:=false}]
def qS(b:Bool):zC 176 #[.bool b] w λe h=>e=.returned (zI (if b then 1 else 0))/\h=w:=by cases b<;>(go_enter func176,ntmps176;go_wp2;go_returns;exact⟨rfl,rfl⟩)
def jM(b:Bool):zC 143 #[.bool b] w (zR w (vq 1 (if b then 1 else 0) e0 .nilIface)):=by
 obtain⟨n,h⟩:=eX (if b then 1 else 0:Int);have T:=λX=>qS (w:=X) b;rw[<-h]at T|-;have T:=cO T;clear h;go_enter func143,ntmps143;go_wp2_with(go_at_call 176;refine cA (T _) ?_;rintro e D ⟨rfl,rfl⟩)
 go_returns;exact⟨rfl,ba⟩
def nK(n:Int):zC 61 #[zI n] w (zR w (vq 2 n e0 .nilIface)):=by go_enter func61,ntmps61;go_wp2;go_returns;exact⟨rfl,ba⟩
def ki(s:ByteArray):zC 62 #[.string s] w (zR w (vq 3 0 s .nilIface)):=by go_enter func62,ntmps62;go_wp2;go_returns;exact⟨rfl,ba⟩
def wS(k n:Int)(s:ByteArray)(t:Value):zC 166 #[vq k n s t] w (zR w (.bool (k==0 || (k==1&&n==0)))):=by unfold vq;cases h:k==0<;>cases D:k==1<;>cases E:n==0<;>(go_enter func166,ntmps166;go_wp2;go_returns;exact⟨rfl,ba⟩)
def yN(k n:Int)(s:ByteArray)(t:Value):zC 173 #[vq k n s t] w (zR w (.bool (k==5 || k==6))):=by unfold vq;cases h:k==5<;>cases D:k==6<;>(go_enter func173,ntmps173;go_wp2;go_returns;exact⟨rfl,ba⟩)
def jR(s:ByteArray):zC 164 #[.string s] w λe D=>e=.panicked (BM (vq 3 0 s .nilIface))/\zB w D:=by
 have T:=cO (λX=>ki (w:=X) s);unfold vq at T|-;go_enter func164,ntmps164;go_wp2_with(go_at_call 62;refine cA (T _) ?_;rintro e F ⟨rfl,h⟩;have E:=cO h;clear h)
 exact⟨rfl,rfl,E⟩
def yz(n:Int)(s f:ByteArray)(t:Value):zC 188 #[vq 2 n s t,.string f] w (zR w (zI n)):=by unfold vq;go_enter func188,ntmps188;go_wp2;go_returns;exact⟨rfl,ba⟩
def AZ(h:¬k=2)(n:Int)(s f:ByteArray)(t:Value):zC 188 #[vq k n s t,.string f] w λe E=>e=.panicked (BM (vq 3 0 f .nilIface))/\zB w E:=by
 have T:=cO (λX=>jR (w:=X) f);unfold vq at T|-;have I:(k != 2)=true:=by simpa using h
 clear h;go_enter func188,ntmps188;go_wp2_with(go_at_call 164;refine cA (T _) ?_;rintro e J ⟨rfl,D⟩;have F:=cO ((ba).trans (D.mono dC));clear D)
 exact⟨rfl,rfl,F⟩
def US{i:Int}(h:(n:Int)<=i):zC 172 #[.slice ao n cap,zI i] w (zR w (vq 0 0 e0 .nilIface)):=by go_enter func172,ntmps172;go_wp2;go_returns;exact⟨rfl,ba⟩
def mb{k:Nat}{ty:TypeId}{a b c d:Value}(h:X.heap[k]?=some (.cells #[a,b,c,d] ty (0,0)))(D E F I:Value):Lc (λ_=>False) ((((X.setCell ⟨k,0,none⟩ D).setCell ⟨k,1,none⟩ E).setCell ⟨k,2,none⟩ F).setCell ⟨k,3,none⟩ I) k #[D,E,F,I] ty:=
 ⟨λh=>h,fF (fF (fF (fF h)))⟩
def qM{k:Nat}(h:Below w.heap.size w X)(D:w.heap.size<=k)(E F I J:Value):Below w.heap.size w ((((X.setCell ⟨k,0,none⟩ E).setCell ⟨k,1,none⟩ F).setCell ⟨k,2,none⟩ I).setCell ⟨k,3,none⟩ J):=(((h.setCell D _).setCell D _).setCell D _).setCell D _
def SD{b off:Nat}{m:Int}{t:Value}(hi:i<n)(J:zE w b (off+i*4) (zI k))(K:zE w b (off+i*4+1) (zI m))(L:zE w b (off+i*4+2) (.string s))(M:zE w b (off+i*4+3) t)(ht:Tg t):
  zC 172 #[.slice (some (zA b off)) n cap,zI (i:Int)] w (zR w (vq k m s t)):=by
 have aa:(i:Int)<(n:Int):=cM;have st:=ht.store;go_enter func172,ntmps172;go_upto_region 1 with fail;refine dx λO D=>?_;have E:Hid (zB w O):=D▸ba;have I:Hid (Lc (λ_=>False) O w.heap.size #[zI 0,zI 0,zT,.nilIface] 132):=D▸Lc.new w (λ_ h=>h.elim) _ _;clear D;replace J:=di J E;replace K:=di K E;replace L:=di L E;replace M:=di M E;obtain⟨q0,q1,q2,q3⟩:=I.c4;have qf:=I.free;go_wp2;refine eS (v:=vq k m s t) (by have F:=mb I.2 (zI k) (zI m) (.string s) t;have z0:=F.cell (j:=0) (u:=zI k) rfl;have z1:=F.cell (j:=1) (u:=zI m) rfl;have z2:=F.cell (j:=2) (u:=.string s) rfl;have z3:=F.cell (j:=3) (u:=t) rfl;simp[results,results172,go_sem,z0,z1,z2,z3,vq]) rfl ?_;exact⟨rfl,qM E (cE _) _ _ _ _⟩
def tJ{D:World}(h:Below w.heap.size w D)(F:a<w.heap.size)(u:Value):Below w.heap.size (w.setCell ⟨a,j,none⟩ u) (D.setCell ⟨a,j,none⟩ u):=by
 refine⟨h.os,h.tape,h.output,by simpa[World.setCell]using h.size,λk E=>?_⟩;by_cases e:k=a
 .subst e;have:=h.block k E;simp only[World.setCell,oa,this]
 .rw[cZ _ (zA a j) _ k e,cZ _ (zA a j) _ k e];exact h.block k E
def IL{b:Nat}{m:Int}{t:Value}(J:zE w a 3 (zS b (n+1) cap))(hf:w.frozen? (zA a 3)=false)(hn:n+1<=cap)(hm:n<=1000000000)(M:zE w b (n*4) (zI k))(O:zE w b (n*4+1) (zI m))(c2:zE w b (n*4+2) (.string s))(c3:zE w b (n*4+3) t)(ht:Tg t):
  zC 161 #[zP a] w λe w'=>e=.returned (vq k m s t)/\Below w.heap.size (w.setCell (zA a 3) (zS b n cap)) w':=by
 have hl:a<w.heap.size:=dy w (zA a 3) J;have st:=ht.store;go_enter func161,ntmps161;go_upto_region 1 with fail;refine dx λD E=>?_;have F:Hid (zB w D):=E▸ba;have L1:Hid (Lc (λ_=>False) D w.heap.size #[zI 0,zI 0,zT,.nilIface] 132):=E▸Lc.new w (λ_ h=>h.elim) _ _;clear E;replace M:=di M F;replace O:=di O F;replace c2:=di c2 F;replace c3:=di c3 F;replace J:=di J F;go_upto_region 3 with fail;refine dx λK I=>?_;have C2:Hid (zB D K):=I▸ba;have L2:Hid (Lc (λ_=>False) K D.heap.size #[zI k,zI m,.string s,t] 132):=I▸Lc.new D (λ_ h=>h.elim) _ _;have B2:=cO (iy F C2);have R2:=cO (L1.kept (Kp.cY C2));clear I M O c2 c3;replace J:=di J C2;have aa:K.frozen? (zA a 3)=false:=(dA (a:=(zA a 3)) (B2.block a hl)).trans hf;obtain⟨q0,q1,q2,q3⟩:=R2.c4;have qf:=R2.free;obtain⟨p0,p1,p2,p3⟩:=L2.c4;have n1:¬a=w.heap.size:=cM;have n2:¬w.heap.size=a:=cM;have ab:=F.size;have n3:¬a=D.heap.size:=cM;have n4:¬D.heap.size=a:=cM;clear hf;go_wp2;refine eS (v:=vq k m s t) (by have L:=mb (X:=K.setCell (zA a 3) (zS b n cap)) ((cZ _ _ _ _ n2).trans R2.2) (zI k) (zI m) (.string s) t;have z0:=L.cell (j:=0) (u:=zI k) rfl;have z1:=L.cell (j:=1) (u:=zI m) rfl;have z2:=L.cell (j:=2) (u:=.string s) rfl;have z3:=L.cell (j:=3) (u:=t) rfl;simp[results,results161,go_sem,z0,z1,z2,z3,vq]) rfl ?_;exact⟨rfl,((((tJ B2 hl _).setCell (cE _) _).setCell (cE _) _).setCell (cE _) _).setCell (cE _) _⟩
def Ci{fn:Func}{t:Tmp}(J:fn.results=#[.cell t 132]){tmps:Array Value}{K:Nat}(h:tmps.getD t undef=.pointer (some ⟨K,0,none⟩)){D E F I:Value}(L:Lc (λ_=>False) X K #[D,E,F,I] 132):(results fn tmps).run Tryz.prog X=.ok (.agg #[D,E,F,I]) X:=by
 have M:=L.cell (j:=0) (u:=D) rfl;have O:=L.cell (j:=1) (u:=E) rfl;have z2:=L.cell (j:=2) (u:=F) rfl;have z3:=L.cell (j:=3) (u:=I) rfl;have h:(tmps[t]?).getD undef=.pointer (some ⟨K,0,none⟩):=by rw[<-h];simp[Ov]
 simp[results,J,go_sem,h,M,O,z2,z3]
def uB:(Tryz.prog.info? 132).map (λi=>(i.zero,i.size,i.bytes))=some (some (.agg #[.int .i64 0,.int .i64 0,.string ⟨#[]⟩,.nilIface]),4,48):=gA
def Mx{m:Int}{t:Value}(hB:cJ<=w.heap.size)(ha:w.cell? ⟨a,3,none⟩=some (.slice av n cv))(hf:w.frozen? ⟨a,3,none⟩=false)(hO:w.ownsRow cJ 132 4 (.slice av n cv) n us)(O:some a≠(Value.slice av n cv).ownBlock)(hn:n<=1000000000)(ht:Tg t):
  Calls Tryz.prog 159 #[.pointer (some ⟨a,0,none⟩),vq k m s t] w λe w'=>(∃x,e=.returned x)/\∃w1 D E F,Below w.heap.size w w1/\sd 132 4 w1 cJ av n cv (us++[.int .i64 k,.int .i64 m,.string s,t]) E (n+1) F D/\w'=D.setCell ⟨a,3,none⟩ (.slice E (n+1) F):=by
 have hl:=dy w ⟨a,3,none⟩ ha;have HA:=cO ha;have HF:=cO hf;have HO:=cO hO;have J:=cO O;obtain⟨i0,aa,ab,ac,ad⟩:=fQ uB;have ae:t.oneCell'=true:=by obtain rfl|⟨T,b,rfl⟩:=ht<;>rfl
 unfold vq;clear ha hf hO O;go_enter func159,ntmps159;go_wp2;refine dx λD K=>?_;have B2:Hid (Below w.heap.size w D):=K▸ba;have L2:Hid (Lc (λ_=>False) D w.heap.size #[.int .i64 k,.int .i64 m,.string s,t] 132):=K▸Lc.new w (λ_ h=>h.elim) _ _;clear K;have NL:Hid (some w.heap.size≠(Value.slice av n cv).ownBlock):=λe=>gE _ (HO.lt _ e.symm).2;obtain⟨S,L⟩:=eX (fI D (Value.slice av n cv).ownBlock);have y3:=Wd.ce L (di HA B2) J;have z0:=Wd.ce L (L2.cell (j:=0) rfl) NL;have z1:=Wd.ce L (L2.cell (j:=1) rfl) NL;have z2:=Wd.ce L (L2.cell (j:=2) rfl) NL;have z3:=Wd.ce L (L2.cell (j:=3) rfl) NL;have HS:=cO L;clear L;haveI:=pz HS;refine uq S 6 2 (HS▸(fI.refl _ _).drew) ?_;simp only[List.take,List.drop];repeat(go_big_quiet_step(fail))
 refine wpQuiet_nil ?_;refine dI ?_;go_wp2;refine⟨HS▸(fI.refl _ _).drew.alloc _,?_⟩;refine dI ?_;clear y3 z0 z1 z2 z3;refine gJ λw3 M=>?_;have C3:Hid (Below D.heap.size D w3):=M▸(ba).drew;have I:=cO (iy B2 C3);have af:Hid (∀j u,([.int .i64 k,.int .i64 m,.string s,t]:List Value)[j]?=some u->w3.cell? ((⟨D.heap.size,0,none⟩:Addr).add j)=some u):=by rw[M];intro j u hu;rw[iK,dU];exact Lc.cell (S:=λ_=>False) (cs:=#[.int .i64 k,.int .i64 m,.string s,t]) ⟨λh=>h,dJ D _⟩ (by simpa using hu)
 clear M;have ag:Hid (w3.ownsRow cJ 132 4 (.slice av n cv) n us):=HO.kept (row:=none) ⟨I.os,I.tape,I.output,I.size,λk hk _=>I.block k hk⟩ (by
  cases h:(Value.slice av n cv).ownBlock with
  |none=>exact .inl rfl
  |some k=>exact .inr dC)
 refine eI rfl _ _ _ rfl 132 i0 (.agg #[.int .i64 0,.int .i64 0,.string ⟨#[]⟩,.nilIface]) 4 48 DD aa ab ac ad rfl cM cJ av n cv us rfl ag (some ⟨D.heap.size,0,none⟩) 1 1 [.int .i64 k,.int .i64 m,.string s,t] rfl rfl (λ_=>⟨_,rfl,af⟩) (by intro u hu;simp only[eQ,eh,iw]at hu;obtain rfl|rfl|rfl|rfl:=hu<;>first|rfl|exact ae) (by unfold maxLen;omega) cM (cV hB I.size) ?_;intro E F w4 hA;have ah:=cO hA;have S4:=cO ((fI.below (row:=(Value.slice av n cv).ownBlock) I).grown hA.jz);have c3:=S4.cell HA J;have f3:w4.frozen? ⟨a,3,none⟩=false:=(dA (a:=⟨a,3,none⟩) (S4.block a hl J)).trans HF;have SS:=cO ((fI.below (row:=(Value.slice av n cv).ownBlock) C3).grown hA.jz);clear hA;refine lK ?_;refine⟨HS▸SS,?_⟩;refine ej ?_;go_wp2;go_returns;exact⟨⟨_,rfl⟩,w3,w4,E,F,I,ah,rfl⟩
def Js{b:Nat}{q:Addr}(E:w.cell? ⟨a,2,none⟩=some (.slice (some ⟨b,0,none⟩) n cap))(F:i<n)(I:n<=1000000000)(J:w.cell? ⟨b,i,none⟩=some (.pointer (some q))):
  Calls Tryz.prog 160 #[.pointer (some ⟨a,0,none⟩),.int .i64 (i:Int)] w λe h=>e=.returned (.pointer (some q))/\h=w:=by
 have D:(i:Int)<(n:Int):=cM;go_enter func160,ntmps160;go_wp2;go_returns;exact⟨rfl,rfl⟩
def LI{b:Nat}(K:w.cell? ⟨a,2,none⟩=some (.slice (some ⟨b,0,none⟩) n cap))(hi:i<n)(hn:n<=1000000000)(D:w.cell? ⟨b,i,none⟩=some (.pointer none))(L:w.frozen? ⟨b,i,none⟩=false)(E:¬a=b):
  Calls Tryz.prog 160 #[.pointer (some ⟨a,0,none⟩),.int .i64 (i:Int)] w λe M=>e=.returned (.pointer (some ⟨w.heap.size,0,none⟩))/\M=(w.setCell ⟨b,i,none⟩ (.pointer (some ⟨w.heap.size,0,none⟩))).alloc (.cells #[.int .i64 0,.int .i64 0,.string ⟨#[]⟩,.nilIface] 196):=by
 have O:(i:Int)<(n:Int):=cM;have hl:=dy w ⟨b,i,none⟩ D;have F:(w.alloc (.cells #[.int .i64 0,.int .i64 0,.string ⟨#[]⟩,.nilIface] 196)).frozen? ⟨b,i,none⟩=false:=(dA (a:=⟨b,i,none⟩) (gH _ _ _ hl)).trans L;have I:=fJ (o:=(.cells #[.int .i64 0,.int .i64 0,.string ⟨#[]⟩,.nilIface] 196)) D;go_enter func160,ntmps160;go_upto_region 3 with fail;refine dx λJ h=>?_;have H2:=cO h;have a2:J.cell? ⟨a,2,none⟩=some (.slice (some ⟨b,0,none⟩) n cap):=by rw[h];exact fJ ((dK (a:=⟨a,2,none⟩) (cZ _ ⟨b,i,none⟩ _ a E)).trans K)
 have b2:J.cell? ⟨b,i,none⟩=some (.pointer (some ⟨w.heap.size,0,none⟩)):=by rw[h];exact fJ (my _ _ _ D)
 clear h I F;go_wp2;go_returns;exact⟨rfl,H2⟩
def LJ(D:w.cell? ⟨a,1,none⟩=some (.slice ao 0 cap)):Calls Tryz.prog 66 #[.pointer (some ⟨a,0,none⟩)] w λe h=>e=.returned .nilIface/\h=w:=by go_enter func66,ntmps66;go_wp2;go_returns;exact⟨rfl,rfl⟩
def DM{b:Nat}(D:w.cell? ⟨a,1,none⟩=some (.slice (some ⟨b,0,none⟩) (m+1) cap))(E:m<=1000000000000)(F:w.cell? ⟨b,m,none⟩=some u):Calls Tryz.prog 66 #[.pointer (some ⟨a,0,none⟩)] w λe h=>e=.returned u/\Below w.heap.size w h:=by go_enter func66,ntmps66;go_wp2_with fail;go_quiet (fail);go_wp2;go_returns;exact⟨rfl,rn.dQ (cN _ _) _⟩
def NN{b:Nat}(h:w.cell? ⟨a,1,none⟩=some (.slice (some ⟨b,0,none⟩) (m+1) cap))(E:w.frozen? ⟨a,1,none⟩=false)(L:m<=1000000000000)(F:m+1<=cap)(I:w.cell? ⟨b,m,none⟩=some u):Calls Tryz.prog 141 #[.pointer (some ⟨a,0,none⟩)] w λe M=>e=.returned u/\Below w.heap.size (w.setCell ⟨a,1,none⟩ (.slice (some ⟨b,0,none⟩) m cap)) M:=by
 have J:=dy w ⟨a,1,none⟩ h;have T:=cO (DM h L I);have O:=cO h;have HF:=cO E;clear h E I;go_enter func141,ntmps141;go_wp2_with(go_at_call 66;refine cA T ?_;rintro e w1 ⟨rfl,K⟩;have D:=cO K;clear K)
 have c1:=di O D;have f1:=(dA (a:=⟨a,1,none⟩) (D.block a J)).trans HF;refine uZ 12 ?_;simp only[List.take,List.drop];repeat(go_big_quiet_step(fail))
 refine wpQuiet_nil ?_;go_wp2;go_returns;exact⟨rfl,(tJ D J _).drew⟩
def uz{q:Option Addr}(D:w.cell? ⟨a,7,none⟩=some (.pointer q)):Calls Tryz.prog 145 #[.pointer (some ⟨a,0,none⟩)] w λe h=>e=.returned (.bool q.isNone)/\h=w:=by cases q<;>(go_enter func145,ntmps145;go_wp2;go_returns;exact⟨rfl,rfl⟩)
def wJ(z:Int):Calls Tryz.prog 144 #[.agg #[.int .i64 z]] w λe h=>e=.returned (.int .i64 z)/\Below w.heap.size w h:=by go_enter func144,ntmps144;go_wp2;go_returns;exact⟨rfl,ba⟩
def wK(D:w.cell? ⟨a,4,none⟩=some (.int .i64 z)):Calls Tryz.prog 242 #[.pointer (some ⟨a,0,none⟩)] w λe h=>e=.returned (.int .i64 z)/\h=w:=by go_enter func242,ntmps242;go_wp2;go_returns;exact⟨rfl,rfl⟩
def Qe{c:Int}{x:Value}(D:zE w g 44 x)(E:w.frozen? (zA g 44)=false)(F:zE w g 45 y)(I:w.frozen? (zA g 45)=false):zC 30 #[zP g,zI c] w λe h=>(∃x,e=.returned x)/\h=(w.setCell (zA g 44) (.bool true)).setCell (zA g 45) (zI c):=by go_enter func30,ntmps30;go_wp2;go_returns;exact⟨⟨_,rfl⟩,rfl⟩
def JY{r:Nat}{l:Int}{x:Value}(h:¬c=g)(D:¬r=g)(E:¬c=r)(I:zE w g 41 (zP c))(J:w.frozen? (zA g 41)=false)(K:zE w c 0 x)(L:w.frozen? (zA c 0)=false)(M:zE w c 7 (zP r))(O:zE w c 8 (zI z))(h5:zE w r 0 y)(f5:w.frozen? (zA r 0)=false):
  zC 147 #[zP g,zI l] w λe F=>e=.returned (zI z)/\F=((w.setCell (zA c 0) (zI l)).setCell (zA g 41) (zP r)).setCell (zA r 0) (zI 1):=by
 have m1:¬g=c:=λe=>h e.symm;have m2:¬g=r:=λe=>D e.symm;have m3:¬r=c:=λe=>E e.symm;go_enter func147,ntmps147;go_wp2;go_returns;exact⟨rfl,rfl⟩
def wC(T:TypeId)(q:Option Addr)(hm:m<=1000000000)(E:zE w g 42 (zI (m:Int)))(L:w.frozen? (zA g 42)=false):zC 162 #[zP g,zI k,.iface T (.pointer q)] w λe O=>e=.returned (vq k ((m+1:Nat):Int) e0 (.iface T (.pointer q)))/\Below w.heap.size (w.setCell (zA g 42) (zI ((m+1:Nat):Int))) O:=by
 have M:g<w.heap.size:=dy w (zA g 42) E;have aa:¬g=w.heap.size:=cM;have F:¬w.heap.size=g:=cM;go_enter func162,ntmps162;go_upto_region 1 with fail;refine dx λI D=>?_;have J:Hid (zB w I):=D▸ba;have K:Hid (Lc (λ_=>False) I w.heap.size #[zI 0,zI 0,zT,.nilIface] 132):=D▸Lc.new w (λ_ h=>h.elim) _ _;clear D;replace L:=(dA (a:=(zA g 42)) (J.block g M)).trans L;replace E:=di E J;obtain⟨q0,q1,q2,q3⟩:=K.c4;have qf:=K.free;go_wp2;refine eS (v:=.agg #[zI k,zI ((m+1:Nat):Int),zT,.iface T (.pointer q)]) ?_ rfl ?_
 .exact Ci results162 rfl (mb (X:=I.setCell (zA g 42) (zI ((m+1:Nat):Int))) ((cZ _ _ _ _ F).trans K.2) _ _ _ _)
 exact⟨rfl,((((tJ J M _).setCell (cE _) _).setCell (cE _) _).setCell (cE _) _).setCell (cE _) _⟩
def wN(k n:Int)(s:ByteArray)(q:Option Addr):zC 163 #[vq k n s (.iface 226 (.pointer q))] w (zR w (.pointer q)):=by have h:∀X,(Instr.typeAssert (.iface 226 (.pointer q)) 20 226 true).run Tryz.prog X=.ok (.tuple #[.pointer q,.bool true]) X:=λX=>gA;unfold vq;go_enter func163,ntmps163;go_wp2;go_returns;exact⟨rfl,ba⟩
def yj(k n:Int)(s:ByteArray){t:Value}(h:t=.nilIface\/∃q,t=.iface 140 (.pointer q)\/t=.iface 79 (.pointer q)):zC 163 #[vq k n s t] w λe E=>e=.panicked (BM (vq 3 0 ⟨#[105,110,100,101,120]⟩ .nilIface))/\zB w E:=by
 have T:=cO (λX=>jR (w:=X) ⟨#[105,110,100,101,120]⟩);have I:∀X,(Instr.typeAssert t 20 226 true).run Tryz.prog X=.ok (.tuple #[.pointer none,.bool false]) X:=λX=>by obtain rfl|⟨q,rfl|rfl⟩:=h<;>kernel_rfl
 unfold vq at T|-;clear h;go_enter func163,ntmps163;go_wp2_with(go_at_call 164;refine cA (T _) ?_;rintro e J ⟨rfl,D⟩;have F:=cO ((ba).trans (D.mono dC));clear D)
 exact⟨rfl,rfl,F⟩
def pD(k n:Int)(s:ByteArray)(q:Option Addr):zC 174 #[vq k n s (.iface 79 (.pointer q))] w (zR w (.pointer q)):=by have h:∀X,(Instr.typeAssert (.iface 79 (.pointer q)) 20 79 true).run Tryz.prog X=.ok (.tuple #[.pointer q,.bool true]) X:=λX=>gA;unfold vq;go_enter func174,ntmps174;go_wp2;go_returns;exact⟨rfl,ba⟩
def s8(k n:Int)(s:ByteArray){t:Value}(h:t=.nilIface\/∃q,t=.iface 226 (.pointer q)\/t=.iface 140 (.pointer q)):zC 174 #[vq k n s t] w λe E=>e=.panicked (BM (vq 3 0 ⟨#[97,114,103,117,109,101,110,116]⟩ .nilIface))/\zB w E:=by
 have T:=cO (λX=>jR (w:=X) ⟨#[97,114,103,117,109,101,110,116]⟩);have I:∀X,(Instr.typeAssert t 20 79 true).run Tryz.prog X=.ok (.tuple #[.pointer none,.bool false]) X:=λX=>by obtain rfl|⟨q,rfl|rfl⟩:=h<;>kernel_rfl
 unfold vq at T|-;clear h;go_enter func174,ntmps174;go_wp2_with(go_at_call 164;refine cA (T _) ?_;rintro e J ⟨rfl,D⟩;have F:=cO ((ba).trans (D.mono dC));clear D)
 exact⟨rfl,rfl,F⟩
def KE(F:us.length=n*4)(O:∀u∈us,u.oneCell'=true)(hn:n<=1000000000)(E:0<n->∃D,ao=some D/\∀j u,us[j]?=some u->w.cell? (D.add j)=some u):
  zC 189 #[.slice ao n cap] w λe w'=>∃av cv,e=.returned (.slice av n cv)/\w'.ownsRow w.heap.size 132 4 (.slice av n cv) n us/\zB w w':=by
 obtain⟨i0,hi,I,J,K⟩:=fQ uB;have aa:=λ(W:World) (a:Option Addr) (m k:Nat)=>Lib.run_eql_slice_nil (P:=Tryz.prog) W 151 132 a m k 0 0 DD;cases ao with
 |none=>
  obtain rfl:n=0:=Nat.eq_zero_of_not_pos λh=>by obtain⟨_,e,_⟩:=E h;cases e
  obtain rfl:=eJ.1 (F.trans (gh _));clear F O E;go_enter func189,ntmps189;go_wp2;go_returns;exact⟨none,0,rfl,fD _ _ _ _,cN _ _⟩
 |some a=>
  have HR:Hid (0<n->∃D,some a=some D/\∀j u,us[j]?=some u->(w.alloc (.cells #[] 132)).cell? (D.add j)=some u):=λh=>by obtain⟨D,e,q⟩:=E h;exact⟨D,e,λj u hj=>(Below.cell ((cN w.heap.size w).alloc (cE _) _) (dy _ _ (q j u hj))).trans (q j u hj)⟩
  have h0:(w.alloc (.cells #[] 132)).ownsRow w.heap.size 132 4 (zS w.heap.size 0 0) 0 []:=
   jt (base:=w.heap.size) (e:=132) (size:=4) w #[] 0 (cE _) (by unfold maxLen;omega) rfl
  have hB:=(cN w.heap.size w).alloc (cE _) (.cells #[] 132);clear E;go_enter func189,ntmps189;go_wp2_with(at_builtin;refine eI rfl _ _ _ rfl 132 i0 (.agg #[zI 0,zI 0,zT,.nilIface]) 4 48 DD hi I J K rfl cM w.heap.size (some (zA w.heap.size 0)) 0 0 [] rfl h0 (some a) n cap us rfl F HR O (by unfold maxLen;omega) cM dC ?_;intro L M w2 hA;have HA:=cO hA;clear hA)
  go_returns;refine⟨L,M,by first|rfl|(rw[dU];rfl),?_,hB.grown HA.jz dC (λk hk=>(h0.lt k hk).1)⟩;have:=HA.own;rw[dU]at this;exact this
def DS{N:Nat}(ha:zE w a 3 (.slice av N cv))(J:w.frozen? (zA a 3)=false)(K:w.ownsRow cJ 132 4 (.slice av N cv) N us)(hu:∀u∈us,u.oneCell'=true)(hN:N<=1000000000)(hn:n<=N):
  zC 168 #[zP a,zI (n:Int)] w λe w'=>∃E F,e=.returned (.slice E n F)/\w'.ownsRow w.heap.size 132 4 (.slice E n F) n (us.drop ((N-n)*4))/\Below w.heap.size (w.setCell (zA a 3) (.slice av (N-n) cv)) w':=by
 have L:=dy w (zA a 3) ha;have hd:(us.drop ((N-n)*4)).length=n*4:=by rw[eZ,K.1];omega
 have HC:=cO (λ(ao:Option Addr) (cap:Nat) (hr:0<n->∃M,ao=some M/\∀j u,(us.drop ((N-n)*4))[j]?=some u->w.cell? (M.add j)=some u)=>KE (cap:=cap) (ao:=ao) hd (λu h=>hu u (fK h)) cM hr);have HF:=cO J;have HA:=cO ha;have O:(N:Int)-(n:Int)=((N-n:Nat):Int):=cM;have e1:N-(N-n)=n:=cM;have h2:((N-n:Nat):Int)<=(N:Int):=cM;obtain⟨e,e0⟩|⟨g',ab,ac,e,hb,hh,q1,q2,q3,q4⟩:=K.2
 .simp only[de]at e;obtain⟨rfl,rfl,rfl⟩:=e;obtain rfl:n=0:=cM;have C:=cO (HC none 0 (λh=>absurd h (gE _)));clear K hu HC J O e1 h2 hd e0;go_enter func168,ntmps168;go_wp2_with(go_at_call 189;refine cA C ?_;rintro e w1 ⟨E,F,rfl,o1,D⟩;have I:=cO o1;have B1:=cO D;have ha:=di HA D;have J:=(dA (a:=(zA a 3)) (D.block a L)).trans HF;clear o1 D)
  go_returns;exact⟨E,F,rfl,iQ I (λe=>by have h1:w.heap.size<=a:=(I.lt _ e).1;omega) _,tJ B1 L _⟩
 .simp only[de]at e;obtain⟨rfl,_,rfl⟩:=e;have aa:Hid (0<n->∃M,some ((zA g' ((N-n)*4)):Addr)=some M/\∀j u,(us.drop ((N-n)*4))[j]?=some u->w.cell? (M.add j)=some u):=λ_=>⟨_,rfl,λj u hj=>by
   rw[lN]at hj;have:=K.cells (g:=g') rfl _ u hj;rw[iK]at this|-;rw[dU]at this;exact this⟩
  have ad:cv<=9223372036854775807:=by unfold maxLen at q2;omega
  obtain⟨z,hz⟩:=eX (N-n);rw[<-hz]at HC aa O e1 h2|-;have ae:z<=N:=cM;have HZ:=cO hz;clear K hu J hd hh q2 q3 q4 hz hb;go_enter func168,ntmps168;go_wp2_with fail;all_goals
   go_at_call 189;refine cA (HC _ _ (by first|exact aa|exact λh=>absurd h cM)) ?_;rintro e w1 ⟨E,F,rfl,o1,D⟩;have I:=cO o1;have B1:=cO D;replace ha:=di HA D;have J:=(dA (a:=(zA a 3)) (D.block a L)).trans HF;clear o1 D;go_wp2;go_returns;first
    |exact⟨E,F,rfl,iQ I (λe=>by have h1:w.heap.size<=a:=(I.lt _ e).1;omega) _,tJ B1 L _⟩
    |(rw[show cv=z by omega];exact⟨E,F,rfl,iQ I (λe=>by have h1:w.heap.size<=a:=(I.lt _ e).1;omega) _,tJ B1 L _⟩)
structure Gh where
 ij:Nat→Nat→Nat
 map:Nat→Nat
 wa:Nat→Nat→Int
 rw:Nat→Int
 yw:Nat→Int
 iG:Nat
structure Hi where
 ps:Value
 ks:Value
 ins:Value
 pr:Value
 er:Value
 pc:Nat→List Value
def Is(s:Nat):TypeId:=[196,229,143,195,138,149,153,195,132,81].getD s 0
def Iz(s:Nat):Nat:=[4,1,5,1,10,1,5,1,4,50].getD s 0
def ptr:Value->Value
 |.slice a _ _=>.pointer a
 |_=>.pointer none
def dV(V:eO->Value)(v:Vl):Value:=
 if v.k=4 then .iface 226 (ptr (V (1,v.n.toNat,0)))else if v.k=5 then .iface 140 (ptr (V (2,v.n.toNat,0)))else if v.k=7 then .iface 79 (ptr (V (4,v.n.toNat,0)))else .nilIface
def hC(G:Gh)(v:Vl):Int:=if v.k=4 then G.ij 1 v.n.toNat else if v.k=5 then G.ij 2 v.n.toNat else if v.k=7 then G.ij 4 v.n.toNat else v.n
def vi(G:Gh)(V:eO->Value)(v:Vl):List Value:=[.int .i64 v.k,.int .i64 (hC G v),sv v.s,dV V v]
def An(G:Gh)(v:Vl):wI:=⟨v.k,hC G v,⟨v.s.toArray⟩⟩
def zG:List Value:=[102,103,104,105,106,107,108,109,110,111,112,113,114,115,116,117,118,119,120,121,122,123,124,125,126,127,128,129,130,131,132,133,134,135,136,137,138,139].map λn=>.func (.func n) #[] #[]
def gF(W:St)(G:Gh)(H:Hi)(V:eO->Value)(t:eO):List Value:=
 let i:=t.2.1;let f:=W.fr i t.2.2;let c:=W.cS.getD i dE
 match t.1 with
 |0=>vi G V (W.vars.getD i v0)
 |1=>[.map (some (G.map i))]
 |2=>H.pc (W.funcs.getD i (0,[])).1++[V (3,i,0)]
 |3=>(W.funcs.getD i (0,[])).2.flatMap λx=>[ptr (V (0,x,0))]
 |4=>[.int .i64 c.state,V (5,i,0)]++vi G V c.body++[.bool (decide (i≠0/\0<=c.held)),if i=0\/c.held<0 then .pointer none else ptr (V (4,c.gq,0)),.int .i64 (G.rw i),.int .i64 (G.yw i)]
 |5=>(List.range c.cy.length).flatMap λj=>[if (W.fr i j).guard then .iface 199 (.agg #[.int .i64 (G.wa i j)])else .iface 147 (ptr (V (6,i,j)))]
 |6=>[ptr (V (2,f.fn,0)),.int .i64 f.eA,V (7,i,t.2.2),V (8,i,t.2.2),.int .i64 (G.wa i t.2.2)]
 |7=>f.da.flatMap λx=>[ptr (V (0,x,0))]
 |8=>f.ops.flatMap (vi G V)
 |_=>[H.ps,H.ks,H.ins]++zG++[ptr (V (4,W.cQ,0)),.int .i64 G.iG,.int .i64 W.size,.bool W.oz,.int .i64 W.dw,H.pr,H.er,.int .i64 W.dz,.int .i64 W.iq]
def sP(W:St)(t:eO):Nat:=
 match t.1 with
 |3=>(W.funcs.getD t.2.1 (0,[])).2.length
 |5=>(W.cS.getD t.2.1 dE).cy.length
 |7=>(W.fr t.2.1 t.2.2).da.length
 |8=>(W.fr t.2.1 t.2.2).ops.length
 |_=>1
def eW(W:St)(t:eO):Prop:=
 match t.1 with
 |0=>t.2.1<W.vars.length/\t.2.2=0
 |1=>t.2.1<W.tables.length/\t.2.2=0
 |2|3=>t.2.1<W.funcs.length/\t.2.2=0
 |4|5=>t.2.1<W.cS.length/\t.2.2=0
 |6|7|8=>t.2.1<W.cS.length/\t.2.2<(W.cS.getD t.2.1 dE).cy.length/\(W.fr t.2.1 t.2.2).guard=false
 |9=>t.2=(0,0)
 |_=>False
def hd(R:eO->fW)(t:eO):Value:=(R t).v
def rB(W:St)(G:Gh)(V:eO->Value)(i:Nat):List (wI×Value):=(W.tables.getD i []).map λe=>(An G e.1,.agg (vi G V e.2).toArray)
structure Im(cJ:Nat)(W:St)(G:Gh)(R:eO→fW)(H:Hi)(w:World):Prop where
 eH:rn.Rows cJ Is Iz (eW W) R w
 ij:∀t,eW W t→t.1≠0→(R t).n=sP W t
 var:∀x,x<W.vars.length→(R (0,x,0)).n=1∨((R (0,x,0)).n=0∧(R (0,x,0)).v=mO∧W.vars.getD x v0=v0)
 cells:∀t,eW W t→(t.1=0→(R t).n=1)→(R t).cs=gF W G H (hd R) t
 pZ:∀i,i<W.tables.length→zp w (G.map i) (rB W G (hd R) i)∧cJ≤G.map i∧∀t,eW W t→(R t).v.ownBlock≠some (G.map i)
 wj:∀i j,i<W.tables.length→j<W.tables.length→G.map i=G.map j→i=j
 fP:∀i,i<W.funcs.length→∀x∈(W.funcs.getD i (0,[])).2,x<W.vars.length∧(R (0,x,0)).n=1
 lone:∀c j a c' j' a',c<W.cS.length→c'<W.cS.length→j<(W.cS.getD c dE).cy.length→j'<(W.cS.getD c' dE).cy.length→a<(W.fr c j).da.length→a'<(W.fr c' j').da.length→(W.fr c j).da.getD a 0=(W.fr c' j').da.getD a' 0→(c,j,a)=(c',j',a')∨(R (0,(W.fr c j).da.getD a 0,0)).n=1
section
variable{G:Gh}{H:Hi}
def Im.eA(h:Im cJ W G R H w){t:eO}(D:eW W t)(F:(R t).n=1)(O:t.1=0\/t.1=1\/t.1=2\/t.1=4\/t.1=6\/t.1=9):∃b cap,(R t).v=.slice (some ⟨b,0,none⟩) 1 cap/\cJ<=b/\(∀j u,(gF W G H (hd R) t)[j]?=some u->w.cell? ⟨b,j,none⟩=some u)/\(∀j,w.frozen? ⟨b,j,none⟩=false)/\b<w.heap.size:=by obtain⟨b,cap,I,M,hc⟩:=h.eH.uE D cM;have own:=h.eH.own t D;have J:=h.cells t D (λ_=>F);have L:=own.1;rw[I,F]at own;rw[F]at I;have E:(R t).v=zS b (R t).n cap:=F▸I;refine⟨b,cap,I,M,λj u K=>?_,λj=>h.eH.free D E j,(own.lt b rfl).2⟩;rw[<-J]at K;exact h.eH.cell D E (by have:=(fG.1 K).1;omega) K
end
section
variable{G G':Gh}{H H':Hi}
def Nr{t:eO}(h:r.v=(R t).v):hd (jG R t r)=hd R:=by
 funext s;unfold hd;by_cases e:s=t
 .subst e;rw[dD,h]
 .rw[dh _ _ e]
structure Sm(W V:St):Prop where
 FH:∀s,eW V s↔eW W s
 ij:∀s,eW W s→sP V s=sP W s
 vars:V.vars.length=W.vars.length
 yh:V.tables=W.tables
 VT:V.funcs=W.funcs
 cS:V.cS.length=W.cS.length
 cy:∀c,(V.cS.getD c dE).cy.length=(W.cS.getD c dE).cy.length
 da:∀c j,(V.fr c j).da=(W.fr c j).da
def Im.same(h:Im cJ W G R H w)(S:Sm W V){t:eO}(ht:eW W t){cs:List Value}(hw:rn.Rows cJ Is Iz (eW W) (jG R t ⟨(R t).v,(R t).n,cs⟩) w1)(hk:∀k,(R t).v.ownBlock≠some k->w1.heap[k]?=w.heap[k]?)(aa:(t.1=0->(R t).n=1)->cs=gF V G' H' (hd R) t)(ho:∀s,eW W s->s≠t->(s.1=0->(R s).n=1)->gF V G' H' (hd R) s=gF W G H (hd R) s)(L:∀x,x<W.vars.length->(R (0,x,0)).n=0->V.vars.getD x v0=v0)(E:G'.map=G.map)(M:∀i,rB V G' (hd R) i=rB W G (hd R) i):
  ∃R',Im cJ V G' R' H' w1/\hd R'=hd R/\∀s,(R' s).n=(R s).n:=by
 have hh:hd (jG R t ⟨(R t).v,(R t).n,cs⟩)=hd R:=Nr rfl;have I:∀s,(jG R t ⟨(R t).v,(R t).n,cs⟩ s).n=(R s).n:=by
  intro s;by_cases e:s=t
  .subst e;rw[dD]
  .rw[dh _ _ e]
 have O:∀s,(jG R t ⟨(R t).v,(R t).n,cs⟩ s).v=(R s).v:=λs=>qt hh s;refine⟨_,⟨hw.sub λs D=>(S.FH s).1 D,λs D J=>?_,λx K=>?_,λs D J=>?_,λi F=>?_,λi k F hk=>?_,λi F x K=>?_,?_⟩,hh,I⟩
 .rw[I,S.ij s ((S.FH s).1 D)];exact h.ij s ((S.FH s).1 D) J
 .rw[S.vars]at K;rw[I,O];exact(h.var x K).imp id λq=>⟨q.1,q.2.1,L x K q.1⟩
 .rw[I]at J;rw[hh];by_cases e:s=t
  .subst e;rw[dD];exact aa J
  .rw[dh _ _ e,ho s ((S.FH s).1 D) e J];exact h.cells s ((S.FH s).1 D) J
 .rw[S.yh]at F;obtain⟨⟨es,c,q1,q2⟩,q3,q4⟩:=h.pZ i F;rw[hh,M,E];refine⟨⟨es,c,?_,q2⟩,q3,λs D=>by rw[O];exact q4 s ((S.FH s).1 D)⟩;rw[hk _ (q4 t ht)];exact q1
 .rw[S.yh]at F hk;rw[E];exact h.wj i k F hk
 .rw[S.VT]at F K;rw[S.vars,I];exact h.fP i F x K
 .intro c j' a c' j2 a' h1 h2 h3 h4 h5 h6 h7;rw[S.cS]at h1 h2;rw[S.cy]at h3 h4;rw[S.da]at h5 h6 h7|-;rw[S.da]at h7;rw[I];exact h.lone c j' a c' j2 a' h1 h2 h3 h4 h5 h6 h7
def Im.Md(h:Im cJ W G R H w)(S:Sm W V){t:eO}(J:eW W t){b:Nat}(K:(R t).v=.slice (some ⟨b,0,none⟩) (R t).n cap)(I:(t.1=0->(R t).n=1)->(R t).cs.set j u=gF V G' H' (hd R) t)(L:∀s,eW W s->s≠t->(s.1=0->(R s).n=1)->gF V G' H' (hd R) s=gF W G H (hd R) s)(D:∀x,x<W.vars.length->(R (0,x,0)).n=0->V.vars.getD x v0=v0)(E:G'.map=G.map)(F:∀i,rB V G' (hd R) i=rB W G (hd R) i):
  ∃R',Im cJ V G' R' H' (w.setCell ⟨b,j,none⟩ u)/\hd R'=hd R/\∀s,(R' s).n=(R s).n:=
 h.same S J (h.eH.store J K j u) (λk M=>cZ _ (zA b j) _ k (λe=>M (by rw[K,e];rfl))) I L D E F
def yR(W:St):W.fr W.cQ (W.co.cy.length-1)=W.db:=rfl
def kV(h:W.cQ<W.cS.length)(D:0<W.co.cy.length)(E:f.guard=W.db.guard)(s:eO):eW (W.dN f) s↔eW W s:=by unfold eW;rw[jO,gP h,pJ h D E];exact j8
def Jx(h:W.cQ<W.cS.length)(D:0<W.co.cy.length)(E:f.guard=W.db.guard)(hs:f.da=W.db.da)(F:f.ops.length=W.db.ops.length):Sm W (W.dN f):=by
 have key:∀c j,(((W.dN f).fr c j).da=(W.fr c j).da)/\(((W.dN f).fr c j).ops.length=(W.fr c j).ops.length):=by
  intro c j;by_cases e:c=W.cQ/\j=W.co.cy.length-1
  .obtain⟨rfl,rfl⟩:=e;rw[iB h D,yR];exact⟨hs,F⟩
  .rw[gO h _ e];exact⟨rfl,rfl⟩
 refine⟨kV h D E,λs _=>?_,rfl,rfl,rfl,jO _ _,gP h f,λc j=>(key c j).1⟩;unfold sP;split
 .rfl
 .exact gP h f _
 .rw[(key _ _).1]
 .exact(key _ _).2
 .rfl
def rY(h:W.cQ<W.cS.length)(F:0<W.co.cy.length)(I:f.guard=W.db.guard)(V:eO->Value){t:eO}(J:t=(6,W.cQ,W.co.cy.length-1)->f.fn=W.db.fn/\f.eA=W.db.eA)(K:t=(7,W.cQ,W.co.cy.length-1)->f.da=W.db.da)(L:t=(8,W.cQ,W.co.cy.length-1)->f.ops=W.db.ops):gF (W.dN f) G H V t=gF W G H V t:=by
 obtain⟨s,c,j⟩:=t;have D:((W.dN f).cS.getD c dE).state=(W.cS.getD c dE).state/\((W.dN f).cS.getD c dE).body=(W.cS.getD c dE).body/\((W.dN f).cS.getD c dE).held=(W.cS.getD c dE).held/\((W.dN f).cS.getD c dE).gq=(W.cS.getD c dE).gq:=by
  rw[nO h];split
  .rename_i e;subst e;exact⟨rfl,rfl,rfl,rfl⟩
  .exact⟨rfl,rfl,rfl,rfl⟩
 have E:∀q:Fr->List Value,(c=W.cQ/\j=W.co.cy.length-1->q f=q W.db)->q ((W.dN f).fr c j)=q (W.fr c j):=by
  intro q M;by_cases e:c=W.cQ/\j=W.co.cy.length-1
  .obtain⟨rfl,rfl⟩:=e;rw[iB h F,yR];exact M ⟨rfl,rfl⟩
  .rw[gO h _ e]
 obtain _|_|_|_|_|_|_|_|_|s:=s
 .rfl
 .rfl
 .rfl
 .rfl
 .show[_,_]++vi G V _++_=_;rw[D.1,D.2.1,D.2.2.1,D.2.2.2];rfl
 .show(List.range _).flatMap _=_;rw[gP h];refine ga (λq=>(List.range _).flatMap q) (funext λk=>?_);rw[pJ h F I]
 .exact E (λf=>[ptr (V (2,f.fn,0)),zI f.eA,V (7,c,j),V (8,c,j),zI (G.wa c j)]) λe=>by have:=J (by rw[e.1,e.2]);rw[this.1,this.2]
 .exact E (λf=>f.da.flatMap λx=>[ptr (V (0,x,0))]) λe=>by rw[K (by rw[e.1,e.2])]
 .exact E (λf=>f.ops.flatMap (vi G V)) λe=>by rw[L (by rw[e.1,e.2])]
 .rfl
def Im.ID(h:Im cJ W G R H w)(D:W.cQ<W.cS.length)(E:0<W.co.cy.length)(J:W.db.guard=false)(a:Nat){b:Nat}(K:(R (6,W.cQ,W.co.cy.length-1)).v=.slice (some ⟨b,0,none⟩) 1 cap):
  ∃R',Im cJ (W.gi a) G R' H (w.setCell ⟨b,1,none⟩ (.int .i64 a))/\hd R'=hd R/\∀s,(R' s).n=(R s).n:=by
 have F:eW W (6,W.cQ,W.co.cy.length-1):=⟨D,by show W.co.cy.length-1<W.co.cy.length;omega,J⟩
 have L:=h.ij _ F dC;have M:=h.cells _ F (λe=>by simp at e);exact h.Md (V:=W.gi a) (G':=G) (Jx (f:={W.db with eA:=a}) D E rfl rfl rfl) F (by rw[L];exact K) (j:=1) (u:=zI a) (λ_=>by rw[M];show _=[ptr _,zI ((W.gi a).fr W.cQ (W.co.cy.length-1)).eA,_,_,_];unfold St.gi;rw[iB D E];rfl) (λs hs I O=>rY (f:={W.db with eA:=a}) D E rfl (hd R) (λe=>absurd e I) (λ_=>rfl) (λ_=>rfl)) (λx hx O=>((h.var x hx).resolve_left cM).2.2) rfl (λ_=>rfl)
def gy(V:eO->Value)(t:eO)(v:Value):eO->Value:=λs=>if s=t then v else V s
def Sn{t h:eO}(D:h≠t)(u:List Value):hd (jG (jG R t r) h ⟨(R h).v,(R h).n,u⟩)=gy (hd R) t r.v:=by
 funext s;unfold hd gy;by_cases e:s=h
 .subst e;rw[dD,cK D]
 .rw[dh _ _ e];by_cases E:s=t
  .subst E;rw[dD,cR rfl]
  .rw[dh _ _ E,cK E]
def Lo(W:St)(R:eO->fW):Prop:=∀c j a h D E,c<W.cS.length->h<W.cS.length->j<(W.cS.getD c dE).cy.length->D<(W.cS.getD h dE).cy.length->a<(W.fr c j).da.length->E<(W.fr h D).da.length->(W.fr c j).da.getD a 0=(W.fr h D).da.getD E 0->(c,j,a)=(h,D,E)\/(R (0,(W.fr c j).da.getD a 0,0)).n=1
def Lo.sub(h:Lo W R)(D:∀c j a,c<V.cS.length->j<(V.cS.getD c dE).cy.length->a<(V.fr c j).da.length->c<W.cS.length/\j<(W.cS.getD c dE).cy.length/\(V.fr c j).da=(W.fr c j).da):Lo V R:=by intro c j a J K L M O h3 h4 E F I;obtain⟨p1,p2,p3⟩:=D c j a M h3 E;obtain⟨p4,p5,p6⟩:=D J K L O h4 F;rw[p3]at E I|-;rw[p6]at F I;exact h c j a J K L p1 p4 p2 p5 E F I
def Im.move(h:Im cJ W G R H w){N:eO->Prop}{t D:eO}(ht:eW W t)(aa:eW W D)(E:D≠t)(af:t.1≠0)(al:D.1≠0)(hN:∀s,N s->s.1≠0/\∀i,i<W.tables.length->(R s).v.ownBlock≠some (G.map i))(hw:rn.Rows cJ Is Iz (λs=>eW W s\/N s) (jG R t r) w1)(hg:w.grownBy w1 (R t).v.ownBlock)(hl:∀k,r.v.ownBlock=some k->(R t).v.ownBlock=some k\/w.heap.size<=k){b:Nat}(hv:(R D).v=.slice (some ⟨b,0,none⟩) (R D).n cap)(ab:∀s,eW V s->eW W s\/N s)(ag:r.n=sP V t)(ac:∀s,eW V s->s≠t->s.1≠0->(R s).n=sP V s)(F:V.vars=W.vars)(I:V.tables=W.tables)(L:V.funcs=W.funcs)(ah:Lo V R)(ai:r.cs=gF V G' H (gy (hd R) t r.v) t)(aj:(R D).cs.set j r.v=gF V G' H (gy (hd R) t r.v) D)(ho:∀s,eW V s->s≠t->s≠D->(s.1=0->(R s).n=1)->(R s).cs=gF V G' H (gy (hd R) t r.v) s)(K:G'.map=G.map)(ad:∀i,rB V G' (gy (hd R) t r.v) i=rB W G (hd R) i):
  ∃R',Im cJ V G' R' H (w1.setCell ⟨b,j,none⟩ r.v)/\hd R'=gy (hd R) t r.v/\(∀s,s≠t->(R' s).n=(R s).n):=by
 have ak:(jG R t r D).v=zS b (jG R t r D).n cap:=by rw[dh _ _ E];exact hv
 have st:=hw.store (.inl aa) ak j r.v;rw[dh _ _ E]at st;have hh:=Sn (R:=R) (r:=r) E ((R D).cs.set j r.v);have O:∀s,s≠t->(jG (jG R t r) D ⟨(R D).v,(R D).n,(R D).cs.set j r.v⟩ s).n=(R s).n:=by
  intro s e;by_cases M:s=D
  .subst M;rw[dD]
  .rw[dh _ _ M,dh _ _ e]
 have ae:∀s,s≠t->(jG (jG R t r) D ⟨(R D).v,(R D).n,(R D).cs.set j r.v⟩ s).v=(R s).v:=λs e=>by have:=qt hh s;unfold hd gy at this;rwa[cK e]at this
 have ev:∀x,(0,x,0)≠t:=λx e=>af (by rw[<-e]);have hb:(R D).v.ownBlock=some b:=by rw[hv];rfl
 refine⟨_,⟨st.sub ab,λs hs h0=>?_,λx hx=>?_,λs hs h0=>?_,λi J=>?_,λi k J hk=>?_,λi J x hx=>?_,?_⟩,hh,O⟩
 .by_cases e:s=t
  .subst e;rw[dh _ _ (λe=>E e.symm),dD];exact ag
  .rw[O s e];exact ac s hs e h0
 .rw[F]at hx|-;rw[O _ (ev x),ae _ (ev x)];exact h.var x hx
 .rw[hh];by_cases e:s=D
  .subst e;rw[dD];exact aj
  .rw[dh _ _ e];by_cases M:s=t
   .subst M;rw[dD];exact ai
   .rw[O s M]at h0;rw[dh _ _ M];exact ho s hs M e h0
 .rw[I]at J;obtain⟨⟨es,c,q1,q2⟩,q3,q4⟩:=h.pZ i J;have ml:=(dS.1 q1).1;rw[hh,ad,K];refine⟨⟨es,c,?_,q2⟩,q3,λs hs=>?_⟩
  .rw[cZ _ (zA b j) _ _ (λe=>q4 D aa (by rw[hb,e])),hg.block _ ml (λe=>q4 t ht e.symm)];exact q1
  .by_cases e:s=t
   .subst e;rw[dh _ _ (λe=>E e.symm),dD];intro q;obtain q|q:=hl _ q
    .exact q4 s ht q
    .omega
   .rw[ae s e];exact(ab s hs).elim (q4 s) λq=>(hN s q).2 i J
 .rw[I]at J hk;rw[K];exact h.wj i k J hk
 .rw[L]at J hx;rw[F,O _ (ev x)];exact h.fP i J x hx
 .intro c j' a c' j2 a' h1 h2 h3 h4 h5 h6 h7;rw[O _ (ev _)];exact ah c j' a c' j2 a' h1 h2 h3 h4 h5 h6 h7
end
section
variable{G G':Gh}{H:Hi}{V:eO→Value}
def dL{t s:eO}(h:s≠t)(v:Value):gy V t v s=V s:=cK h
def jL(t:eO)(v:Value):gy V t v t=v:=cR rfl
def nJ{t:eO}(h:t.1≠1/\t.1≠2/\t.1≠4)(v:Value):vi G (gy V t v)=vi G V:=by have n:∀a b,a≠t.1->gy V t v (a,b,0)=V (a,b,0):=λa b e=>dL (λq=>e (by rw[<-q])) v;funext x;unfold vi dV;rw[n 1 _ h.1.symm,n 2 _ h.2.1.symm,n 4 _ h.2.2.symm]
def N1{s:eO}(hs:s≠(6,c,m))(v:Value):gF W G H (gy V (8,c,m) v) s=gF W G H V s:=by
 have n:∀a b d,a≠8->gy V (8,c,m) v (a,b,d)=V (a,b,d):=λa b d e=>dL (λq=>e (by cases q;rfl)) v;have h:vi G (gy V (8,c,m) v)=vi G V:=nJ dC v;obtain⟨s,i,j⟩:=s;unfold gF;dsimp only;obtain _|_|_|_|_|_|_|_|_|s:=s;all_goals simp only[h,n _ _ _ (show(0:Nat)≠8 by decide),n _ _ _ (show(2:Nat)≠8 by decide),n _ _ _ (show(3:Nat)≠8 by decide),n _ _ _ (show(4:Nat)≠8 by decide),n _ _ _ (show(5:Nat)≠8 by decide),n _ _ _ (show(6:Nat)≠8 by decide),n _ _ _ (show(7:Nat)≠8 by decide)]
 rw[dL (λq=>hs (by cases q;rfl))]
def Im.yq(h:Im cJ W G R H w)(E:W.cQ<W.cS.length)(hm:W.co.cy.length=m+1)(hg:W.db.guard=false){xs:List Vl}(hr:r.n=xs.length)(hc:r.cs=xs.flatMap (vi G (hd R)))(hw:rn.Rows cJ Is Iz (eW W) (jG R (8,W.cQ,m) r) w1)(L:w.grownBy w1 (R (8,W.cQ,m)).v.ownBlock)(hl:∀k,r.v.ownBlock=some k->(R (8,W.cQ,m)).v.ownBlock=some k\/w.heap.size<=k){b:Nat}(hv:(R (6,W.cQ,m)).v=.slice (some ⟨b,0,none⟩) 1 cap):
  ∃R',Im cJ (W.dN {W.db with ops:=xs}) G R' H (w1.setCell ⟨b,3,none⟩ r.v)/\hd R'=gy (hd R) (8,W.cQ,m) r.v/\∀s,s≠(8,W.cQ,m)->(R' s).n=(R s).n:=by
 have I:W.co.cy.length-1=m:=cM;have D:0<W.co.cy.length:=cM;have J:((W.cS.getD W.cQ dE).cy.getD m pG).guard=false:=by rw[<-I];exact hg
 have M:eW W (6,W.cQ,m):=⟨E,by show m<W.co.cy.length;omega,J⟩
 have t8:eW W (8,W.cQ,m):=⟨E,by show m<W.co.cy.length;omega,J⟩
 have n6:=h.ij _ M dC;have c6:=h.cells _ M (λe=>by simp at e);have O:(W.dN {W.db with ops:=xs}).fr W.cQ m={W.db with ops:=xs}:=by rw[<-I];exact iB E D _
 have fo:∀c j,((W.dN {W.db with ops:=xs}).fr c j).da=(W.fr c j).da:=by
  intro c j;by_cases e:c=W.cQ/\j=W.co.cy.length-1
  .obtain⟨rfl,rfl⟩:=e;rw[iB E D,yR]
  .rw[gO E _ e]
 have K:vi G (gy (hd R) (8,W.cQ,m) r.v)=vi G (hd R):=nJ dC _;have lo:Lo (W.dN {W.db with ops:=xs}) R:=Lo.sub h.lone λc j a q1 q2 _=>⟨by rwa[jO]at q1,by rwa[gP E]at q2,fo c j⟩
 refine h.move (N:=λ_=>False) (V:=W.dN {W.db with ops:=xs}) (G':=G) t8 M dC dC dC (λ_ q=>q.elim) (hw.sub λs F=>F.resolve_right id) L hl (by rw[n6];exact hv) (j:=3) (λs F=>.inl ((kV (f:={W.db with ops:=xs}) E D rfl s).1 F)) ?_ (λs F aa h0=>(h.ij s ((kV (f:={W.db with ops:=xs}) E D rfl s).1 F) h0).trans ?_) rfl rfl rfl lo ?_ ?_ (λs F h8 h6 h0=>(h.cells s ((kV (f:={W.db with ops:=xs}) E D rfl s).1 F) h0).trans ?_) rfl (λi=>?_)
 .show r.n=((W.dN {W.db with ops:=xs}).fr W.cQ m).ops.length;rw[O];exact hr
 .obtain⟨s,c,j⟩:=s;unfold sP;split
  .rfl
  .exact(gP E _ _).symm
  .rw[fo]
  .rename_i e8;have e8:s=8:=e8;have:¬(c=W.cQ/\j=W.co.cy.length-1):=λe=>aa (by rw[e8,e.1,e.2,I]);show _=((W.dN {W.db with ops:=xs}).fr c j).ops.length;rw[gO E _ this]
  .rfl
 .show r.cs=((W.dN {W.db with ops:=xs}).fr W.cQ m).ops.flatMap (vi G _);rw[O,K];exact hc
 .rw[c6];show _=[ptr (gy _ _ _ (2,((W.dN {W.db with ops:=xs}).fr W.cQ m).fn,0)),zI ((W.dN {W.db with ops:=xs}).fr W.cQ m).eA,gy _ _ _ (7,W.cQ,m),gy _ _ _ (8,W.cQ,m),_];rw[O,jL,dL dC,dL dC];show[ptr (hd R (2,(W.fr W.cQ m).fn,0)),zI (W.fr W.cQ m).eA,hd R (7,W.cQ,m),r.v,_]=_;rw[<-I];rfl
 .rw[N1 h6];exact(rY (f:={W.db with ops:=xs}) E D rfl (hd R) (λe=>absurd (e.trans (by rw[I])) h6) (λ_=>rfl) (λe=>absurd (e.trans (by rw[I])) h8)).symm
 .unfold rB;rw[K];rfl
end
section
variable{G G':Gh}{H:Hi}
def eY(W:St)(G:Gh)(R:eO->fW)(k:Nat):Prop:=(∃t,eW W t/\(hd R t).ownBlock=some k)\/∃i,i<W.tables.length/\k=G.map i
def eY.row{t:eO}{k:Nat}(D:eW W t)(h:(hd R t).ownBlock=some k):eY W G R k:=.inl ⟨t,D,h⟩
def eY.lt(h:Im cJ W G R H w){k:Nat}(D:eY W G R k):k<w.heap.size:=by
 obtain⟨t,E,e⟩|⟨i,F,rfl⟩:=D
 .exact((h.eH.own t E).lt k e).2
 .obtain⟨⟨I,c,q,_⟩,_⟩:=h.pZ i F;exact(dS.1 q).1
def eY.IY{t:eO}(F:eW W t)(I:hd R'=gy (hd R) t u)(J:∀k,u.ownBlock=some k->(hd R t).ownBlock=some k\/n<=k)(D:∀s,eW V s->eW W s)(h:V.tables=W.tables){k:Nat}(K:eY V G R' k):eY W G R k\/n<=k:=by
 obtain⟨s,L,e⟩|⟨i,M,rfl⟩:=K
 .rw[I]at e;by_cases E:s=t
  .subst E;rw[jL]at e;exact(J k e).imp (λq=>.row F q) id
  .rw[dL E]at e;exact .inl (.row (D s L) e)
 .exact .inl (.inr ⟨i,by rw[<-h];exact M,rfl⟩)
def Im.below(h:Im cJ W G R H w)(D:Below w.heap.size w w1):Im cJ W G R H w1:=by
 have g:w.grownBy w1 none:=⟨D.os,D.tape,D.output,D.size,λk F _=>D.block k F⟩
 refine⟨h.eH.kept g λt M=>?_,h.ij,h.var,h.cells,λi I=>?_,h.wj,h.fP,h.lone⟩
 .cases(R t).v.ownBlock with
  |none=>exact .inl rfl
  |some k=>exact .inr dC
 .obtain⟨⟨J,c,E,K⟩,L⟩:=h.pZ i I;exact⟨⟨J,c,(D.block _ (dS.1 E).1).trans E,K⟩,L⟩
def gm(V:eO->Value)(v:Vl):Tg (dV V v):=by
 have p:∀x,∃a,ptr x=.pointer a:=λx=>by cases x<;>exact⟨_,rfl⟩
 unfold dV;split
 .obtain⟨a,e⟩:=p (V (1,v.n.toNat,0));rw[e];exact .inr ⟨_,_,rfl⟩
 .split
  .obtain⟨a,e⟩:=p (V (2,v.n.toNat,0));rw[e];exact .inr ⟨_,_,rfl⟩
  .split
   .obtain⟨a,e⟩:=p (V (4,v.n.toNat,0));rw[e];exact .inr ⟨_,_,rfl⟩
   .exact .inl rfl
def Ly(G:Gh)(V:eO->Value)(v:Vl):∀u∈vi G V v,u.oneCell'=true:=by
 intro u h;unfold vi at h;simp only[eQ,eh,iw]at h;obtain rfl|rfl|rfl|rfl:=h
 .rfl
 .rfl
 .rfl
 .obtain e|⟨T,a,e⟩:=gm V v<;>rw[e]<;>rfl
def jX(G:Gh)(V:eO->Value)(v:Vl):Value:=vq v.k (hC G v) ⟨v.s.toArray⟩ (dV V v)
def Im.db(h:Im cJ W G R H w)(J:W.cQ<W.cS.length)(hm:W.co.cy.length=m+1)(O:W.db.guard=false):
  eW W (6,W.cQ,m)/\eW W (8,W.cQ,m)/\(R (8,W.cQ,m)).n=W.db.ops.length/\(R (8,W.cQ,m)).cs=W.db.ops.flatMap (vi G (hd R))/\∃b cap av cv,(R (6,W.cQ,m)).v=.slice (some ⟨b,0,none⟩) 1 cap/\(R (8,W.cQ,m)).v=.slice av W.db.ops.length cv/\w.cell? ⟨b,3,none⟩=some (.slice av W.db.ops.length cv)/\w.frozen? ⟨b,3,none⟩=false:=by
 have K:W.co.cy.length-1=m:=cM;have D:((W.cS.getD W.cQ dE).cy.getD m pG).guard=false:=by rw[<-K];exact O
 have F:eW W (6,W.cQ,m):=⟨J,by show m<W.co.cy.length;omega,D⟩
 have E:eW W (8,W.cQ,m):=⟨J,by show m<W.co.cy.length;omega,D⟩
 have L:W.fr W.cQ m=W.db:=by rw[<-K];rfl
 have M:(R (8,W.cQ,m)).n=W.db.ops.length:=by rw[<-L];exact h.ij _ E dC
 have c8:(R (8,W.cQ,m)).cs=W.db.ops.flatMap (vi G (hd R)):=by rw[<-L];exact h.cells _ E (λe=>by simp at e)
 obtain⟨av,cv,I⟩:=h.eH.sliced E;rw[M]at I;obtain⟨b,cap,hb,_,hc,hf,_⟩:=h.eA F (h.ij _ F dC) dC;refine⟨F,E,M,c8,b,cap,av,cv,hb,I,?_,hf 3⟩;have:=hc 3 (hd R (8,W.cQ,m)) rfl;rwa[show hd R (8,W.cQ,m)=_ from I]at this
def Pk(h:Im cJ W G R H w)(hB:cJ<=w.heap.size)(hn:W.cQ<W.cS.length)(hm:W.co.cy.length=m+1)(hg:W.db.guard=false)(hb:W.db.ops.length<=1000000000)(v:Vl):
  zC 159 #[ptr (hd R (6,W.cQ,m)),jX G (hd R) v] w λe w'=>(∃x,e=.returned x)/\∃R' u,Im cJ (W.ee [v]) G R' H w'/\hd R'=gy (hd R) (8,W.cQ,m) u/\Kp (eY W G R) (eY (W.ee [v]) G R') w w':=by
 obtain⟨t6,K,n8,c8,b,cap,av,cv,M,O,ca,cf⟩:=h.db hn hm hg;have own:=h.eH.own _ K;rw[O,n8]at own;have aa:some b≠(Value.slice av W.db.ops.length cv).ownBlock:=λe=>h.eH.apart _ _ t6 K dC b (by rw[M];rfl) (O▸e.symm);rw[show ptr (hd R (6,W.cQ,m))=zP b by unfold hd;rw[M];rfl];refine(Mx hB ca cf own aa hb (gm (hd R) v)).mono ?_;rintro e w' ⟨hx,w1,w2,E,F,I,hA,rfl⟩;have h1:=h.below I;have hl:∀k,(Value.slice E (W.db.ops.length+1) F).ownBlock=some k->(R (8,W.cQ,m)).v.ownBlock=some k\/w1.heap.size<=k:=by
  intro k D;rw[O];obtain⟨e,_⟩|⟨q,e,L|L⟩:=hA.qA
  .subst e;cases E with
   |none=>cases D
   |some a=>exact .inl D
  .subst e;cases D;exact .inl L
  .subst e;cases D;exact .inr (mi L.symm)
 have J:w1.grownBy w2 (R (8,W.cQ,m)).v.ownBlock:=O▸hA.jz;have hw:=h1.eH.put (r:=⟨.slice E (W.db.ops.length+1) F,W.db.ops.length+1,(R (8,W.cQ,m)).cs++vi G (hd R) v⟩) K J (by have:=hA.own;exact this) hl;obtain⟨R',L,q2,q3⟩:=h1.yq hn hm hg (xs:=W.db.ops++[v]) dC (by show(R (8,W.cQ,m)).cs++_=_;rw[c8,mf]) hw J hl M;refine⟨hx,R',_,L,q2,?_⟩;have k1:Kp (eY W G R) (eY W G R) w w1:=Kp.cY I;have k2:Kp (eY W G R) (eY W G R) w1 w2:=Kp.grown J (λk D _=>.row K D) (λk D=>.inl D);have k3:Kp (eY W G R) (eY W G R) w2 (w2.setCell (zA b 3) (.slice E (W.db.ops.length+1) F)):=Kp.setCell _ (.row t6 (by unfold hd;rw[M];rfl));refine((k1.trans k2).trans k3).sub λk D=>?_;exact(eY.IY K q2 (n:=w.heap.size) (λk D=>(hl k D).imp id λq=>cV I.size q) (λs hs=>(kV (f:={W.db with ops:=W.db.ops++[v]}) hn cM rfl s).1 hs) rfl D)
def Kp.wr{S:Nat->Prop}(h:S a)(D:Below w.heap.size (w.setCell ⟨a,j,none⟩ u) w'):Kp S S w w' :=
 (Kp.setCell (a:=(zA a j)) u h).trans (Kp.cY (by rw[show(w.setCell (zA a j) u).heap.size=w.heap.size by simp[World.setCell]];exact D))
def Im.wr(h:Im cJ W G R H (w.setCell ⟨a,j,none⟩ u))(D:Below w.heap.size (w.setCell ⟨a,j,none⟩ u) w'):Im cJ W G R H w' :=
 h.below (by rw[show(w.setCell (zA a j) u).heap.size=w.heap.size by simp[World.setCell]];exact D)
def Im.NS(h:Im cJ W G R H w)(J:W.cQ<W.cS.length)(hm:W.co.cy.length=m+1)(hg:W.db.guard=false)(ac:n<=W.db.ops.length){b:Nat}(h6:(R (6,W.cQ,m)).v=.slice (some ⟨b,0,none⟩) 1 cap)(F:(R (8,W.cQ,m)).v=.slice av W.db.ops.length cv)(hb:Below w.heap.size (w.setCell ⟨b,3,none⟩ (.slice av (W.db.ops.length-n) cv)) w'):
  ∃R' u,Im cJ (W.dZ n) G R' H w'/\hd R'=gy (hd R) (8,W.cQ,m) u/\Kp (eY W G R) (eY (W.dZ n) G R') w w'/\∀k,eY (W.dZ n) G R' k->eY W G R k:=by
 obtain⟨t6,I,K,c8,_⟩:=h.db J hm hg;have L:0<W.co.cy.length:=cM;have key:∃r:fW,r.v=.slice av (W.db.ops.length-n) cv/\r.n=W.db.ops.length-n/\r.cs=(W.db.ops.take (W.db.ops.length-n)).flatMap (vi G (hd R))/\rn.Rows cJ Is Iz (eW W) (jG R (8,W.cQ,m) r) w:=by
  obtain⟨e,e0⟩|⟨g',ab,ad,e,_⟩:=(h.eH.own _ I).2
  .have M:W.db.ops.length=0:=by rw[<-K];exact e0
   have:W.db.ops=[]:=eJ.1 M;rw[F]at e;simp only[de]at e;obtain⟨rfl,_,rfl⟩:=e;refine⟨⟨zN,0,[]⟩,by rw[M,Nat.zero_sub],by rw[M,Nat.zero_sub],by rw[this];simp,?_⟩;exact h.eH.put I (jE _ _) (fD _ _ _ _) (λk D=>by cases D)
  .rw[F]at e;simp only[de]at e;obtain⟨rfl,_,rfl⟩:=e;refine⟨_,rfl,rfl,?_,h.eH.cut I (by rw[F,K]) (n:=W.db.ops.length-n) (by rw[K];omega)⟩;show(R (8,W.cQ,m)).cs.take _=_;rw[c8,rq (c:=4) (λ_=>rfl)];rfl
 obtain⟨r,rv,O,rc,hw⟩:=key;have E:∀k,r.v.ownBlock=some k->(R (8,W.cQ,m)).v.ownBlock=some k:=by
  intro k D;rw[rv]at D;rw[F];cases av with
  |none=>cases D
  |some a=>exact D
 have aa:∀k,r.v.ownBlock=some k->(R (8,W.cQ,m)).v.ownBlock=some k\/w.heap.size<=k:=λk D=>.inl (E k D);obtain⟨R',q1,q2,_⟩:=h.yq J hm hg (xs:=W.db.ops.take (W.db.ops.length-n)) (by rw[O,dX];omega) rc hw (jE _ _) aa h6;rw[rv]at q1;have fm:∀k,eY (W.dZ n) G R' k->eY W G R k:=λk D=>(eY.IY I q2 (n:=k+1) (λj hj=>.inl (E j hj)) (λs hs=>(kV (f:={W.db with ops:=W.db.ops.take (W.db.ops.length-n)}) J L rfl s).1 hs) rfl D).resolve_right cM;exact⟨R',_,q1.wr hb,q2,(Kp.wr (.row t6 (by unfold hd;rw[h6];rfl)) hb).sub λk D=>.inl (fm k D),fm⟩
def MD(h:Im cJ W G R H w)(O:W.cQ<W.cS.length)(hm:W.co.cy.length=m+1)(hg:W.db.guard=false)(hb:W.db.ops.length<=1000000000)(h0:0<W.db.ops.length)(hv:v=W.db.ops.getD (W.db.ops.length-1) v0):
  zC 161 #[ptr (hd R (6,W.cQ,m))] w λe J=>e=.returned (jX G (hd R) v)/\∃R' u,Im cJ (W.dZ 1) G R' H J/\hd R'=gy (hd R) (8,W.cQ,m) u/\Kp (eY W G R) (eY (W.dZ 1) G R') w J:=by
 obtain⟨t6,K,D,c8,b,cap,av,cv,h6,h8,ca,cf⟩:=h.db O hm hg;obtain⟨q,F⟩:∃q,W.db.ops.length=q+1:=⟨W.db.ops.length-1,cM⟩
 obtain⟨b8,aa,e8,_,E⟩:=h.eH.uE K (D▸h0);have L:=e8;rw[D,h8]at L;simp only[de]at L;obtain⟨rfl,_,rfl⟩:=L;have I:∀r,r<4->w.cell? (zA b8 (q*4+r))=(vi G (hd R) v)[r]?:=by intro r hr;have:=kh (c:=4) (f:=vi G (hd R)) (λ_=>rfl) v0 W.db.ops q r cM hr;rw[<-c8,show W.db.ops.getD q v0=v by rw[hv,F];rfl]at this;rw[<-this,cG (by rw[(h.eH.own _ K).1,D];show _<W.db.ops.length*4;omega)];exact h.eH.cell K e8 (by rw[D];show _<W.db.ops.length*4;omega) (cG _)
 rw[show ptr (hd R (6,W.cQ,m))=zP b by unfold hd;rw[h6];rfl];rw[F]at ca;refine(IL ca cf (by rw[D,F]at E;exact E) cM (I 0 cM) (I 1 cM) (I 2 cM) (I 3 cM) (gm (hd R) v)).mono ?_;rintro e J ⟨rfl,M⟩;refine⟨rfl,(h.NS O hm hg (n:=1) cM h6 h8 ?_).imp λ_ q=>q.imp λ_ z=>⟨z.1,z.2.1,z.2.2.1⟩⟩;rw[F];exact M
def Iw(h:Im cJ W G R H w)(K:W.cQ<W.cS.length)(L:W.co.cy.length=m+1)(M:W.db.guard=false)(hb:W.db.ops.length<=1000000000)(D:n<=W.db.ops.length):
  zC 168 #[ptr (hd R (6,W.cQ,m)),zI (n:Int)] w λe E=>∃F I,e=.returned (.slice F n I)/\E.ownsRow w.heap.size 132 4 (.slice F n I) n ((W.taken n).flatMap (vi G (hd R)))/\∃R' u,Im cJ (W.dZ n) G R' H E/\hd R'=gy (hd R) (8,W.cQ,m) u/\Kp (eY W G R) (eY (W.dZ n) G R') w E/\∀k,eY (W.dZ n) G R' k->eY W G R k:=by
 obtain⟨t6,t8,n8,O,b,cap,av,cv,h6,h8,ca,cf⟩:=h.db K L M;have own:=h.eH.own _ t8;rw[h8,n8]at own;rw[show ptr (hd R (6,W.cQ,m))=zP b by unfold hd;rw[h6];rfl];refine(DS ca cf own (by rw[O];intro u hu;obtain⟨v,_,hv⟩:=Jo.1 hu;exact Ly G (hd R) v u hv) hb D).mono ?_;rintro e E ⟨F,I,rfl,o,J⟩;refine⟨F,I,rfl,?_,h.NS K L M D h6 h8 J⟩;rw[O,<-ry (c:=4) (λ_=>rfl)]at o;exact o
end
section
variable{G G':Gh}{H:Hi}{a:Int}
structure Cu(cJ:Nat)(W:St)(G:Gh)(R:eO→fW)(H:Hi)(m:Nat)(w:World):Prop where
 im:Im cJ W G R H w
 bs:cJ≤w.heap.size
 cQ:W.cQ<W.cS.length
 len:W.co.cy.length=m+1
 gd:W.db.guard=false
 ops:W.db.ops.length≤200000
def Cu.below(h:Cu cJ W G R H m w)(D:Below w.heap.size w w1):Cu cJ W G R H m w1:=⟨h.im.below D,cV h.bs D.size,h.cQ,h.len,h.gd,h.ops⟩
def Cu.ptr(h:Cu cJ W G R H m w):∃f,im.ptr (hd R (6,W.cQ,m))=.pointer (some ⟨f,0,none⟩)/\eY W G R f:=by obtain⟨E,_,_,_,f,cap,_,_,D,_⟩:=h.im.db h.cQ h.len h.gd;exact⟨f,by unfold hd;rw[D];rfl,.row E (by unfold hd;rw[D];rfl)⟩
def yB(h:W.cQ<W.cS.length)(D:0<W.co.cy.length)(l:List Vl):(W.ee l).db={W.db with ops:=W.db.ops++l}:=jf h D _
def Cu.ee(h:Cu cJ W G R H m w){l:List Vl}(i:Im cJ (W.ee l) G R' H w')(k:w.heap.size<=w'.heap.size)(D:W.db.ops.length+l.length<=200000):Cu cJ (W.ee l) G R' H m w' :=
 ⟨i,cV h.bs k,by have:=h.cQ;simpa[St.ee,St.dN,St.du,St.dW]using this,(jg h.cQ _).trans h.len,by rw[yB h.cQ (by rw[h.len];omega)];exact h.gd,by rw[yB h.cQ (by rw[h.len];omega),dq];exact D⟩
def Cu.dZ(h:Cu cJ W G R H m w)(i:Im cJ (W.dZ n) G R' H w')(k:w.heap.size<=w'.heap.size):Cu cJ (W.dZ n) G R' H m w':=by have t:=kT h.cQ (by rw[h.len];omega) n;refine⟨i,cV h.bs k,t.1▸t.2.1▸h.cQ,t.2.2.1.trans h.len,t.2.2.2▸h.gd,?_⟩;rw[t.2.2.2];show(W.db.ops.take _).length<=_;have:=h.ops;rw[dX];omega
def Cu.push(h:Cu cJ W G R H m w)(v:Vl):Calls Tryz.prog 159 #[im.ptr (hd R (6,W.cQ,m)),jX G (hd R) v] w λe D=>(∃x,e=.returned x)/\∃R' u,Im cJ (W.ee [v]) G R' H D/\hd R'=gy (hd R) (8,W.cQ,m) u/\Kp (eY W G R) (eY (W.ee [v]) G R') w D:=Pk h.im h.bs h.cQ h.len h.gd (by have:=h.ops;omega) v
def To(cJ:Nat)(W:St)(G:Gh)(R:eO->fW)(H:Hi)(m:Nat)(w:World)(V:St)(e:Ending)(w':World):Prop:=(∃x,e=.returned x)/\∃R',Im cJ V G R' H w'/\(∀t,t.1≠0->t.1≠8->hd R' t=hd R t)/\Kp (eY W G R) (eY V G R') w w'
def Ks(h:Cu cJ W G R H m w):Calls Tryz.prog 103 #[mv,im.ptr (hd R (6,W.cQ,m)),.agg #[.int .i64 op,.int .i64 a,.int .i64 b]] w (To cJ W G R H m w (W.ee [v0])):=by
 obtain⟨f,D,_⟩:=h.ptr;have HC:=cO h;have E:Hid (∀X,Below w.heap.size w X->Calls Tryz.prog 159 #[.pointer (some ⟨f,0,none⟩),vq 0 0 e0 .nilIface] X λe F=>(∃x,e=.returned x)/\∃R' u,Im cJ (W.ee [v0]) G R' H F/\hd R'=gy (hd R) (8,W.cQ,m) u/\Kp (eY W G R) (eY (W.ee [v0]) G R') X F):=λX L=>by rw[<-D];exact(h.below L).push (v0)
 rw[D];unfold vq at E;clear h D;go_enter func103,ntmps103;go_wp2_with(first
  |(go_at_call 159;refine cA (E _ (ba)) ?_;rintro e w7 ⟨⟨x,rfl⟩,M,u7,I,J,K⟩;have O:=cO I;have D7:=cO J;have K7:=cO ((Kp.cY (ba)).trans K);clear I J K))
 go_returns;exact⟨⟨_,rfl⟩,M,O,λt _ ht=>by rw[D7,dL (λe=>ht (by rw[e]))],K7⟩
def Hy(h:Cu cJ W G R H m w):Calls Tryz.prog 104 #[mv,im.ptr (hd R (6,W.cQ,m)),.agg #[.int .i64 op,.int .i64 a,.int .i64 b]] w (To cJ W G R H m w (W.ee [bv true])):=by
 obtain⟨f,D,_⟩:=h.ptr;have HC:=cO h;have E:Hid (∀X,Below w.heap.size w X->Calls Tryz.prog 159 #[.pointer (some ⟨f,0,none⟩),vq 1 1 e0 .nilIface] X λe F=>(∃x,e=.returned x)/\∃R' u,Im cJ (W.ee [bv true]) G R' H F/\hd R'=gy (hd R) (8,W.cQ,m) u/\Kp (eY W G R) (eY (W.ee [bv true]) G R') X F):=λX hX=>by rw[<-D];exact(h.below hX).push (bv true)
 rw[D];unfold vq at E;have I:=cO (λX=>jM (w:=X) true);unfold vq at I;clear h D;go_enter func104,ntmps104;go_wp2_with(first
  |(go_at_call 143;refine cA (I _) ?_;rintro e w3 ⟨rfl,J⟩;have K:=cO (((cN w.heap.size w).alloc (cE _) (.cells #[.int .i64 op,.int .i64 a,.int .i64 b] 105)).trans (J.mono dC));clear J)
  |(go_at_call 159;refine cA (E _ K) ?_;rintro e w7 ⟨⟨x,rfl⟩,R7,u7,L,M,O⟩;have I7:=cO L;have D7:=cO M;have K7:=cO ((Kp.cY K).trans O);clear L M O))
 go_returns;exact⟨⟨_,rfl⟩,R7,I7,λt _ ht=>by rw[D7,dL (λe=>ht (by rw[e]))],K7⟩
def E9(h:Cu cJ W G R H m w):Calls Tryz.prog 105 #[mv,im.ptr (hd R (6,W.cQ,m)),.agg #[.int .i64 op,.int .i64 a,.int .i64 b]] w (To cJ W G R H m w (W.ee [bv false])):=by
 obtain⟨f,D,_⟩:=h.ptr;have HC:=cO h;have E:Hid (∀X,Below w.heap.size w X->Calls Tryz.prog 159 #[.pointer (some ⟨f,0,none⟩),vq 1 0 e0 .nilIface] X λe F=>(∃x,e=.returned x)/\∃R' u,Im cJ (W.ee [bv false]) G R' H F/\hd R'=gy (hd R) (8,W.cQ,m) u/\Kp (eY W G R) (eY (W.ee [bv false]) G R') X F):=λX hX=>by rw[<-D];exact(h.below hX).push (bv false)
 rw[D];unfold vq at E;have I:=cO (λX=>jM (w:=X) false);unfold vq at I;clear h D;go_enter func105,ntmps105;go_wp2_with(first
  |(go_at_call 143;refine cA (I _) ?_;rintro e w3 ⟨rfl,J⟩;have K:=cO (((cN w.heap.size w).alloc (cE _) (.cells #[.int .i64 op,.int .i64 a,.int .i64 b] 105)).trans (J.mono dC));clear J)
  |(go_at_call 159;refine cA (E _ K) ?_;rintro e w7 ⟨⟨x,rfl⟩,R7,u7,L,M,O⟩;have I7:=cO L;have D7:=cO M;have K7:=cO ((Kp.cY K).trans O);clear L M O))
 go_returns;exact⟨⟨_,rfl⟩,R7,I7,λt _ ht=>by rw[D7,dL (λe=>ht (by rw[e]))],K7⟩
def Ay(h:Cu cJ W G R H m w):Calls Tryz.prog 106 #[mv,im.ptr (hd R (6,W.cQ,m)),.agg #[.int .i64 op,.int .i64 a,.int .i64 b]] w (To cJ W G R H m w (W.ee [⟨6,a,[]⟩])):=by
 obtain⟨f,D,_⟩:=h.ptr;have HC:=cO h;have E:Hid (∀X,Below w.heap.size w X->Calls Tryz.prog 159 #[.pointer (some ⟨f,0,none⟩),vq 6 a e0 .nilIface] X λe F=>(∃x,e=.returned x)/\∃R' u,Im cJ (W.ee [⟨6,a,[]⟩]) G R' H F/\hd R'=gy (hd R) (8,W.cQ,m) u/\Kp (eY W G R) (eY (W.ee [⟨6,a,[]⟩]) G R') X F):=λX L=>by rw[<-D];exact(h.below L).push (⟨6,a,[]⟩)
 rw[D];unfold vq at E;clear h D;go_enter func106,ntmps106;go_wp2_with(first
  |(go_at_call 159;refine cA (E _ (ba)) ?_;rintro e w7 ⟨⟨x,rfl⟩,M,u7,I,J,K⟩;have O:=cO I;have D7:=cO J;have K7:=cO ((Kp.cY (ba)).trans K);clear I J K))
 go_returns;exact⟨⟨_,rfl⟩,M,O,λt _ ht=>by rw[D7,dL (λe=>ht (by rw[e]))],K7⟩
end
section
variable{G G':Gh}{H:Hi}{V:eO→Value}
def zc:Array Value:=#[.int .i64 0,.int .i64 0,.string ⟨#[]⟩,.nilIface]
def N6{s:eO}(h:s.1=3->x ∉ (W.funcs.getD s.2.1 (0,[])).2)(D:s.1=7->x ∉ (W.fr s.2.1 s.2.2).da)(v:Value):gF W G H (gy V (0,x,0) v) s=gF W G H V s:=by
 have n:∀a b d,a≠0->gy V (0,x,0) v (a,b,d)=V (a,b,d):=λa b d e=>dL (λq=>e (by cases q;rfl)) v;have I:vi G (gy V (0,x,0) v)=vi G V:=nJ dC v;have E:∀l:List Nat,x ∉ l->(l.flatMap λy=>[ptr (gy V (0,x,0) v (0,y,0))])=l.flatMap λy=>[ptr (V (0,y,0))]:=by
  intro l
  induction l with
  |nil=>intro _;rfl
  |cons y l J=>
   intro F;rw[eE,eE,J (λq=>F (ig _ q)),dL (λq=>F (by cases q;exact fR))]
 obtain⟨s,i,j⟩:=s;unfold gF;dsimp only at h D|-;obtain _|_|_|_|_|_|_|_|_|s:=s;all_goals simp only[I,n _ _ _ (show(2:Nat)≠0 by decide),n _ _ _ (show(3:Nat)≠0 by decide),n _ _ _ (show(4:Nat)≠0 by decide),n _ _ _ (show(5:Nat)≠0 by decide),n _ _ _ (show(6:Nat)≠0 by decide),n _ _ _ (show(7:Nat)≠0 by decide),n _ _ _ (show(8:Nat)≠0 by decide)]
 .exact E _ (h rfl)
 .exact E _ (D rfl)
def EK(h:x∈l):∃a,a<l.length/\l.getD a 0=x:=by obtain⟨a,D,e⟩:=gM h;exact⟨a,D,by rw[cB,cG D];exact e⟩
def Im.OL(h:Im cJ W G R H w)(hB:cJ<=w.heap.size)(hn:W.cQ<W.cS.length)(hm:W.co.cy.length=m+1)(hg:W.db.guard=false)(ha:a<W.db.da.length)(hx:W.db.da.getD a 0=x)(ab:x<W.vars.length)(h0:(R (0,x,0)).n=0){b:Nat}(h7:(R (7,W.cQ,m)).v=.slice (some ⟨b,0,none⟩) W.db.da.length cap):
  ∃R',Im cJ W G R' H ((w.setCell ⟨b,a,none⟩ (.pointer (some ⟨w.heap.size,0,none⟩))).alloc (.cells zc 196))/\hd R'=gy (hd R) (0,x,0) (.slice (some ⟨w.heap.size,0,none⟩) 1 1)/\(R' (0,x,0)).n=1/\∀s,s≠(0,x,0)->(R' s).n=(R s).n:=by
 have e1:W.co.cy.length-1=m:=cM;have I:W.fr W.cQ m=W.db:=by rw[<-e1];rfl
 have ae:(W.fr W.cQ m).guard=false:=I▸hg;have t7:eW W (7,W.cQ,m):=⟨hn,by show m<W.co.cy.length;omega,ae⟩
 have t0:eW W (0,x,0):=⟨ab,rfl⟩
 have n7:(R (7,W.cQ,m)).n=W.db.da.length:=by rw[<-I];exact h.ij _ t7 dC
 have c7:(R (7,W.cQ,m)).cs=W.db.da.flatMap λy=>[ptr (hd R (0,y,0))]:=by rw[<-I];exact h.cells _ t7 (λe=>by simp at e)
 obtain⟨_,ac,hz⟩:=(h.var x ab).resolve_left cM;have st:=h.eH.store t7 (n7▸h7) a (zP w.heap.size);have E:(w.setCell (zA b a) (zP w.heap.size)).heap.size=w.heap.size:=QB;have ob:(jG R (7,W.cQ,m) ⟨(R (7,W.cQ,m)).v,(R (7,W.cQ,m)).n,(R (7,W.cQ,m)).cs.set a (zP w.heap.size)⟩ (0,x,0)).v.ownBlock=none:=by rw[dh _ _ dC,ac];rfl
 have own:((w.setCell (zA b a) (zP w.heap.size)).alloc (.cells zc 196)).ownsRow cJ 196 4 (zS w.heap.size 1 1) 1 zc.toList:=by have:=jt (base:=cJ) (e:=196) (size:=4) (w.setCell (zA b a) (zP w.heap.size)) zc 1 (by rw[E];exact hB) (by unfold maxLen;omega) rfl;rw[E]at this;exact this
 have pt:=st.put (r:=⟨zS w.heap.size 1 1,1,zc.toList⟩) t0 (V1 _ _ _) own (λk hk=>.inr (by cases hk;rw[E];exact cE _));generalize L:jG (jG R (7,W.cQ,m) ⟨(R (7,W.cQ,m)).v,(R (7,W.cQ,m)).n,(R (7,W.cQ,m)).cs.set a (zP w.heap.size)⟩) (0,x,0) ⟨zS w.heap.size 1 1,1,zc.toList⟩=R' at pt;have M:R' (0,x,0)=⟨zS w.heap.size 1 1,1,zc.toList⟩:=by rw[<-L,dD]
 have r7:R' (7,W.cQ,m)=⟨(R (7,W.cQ,m)).v,(R (7,W.cQ,m)).n,(R (7,W.cQ,m)).cs.set a (zP w.heap.size)⟩:=by rw[<-L,dh _ _ dC,dD]
 have ro:∀s,s≠(0,x,0)->s≠(7,W.cQ,m)->R' s=R s:=λs J O=>by rw[<-L,dh _ _ J,dh _ _ O]
 have D:∀s,s≠(0,x,0)->(R' s).n=(R s).n:=λs q=>by
  by_cases e:s=(7,W.cQ,m)
  .subst e;rw[r7]
  .rw[ro s q e]
 have hh:hd R'=gy (hd R) (0,x,0) (zS w.heap.size 1 1):=by
  funext s;unfold hd;by_cases e:s=(0,x,0)
  .subst e;rw[M,jL]
  .rw[dL e];by_cases e2:s=(7,W.cQ,m)
   .subst e2;rw[r7]
   .rw[ro s e e2]
 have alone:∀c j a',c<W.cS.length->j<(W.cS.getD c dE).cy.length->a'<(W.fr c j).da.length->(W.fr c j).da.getD a' 0=x->(c,j,a')=(W.cQ,m,a):=by intro c j a' J O F q4;refine(h.lone c j a' W.cQ m a J hn O (by show m<W.co.cy.length;omega) F (I▸ha) (by rw[q4,I,hx])).resolve_right ?_;rw[q4,h0];simp
 refine⟨R',⟨pt,λs K q=>?_,λy hy=>?_,λs K q=>?_,λi hi=>?_,h.wj,λi hi y hy=>?_,?_⟩,hh,by rw[M],D⟩
 .rw[D s (λe=>q (by rw[e]))];exact h.ij s K q
 .by_cases e:y=x
  .subst e;exact .inl (by rw[M])
  .rw[D _ (by simpa using e),show(R' (0,y,0)).v=(R (0,y,0)).v by rw[ro _ (by simpa using e) dC]];exact h.var y hy
 .rw[hh];by_cases e:s=(0,x,0)
  .subst e;rw[M];show _=vi G (gy _ _ _) (W.vars.getD x v0);rw[hz];rfl
  .by_cases e2:s=(7,W.cQ,m)
   .subst e2;rw[r7];show(R (7,W.cQ,m)).cs.set a _=(W.fr W.cQ m).da.flatMap λy=>[ptr (gy (hd R) (0,x,0) _ (0,y,0))]
    rw[c7,I];refine(vK (c:=1) (f:=λy=>[ptr (gy (hd R) (0,x,0) (zS w.heap.size 1 1) (0,y,0))]) (λ_=>rfl) W.db.da a x 0 _ ?_ (λr hr=>?_) λk hk=>?_).trans ?_
    .rw[df,kH (c:=1) (λ_=>rfl)]
    .obtain rfl:r=0:=cM;rw[jV,eD,dP (by rw[kH (c:=1) (λ_=>rfl)];omega),jL];rfl
    .have ad:k≠a:=by rw[Nat.div_one]at hk;exact hk
     rw[dm (λq=>ad q.symm)];by_cases aa:k<W.db.da.length
     .have f1:=kh (c:=1) (f:=λy=>[ptr (hd R (0,y,0))]) (λ_=>rfl) 0 W.db.da k 0 aa cM;have f2:=kh (c:=1) (f:=λy=>[ptr (gy (hd R) (0,x,0) (zS w.heap.size 1 1) (0,y,0))]) (λ_=>rfl) 0 W.db.da k 0 aa cM;rw[jV,eD]at f1 f2;rw[f1,f2,dL (λq=>ad ?_)];have:=alone W.cQ m k hn (by show m<W.co.cy.length;omega) (I▸aa) (by rw[I];cases q;rfl);simpa using this
     .rw[dO (by rw[kH (c:=1) (λ_=>rfl)];omega),dO (by rw[kH (c:=1) (λ_=>rfl)];omega)]
    .rw[show W.db.da.set a x=W.db.da from ?_];refine iE λk=>?_;rw[uP];split
     .rename_i e;subst e;rw[cG ha,<-hx,cB,cG ha];rfl
     .rfl
   .rw[ro s e e2,N6 (λF af=>?_) (λq7 ag=>?_)]
    .exact h.cells s K (λq0=>by rw[<-D s e];exact q q0)
    .obtain⟨s,i,j⟩:=s;have F:=F;subst F;have:=(h.fP i K.1 x af).2;omega
    .obtain⟨s,i,j⟩:=s;have q7:=q7;subst q7;obtain⟨a',p1,p2⟩:=EK ag;have:=alone i j a' K.1 K.2.1 p1 p2;simp only[fS]at this;exact e2 (by rw[this.1,this.2.1])
 .obtain⟨⟨es,c,J,O⟩,F,q4⟩:=h.pZ i hi;have ml:=(dS.1 J).1;refine⟨⟨es,c,?_,?_⟩,F,λs K=>?_⟩
  .rw[gH _ _ _ (by rw[E];exact ml),cZ _ (zA b a) _ _ (λe=>q4 _ t7 (by rw[h7,e];rfl))];exact J
  .rw[O,hh];unfold rB;rw[nJ dC]
  .by_cases e:s=(0,x,0)
   .subst e;rw[M];intro q;have:w.heap.size=G.map i:=by simpa[Value.ownBlock]using q
    omega
   .have:=qt hh s;rw[dL e]at this;rw[show(R' s).v=(R s).v from this];exact q4 s K
 .have:=h.fP i hi y hy;refine⟨this.1,?_⟩;by_cases e:y=x
  .subst e;rw[M]
  .rw[D _ (by simpa using e)];exact this.2
 .intro c j a1 c' j2 a2 J O F q4 q5 q6 q7;obtain q|q:=h.lone c j a1 c' j2 a2 J O F q4 q5 q6 q7
  .exact .inl q
  .refine .inr ?_;by_cases e:(W.fr c j).da.getD a1 0=x
   .rw[e,M]
   .rw[D _ (by simpa using e)];exact q
end
section
variable{G G':Gh}{H:Hi}
def Im.v8(h:Im cJ W G R H w)(M:x<W.vars.length)(I:(R (0,x,0)).n=1){b:Nat}(O:(R (0,x,0)).v=.slice (some ⟨b,0,none⟩) 1 cap)(v:Vl):
  ∃R',Im cJ {W with vars:=W.vars.set x v} G R' H ((((w.setCell ⟨b,0,none⟩ (.int .i64 v.k)).setCell ⟨b,1,none⟩ (.int .i64 (hC G v))).setCell ⟨b,2,none⟩ (sv v.s)).setCell ⟨b,3,none⟩ (dV (hd R) v))/\hd R'=hd R/\∀s,(R' s).n=(R s).n:=by
 have E:eW W (0,x,0):=⟨M,rfl⟩
 have c0:=h.cells _ E (λ_=>I);have D:(R (0,x,0)).v=zS b (R (0,x,0)).n cap:=I▸O;have s3:=h.eH.GA E D 0 (zI v.k) (zI (hC G v)) (sv v.s);have J:=s3.store E (g:=b) (cap:=cap) (by rw[dD];exact D) 3 (dV (hd R) v);simp only[dD]at J;have e:∀(R:eO->fW)(a c:fW),jG (jG R (0,x,0) a) (0,x,0) c=jG R (0,x,0) c:=by
  intro R a c;funext u;by_cases q:u=(0,x,0)
  .subst q;rw[dD,dD]
  .rw[dh _ _ q,dh _ _ q,dh _ _ q]
 rw[e]at J;have K:∀s,eW {W with vars:=W.vars.set x v} s↔eW W s:=by intro s;unfold eW;rw[df];exact j8
 refine h.same (V:={W with vars:=W.vars.set x v}) (G':=G) ⟨K,λ_ _=>rfl,df ..,rfl,rfl,rfl,λ_=>rfl,λ_ _=>rfl⟩ E J (λk hk=>?_) (λ_=>?_) (λs hs L _=>?_) (λy hy h0=>?_) rfl (λ_=>rfl)
 .have F:k≠b:=λq=>hk (by rw[O,q];rfl);rw[cZ _ (zA b 3) _ _ F,cZ _ (zA b (0+2)) _ _ F,cZ _ (zA b (0+1)) _ _ F,cZ _ (zA b 0) _ _ F]
 .rw[c0];show _=vi G (hd R) ((W.vars.set x v).getD x v0);rw[ez _ _ _ _ M];rfl
 .obtain⟨s,i,j⟩:=s;obtain _|s:=s
  .have hj:j=0:=hs.2;have:i≠x:=λq=>L (by rw[q,hj]);show vi G (hd R) ((W.vars.set x v).getD i v0)=vi G (hd R) (W.vars.getD i v0);rw[dR _ _ _ _ _ (λq=>this q.symm)]
  .obtain _|_|_|_|_|_|_|_|s:=s<;>rfl
 .have:y≠x:=λq=>by rw[q,I]at h0;cases h0
  show(W.vars.set x v).getD y v0=v0;rw[dR _ _ _ _ _ (λq=>this q.symm)];exact((h.var y hy).resolve_left cM).2.2
def Im.da(h:Im cJ W G R H w)(M:W.cQ<W.cS.length)(hm:W.co.cy.length=m+1)(hg:W.db.guard=false)(ha:a<W.db.da.length):eW W (7,W.cQ,m)/\∃b cap f,hd R (6,W.cQ,m)=.slice (some ⟨f,0,none⟩) 1 (match hd R (6,W.cQ,m)with|.slice _ _ c=>c|_=>0)/\¬f=b/\(R (7,W.cQ,m)).v=.slice (some ⟨b,0,none⟩) W.db.da.length cap/\w.cell? ⟨f,2,none⟩=some (.slice (some ⟨b,0,none⟩) W.db.da.length cap)/\w.cell? ⟨b,a,none⟩=some (ptr (hd R (0,W.db.da.getD a 0,0)))/\w.frozen? ⟨b,a,none⟩=false:=by
 have e1:W.co.cy.length-1=m:=cM;have F:W.fr W.cQ m=W.db:=by rw[<-e1];rfl
 have E:(W.fr W.cQ m).guard=false:=F▸hg;have I:eW W (6,W.cQ,m):=⟨M,by show m<W.co.cy.length;omega,E⟩
 have D:eW W (7,W.cQ,m):=⟨M,by show m<W.co.cy.length;omega,E⟩
 have J:(R (7,W.cQ,m)).n=W.db.da.length:=by rw[<-F];exact h.ij _ D dC
 have c7:(R (7,W.cQ,m)).cs=W.db.da.flatMap λy=>[ptr (hd R (0,y,0))]:=by rw[<-F];exact h.cells _ D (λe=>by simp at e)
 obtain⟨b,cap,K,_⟩:=h.eH.uE D (by rw[J];omega);obtain⟨f,cf,O,_,hc,_⟩:=h.eA I (h.ij _ I dC) dC;have L:(R (7,W.cQ,m)).v=zS b W.db.da.length cap:=by rw[<-J];exact K
 refine⟨D,b,cap,f,?_,λe=>h.eH.apart _ _ I D dC f (by rw[O];rfl) (by rw[L,e];rfl),L,?_,?_,h.eH.free D K a⟩
 .unfold hd;rw[O]
 .have:=hc 2 (hd R (7,W.cQ,m)) rfl;rwa[show hd R (7,W.cQ,m)=_ from L]at this
 .refine h.eH.cell D K (by rw[J];show a<W.db.da.length*1;omega) ?_;have f1:=kh (c:=1) (f:=λy=>[ptr (hd R (0,y,0))]) (λ_=>rfl) 0 W.db.da a 0 ha cM;rw[jV,eD]at f1;rw[c7,f1];rfl
def uW(h:Cu cJ W G R H m w)(I:a<W.db.da.length)(hs:W.db.da.length<=1000000000)(M:W.db.da.getD a 0=x)(D:x<W.vars.length):
  zC 160 #[ptr (hd R (6,W.cQ,m)),zI (a:Int)] w λe J=>∃R' q cap,e=.returned (zP q)/\Cu cJ W G R' H m J/\(R' (0,x,0)).n=1/\(R' (0,x,0)).v=zS q 1 cap/\(∀t,t≠(0,x,0)->hd R' t=hd R t)/\Kp (eY W G R) (eY W G R') w J/\((R (0,x,0)).n=1->R'=R)/\∀s,s≠(0,x,0)->(R' s).n=(R s).n:=by
 obtain⟨t7,b,cap,f,h6,K,O,c2,E,cf⟩:=h.im.da h.cQ h.len h.gd I;rw[M]at E;rw[show ptr (hd R (6,W.cQ,m))=zP f by rw[h6];rfl];have t0:eW W (0,x,0):=⟨D,rfl⟩
 obtain h1|⟨h0,F,hz⟩:=h.im.var x D
 .obtain⟨q,cq,hq,_⟩:=h.im.eA t0 h1 dC;rw[show ptr (hd R (0,x,0))=zP q by unfold hd;rw[hq];rfl]at E;refine(Js c2 I hs E).mono ?_;rintro e J ⟨rfl,rfl⟩;exact⟨R,q,cq,rfl,h,h1,hq,λ_ _=>rfl,Kp.refl _ _,λ_=>rfl,λ_ _=>rfl⟩
 .rw[show ptr (hd R (0,x,0))=.pointer none by unfold hd;rw[F];rfl]at E;refine(LI c2 I hs E cf K).mono ?_;rintro e J ⟨rfl,rfl⟩;obtain⟨R',i,d,n1,no⟩:=h.im.OL h.bs h.cQ h.len h.gd I M D h0 O;have kp:Kp (eY W G R) (eY W G R) w ((w.setCell (zA b a) (zP w.heap.size)).alloc (.cells zc 196)):=(Kp.setCell (a:=(zA b a)) _ (.row t7 (by unfold hd;rw[O];rfl))).trans (Kp.alloc _);refine⟨R',w.heap.size,1,rfl,⟨i,cV h.bs kp.size,h.cQ,h.len,h.gd,h.ops⟩,n1,?_,λt ht=>by rw[d,dL ht],kp.sub λk L=>?_,(λq=>by rw[h0]at q;cases q),no⟩
  .have:=qt d (0,x,0);rw[jL]at this;exact this
  .exact eY.IY t0 d (λk L=>.inr (by have:w.heap.size=k:=(by simpa[Value.ownBlock]using L);omega)) (λs hs=>hs) rfl L
def qC(h:Cu cJ W G R H m w)(F:a<W.db.da.length)(hs:W.db.da.length<=1000000000)(I:W.db.da.getD a 0=x)(D:x<W.vars.length):
  zC 160 #[ptr (hd R (6,W.cQ,m)),zI (a:Int)] w λe E=>∃R' q cap,e=.returned (zP q)/\Cu cJ W G R' H m E/\(R' (0,x,0)).n=1/\(R' (0,x,0)).v=zS q 1 cap/\(∀t,t≠(0,x,0)->hd R' t=hd R t)/\Kp (eY W G R) (eY W G R') w E:=by
 refine(uW h F hs I D).mono ?_;rintro e E ⟨R',q,cap,J,K,L,M,O,a6,_⟩;exact⟨R',q,cap,J,K,L,M,O,a6⟩
def Kv(h:Cu cJ W G R H m w)(ha:a<W.db.da.length)(hs:W.db.da.length<=1000)(hx:W.db.da.getD a 0=x)(D:x<W.vars.length):
  zC 107 #[mv,ptr (hd R (6,W.cQ,m)),.agg (zW op (a:Int) b)] w (To cJ W G R H m w (W.ee [W.vars.getD x v0])):=by
 obtain⟨f,J,_⟩:=h.ptr;have HF:=cO J;have VA:=cO (λX (hX:zB w X)=>qC (h.below hX) ha cM hx D);obtain⟨y,L⟩:=eX (W.vars.getD x v0);have K:=cO L;have M:=cO D;rw[<-L,J];rw[J]at VA;clear h J L ha hs hx D;go_enter func107,ntmps107;go_wp2_with(first
  |(go_at_call 160;refine cA (VA _ (ba)) ?_;rintro e w3 ⟨R3,q,cq,rfl,O,n3,v3,d3,k3⟩;have D3:=cO d3;have K3:=cO ((Kp.alloc _).trans k3);have E:=O.push y;rw[d3 (6,W.cQ,m) dC,HF]at E;obtain⟨t,F⟩:=eX (dV (hd R3) y);obtain⟨_,_,e9,_,I,_⟩:=O.im.eA (t:=(0,x,0)) ⟨M,rfl⟩ n3 dC;rw[v3]at e9;cases e9;have y0:=I 0 (zI y.k) (by rw[K];rfl);have y1:=I 1 (zI (hC G y)) (by rw[K];rfl);have y2:=I 2 (.string ⟨y.s.toArray⟩) (by rw[K];rfl);have y3:=I 3 t (by rw[F,K];rfl);unfold jX vq at E;rw[<-F]at E;have PU:=cO E;clear E O n3 v3 d3 k3 F I)
  |(go_at_call 159;refine cA PU ?_;rintro e w7 ⟨⟨x,rfl⟩,R7,u7,i7,d7,k7⟩;have I7:=cO i7;have D7:=cO d7;have K7:=cO (K3.trans k7);clear i7 d7 k7))
 go_returns;exact⟨⟨_,rfl⟩,R7,I7,λt h0 F=>by rw[D7,dL (λe=>F (by rw[e]))];exact D3 t (λe=>h0 (by rw[e])),K7⟩
def WM{z:Sz}(h:gG z v)(G:Gh):(v.k==0 || (v.k==1&&hC G v==0))=!jr v:=by
 unfold jr;by_cases D:v.k=1
 .have e:hC G v=v.n:=by unfold hC;rw[cK cM,cK cM,cK cM]
  rw[e];obtain q|q:=h.bool D<;>simp[D,q]
 .have E:(v.k==1)=false:=by simpa using D
  rw[E];cases(v.k==0)<;>rfl
def Cu.fU(h:Cu cJ W G R H m w)(E:0<W.db.ops.length)(F:v=W.db.ops.getD (W.db.ops.length-1) v0):
  zC 161 #[im.ptr (hd R (6,W.cQ,m))] w λe D=>e=.returned (jX G (hd R) v)/\∃R',Cu cJ (W.dZ 1) G R' H m D/\(∀t,t.1≠8->hd R' t=hd R t)/\Kp (eY W G R) (eY (W.dZ 1) G R') w D:=by
 refine(MD h.im h.cQ h.len h.gd (by have:=h.ops;omega) E F).mono ?_;rintro e D ⟨rfl,R',u,i,d,k⟩;exact⟨rfl,R',h.dZ i k.size,λt I=>by rw[d,dL (λe=>I (by rw[e]))],k⟩
def Cu.gi(h:Cu cJ W G R H m w)(a:Nat){f:Nat}(K:im.ptr (hd R (6,W.cQ,m))=.pointer (some ⟨f,0,none⟩)):w.frozen? ⟨f,1,none⟩=false/\(∃u,w.cell? ⟨f,1,none⟩=some u)/\∃R',Cu cJ (W.gi a) G R' H m (w.setCell ⟨f,1,none⟩ (.int .i64 a))/\hd R'=hd R/\Kp (eY W G R) (eY (W.gi a) G R') w (w.setCell ⟨f,1,none⟩ (.int .i64 a)):=by
 have e1:W.co.cy.length-1=m:=by have:=h.len;omega
 have E:0<W.co.cy.length:=by have:=h.len;omega
 obtain⟨F,_,_,_,L,cap,_,_,h6,_⟩:=h.im.db h.cQ h.len h.gd;obtain⟨D,c2,I,_,cl,fz,_⟩:=h.im.eA F (h.im.ij _ F dC) dC;have ef:L=f:=by
  have:im.ptr (hd R (6,W.cQ,m))=zP L:=by unfold hd;rw[h6];rfl
  rw[K]at this;simpa using this.symm
 have J:D=f:=by
  have:im.ptr (hd R (6,W.cQ,m))=zP D:=by unfold hd;rw[I];rfl
  rw[K]at this;simpa using this.symm
 subst J;obtain⟨R',i,d,n⟩:=h.im.ID h.cQ E h.gd a (b:=D) (cap:=c2) (e1▸I);have M:(W.gi a).db={W.db with eA:=a}:=jf h.cQ E _;have O:Kp (eY W G R) (eY W G R) w (w.setCell (zA D 1) (zI a)):=Kp.setCell _ (.row F (by unfold hd;rw[I];rfl));refine⟨fz 1,⟨_,cl 1 _ rfl⟩,R',⟨i,cV h.bs O.size,by have:=h.cQ;simpa[St.gi,St.dN,St.du,St.dW]using this,(jg h.cQ _).trans h.len,M▸h.gd,M▸h.ops⟩,d,O.sub λk hk=>.inl ?_⟩;obtain⟨t,ht,e⟩|q:=hk
 .rw[d]at e;exact .row ((kV (f:={W.db with eA:=a}) h.cQ E rfl t).1 ht) e
 .exact .inr q
def Ko(h:Cu cJ W G R H m w)(D:0<W.db.ops.length){a:Int}:zC 127 #[mv,im.ptr (hd R (6,W.cQ,m)),.agg (zW op a b)] w (To cJ W G R H m w (W.dZ 1)):=by
 obtain⟨f,E,_⟩:=h.ptr;have P:=cO (λX (K:zB w X)=>(h.below K).fU D rfl);rw[E]at P|-;clear h E D;go_enter func127,ntmps127;go_wp2_with(go_at_call 161;refine cA (P _ (ba)) ?_;rintro e w3 ⟨rfl,L,F,I,J⟩;have M:=cO F;have O:=cO I;have K3:=cO ((Kp.alloc _).trans J);clear F I J)
 go_returns;exact⟨⟨_,rfl⟩,L,M.im,λt _ ht=>O t ht,K3⟩
def Hz(h:Cu cJ W G R H m w):zC 120 #[mv,im.ptr (hd R (6,W.cQ,m)),.agg (zW op (a:Int) b)] w (To cJ W G R H m w (W.gi a)):=by obtain⟨f,E,_⟩:=h.ptr;have J:=cO (λX (I:zB w X)=>(h.below I).gi a E);obtain⟨K,⟨u1,M⟩,_⟩:=J _ ((cN _ _).alloc (cE _) (.cells (zW op (a:Int) b) 105));have L:=cO ((Lc.new w (S:=λ_=>False) (λ_ h=>h.elim) (zW op (a:Int) b) 105));rw[E];clear h E;go_enter func120,ntmps120;go_upto_region 1 with fail;refine dx λw1 D=>?_;have F:=cO D;rw[<-D]at K M;have O:=L.cell (j:=1) rfl;rw[<-D]at O;clear D;go_wp2;go_returns;obtain⟨_,_,R',c,d,k⟩:=J w1 (F▸ba);have K1:Kp (eY W G R) (eY W G R) w w1:=F▸Kp.alloc _;exact⟨⟨_,rfl⟩,R',c.im,λt _ _=>by rw[d],K1.trans k⟩
def uA{z:Sz}(ok:gG z v)(V:eO->Value):zC 166 #[jX G V v] w (zR w (.bool (!jr v))):=by rw[<-WM ok G];exact wS _ _ _ _
def Kr(h:Cu cJ W G R H m w)(L:0<W.db.ops.length)(hv:v=W.db.ops.getD (W.db.ops.length-1) v0)(ok:gG W.sz v){a:Int}:zC 118 #[mv,im.ptr (hd R (6,W.cQ,m)),.agg (zW op a b)] w (To cJ W G R H m w ((W.dZ 1).ee [bv (!jr v)])):=by
 obtain⟨f,M,_⟩:=h.ptr;have P:=cO (λX (hX:zB w X)=>(h.below hX).fU L hv);have F:=cO (λX=>uA (w:=X) (G:=G) ok (hd R));obtain⟨K,E⟩:=eX (!jr v);have O:=cO (λX=>jM (w:=X) K);obtain⟨t,I⟩:=eX (dV (hd R) v);have HF:=cO M;have ab:=h.ops;rw[M]at P|-;rw[<-E]at F|-;unfold jX vq at P F;rw[<-I]at P F;obtain⟨nb,D⟩:=eX (if K then 1 else 0:Int);have aa:=cO D;unfold vq e0 at O;rw[<-D]at O;clear h M L hv ok I E D;go_enter func118,ntmps118;go_wp2_with(first
  |(go_at_call 161;refine cA (P _ (ba)) ?_;rintro e w3 ⟨rfl,R3,c3,d3,k3⟩;have C3:=cO c3;have D3:=cO d3;have K3:=cO ((Kp.alloc _).trans k3);clear c3 d3 k3)
  |(go_at_call 166;refine cA (F _) ?_;rintro e w4 ⟨rfl,b4⟩;have B4:=cO b4;clear b4)
  |(go_at_call 143;refine cA (O _) ?_;rintro e w5 ⟨rfl,b5⟩;have B5:=cO (iy B4 b5);clear b5;have J:=(C3.below B5).push (bv K);rw[show hd R3 (6,(W.dZ 1).cQ,m)=hd R (6,W.cQ,m)from D3 _ dC,HF]at J;rw[show jX G (hd R3) (bv K)=.agg #[zI 1,zI nb,zT,.nilIface] by rw[aa];rfl]at J;replace J:=cO J)
  |(go_at_call 159;refine cA J ?_;rintro e w7 ⟨⟨x,rfl⟩,R7,u7,i7,d7,k7⟩;have I7:=cO i7;have D7:=cO d7;have K7:=cO ((K3.trans (Kp.cY B5)).trans k7);clear i7 d7 k7))
 go_returns;exact⟨⟨_,rfl⟩,R7,I7,λt L I=>by rw[D7,dL (λe=>I (by rw[e]))];exact D3 t I,K7⟩
def xB(h:Cu cJ W G R H m w)(h0:0<W.db.ops.length)(hv:v=W.db.ops.getD (W.db.ops.length-1) v0)(ok:gG W.sz v):zC 121 #[mv,im.ptr (hd R (6,W.cQ,m)),.agg (zW op (a:Int) b)] w (To cJ W G R H m w (if jr v then W.dZ 1 else(W.dZ 1).gi a)):=by
 obtain⟨f,hf,_⟩:=h.ptr;have P:=cO (λX (hX:zB w X)=>(h.below hX).fU h0 hv);have F:=cO (λX=>uA (w:=X) (G:=G) ok (hd R));obtain⟨t,E⟩:=eX (dV (hd R) v);have HF:=cO hf;have aa:=cO (λk (hk:eY W G R k)=>eY.lt h.im hk);rw[hf]at P|-;unfold jX vq at P F;rw[<-E]at P F;clear h hf h0 hv ok E;cases M:jr v with
 |true=>
  rw[M]at F;clear M;go_enter func121,ntmps121;go_wp2_with(first
   |(go_at_call 161;refine cA (P _ (ba)) ?_;rintro e w3 ⟨rfl,R3,K,L,I⟩;have C3:=cO K;have O:=cO L;have K3:=cO ((Kp.alloc _).trans I);clear K L I)
   |(go_at_call 166;refine cA (F _) ?_;rintro e w4 ⟨rfl,D⟩;have B4:=cO D;clear D))
  go_returns;exact⟨⟨_,rfl⟩,R3,C3.im.below B4,λt _ E=>O t E,K3.trans (Kp.cY B4)⟩
 |false=>
  rw[M]at F;clear M;have LX:=cO (Lc.new w aa (zW op (a:Int) b) 105);go_enter func121,ntmps121;go_wp2_with(first
   |(go_at_call 161;refine cA (P _ (ba)) ?_;rintro e w3 ⟨rfl,R3,K,L,I⟩;have C3:=cO K;have O:=cO L;have K3:=cO ((Kp.alloc _).trans I);have L3:=cO (LX.kept I);clear K L I)
   |(go_at_call 166;refine cA (F _) ?_;rintro e w4 ⟨rfl,D⟩;have B4:=cO D;have x1:=(L3.kept (Kp.cY D)).cell (j:=1) rfl;have J:=cO ((C3.below D).gi a (by rw[show hd R3 (6,(W.dZ 1).cQ,m)=hd R (6,W.cQ,m)from O _ dC];exact HF));obtain⟨f1,⟨u1,q1⟩,_⟩:=J.out;clear D))
  go_returns;obtain⟨_,_,R',c,d,k⟩:=J.out;exact⟨⟨_,rfl⟩,R',c.im,λt _ E=>d▸O t E,(K3.trans (Kp.cY B4)).trans k⟩
def Im.VD(h:Im cJ W G R H w){t:eO}(D:eW W t)(e:(R t).v=.slice ao n c):(R t).n=n:=by obtain⟨E,F,q⟩:=h.eH.sliced D;rw[e]at q;simp only[de]at q;exact q.2.1.symm
def Kn(h:Cu cJ W G R H m w)(ha:a<W.db.da.length)(hs:W.db.da.length<=1000)(hx:W.db.da.getD a 0=x)(E:x<W.vars.length)(L:0<W.db.ops.length)(hv:v=W.db.ops.getD (W.db.ops.length-1) v0):
  zC 108 #[mv,im.ptr (hd R (6,W.cQ,m)),.agg (zW op (a:Int) b)] w (To cJ W G R H m w {W.dZ 1 with vars:=(W.dZ 1).vars.set x v}):=by
 obtain⟨f,hf,_⟩:=h.ptr;have HF:=cO hf;have VA:=cO (λX (hX:zB w X)=>qC (h.below hX) ha cM hx E);have H0:=cO L;have HV:=cO hv;have D:=cO E;rw[hf]at VA|-;clear h hf ha hs hx E L hv;go_enter func108,ntmps108;go_wp2_with(first
  |(go_at_call 160;refine cA (VA _ (ba)) ?_;rintro e w3 ⟨R3,q,cq,rfl,c3,n3,v3,d3,k3⟩;have D3:=cO d3;have C3:=cO c3;have V3:=cO v3;have K3:=cO ((Kp.alloc _).trans k3);have J:=c3.fU H0 HV;rw[d3 (6,W.cQ,m) dC,HF]at J;obtain⟨t,F⟩:=eX (dV (hd R3) v);unfold jX vq at J;rw[<-F]at J;have HT:=cO F;have st:=(gm (hd R3) v).store;rw[<-F]at st;have PO:=cO J;clear J c3 n3 v3 d3 k3 F)
  |(go_at_call 161;refine cA PO ?_;rintro e w4 ⟨rfl,R4,M,d4,k4⟩;have C4:=cO M;have O:=cO d4;have K4:=cO (K3.trans k4);have I:(R4 (0,x,0)).v=zS q 1 cq:=(d4 (0,x,0) dC).trans V3;have N4:=M.im.VD (t:=(0,x,0)) ⟨D,rfl⟩ I;obtain⟨q',_,e9,_,K,fz,_⟩:=M.im.eA (t:=(0,x,0)) ⟨D,rfl⟩ N4 dC;rw[I]at e9;cases e9;have I:=cO I;have N4:=cO N4;have y0:=K 0 _ rfl;have y1:=K 1 _ rfl;have y2:=K 2 _ rfl;have y3:=K 3 _ rfl;clear M d4 k4 K))
 go_returns;have e4:dV (hd R4) v=t:=by rw[HT];unfold dV;rw[O (1,_,0) dC,O (2,_,0) dC,O (4,_,0) dC]
 obtain⟨R5,i5,d5,_⟩:=C4.im.v8 (x:=x) D N4 I v;rw[e4]at i5;refine⟨⟨_,rfl⟩,R5,i5,λt L F=>by rw[d5,O t F];exact D3 t (λe=>L (by rw[e])),?_⟩;have fq:eY (W.dZ 1) G R4 q:=.row (t:=(0,x,0)) ⟨D,rfl⟩ (by unfold hd;rw[I];rfl);refine(K4.trans (((Kp.setCell (a:=(zA q 0)) _ fq).trans (Kp.setCell (a:=(zA q 1)) _ fq)).trans ((Kp.setCell (a:=(zA q 2)) _ fq).trans (Kp.setCell (a:=(zA q 3)) _ fq)))).sub λk hk=>.inl ?_;obtain⟨s,hs,e⟩|q:=hk
 .rw[d5]at e;refine .row ?_ e;unfold eW at hs|-;rw[df]at hs;exact hs
 .exact .inr q
def zi(h:Cu cJ W G R H m w)(h0:0<W.db.ops.length)(hv:v=W.db.ops.getD (W.db.ops.length-1) v0)(ok:gG W.sz v)(q:Bool):zC 167 #[im.ptr (hd R (6,W.cQ,m)),zI (a:Int),.bool q] w (To cJ W G R H m w (if (!jr v)=q then((W.dZ 1).ee [v]).gi a else W.dZ 1)):=by
 obtain⟨f,hf,_⟩:=h.ptr;have P:=cO (h.fU h0 hv);have F:=cO (λX=>uA (w:=X) (G:=G) ok (hd R));obtain⟨t,D⟩:=eX (dV (hd R) v);have HT:=cO D;have HF:=cO hf;have LO:Hid ((W.dZ 1).db.ops.length + [v].length<=200000):=by have t:=(kT h.cQ (by have:=h.len;omega) 1).2.2.2;rw[t];show(W.db.ops.take (W.db.ops.length-1)).length+1<=200000;have:=h.ops;rw[dX];omega
 have st:=(gm (hd R) v).store;have aa:=cO (λk (hk:eY W G R k)=>eY.lt h.im hk);rw[hf]at P|-;unfold jX vq at P F;rw[<-D]at P F st;clear h hf h0 hv ok D;obtain⟨nt,O⟩:=eX (!jr v);rw[<-O]at F|-;clear O;by_cases hc:nt=q
 .rw[cR hc];subst hc;go_enter func167,ntmps167;go_wp2_with(first
   |(go_at_call 161;refine cA P ?_;rintro e I ⟨rfl,R3,K,d3,k3⟩;have C3:=cO K;have E:=cO d3;have K3:=cO k3;have LL:=cO (Lc.new I (S:=eY (W.dZ 1) G R3) (λk hk=>eY.lt K.im hk) #[zI v.k,zI (hC G v),.string ⟨v.s.toArray⟩,t] 132);clear K d3 k3)
   |(go_at_call 166;refine cA (F _) ?_;rintro e w4 ⟨rfl,L⟩;have B4:=cO (((cN I.heap.size I).alloc (cE _) _).trans (L.mono dC));have L4:=cO (LL.kept (Kp.cY L));obtain⟨y0,y1,y2,y3⟩:=L4.c4;have C4:=cO (C3.below B4);have M:=C4.push v;rw[show hd R3 (6,(W.dZ 1).cQ,m)=hd R (6,W.cQ,m)from E _ dC,HF]at M;unfold jX vq at M;rw[show dV (hd R3) v=t by rw[HT];unfold dV;rw[E (1,_,0) dC,E (2,_,0) dC,E (4,_,0) dC]]at M;replace M:=cO M;clear L)
   |(go_at_call 159;refine cA M ?_;rintro e w7 ⟨⟨x,rfl⟩,R7,u7,i7,d7,k7⟩;have D7:Hid (∀t,t.1≠8->hd R7 t=hd R t):=(λt D=>by rw[d7,dL (λe=>D (by rw[e]))];exact E t D);have K7:=cO ((K3.trans (Kp.cY B4)).trans k7);have J:=cO ((C4.ee i7 k7.size LO).gi a (by rw[show hd R7 (6,((W.dZ 1).ee [v]).cQ,m)=hd R (6,W.cQ,m)from D7 _ dC];exact HF));obtain⟨f1,⟨u1,q1⟩,_⟩:=J.out;clear i7 d7 k7))
  go_returns;obtain⟨_,_,R',c,d,k⟩:=J.out;exact⟨⟨_,rfl⟩,R',c.im,λt _ D=>d▸D7 t D,K7.trans k⟩
 .rw[cK hc];have ab:(nt==q)=false:=by simpa using hc
  clear hc;go_enter func167,ntmps167;go_wp2_with(first
   |(go_at_call 161;refine cA P ?_;rintro e I ⟨rfl,R3,K,d3,k3⟩;have C3:=cO K;have E:=cO d3;have K3:=cO k3;clear K d3 k3)
   |(go_at_call 166;refine cA (F _) ?_;rintro e w4 ⟨rfl,L⟩;have B4:=cO (((cN I.heap.size I).alloc (cE _) _).trans (L.mono dC));clear L))
  go_returns;exact⟨⟨_,rfl⟩,R3,C3.im.below B4,λt _ D=>E t D,K3.trans (Kp.cY B4)⟩
def Ky(h:Cu cJ W G R H m w)(D:0<W.db.ops.length)(E:v=W.db.ops.getD (W.db.ops.length-1) v0)(ok:gG W.sz v):zC 122 #[mv,im.ptr (hd R (6,W.cQ,m)),.agg (zW op (a:Int) b)] w (To cJ W G R H m w (if (!jr v)=true then((W.dZ 1).ee [v]).gi a else W.dZ 1)):=by
 obtain⟨f,F,_⟩:=h.ptr;have P:=cO (λX (L:zB w X)=>zi (a:=a) (h.below L) D E ok true);rw[F]at P|-;generalize(if (!jr v)=true then((W.dZ 1).ee [v]).gi a else W.dZ 1)=Z at P|-;clear h F D E ok;go_enter func122,ntmps122;go_wp2_with(go_at_call 167;refine cA (P _ (ba)) ?_;rintro e w3 ⟨⟨x,rfl⟩,M,I,J,K⟩;have O:=cO I;have D3:=cO J;have K3:=cO ((Kp.alloc _).trans K);clear I J K)
 go_returns;exact⟨⟨_,rfl⟩,M,O,D3,K3⟩
def NQ(h:Cu cJ W G R H m w)(D:0<W.db.ops.length)(E:v=W.db.ops.getD (W.db.ops.length-1) v0)(ok:gG W.sz v):zC 123 #[mv,im.ptr (hd R (6,W.cQ,m)),.agg (zW op (a:Int) b)] w (To cJ W G R H m w (if (!jr v)=false then((W.dZ 1).ee [v]).gi a else W.dZ 1)):=by
 obtain⟨f,F,_⟩:=h.ptr;have P:=cO (λX (L:zB w X)=>zi (a:=a) (h.below L) D E ok false);rw[F]at P|-;generalize(if (!jr v)=false then((W.dZ 1).ee [v]).gi a else W.dZ 1)=Z at P|-;clear h F D E ok;go_enter func123,ntmps123;go_wp2_with(go_at_call 167;refine cA (P _ (ba)) ?_;rintro e w3 ⟨⟨x,rfl⟩,M,I,J,K⟩;have O:=cO I;have D3:=cO J;have K3:=cO ((Kp.alloc _).trans K);clear I J K)
 go_returns;exact⟨⟨_,rfl⟩,M,O,D3,K3⟩
def Im.oo(h:Im cJ W G R H w)(hn:W.cQ<W.cS.length)(hm:W.co.cy.length=m+1)(hg:W.db.guard=false)(E:∀q,(H.pc q).length=4)(D:W.db.fn<W.funcs.length)(F:a<(W.funcs.getD W.db.fn (0,[])).2.length)(K:(W.funcs.getD W.db.fn (0,[])).2.getD a 0=x):x<W.vars.length/\(R (0,x,0)).n=1/\∃f c t cap M q cq,hd R (6,W.cQ,m)=.slice (some ⟨f,0,none⟩) 1 cap/\hd R (2,W.db.fn,0)=.slice (some ⟨c,0,none⟩) 1 M/\hd R (3,W.db.fn,0)=.slice (some ⟨t,0,none⟩) (W.funcs.getD W.db.fn (0,[])).2.length cq/\w.cell? ⟨f,0,none⟩=some (.pointer (some ⟨c,0,none⟩))/\w.cell? ⟨c,4,none⟩=some (.slice (some ⟨t,0,none⟩) (W.funcs.getD W.db.fn (0,[])).2.length cq)/\w.cell? ⟨t,a,none⟩=some (.pointer (some ⟨q,0,none⟩))/\(∃O,(R (0,x,0)).v=.slice (some ⟨q,0,none⟩) 1 O)/\(∀j u,(vi G (hd R) (W.vars.getD x v0))[j]?=some u->w.cell? ⟨q,j,none⟩=some u)/\∀j,w.frozen? ⟨q,j,none⟩=false:=by
 have e1:W.co.cy.length-1=m:=cM;have ft:W.fr W.cQ m=W.db:=by rw[<-e1];rfl
 have aa:(W.fr W.cQ m).guard=false:=ft▸hg;have t6:eW W (6,W.cQ,m):=⟨hn,by show m<W.co.cy.length;omega,aa⟩
 have t2:eW W (2,W.db.fn,0):=⟨D,rfl⟩
 have I:eW W (3,W.db.fn,0):=⟨D,rfl⟩
 have cap:=h.fP _ D x (by generalize(W.funcs.getD W.db.fn (0,[])).2=L at F K|-;rw[<-K,cB,cG F];exact fA F);have t0:eW W (0,x,0):=⟨cap.1,rfl⟩
 obtain⟨f,cf,h6,_,c6,_⟩:=h.eA t6 (h.ij _ t6 dC) dC;obtain⟨c,M,h2,_,c2,_⟩:=h.eA t2 (h.ij _ t2 dC) dC;obtain⟨q,O,h0,_,c0,f0,_⟩:=h.eA t0 cap.2 dC;have J:(R (3,W.db.fn,0)).n=(W.funcs.getD W.db.fn (0,[])).2.length:=h.ij _ I dC;obtain⟨t,c3,h3,_⟩:=h.eH.uE I (by rw[J];omega);have d3:(R (3,W.db.fn,0)).cs=(W.funcs.getD W.db.fn (0,[])).2.flatMap λy=>[ptr (hd R (0,y,0))]:=h.cells _ I (λe=>by simp at e);refine⟨cap.1,cap.2,f,c,t,cf,M,q,c3,h6,h2,by rw[<-J];exact h3,?_,?_,?_,⟨O,h0⟩,c0,f0⟩
 .refine c6 0 _ ?_;show some (ptr (hd R (2,(W.fr W.cQ m).fn,0)))=_;rw[ft,show hd R (2,W.db.fn,0)=_ from h2];rfl
 .refine c2 4 _ ?_;show(H.pc (W.funcs.getD W.db.fn (0,[])).1++[hd R (3,W.db.fn,0)])[4]?=_;rw[fB (by rw[E];omega),E,show hd R (3,W.db.fn,0)=_ from h3,J];rfl
 .refine h.eH.cell I h3 (by rw[J];show a<_*1;omega) ?_;have f1:=kh (c:=1) (f:=λy=>[ptr (hd R (0,y,0))]) (λ_=>rfl) 0 (W.funcs.getD W.db.fn (0,[])).2 a 0 F cM;rw[jV,eD]at f1;rw[d3,f1,K,show hd R (0,x,0)=_ from h0];rfl
def NP(h:Cu cJ W G R H m w)(I:∀q,(H.pc q).length=4)(J:W.db.fn<W.funcs.length)(ha:a<(W.funcs.getD W.db.fn (0,[])).2.length)(hs:(W.funcs.getD W.db.fn (0,[])).2.length<=1000)(hx:(W.funcs.getD W.db.fn (0,[])).2.getD a 0=x):
  zC 110 #[mv,ptr (hd R (6,W.cQ,m)),.agg (zW op (a:Int) b)] w (To cJ W G R H m w (W.ee [W.vars.getD x v0])):=by
 obtain⟨_,_,f,c,tb,cf,_,q,cq,h6,_,_,c0,O,ca,_,F,_⟩:=h.im.oo h.cQ h.len h.gd I J ha hx;have hf:ptr (hd R (6,W.cQ,m))=zP f:=by rw[h6];rfl
 obtain⟨y,hy⟩:=eX (W.vars.getD x v0);obtain⟨t,K⟩:=eX (dV (hd R) y);obtain⟨nu,L⟩:∃n,n=(W.funcs.getD W.db.fn (0,[])).2.length:=⟨_,rfl⟩
 have M:=cO (λX (hX:zB w X)=>(h.below hX).push y);rw[<-hy]at F|-;rw[hf]at M|-;unfold jX vq at M;rw[<-K]at M;rw[<-L]at O ha hs;have aa:(a:Int)<(nu:Int):=cM;have y0:=F 0 (zI y.k) rfl;have y1:=F 1 (zI (hC G y)) rfl;have y2:=F 2 (.string ⟨y.s.toArray⟩) rfl;have y3:=F 3 t (by rw[K];rfl);clear h hf hy K L F hx h6 I J;go_enter func110,ntmps110;go_wp2;refine dx λw1 E=>?_;have D:Hid (zB w w1):=E▸ba;have L1:Hid (Lc (λ_=>False) w1 w.heap.size (zW op (a:Int) b) 105):=E▸Lc.new w (λ_ h=>h.elim) _ _;clear E;replace c0:=di c0 D;replace O:=di O D;replace ca:=di ca D;replace y0:=di y0 D;replace y1:=di y1 D;replace y2:=di y2 D;replace y3:=di y3 D;have x1:=L1.cell (j:=1) rfl;refine uZ 15 ?_;simp only[List.take,List.drop];repeat(go_big_quiet_step(fail))
 refine wpQuiet_nil ?_;go_wp2_with(go_at_call 159;refine cA (M _ D.drew) ?_;rintro e w7 ⟨⟨x,rfl⟩,R7,u7,i7,d7,k7⟩;have I7:=cO i7;have D7:=cO d7;have K7:=cO ((Kp.cY D.drew).trans k7);clear i7 d7 k7)
 go_returns;exact⟨⟨_,rfl⟩,R7,I7,λt _ K=>by rw[D7,dL (λe=>K (by rw[e]))],K7⟩
def Tc(f c t q n h a k:Nat)(X:World):Prop:=X.cell? ⟨f,0,none⟩=some (.pointer (some ⟨c,0,none⟩))/\X.cell? ⟨c,4,none⟩=some (.slice (some ⟨t,0,none⟩) n h)/\X.cell? ⟨t,a,none⟩=some (.pointer (some ⟨q,0,none⟩))/\X.cell? ⟨k,1,none⟩=some (.int .i64 (a:Int))
def EY(h:Cu cJ W G R H m w)(J:∀q,(H.pc q).length=4)(K:W.db.fn<W.funcs.length)(ha:a<(W.funcs.getD W.db.fn (0,[])).2.length)(hs:(W.funcs.getD W.db.fn (0,[])).2.length<=1000)(hx:(W.funcs.getD W.db.fn (0,[])).2.getD a 0=x)(h0:0<W.db.ops.length)(hv:v=W.db.ops.getD (W.db.ops.length-1) v0):
  zC 111 #[mv,im.ptr (hd R (6,W.cQ,m)),.agg (zW op (a:Int) b)] w (To cJ W G R H m w {W.dZ 1 with vars:=(W.dZ 1).vars.set x v}):=by
 obtain⟨af,_,f,c,tb,cf,cc,q,cq,h6,h2,h3,c0,D,ca,⟨cx,hq⟩,_⟩:=h.im.oo h.cQ h.len h.gd J K ha hx;have hf:im.ptr (hd R (6,W.cQ,m))=zP f:=by rw[h6];rfl
 obtain⟨t,ht⟩:=eX (dV (hd R) v);have L:=cO af;have lt:=(kT h.cQ (by rw[h.len];omega) 1).2.2.2;have UP:Hid (∀E X,Cu cJ (W.dZ 1) G E H m X->(∀t,t.1≠8->hd E t=hd R t)->zE X w.heap.size 1 (zI (a:Int))->Tc f c tb q (W.funcs.getD W.db.fn (0,[])).2.length cq a w.heap.size X/\(E (0,x,0)).n=1/\(E (0,x,0)).v=zS q 1 cx):=by
  intro E X D I hk;have fe:(W.dZ 1).db.fn=W.db.fn:=by rw[lt]
  have ff:(W.dZ 1).funcs=W.funcs:=rfl;obtain⟨_,n1,f',c',aj,ak,al,q',am,ag,aa,ab,ah,ac,ai,⟨an,ad⟩,_⟩:=D.im.oo (x:=x) D.cQ D.len D.gd J (fe▸K) (fe▸ha) (fe▸hx);rw[fe]at aa ab;rw[fe,ff]at ac;have k6:hd E (6,(W.dZ 1).cQ,m)=hd R (6,W.cQ,m):=I (6,W.cQ,m) dC;have k2:=I (2,W.db.fn,0) dC;have k3:=I (3,W.db.fn,0) dC;have k0:(E (0,x,0)).v=(R (0,x,0)).v:=I (0,x,0) dC;rw[ag,h6]at k6;rw[aa,h2]at k2;rw[ab,h3]at k3;rw[ad,hq]at k0;cases k6;cases k2;cases k3;cases k0;exact⟨⟨ah,ac,ai,hk⟩,n1,ad⟩
 have PO:=cO (λX (hX:zB w X)=>(h.below hX).fU h0 hv);have HT:=cO ht;have LT:=cO (λk (hk:eY W G R k)=>eY.lt h.im hk);have st:=(gm (hd R) v).store;rw[hf]at PO|-;unfold jX vq at PO;rw[<-ht]at PO st;obtain⟨nu,ae⟩:∃n,n=(W.funcs.getD W.db.fn (0,[])).2.length:=⟨_,rfl⟩
 rw[<-ae]at D ha hs UP;have ap:(a:Int)<(nu:Int):=cM;clear h hf ht ae hx h6 h2 h3 J K lt hq h0 hv;go_enter func111,ntmps111;go_wp2;refine dx λw1 M=>?_;have B1:Hid (zB w w1):=M▸ba;have L1:Hid (Lc (eY W G R) w1 w.heap.size (zW op (a:Int) b) 105):=M▸Lc.new w LT _ _;clear M;obtain⟨S,O⟩:=eX (Tc f c tb q nu cq a w.heap.size);have S1:Hid (S w1):=O▸⟨di c0 B1,di D B1,di ca B1,L1.cell (j:=1) rfl⟩;have y0:=λx:Wd S=>(O▸x.ok:Tc f c tb q nu cq a w.heap.size x.w).1;have y1:=λx:Wd S=>(O▸x.ok:Tc f c tb q nu cq a w.heap.size x.w).2.1;have y2:=λx:Wd S=>(O▸x.ok:Tc f c tb q nu cq a w.heap.size x.w).2.2.1;have y3:=λx:Wd S=>(O▸x.ok:Tc f c tb q nu cq a w.heap.size x.w).2.2.2;have HS:=cO O;clear O c0 D ca;haveI:Nonempty (Wd S):=⟨⟨w1,S1⟩⟩
 refine uq S 12 1 (by have:=S1;rw[HS]at this|-;exact this) ?_;simp only[List.take,List.drop];repeat(go_big_quiet_step(fail))
 refine wpQuiet_nil ?_;refine dI ?_;clear y0 y1 y2 y3;go_wp2_with(go_at_call 161;refine cA (PO _ B1.drew) ?_;rintro e w4 ⟨rfl,E,D,I,k4⟩;have L4:=cO ((L1.drew).kept k4);have U4:=cO (UP E w4 D I (L4.cell (j:=1) rfl));have C4:=cO D;have D4:=cO I;have K4:=cO ((Kp.cY B1.drew).trans k4);clear D I k4)
 refine⟨HS▸U4.1,?_⟩;refine ej ?_;obtain⟨q',_,e9,_,F,fz,_⟩:=C4.im.eA (t:=(0,x,0)) ⟨L,rfl⟩ U4.2.1 dC;rw[U4.2.2]at e9;cases e9;have y0:=F 0 _ rfl;have y1:=F 1 _ rfl;have y2:=F 2 _ rfl;have y3:=F 3 _ rfl;clear F;go_wp2;go_returns;have e4:dV (hd E) v=t:=by rw[HT];unfold dV;rw[D4 (1,_,0) dC,D4 (2,_,0) dC,D4 (4,_,0) dC]
 obtain⟨R5,i5,d5,_⟩:=C4.im.v8 (x:=x) L U4.2.1 U4.2.2 v;rw[e4]at i5;refine⟨⟨_,rfl⟩,R5,i5,λt h0 ht=>d5▸D4 t ht,?_⟩;have fq:eY (W.dZ 1) G E q:=.row (t:=(0,x,0)) ⟨L,rfl⟩ (by unfold hd;rw[U4.2.2];rfl);refine(K4.trans (((Kp.setCell (a:=(zA q 0)) _ fq).trans (Kp.setCell (a:=(zA q 1)) _ fq)).trans ((Kp.setCell (a:=(zA q 2)) _ fq).trans (Kp.setCell (a:=(zA q 3)) _ fq)))).sub λk hk=>.inl ?_;obtain⟨s,hs,e⟩|q:=hk
 .rw[d5]at e;refine .row ?_ e;unfold eW at hs|-;rw[df]at hs;exact hs
 .exact .inr q
def nS(s:eO):eW {W with vars:=W.vars++[v]} s↔eW W s\/s=(0,W.vars.length,0):=by
 obtain⟨s,i,j⟩:=s;obtain _|s:=s
 .show i<(W.vars++[v]).length/\j=0↔(i<W.vars.length/\j=0)\/_;rw[dq];simp only[dt,dG,fS,true_and];omega
 .have:eW {W with vars:=W.vars++[v]} (s+1,i,j)↔eW W (s+1,i,j):=by
   obtain _|_|_|_|_|_|_|_|_|s:=s<;>exact j8
  rw[this];simp
def Sl(W:St):Prop:=∀c j,c<W.cS.length->j<(W.cS.getD c dE).cy.length->∀x∈(W.fr c j).da,x<W.vars.length
def Ei{V:eO->Value}:∀l:List Nat,x ∉ l->(l.flatMap λy=>[ptr (gy V (0,x,0) u (0,y,0))])=l.flatMap λy=>[ptr (V (0,y,0))]:=by
 intro l
 induction l with
 |nil=>intro _;rfl
 |cons y l D=>
  intro h;rw[eE,eE,D (λq=>h (ig _ q)),dL (λq=>h (by cases q;exact fR))]
def qX(h:a<l.length):l.getD a 0∈l:=by rw[cB,cG h];exact fA h
def wx{t:eO}:hd (jG R t r)=gy (hd R) t r.v:=by
 funext s;unfold hd gy;by_cases e:s=t
 .subst e;rw[dD,cR rfl]
 .rw[dh _ _ e,cK e]
def Im.Ii(h:Im cJ W G R H w)(hw:Below w.heap.size w w1)(I:Sl W)(ho:w1.ownsRow cJ 196 4 r.v r.n r.cs)(hb:∀k,r.v.ownBlock=some k->w.heap.size<=k)(hr:(r.n=1/\r.cs=vi G (hd R) v)\/r.n=0/\r.v=mO/\v=v0):
  Im cJ {W with vars:=W.vars++[v]} G (jG R (0,W.vars.length,0) r) H w1:=by
 have h1:=h.below hw;have hh:=wx (R:=R) (r:=r) (t:=(0,W.vars.length,0));have out:∀s,eW W s->s≠(0,W.vars.length,0):=by intro s D e;subst e;exact gE _ D.1
 have lt:∀s,eW W s->∀k,(R s).v.ownBlock=some k->k<w.heap.size:=λs D k hk=>((h.eH.own s D).lt k hk).2;have get:∀i,i≠W.vars.length->(W.vars++[v]).getD i v0=W.vars.getD i v0:=by
  intro i J;rw[cB,cB];obtain q|q:=xj i W.vars.length
  .rw[fH q]
  .rw[fB q,dO iY,dO q]
 have K:(W.vars++[v]).getD W.vars.length v0=v:=by rw[cB,fB (cE _),qv];rfl
 have L:∀u,vi G (gy (hd R) (0,W.vars.length,0) u)=vi G (hd R):=λu=>nJ dC u;refine⟨?_,λs D E=>?_,λy F=>?_,λs D E=>?_,λi J=>?_,h.wj,λi J y F=>?_,?_⟩
 .exact(h1.eH.add (t:=(0,W.vars.length,0)) (r:=r) ho λk hk u hu _ q=>by have:=lt u hu k q;have:=hb k hk;omega).sub λs D=>(nS s).1 D
 .obtain q|q:=(nS s).1 D
  .rw[dh _ _ (out s q)];have:=h.ij s q E;obtain⟨s,i,j⟩:=s;obtain _|_|_|_|_|_|_|_|_|s:=s<;>exact this
  .exact absurd (by rw[q]) E
 .by_cases e:y=W.vars.length
  .subst e;rw[dD,K];exact hr.imp And.left id
  .have:y<W.vars.length:=by
    have F:=F;rw[dq]at F;simp at F;omega
   rw[dh _ _ (by simpa using e),get y e];exact h.var y this
 .rw[hh];obtain q|q:=(nS s).1 D
  .have ne:=out s q;rw[dh _ _ ne]at E|-;rw[h.cells s q E];obtain⟨s,i,j⟩:=s;obtain _|_|_|_|_|_|_|_|_|s:=s
   .have hj:j=0:=q.2;show vi G _ _=vi G _ ((W.vars++[v]).getD i v0);rw[L,get i (λe=>ne (by rw[e,hj]))]
   .rfl
   .show _++[_]=_++[gy _ _ _ _];rw[dL dC]
   .exact(Ei _ λe=>gE _ (h.fP i q.1 _ e).1).symm
   .show[_,_]++_++[_,_,_,_]=[_,gy _ _ _ _]++vi G _ _++[_,if _ then _ else ptr (gy _ _ _ _),_,_];rw[L,dL dC,dL dC]
   .show(List.range _).flatMap _=(List.range _).flatMap _;refine ga (λq=>(List.range _).flatMap q) (funext λk=>?_);rw[dL dC];rfl
   .show[_,_,_,_,_]=[ptr (gy _ _ _ _),_,gy _ _ _ _,gy _ _ _ _,_];rw[dL dC,dL dC,dL dC];rfl
   .exact(Ei _ λe=>gE _ (I i j q.1 q.2.1 _ e)).symm
   .show(W.fr i j).ops.flatMap (vi G (hd R))=(W.fr i j).ops.flatMap (vi G (gy _ _ _));rw[L]
   .show[_,_,_]++_++[_,_,_,_,_,_,_,_,_]=[_,_,_]++_++[ptr (gy _ _ _ _),_,_,_,_,_,_,_,_];rw[dL dC]
  .subst q;rw[dD]at E|-;obtain q|q:=hr
   .rw[q.2];show _=vi G _ ((W.vars++[v]).getD W.vars.length v0);rw[K,L]
   .have:=E rfl;omega
 .obtain⟨⟨es,c,M,q2⟩,O,q4⟩:=h1.pZ i J;have ml:G.map i<w.heap.size:=by
   obtain⟨⟨_,_,q,_⟩,_⟩:=h.pZ i J;exact(dS.1 q).1
  refine⟨⟨es,c,M,?_⟩,O,λs D=>?_⟩
  .rw[q2,hh];unfold rB;rw[L]
  .obtain q|q:=(nS s).1 D
   .rw[dh _ _ (out s q)];exact q4 s q
   .subst q;rw[dD];intro e;have:=hb _ e;omega
 .have:=h.fP i J y F;refine⟨?_,?_⟩
  .show y<(W.vars++[v]).length;rw[dq];omega
  .rw[dh _ _ (by have:=this.1;simp;omega)];exact this.2
 .intro c j a1 c' j2 a2 M q2 O q4 q5 q6 q7;rw[dh _ _ (by
   have:=I c j M O _ (qX q5);have e:({W with vars:=W.vars++[v]}:St).fr c j=W.fr c j:=rfl;rw[e];simp only[ne_eq,fS,true_and,and_true];omega)]
  exact h.lone c j a1 c' j2 a2 M q2 O q4 q5 q6 q7
def Im.Cd(h:Im cJ W G R H w)(I:W.cQ<W.cS.length)(hm:W.co.cy.length=m+1)(hg:W.db.guard=false)(ha:a<W.db.da.length){b:Nat}(h7:(R (7,W.cQ,m)).v=.slice (some ⟨b,0,none⟩) W.db.da.length cap)(hx:(R (0,x,0)).n=1):
  ∃R',Im cJ (W.dN {W.db with da:=W.db.da.set a x}) G R' H (w.setCell ⟨b,a,none⟩ (ptr (hd R (0,x,0))))/\hd R'=hd R/\∀s,(R' s).n=(R s).n:=by
 have e1:W.co.cy.length-1=m:=cM;have hl:0<W.co.cy.length:=cM;have L:W.fr W.cQ m=W.db:=by rw[<-e1];rfl
 have t7:eW W (7,W.cQ,m):=⟨I,by show m<W.co.cy.length;omega,L▸hg⟩
 have n7:(R (7,W.cQ,m)).n=W.db.da.length:=by rw[<-L];exact h.ij _ t7 dC
 have c7:(R (7,W.cQ,m)).cs=W.db.da.flatMap λy=>[ptr (hd R (0,y,0))]:=by rw[<-L];exact h.cells _ t7 (λe=>by simp at e)
 have st:=h.eH.store t7 (n7▸h7) a (ptr (hd R (0,x,0)));generalize hf:({W.db with da:=W.db.da.set a x}:Fr)=f;have fg:f.guard=W.db.guard:=by rw[<-hf]
 have fs:f.da=W.db.da.set a x:=by rw[<-hf]
 have fo:f.ops=W.db.ops:=by rw[<-hf]
 have J:(W.dN f).fr W.cQ m=f:=by rw[<-e1];exact iB I hl f
 have M:∀c j,¬(c=W.cQ/\j=m)->(W.dN f).fr c j=W.fr c j:=λc j q=>gO I f (e1▸q);have E:=λs=>kV (f:=f) I hl fg s;generalize F:jG R (7,W.cQ,m) ⟨(R (7,W.cQ,m)).v,(R (7,W.cQ,m)).n,(R (7,W.cQ,m)).cs.set a (ptr (hd R (0,x,0)))⟩=R' at st;have hh:hd R'=hd R:=by rw[<-F];exact Nr rfl
 have D:∀s,(R' s).n=(R s).n:=by
  intro s;rw[<-F];by_cases e:s=(7,W.cQ,m)
  .subst e;rw[dD]
  .rw[dh _ _ e]
 have O:∀s,(R' s).v=(R s).v:=λs=>qt hh s;have sl:∀c j k,((W.dN f).fr c j).da.length=(W.fr c j).da.length/\(((W.dN f).fr c j).da.getD k 0=(W.fr c j).da.getD k 0\/((W.dN f).fr c j).da.getD k 0=x):=by
  intro c j k;by_cases e:c=W.cQ/\j=m
  .obtain⟨rfl,rfl⟩:=e;rw[J,L,fs,df];refine⟨rfl,?_⟩;by_cases e:k=a
   .subst e;exact .inr (ez _ _ _ _ ha)
   .exact .inl (dR _ _ _ _ _ (λq=>e q.symm))
  .rw[M c j e];exact⟨rfl,.inl rfl⟩
 refine⟨R',⟨st.sub λs K=>(E s).1 K,λs K h0=>?_,λy hy=>?_,λs K h0=>?_,λi hi=>?_,h.wj,λi hi y hy=>?_,?_⟩,hh,D⟩
 .rw[D,h.ij s ((E s).1 K) h0];unfold sP;split
  .rfl
  .exact(gP I f _).symm
  .exact(sl _ _ 0).1.symm
  .by_cases e:s.2.1=W.cQ/\s.2.2=m
   .rw[e.1,e.2,J,L,fo]
   .rw[M _ _ e]
  .rfl
 .rw[D,O];exact h.var y hy
 .rw[D]at h0;rw[hh];by_cases e:s=(7,W.cQ,m)
  .subst e;rw[<-F,dD];show(R (7,W.cQ,m)).cs.set a _=((W.dN f).fr W.cQ m).da.flatMap λy=>[ptr (hd R (0,y,0))]
   rw[c7,J,fs];refine vK (c:=1) (f:=λy=>[ptr (hd R (0,y,0))]) (λ_=>rfl) W.db.da a x 0 _ ?_ (λr hr=>?_) λk hk=>?_
   .rw[df,kH (c:=1) (λ_=>rfl)]
   .obtain rfl:r=0:=cM;rw[jV,eD,dP (by rw[kH (c:=1) (λ_=>rfl)];omega)];rfl
   .have aa:k≠a:=by rw[Nat.div_one]at hk;exact hk
    rw[dm (λq=>aa q.symm)]
  .rw[<-F,dh _ _ e,h.cells s ((E s).1 K) h0];refine(rY I hl fg (hd R) (λ_=>by rw[<-hf];exact⟨rfl,rfl⟩) (λq=>absurd (by rw[q,e1]) e) (λ_=>fo)).symm
 .obtain⟨⟨es,c,q1,q2⟩,q3,q4⟩:=h.pZ i hi;refine⟨⟨es,c,?_,?_⟩,q3,λs K=>by rw[O];exact q4 s ((E s).1 K)⟩
  .rw[cZ _ (zA b a) _ _ (λe=>q4 _ t7 (by rw[h7,e];rfl))];exact q1
  .rw[q2,hh];rfl
 .rw[D];exact h.fP i hi y hy
 .intro c j a1 c' j2 a2 q1 q2 q3 q4 q5 q6 q7;rw[jO]at q1 q2;rw[gP I]at q3 q4;rw[(sl c j 0).1]at q5;rw[(sl c' j2 0).1]at q6;rw[D];obtain e|e:=(sl c j a1).2
  .obtain e'|e':=(sl c' j2 a2).2
   .rw[e]at q7|-;exact h.lone c j a1 c' j2 a2 q1 q2 q3 q4 q5 q6 (q7.trans e')
   .rw[q7,e'];exact .inr hx
  .rw[e];exact .inr hx
end
end im
end Go.Proofs.YtfpkdfeakanlpaaGreatDoor
