import Derived.Deep.AppendLies
import Derived.Lib.ItoaLen
import Derived.Lib.ConvBytes
import Derived.Lib.SliceRun
import Derived.Test.YtfpkdfeakanlpaaGreatDoorMRnWalkF
set_option linter.all false
set_option maxRecDepth 100000
set_option maxHeartbeats 8000000
namespace Go.Proofs.YtfpkdfeakanlpaaGreatDoor
open Go.Proofs.Tryz
namespace fmt
open RowKit bts
variable{a x:Int}
def ib(l:List UInt8):List Int:=l.map λb=>(b.toNat:Int)
def mR(l:List UInt8):(ib l).length=l.length:=by simp[ib]
def KU(l:List UInt8):jh (ib l)=Lib.byteCells l:=by simp[jh,ib,Lib.byteCells]
def tY(xs h:List Int):jh (xs++h)=jh xs++jh h:=by simp[jh]
def dd(x:Int):List Int:=ib (Lib.decDigits x.toNat)
def zh(D:0<=x)(h:x<10):dd x=[48+x]:=by obtain⟨k,rfl⟩:=SO D;unfold dd;rw[fh,Lib.decDigits_one cM];simp[ib];omega
def Jg(h:10<=x):dd x=dd (x / 10)++[48+x % 10]:=by obtain⟨k,rfl⟩:=SO (show 0<=x by omega);unfold dd;rw[fh,Lib.decDigits,dif_neg cM];have e:((k:Int) / 10).toNat=k / 10:=cM;rw[e];simp[ib];omega
def NR(x:Int)(h:x<=18446744073709551615):(dd x).length<=20:=by unfold dd;rw[mR,Lib.decDigits_length];exact Lib.nDigits_le20 _ cM
def zg:∀(k:Nat)(x:Int),x.toNat<=k->0<=x->x<=18446744073709551615->∀w:World,
  Calls Tryz.prog 180 #[.int .u64 x] w λe w'=>∃g cap,e=.returned (.slice (some ⟨g,0,none⟩) (dd x).length cap) /\
   w'.ownsRow w.heap.size 5 1 (.slice (some ⟨g,0,none⟩) (dd x).length cap) (dd x).length (jh (dd x))/\Below w.heap.size w w':=by
 intro k
 induction k with
 |zero=>
  intro x I h0 K w;have L:x=0:=cM;subst L;rw[zh cM cM];clear I K;go_enter Tq,Ra;go_wp2;go_ret;exact⟨_,_,rfl,jt (e:=5) (size:=1) w #[.int .u8 (48+0)] 1 (cE _) (by unfold maxLen;omega) rfl,ba⟩
 |succ k M=>
  intro x I h0 K w;by_cases L:x<10
  .rw[zh h0 L];clear I K M;go_enter Tq,Ra;go_wp2;go_ret;exact⟨_,_,rfl,jt (e:=5) (size:=1) w #[.int .u8 (48+x)] 1 (cE _) (by unfold maxLen;omega) rfl,ba⟩
  .have C:=M (x / 10) cM cM cM w;have hL:=NR (x / 10) cM;have hS:=Jg (x:=x) cM;obtain⟨n,O⟩:=eX ((dd (x / 10)).length);rw[<-O]at C hL;have hN:(dd x).length=n+1:=by rw[hS,dq,<-O];rfl
   obtain⟨i0,hi,aa,ab,ac⟩:=fQ CX;rw[hN];have ae:0<=x % 10:=cM;have af:x % 10<10:=cM;clear I M O hN;go_enter Tq,Ra;go_wp2_with fail;refine C.mono ?_;rintro e w1 ⟨g,cap,rfl,D,h⟩;have ad:=(D.lt g rfl).1;have ag:=h.size;clear C;go_wp2_with(at_builtin;refine wpList_append_lies _ rfl _ _ _ rfl w.heap.size 5 i0 (.int .u8 0) 1 1 ie hi aa ab ac rfl cM _ n (jh (dd (x / 10))) rfl (D.alloc _) (zA w1.heap.size 0) 1 1 [.int .u8 (48+x % 10)] rfl rfl (World.news_of_block (cs:=#[.int .u8 (48+x % 10)]) (t:=5) (fr:=(0,0)) (dJ w1 _)) OJ cM (by unfold maxLen;omega) cM iY (w1.heap.size+1) dC ?_;intro g' J w2 E F ah ai)
   go_ret;refine⟨g',J,rfl,?_,(h.alloc h.size _).grown F iY (by intro k I;cases I;exact ad)⟩;rw[hS,tY];exact E
def fi(a:Int):List Int:=ib (Lib.itoa a)
def NC(h:0<=a):fi a=dd a:=by unfold fi dd Lib.itoa;rw[cK cM]
def ND(h:a<0):fi a=45::dd (-a):=by unfold fi dd Lib.itoa;rw[cR h,show a.natAbs=(-a).toNat by omega];rfl
def vW(a:Int)(n:Nat)(w:World)(x:Ending)(w':World):Prop:=Below w.heap.size w w' /\
 ∃h c,x=.returned (.slice h n c)/\w'.ownsRow w.heap.size 5 1 (.slice h n c) n (jh (fi a))
def Px(a:Int)(D:-9223372036854775808<=a)(h:a<0):IntKind.u64.wrap (-(IntKind.u64.wrap a))=-a:=by rw[v7,v7];omega
def Po(a:Int)(D:0<=a)(h:a<=9223372036854775807):IntKind.u64.wrap a=a:=by rw[v7];omega
def D8(a:Int)(E:0<=a)(F:a<=9223372036854775807)(w:World):Calls Tryz.prog 150 #[.int .i64 a] w (vW a (fi a).length w):=by have C:=zg a.toNat a (cE _) E cM w;rw[<-NC E]at C;have I:=Po a E F;clear F;go_enter func150,ntmps150;go_wp2_with fail;refine C.mono ?_;rintro e J ⟨g,cap,rfl,h,D⟩;clear C;go_wp2;go_ret;exact⟨D,_,_,rfl,h⟩
def D9(a:Int)(h0:-9223372036854775808<=a)(h:a<0)(w:World):Calls Tryz.prog 150 #[.int .i64 a] w (vW a (fi a).length w):=by
 have C:=zg (-a).toNat (-a) (cE _) cM cM (w.alloc (.cells #[.int .u8 45] 5));have hL:=NR (-a) cM;have hu:=Px a h0 h;have HS:=cO (ND h);obtain⟨n,O⟩:=eX ((dd (-a)).length);rw[<-O]at C hL;have hN:(fi a).length=1+n:=by rw[HS,dt,<-O];omega
 have HN:=cO O.symm;have aa:0<n:=by rw[O];unfold dd;rw[mR,Lib.decDigits_length];unfold Lib.nDigits;split<;>omega
 rw[hN];obtain⟨i0,hi,ab,ac,ad⟩:=fQ CX;have F:(w.alloc (.cells #[.int .u8 45] 5)).ownsRow w.heap.size 5 1 (zS w.heap.size 1 1) 1 (jh [45]):=
  jt (e:=5) (size:=1) w #[.int .u8 45] 1 (cE _) (by unfold maxLen;omega) rfl
 clear h0 O hN;go_enter func150,ntmps150;go_wp2_with fail;refine C.mono ?_;rintro e w1 ⟨g,cap,rfl,E,D⟩;clear C;have I:(w.alloc (.cells #[.int .u8 45] 5)).heap.size=w.heap.size+1:=dC;rw[I]at D E;have af:w.heap.size+1<=w1.heap.size:=by have:=D.size;rwa[I]at this
 have J:=km F D cM;have HB:=cO ((ba).trans (D.mono cM));have K:=E.cells (g:=g) rfl;clear I D E;go_wp2_with(at_builtin;refine wpList_append_lies _ rfl _ _ _ rfl w.heap.size 5 i0 (.int .u8 0) 1 1 ie hi ab ac ad rfl cM _ 1 (jh [45]) rfl J (zA g 0) n cap (jh (dd (-a))) rfl (by rw[qN,HN];omega) K (by intro u hu;simp only[jh,jj]at hu;obtain⟨z,_,rfl⟩:=hu;rfl) aa (by unfold maxLen;omega) cM cM w1.heap.size rfl ?_;intro g' ae w2 L M ag ah)
 go_ret;refine⟨HB.grown M cM (by intro k hk;cases hk;exact cE _),_,_,rfl,?_⟩;rw[HS,show(45::dd (-a):List Int)=[45]++dd (-a)from rfl,tY];exact L
def Ea(v:Int)(D:-9223372036854775808<=v)(E:v<=9223372036854775807)(w:World):Calls Tryz.prog 150 #[.int .i64 v] w (vW v (fi v).length w):=by
 by_cases h:0<=v
 .exact D8 v h E w
 .exact D9 v D cM w
end fmt
namespace rn
open RowKit bts pg fmt
variable{rz rz':Bool×Vl}{f:Fr}{H H':Hd}{cJ c g n:Nat}{S:Nat->Prop}{ao:Option Addr}{V W:St}{R R':eO→fW}{w w1:World}
def Mu{B:Nat}{av:Option Addr}{zs:List Int}(h:w.ownsRow B 5 1 (.slice av n c) n (jh zs)):Rd w av zs:=by
 have D:=h.1;rw[qN]at D;obtain⟨e,I⟩|⟨g,cap,E,e,_⟩:=h.2
 .have:zs=[]:=eJ.1 cM;subst this;intro i F;simp at F
 .simp only[de]at e;obtain⟨rfl,-,rfl⟩:=e;exact Rd.T9 h cM
def Ss{x:Int}(h:0<=x):0<(dd x).length:=by
 by_cases D:x<10
 .rw[zh h D];simp
 .rw[Jg cM];simp
def yW(v:Int):0<(fi v).length:=by
 by_cases h:0<=v
 .rw[NC h];exact Ss h
 .rw[ND cM];simp
def Bp{l:List UInt8}(h:Rd w ao (ib l))(F:0<l.length)(I:n=l.length):
  (convert 29 9 (.slice ao n c)).run Tryz.prog w=.ok (.string ⟨l.toArray⟩) w:=by
 subst I;obtain⟨b,off,rfl,_⟩:=h 0 (by rw[mR];exact F);refine run_convert_bytes_back w _ _ 5 (zA b off) c l ie jJ ji (λj D=>?_);obtain⟨K,E,e,J⟩:=h j (by rw[mR];exact D);cases e;rw[iK,J];simp[ib,D]
def fJ{b D:Nat}{v:Value}{o:Obj}(h:w.cell? ⟨b,D,none⟩=some v):(w.alloc o).cell? ⟨b,D,none⟩=some v:=
 (dK (a:=(zA b D)) (gH w o b (dy w (zA b D) h))).trans h
def Sp.below{R:eO->fW}{E:Bool×Vl}(h:Sp cJ g W R H E w)(D:Below w.heap.size w w1):Sp cJ g W R H E w1:=h.grown ⟨D.os,D.tape,D.output,D.size,λk F _=>D.block k F⟩
def Kp.cY(D:Below w.heap.size w w1):Kp S S w w1:=⟨D.os,D.tape,D.output,D.size,λk E _=>D.block k E,λ_ _ h=>h⟩
def sU{l:List Vl}{cap:Nat}(w:World)(h:Ls S w ao l)(I:n=l.length):
  zC 77 #[.slice ao n cap] w (zR w (vv (first l))):=by
 unfold first vv sv
 by_cases J:n=0
 .obtain rfl:l=[]:=eJ.1 cM;subst J;clear I h;go_enter func77,ntmps77;go_wp2;go_returns;exact⟨rfl,by go_grown⟩
 .obtain⟨b,off,rfl,D,E,F⟩:=h.eA (i:=0) cM;have K:=fJ (o:=.cells (zV 0 0 ⟨#[]⟩) 56) D;rw[gh,eD]at D E F;have k1:=fJ (o:=.cells (zV 0 0 ⟨#[]⟩) 56) D;have k2:=fJ (o:=.cells (zV 0 0 ⟨#[]⟩) 56) E;have L:=fJ (o:=.cells (zV 0 0 ⟨#[]⟩) 56) F;unfold sv at L;generalize(l.getD 0 v0).k=vk at*;generalize(l.getD 0 v0).n=vn at*;generalize(⟨(l.getD 0 v0).s.toArray⟩:ByteArray)=vs at*;have M:(0:Int)<n:=cM;have O:¬((n:Int)=0):=cM;clear h I K D E F;go_enter func77,ntmps77;go_wp2;go_returns;exact⟨rfl,by go_grown⟩
def lP(v:Vl)(w:World):zC 89 #[vv v] w (zR w (.bool (jr v))):=by
 obtain⟨k,n,s⟩:=v;unfold vv jr sv;dsimp only;generalize(⟨s.toArray⟩:ByteArray)=M;by_cases h:k=0
 .subst h;go_enter K0,FT;go_wp2;go_returns;exact⟨rfl,by go_grown⟩
 .have F:(k==0)=false:=by simpa using h
  have E:(k != 0)=true:=by simpa using h
  by_cases D:k=1
  .subst D;clear h F E;by_cases I:n=1
   .subst I;go_enter K0,FT;go_wp2;go_returns;exact⟨rfl,by go_grown⟩
   .have J:(n==1)=false:=by simpa using I
    rw[J];go_enter K0,FT;go_wp2;go_returns;exact⟨rfl,by go_grown⟩
  .have K:(k==1)=false:=by simpa using D
   have L:(k != 1)=true:=by simpa using D
   rw[F,K];clear h D;go_enter K0,FT;go_wp2;go_returns;exact⟨rfl,by go_grown⟩
def J4{k:Int}(h:0<=k)(D:k<=7)(w:World):(w.alloc (.cells #[.string ⟨#[110,105,108]⟩,.string ⟨#[98,111,111,108,101,97,110]⟩,.string ⟨#[110,117,109,98,101,114]⟩,.string ⟨#[115,116,114,105,110,103]⟩,.string ⟨#[116,97,98,108,101]⟩,.string ⟨#[102,117,110,99,116,105,111,110]⟩,.string ⟨#[102,117,110,99,116,105,111,110]⟩,.string ⟨#[99,111,114,111,117,116,105,110,101]⟩] 9)).cell? ⟨w.heap.size,k.toNat,none⟩=some (.string ⟨(nH k).toArray⟩):=by have E:k=0\/k=1\/k=2\/k=3\/k=4\/k=5\/k=6\/k=7:=cM;simp only[World.cell?,dJ];clear h D;obtain rfl|rfl|rfl|rfl|rfl|rfl|rfl|rfl:=E;all_goals rfl
def yK(v:Vl)(h:0<=v.k)(D:v.k<=7)(w:World):zC 80 #[vv v] w (zR w (sv (nH v.k))):=by
 obtain⟨k,n,s⟩:=v;unfold vv sv;dsimp only at*;have E:=J4 h D (w.alloc (.cells #[zI k,zI n,.string ⟨s.toArray⟩] 56));generalize(⟨s.toArray⟩:ByteArray)=F at*;generalize(⟨(nH k).toArray⟩:ByteArray)=I at*;obtain⟨q,rfl⟩:∃q:Nat,k=q:=⟨k.toNat,cM⟩
 rw[fh]at E;rw[dk]at E;have J:q<8:=cM;clear h D;go_enter func80,ntmps80;go_wp2;go_returns;exact⟨rfl,by go_grown⟩
def Fb(n:Int):UN n=Lib.itoa n:=by
 unfold UN Lib.itoa;by_cases h:n<0
 .rw[cR h,cR h,show n.natAbs=(-n).toNat by omega]
 .rw[cK h,cK h]
def om{z:Sz}(v:Vl)(h:gG z v)(w:World):zC 79 #[vv v] w (zR w (sv (jY v))):=by
 have F:=cO (λW=>yK v h.lo h.hi W);unfold jY;by_cases D:v.k=1
 .rw[cR D];clear F h;obtain⟨k,n,s⟩:=v;dsimp only at*;subst D;unfold vv sv;dsimp only;generalize(⟨s.toArray⟩:ByteArray)=I;by_cases M:n=1
  .subst M;rw[cR rfl];go_enter zX,xc;go_wp2;go_returns;exact⟨rfl,by go_grown⟩
  .rw[cK M];go_enter zX,xc;go_wp2;go_returns;exact⟨rfl,by go_grown⟩
 rw[cK D];by_cases E:v.k=2
 .rw[cR E];have J:=h.ij E;have C:=cO (λW=>Ea v.n J.1 J.2 W);clear F h D;obtain⟨k,n,s⟩:=v;dsimp only at*;subst E;unfold vv sv;dsimp only;rw[Fb];generalize(⟨s.toArray⟩:ByteArray)=I;clear J;go_enter zX,xc;go_wp2_with(go_at_call 150;refine(C _).mono ?_;rintro e w1 ⟨K,ao,c,rfl,O⟩;have kv:=Bp (c:=c) (n:=(fi n).length) (l:=Lib.itoa n) (Mu O) (by have:=yW n;rwa[fi,mR]at this) (by rw[fi,mR]);clear O)
  go_returns;exact⟨rfl,(ba).trans (K.mono dC)⟩
 rw[cK E];by_cases L:v.k=3
 .rw[cR L];clear F h D E;obtain⟨k,n,s⟩:=v;dsimp only at*;subst L;unfold vv sv;dsimp only;generalize(⟨s.toArray⟩:ByteArray)=I;go_enter zX,xc;go_wp2;go_returns;exact⟨rfl,by go_grown⟩
 rw[cK L];clear h;unfold vv sv at*;generalize(⟨(nH v.k).toArray⟩:ByteArray)=ks at*;generalize(⟨v.s.toArray⟩:ByteArray)=I at*;generalize v.k=k at*;generalize v.n=n at*;go_enter zX,xc;go_wp2_with(go_at_call 80;refine(F _).mono ?_;rintro e w1 ⟨rfl,K⟩)
 go_returns;exact⟨rfl,(ba).trans (K.mono dC)⟩
def kJ{s:List UInt8}{D:ByteArray}(h:(⟨s.toArray⟩:ByteArray)=D):sv s=.string D:=by unfold sv;rw[h]
def Sp.Ia(h:Sp cJ g W R H rz w)(D:c<W.cS.length):∃E F I,cc (R (6,c,0)).v (W.cS.getD c dE)=[.slice E F I,.int .i64 (W.cS.getD c dE).state,.int .i64 (W.cS.getD c dE).body.k,.int .i64 (W.cS.getD c dE).body.n,sv (W.cS.getD c dE).body.s,.int .i64 (W.cS.getD c dE).gq,.int .i64 (W.cS.getD c dE).want,.int .i64 (W.cS.getD c dE).held]:=by obtain⟨a,J,e⟩:=h.eH.sliced (gz D);exact⟨a,_,J,by unfold cc vc;rw[e];rfl⟩
def Sp.xS(h:Sp cJ g W R H rz w){d dap:Nat}(I:Qy W R d dap)(J:c<W.cS.length){q0 q1 q2 q3 q4 D q6 E:Value}(e:cc (R (6,c,0)).v (W.cS.getD c dE)=[q0,q1,q2,q3,q4,D,q6,E]):
  w.cell? ⟨d,c*8,none⟩=some q0/\w.cell? ⟨d,c*8+1,none⟩=some q1/\w.cell? ⟨d,c*8+2,none⟩=some q2/\w.cell? ⟨d,c*8+3,none⟩=some q3/\w.cell? ⟨d,c*8+4,none⟩=some q4/\w.cell? ⟨d,c*8+5,none⟩=some D/\w.cell? ⟨d,c*8+6,none⟩=some q6/\w.cell? ⟨d,c*8+7,none⟩=some E:=by
 have key:∀r u,[q0,q1,q2,q3,q4,D,q6,E][r]?=some u->zE w d (c*8+r) u:=by intro r u F;rw[<-e]at F;exact h.Ll I J F
 exact⟨key 0 _ rfl,key 1 _ rfl,key 2 _ rfl,key 3 _ rfl,key 4 _ rfl,key 5 _ rfl,key 6 _ rfl,key 7 _ rfl⟩
def vJ(E:∀t,fZ V t↔fZ W t)(F:∀t,(R' t).v=(R t).v):Ft g V R'=Ft g W R:=by
 funext k;refine propext ⟨λh=>?_,λh=>?_⟩
 .exact Ft.same (λt D=>(E t).1 D) (λt _=>F t) h
 .exact Ft.same (λt D=>(E t).2 D) (λt _=>(F t).symm) h
def uy(h:Sp cJ g W R H rz w)(hB:cJ<=w.heap.size)(hn:W.cQ<W.cS.length)(O:W.co.gq<W.cS.length)(s:Int)(b:Bool)(v:Vl)(GV:∀R1 w1 ao cap,Sp cJ g (W.fy s) R1 H rz w1->cJ<=w1.heap.size->Ls (Ft g (W.fy s) R1) w1 ao [bv b,v]->2<=cap->cap<=9223372036854775807->zC 51 #[zP g,.slice ao 2 cap,zI W.co.want] w1 λe w'=>(∃x,e=.returned x) /\
   ∃R',Sp cJ g (gv (W.fy s) [bv b,v] W.co.want) R' H rz w'/\Kp (Ft g (W.fy s) R1) (Ft g (gv (W.fy s) [bv b,v] W.co.want) R') w1 w'):
  zC 82 #[zP g,zI s,zI (if b then 1 else 0),vv v] w λe w'=>(∃x,e=.returned x) /\
   ∃R',Sp cJ g (gv (W.fy s) [bv b,v] W.co.want) R' H rz w'/\Kp (Ft g W R) (Ft g (gv (W.fy s) [bv b,v] W.co.want) R') w w':=by
 obtain⟨d,aE,h4,aF,ap⟩:=h.zH hn;obtain⟨a0,n0,c0,af⟩:=h.Ia hn;have aq:W.cS.getD W.cQ dE=W.co:=rfl;rw[aq]at af;have HE:=cO h;have HF:=cO ap;have aG:Hid (W.co.gq<W.cS.length):=O;have ar:Hid (∀R1 w1 ao cap,Sp cJ g (W.fy s) R1 H rz w1->cJ<=w1.heap.size->Ls (Ft g (W.fy s) R1) w1 ao [bv b,v]->2<=cap->cap<=9223372036854775807->zC 51 #[zP g,.slice ao 2 cap,zI W.co.want] w1 λe w'=>(∃x,e=.returned x) /\
   ∃R',Sp cJ g (gv (W.fy s) [bv b,v] W.co.want) R' H rz w'/\Kp (Ft g (W.fy s) R1) (Ft g (gv (W.fy s) [bv b,v] W.co.want) R') w1 w'):=GV
 obtain⟨st,au⟩:=eX W.co.state;obtain⟨bk,aw⟩:=eX W.co.body.k;obtain⟨bn,ax⟩:=eX W.co.body.n;obtain⟨bs,ay⟩:=eX (⟨W.co.body.s.toArray⟩:ByteArray);obtain⟨D,ag⟩:=eX W.co.gq;obtain⟨wt,aa⟩:=eX W.co.want;obtain⟨hd,az⟩:=eX W.co.held;rw[<-au,<-aw,<-ax,kJ ay.symm,<-ag,<-aa,<-az]at af;have aA:=cO af;have aB:=cO ag;rw[<-aa]at ar;rw[<-ag]at aG O;have aT:=cO aa;rw[<-aa];obtain⟨q,hq⟩:=eX (if b then 1 else 0:Int);have HQ:Hid (bv b=⟨1,q,[]⟩):=by show _=_;unfold bv;rw[hq]
 rw[<-hq];have aU:=h.Dl;clear h ap af aq au aw ax ay ag aa az hq GV;obtain⟨vs,ai⟩:=eX (⟨v.s.toArray⟩:ByteArray);have aH:Hid (vc v=[zI v.k,zI v.n,.string vs]):=by unfold vc;rw[kJ ai.symm];rfl
 unfold vv;rw[kJ ai.symm];clear ai;go_enter func82,ntmps82;go_wp2;refine dx λL ah=>?_;have ab:Sp cJ g W R H rz L:=ah▸HE.alloc _;have K2:zK g W R w L:=ah▸Kp.alloc _;have aI:Lc (Ft g W R) L w.heap.size (zV v.k v.n vs) 56:=by rw[ah];exact Lc.new w (λk hk=>Ft.lt HE hk) _ _
 clear ah;obtain⟨S,E⟩:=eX (fI L none);have y6:=Wd.cn E (ab.c6 h4);have y7:=Wd.cn E ab.c7;obtain⟨t0,t1,t2,t3,t4,t5,t6,t7⟩:=ab.xS h4 hn aA;have z0:=Wd.cn E t0;have z1:=Wd.cn E t1;have z2:=Wd.cn E t2;have z3:=Wd.cn E t3;have z4:=Wd.cn E t4;have z5:=Wd.cn E t5;have z6:=Wd.cn E t6;have z7:=Wd.cn E t7;clear t0 t1 t2 t3 t4 t5 t6 t7;have HS:=cO E;clear E;haveI:=pz HS;refine uq S 10 1 (HS▸(fI.refl _ _).drew) ?_;simp only[List.take,List.drop];repeat(go_big_quiet_step(fail))
 apply wpQuiet_nil;apply dI;go_wp2;refine⟨HS▸(fI.refl _ _).drew.alloc _,?_⟩;apply ej;go_wp2;clear y6 y7 z0 z1 z2 z3 z4 z5 z6 z7;refine dx λw3 ac=>?_;have F:Sp cJ g W R H rz w3:=ac▸(ab.alloc _).drew;have K3:Hid (zK g W R w w3):=ac▸(K2.trans (Kp.alloc _)).drew;have I:Hid (Lc (Ft g W R) w3 L.heap.size #[.slice a0 n0 c0,zI st,zI bk,zI bn,.string bs,zI D,zI wt,zI hd] 61):=by rw[ac];exact(Lc.new L (λk hk=>Ft.lt ab hk) _ _).drew
 have aJ:Hid (Lc (Ft g W R) w3 w.heap.size (zV v.k v.n vs) 56):=by rw[ac];exact(aI.alloc _).drew
 clear ac;have c6:=F.c6 h4;have c7:=F.c7;obtain⟨t0,t1,t2,t3,t4,t5,t6,t7⟩:=F.xS h4 hn aA;have kf:=F.S9 h4 (W.cQ*8+1);have l5:=I.cell (j:=5) rfl;have l6:=I.cell (j:=6) rfl;have f7:=F.free 7;have e1:¬L.heap.size=d:=λe=>I.1 (e▸HF);have e2:¬d=L.heap.size:=λe=>e1 e.symm;have e3:¬L.heap.size=g:=λe=>I.1 (.inl e);have e4:¬g=L.heap.size:=λe=>e3 e.symm;have e5:¬g=d:=λe=>aF e.symm;clear t0 t2 t3 t4 t5 t6 t7;refine uZ 11 ?_;simp only[List.take,List.drop];repeat(go_big_quiet_step(fail))
 refine wpQuiet_nil ?_;go_wp2;clear c6 c7 t1 kf l5 l6 f7 e3 e4;refine dx λM aj=>?_;have HX:Hid (∃R4,Sp cJ g {W.dW W.cQ {W.co with state:=s}with cQ:=D} R4 H rz M/\(∀t,(R4 t).v=(R t).v)):=by obtain⟨R4,aK,J⟩:=F.drew.dW hn (k:={W.co with state:=s}) rfl (j:=1) cM (u:=zI s) (by rfl) h4.cS;refine⟨R4,?_,J⟩;rw[aj];exact aK.cQ D
 have KX:Hid (zK g W R w3 M):=by rw[aj];exact Kp.drew ((Kp.setCell (a:=(zA d (W.cQ*8+1))) _ HF.out).trans (Kp.setCell (a:=(zA g 7)) _ Ft.nj))
 clear aj;obtain⟨R4,K,J⟩:=HX.out;have ak:∀t,fZ {W.dW W.cQ {W.co with state:=s}with cQ:=D} t↔fZ W t:=λt=>rh W hn (k:={W.co with state:=s}) rfl t;have aV:Hid (Ft g {W.dW W.cQ {W.co with state:=s}with cQ:=D} R4=Ft g W R):=vJ ak J;have ad:(W.dW W.cQ {W.co with state:=s}).cS.length=W.cS.length:=by simp[St.dW]
 have ae:Qy {W.dW W.cQ {W.co with state:=s}with cQ:=D} R4 d aE:=⟨by rw[J,h4.cS];show _=Value.slice _ (W.dW W.cQ {W.co with state:=s}).cS.length _;rw[ad]⟩
 have c6:=K.c6 ae;rw[show({W.dW W.cQ {W.co with state:=s}with cQ:=D}:St).cS.length=W.cS.length from ad]at c6;have c7:=K.c7;have k1:=K.Ll ae (c:=D) (r:=1) (by show D<(W.dW W.cQ {W.co with state:=s}).cS.length;rw[ad];exact O) rfl;generalize({W.dW W.cQ {W.co with state:=s}with cQ:=D}:St).cS.getD D dE=cb at k1;have kf:=K.S9 ae (D*8+1);have al:=I.out.kept KX.out;have am:=aJ.out.kept KX.out;have l6:=al.cell (j:=6) rfl;obtain⟨aW,aX,aY⟩:=am.c3;have e7:¬w.heap.size=d:=λe=>am.1 (e▸HF.out);have e8:¬d=w.heap.size:=λe=>e7 e.symm;have e9:¬L.heap.size=M.heap.size:=λe=>by have:=al.lt;omega
 have aZ:¬M.heap.size=L.heap.size:=λe=>e9 e.symm;have aL:=cO K;have aM:=cO ae;have aC:=cO ad;have aN:=cO J;have aO:=cO ak;clear K ae ad J ak al am HX;refine uZ 10 ?_;simp only[List.take,List.drop];repeat(go_big_quiet_step(fail))
 apply wpQuiet_nil;have HY:Hid (∃R5,Sp cJ g (W.fy s) R5 H rz (M.drew.setCell (zA d (D*8+1)) (zI 1))/\∀t,(R5 t).v=(R4 t).v):=by
  have an:D<({W.dW W.cQ {W.co with state:=s}with cQ:=D}:St).cS.length:=by show D<(W.dW W.cQ {W.co with state:=s}).cS.length;rw[aC];exact O
  have:=aL.drew.dW an (k:={({W.dW W.cQ {W.co with state:=s}with cQ:=D}:St).cS.getD D dE with state:=1}) rfl (j:=1) cM (u:=zI 1) (by rfl) (aM.cS);rw[show W.fy s=({W.dW W.cQ {W.co with state:=s}with cQ:=D}:St).dW D {({W.dW W.cQ {W.co with state:=s}with cQ:=D}:St).cS.getD D dE with state:=1} by rw[aB];rfl];exact this
 have KY:Hid (zK g W R w3 (M.setCell (zA d (D*8+1)) (zI 1))):=KX.trans (Kp.setCell (a:=(zA d (D*8+1))) _ HF);have a1:=fJ (o:=.cells #[zI 1,zI q,zT,zI v.k,zI v.n,.string vs] 56) ((I.kept KY).cell (j:=6) rfl);have aP:Hid (∀S:Nat->Prop,(∀k,S k->k<M.heap.size)->Ls S ((M.setCell (zA d (D*8+1)) (zI 1)).alloc (.cells #[zI 1,zI q,zT,zI v.k,zI v.n,.string vs] 56)) (some (zA M.heap.size 0)) [bv b,v]):=by intro S E;have hz:(M.setCell (zA d (D*8+1)) (zI 1)).heap.size=M.heap.size:=QB;have:=Ls.lit (w:=M.setCell (zA d (D*8+1)) (zI 1)) (S:=S) (l:=[bv b,v]) (cs:=#[zI 1,zI q,zT,zI v.k,zI v.n,.string vs]) (ty:=56) (hz▸E) (by rw[eE,eE,oD,kS,HQ,aH];rfl);rwa[hz]at this
 clear l6;go_wp2_with fail;obtain⟨R5,aD,aQ⟩:=HY;have aR:∀t,fZ (W.fy s) t↔fZ W t:=λt=>by
  have an:D<({W.dW W.cQ {W.co with state:=s}with cQ:=D}:St).cS.length:=by show D<(W.dW W.cQ {W.co with state:=s}).cS.length;rw[aC];exact O
  rw[show W.fy s=({W.dW W.cQ {W.co with state:=s}with cQ:=D}:St).dW D {({W.dW W.cQ {W.co with state:=s}with cQ:=D}:St).cS.getD D dE with state:=1} by rw[aB];rfl];rw[rh _ an (by rfl),aO]
 have aS:Ft g (W.fy s) R5=Ft g W R:=vJ aR (λt=>(aQ t).trans (aN t));refine cA (ar R5 _ _ _ (aD.alloc _) ?_ ((aP _ ?_).drew) (cE _) cM) ?_
 .have:=K3.size;have:=KX.size;simp[World.setCell];omega
 .intro k hk;have:=Ft.lt aD hk;simpa[World.setCell]using this
 .rintro e w' ⟨⟨x,rfl⟩,R6,h6,h7⟩;rw[aS]at h7;go_wp2;go_returns;refine⟨⟨_,rfl⟩,R6,h6,?_⟩;exact K3.trans ((KY.trans (Kp.alloc _)).drew.trans h7)
end rn
namespace rn
open RowKit bts pg chk
variable{rz rz':Bool×Vl}{f:Fr}{H H':Hd}{cW:Int}{cJ cap g n:Nat}{Hs:Nat→List Int}{ao:Option Addr}{p:Pg}{V W:St}{R R':eO→fW}{w w1:World}
def pM.UK(E:mz p Hs){z:Sz}(h:pM p Hs z f cW)(J:f.guard=false)(O:0<=cW):(f.ops.length:Int)+cW<=100000:=by
 have D:=h.eR J;have K:=h.eA J;have L:=h.Kg J;obtain⟨es,F,_⟩:=(E.PT _ D).2.2 _ K (by rw[L];omega);rw[L]at F;unfold qq at F;have X:=QC ((E.jZ.2 _ D).1 _ K);generalize(p.cU.getD f.eR gu).dw.getD f.eA jI=x at X F;by_cases c:(f.ops.length:Int)+cW-jq x<0\/300<(f.ops.length:Int)+cW-jq x+qK x
 .rw[cR c]at F;cases F
 have h1:0<=qK x:=by
  unfold qK;split
  .exact(jy X.b).1
  .unfold lv;exact nW (P:=λz:Int=>0<=z) iM iM
 have h2:jq x<=1000:=by
  have ht:tk x.op.toNat<=3:=by unfold tk;exact nW (P:=λz:Int=>z<=3) iM iM
  unfold jq;split
  .rename_i I;have M:=(jy X.a).2.2;have:sg x.op.toNat=8:=by
    obtain I|I|I:=I<;>rw[I]<;>rfl
   rw[this]at M;have:x.a<51:=M;omega
  .omega
 omega
def Ev(h:W.cQ<W.cS.length)(F:0<W.co.cy.length):W.ee []=W:=by
 unfold St.ee;rw[kS];show W.du (W.co.cy.set (W.co.cy.length-1) W.db)=W;have D:W.co.cy.set (W.co.cy.length-1) W.db=W.co.cy:=by
  apply iE;intro i;by_cases e:W.co.cy.length-1=i
  .subst e;rw[dP cM];unfold St.db;rw[cB,cG cM];rfl
  .rw[dm e]
 rw[D];show({W with cS:=W.cS.set W.cQ W.co}:St)=W;have E:W.cS.set W.cQ W.co=W.cS:=by
  apply iE;intro i;by_cases e:W.cQ=i
  .subst e;rw[dP h];unfold St.co;rw[cB,cG h];rfl
  .rw[dm e]
 rw[E]
def A5(D:W.cQ<W.cS.length)(E:0<W.co.cy.length)(xs h:List Vl):(W.ee xs).ee h=W.ee (xs++h):=by have e:(W.ee xs).db={W.db with ops:=W.db.ops++xs}:=jf D E _;show(W.ee xs).dN {(W.ee xs).db with ops:=(W.ee xs).db.ops++h}=_;rw[e];unfold St.ee;rw[oR D,jQ]
def Kk(h:Sp cJ g W R H rz w)(I:W.cQ<W.cS.length)(K:W.co.cy.length=0)(J:W.cQ=0)(l:List Vl)(cW:Int):
  zC 51 #[zP g,.slice ao n cap,zI cW] w λe M=>(∃x,e=.returned x)/\∃R',Sp cJ g (gv W l cW) R' H rz M/\zL g W R (gv W l cW) R' w M:=by
 obtain⟨d,aa,O,ab,F⟩:=h.zH I;obtain⟨a0,c0,E⟩:=h.eH.sliced (gz I);have n6:=h.ij _ (gz I);rw[n6]at E;have D:=cO h;have HF:=cO F;have L:=cO E;have ac:=h.Dl;have c6:=D.c6 O;have c7:=D.c7;have k0:zE w d (W.cQ*8) (.slice a0 W.co.cy.length c0):=by have:=D.Ll O I (r:=0) rfl;rwa[L]at this
 rw[K]at k0;rw[J,gh]at k0;rw[J]at c7;rw[xK K J];have c8:=D.eA (j:=8) rfl;have c9:=D.eA (j:=9) rfl;have f8:=D.free 8;have f9:=D.free 9;have ad:(0:Int)<W.cS.length:=cM;clear h F E n6 K J;go_enter Lb,FY;go_wp2;go_quiet (fail);go_wp2;go_returns;refine⟨⟨_,rfl⟩,R,((D.oz true).dw 0).drewN _,?_⟩;exact((Kp.setCell (a:=(zA g 8)) _ Ft.nj).trans (Kp.setCell (a:=(zA g 9)) _ Ft.nj)).drewN _
def Hr(h:Sp cJ g W R H rz w)(hB:cJ<=w.heap.size)(I:Iv p Hs W cW)(M:W.co.cy.length=0)(O:W.cQ≠0){l:List Vl}(hL:Ls (Ft g W R) w ao l)(F:n=l.length)(GV:∀R1 w1 ao cap,Sp cJ g (W.fy 3) R1 H rz w1->cJ<=w1.heap.size->Ls (Ft g (W.fy 3) R1) w1 ao [bv true,first l]->2<=cap->cap<=9223372036854775807->zC 51 #[zP g,.slice ao 2 cap,zI W.co.want] w1 λe w'=>(∃x,e=.returned x)/\∃R',Sp cJ g (gv (W.fy 3) [bv true,first l] W.co.want) R' H rz w'/\Kp (Ft g (W.fy 3) R1) (Ft g (gv (W.fy 3) [bv true,first l] W.co.want) R') w1 w'):
  zC 51 #[zP g,.slice ao n cap,zI cW] w λe w'=>(∃x,e=.returned x)/\∃R',Sp cJ g (gv W l cW) R' H rz w'/\zL g W R (gv W l cW) R' w w':=by
 have E:=I.cQ;have aa:=(I.gq W.cQ E O (.inl I.run)).1;obtain⟨d,ae,h4,af,J⟩:=h.zH E;obtain⟨a0,c0,D⟩:=h.eH.sliced (gz E);have n6:=h.ij _ (gz E);rw[n6]at D;have K:=cO h;have HF:=cO J;have ab:=cO D;have ag:=h.Dl;have c6:=K.c6 h4;have c7:=K.c7;have k0:zE w d (W.cQ*8) (.slice a0 W.co.cy.length c0):=by have:=K.Ll h4 E (r:=0) rfl;rwa[ab]at this
 rw[M]at k0;rw[vE I M O];have hz:¬(W.cQ:Int)=0:=cM;have ac:=cO hL;have HN:=cO F;have ad:Hid (∀w1,Sp cJ g W R H rz w1->cJ<=w1.heap.size->zC 82 #[zP g,zI 3,zI (if true then 1 else 0),vv (first l)] w1 λe w'=>(∃x,e=.returned x) /\
   ∃R',Sp cJ g (gv (W.fy 3) [bv true,first l] W.co.want) R' H rz w'/\Kp (Ft g W R) (Ft g (gv (W.fy 3) [bv true,first l] W.co.want) R') w1 w'):=λw1 L hb=>uy L hb E aa 3 true (first l) GV
 clear h J D n6 M O hL F GV I;go_enter Lb,FY;go_wp2;go_quiet (fail);go_wp2_with(first
  |(go_at_call 77;refine(sU (S:=Ft g W R) _ (ac.drewN _) HN).mono ?_;rintro e w1 ⟨rfl,b1⟩)
  |(go_at_call 82;refine cA (ad _ ((K.drewN nq).below b1) (cV hB b1.size)) ?_;rintro e w2 ⟨⟨x,rfl⟩,R',L,h2⟩;have HR:Sp cJ g (gv (W.fy 3) [bv true,first l] W.co.want) R' H rz w2/\Kp (Ft g W R) (Ft g (gv (W.fy 3) [bv true,first l] W.co.want) R') w1 w2:=⟨L,h2⟩;clear L h2))
 go_returns;exact⟨⟨_,rfl⟩,R',HR.1,((Kp.refl _ _).drewN nq |>.trans (Kp.cY b1)).trans HR.2⟩
end rn
end Go.Proofs.YtfpkdfeakanlpaaGreatDoor
