import Derived.Test.YtfpkdfeakanlpaaGreatDoorMRnBi
set_option linter.all false
set_option maxRecDepth 100000
set_option maxHeartbeats 8000000
namespace Go.Proofs.YtfpkdfeakanlpaaGreatDoor
open Go.Proofs.Tryz
namespace rn
open RowKit bts pg chk
variable{rz rz':Bool×Vl}{f:Fr}{H H':Hd}{cW:Int}{args:List Vl}{cJ cap g na:Nat}{Hs:Nat→List Int}{ao:Option Addr}{p:Pg}{RES:mX}{V W:St}{R R':eO→fW}{ev:Vl}{w w0 w1:World}
def Ol(B:Bh p Hs cW w0 ev g W R H w ao na cap args){k:Int}(E:k=6/\¬(first args).k=5/\¬(first args).k=6\/k=9/\¬(first args).k=7):xD cW w0 g H w ao na cap k (plain W k args cW):=by
 obtain⟨v,u,vs,us,h,I,aa,ab,ac,ad,J⟩:=B.head;have K:=cO (λX=>jo rV X);have L:=cO (λX (hX:Mc w0 g W R H (false,ev) X)=>qV hX (tv rV) W);rw[<-h]at E;have hb:(k=6/\(v.k != 5)=true/\(v.k != 6)=true)\/k=9/\¬v.k=7/\True:=by
  obtain⟨a,b,c⟩|⟨a,b⟩:=E
  .exact .inl ⟨a,by simpa using b,by simpa using c⟩
  .exact .inr ⟨a,b,trivial⟩
 rw[show plain W k args cW=mW W rV by obtain⟨rfl,a,b⟩|⟨rfl,a⟩:=E<;>unfold plain<;>dsimp only<;>rw[<-h];exact cK (λe:v.k=5\/v.k=6=>e.elim a b);exact cK a];clear h I E;unfold xD jC;obtain⟨rfl,F,b6⟩|⟨rfl,F,b6⟩:=hb;all_goals
  obtain⟨bl,off,rfl,h1,D⟩|⟨rfl,rfl,h1,D⟩:=J
 all_goals
  clear B;go_enter lE,kB;go_wp2_with(first|(go_at_call 77;refine cA D ?_;rintro e w1 ⟨rfl,M,ae,m1⟩)|(go_at_call 46;refine cA (K _) ?_;rintro e w5 ⟨rfl,F⟩;have O:=cO (Mc.below (M.FC _ _) F);clear F)|(go_at_call 45;refine cA (L _ O) ?_;rintro e w6 ⟨⟨x,rfl⟩,h6⟩))
  go_returns;exact⟨⟨_,rfl⟩,h6⟩
def Wc:Array Value:=#[.string ⟨#[115,117,115,112,101,110,100,101,100]⟩,.string ⟨#[114,117,110,110,105,110,103]⟩,.string ⟨#[110,111,114,109,97,108]⟩,.string ⟨#[100,101,97,100]⟩]
def GC{k:Nat}(h:k<4){S:Nat->Prop}(D:Lc S w g Wc 9):w.cell? ⟨g,k,none⟩=some (.string ⟨(lQ k).toArray⟩):=by have E:k=0\/k=1\/k=2\/k=3:=cM;obtain rfl|rfl|rfl|rfl:=E<;>exact D.cell rfl
def KO(B:Bh p Hs cW w0 ev g W R H w ao na cap args)(M:(first args).k=7):xD cW w0 g H w ao na cap 9 (plain W 9 args cW):=by
 obtain⟨v,u,vs,us,F,ag,aa,ah,ai,au,ab⟩:=B.head;have hn:=B.I.cQ;rw[<-F]at M;obtain⟨h,D⟩:∃h:Nat,v.n=h:=⟨v.n.toNat,by have:=(aa.co M).1;omega⟩
 have I:h<W.cS.length:=by have:=(aa.co M).2;rw[D]at this;have:(h:Int)<(W.cS.length:Int):=this;omega
 obtain⟨d,aw,h4,ax,aj⟩:=B.M.sp.zH hn;have ay:=B.M.sp.Dl;obtain⟨O,J⟩:∃O:Nat,(W.cS.getD h dE).state=O:=⟨(W.cS.getD h dE).state.toNat,by have:=(B.I.vw h I).1;omega⟩
 have ac:O<4:=by have:=(B.I.vw h I).2;omega
 obtain⟨sb,ad,hb,ak,al⟩:=Mq (lQ (O:Int));have am:Hid (∀X,Sp w0.heap.size g W R H (false,ev) X->zE X d (h*8+1) (zI (O:Int))):=by intro X hX;have:=hX.Ll h4 I (r:=1) rfl;rwa[J]at this
 have ae:=cO (λX n hn hX=>UD (w0:=w0) (g:=g) (R:=R) (H:=H) (ev:=ev) (X:=X) (n:=n) B.E B.I B.hp.1 (jF _ (cV (uj _) cM)) hb hn hX);rw[show plain W 9 args cW=ok (gv W [tv (lQ (O:Int))] cW) by unfold plain;dsimp only;rw[<-F,cR M,D,fh,J];rfl];have an:=cO ad;rw[M,D]at ab;clear ad aj J M D F ag hb ak ah ai;unfold xD;unfold jC at ae|-;obtain⟨bl,off,rfl,h1,af⟩|⟨rfl,rfl,h1,af⟩:=ab;all_goals
  clear B;go_enter lE,kB;go_wp2_with(first|(go_at_call 77;refine cA af ?_;rintro e w1 ⟨rfl,K,az,m1⟩))
  refine dx λw4 E=>?_;have L:Mc w0 g W R H (false,ev) w4:=E▸Mc.below (K.FC _ _) (ba);have ap:Lc (Ft g W R) w4 w1.heap.size (zV 7 (h:Int) vs) 56:=E▸((Lc.new w1 (λk hk=>Ft.lt K.sp hk) _ _).alloc _).alloc _;have aq:Lc (Ft g W R) w4 (w1.heap.size+1+1) Wc 9:=E▸K.Wh (cN _ _);clear E m1;have qs:=GC ac aq;rw[<-an]at qs;obtain⟨S,hS⟩:=eX (fI w4 none);have y6:=Wd.cn hS (L.sp.c6 h4);have y1:=Wd.cn hS (ap.cell (j:=1) rfl);have y2:=Wd.cn hS (am _ L.sp);have y3:=Wd.cn hS qs;have HS:=cO hS;clear hS qs;haveI:=pz HS;refine Cg S [0,1,2,3,4,5,6,7,8,9,10,11,12,15] [13,14] [16] (HS▸(fI.refl _ _).drew) ?_;simp only[pick,ey,eB,eL,eM,dt,dG];repeat(go_big_quiet_step(fail))
  apply wpQuiet_nil;apply dI;clear y6 y1 y2 y3;go_wp2_with(go_at_call 46;refine cA (al _) ?_;rintro e w5 ⟨rfl,b5⟩;have ar:=cO ((L.below (eb (cN _ _))).below b5);have S5:Hid (fI w4 none w5):=⟨b5.size,λk hk _=>b5.block k hk⟩;clear b5)
  refine⟨HS▸S5,?_⟩;apply dI;go_wp2;refine⟨HS▸S5.alloc _,?_⟩;apply ej;go_wp2_with(go_at_call 51;refine cA (ae _ _ rfl ar) ?_;rintro e w6 ⟨⟨x,rfl⟩,h6⟩)
  go_returns;exact⟨⟨_,rfl⟩,h6⟩
end rn
end Go.Proofs.YtfpkdfeakanlpaaGreatDoor
