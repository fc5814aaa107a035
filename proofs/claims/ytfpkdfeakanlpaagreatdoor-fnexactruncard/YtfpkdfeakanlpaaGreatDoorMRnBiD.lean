import Derived.Test.YtfpkdfeakanlpaaGreatDoorMRnBi
set_option linter.all false
set_option maxRecDepth 100000
set_option maxHeartbeats 8000000
namespace Go.Proofs.YtfpkdfeakanlpaaGreatDoor
open Go.Proofs.Tryz
namespace rn
open RowKit bts pg chk
variable{rz rz':Bool×Vl}{k:Co}{f:Fr}{H H':Hd}{cW:Int}{args:List Vl}{cJ cap g n na:Nat}{Hs:Nat→List Int}{ao:Option Addr}{p:Pg}{RES:mX}{V W:St}{R R':eO→fW}{ev:Vl}{w w0 w1:World}
def Lx{z:Sz}(h:n<z.cs):gG z ⟨7,n,[]⟩:=by constructor<;>simp;omega
def Sv{h:Value}(E:h.oneCell'=true)(k:Co):∀u∈cc h k,u.oneCell'=true:=by
 intro u D;unfold cc at D;simp only[gI,eQ,eh,iw]at D;obtain((rfl|rfl)|D)|rfl|rfl|rfl:=D
 .exact E
 .rfl
 .exact ye _ u D
 .rfl
 .rfl
 .rfl
def Kh(K:k.cy=[]){t:eO}(L:fZ {W with cS:=W.cS++[k]} t)(I:t≠(6,W.cS.length,0)):fZ W t:=by
 have J:(W.cS++[k]).length=W.cS.length+1:=dC;obtain e|e|e|⟨E,D,h⟩|⟨E,D,h,F⟩:=L
 .exact .inl e
 .exact .inr (.inl e)
 .exact .inr (.inr (.inl e))
 .have D:=D;rw[J]at D;have:t.2.1≠W.cS.length:=λq=>I (by obtain⟨a,b,c⟩:=t;dsimp only at*;rw[E,q,h]);exact .inr (.inr (.inr (.inl ⟨E,cM,h⟩)))
 .have D:=D;have h:=h;have F:(((W.cS++[k]).getD t.2.1 dE).cy.getD t.2.2 pG).guard=false:=F;rw[J]at D;by_cases q:t.2.1=W.cS.length
  .rw[q,gD,K]at h;simp at h
  .rw[iL _ _ _ _ cM]at h F;exact .inr (.inr (.inr (.inr ⟨E,cM,h,F⟩)))
def Sp.Jh(h:Sp cJ g W R H rz w)(K:k.cy=[]){av D:Option Addr}{cv n' E:Nat}(M:(R (4,0,0)).v=.slice av n cv)(F:n'=W.cS.length+1)(O:sd 61 8 w cJ av n cv ((R (4,0,0)).cs++cc mO k) D n' E w1):
  ∃R',Sp cJ g {W with cS:=W.cS++[k]} R' H rz (w1.setCell ⟨g,6,none⟩ (.slice D n' E))/\Kp (Ft g W R) (Ft g {W with cS:=W.cS++[k]} R') w (w1.setCell ⟨g,6,none⟩ (.slice D n' E)):=by
 have A:=h.Ih iN rfl rfl M O;obtain⟨R',hS,e1,e2,e3⟩:=h.On K (r:=⟨.slice D n' E,n',(R (4,0,0)).cs++cc mO k⟩) F rfl A.eH A.own A.heap;refine⟨R',hS,(Kp.grown A.jz (λj I _=>Ft.rE iN I) λj I=>?_).trans (Kp.setCell _ Ft.nj)⟩;obtain rfl|⟨u,hu,e⟩:=I
 .exact .inl (.inl rfl)
 .by_cases L:u=(4,0,0)
  .subst L;rw[e1]at e;exact(A.qA j e).imp (λx=>Ft.rE iN x) id
  .by_cases J:u=(6,W.cS.length,0)
   .subst J;rw[e2]at e;cases e
   .rw[e3 u L J]at e;exact .inl (Ft.rE (Kh K hu J) e)
def Bu(B:Bh p Hs cW w0 ev g W R H w ao na cap args){F:Int}(hk:F=5\/F=6)(h5:(first args).k=F)(az:W.cS.length<=1000000000000):xD cW w0 g H w ao na cap 6 (plain W 6 args cW):=by
 obtain⟨v,u,vs,us,O,ai,aj,ak,al,aA,ac⟩:=B.head;have hn:=B.I.cQ;rw[<-O]at h5;obtain⟨d,aa,h4,aB,am⟩:=B.M.sp.zH hn;have J:=h4.cS;have n4:(R (4,0,0)).n=W.cS.length:=B.M.sp.ij _ iN;obtain⟨no,D⟩:=eX W.cS.length;rw[<-D]at J;have an:=cO D;have ad:=cO J;have ay:no<=1000000000000:=cM;have HO:Hid (∀X,Sp w0.heap.size g W R H (false,ev) X->X.ownsRow w0.heap.size 61 8 (zS d no aa) no (R (4,0,0)).cs):=by intro X hX;have:=hX.eH.own _ (iN (W:=W));rwa[J,n4,<-D]at this
 have HG:=cO (Dc B.M.sp iN);have ae:Hid (∀X,Sp w0.heap.size g W R H (false,ev) X->zE X g 6 (zS d no aa)):=by intro X hX;have:=hX.c6 h4;rwa[<-D]at this
 have af:=cO (λX n R1 hn hX=>UD (W:={W with cS:=W.cS++[⟨[],0,v,0,0,-1⟩]}) (w0:=w0) (g:=g) (R:=R1) (H:=H) (ev:=ev) (X:=X) (n:=n) (v:=⟨7,(no:Int),[]⟩) B.E (B.I.Di aj cM) B.hp.1 (Lx (by simp[St.sz];omega)) rfl hn hX);rw[show plain W 6 args cW=ok (gv {W with cS:=W.cS++[⟨[],0,v,0,0,-1⟩]} [⟨7,(no:Int),[]⟩] cW) by unfold plain;dsimp only;rw[<-O,cR (show v.k=5\/v.k=6 by omega),D];rfl];obtain⟨i0,hi,ap,aq,ar⟩:=fQ I8;have hB:=B.M.mV.size;rw[h5]at ac;clear h4 am D J n4 O ai ak;unfold xD;unfold jC at af|-;have hb:((F != 5)=false/\(F==5)=true)\/((F != 5)=true/\(F==5)=false/\(F != 6)=false/\(F==6)=true):=by obtain rfl|rfl:=hk<;>simp
 clear hk;obtain⟨b1,b3⟩|⟨b1,b3,b2,b4⟩:=hb;all_goals
  obtain⟨bl,off,rfl,h1,ag⟩|⟨rfl,rfl,h1,ag⟩:=ac
 all_goals
  clear B;go_enter lE,kB;go_wp2_with(first|(go_at_call 77;refine cA ag ?_;rintro e w1 ⟨rfl,ah,aC,m1⟩))
  refine dx λK ab=>?_;have I:Hid (Mc w0 g W R H (false,ev) K):=ab▸ah.FC _ _;have E:Hid (Lc (Ft g W R) K w1.heap.size (zV F v.n vs) 56):=ab▸(Lc.new w1 (λk hk=>Ft.lt ah.sp hk) _ _).alloc _;clear ab m1;obtain⟨S,hS⟩:=eX (fI K (R (4,0,0)).v.ownBlock);have y6:=Wd.ce hS (ae K I.sp) HG;have z0:=Wd.ce hS (E.cell (j:=0) rfl) (mD E iN);have z1:=Wd.ce hS (E.cell (j:=1) rfl) (mD E iN);have z2:=Wd.ce hS (E.cell (j:=2) rfl) (mD E iN);have HS:=cO hS;clear hS;haveI:=pz HS;refine uq S 7 2 (HS▸(fI.refl _ _).drew) ?_;simp only[List.take,List.drop];repeat(go_big_quiet_step(fail))
  refine wpQuiet_nil ?_;refine dI ?_;go_wp2;refine⟨HS▸(fI.refl _ _).drew.alloc _,?_⟩;refine dI ?_;clear y6 z0 z1 z2;refine gJ λw5 L=>?_;have M:Hid (Mc w0 g W R H (false,ev) w5):=L▸(I.below (ba)).below (eb (cN _ _));have S5:Hid (fI K (R (4,0,0)).v.ownBlock w5):=L▸((fI.refl _ _).alloc _).drew;have au:Hid (∀j u,(cc mO ⟨[],0,v,0,0,-1⟩)[j]?=some u->w5.cell? (((zA K.heap.size 0):Addr).add j)=some u):=by unfold cc mO;dsimp only;rw[al.out,L];intro j u hu;rw[iK,dU];exact Lc.cell (S:=λ_=>False) (cs:=#[zN,zI 0,zI F,zI v.n,.string vs,zI 0,zI 0,zI (-1)]) ⟨λh=>h,dJ K _⟩ (by simpa[h5]using hu)
  clear L;refine eI rfl _ _ _ rfl 61 i0 (.agg #[zN,zI 0,zI 0,zI 0,zT,zI 0,zI 0,zI 0]) 8 88 WS hi ap aq ar rfl cM w0.heap.size (some (zA d 0)) no aa (R (4,0,0)).cs rfl (HO _ M.sp) (some (zA K.heap.size 0)) 1 1 (cc mO ⟨[],0,v,0,0,-1⟩) rfl rfl (λ_=>⟨_,rfl,au⟩) (Sv (by rfl) _) (by unfold maxLen;omega) cM M.mV.size ?_;intro aD aE w6 hA;have aw:=cO (M.sp.Jh (k:=⟨[],0,v,0,0,-1⟩) rfl ad (by rw[an]) hA);have S6:=cO (S5.grown (ad▸hA.jz));have c6:=S6.cell (ae K I.sp) HG;have f6:=(dA (a:=(zA g 6)) (S6.block g I.sp.lt HG)).trans (I.sp.free 6);clear hA;refine lK ?_;refine⟨HS▸S6,?_⟩;refine ej ?_;go_wp2_with(go_at_call 51;obtain⟨R7,h7,k7⟩:=aw;have ax:=M.gY h7 k7 rfl rfl rfl;refine cA (af _ _ R7 (jD _ _ _) ax) ?_;rintro e w9 ⟨⟨x,rfl⟩,h9⟩)
  go_returns;exact⟨⟨_,rfl⟩,h9⟩
end rn
end Go.Proofs.YtfpkdfeakanlpaaGreatDoor
