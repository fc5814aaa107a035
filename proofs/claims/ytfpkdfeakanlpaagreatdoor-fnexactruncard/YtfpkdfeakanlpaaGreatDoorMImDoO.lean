import Derived.Test.YtfpkdfeakanlpaaGreatDoorMImJn
import Derived.Test.YtfpkdfeakanlpaaGreatDoorMImCmp
set_option linter.all false
set_option maxRecDepth 100000
set_option maxHeartbeats 8000000
namespace Go.Proofs.YtfpkdfeakanlpaaGreatDoor
open Go.Proofs.Tryz
namespace im
open RowKit bts pg rn chk
variable{G G':Gh}{H:Hi}{a b op:Int}{cJ m:Nat}{V W:St}{z:Sz}{R R':eO→fW}{Z:eO→Value}{mv:Value}{v x y:Vl}{w w0 w1:World}
def Fq(q:Bool):(Bv q==1)=q:=by cases q<;>rfl
def Ek(p q:Prop)[Decidable p][Decidable q](h:p->¬q):decide ((if p then(-1:Int)else if q then 1 else 0)<0)=decide p/\decide (0<(if p then(-1:Int)else if q then 1 else 0))=decide q:=by
 by_cases D:p
 .simp[D,h D]
 .by_cases E:q<;>simp[D,E]
def Dj(ho:8<=op/\op<=11)(hx:gG z x)(hy:gG z y):zC 186 #[zI op,jX G Z x,jX G Z y] w λe w'=>Bn (pv op x y) e/\zB w w':=by
 have CI:=cO (λX=>Qj (hC G x) (hC G y) X);obtain⟨c0,D⟩:∃c:Int,c=if hC G x<hC G y then -1 else if hC G y<hC G x then 1 else 0:=⟨_,rfl⟩
 rw[<-D]at CI;have CS:=cO (λX=>Qi x.s y.s X);have E:=cO (λa X=>Ak (a:=a) (b:=0) ho X);have J:=cO (λq X=>jM (w:=X) q);have RC:=cO (λX=>jR (w:=X) ⟨Bl.toArray⟩);unfold Bl at RC;unfold jX;unfold vq at RC J|-;have ts:=(gm Z x).store;have us:=(gm Z y).store;obtain⟨r,hr⟩:=eX (pv op x y);rw[<-hr];have hb:pv op x y=if x.k=3/\y.k=3 then .inl (bv (holds op (sD x.s y.s) (sD y.s x.s)))else if x.k=2/\y.k=2 then .inl (bv (holds op (decide (x.n<y.n)) (decide (y.n<x.n))))else .inr Bl:=by unfold pv;rw[cK cM,cK cM,cK cM,cR cM]
 rw[hb]at hr;have HR:=cO hr;have F:x.k=2->y.k=2->hC G x=x.n/\hC G y=y.n:=λh1 h2=>by unfold hC;rw[cK cM,cK cM,cK cM,cK cM,cK cM,cK cM];exact⟨rfl,rfl⟩
 have M:=cO (λ(tx ty:Value)=>show zB w (((w.alloc (.cells #[zI x.k,zI (hC G x),.string ⟨x.s.toArray⟩,tx] 132)).alloc (.cells #[zI y.k,zI (hC G y),.string ⟨y.s.toArray⟩,ty] 132)).alloc (.cells #[zI 0,zI 0,zT,.nilIface] 132)) by go_grown);have L3:=cO (λ(tx ty:Value)=>(N9 w #[zI x.k,zI (hC G x),.string ⟨x.s.toArray⟩,tx] #[zI y.k,zI (hC G y),.string ⟨y.s.toArray⟩,ty] #[zI 0,zI 0,zT,.nilIface] 132 132 132));generalize dV Z x=tx at*;generalize dV Z y=ty at*;replace M:=cO (M tx ty);replace L3:=cO (L3 tx ty);clear hx hy hb hr;by_cases k3:x.k=3/\y.k=3
 .rw[cR k3]at HR;obtain⟨c,hc⟩:=eX (if sD x.s y.s=true then -1 else if sD y.s x.s=true then 1 else 0:Int);have K:=Ek (sD x.s y.s=true) (sD y.s x.s=true) (λh=>by rw[<-xH x.s y.s,h];simp);rw[<-hc]at K CS;rw[k3.1,k3.2]at M L3|-;replace E:=cO (E c);rw[K.1,K.2]at E;rw[show decide (sD x.s y.s=true)=sD x.s y.s by simp,show decide (sD y.s x.s=true)=sD y.s x.s by simp]at E;clear hc K k3 F D;generalize holds op (sD x.s y.s) (sD y.s x.s)=q at*;have bq:=Fq q;replace J:=cO (J q);obtain⟨zb,L⟩:∃z:Int,z=Bv q:=⟨_,rfl⟩
  rw[show(if q=true then(1:Int)else 0)=zb by rw[L];rfl]at J;rw[<-L]at E bq;have HZ:=cO L;clear L;generalize(⟨x.s.toArray⟩:ByteArray)=xs at*;generalize(⟨y.s.toArray⟩:ByteArray)=ys at*;generalize hC G x=xn at*;generalize hC G y=yn at*;go_enter Tn,Q8;go_wp2_with(first
   |(go_at_call 194;refine cA (CI _) ?_;rintro e w1 ⟨rfl,rfl⟩)
   |(go_at_call 195;refine cA (CS _) ?_;rintro e w2 ⟨rfl,rfl⟩)
   |(go_at_call 187;refine cA (E _) ?_;rintro e w3 ⟨rfl,O⟩;have C3:=cO O;clear O)
   |(go_at_call 143;refine cA (J _) ?_;rintro e w4 ⟨rfl,b4⟩;have C4:=cO (iy C3 b4);have L8:=cO (L3.2.2.kept (Kp.cY (iy C3 b4)));obtain⟨z0,z1,z2,z3⟩:=L8.c4;have zf:=L8.free;clear b4))
  refine eS (v:=.agg #[zI 1,zI zb,zT,.nilIface]) (Ci results186 rfl (mb L8.2 _ _ _ _)) rfl ?_;refine⟨HR▸HZ▸rfl,qM (iy M C4) cM _ _ _ _⟩
 rw[cK k3]at HR;by_cases I:x.k=2/\y.k=2
 .rw[cR I]at HR;rw[(F I.1 I.2).1,(F I.1 I.2).2]at CI D M L3|-;have K:=Ek (x.n<y.n) (y.n<x.n) cM;rw[<-D]at K;rw[I.1,I.2]at M L3|-;replace E:=cO (E c0);rw[K.1,K.2]at E;clear D K I F k3 CS;generalize holds op (decide (x.n<y.n)) (decide (y.n<x.n))=q at*;have bq:=Fq q;replace J:=cO (J q);obtain⟨zb,L⟩:∃z:Int,z=Bv q:=⟨_,rfl⟩
  rw[show(if q=true then(1:Int)else 0)=zb by rw[L];rfl]at J;rw[<-L]at E bq;have HZ:=cO L;clear L;generalize(⟨x.s.toArray⟩:ByteArray)=xs at*;generalize(⟨y.s.toArray⟩:ByteArray)=ys at*;generalize x.n=xn at*;generalize y.n=yn at*;go_enter Tn,Q8;go_wp2_with(first
   |(go_at_call 194;refine cA (CI _) ?_;rintro e w1 ⟨rfl,rfl⟩)
   |(go_at_call 187;refine cA (E _) ?_;rintro e w3 ⟨rfl,O⟩;have C3:=cO O;clear O)
   |(go_at_call 143;refine cA (J _) ?_;rintro e w4 ⟨rfl,b4⟩;have C4:=cO (iy C3 b4);have L8:=cO (L3.2.2.kept (Kp.cY (iy C3 b4)));obtain⟨z0,z1,z2,z3⟩:=L8.c4;have zf:=L8.free;clear b4))
  refine eS (v:=.agg #[zI 1,zI zb,zT,.nilIface]) (Ci results186 rfl (mb L8.2 _ _ _ _)) rfl ?_;refine⟨HR▸HZ▸rfl,qM (iy M C4) cM _ _ _ _⟩
 .rw[cK I]at HR;generalize(⟨x.s.toArray⟩:ByteArray)=xs at*;generalize(⟨y.s.toArray⟩:ByteArray)=ys at*;generalize hC G x=xn at*;generalize hC G y=yn at*;generalize x.k=kx at*;generalize y.k=ky at*;obtain q1|⟨q1,q2,q3⟩:=(by by_cases a:kx=ky<;>by_cases b:kx=2<;>by_cases c:kx=3<;>simp_all:((kx != ky)=true)\/((kx != ky)=false/\(kx != 2)=true/\(kx != 3)=true))
  all_goals
   clear I k3 F;go_enter Tn,Q8;go_wp2_with(go_at_call 164;refine cA (RC _) ?_;rintro e w3 ⟨rfl,O⟩;have C3:=cO O;clear O)
   exact⟨rfl,HR▸rfl,iy M C3⟩
def JA(x y:Vl):same y x=same x y:=by unfold same;rw[Bool.eq_iff_iff];simp only[fY,oq];exact⟨λ⟨⟨a,b⟩,c⟩=>⟨⟨a.symm,b.symm⟩,c.symm⟩,λ⟨⟨a,b⟩,c⟩=>⟨⟨a.symm,b.symm⟩,c.symm⟩⟩
def Qo(x y:wI)(X:World):(binOp .eql 130 (kv x) (kv y)).run Tryz.prog X=.ok (.bool (vh x y)) X/\(binOp .neq 130 (kv x) (kv y)).run Tryz.prog X=.ok (.bool (!vh x y)) X:=by
 have e:=NJ x y X;refine⟨?_,?_⟩
 .show(Op.equal 130 (kv x) (kv y) >>= λr=>pure (Value.bool r)).run Tryz.prog X=_;rw[iS,e];rfl
 .show(Op.equal 130 (kv x) (kv y) >>= λr=>pure (Value.bool !r)).run Tryz.prog X=_;rw[iS,e];rfl
def wQ(ho:0<=op/\op<=11)(nm:Nm W G)(hx:gG W.sz x)(hy:gG W.sz y)(tb:Tb w)(pw:Pw w):zC 165 #[zI op,jX G Z x,jX G Z y] w λe w'=>Bn (pv op x y) e/\zB w w':=by
 have up:=λX (hX:zB w X)=>(⟨λk hk=>di (tb.kn k hk) hX,λk hk=>di (tb.sn k hk) hX⟩:Tb X)
 have B3:=cO (λ(tx ty:Value)=>show zB w (((w.alloc (.cells #[zI x.k,zI (hC G x),.string ⟨x.s.toArray⟩,tx] 132)).alloc (.cells #[zI y.k,zI (hC G y),.string ⟨y.s.toArray⟩,ty] 132)).alloc (.cells #[zI 0,zI 0,zT,.nilIface] 132)) by go_grown);have L3:=cO (λ(tx ty:Value)=>(N9 w #[zI x.k,zI (hC G x),.string ⟨x.s.toArray⟩,tx] #[zI y.k,zI (hC G y),.string ⟨y.s.toArray⟩,ty] #[zI 0,zI 0,zT,.nilIface] 132 132 132));have ts:=(gm Z x).store;have us:=(gm Z y).store;have JN:=cO (λX (hX:zB w X)=>Hj (G:=G) (Z:=Z) (w:=X) hx hy (up X hX) (Lib.tabBelow_of_tabIs pw X hX));have CM:=cO (λ(h:8<=op/\op<=11) X=>Dj (G:=G) (Z:=Z) (w:=X) h hx hy);have ls:vh (An G x) (An G y)=same x y:=by rw[wm nm hx hy,JA]
 have EQ:=cO (λX=>Qo (An G x) (An G y) X);rw[ls]at EQ;unfold kv An at EQ;dsimp only at EQ;have BV:Hid (∀(q:Bool) X,zC 143 #[.bool q] X (zR X (.agg #[zI 1,zI (bv q).n,zT,.nilIface]))):=λq X=>jM (w:=X) q;have NV:Hid (∀(q:Int) X,zC 61 #[zI q] X (zR X (.agg #[zI 2,zI q,zT,.nilIface]))):=λq X=>nK (w:=X) q;unfold jX vq at JN CM|-;generalize dV Z x=tx at*;generalize dV Z y=ty at*;replace B3:=cO (B3 tx ty);replace L3:=cO (L3 tx ty);have SUB:Hid (∀r e,Bn r e->(∃v:Vl,r=.inl v/\e=.returned (.agg #[zI v.k,zI v.n,.string ⟨v.s.toArray⟩,.nilIface]))\/∃s:List UInt8,r=.inr s/\e=.panicked (BM (.agg #[zI 3,zI 0,.string ⟨s.toArray⟩,.nilIface]))):=λr e h=>by
  cases r with
  |inl v=>exact .inl ⟨v,rfl,h⟩
  |inr s=>exact .inr ⟨s,rfl,h⟩
 have hid2:x.k=2->hC G x=x.n:=λh=>by unfold hC;rw[cK cM,cK cM,cK cM]
 have hid3:y.k=2->hC G y=y.n:=λh=>by unfold hC;rw[cK cM,cK cM,cK cM]
 clear up nm tb pw ls;obtain rfl|rfl|rfl|h8|h4:=(by omega:op=5\/op=6\/op=7\/(8<=op/\op<=11)\/(0<=op/\op<=4))
 .clear CM EQ BV NV hx hy hid2 hid3;generalize pv 5 x y=r at*;generalize(⟨x.s.toArray⟩:ByteArray)=xs at*;generalize(⟨y.s.toArray⟩:ByteArray)=ys at*;generalize hC G x=xn at*;generalize hC G y=yn at*;generalize x.k=kx at*;generalize y.k=ky at*;go_enter xg,uT;go_wp2_with(go_at_call 185;refine cA (JN _ B3) ?_;rintro e w4 ⟨bn,b4⟩;have C4:=cO b4;have L8:=cO (L3.2.2.kept (Kp.cY b4));obtain⟨z0,z1,z2,z3⟩:=L8.c4;have zf:=L8.free;clear b4;obtain⟨v,rfl,rfl⟩|⟨s,rfl,rfl⟩:=SUB _ _ bn;clear bn)
  .refine eS (v:=.agg #[zI v.k,zI v.n,.string ⟨v.s.toArray⟩,.nilIface]) (Ci sr rfl (mb L8.2 _ _ _ _)) rfl ⟨rfl,qM (iy B3 C4) cM _ _ _ _⟩
  .exact⟨rfl,rfl,iy B3 C4⟩
 .rw[show pv 6 x y=.inl (bv (same x y)) by unfold pv;rw[cR rfl]];have eq:=λX=>(EQ X).1;clear CM JN EQ NV hx hy hid2 hid3 SUB;generalize same x y=q at*;generalize(⟨x.s.toArray⟩:ByteArray)=xs at*;generalize(⟨y.s.toArray⟩:ByteArray)=ys at*;generalize hC G x=xn at*;generalize hC G y=yn at*;generalize x.k=kx at*;generalize y.k=ky at*;go_enter xg,uT;go_wp2_with(go_at_call 143;refine cA (BV q _) ?_;rintro e w4 ⟨rfl,b4⟩;have C4:=cO b4;have L8:=cO (L3.2.2.kept (Kp.cY b4));obtain⟨z0,z1,z2,z3⟩:=L8.c4;have zf:=L8.free;clear b4)
  refine eS (v:=.agg #[zI (bv q).k,zI (bv q).n,zT,.nilIface]) (Ci sr rfl (mb L8.2 _ _ _ _)) rfl ⟨rfl,qM (iy B3 C4) cM _ _ _ _⟩
 .rw[show pv 7 x y=.inl (bv (!same x y)) by unfold pv;rw[cK iM,cR rfl]];have eq:=λX=>(EQ X).2;clear CM JN EQ NV hx hy hid2 hid3 SUB;generalize same x y=q at*;generalize(⟨x.s.toArray⟩:ByteArray)=xs at*;generalize(⟨y.s.toArray⟩:ByteArray)=ys at*;generalize hC G x=xn at*;generalize hC G y=yn at*;generalize x.k=kx at*;generalize y.k=ky at*;go_enter xg,uT;go_wp2_with(go_at_call 143;refine cA (BV (!q) _) ?_;rintro e w4 ⟨rfl,b4⟩;have C4:=cO b4;have L8:=cO (L3.2.2.kept (Kp.cY b4));obtain⟨z0,z1,z2,z3⟩:=L8.c4;have zf:=L8.free;clear b4)
  refine eS (v:=.agg #[zI (bv (!q)).k,zI (bv (!q)).n,zT,.nilIface]) (Ci sr rfl (mb L8.2 _ _ _ _)) rfl ⟨rfl,qM (iy B3 C4) cM _ _ _ _⟩
 .replace CM:=cO (CM h8);clear JN EQ BV NV hx hy hid2 hid3;obtain rfl|rfl|rfl|rfl:=(by omega:op=8\/op=9\/op=10\/op=11)
  all_goals
   generalize pv _ x y=r at*;generalize(⟨x.s.toArray⟩:ByteArray)=xs at*;generalize(⟨y.s.toArray⟩:ByteArray)=ys at*;generalize hC G x=xn at*;generalize hC G y=yn at*;generalize x.k=kx at*;generalize y.k=ky at*;go_enter xg,uT;go_wp2_with(go_at_call 186;refine cA (CM _) ?_;rintro e w4 ⟨bn,b4⟩;have C4:=cO b4;have L8:=cO (L3.2.2.kept (Kp.cY b4));obtain⟨z0,z1,z2,z3⟩:=L8.c4;have zf:=L8.free;clear b4;obtain⟨v,rfl,rfl⟩|⟨s,rfl,rfl⟩:=SUB _ _ bn;clear bn)
   .refine eS (v:=.agg #[zI v.k,zI v.n,.string ⟨v.s.toArray⟩,.nilIface]) (Ci sr rfl (mb L8.2 _ _ _ _)) rfl ⟨rfl,qM (iy B3 C4) cM _ _ _ _⟩
   .exact⟨rfl,rfl,iy B3 C4⟩
 .have e5:(op==5)=false:=by simpa using(by omega:¬op=5)
  have e6:(op==6)=false:=by simpa using(by omega:¬op=6)
  have e7:(op==7)=false:=by simpa using(by omega:¬op=7)
  have e8:(op==8)=false:=by simpa using(by omega:¬op=8)
  have e9:(op==9)=false:=by simpa using(by omega:¬op=9)
  have e10:(op==10)=false:=by simpa using(by omega:¬op=10)
  have e11:(op==11)=false:=by simpa using(by omega:¬op=11)
  have AR:=cO (λa b X=>Am (a:=a) (b:=b) h4 X);have hb:pv op x y=if x.k=2/\y.k=2 then(match mZ op x.n y.n with|none=>.inr vM|some z=>.inl (nv z))else .inr nz:=by unfold pv;rw[cK cM,cK cM,cK cM,cK cM];rfl
  rw[hb];have YS:=cO (λn s t X=>yz (w:=X) n s ⟨nz.toArray⟩ t);have NO:=cO (λ(k:Int) (hk:¬k=2) n s t X=>AZ (w:=X) hk n s ⟨nz.toArray⟩ t);have RZ:=cO (λX=>jR (w:=X) ⟨vM.toArray⟩);unfold nz at YS NO;unfold vM at RZ;unfold vq at YS NO RZ;clear JN CM EQ BV SUB hx hy hb h4 ho;obtain⟨r,hr⟩:=eX (if x.k=2/\y.k=2 then(match mZ op x.n y.n with|none=>.inr vM|some z=>.inl (nv z))else .inr nz:Vl ⊕ List UInt8);rw[<-hr];have HR:=cO hr;clear hr;go_enter xg,uT;go_wp2_with fail;refine dx λw5 hw5=>?_;rw[<-hw5]at B3 L3;clear hw5;have LX:=cO L3.1;have LY:=cO L3.2.1;have LZ:=cO L3.2.2;obtain⟨S,hS⟩:=eX (Below w5.heap.size w5);have un:∀X,S X->zB w5 X:=λX q=>by rw[hS]at q;exact q
  have a0:=λx:Wd S=>di (LX.cell (j:=0) rfl) (un _ x.ok);have a1:=λx:Wd S=>di (LX.cell (j:=1) rfl) (un _ x.ok);have a2:=λx:Wd S=>di (LX.cell (j:=2) rfl) (un _ x.ok);have a3:=λx:Wd S=>di (LX.cell (j:=3) rfl) (un _ x.ok);have b0:=λx:Wd S=>di (LY.cell (j:=0) rfl) (un _ x.ok);have b1:=λx:Wd S=>di (LY.cell (j:=1) rfl) (un _ x.ok);have b2:=λx:Wd S=>di (LY.cell (j:=2) rfl) (un _ x.ok);have b3:=λx:Wd S=>di (LY.cell (j:=3) rfl) (un _ x.ok);have MK:Hid (∀X,zB w5 X->S X):=λX q=>hS▸q;clear hS un L3;haveI:Nonempty (Wd S):=⟨⟨w5,MK _ (cN _ _)⟩⟩
  refine xZ S [0,1,3] [2,4,5] [6,7,8,9] [10] gA (by rfl) gA (λd _ _ _ _ h=>by cases d<;>exact h) (MK _ (cN _ _).drew) ?_;simp only[pick,ey,eB,eL,eM,dt,dG];repeat(go_big_quiet_step(fail))
  refine wpQuiet_nil ?_;clear a0 a1 a2 a3 b0 b1 b2 b3;refine ub ?_;by_cases kx:x.k=2
  .rw[hid2 kx,kx];clear hid2;go_wp2_with(go_at_call 188;refine cA (YS _ _ _ _) ?_;rintro e w6 ⟨rfl,b6⟩;have B6:=cO ((cN w5.heap.size w5).drew.trans b6);clear b6)
   refine⟨MK _ B6,?_⟩;refine ub ?_;by_cases ky:y.k=2
   .rw[hid3 ky,ky];rw[cR ⟨kx,ky⟩]at HR;clear hid3 kx ky;go_wp2_with(go_at_call 188;refine cA (YS _ _ _ _) ?_;rintro e w7 ⟨rfl,b7⟩;have B7:=cO (iy B6 b7);clear b7)
    refine⟨MK _ B7,?_⟩;refine ub ?_;replace AR:=cO (AR x.n y.n);generalize x.n=xn at*;generalize y.n=yn at*;cases ha:mZ op xn yn with
    |none=>
     rw[ha]at AR HR;dsimp only at AR HR;go_wp2_with(go_at_call 187;refine cA (AR _) ?_;rintro e w8 ⟨rfl,b8⟩;have B8:=cO (iy B7 b8);clear b8)
     refine⟨MK _ B8,?_⟩;refine yb ?_;repeat(go_big_quiet_step(fail))
     refine wpQuiet_nil ?_;go_wp2_with(first
      |(go_at_call 164;refine cA (RZ _) ?_;rintro e w9 ⟨rfl,b9⟩;have B9:=cO (iy B8 b9);clear b9))
     exact⟨rfl,HR▸rfl,iy B3 B9⟩
    |some z=>
     rw[ha]at AR HR;dsimp only at AR HR;go_wp2_with(go_at_call 187;refine cA (AR _) ?_;rintro e w8 ⟨rfl,b8⟩;have B8:=cO (iy B7 b8);clear b8)
     refine⟨MK _ B8,?_⟩;refine yb ?_;repeat(go_big_quiet_step(fail))
     refine wpQuiet_nil ?_;go_wp2_with(first
      |(go_at_call 61;refine cA (NV _ _) ?_;rintro e w9 ⟨rfl,b9⟩;have B9:=cO (iy B8 b9);have L8:=cO (LZ.kept (Kp.cY (iy B8 b9)));obtain⟨z0,z1,z2,z3⟩:=L8.c4;have zf:=L8.free;clear b9))
     refine eS (v:=.agg #[zI 2,zI z,zT,.nilIface]) (Ci sr rfl (mb L8.2 _ _ _ _)) rfl ⟨HR▸rfl,qM (iy B3 B9) cM _ _ _ _⟩
   .rw[cK (λh=>ky h.2)]at HR;replace NO:=cO (NO _ ky);clear hid3 kx ky;go_wp2_with(go_at_call 188;refine cA (NO _ _ _ _) ?_;rintro e w7 ⟨rfl,b7⟩;have B7:=cO (iy B6 b7);clear b7)
    exact⟨rfl,HR▸rfl,iy B3 B7⟩
  .rw[cK (λh=>kx h.1)]at HR;replace NO:=cO (NO _ kx);clear hid2 hid3 kx;go_wp2_with(go_at_call 188;refine cA (NO _ _ _ _) ?_;rintro e w6 ⟨rfl,b6⟩;have B6:=cO ((cN w5.heap.size w5).drew.trans b6);clear b6)
   exact⟨rfl,HR▸rfl,iy B3 B6⟩
def Ig(W:St)(r:Vl ⊕ List UInt8):mX:=match r with
 |.inl v=>ok (W.ee [v])
 |.inr s=>mW W s
def Bs(h:pv op x y=.inl v):v.k=1\/v.k=2\/v.k=3:=by
 unfold pv at h;have f:∀q,(bv q).k=1:=λ_=>rfl;split at h
 .cases h;exact .inl rfl
 split at h
 .cases h;exact .inl rfl
 split at h
 .split at h
  .dsimp only at h;split at h
   .cases h
   .cases h;exact .inr (.inr rfl)
  .cases h
 split at h
 .split at h
  .cases h;exact .inl rfl
  .split at h
   .cases h;exact .inl rfl
   .cases h
 .split at h
  .split at h
   .cases h
   .cases h;exact .inr (.inl rfl)
  .cases h
def AE(h:v.k=1\/v.k=2\/v.k=3)(Z:eO->Value):jX G Z v=.agg #[.int .i64 v.k,.int .i64 v.n,.string ⟨v.s.toArray⟩,.nilIface]:=by unfold jX vq hC dV;rw[cK cM,cK cM,cK cM,cK cM,cK cM,cK cM]
def Kx(h:Cu cJ W G R H m w)(nm:Nm W G)(ho:0<=a/\a<=11)(h2:2<=W.db.ops.length)(hy:y=W.db.ops.getD (W.db.ops.length-1) v0)(hx:x=W.db.ops.getD (W.db.ops.length-1-1) v0)(aa:gG W.sz y)(ab:gG W.sz x)(ac:w0.heap.size<=cJ)(I:zB w0 w)(tb:Tb w0)(pw:Pw w0):
  zC 117 #[mv,im.ptr (hd R (6,W.cQ,m)),.agg (zW op a b)] w (Rz cJ W G R H w (Ig (W.dZ 2) (pv a x y))):=by
 obtain⟨f,hf,_⟩:=h.ptr;have hl:0<W.co.cy.length:=by rw[h.len];omega
 have PA:=cO (λX (J:zB w X)=>(h.below J).fU cM hy);have PB:=cO (λF X (c3:Cu cJ (W.dZ 1) G F H m X)=>c3.IN h.cQ hl cM hx);have th:∀F:eO->fW,(∀t,t.1≠8->hd F t=hd R t)->dV (hd F)=dV (hd R):=λF d=>by funext v;unfold dV;rw[d (1,_,0) dC,d (2,_,0) dC,d (4,_,0) dC]
 have TH:=cO th;have HF:=cO hf;have ae:=(gm (hd R) y).store;have stx:=(gm (hd R) x).store;have OP:=cO (λX (J:zB w0 X)=>wQ (Z:=hd R) (w:=X) ho nm ab aa ⟨λk hk=>di (tb.kn k hk) J,λk hk=>di (tb.sn k hk) J⟩ (Lib.tabBelow_of_tabIs pw X J));have BL:=cO (λK X (k:Kp (eY W G R) (eY (W.dZ 2) G K) w X)=>show zB w0 X from I.trans (k.below I.size λq hq=>cV ac (eY.from h.im hq)));have af:Hid (∀e,Bn (pv a x y) e->(∃v:Vl,pv a x y=.inl v/\e=.returned (.agg #[zI v.k,zI v.n,.string ⟨v.s.toArray⟩,.nilIface]))\/∃s:List UInt8,pv a x y=.inr s/\e=.panicked (BM (.agg #[zI 3,zI 0,.string ⟨s.toArray⟩,.nilIface]))):=λe h=>by
  cases D:pv a x y with
  |inl v=>rw[D]at h;exact .inl ⟨v,rfl,h⟩
  |inr s=>rw[D]at h;exact .inr ⟨s,rfl,h⟩
 have BP:=cO (λv (D:pv a x y=.inl v)=>Bs D);have LT:=cO (λk (hk:eY W G R k)=>eY.lt h.im hk);obtain⟨ty,ad⟩:∃t,t=dV (hd R) y:=⟨_,rfl⟩
 obtain⟨tx,L⟩:∃t,t=dV (hd R) x:=⟨_,rfl⟩
 have ag:=cO L;rw[hf]at PA|-;unfold jX vq at PA OP;rw[<-ad]at PA ae OP;rw[<-L]at stx OP;generalize pv a x y=r at*;clear h hf ad L hx hy h2 hl th nm ab aa tb pw ho I ac;go_enter func117,ntmps117;go_upto_region 1 with fail;refine dx λw1 M=>?_;have B1:Hid (zB w w1):=M▸ba;have L1:Hid (Lc (eY W G R) w1 w.heap.size (zW op a b) 105):=M▸Lc.new w LT _ _;clear M;go_upto_region 2 with(first
  |(go_at_call 161;refine cA (PA _ B1) ?_;rintro e w3 ⟨rfl,F,c3,d3,k3⟩;have D3:=cO d3;have L3:=cO (L1.kept k3);have K3:=cO ((Kp.cY B1).trans k3);have P3:=PB F w3 c3;rw[d3 (6,W.cQ,m) dC,HF]at P3;unfold jX vq at P3;rw[TH F d3,<-ag]at P3;have PO:=cO P3;clear P3 c3 d3 k3 PA)
  |(go_at_call 161;refine cA PO ?_;rintro e w4 ⟨rfl,K,c4,d4,k4⟩;have C4:=cO c4;have L4:=cO (L3.kept k4);have D4:=cO (λt O=>(d4 t O).trans (D3 t O));have K4:=cO (K3.trans k4);clear c4 d4 k4))
 refine dx λw5 E=>?_;have B5:=cO (show zB w4 w5 by rw[E];go_grown);have LY:Hid (Lc (λ_=>False) w5 w4.heap.size #[zI y.k,zI (hC G y),.string ⟨y.s.toArray⟩,ty] 132):=E▸(Lc.new w4 (λ_ h=>h.elim) _ _).alloc _;have LX:Hid (Lc (λ_=>False) w5 (w4.heap.size+1) #[zI x.k,zI (hC G x),.string ⟨x.s.toArray⟩,tx] 132):=by rw[E];have:=Lc.new (S:=λ_=>False) (w4.alloc (.cells #[zI y.k,zI (hC G y),.string ⟨y.s.toArray⟩,ty] 132)) (λ_ h=>h.elim) #[zI x.k,zI (hC G x),.string ⟨x.s.toArray⟩,tx] 132;rwa[dk]at this
 clear E;have c1:=di (L4.cell (j:=1) rfl) B5;obtain⟨y0,y1,y2,y3⟩:=LY.c4;obtain⟨x0,x1,x2,x3⟩:=LX.c4;have K5:=cO (K4.trans (Kp.cY B5));have ah:=cO (OP w5 (BL K w5 K5));have PU:Hid (∀v X,(v.k=1\/v.k=2\/v.k=3)->zB w5 X->zC 159 #[zP f,.agg #[zI v.k,zI v.n,.string ⟨v.s.toArray⟩,.nilIface]] X λe w'=>(∃x,e=.returned x)/\∃R' u,Im cJ ((W.dZ 2).ee [v]) G R' H w'/\hd R'=gy (hd K) (8,W.cQ,m) u/\Kp (eY (W.dZ 2) G K) (eY ((W.dZ 2).ee [v]) G R') X w'):=λv X hv J=>by have:=((C4.below B5).below J).push v;rw[show hd K (6,(W.dZ (1+1)).cQ,m)=hd R (6,W.cQ,m)from D4 _ dC,HF,AE hv]at this;exact this
 clear OP BL;go_wp2_with(first
  |(go_at_call 165;refine cA ah ?_;rintro e w6 ⟨bn,b6⟩;have B6:=cO b6;clear b6;obtain⟨v,D,rfl⟩|⟨s,D,rfl⟩:=af _ bn;have HB:=cO D;clear D bn)
  |(go_at_call 159;refine cA (PU v _ (BP v HB) B6) ?_;rintro e w7 ⟨⟨x7,rfl⟩,R7,u7,i7,d7,k7⟩;have I7:=cO i7;have D7:=cO d7;have K7:=cO ((K5.trans (Kp.cY B6)).trans k7);clear i7 d7 k7))
 .go_returns;rw[HB];exact⟨⟨_,rfl⟩,R7,I7,λt _ O=>by rw[D7,dL (λe=>O (by rw[e]))];exact D4 t O,K7⟩
 .refine⟨rfl,?_⟩;try rw[D]
  exact⟨rfl,K,(C4.im.below B5).below B6,λt _ O=>D4 t O,K5.trans (Kp.cY B6)⟩
def Ku(h:Cu cJ W G R H m w)(nm:Nm W G)(h1:0<W.db.ops.length)(hx:x=W.db.ops.getD (W.db.ops.length-1) v0)(F:gG W.sz x)(I:w0.heap.size<=cJ)(E:zB w0 w)(tb:Tb w0)(pw:Pw w0):
  zC 119 #[mv,im.ptr (hd R (6,W.cQ,m)),.agg (zW op a b)] w (Rz cJ W G R H w (Ig (W.dZ 1) (pv 1 (nv 0) x))):=by
 obtain⟨f,hf,_⟩:=h.ptr;have L:=cO (λX (J:zB w X)=>(h.below J).fU h1 hx);have HF:=cO hf;have stx:=(gm (hd R) x).store;have NV:=cO (λX=>nK (w:=X) 0);have OP:Hid (∀X,zB w0 X->zC 165 #[zI 1,.agg #[zI 2,zI 0,zT,.nilIface],jX G (hd R) x] X λe w'=>Bn (pv 1 (nv 0) x) e/\zB X w'):=λX J=>wQ (Z:=hd R) (w:=X) (x:=nv 0) cM nm (rF _ cM cM) F ⟨λk hk=>di (tb.kn k hk) J,λk hk=>di (tb.sn k hk) J⟩ (Lib.tabBelow_of_tabIs pw X J);have BL:=cO (λR4 X (k:Kp (eY W G R) (eY (W.dZ 1) G R4) w X)=>show zB w0 X from E.trans (k.below E.size λq hq=>cV I (eY.from h.im hq)));have aa:Hid (∀e,Bn (pv 1 (nv 0) x) e->(∃v:Vl,pv 1 (nv 0) x=.inl v/\e=.returned (.agg #[zI v.k,zI v.n,.string ⟨v.s.toArray⟩,.nilIface]))\/∃s:List UInt8,pv 1 (nv 0) x=.inr s/\e=.panicked (BM (.agg #[zI 3,zI 0,.string ⟨s.toArray⟩,.nilIface]))):=λe h=>by
  cases D:pv 1 (nv 0) x with
  |inl v=>rw[D]at h;exact .inl ⟨v,rfl,h⟩
  |inr s=>rw[D]at h;exact .inr ⟨s,rfl,h⟩
 have BP:=cO (λv (D:pv 1 (nv 0) x=.inl v)=>Bs D);obtain⟨tx,K⟩:∃t,t=dV (hd R) x:=⟨_,rfl⟩
 rw[hf]at L|-;unfold jX vq at L OP;rw[<-K]at stx OP L;generalize pv 1 (nv 0) x=r at*;clear h hf K hx h1 nm F tb pw E I;go_enter func119,ntmps119;go_wp2_with(first
  |(go_at_call 61;refine cA (NV _) ?_;rintro e w2 ⟨rfl,b2⟩;have B2:=cO (((cN w.heap.size w).alloc (cE _) (.cells (zW op a b) 105)).trans (b2.mono dC));clear b2)
  |(go_at_call 161;refine cA (L _ B2) ?_;rintro e w3 ⟨rfl,R3,c3,d3,k3⟩;have D3:=cO d3;have C3:=cO c3;have K3:=cO ((Kp.cY B2).trans k3);have ab:=cO (OP w3 (BL R3 w3 K3));clear c3 d3 k3)
  |(go_at_call 165;refine cA ab ?_;rintro e w6 ⟨bn,b6⟩;have M:=cO b6;clear b6;obtain⟨v,D,rfl⟩|⟨s,D,rfl⟩:=aa _ bn;have HB:=cO D;have O:=(C3.below M).push v;rw[show hd R3 (6,(W.dZ 1).cQ,m)=hd R (6,W.cQ,m)from D3 _ dC,HF,AE (BP v D)]at O;replace O:=cO O;clear D bn)
  |(go_at_call 159;refine cA O ?_;rintro e w7 ⟨⟨x7,rfl⟩,R7,u7,i7,d7,k7⟩;have I7:=cO i7;have D7:=cO d7;have K7:=cO ((K3.trans (Kp.cY M)).trans k7);clear i7 d7 k7))
 .go_returns;rw[HB];exact⟨⟨_,rfl⟩,R7,I7,λt _ ht=>by rw[D7,dL (λe=>ht (by rw[e]))];exact D3 t ht,K7⟩
 .refine⟨rfl,?_⟩;try rw[D]
  exact⟨rfl,R3,C3.im.below M,λt _ ht=>D3 t ht,K3.trans (Kp.cY M)⟩
end im
end Go.Proofs.YtfpkdfeakanlpaaGreatDoor
