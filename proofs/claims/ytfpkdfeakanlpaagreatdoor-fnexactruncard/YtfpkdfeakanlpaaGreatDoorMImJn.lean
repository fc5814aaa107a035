import Derived.LoopN
import Derived.Laws.Concat
import Derived.Test.YtfpkdfeakanlpaaGreatDoorMImFunB
set_option linter.all false
set_option maxRecDepth 100000
set_option maxHeartbeats 8000000
namespace Go.Proofs.YtfpkdfeakanlpaaGreatDoor
open Go.Proofs.Tryz
namespace im
open RowKit bts pg rn chk fmt
variable{G:Gh}{z:Sz}{Z:eO→Value}{x y:Vl}{w w0 w1:World}
def Bn(r:Vl ⊕ List UInt8)(e:Ending):Prop:=match r with
 |.inl v=>e=.returned (vq v.k v.n ⟨v.s.toArray⟩ .nilIface)
 |.inr s=>e=.panicked (BM (vq 3 0 ⟨s.toArray⟩ .nilIface))
def Uy{X:World}(a b:Int)(s:ByteArray)(t:Value)(h D:Int)(E:ByteArray)(F:Value)(i:Bool):(Instr.index 266 (.agg #[.int .i64 a,.int .i64 b,.string s,t,.int .i64 h,.int .i64 D,.string E,F]) (.int .i64 (if i then 1 else 0))).run Tryz.prog X=.ok (if i then .agg #[.int .i64 h,.int .i64 D,.string E,F]else .agg #[.int .i64 a,.int .i64 b,.string s,t]) X:=by cases i<;>kernel_rfl
def N9(w:World)(a b c:Array Value)(D E F:TypeId):Lc (λ_=>False) (((w.alloc (.cells a D)).alloc (.cells b E)).alloc (.cells c F)) w.heap.size a D/\Lc (λ_=>False) (((w.alloc (.cells a D)).alloc (.cells b E)).alloc (.cells c F)) (w.heap.size+1) b E/\Lc (λ_=>False) (((w.alloc (.cells a D)).alloc (.cells b E)).alloc (.cells c F)) (w.heap.size+1+1) c F:=by have n:=λ(w:World) K L=>Lc.new (S:=λ_=>False) w (λ_ h=>h.elim) K L;have I:=n (w.alloc (.cells a D)) b E;have J:=n ((w.alloc (.cells a D)).alloc (.cells b E)) c F;rw[dk]at I;rw[dk,dk]at J;exact⟨((n w a D).alloc _).alloc _,I.alloc _,J⟩
def Hj(hx:gG z x)(hy:gG z y)(tb:Tb w)(pw:Pw w):zC 185 #[jX G Z x,jX G Z y] w λe w'=>Bn (pv 5 x y) e/\zB w w':=by
 have SX:=cO (λX (hX:zB w X)=>oX (w:=X) (G:=G) (Z:=Z) hx ⟨λk hk=>di (tb.kn k hk) hX,λk hk=>di (tb.sn k hk) hX⟩ (Lib.tabBelow_of_tabIs pw X hX));have SY:=cO (λX (hX:zB w X)=>oX (w:=X) (G:=G) (Z:=Z) hy ⟨λk hk=>di (tb.kn k hk) hX,λk hk=>di (tb.sn k hk) hX⟩ (Lib.tabBelow_of_tabIs pw X hX));have lx:=mM hx;have ly:=mM hy;obtain⟨sx,J⟩:∃s:ByteArray,s=⟨(jY x).toArray⟩:=⟨_,rfl⟩
 obtain⟨sy,K⟩:∃s:ByteArray,s=⟨(jY y).toArray⟩:=⟨_,rfl⟩
 obtain⟨sb,L⟩:∃s:ByteArray,s=⟨(jY x++jY y).toArray⟩:=⟨_,rfl⟩
 have zx:sx.size=(jY x).length:=by rw[J];rfl
 have zy:sy.size=(jY y).length:=by rw[K];rfl
 have ad:sx++sy=sb:=J▸K▸L▸nE _ _;have ab:sb.size=(jY x).length+(jY y).length:=by rw[L];show(jY x++jY y).toArray.size=_;simp
 have ae:¬9223372036854775807<sx.size+sy.size:=cM;rw[<-J]at SX;rw[<-K]at SY;obtain⟨r,hr⟩:=eX (pv 5 x y);rw[<-hr];have M:Hid (r=if (x.k=2\/x.k=3)/\(y.k=2\/y.k=3)then(if 5000<(jY x).length+(jY y).length then .inr yX else .inl (tv (jY x++jY y)))else .inr Hv):=by rw[hr];unfold pv;rw[cK iM,cK iM,cR rfl];dsimp only;rw[dq];exact rfl
 have RA:=cO (λX s=>jR (w:=X) s);have TV:=cO (λX=>ki (w:=X) sb);unfold vq at TV;unfold jX vq at SX SY|-;have ts:=(gm Z x).store;have us:=(gm Z y).store;have i0:=λX=>Uy (X:=X) x.k (hC G x) ⟨x.s.toArray⟩ (dV Z x) y.k (hC G y) ⟨y.s.toArray⟩ (dV Z y) false;have i1:=λX=>Uy (X:=X) x.k (hC G x) ⟨x.s.toArray⟩ (dV Z x) y.k (hC G y) ⟨y.s.toArray⟩ (dV Z y) true;rw[cK iM]at i0;rw[cR rfl]at i1;have ac:=cO L;generalize dV Z x=tx at*;generalize dV Z y=ty at*;generalize(⟨x.s.toArray⟩:ByteArray)=xs at*;generalize(⟨y.s.toArray⟩:ByteArray)=ys at*;generalize hC G x=xn at*;generalize hC G y=yn at*;generalize x.k=D at*;generalize y.k=E at*;generalize(jY x).length=n1 at*;generalize(jY y).length=n2 at*;clear hx hy tb pw J K L hr;have RC:=cO (λX=>jR (w:=X) ⟨Hv.toArray⟩);have RL:=cO (λX=>jR (w:=X) ⟨yX.toArray⟩);unfold Hv at RC;unfold yX at RL;unfold vq at RC RL;clear RA;obtain⟨qx,q1⟩|⟨qx,q1,q2⟩:=(by by_cases a:D=2<;>by_cases b:D=3<;>simp[a,b]:((D=2\/D=3)/\(((D != 2)=false)\/((D != 2)=true/\(D != 3)=false)))\/(¬(D=2\/D=3)/\(D != 2)=true/\(D != 3)=true))
 rotate_left
 .rw[cK (λh=>qx h.1)]at M;clear qx;go_enter Tp,Q9;go_wp2;refine tL 3 ?_;rw[pN];go_wp2_with(go_at_call 164;refine cA (RC _) ?_;rintro e w3 ⟨rfl,b3⟩;have B3:=cO b3;clear b3)
  refine⟨rfl,M▸rfl,?_⟩;exact jW (by go_grown) (B3.mono (by go_grown))
 obtain⟨qy,q3⟩|⟨qy,q3,q4⟩:=(by by_cases a:E=2<;>by_cases b:E=3<;>simp[a,b]:((E=2\/E=3)/\(((E != 2)=false)\/((E != 2)=true/\(E != 3)=false)))\/(¬(E=2\/E=3)/\(E != 2)=true/\(E != 3)=true))
 rotate_left
 .rw[cK (λh=>qy h.2)]at M;clear qx qy;obtain q1|⟨q1,q2⟩:=q1;all_goals
   go_enter Tp,Q9;go_wp2;refine tL 3 ?_;rw[pN];go_wp2;rw[pN];go_wp2_with(go_at_call 164;refine cA (RC _) ?_;rintro e w3 ⟨rfl,b3⟩;have B3:=cO b3;clear b3)
   refine⟨rfl,M▸rfl,?_⟩;exact jW (by go_grown) (B3.mono (by go_grown))
 rw[cR ⟨qx,qy⟩]at M;clear qx qy;obtain q1|⟨q1,q2⟩:=q1<;>obtain q3|⟨q3,q4⟩:=q3;all_goals
  go_enter Tp,Q9;go_wp2;refine tL 3 ?_;rw[pN];go_wp2;rw[pN];go_wp2;rw[pN];go_wp2;refine dx λF I=>?_;have B5:=cO (show zB w F by rw[I];go_grown);have LX:Hid (Lc (λ_=>False) F w.heap.size #[zI D,zI xn,.string xs,tx] 132):=I▸((N9 w _ _ _ _ _ _).1.alloc _).alloc _;have LY:Hid (Lc (λ_=>False) F (w.heap.size+1) #[zI E,zI yn,.string ys,ty] 132):=I▸((N9 w _ _ _ _ _ _).2.1.alloc _).alloc _;have LZ:Hid (Lc (λ_=>False) F (w.heap.size+1+1) #[zI 0,zI 0,zT,.nilIface] 132):=I▸((N9 w _ _ _ _ _ _).2.2.alloc _).alloc _;clear I;obtain⟨S,hS⟩:=eX (Below F.heap.size F);have O:∀X,S X->zB F X:=λX q=>by rw[hS]at q;exact q
  have a0:=λx:Wd S=>di (LX.cell (j:=0) rfl) (O _ x.ok);have a1:=λx:Wd S=>di (LX.cell (j:=1) rfl) (O _ x.ok);have a2:=λx:Wd S=>di (LX.cell (j:=2) rfl) (O _ x.ok);have a3:=λx:Wd S=>di (LX.cell (j:=3) rfl) (O _ x.ok);have b0:=λx:Wd S=>di (LY.cell (j:=0) rfl) (O _ x.ok);have b1:=λx:Wd S=>di (LY.cell (j:=1) rfl) (O _ x.ok);have b2:=λx:Wd S=>di (LY.cell (j:=2) rfl) (O _ x.ok);have b3:=λx:Wd S=>di (LY.cell (j:=3) rfl) (O _ x.ok);have MK:Hid (∀X,zB F X->S X):=λX q=>hS▸q;clear hS O;haveI:Nonempty (Wd S):=⟨⟨F,MK _ (cN _ _)⟩⟩
  refine Cg S [0,2] [1,3] [4,5] (MK _ (cN _ _).drew) ?_;simp only[pick,ey,eB,eL,eM,dt,dG];repeat(go_big_quiet_step(fail))
  refine wpQuiet_nil ?_;clear a0 a1 a2 a3 b0 b1 b2 b3;refine dI ?_;go_wp2_with(go_at_call 146;refine cA (SX _ B5.drew) ?_;rintro e w6 ⟨rfl,b6⟩;have B6:=cO ((cN F.heap.size F).drew.trans b6);clear b6)
  refine⟨MK _ B6,?_⟩;refine dI ?_;go_wp2_with(go_at_call 146;refine cA (SY _ (iy B5 B6)) ?_;rintro e w7 ⟨rfl,b7⟩;have B7:=cO (iy B6 b7);clear b7)
  refine⟨MK _ B7,?_⟩;refine ej ?_;by_cases hl:5000<n1+n2
  .rw[cR hl]at M;have aa:(5000:Int)<((n1+n2:Nat):Int):=cM;rw[<-ab]at aa;go_wp2_with(go_at_call 164;refine cA (RL _) ?_;rintro e w8 ⟨rfl,b8⟩;have B8:=cO (iy B7 b8);clear b8)
   exact⟨rfl,M▸rfl,iy B5 B8⟩
  .rw[cK hl]at M;have aa:¬(5000:Int)<((n1+n2:Nat):Int):=cM;rw[<-ab]at aa;obtain⟨q0,af,ag,ah⟩:=LZ.c4;go_wp2_with(go_at_call 62;refine cA (TV _) ?_;rintro e w8 ⟨rfl,b8⟩;have B8:=cO (iy B7 b8);have L8:=cO (LZ.kept (Kp.cY (iy B7 b8)));obtain⟨z0,z1,z2,z3⟩:=L8.c4;have zf:=L8.free;clear b8)
   refine eS (v:=.agg #[zI 3,zI 0,.string sb,.nilIface]) (Ci results185 rfl (mb L8.2 _ _ _ _)) rfl ?_;refine⟨by rw[M];show _=Ending.returned (vq 3 0 ⟨(jY x++jY y).toArray⟩ .nilIface);rw[<-ac];rfl,qM (iy B5 B8) cM _ _ _ _⟩
end im
end Go.Proofs.YtfpkdfeakanlpaaGreatDoor
