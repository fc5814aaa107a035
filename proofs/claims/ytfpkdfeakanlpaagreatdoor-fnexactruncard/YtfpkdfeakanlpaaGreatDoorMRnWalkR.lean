import Derived.Test.YtfpkdfeakanlpaaGreatDoorMRnWalkQ
set_option linter.all false
set_option maxRecDepth 100000
set_option maxHeartbeats 8000000
namespace Go.Proofs.YtfpkdfeakanlpaaGreatDoor
open Go.Proofs.Tryz
namespace rn
open RowKit bts pg chk
variable{rz rz':Bool×Vl}{f:Fr}{H H':Hd}{op:Int}{cJ g:Nat}{V W:St}{R R':eO→fW}{x y:Vl}{w w1:World}
def xV(M:Sp cJ g W R H rz w){s:List UInt8}(I:(op=5/\s=Hv/\¬((x.k=2\/x.k=3)/\(y.k=2\/y.k=3)))\/(7<op/\s=Bl/\¬(x.k=3/\y.k=3)/\¬(x.k=2/\y.k=2))\/(op<5/\s=nz/\¬(x.k=2/\y.k=2))):zC 88 #[zP g,zI op,vv x,vv y] w λe w'=>(∃u,e=.returned (vv u)/\∀z,gG z u)/\Sp cJ g W R H (true,tv s) w'/\zK g W R w w':=by
 obtain⟨xs,J,_,L⟩:=qn x;obtain⟨ys,K,_,O⟩:=qn y;rw[J,K];have HW:=cO (λk (hk:Ft g W R k)=>Ft.lt M hk);have aa:=cO (λX=>jo s X);have ab:=cO (λX (hX:Sp cJ g W R H rz X)=>lT hX (tv s));clear J L K O;generalize x.k=h at*;generalize y.k=D at*;obtain⟨rfl,rfl,I⟩|⟨ho,rfl,I⟩|⟨ho,rfl,I⟩:=I;all_goals cases c1:(h==2)<;>cases c2:(h==3)<;>cases c3:(D==2)<;>cases c4:(D==3)
 all_goals
  have d1:=c1;have d2:=c2;have d3:=c3;have d4:=c4;simp at d1 d2 d3 d4
 all_goals try(exfalso;omega)
 all_goals
  clear d1 d2 d3 d4 I;have b1:(h != 2)=!(h==2):=rfl;have b2:(h != 3)=!(h==3):=rfl;have b3:(D != 2)=!(D==2):=rfl;have b4:(D != 3)=!(D==3):=rfl;rw[c1]at b1;rw[c2]at b2;rw[c3]at b3;rw[c4]at b4;try have p5:(op==5)=false:=iY
  try have p6:(op==6)=false:=iY
  try have p7:(op==7)=false:=iY
  try have o5:¬op=5:=cM
  try have o6:¬op=6:=cM
  try have o7:¬op=7:=cM
  try have ac:¬7<op:=cM
  simp only[Rf,OG]at b1 b2 b3 b4;go_enter ou,nC;go_wp2_with(first
   |(go_at_call 46;refine cA (aa _) ?_;rintro e w5 ⟨rfl,b5⟩;have B5:=cO ((((ba).alloc dC _).alloc ti _).trans (b5.mono ti));have LL:=(Lc.new ((w.alloc (.cells (zV h x.n xs) 56)).alloc (.cells (zV D y.n ys) 56)) (S:=Ft g W R) (λk hk=>by have:=HW k hk;simp only[dk];omega) (zV 0 0 ⟨#[]⟩) 56).kept (Kp.cY b5);rw[dk,dk]at LL;clear b5)
   |(go_at_call 45;refine cA (ab _ (M.below B5)) ?_;rintro e w6 ⟨⟨x,rfl⟩,h6,k6⟩;have K6:=cO ((Kp.cY B5).trans k6);have F:=LL.kept k6;have E:=cO F.1;have r0:=F.cell (j:=0) (u:=zI 0) rfl;have r1:=F.cell (j:=1) (u:=zI 0) rfl;have r2:=F.cell (j:=2) (u:=zT) rfl;have rf:=F.free;clear k6 F))
  obtain⟨z0,z1,z2⟩:=mL (w:=w6) r0 r1 r2;refine eS (v:=.agg (zV 0 0 ⟨#[]⟩)) (by simp[results,zQ,go_sem,z0,z1,z2]) rfl ?_;have hB:w.heap.size<=w.heap.size+1+1:=cM;exact⟨⟨v0,rfl,xu⟩,((h6.off (a:=(zA _ 0)) E _).off (a:=(zA _ 1)) E _).off (a:=(zA _ 2)) E _,((K6.off (a:=(zA _ 0)) hB _).off (a:=(zA _ 1)) hB _).off (a:=(zA _ 2)) hB _⟩
end rn
end Go.Proofs.YtfpkdfeakanlpaaGreatDoor
