import Derived.Test.YtfpkdfeakanlpaaGreatDoorMRnWalkR
set_option linter.all false
set_option maxRecDepth 100000
set_option maxHeartbeats 8000000
namespace Go.Proofs.YtfpkdfeakanlpaaGreatDoor
open Go.Proofs.Tryz
namespace rn
open RowKit bts pg chk
variable{rz rz':Bool×Vl}{h xs:ByteArray}{f:Fr}{H H':Hd}{D E op z:Int}{L:List (Vl×Vl)}{a b cJ c cv g i j:Nat}{V W:St}{R R':eO→fW}{k v x y:Vl}{w w1:World}
def Jj(M:Sp cJ g W R H rz w)(hx:x.k=2\/x.k=3)(hy:y.k=2\/y.k=3)(vx:gG W.sz x)(vy:gG W.sz y):Calls Tryz.prog 88 #[.pointer (some ⟨g,0,none⟩),.int .i64 5,vv x,vv y] w λe w'=>if 5000<(jY x++jY y).length then(∃u,e=.returned (vv u)/\∀z,gG z u)/\Sp cJ g W R H (true,tv yX) w'/\Kp (Ft g W R) (Ft g W R) w w' else e=.returned (vv (tv (jY x++jY y)))/\Below w.heap.size w w':=by
 obtain⟨xs,O,_,ad⟩:=qn x;obtain⟨ys,aa,_,ae⟩:=qn y;rw[O,aa];have ab:∀k,Ft g W R k->k<w.heap.size:=λk I=>Ft.lt M I;have af:=cO (λX=>jo yX X);have ag:=cO (λX (hX:Sp cJ g W R H rz X)=>lT hX (tv yX));have SX:=cO (λX=>om x vx X);have SY:=cO (λX=>om y vy X);rw[O]at SX;rw[aa]at SY;have lx:=mM vx;have ly:=mM vy;obtain⟨sx,J⟩:=eX (⟨(jY x).toArray⟩:ByteArray);obtain⟨sy,K⟩:=eX (⟨(jY y).toArray⟩:ByteArray);obtain⟨sb,D⟩:=eX (⟨(jY x++jY y).toArray⟩:ByteArray);rw[kJ J.symm]at SX;rw[kJ K.symm]at SY;have ai:sx++sy=sb:=J▸K▸D▸nE _ _;have hz:¬9223372036854775807<sx.size+sy.size:=by rw[J,K];simp[ByteArray.size];omega
 obtain⟨n,hn⟩:=eX ((jY x++jY y).length);have aj:sb.size=n:=by rw[D,hn];simp[ByteArray.size]
 have SB:Hid (∀X,Calls Tryz.prog 46 #[.string sb] X λe w'=>e=.returned (.agg #[.int .i64 3,.int .i64 0,.string sb])/\Below X.heap.size X w'):=by intro X;have:=jo (jY x++jY y) X;rw[kJ D.symm]at this;unfold vv tv at this;dsimp only at this;rwa[kJ D.symm]at this
 rw[<-hn];have ah:Hid (vv (tv (jY x++jY y))=.agg #[.int .i64 3,.int .i64 0,.string sb]):=by unfold vv tv;dsimp only;rw[kJ D.symm];exact rfl
 have kx:((x.k != 2)=false/\(x.k != 3)=true)\/((x.k != 2)=true/\(x.k != 3)=false):=by obtain h|h:=hx<;>rw[h]<;>simp
 have ky:((y.k != 2)=false/\(y.k != 3)=true)\/((y.k != 2)=true/\(y.k != 3)=false):=by obtain h|h:=hy<;>rw[h]<;>simp
 generalize x.k=xk at*;generalize x.n=xn at*;generalize y.k=yk at*;generalize y.n=yn at*;clear hx hy vx vy J K D hn lx ly;clear O ad aa ae;obtain⟨q1,q2⟩|⟨q1,q2⟩:=kx<;>obtain⟨q3,q4⟩|⟨q3,q4⟩:=ky;all_goals
  go_enter ou,nC;go_wp2_with fail;refine dx λw4 E=>?_;have L:Hid (Below w.heap.size w w4):=by rw[E];exact(((cN _ _).alloc (cE _) _).alloc dC _).alloc ti _
  have LX:Hid (Lc (Ft g W R) w4 w.heap.size #[.int .i64 xk,.int .i64 xn,.string xs] 56):=by rw[E];exact((Lc.new w ab _ _).alloc _).alloc _
  have LY:Hid (Lc (Ft g W R) w4 (w.heap.size+1) #[.int .i64 yk,.int .i64 yn,.string ys] 56):=by have:=(Lc.new (S:=Ft g W R) (w.alloc (.cells #[.int .i64 xk,.int .i64 xn,.string xs] 56)) (λk I=>by have:=ab k I;simp only[dk];omega) #[.int .i64 yk,.int .i64 yn,.string ys] 56).alloc (.cells #[.int .i64 0,.int .i64 0,.string ⟨#[]⟩] 56);rw[dk]at this;rw[E];exact this
  have LR:Hid (Lc (Ft g W R) w4 (w.heap.size+1+1) #[.int .i64 0,.int .i64 0,.string ⟨#[]⟩] 56):=by have:=Lc.new (S:=Ft g W R) ((w.alloc (.cells #[.int .i64 xk,.int .i64 xn,.string xs] 56)).alloc (.cells #[.int .i64 yk,.int .i64 yn,.string ys] 56)) (λk I=>by have:=ab k I;simp only[dk];omega) #[.int .i64 0,.int .i64 0,.string ⟨#[]⟩] 56;rw[dk,dk]at this;rw[E];exact this
  clear E;obtain⟨S,F⟩:=eX (fI w4 none);have y0:=λz:Wd S=>z.cell F (LX.cell (j:=0) rfl) dC;have y1:=λz:Wd S=>z.cell F (LX.cell (j:=1) rfl) dC;have y2:=λz:Wd S=>z.cell F (LX.cell (j:=2) rfl) dC;have y3:=λz:Wd S=>z.cell F (LY.cell (j:=0) rfl) dC;have y4:=λz:Wd S=>z.cell F (LY.cell (j:=1) rfl) dC;have y5:=λz:Wd S=>z.cell F (LY.cell (j:=2) rfl) dC;haveI:Nonempty (Wd S):=⟨⟨w4,F▸fI.refl _ _⟩⟩
  refine pT S [0,2] [1,3] [4,5] gA (by rfl) gA (λd _ _ _ _ h=>by cases d<;>exact h) (F▸(fI.refl _ _).drew) ?_;simp only[pick,ey,eB,eL,eM,dt,dG];repeat(go_big_quiet_step(fail))
  refine wpQuiet_nil ?_;refine dI ?_;clear y0 y1 y2 y3 y4 y5;go_wp2_with(go_at_call 79;refine cA (SX _) ?_;rintro e w5 ⟨rfl,b5⟩;have B5:=cO ((cN _ w4).drew.trans b5);clear b5)
  refine⟨F▸⟨B5.size,λk I _=>B5.block k I⟩,?_⟩;refine dI ?_;go_wp2_with(go_at_call 79;refine cA (SY _) ?_;rintro e w6 ⟨rfl,b6⟩;have B6:=cO (B5.trans (b6.mono B5.size));clear b6)
  refine⟨F▸⟨B6.size,λk I _=>B6.block k I⟩,?_⟩;refine ej ?_;by_cases hl:5000<n
  .go_wp2_with(first
    |(go_at_call 46;refine cA (af _) ?_;rintro e w7 ⟨rfl,b7⟩;have C7:=cO (B6.trans (b7.mono B6.size));have B7:=cO (L.trans (C7.mono L.size));have L7:=cO (LR.kept (Kp.cY C7));clear b7)
    |(go_at_call 45;refine cA (ag _ (M.below B7)) ?_;rintro e w8 ⟨⟨x,rfl⟩,h6,k6⟩;have K6:=cO ((Kp.cY B7).trans k6);have L6:=L7.kept k6;have ac:=cO L6.1;have r0:=L6.cell (j:=0) (u:=.int .i64 0) rfl;have r1:=L6.cell (j:=1) (u:=.int .i64 0) rfl;have r2:=L6.cell (j:=2) (u:=.string ⟨#[]⟩) rfl;have rf:=L6.free;clear k6 L6))
   obtain⟨z0,z1,z2⟩:=mL (w:=w8) r0 r1 r2;refine eS (v:=.agg #[.int .i64 0,.int .i64 0,.string ⟨#[]⟩]) (by simp[results,zQ,go_sem,z0,z1,z2]) rfl ?_;have hB:w.heap.size<=w.heap.size+1+1:=cM;exact⟨⟨v0,rfl,xu⟩,((h6.off (a:=⟨_,0,none⟩) ac _).off (a:=⟨_,1,none⟩) ac _).off (a:=⟨_,2,none⟩) ac _,((K6.off (a:=⟨_,0,none⟩) hB _).off (a:=⟨_,1,none⟩) hB _).off (a:=⟨_,2,none⟩) hB _⟩
  .go_wp2_with(go_at_call 46;refine cA (SB _) ?_;rintro e w7 ⟨rfl,b7⟩;have C7:=cO (B6.trans (b7.mono B6.size));have B7:=cO (L.trans (C7.mono L.size));have L7:=cO (LR.kept (Kp.cY C7));have r0:=L7.cell (j:=0) (u:=.int .i64 0) rfl;have r1:=L7.cell (j:=1) (u:=.int .i64 0) rfl;have r2:=L7.cell (j:=2) (u:=.string ⟨#[]⟩) rfl;have rf:=L7.free;clear b7)
   obtain⟨z0,z1,z2⟩:=mL (w:=w7) r0 r1 r2;refine eS (v:=.agg #[.int .i64 3,.int .i64 0,.string sb]) (by simp[results,zQ,go_sem,z0,z1,z2]) rfl ?_;have hB:w.heap.size<=w.heap.size+1+1:=cM;exact⟨by rw[ah],((B7.setCell (p:=⟨_,0,none⟩) hB _).setCell (p:=⟨_,1,none⟩) hB _).setCell (p:=⟨_,2,none⟩) hB _⟩
def RW(L:0<=op/\op<=4)(I:x.k=2)(J:y.k=2)(K:mZ op x.n y.n=some z):zC 88 #[zP g,zI op,vv x,vv y] w (zR w (vv (nv z))):=by
 have M:¬op=5:=cM;have O:¬op=6:=cM;have o7:¬op=7:=cM;have p5:(op==5)=false:=by simpa using M
 have p6:(op==6)=false:=by simpa using O
 have p7:(op==7)=false:=by simpa using o7
 have aa:¬7<op:=cM;obtain⟨xs,h,_,E⟩:=qn x;obtain⟨ys,D,_,F⟩:=qn y;rw[h,D];have AR:Hid (∀X,zC 151 (zW op x.n y.n) X λe w'=>e=.returned (.tuple #[zI z,zI 0])/\w'=X):=by intro X;have:=By (a:=x.n) (b:=y.n) L X;rwa[K]at this
 clear h E D F K;rw[I,J];clear I J;generalize x.n=xn at*;generalize y.n=yn at*;go_enter ou,nC;go_wp2_with(go_at_call 151;refine cA (AR _) ?_;rintro e w5 ⟨rfl,rfl⟩)
 go_returns;exact⟨rfl,(((ba).alloc dC _).alloc ti _)⟩
def RR(O:8<=op/\op<=11)(L:x.k=2)(M:y.k=2):zC 88 #[zP g,zI op,vv x,vv y] w λe E=>e=.returned (vv (bv (holds op (decide (x.n<y.n)) (decide (y.n<x.n)))))/\zB w E:=by
 have o5:¬op=5:=cM;have o6:¬op=6:=cM;have o7:¬op=7:=cM;have p5:(op==5)=false:=by simpa using o5
 have p6:(op==6)=false:=by simpa using o6
 have p7:(op==7)=false:=by simpa using o7
 have aa:7<op:=cM;obtain⟨xs,h,_,F⟩:=qn x;obtain⟨ys,D,_,I⟩:=qn y;rw[h,D];obtain⟨z,J⟩:=eX (Bv (holds op (decide (x.n<y.n)) (decide (y.n<x.n))));have AR:Hid (∀X,zC 151 (zW op x.n y.n) X λe E=>e=.returned (.tuple #[zI z,zI 0])/\E=X):=by intro X;rw[J];exact AY O X
 have K:Hid (vv (bv (holds op (decide (x.n<y.n)) (decide (y.n<x.n))))=.agg (zV 1 z ⟨#[]⟩)):=J▸rfl;clear h F D I J;rw[L,M];clear L M;generalize x.n=xn at*;generalize y.n=yn at*;go_enter ou,nC;go_wp2_with(go_at_call 151;refine cA (AR _) ?_;rintro e w5 ⟨rfl,rfl⟩)
 go_returns;exact⟨by rw[K],(((ba).alloc dC _).alloc ti _)⟩
def MR(M:Sp cJ g W R H rz w)(ho:0<=op/\op<=4)(hx:x.k=2)(hy:y.k=2)(hz:mZ op x.n y.n=none):zC 88 #[zP g,zI op,vv x,vv y] w λe I=>(∃u,e=.returned (vv u)/\∀z,gG z u)/\Sp cJ g W R H (true,tv vM) I/\zK g W R w I:=by
 have o5:¬op=5:=cM;have o6:¬op=6:=cM;have o7:¬op=7:=cM;have p5:(op==5)=false:=by simpa using o5
 have p6:(op==6)=false:=by simpa using o6
 have p7:(op==7)=false:=by simpa using o7
 have ac:¬7<op:=cM;have AR:Hid (∀X,zC 151 (zW op x.n y.n) X λe I=>e=.returned (.tuple #[zI 0,zI 5])/\I=X):=by intro X;have:=By (a:=x.n) (b:=y.n) ho X;rwa[hz]at this
 clear hz;obtain⟨xs,E,_,J⟩:=qn x;obtain⟨ys,F,_,K⟩:=qn y;rw[E,F];have L:∀k,Ft g W R k->k<w.heap.size:=λk O=>Ft.lt M O;have aa:=cO (λX=>jo vM X);have ab:=cO (λX (hX:Sp cJ g W R H rz X)=>lT hX (tv vM));clear E J F K;rw[hx,hy];clear hx hy;go_enter ou,nC;go_wp2_with(first
  |(go_at_call 151;refine cA (AR _) ?_;rintro e w5 ⟨rfl,rfl⟩)
  |(go_at_call 46;refine cA (aa _) ?_;rintro e w5 ⟨rfl,b5⟩;have B5:=cO ((((ba).alloc dC _).alloc ti _).trans (b5.mono ti));have LL:=(Lc.new ((w.alloc (.cells (zV 2 x.n xs) 56)).alloc (.cells (zV 2 y.n ys) 56)) (S:=Ft g W R) (λk O=>by have:=L k O;simp only[dk];omega) (zV 0 0 ⟨#[]⟩) 56).kept (Kp.cY b5);rw[dk,dk]at LL;clear b5)
  |(go_at_call 45;refine cA (ab _ (M.below B5)) ?_;rintro e w6 ⟨⟨x,rfl⟩,h6,k6⟩;have K6:=cO ((Kp.cY B5).trans k6);have D:=LL.kept k6;have h:=cO D.1;have r0:=D.cell (j:=0) (u:=zI 0) rfl;have r1:=D.cell (j:=1) (u:=zI 0) rfl;have r2:=D.cell (j:=2) (u:=zT) rfl;have rf:=D.free;clear k6 D))
 obtain⟨z0,z1,z2⟩:=mL (w:=w6) r0 r1 r2;refine eS (v:=.agg (zV 2 0 ⟨#[]⟩)) (by simp[results,zQ,go_sem,z0,z1,z2]) rfl ?_;have hB:w.heap.size<=w.heap.size+1+1:=cM;exact⟨⟨nv 0,rfl,λz=>rF z cM cM⟩,((h6.off (a:=(zA _ 0)) h _).off (a:=(zA _ 1)) h _).off (a:=(zA _ 2)) h _,((K6.off (a:=(zA _ 0)) hB _).off (a:=(zA _ 1)) hB _).off (a:=(zA _ 2)) hB _⟩
def Cx:∀l m:List UInt8,Op.bytesLess l m=sD l m
 |l,[]=>by cases l<;>rfl
 |[],y::m=>rfl
 |x::l,y::m=>by
  show(decide (x<y) || (x==y&&Op.bytesLess l m))=if x=y then sD l m else decide (x<y);rw[Cx l m];by_cases h:x=y
  .subst h;simp
  .simp[h]
def yH:∀l:List UInt8,sD l l=false
 |[]=>rfl
 |x::l=>by unfold sD;rw[cR rfl];exact yH l
def xH:∀l m:List UInt8,(!(sD l m || l==m))=sD m l
 |[],[]=>rfl
 |x::l,[]=>rfl
 |[],y::m=>rfl
 |x::l,y::m=>by
  have D:=xH l m;unfold sD;by_cases e:x=y
  .subst e;rw[cR rfl,cR rfl,<-D];simp
  .rw[cK e,cK (λq=>e q.symm)];have E:((x::l)==(y::m))=false:=by simp[e]
   rw[E,Bool.or_false];obtain h|h:=UInt8.lt_or_lt_of_ne e
   .rw[fM h,fj (UInt8.lt_asymm h)];rfl
   .rw[fM h,fj (UInt8.lt_asymm h)];rfl
def OR(M:8<=op/\op<=11)(O:Op.bytesLess xs.toList h.toList=true)(hg:(xs.toList==h.toList)=false)(F:Hid (∀X,zC 151 (zW op 0 1) X λe w'=>e=.returned (.tuple #[zI z,zI 0])/\w'=X)):zC 88 #[zP g,zI op,.agg (zV 3 D xs),.agg (zV 3 E h)] w (zR w (.agg (zV 1 z ⟨#[]⟩))):=by
 have I:¬op=5:=cM;have J:¬op=6:=cM;have K:¬op=7:=cM;have p5:(op==5)=false:=by simpa using I
 have p6:(op==6)=false:=by simpa using J
 have p7:(op==7)=false:=by simpa using K
 have L:7<op:=cM;go_enter ou,nC;go_wp2_with(go_at_call 151;refine cA (F _) ?_;rintro e w5 ⟨rfl,rfl⟩)
 go_returns;exact⟨rfl,(((ba).alloc dC _).alloc ti _)⟩
def OS(M:8<=op/\op<=11)(O:Op.bytesLess xs.toList h.toList=false)(hg:(xs.toList==h.toList)=false)(F:Hid (∀X,zC 151 (zW op 1 0) X λe w'=>e=.returned (.tuple #[zI z,zI 0])/\w'=X)):zC 88 #[zP g,zI op,.agg (zV 3 D xs),.agg (zV 3 E h)] w (zR w (.agg (zV 1 z ⟨#[]⟩))):=by
 have I:¬op=5:=cM;have J:¬op=6:=cM;have K:¬op=7:=cM;have p5:(op==5)=false:=by simpa using I
 have p6:(op==6)=false:=by simpa using J
 have p7:(op==7)=false:=by simpa using K
 have L:7<op:=cM;go_enter ou,nC;go_wp2_with(go_at_call 151;refine cA (F _) ?_;rintro e w5 ⟨rfl,rfl⟩)
 go_returns;exact⟨rfl,(((ba).alloc dC _).alloc ti _)⟩
def OT(M:8<=op/\op<=11)(O:Op.bytesLess xs.toList h.toList=false)(hg:(xs.toList==h.toList)=true)(F:Hid (∀X,zC 151 (zW op 0 0) X λe w'=>e=.returned (.tuple #[zI z,zI 0])/\w'=X)):zC 88 #[zP g,zI op,.agg (zV 3 D xs),.agg (zV 3 E h)] w (zR w (.agg (zV 1 z ⟨#[]⟩))):=by
 have I:¬op=5:=cM;have J:¬op=6:=cM;have K:¬op=7:=cM;have p5:(op==5)=false:=by simpa using I
 have p6:(op==6)=false:=by simpa using J
 have p7:(op==7)=false:=by simpa using K
 have L:7<op:=cM;go_enter ou,nC;go_wp2_with(go_at_call 151;refine cA (F _) ?_;rintro e w5 ⟨rfl,rfl⟩)
 go_returns;exact⟨rfl,(((ba).alloc dC _).alloc ti _)⟩
def OQ(ho:8<=op/\op<=11)(hx:x.k=3)(hy:y.k=3):zC 88 #[zP g,zI op,vv x,vv y] w (zR w (vv (bv (holds op (sD x.s y.s) (sD y.s x.s))))):=by
 obtain⟨L,M,_,O⟩:=qn x;obtain⟨ys,aa,_,ab⟩:=qn y;rw[M,aa];have h:L.toList=x.s:=by rw[O,iP]
 have D:ys.toList=y.s:=by rw[ab,iP]
 have l1:Op.bytesLess L.toList ys.toList=sD x.s y.s:=by rw[Cx,h,D]
 have hg:sD y.s x.s=(!(sD x.s y.s || L.toList==ys.toList)):=by rw[h,D];exact(xH x.s y.s).symm
 have J:(L.toList==ys.toList)=true->sD x.s y.s=false:=λe=>by rw[h,D,oq]at e;rw[e];exact yH _
 rw[hx,hy];clear M O aa ab h D hx hy;generalize x.n=xn at*;generalize y.n=yn at*;generalize sD x.s y.s=E at*;generalize sD y.s x.s=F at*;have AR:∀a b:Int,decide (a<b)=E->decide (b<a)=F->Hid (∀X,zC 151 (zW op a b) X λe w'=>e=.returned (.tuple #[zI (Bv (holds op E F)),zI 0])/\w'=X):=by intro a b h1 h2 X;have:=AY (a:=a) (b:=b) ho X;rwa[h1,h2]at this
 have ac:Hid (vv (bv (holds op E F))=.agg (zV 1 (Bv (holds op E F)) ⟨#[]⟩)):=rfl;generalize Bv (holds op E F)=z at*;obtain⟨K,I⟩:∃K,(L.toList==ys.toList)=K:=⟨_,rfl⟩
 rw[I]at hg J;have hc:(E=true/\F=false/\K=false)\/(E=false/\F=true/\K=false)\/(E=false/\F=false/\K=true):=by cases E<;>cases F<;>cases K<;>simp at hg J|-
 rw[ac];clear ac hg J;obtain⟨rfl,rfl,rfl⟩|⟨rfl,rfl,rfl⟩|⟨rfl,rfl,rfl⟩:=hc
 .exact OR ho l1 I (AR 0 1 iM iM)
 .exact OS ho l1 I (AR 1 0 iM iM)
 .exact OT ho l1 I (AR 0 0 iM iM)
def JZ(M:Sp cJ g W R H rz w)(ho:0<=op/\op<=11)(vx:gG W.sz x)(vy:gG W.sz y):zC 88 #[zP g,zI op,vv x,vv y] w (Ou cJ g W R H w (pv op x y)):=by
 unfold pv;by_cases E:op=6
 .rw[cR E];have:=Of (g:=g) (w:=w) (x:=x) (y:=y) (.inl E);rwa[cR E]at this
 rw[cK E];by_cases L:op=7
 .rw[cR L];have:=Of (g:=g) (w:=w) (x:=x) (y:=y) (.inr L);rwa[cK E]at this
 rw[cK L];by_cases O:op=5
 .rw[cR O];subst O;by_cases F:x.k=2\/x.k=3
  .by_cases I:y.k=2\/y.k=3
   .rw[cR ⟨F,I⟩];dsimp only;by_cases K:5000<(jY x++jY y).length
    .rw[cR K];exact(Jj M F I vx vy).mono λe w' h=>by rwa[cR K]at h
    .rw[cK K];exact(Jj M F I vx vy).mono λe w' h=>by rwa[cK K]at h
   .rw[cK (λq=>I q.2)];exact xV (s:=Hv) M (.inl ⟨rfl,rfl,λq=>I q.2⟩)
  .rw[cK (λq=>F q.1)];exact xV (s:=Hv) M (.inl ⟨rfl,rfl,λq=>F q.1⟩)
 rw[cK O];by_cases h8:7<op
 .rw[cR h8];by_cases J:x.k=3/\y.k=3
  .rw[cR J];exact OQ cM J.1 J.2
  rw[cK J];by_cases D:x.k=2/\y.k=2
  .rw[cR D];exact RR cM D.1 D.2
  rw[cK D];exact xV (s:=Bl) M (.inr (.inl ⟨h8,rfl,J,D⟩))
 rw[cK h8];by_cases D:x.k=2/\y.k=2
 .rw[cR D];cases hz:mZ op x.n y.n with
  |none=>exact MR M cM D.1 D.2 hz
  |some z=>exact RW cM D.1 D.2 hz
 .rw[cK D];exact xV (s:=nz) M (.inr (.inr ⟨cM,rfl,D⟩))
def Mn{α:Type}{l:List α}{u:α}(h:l[i]?=some u):l.set i u=l:=by
 apply iE;intro k;rw[uP];split
 .rename_i e;subst e;split
  .exact h.symm
  .rename_i D;rw[dO cM]
 .rfl
def Sp.head(h:Sp cJ g W R H rz w)(D:i<W.tables.length):(R (1,0,0)).cs[i]?=some (R (2,i,0)).v:=by rw[h.cells _ (iT (W:=W))];show((List.range W.tables.length).flatMap λi=>[(R (2,i,0)).v])[i]?=_;have:=oY (c:=1) (f:=λi=>[(R (2,i,0)).v]) (λ_=>rfl) D (r:=0) cM;rw[jV,eD]at this;rw[this];rfl
def Rows.GA{D:eO->Prop}{E Z:Nat->Nat}(h:Rows cJ E Z D R w){t:eO}(F:D t){cap:Nat}(I:(R t).v=.slice (some ⟨b,0,none⟩) (R t).n cap)(j:Nat)(J u1 u2:Value):
  Rows cJ E Z D (jG R t ⟨(R t).v,(R t).n,(((R t).cs.set j J).set (j+1) u1).set (j+2) u2⟩) (((w.setCell ⟨b,j,none⟩ J).setCell ⟨b,j+1,none⟩ u1).setCell ⟨b,j+2,none⟩ u2):=by
 have L:=h.store F I j J;have M:=L.store F (g:=b) (cap:=cap) (by rw[dD];exact I) (j+1) u1;have K:=M.store F (g:=b) (cap:=cap) (by rw[dD,dD];exact I) (j+2) u2;simp only[dD]at K;have e:∀(R:eO->fW)(a b c:fW),jG (jG (jG R t a) t b) t c=jG R t c:=by
  intro R a b c;funext u;by_cases q:u=t
  .subst q;rw[dD,dD]
  .rw[dh _ _ q,dh _ _ q,dh _ _ q,dh _ _ q]
 rwa[e]at K
def Sp.Pp(h:Sp cJ g W R H rz w)(F:i<W.tables.length)(hL:L=W.tables.getD i [])(hj:j<L.length)(I:(R (2,i,0)).v=.slice (some ⟨b,0,none⟩) L.length cv)(x:Vl):
  ∃R',Sp cJ g {W with tables:=W.tables.set i (L.set j ((L.getD j (v0,v0)).1,x))} R' H rz (((w.setCell ⟨b,j*6+3,none⟩ (.int .i64 x.k)).setCell ⟨b,j*6+3+1,none⟩ (.int .i64 x.n)).setCell ⟨b,j*6+3+2,none⟩ (sv x.s))/\(∀t,(R' t).v=(R t).v)/\Ft g W R b:=by
 have E:=mS F;have n2:(R (2,i,0)).n=L.length:=hL▸h.ij _ E;have c2:(R (2,i,0)).cs=L.flatMap pc:=hL▸h.cells _ E;have J:(R (2,i,0)).v=zS b (R (2,i,0)).n cv:=n2▸I;have K:Ft g W R b:=Ft.rE E (by rw[I];rfl);have D:b≠g:=λe=>h.own _ E (by rw[I,e];rfl);have r3:=h.eH.GA E J (j*6+3) (zI x.k) (zI x.n) (sv x.s);refine⟨_,h.Eb F r3 ?_ ?_ ?_ (λt _ ht=>by rw[dh _ _ ht]) ?_ ?_,λt=>?_,K⟩
 .rw[dD,df];exact n2
 .rw[dD];show(((R (2,i,0)).cs.set (j*6+3) _).set (j*6+3+1) _).set (j*6+3+2) _=_;rw[c2];have M:=kH yx L;refine vK (c:=6) yx L j _ (v0,v0) _ (by simp only[df];exact M) (λr hr=>?_) λk hk=>?_
  .have q:=kh (c:=6) (f:=pc) yx (v0,v0) L j r hj hr;have O:r=0\/r=1\/r=2\/r=3\/r=4\/r=5:=cM;obtain rfl|rfl|rfl|rfl|rfl|rfl:=O
   .rw[dm cM,dm cM,dm cM,q];rfl
   .rw[dm cM,dm cM,dm cM,q];rfl
   .rw[dm cM,dm cM,dm cM,q];rfl
   .rw[dm cM,dm cM,dP cM];rfl
   .rw[dm cM,dP (by simp only[df];omega)];rfl
   .rw[dP (by simp only[df];omega)];rfl
  .rw[dm cM,dm cM,dm cM]
 .rw[dh _ _ dC,dD];exact⟨rfl,rfl,(Mn (h.head F)).symm⟩
 .rw[dD];exact h.own _ E
 .rw[cZ _ _ _ _ (λe=>D e.symm),cZ _ _ _ _ (λe=>D e.symm),cZ _ _ _ _ (λe=>D e.symm)]
 .by_cases e:t=(2,i,0)
  .subst e;rw[dD]
  .rw[dh _ _ e]
def Sp.MI(h:Sp cJ g W R H rz w)(hi:i<W.tables.length)(hL:L=W.tables.getD i []){e:Vl×Vl}{av E:Option Addr}{n n' F:Nat}(hv:(R (2,i,0)).v=.slice av n cv)(J:(R (1,0,0)).v=.slice (some ⟨b,0,none⟩) W.tables.length c)(K:n'=L.length+1)(hA:sd 210 6 w cJ av n cv ((R (2,i,0)).cs++pc e) E n' F w1):
  ∃R',Sp cJ g {W with tables:=W.tables.set i (L++[e])} R' H rz (w1.setCell ⟨b,i,none⟩ (.slice E n' F))/\Kp (Ft g W R) (Ft g {W with tables:=W.tables.set i (L++[e])} R') w (w1.setCell ⟨b,i,none⟩ (.slice E n' F)):=by
 have M:=mS hi;have O:=iT (W:=W);have A:=h.Ih M rfl rfl hv hA;have n1:=h.ij _ O;have c2:(R (2,i,0)).cs=L.flatMap pc:=hL▸h.cells _ M;have D:((1,0,0):eO)≠(2,i,0):=dC;have r2:=A.eH.store O (g:=b) (cap:=c) (by rw[dh _ _ D,n1];exact J) i (.slice E n' F);rw[dh _ _ D]at r2;have aa:b≠g:=λq=>h.own _ O (by rw[J,q];rfl);refine⟨_,h.Eb hi r2 ?_ ?_ ?_ (λt h1 h2=>by rw[dh _ _ h1,dh _ _ h2]) ?_ ?_,?_⟩
 .rw[dh _ _ D.symm,dD,dq];exact K
 .rw[dh _ _ D.symm,dD,mf];show(R (2,i,0)).cs++pc e=_;rw[c2]
 .rw[dD,dh _ _ D.symm,dD];exact⟨rfl,rfl,rfl⟩
 .rw[dh _ _ D.symm,dD];exact A.own
 .rw[cZ _ _ _ _ (λq=>aa q.symm)];exact A.heap
 .have hT:∀u,fZ {W with tables:=W.tables.set i (L++[e])} u->fZ W u:=by
   intro u I;unfold fZ at I;dsimp only at I;rwa[df]at I
  refine(A.kp h M (V:={W with tables:=W.tables.set i (L++[e])}) (R':=_) hT (λu _ I=>?_) ?_).trans (Kp.setCell _ ?_)
  .by_cases e1:u=(1,0,0)
   .subst e1;rw[dD]
   .rw[dh _ _ e1,dh _ _ I]
  .rw[dh _ _ D.symm,dD]
  .refine Ft.rE (t:=(1,0,0)) iT ?_;rw[dD,J];rfl
section
variable{t:Vl}
def Gy(M:Sp cJ g W R H rz w)(h4:¬t.k=4):zC 86 #[zP g,vv t,vv k,vv v] w λe O=>(∃x,e=.returned x)/\Sp cJ g W R H (true,tv kM) O/\zK g W R w O:=by
 have b4:(t.k != 4)=true:=by simpa using h4
 obtain⟨ts,h,_,F⟩:=qn t;obtain⟨ks,D,_,I⟩:=qn k;obtain⟨vs,E,_,J⟩:=qn v;rw[h,D,E];have K:=cO (λX=>jo kM X);have L:=cO (λX (hX:Sp cJ g W R H rz X)=>lT hX (tv kM));clear h F D I E J;go_enter Vi,Ti;go_wp2_with(first
  |(go_at_call 46;refine cA (K _) ?_;rintro e w5 ⟨rfl,b5⟩;have B5:=cO ((((ba).alloc dC _).alloc ti _).trans (b5.mono ti));clear b5)
  |(go_at_call 45;refine cA (L _ (M.below B5)) ?_;rintro e w6 ⟨⟨x,rfl⟩,h6,k6⟩;have K6:=cO ((Kp.cY B5).trans k6);clear k6))
 go_returns;exact⟨⟨_,rfl⟩,h6,K6⟩
def Gz(M:Sp cJ g W R H rz w)(O:t.k=4)(h0:k.k=0):zC 86 #[zP g,vv t,vv k,vv v] w λe w'=>(∃x,e=.returned x)/\Sp cJ g W R H (true,tv kM) w'/\zK g W R w w':=by
 obtain⟨ts,h,_,F⟩:=qn t;obtain⟨ks,D,_,I⟩:=qn k;obtain⟨vs,E,_,J⟩:=qn v;rw[h,D,E];have K:=cO (λX=>jo kM X);have L:=cO (λX (hX:Sp cJ g W R H rz X)=>lT hX (tv kM));clear h F D I E J;rw[O,h0];clear O h0;go_enter Vi,Ti;go_wp2_with(first
  |(go_at_call 46;refine cA (K _) ?_;rintro e w5 ⟨rfl,b5⟩;have B5:=cO ((((ba).alloc dC _).alloc ti _).trans (b5.mono ti));clear b5)
  |(go_at_call 45;refine cA (L _ (M.below B5)) ?_;rintro e w6 ⟨⟨x,rfl⟩,h6,k6⟩;have K6:Hid (zK g W R w w6):=(Kp.cY B5).trans k6;clear k6))
 go_returns;exact⟨⟨_,rfl⟩,h6,K6⟩
def JE(h:j<L.length)(D:put L k v=L.take j++put (L.drop j) k v)(hs:same (L.getD j (v0,v0)).1 k=true):put L k v=L.set j ((L.getD j (v0,v0)).1,v):=by
 have e:L.getD j (v0,v0)=L[j]:=by simp[cB,h]
 rw[e]at hs|-;rw[D,lZ h];unfold put;rw[cR hs,List.set_eq_take_append_cons_drop,cR h]
def Mw(h:j<L.length)(D:put L k v=L.take j++put (L.drop j) k v)(hs:same (L.getD j (v0,v0)).1 k=false):put L k v=L.take (j+1)++put (L.drop (j+1)) k v:=by
 have e:L.getD j (v0,v0)=L[j]:=by simp[cB,h]
 rw[e]at hs;rw[D,lZ h];rw[show put (L[j]::L.drop (j+1)) k v=if same L[j].1 k then(L[j].1,v)::L.drop (j+1)else L[j]::put (L.drop (j+1)) k v from rfl,hs,cK dC];have q:L.take (j+1)=L.take j++[L[j]]:=by rw[Ge,cG h];rfl
 rw[q,jQ];rfl
def Jw(M:Sp cJ g W R H rz w)(hB:cJ<=w.heap.size)(hi:i<W.tables.length){s:List UInt8}(hk:¬k.k=0)(hb:(W.tables.getD i []).length<=1000000000):
  zC 86 #[zP g,vv ⟨4,i,s⟩,vv k,vv v] w λe w'=>(∃x,e=.returned x)/\∃R',Sp cJ g {W with tables:=W.tables.set i (put (W.tables.getD i []) k v)} R' H rz w'/\Kp (Ft g W R) (Ft g {W with tables:=W.tables.set i (put (W.tables.getD i []) k v)} R') w w':=by
 obtain⟨b,c,a,cv,F,hv,af⟩:=M.Wb hi;have HM:=cO M;have HI:=cO hi;have T1:=iT (W:=W);have D:=mS hi;have c4:zE w g 4 (zS b W.tables.length c):=by have:=M.eA (j:=4) (u:=(R (1,0,0)).v) rfl;rwa[F]at this
 have al:Ft g W R b:=Ft.rE T1 (by rw[F];rfl);have aV:=cO al;have aJ:=cO F;obtain⟨ts,am,_,aK⟩:=qn ⟨4,i,s⟩;obtain⟨ks,an,ap,aq⟩:=qn k;obtain⟨vs,ar,au,aw⟩:=qn v;rw[am,an,ar];have HK:=cO aq;have aL:=cO (kJ aw.symm);have aM:Hid (pc (k,v)=[zI k.k,zI k.n,.string ks,zI v.k,zI v.n,.string vs]):=by unfold pc;rw[ap,au];exact rfl
 obtain⟨L,hL⟩:=eX (W.tables.getD i []);have HL:=cO hL;rw[<-hL]at hv af hb|-;have HV:=cO hv;have HP:Hid (∀X,zB w X->∀j,j<L.length->∃b,a=some (zA b 0)/\∀r,r<6->X.cell? (zA b (j*6+r))=(pc (L.getD j (v0,v0)))[r]?):=by intro X hX j hj;rw[hL]at hj hv|-;exact(M.below hX).T5 hi hv hj
 have HC:Hid (∀X,zB w X->zE X g 4 (zS b W.tables.length c)/\zE X b i (.slice a L.length cv)/\X.frozen? (zA b i)=false):=by intro X hX;refine⟨di c4 hX,di af hX,?_⟩;have:=(M.below hX).eH.free T1 (g:=b) (cap:=c) (by rw[F,M.ij _ T1];rfl) i;exact this
 have HO:Hid (∀X,zB w X->X.ownsRow cJ 210 6 (.slice a L.length cv) L.length (R (2,i,0)).cs):=by intro X hX;have:=(M.below hX).eH.own _ D;have n2:(R (2,i,0)).n=L.length:=hL▸M.ij _ D;rwa[hv,n2]at this
 have HZ:Hid (∀X,zB w X->∀I,a=some (zA I 0)->∀r,X.frozen? (zA I r)=false):=by intro X hX I ha r;have n2:(R (2,i,0)).n=L.length:=hL▸M.ij _ D;exact(M.below hX).eH.free D (g:=I) (cap:=cv) (by rw[hv,n2,ha]) r
 have HW:=cO (λk (hk:Ft g W R k)=>Ft.lt M hk);have HG:Hid (some g≠(R (2,i,0)).v.ownBlock/\some b≠(R (2,i,0)).v.ownBlock):=⟨Dc M D,Be M T1 D dC (by rw[F];rfl)⟩
 obtain⟨nt,ag⟩:=eX W.tables.length;have aW:=cO ag;rw[<-ag]at hi HC;obtain⟨nl,ah⟩:=eX L.length;rw[<-ah]at HP HC HO hb;have HN:=cO ah;have aX:(i:Int)<(nt:Int):=cM;have kb:(k.k==0)=false:=by simpa using hk
 have P0:Hid (put L k v=L.take 0++put (L.drop 0) k v):=rfl;obtain⟨i0,aN,aO,aP,aQ⟩:=fQ J5;clear M F af hv c4 am aK an ap aq ar au aw hL ag ah al T1 D;go_enter Vi,Ti;go_wp2_with fail;refine dx λw2 aa=>?_;have ax:Hid (zB w w2):=by rw[aa];exact((ba).alloc dC _).alloc ti _
 have LT:Hid (Lc (Ft g W R) w2 w.heap.size (zV 4 (i:Int) ts) 56):=by rw[aa];exact((Lc.new w HW _ _).alloc _).alloc _
 have LK:Hid (Lc (Ft g W R) w2 (w.heap.size+1) (zV k.k k.n ks) 56):=by have:=(Lc.new (S:=Ft g W R) (w.alloc (.cells (zV 4 (i:Int) ts) 56)) (λk hk=>by have:=HW k hk;simp only[dk];omega) (zV k.k k.n ks) 56).alloc (.cells (zV v.k v.n vs) 56);rw[dk]at this;rw[aa];exact this
 have LV:Hid (Lc (Ft g W R) w2 (w.heap.size+1+1) (zV v.k v.n vs) 56):=by have:=Lc.new (S:=Ft g W R) ((w.alloc (.cells (zV 4 (i:Int) ts) 56)).alloc (.cells (zV k.k k.n ks) 56)) (λk hk=>by have:=HW k hk;simp only[dk];omega) (zV v.k v.n vs) 56;rw[dk,dk]at this;rw[aa];exact this
 clear aa;obtain⟨c4,cb,_⟩:=HC w2 ax;have t1:=LT.cell (j:=1) rfl;go_quiet (fail);clear c4 cb t1;go_wp2_with fail;go_loopw[9] (λx wr=>∃j:Nat,j<=nl/\x=zI (j:Int)/\Hid (put L k v=L.take j++put (L.drop j) k v)/\Hid (zB w2 wr)) (λx _=>nl-(intOf x).toNat)
 case atStart=>exact⟨0,dM _,rfl,P0,dQ (cN _ _) _⟩
 case round=>
  obtain⟨j,hj,rfl,ai,HB⟩:=hrel;have BX:=cO (iy ax HB);have J:=LK.kept (Kp.cY HB);have E:=LV.kept (Kp.cY HB);have k0:=J.cell (j:=0) (u:=zI k.k) rfl;have k1:=J.cell (j:=1) (u:=zI k.n) rfl;have k2:=J.cell (j:=2) (u:=.string ks) rfl;have ay:=E.cell (j:=0) (u:=zI v.k) rfl;have az:=E.cell (j:=1) (u:=zI v.n) rfl;have aA:=E.cell (j:=2) (u:=.string vs) rfl;have aY:=cO E.1;by_cases aj:j<nl
  .have aB:(j:Int)<(nl:Int):=cM;obtain⟨I,rfl,hc⟩:=HP wr BX j aj;obtain⟨e,he⟩:=eX (L.getD j (v0,v0));rw[<-he]at hc;have ac:=cO he;obtain⟨es,_,aC,aD⟩:=qn e.1;obtain⟨fs,_,aE,aR⟩:=qn e.2;have ep:pc e=[zI e.1.k,zI e.1.n,.string es,zI e.2.k,zI e.2.n,.string fs]:=by unfold pc;rw[aC,aE];rfl
   rw[ep]at hc;have p0:=hc 0 cM;have p1:=hc 1 cM;have p2:=hc 2 cM;have p3:=hc 3 cM;have p4:=hc 4 cM;have p5:=hc 5 cM;simp only[kO,mK,eD]at p0 p1 p2 p3 p4 p5;have QE:=cO (Df e.1 k aD HK);have ak:j<L.length:=by rw[<-HN];exact aj
   clear hc ep aC aE J E he aD aR;have qe:=QE.out;cases hs:same e.1 k with
   |true=>
    rw[hs]at qe;have ab:Hid (put L k v=L.set j (e.1,v)):=by have:=JE ak ai.out (by rw[<-ac.out];exact hs);rwa[<-ac.out]at this
    have aS:Hid (∀X,zB w X->∃R',Sp cJ g {W with tables:=W.tables.set i (L.set j (e.1,v))} R' H rz (((X.setCell (zA I (j*6+3)) (zI v.k)).setCell (zA I (j*6+3+1)) (zI v.n)).setCell (zA I (j*6+3+2)) (.string vs))/\(∀t,(R' t).v=(R t).v)/\Ft g W R I):=by intro X hX;have:=(HM.out.below hX).Pp HI.out HL.out ak (by rw[HV.out]) v;rwa[aL.out,<-ac.out]at this
    have pf:=HZ.out wr BX.out I rfl;clear hs;go_wp2_with fail;go_quiet (fail);go_wp2;go_returns;obtain⟨R',h1,h2,h3⟩:=aS.out _ (dQ BX.out nq);rw[ab.out];have hT:∀u,fZ {W with tables:=W.tables.set i (L.set j (e.1,v))} u↔fZ W u:=by intro u;unfold fZ;dsimp only;rw[df];exact j8
    refine⟨⟨_,rfl⟩,R',h1,?_⟩;rw[vJ hT h2];exact(Kp.cY (dQ BX.out nq)).trans (((Kp.setCell (a:=(zA I _)) _ h3).trans (Kp.setCell (a:=(zA I _)) _ h3)).trans (Kp.setCell (a:=(zA I _)) _ h3))
   |false=>
    rw[hs]at qe;have ab:=cO (Mw ak ai.out (by rw[<-ac.out];exact hs));clear hs ay az aA;go_wp2_with fail;go_quiet (fail);go_wp2;go_roundw
    case rel=>exact⟨j+1,cM,l9,ab,dQ HB _⟩
    case measure=>simp[intOf];omega
  .obtain rfl:j=nl:=cM;have aB:¬(j:Int)<(j:Int):=cM;have ab:Hid (put L k v=L++[(k,v)]):=by
    have:=ai;rw[qz (by rw[HN];omega),iI (by rw[HN];omega)]at this;exact this
   have aF:Hid ((R (2,i,0)).v=.slice a j cv):=HN▸HV;have aG:=cO (LT.kept (Kp.cY HB));have K:=cO J;have O:=cO E;clear J E aj k0 k1 k2 ay az aA;go_wp2_with fail;obtain⟨S,hS⟩:=eX (fI wr (R (2,i,0)).v.ownBlock);have D:=mS HI;have y4:=λx:Wd S=>x.cell hS (HC wr BX).1 HG.1;have yt:=Wd.ce hS (aG.cell (j:=1) rfl) (mD aG D);have x0:=Wd.ce hS (K.cell (j:=0) rfl) (mD K D);have x1:=Wd.ce hS (K.cell (j:=1) rfl) (mD K D);have x2:=Wd.ce hS (K.cell (j:=2) rfl) (mD K D);have z0:=Wd.ce hS (O.cell (j:=0) rfl) (mD O D);have z1:=Wd.ce hS (O.cell (j:=1) rfl) (mD O D);have z2:=Wd.ce hS (O.cell (j:=2) rfl) (mD O D);have HS:=cO hS;clear hS;haveI:=pz HS;refine uq S 10 2 (HS▸(fI.refl _ _).drew) ?_;simp only[List.take,List.drop];repeat(go_big_quiet_step(fail))
   refine wpQuiet_nil ?_;clear D;refine dI ?_;go_wp2;refine⟨HS▸(fI.refl _ _).drew.alloc _,?_⟩;refine dI ?_;clear y4 yt x0 x1 x2 z0 z1 z2;refine gJ λw3 ad=>?_;have B3:Hid (zB wr w3):=ad▸(ba).drew;have S3:Hid (fI wr (R (2,i,0)).v.ownBlock w3):=ad▸((fI.refl _ _).alloc _).drew;have aT:Hid (∀q u,(pc (k,v))[q]?=some u->w3.cell? (((zA wr.heap.size 0):Addr).add q)=some u):=by rw[aM,ad];intro q u hu;rw[iK,dU];exact Lc.cell (S:=λ_=>False) (cs:=#[zI k.k,zI k.n,.string ks,zI v.k,zI v.n,.string vs]) ⟨λh=>h,dJ wr _⟩ (by simpa using hu)
   clear ad;have ae:=cO (iy BX B3);refine eI rfl _ _ _ rfl 210 i0 (.agg #[zI 0,zI 0,zT,zI 0,zI 0,zT]) 6 64 underlying208 aN aO aP aQ rfl cM cJ a j cv (R (2,i,0)).cs rfl (HO _ ae) (some (zA wr.heap.size 0)) 1 1 (pc (k,v)) rfl rfl (λ_=>⟨_,rfl,aT⟩) (by intro u hu;unfold pc at hu;obtain hu|hu:=gI.1 hu;exact ye _ u hu;exact ye _ u hu) (by unfold maxLen;omega) cM (cV hB ae.size) ?_;intro aH aI w4 hA;have aU:Hid (∃R',Sp cJ g {W with tables:=W.tables.set i (L++[(k,v)])} R' H rz (w4.setCell (zA b i) (.slice aH (j+1) aI))/\Kp (Ft g W R) (Ft g {W with tables:=W.tables.set i (L++[(k,v)])} R') w3 (w4.setCell (zA b i) (.slice aH (j+1) aI))):=
    (HM.below ae).MI HI HL aF aJ (by rw[HN]) hA
   have S4:=cO (S3.grown (aF▸hA.jz));have cb:=S4.cell (HC wr BX).2.1 HG.2;have fb:=(dA (a:=(zA b i)) (S4.block b (dy _ (zA b i) (HC wr BX).2.1) HG.2)).trans (HC wr BX).2.2;clear hA;refine lK ?_;refine⟨HS▸S4,?_⟩;refine ej ?_;go_wp2;go_returns;obtain⟨R',h1,h2⟩:=aU;rw[ab];exact⟨⟨_,rfl⟩,R',h1,(Kp.cY ae).trans h2⟩
end
def MQ(l:List Nat)(h:a<l.length):(l.flatMap λ(x:Nat)=>[Value.int .i64 (x:Int)])[a]?=some (.int .i64 (l.getD a 0:Nat)):=by have q:=kh (c:=1) (f:=λ(x:Nat)=>[Value.int .i64 (x:Int)]) (λ_=>rfl) 0 l a 0 h cM;rw[jV,eD]at q;rw[q];rfl
def Sp.SU(h:Sp cJ g W R H rz w)(J:W.cQ<W.cS.length){m:Nat}(O:W.co.cy.length=m+1)(K:W.db.guard=false)(L:a<W.db.da.length):
  ∃b c,(R (7,W.cQ,m)).v=.slice (some ⟨b,0,none⟩) W.db.da.length c/\w.cell? ⟨b,a,none⟩=some (.int .i64 (W.db.da.getD a 0:Nat))/\Ft g W R b:=by
 have E:W.co.cy.length-1=m:=cM;have D:=qZ (W:=W) J (j:=m) (by show m<W.co.cy.length;omega) (by rw[<-E];exact K);have F:(R (7,W.cQ,m)).n=W.db.da.length:=by have:=h.ij _ D;rw[<-E]at this|-;exact this
 have M:(R (7,W.cQ,m)).cs=W.db.da.flatMap λ(x:Nat)=>[zI (x:Int)]:=by have:=h.cells _ D;rw[<-E]at this|-;exact this
 obtain⟨b,c,I,_,_⟩:=h.eH.uE D (by rw[F];omega);refine⟨b,c,by rw[I,F],?_,Ft.rE D (by rw[I];rfl)⟩;refine h.eH.cell D I (by rw[F];show a<W.db.da.length*1;omega) ?_;rw[M];exact MQ _ L
def Sp.Wa(h:Sp cJ g W R H rz w){fn:Nat}(I:fn<W.funcs.length)(J:a<(W.funcs.getD fn (0,[])).2.length):
  ∃b c,(R (5,fn,0)).v=.slice (some ⟨b,0,none⟩) (W.funcs.getD fn (0,[])).2.length c/\w.cell? ⟨b,a,none⟩=some (.int .i64 ((W.funcs.getD fn (0,[])).2.getD a 0:Nat))/\Ft g W R b:=by
 have D:=vC I;have E:(R (5,fn,0)).n=(W.funcs.getD fn (0,[])).2.length:=h.ij _ D;obtain⟨b,c,F,_,_⟩:=h.eH.uE D (by rw[E];omega);refine⟨b,c,by rw[F,E],?_,Ft.rE D (by rw[F];rfl)⟩;refine h.eH.cell D F (by rw[E];show a<(W.funcs.getD fn (0,[])).2.length*1;omega) ?_;rw[h.cells _ D];exact MQ _ J
def Sp.Vr(h:Sp cJ g W R H rz w){x:Nat}(J:x<W.vars.length):
  ∃b c,(R (0,0,0)).v=.slice (some ⟨b,0,none⟩) W.vars.length c/\(∀r,r<3->w.cell? ⟨b,x*3+r,none⟩=(vc (W.vars.getD x v0))[r]?)/\Ft g W R b/\∀r,w.frozen? ⟨b,r,none⟩=false:=by
 have D:=kU (W:=W);have F:(R (0,0,0)).n=W.vars.length:=h.ij _ D;obtain⟨b,c,E,_,_⟩:=h.eH.uE D (by rw[F];omega);refine⟨b,c,by rw[E,F],λr K=>?_,Ft.rE D (by rw[E];rfl),λr=>h.eH.free D E r⟩;have q:=kh (c:=3) (f:=vc) rG v0 W.vars x r J K;rw[<-q];have I:x*3+r<(W.vars.flatMap vc).length:=by rw[kH rG];omega
 rw[cG I];refine h.eH.cell D E (by rw[F];show x*3+r<W.vars.length*3;omega) ?_;rw[h.cells _ D];exact cG I
def Sp.v8(h:Sp cJ g W R H rz w){x:Nat}(hx:x<W.vars.length)(O:(R (0,0,0)).v=.slice (some ⟨b,0,none⟩) W.vars.length c)(v:Vl):
  ∃R',Sp cJ g {W with vars:=W.vars.set x v} R' H rz (((w.setCell ⟨b,x*3,none⟩ (.int .i64 v.k)).setCell ⟨b,x*3+1,none⟩ (.int .i64 v.n)).setCell ⟨b,x*3+2,none⟩ (sv v.s))/\(∀t,(R' t).v=(R t).v):=by
 have I:=kU (W:=W);have n0:=h.ij _ I;have c0:(R (0,0,0)).cs=W.vars.flatMap vc:=h.cells _ I;have K:(R (0,0,0)).v=zS b (R (0,0,0)).n c:=n0▸O;have E:b≠g:=λe=>h.own _ I (by rw[O,e];rfl);have r3:=h.eH.GA I K (x*3) (zI v.k) (zI v.n) (sv v.s);generalize J:(⟨(R (0,0,0)).v,(R (0,0,0)).n,(((R (0,0,0)).cs.set (x*3) (zI v.k)).set (x*3+1) (zI v.n)).set (x*3+2) (sv v.s)⟩:fW)=r at r3;have rv:r.v=(R (0,0,0)).v:=by rw[<-J]
 have rn:r.n=(W.vars.set x v).length:=by rw[<-J,df];exact n0
 have rc:r.cs=(W.vars.set x v).flatMap vc:=by
  rw[<-J];show(((R (0,0,0)).cs.set (x*3) _).set (x*3+1) _).set (x*3+2) _=_;rw[c0];have L:=kH rG W.vars;refine vK (c:=3) rG W.vars x v v0 _ (by simp only[df];exact L) (λr J=>?_) λk hk=>?_
  .have M:r=0\/r=1\/r=2:=cM;obtain rfl|rfl|rfl:=M
   .show((((W.vars.flatMap vc).set (x*3) _).set (x*3+1) _).set (x*3+2) _)[x*3]?=_;rw[dm cM,dm cM,dP cM];rfl
   .rw[dm cM,dP (by simp only[df];omega)];rfl
   .rw[dP (by simp only[df];omega)];rfl
  .rw[dm cM,dm cM,dm cM]
 have F:∀t,(jG R (0,0,0) r t).v=(R t).v:=by
  intro t;by_cases e:t=(0,0,0)
  .subst e;rw[dD,rv]
  .rw[dh _ _ e]
 refine⟨jG R (0,0,0) r,⟨r3,λt D=>?_,λt D=>?_,λt D=>by rw[F t];exact h.own t D,?_⟩,F⟩
 .have D:fZ W t:=D;by_cases e:t=(0,0,0)
  .subst e;rw[dD];exact rn
  .rw[dh R r e,h.ij t D,(rX (xs:=W.vars.set x v) (R:=R) (r:=r) e D).2]
 .have D:fZ W t:=D;by_cases e:t=(0,0,0)
  .subst e;rw[dD];exact rc
  .rw[dh R r e,h.cells t D,(rX (xs:=W.vars.set x v) (R:=R) (r:=r) e D).1]
 .rw[cZ _ _ _ _ (λe=>E e.symm),cZ _ _ _ _ (λe=>E e.symm),cZ _ _ _ _ (λe=>E e.symm),h.block];have:gc {W with vars:=W.vars.set x v} (jG R (0,0,0) r) H rz=gc W R H rz:=by
   unfold gc;rw[F,F,F,F]
  rw[this]
end rn
end Go.Proofs.YtfpkdfeakanlpaaGreatDoor
