import Derived.Laws.StructEq
import Derived.Test.YtfpkdfeakanlpaaGreatDoorMRnArith
set_option linter.all false
set_option maxRecDepth 100000
set_option maxHeartbeats 8000000
namespace Go.Proofs.YtfpkdfeakanlpaaGreatDoor
open Go.Proofs.Tryz
namespace rn
open RowKit bts pg chk
variable{rz:Bool×Vl}{H H':Hd}{op cW:Int}{cJ g i j:Nat}{Hs:Nat→List Int}{p:Pg}{RES:mX}{V W:St}{R R':eO→fW}{ev k x y:Vl}{w w0 w1:World}
def mL{k:Nat}{a b c:Value}(q0:w.cell? ⟨k,0,none⟩=some a)(q1:w.cell? ⟨k,1,none⟩=some b)(q2:w.cell? ⟨k,2,none⟩=some c):(∀x,(w.setCell ⟨k,0,none⟩ x).cell? ⟨k,0,none⟩=some x)/\(∀x y,((w.setCell ⟨k,0,none⟩ x).setCell ⟨k,1,none⟩ y).cell? ⟨k,1,none⟩=some y)/\(∀x y z,(((w.setCell ⟨k,0,none⟩ x).setCell ⟨k,1,none⟩ y).setCell ⟨k,2,none⟩ z).cell? ⟨k,2,none⟩=some z):=
 ⟨λx=>my _ _ _ q0,λx y=>my _ _ _ ((iH _ _ _ _ dC).trans q1),λx y z=>my _ _ _ ((iH _ _ _ _ dC).trans ((iH _ _ _ _ dC).trans q2))⟩
def EC(c:Cn){ut:Value}(hu:AB w ut c.oy):zC 84 #[.agg #[.bool c.pB,zI c.n,ut]] w (zR w (vv (iU c))):=by
 obtain⟨L,cap,rfl,_,M,_⟩:=hu;obtain⟨n,I⟩:=eX c.oy.length;rw[<-I];obtain⟨E,D⟩:=eX (⟨(gj c.oy).toArray⟩:ByteArray);have F:Hid (∀X,zC 46 #[.string E] X (zR X (.agg (zV 3 0 E)))):=by intro X;have:=jo (gj c.oy) X;rw[kJ D.symm]at this;unfold vv tv at this;dsimp only at this;rwa[kJ D.symm]at this
 have CV:Hid (∀X,zB w X->(convert 29 9 (.slice L n cap)).run Tryz.prog X=.ok (.string E) X):=by intro X hX;rw[D];exact xR (M.below hX) I
 cases J:c.pB with
 |false=>
  rw[show vv (iU c)=.agg (zV 2 c.n ⟨#[]⟩) by unfold iU;rw[J];rfl];generalize c.n=O at*;clear F CV M I D J;go_enter func84,ntmps84;go_wp2;go_returns;exact⟨rfl,(ba).alloc dC _⟩
 |true=>
  rw[show vv (iU c)=.agg (zV 3 0 E) by unfold iU;rw[J,cR rfl];unfold vv tv;dsimp only;rw[kJ D.symm]];generalize c.n=O at*;clear M I D J;have cv:=CV ((w.alloc (.cells #[.bool true,zI O,.slice L n cap] 96)).alloc (.cells (zV 0 0 ⟨#[]⟩) 56)) ((ba).alloc dC _);go_enter func84,ntmps84;go_wp2_with(go_at_call 46;refine cA (F _) ?_;rintro e w5 ⟨rfl,b5⟩;have B5:=cO (((ba).alloc dC _).trans (b5.mono ti));have K:=(Lc.new (w.alloc (.cells #[.bool true,zI O,.slice L n cap] 96)) (S:=λ_=>False) (λ_ h=>h.elim) (zV 0 0 ⟨#[]⟩) 56).kept (Kp.cY b5);rw[dk]at K;obtain⟨q0,q1,q2⟩:=K.c3;have qf:=K.free;obtain⟨z0,z1,z2⟩:=mL q0 q1 q2;clear K b5 cv)
  refine eS (v:=.agg (zV 3 0 E)) (by simp[results,results84,go_sem,z0,z1,z2]) rfl ?_;exact⟨rfl,((B5.setCell (by show _<=w.heap.size+1;omega) _).setCell (by show _<=w.heap.size+1;omega) _).setCell (by show _<=w.heap.size+1;omega) _⟩
def Np:Tryz.prog.stoodInHeld 56=false:=gA
def OM:Tryz.prog.underlying 56=some (.struct (Tryz.prog.fieldsOf 56)):=gA
def Qd(a b h E:Int)(s D:ByteArray)(X:World):(binOp .eql 56 (.agg #[.int .i64 a,.int .i64 b,.string s]) (.agg #[.int .i64 h,.int .i64 E,.string D])).run Tryz.prog X=.ok (.bool (a==h&&(b==E&&s.toList==D.toList))) X:=by rw[run_eql_struct,run_equalIn_agg X 9999 _ _ _ OM Np];have F:(Tryz.prog.fieldsOf 56).toList.map (λf=>(f.name== "_",f.type,f.offset))=[(false,3,0),(false,3,1),(false,9,2)]:=gA;generalize(Tryz.prog.fieldsOf 56).toList=I at F|-;obtain _|⟨f1,_|⟨f2,_|⟨f3,_|⟨f4,l⟩⟩⟩⟩:=I<;>simp only[jP,Gg,iA,fS,reduceCtorEq,WY,and_true,sB]at F;obtain⟨⟨J,K,L⟩,⟨M,O,o2⟩,n3,t3,o3⟩:=F;simp only[Op.eqFields,J,M,n3,K,O,t3,L,o2,o3,ne_eq,not_false_eq_true,wY];have p1:∀(a b:Int)(s:ByteArray),(part 3 (zV a b s) 0).run Tryz.prog X=.ok (zI a) X:=λa b s=>gA;have p2:∀(a b:Int)(s:ByteArray),(part 3 (zV a b s) 1).run Tryz.prog X=.ok (zI b) X:=λa b s=>gA;have p3:∀(a b:Int)(s:ByteArray),(part 9 (zV a b s) 2).run Tryz.prog X=.ok (.string s) X:=λa b s=>gA;have e1:∀a h:Int,(Op.equalIn 9999 3 (zI a) (zI h)).run Tryz.prog X=.ok (a==h) X:=λa h=>Lp (P:=Tryz.prog) X 9998 3 .i64 .i64 a h mJ;have e3:=Wq (P:=Tryz.prog) X 9998 9 s D ji;cases h1:a==h<;>cases h2:b==E<;>cases h3:s.toList==D.toList<;>simp only[iS,p1,p2,p3,iD,e1,e3,h1,h2,h3,Sem.run_ite,jB,OG,Rf,DG,wY,Ve,Bool.and_true,OI,OH]
def Df(x y:Vl){xs h:ByteArray}(D:xs=⟨x.s.toArray⟩)(E:h=⟨y.s.toArray⟩)(X:World):(binOp .eql 56 (.agg #[.int .i64 x.k,.int .i64 x.n,.string xs]) (.agg #[.int .i64 y.k,.int .i64 y.n,.string h])).run Tryz.prog X=.ok (.bool (same x y)) X:=by rw[Qd,D,E,iP,iP];unfold same;rw[Bool.and_assoc]
def dQ{B:Nat}{a b:World}(h:Below B a b)(n:Nat):Below B a (b.drewN n):=⟨h.os,h.tape,h.output,h.size,h.block⟩
def Sp.Wb(h:Sp cJ g W R H rz w)(F:i<W.tables.length):∃b c a cv,(R (1,0,0)).v=.slice (some ⟨b,0,none⟩) W.tables.length c/\(R (2,i,0)).v=.slice a (W.tables.getD i []).length cv/\w.cell? ⟨b,i,none⟩=some (.slice a (W.tables.getD i []).length cv):=by
 have E:=iT (W:=W);have I:(R (1,0,0)).n=W.tables.length:=h.ij _ E;obtain⟨b,c,J,_,_⟩:=h.eH.uE E (by rw[I];omega);obtain⟨a,cv,D⟩:=h.eH.sliced (mS F);have K:(R (2,i,0)).n=(W.tables.getD i []).length:=h.ij _ (mS F);rw[K]at D;refine⟨b,c,a,cv,by rw[J,I],D,?_⟩;refine h.eH.cell E J ?_ ?_
 .rw[I];show i<W.tables.length*1;omega
 .rw[h.cells _ E];show((List.range W.tables.length).flatMap λi=>[(R (2,i,0)).v])[i]?=_;have:=oY (c:=1) (f:=λi=>[(R (2,i,0)).v]) (λ_=>rfl) F (r:=0) cM;rw[jV,eD]at this;rw[this,D];rfl
def Sp.Vu(h:Sp cJ g W R H rz w)(D:i<W.tables.length):(W.tables.getD i []).length<=9223372036854775807:=by
 have e:(R (2,i,0)).n=(W.tables.getD i []).length:=h.ij _ (mS D);obtain⟨_,F⟩|⟨_,_,_,_,_,_,I,E,_⟩:=(h.eH.own _ (mS D)).2
 .omega
 .unfold maxLen at E;omega
def Sp.T5(h:Sp cJ g W R H rz w)(J:i<W.tables.length){a:Option Addr}{cv:Nat}(K:(R (2,i,0)).v=.slice a (W.tables.getD i []).length cv)(L:j<(W.tables.getD i []).length):∃b,a=some ⟨b,0,none⟩/\∀r,r<6->w.cell? ⟨b,j*6+r,none⟩=(pc ((W.tables.getD i []).getD j (v0,v0)))[r]?:=by
 have E:=mS J;have F:(R (2,i,0)).n=(W.tables.getD i []).length:=h.ij _ E;obtain⟨b,c,D,_,_⟩:=h.eH.uE E (by rw[F];omega);have e:=K;rw[D,F]at e;simp only[de,true_and]at e;refine⟨b,e.1.symm,λr M=>?_⟩;have q:=kh (c:=6) (f:=pc) yx (v0,v0) (W.tables.getD i []) j r L M;rw[<-q];have I:j*6+r<((W.tables.getD i []).flatMap pc).length:=by rw[kH yx];omega
 rw[cG I];refine h.eH.cell E D (by rw[F];show j*6+r<(W.tables.getD i []).length*6;omega) ?_;rw[h.cells _ E];show((W.tables.getD i []).flatMap pc)[j*6+r]?=_;exact cG I
def Kp.off{S S1:Nat->Prop}(h:Kp S S1 w w1){a:Addr}(F:w.heap.size<=a.block)(u:Value):Kp S S1 w (w1.setCell a u):=
 ⟨h.os,h.tape,h.output,by have:=h.size;simpa[World.setCell]using this,λk D E=>(cZ _ _ _ _ cM).trans (h.kg k D E),h.out⟩
def Ke(M:Sp cJ g W R H rz w){t:Vl}(h4:¬t.k=4):
  zC 87 #[zP g,vv t,vv k] w λe w'=>e=.returned (vv v0)/\Sp cJ g W R H (true,tv kM) w'/\zK g W R w w':=by
 obtain⟨ts,E,_,I⟩:=qn t;obtain⟨ks,F,_,J⟩:=qn k;rw[E,F];have K:=cO (λX=>jo kM X);have L:=cO (λX (hX:Sp cJ g W R H rz X)=>lT hX (tv kM));have O:∀k,Ft g W R k->k<w.heap.size:=λk hk=>Ft.lt M hk;clear E F I J;generalize t.k=aa at*;go_enter func87,ntmps87;go_wp2_with(first
  |(go_at_call 46;refine cA (K _) ?_;rintro e w5 ⟨rfl,b5⟩;have B5:=cO ((((ba).alloc dC _).alloc ti _).trans (b5.mono ti));have LL:=(Lc.new ((w.alloc (.cells (zV aa t.n ts) 56)).alloc (.cells (zV k.k k.n ks) 56)) (S:=Ft g W R) (λk hk=>by have:=O k hk;simp only[dk];omega) (zV 0 0 ⟨#[]⟩) 56).kept (Kp.cY b5);rw[dk,dk]at LL;clear b5)
  |(go_at_call 45;refine cA (L _ (M.below B5)) ?_;rintro e w6 ⟨⟨x,rfl⟩,h6,k6⟩;have K6:=cO ((Kp.cY B5).trans k6);have D:=LL.kept k6;have h:=cO D.1;have r0:=D.cell (j:=0) (u:=zI 0) rfl;have r1:=D.cell (j:=1) (u:=zI 0) rfl;have r2:=D.cell (j:=2) (u:=zT) rfl;have rf:=D.free;clear k6 D))
 obtain⟨z0,z1,z2⟩:=mL (w:=w6) r0 r1 r2;refine eS (v:=.agg (zV 0 0 ⟨#[]⟩)) (by simp[results,OC,go_sem,z0,z1,z2]) rfl ?_;have hB:w.heap.size<=w.heap.size+1+1:=cM;exact⟨rfl,((h6.off (a:=(zA _ 0)) h _).off (a:=(zA _ 1)) h _).off (a:=(zA _ 2)) h _,((K6.off (a:=(zA _ 0)) hB _).off (a:=(zA _ 1)) hB _).off (a:=(zA _ 2)) hB _⟩
def PF(l:List (Vl×Vl))(k:Vl)(h:j<l.length):pI (l.drop j) k=if same (l.getD j (v0,v0)).1 k then(l.getD j (v0,v0)).2 else pI (l.drop (j+1)) k:=by
 rw[lZ h];have:l.getD j (v0,v0)=l[j]:=by simp[cB,h]
 rw[this];rfl
def Kf(M:Sp cJ g W R H rz w)(hi:i<W.tables.length){s:List UInt8}:
  zC 87 #[zP g,vv ⟨4,i,s⟩,vv k] w (zR w (vv (pI (W.tables.getD i []) k))):=by
 obtain⟨b,c,a,cv,ac,hv,ad⟩:=M.Wb hi;have HM:=cO M;have HV:=cO hv;have c4:zE w g 4 (zS b W.tables.length c):=by have:=M.eA (j:=4) (u:=(R (1,0,0)).v) rfl;rwa[ac]at this
 obtain⟨ts,ae,_,ar⟩:=qn ⟨4,i,s⟩;obtain⟨ks,af,au,ag⟩:=qn k;rw[ae,af];have HK:=cO ag;obtain⟨L,hL⟩:=eX (W.tables.getD i []);have HP:Hid (∀X,zB w X->∀j,j<L.length->∃b,a=some (zA b 0)/\∀r,r<6->X.cell? (zA b (j*6+r))=(pc (L.getD j (v0,v0)))[r]?):=by intro X hX j hj;rw[hL]at hj|-;exact(M.below hX).T5 hi hv hj
 have HC:Hid (∀X,zB w X->zE X g 4 (zS b W.tables.length c)/\zE X b i (.slice a L.length cv)):=by intro X hX;rw[hL];exact⟨di c4 hX,di ad hX⟩
 have O:=M.Vu hi;rw[<-hL]at O|-;obtain⟨nt,ah⟩:=eX W.tables.length;rw[<-ah]at hi HC;obtain⟨nl,aa⟩:=eX L.length;rw[<-aa]at HP HC O;have HN:=cO aa;have aw:(i:Int)<(nt:Int):=cM;clear M ac ad hv c4 ae ar af au ag hL ah aa;go_enter func87,ntmps87;go_wp2;refine dx λw2 E=>?_;have ai:zB w w2:=by rw[E];exact((ba).alloc dC _).alloc ti _
 have LT:Lc (λ_=>False) w2 w.heap.size (zV 4 (i:Int) ts) 56:=by rw[E];exact((Lc.new w (λ_ h=>False.elim h) _ _).alloc _).alloc _
 have LK:Lc (λ_=>False) w2 (w.heap.size+1) (zV k.k k.n ks) 56:=by have:=(Lc.new (S:=λ_=>False) (w.alloc (.cells (zV 4 (i:Int) ts) 56)) (λ_ h=>False.elim h) (zV k.k k.n ks) 56).alloc (.cells (zV 0 0 ⟨#[]⟩) 56);rw[dk]at this;rw[E];exact this
 have aj:Lc (λ_=>False) w2 (w.heap.size+1+1) (zV 0 0 ⟨#[]⟩) 56:=by have:=Lc.new (S:=λ_=>False) ((w.alloc (.cells (zV 4 (i:Int) ts) 56)).alloc (.cells (zV k.k k.n ks) 56)) (λ_ h=>False.elim h) (zV 0 0 ⟨#[]⟩) 56;rw[dk,dk]at this;rw[E];exact this
 clear E;obtain⟨c4,cb⟩:=HC w2 ai;have t1:=LT.cell (j:=1) rfl;go_quiet (fail);clear c4 cb t1;go_wp2;go_loopw[8] (λx wr=>∃j:Nat,j<=nl/\x=zI (j:Int)/\Hid (pI (L.drop j) k=pI L k)/\Hid (zB w2 wr)) (λx _=>nl-(intOf x).toNat)
 case atStart=>exact⟨0,dM _,rfl,rfl,dQ (cN _ _) _⟩
 case round=>
  obtain⟨j,hj,rfl,ak,HB⟩:=hrel;have BX:=cO (iy ai HB);have F:=LK.kept (Kp.cY HB);by_cases ab:j<nl
  .have al:(j:Int)<(nl:Int):=cM;obtain⟨pb,rfl,K⟩:=HP wr BX j ab;have D:=PF L k (j:=j) (by rw[<-HN];exact ab);rw[ak]at D;obtain⟨e,he⟩:=eX (L.getD j (v0,v0));rw[<-he]at K D;obtain⟨es,_,am,an⟩:=qn e.1;obtain⟨fs,_,ap,aq⟩:=qn e.2;have ep:pc e=[zI e.1.k,zI e.1.n,.string es,zI e.2.k,zI e.2.n,.string fs]:=by unfold pc;rw[am,ap];rfl
   rw[ep]at K;have p0:=K 0 cM;have p1:=K 1 cM;have p2:=K 2 cM;have p3:=K 3 cM;have p4:=K 4 cM;have p5:=K 5 cM;simp only[kO,mK,eD]at p0 p1 p2 p3 p4 p5;have k0:=F.cell (j:=0) (u:=zI k.k) rfl;have k1:=F.cell (j:=1) (u:=zI k.n) rfl;have k2:=F.cell (j:=2) (u:=.string ks) rfl;have QE:=cO (Df e.1 k an HK);have HF:Hid (vv e.2=.agg (zV e.2.k e.2.n fs)):=by unfold vv;rw[kJ aq.symm];exact rfl
   have I:=aj.kept (Kp.cY HB);have r0:=I.cell (j:=0) (u:=zI 0) rfl;have r1:=I.cell (j:=1) (u:=zI 0) rfl;have r2:=I.cell (j:=2) (u:=zT) rfl;have rf:=I.free;clear K ep am ap F he an aq I;have qe:=QE.out;cases hs:same e.1 k with
   |true=>
    rw[hs]at D qe;have J:Hid (pI L k=e.2):=D;clear D hs;go_wp2;go_quiet (fail);go_wp2;obtain⟨z0,z1,z2⟩:=mL (w:=wr.drewN nq) r0 r1 r2;refine eS (v:=.agg (zV e.2.k e.2.n fs)) (by simp[results,OC,go_sem,z0,z1,z2]) rfl ?_;exact⟨by rw[J,HF],(((dQ BX.out _).setCell (by show _<=w.heap.size+1+1;omega) _).setCell (by show _<=w.heap.size+1+1;omega) _).setCell (by show _<=w.heap.size+1+1;omega) _⟩
   |false=>
    rw[hs]at D qe;have J:=cO D;clear D hs;go_wp2;go_quiet (fail);go_wp2;go_roundw
    case rel=>exact⟨j+1,cM,l9,J.symm,dQ HB _⟩
    case measure=>simp[intOf];omega
  .obtain rfl:j=nl:=cM;have al:¬(j:Int)<(j:Int):=cM;have I:=aj.kept (Kp.cY HB);have r0:=I.cell (j:=0) (u:=zI 0) rfl;have r1:=I.cell (j:=1) (u:=zI 0) rfl;have r2:=I.cell (j:=2) (u:=zT) rfl;have rf:=I.free;have J:Hid (pI L k=v0):=by
    have:=ak;rw[qz (by rw[HN];omega)]at this;exact this.symm
   clear I F ab;go_wp2;obtain⟨z0,z1,z2⟩:=mL (w:=wr) r0 r1 r2;refine eS (v:=.agg (zV 0 0 ⟨#[]⟩)) (by simp[results,OC,go_sem,z0,z1,z2]) rfl ?_;exact⟨by rw[J];rfl,((BX.setCell (by show _<=w.heap.size+1+1;omega) _).setCell (by show _<=w.heap.size+1+1;omega) _).setCell (by show _<=w.heap.size+1+1;omega) _⟩
def Ou(cJ g:Nat)(W:St)(R:eO->fW)(H:Hd)(w:World)(r:Vl ⊕ List UInt8)(e:Ending)(w':World):Prop:=
 match r with
 |.inl v=>e=.returned (vv v)/\Below w.heap.size w w'
 |.inr s=>(∃u,e=.returned (vv u)/\∀z,gG z u)/\Sp cJ g W R H (true,tv s) w'/\Kp (Ft g W R) (Ft g W R) w w'
def Of(I:op=6\/op=7):zC 88 #[zP g,zI op,vv x,vv y] w (zR w (vv (if op=6 then bv (same x y)else bv (!same x y)))):=by
 obtain⟨L,h,_,D⟩:=qn x;obtain⟨M,E,_,F⟩:=qn y;rw[h,E];have J:=Df x y D F;clear h D E F;generalize x.k=O at*;generalize x.n=xn at*;generalize y.k=yk at*;generalize y.n=yn at*;cases K:same x y<;>rw[K]at J<;>obtain rfl|rfl:=I;all_goals
  go_enter ou,nC;go_wp2;go_returns;exact⟨rfl,((ba).alloc dC _).alloc ti _⟩
end rn
end Go.Proofs.YtfpkdfeakanlpaaGreatDoor
