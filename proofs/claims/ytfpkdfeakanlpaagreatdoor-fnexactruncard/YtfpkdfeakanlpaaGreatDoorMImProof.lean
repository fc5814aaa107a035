import Derived.Test.YtfpkdfeakanlpaaGreatDoorCards
import Derived.Test.YtfpkdfeakanlpaaGreatDoorTie
import Derived.WalkKit
import Derived.ProofKit
import Derived.OpenShut
import Derived.OpenVars
import Derived.WalkSmall
import Derived.ChangeVars
import Derived.Deep.DeepHandedRow
import Derived.Lib.LaidTab
import Derived.Stop.LaidErr
import Derived.MakeChecks
import Derived.Deep.DeepWitnessRowRef
import Derived.Test.YtfpkdfeakanlpaaGreatDoorMImCore
set_option linter.all false
set_option maxRecDepth 100000
set_option maxHeartbeats 8000000
namespace Go.Proofs.YtfpkdfeakanlpaaGreatDoor
open Go.Proofs.Tryz
namespace fnExactRun
open Go.ChangeShapes Go.WideShapes Go.ChangeAt RowKit bts pg chk im
variable{held:Bool}{cs:List Value}{D m:Nat}{H:Type}{v:Value}{W:World}
open rn (nH lQ)
section
variable{enc:TypeId×Value→H}
def SG(h:List Cn):Prop:=∀i,i<h.length->-9223372036854775808<=(h.getD i mU).n/\(h.getD i mU).n<=9223372036854775807
def JL{x:DataW H×List MemPlace}(h:DataW.trod enc Tryz.prog W 0 (λ_=>true) held D 3 [v]=some x):∃z,v=.int .i64 z/\-9223372036854775808<=z/\z<=9223372036854775807:=by obtain⟨z,e,_,E⟩:=OF mJ h;simp only[iA,and_true]at e;exact⟨z,e,bounds_i64 E⟩
def Et{x:DataW H×List MemPlace}(h:DataW.trod enc Tryz.prog W 0 (λ_=>true) held D 90 cs=some x):∃(d:Cn),∃I:Value,cs=[.bool d.pB,.int .i64 d.n,I]/\AB W I d.oy/\-9223372036854775808<=d.n/\d.n<=9223372036854775807:=by
 obtain⟨K,m,_,_,J,E,F⟩:=mq WR h;rw[uG]at J
 match cs,J with
 |[v0,v1,L],_=>
  match K,E with
  |[y0,y1,y2],_=>
   obtain⟨k,rfl⟩:=ux (field (o:=0) (F 0 _ rfl) wD rfl);obtain⟨n,rfl,M⟩:=JL (field (o:=1) (F 1 _ rfl) nI rfl);obtain⟨t,O⟩:=uv (field (o:=2) (F 2 _ rfl) zl rfl);exact⟨⟨k,n,t⟩,L,rfl,O,M⟩
def Cq{E:Nat}{x:DataW H×List MemPlace}(h:DataW.trod enc Tryz.prog W 0 (λ_=>true) held E 22 [v]=some x):∃l,lX W v l/\SG l:=by
 have aa:Inhabited Cn:=⟨mU⟩
 obtain⟨l,ao,cap,e,hm,K⟩:=sN (c:=3) (λ(d:Cn) I=>∃F:Value,I=[.bool d.pB,zI d.n,F]/\AB W F d.oy/\-9223372036854775808<=d.n/\d.n<=9223372036854775807) underlying22 uG cM (λd I ⟨_,e,_⟩=>by rw[e];rfl) Et h;have L:∀i,i<l.length->l.getD i default=l.getD i mU:=λi D=>by simp[cB,cG D]
 refine⟨l,⟨ao,cap,e,hm,λi D=>?_⟩,λi D=>?_⟩
 .obtain⟨b,off,I,e,⟨F,M,O,_⟩,J⟩:=K i D;rw[L i D]at M O;subst M;exact⟨b,off,F,e,J 0 cM,J 1 cM,J 2 cM,O⟩
 .obtain⟨_,_,_,_,⟨_,_,_,hn⟩,_⟩:=K i D;rw[L i D]at hn;exact hn
def Ah{x:DataW H×List MemPlace}(h:DataW.trod enc Tryz.prog W 0 (λ_=>true) held D 25 cs=some x):∃(d:Pg)(F I:Value),cs=[F,I]/\lX W F d.dv/\kZ W I d.cU/\SG d.dv:=by
 obtain⟨L,m,_,_,J,E,K⟩:=mq WU h;rw[Dm]at J
 match cs,J with
 |[M,O],_=>
  match L,E with
  |[y0,y1],_=>
   obtain⟨c,hc,hn⟩:=Cq (field (o:=0) (K 0 _ rfl) Fk rfl);obtain⟨d,hd⟩:=Es (field (o:=1) (K 1 _ rfl) Fg rfl);exact⟨⟨c,d⟩,M,O,rfl,hc,hd,hn⟩
def G0{x:DataW H×List MemPlace}(h:DataW.trod enc Tryz.prog W 0 (λ_=>true) held D 26 [v]=some x):∃l,Fz W v l:=by
 obtain⟨l,F,cap,e,I,J⟩:=sN (c:=1) (λ(d:List Int) E=>∃u:Value,E=[u]/\AB W u d) qu zl cM (λd E ⟨_,e,_⟩=>by rw[e];rfl) (λ{D E x} h=>by
  obtain⟨a,b,c,rfl⟩:∃a b c,E=[.slice a b c]:=by obtain⟨q,_⟩|⟨_,_,_,_,q,_⟩:=open_ints ie jJ Ji h<;>exact⟨_,_,_,q⟩
  obtain⟨K,L⟩:=uv h;exact⟨K,_,rfl,L⟩) h
 refine⟨l,F,cap,e,I,λi M=>?_⟩;obtain⟨b,off,E,e,⟨u,rfl,O⟩,hc⟩:=J i M;exact⟨b,off,u,e,by have:=hc 0 cM;rw[jV]at this;exact this,O⟩
end
def own:ownKnob Tryz.prog.godebug=none:=gA
def xI:laidOutB Tryz.prog=true:=gA
def UE:Tryz.prog.globalNamed "loop.example/s02245/impl.shapes" = some 0:=gA
def Ny:(Tryz.prog.globals[0]?).map (·.type)=some 185:=gA
def N7:Tryz.prog.cellsOf 185=112:=gA
def zj:Tryz.prog.cellsOf 184=4:=gA
def Ff:Tryz.prog.cellsOf 182=1:=gA
def wu(W:World):laidMetH Tryz.prog Rows.fnExactRunRow.laid W=laidMet Tryz.prog Rows.fnExactRunRow.laid W:=Go.MakeChecks.laidMetH_plain _ _ _ gA
def Sa:(Rows.laid_loop_example_s02245_impl_shapes:DataW Unit)=.agg ((List.range 28).map λop=>.agg [.lit (.int .i64 (sg op)),.lit (.int .i64 (uS op)),.lit (.int .i64 (tk op)),.lit (.int .i64 (lv op))]):=gA
def CO{T:TypeId}{y:DataW Unit×List MemPlace}{z:Int}(E:Tryz.prog.underlying T=some (.int .i64))(h:DataW.trod (λ_=>()) Tryz.prog W 0 (λ_=>true) false m T [v]=some y)(e:y.1=.lit (.int .i64 z)):v=.int .i64 z:=by obtain⟨n,D,F,_⟩:=OF E h;simp only[iA,and_true]at D;subst F;simp only[DataW.lit.injEq,Lit.int.injEq,true_and]at e;rw[D,e]
def Ml{J:List MemPlace}{a b c d:Int}(h:DataW.trod (λ_=>()) Tryz.prog W 0 (λ_=>true) false m 184 cs=some (.agg [.lit (.int .i64 a),.lit (.int .i64 b),.lit (.int .i64 c),.lit (.int .i64 d)],J)):cs=[.int .i64 a,.int .i64 b,.int .i64 c,.int .i64 d]:=by
 obtain⟨K,m',_,F,I,D,E⟩:=mq underlying184 h;rw[zj]at I;simp only[fS,Lt]at F
 match cs,I with
 |[v0,v1,v2,v3],_=>
  match K,D with
  |[y0,y1,y2,y3],_=>
   simp only[jP,Gg,iA,and_true]at F;obtain⟨⟨L,M,O,e3⟩,_⟩:=F;rw[CO Wr (field (o:=0) (E 0 _ rfl) Ff rfl) L.symm,CO Wr (field (o:=1) (E 1 _ rfl) Ff rfl) M.symm,CO mJ (field (o:=2) (E 2 _ rfl) nI rfl) O.symm,CO mJ (field (o:=3) (E 3 _ rfl) nI rfl) e3.symm]
def RG(h:laidMetH Tryz.prog Rows.fnExactRunRow.laid W):Fy W:=by
 rw[wu]at h;have O:=h.tail.tail.tail;rw[Sa]at O;obtain⟨ps,⟨g',t',cs,aa,p,q,I,J,E,hd,_,_⟩,_⟩:=O;obtain rfl:=pE (UE.symm.trans I);obtain rfl:=pE (Ny.symm.trans J);obtain⟨xs,m,_,hx,hl,ab,K⟩:=W7 underlying185 hd;rw[N7]at hl;simp only[fS,Lt]at hx;intro D ho;have L:=K D ho;rw[zj]at L;obtain⟨y,hy⟩:∃y,xs[D]?=some y:=⟨_,cG cM⟩
 have M:=ga (λl=>l[D]?) hx.1;simp only[ed,hy,iO ho,kP,dB]at M;rw[hy]at L;obtain⟨y1,y2⟩:=y;simp only at M;subst M;have c4:=Ml L;have F:∀j,j<4->W.cell? (zA (0) (D*4+j))=((cs.toList.drop (D*4)).take 4)[j]?:=by intro j hj;rw[World.var?_cell UE E (D*4+j),jA hj,lN,nZ]
 rw[c4]at F;exact⟨F 0 cM,F 1 cM,F 2 cM,F 3 cM⟩
def VS:Tryz.prog.globalNamed "internal/strconv.uint64pow10" = some 4:=gA
def Nz:(Tryz.prog.globals[4]?).map (·.type)=some 283:=gA
def N8:Tryz.prog.cellsOf 283=20:=gA
def Su:Tryz.prog.cellsOf 245=1:=gA
def TZ:(Rows.laid_internal_strconv_uint64pow10:DataW Unit)=Lib.tabData .u64 Lib.pow10Tab:=gA
def Vz(h:laidMetH Tryz.prog Rows.fnExactRunRow.laid W):Pw W:=by rw[wu]at h;have D:=h.tail.tail;rw[TZ]at D;exact Lib.tabIs_of_head VS Nz underlying283 underlying245 Su N8 D
def Ty{O:String}{g T:Nat}{l:List (List UInt8)}{D:List (String×DataW Unit)}(hg:Tryz.prog.globalNamed O=some g)(ht:(Tryz.prog.globals[g]?).map (·.type)=some T)(hu:Tryz.prog.underlying T=some (.array l.length 9))(hc:Tryz.prog.cellsOf T=l.length)(h:laidMet Tryz.prog ((O,.agg (l.map λs=>.lit (.string s)))::D) W)(i:Nat)(I:i<l.length):W.cell? ⟨g,i,none⟩=some (.string ⟨(l.getD i []).toArray⟩):=by
 obtain⟨ps,⟨g',t',cs,aa,p,q,J,K,E,hd,_,_⟩,_⟩:=h;obtain rfl:=pE (hg.symm.trans J);obtain rfl:=pE (ht.symm.trans K);obtain⟨xs,m,_,hx,hl,ab,L⟩:=W7 hu hd;rw[hc]at hl;simp only[fS,Lt]at hx;have M:=L i I;rw[show Tryz.prog.cellsOf 9=1 by kernel_rfl,jV]at M;obtain⟨y,hy⟩:∃y,xs[i]?=some y:=⟨_,cG cM⟩
 have F:=ga (λl=>l[i]?) hx.1;simp only[ed,hy,cG I,kP,dB]at F;rw[hy]at M;obtain⟨s,e1,e2,_⟩:=DataW.trod_string ji M;rw[World.var?_cell hg E i,<-nZ,show cs.toList[i]?=((cs.toList.drop i).take 1)[0]? by rw[jA cM,lN,eD],e1];rw[e2]at F;simp only[DataW.lit.injEq,Lit.string.injEq]at F;rw[cB,cG I];show some (Value.string s)=some (.string ⟨l[i].toArray⟩);rw[F]
def Sb:(Rows.laid_loop_example_s02245_impl_kindNames:DataW Unit)=.agg (((List.range 8).map λk=>nH (k:Nat)).map λs=>.lit (.string s)):=gA
def Rp:(Rows.laid_loop_example_s02245_impl_statusNames:DataW Unit)=.agg (((List.range 4).map λk=>lQ (k:Nat)).map λs=>.lit (.string s)):=gA
def names(h:laidMetH Tryz.prog Rows.fnExactRunRow.laid W):Tb W:=by
 rw[wu]at h;have E:=h.tail.tail.tail.tail;have F:=h.tail.tail.tail.tail.tail;rw[Sb]at E;rw[Rp]at F;refine⟨λk D=>?_,λk D=>?_⟩
 .have:=Ty (l:=(List.range 8).map λk=>nH (k:Nat)) (T:=238) (g:=1) gA gA underlying238 gA E k (by simpa using D);rw[this,cB,ed,iO D];rfl
 .have:=Ty (l:=(List.range 4).map λk=>lQ (k:Nat)) (T:=240) (g:=2) gA gA underlying240 gA F k (by simpa using D);rw[this,cB,ed,iO D];rfl
def NY(H:Type)(enc:TypeId×Value->H)(W:World)(cJ:Nat)(args:Array Value)(ds gs:List (DataW H))(F:List MemPlace)(D:∀(j:Nat) t v,Tryz.f3.params[j]?=some t->args[j]?=some v->Value.okWide Tryz.prog W .any cJ t v)(hW:DataW.Whole enc Tryz.prog Tryz.f3.params.toList Rows.fnExactRunSpec.vars false W args.toList ds gs F)(hL:laidMetH Tryz.prog Rows.fnExactRunRow.laid W):
  zC 3 args W λe W'=>∃v,e=.returned v/\Rows.fnExactRunSpec.post enc Tryz.prog Tryz.f3 false true false false W args v W':=by
 have aa:=hW;obtain⟨p,q,ab,I,rfl,ah,ai⟩:=hW;have hA:=ab;rw[Tryz.params3]at hA D;obtain⟨v0,aj,d0,ak,p0,q0,ac,rfl,rfl,h0,r0⟩:=trodAll_cons hA;obtain⟨v1,al,d1,am,p1,q1,rfl,rfl,rfl,O,r1⟩:=trodAll_cons r0;obtain⟨v2,an,d2,ap,p2,q2,rfl,rfl,rfl,h2,r2⟩:=trodAll_cons r1;obtain⟨rfl,rfl,rfl⟩:=trodAll_nil r2;obtain rfl:args=#[v0,v1,v2]:=by cases args;simp_all
 obtain⟨cs,rfl,aq⟩:=okWide_struct WU (D 0 25 v0 rfl rfl);obtain⟨a1,l1,c1,rfl⟩:=okWide_slice qu (D 1 26 v1 rfl rfl);have k0:=h0;have k1:=O;have k2:=h2;have ad:∀x∈p0,x.block<W.heap.size:=by obtain⟨m,J⟩:=k0;exact Re m _ _ _ J
 have ae:∀x∈p1,x.block<W.heap.size:=by obtain⟨m,J⟩:=k1;exact Re m _ _ _ J
 have af:∀x∈p2,x.block<W.heap.size:=by obtain⟨m,J⟩:=k2;exact Re m _ _ _ J
 obtain⟨P,K,L,rfl,hk,hp,hN⟩:∃(P:Pg)(K L:Value),cs=#[K,L]/\lX W K P.dv/\kZ W L P.cU/\SG P.dv:=by obtain⟨M,hf⟩:=h0;obtain⟨P,K,L,e,O,h2,h3⟩:=Ah hf;exact⟨P,K,L,by cases cs;simpa[Value.cells]using e,O,h2,h3⟩
 obtain⟨ar,hi⟩:∃l,Fz W (.slice a1 l1 c1) l:=by obtain⟨M,hf⟩:=O;exact G0 hf
 obtain⟨n,rfl⟩:∃z,v2=zI z:=okWide_int mJ (D 2 3 v2 rfl rfl);have hS:=RG hL;have ag:=dy _ _ (hS 0 cM).1;refine(VY hk hp hi hN (names hL) (Vz hL) hS ag).mono λe W' ⟨he,E⟩=>?_;subst he;obtain⟨g1,g2,g3,rfl⟩:∃a b c,gs=[a,b,c]:=by
  match gs,I with
  |[],h=>exact h.elim
  |[_],⟨_,_,_,_,_,_,_,_,_,_,h,_⟩=>exact h.elim
  |[_,_],⟨_,_,_,_,_,_,_,_,_,_,⟨_,_,_,_,_,_,_,_,_,_,h,_⟩,_⟩=>exact h.elim
  |[a,b,c],_=>exact⟨a,b,c,rfl⟩
  |_::_::_::_::_,⟨_,_,_,_,_,_,_,_,_,_,⟨_,_,_,_,_,_,_,_,_,_,⟨_,_,_,_,_,_,_,_,_,_,h,_⟩,_⟩,_⟩=>exact h.elim
 exact⟨_,rfl,_,_,_,[],_,_,aa,trodAll_mk1 (shut_bool W5 _),(Ln (WC xI gA (iC gA) k0 E ad) (Ln (WC xI gA (iC gA) k1 E ae) (Ln (WC xI gA (iC gA) k2 E af) trodAll_mk0))),Below.trodVars xI E gA I,E.frame _,λh=>by cases h⟩
def wv(cs:List Value):Obj->Obj
 |.cells _ t frozen=>.cells cs.toArray t frozen
 |o=>o
def VG:DataW Unit->Value
 |.lit (.int k z)=>.int k z
 |.lit (.string s)=>.string ⟨s.toArray⟩
 |_=>.bool false
def lits:DataW Unit->List Value
 |.agg h=>h.map VG
 |_=>[]
def eH:DataW Unit->List Value
 |.agg h=>h.flatMap lits
 |_=>[]
def wo(w:World):World:=
 {w with heap:=(((((w.heap.modify 0 (wv (eH Rows.laid_loop_example_s02245_impl_shapes))).modify 1 (wv (lits Rows.laid_loop_example_s02245_impl_kindNames))).modify 2 (wv (lits Rows.laid_loop_example_s02245_impl_statusNames))).modify 4 (wv (lits Rows.laid_internal_strconv_uint64pow10))).modify 5 (wv (lits Rows.laid_math_bits_deBruijn32tab))).modify 6 (wv (lits Rows.laid_math_bits_deBruijn64tab))}
abbrev Jk:Array Value:=#[.agg #[.slice none 0 0,.slice none 0 0],.slice none 0 0,.int .i64 0]
def Nc(h:Os):laidMet Tryz.prog Rows.fnExactRunRow.laid ((wo (World.holding Tryz.prog h ⟨#[],#[],[]⟩)).forCall (λ_ _=>0) ⟨#[],Jk,[]⟩).memory:=
 laidMet_of_run' 8 gA gA
def TW(D:Os)(enc:TypeId×Value->H):∃d e f h,DataW.whole enc Tryz.prog ((wo (World.holding Tryz.prog D ⟨#[],#[],[]⟩)).forCall (λ_ _=>0) ⟨#[],Jk,[]⟩).memory Tryz.f3.params.toList Rows.fnExactRunSpec.vars false Jk.toList 8=some ([.agg [.nil,.nil],.nil,.lit (.int .i64 0)],[d,e,f],h):=
 ⟨Rows.laid_loop_example_s02245_impl_shapes,Rows.laid_loop_example_s02245_impl_kindNames,Rows.laid_loop_example_s02245_impl_statusNames,MemPlace.row (zA (0) 0) 112++(MemPlace.row (zA (1) 0) 8++MemPlace.row (zA (2) 0) 4),gA⟩
def RY(D:Os)(h:D.Started)(H:Type)(enc:TypeId×Value->H)(F:Stop.Interp):
  ReturnsInHanded {} Tryz.checked D 3 .any ((OpenSpec.ofChange Rows.fnExactRunSpec).preRow enc Tryz.prog Tryz.f3 Rows.fnExactRunRow.domain false Rows.fnExactRunRow.laid) (((OpenSpec.ofChange Rows.fnExactRunSpec).at F).post enc Tryz.prog Tryz.f3 false true false false):=by
 obtain⟨d,e,f,E,I⟩:=TW D enc;refine returnsInHanded_of_row (C:=Tryz.checked) (s:=OpenSpec.ofChange Rows.fnExactRunSpec) own h gA xe
  (witness_row_at (enc:=enc) (C:=Tryz.checked) false (wo (World.holding Tryz.prog D ⟨#[],#[],[]⟩)) Jk rfl gA gA gA
   (OpenSpec.preRow_of_cond 8 I gA (λk J=>by cases J) gA (Nc D))) ?_
 intro W cJ args ds gs before hval hW _ _ _ hL _ _;exact NY H enc W cJ args ds gs before hval hW hL
def Vx:Rows.FnExactRunSaid:=
 OpenClaim.holds_of_cond 3 Tryz.f3 rfl rfl rfl rfl rfl rfl rfl ⟨rfl,rfl,rfl,rfl,rfl⟩ rfl rfl rfl rfl rfl gA xe gA
  (iC gA) (by unfold Func.isWrapper;first|(rw[cR (by decide +kernel)];kernel_rfl)|(rw[cK (by decide +kernel)];exact⟨rfl,rfl⟩))
  (λD h H enc _ F=>by rw[OpenClaim.pre_eq_preRow];exact RY D h H enc F)
def plain(f:FuncId)(fn:Func)(E:Tryz.pinned.checked.prog.funcNamed "loop.example/s02245/laws.FnExactRun" = some f)(h:Tryz.pinned.checked.prog.funcs[f]?=some fn):
  true=Tryz.pinned.checked.prog.looks []/\∀(j:Nat) t,fn.params[j]?=some t->Tryz.pinned.checked.prog.wantsStandIn t=false:=by
 obtain rfl:f=3:=pE ((show Tryz.prog.funcNamed "loop.example/s02245/laws.FnExactRun" = some 3 by kernel_rfl).symm.trans E) |>.symm;obtain rfl:fn=Tryz.f3:=(pE (xe.symm.trans h)).symm;refine⟨gA,λj t D=>?_⟩;rw[Tryz.params3]at D;have:=Array.mem_of_getElem? D;simp only[List.mem_toArray,eQ,eh,iw]at this;obtain rfl|rfl|rfl:=this<;>exact(show Tryz.prog.wantsStandIn _=false by kernel_rfl)
theorem card:Rows.FnExactRunCardSaid:=
 Claim7.holds_tied_plain_at .later [] _ _ _ _ Vx (λ_ h=>by cases h) gA (λ_ h=>by cases h) fnExactRun_row_tie rfl ⟨rfl,rfl⟩ gA rfl plain gA
#print axioms card
end fnExactRun
end Go.Proofs.YtfpkdfeakanlpaaGreatDoor
