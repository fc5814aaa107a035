import Derived.Test.YtfpkdfeakanlpaaGreatDoorMRnWalkB
set_option linter.all false
set_option maxRecDepth 100000
set_option maxHeartbeats 8000000
namespace Go.Proofs.YtfpkdfeakanlpaaGreatDoor
open Go.Proofs.Tryz
namespace rn
open RowKit bts pg
variable{cs:Array Value}{rz rz':Bool×Vl}{f:Fr}{H H':Hd}{l:List Vl}{E b cJ cap cv g m n n':Nat}{S S1:Nat→Prop}{D ao av:Option Addr}{V W:St}{u:eO}{R R':eO→fW}{ty:TypeId}{v:Vl}{w w1:World}
def yO:(Tryz.prog.info? 56).map (λi=>(i.zero,i.size,i.bytes))=some (some (.agg #[.int .i64 0,.int .i64 0,.string ⟨#[]⟩]),3,32):=gA
def J5:(Tryz.prog.info? 210).map (λi=>(i.zero,i.size,i.bytes))=some (some (.agg #[.int .i64 0,.int .i64 0,.string ⟨#[]⟩,.int .i64 0,.int .i64 0,.string ⟨#[]⟩]),6,64):=gA
def Hm:(Tryz.prog.info? 208).map (λi=>(i.zero,i.size,i.bytes))=some (some (.slice none 0 0),1,24):=gA
def EG:(Tryz.prog.info? 64).map (λi=>(i.zero,i.size,i.bytes))=some (some (.agg #[.int .i64 0,.slice none 0 0]),2,32):=gA
def I8:(Tryz.prog.info? 61).map (λi=>(i.zero,i.size,i.bytes))=some (some (.agg #[.slice none 0 0,.int .i64 0,.int .i64 0,.int .i64 0,.string ⟨#[]⟩,.int .i64 0,.int .i64 0,.int .i64 0]),8,88):=gA
def uC:(Tryz.prog.info? 111).map (λi=>(i.zero,i.size,i.bytes))=some (some (.agg #[.bool false,.int .i64 0,.int .i64 0,.int .i64 0,.slice none 0 0,.slice none 0 0,.slice none 0 0]),7,104):=gA
def Nj:(Tryz.prog.info? 3).map (λi=>(i.zero,i.size,i.bytes))=some (some (.int .i64 0),1,8):=gA
structure SK(g:Nat)(cJ:Nat)(W:St)(R:eO→fW)(t:eO)(r:fW)(X w1:World):Prop where
 eH:Rows cJ Gl DU (fZ W) (jG R t r) w1
 own:r.v.ownBlock≠some g
 heap:w1.heap[g]?=X.heap[g]?
 jz:X.grownBy w1 (R t).v.ownBlock
 qA:∀k,r.v.ownBlock=some k→(R t).v.ownBlock=some k∨X.heap.size≤k
def Sp.Ih(h:Sp cJ g W R H rz w){t:eO}(ht:fZ W t){c:Nat}(hE:Gl t.1=E)(hc:DU t.1=c){F:Nat}{us:List Value}(L:(R t).v=.slice av n cv)(J:sd E c w cJ av n cv us D n' F w1):
  SK g cJ W R t ⟨.slice D n' F,n',us⟩ w w1:=by
 have M:w.grownBy w1 (R t).v.ownBlock:=L▸J.jz;have O:∀k,(Value.slice D n' F).ownBlock=some k->(R t).v.ownBlock=some k\/w.heap.size<=k:=by
  intro k I;rw[L];obtain⟨e,_⟩|⟨q,e,K|K⟩:=J.qA
  .subst e;cases D with
   |none=>cases I
   |some a=>exact .inl I
  .subst e;cases I;exact .inl K
  .subst e;cases I;exact .inr (mi K.symm)
 obtain⟨a,b,c'⟩:=h.WO ht (r:=⟨.slice D n' F,n',us⟩) (hE▸hc▸J.own) M O;exact⟨a,b,c',M,O⟩
def SK.kp(h:Sp cJ g W R H rz w){t:eO}(F:fZ W t){r:fW}(A:SK g cJ W R t r w w1)(K:∀u,fZ V u->fZ W u)(L:∀u,fZ V u->u≠t->(R' u).v=(R u).v)(D:(R' t).v=r.v):Kp (Ft g W R) (Ft g V R') w w1:=by
 refine Kp.grown A.jz (λk E _=>Ft.rE F E) λk E=>?_;obtain rfl|⟨u,I,e⟩:=E
 .exact .inl (.inl rfl)
 .by_cases J:u=t
  .subst J;rw[D]at e;exact(A.qA k e).imp (λx=>Ft.rE F x) id
  .rw[L u I J]at e;exact .inl (Ft.rE (K u I) e)
def Sp.Ps(h:Sp cJ g W R H rz w)(K:W.cQ<W.cS.length)(hm:W.co.cy.length=m+1)(hg:W.db.guard=false)(h6:SJ W R b cap)(hv:(R (8,W.cQ,m)).v=.slice av n cv)(M:n'=W.db.ops.length+1)(hA:sd 56 3 w cJ av n cv ((R (8,W.cQ,m)).cs++vc v) D n' E w1):
  ∃R',Sp cJ g (W.ee [v]) R' H rz (w1.setCell ⟨b,m*7+6,none⟩ (.slice D n' E))/\Kp (Ft g W R) (Ft g (W.ee [v]) R') w (w1.setCell ⟨b,m*7+6,none⟩ (.slice D n' E))/\∀u,u≠(8,W.cQ,m)->(R' u).v=(R u).v:=by
 have F:W.co.cy.length-1=m:=cM;have O:=vD (W:=W) K (j:=m) (by show m<W.co.cy.length;omega) (by rw[<-F];exact hg);have T6:=gz (W:=W) K;have A:=h.Ih O rfl rfl hv hA;have aa:(R (8,W.cQ,m)).cs=W.db.ops.flatMap vc:=by have:=h.cells _ O;rw[<-F]at this|-;exact this
 have L:=A;rw[<-F]at L;have hS:=h.yq K cM hg (xs:=W.db.ops++[v]) (by show n'=_;rw[dq];exact M) (by show(R (8,W.cQ,W.co.cy.length-1)).cs++vc v=_;rw[F,aa,mf]) L.eH L.own L.heap h6.cy;rw[F]at hS;refine⟨_,hS,?_,?_⟩
 .have hT:=λt=>mF (W:=W) (f:={W.db with ops:=W.db.ops++[v]}) K cM rfl t;refine(A.kp h O (V:=W.ee [v]) (R':=jG (jG R (8,W.cQ,m) ⟨.slice D n' E,n',(R (8,W.cQ,m)).cs++vc v⟩) (6,W.cQ,0) ⟨(R (6,W.cQ,0)).v,(R (6,W.cQ,0)).n,(R (6,W.cQ,0)).cs.set (m*7+6) (.slice D n' E)⟩) (λu I=>(hT u).1 I) (λu _ I=>?_) ?_).trans (Kp.setCell _ ?_)
  .by_cases J:u=(6,W.cQ,0)
   .subst J;rw[dD]
   .rw[dh _ _ J,dh _ _ I]
  .rw[dh _ _ dC,dD]
  .refine Ft.rE (t:=(6,W.cQ,0)) ((hT _).2 T6) ?_;rw[dD];show(R (6,W.cQ,0)).v.ownBlock=some b;rw[h6.cy];rfl
 .intro u I;by_cases J:u=(6,W.cQ,0)
  .subst J;rw[dD]
  .rw[dh _ _ J,dh _ _ I]
def Sp.LD(h:Sp cJ g W R H rz w)(K:(R (0,0,0)).v=.slice av n cv)(I:n'=W.vars.length+1)(L:sd 56 3 w cJ av n cv ((R (0,0,0)).cs++vc v) D n' E w1):
  ∃R',Sp cJ g {W with vars:=W.vars++[v]} R' H rz (w1.setCell ⟨g,3,none⟩ (.slice D n' E))/\Kp (Ft g W R) (Ft g {W with vars:=W.vars++[v]} R') w (w1.setCell ⟨g,3,none⟩ (.slice D n' E))/\(∀u,u≠(0,0,0)->(R' u).v=(R u).v)/\(R' (0,0,0)).v=.slice D n' E:=by
 have A:=h.Ih kU rfl rfl K L;have J:(R (0,0,0)).cs=W.vars.flatMap vc:=h.cells _ kU;have M:=h.Pc (xs:=W.vars++[v]) (by show n'=_;rw[dq];exact I) (by show(R (0,0,0)).cs++vc v=_;rw[J,mf]) A.eH A.own A.heap;refine⟨_,M,?_,λu F=>by rw[dh _ _ F],by rw[dD]⟩;exact(A.kp h kU (V:={W with vars:=W.vars++[v]}) (R':=jG R (0,0,0) ⟨.slice D n' E,n',(R (0,0,0)).cs++vc v⟩) (λu F=>F) (λu _ F=>by rw[dh _ _ F]) (by rw[dD])).trans (Kp.setCell _ Ft.nj)
def ye(v:Vl):∀u∈vc v,u.oneCell'=true:=by intro u h;unfold vc sv at h;simp only[eQ,eh,iw]at h;obtain rfl|rfl|rfl:=h<;>rfl
def Be(h:Sp cJ g W R H rz w){t:eO}(E:fZ W t)(F:fZ W u)(D:t≠u)(I:(R t).v.ownBlock=some b):some b≠(R u).v.ownBlock:=λe=>h.eH.apart t u E F D b I e.symm
def Dc(h:Sp cJ g W R H rz w)(D:fZ W u):some g≠(R u).v.ownBlock:=λe=>h.own u D e.symm
def mD{k:Nat}(h:Lc (Ft g W R) w k cs ty)(D:fZ W u):some k≠(R u).v.ownBlock:=λe=>h.1 (Ft.rE D e.symm)
def nG(h:Sp cJ g W R H rz w)(hB:cJ<=w.heap.size)(J:W.cQ<W.cS.length)(hl:0<W.co.cy.length)(hg:W.db.guard=false)(hb:W.db.ops.length<=1000000000)(v:Vl):
  zC 83 #[zP g,vv v] w λe w'=>(∃x,e=.returned x) /\
   ∃R',Sp cJ g (W.ee [v]) R' H rz w'/\zL g W R (W.ee [v]) R' w w'/\∀u,u≠(8,W.cQ,W.co.cy.length-1)->(R' u).v=(R u).v:=by
 obtain⟨d,az,h4,aA,aj⟩:=h.zH J;obtain⟨b,cap,h6,aB,ak⟩:=h.SE J hl;obtain⟨m,hm⟩:=GS (n:=W.co.cy.length) cM;have aC:m+1<=9223372036854775807:=by rw[<-hm];exact h.ny J
 have e1:W.co.cy.length-1=m:=cM;have T8:=vD (W:=W) J (j:=m) (by show m<W.co.cy.length;omega) (by rw[<-e1];exact hg);obtain⟨av,cv,hv⟩:=h.eH.sliced T8;have n8:(R (8,W.cQ,m)).n=W.db.ops.length:=by have:=h.ij _ T8;rw[<-e1]at this|-;exact this
 obtain⟨no,K⟩:=eX W.db.ops.length;rw[n8,<-K]at hv;have ad:∀X,Sp cJ g W R H rz X->X.ownsRow cJ 56 3 (.slice av no cv) no (R (8,W.cQ,m)).cs:=by intro X hX;have:=hX.eH.own _ T8;rwa[hv,n8,<-K]at this
 have ay:no<=1000000000:=cM;have HE:=cO h;have HM:=cO hm;have HV:=cO hv;have HO:=cO ad;have aa:=cO T8;have al:=cO K;have HD:=cO (Be h iN T8 dC (by rw[h4.cS];rfl));have ab:=cO (Be h (gz J) T8 dC (by rw[h6.cy];rfl));have HG:=cO (Dc h T8);have am:=cO hg;have ac:Hid (∀X,Sp cJ g W R H rz X->zE X b (m*7+6) (.slice av no cv)):=by
  intro X hX;refine hX.So J h6 (j:=m) (r:=6) cM ?_;have an:(W.fr W.cQ m).guard=false:=by rw[<-e1];exact hg
  unfold fc;rw[an,hv];rfl
 rw[e1];clear h aj ak hm hl e1 T8 hv n8 ad K hg hb;obtain⟨i0,hi,ap,aq,ar⟩:=fQ yO;unfold vv sv;generalize ae:(⟨v.s.toArray⟩:ByteArray)=bs;have af:Hid (vc v=[zI v.k,zI v.n,.string bs]):=by unfold vc sv;rw[ae];rfl
 clear ae;go_enter func83,ntmps83;go_wp2;refine dx λw1 L=>?_;have M:Sp cJ g W R H rz w1:=L▸HE.alloc _;have K1:zK g W R w w1:=L▸Kp.alloc _;have au:Lc (Ft g W R) w1 w.heap.size (zV v.k v.n bs) 56:=by rw[L];exact Lc.new w (λk hk=>Ft.lt HE hk) _ _
 clear L;have c6:=M.c6 h4;have c7:=M.c7;have k0:=M.k0 J HM h4 h6;go_quiet (fail);go_wp2;clear c6 c7 k0;refine dx λF O=>?_;have D:Sp cJ g W R H rz F:=O▸M.drewN _;have K2:zK g W R w F:=O▸K1.drewN _;have E:Lc (Ft g W R) F w.heap.size (zV v.k v.n bs) 56:=O▸au;clear O;obtain⟨S,hS⟩:=eX (fI F (R (8,W.cQ,m)).v.ownBlock);have y6:=Wd.ce hS (D.c6 h4) HG;have y7:=Wd.ce hS D.c7 HG;have y0:=Wd.ce hS (D.k0 J HM h4 h6) HD;have y8:=Wd.ce hS (ac F D) ab;have z0:=Wd.ce hS (E.cell (j:=0) rfl) (mD E aa);have z1:=Wd.ce hS (E.cell (j:=1) rfl) (mD E aa);have z2:=Wd.ce hS (E.cell (j:=2) rfl) (mD E aa);have HS:=cO hS;clear hS;haveI:=pz HS;refine uq S 28 2 (HS▸(fI.refl _ _).drew) ?_;simp only[List.take,List.drop];repeat(go_big_quiet_step(fail))
 apply wpQuiet_nil;apply dI;go_wp2;refine⟨HS▸(fI.refl _ _).drew.alloc _,?_⟩;apply dI;clear y6 y7 y0 y8 z0 z1 z2;refine gJ λw3 I=>?_;have ag:Sp cJ g W R H rz w3:=I▸(D.alloc _).drew;have K3:zK g W R w w3:=I▸(K2.trans (Kp.alloc _)).drew;have S3:Hid (fI F (R (8,W.cQ,m)).v.ownBlock w3):=I▸((fI.refl _ _).alloc _).drew;have aw:Hid (∀j u,(vc v)[j]?=some u->w3.cell? (((zA F.heap.size 0):Addr).add j)=some u):=by rw[af,I];intro j u hu;rw[iK,dU];exact Lc.cell (S:=λ_=>False) (cs:=(zV v.k v.n bs)) ⟨λh=>h,dJ F _⟩ (by simpa using hu)
 clear I;refine eI rfl _ _ _ rfl 56 i0 (.agg (zV 0 0 ⟨#[]⟩)) 3 32 uM hi ap aq ar rfl cM cJ av no cv (R (8,W.cQ,m)).cs rfl (HO _ ag) (some (zA F.heap.size 0)) 1 1 (vc v) rfl rfl (λ_=>⟨_,rfl,aw⟩) (by rw[af];intro u hu;simp only[eQ,eh,iw]at hu;obtain rfl|rfl|rfl:=hu<;>rfl) (by unfold maxLen;omega) cM (cV hB K3.size) ?_;intro ah ai w4 hA;have ax:Hid (∃R',Sp cJ g (W.ee [v]) R' H rz (w4.setCell (zA b (m*7+6)) (.slice ah (no+1) ai))/\zL g W R (W.ee [v]) R' w3 (w4.setCell (zA b (m*7+6)) (.slice ah (no+1) ai))/\∀u,u≠(8,W.cQ,m)->(R' u).v=(R u).v):=
  ag.Ps J HM am h6 HV (by rw[al]) hA
 have S4:=cO (S3.grown (HV▸hA.jz));have c8:=S4.cell (ac F D) ab;have f8:=(dA (a:=(zA b (m*7+6))) (S4.block b (dy _ (zA b (m*7+6)) (ac F D)) ab)).trans (D.UF J h6 _);clear hA;apply lK;refine⟨HS▸S4,?_⟩;apply ej;go_wp2;go_returns;obtain⟨R',h1,h2,h3⟩:=ax;exact⟨⟨_,rfl⟩,R',h1,K3.trans h2,h3⟩
def oG(h:Sp cJ g W R H rz w)(E:W.cQ<W.cS.length)(hl:0<W.co.cy.length)(a:Nat):
  zC 90 #[zP g,zI a] w λe w'=>(∃x,e=.returned x) /\
   ∃R',Sp cJ g (W.gi a) R' H rz w'/\zL g W R (W.gi a) R' w w'/\∀u,(R' u).v=(R u).v:=by
 obtain⟨d,aa,M,ab,ac⟩:=h.zH E;obtain⟨b,cap,L,ad,O⟩:=h.SE E hl;obtain⟨m,I⟩:=GS (n:=W.co.cy.length) cM;have ae:m+1<=9223372036854775807:=by rw[<-I];exact h.ny E
 go_enter func90,ntmps90;go_wp2;refine dx λw1 J=>?_;have F:Sp cJ g W R H rz w1:=J▸h;have K1:zK g W R w w1:=J▸Kp.refl _ _;clear J;have c6:=F.c6 M;have c7:=F.c7;have k0:=F.k0 E I M L;go_quiet (fail);go_wp2;refine dx λw2 K=>?_;have D:Sp cJ g W R H rz w2:=K▸F.drewN _;have K2:Hid (zK g W R w w2):=K▸K1.drewN _;clear K;have c6:=D.c6 M;have c7:=D.c7;have k0:=D.k0 E I M L;have k3:=D.So E L (j:=m) (r:=3) (by rw[I];omega) rfl;have f3:=D.UF E L (m*7+3);refine uZ 15 ?_;simp only[List.take,List.drop];repeat(go_big_quiet_step(fail))
 refine wpQuiet_nil ?_;go_wp2;go_returns;have hS:=D.drew.ID E (by rw[I];omega) a L.cy;rw[I,pH]at hS;refine⟨⟨_,rfl⟩,_,hS,?_,λu=>?_⟩
 .refine(K2.out.drew.trans (Kp.setCell _ O)).sub λk hk=>.inl (Ft.same (λt ht=>(mF (f:={W.db with eA:=a}) E (by rw[I];omega) rfl t).1 ht) (λt _=>?_) hk);by_cases e:t=(6,W.cQ,0)
  .subst e;rw[dD]
  .rw[dh _ _ e]
 .by_cases e:u=(6,W.cQ,0)
  .subst e;rw[dD]
  .rw[dh _ _ e]
def sS(h:Sp cJ g W R H rz w)(hB:cJ<=w.heap.size)(hb:W.vars.length<=1000000000)(v:Vl):
  zC 47 #[zP g,vv v] w λe w'=>e=.returned (zI W.vars.length) /\
   ∃R',Sp cJ g {W with vars:=W.vars++[v]} R' H rz w'/\Kp (Ft g W R) (Ft g {W with vars:=W.vars++[v]} R') w w'/\∀u,u≠(0,0,0)->(R' u).v=(R u).v:=by
 obtain⟨av,cv,hv⟩:=h.eH.sliced (kU (W:=W));have n0:(R (0,0,0)).n=W.vars.length:=h.ij _ kU;obtain⟨L,E⟩:=eX W.vars.length;rw[n0,<-E]at hv;have HO:Hid (∀X,Sp cJ g W R H rz X->X.ownsRow cJ 56 3 (.slice av L cv) L (R (0,0,0)).cs):=by intro X hX;have:=hX.eH.own _ (kU (W:=W));rwa[hv,n0,<-E]at this
 have HG:=cO (Dc h kU);have aa:Hid (∀X,Sp cJ g W R H rz X->zE X g 3 (.slice av L cv)):=by intro X hX;have:=hX.eA (j:=3) rfl;rwa[hv]at this
 have ak:L<=1000000000:=cM;rw[<-E];have ac:=cO E;clear n0 E hb;obtain⟨i0,hi,ad,ae,af⟩:=fQ yO;unfold vv sv;generalize ag:(⟨v.s.toArray⟩:ByteArray)=bs;have ah:Hid (vc v=[zI v.k,zI v.n,.string bs]):=by unfold vc sv;rw[ag];rfl
 go_enter func47,ntmps47;go_wp2;refine dx λJ K=>?_;have F:Sp cJ g W R H rz J:=K▸h.alloc _;have K2:zK g W R w J:=K▸Kp.alloc _;have D:Lc (Ft g W R) J w.heap.size (zV v.k v.n bs) 56:=by rw[K];exact Lc.new w (λk hk=>Ft.lt h hk) _ _
 clear K;obtain⟨S,hS⟩:=eX (fI J (R (0,0,0)).v.ownBlock);have y3:=Wd.ce hS (aa J F) HG;have z0:=Wd.ce hS (D.cell (j:=0) rfl) (mD D kU);have z1:=Wd.ce hS (D.cell (j:=1) rfl) (mD D kU);have z2:=Wd.ce hS (D.cell (j:=2) rfl) (mD D kU);have HS:=cO hS;clear hS;haveI:=pz HS;refine uq S 6 2 (HS▸(fI.refl _ _).drew) ?_;simp only[List.take,List.drop];repeat(go_big_quiet_step(fail))
 apply wpQuiet_nil;apply dI;go_wp2;refine⟨HS▸(fI.refl _ _).drew.alloc _,?_⟩;apply dI;clear y3 z0 z1 z2;refine gJ λw3 I=>?_;have ab:Sp cJ g W R H rz w3:=I▸(F.alloc _).drew;have K3:zK g W R w w3:=I▸(K2.trans (Kp.alloc _)).drew;have S3:Hid (fI J (R (0,0,0)).v.ownBlock w3):=I▸((fI.refl _ _).alloc _).drew;have ai:Hid (∀j u,(vc v)[j]?=some u->w3.cell? (((zA J.heap.size 0):Addr).add j)=some u):=by rw[ah,I];intro j u hu;rw[iK,dU];exact Lc.cell (S:=λ_=>False) (cs:=(zV v.k v.n bs)) ⟨λh=>h,dJ J _⟩ (by simpa using hu)
 clear I;refine eI rfl _ _ _ rfl 56 i0 (.agg (zV 0 0 ⟨#[]⟩)) 3 32 uM hi ad ae af rfl cM cJ av L cv (R (0,0,0)).cs rfl (HO _ ab) (some (zA J.heap.size 0)) 1 1 (vc v) rfl rfl (λ_=>⟨_,rfl,ai⟩) (ye v) (by unfold maxLen;omega) cM (cV hB K3.size) ?_;intro M O w4 hA;have aj:Hid (∃R',Sp cJ g {W with vars:=W.vars++[v]} R' H rz (w4.setCell (zA g 3) (.slice M (L+1) O))/\Kp (Ft g W R) (Ft g {W with vars:=W.vars++[v]} R') w3 (w4.setCell (zA g 3) (.slice M (L+1) O))/\(∀u,u≠(0,0,0)->(R' u).v=(R u).v)/\(R' (0,0,0)).v=.slice M (L+1) O):=
  ab.LD hv (by rw[ac]) hA
 have S4:=cO (S3.grown (hv▸hA.jz));have c3:=S4.cell (aa J F) HG;have f3:=(dA (a:=(zA g 3)) (S4.block g F.lt HG)).trans (F.free 3);clear hA;apply lK;refine⟨HS▸S4,?_⟩;apply ej;go_wp2;go_returns;obtain⟨R',h1,h2,h3,_⟩:=aj;exact⟨rfl,R',h1,K3.trans h2,h3⟩
def Ls(S:Nat->Prop)(w:World)(ao:Option Addr)(l:List Vl):Prop:=
 0<l.length->∃b off,ao=some ⟨b,off,none⟩/\¬S b/\b<w.heap.size/\∀j u,(l.flatMap vc)[j]?=some u->w.cell? ⟨b,off+j,none⟩=some u
def Ls.kept(h:Ls S w ao l)(D:Kp S S1 w w1):Ls S1 w1 ao l:=by intro I;obtain⟨b,off,e,F,E,J⟩:=h I;exact⟨b,off,e,D.out b E F,dj E D.size,λj u K=>(dK (a:=(zA b (off+j))) (D.kg b E F)).trans (J j u K)⟩
def Ls.alloc(h:Ls S w ao l)(o:Obj):Ls S (w.alloc o) ao l:=by intro E;obtain⟨b,off,e,F,D,I⟩:=h E;exact⟨b,off,e,F,dj D dC,λj u J=>(dK (a:=(zA b (off+j))) (gH w o b D)).trans (I j u J)⟩
def Ls.drew(h:Ls S w ao l):Ls S w.drew ao l:=h
def Ls.drewN(h:Ls S w ao l)(n:Nat):Ls S (w.drewN n) ao l:=h
def Ls.nil(S:Nat->Prop)(w:World)(ao:Option Addr):Ls S w ao []:=λh=>absurd h dC
def Ls.eA(h:Ls S w ao l){i:Nat}(D:i<l.length):∃b off,ao=some ⟨b,off,none⟩/\w.cell? ⟨b,off+i*3,none⟩=some (.int .i64 (l.getD i v0).k)/\w.cell? ⟨b,off+i*3+1,none⟩=some (.int .i64 (l.getD i v0).n)/\w.cell? ⟨b,off+i*3+2,none⟩=some (sv (l.getD i v0).s):=by
 obtain⟨b,off,e,_,_,E⟩:=h cM;have key:∀r u,r<3->(vc (l.getD i v0))[r]?=some u->zE w b (off+(i*3+r)) u:=by intro r u F I;refine E _ u ?_;rw[kh rG v0 l i r D F];exact I
 exact⟨b,off,e,key 0 _ cM rfl,key 1 _ cM rfl,key 2 _ cM rfl⟩
def Ls.drop(h:Ls S w ao l)(n:Nat)(J:n<l.length):∃b off,ao=some ⟨b,off,none⟩/\Ls S w (some ⟨b,off+n*3,none⟩) (l.drop n):=by obtain⟨b,off,e,E,F,I⟩:=h cM;refine⟨b,off,e,λ_=>⟨b,off+n*3,rfl,E,F,λj u D=>?_⟩⟩;rw[ry rG,lN]at D;have:=I _ u D;rwa[<-Dy]at this
def Ls.lit(D:∀k,S k->k<w.heap.size)(F:cs.toList=l.flatMap vc):Ls S (w.alloc (.cells cs ty)) (some ⟨w.heap.size,0,none⟩) l:=by intro _;refine⟨w.heap.size,0,rfl,λh=>gE _ (D _ h),dC,λj u E=>?_⟩;rw[dU];refine Lc.cell (S:=S) (ty:=ty) (Lc.new w D cs ty) ?_;rw[<-F]at E;simpa using E
def Sp.Ex(h:Sp cJ g W R H rz w)(M:W.cQ<W.cS.length)(hm:W.co.cy.length=m+1)(hg:W.db.guard=false){D:Nat}(h6:SJ W R b cap)(O:(R (8,W.cQ,m)).v=.slice av D cv)(F:D=W.db.ops.length)(ab:n<=D):
  ∃R',Sp cJ g (W.dZ n) R' H rz (w.setCell ⟨b,m*7+6,none⟩ (.slice av (D-n) cv))/\(∀k,Ft g (W.dZ n) R' k->Ft g W R k)/\∀u,u≠(8,W.cQ,m)->(R' u).v=(R u).v:=by
 have I:W.co.cy.length-1=m:=cM;have E:=vD (W:=W) M (j:=m) (by show m<W.co.cy.length;omega) (by rw[<-I];exact hg);have T6:=gz (W:=W) M;have n8:(R (8,W.cQ,m)).n=D:=by have:=h.ij _ E;rw[F];rw[<-I]at this|-;exact this
 have J:(R (8,W.cQ,m)).cs=W.db.ops.flatMap vc:=by have:=h.cells _ E;rw[<-I]at this|-;exact this
 have K:Rows cJ Gl DU (fZ W) (jG R (8,W.cQ,m) ⟨.slice av (D-n) cv,D-n,(W.db.ops.take (D-n)).flatMap vc⟩) w:=by
  have own:=h.eH.own _ E;rw[O]at own;obtain⟨e,e0⟩|⟨g',L,ac,e,_⟩:=own.2
  .have h0:D=0:=cM;have aa:n=0:=cM;subst aa;refine h.eH.same λt _=>?_;by_cases et:t=(8,W.cQ,m)
   .subst et;rw[dD,Nat.sub_zero];have:(R (8,W.cQ,m))=⟨(R (8,W.cQ,m)).v,(R (8,W.cQ,m)).n,(R (8,W.cQ,m)).cs⟩:=rfl;rw[this,O,n8,J,iI cM]
   .rw[dh _ _ et]
  .have e':av=some (zA g' 0)/\cv=L:=by
    simp only[de]at e;exact⟨e.1,e.2.2⟩
   obtain⟨rfl,rfl⟩:=e';have:=h.eH.cut E (g:=g') (cap:=cv) (by rw[O,n8]) (n:=D-n) (by rw[n8];omega);rw[J]at this;have e3:DU ((8,W.cQ,m):eO).1=3:=rfl;rwa[e3,<-rq rG]at this
 have ho:(Value.slice av (D-n) cv).ownBlock=(R (8,W.cQ,m)).v.ownBlock:=by rw[O];cases av<;>rfl
 have A:=K;rw[<-I]at A;have hS:=h.yq M cM hg (xs:=W.db.ops.take (D-n)) (r:=⟨.slice av (D-n) cv,D-n,(W.db.ops.take (D-n)).flatMap vc⟩) (by show D-n=_;rw[dX];omega) rfl A (by show(Value.slice av (D-n) cv).ownBlock≠_;rw[ho];exact h.own _ E) rfl h6.cy;rw[I]at hS;have el:W.dZ n=W.dN {W.db with ops:=W.db.ops.take (D-n)}:=by unfold St.dZ;rw[F]
 rw[el];have rv:∀u,u≠(8,W.cQ,m)->(jG (jG R (8,W.cQ,m) ⟨.slice av (D-n) cv,D-n,(W.db.ops.take (D-n)).flatMap vc⟩) (6,W.cQ,0) ⟨(R (6,W.cQ,0)).v,(R (6,W.cQ,0)).n,(R (6,W.cQ,0)).cs.set (m*7+6) (.slice av (D-n) cv)⟩ u).v=(R u).v:=by
  intro u hu;by_cases e6:u=(6,W.cQ,0)
  .subst e6;rw[dD]
  .rw[dh _ _ e6,dh _ _ hu]
 refine⟨_,hS,λk hk=>?_,rv⟩;obtain rfl|⟨t,ht,e⟩:=hk
 .exact .inl rfl
 .have hW:=(mF (W:=W) (f:={W.db with ops:=W.db.ops.take (D-n)}) M cM rfl t).1 ht;by_cases e8:t=(8,W.cQ,m)
  .subst e8;rw[dh _ _ dC,dD]at e;exact Ft.rE E (by rw[<-ho];exact e)
  .rw[rv t e8]at e;exact Ft.rE hW e
def QW{S:Nat->Prop}{w':World}(I:∀k,S k->k<w.heap.size)(D:sd 56 3 w w.heap.size none 0 0 (l.flatMap vc) av m cv w')(hm:m=l.length):Ls S w' av l/\m<=cv/\cv<=9223372036854775807:=by
 obtain⟨e,e0⟩|⟨E,F,J,e,hb,K,L,M,h3,h4⟩:=D.own.2
 .simp only[de]at e;refine⟨λh=>?_,cM,cM⟩;omega
 .simp only[de]at e;obtain⟨rfl,_,rfl⟩:=e;refine⟨λ_=>⟨E,0,rfl,λh=>?_,?_,λj u O=>?_⟩,L,by unfold maxLen at M;omega⟩
  .have:=I _ h;omega
  .exact(dS.1 K).1
  .have:=D.own.cells (g:=E) rfl j u O;rwa[iK]at this
def rO(h:Sp cJ g W R H rz w)(J:W.cQ<W.cS.length)(hl:0<W.co.cy.length)(hg:W.db.guard=false)(hb:W.db.ops.length<=1000000000)(n:Nat)(ay:n<=W.db.ops.length):
  zC 49 #[zP g,zI n] w λe w'=>∃ao co R',e=.returned (.slice ao n co)/\n<=co/\co<=9223372036854775807/\Ls (Ft g (W.dZ n) R') w' ao (W.taken n) /\
   Sp cJ g (W.dZ n) R' H rz w'/\zL g W R (W.dZ n) R' w w'/\∀u,u≠(8,W.cQ,W.co.cy.length-1)->(R' u).v=(R u).v:=by
 obtain⟨d,aG,h4,aH,aj⟩:=h.zH J;obtain⟨b,cap,h6,aI,ak⟩:=h.SE J hl;obtain⟨m,hm⟩:=GS (n:=W.co.cy.length) cM;have aJ:m+1<=9223372036854775807:=by rw[<-hm];exact h.ny J
 have aK:m+1<=cap:=by rw[<-hm];exact h6.le
 have e1:W.co.cy.length-1=m:=cM;have HE:=cO h;have HM:=cO hm;have aL:=cO aj;have al:=cO ak;have T8:=vD (W:=W) J (j:=m) (by show m<W.co.cy.length;omega) (by rw[<-e1];exact hg);obtain⟨av,cv,hv⟩:=h.eH.sliced T8;have n8:(R (8,W.cQ,m)).n=W.db.ops.length:=by have:=h.ij _ T8;rw[<-e1]at this|-;exact this
 obtain⟨no,ac⟩:=eX W.db.ops.length;rw[n8,<-ac]at hv;have HO:Hid (∀X,Sp cJ g W R H rz X->X.ownsRow cJ 56 3 (.slice av no cv) no (R (8,W.cQ,m)).cs):=by intro X hX;have:=hX.eH.own _ T8;rwa[hv,n8,<-ac]at this
 have HV:=cO hv;have aM:=cO T8;have ag:=cO ac;have HD:=cO (Be h iN T8 dC (by rw[h4.cS];rfl));have aN:=cO (Be h (gz J) T8 dC (by rw[h6.cy];rfl));have HG:=cO (Dc h T8);have am:=cO hg;have ae:Hid (∀X,Sp cJ g W R H rz X->zE X b (m*7+6) (.slice av no cv)):=by
  intro X hX;refine hX.So J h6 (j:=m) (r:=6) cM ?_;have az:(W.fr W.cQ m).guard=false:=by rw[<-e1];exact hg
  unfold fc;rw[az,hv];rfl
 have aE:no<=1000000000:=cM;have aO:n<=no:=cM;have aA:Hid ((R (8,W.cQ,m)).cs=W.db.ops.flatMap vc):=by have:=h.cells _ T8;rw[<-e1]at this|-;exact this
 have an:no<=cv/\cv<=9223372036854775807:=by
  have:=(HO _ h).2;obtain⟨e,e0⟩|⟨g',ap,aB,e,_,_,h1,h2,_⟩:=this
  .simp only[de]at e;omega
  .simp only[de]at e;unfold maxLen at h2;omega
 obtain⟨an,aP⟩:=an;have ah:Hid (n=(W.taken n).length):=by show _=(W.db.ops.drop _).length;rw[eZ];omega
 have aq:Hid (((W.taken n).flatMap vc).length=n*3):=by show _=_;rw[kH rG,<-ah]
 have aa:∀u∈(W.taken n).flatMap vc,u.oneCell'=true:=by intro u hu;obtain⟨x,_,hx⟩:=Jo.1 hu;exact ye x u hx
 rw[e1];have ai:(av=none/\no=0/\cv=0)\/∃K,av=some (zA K 0):=by
  obtain⟨e,e0⟩|⟨g',ap,aB,e,_⟩:=(HO _ h).2
  .simp only[de]at e;exact .inl ⟨e.1,e0,e.2.2⟩
  .simp only[de]at e;exact .inr ⟨g',e.1⟩
 obtain⟨i0,hi,ar,au,aw⟩:=fQ yO;clear aj ak hm hl e1 T8 hv n8 ac hg hb ay;by_cases aC:n=0
 .subst aC;have ax:∀(X:World)(ao:Option Addr),0<0->∃ad,ao=some ad/\∀j u,((W.taken 0).flatMap vc)[j]?=some u->X.cell? (ad.add j)=some u:=λ_ _ h=>absurd h (gE _);have af:=cO ax;clear ax;have hq:(av=none/\no=0/\cv=0)\/(∃K,av=some (zA K 0)/\cv=no)\/∃K,av=some (zA K 0)/\¬cv=no/\¬no=cv:=by
   obtain h|⟨K,h⟩:=ai
   .exact .inl h
   .by_cases e:cv=no
    .exact .inr (.inl ⟨K,h,e⟩)
    .exact .inr (.inr ⟨K,h,e,λq=>e q.symm⟩)
  obtain⟨rfl,rfl,rfl⟩|⟨K,rfl,rfl⟩|⟨K,rfl,aD,aF⟩:=hq;all_goals
   clear h;go_enter func49,ntmps49;go_wp2;refine dx λw1 L=>?_;have F:Sp cJ g W R H rz w1:=L▸HE;have K1:zK g W R w w1:=L▸Kp.refl _ _;clear L;have c6:=F.c6 h4;have c7:=F.c7;have k0:=F.k0 J HM h4 h6;go_quiet (fail);go_wp2;clear c6 c7 k0;refine dx λw2 M=>?_;have D:Sp cJ g W R H rz w2:=M▸F.drewN _;have K2:zK g W R w w2:=M▸K1.drewN _;clear M;have c6:=D.c6 h4;have c7:=D.c7;have k0:=D.k0 J HM h4 h6;have c8:=ae _ D;have HN:Hid (∀q,0<0->∃ad,(none:Option Addr)=some ad/\∀j u,((W.taken 0).flatMap vc)[j]?=some u->(w2.drewN q).cell? (ad.add j)=some u):=λq=>af _ none;go_quiet (fail);go_wp2_with(at_builtin;refine eI rfl _ _ _ rfl 56 i0 (.agg (zV 0 0 ⟨#[]⟩)) 3 32 uM hi ar au aw rfl cM w2.heap.size none 0 0 [] rfl (fD _ _ _ _) _ 0 _ ((W.taken 0).flatMap vc) rfl aq (af _ _) aa (by unfold maxLen;omega) cM (cE _) ?_;intro ab O w3 hA;have HA:=cO hA;clear hA c6 c7 k0 c8)
   rw[dU,eB]at HA;refine dx λw4 I=>?_;have E:Sp cJ g W R H rz w4:=I▸(D.drewN _).grown HA.jz;have K4:zK g W R w w4:=I▸(K2.drewN nq).trans (Kp.grown HA.jz (λk hk=>by cases hk) λk hk=>.inl hk);have L4:Ls (Ft g W R) w4 ab (W.taken 0)/\0<=O/\O<=9223372036854775807:=I▸QW (w:=w2.drewN nq) (λk hk=>Ft.lt (D.drewN nq) hk) HA ah;clear I;have c6:=E.c6 h4;have c7:=E.c7;have k0:=E.k0 J HM h4 h6;have k8:=ae _ E;have f8:=E.UF J h6 (m*7+6);refine uZ 20 ?_;simp only[List.take,List.drop];repeat(go_big_quiet_step(fail))
   apply wpQuiet_nil;go_wp2;go_returns;obtain⟨R',h1,h2,h3⟩:=E.drew.Ex J HM am h6 HV ag (n:=0) cM;refine⟨ab,O,R',rfl,L4.2.1,L4.2.2,(Ls.drew L4.1).kept (S1:=Ft g (W.dZ 0) R') ?_,h1,K4.drew.trans (S1:=Ft g W R) ?_,h3⟩<;>exact(Kp.setCell _ al).sub λk hk=>.inl (h2 k hk)
 .obtain⟨K,rfl⟩:∃K,av=some (zA K 0):=by
   obtain⟨_,e,_⟩|e:=ai
   .omega
   .exact e
  obtain⟨r,rfl⟩:∃r,no=r+n:=⟨no-n,cM⟩
  have af:Hid (∀X,Sp cJ g W R H rz X->0<n->∃ad,some ((zA K (r*3)):Addr)=some ad/\∀j u,((W.taken n).flatMap vc)[j]?=some u->X.cell? (ad.add j)=some u):=by
   intro X hX _;refine⟨_,rfl,λj u hu=>?_⟩;rw[iK];have hd:W.taken n=W.db.ops.drop r:=by show W.db.ops.drop _=_;congr 1;have:=ag.out;omega
   rw[hd,ry rG,lN,<-aA]at hu;have:=(HO X hX).cells (g:=K) rfl _ u hu;rwa[iK,dU]at this
  have aD:¬cv=r:=cM;have aQ:¬((r:Int)+n<n):=cM;clear ai h;go_enter func49,ntmps49;go_wp2;refine dx λw1 L=>?_;have F:Sp cJ g W R H rz w1:=L▸HE;have K1:zK g W R w w1:=L▸Kp.refl _ _;clear L;have c6:=F.c6 h4;have c7:=F.c7;have k0:=F.k0 J HM h4 h6;go_quiet (fail);go_wp2;clear c6 c7 k0;refine dx λw2 M=>?_;have D:Sp cJ g W R H rz w2:=M▸F.drewN _;have K2:zK g W R w w2:=M▸K1.drewN _;clear M;have c6:=D.c6 h4;have c7:=D.c7;have k0:=D.k0 J HM h4 h6;have c8:=ae _ D;have HN:=cO (λq=>af _ (D.drewN q));go_quiet (fail);go_wp2_with(at_builtin;refine eI rfl _ _ _ rfl 56 i0 (.agg (zV 0 0 ⟨#[]⟩)) 3 32 uM hi ar au aw rfl cM w2.heap.size none 0 0 [] rfl (fD _ _ _ _) _ n _ ((W.taken n).flatMap vc) rfl aq (HN _) aa (by unfold maxLen;omega) cM (cE _) ?_;intro ab O w3 hA;have HA:=cO hA;clear hA c6 c7 k0 c8)
  rw[dU,eB]at HA;refine dx λw4 I=>?_;have E:Sp cJ g W R H rz w4:=I▸(D.drewN _).grown HA.jz;have K4:zK g W R w w4:=I▸(K2.drewN nq).trans (Kp.grown HA.jz (λk hk=>by cases hk) λk hk=>.inl hk);have L4:Ls (Ft g W R) w4 ab (W.taken n)/\n<=O/\O<=9223372036854775807:=I▸QW (w:=w2.drewN nq) (λk hk=>Ft.lt (D.drewN nq) hk) HA ah;clear I;have c6:=E.c6 h4;have c7:=E.c7;have k0:=E.k0 J HM h4 h6;have k8:=ae _ E;have f8:=E.UF J h6 (m*7+6);refine uZ 20 ?_;simp only[List.take,List.drop];repeat(go_big_quiet_step(fail))
  apply wpQuiet_nil;go_wp2;go_returns;obtain⟨R',h1,h2,h3⟩:=E.drew.Ex J HM am h6 HV ag (n:=n) cM;have hK:zL g W R (W.dZ n) R' w4.drew (w4.drew.setCell (zA b (m*7+6)) (zS K ((r+n)-n) cv)):=(Kp.setCell _ al).sub λk hk=>.inl (h2 k hk);refine⟨ab,O,R',rfl,L4.2.1,L4.2.2,(Ls.drew L4.1).kept ?_,?_,?_,h3⟩
  .rwa[pH]at hK
  .rwa[pH]at h1
  .rw[pH]at hK;exact K4.drew.trans hK
def yJ(h:Sp cJ g W R H rz w)(hB:cJ<=w.heap.size)(hn:W.cQ<W.cS.length)(hb:W.co.cy.length<=1000000000000)(hf:f.ops=[]){rs:fW}{a4 a5:Option Addr}{n4 c4 n5 c5:Nat}(e4:(if f.guard then mO else(R (5,f.fn,0)).v)=.slice a4 n4 c4)(e5:(if f.guard then mO else rs.v)=.slice a5 n5 c5)(hs:f.guard=false->w.ownsRow cJ 3 1 rs.v rs.n rs.cs/\rs.n=f.da.length/\(rs.cs=f.da.flatMap λ(x:Nat)=>[zI (x:Int)])/\∀k,rs.v.ownBlock=some k->¬Ft g W R k):
  zC 48 #[zP g,.agg #[.bool f.guard,zI f.want,zI f.eR,zI f.eA,.slice a4 n4 c4,.slice a5 n5 c5,zN]] w λe w'=>(∃x,e=.returned x) /\
   ∃R',Sp cJ g (W.push f) R' H rz w'/\Kp (λk=>Ft g W R k\/(f.guard=false/\rs.v.ownBlock=some k)) (Ft g (W.push f) R') w w':=by
 obtain⟨d,au,h4,aJ,aA⟩:=h.zH hn;have F:=gz (W:=W) hn;obtain⟨av,cv,hv⟩:=h.eH.sliced F;have n6:(R (6,W.cQ,0)).n=W.co.cy.length:=h.ij _ F;obtain⟨E,ad⟩:=eX W.co.cy.length;rw[n6,<-ad]at hv;have aI:E<=1000000000000:=cM;have ae:=cO ad;have HO:Hid (∀X,Sp cJ g W R H rz X->X.ownsRow cJ 111 7 (.slice av E cv) E (R (6,W.cQ,0)).cs):=by intro X hX;have:=hX.eH.own _ F;rwa[hv,n6,<-ad]at this
 have HD:=cO (Be h iN F dC (by rw[h4.cS];rfl));have HG:=cO (Dc h F);have ai:Hid (∀X,Sp cJ g W R H rz X->zE X d (W.cQ*8) (.slice av E cv)):=by intro X hX;have:=hX.Ll h4 hn (r:=0) rfl;rwa[hv]at this
 have aj:Hid (P9 R f rs.v=[.bool f.guard,zI f.want,zI f.eR,zI f.eA,.slice a4 n4 c4,.slice a5 n5 c5,zN]):=by show _=_;unfold P9;rw[e4,e5];rfl
 have aw:=cO hs;obtain⟨q0,ak⟩:=eX f.guard;obtain⟨q1,al⟩:=eX f.want;obtain⟨q2,am⟩:=eX (f.eR:Int);obtain⟨q3,an⟩:=eX (f.eA:Int);rw[<-ak,<-al,<-am,<-an]at aj;rw[show(.agg #[.bool f.guard,zI f.want,zI f.eR,zI f.eA,.slice a4 n4 c4,.slice a5 n5 c5,zN]:Value)=.agg #[.bool q0,zI q1,zI q2,zI q3,.slice a4 n4 c4,.slice a5 n5 c5,zN] by rw[ak,al,am,an]];have ab:∀u∈([.bool q0,zI q1,zI q2,zI q3,.slice a4 n4 c4,.slice a5 n5 c5,zN]:List Value),u.oneCell'=true:=by intro u hu;simp only[eQ,eh,iw]at hu;obtain rfl|rfl|rfl|rfl|rfl|rfl|rfl:=hu<;>rfl
 have aB:=cO ab;clear n6 ad hb e4 e5 hs ak al am an ab;obtain⟨i0,hi,aC,aD,aE⟩:=fQ uC;go_enter func48,ntmps48;go_wp2;refine dx λw2 af=>?_;have I:Hid (Sp cJ g W R H rz w2):=af▸h.alloc _;have K2:Hid (zK g W R w w2):=af▸Kp.alloc _;have D:Hid (Lc (Ft g W R) w2 w.heap.size #[.bool q0,zI q1,zI q2,zI q3,.slice a4 n4 c4,.slice a5 n5 c5,zN] 111):=by rw[af];exact Lc.new w (λk K=>Ft.lt h K) _ _
 clear af;obtain⟨S,L⟩:=eX (fI w2 (R (6,W.cQ,0)).v.ownBlock);have y6:=Wd.ce L (I.c6 h4) HG;have y7:=Wd.ce L I.c7 HG;have y0:=Wd.ce L (ai w2 I) HD;have z0:=Wd.ce L (D.cell (j:=0) rfl) (mD D F);have z1:=Wd.ce L (D.cell (j:=1) rfl) (mD D F);have z2:=Wd.ce L (D.cell (j:=2) rfl) (mD D F);have z3:=Wd.ce L (D.cell (j:=3) rfl) (mD D F);have z4:=Wd.ce L (D.cell (j:=4) rfl) (mD D F);have z5:=Wd.ce L (D.cell (j:=5) rfl) (mD D F);have z6:=Wd.ce L (D.cell (j:=6) rfl) (mD D F);have HS:=cO L;clear L;haveI:=pz HS;refine uq S 20 2 (HS▸(fI.refl _ _).drew) ?_;simp only[List.take,List.drop];repeat(go_big_quiet_step(fail))
 refine wpQuiet_nil ?_;refine dI ?_;go_wp2;refine⟨HS▸(fI.refl _ _).drew.alloc _,?_⟩;refine dI ?_;refine gJ λw3 ac=>?_;have ap:Hid (Sp cJ g W R H rz w3):=ac▸(I.alloc _).drew;have K3:Hid (zK g W R w w3):=ac▸(K2.trans (Kp.alloc _)).drew;have S3:Hid (fI w2 (R (6,W.cQ,0)).v.ownBlock w3):=ac▸((fI.refl _ _).alloc _).drew;have aF:Hid (∀j u,(P9 R f rs.v)[j]?=some u->w3.cell? (((zA w2.heap.size 0):Addr).add j)=some u):=by rw[aj,ac];intro j u hu;rw[iK,dU];exact Lc.cell (S:=λ_=>False) (cs:=#[.bool q0,zI q1,zI q2,zI q3,.slice a4 n4 c4,.slice a5 n5 c5,zN]) ⟨λh=>h,dJ w2 _⟩ (by simpa using hu)
 clear ac;refine eI rfl _ _ _ rfl 111 i0 (.agg #[.bool false,zI 0,zI 0,zI 0,zN,zN,zN]) 7 104 underlying59 hi aC aD aE rfl cM cJ av E cv (R (6,W.cQ,0)).cs rfl (HO _ ap) (some (zA w2.heap.size 0)) 1 1 (P9 R f rs.v) rfl rfl (λ_=>⟨_,rfl,aF⟩) (aj▸aB) (by unfold maxLen;omega) cM (cV hB K3.size) ?_;intro M O w4 hA;have aq:Hid (∃R',Sp cJ g (W.od f) R' H rz (w4.setCell (zA d (W.cQ*8)) (.slice M (E+1) O))/\Kp (λk=>Ft g W R k\/(f.guard=false/\rs.v.ownBlock=some k)) (Ft g (W.od f) R') w (w4.setCell (zA d (W.cQ*8)) (.slice M (E+1) O))/\(R' (6,W.cQ,0)).v=.slice M (E+1) O/\(R' (4,0,0)).v=(R (4,0,0)).v):=by
  have A:=ap.Ih F rfl rfl hv hA;have ag:∀k,rs.v.ownBlock=some k->f.guard=false->k<w.heap.size/\k≠g/\∀t,fZ W t->(jG R (6,W.cQ,0) ⟨.slice M (E+1) O,E+1,(R (6,W.cQ,0)).cs++P9 R f rs.v⟩ t).v.ownBlock≠some k:=by
   intro k K hg;obtain⟨o1,_,_,o4⟩:=aw hg;have ar:=o4 k K;have aG:=(o1.lt k K).2;refine⟨aG,λe=>ar (.inl e),λt ht e=>?_⟩;by_cases et:t=(6,W.cQ,0)
   .subst et;rw[dD]at e;obtain x|x:=A.qA k e
    .exact ar (Ft.rE ht x)
    .have:=K3.size;omega
   .rw[dh _ _ et]at e;exact ar (Ft.rE ht e)
  obtain⟨R',s1,s2,s3,s4⟩:=ap.od hn hf (rs:=rs) (by show E+1=_;rw[ae]) rfl A.eH A.own A.heap (λhg=>by
   obtain⟨o1,o2,o3,o4⟩:=aw hg;refine⟨?_,o2,o3,λk K=>⟨(ag k K hg).2.1,(ag k K hg).2.2⟩⟩;have ok:w3.ownsRow cJ 3 1 rs.v rs.n rs.cs:=by
    refine⟨o1.1,?_⟩;obtain x|⟨g',ax,aH,x,xb,xh,xr⟩:=o1.2
    .exact .inl x
    .refine .inr ⟨g',ax,aH,x,xb,?_,xr⟩;rw[K3.kg g' (dS.1 xh).1 (o4 g' (by rw[x];rfl))];exact xh
   refine ok.kept A.jz ?_;cases hx:rs.v.ownBlock with
   |none=>exact .inl rfl
   |some k=>exact .inr λe=>o4 k hx (Ft.rE F e.symm)) h4.cS
  refine⟨R',s1,?_,s2,by rw[s4 _ dC dC dC]⟩;have kA:Kp (Ft g W R) (λk=>Ft g W R k\/w3.heap.size<=k) w3 (w4.setCell (zA d (W.cQ*8)) (.slice M (E+1) O)):=(Kp.grown A.jz (λk K _=>Ft.rE F K) (λk K=>K)).trans (Kp.setCell _ (.inl aA));have kW:=K3.trans kA;refine⟨kW.os,kW.tape,kW.output,kW.size,λk K aa=>kW.kg k K λx=>aa (.inl x),λk K aa hF=>?_⟩;obtain rfl|⟨t,ht,e⟩:=hF
  .exact aa (.inl (.inl rfl))
  by_cases e6:t=(6,W.cQ,0)
  .subst e6;rw[s2]at e;obtain x|x:=A.qA k e
   .exact aa (.inl (Ft.rE F x))
   .have:=K3.size;omega
  by_cases e7:t=(7,W.cQ,W.co.cy.length)
  .subst e7;have hg:f.guard=false:=by
    have:((W.od f).fr W.cQ W.co.cy.length).guard=false:=by
     obtain(q|q|q|q)|q|q|q|⟨_,_,_,q⟩:=ht
     .simp at q
     .simp at q
     .simp at q
     .simp at q
     .simp at q
     .simp at q
     .simp at q
     .exact q
    rwa[pL hn]at this
   rw[(s3 hg).1]at e;exact aa (.inr ⟨hg,e⟩)
  by_cases e8:t=(8,W.cQ,W.co.cy.length)
  .subst e8;have hg:f.guard=false:=by
    have:((W.od f).fr W.cQ W.co.cy.length).guard=false:=by
     obtain(q|q|q|q)|q|q|q|⟨_,_,_,q⟩:=ht
     .simp at q
     .simp at q
     .simp at q
     .simp at q
     .simp at q
     .simp at q
     .simp at q
     .exact q
    rwa[pL hn]at this
   rw[(s3 hg).2]at e;cases e
  .rw[s4 t e6 e7 e8]at e;refine aa (.inl (Ft.rE ?_ e));unfold fZ at ht;rw[mT]at ht;obtain q|q|q|q|⟨q,h2,h3,h4⟩:=ht
   .exact .inl q
   .exact .inr (.inl q)
   .exact .inr (.inr (.inl q))
   .exact .inr (.inr (.inr (.inl q)))
   .have q':¬(t.2.1=W.cQ/\t.2.2=W.co.cy.length):=by
     intro q';obtain⟨a,b,c⟩:=t;dsimp only at*;obtain q|q:=q
     .exact e7 (by rw[q,q'.1,q'.2])
     .exact e8 (by rw[q,q'.1,q'.2])
    rw[rm hn _ q']at h4;refine .inr (.inr (.inr (.inr ⟨q,h2,?_,h4⟩)));rw[pS hn]at h3;by_cases x:t.2.1=W.cQ
    .rw[cR x]at h3;have:t.2.2≠W.co.cy.length:=λy=>q' ⟨x,y⟩;rw[x];show t.2.2<W.co.cy.length;omega
    .rwa[cK x]at h3
 have S4:=cO (S3.grown (hv▸hA.jz));have c0:=S4.cell (ai w2 I) HD;have f0:=(dA (a:=(zA d (W.cQ*8))) (S4.block d (dy _ (zA d (W.cQ*8)) (ai w2 I)) HD)).trans (I.out.S9 h4 _);clear hA;apply lK;refine⟨by rw[HS.out];exact S4,?_⟩;apply ej;go_wp2;clear c0 f0;refine dx λw5 ay=>?_;rw[<-ay]at aq;clear ay;obtain⟨R5,J,K5,r6,r4⟩:=aq.out;have c6:=J.c6 (d:=d) (dap:=au) ⟨by rw[r4,h4.cS,mT]⟩;rw[mT]at c6;have c7:zE w5 g 7 (zI W.cQ):=J.c7;have k0:zE w5 d (W.cQ*8) (.slice M (E+1) O):=by have:=J.Ll (d:=d) (dap:=au) ⟨by rw[r4,h4.cS,mT]⟩ (c:=W.cQ) (r:=0) (by rw[mT];exact hn) rfl;rwa[r6]at this
 have aK:zE w5 g 13 (zI W.iq):=J.eA (j:=13) rfl;have aL:=J.free 13;have ah:Sp cJ g (W.od f) R5 H rz w5:=J;have az:Kp (λk=>Ft g W R k\/(f.guard=false/\rs.v.ownBlock=some k)) (Ft g (W.od f) R5) w w5:=K5;clear J K5 r6 r4 aq;by_cases aM:W.iq<E+1
 .have b1:decide ((W.iq:Int)<(E:Int)+1)=true:=iY;go_quiet (fail);go_wp2;refine uZ 16 ?_;simp only[List.take,List.drop];repeat(go_big_quiet_step(fail))
  apply wpQuiet_nil;go_wp2;go_returns;have L:=ah.iq (E+1);refine⟨⟨_,rfl⟩,R5,?_,?_⟩
  .rw[IJ,Nat.max_eq_right (by rw[<-ae];omega),<-ae];exact(L.drewN _).drew
  .exact((az.trans (Kp.setCell _ Ft.nj)).drewN _).drew
 .have b1:decide ((W.iq:Int)<(E:Int)+1)=false:=iY;go_quiet (fail);go_wp2;go_returns;refine⟨⟨_,rfl⟩,R5,?_,az.drewN _⟩;rw[IJ,Nat.max_eq_left (by rw[<-ae];omega)];exact ah.drewN _
end rn
end Go.Proofs.YtfpkdfeakanlpaaGreatDoor
