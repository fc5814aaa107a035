import Derived.Laws.Concat
import Derived.Test.YtfpkdfeakanlpaaGreatDoorMRnMc
set_option linter.all false
set_option maxRecDepth 100000
set_option maxHeartbeats 8000000
namespace Go.Proofs.YtfpkdfeakanlpaaGreatDoor
open Go.Proofs.Tryz
namespace rn
open RowKit bts pg chk
variable{rz rz':Bool×Vl}{f:Fr}{H H':Hd}{cW:Int}{args:List Vl}{cJ c cap d dap g j n na:Nat}{S:Nat->Prop}{Hs:Nat→List Int}{ao:Option Addr}{p:Pg}{V W:St}{R R' R1:eO→fW}{ev u:Vl}{w w0 w1:World}
def Kp.Tv{S1 F T:Nat->Prop}{I:World}(h:Kp S S1 w w1)(k:Kp (λb=>S1 b\/T b) F w1 I)(J:∀b,T b->w.heap.size<=b):Kp S F w I:=
 ⟨k.os.trans h.os,k.tape.trans h.tape,k.output.trans h.output,cV h.size k.size,λi D E=>(k.kg i (dj D h.size) λx=>x.elim (h.out i D E) λy=>by have:=J i y;omega).trans (h.kg i D E),λi D E=>k.out i (dj D h.size) λx=>x.elim (h.out i D E) λy=>by have:=J i y;omega⟩
def ML{B I:Nat}{E:Nat}{v:Value}{us:List Value}(h:w.ownsRow B E c v n us)(J:I<=B):w.ownsRow I E c v n us:=by
 refine⟨h.1,?_⟩;obtain x|⟨K,D,F,x,L,M⟩:=h.2
 .exact .inl x
 .exact .inr ⟨K,D,F,x,cV J L,M⟩
def Ct(q:Pr)(args:List Vl)(k:Nat):List Vl:=(List.range k).map λi=>if i<q.params.toNat then args.getD i v0 else v0
def Dz(n k:Nat):List Nat:=(List.range k).map λi=>n+i
def JQ(q:Pr)(args:List Vl)(k:Nat):Ct q args (k+1)=Ct q args k++[if k<q.params.toNat then args.getD k v0 else v0]:=by unfold Ct;rw[kR,gX];rfl
def Mh(n k:Nat):Dz n (k+1)=Dz n k++[n+k]:=by unfold Dz;rw[kR,gX];rfl
def MU(q:Pr)(args:List Vl)(k:Nat):(Ct q args k).length=k:=by simp[Ct]
def Pb(n k:Nat):(Dz n k).length=k:=by simp[Dz]
def VV(W:St)(q:Pr)(args:List Vl)(k:Nat):St:={W with vars:=W.vars++Ct q args k}
def mw(l:List Nat):List Value:=l.flatMap λ(x:Nat)=>[.int .i64 (x:Int)]
def EA(h:Sp cJ g W R H rz w)(hB:cJ<=w.heap.size)(hn:W.cQ<W.cS.length)(J:W.co.cy.length<=1000000000000)(b4:W.vars.length<=100000000){fn:Nat}(hf:fn<W.funcs.length){q:Pr}(hq:p.cU.getD (W.funcs.getD fn (0,[])).1 gu=q)(hp:(W.funcs.getD fn (0,[])).1<p.cU.length)(hP:kZ w H.ps p.cU)(aW:0<=q.da/\q.da<=1000)(br:0<=q.params)(hL:Ls (Ft g W R) w ao args)(aX:na=args.length)(b5:na<=9223372036854775807)(s:List UInt8)(want:Int):
  zC 22 #[zP g,vv ⟨5,fn,s⟩,.slice ao na cap,zI want] w λe w'=>(∃x,e=.returned x)/\∃R',Sp cJ g (enter p W fn args want) R' H rz w'/\zL g W R (enter p W fn args want) R' w w':=by
 obtain⟨bF,cF,hF,k1,k2⟩:=h.Wn hf;obtain⟨a4,c4,e4⟩:=h.eH.sliced (vC hf);generalize bs:(R (5,fn,0)).n=n4 at e4;have b6:=h.UG;obtain⟨aP,cP,eP,aY,rP⟩:=hP;obtain⟨bP,oP,uc,ud,bt,p0,p1,p2,p3,aZ,a0⟩:=rP _ hp;rw[hq]at p0 p1 aZ a0;obtain⟨a7,c7,a1,_,_⟩:=aZ;obtain⟨a8,c8,a2,_,_⟩:=a0;rw[a1]at p2;rw[a2]at p3;generalize q.fP.length=n7 at p2;generalize q.dw.length=n8 at p3;subst bt;obtain⟨pi,aB⟩:=eX ((W.funcs.getD fn (0,[])).1);rw[<-aB]at p0 p1 p2 p3 hp;obtain⟨ns,aG⟩:∃ns:Nat,q.da=ns:=⟨q.da.toNat,cM⟩
 obtain⟨np,aH⟩:∃np:Nat,q.params=np:=⟨q.params.toNat,cM⟩
 rw[aH]at p0;rw[aG]at p1 aW;have b1:ns<=1000:=cM;have a3:Hid (enter p W fn args want=(VV W q args ns).push ⟨false,want,pi,0,(W.funcs.getD fn (0,[])).2,Dz W.vars.length ns,[],fn⟩):=by show enter p W fn args want=_;unfold enter VV Ct Dz;dsimp only;rw[hq,aG,fh,<-aB]
 rw[a3];have HE:=cO h;have bu:=cO hL;have b7:=cO hf;have HN:=cO aX;have bv:Hid (q.params.toNat=np):=by show _=_;rw[aH];simp
 have bw:Hid (∀X,Sp cJ g W R H rz X->zE X g 5 (zS bF W.funcs.length cF)):=by intro X hX;have:=hX.eA (j:=5) rfl;rwa[hF]at this
 have a6:Hid (∀X,Sp cJ g W R H rz X->zE X bF (fn*2) (zI pi)/\zE X bF (fn*2+1) (.slice a4 n4 c4)):=by intro X hX;obtain⟨b',c',e',q1,q2⟩:=hX.Wn hf;rw[hF]at e';simp only[de,dB,fC,and_true,true_and]at e';obtain⟨rfl,rfl⟩:=e';rw[e4]at q2;rw[<-aB]at q1;exact⟨q1,q2⟩
 have bx:Hid (∀X,Sp cJ g W R H rz X->zE X g 1 (.slice (some (zA bP oP)) p.cU.length cP)):=by intro X hX;have:=hX.eA (j:=1) rfl;rwa[eP]at this
 have bz:Hid (∀X,zB w X->zE X bP (oP+pi*4) (zI np)/\zE X bP (oP+pi*4+1) (zI ns)/\zE X bP (oP+pi*4+2) (.slice a7 n7 c7)/\zE X bP (oP+pi*4+3) (.slice a8 n8 c8)):=λX hX=>⟨di p0 hX,di p1 hX,di p2 hX,di p3 hX⟩
 unfold vv;obtain⟨fs,a9⟩:=eX (⟨s.toArray⟩:ByteArray);dsimp only;rw[kJ a9.symm];have b2:=aY;clear h hF k1 k2 bs eP rP p0 p1 p2 p3 a1 a2 aB aG aH hL a9 aX aY aW br hq;go_enter Vm,Tl;go_wp2;refine dx λw1 am=>?_;have an:Hid (Sp cJ g W R H rz w1):=am▸HE.alloc _;have K1:Hid (zK g W R w w1):=am▸Kp.alloc _;have B1:Hid (zB w w1):=am▸ba;have bA:Hid (Lc (Ft g W R) w1 w.heap.size (zV 5 fn fs) 56):=by rw[am];exact Lc.new w (λk hk=>Ft.lt HE hk) _ _
 clear am;obtain⟨S,hS⟩:=eX (fI w1 none);have y5:=Wd.cn hS (bw _ an);have y1:=Wd.cn hS (bA.cell (j:=1) rfl);have y2:=λx:Wd S=>x.cell hS (a6 _ an).1 dC;have y3:=λx:Wd S=>x.cell hS (a6 _ an).2 dC;have HS:=cO hS;clear hS;haveI:=pz HS;refine uq S 8 1 (HS▸(fI.refl _ _).drew) ?_;simp only[List.take,List.drop];repeat(go_big_quiet_step(fail))
 refine wpQuiet_nil ?_;refine dI ?_;go_wp2;refine⟨HS▸(fI.refl _ _).drew.alloc _,?_⟩;refine ej ?_;go_wp2;clear y5 y1 y2 y3;refine dx λF ap=>?_;have aj:Hid (Sp cJ g W R H rz F):=ap▸(an.alloc _).drew;have K2:Hid (zK g W R w F):=ap▸(K1.trans (Kp.alloc _)).drew;have B2:Hid (zB w F):=ap▸eb (B1.alloc B1.size _);have bb:Hid (Lc (Ft g W R) F w1.heap.size #[zI pi,.slice a4 n4 c4] 64):=by rw[ap];exact(Lc.new w1 (λk hk=>Ft.lt an hk) _ _).drew
 clear ap;obtain⟨p0,p1,p2,p3⟩:=bz _ B2;obtain⟨S2,aa⟩:=eX (fI F none);have y1:=λx:Wd S2=>x.cell aa (bx _ aj) dC;have y2:=λx:Wd S2=>x.cell aa (bb.cell (j:=0) rfl) dC;have z0:=λx:Wd S2=>x.cell aa p0 dC;have z1:=λx:Wd S2=>x.cell aa p1 dC;have z2:=λx:Wd S2=>x.cell aa p2 dC;have z3:=λx:Wd S2=>x.cell aa p3 dC;clear p0 p1 p2 p3;have aI:=cO aa;clear aa;haveI:Nonempty (Wd S2):=⟨⟨F,aI▸fI.refl _ _⟩⟩
 refine mA S2 9 1 gA gA (λd _ _ _ _ h=>by cases d<;>exact h) (aI▸(fI.refl _ _).drew) ?_;simp only[List.take,List.drop];repeat(go_big_quiet_step(fail))
 refine wpQuiet_nil ?_;refine dI ?_;go_wp2;refine⟨aI▸(fI.refl _ _).drew.alloc _,?_⟩;refine ej ?_;clear y1 y2 z0 z1 z2 z3;obtain⟨w3,ad⟩:=eX ((F.alloc (.cells #[zI np,zI ns,.slice a7 n7 c7,.slice a8 n8 c8] 100)).drew);have bB:Hid (Sp cJ g W R H rz w3):=ad▸(aj.alloc _).drew;have K3:Hid (zK g W R w w3):=ad▸(K2.trans (Kp.alloc _)).drew;have bC:Hid (Lc (Ft g W R) w3 F.heap.size #[zI np,zI ns,.slice a7 n7 c7,.slice a8 n8 c8] 100):=by rw[ad];exact(Lc.new F (λk hk=>Ft.lt aj hk) _ _).drew
 have aJ:Hid (Lc (Ft g W R) w3 w1.heap.size #[zI pi,.slice a4 n4 c4] 64):=ad▸(bb.alloc _).drew;have l0:=aJ.cell (j:=0) rfl;have l1:=aJ.cell (j:=1) rfl;have bD:w3.heap.size=F.heap.size+1:=by rw[ad];simp
 rw[ad]at l0 l1;go_wp2;clear l0 l1;refine dx λw4 aq=>?_;have bc:Hid (Sp cJ g W R H rz w4):=aq▸((aj.alloc _).alloc _).drew;have K4:Hid (zK g W R w w4):=aq▸((K2.trans (Kp.alloc _)).trans (Kp.alloc _)).drew;have bd:Hid (Lc (Ft g W R) w4 F.heap.size #[zI np,zI ns,.slice a7 n7 c7,.slice a8 n8 c8] 100):=by rw[aq];exact((Lc.new F (λk hk=>Ft.lt aj hk) _ _).alloc _).drew
 have be:Hid (Lc (Ft g W R) w4 (F.heap.size+1) #[.bool false,zI want,zI pi,zI 0,.slice a4 n4 c4,zN,zN] 111):=by have:=Lc.new (F.alloc (.cells #[zI np,zI ns,.slice a7 n7 c7,.slice a8 n8 c8] 100)) (S:=Ft g W R) (λk hk=>Ft.lt (aj.alloc _) hk) #[.bool false,zI want,zI pi,zI 0,.slice a4 n4 c4,zN,zN] 111;rw[dk]at this;rw[aq];exact this.drew
 clear aq ad bD bC aJ bB K3;have ar:Hid (VV W q args 0=W):=by show VV W q args 0=W;unfold VV Ct;simp
 have aK:Hid (∀(S':Nat->Prop) k I ty X,Lc S' X k I ty->Lc (λb=>S' b\/(Value.slice none 0 0).ownBlock=some b) X k I ty):=λS' k I ty X h=>⟨λx=>x.elim h.1 (λy=>by cases y),h.2⟩
 obtain⟨i0,hi,bE,bG,bH⟩:=fQ Nj;go_loopw[11] (λx wr=>∃(k:Nat)(R1:eO->fW)(D:Option Addr)(I:Nat),k<=ns/\x=zI (k:Int)/\Hid (Sp cJ g (VV W q args k) R1 H rz wr)/\Hid (zL g W R (VV W q args k) R1 w wr)/\Hid (wr.ownsRow w.heap.size 3 1 (.slice D k I) k (mw (Dz W.vars.length k)))/\Hid ((∀b,(Value.slice D k I).ownBlock=some b->¬Ft g (VV W q args k) R1 b)/\(R1 (5,fn,0)).v=(R (5,fn,0)).v)/\Hid (Lc (λb=>Ft g (VV W q args k) R1 b\/(Value.slice D k I).ownBlock=some b) wr F.heap.size #[zI np,zI ns,.slice a7 n7 c7,.slice a8 n8 c8] 100)/\Hid (Lc (λb=>Ft g (VV W q args k) R1 b\/(Value.slice D k I).ownBlock=some b) wr (F.heap.size+1) #[.bool false,zI want,zI pi,zI 0,.slice a4 n4 c4,.slice D k I,zN] 111)) (λx _=>ns-(intOf x).toNat)
 case atStart=>exact⟨0,R,none,0,dM _,rfl,by rw[ar.out];exact bc.out,ar▸K4,fD _ _ _ _,⟨λb J=>(by cases J),rfl⟩,ar▸aK _ _ _ _ _ bd,ar▸aK _ _ _ _ _ be⟩
 case round=>
  clear ar aK bd be bc K4;obtain⟨k,R1,D,I,hk,rfl,aL,au,aw,ax,aM,aN⟩:=hrel;have s1:=aM.cell (j:=1) rfl;have s0:=aM.cell (j:=0) rfl;by_cases b8:k<ns
  .have b3:(k:Int)<(ns:Int):=cM;have bf:=bu.kept au;have m0:=fJ (o:=.cells (zV 0 0 ⟨#[]⟩) 56) s0;obtain⟨ak,O⟩:=eX (if k<q.params.toNat then args.getD k v0 else v0);obtain⟨gk,ae⟩:=eX ak.k;obtain⟨gn,af⟩:=eX ak.n;obtain⟨gs,ag⟩:=eX (⟨ak.s.toArray⟩:ByteArray);have bI:Hid (vv ak=.agg (zV gk gn gs)):=by unfold vv;rw[kJ ag.symm,ae,af];rfl
   have bJ:Hid ({VV W q args k with vars:=(VV W q args k).vars++[ak]}=VV W q args (k+1)):=by show _=VV W q args (k+1);unfold VV;rw[JQ,<-O,jQ]
   have aO:(VV W q args k).vars.length=W.vars.length+k:=by show(W.vars++Ct q args k).length=_;rw[dq,MU]
   have bK:(k<np/\k<na/\∃bl off,ao=some (zA bl off)/\(wr.alloc (.cells (zV 0 0 ⟨#[]⟩) 56)).cell? (zA bl (off+k*3))=some (zI gk)/\(wr.alloc (.cells (zV 0 0 ⟨#[]⟩) 56)).cell? (zA bl (off+k*3+1))=some (zI gn)/\(wr.alloc (.cells (zV 0 0 ⟨#[]⟩) 56)).cell? (zA bl (off+k*3+2))=some (.string gs)) \/
     ((k<np/\¬k<na)/\gk=0/\gn=0/\gs=⟨#[]⟩)\/(¬k<np/\gk=0/\gn=0/\gs=⟨#[]⟩):=by
    rw[bv]at O;by_cases h1:k<np
    .rw[cR h1]at O;by_cases h2:k<na
     .obtain⟨bl,off,e,l1,l2,l3⟩:=bf.eA (i:=k) (by rw[<-HN];exact h2);rw[<-O]at l1 l2 l3;rw[kJ ag.symm]at l3;rw[<-ae]at l1;rw[<-af]at l2;exact .inl ⟨h1,h2,bl,off,e,fJ l1,fJ l2,fJ l3⟩
     .have e:args.getD k v0=v0:=by rw[cB,dO (by rw[<-HN];omega)];rfl
      rw[e]at O;rw[O]at ae af ag;exact .inr (.inl ⟨⟨h1,h2⟩,ae,af,ag⟩)
    .rw[cK h1]at O;rw[O]at ae af ag;exact .inr (.inr ⟨h1,ae,af,ag⟩)
   have b9:=cV hB au.size;have f5:=aN.cell (j:=5) rfl;have bg:Hid (∀b,(Value.slice D k I).ownBlock=some b->b<wr.heap.size/\w.heap.size<=b):=λb J=>⟨(aw.lt b J).2,(aw.lt b J).1⟩
   obtain⟨S,hS⟩:=eX (λX=>(zE X (F.heap.size+1) 5 (.slice D k I)/\zE X wr.heap.size 0 (zI gk)/\zE X wr.heap.size 1 (zI gn)/\zE X wr.heap.size 2 (.string gs)):World->Prop);have L:Hid (∀X,S X↔(zE X (F.heap.size+1) 5 (.slice D k I)/\zE X wr.heap.size 0 (zI gk)/\zE X wr.heap.size 1 (zI gn)/\zE X wr.heap.size 2 (.string gs))):=λX=>by rw[hS]
   have z0:=λx:Wd S=>((L x.w).1 x.ok).1;have z1:=λx:Wd S=>((L x.w).1 x.ok).2.1;have z2:=λx:Wd S=>((L x.w).1 x.ok).2.2.1;have z3:=λx:Wd S=>((L x.w).1 x.ok).2.2.2;have aQ:Hid (S (wr.alloc (.cells (zV gk gn gs) 56))):=by
    refine(L _).2 ⟨fJ f5,?_,?_,?_⟩
    .exact Lc.cell (S:=λ_=>False) (cs:=(zV gk gn gs)) ⟨λh=>h,dJ wr _⟩ rfl
    .exact Lc.cell (S:=λ_=>False) (cs:=(zV gk gn gs)) ⟨λh=>h,dJ wr _⟩ rfl
    .exact Lc.cell (S:=λ_=>False) (cs:=(zV gk gn gs)) ⟨λh=>h,dJ wr _⟩ rfl
   haveI:Nonempty (Wd S):=⟨⟨_,aQ⟩⟩
   have bL:Hid (∀X,Sp cJ g (VV W q args k) R1 H rz X->cJ<=X.heap.size->zC 47 #[zP g,.agg (zV gk gn gs)] X λe w'=>e=.returned (zI ((W.vars.length+k:Nat):Int))/\∃R',Sp cJ g (VV W q args (k+1)) R' H rz w'/\Kp (Ft g (VV W q args k) R1) (Ft g (VV W q args (k+1)) R') X w'/\∀u,u≠(0,0,0)->(R' u).v=(R1 u).v):=by intro X hX J;have:=sS hX J (by rw[aO];omega) ak;rwa[bI,bJ,aO]at this
   have bh:Hid (Lc (λb=>Ft g (VV W q args k) R1 b\/(Value.slice D k I).ownBlock=some b) (wr.alloc (.cells (zV gk gn gs) 56)) wr.heap.size (zV gk gn gs) 56):=by refine⟨λx=>x.elim (λy=>gE _ (Ft.lt aL y)) (λy=>?_),dJ wr _⟩;have:=(bg _ y).1;omega
   clear hS bf O ae af ag f5 aO;obtain⟨h1,h2,bl,off,rfl,m1,m2,m3⟩|⟨⟨h1,h2⟩,e3⟩|⟨h1,e3⟩:=bK;all_goals
    try have E3:Hid (gk=0/\gn=0/\gs=⟨#[]⟩):=e3
    try clear e3
    try have bM:(k:Int)<(np:Int):=cM
    try have bM:¬(k:Int)<(np:Int):=cM
    try have bN:(k:Int)<(na:Int):=cM
    try have bN:¬(k:Int)<(na:Int):=cM
    go_wp2;refine dx λwa ab=>?_;replace ab:wa=wr.alloc (.cells (zV gk gn gs) 56):=by first|exact ab|(obtain⟨e1,e2,e3⟩:=E3;rw[e1,e2,e3];exact ab)
    have bO:Hid (S wa):=ab▸aQ;have bQ:Hid (Sp cJ g (VV W q args k) R1 H rz wa):=ab▸aL.alloc _;have Ka:Hid (zL g W R (VV W q args k) R1 w wa):=ab▸au.trans (Kp.alloc _);have aR:=aM.alloc (.cells (zV gk gn gs) 56);have aS:=aN.alloc (.cells (zV gk gn gs) 56);have aT:=bh;have Oa:=aw.alloc (.cells (zV gk gn gs) 56);rw[<-ab]at aR aS aT Oa;have bi:=cO aR;have bj:=cO aS;have bk:=cO aT;have aU:=cO Oa;clear ab aR aS aT Oa aQ bh;refine Cg S [0,1,2,3] [4,5,6] [7,8] ((L wa.drew).2 ((L wa).1 bO)) ?_;simp only[pick,ey,eB,eL,eM,dt,dG];repeat(go_big_quiet_step(fail))
    refine wpQuiet_nil ?_;refine dI ?_;clear z0 z1 z2 z3;go_wp2_with(go_at_call 47;refine cA (bL _ bQ.drew (cV hB Ka.size)) ?_;rintro e wb ⟨rfl,R2,h1,h2,h3⟩;have aC:=cO ((Kp.refl _ _).drew.trans h2);clear h2)
    have Kb:=cO (Ka.trans aC);have aD:=aC.ee (λb=>(Value.slice D k I).ownBlock=some b);have bm:=cO (Lc.kept bi aD);have ay:=cO (Lc.kept bj.out aD);have K:=cO (Lc.kept bk.out aD);have bR:Hid (wb.ownsRow w.heap.size 3 1 (.slice D k I) k (mw (Dz W.vars.length k))):=by
     refine⟨aU.1,?_⟩;obtain x|⟨g',bn,bT,x,xb,xh,xr⟩:=aU.2
     .exact .inl x
     .refine .inr ⟨g',bn,bT,x,xb,?_,xr⟩;rw[aC.out.kg g' (dS.1 xh).1 (ax.out.1 g' (by rw[x];rfl))];exact xh
    have aV:Hid (∀b,(Value.slice D k I).ownBlock=some b->¬Ft g (VV W q args (k+1)) R2 b):=λb J=>aC.out.out b ((aU.lt b J).2) (ax.1 b J);clear aD;refine⟨(L wb).2 ⟨ay.cell (j:=5) rfl,K.cell (j:=0) rfl,K.cell (j:=1) rfl,K.cell (j:=2) rfl⟩,?_⟩;refine dI ?_;go_wp2;have bU:Hid (S (wb.alloc (.cells #[zI ((W.vars.length+k:Nat):Int)] 3))):=(L _).2 ⟨fJ (ay.cell (j:=5) rfl),fJ (K.cell (j:=0) rfl),fJ (K.cell (j:=1) rfl),fJ (K.cell (j:=2) rfl)⟩;refine⟨bU,?_⟩;refine dI ?_;refine gJ λwc ac=>?_;have ah:Hid (Sp cJ g (VV W q args (k+1)) R2 H rz wc):=ac▸h1.alloc _;have Kc:Hid (Kp (Ft g W R) (Ft g (VV W q args (k+1)) R2) w wc):=ac▸Kb.trans (Kp.alloc _);have bV:Hid (wc.ownsRow w.heap.size 3 1 (.slice D k I) k (mw (Dz W.vars.length k))):=ac▸bR.alloc _;have bo:Hid (Lc (λb=>Ft g (VV W q args (k+1)) R2 b\/(Value.slice D k I).ownBlock=some b) wc F.heap.size #[zI np,zI ns,.slice a7 n7 c7,.slice a8 n8 c8] 100):=ac▸Lc.alloc bm _;have bp:Hid (Lc (λb=>Ft g (VV W q args (k+1)) R2 b\/(Value.slice D k I).ownBlock=some b) wc (F.heap.size+1) #[.bool false,zI want,zI pi,zI 0,.slice a4 n4 c4,.slice D k I,zN] 111):=ac▸Lc.alloc ay _;have bq:Hid (Lc (λb=>Ft g (VV W q args (k+1)) R2 b\/(Value.slice D k I).ownBlock=some b) wc wr.heap.size (zV gk gn gs) 56):=ac▸Lc.alloc K _;have bW:Hid (∀j u,([zI ((W.vars.length+k:Nat):Int)]:List Value)[j]?=some u->wc.cell? (((zA wb.heap.size 0):Addr).add j)=some u):=by rw[ac];intro j u hu;rw[iK,dU];exact Lc.cell (S:=λ_=>False) (cs:=#[zI ((W.vars.length+k:Nat):Int)]) ⟨λh=>h,dJ wb _⟩ (by simpa using hu)
    clear ac;refine eI rfl _ _ _ rfl 3 i0 (zI 0) 1 8 kN hi bE bG bH rfl cM w.heap.size D k I (mw (Dz W.vars.length k)) rfl bV (some (zA wb.heap.size 0)) 1 1 [zI ((W.vars.length+k:Nat):Int)] rfl rfl (λ_=>⟨_,rfl,bW⟩) (by intro u hu;simp only[eQ,eh,iw]at hu;subst hu;rfl) (by unfold maxLen;omega) cM Kc.size ?_;intro ai al wd hA;have az:∀b,(Value.slice ai (k+1) al).ownBlock=some b->(Value.slice D k I).ownBlock=some b\/wc.heap.size<=b:=by
     intro b J;obtain⟨e,_⟩|⟨q',e,h1|h1⟩:=hA.qA
     .subst e;cases ai with
      |none=>cases J
      |some a=>exact .inl J
     .subst e;cases J;exact .inl h1
     .subst e;cases J;exact .inr (mi h1.symm)
    have aE:Kp (λb=>Ft g (VV W q args (k+1)) R2 b\/(Value.slice D k I).ownBlock=some b) (λb=>Ft g (VV W q args (k+1)) R2 b\/(Value.slice ai (k+1) al).ownBlock=some b) wc wd:=Kp.grown hA.jz (λb J _=>.inr J) (λb J=>J.elim (λx=>.inl (.inl x)) (λx=>(az b x).imp .inr id));have aF:=cO (Lc.kept bo aE);have M:=cO (Lc.kept bp aE);have aA:=cO (Lc.kept bq aE);have E:=hA.jz;have bX:Hid (Sp cJ g (VV W q args (k+1)) R2 H rz wd):=by
     refine⟨ah.eH.kept E λt ht=>?_,ah.ij,ah.cells,ah.own,?_⟩
     .cases hx:(R2 t).v.ownBlock with
      |none=>exact .inl rfl
      |some b=>exact .inr λe=>aV b e.symm (Ft.rE ht hx)
     .rw[E.block g ah.lt λe=>aV g e.symm Ft.nj];exact ah.block
    have Kd:Hid (Kp (Ft g W R) (Ft g (VV W q args (k+1)) R2) w wd):=⟨E.os.trans Kc.os,E.tape.trans Kc.tape,E.output.trans Kc.output,cV Kc.size E.size,λb J hs=>(E.block b (dj J Kc.size) λe=>by have:=(bg.out b e.symm).2;omega).trans (Kc.out.kg b J hs),Kc.out.out⟩
    have bY:Hid (wd.ownsRow w.heap.size 3 1 (.slice ai (k+1) al) (k+1) (mw (Dz W.vars.length (k+1)))):=by rw[show mw (Dz W.vars.length (k+1))=mw (Dz W.vars.length k)++[zI ((W.vars.length+k:Nat):Int)] by rw[Mh];unfold mw;rw[mf]];exact hA.own
    have bZ:Hid (∀b,(Value.slice ai (k+1) al).ownBlock=some b->¬Ft g (VV W q args (k+1)) R2 b):=by
     intro b J hF;obtain x|x:=az b J
     .exact aV b x hF
     .have:=Ft.lt ah hF;omega
    have x5:=M.cell (j:=5) rfl;have y5:=M.free 5;clear hA az aE E;refine lK ?_;refine⟨(L wd).2 ⟨x5,aA.cell (j:=0) rfl,aA.cell (j:=1) rfl,aA.cell (j:=2) rfl⟩,?_⟩;refine ej ?_;go_wp2;go_roundw
    case rel=>
     have nF:¬Ft g (VV W q args (k+1)) R2 (F.heap.size+1):=λx=>M.1 (.inl x);have nR:¬(Value.slice ai (k+1) al).ownBlock=some (F.heap.size+1):=λx=>M.1 (.inr x);refine⟨k+1,R2,ai,al,cM,l9,bX.off (a:=(zA (F.heap.size+1) 5)) nF _,Kd.later (a:=(zA (F.heap.size+1) 5)) _ (by have:=B2.size;show w.heap.size<=F.heap.size+1;omega),iQ bY nR _,⟨bZ,(h3 _ dC).trans ax.2⟩,⟨aF.1,?_⟩,⟨M.1,?_⟩⟩
     .exact(cZ wd (zA (F.heap.size+1) 5) _ F.heap.size (by show F.heap.size≠F.heap.size+1;omega)).trans aF.2
     .exact fF M.2
    case measure=>simp[intOf];omega
  .obtain rfl:k=ns:=cM;obtain⟨f0,f1,f2,f3,f4,f5,f6⟩:=aN.c7;have b0:Hid (zC 48 #[zP g,.agg #[.bool false,zI want,zI pi,zI 0,.slice a4 n4 c4,.slice D k I,zN]] wr λe w'=>(∃x,e=.returned x) /\
     ∃R',Sp cJ g ((VV W q args k).push ⟨false,want,pi,0,(W.funcs.getD fn (0,[])).2,Dz W.vars.length k,[],fn⟩) R' H rz w'/\Kp (λb=>Ft g (VV W q args k) R1 b\/(false=false/\(Value.slice D k I).ownBlock=some b)) (Ft g ((VV W q args k).push ⟨false,want,pi,0,(W.funcs.getD fn (0,[])).2,Dz W.vars.length k,[],fn⟩) R') wr w'):=
    yJ (W:=VV W q args k) (f:=⟨false,want,pi,0,(W.funcs.getD fn (0,[])).2,Dz W.vars.length k,[],fn⟩) aL (cV hB au.size) hn J rfl (rs:=⟨.slice D k I,k,mw (Dz W.vars.length k)⟩) (by rw[cK dC,ax.2];exact e4) (by rw[cK dC]) (λ_=>⟨ML aw hB,(Pb _ _).symm,rfl,ax.1⟩)
   go_wp2_with(go_at_call 48;refine cA b0 ?_;rintro e w9 ⟨⟨x,rfl⟩,R9,h1,h2⟩;have KR:=cO (au.Tv h2 (λb J=>(aw.lt b J.2).1));clear h2)
   go_returns;exact⟨⟨_,rfl⟩,R9,h1,KR⟩
def yM:∀(l:List (List UInt8)) (x:List UInt8),mE (l++[x])=if l=[]then x else mE l++9::x
 |[],x=>rfl
 |[a],x=>rfl
 |a::b::l,x=>by rw[cK dC];show a++9::mE ((b::l)++[x])=(a++9::mE (b::l))++9::x;rw[yM (b::l) x,cK dC];simp
def tD:∀(l:List (List UInt8)),(∀x∈l,x.length<=5000)->(mE l).length<=l.length*5001
 |[],_=>cE 0
 |[a],h=>by have:=h a fR;show a.length<=1*5001;omega
 |a::b::l,h=>by have F:=h a fR;have D:=tD (b::l) (λx E=>h x (ig _ E));show(a++9::mE (b::l)).length<=(l.length+1+1)*5001;rw[dq,dt];simp only[dt]at D;omega
def lT{R:eO->fW}(h:Sp cJ g W R H rz w)(v:Vl):
  zC 45 #[zP g,vv v] w λe w'=>(∃x,e=.returned x)/\Sp cJ g W R H (true,v) w'/\zK g W R w w':=by
 have E:=h.alloc (.cells #[zI v.k,zI v.n,sv v.s] 56);have ng:w.heap.size≠g:=λe=>by have:=h.lt;omega
 clear h;obtain⟨w1,D⟩:=eX (w.alloc (.cells #[zI v.k,zI v.n,sv v.s] 56));rw[<-D]at E;have HS:=cO (E.TX v);have F:=E.eA (j:=15) rfl;have I:=E.eA (j:=16) rfl;have J:=E.eA (j:=17) rfl;have K:=E.eA (j:=18) rfl;have L:=E.free 15;have M:=E.free 16;have O:=E.free 17;have aa:=E.free 18;have l0:w1.cell? (zA w.heap.size 0)=some (zI v.k):=D▸fE rfl;have l1:w1.cell? (zA w.heap.size 1)=some (zI v.n):=D▸fE rfl;have l2:w1.cell? (zA w.heap.size 2)=some (sv v.s):=D▸fE rfl;clear E;rw[D]at HS F I J K L M O aa l0 l1 l2;clear D;unfold vv;unfold sv at*;go_enter func45,ntmps45;go_wp2;go_returns;exact⟨⟨_,rfl⟩,HS,(((((Kp.alloc _).trans (Kp.setCell (a:=(zA g 15)) _ Ft.nj)).trans (Kp.setCell (a:=(zA g 16)) _ Ft.nj)).trans (Kp.setCell (a:=(zA g 17)) _ Ft.nj)).trans (Kp.setCell (a:=(zA g 18)) _ Ft.nj))⟩
def qV(M:Mc w0 g W R H (false,ev) w)(v:Vl)(h:St)(E:h=W:=by rfl):
  zC 45 #[zP g,vv v] w λe D=>(∃x,e=.returned x)/\Cf w0 g H.ks H.ps (h,some v) D:=by
 subst E;refine(lT M.sp v).mono ?_;rintro e D ⟨F,I,J⟩;exact⟨F,R,H,ev,rfl,rfl,M.gY I J rfl rfl rfl⟩
def DI{P:Program}{ops:Array Oper}{l:List Oper}{Q:Exit->Act->World->Prop}{a:Act}{X:World}(h:Hid (wpList P ops Q l a X)):wpList P ops Q l a X:=h
def I9:(Tryz.prog.info? 29).map (λi=>(i.zero,i.size,i.bytes))=some (some (.slice none 0 0),1,24):=gA
def Sw(l:List UInt8)(E:l.length<=9223372036854775807)(F:∀k,S k->k<w.heap.size):Bt S (Lib.bytesWorld w 5 ⟨l.toArray⟩) (.slice (some ⟨w.heap.size,0,none⟩) l.length (grownCap w l.length 0 5)) l:=by
 have h:(⟨l.toArray⟩:ByteArray).size=l.length:=by simp[ByteArray.size]
 refine⟨_,_,rfl,E,λ_=>⟨w.heap.size,0,rfl,λI=>gE _ (F _ I),by rw[Lib.bytesWorld_size];omega,λj u D=>?_⟩⟩;have J:=(fG.1 D).1;rw[dU,Lib.bytesWorld_cell w 5 ⟨l.toArray⟩ j (h▸J)];have K:l.getD j 0=u:=by rw[cB,D];rfl
 show some (Value.int .u8 ((l.getD j 0).toNat:Int))=_;rw[K]
def Ez(E:mz p Hs)(M:Mc w0 g W R H (false,ev) w)(I:Iv p Hs W cW)(hp:0<=cW)(hv:∀v∈args,gG W.sz v)(hL:Ls (Ft g W R) w ao args)(aJ:na=args.length)(bn:na<=1000)(bo:W.dn.length<=1000000000)(bp:W.size<=100000):
  zC 78 #[zP g,.slice ao na cap,zI cW] w λe w'=>(∃x,e=.returned x)/\Cf w0 g H.ks H.ps (plain W 0 args cW) w':=by
 have HM:=cO M;have HI:=cO I;have aY:=cO hL;have HN:=cO aJ;have aZ:=cO hv;have az:Hid (∀k,k<=na->(mE ((args.take k).map jY)).length<=5001000):=by intro k hk;have:=tD ((args.take k).map jY) (by intro x hx;obtain⟨v,a0,rfl⟩:=jj.1 hx;exact mM (hv v (ox a0)));rw[dY,dX]at this;omega
 have HJ:Hid (∀k,k<na->mE ((args.take (k+1)).map jY)=if k=0 then jY (args.getD k v0)else(mE ((args.take k).map jY))++9::jY (args.getD k v0)):=by
  intro k hk;have e:args.take (k+1)=args.take k++[args.getD k v0]:=by rw[Ge,cB,cG cM];rfl
  rw[e,gX];show mE ((args.take k).map jY++[jY (args.getD k v0)])=_;rw[yM];by_cases L:k=0
  .rw[cR L,cR (by subst L;rfl)]
  .rw[cK L,cK];intro e2;have:=ga List.length e2;rw[dY,dX,dG]at this;omega
 clear M I hL aJ hv;go_enter func78,ntmps78;go_wp2;go_loopw[6,7] (λls x wr=>∃k:Nat,k<=na/\x=zI (k:Int)/\ls=.string ⟨(mE ((args.take k).map jY)).toArray⟩/\Hid (zB w wr)) (λ_ x _=>na-(intOf x).toNat)
 case atStart=>exact⟨0,dM _,rfl,rfl,cN _ _⟩
 case round=>
  obtain⟨k,hk,rfl,rfl,HB⟩:=hrel;by_cases aK:k<na
  .have bk:(k:Int)<(na:Int):=cM;have aL:=aY.kept (Kp.cY HB);obtain⟨bl,off,rfl,l1,l2,l3⟩:=aL.eA (i:=k) (by rw[<-HN];exact aK);have af:=cO (λX=>om _ (iR aZ k) X);obtain⟨gk,aA⟩:=eX ((args.getD k v0).k);obtain⟨gn,aB⟩:=eX ((args.getD k v0).n);obtain⟨gs,aC⟩:=eX (⟨(args.getD k v0).s.toArray⟩:ByteArray);rw[show vv (args.getD k v0)=.agg (zV gk gn gs) by unfold vv;rw[kJ aC.symm,aA,aB]]at af;rw[<-aA]at l1;rw[<-aB]at l2;rw[kJ aC.symm]at l3;have hJ:=HJ k aK;have ae:=az k hk;have O:=az (k+1) cM;obtain⟨aq,ag⟩:=eX (mE ((args.take k).map jY));obtain⟨sk,aD⟩:=eX (jY (args.getD k v0));rw[<-ag]at ae hJ;rw[<-aD]at hJ;unfold sv at af;rw[<-aD]at af;rw[<-ag];have ar:=cO hJ;rw[hJ]at O;clear aL aA aB aC hJ aD;by_cases L:k=0
   .have aM:¬(0:Int)<(k:Int):=cM;have aN:aq=[]:=by rw[ag,L];rfl
    subst aN;have hz:¬9223372036854775807<(⟨#[]⟩:ByteArray).size+(⟨sk.toArray⟩:ByteArray).size:=by rw[cR L]at O;simp[ByteArray.size];omega
    have aE:Hid (mE ((args.take (k+1)).map jY)=sk):=by have:=ar;rwa[cR L]at this
    clear ag ae O L ar;go_wp2_with(go_at_call 79;refine cA (af _) ?_;rintro e w5 ⟨rfl,b5⟩;have aF:=cO (iy HB b5);clear b5)
    go_roundw
    case rel=>exact⟨k+1,cM,l9,by rw[aE.out];exact ga Value.string (nE [] sk),aF.out⟩
    case measure=>simp[intOf];omega
   .have aM:(0:Int)<(k:Int):=cM;have aO:¬9223372036854775807<(⟨aq.toArray⟩:ByteArray).size+(⟨#[9]⟩:ByteArray).size:=by simp[ByteArray.size];omega
    have aE:Hid (mE ((args.take (k+1)).map jY)=aq++9::sk):=by have:=ar;rwa[cK L]at this
    rw[cK L,dq,dt]at O;have aP:¬9223372036854775807<((⟨aq.toArray⟩:ByteArray)++(⟨#[9]⟩:ByteArray)).size+(⟨sk.toArray⟩:ByteArray).size:=by simp[ByteArray.size];omega
    clear ag ae O L ar;go_wp2_with(go_at_call 79;refine cA (af _) ?_;rintro e w5 ⟨rfl,b5⟩;have aF:=cO (iy HB b5);clear b5)
    go_roundw
    case rel=>exact⟨k+1,cM,l9,by rw[aE];refine ga Value.string ?_;rw[show(⟨#[9]⟩:ByteArray)=ByteArray.mk [9].toArray from rfl,nE,nE];simp,aF⟩
    case measure=>simp[intOf];omega
  .obtain rfl:k=na:=cM;have eN:args.take k=args:=iI (by rw[HN];omega);have ae:=az k (cE _);rw[eN]at ae|-;obtain⟨D,au⟩:=eX (mE (args.map jY));rw[<-au]at ae|-;have a1:(⟨D.toArray⟩:ByteArray).size=D.length:=by simp[ByteArray.size]
   have F:=cO (HM.below HB);have aw:Hid (plain W 0 args cW=if 100000<W.size+D.length then mW W Aq else ok (gv {W with size:=W.size+D.length,dn:=W.dn++[D]} [] cW)):=by show plain W 0 args cW=_;unfold plain;rw[au];rfl
   have a2:=F.sp.eA (j:=14) rfl;by_cases ac:100000<W.size+D.length
   .have ah:Hid (plain W 0 args cW=mW W Aq):=by have:=aw;rwa[cR ac]at this
    have b1:(100000:Int)<(W.size:Int)+D.length:=cM;have a3:=cO (λX=>jo Aq X);have a6:=cO (λX (hX:Mc w0 g W R H (false,ev) X)=>qV hX (tv Aq) W);clear ac au eN aw;go_wp2_with(first
     |(go_at_call 46;refine cA (a3 _) ?_;rintro e w5 ⟨rfl,b5⟩;have a7:=cO (F.below b5);clear b5)
     |(go_at_call 45;refine cA (a6 _ a7) ?_;rintro e w6 ⟨⟨x,rfl⟩,h6⟩))
    go_returns;rw[ah];exact⟨⟨_,rfl⟩,h6⟩
   .have ah:Hid (plain W 0 args cW=ok (gv {W with size:=W.size+D.length,dn:=W.dn++[D]} [] cW)):=by have:=aw;rwa[cK ac]at this
    have b1:¬(100000:Int)<(W.size:Int)+D.length:=cM;have a8:=F.sp.free 14;have kv:=λX=>Lib.run_convert_string_bytes (P:=Tryz.prog) X 9 29 5 ⟨D.toArray⟩ ji ie jJ;rw[a1]at kv;obtain⟨hs,o1,o2,o3⟩:=F.pr;have ai:∃av cv,H.pr=.slice av W.dn.length cv:=by
     obtain⟨x,x0⟩|⟨g',aj,aQ,x,_⟩:=o1.2
     .exact⟨none,0,by rw[x,x0]⟩
     .exact⟨_,aj,x⟩
    obtain⟨av,cv,ai⟩:=ai;have aR:wr.cell? (zA g 10)=some (.slice av W.dn.length cv):=by rw[<-ai];exact F.sp.eA (j:=10) rfl
    clear ac au eN aw;have aG:=cO o1;have ax:=cO o2;have a9:=cO o3;have ak:=cO ai;obtain⟨wq,al⟩:=eX (wr.setCell (zA g 14) (zI ((W.size:Int)+D.length)));have am:wq.heap.size=wr.heap.size:=by rw[al];simp[World.setCell]
    have ba:Sp w0.heap.size g {W with size:=W.size+D.length} R H (false,ev) wq:=by rw[al];have:=F.sp.size (W.size+D.length);rwa[Int.natCast_add]at this
    have Kq:zK g W R wr wq:=al▸Kp.setCell (a:=(zA g 14)) _ Ft.nj;have ay:=vU wq 5 ⟨D.toArray⟩;obtain⟨w5,an⟩:=eX (Lib.bytesWorld wq 5 ⟨D.toArray⟩);have aS:w5.heap.size=wr.heap.size+1:=by rw[an,Lib.bytesWorld_size,am]
    rw[<-an]at ay;have bb:=cO (ba.below ay);have K5:=cO (Kq.trans (Kp.cY ay));have aT:∀k,(Ft g W R k\/H.pr.ownBlock=some k)->k<wr.heap.size:=λk hk=>hk.elim (λx=>Ft.lt F.sp x) (λx=>(o1.lt k x).2);have HU:Hid (Bt (λk=>Ft g W R k\/H.pr.ownBlock=some k) w5 (zS wr.heap.size D.length (grownCap wq D.length 0 5)) D):=by have:=Sw (w:=wq) D cM (S:=λk=>Ft g W R k\/H.pr.ownBlock=some k) (λk hk=>am▸aT k hk);rw[an,<-am];exact this
    obtain⟨i0,hi,bc,aO,aP⟩:=fQ I9;have bd:Hid (w5=Lib.bytesWorld wq 5 ⟨D.toArray⟩/\wq=wr.setCell (zA g 14) (zI ((W.size:Int)+D.length))/\wq.heap.size=wr.heap.size/\w5.heap.size=wr.heap.size+1):=⟨an,al,am,aS⟩
    clear o1 o2 o3 ai ay aT an al am aS;have be:=λX=>Lib.bytesWorld_size X 5 ⟨D.toArray⟩;go_wp2_with(at_builtin;refine DI ?_)
    unfold Hid;refine gJ λw6 aa=>?_;obtain⟨e5,eq,bf,aU⟩:=bd;rw[<-eq]at aa;rw[<-e5]at aa;have ab:Sp w0.heap.size g {W with size:=W.size+D.length} R H (false,ev) w6:=aa▸bb.alloc _;have K6:zK g W R wr w6:=aa▸K5.trans (Kp.alloc _);have bg:Hid (Bt (λk=>Ft g W R k\/H.pr.ownBlock=some k) w6 (zS wr.heap.size D.length (grownCap wq D.length 0 5)) D):=aa▸HU.kept (Kp.alloc _);have bh:Hid (∀j u,([zS wr.heap.size D.length (grownCap wq D.length 0 5)]:List Value)[j]?=some u->w6.cell? (((zA (wr.heap.size+1) 0):Addr).add j)=some u):=by intro j u hu;rw[iK,dU,aa,<-aU];refine Lc.cell (S:=λ_=>False) (cs:=#[zS wr.heap.size D.length (grownCap wq D.length 0 5)]) (ty:=29) ⟨λh=>h,?_⟩ (by simpa using hu);exact dJ w5 _
    have bi:Hid (w6.ownsRow w0.heap.size 29 1 (.slice av W.dn.length cv) W.dn.length hs):=by
     have hx:=aG;rw[ak]at hx;refine⟨hx.1,?_⟩;obtain x|⟨g',aj,aQ,x,xb,xh,xr⟩:=hx.2
     .exact .inl x
     .refine .inr ⟨g',aj,aQ,x,xb,?_,xr⟩;rw[K6.kg g' (dS.1 xh).1 (ax g' (by rw[ak,x];rfl))];exact xh
    clear aa e5 eq bf aU kv be aR a2 a8 HU;refine eI rfl _ _ _ rfl 29 i0 (zN) 1 24 qu hi bc aO aP rfl cM w0.heap.size av W.dn.length cv hs rfl bi (some (zA (wr.heap.size+1) 0)) 1 1 [zS wr.heap.size D.length (grownCap wq D.length 0 5)] rfl rfl (λ_=>⟨_,rfl,bh⟩) (by intro u hu;simp only[eQ,eh,iw]at hu;subst hu;rfl) (by unfold maxLen;omega) cM (cV F.mV.size K6.size) ?_;intro J K w7 hA;have ap:w6.grownBy w7 H.pr.ownBlock:=ak▸hA.jz;have ad:∀b,(Value.slice J (W.dn.length+1) K).ownBlock=some b->H.pr.ownBlock=some b\/w6.heap.size<=b:=by
     intro b hb;rw[ak];obtain⟨e,_⟩|⟨q',e,h1|h1⟩:=hA.qA
     .subst e;cases J with
      |none=>cases hb
      |some a=>exact .inl hb
     .subst e;cases hb;exact .inl h1
     .subst e;cases hb;exact .inr (mi h1.symm)
    have aH:Sp w0.heap.size g {W with size:=W.size+D.length} R H (false,ev) w7:=by
     refine⟨ab.eH.kept ap λt ht=>?_,ab.ij,ab.cells,ab.own,?_⟩
     .cases hx:(R t).v.ownBlock with
      |none=>exact .inl rfl
      |some b=>exact .inr λe=>ax b e.symm (Ft.rE ht hx)
     .rw[ap.block g ab.lt λe=>ax g e.symm Ft.nj];exact ab.block
    have aV:Sp w0.heap.size g {W with size:=W.size+D.length,dn:=W.dn++[D]} R {H with pr:=.slice J (W.dn.length+1) K} (false,ev) (w7.setCell (zA g 10) (.slice J (W.dn.length+1) K)):=aH.dn _ (W.dn++[D]);have aI:∀b,(Value.slice J (W.dn.length+1) K).ownBlock=some b->¬Ft g W R b:=by
     intro b hb hF;obtain x|x:=ad b hb
     .exact ax b x hF
     .have:=Ft.lt ab hF;omega
    have kC:Kp (λk=>Ft g W R k\/H.pr.ownBlock=some k) (λk=>Ft g W R k\/(Value.slice J (W.dn.length+1) K).ownBlock=some k) wr (w7.setCell (zA g 10) (.slice J (W.dn.length+1) K)):=((Ho K6 _).trans (Kp.grown ap (λb hb _=>.inr hb) (λb hb=>hb.elim (λx=>.inl (.inl x)) (λx=>(ad b x).imp .inr id)))).trans (Kp.setCell (a:=(zA g 10)) _ (.inl Ft.nj));have aW:Mc w0 g {W with size:=W.size+D.length,dn:=W.dn++[D]} R {H with pr:=.slice J (W.dn.length+1) K} (false,ev) (w7.setCell (zA g 10) (.slice J (W.dn.length+1) K)):=by
     refine⟨aV,F.pA,F.mV.trans (kC.below F.mV.size λk hk=>?_),F.ins,⟨hs++[zS wr.heap.size D.length (grownCap wq D.length 0 5)],?_,aI,λi hi=>?_⟩,?_⟩
     .obtain x|x:=hk
      .exact Ft.from F.sp F.pA x
      .exact(aG.lt k x).1
     .have:=iQ (a:=(zA g 10)) hA.own (λe=>aI g e Ft.nj) (.slice J (W.dn.length+1) K);rw[show(W.dn++[D]).length=W.dn.length+1 by simp];exact this
     .have hi:=hi;rw[dq]at hi;simp only[dt,dG]at hi;have hl:=aG.1;by_cases aX:i<W.dn.length
      .obtain⟨u,hu,hb⟩:=a9 i aX;refine⟨u,by rw[fH cM];exact hu,?_⟩;show Bt _ _ u ((W.dn++[D]).getD i []);rw[iL _ _ _ _ aX];exact hb.kept kC
      .obtain rfl:i=W.dn.length:=cM;refine⟨_,by rw[fB cM];rw[hl];simp;rfl,?_⟩;show Bt _ _ _ ((W.dn++[D]).getD W.dn.length []);rw[gD];exact(bg.kept (Kp.grown ap (λb hb _=>.inr hb) (λb hb=>hb.elim (λx=>.inl (.inl x)) (λx=>(ad b x).imp .inr id)))).kept (Kp.setCell (a:=(zA g 10)) _ (.inl Ft.nj))
     .exact F.er.kept kC
    have aR:w7.cell? (zA g 10)=some (.slice av W.dn.length cv):=by rw[<-ak];exact aH.eA (j:=10) rfl
    have bm:=aH.free 10;have bj:Hid (zC 51 #[zP g,zN,zI cW] (w7.setCell (zA g 10) (.slice J (W.dn.length+1) K)) λe w'=>(∃x,e=.returned x)/\∃R',Sp w0.heap.size g (gv {W with size:=W.size+D.length,dn:=W.dn++[D]} [] cW) R' {H with pr:=.slice J (W.dn.length+1) K} (false,ev) w'/\zL g W R (gv {W with size:=W.size+D.length,dn:=W.dn++[D]} [] cW) R' (w7.setCell (zA g 10) (.slice J (W.dn.length+1) K)) w'):=
     nN E _ _ cW [] R _ none 0 0 (cE _) (HI.rH rfl rfl rfl rfl rfl rfl) hp (λv hv=>by cases hv) aV aW.mV.size (Ls.nil _ _ _) rfl cM
    clear hA ap ad aI kC;go_wp2_with(go_at_call 51;refine cA bj ?_;rintro e w9 ⟨⟨x,rfl⟩,R9,h1,h2⟩)
    go_returns;rw[ah];exact⟨⟨_,rfl⟩,R9,{H with pr:=.slice J (W.dn.length+1) K},ev,rfl,rfl,aW.gY h1 h2 (mr _ _ _).1 (mr _ _ _).2 (pC _ _ _)⟩
structure Cs(cJ g:Nat)(W:St)(R:eO→fW)(H:Hd)(rz:Bool×Vl)(w:World)(d dap:Nat)(V:St)(R1:eO→fW)(w1:World):Prop where
 sp:Sp cJ g V R1 H rz w1
 UA:∀t,(R1 t).v=(R t).v
 FH:∀t,fZ V t↔fZ W t
 len:V.cS.length=W.cS.length
 kp:Kp (Ft g W R) (Ft g W R) w w1
 qA:(R (4,0,0)).v=.slice (some ⟨d,0,none⟩) W.cS.length dap
def Cs.ft(h:Cs cJ g W R H rz w d dap V R1 w1):Ft g V R1=Ft g W R:=vJ h.FH h.UA
def Cs.zH(h:Cs cJ g W R H rz w d dap V R1 w1):Qy V R1 d dap:=⟨by rw[h.UA,h.qA,h.len]⟩
def Cs.c6(h:Cs cJ g W R H rz w d dap V R1 w1):w1.cell? ⟨g,6,none⟩=some (.slice (some ⟨d,0,none⟩) W.cS.length dap):=by have:=h.sp.c6 h.zH;rwa[h.len]at this
def Cs.cell(h:Cs cJ g W R H rz w d dap V R1 w1)(D:c<W.cS.length)(E:j<8):∃u,w1.cell? ⟨d,c*8+j,none⟩=some u:=by
 have F:j<(cc (R1 (6,c,0)).v (V.cS.getD c dE)).length:=by rw[rZ];exact E
 exact⟨_,h.sp.Ll h.zH (h.len▸D) (cG F)⟩
def Cs.free(h:Cs cJ g W R H rz w d dap V R1 w1)(j:Nat):w1.frozen? ⟨d,j,none⟩=false:=h.sp.S9 h.zH j
def Cs.dF(h:Cs cJ g W R H rz w d dap V R1 w1):Ft g W R d:=Ft.rE iN (by rw[h.qA];rfl)
def Cs.set(h:Cs cJ g W R H rz w d dap V R1 w1)(I:c<W.cS.length){k:Co}(F:k.cy=(V.cS.getD c dE).cy)(J:j<8){u:Value}(K:∀x,cc x k=(cc x (V.cS.getD c dE)).set j u):
  ∃E,Cs cJ g W R H rz w d dap (V.dW c k) E (w1.setCell ⟨d,c*8+j,none⟩ u):=by
 have D:c<V.cS.length:=h.len▸I;obtain⟨E,L,M⟩:=h.sp.dW D F J (K _) h.zH.cS;exact⟨E,L,λt=>(M t).trans (h.UA t),λt=>(rh V D F t).trans (h.FH t),by show(V.cS.set _ _).length=_;rw[df];exact h.len,h.kp.trans (Kp.setCell _ h.dF),h.qA⟩
def Cs.cQ(h:Cs cJ g W R H rz w d dap V R1 w1)(n:Nat):Cs cJ g W R H rz w d dap {V with cQ:=n} R1 (w1.setCell ⟨g,7,none⟩ (.int .i64 n)):=
 ⟨h.sp.cQ n,h.UA,h.FH,h.len,h.kp.trans (Kp.setCell _ Ft.nj),h.qA⟩
def Cs.drew(h:Cs cJ g W R H rz w d dap V R1 w1):Cs cJ g W R H rz w d dap V R1 w1.drew:=⟨h.sp.drew,h.UA,h.FH,h.len,h.kp.drew,h.qA⟩
def Mp(W:St){D:Nat}(hv:D<W.cS.length)(F:D≠W.cQ)(want:Int):∃J K I:St,J=(W.dW W.cQ {W.co with state:=2}).dW D {(W.dW W.cQ {W.co with state:=2}).cS.getD D dE with state:=1}/\K=J.dW D {J.cS.getD D dE with gq:=W.cQ}/\I=K.dW D {K.cS.getD D dE with want:=want} /\
  ((W.cS.getD D dE).held<0->({I with cQ:=D}:St).dW D {({I with cQ:=D}:St).cS.getD D dE with held:=0}=iV W D want)/\(¬(W.cS.getD D dE).held<0->({I with cQ:=D}:St)=iV W D want):=by
 refine⟨_,_,_,rfl,rfl,rfl,λh=>?_,λh=>?_⟩
 .unfold iV;rw[cR h];have L:(W.dW W.cQ {W.co with state:=2}).cS.getD D dE=W.cS.getD D dE:=dR _ _ _ _ _ (λe=>F e.symm);have M:D<(W.dW W.cQ {W.co with state:=2}).cS.length:=by show D<(W.cS.set _ _).length;rw[df];exact hv
  generalize W.dW W.cQ {W.co with state:=2}=A at*;have O:∀(k:Co)(B:St),D<B.cS.length->(B.dW D k).cS.getD D dE=k:=λk B hb=>ez _ _ _ _ hb;have l1:∀(k:Co)(B:St),(B.dW D k).cS.length=B.cS.length:=λk B=>by show(B.cS.set _ _).length=_;rw[df]
  have s1:∀(k E:Co)(B:St),(B.dW D k).dW D E=B.dW D E:=λk E B=>by unfold St.dW;dsimp only;rw[nD]
  simp only[O _ _ M,s1,L];unfold St.dW;dsimp only;simp only[nD]
 .unfold iV;rw[cK h];have L:(W.dW W.cQ {W.co with state:=2}).cS.getD D dE=W.cS.getD D dE:=dR _ _ _ _ _ (λe=>F e.symm);have M:D<(W.dW W.cQ {W.co with state:=2}).cS.length:=by show D<(W.cS.set _ _).length;rw[df];exact hv
  generalize W.dW W.cQ {W.co with state:=2}=A at*;have O:∀(k:Co)(B:St),D<B.cS.length->(B.dW D k).cS.getD D dE=k:=λk B hb=>ez _ _ _ _ hb;have s1:∀(k E:Co)(B:St),(B.dW D k).dW D E=B.dW D E:=λk E B=>by unfold St.dW;dsimp only;rw[nD]
  simp only[O _ _ M,s1,L]
def xN(E:mz p Hs)(M:Mc w0 g W R H (false,ev) w)(I:Iv p Hs W cW)(D:0<=cW){l:List Vl}(F:∀v∈l,gG W.sz v)(J:Ls (Ft g W R) w ao l)(K:n=l.length)(L:n<=9223372036854775807):
  zC 51 #[zP g,.slice ao n cap,zI cW] w λe h=>(∃x,e=.returned x)/\Cf w0 g H.ks H.ps (ok (gv W l cW)) h:=by
 refine(nN E _ W cW l R w ao n cap (cE _) I D F M.sp M.mV.size J K L).mono ?_;rintro e h ⟨O,R',h1,h2⟩;exact⟨O,R',H,ev,rfl,rfl,M.gY h1 h2 (mr _ _ _).1 (mr _ _ _).2 (pC _ _ _)⟩
def qn(v:Vl):∃h:ByteArray,vv v=.agg #[.int .i64 v.k,.int .i64 v.n,.string h]/\vc v=[.int .i64 v.k,.int .i64 v.n,.string h]/\h=⟨v.s.toArray⟩:=⟨_,rfl,rfl,rfl⟩
def GI(M:Mc w0 g W R H (false,ev) w){v:Vl}(hk:¬v.k=7):
  zC 81 #[zP g,vv v,vv u,zI cW] w λe E=>(∃x,e=.returned x)/\Cf w0 g H.ks H.ps (mW W rV) E:=by
 obtain⟨vs,h,_,_⟩:=qn v;obtain⟨us,D,_,_⟩:=qn u;rw[h,D];generalize v.k=vk at*;generalize v.n=vn at*;generalize u.k=uk at*;generalize u.n=un at*;have F:=cO (λX=>jo rV X);have I:Hid (∀X,Mc w0 g W R H (false,ev) X->zC 45 #[zP g,.agg #[zI 3,zI 0,.string ⟨#[97,114,103,117,109,101,110,116]⟩]] X λe E=>(∃x,e=.returned x)/\Cf w0 g H.ks H.ps (mW W rV) E):=λX L=>qV L (tv rV) W;clear h D;go_enter Vj,Tj;go_wp2_with(first
  |(go_at_call 46;refine cA (F _) ?_;rintro e w5 ⟨rfl,K⟩;have J:=cO ((M.below ((ba).alloc dC _)).below K);clear K)
  |(go_at_call 45;refine cA (I _ J) ?_;rintro e w6 ⟨⟨x,rfl⟩,O⟩))
 go_returns;exact⟨⟨_,rfl⟩,O⟩
def wi(E:mz p Hs)(M:Mc w0 g W R H (false,ev) w)(I:Iv p Hs W cW)(hp:0<=cW){h:Nat}(s:List UInt8)(hv:h<W.cS.length)(am:¬(W.cS.getD h dE).state=0):
  zC 81 #[zP g,vv ⟨7,h,s⟩,vv u,zI cW] w λe w'=>(∃x,e=.returned x)/\Cf w0 g H.ks H.ps (ok (gv W [bv false,tv lR] cW)) w':=by
 have hn:=I.cQ;obtain⟨d,aw,h4,ax,ad⟩:=M.sp.zH hn;obtain⟨a0,n0,c0,L⟩:=M.sp.Ia hv;have HM:=cO M;have HF:=cO ad;obtain⟨st,O⟩:=eX ((W.cS.getD h dE).state);obtain⟨bk,aa⟩:=eX ((W.cS.getD h dE).body.k);obtain⟨bn,ab⟩:=eX ((W.cS.getD h dE).body.n);obtain⟨bs,ac⟩:=eX (⟨(W.cS.getD h dE).body.s.toArray⟩:ByteArray);obtain⟨ae,af⟩:=eX ((W.cS.getD h dE).gq);obtain⟨wt,ag⟩:=eX ((W.cS.getD h dE).want);obtain⟨hd,ah⟩:=eX ((W.cS.getD h dE).held);have ay:Hid (vv (W.cS.getD h dE).body=.agg (zV bk bn bs)):=by unfold vv;rw[kJ ac.symm,aa,ab];rfl
 rw[<-O,<-aa,<-ab,kJ ac.symm,<-af,<-ag,<-ah]at L;have an:=cO L;have az:=M.sp.Dl;obtain⟨us,ai,aj,ap⟩:=qn u;clear ap;have aA:=cO aj;clear aj;rw[ai];unfold vv;obtain⟨vs,ak⟩:=eX (⟨s.toArray⟩:ByteArray);dsimp only;rw[kJ ak.symm];rw[<-O]at am;have HI:=cO I;clear M I ad L O aa ab ac af ag ah ai ak;have aq:=cO (λX=>jo lR X);have ar:Hid (∀X ao,Mc w0 g W R H (false,ev) X->Ls (Ft g W R) X ao [bv false,tv lR]->zC 51 #[zP g,.slice ao 2 2,zI cW] X λe w'=>(∃x,e=.returned x)/\Cf w0 g H.ks H.ps (ok (gv W [bv false,tv lR] cW)) w'):=λX ao hX hL=>xN E hX HI hp (yC (iX _ _) (jF _ iM)) hL rfl cM;go_enter Vj,Tj;go_wp2;refine dx λw2 K=>?_;have D:Mc w0 g W R H (false,ev) w2:=K▸HM.below ((ba).alloc dC _);have al:Lc (Ft g W R) w2 w.heap.size (zV 7 h vs) 56:=by rw[K];exact(Lc.new w (λk hk=>Ft.lt HM.sp hk) _ _).alloc _
 have au:Lc (Ft g W R) w2 (w.heap.size+1) (zV u.k u.n us) 56:=by have:=Lc.new (w.alloc (.cells (zV 7 h vs) 56)) (S:=Ft g W R) (λk hk=>Ft.lt (HM.sp.alloc _) hk) (zV u.k u.n us) 56;rw[dk]at this;rw[K];exact this
 clear K;obtain⟨S,F⟩:=eX (fI w2 none);have y6:=Wd.cn F (D.sp.c6 h4);have y1:=Wd.cn F (al.cell (j:=1) rfl);obtain⟨t0,t1,t2,t3,t4,t5,t6,t7⟩:=D.sp.xS h4 hv an;have z0:=Wd.cn F t0;have z1:=Wd.cn F t1;have z2:=Wd.cn F t2;have z3:=Wd.cn F t3;have z4:=Wd.cn F t4;have z5:=Wd.cn F t5;have z6:=Wd.cn F t6;have z7:=Wd.cn F t7;clear t0 t1 t2 t3 t4 t5 t6 t7;have HS:=cO F;clear F;haveI:=pz HS;refine uq S 8 1 (HS▸(fI.refl _ _).drew) ?_;simp only[List.take,List.drop];repeat(go_big_quiet_step(fail))
 apply wpQuiet_nil;apply dI;go_wp2;refine⟨HS▸(fI.refl _ _).drew.alloc _,?_⟩;apply ej;clear y6 y1 z0 z1 z2 z3 z4 z5 z6 z7;obtain⟨w3,J⟩:=eX ((w2.alloc (.cells #[.slice a0 n0 c0,zI st,zI bk,zI bn,.string bs,zI ae,zI wt,zI hd] 61)).drew);have aB:Mc w0 g W R H (false,ev) w3:=J▸D.below (eb (ba));have aC:Lc (Ft g W R) w3 w2.heap.size #[.slice a0 n0 c0,zI st,zI bk,zI bn,.string bs,zI ae,zI wt,zI hd] 61:=J▸(Lc.new w2 (λk hk=>Ft.lt D.sp hk) _ _).drew;have aD:Lc (Ft g W R) w3 w.heap.size (zV 7 h vs) 56:=J▸(al.alloc _).drew;have aE:Lc (Ft g W R) w3 (w.heap.size+1) (zV u.k u.n us) 56:=J▸(au.alloc _).drew;clear J;go_wp2_with(first
  |(go_at_call 46;refine cA (aq _) ?_;rintro e w5 ⟨rfl,b5⟩)
  |(go_at_call 51;refine cA (ar _ _ ((D.below (eb (ba))).below b5 |>.below (ba)) (Ls.lit (λk hk=>dj (Ft.lt D.sp hk) (cV dC b5.size)) rfl)) ?_;rintro e w6 ⟨⟨x,rfl⟩,h6⟩))
 go_returns;exact⟨⟨_,rfl⟩,h6⟩
end rn
end Go.Proofs.YtfpkdfeakanlpaaGreatDoor
