import Derived.Test.YtfpkdfeakanlpaaGreatDoorMRnWalkM
set_option linter.all false
set_option maxRecDepth 100000
set_option maxHeartbeats 8000000
namespace Go.Proofs.YtfpkdfeakanlpaaGreatDoor
open Go.Proofs.Tryz
namespace rn
open RowKit bts pg chk
variable{rz rz':Bool×Vl}{f:Fr}{H H':Hd}{cW:Int}{args:List Vl}{cJ cap g na:Nat}{Hs:Nat→List Int}{ao:Option Addr}{p:Pg}{RES:mX}{V W:St}{R R':eO→fW}{ev u:Vl}{w w0 w1:World}
def Nb{S:Nat->Prop}{us:ByteArray}(h:vc u=[.int .i64 u.k,.int .i64 u.n,.string us])(X:World)(n:Nat)(D:X.heap.size=n)(E:∀k,S k->k<X.heap.size):Ls S (X.alloc (.cells #[.int .i64 u.k,.int .i64 u.n,.string us] 56)) (some ⟨n,0,none⟩) [u]:=by subst D;refine Ls.lit E ?_;rw[eE,oD,kS,h]
def ur(M:Mc w0 g W R H (false,ev) w)(I:Iv p Hs W cW){h:Nat}(s:List UInt8)(hv:h<W.cS.length)(aj:(W.cS.getD h dE).state=0){ak:mX}(CL:(W.cS.getD h dE).held<0->∀R2 E ao,Mc w0 g (iV W h cW) R2 H (false,ev) E->Ls (Ft g (iV W h cW) R2) E ao [u]->zC 22 #[zP g,vv (W.cS.getD h dE).body,.slice ao 1 1,zI 1] E λe w'=>(∃x,e=.returned x)/\Cf w0 g H.ks H.ps ak w')(GV:¬(W.cS.getD h dE).held<0->∀R2 E ao,Mc w0 g (iV W h cW) R2 H (false,ev) E->Ls (Ft g (iV W h cW) R2) E ao [u]->zC 51 #[zP g,.slice ao 1 1,zI (W.cS.getD h dE).held] E λe w'=>(∃x,e=.returned x)/\Cf w0 g H.ks H.ps ak w'):
  zC 81 #[zP g,vv ⟨7,h,s⟩,vv u,zI cW] w λe w'=>(∃x,e=.returned x)/\Cf w0 g H.ks H.ps ak w':=by
 have aW:h≠W.cQ:=λe=>by have:=I.run;rw[<-e,aj]at this;cases this
 have hn:=I.cQ;obtain⟨d,J,h4,aX,ax⟩:=M.sp.zH hn;obtain⟨a0,n0,c0,al⟩:=M.sp.Ia hv;have HM:=cO M;have HF:=cO ax;obtain⟨st,am⟩:=eX ((W.cS.getD h dE).state);obtain⟨bk,an⟩:=eX ((W.cS.getD h dE).body.k);obtain⟨bn,ap⟩:=eX ((W.cS.getD h dE).body.n);obtain⟨bs,aq⟩:=eX (⟨(W.cS.getD h dE).body.s.toArray⟩:ByteArray);obtain⟨ay,az⟩:=eX ((W.cS.getD h dE).gq);obtain⟨wt,aA⟩:=eX ((W.cS.getD h dE).want);obtain⟨hd,ad⟩:=eX ((W.cS.getD h dE).held);have aY:Hid (vv (W.cS.getD h dE).body=.agg (zV bk bn bs)):=by unfold vv;rw[kJ aq.symm,an,ap];rfl
 rw[<-am,<-an,<-ap,kJ aq.symm,<-az,<-aA,<-ad]at al;have aZ:=cO al;have a9:=M.sp.Dl;obtain⟨us,aB,aC,a1⟩:=qn u;clear a1;have aD:=cO aC;clear aC;rw[aB];unfold vv;obtain⟨vs,aE⟩:=eX (⟨s.toArray⟩:ByteArray);dsimp only;rw[kJ aE.symm];obtain⟨A2,A3,A4,aF,aG,aH,eN,eG⟩:=Mp W hv aW cW;have HA:Hid (A2=(W.dW W.cQ {W.co with state:=2}).dW h {(W.dW W.cQ {W.co with state:=2}).cS.getD h dE with state:=1}/\A3=A2.dW h {A2.cS.getD h dE with gq:=W.cQ}/\A4=A3.dW h {A3.cS.getD h dE with want:=cW} /\
  (hd<0->({A4 with cQ:=h}:St).dW h {({A4 with cQ:=h}:St).cS.getD h dE with held:=0}=iV W h cW)/\(¬hd<0->({A4 with cQ:=h}:St)=iV W h cW)):=⟨aF,aG,aH,ad▸eN,ad▸eG⟩
 rw[<-ad]at CL GV;rw[aY]at CL;have ar:=cO CL;have au:=cO GV;have aI:st=0:=am▸aj;subst aI;have aJ:=cO h4.cS;clear M I ax al am an ap aq az aA ad aB aE aF aG aH eN eG CL GV aj;go_enter Vj,Tj;go_wp2;refine dx λE af=>?_;have ag:Hid (Mc w0 g W R H (false,ev) E):=af▸HM.below ((ba).alloc dC _);have aK:Hid (Lc (Ft g W R) E w.heap.size (zV 7 h vs) 56):=by rw[af];exact(Lc.new w (λk hk=>Ft.lt HM.sp hk) _ _).alloc _
 have a2:Hid (Lc (Ft g W R) E (w.heap.size+1) (zV u.k u.n us) 56):=by have:=Lc.new (w.alloc (.cells (zV 7 h vs) 56)) (S:=Ft g W R) (λk hk=>Ft.lt (HM.sp.alloc _) hk) (zV u.k u.n us) 56;rw[dk]at this;rw[af];exact this
 clear af;obtain⟨S,hS⟩:=eX (fI E none);have y6:=Wd.cn hS (ag.sp.c6 h4);have y1:=Wd.cn hS (aK.cell (j:=1) rfl);obtain⟨t0,t1,t2,t3,t4,t5,t6,t7⟩:=ag.sp.xS h4 hv aZ;have z0:=Wd.cn hS t0;have z1:=Wd.cn hS t1;have z2:=Wd.cn hS t2;have z3:=Wd.cn hS t3;have z4:=Wd.cn hS t4;have z5:=Wd.cn hS t5;have z6:=Wd.cn hS t6;have z7:=Wd.cn hS t7;clear t0 t1 t2 t3 t4 t5 t6 t7;have HS:=cO hS;clear hS;haveI:=pz HS;refine uq S 8 1 (HS▸(fI.refl _ _).drew) ?_;simp only[List.take,List.drop];repeat(go_big_quiet_step(fail))
 refine wpQuiet_nil ?_;refine dI ?_;go_wp2;refine⟨HS▸(fI.refl _ _).drew.alloc _,?_⟩;refine ej ?_;clear y6 y1 z0 z1 z2 z3 z4 z5 z6 z7;obtain⟨w3,K⟩:=eX ((E.alloc (.cells #[.slice a0 n0 c0,zI 0,zI bk,zI bn,.string bs,zI ay,zI wt,zI hd] 61)).drew);have aw:Hid (Mc w0 g W R H (false,ev) w3):=K▸ag.below (eb (ba));have aa:Hid (Lc (Ft g W R) w3 E.heap.size #[.slice a0 n0 c0,zI 0,zI bk,zI bn,.string bs,zI ay,zI wt,zI hd] 61):=K▸(Lc.new E (λk hk=>Ft.lt ag.sp hk) _ _).drew;have ab:Hid (Lc (Ft g W R) w3 w.heap.size (zV 7 h vs) 56):=K▸(aK.alloc _).drew;have ah:Hid (Lc (Ft g W R) w3 (w.heap.size+1) (zV u.k u.n us) 56):=K▸(a2.alloc _).drew;have l1:=aa.cell (j:=1) rfl;rw[K]at l1;go_wp2;clear l1;rw[<-K];clear K;have H0:Hid (Cs w0.heap.size g W R H (false,ev) w3 d J W R w3):=⟨aw.sp,λ_=>rfl,λ_=>j8,rfl,Kp.refl _ _,aJ⟩
 have c6:=H0.c6;have c7:=H0.sp.c7;obtain⟨uu,ku⟩:=H0.cell (c:=W.cQ) (j:=1) hn cM;have kf:=H0.free (W.cQ*8+1);refine uZ 10 ?_;simp only[List.take,List.drop];repeat(go_big_quiet_step(fail))
 refine wpQuiet_nil ?_;go_wp2;clear c6 c7 ku kf;refine dx λw4 aL=>?_;have aM:Hid (∃D,Cs w0.heap.size g W R H (false,ev) w3 d J (W.dW W.cQ {W.co with state:=2}) D w4):=by obtain⟨D,F⟩:=H0.drew.set (c:=W.cQ) hn (k:={W.co with state:=2}) (u:=zI 2) (by rfl) (j:=1) cM (λx=>by rfl);rw[aL];exact⟨D,F⟩
 clear aL uu;obtain⟨D,F⟩:=aM.out;clear aM;have c6:=F.c6;have c7:=F.sp.c7;obtain⟨uu,ku⟩:=F.cell (c:=h) (j:=1) hv cM;have kf:=F.free (h*8+1);have v1:=(Lc.kept ab F.kp).cell (j:=1) rfl;refine uZ 8 ?_;simp only[List.take,List.drop];repeat(go_big_quiet_step(fail))
 refine wpQuiet_nil ?_;go_wp2;clear c6 c7 ku kf v1;refine dx λw5 aN=>?_;have aO:Hid (∃D,Cs w0.heap.size g W R H (false,ev) w3 d J (A2) D w5):=by obtain⟨D,F⟩:=F.drew.set (c:=h) hv (k:={(W.dW W.cQ {W.co with state:=2}).cS.getD h dE with state:=1}) (u:=zI 1) (by rfl) (j:=1) cM (λx=>by rfl);rw[aN];exact⟨D,HA.out.1▸F⟩
 clear aN uu;obtain⟨R2,h2⟩:=aO.out;clear aO;have c6:=h2.c6;have c7:=(by have:=h2.sp.c7;rwa[HA.1]at this)
 obtain⟨uu,ku⟩:=h2.cell (c:=h) (j:=5) hv cM;have kf:=h2.free (h*8+5);have v1:=(Lc.kept ab h2.kp).cell (j:=1) rfl;refine uZ 12 ?_;simp only[List.take,List.drop];repeat(go_big_quiet_step(fail))
 refine wpQuiet_nil ?_;go_wp2;clear c6 c7 ku kf v1;refine dx λw6 aP=>?_;have aQ:Hid (∃D,Cs w0.heap.size g W R H (false,ev) w3 d J (A3) D w6):=by obtain⟨D,F⟩:=h2.drew.set (c:=h) hv (k:={A2.cS.getD h dE with gq:=W.cQ}) (u:=zI W.cQ) (by rfl) (j:=5) cM (λx=>by rfl);rw[aP];exact⟨D,HA.out.2.1▸F⟩
 clear aP uu;obtain⟨R3,h3⟩:=aQ.out;clear aQ;have c6:=h3.c6;have c7:=(by have:=h3.sp.c7;rwa[HA.2.1,HA.1]at this)
 obtain⟨uu,ku⟩:=h3.cell (c:=h) (j:=6) hv cM;have kf:=h3.free (h*8+6);have v1:=(Lc.kept ab h3.kp).cell (j:=1) rfl;have f7:=h3.sp.free 7;have L:=Lc.kept aa h3.kp;have l7:=L.cell (j:=7) rfl;have x1:¬w.heap.size=d:=λe=>ab.1 (e▸HF);have x2:¬d=w.heap.size:=λe=>x1 e.symm;have x3:¬E.heap.size=d:=λe=>aa.1 (e▸HF);have x4:¬d=E.heap.size:=λe=>x3 e.symm;have x5:¬w.heap.size+1=d:=λe=>ah.1 (e▸HF);have x6:¬d=w.heap.size+1:=λe=>x5 e.symm;have x7:¬w.heap.size=g:=λe=>ab.1 (.inl e);have x8:¬g=w.heap.size:=λe=>x7 e.symm;have x9:¬E.heap.size=g:=λe=>aa.1 (.inl e);have bb:¬g=E.heap.size:=λe=>x9 e.symm;have a3:¬w.heap.size+1=g:=λe=>ah.1 (.inl e);have bc:¬g=w.heap.size+1:=λe=>a3 e.symm;have bd:¬g=d:=λe=>aX e.symm;clear L;refine uZ 9 ?_;simp only[List.take,List.drop];repeat(go_big_quiet_step(fail))
 refine wpQuiet_nil ?_;have HX:Hid (∃D,Cs w0.heap.size g W R H (false,ev) w3 d J ({A4 with cQ:=h}) D ((w6.drew.setCell (zA d (h*8+6)) (zI cW)).setCell (zA g 7) (zI h))):=by obtain⟨D,F⟩:=h3.drew.set (c:=h) hv (k:={A3.cS.getD h dE with want:=cW}) (u:=zI cW) (by rfl) (j:=6) cM (λx=>by rfl);rw[<-HA.out.2.2.1]at F;exact⟨D,F.cQ h⟩
 have ac:Hid ((iV W h cW).ins=W.ins/\(iV W h cW).dn=W.dn/\(iV W h cW).lu=W.lu):=⟨rfl,rfl,rfl⟩
 by_cases hh:hd<0
 .go_wp2;clear c6 c7 ku kf v1 f7 l7;refine dx λw7 aR=>?_;obtain⟨R4,h4⟩:=HX.out;have O:Hid (Cs w0.heap.size g W R H (false,ev) w3 d J ({A4 with cQ:=h}) R4 w7):=by rw[aR];exact h4
  clear aR uu HX;have c6:=O.c6;obtain⟨uu,ku⟩:=O.cell (c:=h) (j:=7) hv cM;have kf:=O.free (h*8+7);have aS:=Lc.kept ab O.kp;have L:=Lc.kept aa O.kp;have ae:=Lc.kept ah O.kp;have v1:=aS.cell (j:=1) rfl;have b2:=L.cell (j:=2) rfl;have b3:=L.cell (j:=3) rfl;have b4:=L.cell (j:=4) rfl;obtain⟨a6,a7,a8⟩:=ae.c3;clear aS L ae;have HY:Hid (∃D,Cs w0.heap.size g W R H (false,ev) w3 d J (iV W h cW) D (w7.drew.setCell (zA d (h*8+7)) (zI 0))):=by obtain⟨D,F⟩:=O.drew.set (c:=h) hv (k:={({A4 with cQ:=h}:St).cS.getD h dE with held:=0}) (u:=zI 0) (by rfl) (j:=7) cM (λx=>by rfl);rw[HA.2.2.2.1 hh]at F;exact⟨D,F⟩
  have ai:=ar hh;have aT:=cO ai;clear ai ar au hh;refine uZ 8 ?_;simp only[List.take,List.drop];repeat(go_big_quiet_step(fail))
  refine wpQuiet_nil ?_;go_wp2_with fail;obtain⟨R5,h5⟩:=HY;have hM:=aw.gY h5.sp (h5.ft▸h5.kp) ac.1 ac.2.1 ac.2.2;refine cA (aT R5 _ _ (hM.below ((cN _ _).alloc (cE _) (.cells (zV u.k u.n us) 56))) (Ls.drew (Nb aD (w7.setCell (zA d (h*8+7)) (zI 0)) w7.heap.size QB (λk hk=>(Ft.lt h5.sp hk :))))) ?_;rintro e w9 ⟨⟨x,rfl⟩,h9⟩;go_wp2;go_returns;exact⟨⟨_,rfl⟩,h9⟩
 .have be:=fJ (o:=.cells (zV u.k u.n us) 56) ((Lc.kept aa (h3.kp.trans ((Kp.setCell (a:=(zA d (h*8+6))) (zI cW) HF).trans (Kp.setCell (a:=(zA g 7)) (zI h) Ft.nj)))).cell (j:=7) rfl);have ae:=Lc.kept ah h3.kp;obtain⟨a6,a7,a8⟩:=ae.c3;clear ae;have aU:=cO (au (by first|exact hh|omega));have aV:=cO hh;clear ar au;go_wp2_with fail;obtain⟨R5,h5⟩:=HX;rw[HA.2.2.2.2 (by first|exact aV|(have:=aV;omega))]at h5;have hM:=aw.gY h5.sp (h5.ft▸h5.kp) ac.1 ac.2.1 ac.2.2;refine cA (aU R5 _ _ (hM.below ((cN _ _).alloc (cE _) (.cells (zV u.k u.n us) 56))) (Ls.drew (Nb aD ((w6.setCell (zA d (h*8+6)) (zI cW)).setCell (zA g 7) (zI h)) w6.heap.size QB (λk hk=>(Ft.lt h5.sp hk :))))) ?_;rintro e w9 ⟨⟨x,rfl⟩,h9⟩;go_wp2;go_returns;exact⟨⟨_,rfl⟩,h9⟩
def jC(w0:World)(g:Nat)(H:Hd)(f:FuncId)(xs:Array Value)(r:mX)(w:World):Prop:=
 Calls Tryz.prog f xs w λe h=>(∃x,e=.returned x)/\Cf w0 g H.ks H.ps r h
structure Bh(p:Pg)(Hs:Nat→List Int)(cW:Int)(w0:World)(ev:Vl)(g:Nat)(W:St)(R:eO→fW)(H:Hd)(w:World)(ao:Option Addr)(na cap:Nat)(args:List Vl):Prop where
 E:mz p Hs
 M:Mc w0 g W R H (false,ev) w
 I:Iv p Hs W cW
 hp:0≤cW∧cW≤50
 hv:∀v∈args,gG W.sz v
 hL:Ls (Ft g W R) w ao args
 S8:na=args.length
 U9:na≤1000
 WN:na≤cap
 Wj:cap≤9223372036854775807
def xD(cW:Int)(w0:World)(g:Nat)(H:Hd)(w:World)(ao:Option Addr)(na cap:Nat)(k:Int)(r:mX):Prop:=jC w0 g H 44 #[.pointer (some ⟨g,0,none⟩),.int .i64 k,.slice ao na cap,.int .i64 cW] r w
def Mc.FC(h:Mc w0 g W R H rz w)(a b:Obj):Mc w0 g W R H rz ((w.alloc a).alloc b):=h.below ((ba).alloc dC _)
def Mc.Wh(h:Mc w0 g W R H rz w){a b:Obj}{cs:Array Value}{ty:TypeId}(k:Below (((w.alloc a).alloc b).alloc (.cells cs ty)).heap.size (((w.alloc a).alloc b).alloc (.cells cs ty)) w1):Lc (Ft g W R) w1 (w.heap.size+1+1) cs ty:=by have:=(Lc.new ((w.alloc a).alloc b) (S:=Ft g W R) (λk D=>Ft.lt (h.FC a b).sp D) cs ty).kept (Kp.cY k);rwa[dk,dk]at this
def Bh.head(B:Bh p Hs cW w0 ev g W R H w ao na cap args):∃(v u:Vl)(h us:ByteArray),v=first args/\u=args.getD 1 v0/\Hid (gG W.sz v)/\Hid (vv v=.agg (zV v.k v.n h))/\Hid (vc v=[zI v.k,zI v.n,.string h])/\Hid (vv u=.agg (zV u.k u.n us)) /\
  ((∃D off,ao=some (zA D off)/\(1:Int)<(na:Int)/\Hid (zC 77 #[.slice ao na cap] w λe w1=>e=.returned (.agg (zV v.k v.n h))/\Hid (Mc w0 g W R H (false,ev) w1)/\Hid (Ls (Ft g W R) w1 ao args)/\∀a b,((w1.alloc a).alloc b).cell? (zA D (off+3))=some (zI u.k)/\((w1.alloc a).alloc b).cell? (zA D (off+3+1))=some (zI u.n)/\((w1.alloc a).alloc b).cell? (zA D (off+3+2))=some (.string us))) \/
  u=v0/\us=⟨#[]⟩/\¬(1:Int)<(na:Int)/\Hid (zC 77 #[.slice ao na cap] w λe w1=>e=.returned (.agg (zV v.k v.n h))/\Hid (Mc w0 g W R H (false,ev) w1)/\Hid (Ls (Ft g W R) w1 ao args)/\True)):=by
 obtain⟨h,I,M,_⟩:=qn (first args);obtain⟨us,O,u2,J⟩:=qn (args.getD 1 v0);have F:=sU (cap:=cap) w B.hL B.S8;rw[I]at F;refine⟨_,_,h,us,rfl,rfl,ir B.hv,I,M,O,?_⟩;by_cases h1:1<na
 .obtain⟨D,off,rfl,_⟩:=B.hL.eA (i:=1) (by have:=B.S8;omega);refine .inl ⟨D,off,rfl,cM,F.mono ?_⟩;rintro e w1 ⟨rfl,E⟩;have L:=B.hL.kept (Kp.cY E);refine⟨rfl,B.M.below E,L,λa b=>?_⟩;obtain⟨_,_,e,l1,l2,K⟩:=L.eA (i:=1) (by have:=B.S8;omega);cases e;rw[kJ J.symm]at K;exact⟨fJ (fJ l1),fJ (fJ l2),fJ (fJ K)⟩
 .have:args.getD 1 v0=v0:=by rw[cB,dO (by have:=B.S8;omega)];rfl
  refine .inr ⟨this,by rw[J,this];rfl,cM,F.mono ?_⟩;rintro e w1 ⟨rfl,E⟩;exact⟨rfl,B.M.below E,B.hL.kept (Kp.cY E),trivial⟩
def UD(E:mz p Hs)(I:Iv p Hs W cW)(D:0<=cW){v:Vl}(F:gG W.sz v){a b c:Value}(J:vc v=[a,b,c]){X:World}{n:Nat}(K:X.heap.size=n)(h:Mc w0 g W R H (false,ev) X):
  jC w0 g H 51 #[.pointer (some ⟨g,0,none⟩),.slice (some ⟨n,0,none⟩) 1 1,.int .i64 cW] (ok (gv W [v] cW)) (X.alloc (.cells #[a,b,c] 56)):=by
 subst K;exact xN E (h.below (ba)) I D (l:=[v]) (pY F) (Ls.lit (w:=X) (λk L=>Ft.lt h.sp L) (by rw[eE,oD,kS,J])) rfl (cap:=1) dC
def Mq(s:List UInt8):∃sb:ByteArray,sb=⟨s.toArray⟩/\vc (tv s)=[zI 3,zI 0,.string sb]/\sv s=.string sb/\Hid (∀X,zC 46 #[.string sb] X (zR X (.agg (zV 3 0 sb)))):=⟨_,rfl,rfl,rfl,λX=>jo s X⟩
def Oi(B:Bh p Hs cW w0 ev g W R H w ao na cap args)(D:W.dn.length<=1000000000)(E:W.size<=100000):xD cW w0 g H w ao na cap 0 (plain W 0 args cW):=by
 obtain⟨v,u,vs,us,F,I,M,O,aa,ab,J⟩:=B.head;have PR:=cO (λX (hX:Mc w0 g W R H (false,ev) X) (hL:Ls (Ft g W R) X ao args)=>Ez (cap:=cap) B.E hX B.I B.hp.1 B.hv hL B.S8 B.U9 D E);clear F I;unfold xD jC;obtain⟨bl,off,rfl,h1,h⟩|⟨rfl,rfl,h1,h⟩:=J;all_goals
  clear B;go_enter lE,kB;go_wp2_with(first|(go_at_call 77;refine cA h ?_;rintro e w1 ⟨rfl,K,L,m1⟩)|(go_at_call 78;refine cA (PR _ (K.FC _ _) ((L.alloc _).alloc _)) ?_;rintro e w6 ⟨⟨x,rfl⟩,h6⟩))
  go_returns;exact⟨⟨_,rfl⟩,h6⟩
def Ok(B:Bh p Hs cW w0 ev g W R H w ao na cap args):xD cW w0 g H w ao na cap 5 (plain W 5 args cW):=by
 obtain⟨v,u,vs,us,h,E,L,F,M,O,I⟩:=B.head;have K:=cO (λX (hX:Mc w0 g W R H (false,ev) X)=>qV hX v W);rw[show plain W 5 args cW=(W,some v) by unfold plain;rw[h];rfl];rw[F]at K;clear h E;unfold xD jC;obtain⟨bl,off,rfl,h1,D⟩|⟨rfl,rfl,h1,D⟩:=I;all_goals
  clear B;go_enter lE,kB;go_wp2_with(first|(go_at_call 77;refine cA D ?_;rintro e w1 ⟨rfl,J,aa,m1⟩)|(go_at_call 45;refine cA (K _ (J.FC _ _)) ?_;rintro e w6 ⟨⟨x,rfl⟩,h6⟩))
  go_returns;exact⟨⟨_,rfl⟩,h6⟩
def SA(B:Bh p Hs cW w0 ev g W R H w ao na cap args){k:Int}(J:k=2\/k=3):xD cW w0 g H w ao na cap k (plain W k args cW):=by
 obtain⟨v,u,vs,us,D,K,h,L,ae,af,M⟩:=B.head;obtain⟨s,hs,J,ep⟩:∃s,gG W.sz (tv s)/\(k=2/\(∀X,zC 79 #[vv v] X (zR X (sv s)))\/k=3/\∀X,zC 80 #[vv v] X (zR X (sv s)))/\plain W k args cW=ok (gv W [tv s] cW):=by
  obtain rfl|rfl:=J
  .exact⟨jY v,jF _ (mM h),.inl ⟨rfl,om v h⟩,by unfold plain;rw[D];rfl⟩
  .exact⟨nH v.k,jF _ (cV (tC _) cM),.inr ⟨rfl,yK v h.lo h.hi⟩,by unfold plain;rw[D];rfl⟩
 obtain⟨sb,O,hb,E,aa⟩:=Mq s;have F:=cO (λX n hn hX=>UD (w0:=w0) (g:=g) (R:=R) (H:=H) (ev:=ev) (X:=X) (n:=n) B.E B.I B.hp.1 hs hb hn hX);rw[ep];rw[L,E]at J;clear D K hb E ep hs O;unfold xD;unfold jC at F|-;obtain⟨rfl,st⟩|⟨rfl,st⟩:=J;all_goals
  obtain⟨bl,off,rfl,h1,I⟩|⟨rfl,rfl,h1,I⟩:=M
 all_goals
  clear B;go_enter lE,kB;go_wp2_with(first|(go_at_call 77;refine cA I ?_;rintro e w1 ⟨rfl,ab,ag,m1⟩)|((first|go_at_call 79|go_at_call 80);refine cA (st _) ?_;rintro e w5 ⟨rfl,b5⟩;have ac:=cO (Mc.below (ab.FC _ _) b5);clear b5)|(go_at_call 46;refine cA (aa _) ?_;rintro e w7 ⟨rfl,b7⟩;have ad:=cO (ac.below b7);clear b7)|(go_at_call 51;refine cA (F _ _ rfl ad) ?_;rintro e w6 ⟨⟨x,rfl⟩,h6⟩))
  go_returns;exact⟨⟨_,rfl⟩,h6⟩
end rn
end Go.Proofs.YtfpkdfeakanlpaaGreatDoor
