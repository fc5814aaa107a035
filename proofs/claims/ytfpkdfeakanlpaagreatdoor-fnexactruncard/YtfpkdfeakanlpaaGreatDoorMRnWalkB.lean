import Derived.Deep.AppendLies
import Derived.Laws.AppendOwnNone
import Derived.Handy
import Derived.WalkMore
import Derived.Deep.QuietTactic
import Derived.Deep.RegionHeld3
import Derived.Test.YtfpkdfeakanlpaaGreatDoorMRnOwnK
set_option linter.all false
set_option maxRecDepth 100000
set_option maxHeartbeats 8000000
namespace Go.Proofs.YtfpkdfeakanlpaaGreatDoor
open Go.Proofs.Tryz
namespace rn
open RowKit bts pg
variable{a:Act}{ops:Array Oper}{rz rz':Bool×Vl}{Q:Exit->Act->World->Prop}{f:Fr}{H H':Hd}{b cJ cap d dap g m r:Nat}{S1:Nat->Prop}{P:Program}{V W:St}{R R':eO→fW}{u:Value}{X w w1:World}{S:World→Prop}
def xw(w:World)(cJ:Nat)(t ty e:TypeId)(i:TypeInfo)(size:Nat)(E:P.underlying t=some (.slice e))(F:P.info? e=some i)(v:Value)(n:Nat)(xs:List Value)(h:w.ownsRow cJ e size v n xs)(ao:Option Addr)(c:Nat):
  (Builtin.append_ #[t,t] ty #[v,.slice ao 0 c]).run P w=.ok v w:=by
 cases ao with
 |none=>
  obtain⟨rfl,rfl⟩|⟨g,cap,I,rfl,_,_,D,_⟩:=h.2
  .simp[Builtin.append_,zO E,sizeOf,typeInfo,F,Builtin.lenOf,Builtin.firstCells]
  .simp[Builtin.append_,zO E,sizeOf,typeInfo,F,Builtin.lenOf,Builtin.firstCells,D,storeCells]
 |some a=>
  have J:=run_firstCells_some (P:=P) w i.size 0 a 0 c [] dC dC;obtain⟨rfl,rfl⟩|⟨g,cap,I,rfl,_,_,D,_⟩:=h.2
  .simp[Builtin.append_,zO E,sizeOf,typeInfo,F,Builtin.lenOf,J]
  .simp[Builtin.append_,zO E,sizeOf,typeInfo,F,Builtin.lenOf,J,D,storeCells]
structure sd(E c:Nat)(w:World)(cJ:Nat)(av:Option Addr)(n cv:Nat)(us:List Value)(av':Option Addr)(m cv':Nat)(w':World):Prop where
 own:w'.ownsRow cJ E c (.slice av' m cv') m us
 jz:w.grownBy w' (Value.slice av n cv).ownBlock
 qA:(av'=av∧cv'=cv)∨∃g,av'=some ⟨g,0,none⟩∧((Value.slice av n cv).ownBlock=some g∨g=w.heap.size)
def yr(w:World)(t ty E:TypeId)(i:TypeInfo)(z:Value)(c gq:Nat)(ht:Tryz.prog.underlying t=some (.slice E))(hi:Tryz.prog.info? E=some i)(hz:i.zero=some z)(F:i.size=c)(M:i.bytes=gq)(O:z.cells.size=c)(hc:0<c)(cJ:Nat)(av:Option Addr)(n cv:Nat)(us:List Value)(D:w.ownsRow cJ E c (.slice av n cv) n us)(ao:Option Addr)(m cx:Nat)(h:List Value)(hl:h.length=m*c)(hr:0<m->∃ad,ao=some ad/\∀j u,h[j]?=some u->w.cell? (ad.add j)=some u)(h1:∀u∈h,u.oneCell'=true)(aa:n+m<=maxLen)(hb:(n+m)*gq<=140737488355328)(I:cJ<=w.heap.size):
  ∃J K L,(Builtin.append_ #[t,t] ty #[.slice av n cv,.slice ao m cx]).run Tryz.prog w=.ok (.slice J (n+m) K) L/\sd E c w cJ av n cv (us++h) J (n+m) K L:=by
 by_cases h0:m=0
 .subst h0;obtain rfl:h=[]:=eJ.1 cM;exact⟨av,cv,w,xw w cJ t ty E i c ht hi _ n _ D ao cx,by simpa using D,jE _ _,.inl ⟨rfl,rfl⟩⟩
 .obtain⟨a,rfl,hn⟩:=hr cM;obtain⟨g,cap,L,e1,e2,e3,e4,_⟩:=run_append_lies (P:=Tryz.prog) w t ty cJ E i z c gq ht hi hz F M O hc (.slice av n cv) n us D a m cx h hl hn h1 cM aa hb I _ rfl;exact⟨some (zA g 0),cap,L,e1,e2,e3,.inr ⟨g,rfl,e4⟩⟩
def eI{J:List Oper}{o:Oper}(aa:o.guard=none)(s x:Operand)(t:TypeId)(ho:o.op=.call {callee:=.builtin .append,args:=#[s,x],argTypes:=#[t,t]})(E:TypeId)(i:TypeInfo)(z:Value)(c gq:Nat)(ht:Tryz.prog.underlying t=some (.slice E))(hi:Tryz.prog.info? E=some i)(hz:i.zero=some z)(L:i.size=c)(ab:i.bytes=gq)(ac:z.cells.size=c)(hc:0<c)(cJ:Nat)(av:Option Addr)(n cv:Nat)(us:List Value)(hs:a.eval s=.slice av n cv)(O:w.ownsRow cJ E c (.slice av n cv) n us)(ao:Option Addr)(m cx:Nat)(D:List Value)(hx:a.eval x=.slice ao m cx)(hl:D.length=m*c)(hr:0<m->∃ad,ao=some ad/\∀j u,D[j]?=some u->w.cell? (ad.add j)=some u)(h1:∀u∈D,u.oneCell'=true)(ae:n+m<=maxLen)(hb:(n+m)*gq<=140737488355328)(M:cJ<=w.heap.size)(h:∀F I w',sd E c w cJ av n cv (us++D) F (n+m) I w'->wpList Tryz.prog ops Q J (a.put o.dst (.slice F (n+m) I)) w'):wpList Tryz.prog ops Q (o::J) a w:=by
 refine wpList_plain aa λK hK=>?_;obtain⟨F,I,w',h2,h3⟩:=yr w t o.type E i z c gq ht hi hz L ab ac hc cJ av n cv us O ao m cx D hl hr h1 ae hb M;unfold Oper.wp execOp;simp only[ho,resolve,invoke,builtin,iS,jB,iD,List.map_toArray,jP,Gg,hs,hx,h2];exact hK _ _ (h F I w' h3)
def vv(v:Vl):Value:=.agg #[.int .i64 v.k,.int .i64 v.n,sv v.s]
def jo(s:List UInt8)(w:World):zC 46 #[sv s] w (zR w (vv (tv s))):=by unfold vv tv sv;dsimp only;generalize(⟨s.toArray⟩:ByteArray)=h;go_enter func46,ntmps46;go_wp2;go_returns;exact⟨rfl,by go_grown⟩
def dx{c:Code}(h:∀w1,w1=X->Code.wp P c Q a w1):Code.wp P c Q a X:=h X rfl
def gJ{l:List Oper}(h:∀w1,w1=X->wpList P ops Q l a w1):wpList P ops Q l a X:=h X rfl
section
variable{row:Option Nat}
def Sp.drewN(h:Sp cJ g W R H rz w)(n:Nat):Sp cJ g W R H rz (w.drewN n):=h.grown ⟨rfl,rfl,rfl,cE _,λ_ _ _=>rfl⟩
def Sp.drew(h:Sp cJ g W R H rz w):Sp cJ g W R H rz w.drew:=h.grown ⟨rfl,rfl,rfl,cE _,λ_ _ _=>rfl⟩
def Kp.drewN{S:Nat->Prop}(h:Kp S S1 w w1)(n:Nat):Kp S S1 w (w1.drewN n):=⟨h.os,h.tape,h.output,h.size,h.kg,h.out⟩
def Kp.later{S:Nat->Prop}(h:Kp S S1 w w1){a:Addr}(u:Value)(F:w.heap.size<=a.block):Kp S S1 w (w1.setCell a u):=
 ⟨h.os,h.tape,h.output,cV h.size QB,λk D E=>(cZ _ _ _ _ cM).trans (h.kg k D E),h.out⟩
def Sp.off(h:Sp cJ g W R H rz w){a:Addr}(D:¬Ft g W R a.block)(u:Value):Sp cJ g W R H rz (w.setCell a u):=
 ⟨h.eH.AA (λt E e=>D (Ft.rE E e)) u,h.ij,h.cells,h.own,(lM w a g u (λe=>D (.inl e.symm))).trans h.block⟩
structure Qy(W:St)(R:eO→fW)(d dap:Nat):Prop where
 cS:(R (4,0,0)).v=.slice (some ⟨d,0,none⟩) W.cS.length dap
structure SJ(W:St)(R:eO→fW)(b cap:Nat):Prop where
 cy:(R (6,W.cQ,0)).v=.slice (some ⟨b,0,none⟩) W.co.cy.length cap
 le:W.co.cy.length≤cap
def Sp.zH(h:Sp cJ g W R H rz w)(I:W.cQ<W.cS.length):∃d D,Qy W R d D/\d≠g/\Ft g W R d:=by obtain⟨d,D,E,_,F,_⟩:=h.cS cM;exact⟨d,D,⟨E⟩,F,Ft.rE iN (by rw[E];rfl)⟩
def Sp.SE(h:Sp cJ g W R H rz w)(F:W.cQ<W.cS.length)(I:0<W.co.cy.length):∃b cap,SJ W R b cap/\b≠g/\Ft g W R b:=by obtain⟨b,cap,D,_,K,_⟩:=h.cy F I;have D:=D;have E:=gz F;have e:(R (6,W.cQ,0)).n=W.co.cy.length:=h.ij _ E;refine⟨b,cap,⟨D,?_⟩,K,Ft.rE E (by rw[D];rfl)⟩;obtain⟨M,J,L,_,O⟩:=h.eH.uE E (e▸I);rw[L]at D;simp only[de,dB,fC,and_true]at D;omega
def Sp.c6(h:Sp cJ g W R H rz w)(D:Qy W R d dap):w.cell? ⟨g,6,none⟩=some (.slice (some ⟨d,0,none⟩) W.cS.length dap):=by have:=h.eA (j:=6) rfl;rwa[D.cS]at this
def Sp.c7(h:Sp cJ g W R H rz w):w.cell? ⟨g,7,none⟩=some (.int .i64 W.cQ):=h.eA (j:=7) rfl
def Sp.Ll(h:Sp cJ g W R H rz w)(E:Qy W R d dap){c:Nat}(F:c<W.cS.length)(D:(cc (R (6,c,0)).v (W.cS.getD c dE))[r]?=some u):w.cell? ⟨d,c*8+r,none⟩=some u:=by
 have I:r<8:=by have:=(fG.1 D).1;rwa[rZ]at this
 refine h.eH.cell iN (by rw[E.cS,h.ij _ iN];rfl) ?_ ?_
 .rw[h.ij _ iN];show c*8+r<W.cS.length*8;omega
 .rw[h.cells _ iN,NT W R F I];exact D
def Sp.S9(h:Sp cJ g W R H rz w)(D:Qy W R d dap)(j:Nat):w.frozen? ⟨d,j,none⟩=false:=h.eH.free iN (by rw[D.cS,h.ij _ iN];rfl) j
def Sp.k0(h:Sp cJ g W R H rz w)(D:W.cQ<W.cS.length)(E:W.co.cy.length=m)(F:Qy W R d dap)(I:SJ W R b cap):w.cell? ⟨d,W.cQ*8,none⟩=some (.slice (some ⟨b,0,none⟩) m cap):=by have:=h.Ll F D (r:=0) rfl;rwa[I.cy,E]at this
def Sp.ny(h:Sp cJ g W R H rz w)(E:W.cQ<W.cS.length):W.co.cy.length<=9223372036854775807:=by
 have D:=gz E;have e:(R (6,W.cQ,0)).n=W.co.cy.length:=h.ij _ D;obtain⟨_,I⟩|⟨_,_,_,_,_,_,J,F,_⟩:=(h.eH.own _ D).2
 .omega
 .unfold maxLen at F;omega
def Sp.Dl(h:Sp cJ g W R H rz w):W.cS.length<=9223372036854775807:=by
 have e:(R (4,0,0)).n=W.cS.length:=h.ij _ iN;obtain⟨_,E⟩|⟨_,_,_,_,_,_,F,D,_⟩:=(h.eH.own _ iN).2
 .omega
 .unfold maxLen at D;omega
def Sp.So(h:Sp cJ g W R H rz w)(F:W.cQ<W.cS.length)(I:SJ W R b cap){j:Nat}(J:j<W.co.cy.length)(E:(fc R W.cQ j (W.fr W.cQ j))[r]?=some u):w.cell? ⟨b,j*7+r,none⟩=some u:=by
 have K:r<7:=by have:=(fG.1 E).1;rwa[uF]at this
 have D:=gz F;have e:(R (6,W.cQ,0)).n=W.co.cy.length:=h.ij _ D;refine h.eH.cell D (by rw[I.cy,e]) ?_ ?_
 .rw[e];show j*7+r<W.co.cy.length*7;omega
 .rw[h.cells _ D,Bf W R J K];exact E
def Sp.UF(h:Sp cJ g W R H rz w)(E:W.cQ<W.cS.length)(F:SJ W R b cap)(j:Nat):w.frozen? ⟨b,j,none⟩=false:=by have D:=gz E;have e:(R (6,W.cQ,0)).n=W.co.cy.length:=h.ij _ D;exact h.eH.free D (by rw[F.cy,e]) j
def fv(R:eO->fW)(c j:Nat)(f:Fr):Value:=.agg (fc R c j f).toArray
def tc(W:St)(R:eO->fW):List Value:=fc R W.cQ (W.co.cy.length-1) W.db
def Sp.Tx(h:Sp cJ g W R H rz w)(F:W.cQ<W.cS.length)(I:W.co.cy.length=m+1)(J:SJ W R b cap){q0 q1 q2 q3 q4 D q6:Value}(e:tc W R=[q0,q1,q2,q3,q4,D,q6]):
  w.cell? ⟨b,m*7,none⟩=some q0/\w.cell? ⟨b,m*7+1,none⟩=some q1/\w.cell? ⟨b,m*7+2,none⟩=some q2/\w.cell? ⟨b,m*7+3,none⟩=some q3/\w.cell? ⟨b,m*7+4,none⟩=some q4/\w.cell? ⟨b,m*7+5,none⟩=some D/\w.cell? ⟨b,m*7+6,none⟩=some q6:=by
 have key:∀r u,[q0,q1,q2,q3,q4,D,q6][r]?=some u->zE w b (m*7+r) u:=by intro r u E;rw[<-e]at E;have:=h.So F J (j:=W.co.cy.length-1) cM E;rwa[I]at this
 exact⟨key 0 _ rfl,key 1 _ rfl,key 2 _ rfl,key 3 _ rfl,key 4 _ rfl,key 5 _ rfl,key 6 _ rfl⟩
def Rows.sliced{E:Nat->TypeId}{Z:Nat->Nat}{D:eO->Prop}(h:Rows cJ E Z D R w){t:eO}(F:D t):∃a c,(R t).v=.slice a (R t).n c:=by
 obtain⟨e,I⟩|⟨g,cap,J,e,_⟩:=(h.own t F).2
 .exact⟨none,0,by rw[e,I]⟩
 .exact⟨_,cap,e⟩
def Sp.Gp(h:Sp cJ g W R H rz w)(E:W.cQ<W.cS.length)(hl:0<W.co.cy.length)(J:W.db.guard=false->W.db.fn<W.funcs.length):
  ∃a4 n4 c4 a5 n5 c5 F K I,tc W R=[.bool W.db.guard,.int .i64 W.db.want,.int .i64 W.db.eR,.int .i64 W.db.eA,.slice a4 n4 c4,.slice a5 n5 c5,.slice F K I]:=by
 unfold tc fc;by_cases D:W.db.guard=true
 .simp only[D,wY];exact⟨_,_,_,_,_,_,_,_,_,rfl⟩
 .have D:W.db.guard=false:=by simpa using D
  obtain⟨a4,c4,L⟩:=h.eH.sliced (vC (J D));obtain⟨a5,c5,M⟩:=h.eH.sliced (qZ E (j:=W.co.cy.length-1) (by show _<W.co.cy.length;omega) D);obtain⟨F,I,O⟩:=h.eH.sliced (vD E (j:=W.co.cy.length-1) (by show _<W.co.cy.length;omega) D);rw[L,M,O];simp only[D,DG,Ve];exact⟨_,_,_,_,_,_,_,_,_,rfl⟩
end
def tA(h:Sp cJ g W R H rz w)(J:W.cQ<W.cS.length)(hl:0<W.co.cy.length)(hf:W.db.guard=false->W.db.fn<W.funcs.length):
  zC 50 #[zP g] w λe w'=>e=.returned (fv R W.cQ (W.co.cy.length-1) W.db) /\
   ∃R',Sp cJ g W.fU R' H rz w'/\Kp (Ft g W R) (Ft g W.fU R') w w'/\∀u,u≠(6,W.cQ,0)->(R' u).v=(R u).v:=by
 obtain⟨d,ai,h4,aj,ad⟩:=h.zH J;obtain⟨b,cap,h6,ak,af⟩:=h.SE J hl;obtain⟨a4,n4,c4,a5,n5,c5,a6,n6,ac,D⟩:=h.Gp J hl hf;generalize W.db.guard=q0 at D;generalize W.db.want=q1 at D;generalize(W.db.eR:Int)=q2 at D;generalize(W.db.eA:Int)=q3 at D;have HE:=cO h;have HT:=cO D;have HF:=cO ad;have ae:fv R W.cQ (W.co.cy.length-1) W.db=.agg #[.bool q0,zI q1,zI q2,zI q3,.slice a4 n4 c4,.slice a5 n5 c5,.slice a6 n6 ac]:=by show Value.agg (tc W R).toArray=_;rw[D]
 rw[ae];obtain⟨m,hm⟩:=GS (n:=W.co.cy.length) cM;have HM:=cO hm;have al:m+1<=9223372036854775807:=by rw[<-hm];exact h.ny J
 have am:m+1<=cap:=by rw[<-hm];exact h6.le
 clear h D ad af ae hl hm hf;go_enter func50,ntmps50;go_wp2;refine dx λw1 M=>?_;have O:Sp cJ g W R H rz w1:=M▸HE.alloc _;have K1:zK g W R w w1:=M▸Kp.alloc _;have c6:=O.c6 h4;have c7:=O.c7;have k0:=O.k0 J HM h4 h6;have ag:Lc (Ft g W R) w1 w.heap.size #[.bool false,zI 0,zI 0,zI 0,zN,zN,zN] 111:=by rw[M];exact Lc.new w (λk hk=>Ft.lt HE hk) _ _
 clear M;go_quiet (fail);go_wp2;clear c6 c7 k0;refine dx λw2 aa=>?_;have F:Sp cJ g W R H rz w2:=aa▸O.drewN _;have K2:zK g W R w w2:=aa▸K1.drewN _;have ah:Lc (Ft g W R) w2 w.heap.size #[.bool false,zI 0,zI 0,zI 0,zN,zN,zN] 111:=by rw[aa];exact ag
 clear aa;obtain⟨S,I⟩:=eX (fI w2 none);have y6:=Wd.cn I (F.c6 h4);have y7:=Wd.cn I F.c7;have y0:=Wd.cn I (F.k0 J HM h4 h6);obtain⟨t0,t1,t2,t3,t4,t5,t6⟩:=F.Tx J HM h6 HT;have z0:=Wd.cn I t0;have z1:=Wd.cn I t1;have z2:=Wd.cn I t2;have z3:=Wd.cn I t3;have z4:=Wd.cn I t4;have z5:=Wd.cn I t5;have z6:=Wd.cn I t6;clear t0 t1 t2 t3 t4 t5 t6;have HS:=cO I;clear I;haveI:=pz HS;refine uq S 14 1 (HS▸(fI.refl _ _).drew) ?_;simp only[List.take,List.drop];repeat(go_big_quiet_step(fail))
 apply wpQuiet_nil;apply dI;go_wp2;refine⟨HS▸(fI.refl _ _).drew.alloc _,?_⟩;apply ej;go_wp2;clear y6 y7 y0 z0 z1 z2 z3 z4 z5 z6;refine dx λw3 K=>?_;have L:Sp cJ g W R H rz w3:=K▸(F.alloc _).drew;have K3:zK g W R w w3:=K▸(K2.trans (Kp.alloc _)).drew;have LF:Lc (Ft g W R) w3 w2.heap.size #[.bool q0,zI q1,zI q2,zI q3,.slice a4 n4 c4,.slice a5 n5 c5,.slice a6 n6 ac] 111:=by rw[K];exact(Lc.new w2 (λk hk=>Ft.lt F hk) _ _).drew
 have ab:Lc (Ft g W R) w3 w.heap.size #[.bool false,zI 0,zI 0,zI 0,zN,zN,zN] 111:=by rw[K];exact(ah.alloc _).drew
 clear K;have c6:=L.c6 h4;have c7:=L.c7;have k0:=L.k0 J HM h4 h6;have kf:=L.S9 h4 (W.cQ*8);obtain⟨l0,l1,l2,l3,l4,l5,l6⟩:=LF.c7;obtain⟨r0,r1,r2,r3,r4,r5,r6⟩:=ab.c7;have f0:=ab.free;have e1:¬w2.heap.size=d:=λe=>LF.1 (e▸HF);have e2:¬w.heap.size=d:=λe=>ab.1 (e▸HF);have e3:¬d=w2.heap.size:=λe=>e1 e.symm;have e4:¬d=w.heap.size:=λe=>e2 e.symm;refine uZ 23 ?_;simp only[List.take,List.drop];repeat(go_big_quiet_step(fail))
 apply wpQuiet_nil;go_wp2;refine eS (v:=.agg #[.bool q0,zI q1,zI q2,zI q3,.slice a4 n4 c4,.slice a5 n5 c5,.slice a6 n6 ac]) (by simp[results,results50,go_sem,r0,r1,r2,r3,r4,r5,r6]) rfl ?_;obtain⟨R',hP,hv,ho⟩:=L.fU J (by rw[HM];omega) h6.cy h4.cS;rw[HM,pH]at hP;have K4:Kp (Ft g W R) (Ft g W.fU R') w3 (w3.setCell (zA d (W.cQ*8)) (zS b m cap)):=by
  refine(Kp.setCell _ HF).sub λk hk=>?_;obtain rfl|⟨t,ht,e⟩:=hk
  .exact .inl (.inl rfl)
  .by_cases e6:t=(6,W.cQ,0)
   .subst e6;rw[hv]at e;exact .inl (Ft.rE (gz J) (h6.cy▸e))
   .rw[ho t e6]at e;exact .inl (Ft.rE (Jc J ht) e)
 have E:=(ab.kept K4).1;refine⟨rfl,R',Sp.drew ?_,Kp.drew ?_,ho⟩
 .exact((((((hP.off E _).off E _).off E _).off E _).off E _).off E _).off E _
 .exact(((((((K3.trans K4).later _ (cE _)).later _ (cE _)).later _ (cE _)).later _ (cE _)).later _ (cE _)).later _ (cE _)).later _ (cE _)
end rn
end Go.Proofs.YtfpkdfeakanlpaaGreatDoor
