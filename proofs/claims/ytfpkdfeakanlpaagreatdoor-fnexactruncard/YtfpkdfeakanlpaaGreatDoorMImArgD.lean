import Derived.Laws.Tables
import Derived.Deep.RegionHeld3
import Derived.Test.YtfpkdfeakanlpaaGreatDoorMImNewC
import Derived.Test.YtfpkdfeakanlpaaGreatDoorMImStep
import Derived.Test.YtfpkdfeakanlpaaGreatDoorMChkImpl
set_option linter.all false
set_option maxRecDepth 100000
set_option maxHeartbeats 8000000
namespace Go.Proofs.YtfpkdfeakanlpaaGreatDoor
open Go.Proofs.Tryz
namespace im
open RowKit bts pg rn chk
variable{cd dp n st:Int}{zs:List (List Int)}{l:List (List UInt8)}{hs:List Value}{cJ base' g:Nat}{Hs:Nat→List Int}{S S1:Nat→Prop}{o:Oc}{p:Pg}{V W:St}{a b u u1 u2 ui uk v:Value}{w w0 w1 w2:World}
section
variable{ins:List (List Int)}
def If(I:nP w ui ins):zC 27 #[ui,zI n] w λe w'=>e=.returned (.bool (jU ins n))/\w'=w:=by
 obtain⟨ao,cap,rfl,hc,hm,hr⟩:=I;obtain⟨J,h⟩:∃n,n=ins.length:=⟨_,rfl⟩
 have K:=cO h;have HR:=cO hr;rw[<-h]at hc|-;clear hr h;go_enter func27,ntmps27;go_wp2;go_loopw[9] (λx wr=>∃j:Nat,j<=J/\x=zI (j:Int)/\Hid (wr=w)/\Hid (∀i,i<j->(ins.getD i []).length<=5000)) (λx _=>J-(intOf x).toNat)
 case atStart=>exact⟨0,dM _,rfl,rfl,λi I=>cM⟩
 case round=>
  obtain⟨j,hj,rfl,HW,L⟩:=hrel;obtain rfl:=HW;by_cases M:j<J
  .have ac:(j:Int)<(J:Int):=cM;have D:j<ins.length:=by rw[<-K];exact M
   obtain⟨b,off,u,rfl,E,ja,jc,rfl,O,_,_⟩:=HR j D;obtain⟨nx,F⟩:=eX ((ins.getD j []).length);rw[<-F]at E O;have HX:=cO F;have HJ:=cO D;clear F D;by_cases h5:5000<nx
   .have aa:(5000:Int)<(nx:Int):=cM;go_wp2;go_returns;refine⟨ga (λb=>Ending.returned (.bool b)) (fj λq=>?_).symm,rfl⟩;have:=q.2.2.2 _ (fA HJ.out);have e:ins.getD j []=ins[j]'HJ.out:=by simp[cB,HJ.out]
    rw[<-e,<-HX.out]at this;omega
   .have aa:¬(5000:Int)<(nx:Int):=cM;go_wp2;go_roundw
    case rel=>exact⟨j+1,cM,l9,by first|exact trivial|exact rfl,λi I=>by
     by_cases e:i=j
     .subst e;rw[<-HX];omega
     .exact L i cM⟩
    case measure=>simp[intOf];omega
  .obtain rfl:j=J:=cM;have AL:Hid (∀x∈ins,x.length<=5000):=λx hx=>by
    obtain⟨i,I,rfl⟩:=gM hx;have:=L i (K▸I);rwa[show ins.getD i []=ins[i] by simp[cB,I]]at this
   have ab:Hid (jU ins n=(decide (j<=1000)&&decide (0<=n)&&decide (n<=100000))):=by show decide _=_;rw[<-K,<-Bool.decide_and,<-Bool.decide_and];exact WX.2 ⟨λq=>⟨⟨q.2.2.1,q.1⟩,q.2.1⟩,λq=>⟨q.1.2,q.2,q.1.1,AL⟩⟩
   by_cases q1:j<=1000<;>by_cases q2:0<=n<;>by_cases q3:n<=100000;all_goals
    have ad:(decide ((j:Int)<=1000))=decide (j<=1000):=WX.2 cM;clear L HR AL;go_wp2;go_returns;exact⟨by rw[ab];simp[q1,q2,q3],rfl⟩
end
section
variable{ins:List (List Int)}{n:Nat}
def UU(cJ:Nat)(w':World)(v:Value)(o:Oc):Prop:=∃h D E S,v=.agg #[.int .i64 o.dw,h,D,.int .i64 (o.dz:Int),.int .i64 (o.iq:Int)]/\Pi cJ S w' h E o.dn/\Bo cJ (λk=>S k\/h.ownBlock=some k) w' D o.lu/\∀u∈E,∀b,u.ownBlock=some b->D.ownBlock≠some b
def Bo.to{l:List UInt8}(h:Bo cJ S w v l)(O:base'<=cJ)(E:∀k,cJ<=k->w1.heap[k]?=w.heap[k]?):Bo base' S w1 v l:=
 h.imp id λ⟨g,cap,D,F,I,J,K,L,M⟩=>⟨g,cap,D,F,I,cM,K,(E g J).trans L,M⟩
def Pi.to(h:Pi cJ S w v hs l)(E:base'<=cJ)(D:∀k,cJ<=k->w1.heap[k]?=w.heap[k]?):Pi base' S w1 v hs l:=by refine⟨?_,h.out,λi F=>(h.eA i F).imp λu q=>⟨q.1,q.2.to E D⟩,h.apart⟩;have q:=jm (w1:=w1) h.own λk e=>D k (h.own.lt k e).1;exact⟨q.1,q.2.imp id λ⟨a,b,c,d,e,f⟩=>⟨a,b,c,d,cM,f⟩⟩
def Lr(p:Pg)(Hs:Nat->List Int)(w2:World)(g n:Nat)(o:Oc)(N:Nat)(wr:World):Prop:=
 ∃W G R H,Mi w2 p W G R H wr/\ptr (hd R (9,0,0))=.pointer (some ⟨g,0,none⟩)/\zJ p Hs W/\Bd W/\W.dz<=n/\N=n-W.dz/\oc (run p N W)=o
def V0(w w2:World)(g:Nat)(o:Oc)(h:World):Prop:=
 Below w2.heap.size w2 h/\∃D E F I J K,h.cell? ⟨g,45,none⟩=some (.int .i64 o.dw)/\h.cell? ⟨g,46,none⟩=some (.slice D E F)/\h.cell? ⟨g,47,none⟩=some (.slice I J K)/\h.cell? ⟨g,48,none⟩=some (.int .i64 (o.dz:Int))/\h.cell? ⟨g,49,none⟩=some (.int .i64 (o.iq:Int))/\w2.heap.size<=g /\
  ∀X,(∀k,w2.heap.size<=k->X.heap[k]?=h.heap[k]?)->UU w.heap.size X (.agg #[.int .i64 o.dw,.slice D E F,.slice I J K,.int .i64 (o.dz:Int),.int .i64 (o.iq:Int)]) o
def Mi.fin{G:Gh}{R:eO->fW}{H:Hi}{K:World}(M:Mi w2 p W G R H K)(L:ptr (hd R (9,0,0))=.pointer (some ⟨g,0,none⟩))(O:w.heap.size<=w2.heap.size)(ho:oc W=o):V0 w w2 g o K:=by
 obtain⟨g',cg,h9,h,_,fg⟩:=M.im.mP;rw[h9]at L;cases L;obtain⟨hs,P,PA⟩:=M.pr;have sp:∃D E F,H.pr=.slice D E F:=by obtain⟨e,_⟩|⟨_,_,_,e,_⟩:=P.own.2<;>exact⟨_,_,_,e⟩
 have se:∃D E F,H.er=.slice D E F:=by obtain⟨e,_⟩|⟨_,_,_,_,e,_⟩:=M.er<;>exact⟨_,_,_,e⟩
 obtain⟨D,E,F,I⟩:=sp;obtain⟨ea,en,ec,J⟩:=se;rw[<-ho];refine⟨M.mV,D,E,F,ea,en,ec,h 45 _ rfl,by rw[<-I];exact h 46 _ rfl,by rw[<-J];exact h 47 _ rfl,h 48 _ rfl,h 49 _ rfl,eY.from M.im fg,λX hX=>⟨_,_,hs,eY W G R,rfl,?_,?_,?_⟩⟩
 .rw[<-I];exact P.to O hX
 .rw[<-J,<-I];exact M.er.to O hX
 .rw[<-J];exact PA
def Lr.cases{N:Nat}{wr:World}(E:mz p Hs)(tb:Tb w2)(pw:Pw w2)(hn:n<=100000)(hb:w.heap.size<=w2.heap.size)(h:Lr p Hs w2 g n o N wr):
  ∃D st,zE wr g 44 (.bool D)/\zE wr g 48 (zI ((st:Nat):Int))/\wr.frozen? (zA g 48)=false/\st<=n/\(D=true->V0 w w2 g o wr)/\(D=false->st=n->zC 30 #[zP g,zI 7] wr λe w'=>(∃x,e=.returned x)/\V0 w w2 g o w') /\
   (D=false->st<n->∃M,N=M+1/\zC 31 #[zP g] (wr.setCell (zA g 48) (zI ((st+1:Nat):Int))) λe w'=>(∃x,e=.returned x)/\Lr p Hs w2 g n o M w'):=by
 obtain⟨W,G,R,H,M,F,L,bd,hs,rfl,J⟩:=h;obtain⟨g',cg,h9,c9,f9,fg⟩:=M.im.mP;have K:=F;rw[h9]at K;cases K;refine⟨W.oz,W.dz,c9 44 _ rfl,c9 48 _ rfl,f9 48,hs,λD=>?_,λD O=>?_,λD lt=>?_⟩
 .rw[Ee _ D]at J;exact M.fin F hb J
 .rw[O,qv,Ec D]at J;have en:=Hx M.im 7;rw[F]at en;refine en.mono ?_;rintro e w' ⟨hx,R',i,d,k⟩;obtain⟨m,_⟩:=M.gY i (M.gw.pF rfl rfl rfl (λ_=>rfl) (λ_=>⟨rfl,rfl,rfl,rfl⟩) (λ_ _=>⟨rfl,rfl⟩) (λ_ _ _=>⟨rfl,rfl⟩)) k rfl rfl rfl;exact⟨hx,m.fin (d▸F) hb J⟩
 .refine⟨n-(W.dz+1),cM,?_⟩;obtain⟨R1,M1,d1,_⟩:=M.m9 (V:={W with dz:=W.dz+1}) (H':=H) rfl rfl rfl rfl rfl rfl rfl rfl rfl rfl rfl M.ins h9 (j:=48) (u:=zI ((W.dz+1:Nat):Int)) rfl;obtain h|⟨I,hl,aa⟩:=id L
  .rw[D]at h;cases h
  have sm:=OY E tb pw I hl aa bd cM M1;rw[d1,F]at sm;refine sm.mono λe w' cz=>⟨cz.ret,?_⟩
  obtain⟨G2,R2,H2,M2,_,d2,_⟩:=cz;have O:=uh E L D;exact⟨_,G2,R2,H2,M2,by rw[show hd R2 (9,0,0)=_ from d2,d1];exact F,Ca E L D,Cb E L D bd,by show(rn.gY p W).dz<=n;rw[O];omega,by show _=n-(rn.gY p W).dz;rw[O],by rw[show n-W.dz=(n-(W.dz+1))+1 by omega,Ed _ D]at J;exact J⟩
end
section
variable{ins:List (List Int)}{up:Value}
def uI{B:Nat}(h:Below B w w1)(E:B<=g)(cs:Array Value):Below B w (w1.setRow g cs):=
 ⟨h.os,h.tape,h.output,by rw[setRow_size];exact h.size,λk D=>(Tf _ _ _ _ cM).trans (h.block k D)⟩
def EH(hs:jT p<=1048576)(hn:∀i,i<p.dv.length->-9223372036854775808<=(p.dv.getD i mU).n/\(p.dv.getD i mU).n<=9223372036854775807)(hk:lX w uk p.dv)(hp:kZ w up p.cU)(hi:nP w ui ins)(ho:Qx p ins n o)(tb:Tb w)(pw:Pw w)(sh:Fy w)(aa:0<w.heap.size):
  zC 9 #[.agg #[uk,up],ui,zI n] w λe w'=>zB w w'/\∃v,e=.returned v/\UU w.heap.size w' v o:=by
 have key:∃L ok:Bool,(L=true↔j5 p)/\jU ins n=ok/\((L&&ok)=false->o=⟨1,[],[],0,0⟩)/\(L=true->ok=true->∃Hs m,n=((m:Nat):Int)/\m<=100000/\mz p Hs/\(∀x∈ins,x.length<=5000)/\oc (run p m (rn.start p ins))=o):=by
  classical
  refine⟨decide (j5 p),jU ins n,decide_eq_true_iff,rfl,λh=>?_,λh1 h2=>?_⟩
  .obtain⟨a,b,_⟩|⟨_,e⟩:=ho
   .rw[fM a,b]at h;cases h
   .exact e
  .obtain⟨Hs,E⟩:=mz.of (iC h1) hn;have q:(0<=n/\n<=100000/\ins.length<=1000/\∀x∈ins,x.length<=5000):=by simpa[jU]using h2
   obtain⟨_,_,e⟩|⟨a,_⟩:=ho
   .exact⟨Hs,n.toNat,cM,cM,E,q.2.2.2,e.symm⟩
   .exact absurd ⟨iC h1,h2⟩ a
 obtain⟨L,ok,hS,ac,ad,M⟩:=key;have CR:=cO (λX (D:zB w X)=>If (n:=n) (hi.below D));rw[ac]at CR;have CK:Hid (∀X,zB w X->zC 28 #[.agg #[uk,up]] X (zR X (.bool L))):=λX D=>Al p uk up X (hk.below D) (hp.below D) hs (sh.below D aa) (dj aa D.size) L hS;have NM:=cO (λHs (E:mz p Hs) (h5:∀x∈ins,x.length<=5000) X (D:zB w X)=>yA E (hk.below D) (hp.below D) (hi.below D) h5);have TB:=cO (λX (D:zB w X)=>tb.up D);have PW:=cO (λX (D:zB w X)=>Lib.tabBelow_of_tabIs pw X D);obtain⟨ak,ck,rfl,_⟩:=hk;obtain⟨ap,cp,rfl,_⟩:=hp;obtain⟨ai,ci,rfl,_⟩:=hi;generalize p.dv.length=nk at*;generalize p.cU.length=np at*;generalize ins.length=ni at*;clear hs hn ho tb pw sh aa hS ac;have ae:=cO ad;have af:=cO M;clear ad M;go_enter func9,ntmps9;go_upto_region 1 with fail;refine dx λw3 J=>?_;have K:Hid (zB w w3):=J▸((cN w.heap.size w).alloc (cE _) _).alloc dC _;have O:Hid (w3.heap[w.heap.size+1]?=some (.cells #[zI 0,zN,zN,zI 0,zI 0] 31 (0,0))):=by rw[J,show w.heap.size+1=(w.alloc (.cells #[.slice ak nk ck,.slice ap np cp] 36)).heap.size from(dk _ _).symm];exact dJ _ _
 have P3:Hid (Lc (λ_=>False) w3 w.heap.size #[.slice ak nk ck,.slice ap np cp] 36):=by rw[J];exact(Lc.new w (S:=λ_=>False) (λ_ h=>h.elim) _ _).alloc _
 clear J;have RT:Hid (∀X,X.heap[w.heap.size+1]?=some (.cells #[zI 0,zN,zN,zI 0,zI 0] 31 (0,0))->zB w X->(L&&ok)=false->zB w (X.setRow (w.heap.size+1) #[zI 1,zN,zN,zI 0,zI 0])/\∃v,Ending.returned (.agg #[zI 1,zN,zN,zI 0,zI 0])=.returned v/\UU w.heap.size (X.setRow (w.heap.size+1) #[zI 1,zN,zN,zI 0,zI 0]) v o):=λX _ D h=>⟨uI D (uO _) _,_,rfl,by rw[ae h];exact⟨_,_,[],λ_=>False,rfl,⟨fD _ _ _ _,λk e=>(by cases e),λi hi=>absurd hi (dT _),λi j u u' b _ h=>(by cases h)⟩,.inl ⟨rfl,rfl⟩,λu hu=>(by cases hu)⟩⟩
 have p0:=P3.cell (j:=0) rfl;have p1:=P3.cell (j:=1) rfl;obtain _|_:=ok
 .go_wp2_with(first
   |(go_at_call 27;refine cA (CR _ K) ?_;rintro e w4 ⟨rfl,rfl⟩)
   |(refine oA rfl 31 _ _ rfl _ _ rfl rfl 31 _ O gA rfl OJ ?_))
  exact eS (kl Du _ _ _ 31 _ _ _ rfl (zM _ _ _ _ _ _ O) uN rfl gA) rfl (RT _ O K dC)
 obtain _|_:=L
 .go_wp2_with(first
   |(go_at_call 27;refine cA (CR _ K) ?_;rintro e w4 ⟨rfl,rfl⟩)
   |(go_at_call 28;refine cA (CK _ K) ?_;rintro e w5 ⟨rfl,b5⟩;have B5:=cO (iy K b5);have F:=cO ((b5.block _ (gC O)).trans O);clear b5)
   |(refine oA rfl 31 _ _ rfl _ _ rfl rfl 31 _ F gA rfl OJ ?_))
  exact eS (kl Du _ _ _ 31 _ _ _ rfl (zM _ _ _ _ _ _ F) uN rfl gA) rfl (RT _ F B5 dC)
 obtain⟨Hs,m,rfl,hm,E,h5,eo⟩:=af rfl rfl;have NE:Hid (∀X,zB w X->zC 29 #[.agg #[.slice ak nk ck,.slice ap np cp],.slice ai ni ci] X λe w6=>∃g,e=.returned (zP g)/\Lr p Hs X g m o m w6):=λX D=>(NM Hs E h5 X D).mono λe w6 ⟨G,R,H,M6,e6⟩=>by
  obtain⟨g,cg,h9,_⟩:=M6.im.mP;have e9:ptr (hd R (9,0,0))=zP g:=by rw[h9];rfl
  exact⟨g,by rw[e6,e9],_,G,R,H,M6,e9,ym E h5,yo E ins,dM _,rfl,eo⟩
 have LC:=cO (λX (D:zB w X) g N wr (j:Lr p Hs X g m o N wr)=>Lr.cases (w:=w) E (TB X D) (PW X D) hm D.size j);clear af ae RT E h5 eo NM TB PW;go_upto_region 4 with(first
   |(go_at_call 27;refine cA (CR _ K) ?_;rintro e w4 ⟨rfl,rfl⟩)
   |(go_at_call 28;refine cA (CK _ K) ?_;rintro e w5 ⟨rfl,b5⟩;have B5:=cO (iy K b5);have F:=cO ((b5.block _ (gC O)).trans O);have P5:=cO (P3.kept (Kp.cY b5));have p0:=P5.cell (j:=0) rfl;have p1:=P5.cell (j:=1) rfl;clear b5)
   |(go_at_call 29;refine cA (NE _ B5) ?_;rintro e w6 ⟨g,rfl,j6⟩;have J6:=cO j6;clear j6))
 have LX:=cO (LC _ B5 g);clear LC p0 p1 P5 CR CK NE K O P3;go_loopg[] m (λN wr=>Hid (Lr p Hs w5 g m o N wr))
 case atStart=>exact J6
 case round=>
  obtain⟨ov,st,ag,ah,aj,aq,al,en,sp⟩:=LX _ _ hrel;have FI:=cO al;have EN:=cO en;have SP:=cO sp;clear al en sp hrel J6;obtain _|_:=ov;by_cases an:st=m
  .subst an;have E1:=cO (EN rfl rfl);clear EN SP FI;go_upto_region 9 with(go_at_call 30;refine cA E1 ?_;rintro e w9 ⟨⟨x,rfl⟩,f9⟩;have I:=cO f9;clear f9)
   obtain⟨pa,pn,pc,ea,ab,ec,q0,q1,q2,q3,q4,gb,OX⟩:=I.2;have L9:=cO ((I.1.block _ (gC F)).trans F);have O9:=cO (OX (w9.setRow (w.heap.size+1) #[zI o.dw,.slice pa pn pc,.slice ea ab ec,zI (o.dz:Int),zI (o.iq:Int)]) λk hk=>Tf _ _ _ _ (by have:=gC F;omega));have B9:=cO (B5.trans (I.1.mono B5.size));clear OX I gb ag ah aj;go_wp2_with(refine oA rfl 31 _ _ rfl _ _ rfl rfl 31 _ L9 gA rfl OJ ?_)
   exact eS (kl Du _ _ _ 31 _ _ _ rfl (zM _ _ _ _ _ _ L9) uN rfl gA) rfl ⟨uI B9 (uO _) _,_,rfl,O9⟩
  .have ne:¬(st:Int)=(m:Int):=cM;obtain⟨N,rfl,s1⟩:=SP rfl cM;have S1:=cO s1;clear s1 EN SP FI;go_wp2_with(go_at_call 31;refine cA S1 ?_;rintro e w9 ⟨⟨x,rfl⟩,f9⟩;have J9:=cO f9;clear f9)
   go_roundg N
   case measure=>omega
   case rel=>exact J9
  .have I:=cO (FI rfl);clear EN SP FI;go_upto_region 9 with fail;refine dx λw9 am=>?_;rw[<-am]at I;clear am;obtain⟨pa,pn,pc,ea,ab,ec,q0,q1,q2,q3,q4,gb,OX⟩:=I.2;have L9:=cO ((I.1.block _ (gC F)).trans F);have O9:=cO (OX (w9.setRow (w.heap.size+1) #[zI o.dw,.slice pa pn pc,.slice ea ab ec,zI (o.dz:Int),zI (o.iq:Int)]) λk hk=>Tf _ _ _ _ (by have:=gC F;omega));have B9:=cO (B5.trans (I.1.mono B5.size));clear OX I gb ag ah aj;go_wp2_with(refine oA rfl 31 _ _ rfl _ _ rfl rfl 31 _ L9 gA rfl OJ ?_)
   exact eS (kl Du _ _ _ 31 _ _ _ rfl (zM _ _ _ _ _ _ L9) uN rfl gA) rfl ⟨uI B9 (uO _) _,_,rfl,O9⟩
end
section
variable{ins:List (List Int)}
def Ob(W:St):Prop:=(∀x∈W.dn,x.length<=100000)/\W.lu.length<=5000
theorem MF(h:Ob W)(k:Int)(args:List Vl)(cW:Int):Ob (plain W k args cW).1:=by
 have g:∀{U:St}{l:List Vl}{q:Int},Ob U->Ob (gv U l q):=λh=>by unfold Ob;rw [(mr _ _ _).2,pC];exact h
 unfold plain
 dsimp only
 split
 .split
  .exact h
  .rename_i E
   refine g (U:={W with size:=_,dn:=_}) ⟨λx D=>?_,h.2⟩
   rcases gI.1 D with q|q
   .exact h.1 x q
   .rw [iJ.1 q];omega
 .split
  .split
   .exact g h
   .exact g (U:={W with ins:=_}) h
  .repeat' split
   all_goals first|exact h|exact g h|exact g (U:={W with cS:=_}) h|exact g (U:=(W.dW _ _).fy 0) h
def xT:∀(g:Nat)(W:St)(f:Vl)(args:List Vl)(cW:Int),Ob W->Ob (call p g W f args cW).1
 |0,_,_,_,_,h=>h
 |g+1,W,f,args,cW,h=>by
  unfold call;repeat' split
  .exact xT g _ _ _ _ h
  .dsimp only;split
   .split
    .split
     .exact xT g _ _ _ _ h
     .show Ob (gv _ _ _);unfold Ob;rw[(mr _ _ _).2,pC];exact h
    .show Ob (gv _ _ _);unfold Ob;rw[(mr _ _ _).2,pC];exact h
   .exact h
  .exact MF h _ _ _
  .exact h
  .exact h
def AG{v:Vl}(D:(jY v).length<=5000):∀(n:Nat)(W:St),Ob W->Ob (rn.je v n W)
 |0,W,h=>by
  unfold rn.je;split
  .exact⟨h.1,D⟩
  .unfold Ob;rw[(mr _ _ _).2,pC];exact h
 |n+1,W,h=>by
  unfold rn.je;split
  .unfold Ob;rw[(mr _ _ _).2,pC];exact h
  .exact AG D n _ h
def Qc(h:Ob W):Ob (pj p W).1:=by
 unfold pj;dsimp only;split
 .exact xT _ _ _ _ _ h
 .split
  .exact xT _ _ _ _ _ h
  .split
   .show Ob (gv _ _ _);unfold Ob;rw[(mr _ _ _).2,pC];exact h
   .unfold Ob;rw[(rJ p _ _ _).1.2.1,(rJ p _ _ _).1.2.2];exact h
def OW(E:mz p Hs)(D:zJ p Hs W)(F:W.oz=false)(h:Ob W):Ob (rn.gY p W):=by
 obtain e|⟨I,J,K⟩:=D
 .rw[F]at e;cases e
 have x:=tF E I J K;have y:=Qc (p:=p) h;unfold rn.gY;generalize pj p W=r at x y;obtain⟨V,_|v⟩:=r
 .exact y
 .obtain⟨L,_⟩:=x.2 v rfl;exact AG (mM L) _ _ y
def Mr(E:mz p Hs):∀(n:Nat)(W:St),zJ p Hs W->Bd W->W.dz+n<=100000->Ob W->Ob (run p n W)/\(run p n W).dn.length<=100000
 |0,W,_,b,I,h=>by
  unfold run;have:=b.dn;split
  .exact⟨h,cM⟩
  .exact⟨h,by show W.dn.length<=_;omega⟩
 |n+1,W,F,b,I,h=>by
  unfold run;have:=b.dn;by_cases D:W.oz=true
  .rw[cR D];exact⟨h,cM⟩
  .rw[cK D];have D:W.oz=false:=by simpa using D
   have J:=uh E F D;exact Mr E n _ (Ca E F D) (Cb E F D b) cM (OW E F D h)
def Pq(D:∀i,i<p.dv.length->-9223372036854775808<=(p.dv.getD i mU).n/\(p.dv.getD i mU).n<=9223372036854775807)(F:Qx p ins n o):o.dn.length<=100000/\(∀x∈o.dn,x.length<=100000)/\o.lu.length<=5000:=by
 obtain⟨I,J,rfl⟩|⟨_,rfl⟩:=F
 .obtain⟨Hs,E⟩:=mz.of I D;have q:(0<=n/\n<=100000/\ins.length<=1000/\∀x∈ins,x.length<=5000):=by simpa[jU]using J
  have r:=Mr E n.toNat _ (ym E q.2.2.2) (yo E ins) (by show 0+n.toNat<=_;omega) ⟨λx h=>(by cases h),dM _⟩;exact⟨r.2,r.1.1,r.1.2⟩
 .exact⟨dM _,λx h=>(by cases h),dM _⟩
end
section
variable{l:List UInt8}
def oQ(l:List UInt8):(qP l).length=l.length:=dY _
def Ql(l:List UInt8):OA (qP l):=λi=>by
 unfold qP;rw[cB,ed];cases l[i]? with
 |none=>simp
 |some c=>have:=c.toNat_lt;simp;omega
def sJ{zs:List Int}(h:OA zs):qP (gj zs)=zs:=by unfold qP gj;rw[xl];refine Jp dC λi E D=>?_;have:=h i;rw[cB,cG D]at this;simp only[qQ]at this;simp only[vZ,Function.comp];rw[UInt8.toNat_ofNat'];omega
def Bo.rd(h:Bo cJ S w u l):∃F cap,u=.slice F l.length cap/\l.length<=cap/\cap<=9223372036854775807/\Rd w F (qP l):=by
 obtain⟨rfl,rfl⟩|⟨g,cap,E,I,J,h2,h3,K,h5,L,M,h8,O⟩:=h
 .exact⟨none,0,rfl,cE _,cM,λi D=>absurd D (dT _)⟩
 .refine⟨_,cap,J,L,by unfold maxLen at M;omega,λi D=>⟨g,0,rfl,?_⟩⟩;rw[oQ]at D;rw[dU,cell_of_row _ _ i E 5 I K,<-nZ,<-jA D,O];unfold jh;rw[ed,cB,cG (by rw[oQ];exact D)];rfl
def Bo.rdv(h:Bo cJ S w u l):AB w u (qP l):=by obtain⟨D,cap,e,E,F,r⟩:=h.rd;exact⟨D,cap,by rw[oQ];exact e,by rw[oQ];omega,r,Ql l⟩
def Bo.move(h:Bo cJ S w u l)(F:∀b,u.ownBlock=some b->w1.heap[b]?=w.heap[b]?):Bo cJ S w1 u l:=
 h.imp id λ⟨g,cap,D,I,E,J,K,L,M⟩=>⟨g,cap,D,I,E,J,K,(F g (by rw[E];rfl)).trans L,M⟩
def Lj(k:Int)(n:Nat):List UInt8:=gj (qH k n)
def KM(k:Int)(n:Nat):OA (qH k n):=by
 intro i;by_cases h:i<n
 .rw[rN _ _ _ h];omega
 .rw[cB,dO (by rw[ke];omega)];simp
def xG(k:Int)(n:Nat):qP (Lj k n)=qH k n:=sJ (KM k n)
def ve(k:Int)(n:Nat):(Lj k n).length=n:=by rw[<-oQ,xG,ke]
def yP{j:Nat}{cs:Array Value}{ty:TypeId}{D:Nat×Nat}(h:w.heap[g]?=some (.cells cs ty D)):(w.setCell ⟨g,j,none⟩ u).heap[g]?=some (.cells (cs.setIfInBounds j u) ty D):=by rw[setCell_eq_setRow w g j cs ty D u h];exact zM w g cs _ ty _ h
def QU{k0:Int}(h0:0<=k0)(h1:k0<=4611686018427387904)(hl:l.length<=1048576)(h:Bo cJ S w u l):
  Calls Tryz.prog 37 #[u,.int .i64 k0] w λe w'=>e=.returned (.int .i64 (k0+(l.length:Int)))/\Bo cJ S w' u (Lj k0 l.length)/\w.grownBy w' u.ownBlock:=by
 obtain⟨rfl,rfl⟩|⟨g,cap,E,K,rfl,h2,h3,h4,M,h6,h7,h8,h9⟩:=h
 .go_enter Ld,FZ;go_wp2;refine tL 1 ?_;rw[pN];go_wp2;go_ret;exact⟨dC,.inl ⟨rfl,rfl⟩,jE _ _⟩
 .obtain⟨n,hn⟩:=eX l.length;rw[<-hn]at hl h6|-;have HF:Hid (∀(X:World)(c:Array Value),X.heap[g]?=some (.cells c 5 K)->∀j,j<n->X.frozen? (zA g j)=false):=λX c e j D=>by
   simp only[World.frozen?,e];obtain rfl|rfl:=M<;>simp<;>omega
  have I:=cO (And.intro M (And.intro h6 (And.intro h7 (And.intro h2 h3))));have J0:Hid (w.heap[g]?=some (.cells E 5 K)/\E.size=cap):=⟨h4,h8⟩
  clear h2 h3 h4 M h7 h8 h9 hn;go_enter Ld,FZ;go_wp2;go_loopw[1,5] (λq i wr=>∃k:Nat,k<=n/\i=zI k/\q=zI (k0+(k:Int))/\∃c:Array Value,Hid ((wr.heap[g]?=some (.cells c 5 K)/\c.size=cap)/\(∀j,j<k->c[j]?=some (.int .u8 ((k0+(j:Int)) % 256)))/\w.grownBy wr (some g))) (λ_ i _=>n-(intOf i).toNat)
  case atStart=>exact⟨0,dM _,rfl,l9,E,J0,λj D=>absurd D cM,jE _ _⟩
  case round=>
   obtain⟨k,hk,rfl,rfl,c,J⟩:=hrel;by_cases O:k<n
   .have aa:(k:Int)<(n:Int):=cM;have F:k<c.size:=by rw[J.1.2];omega
    have z0:wr.cell? (zA g k)=some c[k]:=by rw[cell_of_row _ _ k c 5 K J.1.1];exact QA F
    have z1:=HF wr c J.1.1 k O;generalize c[k]=ck at z0;have HC:=cO F;clear F J0;go_wp2;go_roundw
    case rel=>
     refine⟨k+1,cM,l9,l9,c.setIfInBounds k (.int .u8 ((k0+(k:Int)) % 256)),⟨⟨yP J.1.1,by rw[Array.size_setIfInBounds];exact J.out.1.2⟩,λj D=>?_,?_⟩⟩
     .by_cases e:j=k
      .subst e;rw[zv HC]
      .rw[Ik (λq=>e q.symm)];exact J.2.1 j cM
     .refine⟨J.2.2.os,J.2.2.tape,J.2.2.output,by simp[World.setCell];exact J.2.2.size,λb hb L=>?_⟩;rw[cZ _ (zA g k) _ b (λe=>L (by rw[e]))];exact J.2.2.block b hb L
    case measure=>simp[intOf];omega
   .obtain rfl:k=n:=cM;go_wp2;go_ret;refine⟨rfl,.inr ⟨g,cap,c,K,by rw[ve],I.2.2.2.1,I.2.2.2.2,J.1.1,I.1,by rw[ve];exact I.out.2.1,I.2.2.1,J.1.2,?_⟩,J.2.2⟩;rw[ve,xG];refine wG (by rw[dX,mI,J.1.2,ke];have:=I.2.1;omega) λj D=>?_;rw[ke]at D;rw[rN _ _ _ D,jA D,nZ];exact J.2.1 j D
def QV{ao:Option Addr}{cap n:Nat}{k0:Int}(L:0<=k0)(M:k0<=4611686018427387904)(O:n<=140737488355328)(F:Rd w ao (qH k0 n)):
  Calls Tryz.prog 39 #[.slice ao n cap,.int .i64 k0] w λe I=>e=.returned (.int .i64 (k0+(n:Int)))/\I=w:=by
 go_enter func39,ntmps39;go_wp2;go_loop[1,5] (λq i=>∃(k:Nat),k<=n/\i=zI k/\q=zI (k0+(k:Int))) (λ_ i=>n-(intOf i).toNat)
 case atStart=>exact⟨0,dM _,rfl,l9⟩
 case round=>
  obtain⟨k,hk,rfl,rfl⟩:=hrel;by_cases D:k<n
  .obtain⟨b,off,rfl,J,h⟩:=F.at (by rw[ke];omega);have K:=h k (by rw[ke];omega);rw[rN _ _ _ D]at K;clear h F;go_wp2;go_round
   case rel=>exact⟨k+1,cM,l9,l9⟩
   case measure=>simp[intOf];omega
  .have E:k=n:=cM;subst E;go_wp2;go_ret;exact⟨rfl,rfl⟩
end
def Fz(w:World)(v:Value)(l:List (List Int)):Prop:=∃h cap,v=.slice h l.length cap/\l.length<=9223372036854775807/\∀i,i<l.length->∃b off u,h=some ⟨b,off,none⟩/\w.cell? ⟨b,off+i,none⟩=some u/\AB w u (l.getD i [])
def Fz.below(h:Fz w v zs)(D:Below w.heap.size w w1):Fz w1 v zs:=by obtain⟨E,cap,e,F,I⟩:=h;exact⟨E,cap,e,F,λi J=>let ⟨b,off,u,e,c,r⟩:=I i J;⟨b,off,u,e,di c D,r.below D⟩⟩
def nh(l:List (List Int)):Nat:=l.length+fN List.length l l.length
def BZ{left:Int}(M:Fz w v zs)(h0:0<=left)(h1:left<=16777216):
  Calls Tryz.prog 5 #[v,.int .i64 left] w λe w'=>e=.returned (.int .i64 (sK left (nh zs)))/\w'=w:=by
 obtain⟨ao,cap,rfl,hm,M⟩:=M;obtain⟨n,E⟩:=eX zs.length;have O:=cO E;have HR:=cO M;rw[<-E]at hm|-;clear E M;by_cases ae:(n:Int)<=left
 .go_enter func5,ntmps5;go_wp2;go_loop[1,5] (λq i=>∃(k:Nat)(r:Int),k<=n/\i=zI k/\q=zI r/\0<=r/\r<=16777216/\Hid (r=left-(n:Int)-(fN List.length zs k:Int))) (λ_ i=>n-(intOf i).toNat)
  case atStart=>exact⟨0,left-(n:Int),dM _,rfl,rfl,cM,cM,by show _=_;simp[fN]⟩
  case round=>
   obtain⟨k,r,hk,rfl,rfl,aa,ab,HS⟩:=hrel;by_cases ac:k<n
   .have F:k<zs.length:=by rw[<-O];exact ac
    obtain⟨b,off,u,rfl,hc,a',c',rfl,h,_,_⟩:=HR.out k F;have I:=cO (kF (f:=List.length) ([]:List Int) F);have ad:=cO (oW (f:=List.length) ([]:List Int) zs (zs.length-(k+1)) (k+1) cM);obtain⟨m,K⟩:∃m,m=(zs.getD k []).length:=⟨_,rfl⟩
    rw[<-K]at hc h I;have C:=wO a' m c' r w aa ab h;clear K F;by_cases D:(m:Int)<=r
    .rw[mB D]at C;go_wp2_with(go_at_call 19;refine C.mono ?_;rintro e w' ⟨rfl,J⟩;replace J:=J.symm;subst J)
     go_round
     case rel=>exact⟨k+1,r-(m:Int),cM,l9,rfl,cM,cM,by show _=_;have:=HS.out;have:=I.out;omega⟩
     case measure=>simp[intOf];omega
    .rw[kK D]at C;have L:Hid (sK left (nh zs)=-1):=kK (by unfold nh;have:=HS.out;have:=I.out;have:=ad.out;have:=O.out;omega);go_wp2_with(go_at_call 19;refine C.mono ?_;rintro e w' ⟨rfl,J⟩;replace J:=J.symm;subst J)
     go_ret;exact⟨si (by rw[L]),rfl⟩
   .obtain rfl:k=n:=cM;have L:Hid (sK left (nh zs)=r):=by
     show _=_;have e3:nh zs=k+fN List.length zs k:=by unfold nh;rw[<-O]
     have:=HS.out;rw[e3,mB cM];omega
    go_wp2;go_ret;exact⟨si (by rw[L]),rfl⟩
 .have L:Hid (sK left (nh zs)=-1):=kK (by unfold nh;have:=O.out;omega);go_enter func5,ntmps5;go_wp2;go_ret;exact⟨si (by rw[L]),rfl⟩
def Pi.ins(h:Pi cJ S w v hs l):nP w v (l.map qP):=by
 have D:(l.map qP).length=l.length:=dY _;obtain⟨e,I⟩|⟨g,cap,J,e,_,_,K,L,_⟩:=h.own.2
 .exact⟨none,0,D▸I▸e,by rw[D];omega,cM,λi E=>by rw[D]at E;omega⟩
 .refine⟨_,cap,D▸e,D▸K,by unfold maxLen at L;omega,λi E=>?_⟩;rw[D]at E;obtain⟨u,M,b⟩:=h.eA i E;have F:=h.own;rw[e]at F;refine⟨g,0,u,rfl,by rw[dU,F.cellAt i cM];exact M,?_⟩;have O:(l.map qP).getD i []=qP (l.getD i []):=by rw[cB,ed,cB,cG E];rfl
  rw[O];exact b.rdv
def vQ{v':Value}(hr:nP w v zs)(I:nP w v' zs)(hs:∀x∈zs,x.length<=140737488355328):
  Calls Tryz.prog 12 #[v,v'] w λe M=>e=.returned (.bool true)/\Below w.heap.size w M:=by
 have HR:=cO hr;have aa:=cO I;obtain⟨ao,cap,rfl,h1,h2,_⟩:=hr;obtain⟨ag,ad,rfl,ab,ah,_⟩:=I;obtain⟨n,F⟩:=eX zs.length;have HL:=cO F;have HS:=cO hs;rw[<-F]at h1 ab|-;clear F hs;go_enter func12,ntmps12;go_wp2;go_loopw[5] (λi wr=>∃(k:Nat),k<=n/\i=zI k/\Hid (Below w.heap.size w wr)) (λi _=>n-(intOf i).toNat)
 case atStart=>exact⟨0,dM _,rfl,cN _ _⟩
 case round=>
  obtain⟨k,hk,rfl,O⟩:=hrel;by_cases ac:k<n
  .have h:k<zs.length:=by rw[<-HL];exact ac
   obtain⟨_,_,e1,_,_,q1⟩:=HR.below O;obtain⟨_,_,e2,_,_,q2⟩:=aa.below O;simp only[de]at e1 e2;obtain⟨rfl,_,rfl⟩:=e1;obtain⟨rfl,_,rfl⟩:=e2;obtain⟨b,off,u,rfl,hc,a1,c1,rfl,_,J,_⟩:=q1 k h;obtain⟨b',ae,u',rfl,K,a2,c2,rfl,_,E,_⟩:=q2 k h;obtain⟨m,D⟩:=eX ((zs.getD k []).length);have L:m<=140737488355328:=by rw[D,cB,cG h];exact HS _ (fA _)
   have C:Hid (∀W,Below wr.heap.size wr W->Calls Tryz.prog 32 #[.slice a1 m c1,.slice a2 m c2] W λe M=>e=.returned (.bool true)/\Below wr.heap.size wr M):=λW hW=>
    (za a1 a2 m c1 c2 (zs.getD k []) W D.symm (J.below hW) (E.below hW) L).mono λe M ⟨e1,s⟩=>⟨e1,hW.trans (s.2 _)⟩
   rw[<-D]at hc K;have af:(k:Int)<(n:Int):=cM;clear q1 q2 D L J E h;go_upto_region 6 with fail;refine uZ 8 ?_;simp only[List.take,List.drop];repeat(go_big_quiet_step(fail))
   refine wpQuiet_nil ?_;clear hc K;go_wp2_with(go_at_call 32;refine cA (C _ (cN _ _).drew) ?_;rintro e w4 ⟨rfl,b4⟩;have B4:=cO (iy O b4);clear b4)
   go_roundw
   case rel=>exact⟨k+1,cM,l9,B4⟩
   case measure=>simp[intOf];omega
  .obtain rfl:k=n:=cM;go_wp2;go_ret;exact⟨rfl,O⟩
def Sx{x:List Int}{n:Nat}(F:w.ownsRow cJ 5 1 (.slice (some ⟨g,0,none⟩) n n) n (jh x))(I:x.length=n)(J:OA x)(K:¬S g):Bo cJ S w (.slice (some ⟨g,0,none⟩) n n) (gj x):=by
 have h:(gj x).length=n:=by unfold gj;rw[dY,I]
 obtain⟨e,_⟩|⟨g',cap,D,e,L,M,O,h4,h5,E⟩:=F.2
 .simp at e
 .simp only[de,dB,fC,and_true]at e;obtain⟨rfl,_,rfl⟩:=e;exact .inr ⟨g,n,D,(0,0),by rw[h],L,K,M,.inl rfl,h▸O,h4,by rw[h5,jV],by rw[h,sJ J];rw[jV]at E;exact E⟩
def PG:(Tryz.prog.info? 29).map (λi=>(i.zero,i.size,i.bytes))=some (some (.slice none 0 0),1,24):=gA
structure Tz(w:World)(n:Nat)(zs:List (List Int))(k:Nat)(us:List Value)(wr:World):Prop where
 own:wr.ownsRow w.heap.size 29 1 (.slice (some ⟨w.heap.size,0,none⟩) n n) n us
 eA:∀j,j<k→∃u,us[j]?=some u∧Bo w.heap.size (fun b=>some w.heap.size=some b) wr u (gj (zs.getD j []))
 apart:∀(i j:Nat)(u u':Value)(b:Nat),i<j→j<k→us[i]?=some u→us[j]?=some u'→u.ownBlock=some b→u'.ownBlock≠some b
 mV:Below w.heap.size w wr
def BJ(hr:Fz w v zs)(hs:nh zs<=1048576):
  Calls Tryz.prog 8 #[v] w λe w'=>∃F,e=.returned (.slice (some ⟨w.heap.size,0,none⟩) zs.length zs.length)/\Pi w.heap.size (λ_=>False) w' (.slice (some ⟨w.heap.size,0,none⟩) zs.length zs.length) F (zs.map gj)/\Below w.heap.size w w':=by
 obtain⟨i0,M,ag,ah,ai⟩:=fQ PG;obtain⟨ao,cap,rfl,_,hr⟩:=hr;have HS:Hid (∀i,i<zs.length->(zs.getD i []).length<=1048576):=λi M=>by have:=pV (f:=List.length) ([]:List Int) M;unfold nh at hs;omega
 obtain⟨n,O⟩:=eX zs.length;have am:n<=1048576:=by unfold nh at hs;omega
 have HL:=cO O;have HR:=cO hr;rw[<-O];clear O hr hs;have aj:n<=maxLen:=by unfold maxLen;omega
 go_enter func8,ntmps8;go_wp2_with(at_make;refine lH _ rfl _ _ 26 rfl w.heap.size 29 i0 (zN) 1 qu M ag ah .i64 .i64 _ _ n rfl rfl rfl rfl (by rw[ai];omega) aj (cE _) ?_;intro w1 L E)
 have J0:Hid (Tz w n zs 0 _ w1):=⟨L,λj hj=>absurd hj (dT _),λi j _ _ _ _ h=>absurd h (dT _),(cN _ _).grown E (cE _) (by intro k hk;cases hk)⟩
 clear L E;go_loopw[4] (λi wr=>∃(k:Nat)(F:List Value),k<=n/\i=zI k/\Hid (Tz w n zs k F wr)) (λi _=>n-(intOf i).toNat)
 case atStart=>exact⟨0,_,dM _,rfl,J0⟩
 case round=>
  clear J0;obtain⟨k,F,hk,rfl,J⟩:=hrel;have ak:=(J.own.lt w.heap.size rfl).2;by_cases al:k<n
  .have aa:k<zs.length:=by rw[<-HL];exact al
   obtain⟨b,off,u,rfl,ac,a',c',rfl,_,ad,ae⟩:=HR k aa;have hc:=di ac J.mV;have C:=wM a' c' (zs.getD k []) wr (ad.below J.mV) (HS k aa);obtain⟨m,ab⟩:=eX ((zs.getD k []).length);have HM:=cO ab;have HT:=cO ae;rw[<-ab]at C hc;have af:F.length=n:=by have:=J.own.1;omega
   have NX:Hid (∀w1,w1.ownsRow wr.heap.size 5 1 (zS wr.heap.size m m) m (jh (zs.getD k []))->Below wr.heap.size wr w1->(∃u0,w1.cell? (zA w.heap.size k)=some u0)/\w1.frozen? (zA w.heap.size k)=false/\Tz w n zs (k+1) (F.set k (zS wr.heap.size m m)) (w1.setCell (zA w.heap.size k) (zS wr.heap.size m m))):=λw1 ho hb=>by
    have o2:=km J.own hb ak;refine⟨⟨F[k]'(by omega),by rw[o2.cellAt k cM];exact cG _⟩,o2.frozenAt k,⟨(o2.stored k _).1,λj hj=>?_,λi j u u' b I hj K D e1 e2=>?_,(J.mV.trans (hb.mono J.mV.size)).setCell (cE _) _⟩⟩
    .by_cases e:j=k
     .subst e;refine⟨_,dP cM,?_⟩;refine(Bo.to (cJ:=wr.heap.size) (Sx ho HM.symm HT iY) J.mV.size λq hq=>?_);exact cZ _ (zA w.heap.size j) _ q (by show q≠w.heap.size;omega)
     .obtain⟨u,K,D⟩:=J.eA j cM;refine⟨u,by rw[dm cM];exact K,D.move λq hq=>?_⟩;have z:=D.lt hq;rw[cZ _ (zA w.heap.size k) _ q (λe=>z.2.2 (by rw[e]))];exact hb.block q z.2.1
    .rw[dm cM]at K;by_cases e:j=k
     .subst e;rw[dP cM]at D;cases D;obtain⟨u2,g1,g2⟩:=J.eA i I;rw[K]at g1;cases g1;have z:=(g2.lt e1).2.1;have e2:wr.heap.size=b:=by simpa[Value.ownBlock]using e2
      omega
     .rw[dm cM]at D;exact J.apart i j u u' b I cM K D e1 e2
   clear ab ad ae ac aa af;go_wp2_with(go_at_call 26;refine cA C ?_;rintro e w1 ⟨rfl,ho,hb⟩;obtain⟨⟨u0,z0⟩,z1,z2⟩:=NX _ ho hb;have Z2:=cO z2;clear ho hb z2)
   go_roundw
   case rel=>exact⟨k+1,_,cM,l9,Z2⟩
   case measure=>simp[intOf];omega
  .obtain rfl:k=n:=cM;go_wp2;go_ret;have hl:(zs.map gj).length=k:=by rw[dY,HL]
   have af:F.length=k:=by have:=J.own.1;omega
   refine⟨F,rfl,⟨hl▸J.own,λ_ _ h=>h,λi M=>?_,λi j u u' b I K D=>J.apart i j u u' b I (by have:=(fG.1 D).1;omega) K D⟩,J.mV⟩;rw[hl]at M;obtain⟨u,K,D⟩:=J.eA i M;refine⟨u,K,?_⟩;rw[show(zs.map gj).getD i []=gj (zs.getD i []) by rw[cB,ed,cB,cG (by rw[<-HL];exact M)];rfl];exact D.sub λb h=>h.resolve_left id
section
variable{k0:Int}
structure Hg(hs:List Value)(w w':World):Prop where
 os:w'.os=w.os
 tape:w'.tape=w.tape
 output:w'.output=w.output
 size:w.heap.size≤w'.heap.size
 block:∀k,k<w.heap.size→(∀u∈hs,u.ownBlock≠some k)→w'.heap[k]?=w.heap[k]?
def Hg.refl(hs:List Value)(w:World):Hg hs w w:=⟨rfl,rfl,rfl,cE _,λ_ _ _=>rfl⟩
def Li(k0:Int)(l:List (List UInt8)):List (List UInt8):=(List.range l.length).map λi=>Lj (k0+(fN List.length l i:Int)) (l.getD i []).length
def tz(k0:Int)(l:List (List UInt8)):(Li k0 l).length=l.length:=by simp[Li]
def G9{i:Nat}(h:i<l.length):(Li k0 l).getD i []=Lj (k0+(fN List.length l i:Int)) (l.getD i []).length:=by simp[Li,cB,h]
def xF(D:∀x∈l,x.length<=1048576):∀i,i<=l.length->fN List.length l i<=i*1048576
 |0,_=>by simp[fN]
 |i+1,h=>by
  have:=xF D i cM;rw[kF ([]:List UInt8) cM];have:(l.getD i []).length<=1048576:=by rw[cB,cG cM];exact D _ (fA _)
  omega
structure Mz(cJ:Nat)(S:Nat→Prop)(v:Value)(l:List (List UInt8))(hs:List Value)(k0:Int)(w:World)(k:Nat)(wr:World):Prop where
 own:wr.ownsRow cJ 29 1 v l.length hs
 eA:∀i,i<l.length→∃u,hs[i]?=some u∧Bo cJ (fun b=>S b∨v.ownBlock=some b) wr u (if i<k then Lj (k0+(fN List.length l i:Int)) (l.getD i []).length else l.getD i [])
 fr:Hg hs w wr
def Mz.next{k:Nat}{wr:World}(P:Pi cJ S w v hs l)(h:Mz cJ S v l hs k0 w k wr)(M:k<l.length)(E:hs[k]?=some u)(F:Bo cJ (λb=>S b\/v.ownBlock=some b) w1 u (Lj (k0+(fN List.length l k:Int)) (l.getD k []).length))(D:wr.grownBy w1 u.ownBlock):Mz cJ S v l hs k0 w (k+1) w1:=by
 obtain⟨u',K,O⟩:=h.eA k M;rw[E]at K;cases K;refine⟨jm h.own λb e=>D.block b (h.own.lt b e).2 λq=>(O.lt q.symm).2.2 (.inr e),λi hi=>?_,⟨D.os.trans h.fr.os,D.tape.trans h.fr.tape,D.output.trans h.fr.output,cV h.fr.size D.size,λb F q=>(D.block b (dj F h.fr.size) λe=>q u (z8 E) e.symm).trans (h.fr.block b F q)⟩⟩;by_cases e:i=k
 .subst e;exact⟨u,E,by rw[cR cM];exact F⟩
 .obtain⟨x,I,L⟩:=h.eA i hi;refine⟨x,I,?_⟩;rw[show(if i<k+1 then Lj (k0+(fN List.length l i:Int)) (l.getD i []).length else l.getD i [])=if i<k then Lj (k0+(fN List.length l i:Int)) (l.getD i []).length else l.getD i [] by
   by_cases z:i<k
   .rw[cR z,cR cM]
   .rw[cK z,cK cM]]
  refine L.move λb J=>D.block b (L.lt J).2.1 λq=>?_;by_cases z:i<k
  .exact P.apart i k x u b z I E J q.symm
  .exact P.apart k i u x b cM E I q.symm J
def yD(P:Pi cJ S w v hs l)(h0:0<=k0)(h1:k0<=1000000000000)(hl:l.length<=1048576)(hx:∀x∈l,x.length<=1048576):
  Calls Tryz.prog 14 #[v,.int .i64 k0] w λe w'=>e=.returned (.int .i64 (k0+(fN List.length l l.length:Int)))/\Pi cJ S w' v hs (Li k0 l)/\Hg hs w w':=by
 have J0:Hid (Mz cJ S v l hs k0 w 0 w):=⟨P.own,λi D=>(P.eA i D).imp λu q=>⟨q.1,by rw[cK cM];exact q.2⟩,.refl _ _⟩
 have BD:=cO (xF hx);have HX:=cO hx;have I:=cO P;have FM:∃K cap,v=.slice K l.length cap/\l.length<=cap/\(0<l.length->∃g,K=some (zA g 0)):=by
  obtain⟨e,e0⟩|⟨g,cap,ac,e,_,_,q,_⟩:=P.own.2
  .exact⟨none,0,e0▸e,cM,λq=>cM⟩
  .exact⟨_,cap,e,q,λ_=>⟨g,rfl⟩⟩
 obtain⟨K,cap,rfl,hc,E⟩:=FM;obtain⟨n,hn⟩:=eX l.length;have L:=cO hn;have HA:=cO E;rw[<-hn]at hl hc|-;clear hn E P hx;rw[<-L]at J0 I HA;go_enter func14,ntmps14;go_wp2;go_loopw[1,5] (λq i wr=>∃(k:Nat),k<=n/\i=zI k/\(∃s:Nat,q=zI (k0+(s:Int))/\s<=k*1048576/\Hid (s=fN List.length l k))/\Hid (Mz cJ S (.slice K n cap) l hs k0 w k wr)) (λ_ i _=>n-(intOf i).toNat)
 case atStart=>exact⟨0,dM _,rfl,⟨0,l9,dM _,rfl⟩,J0⟩
 case round=>
  obtain⟨k,hk,rfl,⟨s,rfl,ad,M⟩,J⟩:=hrel;by_cases aa:k<n
  .have h:k<l.length:=by rw[<-L];exact aa
   have ab:(k:Int)<(n:Int):=cM;obtain⟨g,rfl⟩:=HA cM;obtain⟨u,hu,hb⟩:=J.eA k h;rw[cK (gE _)]at hb;have ow:=J.own;rw[<-L]at ow;have z0:wr.cell? (zA g k)=some u:=by rw[ow.cellAt k cM];exact hu
   have F:(l.getD k []).length<=1048576:=by rw[cB,cG h];exact HX _ (fA _)
   have M1:=cO (QU (k0:=k0+(s:Int)) cM cM F hb);have SS:=cO (kF (f:=List.length) ([]:List UInt8) h);have B1:=BD (k+1) h;obtain⟨m,hm⟩:=eX ((l.getD k []).length);have NX:=cO (λw1 (O:Bo cJ (λb=>S b\/(Value.slice (some (zA g 0)) n cap).ownBlock=some b) w1 u (Lj (k0+(s:Int)) (l.getD k []).length)) (g1:wr.grownBy w1 u.ownBlock)=>J.next I h hu (by rw[<-M];exact O) g1);rw[<-hm]at M1 SS NX F;rw[SS,<-M]at B1;clear hm hb ow hu h;go_wp2_with(go_at_call 37;refine cA M1 ?_;rintro e w1 ⟨rfl,O,g1⟩;have J1:=cO (NX _ O g1);clear O g1)
   go_roundw
   case rel=>exact⟨k+1,cM,l9,⟨s+m,l9,B1,by show _=_;rw[SS,M.out]⟩,J1⟩
   case measure=>simp[intOf];omega
  .obtain rfl:k=n:=cM;go_wp2;go_ret;refine⟨si (by rw[M.out]),⟨by rw[tz];exact J.out.own,I.out.out,λi D=>?_,I.apart⟩,J.fr⟩;rw[tz]at D;obtain⟨u,h1,h2⟩:=J.eA i D;rw[cR (L▸D)]at h2;exact⟨u,h1,by rw[G9 D];exact h2⟩
def Hp(F:nP w v zs)(O:∀i,i<zs.length->zs.getD i []=qH (k0+(fN List.length zs i:Int)) (zs.getD i []).length)(h0:0<=k0)(h1:k0<=1000000000000)(hs:∀i,i<=zs.length->fN List.length zs i<=i*1048576)(hl:zs.length<=1048576):
  Calls Tryz.prog 38 #[v,.int .i64 k0] w λe w'=>e=.returned (.int .i64 (k0+(fN List.length zs zs.length:Int)))/\w'=w:=by
 obtain⟨ao,cap,rfl,hc,hm,F⟩:=F;obtain⟨n,J⟩:=eX zs.length;have HN:=cO J;have HR:=cO F;have HZ:=cO O;have HS:=cO hs;rw[<-J]at hc hl|-;clear J F O hs;go_enter func38,ntmps38;go_wp2;go_loop[1,5] (λq i=>∃(k s:Nat),k<=n/\i=zI k/\q=zI (k0+(s:Int))/\s<=k*1048576/\Hid (s=fN List.length zs k)) (λ_ i=>n-(intOf i).toNat)
 case atStart=>exact⟨0,0,dM _,rfl,l9,dM _,rfl⟩
 case round=>
  obtain⟨k,s,hk,rfl,rfl,ab,I⟩:=hrel;by_cases K:k<n
  .have h:k<zs.length:=by rw[<-HN];exact K
   have aa:(k:Int)<(n:Int):=cM;obtain⟨b,off,u,rfl,z0,a',c',rfl,_,D,_⟩:=HR k h;have L:=cO (kF (f:=List.length) ([]:List Int) h);have B1:=HS (k+1) h;have e:=HZ k h;obtain⟨m,E⟩:=eX ((zs.getD k []).length);rw[<-E,<-I]at e;rw[e]at D;rw[<-E]at z0 L;rw[L,<-I]at B1;have C:=cO (QV (cap:=c') (k0:=k0+(s:Int)) cM cM cM D);clear E e D h;go_wp2_with(go_at_call 39;refine cA C ?_;rintro e w' ⟨rfl,M⟩;replace M:=M.symm;subst M)
   go_round
   case rel=>exact⟨k+1,s+m,cM,l9,l9,B1,by show _=_;rw[L,I]⟩
   case measure=>simp[intOf];omega
  .obtain rfl:k=n:=cM;go_wp2;go_ret;exact⟨si (by rw[I]),rfl⟩
end
def Oz(o:Oc):Prop:=o.dn.length<=100000/\(∀x∈o.dn,x.length<=100000)/\o.lu.length<=5000
structure Ow(cJ:Nat)(S:Nat→Prop)(w:World)(u1 u2:Value)(hs:List Value)(o:Oc):Prop where
 pi:Pi cJ S w u1 hs o.dn
 bo:Bo cJ (fun k=>S k∨u1.ownBlock=some k) w u2 o.lu
 ap:∀u∈hs,∀b,u.ownBlock=some b→u2.ownBlock≠some b
def Pi.move(h:Pi cJ S w v hs l)(D:∀k,cJ<=k->k<w.heap.size->w1.heap[k]?=w.heap[k]?):Pi cJ S w1 v hs l:=
 ⟨jm h.own λk e=>D k (h.own.lt k e).1 (h.own.lt k e).2,h.out,λi E=>(h.eA i E).imp λu q=>⟨q.1,q.2.move λb e=>D b (q.2.lt e).1 (q.2.lt e).2.1⟩,h.apart⟩
def Ow.to(h:Ow cJ S w u1 u2 hs o)(D:∀k,cJ<=k->k<w.heap.size->w1.heap[k]?=w.heap[k]?):Ow cJ S w1 u1 u2 hs o:=
 ⟨h.pi.move D,h.bo.move λb e=>D b (h.bo.lt e).1 (h.bo.lt e).2.1,h.ap⟩
def UU.rd(h:UU cJ w a o):FJ w a o:=by obtain⟨D,E,F,S,e,P,B,_⟩:=h;exact⟨D,E,e,P.ins,B.rdv⟩
def FJ.below(h:FJ w a o)(D:Below w.heap.size w w1):FJ w1 a o:=by obtain⟨E,F,e,P,B⟩:=h;exact⟨E,F,e,P.below D,B.below D⟩
def As(h1:FJ w a o)(h2:FJ w b o)(hz:Oz o):
  zC 10 #[a,b] w (zR w (.bool true)):=by
 obtain⟨u1,u2,rfl,p1,e1⟩:=h1;obtain⟨v1,v2,rfl,p2,e2⟩:=h2;have EQ:=cO (λX (F:zB w X)=>vQ (p1.below F) (p2.below F) λx hx=>by obtain⟨y,hy,rfl⟩:=jj.1 hx;have:=hz.2.1 y hy;rw[oQ];omega);have aa:=e1;have ab:=e2;obtain⟨O,c1,rfl,_,r1,_⟩:=e1;obtain⟨a2,c2,rfl,_,r2,_⟩:=e2;obtain⟨n,hn⟩:=eX ((qP o.lu).length);have EB:=cO (λX (F:zB w X)=>za O a2 n c1 c2 (qP o.lu) X hn.symm (r1.below F) (r2.below F) (by rw[hn,oQ];have:=hz.2.2;omega));rw[<-hn];obtain⟨x1,y1,rfl,_⟩:=p1;obtain⟨x2,y2,rfl,_⟩:=p2;generalize(o.dn.map qP).length=I at*;generalize o.dw=J at*;generalize(o.dz:Int)=K at*;generalize(o.iq:Int)=L at*;clear hz aa ab r1 r2 hn;go_enter func10,ntmps10;go_upto_region 1 with fail;refine dx λw1 E=>?_;have B1:Hid (zB w w1):=E▸(ba).alloc dC _;have K1:Hid (Lc (λ_=>False) w1 w.heap.size #[zI J,.slice x1 I y1,.slice O n c1,zI K,zI L] 31):=E▸(Lc.new w (S:=λ_=>False) (λ_ h=>h.elim) _ _).alloc _;have L1:Hid (Lc (λ_=>False) w1 (w.heap.size+1) #[zI J,.slice x2 I y2,.slice a2 n c2,zI K,zI L] 31):=by rw[E,show w.heap.size+1=(w.alloc (.cells #[zI J,.slice x1 I y1,.slice O n c1,zI K,zI L] 31)).heap.size from(dk _ _).symm];exact Lc.new _ (S:=λ_=>False) (λ_ h=>h.elim) _ _
 clear E;have D:=cO (λX (F:zB w1 X) (j:Nat) (u:Value)=>And.intro (λ(h:(#[zI J,.slice x1 I y1,.slice O n c1,zI K,zI L]:Array Value)[j]?=some u)=>di (K1.cell h) F) (λ(h:(#[zI J,.slice x2 I y2,.slice a2 n c2,zI K,zI L]:Array Value)[j]?=some u)=>di (L1.cell h) F));have q0:=(D _ (cN _ _) 0 _).1 rfl;have q1:=(D _ (cN _ _) 1 _).1 rfl;have r0:=(D _ (cN _ _) 0 _).2 rfl;have r1:=(D _ (cN _ _) 1 _).2 rfl;go_wp2_with(first
  |(go_at_call 12;refine cA (EQ _ B1) ?_;rintro e w2 ⟨rfl,M⟩;have B2:=cO M;have C2:=cO (iy B1 M);have q2:=(D _ M 2 _).1 rfl;have r2:=(D _ M 2 _).2 rfl;clear M)
  |(go_at_call 32;refine cA (EB _ C2) ?_;rintro e w3 ⟨rfl,b3⟩;have B3:=cO (B2.trans (b3.2 _));have C3:=cO (C2.trans (b3.2 _));have q3:=(D _ B3 3 _).1 rfl;have r3:=(D _ B3 3 _).2 rfl;have q4:=(D _ B3 4 _).1 rfl;have r4:=(D _ B3 4 _).2 rfl;clear b3))
 go_ret;exact⟨rfl,C3⟩
def MW(o:Oc):Oc:={o with dn:=Li 1 o.dn,lu:=Lj (1+(fN List.length o.dn o.dn.length:Int)) o.lu.length}
def Dk(o:Oc):Int:=1+(fN List.length o.dn o.dn.length:Int)+(o.lu.length:Int)
def xx(h:Ow cJ S w u1 u2 hs o)(L:Oz o)(hb:cJ<=w.heap.size):
  zC 15 #[.agg #[zI cd,u1,u2,zI st,zI dp],zI 1] w λe F=>e=.returned (zI (Dk o))/\Ow cJ S F u1 u2 hs (MW o)/\Below cJ w F/\∀k,k<w.heap.size->(∀u∈hs,u.ownBlock≠some k)->u2.ownBlock≠some k->F.heap[k]?=w.heap[k]?:=by
 have sb:=xF (l:=o.dn) (λx hx=>by have:=L.2.1 x hx;omega) _ (cE _);have MS:=cO (λX (D:zB w X)=>yD (k0:=1) (h.pi.kept (S1:=S) (Kp.cY D)) cM cM (by have:=L.1;omega) (λx hx=>by have:=L.2.1 x hx;omega));obtain⟨s,E⟩:∃s,s=fN List.length o.dn o.dn.length:=⟨_,rfl⟩
 rw[<-E]at sb;have MB:Hid (∀X I,zB w X->Hg hs X I->Pi cJ S I u1 hs (Li 1 o.dn)->Below cJ w I/\zC 37 #[u2,zI (1+(s:Int))] I λe F=>e=.returned (zI (Dk o))/\Ow cJ S F u1 u2 hs (MW o)/\Below cJ w F/\∀k,k<w.heap.size->(∀u∈hs,u.ownBlock≠some k)->u2.ownBlock≠some k->F.heap[k]?=w.heap[k]?):=λX I D J P=>by
  have b0:Below cJ w I:=⟨J.os.trans D.os,J.tape.trans D.tape,J.output.trans D.output,cV D.size J.size,λk hk=>(J.block k (by have:=D.size;omega) λu O e=>by obtain⟨_,_,_,z⟩:=h.pi.nw O;have:=(z.lt e).1;omega).trans (D.block k cM)⟩
  refine⟨b0,?_⟩;have B2:=h.bo.move λb e=>(J.block b (dj (h.bo.lt e).2.1 D.size) λu O q=>h.ap u O b q e).trans (D.block b (h.bo.lt e).2.1);refine(QU (k0:=1+(s:Int)) cM (by have:=L.1;omega) (by have:=L.2.2;omega) B2).mono ?_;rintro e F ⟨rfl,b,g⟩;have B1:Below cJ w F:=b0.grown g (cV hb b0.size) λk q=>(h.bo.lt q).1;refine⟨by rw[E];rfl,⟨⟨jm P.own λk q=>g.block k (P.own.lt k q).2 λz=>(B2.lt z.symm).2.2 (.inr q),P.out,λi hi=>?_,P.apart⟩,by show Bo cJ _ F u2 (Lj _ _);rw[<-E];exact b,h.ap⟩,B1,λk hk q1 q2=>(g.block k (dj hk b0.size) λz=>q2 z.symm).trans ((J.block k (dj hk D.size) q1).trans (D.block k hk))⟩;obtain⟨u,x1,M⟩:=P.eA i hi;exact⟨u,x1,M.move λk q=>g.block k (M.lt q).2.1 λz=>h.ap u (z8 x1) k q z.symm⟩
 have f1:∃K n cap,u1=.slice K n cap:=by obtain⟨K,cap,e,_⟩:=h.pi.ins;exact⟨K,_,cap,e⟩
 have f2:∃K n cap,u2=.slice K n cap:=by obtain⟨K,cap,e,_⟩:=h.bo.rd;exact⟨K,_,cap,e⟩
 obtain⟨x1,n1,y1,rfl⟩:=f1;obtain⟨M,n2,y2,rfl⟩:=f2;rw[<-E]at MS;generalize Dk o=ct at*;generalize MW o=mo at*;have D1:=cO (λI (J:Hg hs (w.alloc (.cells #[zI cd,.slice x1 n1 y1,.slice M n2 y2,zI st,zI dp] 31)) I)=>show zE I w.heap.size 2 (.slice M n2 y2)from(dK (a:=(zA w.heap.size 2)) (J.block w.heap.size dC λu O e=>by obtain⟨_,_,_,z⟩:=h.pi.nw O;have:=(z.lt e).2.1;omega)).trans (fE rfl));have D2:=cO ((cN w.heap.size w).alloc (cE _) (.cells #[zI cd,.slice x1 n1 y1,.slice M n2 y2,zI st,zI dp] 31));clear h L hb E sb;go_enter func15,ntmps15;go_wp2_with(first
  |(go_at_call 14;refine cA (MS _ D2) ?_;rintro e I ⟨rfl,p2,g2⟩;have z2:=D1 _ g2;have M2:=cO (MB _ _ D2 g2 p2).2;clear p2 g2)
  |(go_at_call 37;refine cA M2 ?_;rintro e w3 ⟨rfl,o3,b3⟩;have O3:=cO (And.intro o3 b3);clear o3 b3))
 go_ret;exact⟨rfl,O3⟩
def Cy(k0:Int)(l:List (List UInt8))(i:Nat):fN List.length ((Li k0 l).map qP) i=fN List.length l i:=by
 have e:((Li k0 l).map qP).map List.length=l.map List.length:=by
  refine Jp (by simp[tz]) λj D h=>?_;have h:j<l.length:=by simpa using h
  have:=G9 (k0:=k0) h;rw[cB,cG (by rw[tz];exact h)]at this;simp only[qQ]at this;simp only[vZ];rw[oQ,this,ve,cB,cG h];rfl
 unfold fN;rw[List.map_take,List.map_take,e]
def xz(h:Ow cJ S w u1 u2 hs (MW o))(J:Oz o):
  zC 16 #[.agg #[zI cd,u1,u2,zI st,zI dp],zI 1] w (zR w (zI (Dk o))):=by
 have O:=xF (l:=o.dn) (λx hx=>by have:=J.2.1 x hx;omega);have I:=h.pi.ins;have K:((MW o).dn.map qP).length=o.dn.length:=by rw[dY];exact tz _ _
 have HS:=cO (λX (hX:zB w X)=>Hp (k0:=1) (I.below hX) (λi F=>by
  rw[K]at F;show((Li 1 o.dn).map qP).getD i []=qH _ (((Li 1 o.dn).map qP).getD i []).length;have e:((Li 1 o.dn).map qP).getD i []=qH (1+(fN List.length o.dn i:Int)) (o.dn.getD i []).length:=by rw[<-xG,<-G9 F,cB,ed,cB,cG (by rw[tz];exact F)];rfl
  rw[show fN List.length ((MW o).dn.map qP) i=fN List.length o.dn i from Cy _ _ _,e,ke]) cM cM (λi F=>by rw[K]at F;rw[show fN List.length ((MW o).dn.map qP) i=fN List.length o.dn i from Cy _ _ _];exact O i F) (by rw[K];have:=J.1;omega))
 rw[show fN List.length ((MW o).dn.map qP) ((MW o).dn.map qP).length=fN List.length o.dn o.dn.length by rw[K];exact Cy _ _ _]at HS;obtain⟨x2,y2,rfl,_,_,r2⟩:=h.bo.rd;have L:=O _ (cE _);have e5:=J.2.2;have e6:=J.1;obtain⟨x1,y1,rfl,_⟩:=I;obtain⟨s,D⟩:=eX (fN List.length o.dn o.dn.length);have ln:(MW o).lu.length=o.lu.length:=ve _ _;obtain⟨n,M⟩:=eX o.lu.length;have HB:=cO (λX (hX:zB w X)=>QV (cap:=y2) (n:=n) (k0:=1+(s:Int)) cM (by rw[D];omega) cM (by rw[D,M,<-xG];exact r2.below hX));have CT:Hid (Dk o=1+(s:Int)+(n:Int)):=by rw[D,M];rfl
 rw[ln,<-M];rw[<-D]at HS L;generalize(List.map qP (MW o).dn).length=np at*;generalize Dk o=ct at*;clear h J O K r2 ln D M e5;have aa:s<=104857600000:=cM;clear L e6;go_enter func16,ntmps16;go_upto_region 1 with fail;refine dx λw1 E=>?_;have B1:Hid (zB w w1):=E▸ba;have K1:Hid (Lc (λ_=>False) w1 w.heap.size #[zI cd,.slice x1 np y1,.slice x2 n y2,zI st,zI dp] 31):=E▸Lc.new w (S:=λ_=>False) (λ_ h=>h.elim) _ _;clear E;have q1:=K1.cell (j:=1) rfl;have q2:=K1.cell (j:=2) rfl;go_wp2_with(first
  |(go_at_call 38;refine cA (HS _ B1) ?_;rintro e w2 ⟨rfl,rfl⟩)
  |(go_at_call 39;refine cA (HB _ B1) ?_;rintro e w3 ⟨rfl,rfl⟩))
 go_ret;exact⟨si (by rw[CT]),B1⟩
end im
end Go.Proofs.YtfpkdfeakanlpaaGreatDoor
