import Derived.RangeFuncFrom
import Derived.Shelf.Abstract
import Derived.Shelf.RegionOpen
import Derived.WalkKit
import Derived.OwnWalkIn
import Derived.TacticsInMore
import Derived.LoopNIn
import Derived.LoopIn
import Derived.Deep.LoopGhost
import Derived.Test.YtfpkdfeakanlpaaGreatDoorMChkImplD
import Derived.Test.YtfpkdfeakanlpaaGreatDoorMChkImplG
set_option linter.all false
set_option maxRecDepth 100000
set_option maxHeartbeats 8000000
namespace Go.Proofs.YtfpkdfeakanlpaaGreatDoor
open Go.Proofs.Tryz
namespace chk
open RowKit Go.Shelf bts pg
variable{E fp:Int}{hs:List Int}{Bw I J cJ g gB k l:Nat}{o:Obj}{F:Option Addr}{D h uc ud:Value}{W w0:World}
attribute [local go_sem] Oper.semAt_some
structure Rs(cJ g gB Bw:Nat)(w0:World)(dw:List In)(uk up uc ud:Value)(fp fs:Int)(k:Nat)(W:World)(hs:List Int)(aT:Option Addr)(cT:Nat)(t:List Nat):Prop where
 fi:Fi W cJ g gB dw.length hs aT cT t uk up uc ud fp fs
 le:left hs t≤k
 db:k≤2*dw.length+1
 pA:Below cJ w0 W
 kt:KT g w0 W
 box:w0.heap[Bw]?=some (.cells #[.pointer (some ⟨g,6,none⟩)] 219 (0,0))
 ne:Bw≠g
def Qs(cJ g gB Bw:Nat)(w0:World)(dw:List In)(D E uc ud:Value)(F fs:Int)(I:World->Prop)(k:Nat)(W:World):Prop:=
 ∃h J K t,Rs cJ g gB Bw w0 dw D E uc ud F fs k W h J K t/\zt (Gx dw) dw.length h t/\I W
def Rs.fU{dw:List In}{O up:Value}{fs:Int}{D a:Nat}{t:List Nat}(R:Rs cJ g gB Bw w0 dw O up uc ud fp fs k W hs (some ⟨D,0,none⟩) J (t++[a])):Rs cJ g gB Bw w0 dw O up uc ud fp fs k (W.setCell ⟨g,6,none⟩ (.slice (some ⟨D,0,none⟩) t.length J)) hs (some ⟨D,0,none⟩) J t:=by
 have K:(t++[a]).length=t.length+1:=dC;have h:=R.fi;have E:=h.fl;rw[K]at E;have I:=E.Mj;have L:=h.apart;have F:D≠g:=λe=>L (by rw[e];rfl);refine⟨⟨h.ck.TR _,⟨?_,?_,I.apart,I.len⟩,h.ne,λe=>F (by simpa[Value.ownBlock]using e),h.lo⟩,?_,R.db,?_,?_,R.box,R.ne⟩
 .exact lI I.own (λb M=>by
   have e:gB=b:=by simpa[Value.ownBlock]using M
   subst e;exact cZ W (zA g 6) _ gB h.ne)
 .exact lI I.todo (λb M=>by
   have e:D=b:=by simpa[Value.ownBlock]using M
   subst e;exact cZ W (zA g 6) _ D F)
 .have:=R.le;rw[Ey]at this;omega
 .exact R.pA.setCell (p:=(zA g 6)) h.lo _
 .exact R.kt.trans ⟨dC,λb o ho _ hg=>(cZ W (zA g 6) _ b hg).trans ho⟩
def Rs.drew{dw:List In}{fs:Int}{t:List Nat}(R:Rs cJ g gB Bw w0 dw h D uc ud E fs k W hs F I t):Rs cJ g gB Bw w0 dw h D uc ud E fs k W.drew hs F I t:=
 ⟨R.fi.below (eb (cN W.heap.size _)) (cE _),R.le,R.db,eb R.pA,R.kt.trans (j4 (eb (cN _ _))),R.box,R.ne⟩
def Rs.UQ{dw:List In}{E:Value}{F fs:Int}{I:Option Addr}{t:List Nat}(R:Rs cJ g gB Bw w0 dw D E uc ud F fs k W hs I J t):W.cell? ⟨Bw,0,none⟩=some (.pointer (some ⟨g,6,none⟩)):=by
 have h:=R.kt.2 Bw _ R.box (by intro K e;cases e) R.ne;simp only[World.cell?,h];rfl
def Qt(n:Nat)(hn:1<=n)(cJ g gB Bw B:Nat)(w0:World)(dw:List In)(F J uc ud:Value)(K fs:Int)(_:g<B)(hN:dw.length<=1048576)(X:World->Prop):
  QY (α:=Nat×List Int×List Nat×Nat) Fence.wide n Tryz.prog 156 #[.pointer (some ⟨Bw,0,none⟩)] (λx=>#[.int .i64 x.1]) B
   (λW=>∃k hs L E t,Rs cJ g gB Bw w0 dw F J uc ud K fs k W hs L E t/\zt (Gx dw) dw.length hs t)
   (λx W=>∃L E,Rs cJ g gB Bw w0 dw F J uc ud K fs x.2.2.2 W x.2.1 L E x.2.2.1/\zt (Gx dw) dw.length x.2.1 (x.2.2.1++[x.1])/\left x.2.1 (x.2.2.1++[x.1])<=x.2.2.2)
   (λx W=>∃k hs L E t,k<x.2.2.2/\Rs cJ g gB Bw w0 dw F J uc ud K fs k W hs L E t/\zt (Gx dw) dw.length hs t)
   X
   (λW=>∃k hs L E,Rs cJ g gB Bw w0 dw F J uc ud K fs k W hs L E []/\zt (Gx dw) dw.length hs []):=by
 intro l Bk Bx af hY W ⟨k0,hs0,aT0,cT0,t0,R0,I0⟩ hB0;refine callsIn_of_wp func156 rfl trivial ?_ rfl;simp only[ntmps156,qw,dt,dG,Nat.reduceAdd,Nat.reduceSub,Ab,Aa,Gf,Bz,eB,ey];gi_wp2;gi_loopw [3] (λ_ wr=>∃k,Qs cJ g gB Bw w0 dw F J uc ud K fs Bk k wr) (λ_ wr=>leastOf (λk=>Qs cJ g gB Bw w0 dw F J uc ud K fs Bk k wr))
 case atStart=>exact⟨k0,hs0,aT0,cT0,t0,R0,I0,hB0⟩
 case round=>
  clear R0 I0 hB0;have sp:=leastOf_spec hrel;have M:Hid (∀W' O,Qs cJ g gB Bw w0 dw F J uc ud K fs Bk O W'->leastOf (λk=>Qs cJ g gB Bw w0 dw F J uc ud K fs Bk k W')<=O):=λW' O h=>(leastOf_spec ⟨O,h⟩).2 O h;obtain⟨k,hk⟩:=eX (leastOf (λk=>Qs cJ g gB Bw w0 dw F J uc ud K fs Bk k wr));have ag:=cO hk.symm;rw[<-hk]at sp;obtain⟨⟨hs,L,E,t,R,I,hB⟩,_⟩:=sp;clear hrel hk;have HR:=cO R;have HI:=cO I;have au:=R.UQ;have c6:=R.fi.ck.at 6 _ rfl;obtain rfl|⟨t,a,rfl⟩:=U5 t
  .simp only[dG]at c6;clear R I;gi_wp2;refine bodyPost_end (results_none rfl _ _ _) rfl ?_;exact⟨⟨_,rfl⟩,.inl ⟨⟨k,hs,L,E,HR,HI⟩,hB⟩⟩
  .rw[U6]at R I c6 HR HI;have D:(t++[a]).length=t.length+1:=dC;obtain⟨gT,rfl⟩:∃gT,L=some (zA gT 0):=by
    obtain⟨h,_⟩|⟨g',c',ah,h,_⟩:=R.fi.fl.todo.2
    .rw[D]at h;simp at h
    .simp only[de]at h;exact⟨g',h.1⟩
   have ac:t.length+1<=E:=by
    obtain⟨h,_⟩|⟨g',c',ah,h,_,_,hn,_⟩:=R.fi.fl.todo.2
    .rw[D]at h;simp at h
    .simp only[de]at h;rw[D]at hn;omega
   have ai:wr.cell? (zA gT t.length)=some (zI (a:Int)):=by
    have ad:=R.fi.fl.todo
    rw[D]at ad;rw[ad.cellAt t.length cM,vd,fB (by simp[nc])];simp[nc]
   have aw:=R.fi.ck.free 6;have aj:t.length<=4194304:=by have h1:=R.le;have h2:=R.db;unfold left at h1;rw[D]at h1;omega
   have hW:=R.fU.drew;have ab:=af wr (wr.setCell (zA g 6) (zS gT t.length E)).drew (((KeepsOthers.setCell _ _ _).trans (KeepsOthers.drew _)).from _) hB;obtain⟨fn,aq,assign,ar,hy,hR⟩:=hY (a,hs,t,k) _ ⟨_,_,hW,I,R.le⟩ ab;dsimp only at hy;rw[D]at c6;obtain⟨m,hm⟩:=eX t.length;rw[<-hm]at c6 ai ac aj hy hR;clear R I hW ab hm D HR HI;gi_wp2;gi_region;gi_wp2;refine hR.mono ?_;rintro e W3 (⟨rfl,⟨O,ak,al,am,t',an,R3,I3⟩,aa⟩|⟨rfl,ap,aa⟩)
   .have ae:Hid (Qs cJ g gB Bw w0 dw F J uc ud K fs Bk O W3):=⟨ak,al,am,t',R3,I3,aa⟩
    clear R3 I3 aa hR hy;gi_wp2;go_roundw
    case rel=>exact⟨O,ae⟩
    case measure=>
     rw[ag];exact Wv (M W3 O ae) an
   .clear hR hy;gi_wp2;refine eS (results_none rfl _ _ _) rfl ?_;exact⟨⟨_,rfl⟩,.inr ⟨ap,aa⟩⟩
attribute [local go_sem] Oper.semAt_some
def Qr(g:Nat)(w:World):zC 100 #[.pointer (some (zA g 6))] w λe h=>e=.returned (.func (.func 156) #[] #[zP w.heap.size])/\h=w.alloc (.cells #[.pointer (some (zA g 6))] 219):=by go_enter func100,ntmps100;go_wp2;go_returns;exact⟨rfl,rfl⟩
def Rs.jz{dw:List In}{E F:Value}{I fs:Int}{J:World}{K:Option Addr}{L:Nat}{t:List Nat}(R:Rs cJ g gB Bw w0 dw E F uc ud I fs k W hs K L t)(h:Below W.heap.size W J)(D:cJ<=W.heap.size):Rs cJ g gB Bw w0 dw E F uc ud I fs k J hs K L t:=
 ⟨R.fi.below h (cE _),R.le,R.db,R.pA.trans (h.mono D),R.kt.trans (j4 h),R.box,R.ne⟩
def Fi.put{N:Nat}{O:Option Addr}{cT:Nat}{t:List Nat}{uk up:Value}{fs:Int}{o':Obj}(F:Fi W cJ g gB N hs O cT t uk up uc ud fp fs)(hl:W.heap[l]?=some o)(ho:o.isCells=false):Fi (W.putObj l o') cJ g gB N hs O cT t uk up uc ud fp fs:=by
 have D:∀b c T fr,W.heap[b]?=some (.cells c T fr)->b≠l:=by intro b c T fr h e;subst e;rw[h]at hl;cases hl;cases ho
 refine⟨F.ck.block (World.putObj_heap_other (D g _ _ _ F.ck)),⟨lI F.fl.own (λb E=>?_),lI F.fl.todo (λb E=>?_),F.fl.apart,F.fl.len⟩,F.ne,F.apart,F.lo⟩
 .obtain⟨h,_⟩|⟨J,c',K,L,_,I,_⟩:=F.fl.own.2
  .simp at h
  .rw[L]at E;have M:J=b:=by simpa[Value.ownBlock]using E
   rw[M]at I;exact World.putObj_heap_other (D b _ _ _ I)
 .obtain⟨h,_⟩|⟨J,c',K,L,_,I,_⟩:=F.fl.todo.2
  .rw[h]at E;cases E
  .rw[L]at E;have M:J=b:=by simpa[Value.ownBlock]using E
   rw[M]at I;exact World.putObj_heap_other (D b _ _ _ I)
def Rs.put{dw:List In}{fs:Int}{t:List Nat}{J:Obj}(R:Rs cJ g gB Bw w0 dw h D uc ud E fs k W hs F I t)(hB:w0.heap.size<=l)(L:cJ<=w0.heap.size)(M:W.heap[l]?=some o)(O:o.isCells=false):Rs cJ g gB Bw w0 dw h D uc ud E fs k (W.putObj l J) hs F I t:=by
 refine⟨R.fi.put M O,R.le,R.db,R.pA.trans ((cN cJ W).grown (grownBy_putObj' W l J) (by have:=R.pA.size;omega) (λk e=>by cases e;omega)),⟨by have:=R.kt.1;simpa using this,λb x K hc hg=>?_⟩,R.box,R.ne⟩;rw[World.putObj_heap_other (λe=>?_)]
 .exact R.kt.2 b x K hc hg
 .subst e;have:=(dS.1 K).1;omega
def Ud{b:Nat}{x y v:Value}(h:W.cell? ⟨b,0,none⟩=some x/\W.cell? ⟨g,5,none⟩=some y/\W.frozen? ⟨g,7,none⟩=false):(W.setCell ⟨g,7,none⟩ v).cell? ⟨b,0,none⟩=some x/\(W.setCell ⟨g,7,none⟩ v).cell? ⟨g,5,none⟩=some y/\(W.setCell ⟨g,7,none⟩ v).frozen? ⟨g,7,none⟩=false:=
 ⟨by rw[iH _ _ _ _ (by intro e;simp at e)];exact h.1,by rw[iH _ _ _ _ (by intro e;simp at e)];exact h.2.1,by rw[U0];exact h.2.2⟩
def NA(n:Nat)(hn:3<=n)(g:Nat)(uk up uc:Value)(aD:Option Addr)(cD:Nat)(fp fs:Int)(dw:List In)(w:World)(C:Ck w g uk up fp fs uc (.slice aD dw.length cD) (.slice none 0 0) (.slice none 0 0))(aI:0<g)(hS:Fy w)(hd:∀W,Below g w W->Lm W aD dw)(aJ:∀i,i<dw.length->Fw dw.length (dw.getD i jI))(h0:0<dw.length)(h1:dw.length<=1048576)(bb:Bool)(aK:Hid (bb=true↔oM (qq dw) dw.length)):
  CallsIn Fence.wide n Tryz.prog 58 #[.pointer (some ⟨g,0,none⟩)] w λe E=>e=.returned (.bool bb)/\Below g w E:=by
 have a7:1<=n:=cM;have a8:=C.lt;obtain⟨N,hN⟩:=eX dw.length;have HN:=cO hN.symm;have HC:=cO C;have c5:=C.at 5 _ rfl;rw[<-hN]at c5;obtain⟨L,ah⟩:∃L,L=(w.alloc (.cells #[zP g] 121)).alloc (.cells #[.bool false] 4):=⟨_,rfl⟩
 have aL:L.heap.size=w.heap.size+2:=by rw[ah];simp
 have aw:Hid (zB w L):=by rw[ah];exact(ba).alloc dC _
 have aM:L.cell? (zA w.heap.size 0)=some (zP g):=by rw[ah];exact iF (fE rfl)
 have C0:=C.below aw.out a8;have d5:=C0.at 5 _ rfl;rw[<-hN]at d5;have al:=cO C0;have a9:Hid (∀W,zB L W->W.cell? (zA w.heap.size 0)=some (zP g)/\W.cell? (zA g 5)=some (.slice aD N cD)/\W.frozen? (zA g 7)=false):=λW hW=>⟨di aM hW,di d5 hW,(C0.below hW C0.lt).free 7⟩
 have HD:Hid (∀W,zB L W->W.cell? (zA (w.heap.size+2) 0)=some (zI (-1))->zC 98 #[zS (w.heap.size+2) 1 1,zI N] W λe E=>∃J,w.heap.size+2<=J/\e=.returned (zS J N N)/\E.ownsRow (w.heap.size+2) 3 1 (zS J N N) N (ic (List.replicate N (-1)))/\zB L E):=by intro W hW hc;refine(GJ (w.heap.size+2) N (by rw[hN];exact h1) (by rw[hN];exact h0) W hc).mono ?_;rintro e E ⟨J,h2,h3,h4,h5⟩;exact⟨J,by have:=hW.size;omega,h3,nM h4 (by have:=hW.size;omega),iy hW h5⟩
 have ay:=cO ah;have bc:=cO (λW (hW:zB L W)=>(al.out.below hW al.out.lt).at 7 _ rfl);have aN:Hid ((L.alloc (.cells #[zI (-1)] 3)).drew.cell? (zA (w.heap.size+2) 0)=some (zI (-1))):=by show _=_;rw[<-aL];exact fE (w:=L) rfl
 refine callsIn_of_wp_marks func58 rfl trivial ?_ rfl;simp only[ntmps58,qw,dt,dG,Nat.reduceAdd,Nat.reduceSub,Ab,Aa,Gf,Bz,eB,ey];clear C C0 ah c5 hN;gi_wp2_with fail;rw[<-ay.out];refine wpIn_wide.2 ?_;go_region_held3 (λW=>W.cell? (zA w.heap.size 0)=some (zP g)/\W.cell? (zA g 5)=some (.slice aD N cD)/\W.frozen? (zA g 7)=false) (first|(with_reducible refine Ud ?_;assumption)|(refine a9.out _ ?_;(repeat(first|exact cN _ _|assumption|refine eb ?_|refine dQ ?_ _|refine jK ?_ dC _));done))
  ((go_at_call 98;with_reducible refine(HD.out _ ?_ ?_).mono ?_;(repeat(first|exact cN _ _|assumption|refine eb ?_|refine dQ ?_ _|refine jK ?_ dC _));(first|exact fE rfl|exact aN.out);rintro e E ⟨J,bz,rfl,bx,bd⟩;have q7:=bc.out E bd))
 have be:N<=1048576:=by rw[<-HN.out];exact h1
 have bf:0<N:=by rw[<-HN.out];exact h0
 have ax:J≠g:=cM;obtain⟨W2,O⟩:=eX (E.setCell (zA g 7) (zS J N N));have M:zB L E:=xq;have F2:Fi W2 g g J N (List.replicate N (-1)) none 0 [] uk up uc (.slice aD N cD) fp fs:=by
  have hc:=(al.out.below M al.out.lt).Vw (zS J N N);rw[HN.out]at hc;rw[O];refine⟨hc,⟨nM (lI xq (λb hb=>?_)) cM,⟨rfl,.inl ⟨rfl,rfl⟩⟩,by simp[Value.ownBlock],dC⟩,ax,by simp[Value.ownBlock],cE _⟩;have e:J=b:=by simpa[Value.ownBlock]using hb
  subst e;exact cZ E (zA g 7) _ J ax
 have aO:jd (List.replicate N (-1)) [] 0 0=some ((List.replicate N (-1)).set 0 0,[0]):=by unfold jd;rw[cR (by simpa using bf),pW,cR cM];rfl
 have bg:w.heap.size+2<=W2.heap.size:=by rw[O];have:=M.size;simp;omega
 have CR:=qU g g J N 0 0 _ _ none 0 [] [0] uk up uc (.slice aD N cD) fp fs W2 F2 be dC cM aO;have bh:Hid (Below g w W2):=by rw[O];have e1:Below g w L:=aw.out.mono cM;have e2:Below g L E:=M.mono cM;exact(e1.trans e2).setCell (p:=(zA g 7)) (cE _) _
 have K2:Hid (∀b o,L.heap[b]?=some o->b≠g->W2.heap[b]?=some o):=by intro b o ho hg;rw[O,cZ E (zA g 7) _ b hg];exact(M.block b (dS.1 ho).1).trans ho
 have bi:=cO F2;have bj:=cO O;have bk:W2.cell? (zA w.heap.size 0)=some (zP g):=by rw[O,iH _ _ _ _ (by intro e;simp at e)];exact di aM M
 clear F2 aO O;rw[<-bj.out];gi_wp2_with fail;refine⟨trivial,(FP.2 CR).mono ?_⟩;rintro e w3 ⟨rfl,aT,cT,F3,am,aP⟩;clear CR;have K3:=cO (EE bi.out am.size aP);have bl:=cO (bh.out.trans am);have bm:=cO F3;have aQ:L.heap[w.heap.size]?=some (.cells #[zP g] 121):=by rw[ay.out,iZ _ _ dC];exact dJ _ _
 have aR:L.heap[w.heap.size+1]?=some (.cells #[.bool false] 4):=by rw[ay.out];have:=dJ (w.alloc (.cells #[zP g] 121)) (.cells #[.bool false] 4);simpa using this
 have az:=K3.out.2 _ _ (K2.out _ _ aQ cM) (by intro ai e;cases e) cM;have aS:=K3.out.2 _ _ (K2.out _ _ aR cM) (by intro ai e;cases e) cM;have bn:=cO az;have bo:=cO aS;have bA:w3.cell? (zA w.heap.size 0)=some (zP g):=by simp only[World.cell?,az];rfl
 have aa:=cO (cV bg am.size);have AL:=Qr g w3;clear F3 am aP aQ aR az aS bk;gi_wp2_with fail;refine⟨trivial,(FP.2 AL).mono ?_⟩;rintro e w4 ⟨rfl,rfl⟩;clear AL;gi_wp2_with fail;obtain⟨W4,aj⟩:=eX (w3.alloc (.cells #[.pointer (some (zA g 6))] 219));have aU:W4.heap.size=w3.heap.size+1:=by rw[aj];simp
 have an:zB w3 W4:=by rw[aj];exact ba
 have aV:=cO (bl.out.trans (an.mono (by have:=aa.out;omega)));have aW:=(an.block _ (by have:=aa.out;omega)).trans bo.out;have bp:=(an.block _ (by have:=aa.out;omega)).trans bn.out;have ab:g<=W4.heap.size:=by have:=aa.out;omega
 have F4:Fi W4 g g J dw.length ((List.replicate N (-1)).set 0 0) aT cT [0] uk up uc (.slice aD dw.length cD) fp fs:=by rw[HN.out];exact bm.out.below an (cE _)
 have R4:Rs g g J w3.heap.size W4 dw uk up uc (.slice aD dw.length cD) fp fs (left ((List.replicate N (-1)).set 0 0) [0]) W4 ((List.replicate N (-1)).set 0 0) aT cT [0]:=by
  refine⟨F4,cE _,?_,cN _ _,⟨cE _,λ_ _ h _ _=>h⟩,?_,by have:=aa.out;omega⟩
  .unfold left;have:=U3 (λz:Int=>decide (z<0)) ((List.replicate N (-1)).set 0 0);simp only[df,lO,j9]at this|-;have:=HN.out;omega
  .rw[aj];exact dJ _ _
 have I4:zt (Gx dw) dw.length ((List.replicate N (-1)).set 0 0) [0]:=by rw[<-HN.out];exact A8 h0
 have SQ:=Qt (n-1) cM g g J w3.heap.size W4.heap.size W4 dw uk up uc (.slice aD dw.length cD) fp fs (by have:=aa.out;omega) h1 (λW=>¬oM (qq dw) dw.length/\W.cell? (zA (w.heap.size+1) 0)=some (.bool false)/\Below g w W);rw[<-aj];clear aj;refine uV rfl a7 (gf:=156) (lb:=#[zP w3.heap.size]) rfl trivial (enters_of func156 gA rfl) (λ_=>rfl) _ _ _ _ _ SQ ?hI ?hY ?hG ?hX ?hE
  (λx=>{tmps:=#[zP g,zP w.heap.size,zP (w.heap.size+1),zI x.1,zP g,zS (w.heap.size+2) 1 1,zP g,zP g,.pointer (some (zA g 2)),.pointer (some (zA g 5)),.slice aD N cD,zI N,zS J N N,zP g,.pointer (some (zA g 7)),zP g,.bool true,zP g,zP g,.pointer (some (zA g 6)),.func (.func 156) #[] #[zP w3.heap.size],zI x.1,undef,undef,undef,undef],defers:=[]}) ?assign ?body ?done ?stop
 case hI=>
  intro o o2;exact⟨_,_,_,_,_,R4.jz ((ba).alloc dC _) ab,I4⟩
 case hY=>
  rintro x W l o o' hl ho hc ⟨aT,cT,R,I,ap⟩;exact⟨aT,cT,R.put hl ab ho hc,I,ap⟩
 case hG=>
  rintro x W l o o' hl ho hc ⟨k,hs,aT,cT,t,bq,R,I⟩;exact⟨k,hs,aT,cT,t,bq,R.put hl ab ho hc,I⟩
 case hE=>
  rintro W l o o' hl ho hc ⟨k,hs,aT,cT,R,I⟩;exact⟨k,hs,aT,cT,R.put hl ab ho hc,I⟩
 case hX=>
  rintro W l o o' hl ho hc ⟨ak,ac,aq⟩;refine⟨ak,?_,aq.grown (grownBy_putObj' W l o') (by have:=aq.size;omega) (λk e=>by cases e;omega)⟩;rw[dK (a:=(zA (w.heap.size+1) 0)) (World.putObj_heap_other (by have:=aa.out;show w.heap.size+1≠l;omega))];exact ac
 case assign=>
  intro l x W K hK;gi_wp2;exact hK
 case body=>
  rintro l ⟨a,hs,t,k⟩ W hl ⟨aT,cT,R,I,ap⟩;simp only at R I ap;have aA:=I.todo a dC;have ad:=aV.out.trans R.pA;have br:t.length<=4194304:=by have e1:=R.le;have e2:=R.db;unfold left at e1;omega
  have aX:=cV ab R.pA.size;have FO:=Hu g g J a hs aT cT t uk up uc aD cD fp fs dw W R.fi h1 br aX aI (hS.below ad aI) (hd W ad) aA.1 ⟨aA.2,(I.db a).2⟩ (aJ a aA.1);have aY:=R.kt.2 _ _ bp (by intro ai e;cases e) cM;have bB:W.cell? (zA w.heap.size 0)=some (zP g):=by simp only[World.cell?,aY];rfl
  have HR:=cO R;have aZ:Hid (∀E,Below g W E->KT g W E->E.heap[w.heap.size+1]?=some (.cells #[.bool false] 4)/\Below g w E/\KeepsFrom W4.heap.size W E):=by intro E hb hk;refine⟨(R.kt.trans hk).2 _ _ aW (by intro ai e;cases e) cM,ad.trans hb,hk.1,λb o hB ho hc=>hk.2 b o ho (by intro ai e;subst e;cases hc) (λe=>?_)⟩;subst e;rw[show W.heap[b]?=_ from R.fi.ck]at ho;cases ho;cases hc
  have ar:Hid (∀F t',uX dw hs t a=some (F,t')->zt (Gx dw) dw.length F t'/\left F t'<k):=by
   intro F t' h;unfold uX at h;cases aB:Gx dw a (hs.getD a (-1))with
   |none=>rw[aB]at h;cases h
   |some es=>
    rw[aB]at h;have:=EF (OV aJ) I aB h;exact⟨this.1,dj this.2 ap⟩
  have ae:Hid (uX dw hs t a=none->¬oM (qq dw) dw.length):=by intro h hg;refine xJ I (λes bs=>?_) ((A9 dw dw.length).2 hg);unfold uX at h;rwa[bs]at h
  generalize uX dw hs t a=st at FO ar ae;clear R I aY ad;gi_wp2_with fail;refine⟨trivial,λh=>(by cases h),(CallsIn.inRound l (FP.2 FO)).mono ?_⟩;rintro e E ⟨a0,a1,hm⟩;obtain⟨au,aC,aE⟩:=aZ.out E a0 a1;have bt:=cO aC;have a2:=cO aE;have q0:E.cell? (zA (w.heap.size+1) 0)=some (.bool false):=by simp only[World.cell?,au];rfl
  have bu:E.frozen? (zA (w.heap.size+1) 0)=false:=by simp only[World.frozen?,au];rfl
  cases st with
  |none=>
   simp only at hm;subst hm;have bv:=cO (ae.out rfl);clear FO ar ae au aC aE;gi_wp2_with fail;exact⟨by rw[<-aU];exact a2.out.trans ((KeepsOthers.setCell _ _ _).from _),bv.out,Qz _ _ _ (by rw[q0];rfl),bt.out.setCell (p:=(zA (w.heap.size+1) 0)) (by show g<=w.heap.size+1;omega) _⟩
  |some q=>
   simp only at hm;obtain⟨rfl,af,ag,F'⟩:=hm;obtain⟨I',a3⟩:=ar.out q.1 q.2 rfl;have a6:Hid (∃k' F af ag t',k'<k/\Rs g g J w3.heap.size W4 dw uk up uc (.slice aD dw.length cD) fp fs k' E F af ag t'/\zt (Gx dw) dw.length F t'):=
    ⟨left q.1 q.2,q.1,af,ag,q.2,a3,⟨F',cE _,by have:=HR.out.db;omega,HR.out.pA.trans a0,HR.out.kt.trans a1,HR.out.box,HR.out.ne⟩,I'⟩
   clear FO ar ae au aC aE F' I';gi_wp2_with fail;obtain⟨k',F,af,ag,t',y1,y2,y3⟩:=a6.out;refine⟨by rw[<-aU];exact a2.out,?_⟩;first
    |exact⟨k',F,af,ag,t',y1,y2,y3⟩
    |exact⟨k',y1,F,af,ag,t',y2,y3⟩
 case done=>
  rintro D W hD ⟨k,hs,aT,cT,R,I⟩ hK;have HT:=cO ((aK.out.2 ((A9 dw dw.length).1 (I6 I))).symm);have bw:=cO (aV.out.trans R.pA);have aF:=R.kt.2 _ _ aW (by intro ai e;cases e) cM;have q0:W.cell? (zA (w.heap.size+1) 0)=some (.bool false):=by simp only[World.cell?,aF];rfl
  have bu:W.frozen? (zA (w.heap.size+1) 0)=false:=by simp only[World.frozen?,aF];rfl
  clear R I aF;gi_wp2_with fail;have aG:=(KeepsOthers.setCell W (zA (w.heap.size+1) 0) (.bool true)).same D _ hK rfl;refine⟨dC,.inl ⟨_,_,rfl,run_takeDeferred aG,?_⟩⟩;have aH:=cell_kept (Qz W (zA (w.heap.size+1) 0) (.bool true) (by rw[q0];rfl)) (grownBy_putObj' _ D (.deferred none)) (λr e=>by cases e;exact⟨_,aG,rfl⟩);refine⟨.bool true,?_,gZ HT.out,(bw.out.setCell (p:=(zA (w.heap.size+1) 0)) (by show g<=w.heap.size+1;omega) _).trans (belowK_b (w:=W4) ab _ D _ _ hD aG rfl rfl)⟩;simp[results,results58,go_sem,aH]
 case stop=>
  rintro D W hD ⟨ak,ac,aq⟩ hK;have HF:Hid (false=bb):=by
   show _=_;cases bb with
   |false=>rfl
   |true=>exact absurd (aK.out.1 rfl) ak
  gi_wp2_with fail;refine⟨dC,.inl ⟨_,_,rfl,run_takeDeferred hK,?_⟩⟩;have aH:=cell_kept ac (grownBy_putObj' _ D (.deferred none)) (λr e=>by cases e;exact⟨_,hK,rfl⟩);refine⟨.bool false,?_,gZ HF.out,aq.trans (belowK_b (w:=W4) ab W D _ _ hD hK rfl rfl)⟩;simp[results,results58,go_sem,aH]
def Al(p:Pg)(uk up:Value)(w:World)(hk:lX w uk p.dv)(hp:kZ w up p.cU)(hs:jT p<=1048576)(hS:Fy w)(aT:0<w.heap.size)(bS:Bool)(aB:Hid (bS=true↔j5 p)):
  zC 28 #[.agg #[uk,up]] w (zR w (.bool bS)):=by
 have aq:=cO hk;have ar:=cO hp;have au:jH p.cU<=1048576:=by unfold jT at hs;omega
 have aE:p.cU.length<=1048576:=by unfold jH at au;omega
 have aU:=cO au;obtain⟨bf,aw⟩:∃bf:Bool,bf=true↔xC p:=by
  by_cases h:xC p
  .exact⟨true,by simp[h]⟩
  .exact⟨false,by simp[h]⟩
 have CF:Hid (∀W,zB w W->zC 56 #[.agg #[uk,up]] W (zR W (.bool bf))):=λW hW=>Cm p uk up W (hk.below hW) (hp.below hW) hs bf aw;have aF:=cO aw;have aG:=cO hS;obtain⟨ak,ck,rfl,_,_⟩:=hk;obtain⟨ap,cp,rfl,_,_⟩:=hp;obtain⟨nk,aa⟩:=eX p.dv.length;obtain⟨np,ab⟩:=eX p.cU.length;have aV:=cO aa.symm;have J:=cO ab.symm;rw[<-aa]at aq CF|-;rw[<-ab]at aE ar CF|-;clear hs au aa ab aw hS;have ax:Hid (¬j5 p->false=bS):=by
  intro h;cases bS with
  |false=>rfl
  |true=>exact absurd (aB.1 rfl) h
 obtain⟨W0,ac⟩:=eX (w.alloc (.cells #[.slice ak nk ck,.slice ap np cp] 36));have z0:zE W0 w.heap.size 0 (.slice ak nk ck):=ac▸fE rfl;have z1:zE W0 w.heap.size 1 (.slice ap np cp):=ac▸fE rfl;have F:Hid (zB w W0):=ac▸ba;have bg:=cO (aq.below F);have aH:=cO (ar.below F);have aW:=cO (aG.below F aT);have aI:=CF W0 F;have aX:=cO ac;clear aq ar ac CF aG;go_enter func28,ntmps28;go_wp2_with fail;rw[<-aX];refine aI.mono ?_;rintro e w1 ⟨rfl,D⟩;have y0:=di z0 D;have y1:=di z1 D;have ad:=cO D;have aJ:=cO (iy F D);have aY:=z0;have aZ:=z1;clear aI D z0 z1;cases bf with
 |false=>
  have ae:Hid (¬j5 p):=by show¬_;intro h;have:=aF.2 h.1;cases this
  go_wp2_with fail;go_returns;exact⟨jx (ax ae),aJ⟩
 |true=>
  have af:=cO (aF.1 rfl);go_wp2_with fail;go_loopw[12] (λx wr=>∃k:Nat,k<=np/\x=zI k/\Hid (∀j,j<k->Ot p (p.cU.getD j gu))/\zB W0 wr) (λx _=>np-(intOf x).toNat)
  case atStart=>exact⟨0,dM _,rfl,λj hj=>absurd hj cM,ad⟩
  case round=>
   clear y0 y1 ad aJ;obtain⟨k,hk,rfl,K,I⟩:=hrel;have r0:=di aY I;have r1:=di aZ I;have aK:=cO (iy F I);have bh:=aK.size;by_cases ag:k<np
   .have bi:=cO (aH.below I);have aL:=cO (aW.below I (by have:=F.size;omega));obtain⟨_,_,eP,_,rP⟩:=aH.below I;simp only[de]at eP;obtain⟨rfl,-,rfl⟩:=eP;have a0:=cO rP;obtain⟨b,off,uc,ud,rfl,c0,c1,c2,c3,hc,hd⟩:=rP k (J▸ag);clear rP;have ah:=cO (af.2.2.1 k (J▸ag));have aj:Hid ((p.cU.getD k gu).dw.length<=1048576):=by
     show _<=_;have e1:=qh (l:=p.cU) (k:=k) (J▸ag);have e2:=vS p.cU (k+1) (by rw[J];omega);have e3:=aU.out;omega
    generalize hD:p.cU.getD k gu=d at c0 c1 hc hd ah aj;have HD:=cO hD;clear hD;obtain⟨O,L,fc,E⟩:=d;simp only at c0 c1 hc hd aj;obtain⟨aC,cC,rfl,bj,_⟩:=hc;obtain⟨aD,cD,rfl,bk,rD⟩:=hd;have aM:=cO rD;have be:(k:Int)<(np:Int):=cM;obtain⟨g,hg⟩:=eX (wr.heap.size+1);obtain⟨W1,al⟩:=eX ((wr.alloc (.cells #[zI O,zI L,.slice aC fc.length cC,.slice aD E.length cD] 100)).alloc (.cells #[.slice ak nk ck,.slice (some (zA b off)) np cp,zI O,zI L,.slice aC fc.length cC,.slice aD E.length cD,zN,zN] 125));have M:Ck W1 g (.slice ak nk ck) (.slice (some (zA b off)) np cp) O L (.slice aC fc.length cC) (.slice aD E.length cD) (zN) (zN):=by unfold Ck;rw[al,hg];have:=dJ (wr.alloc (.cells #[zI O,zI L,.slice aC fc.length cC,.slice aD E.length cD] 100)) (.cells #[.slice ak nk ck,.slice (some (zA b off)) np cp,zI O,zI L,.slice aC fc.length cC,.slice aD E.length cD,zN,zN] 125);simpa using this
    have D:zB wr W1:=al▸(ba).alloc dC _;rw[<-aV,<-J]at M;have am:∀i,i<p.cU.length->∀j,j<(p.cU.getD i gu).fP.length->0<=((p.cU.getD i gu).fP.getD j lY).index:=λi hi j hj=>((af.2.2.1 i hi).2.2.2.2.2 j hj).1;have a1:0<=L:=by have e1:=ah.1;have e2:=ah.2.1;simp only at e1 e2;omega
    have a2:=ah.2.2.1;have a3:=ah.2.2.2.2.1;obtain⟨ba,ay⟩:∃ba:Bool,ba=true↔∀i,i<E.length->kj p ⟨O,L,fc,E⟩ (E.getD i jI)=true:=by
     by_cases h:∀i,i<E.length->kj p ⟨O,L,fc,E⟩ (E.getD i jI)=true
     .exact⟨true,⟨λ_=>h,λ_=>rfl⟩⟩
     .exact⟨false,⟨λe=>(by cases e),λh'=>absurd h' h⟩⟩
    have az:=cO ay;have KA:=CG g p ⟨O,L,fc,E⟩ ak (some (zA b off)) aC aD ck cp cC cD (zN) (zN) a1 a2 W1 M (aL.below D (by have:=F.size;have:=I.size;omega)) (a0.below D) (aM.below D) aj (J▸aE) am ba ay;have FL:Hid (∀W,zB W1 W->(∀i,i<E.length->kj p ⟨O,L,fc,E⟩ (E.getD i jI)=true)->∀bb:Bool,(bb=true↔oM (qq E) E.length)->zC 58 #[zP g] W λe w'=>e=.returned (.bool bb)/\Below g W w'):=by intro W hW aN bb ai;have a6:=M.lt;have bl:=hW.size;have a7:0<g:=cM;refine FP.1 (NA 3 (cE _) g _ _ _ aD cD O L E W (M.below hW a6) a7 (aL.below (iy D hW) (by have:=F.size;have:=I.size;omega)) (λW' a8=>?_) (λi hi=>vz (aN i hi)) a3 aj bb ai);have e1:=iy D hW;have e2:Below wr.heap.size W W':=a8.mono cM;exact aM.below (e1.trans e2)
    have ad:=cO D;have bm:=cO M.lt;have HG:=cO hg;have aO:=cO al;have v0:=iF (o:=.cells #[zI O,zI L,.slice aC fc.length cC,.slice aD E.length cD] 100) r0;have v1:=iF (o:=.cells #[zI O,zI L,.slice aC fc.length cC,.slice aD E.length cD] 100) r1;clear M D am ay rD al hg;go_wp2_with fail;rw[<-aO,<-HG];refine KA.mono ?_;rintro e w2 ⟨rfl,aA⟩;have a9:=cO aA;have an:=cO ((iy I ad).trans (aA.mono (cV I.size ad.size)));clear aA KA r0 r1 v0 v1 c0 c1 c2 c3;cases ba with
    |false=>
     have ae:Hid (¬j5 p):=by show¬_;intro h;have h6:=(h.2 k (J▸ag)).1;rw[HD]at h6;have:=az.2 h6;cases this
     clear K;go_wp2_with fail;go_returns;exact⟨jx (ax ae),iy F an⟩
    |true=>
     obtain⟨bb,ai⟩:∃bb:Bool,bb=true↔oM (qq E) E.length:=by
      by_cases h:oM (qq E) E.length
      .exact⟨true,⟨λ_=>h,λ_=>rfl⟩⟩
      .exact⟨false,⟨λe=>(by cases e),λh'=>absurd h' h⟩⟩
     have aP:=cO ai;have CF:=FL w2 a9 (az.1 rfl) bb ai;clear FL ai;go_wp2_with fail;refine CF.mono ?_;rintro e w3 ⟨rfl,aQ⟩;have aR:=cO (an.trans (aQ.mono (by have:=HG.out;have:=I.size;omega)));clear aQ CF;cases bb with
     |false=>
      have ae:Hid (¬j5 p):=by show¬_;intro h;have h6:=(h.2 k (J▸ag)).2;rw[HD]at h6;have:=aP.2 h6;cases this
      clear K;go_wp2_with fail;go_returns;exact⟨jx (ax ae),iy F aR⟩
     |true=>
      have aS:Hid (∀j,j<k+1->Ot p (p.cU.getD j gu)):=by
       intro j hj;by_cases e:j=k
       .rw[e,HD];exact⟨az.1 (by first|rfl|trivial),aP.1 (by first|rfl|trivial)⟩
       .exact K j cM
      clear K;go_wp2_with fail;go_roundw
      case rel=>exact⟨k+1,cM,l9,aS,aR⟩
      case measure=>simp[intOf];omega
   .have bc:k=np:=cM;have bd:=cO ((aB.2 ⟨af,λi hi=>K i (by rw[bc,<-J];exact hi)⟩).symm);clear K;go_wp2_with fail;go_returns;exact⟨jx bd,aK⟩
end chk
end Go.Proofs.YtfpkdfeakanlpaaGreatDoor
