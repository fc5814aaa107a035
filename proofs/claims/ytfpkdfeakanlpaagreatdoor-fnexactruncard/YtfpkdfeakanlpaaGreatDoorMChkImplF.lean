import Derived.Deep.RegionHeld3
import Derived.Test.YtfpkdfeakanlpaaGreatDoorMChkFitsB
set_option linter.all false
set_option maxRecDepth 100000
set_option maxHeartbeats 8000000
namespace Go.Proofs.YtfpkdfeakanlpaaGreatDoor
open Go.Proofs.Tryz
namespace chk
open RowKit bts pg
variable{J:Int}{B g:Nat}{D E F I uc ud:Value}{w w':World}
def Te(w:World)(g:Nat)(x:In):Prop:=w.cell? ⟨g,0,none⟩=some (.int .i64 x.op)/\w.cell? ⟨g,1,none⟩=some (.int .i64 x.a)/\w.cell? ⟨g,2,none⟩=some (.int .i64 x.b)
def ON(g:Nat)(x:In):Value:=if 18<=x.op/\x.op<=21 then .pointer (some ⟨g,1,none⟩)else if 26<=x.op then .pointer (some ⟨g,2,none⟩)else .pointer none
def WE(n:Nat)(h:n<28):(sg n=9↔18<=n/\n<=21)/\(uS n=9↔26<=n):=by
 revert n;decide
def JT(g N:Nat)(x:In)(hx:Fw N x)(w:World)(hS:Fy w)(hI:Te w g x):
  zC 157 #[zP g] w (zR w (.tuple #[zI (jq x),zI (qK x)])):=by
 obtain⟨op,hop,eop⟩:=sO hx.lo hx.hi;obtain⟨s0,s1,s2,s3⟩:=hS op hop;obtain⟨c0,c1,c2⟩:=hI;have hcnt:=hx.VZ;have hres:=hx.SZ;have ht:=Iu op hop;have hT:jq x=if x.op=22\/x.op=23\/x.op=24 then tk op+x.a else tk op:=by unfold jq;rw[eop];rfl
 have hL:qK x=if x.op=22 then x.b else lv op:=by unfold qK;rw[eop];rfl
 have hlv:(x.op=23\/x.op=24)->lv op=0:=by intro h;have:op=23\/op=24:=cM;obtain rfl|rfl:=this<;>rfl
 rw[hT,hL];generalize tk op=t at*;generalize lv op=l at*;generalize((sg op:Nat):Int)=sa at s0;generalize((uS op:Nat):Int)=sb at s1;obtain⟨xo,xa,xb⟩:=x;simp only at*;clear hT hL hx;subst eop;have ho':(op:Int)<28:=cM;have hz:=dy _ _ s0;have hg:=dy _ _ c0;have k0:=iF (o:=.cells #[zI sa,zI sb,zI t,zI l] 184) c0;have k1:=iF (o:=.cells #[zI sa,zI sb,zI t,zI l] 184) c1;have k2:=iF (o:=.cells #[zI sa,zI sb,zI t,zI l] 184) c2;by_cases h22:(op:Int)=22
 .rw[cR (.inl h22),cR h22];have:=hcnt cM cM;have:=hres h22;have o22:((op:Int)==22)=true:=by simpa using h22
  clear hcnt hres hlv h22;go_enter Ts,Rc;go_wp2;first
   |(go_returns
     exact⟨rfl,by go_grown⟩)
   |(go_quiet (fail)
     go_wp2;go_returns;exact⟨rfl,dQ (by go_grown) _⟩)
 have o22:((op:Int)==22)=false:=iY;by_cases h23:(op:Int)=23\/(op:Int)=24
 .rw[cR (.inr h23),cK h22];have:=hcnt cM cM;have hl0:=hlv h23;have o23:((op:Int)==23)=true\/((op:Int)==23)=false/\((op:Int)==24)=true:=by
   obtain h|h:=h23
   .left;simpa using h
   .right;rw[h];decide
  clear hcnt hres hlv h22 h23;obtain o23|⟨o23,o24⟩:=o23;all_goals
   go_enter Ts,Rc;go_wp2;first
    |(go_returns
      exact⟨by rw[hl0];rfl,by go_grown⟩)
    |(go_quiet (fail)
      go_wp2;go_returns;exact⟨by rw[hl0];rfl,dQ (by go_grown) _⟩)
 have o23:((op:Int)==23)=false:=iY;have o24:((op:Int)==24)=false:=iY;rw[cK cM,cK h22];clear hcnt hres hlv h22 h23;go_enter Ts,Rc;go_wp2;first
  |(go_returns
    exact⟨rfl,by go_grown⟩)
  |(go_quiet (fail)
    go_wp2;go_returns;exact⟨rfl,dQ (by go_grown) _⟩)
def Gq(g N:Nat)(x:In)(hx:Fw N x)(w:World)(hS:Fy w)(hI:Te w g x):
  zC 158 #[zP g] w (zR w (ON g x)):=by
 obtain⟨op,hop,eop⟩:=sO hx.lo hx.hi;obtain⟨s0,s1,s2,s3⟩:=hS op hop;obtain⟨c0,c1,c2⟩:=hI;have h9:=WE op hop;have ho':(op:Int)<28:=cM;obtain⟨xo,xa,xb⟩:=x;simp only at*;subst eop;unfold ON;simp only;by_cases hA:18<=(op:Int)/\(op:Int)<=21
 .rw[cR hA];have e9:=h9.1.2 cM;rw[e9]at s0;generalize((uS op:Nat):Int)=sb at s1;generalize tk op=t at s2;generalize lv op=l at s3;have k0:=iF (o:=.cells #[zI 9,zI sb,zI t,zI l] 184) c0;clear h9 hA hx e9;go_enter Tr,Rb;go_wp2;go_returns;exact⟨rfl,by go_grown⟩
 rw[cK hA];have n9:¬sg op=9:=λe=>hA (by have:=h9.1.1 e;omega);have o9:(((sg op:Nat):Int)==9)=false:=iY;by_cases hB:26<=(op:Int)
 .rw[cR hB];have e9:=h9.2.2 cM;rw[e9]at s1;generalize((sg op:Nat):Int)=sa at s0 o9;generalize tk op=t at s2;generalize lv op=l at s3;have k0:=iF (o:=.cells #[zI sa,zI 9,zI t,zI l] 184) c0;clear h9 hA hx e9 n9;go_enter Tr,Rb;go_wp2;go_returns;exact⟨rfl,by go_grown⟩
 rw[cK hB];have n8:¬uS op=9:=λe=>hB (by have:=h9.2.1 e;omega);have o8:(((uS op:Nat):Int)==9)=false:=iY;generalize((sg op:Nat):Int)=sa at s0 o9;generalize((uS op:Nat):Int)=sb at s1 o8;generalize tk op=t at s2;generalize lv op=l at s3;have k0:=iF (o:=.cells #[zI sa,zI sb,zI t,zI l] 184) c0;clear h9 hA hx n9 n8;go_enter Tr,Rb;go_wp2;go_returns;exact⟨rfl,by go_grown⟩
def Ck.below{fs:Int}(h:Ck w g D E J fs uc ud F I)(K:Below B w w')(L:g<B):Ck w' g D E J fs uc ud F I:=(K.block g L).trans h
def Ck.lt{fs:Int}(h:Ck w g D E J fs uc ud F I):g<w.heap.size:=(dS.1 h).1
def WL(D np:Nat)(fs:Int)(E F:Nat)(v:Int)(h:0<=v):kn D np fs E F 3 v=decide (v<fs):=by unfold kn pA db;simp[h]
def WK(E np:Nat)(fs:Int)(D F:Nat)(v:Int)(h:0<=v):kn E np fs D F 5 v=decide (v<(D:Int)):=by unfold kn pA db;simp[h]
def JX(g:Nat)(f:Pr)(h:List Cp)(ak ap ac ad:Option Addr)(nk ck np cp cc cd:Nat)(v vT vB:Value)(h0:0<=f.da)(h1:f.da<=200)(w:World)(C:Ck w g (.slice ak nk ck) (.slice ap np cp) f.params f.da (.slice ac f.fP.length cc) (.slice ad f.dw.length cd) vT vB)(hr:qk w v h)(af:∀j,j<h.length->0<=(h.getD j lY).index):
  zC 97 #[zP g,v] w (zR w (.bool (h.all (me f)))):=by
 obtain⟨ao,cap,rfl,hm,hr⟩:=hr;obtain⟨n,hn⟩:=eX h.length;have HN:=cO hn.symm;have HC:=cO (λW (hW:zB w W)=>C.below hW C.lt);have I:Hid (∀c:Cp,me f c=if c.up then decide (c.index<(f.fP.length:Int))else decide (c.index<f.da)):=λ_=>rfl;obtain⟨ae,J⟩:=eX (h.all (me f));have K:=cO J.symm;rw[<-J];rw[<-hn]at hm|-;clear C hn J;go_enter func97,ntmps97;go_wp2_with fail;go_loopw[10] (λx wr=>∃i:Nat,i<=n/\x=zI i/\Hid (∀j,j<i->me f (h.getD j lY)=true)/\zB w wr) (λx _=>n-(intOf x).toNat)
 case atStart=>exact⟨0,dM _,rfl,λj hj=>absurd hj cM,cN _ _⟩
 case round=>
  obtain⟨i,ai,rfl,F,D⟩:=hrel;have aj:=D.size;by_cases aa:i<n
  .obtain⟨b5,ag,rfl,e0,e1⟩:=(hr.below D) i (HN▸aa);have ah:(i:Int)<(n:Int):=cM;have ab:=af i (HN▸aa);generalize hX:h.getD i lY=X at e0 e1 ab;obtain⟨cu,ix⟩:=X;simp only at e0 e1 ab;cases cu with
   |true=>
    have HK:Hid (∀W,zB w W->zC 96 #[zP g,zI 5,zI ix] W λe w'=>e=.returned (.bool (decide (ix<(f.fP.length:Int))))/\∃m,w'=W.drewN m):=by intro W hW;have:=tB g 5 cM ak ap ac ad nk ck np cp f.fP.length cc f.dw.length cd f.params f.da ix vT vB h0 h1 W (HC W hW);rwa[WK _ _ _ _ _ _ ab]at this
    by_cases E:ix<(f.fP.length:Int)
    .have L:Hid (∀j,j<i+1->me f (h.getD j lY)=true):=by
      intro j hj;by_cases e:j=i
      .rw[e,hX,I];simp[E]
      .exact F j cM
     rw[fM E]at HK;clear F;go_wp2_with(go_at_call 96;refine(HK _ (D.alloc D.size _)).mono ?_;rintro e w' ⟨rfl,m,rfl⟩)
     go_roundw
     case rel=>exact⟨i+1,cM,l9,L,dQ (D.alloc D.size _) _⟩
     case measure=>simp[intOf];omega
    .have M:Hid (false=ae):=by
      show _=_;rw[<-K];symm;rw[Gi];refine⟨h.getD i lY,?_,by rw[hX,I];simp[E]⟩;have O:i<h.length:=HN▸aa;rw[cB,cG O];exact fA O
     rw[fj E]at HK;clear F;go_wp2_with(go_at_call 96;refine(HK _ (D.alloc D.size _)).mono ?_;rintro e w' ⟨rfl,m,rfl⟩)
     go_returns;exact⟨gZ M,dQ (D.alloc D.size _) _⟩
   |false=>
    have HK:Hid (∀W,zB w W->zC 96 #[zP g,zI 3,zI ix] W λe w'=>e=.returned (.bool (decide (ix<f.da)))/\∃m,w'=W.drewN m):=by intro W hW;have:=tB g 3 cM ak ap ac ad nk ck np cp f.fP.length cc f.dw.length cd f.params f.da ix vT vB h0 h1 W (HC W hW);rwa[WL _ _ _ _ _ _ ab]at this
    by_cases E:ix<f.da
    .have L:Hid (∀j,j<i+1->me f (h.getD j lY)=true):=by
      intro j hj;by_cases e:j=i
      .rw[e,hX,I];simp[E]
      .exact F j cM
     rw[fM E]at HK;clear F;go_wp2_with(go_at_call 96;refine(HK _ (D.alloc D.size _)).mono ?_;rintro e w' ⟨rfl,m,rfl⟩)
     go_roundw
     case rel=>exact⟨i+1,cM,l9,L,dQ (D.alloc D.size _) _⟩
     case measure=>simp[intOf];omega
    .have M:Hid (false=ae):=by
      show _=_;rw[<-K];symm;rw[Gi];refine⟨h.getD i lY,?_,by rw[hX,I];simp[E]⟩;have O:i<h.length:=HN▸aa;rw[cB,cG O];exact fA O
     rw[fj E]at HK;clear F;go_wp2_with(go_at_call 96;refine(HK _ (D.alloc D.size _)).mono ?_;rintro e w' ⟨rfl,m,rfl⟩)
     go_returns;exact⟨gZ M,dQ (D.alloc D.size _) _⟩
  .have HF:Hid (true=ae):=by
    show _=_;rw[<-K];symm;rw[oE];intro x hx;obtain⟨j,hj,rfl⟩:=gM hx;have:=F j (by have:=HN.out;omega);rwa[cB,cG hj]at this
   clear F;go_wp2_with fail;go_returns;exact⟨gZ HF,D⟩
def Ck.TR{J:Value}{I fs:Int}(h:Ck w g D E I fs uc ud J F)(v:Value):Ck (w.setCell ⟨g,6,none⟩ v) g D E I fs uc ud v F:=by have K:=lq.of h rfl;exact lq.Ds (K.set 6 v)
def Ck.Vw{J:Value}{I fs:Int}(h:Ck w g D E I fs uc ud F J)(v:Value):Ck (w.setCell ⟨g,7,none⟩ v) g D E I fs uc ud F v:=by have K:=lq.of h rfl;exact lq.Ds (K.set 7 v)
def Ck.block{fs:Int}(h:Ck w g D E J fs uc ud F I)(e:w'.heap[g]?=w.heap[g]?):Ck w' g D E J fs uc ud F I:=e.trans h
def lI{E c n:Nat}{v:Value}{us:List Value}(h:w.ownsRow B E c v n us)(K:∀b,v.ownBlock=some b->w'.heap[b]?=w.heap[b]?):w'.ownsRow B E c v n us:=by
 obtain⟨L,M⟩:=h;refine⟨L,?_⟩;obtain h|⟨J,D,F,e,I,O,r⟩:=M
 .exact .inl h
 .exact .inr ⟨J,D,F,e,I,(K J (by rw[e];rfl)).trans O,r⟩
def Qu(cJ g m cT D:Nat)(L:Option Addr)(t:List Nat)(uk up uc ud vB:Value)(fp fs:Int)(w:World)(C:Ck w g uk up fp fs uc ud (.slice L m cT) vB)(ho:w.ownsRow cJ 3 1 (.slice L m cT) m (nc t))(M:(Value.slice L m cT).ownBlock≠some g)(hm:m<=8388608)(hb:cJ<=w.heap.size)(aa:cJ<=g):
  zC 155 #[.pointer (some (zA g 6)),zI D] w λe w'=>(∃v,e=.returned v)/\∃I F,Ck w' g uk up fp fs uc ud (zS I (m+1) F) vB/\w'.ownsRow cJ 3 1 (zS I (m+1) F) (m+1) (nc t++[zI (D:Int)]) /\
   I≠g/\((Value.slice L m cT).ownBlock=some I\/w.heap.size<=I)/\(∀b,b<w.heap.size->b≠g->(Value.slice L m cT).ownBlock≠some b->w'.heap[b]?=w.heap[b]?)/\Below cJ w w':=by
 obtain⟨i0,hi,ab,ac,ad⟩:=fQ vA;have c6:=C.at 6 _ rfl;have ae:=C.lt;have al:=C.free 6;have af:∀k,(Value.slice L m cT).ownBlock=some k->cJ<=k:=λk hk=>(ho.lt k hk).1;go_enter func155,ntmps155;go_wp2_with(at_builtin;refine wpList_append_lies _ rfl _ _ _ rfl cJ 3 i0 (zI 0) 1 8 kN hi ab ac ad rfl cM _ m (nc t) rfl (ho.alloc _) (zA w.heap.size 0) 1 1 [zI (D:Int)] rfl rfl (World.news_of_block (cs:=#[zI (D:Int)]) (t:=3) (fr:=(0,0)) (by have:=dJ w (Obj.cells #[zI (D:Int)] 3 (0,0));simpa using this)) OJ cM (by unfold maxLen;omega) cM iY (w.heap.size+1) dC ?_;intro I F w2 K E J ak;have ag:=E.block g iY (λe=>M e.symm);have C2:=C.block (ag.trans (iZ _ _ ae));have d6:=C2.at 6 _ rfl;have am:=C2.free 6)
 go_returns;have O:I≠g:=by
  intro e;obtain h|h:=J
  .exact M (by rw[<-e];exact h)
  .omega
 refine⟨⟨_,rfl⟩,I,F,C2.TR _,?_,O,?_,?_,?_⟩
 .refine lI K (λb hb=>?_);have e:I=b:=by simpa[Value.ownBlock]using hb
  subst e;exact cZ w2 (zA g 6) _ I O
 .obtain h|h:=J
  .exact .inl h
  .exact .inr cM
 .intro b ah ai aj;rw[cZ w2 (zA g 6) _ b ai,E.block b iY (λe=>aj e.symm),iZ _ _ ah]
 .exact(((cN cJ w).alloc hb _).grown E iY af).setCell (p:=(zA g 6)) aa _
structure Fi(w:World)(cJ g gB N:Nat)(hs:List Int)(aT:Option Addr)(cT:Nat)(t:List Nat)(uk up uc ud:Value)(fp fs:Int):Prop where
 ck:Ck w g uk up fp fs uc ud (.slice aT t.length cT) (.slice (some ⟨gB,0,none⟩) N N)
 fl:Fl w cJ gB N hs (.slice aT t.length cT) t
 ne:gB≠g
 apart:(Value.slice aT t.length cT).ownBlock≠some g
 lo:cJ≤g
def Fi.below{cJ gB N X:Nat}{hs:List Int}{D:Option Addr}{E:Nat}{t:List Nat}{fs:Int}(h:Fi w cJ g gB N hs D E t F I uc ud J fs)(K:Below X w w')(L:w.heap.size<=X):Fi w' cJ g gB N hs D E t F I uc ud J fs:=
 ⟨h.ck.below K (dj h.ck.lt L),h.fl.below K L,h.ne,h.apart,h.lo⟩
def tw(cJ g gB N eA:Nat)(n:Int)(hs:List Int)(K:Option Addr)(L:Nat)(t:List Nat)(M O uc ud:Value)(fp fs:Int)(w:World)(F:Fi w cJ g gB N hs K L t M O uc ud fp fs)(_:N<=1048576)(h:jd hs t eA n=none):
  zC 99 #[zP g,zI eA,zI n] w (zR w (.bool false)):=by
 have c7:=F.ck.at 7 _ rfl;by_cases E:eA<N
 .have J:=F.fl.own.cellAt eA cM;rw[wT (F.fl.len▸E)]at J;unfold jd at h;rw[cR (F.fl.len▸E)]at h;by_cases D:hs.getD eA (-1)<0
  .rw[cR D]at h;cases h
  .rw[cK D]at h;have I:¬hs.getD eA (-1)=n:=by intro e;rw[cR e]at h;cases h
   generalize hs.getD eA (-1)=z at J D I;have hd:decide ((N:Int)<=(eA:Int))=false:=iY;have hz:(z==n)=false:=by simpa using I
   have ha:(eA:Int)<(N:Int):=cM;clear F h;go_enter KZ,FQ;go_wp2;first
    |(go_returns
      exact⟨rfl,by go_grown⟩)
    |(go_quiet (fail)
      go_wp2;go_returns;exact⟨rfl,dQ (cN _ _) _⟩)
 .have hd:decide ((N:Int)<=(eA:Int))=true:=iY;clear F h;go_enter KZ,FQ;go_wp2;go_returns;exact⟨rfl,by go_grown⟩
def qU(cJ g gB N eA:Nat)(n:Int)(hs ad:List Int)(aT:Option Addr)(cT:Nat)(t t':List Nat)(uk up uc ud:Value)(fp fs:Int)(w:World)(F:Fi w cJ g gB N hs aT cT t uk up uc ud fp fs)(_:N<=1048576)(ht:t.length<=8388608)(hb:cJ<=w.heap.size)(I:jd hs t eA n=some (ad,t')):
  zC 99 #[zP g,zI eA,zI n] w λe w'=>e=.returned (.bool true)/\∃ai aj,Fi w' cJ g gB N ad ai aj t' uk up uc ud fp fs/\Below cJ w w'/\(∀b,b<w.heap.size->b≠g->b≠gB->(Value.slice aT t.length cT).ownBlock≠some b->w'.heap[b]?=w.heap[b]?):=by
 have c7:=F.ck.at 7 _ rfl;unfold jd at I;by_cases J:eA<hs.length
 .rw[cR J]at I;have an:eA<N:=by rw[<-F.fl.len];exact J
  have hc:=F.fl.own.cellAt eA cM;rw[wT J]at hc;have hd:decide ((N:Int)<=(eA:Int))=false:=iY;have ha:(eA:Int)<(N:Int):=cM;by_cases E:hs.getD eA (-1)<0
  .rw[cR E]at I;simp only[dB,fS]at I;obtain⟨rfl,rfl⟩:=I;generalize hs.getD eA (-1)=z at hc E;have ap:=F.fl.own.frozenAt eA;have ae:=F.fl.own.stored eA (zI n);obtain⟨W1,K⟩:=eX (w.setCell (zA gB eA) (zI n));have O:∀b,b≠gB->W1.heap[b]?=w.heap[b]?:=λb hb=>K▸cZ w (zA gB eA) _ b hb;have C1:=F.ck.block (O g (λe=>F.ne e.symm));have O1:=lI F.fl.todo (λb hb=>O b (λe=>F.fl.apart (by rw[hb,e])))
   have aa:W1.heap.size=w.heap.size:=by rw[K];simp
   have ak:Hid (W1.ownsRow cJ 3 1 (zS gB N N) N (ic (hs.set eA n))):=by show World.ownsRow _ _ _ _ _ _ _;rw[K,No];exact ae.1
   have A:=Qu cJ g t.length cT eA aT t uk up uc ud _ fp fs W1 C1 O1 F.apart ht cM F.lo;have ab:=F.fl.own.lt gB rfl;have al:Hid (Below cJ w W1):=K▸(cN _ _).setCell (p:=(zA gB eA)) ab.1 _;clear ae C1 O1;go_enter KZ,FQ;go_wp2_with fail;rw[<-K];refine A.mono ?_;rintro e w2 ⟨⟨v,rfl⟩,g',af,C2,O2,am,M,ac,ag⟩;clear A;have D:w2.ownsRow cJ 3 1 (zS gB N N) N (ic (hs.set eA n)):=lI ak (λb hb=>by
    have e:gB=b:=by simpa[Value.ownBlock]using hb
    subst e;exact ac gB (aa▸ab.2) F.ne (F.fl.apart))
   have d7:=C2.at 7 _ rfl;have dc:=D.cellAt eA cM;rw[wT (by simp;exact J),ju J]at dc;have ah:(t++[eA]).length=t.length+1:=dC;have L:Hid (Fi w2 cJ g gB N (hs.set eA n) (some (zA g' 0)) af (t++[eA]) uk up uc ud fp fs/\Below cJ w w2/\(∀b,b<w.heap.size->b≠g->b≠gB->(Value.slice aT t.length cT).ownBlock≠some b->w2.heap[b]?=w.heap[b]?)):=by
    refine⟨⟨ah▸C2,⟨D,by rw[ah,vd];exact O2,?_,by simp[F.fl.len]⟩,F.ne,?_,F.lo⟩,al.trans ag,λb h1 h2 h3 h4=>(ac b (aa▸h1) h2 h4).trans (O b h3)⟩
    .intro e;have e2:g'=gB:=by simpa[Value.ownBlock]using e
     obtain h|h:=M
     .exact F.fl.apart (by rw[h,e2])
     .have:=aa;have:=ab.2;omega
    .intro e;have e2:g'=g:=by simpa[Value.ownBlock]using e
     exact am e2
   clear C2 O2 M ac ag D;go_wp2_with fail;first
    |(go_returns
      exact⟨rfl,_,_,L⟩)
    |(go_quiet (fail)
      go_wp2;go_returns;exact⟨rfl,_,_,L.1.below (dQ (cN _ _) _) (cE _),L.2.1.trans (dQ (cN _ _) _),L.2.2⟩)
  .rw[cK E]at I;by_cases he:hs.getD eA (-1)=n
   .rw[cR he]at I;simp only[dB,fS]at I;obtain⟨rfl,rfl⟩:=I;rw[he]at hc E;go_enter KZ,FQ;go_wp2;first
     |(go_returns
       first
        |exact⟨rfl,_,_,F,cN _ _,λ_ _ _ _ _=>rfl⟩
        |exact⟨rfl,⟨_,_,F⟩,cN _ _,λ_ _ _ _ _=>rfl⟩)
     |(go_quiet (fail)
       go_wp2;go_returns;exact⟨rfl,_,_,F.below (dQ (cN _ _) _) (cE _),dQ (cN _ _) _,λ_ _ _ _ _=>rfl⟩)
   .rw[cK he]at I;cases I
 .rw[cK J]at I;cases I
end chk
end Go.Proofs.YtfpkdfeakanlpaaGreatDoor
