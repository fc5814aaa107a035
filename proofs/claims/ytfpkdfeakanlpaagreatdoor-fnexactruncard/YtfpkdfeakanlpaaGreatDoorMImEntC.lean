import Derived.Deep.LoopGhost
import Derived.Test.YtfpkdfeakanlpaaGreatDoorMImForN
set_option linter.all false
set_option maxRecDepth 100000
set_option maxHeartbeats 8000000
namespace Go.Proofs.YtfpkdfeakanlpaaGreatDoor
open Go.Proofs.Tryz
namespace im
open RowKit bts pg rn
variable{c':Co}{G G':Gh}{H H':Hi}{l:List Fr}{b cJ c cap g i m:Nat}{ra ya:Nat→Int}{f:Nat→Nat→Int}{S S1:Nat→Prop}{V W:St}{N:eO→Prop}{R R':eO→fW}{Z Z':eO→Value}{T:TypeId}{u v x:Value}{w w1:World}
def oK(h:W.cQ<W.cS.length)(l:List Fr)(c:Nat):(W.du l).cS.getD c dE=if c=W.cQ then {W.co with cy:=l}else W.cS.getD c dE:=by
 split
 .rename_i e;subst e;exact ez _ _ _ _ h
 .rename_i e;exact dR _ _ _ _ _ (λq=>e q.symm)
def tW(h:W.cQ<W.cS.length)(l:List Fr)(c j:Nat):(W.du l).fr c j=if c=W.cQ then l.getD j pG else W.fr c j:=by unfold St.fr;rw[oK h];split<;>rfl
def tG(W:St)(l:List Fr):(W.du l).cS.length=W.cS.length:=by simp[St.du,St.dW]
def Fc(D:W.cQ<W.cS.length)(I:∀c j,c≠W.cQ\/j<W.co.cy.length->f c j=G.wa c j){Z:eO->Value}{t:eO}(E:eW W t)(K:t≠(4,W.cQ,0))(L:t≠(5,W.cQ,0))(M:6<=t.1->t.1<=8->t.2.1=W.cQ->l.getD t.2.2 pG=W.co.cy.getD t.2.2 pG):
  gF (W.du l) {G with wa:=f} H (gy Z (5,W.cQ,0) u) t=gF W G H Z t/\sP (W.du l) t=sP W t:=by
 obtain⟨s,i,j⟩:=t;have n:∀a b d,a≠5->gy Z (5,W.cQ,0) u (a,b,d)=Z (a,b,d):=λa b d e=>dL (λq=>e (by cases q;rfl)) u;have F:vi {G with wa:=f} (gy Z (5,W.cQ,0) u)=vi G Z:=(nJ dC u).trans rfl;have h:6<=s->s<=8->(W.du l).fr i j=W.fr i j:=λO h8=>by
  rw[tW D];split
  .rename_i e;subst e;exact M O h8 rfl
  .rfl
 obtain _|_|_|_|_|_|_|_|_|_|s:=s
 .exact⟨qt F _,rfl⟩
 .exact⟨rfl,rfl⟩
 .refine⟨?_,rfl⟩;show _++[gy Z (5,W.cQ,0) u (3,i,0)]=_;rw[n 3 _ _ iM];rfl
 .refine⟨?_,rfl⟩;show((W.funcs.getD i (0,[])).2.flatMap λx=>[ptr (gy Z (5,W.cQ,0) u (0,x,0))])=_;exact ga (λq=>(W.funcs.getD i (0,[])).2.flatMap q) (funext λx=>by rw[n 0 _ _ iM])
 .have:i≠W.cQ:=λe=>K (by rw[e,show j=0 from E.2]);refine⟨?_,rfl⟩;show[Value.int .i64 ((W.du l).cS.getD i dE).state,gy Z (5,W.cQ,0) u (5,i,0)]++vi {G with wa:=f} (gy Z (5,W.cQ,0) u) ((W.du l).cS.getD i dE).body++[.bool (decide (i≠0/\0<=((W.du l).cS.getD i dE).held)),if i=0\/((W.du l).cS.getD i dE).held<0 then .pointer none else ptr (gy Z (5,W.cQ,0) u (4,((W.du l).cS.getD i dE).gq,0)),zI (G.rw i),zI (G.yw i)]=_;rw[oK D,cK this,F,n 4 _ _ iM,dL (λq=>this (by cases q;rfl))];rfl
 .have:i≠W.cQ:=λe=>L (by rw[e,show j=0 from E.2]);have J:(W.du l).cS.getD i dE=W.cS.getD i dE:=by rw[oK D,cK this]
  refine⟨?_,by show((W.du l).cS.getD i dE).cy.length=_;rw[J];rfl⟩;show((List.range ((W.du l).cS.getD i dE).cy.length).flatMap λk=>[if ((W.du l).fr i k).guard then Value.iface 199 (.agg #[zI (f i k)])else .iface 147 (ptr (gy Z (5,W.cQ,0) u (6,i,k)))])=_;rw[J];refine ga (λq=>(List.range _).flatMap q) (funext λk=>?_);rw[tW D,cK this,I i k (.inl this),n 6 _ _ iM]
 .refine⟨?_,rfl⟩;show[ptr (gy Z (5,W.cQ,0) u (2,((W.du l).fr i j).fn,0)),zI ((W.du l).fr i j).eA,gy Z (5,W.cQ,0) u (7,i,j),gy Z (5,W.cQ,0) u (8,i,j),zI (f i j)]=_;rw[h iM iM,n 2 _ _ iM,n 7 _ _ iM,n 8 _ _ iM,I i j (by
   by_cases e:i=W.cQ
   .subst e;exact .inr E.2.1
   .exact .inl e)];rfl
 .refine⟨?_,by show((W.du l).fr i j).da.length=_;rw[h iM iM];rfl⟩;show(((W.du l).fr i j).da.flatMap λx=>[ptr (gy Z (5,W.cQ,0) u (0,x,0))])=_;rw[h iM iM];exact ga (λq=>(W.fr i j).da.flatMap q) (funext λx=>by rw[n 0 _ _ iM])
 .refine⟨?_,by show((W.du l).fr i j).ops.length=_;rw[h iM iM];rfl⟩;show((W.du l).fr i j).ops.flatMap (vi _ _)=_;rw[h iM iM,F];rfl
 .refine⟨?_,rfl⟩;show[H.ps,H.ks,H.ins]++zG++[ptr (gy Z (5,W.cQ,0) u (4,W.cQ,0)),_,_,_,_,_,_,_,_]=_;rw[n 4 _ _ iM];rfl
 .exact absurd E (by intro q;exact q)
def AO(F:W.cQ<W.cS.length)(J:∀s:eO,6<=s.1->s.1<=8->s.2.1=W.cQ->s.2.2<l.length->(l.getD s.2.2 pG).guard=false->(s.2.2<W.co.cy.length/\l.getD s.2.2 pG=W.co.cy.getD s.2.2 pG)\/N s){s:eO}(hs:eW (W.du l) s):(eW W s/\(6<=s.1->s.1<=8->s.2.1=W.cQ->l.getD s.2.2 pG=W.co.cy.getD s.2.2 pG))\/N s:=by
 have E:=tG W l;by_cases q:6<=s.1/\s.1<=8
 .have I:s.1=6\/s.1=7\/s.1=8:=cM;have h:s.2.1<(W.du l).cS.length/\s.2.2<((W.du l).cS.getD s.2.1 dE).cy.length/\((W.du l).fr s.2.1 s.2.2).guard=false:=by
   obtain⟨s,c,j⟩:=s;obtain e|e|e:=I<;>(dsimp only at e;subst e;exact hs)
  have D:s.2.1<W.cS.length/\s.2.2<(W.cS.getD s.2.1 dE).cy.length/\(W.fr s.2.1 s.2.2).guard=false->eW W s:=by obtain⟨s,c,j⟩:=s;intro p;obtain e|e|e:=I<;>(dsimp only at e;subst e;exact p)
  rw[E,oK F,tW F]at h;by_cases e:s.2.1=W.cQ
  .rw[cR e,cR e]at h;obtain p|p:=J s q.1 q.2 e h.2.1 h.2.2
   .refine .inl ⟨D ⟨h.1,?_,?_⟩,λ_ _ _=>p.2⟩
    .rw[e];exact p.1
    .rw[e];show(W.co.cy.getD s.2.2 pG).guard=false;rw[<-p.2];exact h.2.2
   .exact .inr p
  .rw[cK e,cK e]at h;exact .inl ⟨D h,λ_ _ p=>absurd p e⟩
 .refine .inl ⟨?_,λa b=>absurd ⟨a,b⟩ q⟩;obtain⟨s,c,j⟩:=s;dsimp only at q;obtain _|_|_|_|_|_|_|_|_|_|s:=s
  .exact hs
  .exact hs
  .exact hs
  .exact hs
  .exact⟨E▸hs.1,hs.2⟩
  .exact⟨E▸hs.1,hs.2⟩
  .omega
  .omega
  .omega
  .exact hs
  .exact hs
def Im.sf(h:Im cJ W G R H w)(D:W.cQ<W.cS.length){r:fW}(hN:∀s,N s->s.1≠0/\∀i,i<W.tables.length->(R s).v.ownBlock≠some (G.map i))(E:∀s,N s->(R s).n=sP (W.du l) s/\(R s).cs=gF (W.du l) {G with wa:=f} H (gy (hd R) (5,W.cQ,0) r.v) s)(J:∀s:eO,6<=s.1->s.1<=8->s.2.1=W.cQ->s.2.2<l.length->(l.getD s.2.2 pG).guard=false->(s.2.2<W.co.cy.length/\l.getD s.2.2 pG=W.co.cy.getD s.2.2 pG)\/N s)(hf:∀c j,c≠W.cQ\/j<W.co.cy.length->f c j=G.wa c j)(hr:r.n=l.length)(hc:r.cs=(List.range l.length).flatMap λj=>[if (l.getD j pG).guard then .iface 199 (.agg #[.int .i64 (f W.cQ j)])else .iface 147 (ptr (hd R (6,W.cQ,j)))])(hw:rn.Rows cJ Is Iz (λs=>eW W s\/N s) (jG R (5,W.cQ,0) r) w1)(K:w.grownBy w1 (R (5,W.cQ,0)).v.ownBlock)(hl:∀k,r.v.ownBlock=some k->(R (5,W.cQ,0)).v.ownBlock=some k\/w.heap.size<=k)(L:Lo (W.du l) R)(hv:(R (4,W.cQ,0)).v=.slice (some ⟨b,0,none⟩) 1 cap):
  ∃R',Im cJ (W.du l) {G with wa:=f} R' H (w1.setCell ⟨b,1,none⟩ r.v)/\hd R'=gy (hd R) (5,W.cQ,0) r.v/\∀s,s≠(5,W.cQ,0)->(R' s).n=(R s).n:=by
 have t5:eW W (5,W.cQ,0):=⟨D,rfl⟩
 have M:eW W (4,W.cQ,0):=⟨D,rfl⟩
 have n4:=h.ij _ M dC;have c4:=h.cells _ M (λe=>by simp at e);have F:vi {G with wa:=f} (gy (hd R) (5,W.cQ,0) r.v)=vi G (hd R):=(nJ dC _).trans rfl;have O:(W.du l).cS.getD W.cQ dE={W.co with cy:=l}:=by rw[oK D,cR rfl]
 refine h.move (V:=W.du l) (G':={G with wa:=f}) t5 M dC dC dC hN hw K hl (by rw[n4];exact hv) (j:=1) (λs I=>(AO D J I).imp (·.1) id) ?_ (λs I aa h0=>?_) rfl rfl rfl L ?_ ?_ (λs I h5 h4 h0=>?_) rfl (λi=>?_)
 .show r.n=((W.du l).cS.getD W.cQ dE).cy.length;rw[O];exact hr
 .obtain q|q:=AO D J I
  .rw[h.ij s q.1 h0];by_cases e4:s=(4,W.cQ,0)
   .subst e4;rfl
   .exact((Fc (H:=H) (Z:=hd R) (u:=r.v) D hf q.1 e4 aa q.2).2).symm
  .exact(E s q).1
 .show r.cs=(List.range ((W.du l).cS.getD W.cQ dE).cy.length).flatMap λk=>[if ((W.du l).fr W.cQ k).guard then Value.iface 199 (.agg #[zI (f W.cQ k)])else .iface 147 (ptr (gy (hd R) (5,W.cQ,0) r.v (6,W.cQ,k)))]
  rw[O,hc];refine ga (λq=>(List.range _).flatMap q) (funext λk=>?_);rw[tW D,cR rfl,dL dC]
 .rw[c4];show _=[Value.int .i64 ((W.du l).cS.getD W.cQ dE).state,gy (hd R) (5,W.cQ,0) r.v (5,W.cQ,0)]++vi {G with wa:=f} (gy (hd R) (5,W.cQ,0) r.v) ((W.du l).cS.getD W.cQ dE).body++[.bool (decide (W.cQ≠0/\0<=((W.du l).cS.getD W.cQ dE).held)),if W.cQ=0\/((W.du l).cS.getD W.cQ dE).held<0 then .pointer none else ptr (gy (hd R) (5,W.cQ,0) r.v (4,((W.du l).cS.getD W.cQ dE).gq,0)),zI (G.rw W.cQ),zI (G.yw W.cQ)];rw[O,F,jL,dL dC];rfl
 .obtain q|q:=AO D J I
  .rw[h.cells s q.1 h0];exact(Fc D hf q.1 h4 h5 q.2).1.symm
  .exact(E s q).2
 .unfold rB;rw[F];rfl
def Im.m9(h:Im cJ W G R H w)(hv:V.vars=W.vars)(ht:V.tables=W.tables)(hf:V.funcs=W.funcs)(hc:V.cS=W.cS)(hp:H'.pc=H.pc)(h9:(R (9,0,0)).v=.slice (some ⟨g,0,none⟩) 1 cap){j:Nat}(J:(gF W G H (hd R) (9,0,0)).set j u=gF V G H' (hd R) (9,0,0)):
  ∃R',Im cJ V G R' H' (w.setCell ⟨g,j,none⟩ u)/\hd R'=hd R/\∀s,(R' s).n=(R s).n:=by
 obtain⟨i,vars,I,K,aa,L,F,dw,D,lu,E,iq,size⟩:=V;dsimp only at hv ht hf hc;subst hv ht hf hc;have M:eW W (9,0,0):=rfl;have n9:=h.ij _ M dC;have c9:=h.cells _ M (λe=>by simp at e);refine h.Md (V:=⟨i,W.vars,W.tables,W.funcs,W.cS,L,F,dw,D,lu,E,iq,size⟩) (G':=G) (H':=H') ⟨λs=>j8,λs _=>rfl,rfl,rfl,rfl,rfl,λ_=>rfl,λ_ _=>rfl⟩ M (by rw[n9];exact h9) (λ_=>by rw[c9];exact J) (λs hs O _=>?_) (λx hx h0=>((h.var x hx).resolve_left cM).2.2) rfl (λ_=>rfl);obtain⟨s,a,b⟩:=s;obtain _|_|_|_|_|_|_|_|_|_|s:=s
 .rfl
 .rfl
 .show H'.pc _++_=_;rw[hp];rfl
 .rfl
 .rfl
 .rfl
 .rfl
 .rfl
 .rfl
 .exact absurd (by rw[show(a,b)=(0,0)from hs]) O
 .exact absurd hs (by intro q;exact q)
def PZ(W:St)(G:Gh)(Z:eO->Value)(m:Nat):Value:=if W.db.guard then .iface 199 (.agg #[.int .i64 (G.wa W.cQ m)])else .iface 147 (ptr (Z (6,W.cQ,m)))
def Im.Br(h:Im cJ W G R H w)(F:c<W.cS.length):∃b cap,hd R (4,c,0)=.slice (some ⟨b,0,none⟩) 1 cap/\eY W G R b/\(∀j u,(gF W G H (hd R) (4,c,0))[j]?=some u->w.cell? ⟨b,j,none⟩=some u)/\∀j,w.frozen? ⟨b,j,none⟩=false:=by
 have D:eW W (4,c,0):=⟨F,rfl⟩
 obtain⟨b,cap,E,_,I,J,_⟩:=h.eA D (h.ij _ D dC) dC;exact⟨b,cap,E,.row D (by unfold hd;rw[E];rfl),I,J⟩
def Im.Wl(h:Im cJ W G R H w)(J:W.cQ<W.cS.length)(K:W.co.cy.length=m+1):∃b cap,(R (5,W.cQ,0)).v=.slice (some ⟨b,0,none⟩) (m+1) cap/\(R (5,W.cQ,0)).n=m+1/\m+1<=cap/\w.cell? ⟨b,m,none⟩=some (PZ W G (hd R) m):=by
 have D:eW W (5,W.cQ,0):=⟨J,rfl⟩
 have E:(R (5,W.cQ,0)).n=m+1:=by rw[<-K];exact h.ij _ D dC
 obtain⟨b,cap,F,_,I⟩:=h.eH.uE D cM;rw[E]at I;refine⟨b,cap,by rw[<-E];exact F,E,I,h.eH.cell D F (by rw[E];show m<(m+1)*1;omega) ?_⟩;rw[h.cells _ D (λe=>by simp at e)];show((List.range W.co.cy.length).flatMap λj=>[if (W.fr W.cQ j).guard then Value.iface 199 (.agg #[zI (G.wa W.cQ j)])else .iface 147 (ptr (hd R (6,W.cQ,j)))])[m]?=_;have:=oY (c:=1) (n:=W.co.cy.length) (i:=m) (r:=0) (f:=λj=>[if (W.fr W.cQ j).guard then Value.iface 199 (.agg #[zI (G.wa W.cQ j)])else .iface 147 (ptr (hd R (6,W.cQ,j)))]) (λ_=>rfl) cM cM;rw[jV,eD]at this;rw[this];unfold PZ;rw[<-yR W,show W.co.cy.length-1=m by omega];rfl
def LQ(h:Im cJ W G R H w)(D:W.cQ<W.cS.length)(F:W.co.cy.length=m+1)(I:m<=1000000000000):
  Calls Tryz.prog 66 #[ptr (hd R (4,W.cQ,0))] w λe J=>e=.returned (PZ W G (hd R) m)/\Below w.heap.size w J:=by
 obtain⟨b,cap,K,_,L,_⟩:=h.Br D;obtain⟨b5,E,M,_,_,O⟩:=h.Wl D F;rw[show ptr (hd R (4,W.cQ,0))=zP b by rw[K];rfl];exact DM (by rw[<-M];exact L 1 _ rfl) I O
def Rm(h:Im cJ W G R H w)(D:W.cQ<W.cS.length)(J:W.co.cy.length=0):
  Calls Tryz.prog 66 #[ptr (hd R (4,W.cQ,0))] w λe E=>e=.returned .nilIface/\Below w.heap.size w E:=by
 obtain⟨b,cap,K,_,L,_⟩:=h.Br D;have F:eW W (5,W.cQ,0):=⟨D,rfl⟩
 obtain⟨a,k,I⟩:=h.eH.sliced F;rw[show(R (5,W.cQ,0)).n=0 from(h.ij (5,W.cQ,0) F dC).trans J]at I;rw[show ptr (hd R (4,W.cQ,0))=zP b by rw[K];rfl];refine(LJ (by rw[<-I];exact L 1 _ rfl)).mono ?_;rintro e E ⟨rfl,rfl⟩;exact⟨rfl,cN _ _⟩
def ze(h:Im cJ W G R H w)(D:W.cQ<W.cS.length)(hm:W.co.cy.length=m+1)(hb:m<=1000000000000):
  Calls Tryz.prog 141 #[ptr (hd R (4,W.cQ,0))] w λe w'=>e=.returned (PZ W G (hd R) m)/\∃R' u,Im cJ W.fU G R' H w'/\hd R'=gy (hd R) (5,W.cQ,0) u/\Kp (eY W G R) (eY W.fU G R') w w'/\(∀k,eY W.fU G R' k->(∃s,eW W s/\s≠(6,W.cQ,m)/\s≠(8,W.cQ,m)/\(hd R s).ownBlock=some k)\/∃i,i<W.tables.length/\k=G.map i)/\∀k,k<w.heap.size->(hd R (4,W.cQ,0)).ownBlock≠some k->w'.heap[k]?=w.heap[k]?:=by
 obtain⟨b,cap,h4,f4,c4,z4⟩:=h.Br D;obtain⟨b5,L,M,n5,aa,cm⟩:=h.Wl D hm;rw[show ptr (hd R (4,W.cQ,0))=zP b by rw[h4];rfl];refine(NN (by rw[<-M];exact c4 1 _ rfl) (z4 1) hb aa cm).mono ?_;rintro e w' ⟨rfl,J⟩;refine⟨rfl,?_⟩;have t5:eW W (5,W.cQ,0):=⟨D,rfl⟩
 have e1:W.co.cy.length-1=m:=cM;have lt:(W.co.cy.take m).length=m:=by rw[dX];omega
 have hP:∀s:eO,6<=s.1->s.1<=8->s.2.1=W.cQ->s.2.2<(W.co.cy.take m).length->((W.co.cy.take m).getD s.2.2 pG).guard=false->(s.2.2<W.co.cy.length/\(W.co.cy.take m).getD s.2.2 pG=W.co.cy.getD s.2.2 pG)\/False:=λs _ _ _ q _=>.inl ⟨cM,oH _ _ _ _ cM⟩;obtain⟨R',i,d,_⟩:=h.sf (l:=W.co.cy.take m) (f:=G.wa) (N:=λ_=>False) (r:=⟨zS b5 m L,m,(R (5,W.cQ,0)).cs.take (m*1)⟩) D (λ_ q=>q.elim) (λ_ q=>q.elim) hP (λ_ _ _=>rfl) lt.symm (by
   show(R (5,W.cQ,0)).cs.take (m*1)=_;rw[h.cells _ t5 (λe=>by simp at e),lt];show((List.range W.co.cy.length).flatMap λj=>[if (W.fr W.cQ j).guard then Value.iface 199 (.agg #[zI (G.wa W.cQ j)])else .iface 147 (ptr (hd R (6,W.cQ,j)))]).take (m*1)=_;rw[<-rq (c:=1) (λ_=>rfl),List.take_range,show min m W.co.cy.length=m by omega];refine fX λj hj=>?_;rw[oH _ _ _ _ hj];rfl) ((h.eH.cut t5 (n5▸M) (n:=m) cM).sub λs O=>O.resolve_right id) (jE _ _) (λk E=>.inl (by rw[M];exact E)) (by
   refine Lo.sub h.lone λc j a q1 I _=>?_;rw[tG]at q1;rw[oK D]at I;rw[tW D];by_cases e:c=W.cQ
   .subst e;rw[cR rfl]at I|-;have I:j<(W.co.cy.take m).length:=I;exact⟨q1,by show j<W.co.cy.length;omega,by rw[oH _ _ _ _ cM];rfl⟩
   .rw[cK e]at I|-;exact⟨q1,I,rfl⟩) (b:=b) (cap:=cap) h4
 .have e:W.du (W.co.cy.take m)=W.fU:=by rw[<-e1];rfl
  rw[e]at i;refine⟨R',_,i.wr J,d,(Kp.wr f4 J).sub λk E=>?_,λk E=>?_,λk E q=>?_⟩
  .exact eY.IY (V:=W.fU) t5 d (λk E=>.inl (by unfold hd;rw[M];exact E)) (λs O=>((AO D hP (show eW (W.du (W.co.cy.take m)) s by rw[e];exact O)).resolve_right id).1) rfl E
  .obtain⟨s,O,K⟩|⟨j,hj,K⟩:=E
   .have F:eW (W.du (W.co.cy.take m)) s:=e▸O;have no:∀q,s≠(q+6,W.cQ,m)\/2<q:=λq=>by
     by_cases I:2<q
     .exact .inr I
     .refine .inl λx=>?_;subst x;have:m<((W.du (W.co.cy.take m)).cS.getD W.cQ dE).cy.length:=by
       obtain _|_|_|q:=q
       .exact F.2.1
       .exact F.2.1
       .exact F.2.1
       .omega
      rw[oK D,cR rfl]at this;have:m<(W.co.cy.take m).length:=this;omega
    refine .inl ⟨s,((AO D hP F).resolve_right id).1,(no 0).resolve_right cM,(no 2).resolve_right cM,?_⟩;rw[d]at K;by_cases es:s=(5,W.cQ,0)
    .subst es;rw[jL]at K;unfold hd;rw[M];exact K
    .rwa[dL es]at K
   .exact .inr ⟨j,hj,K⟩
  .rw[h4]at q;refine(J.block k E).trans (cZ _ (zA b 1) _ k λe=>q (by rw[e];rfl))
def Qf(h:Im cJ W G R H w)(E:W.cQ<W.cS.length)(F:W.co.cy.length=m+1)(I:m<=1000000000000):
  Calls Tryz.prog 141 #[ptr (hd R (4,W.cQ,0))] w λe D=>e=.returned (PZ W G (hd R) m)/\∃R' u,Im cJ W.fU G R' H D/\hd R'=gy (hd R) (5,W.cQ,0) u/\Kp (eY W G R) (eY W.fU G R') w D:=
 (ze h E F I).mono λ_ _ ⟨a,R',u,b,c,d,_⟩=>⟨a,R',u,b,c,d⟩
def uC:(Tryz.prog.info? 149).map (λi=>(i.zero,i.size,i.bytes))=some (some .nilIface,1,16):=gA
def JF{n cv d:Nat}{av:Option Addr}{us:List Value}(hB:cJ<=w.heap.size)(hg:w.cell? ⟨g,41,none⟩=some (.pointer (some ⟨c,0,none⟩)))(ha:w.cell? ⟨c,1,none⟩=some (.slice av n cv))(hf:w.frozen? ⟨c,1,none⟩=false)(hd:w.cell? ⟨g,49,none⟩=some (.int .i64 (d:Int)))(ab:w.frozen? ⟨g,49,none⟩=false)(hO:w.ownsRow cJ 149 1 (.slice av n cv) n us)(ac:some c≠(Value.slice av n cv).ownBlock)(ad:some g≠(Value.slice av n cv).ownBlock)(ah:¬c=g)(hn:n<=1000000000000):
  Calls Tryz.prog 140 #[.pointer (some ⟨g,0,none⟩),.iface T x] w λe w'=>(∃x,e=.returned x)/\∃w1 w2 E F,Below w.heap.size w w1/\sd 149 1 w1 cJ av n cv (us++[.iface T x]) E (n+1) F w2/\w'=((w2.setCell ⟨c,1,none⟩ (.slice E (n+1) F)).setCell ⟨g,49,none⟩ (.int .i64 ((max d (n+1):Nat):Int))).drew:=by
 have hl:=dy w (zA c 1) ha;have ai:=dy w (zA g 41) hg;have L:¬g=c:=λe=>ah e.symm;have HA:=cO ha;have HG:=cO hg;have HD:=cO hd;have HF:=cO hf;have aj:=cO ab;have HO:=cO hO;have M:=cO ac;have J:=cO ad;obtain⟨i0,ak,al,am,an⟩:=fQ uC;obtain⟨S,I⟩:=eX (fI w (Value.slice av n cv).ownBlock);have y1:=Wd.ce I HA M;have y2:=Wd.ce I HG J;have HS:=cO I;clear I ha hf hO ac ad hg hd ab;haveI:=pz HS;go_enter func140,ntmps140;go_wp2_with fail;refine uq S 12 2 (HS▸(fI.refl _ _).drew) ?_;simp only[List.take,List.drop];repeat(go_big_quiet_step(fail))
 refine wpQuiet_nil ?_;refine dI ?_;go_wp2;refine⟨HS▸(fI.refl _ _).drew.alloc _,?_⟩;refine dI ?_;clear y1 y2;refine gJ λw3 O=>?_;have K:Hid (zB w w3):=O▸(ba).drew;have ap:Hid (∀j u,([.iface T x]:List Value)[j]?=some u->w3.cell? (((zA w.heap.size 0):Addr).add j)=some u):=by rw[O];intro j u hu;rw[iK,dU];exact Lc.cell (S:=λ_=>False) (cs:=#[.iface T x]) ⟨λh=>h,dJ w _⟩ (by simpa using hu)
 clear O;have aq:Hid (w3.ownsRow cJ 149 1 (.slice av n cv) n us):=HO.kept (row:=none) ⟨K.os,K.tape,K.output,K.size,λk hk _=>K.block k hk⟩ (by
  cases h:(Value.slice av n cv).ownBlock with
  |none=>exact .inl rfl
  |some k=>exact .inr dC)
 refine eI rfl _ _ _ rfl 149 i0 .nilIface 1 16 underlying136 ak al am an rfl cM cJ av n cv us rfl aq (some (zA w.heap.size 0)) 1 1 [.iface T x] rfl rfl (λ_=>⟨_,rfl,ap⟩) (by intro u hu;simp only[eQ,eh,iw]at hu;rw[hu];rfl) (by unfold maxLen;omega) cM (cV hB K.size) ?_;intro E F w4 hA;have ar:=cO hA;have S4:=cO ((fI.below (row:=(Value.slice av n cv).ownBlock) K).grown hA.jz);have c1:=S4.cell HA M;have ae:=S4.cell HG J;have af:=S4.cell HD J;have f1:=(dA (a:=(zA c 1)) (S4.block c hl M)).trans HF;have ag:=(dA (a:=(zA g 49)) (S4.block g ai J)).trans aj;clear hA;refine lK ?_;refine⟨HS▸S4,?_⟩;refine ej ?_;go_wp2_with fail;refine dx λw5 D=>?_;have d1:zE w5 c 1 (.slice E (n+1) F):=D▸my _ _ _ c1;have au:zE w5 g 41 (zP c):=D▸(dK (a:=(zA g 41)) (cZ _ (zA c 1) _ g L)).trans ae;have aw:zE w5 g 49 (zI (d:Int)):=D▸(dK (a:=(zA g 49)) (cZ _ (zA c 1) _ g L)).trans af;have ax:w5.frozen? (zA g 49)=false:=D▸(dA (a:=(zA g 49)) (cZ _ (zA c 1) _ g L)).trans ag;have H5:=cO D;clear D c1 ae af f1 ag;obtain⟨S',I⟩:∃S,S=fI w5 none:=⟨_,rfl⟩
 have y1:=λx:Wd S'=>x.cell I d1 dC;have y2:=λx:Wd S'=>x.cell I au dC;have y3:=λx:Wd S'=>x.cell I aw dC;have aa:=cO I;clear I;haveI:Nonempty (Wd S'):=⟨⟨w5,aa▸fI.refl _ _⟩⟩
 refine mA S' 14 1 gA gA (λd _ _ _ _ h=>by cases d<;>exact h) (aa▸(fI.refl _ _).drew) ?_;simp only[List.take,List.drop];repeat(go_big_quiet_step(fail))
 refine wpQuiet_nil ?_;refine dI ?_;clear y1 y2 y3;go_wp2;all_goals refine⟨aa▸(fI.refl _ _).drew,?_⟩
 all_goals refine ej ?_
 all_goals go_wp2
 all_goals
  go_returns;refine⟨⟨_,rfl⟩,w3,w4,E,F,K,ar,?_⟩;rw[H5];first
   |rw[show((max d (n+1):Nat):Int)=(n:Int)+1 by omega]
   |rw[show((max d (n+1):Nat):Int)=(d:Int) by omega]
def Eh(h:Im cJ W G R H w)(hB:cJ<=w.heap.size)(O:W.cQ<W.cS.length)(hb:W.co.cy.length<=1000000000000){f:Fr}{z:Int}{fw:Nat->Nat->Int}(J:fw=λc j=>if c=W.cQ/\j=W.co.cy.length then z else G.wa c j)(hN:∀s,N s->s.1≠0/\∀i,i<W.tables.length->(R s).v.ownBlock≠some (G.map i))(aa:f.guard=false->∀s:eO,6<=s.1->s.1<=8->s.2=(W.cQ,W.co.cy.length)->N s)(hR:rn.Rows cJ Is Iz (λs=>eW W s\/N s) R w)(ab:∀u s,N s->(R s).n=sP (W.du (W.co.cy++[f])) s/\(R s).cs=gF (W.du (W.co.cy++[f])) {G with wa:=fw} H (gy (hd R) (5,W.cQ,0) u) s)(lo:Lo (W.du (W.co.cy++[f])) R)(hv:.iface T x=if f.guard then Value.iface 199 (.agg #[.int .i64 z])else .iface 147 (ptr (hd R (6,W.cQ,W.co.cy.length)))):
  Calls Tryz.prog 140 #[ptr (hd R (9,0,0)),.iface T x] w λe w'=>(∃x,e=.returned x)/\∃R' u,Im cJ (W.push f) {G with wa:=fw} R' H w'/\hd R'=gy (hd R) (5,W.cQ,0) u/\Kp (eY W G R) (eY W G R) w w'/\∀k,eY (W.push f) {G with wa:=fw} R' k->eY W G R k\/(∃s,N s/\(hd R s).ownBlock=some k)\/w.heap.size<=k:=by
 obtain⟨g,cg,h9,c9,f9,ac⟩:=h.mP;obtain⟨c,cc,h4,fc,c4,z4⟩:=h.Br O;have F:eW W (5,W.cQ,0):=⟨O,rfl⟩
 have n5:=h.ij _ F dC;obtain⟨av,cv,K⟩:=h.eH.sliced F;rw[n5]at K;have own:=h.eH.own _ F;rw[K,n5]at own;have b4:(R (4,W.cQ,0)).v.ownBlock=some c:=by rw[show(R (4,W.cQ,0)).v=_ from h4];rfl
 have b9:(R (9,0,0)).v.ownBlock=some g:=by rw[show(R (9,0,0)).v=_ from h9];rfl
 have nc:¬c=g:=λe=>h.eH.apart (4,W.cQ,0) (9,0,0) ⟨O,rfl⟩ rfl dC c b4 (by rw[b9,e]);rw[show ptr (hd R (9,0,0))=zP g by rw[h9];rfl];refine(JF hB (by rw[show Value.pointer (some (zA c 0))=ptr (hd R (4,W.cQ,0)) by rw[h4];rfl];exact c9 41 _ rfl) (by rw[<-K];exact c4 1 _ rfl) (z4 1) (c9 49 _ rfl) (f9 49) own (λe=>h.eH.apart (4,W.cQ,0) _ ⟨O,rfl⟩ F dC c b4 (K▸e.symm)) (λe=>h.eH.apart (9,0,0) _ rfl F dC g b9 (K▸e.symm)) nc hb).mono ?_;rintro e w' ⟨hx,w1,w2,I,L,D,hA,rfl⟩;have h1:=h.below D;have ad:rn.Rows cJ Is Iz (λs=>eW W s\/N s) R w1:=hR.kept (row:=none) ⟨D.os,D.tape,D.output,D.size,λk E _=>D.block k E⟩ λt _=>by
  cases(R t).v.ownBlock with
  |none=>exact .inl rfl
  |some k=>exact .inr dC
 have hl:∀k,(Value.slice I (W.co.cy.length+1) L).ownBlock=some k->(R (5,W.cQ,0)).v.ownBlock=some k\/w1.heap.size<=k:=by
  intro k E;rw[K];obtain⟨e,_⟩|⟨q,e,q1|q1⟩:=hA.qA
  .subst e;cases I with
   |none=>cases E
   |some a=>exact .inl E
  .subst e;cases E;exact .inl q1
  .subst e;cases E;exact .inr (mi q1.symm)
 have M:w1.grownBy w2 (R (5,W.cQ,0)).v.ownBlock:=K▸hA.jz;have hw:=ad.put (r:=⟨.slice I (W.co.cy.length+1) L,W.co.cy.length+1,(R (5,W.cQ,0)).cs++[.iface T x]⟩) (.inl F) M (by exact hA.own) hl;have hP:∀s:eO,6<=s.1->s.1<=8->s.2.1=W.cQ->s.2.2<(W.co.cy++[f]).length->((W.co.cy++[f]).getD s.2.2 pG).guard=false->(s.2.2<W.co.cy.length/\(W.co.cy++[f]).getD s.2.2 pG=W.co.cy.getD s.2.2 pG)\/N s:=by
  intro s q1 q2 q3 q4 q5;rw[dq]at q4;simp only[dt,dG]at q4;by_cases q:s.2.2<W.co.cy.length
  .exact .inl ⟨q,iL _ _ _ _ q⟩
  .have q6:s.2.2=W.co.cy.length:=cM;rw[q6,gD]at q5;exact .inr (aa q5 s q1 q2 (Prod.ext q3 q6))
 obtain⟨R',i,d,_⟩:=h1.sf (l:=W.co.cy++[f]) (f:=fw) (N:=N) (r:=⟨.slice I (W.co.cy.length+1) L,W.co.cy.length+1,(R (5,W.cQ,0)).cs++[.iface T x]⟩) O hN (λs hs=>ab _ s hs) hP (λc j q=>J▸cK cM) dC (by
   show(R (5,W.cQ,0)).cs++[.iface T x]=_;rw[h.cells _ F (λe=>by simp at e),dq,show[f].length=1 from rfl,kR,V7];show((List.range W.co.cy.length).flatMap λj=>[if (W.fr W.cQ j).guard then Value.iface 199 (.agg #[zI (G.wa W.cQ j)])else .iface 147 (ptr (hd R (6,W.cQ,j)))])++_=_;congr 1
   .refine fX λj hj=>?_;rw[iL _ _ _ _ hj,J];dsimp only;rw[cK (show¬(W.cQ=W.cQ/\j=W.co.cy.length) by omega)];rfl
   .rw[eE,oD,kS,gD,hv,J];dsimp only;rw[cR (show W.cQ=W.cQ/\W.co.cy.length=W.co.cy.length from⟨rfl,rfl⟩)]) hw M hl lo h4
 .obtain⟨R2,i2,d2,_⟩:=i.m9 (V:=W.push f) (H':=H) (g:=g) (cap:=cg) (j:=49) (u:=zI ((max W.iq (W.co.cy.length+1):Nat):Int)) rfl rfl rfl rfl rfl (show hd R' (9,0,0)=_ by rw[d,dL dC];exact h9) rfl;refine⟨hx,R2,_,i2.below (cN _ _).drew,by rw[d2,d],?_,λk E=>?_⟩
  .exact(((Kp.cY D).trans (Kp.grown M (λk E _=>.row F E) (λk E=>.inl E))).trans ((Kp.setCell (a:=(zA c 1)) _ fc).trans (Kp.setCell (a:=(zA g 49)) _ ac))).drew
  .obtain⟨s,hs,e⟩|⟨j,hj,e⟩:=E
   .rw[d2,d]at e;by_cases q:s=(5,W.cQ,0)
    .subst q;rw[jL]at e;obtain p|p:=hl k e
     .exact .inl (.row F p)
     .exact .inr (.inr (cV D.size p))
    .rw[dL q]at e;obtain p|p:=AO O hP (show eW (W.du (W.co.cy++[f])) s from hs)
     .exact .inl (.row p.1 e)
     .exact .inr (.inl ⟨s,p,e⟩)
   .exact .inl (.inr ⟨j,hj,e⟩)
section
variable{l:List Vl}
def Av(S:Nat->Prop)(w:World)(G:Gh)(Z:eO->Value)(v:Value)(l:List Vl):Prop:=∃h cap,v=.slice h l.length cap/\l.length<=cap/\cap<=9223372036854775807/\(0<l.length->∃b off,h=some ⟨b,off,none⟩/\¬S b/\∀i r u,i<l.length->(vi G Z (l.getD i v0))[r]?=some u->w.cell? ⟨b,off+i*4+r,none⟩=some u)
def Av.kept(h:Av S w G Z v l)(D:Kp S S1 w w1):Av S1 w1 G Z v l:=by obtain⟨J,cap,e,K,L,M⟩:=h;refine⟨J,cap,e,K,L,λq=>?_⟩;obtain⟨b,off,rfl,E,F⟩:=M q;have I:=dy w _ (F 0 0 _ q rfl);exact⟨b,off,rfl,D.out b I E,λi r u O hu=>(dK (a:=(zA b _)) (D.kg b I E)).trans (F i r u O hu)⟩
def Av.re(h:Av S w G Z v l)(E:∀x∈l,vi G' Z' x=vi G Z x):Av S w G' Z' v l:=by obtain⟨F,cap,e,I,J,K⟩:=h;refine⟨F,cap,e,I,J,λq=>?_⟩;obtain⟨b,off,rfl,L,M⟩:=K q;exact⟨b,off,rfl,L,λi r u D O=>M i r u D (by rw[<-E _ (mG (P:=(·∈l)) (λ_ h=>h) D)];exact O)⟩
def Av.below(h:Av S w G Z v l)(D:Below w.heap.size w w1):Av S w1 G Z v l:=h.kept (Kp.cY D)
def Av.lit(E:∀k,S k->k<w.heap.size)(l:List Vl)(I:l.length<=1000):Av S (w.alloc (.cells (l.flatMap (vi G Z)).toArray 132)) G Z (.slice (some ⟨w.heap.size,0,none⟩) l.length l.length) l:=by refine⟨_,_,rfl,cE _,cM,λq=>⟨_,_,rfl,λh=>gE _ (E _ h),λi r u F D=>?_⟩⟩;refine(Lc.new (S:=λ_=>False) w (λ_ h=>h.elim) _ _).cell ?_;rw[List.getElem?_toArray,dU,kh (c:=4) (λ_=>rfl) v0 l i r F (by have:=(fG.1 D).1;simpa[vi]using this)];exact D
def sj(h:Av S w G Z v l)(i:Nat):zC 172 #[v,zI (i:Int)] w (zR w (jX G Z (l.getD i v0))):=by
 obtain⟨I,cap,rfl,J,K,F⟩:=h;by_cases D:i<l.length
 .obtain⟨b,off,rfl,_,E⟩:=F cM;exact SD D (E i 0 _ D rfl) (E i 1 _ D rfl) (E i 2 _ D rfl) (E i 3 _ D rfl) (gm _ _)
 .rw[show l.getD i v0=v0 by rw[cB,dO cM];rfl];exact US cM
def GP(l:List Vl)(k:Nat):((List.range k).map λi=>l.getD i v0)++[l.getD k v0]=(List.range (k+1)).map λi=>l.getD i v0:=by rw[kR,gX];rfl
def GK(h:Cu cJ W G R H m w)(A:Av (eY W G R) w G (hd R) v l){wt:Nat}(hw:W.db.ops.length+wt<=200000):
  zC 175 #[im.ptr (hd R (6,W.cQ,m)),v,zI (wt:Int)] w λe F=>(∃x,e=.returned x)/\∃R',Im cJ (W.ee ((List.range wt).map λi=>l.getD i v0)) G R' H F/\(∀t,t.1≠8->hd R' t=hd R t)/\Kp (eY W G R) (eY (W.ee ((List.range wt).map λi=>l.getD i v0)) G R') w F:=by
 obtain⟨f,M,_⟩:=h.ptr;have O:0<W.co.cy.length:=by rw[h.len];omega
 have M0:=cO (show W.ee ((List.range 0).map λi=>l.getD i v0)=W from Ev h.cQ O);obtain⟨J,E⟩:=eX (λk wr=>∃D,Cu cJ (W.ee ((List.range k).map λi=>l.getD i v0)) G D H m wr/\(∀t,t.1≠8->hd D t=hd R t)/\Kp (eY W G R) (eY (W.ee ((List.range k).map λi=>l.getD i v0)) G D) w wr:Nat->World->Prop);have J0:Hid (J 0 w):=E▸⟨R,by rw[M0.out];exact h,λ_ _=>rfl,by rw[M0.out];exact Kp.refl _ _⟩;have EN:Hid (∀k wr,J k wr->∃R',Im cJ (W.ee ((List.range k).map λi=>l.getD i v0)) G R' H wr/\(∀t,t.1≠8->hd R' t=hd R t)/\Kp (eY W G R) (eY (W.ee ((List.range k).map λi=>l.getD i v0)) G R') w wr):=λk wr q=>by rw[E]at q;obtain⟨D,c,d,I⟩:=q;exact⟨D,c.im,d,I⟩
 have AT:Hid (∀k wr,J k wr->zC 172 #[v,zI (k:Int)] wr (zR wr (jX G (hd R) (l.getD k v0)))):=λk wr q=>by rw[E]at q;obtain⟨D,c,d,I⟩:=q;exact sj (A.kept I) k
 have PU:Hid (∀k wr X,k<wt->J k wr->zB wr X->zC 159 #[zP f,jX G (hd R) (l.getD k v0)] X λe F=>(∃x,e=.returned x)/\J (k+1) F):=λk wr X hk q K=>by
  rw[E]at q;obtain⟨D,c,d,I⟩:=q;have tl:(W.ee ((List.range k).map λi=>l.getD i v0)).db.ops.length=W.db.ops.length+k:=by rw[yB h.cQ O];simp
  have P:=(c.below K).push (l.getD k v0);rw[show hd D (6,(W.ee ((List.range k).map λi=>l.getD i v0)).cQ,m)=hd R (6,W.cQ,m)from d _ dC,M,show jX G (hd D) (l.getD k v0)=jX G (hd R) (l.getD k v0) by unfold jX dV;rw[d (1,_,0) dC,d (2,_,0) dC,d (4,_,0) dC]]at P;refine P.mono ?_;rintro e F ⟨hx,R2,u2,i2,d2,k2⟩;rw[E];refine⟨hx,R2,?_⟩;have cm:=(c.below K).ee (l:=[l.getD k v0]) i2 k2.size (by rw[tl];simp;omega);rw[A5 h.cQ O,GP]at cm k2;exact⟨cm,λt ht=>by rw[d2,dL (λe=>ht (by rw[e]))];exact d t ht,(I.trans (Kp.cY K)).trans k2⟩
 have ac:wt<=200000:=cM;rw[M];clear E h A M hw M0;go_enter func175,ntmps175;go_wp2;go_loopw[8] (λx wr=>∃k:Nat,k<=wt/\x=zI (k:Int)/\Hid (J k wr)) (λx _=>wt-(intOf x).toNat)
 case atStart=>exact⟨0,dM _,rfl,J0⟩
 case round=>
  obtain⟨k,hk,rfl,JK⟩:=hrel;by_cases aa:k<wt
  .have ab:(k:Int)<(wt:Int):=cM;have A1:=cO (AT k wr JK);obtain⟨vk,L⟩:∃x,x=jX G (hd R) (l.getD k v0):=⟨_,rfl⟩
   have P1:=cO (λX K=>PU k wr X aa JK K);rw[<-L]at A1 P1;clear L;go_wp2_with(first
    |(go_at_call 172;refine cA A1 ?_;rintro e w5 ⟨rfl,b5⟩;have B5:=cO b5;clear b5)
    |(go_at_call 159;refine cA (P1 _ B5) ?_;rintro e w6 ⟨⟨x,rfl⟩,j6⟩;have J6:=cO j6;clear j6))
   go_roundw
   case rel=>exact⟨k+1,cM,l9,J6⟩
   case measure=>simp[intOf];omega
  .obtain rfl:k=wt:=cM;go_wp2;go_returns;exact⟨⟨_,rfl⟩,EN _ _ JK⟩
end
def eY.eq(h:∀s,eW V s->eW W s)(D:hd R'=hd R)(E:V.tables=W.tables)(F:G'.map=G.map){k:Nat}(I:eY V G' R' k):eY W G R k:=by
 obtain⟨s,J,e⟩|⟨i,K,rfl⟩:=I
 .rw[D]at e;exact .row (h s J) e
 .exact .inr ⟨i,by rw[<-E];exact K,by rw[F]⟩
def pR(h:i<W.cS.length)(D:c'.cy=(W.cS.getD i dE).cy)(c:Nat):((W.dW i c').cS.getD c dE).cy=(W.cS.getD c dE).cy:=by
 show((W.cS.set i c').getD c dE).cy=_;by_cases e:i=c
 .subst e;rw[ez _ _ _ _ h,D]
 .rw[dR _ _ _ _ _ e]
def wB(h:i<W.cS.length)(D:c'.cy=(W.cS.getD i dE).cy)(s:eO):eW (W.dW i c') s↔eW W s:=by
 have E:(W.dW i c').cS.length=W.cS.length:=df ..;have F:∀c j,(W.dW i c').fr c j=W.fr c j:=λc j=>by unfold St.fr;rw[pR h D]
 unfold eW;rw[E,pR h D,F];exact j8
def Im.Qh(h:Im cJ W G R H w)(D:i<W.cS.length)(F:c'.cy=(W.cS.getD i dE).cy)(L:∀j,j≠i->ra j=G.rw j/\ya j=G.yw j)(M:rn.Rows cJ Is Iz (eW W) (jG R (4,i,0) ⟨(R (4,i,0)).v,(R (4,i,0)).n,gF (W.dW i c') {G with rw:=ra,yw:=ya} H (hd R) (4,i,0)⟩) w1)(O:∀k,(R (4,i,0)).v.ownBlock≠some k->w1.heap[k]?=w.heap[k]?):
  ∃R',Im cJ (W.dW i c') {G with rw:=ra,yw:=ya} R' H w1/\hd R'=hd R/\∀s,(R' s).n=(R s).n:=by
 have E:∀c j,(W.dW i c').fr c j=W.fr c j:=λc j=>by unfold St.fr;rw[pR D F]
 refine h.same (t:=(4,i,0)) (V:=W.dW i c') (G':={G with rw:=ra,yw:=ya}) ⟨wB D F,λs _=>?_,rfl,rfl,rfl,df ..,λc=>by rw[pR D F],λc j=>by rw[E]⟩ ⟨D,rfl⟩ M O (λ_=>rfl) (λs J I _=>?_) (λx hx h0=>((h.var x hx).resolve_left cM).2.2) rfl (λ_=>rfl)
 .unfold sP;rw[pR D F,E];rfl
 .obtain⟨s,a,b⟩:=s;obtain _|_|_|_|_|_|_|_|_|_|s:=s
  .rfl
  .rfl
  .rfl
  .rfl
  .have:i≠a:=λe=>I (by rw[e,show b=0 from J.2]);have hg:=dR W.cS i a c' dE this;have K:=L a (λe=>this e.symm);show[Value.int .i64 ((W.cS.set i c').getD a dE).state,_]++vi _ _ ((W.cS.set i c').getD a dE).body++[.bool (decide (a≠0/\0<=((W.cS.set i c').getD a dE).held)),if a=0\/((W.cS.set i c').getD a dE).held<0 then .pointer none else ptr (hd R (4,((W.cS.set i c').getD a dE).gq,0)),zI (ra a),zI (ya a)]=_;rw[hg,K.1,K.2];rfl
  .show((List.range ((W.dW i c').cS.getD a dE).cy.length).flatMap λk=>[if ((W.dW i c').fr a k).guard then Value.iface 199 (.agg #[zI (G.wa a k)])else .iface 147 (ptr (hd R (6,a,k)))])=_;rw[pR D F];refine ga (λq=>(List.range _).flatMap q) (funext λk=>?_);rw[E]
  .show[ptr (hd R (2,((W.dW i c').fr a b).fn,0)),zI ((W.dW i c').fr a b).eA,_,_,_]=_;rw[E];rfl
  .show(((W.dW i c').fr a b).da.flatMap λx=>[ptr (hd R (0,x,0))])=_;rw[E];rfl
  .show((W.dW i c').fr a b).ops.flatMap (vi _ _)=_;rw[E];rfl
  .rfl
  .exact absurd J (by intro q;exact q)
def Im.state(h:Im cJ W G R H w)(D:i<W.cS.length)(s:Int)(I:hd R (4,i,0)=.slice (some ⟨b,0,none⟩) 1 cap):∃R',Im cJ (W.dW i {W.cS.getD i dE with state:=s}) G R' H (w.setCell ⟨b,0,none⟩ (.int .i64 s))/\hd R'=hd R/\∀s,(R' s).n=(R s).n:=by
 have E:eW W (4,i,0):=⟨D,rfl⟩
 have J:=h.ij _ E dC;have F:=h.eH.store E (g:=b) (cap:=cap) (J▸I) 0 (zI s);refine h.Qh (ra:=G.rw) (ya:=G.yw) (c':={W.cS.getD i dE with state:=s}) D rfl (λ_ _=>⟨rfl,rfl⟩) ?_ (λk K=>cZ _ (zA b 0) _ k (λe=>K (by rw[show(R (4,i,0)).v=_ from I,e];rfl)));have L:=ez W.cS i {W.cS.getD i dE with state:=s} dE D;rw[h.cells _ E (λe=>by simp at e)]at F;have e:(gF W G H (hd R) (4,i,0)).set 0 (zI s)=gF (W.dW i {W.cS.getD i dE with state:=s}) G H (hd R) (4,i,0):=by show _=[Value.int .i64 ((W.cS.set i {W.cS.getD i dE with state:=s}).getD i dE).state,_]++vi _ _ ((W.cS.set i {W.cS.getD i dE with state:=s}).getD i dE).body++[.bool (decide (i≠0/\0<=((W.cS.set i {W.cS.getD i dE with state:=s}).getD i dE).held)),if i=0\/((W.cS.set i {W.cS.getD i dE with state:=s}).getD i dE).held<0 then .pointer none else ptr (hd R (4,((W.cS.set i {W.cS.getD i dE with state:=s}).getD i dE).gq,0)),zI (G.rw i),zI (G.yw i)];rw[L];rfl
 rw[e]at F;exact F
def yI(h:Im cJ W G R H w)(D:W.cQ<W.cS.length)(h0:W.cQ≠0)(hh:0<=W.co.held)(J:W.co.gq<W.cS.length)(M:W.co.gq≠W.cQ)(s:Int):
  zC 147 #[ptr (hd R (9,0,0)),zI s] w λe O=>e=.returned (zI (G.rw W.cQ))/\∃R',Im cJ (W.fy s) G R' H O/\hd R'=hd R/\Kp (eY W G R) (eY (W.fy s) G R') w O:=by
 obtain⟨g,cg,K,c9,f9,aa⟩:=h.mP;obtain⟨c,cc,L,fc,c4,z4⟩:=h.Br D;obtain⟨r,cr,E,fr,c5,z5⟩:=h.Br J;have ap:∀{s t:eO}{a b ca cb:Nat},eW W s->eW W t->s≠t->hd R s=zS a 1 ca->hd R t=zS b 1 cb->¬a=b:=λhs ht e p q x=>h.eH.apart _ _ hs ht e _ (by rw[show(R _).v=_ from p];rfl) (by rw[show(R _).v=_ from q,x];rfl);have n1:=ap (s:=(4,W.cQ,0)) (t:=(9,0,0)) ⟨D,rfl⟩ rfl dC L K;have n2:=ap (s:=(4,W.co.gq,0)) (t:=(9,0,0)) ⟨J,rfl⟩ rfl dC E K;have n3:=ap (s:=(4,W.cQ,0)) (t:=(4,W.co.gq,0)) ⟨D,rfl⟩ ⟨J,rfl⟩ (λe=>M (by simpa using e.symm)) L E;have c7:zE w c 7 (zP r):=by refine c4 7 _ ?_;show some (if W.cQ=0\/W.co.held<0 then Value.pointer none else ptr (hd R (4,W.co.gq,0)))=_;rw[cK cM,E];rfl
 rw[show ptr (hd R (9,0,0))=zP g by rw[K];rfl];refine(JY n1 n2 n3 ((c9 41 _ rfl).trans (by rw[L];rfl)) (f9 41) (c4 0 _ rfl) (z4 0) c7 (c4 8 _ rfl) (c5 0 _ rfl) (z5 0)).mono ?_;rintro e O ⟨rfl,rfl⟩;refine⟨rfl,?_⟩;obtain⟨R1,i1,F,_⟩:=h.state D s L;obtain⟨R2,i2,d2,_⟩:=i1.m9 (V:={W.dW W.cQ {W.cS.getD W.cQ dE with state:=s}with cQ:=W.co.gq}) (H':=H) (g:=g) (cap:=cg) (j:=41) (u:=zP r) rfl rfl rfl rfl rfl (show hd R1 (9,0,0)=_ by rw[F];exact K) (by rw[F];show _=[H.ps,H.ks,H.ins]++zG++[ptr (hd R (4,W.co.gq,0)),_,_,_,_,_,_,_,_];rw[E];rfl);have I:W.co.gq<(W.dW W.cQ {W.cS.getD W.cQ dE with state:=s}).cS.length:=by rw[show(W.dW W.cQ {W.cS.getD W.cQ dE with state:=s}).cS.length=W.cS.length from df ..];exact J
 obtain⟨R3,i3,d3,_⟩:=i2.state (i:=W.co.gq) I 1 (show hd R2 (4,W.co.gq,0)=_ by rw[d2,F];exact E);refine⟨R3,i3,by rw[d3,d2,F],?_⟩;refine(((Kp.setCell (a:=(zA c 0)) _ fc).trans (Kp.setCell (a:=(zA g 41)) _ aa)).trans (Kp.setCell (a:=(zA r 0)) _ fr)).sub λk hk=>.inl ?_;refine eY.eq (W:=W) (V:=W.fy s) (R:=R) (λt ht=>?_) (by rw[d3,d2,F]) rfl rfl hk;exact(wB (W:=W) (i:=W.cQ) (c':={W.cS.getD W.cQ dE with state:=s}) D rfl t).1 ((wB (W:={W.dW W.cQ {W.cS.getD W.cQ dE with state:=s}with cQ:=W.co.gq}) (i:=W.co.gq) (c':={(W.dW W.cQ {W.cS.getD W.cQ dE with state:=s}).cS.getD W.co.gq dE with state:=1}) I rfl t).1 ht)
def Hx(h:Im cJ W G R H w)(c:Int):
  zC 30 #[ptr (hd R (9,0,0)),zI c] w λe F=>(∃x,e=.returned x)/\∃R',Im cJ {W with oz:=true,dw:=c} G R' H F/\hd R'=hd R/\Kp (eY W G R) (eY {W with oz:=true,dw:=c} G R') w F:=by
 obtain⟨g,cg,I,J,K,D⟩:=h.mP;rw[show ptr (hd R (9,0,0))=zP g by rw[I];rfl];refine(Qe (J 44 _ rfl) (K 44) (J 45 _ rfl) (K 45)).mono ?_;rintro e F ⟨M,rfl⟩;obtain⟨O,i1,E,_⟩:=h.m9 (V:={W with oz:=true}) (H':=H) (j:=44) (u:=.bool true) rfl rfl rfl rfl rfl I rfl;obtain⟨R2,i2,L,_⟩:=i1.m9 (V:={W with oz:=true,dw:=c}) (H':=H) (j:=45) (u:=zI c) rfl rfl rfl rfl rfl (show hd O (9,0,0)=_ by rw[E];exact I) (by rw[E];rfl);exact⟨M,R2,i2,by rw[L,E],((Kp.setCell (a:=(zA g 44)) _ D).trans (Kp.setCell (a:=(zA g 45)) _ D)).sub λk hk=>.inl (eY.eq (λ_ h=>h) (by rw[L,E]) rfl rfl hk)⟩
end im
namespace im
open RowKit bts pg rn chk
variable{cs:Array Value}{f:Fr}{G G':Gh}{H H':Hi}{b op cW want z:Int}{us:List Value}{args l:List Vl}{E N a cJ c k m n np ns x:Nat}{Hs:Nat→List Int}{S S1:Nat→Prop}{p:Pg}{T V W W0:St}{R R' R0:eO→fW}{Z Z':eO→Value}{mv v:Value}{w w0 w1:World}
structure Gw(W:St)(G:Gh):Prop where
 wa:∀c j,c<W.cS.length→j+1<(W.cS.getD c dE).cy.length→(W.fr c j).guard=false→G.wa c (j+1)=(W.fr c (j+1)).want
 rw:∀c,c<W.cS.length→c≠0→nr (W.cS.getD c dE)→∀j,(W.cS.getD (W.cS.getD c dE).gq dE).cy.length=j+1→(W.fr (W.cS.getD c dE).gq j).guard=false→G.rw c=(W.cS.getD c dE).want
 yw:∀c,c<W.cS.length→(W.cS.getD c dE).state=0→0≤(W.cS.getD c dE).held→∀j,(W.cS.getD c dE).cy.length=j+1→(W.fr c j).guard=false→G.yw c=(W.cS.getD c dE).held
 gq:∀c,c<W.cS.length→(W.cS.getD c dE).gq<W.cS.length
 nm:Nm W G
 gs:∀c j,c<W.cS.length→j<(W.cS.getD c dE).cy.length→(W.fr c j).guard=true→(W.fr c j).da=[]∧(W.fr c j).ops=[]
 le:(∀i,i<W.tables.length→G.ij 1 i≤G.iG)∧(∀i,i<W.funcs.length→G.ij 2 i≤G.iG)∧∀i,i<W.cS.length→G.ij 4 i≤G.iG
 iG:G.iG≤W.tables.length+W.funcs.length+W.cS.length
def Wt(W:St)(want h:Int):Prop:=∀j,W.co.cy.length=j+1->(W.fr W.cQ j).guard=false->h=want
def Gw.pF(h:Gw W G)(ht:V.tables.length=W.tables.length)(hf:V.funcs.length=W.funcs.length)(E:V.cS.length=W.cS.length)(O:∀c,(V.cS.getD c dE).cy.length=(W.cS.getD c dE).cy.length)(J:∀c,(V.cS.getD c dE).state=(W.cS.getD c dE).state/\(V.cS.getD c dE).gq=(W.cS.getD c dE).gq/\(V.cS.getD c dE).want=(W.cS.getD c dE).want/\(V.cS.getD c dE).held=(W.cS.getD c dE).held)(K:∀c j,(V.fr c j).guard=(W.fr c j).guard/\(V.fr c j).want=(W.fr c j).want)(hs:∀c j,(V.fr c j).guard=true->(V.fr c j).da=(W.fr c j).da/\(V.fr c j).ops=(W.fr c j).ops):Gw V G:=by
 refine⟨λc j F I D=>?_,λc F I D j L M=>?_,λc F I D j L M=>?_,λc F=>?_,⟨?_,?_,?_⟩,λc j F I D=>?_,?_,?_⟩
 .rw[(K c (j+1)).2];exact h.wa c j (E▸F) (O c▸I) ((K c j).1▸D)
 .rw[(J c).2.1,O]at L;rw[(J c).2.1,(K _ j).1]at M;rw[(J c).2.2.1];exact h.rw c (E▸F) I (by unfold nr at D|-;rwa[(J c).1]at D) j L M
 .rw[(J c).1]at I;rw[(J c).2.2.2]at D|-;rw[O]at L;rw[(K _ j).1]at M;exact h.yw c (E▸F) I D j L M
 .rw[(J c).2.1,E];exact h.gq c (E▸F)
 .rw[ht];exact h.nm.qT
 .rw[hf];exact h.nm.fn
 .rw[E];exact h.nm.co
 .rw[(hs c j D).1,(hs c j D).2];exact h.gs c j (E▸F) (O c▸I) ((K c j).1▸D)
 .rw[ht,hf,E];exact h.le
 .rw[ht,hf,E];exact h.iG
def Gw.db(h:Gw W G)(D:W.cQ<W.cS.length)(E:0<W.co.cy.length)(I:f.guard=W.db.guard)(J:f.want=W.db.want)(hs:f.guard=true->f.da=W.db.da/\f.ops=W.db.ops):Gw (W.dN f) G:=by
 refine h.pF rfl rfl (jO _ _) (gP D f) (λc=>?_) (λc j=>?_) (λc j F=>?_)
 .rw[nO D];split
  .rename_i e;subst e;exact⟨rfl,rfl,rfl,rfl⟩
  .exact⟨rfl,rfl,rfl,rfl⟩
 .refine⟨pJ D E I c j,?_⟩;by_cases e:c=W.cQ/\j=W.co.cy.length-1
  .rw[e.1,e.2,iB D E];exact J
  .rw[gO D _ e]
 .by_cases e:c=W.cQ/\j=W.co.cy.length-1
  .rw[e.1,e.2,iB D E]at F|-;exact hs F
  .rw[gO D _ e];exact⟨rfl,rfl⟩
def Gw.fU(h:Gw W G)(I:Iv p Hs W cW):Gw W.fU G:=by
 have J:=I.cQ;have L:∀c,(W.fU.cS.getD c dE).state=(W.cS.getD c dE).state/\(W.fU.cS.getD c dE).gq=(W.cS.getD c dE).gq/\(W.fU.cS.getD c dE).want=(W.cS.getD c dE).want/\(W.fU.cS.getD c dE).held=(W.cS.getD c dE).held:=λc=>by
  rw[vR J];split
  .rename_i e;subst e;exact⟨rfl,rfl,rfl,rfl⟩
  .exact⟨rfl,rfl,rfl,rfl⟩
 have O:∀c,(W.fU.cS.getD c dE).cy.length<=(W.cS.getD c dE).cy.length:=λc=>by
  rw[ph J];split
  .rename_i e;subst e;exact Wu _ _
  .exact cE _
 have ne:∀c,c≠W.cQ->(W.fU.cS.getD c dE).cy.length=(W.cS.getD c dE).cy.length:=λc e=>by rw[ph J,cK e]
 refine⟨λc j D E F=>?_,λc D E F j K M=>?_,λc D E F j K M=>?_,λc D=>?_,⟨h.nm.qT,h.nm.fn,λi j=>?_⟩,λc j D E F=>?_,?_,?_⟩
 .rw[oJ J cM]at F;rw[oJ J E];exact h.wa c j (kX W▸D) (dj E (O c)) F
 .have lv:nr (W.cS.getD c dE):=by unfold nr at F|-;rwa[(L c).1]at F
  rw[kX]at D;rw[(L c).2.1]at K M;rw[oJ J (by rw[K];omega)]at M;rw[ne _ (λe=>by have:=(I.gq c D E lv).2;rw[e,I.run]at this;omega)]at K;rw[(L c).2.2.1];exact h.rw c D E lv j K M
 .rw[kX]at D;rw[(L c).1]at E;rw[(L c).2.2.2]at F|-;rw[oJ J (by rw[K];omega)]at M;rw[ne _ (λe=>by rw[e,I.run]at E;omega)]at K;exact h.yw c D E F j K M
 .rw[kX]at D|-;rw[(L c).2.1];exact h.gq c D
 .rw[kX];exact h.nm.co i j
 .rw[oJ J E]at F|-;exact h.gs c j (kX W▸D) (dj E (O c)) F
 .rw[kX];exact h.le
 .rw[kX];exact h.iG
def Gw.fy(h:Gw W G)(I:Iv p Hs W cW)(h0:W.cQ≠0){s:Int}(hs:s=3\/(s=0/\∀j,W.co.cy.length=j+1->(W.fr W.cQ j).guard=false->G.yw W.cQ=W.co.held)):Gw (W.fy s) G:=by
 obtain⟨e1,e2,e3,F,e5,e6⟩:=qY I h0 s;have hb:=I.gq W.cQ I.cQ h0 (.inl I.run);have nb:W.cQ≠W.co.gq:=λe=>by have:=hb.2;unfold St.co at e;rw[<-e,I.run]at this;omega
 have gd:∀c,(W.fy s).cS.getD c dE=if c=W.co.gq then {W.cS.getD W.co.gq dE with state:=1}else if c=W.cQ then {W.co with state:=s}else W.cS.getD c dE:=by
  intro c;rw[e6];by_cases a:c=W.co.gq
  .rw[cR a,a,ez _ _ _ _ (by rw[df];exact hb.1)]
  .rw[cK a,dR _ _ _ _ _ (λe=>a e.symm)];by_cases b:c=W.cQ
   .rw[cR b,b,ez _ _ _ _ I.cQ]
   .rw[cK b,dR _ _ _ _ _ (λe=>b e.symm)]
 have J:∀c,((W.fy s).cS.getD c dE).gq=(W.cS.getD c dE).gq/\((W.fy s).cS.getD c dE).want=(W.cS.getD c dE).want/\((W.fy s).cS.getD c dE).held=(W.cS.getD c dE).held/\((W.fy s).cS.getD c dE).cy=(W.cS.getD c dE).cy:=by
  intro c;rw[gd];split
  .rename_i e;rw[e];exact⟨rfl,rfl,rfl,rfl⟩
  .split
   .rename_i e;rw[e];exact⟨rfl,rfl,rfl,rfl⟩
   .exact⟨rfl,rfl,rfl,rfl⟩
 have O:∀c j,(W.fy s).fr c j=W.fr c j:=λc j=>by unfold St.fr;rw[(J c).2.2.2]
 refine⟨λc j K D E=>?_,λc K D E j L M=>?_,λc K D E j L M=>?_,λc K=>?_,⟨h.nm.qT,h.nm.fn,λi j=>?_⟩,λc j K D E=>?_,?_,?_⟩
 .rw[O]at E|-;rw[(J c).2.2.2]at D;exact h.wa c j (F▸K) D E
 .rw[(J c).1]at L M;rw[(J _).2.2.2]at L;rw[O]at M;rw[(J c).2.1];refine h.rw c (F▸K) D ?_ j L M;rw[gd]at E;split at E
  .rename_i e;rw[e];exact .inr hb.2
  .split at E
   .rename_i e;obtain q|q:=E
    .have q:s=1:=q;omega
    .have q:s=2:=q;omega
   .exact E
 .rw[(J c).2.2.1]at E|-;rw[(J c).2.2.2]at L;rw[O]at M;rw[gd]at D;split at D
  .have D:(1:Int)=0:=D;omega
  .split at D
   .rename_i e;subst e;exact(hs.resolve_left (by have D:s=0:=D;omega)).2 j L M
   .exact h.yw c (F▸K) D E j L M
 .rw[(J c).1,F];exact h.gq c (F▸K)
 .rw[F];exact h.nm.co i j
 .rw[O]at E|-;rw[(J c).2.2.2]at D;exact h.gs c j (F▸K) D E
 .rw[F];exact h.le
 .rw[F];exact h.iG
def Gw.sl(h:Gw W G)(I:Iv p Hs W cW):Sl W:=λc j E F x D=>by
 obtain⟨q,k⟩:=I.NI E;by_cases g:(W.fr c j).guard=true
 .rw[(h.gs c j E F g).1]at D;cases D
 .exact(k j F).um (uQ.2 g) x D
def Gw.push(h:Gw W G)(hn:W.cQ<W.cS.length)(run:(W.cS.getD W.cQ dE).state=1)(aa:∀i,i<W.cS.length->i≠0->nr (W.cS.getD i dE)->(W.cS.getD i dE).gq<W.cS.length/\(W.cS.getD (W.cS.getD i dE).gq dE).state=2){fw:Nat->Nat->Int}(ab:fw=λc j=>if c=W.cQ/\j=W.co.cy.length then z else G.wa c j)(hw:Wt W f.want z)(hg:f.guard=true->f.da=[]/\f.ops=[]):Gw (W.push f) {G with wa:=fw}:=by
 have cf:∀c,(W.push f).cS.getD c dE=if c=W.cQ then {W.co with cy:=W.co.cy++[f]}else W.cS.getD c dE:=oK hn _;have ff:∀c j,(W.push f).fr c j=if c=W.cQ then(W.co.cy++[f]).getD j pG else W.fr c j:=tW hn _;have I:(W.push f).cS.length=W.cS.length:=tG W _;have fo:∀c,c≠W.cQ->(W.push f).cS.getD c dE=W.cS.getD c dE:=λc e=>by rw[cf,cK e]
 have M:∀c j,c≠W.cQ->(W.push f).fr c j=W.fr c j:=λc j e=>by rw[ff,cK e]
 have ft:∀j,j<W.co.cy.length->(W.push f).fr W.cQ j=W.fr W.cQ j:=λj q=>by rw[ff,cR rfl,iL _ _ _ _ q];rfl
 have fe:(W.push f).fr W.cQ W.co.cy.length=f:=by rw[ff,cR rfl,gD]
 have fl:((W.push f).cS.getD W.cQ dE).cy.length=W.co.cy.length+1:=by rw[cf,cR rfl];simp
 have J:∀c,((W.push f).cS.getD c dE).state=(W.cS.getD c dE).state/\((W.push f).cS.getD c dE).gq=(W.cS.getD c dE).gq/\((W.push f).cS.getD c dE).want=(W.cS.getD c dE).want/\((W.push f).cS.getD c dE).held=(W.cS.getD c dE).held:=λc=>by
  rw[cf];split
  .rename_i e;subst e;exact⟨rfl,rfl,rfl,rfl⟩
  .exact⟨rfl,rfl,rfl,rfl⟩
 refine⟨λc j E F D=>?_,λc E F D j K L=>?_,λc E F D j K L=>?_,λc E=>?_,⟨h.nm.qT,h.nm.fn,λi j=>?_⟩,λc j E F D=>?_,?_,?_⟩
 .rw[I]at E;show fw c (j+1)=_;rw[ab];dsimp only;by_cases e:c=W.cQ
  .subst e;rw[fl]at F;rw[ft j cM]at D;by_cases q:j+1=W.co.cy.length
   .rw[cR ⟨rfl,q⟩,q,fe];exact hw j q.symm D
   .rw[cK cM,ft _ cM];exact h.wa _ j E (by show j+1<W.co.cy.length;omega) D
  .rw[cK cM,M _ _ e];rw[M _ _ e]at D;rw[fo c e]at F;exact h.wa c j E F D
 .rw[I]at E;have lv:nr (W.cS.getD c dE):=by unfold nr at D|-;rwa[(J c).1]at D
  have O:(W.cS.getD c dE).gq≠W.cQ:=λe=>by have:=(aa c E F lv).2;rw[e,run]at this;omega
  rw[(J c).2.1]at K L;rw[fo _ O]at K;rw[M _ _ O]at L;rw[(J c).2.2.1];exact h.rw c E F lv j K L
 .rw[I]at E;rw[(J c).1]at F;have O:c≠W.cQ:=λe=>by rw[e,run]at F;omega
  rw[(J c).2.2.2]at D|-;rw[fo _ O]at K;rw[M _ _ O]at L;exact h.yw c E F D j K L
 .rw[I]at E|-;rw[(J c).2.1];exact h.gq c E
 .rw[I];exact h.nm.co i j
 .rw[I]at E;by_cases e:c=W.cQ
  .subst e;rw[fl]at F;by_cases q:j=W.co.cy.length
   .subst q;rw[fe]at D|-;exact hg D
   .rw[ft j cM]at D|-;exact h.gs _ j E (by show j<W.co.cy.length;omega) D
  .rw[M _ _ e]at D|-;rw[fo c e]at F;exact h.gs c j E F D
 .rw[I];exact h.le
 .rw[I];exact h.iG
def Wt.fU(g:Gw W G)(h:W.cQ<W.cS.length)(I:W.co.cy.length=m+1):Wt W.fU W.db.want (G.wa W.cQ m):=by intro j D E;have F:=ph h W.cQ;rw[cR rfl]at F;have D:(W.fU.cS.getD W.cQ dE).cy.length=j+1:=D;have:m=j+1:=cM;subst this;rw[show W.fU.fr W.fU.cQ j=W.fr W.cQ j from oJ h (show j<(W.fU.cS.getD W.cQ dE).cy.length by rw[D];omega)]at E;rw[g.wa W.cQ j h (by show j+1<W.co.cy.length;omega) E,<-yR W,show W.co.cy.length-1=j+1 by omega]
def Wt.fy(g:Gw W G)(I:Iv p Hs W cW)(h:W.cQ≠0)(s:Int):Wt (W.fy s) W.co.want (G.rw W.cQ):=by
 obtain⟨_,_,_,_,F,J⟩:=qY I h s;have K:=I.gq W.cQ I.cQ h (.inl I.run);have D:(W.fy s).co.cy=(W.cS.getD W.co.gq dE).cy:=by show((W.fy s).cS.getD (W.fy s).cQ dE).cy=_;rw[F,J,ez _ _ _ _ (by rw[df];exact K.1)]
 intro j L E;refine g.rw W.cQ I.cQ h (.inl I.run) j (D▸L) ?_;rw[show(W.fy s).fr (W.fy s).cQ j=(W.fy s).co.cy.getD j pG from rfl,D]at E;exact E
def VX(E:mz p Hs)(I:Iv p Hs W cW)(h:0<W.co.cy.length)(D:W.db.guard=false)(F:0<=cW):W.db.ops.length+cW.toNat<=100000:=by have:=pM.UK E (I.kI h) D F;omega
def Lz{Z Z':eO->Value}(d:∀t:eO,t.1≠5->t.1≠8->Z' t=Z t):vi G Z'=vi G Z:=by funext x;unfold vi dV;rw[d (1,_,0) dC dC,d (2,_,0) dC dC,d (4,_,0) dC dC]
def Gt(cJ:Nat)(W:St)(G:Gh)(R:eO->fW)(H:Hi)(w:World)(V:St)(w':World):Prop:=∃R',Im cJ V G R' H w'/\Gw V G/\(∀t,t.1≠5->t.1≠8->hd R' t=hd R t)/\Kp (eY W G R) (eY V G R') w w'
def Gj(p:Pg)(Hs:Nat->List Int)(cJ:Nat)(W0:St)(G:Gh)(R0:eO->fW)(H:Hi)(w0:World)(T:St)(N:Nat)(v:Value)(z:Int)(w:World):Prop:=
 ∃W cW l R,vH W<=N/\Iv p Hs W cW/\0<=cW/\(∀x∈l,gG W.sz x)/\gv W l cW=T/\ft W<=1000000000000/\Gw W G/\Wt W cW z/\Im cJ W G R H w/\cJ<=w.heap.size/\Av (eY W G R) w G (hd R) v l/\(∀t,t.1≠5->t.1≠8->hd R t=hd R0 t)/\Kp (eY W0 G R0) (eY W G R) w0 w
def Gj.next(I:Iv p Hs W cW)(J:0<=cW)(K:vH W<=N){x:Vl}(L:gG W.sz x)(e:gv W [bv true,x] cW=T)(D:ft W<=1000000000000)(g:Gw W G)(wt:Wt W cW z)(h:Im cJ W G R H w)(M:cJ<=w.heap.size)(d:∀t,t.1≠5->t.1≠8->hd R t=hd R0 t)(k:Kp (eY W0 G R0) (eY W G R) w0 w){Y:World}(F:Below w.heap.size w Y):
  Gj p Hs cJ W0 G R0 H w0 T N (.slice (some ⟨Y.heap.size,0,none⟩) 2 2) z (Y.alloc (.cells #[.int .i64 1,.int .i64 1,.string ⟨#[]⟩,.nilIface,.int .i64 x.k,.int .i64 (hC G x),.string ⟨x.s.toArray⟩,dV (hd R0) x] 132)):=by
 have O:=(cN Y.heap.size Y).alloc (cE _) (.cells #[.int .i64 1,.int .i64 1,.string ⟨#[]⟩,.nilIface,.int .i64 x.k,.int .i64 (hC G x),.string ⟨x.s.toArray⟩,dV (hd R0) x] 132);have E:=iy F O;refine⟨W,cW,[bv true,x],R,K,I,J,yC (iX _ _) L,e,D,g,wt,h.below E,cV M E.size,?_,d,k.trans (Kp.cY E)⟩;have A:=Av.lit (G:=G) (Z:=hd R) (w:=Y) (S:=eY W G R) (λk hk=>dj (eY.lt h hk) F.size) [bv true,x] dC;rw[show([bv true,x].flatMap (vi G (hd R))).toArray=#[.int .i64 1,.int .i64 1,.string ⟨#[]⟩,.nilIface,.int .i64 x.k,.int .i64 (hC G x),.string ⟨x.s.toArray⟩,dV (hd R0) x] by rw[Lz d];rfl]at A;exact A
def Nx(p:Pg)(Hs:Nat->List Int)(cJ:Nat)(W0:St)(G:Gh)(R0:eO->fW)(H:Hi)(w0:World)(T:St)(N:Nat)(v:Value)(x:Vl)(z:Int)(w:World):Prop:=
 (∀Y,Below w.heap.size w Y->Calls Tryz.prog 172 #[v,.int .i64 0] Y λe h=>e=.returned (jX G (hd R0) x)/\Below Y.heap.size Y h)/\∀Y,Below w.heap.size w Y->Gj p Hs cJ W0 G R0 H w0 T N (.slice (some ⟨Y.heap.size,0,none⟩) 2 2) z (Y.alloc (.cells #[.int .i64 1,.int .i64 1,.string ⟨#[]⟩,.nilIface,.int .i64 x.k,.int .i64 (hC G x),.string ⟨x.s.toArray⟩,dV (hd R0) x] 132))
def Nx.of(I:Iv p Hs W cW)(J:0<=cW)(K:vH W<=N)(L:gG W.sz (first l))(e:gv W [bv true,first l] cW=T)(D:ft W<=1000000000000)(g:Gw W G)(wt:Wt W cW z)(h:Im cJ W G R H w)(M:cJ<=w.heap.size)(d:∀t,t.1≠5->t.1≠8->hd R t=hd R0 t)(k:Kp (eY W0 G R0) (eY W G R) w0 w){S:Nat->Prop}{Z:eO->Value}(A:Av S w G Z v l)(E:∀t:eO,t.1≠5->t.1≠8->Z t=hd R0 t):Nx p Hs cJ W0 G R0 H w0 T N v (first l) z w:=by refine⟨λY F=>?_,λY F=>Gj.next I J K L e D g wt h M d k F⟩;have:=sj (A.below F) 0;rwa[show jX G Z (l.getD 0 v0)=jX G (hd R0) (first l) by unfold jX dV first;rw[E (1,_,0) dC dC,E (2,_,0) dC dC,E (4,_,0) dC dC]]at this
def Gj.cases(E:mz p Hs)(j:Gj p Hs cJ W0 G R0 H w0 T (N+1) v z w){g cg:Nat}(h9:hd R0 (9,0,0)=.slice (some ⟨g,0,none⟩) 1 cg):
  ∃c,w.cell? ⟨g,41,none⟩=some (.pointer (some ⟨c,0,none⟩)) /\
   ((∃f,(Calls Tryz.prog 66 #[.pointer (some ⟨c,0,none⟩)] w λe w'=>e=.returned (.iface 147 (.pointer f))/\Below w.heap.size w w')/\∀X,Below w.heap.size w X->Calls Tryz.prog 175 #[.pointer f,v,.int .i64 z] X λe w'=>(∃x,e=.returned x)/\Gt cJ W0 G R0 H w0 T w') \/
   (∃zz x,(Calls Tryz.prog 66 #[.pointer (some ⟨c,0,none⟩)] w λe w'=>e=.returned (.iface 199 (.agg #[.int .i64 zz]))/\Below w.heap.size w w')/\∀X,Below w.heap.size w X->Calls Tryz.prog 141 #[.pointer (some ⟨c,0,none⟩)] X λe w1=>(∃x,e=.returned x)/\(∀k,w.heap.size<=k->k<X.heap.size->w1.heap[k]?=X.heap[k]?)/\Nx p Hs cJ W0 G R0 H w0 T N v x zz w1) \/
   (Calls Tryz.prog 66 #[.pointer (some ⟨c,0,none⟩)] w λe w'=>e=.returned .nilIface/\Below w.heap.size w w') /\
    ((w.cell? ⟨c,7,none⟩=some (.pointer none)/\∀X,Below w.heap.size w X->Calls Tryz.prog 30 #[.pointer (some ⟨g,0,none⟩),.int .i64 0] X λe w'=>(∃x,e=.returned x)/\Gt cJ W0 G R0 H w0 T w') \/
    ∃q zz x,w.cell? ⟨c,7,none⟩=some (.pointer (some q))/\∀X,Below w.heap.size w X->Calls Tryz.prog 147 #[.pointer (some ⟨g,0,none⟩),.int .i64 3] X λe w1=>e=.returned (.int .i64 zz)/\Nx p Hs cJ W0 G R0 H w0 T N v x zz w1)):=by
 obtain⟨W,cW,l,R,hf,I,hp,hv,O,aa,gw,wt,h,hB,A,d,k⟩:=j;have J:=I.cQ;have ab:=(d (9,0,0) dC dC).trans h9;obtain⟨g',ac,e9,c9,f9,ad⟩:=h.mP;rw[ab]at e9;cases e9;have p9:ptr (hd R (9,0,0))=.pointer (some ⟨g,0,none⟩):=by rw[ab];rfl
 obtain⟨c,cc,h4,fc,c4,z4⟩:=h.Br J;have p4:ptr (hd R (4,W.cQ,0))=.pointer (some ⟨c,0,none⟩):=by rw[h4];rfl
 have lf:=wV J;refine⟨c,by rw[<-p4];exact c9 41 _ rfl,?_⟩;obtain e|e:=DF W.co.cy.length
 .refine .inr (.inr ⟨by rw[<-p4];exact Rm h J e,?_⟩);have ef:=eJ.1 e;have c7:w.cell? ⟨c,7,none⟩=some (if W.cQ=0\/W.co.held<0 then .pointer none else ptr (hd R (4,W.co.gq,0))):=c4 7 _ rfl;by_cases K:W.cQ=0
  .refine .inl ⟨by rw[c7,cR (.inl K)],λX F=>?_⟩;have en:=Hx (h.below F) 0;rw[p9]at en;refine en.mono ?_;rintro e' w' ⟨q,R',i,dd,kk⟩;rw[xK e K]at O;subst O;exact⟨q,R',i,gw.pF rfl rfl rfl (λ_=>rfl) (λ_=>⟨rfl,rfl,rfl,rfl⟩) (λ_ _=>⟨rfl,rfl⟩) (λ_ _ _=>⟨rfl,rfl⟩),λt q5 q8=>dd▸d t q5 q8,(k.trans (Kp.cY F)).trans kk⟩
  .have hh:0<=W.co.held:=Wy.1 λq=>by have:=(I.fresh W.cQ J q).1;rw[I.run]at this;omega
   have hb:=I.gq W.cQ J K (.inl I.run);have nb:W.co.gq≠W.cQ:=λq=>by have:=hb.2;unfold St.co at q;rw[q,I.run]at this;omega
   obtain⟨r,cr,h5,_⟩:=h.Br hb.1;refine .inr ⟨⟨r,0,none⟩,G.rw W.cQ,first l,by rw[c7,cK cM,show hd R (4,W.co.gq,0)=_ from h5];rfl,λX F=>?_⟩;have L:=yI (h.below F) J K hh hb.1 nb 3;rw[p9]at L;refine L.mono ?_;rintro e' w1 ⟨rfl,R1,i1,d1,k1⟩;have fl:=qd I K ef;rw[vE I e K]at O;exact⟨rfl,Nx.of (I.sR K ef) (I.pU W.cQ J).1 cM (by rw[oV];exact ir hv) O (cV (vm I K 3).cy aa) (gw.fy I K (.inl rfl)) (Wt.fy gw I K 3) i1 (cV hB (cV F.size k1.size)) (λt q5 q8=>by rw[d1];exact d t q5 q8) ((k.trans (Kp.cY F)).trans k1) (A.kept ((Kp.cY F).trans k1)) d⟩
 .obtain⟨m,hm⟩:∃m,W.co.cy.length=m+1:=⟨W.co.cy.length-1,cM⟩
  have tp:=LQ h J hm cM;rw[p4]at tp;unfold PZ at tp;by_cases M:W.db.guard=true
  .rw[cR M]at tp;refine .inr (.inl ⟨_,first l,tp,λX F=>?_⟩);have D:=Qf (h.below F) J hm cM;rw[p4]at D;refine D.mono ?_;rintro e' w1 ⟨rfl,R1,u1,i1,d1,k1⟩;have fl:=sW I e;rw[vG I cM M]at O;exact⟨⟨_,rfl⟩,λq q1 q2=>k1.kg q q2 (λq3=>by have:=eY.lt h q3;omega),Nx.of (jS I e) (I.kI e).nQ cM (by unfold St.fU;rw[jv];exact ir hv) O (cV (qL J).cy aa) (gw.fU I) (Wt.fU gw J hm) i1 (cV hB (cV F.size k1.size)) (λt q5 q8=>by rw[d1,dL (λq=>q5 (by rw[q]))];exact d t q5 q8) ((k.trans (Kp.cY F)).trans k1) (A.kept ((Kp.cY F).trans k1)) d⟩
  .have M:W.db.guard=false:=by simpa using M
   rw[cK (by rw[M];simp)]at tp;have fw:=VX E I e M hp;have C:Cu cJ W G R H m w:=⟨h,hB,J,hm,M,cM⟩
   obtain⟨f,pf,_⟩:=C.ptr;rw[pf]at tp;refine .inl ⟨_,tp,λX F=>?_⟩;have zq:z=((cW.toNat:Nat):Int):=by rw[wt m hm (by rw[show m=W.co.cy.length-1 by omega];exact M)];omega
   have rc:=GK (C.below F) (A.below F) (wt:=cW.toNat) cM;rw[pf,<-zq]at rc;refine rc.mono ?_;rintro e' w' ⟨q,R',i,dd,kk⟩;rw[Da cM M]at O;subst O;exact⟨q,R',i,gw.db J e rfl rfl (λq=>absurd (show W.db.guard=true from q) (by rw[M];simp)),λt q5 q8=>by rw[dd t q8];exact d t q5 q8,(k.trans (Kp.cY F)).trans kk⟩
def PX(E:mz p Hs)(I:Iv p Hs W cW)(hp:0<=cW)(hv:∀x∈l,gG W.sz x)(aa:ft W<=1000000000000)(gw:Gw W G)(hw:Wt W cW want)(h:Im cJ W G R H w)(hB:cJ<=w.heap.size)(A:Av (eY W G R) w G (hd R) v l):
  Calls Tryz.prog 142 #[ptr (hd R (9,0,0)),v,.int .i64 want] w λe w'=>(∃x,e=.returned x)/\Gt cJ W G R H w (gv W l cW) w':=by
 obtain⟨g,cg,h9,c9,f9,ac⟩:=h.mP;rw[show ptr (hd R (9,0,0))=.pointer (some ⟨g,0,none⟩) by rw[h9];rfl];obtain⟨T,hT⟩:=eX (gv W l cW);have J0:Hid (Gj p Hs cJ W G R H w T (vH W+1) v want w):=⟨W,cW,l,R,cM,I,hp,hv,hT.symm,aa,gw,hw,h,hB,A,λ_ _ _=>rfl,Kp.refl _ _⟩
 have CA:=cO (λN v z wr (j:Gj p Hs cJ W G R H w T (N+1) v z wr)=>Gj.cases E j h9);have NZ:Hid (∀v z wr,¬Gj p Hs cJ W G R H w T 0 v z wr):=λv z wr ⟨_,_,_,_,q,_⟩=>by rw[oS]at q;omega
 rw[<-hT];have TS:=cO (λ(x:Vl)=>(gm (hd R) x).store);have t1:∀(f:Option Addr) X,(Instr.typeAssert (.iface 147 (.pointer f)) 149 147 true).run Tryz.prog X=.ok (.tuple #[.pointer f,.bool true]) X:=λf X=>gA;have t2:∀(z:Int) X,(Instr.typeAssert (.iface 199 (.agg #[.int .i64 z])) 149 147 true).run Tryz.prog X=.ok (.tuple #[.pointer none,.bool false]) X:=λz X=>gA;have t3:∀(z:Int) X,(Instr.typeAssert (.iface 199 (.agg #[.int .i64 z])) 149 199 true).run Tryz.prog X=.ok (.tuple #[.agg #[.int .i64 z],.bool true]) X:=λz X=>gA;have t4:∀X,(Instr.typeAssert .nilIface 149 147 true).run Tryz.prog X=.ok (.tuple #[.pointer none,.bool false]) X:=λX=>gA;have t5:∀X,(Instr.typeAssert .nilIface 149 199 true).run Tryz.prog X=.ok (.tuple #[.agg #[.int .i64 0],.bool false]) X:=λX=>gA;have BV:Hid (∀X,Calls Tryz.prog 143 #[.bool true] X λe w'=>e=.returned (.agg #[.int .i64 1,.int .i64 1,.string ⟨#[]⟩,.nilIface])/\Below X.heap.size X w'):=λX=>jM (w:=X) true;have WG:=cO (λX z=>wJ (w:=X) z);have IM:=cO (λX (a:Nat) (q:Option Addr)=>uz (w:=X) (a:=a) (q:=q));clear hT I hp hv aa gw hw h hB A c9 f9 ac h9 E;go_enter func142,ntmps142;go_wp2;go_loopg[1,2] (vH W+1) (λN x y wr=>∃z,y=.int .i64 z/\Hid (Gj p Hs cJ W G R H w T N x z wr))
 case atStart=>exact⟨want,rfl,J0⟩
 case round=>
  obtain⟨z,rfl,JK⟩:=hrel;obtain _|N:=gk
  .exact absurd JK (NZ _ _ _)
  obtain⟨c,K,ad⟩:=CA N u1 z wr JK;have L:=cO K;clear CA JK J0 NZ;obtain⟨f,J,rc⟩|⟨zz,x,J,dr⟩|⟨J,⟨c7,en⟩|⟨q,zz,x,c7,lv⟩⟩:=ad
  .have M:=cO J;have RC:=cO rc;clear J rc t2 t3 t4 t5;go_wp2_with(first
    |(go_at_call 66;refine cA M ?_;rintro e w3 ⟨rfl,D⟩;have F:=cO D;clear D)
    |(go_at_call 175;refine cA (RC _ F) ?_;rintro e w4 ⟨⟨y,rfl⟩,g4⟩;have G4:=cO g4;clear g4))
   go_returns;exact⟨⟨_,rfl⟩,G4⟩
  .have M:=cO J;have DR:=cO dr;clear J dr t1 t4 t5;have ts:=TS x;unfold Nx jX vq at DR;obtain⟨tt,ht⟩:∃t,t=dV (hd R) x:=⟨_,rfl⟩
   rw[<-ht]at ts DR;clear ht TS;go_upto_region 10 with(go_at_call 66;refine cA M ?_;rintro e w3 ⟨rfl,D⟩;have F:=cO D;clear D)
   refine dx λw4 O=>?_;have B4:Hid (Below wr.heap.size wr w4):=O▸F.alloc F.size _;have L4:Hid (Lc (λ_=>False) w4 w3.heap.size #[.int .i64 zz] 199):=O▸Lc.new w3 (λ_ h=>h.elim) _ _;clear O K;have K:=di L B4;go_wp2_with(first
    |(go_at_call 141;refine cA (DR _ B4) ?_;rintro e w5 ⟨⟨y,rfl⟩,k5,n5,m5⟩;have z0:=Lc.cell (S:=λ_=>False) ⟨λh=>h,(k5 _ F.size L4.lt).trans L4.2⟩ (j:=0) rfl;have N5:=cO n5;have M5:=cO m5;clear k5 n5 m5)
    |(go_at_call 144;refine cA (WG _ _) ?_;rintro e w6 ⟨rfl,b6⟩;have B6:=cO b6;clear b6)
    |(go_at_call 143;refine cA (BV _) ?_;rintro e w7 ⟨rfl,b7⟩;have B7:=cO (iy B6 b7);clear b7)
    |(go_at_call 172;refine cA (N5 _ B7) ?_;rintro e w8 ⟨rfl,b8⟩;have B8:=cO (iy B7 b8);clear b8))
   go_roundg N
   case measure=>omega
   case rel=>exact⟨zz,rfl,M5 _ B8⟩
  .have M:=cO J;have C7:=cO c7;have EN:=cO en;clear J c7 en t1 t2 t3;go_wp2_with(first
    |(go_at_call 66;refine cA M ?_;rintro e w3 ⟨rfl,D⟩;have F:=cO D;have ab:=di L D;clear D)
    |(go_at_call 145;refine cA (IM _ _ _ (di C7 F)) ?_;rintro e w4 ⟨rfl,rfl⟩)
    |(go_at_call 30;refine cA (EN _ F) ?_;rintro e w5 ⟨⟨y,rfl⟩,g5⟩;have G5:=cO g5;clear g5))
   go_returns;exact⟨⟨_,rfl⟩,G5⟩
  .have M:=cO J;have C7:=cO c7;have LV:=cO lv;clear J c7 lv t1 t2 t3;have ts:=TS x;unfold Nx jX vq at LV;obtain⟨tt,ht⟩:∃t,t=dV (hd R) x:=⟨_,rfl⟩
   rw[<-ht]at ts LV;clear ht TS;go_wp2_with(first
    |(go_at_call 66;refine cA M ?_;rintro e w3 ⟨rfl,D⟩;have F:=cO D;have ab:=di L D;clear D)
    |(go_at_call 145;refine cA (IM _ _ _ (di C7 F)) ?_;rintro e w4 ⟨rfl,rfl⟩)
    |(go_at_call 147;refine cA (LV _ F) ?_;rintro e w5 ⟨rfl,n5,m5⟩;have N5:=cO n5;have M5:=cO m5;clear n5 m5)
    |(go_at_call 143;refine cA (BV _) ?_;rintro e w7 ⟨rfl,b7⟩;have B7:=cO b7;clear b7)
    |(go_at_call 172;refine cA (N5 _ B7) ?_;rintro e w8 ⟨rfl,b8⟩;have B8:=cO (iy B7 b8);clear b8))
   go_roundg N
   case measure=>omega
   case rel=>exact⟨zz,rfl,M5 _ B8⟩
def jm(h:w.ownsRow cJ E c v n us)(J:∀k,v.ownBlock=some k->w1.heap[k]?=w.heap[k]?):w1.ownsRow cJ E c v n us:=by
 refine⟨h.1,?_⟩;obtain x|⟨I,D,F,x,K,L,M⟩:=h.2
 .exact .inl x
 .exact .inr ⟨I,D,F,x,K,by rw[J I (by rw[x];rfl)];exact L,M⟩
def Im.apart(h:Im cJ W G R H w)(D:∀k,eY W G R k->w1.heap[k]?=w.heap[k]?):Im cJ W G R H w1:=by refine⟨⟨λt E=>jm (h.eH.own t E) λk e=>D k (.row E e),h.eH.apart⟩,h.ij,h.var,h.cells,λi F=>?_,h.wj,h.fP,h.lone⟩;obtain⟨⟨I,c,J,K⟩,L⟩:=h.pZ i F;exact⟨⟨I,c,(D _ (.inr ⟨i,F,rfl⟩)).trans J,K⟩,L⟩
def KH(h:∀s,eW W s\/s.1<5->Z' s=Z s){t:eO}(D:eW W t):gF W G H Z' t=gF W G H Z t:=by
 obtain⟨s,i,j⟩:=t;have n:∀a b d,a<5->Z' (a,b,d)=Z (a,b,d):=λa b d e=>h _ (.inr e);have E:vi G Z'=vi G Z:=by funext x;unfold vi dV;rw[n 1 _ _ iM,n 2 _ _ iM,n 4 _ _ iM]
 obtain _|_|_|_|_|_|_|_|_|_|s:=s
 .exact qt E _
 .rfl
 .show _++[Z' (3,i,0)]=_;rw[n 3 _ _ iM];rfl
 .show((W.funcs.getD i (0,[])).2.flatMap λx=>[ptr (Z' (0,x,0))])=_;exact ga (λq=>(W.funcs.getD i (0,[])).2.flatMap q) (funext λx=>by rw[n 0 _ _ iM])
 .show[_,Z' (5,i,0)]++vi G Z' _++[_,if _ then _ else ptr (Z' (4,_,0)),_,_]=_;rw[E,n 4 _ _ iM,h (5,i,0) (.inl ⟨D.1,rfl⟩)];rfl
 .show((List.range (W.cS.getD i dE).cy.length).flatMap λk=>[if (W.fr i k).guard then Value.iface 199 (.agg #[zI (G.wa i k)])else .iface 147 (ptr (Z' (6,i,k)))])=_;refine fX λk F=>?_;by_cases e:(W.fr i k).guard=true
  .rw[cR e,cR e]
  .rw[cK e,cK e,h (6,i,k) (.inl ⟨D.1,F,by simpa using e⟩)]
 .show[ptr (Z' (2,_,0)),_,Z' (7,i,j),Z' (8,i,j),_]=_;rw[n 2 _ _ iM,h (7,i,j) (.inl D),h (8,i,j) (.inl D)];rfl
 .show((W.fr i j).da.flatMap λx=>[ptr (Z' (0,x,0))])=_;exact ga (λq=>(W.fr i j).da.flatMap q) (funext λx=>by rw[n 0 _ _ iM])
 .show(W.fr i j).ops.flatMap (vi G Z')=_;rw[E];rfl
 .show[H.ps,H.ks,H.ins]++zG++[ptr (Z' (4,W.cQ,0)),_,_,_,_,_,_,_,_]=_;rw[n 4 _ _ iM];rfl
 .exact absurd D (by intro q;exact q)
def Im.WI(h:Im cJ W G R H w)(e:∀s:eO,eW W s\/s.1<5->R0 s=R s):Im cJ W G R0 H w:=by
 have E:∀s:eO,eW W s\/s.1<5->hd R0 s=hd R s:=λs F=>by unfold hd;rw[e s F]
 have L:vi G (hd R0)=vi G (hd R):=by funext x;unfold vi dV;rw[E (1,_,0) (.inr dC),E (2,_,0) (.inr dC),E (4,_,0) (.inr dC)]
 have I:∀x,R0 (0,x,0)=R (0,x,0):=λx=>e _ (.inr dC);refine⟨h.eH.same λt D=>e t (.inl D),λt D q=>by rw[e t (.inl D)];exact h.ij t D q,λx J=>by rw[I];exact h.var x J,λt D q=>?_,λi K=>?_,h.wj,λi K x J=>by rw[I];exact h.fP i K x J,λc j a M O a' h1 h2 h3 h4 h5 h6 h7=>by rw[I];exact h.lone c j a M O a' h1 h2 h3 h4 h5 h6 h7⟩
 .rw[e t (.inl D)]at q|-;rw[h.cells t D q];exact(KH E D).symm
 .obtain⟨⟨es,c,q1,q2⟩,q3,q4⟩:=h.pZ i K;refine⟨⟨es,c,q1,?_⟩,q3,λs F=>by rw[e s (.inl F)];exact q4 s F⟩;rw[q2];unfold rB;rw[L]
def Im.Ub(h:Im cJ W G R H w)(D:Sl W):∀j:Nat,∃R',Im cJ {W with vars:=W.vars++List.replicate j v0} G R' H w/\(∀t:eO,t.1≠0\/t.2.1<W.vars.length->R' t=R t)/\∀i,i<j->R' (0,W.vars.length+i,0)=lA
 |0=>⟨R,by rw[List.replicate_zero,kS];exact h,λ_ _=>rfl,λi F=>absurd F (dT _)⟩
 |j+1=>by
  obtain⟨R',J,K,L⟩:=Im.Ub h D j;have e:W.vars++List.replicate (j+1) v0=(W.vars++List.replicate j v0)++[v0]:=by rw[List.replicate_succ',jQ]
  have M:(W.vars++List.replicate j v0).length=W.vars.length+j:=dC;have a:=J.Ii (v:=v0) (r:=lA) (w1:=w) (cN _ _) (λc k O q2 x hx=>by have:=D c k O q2 x hx;show x<(W.vars++List.replicate j v0).length;omega) (fD _ _ _ _) (λk hk=>by cases hk) (.inr ⟨rfl,rfl,rfl⟩);refine⟨jG R' (0,W.vars.length+j,0) lA,?_,λt I=>?_,λi F=>?_⟩
  .rw[e];have E:=M;rw[E]at a;exact a
  .rw[dh _ _ (λq=>by subst q;dsimp only at I;omega)];exact K t I
  .by_cases q:i=j
   .subst q;rw[dD]
   .rw[dh _ _ iY];exact L i cM
section
variable{wr:World}{fn:Nat}
structure En(cJ:Nat)(W:St)(G:Gh)(R:eO→fW)(H:Hi)(w:World)(args:List Vl)(ns:Nat)(cs:Array Value)(k:Nat)(wr:World)(R1:eO→fW):Prop where
 im:Im cJ {W with vars:=W.vars++args.take k} G R1 H wr
 re:∀t:eO,t.1≠0∨t.2.1<W.vars.length→R1 t=R t
 own:wr.ownsRow cJ 195 1 (.slice (some ⟨w.heap.size,0,none⟩) ns ns) ns ((List.range ns).map fun i=>if i<k then ptr (hd R1 (0,W.vars.length+i,0)) else .pointer none)
 Vb:wr.heap[w.heap.size+1]?=some (.cells cs 153 (0,0))
 ne:∀b,eY {W with vars:=W.vars++args.take k} G R1 b→b≠w.heap.size∧b≠w.heap.size+1
 kp:Kp (eY W G R) (eY {W with vars:=W.vars++args.take k} G R1) w wr
def Tw{h:eO->fW}(e:∀t:eO,t.1≠0\/t.2.1<W.vars.length->h t=R t):vi G (hd h)=vi G (hd R):=by funext x;unfold vi dV hd;rw[e (1,_,0) (.inl dC),e (2,_,0) (.inl dC),e (4,_,0) (.inl dC)]
def wg(l:List Vl)(h:k<l.length):l.take (k+1)=l.take k++[l.getD k v0]:=by rw[List.take_succ,cG h,cB,cG h];rfl
def En.gY{E:eO->fW}(h:En cJ W G R H w args ns cs k wr E)(hB:cJ<=w.heap.size)(O:Sl W)(J:k<args.length)(F:k<ns):
  ∃R2,En cJ W G R H w args ns cs (k+1) ((wr.alloc (.cells (vi G (hd R) (args.getD k v0)).toArray 196)).setCell ⟨w.heap.size,k,none⟩ (.pointer (some ⟨wr.heap.size,0,none⟩))) R2:=by
 obtain⟨im,re,own,K,ne,I⟩:=h;have hs:=I.size;have vl:(W.vars++args.take k).length=W.vars.length+k:=by rw[dq,dX];omega
 have L:=vl;have aa:=gC K;have ow:=jt (base:=cJ) (e:=196) (size:=4) wr (vi G (hd R) (args.getD k v0)).toArray 1 cM (by unfold maxLen;omega) rfl;have a:=im.Ii (v:=args.getD k v0) (r:=⟨zS wr.heap.size 1 1,1,vi G (hd R) (args.getD k v0)⟩) (ba) (λc j q1 M x hx=>by have:=O c j q1 M x hx;show x<(W.vars++args.take k).length;omega) ow (λk J=>by cases J;exact cE _) (.inl ⟨rfl,by rw[Tw re]⟩);rw[L]at a;have st:=(own.alloc (.cells (vi G (hd R) (args.getD k v0)).toArray 196)).stored k (zP wr.heap.size);have ft:∀b,eY {W with vars:=W.vars++args.take (k+1)} G (jG E (0,W.vars.length+k,0) ⟨zS wr.heap.size 1 1,1,vi G (hd R) (args.getD k v0)⟩) b->eY {W with vars:=W.vars++args.take k} G E b\/b=wr.heap.size:=by
  intro b D;obtain⟨s,hs,e⟩|q:=D
  .rw[wg _ J,<-jQ]at hs;obtain q|q:=(nS (W:={W with vars:=W.vars++args.take k}) s).1 hs
   .rw[wx,dL (λx=>by subst x;have q1:W.vars.length+k<(W.vars++args.take k).length:=q.1;omega)]at e;exact .inl (.row q e)
   .rw[L]at q;subst q;rw[wx,jL]at e;exact .inr (by simpa[Value.ownBlock]using e.symm)
  .exact .inl (.inr q)
 refine⟨jG E (0,W.vars.length+k,0) ⟨zS wr.heap.size 1 1,1,vi G (hd R) (args.getD k v0)⟩,?_,λt ht=>?_,?_,?_,λb D=>?_,?_⟩
 .rw[wg _ J,<-jQ];refine Im.apart a λb D=>?_;rw[jQ,<-wg _ J]at D;refine cZ _ (zA w.heap.size k) _ b ?_;obtain q|q:=ft b D
  .exact(ne b q).1
  .show b≠w.heap.size;omega
 .rw[dh _ _ (λq=>by subst q;dsimp only at ht;omega)];exact re t ht
 .have e:((List.range ns).map λi=>if i<k then ptr (hd E (0,W.vars.length+i,0))else Value.pointer none).set k (zP wr.heap.size)=(List.range ns).map λi=>if i<k+1 then ptr (hd (jG E (0,W.vars.length+k,0) ⟨zS wr.heap.size 1 1,1,vi G (hd R) (args.getD k v0)⟩) (0,W.vars.length+i,0))else .pointer none:=by
   refine iE λi=>?_;rw[uP,ed,ed,wx];by_cases q:k=i
   .subst q;rw[cR rfl,cR (by simpa using F),iO F,kP,cR cM,jL];rfl
   .rw[cK q];by_cases hi:i<ns
    .rw[iO hi,kP,kP,dL iY];by_cases M:i<k
     .rw[cR M,cR cM]
     .rw[cK M,cK cM]
    .rw[dO (by simpa using hi)];rfl
  rw[<-e];exact st.1
 .rw[cZ _ (zA w.heap.size k) _ _ dC,gH _ _ _ aa];exact K
 .obtain q|q:=ft b D
  .exact ne b q
  .omega
 .refine⟨I.os,I.tape,I.output,by simp[World.setCell];omega,λb D F=>?_,λb D F h2=>?_⟩
  .rw[cZ _ (zA w.heap.size k) _ _ (by show b≠w.heap.size;omega),gH _ _ _ cM];exact I.kg b D F
  .obtain q|q:=ft b h2
   .exact I.out b D F q
   .omega
def Pv(args:List Vl)(h:np<=ns):((List.range ns).map λi=>if i<np then args.getD i v0 else v0)=args.take (min np args.length)++List.replicate (ns-min np args.length) v0:=by
 refine iE λi=>?_;rw[ed,List.getElem?_append,dX,pO];by_cases D:i<ns
 .rw[iO D,kP];by_cases q:i<min (min np args.length) args.length
  .rw[cR q,cR cM,jA cM,cB,cG cM];rfl
  .rw[cK q,show(if i-min (min np args.length) args.length<ns-min np args.length then some v0 else none)=some v0 from cR cM];by_cases E:i<np
   .rw[cR E,cB,dO cM];rfl
   .rw[cK E]
 .rw[dO (by simpa using D),cK cM,cK cM];rfl
def lI{b:Nat}(h:w.heap[b]?=some (.cells cs E (0,0)))(F:cJ<=b)(I:n<=maxLen)(D:cs.size=n*c)(e:cs.toList=us):w.ownsRow cJ E c (.slice (some ⟨b,0,none⟩) n n) n us:=by subst e;exact⟨by simpa using D,.inr ⟨b,n,cs,rfl,F,h,cE _,I,D,iI (mI▸D▸cE _)⟩⟩
def En.push{R1:eO->fW}{c:Nat×List Nat}(h:En cJ W G R H w args ns cs (min np args.length) wr R1)(I:Iv p Hs W cW)(gw:Gw W G)(wt:Wt W cW want)(hB:cJ<=w.heap.size)(ae:W.co.cy.length<=1000000000000)(af:np<=ns)(ah:ns<=200)(ac:cs.toList=[ptr (hd R (2,fn,0)),zI 0,zS w.heap.size ns ns,zN,zI want])(hT:T=({W with vars:=W.vars++(List.range ns).map λi=>if i<np then args.getD i v0 else v0}:St).push ⟨false,cW,c.1,0,c.2,(List.range ns).map λi=>W.vars.length+i,[],fn⟩):
  zC 140 #[ptr (hd R (9,0,0)),.iface 147 (zP (w.heap.size+1))] wr λe w'=>(∃x,e=.returned x)/\∃G' R',Im cJ T G' R' H w'/\Gw T G'/\hd R' (9,0,0)=hd R (9,0,0)/\Kp (eY W G R) (eY T G' R') w w':=by
 have hn:=I.cQ;have sl:=gw.sl I;obtain⟨m,hm⟩:=eX W.co.cy.length;rw[Pv args af]at hT;have vl:(W.vars++args.take (min np args.length)).length=W.vars.length+min np args.length:=by rw[dq,dX];omega
 obtain⟨R2,i2,e2,z2⟩:=h.im.Ub (λc j q1 q2 x hx=>by have:=sl c j q1 q2 x hx;show x<(W.vars++_).length;omega) (ns-min np args.length);rw[show({W with vars:=W.vars++args.take (min np args.length)}:St).vars.length=W.vars.length+min np args.length from vl]at e2 z2;rw[show({W with vars:=W.vars++args.take (min np args.length)}:St).vars++List.replicate (ns-min np args.length) v0=W.vars++(args.take (min np args.length)++List.replicate (ns-min np args.length) v0)from jQ ..]at i2;generalize ag:args.take (min np args.length)++List.replicate (ns-min np args.length) v0=D at i2 hT;have nl:D.length=ns:=by rw[<-ag,dq,dX,lO];omega
 generalize hf:(⟨false,cW,c.1,0,c.2,(List.range ns).map λi=>W.vars.length+i,[],fn⟩:Fr)=f at hT;have fg:f.guard=false:=by rw[<-hf]
 have fs:f.da=(List.range ns).map λi=>W.vars.length+i:=by rw[<-hf]
 have M:=h.kp.size;have ai:=gC h.Vb;have r2:∀t:eO,t.1≠0\/t.2.1<W.vars.length->R2 t=R t:=λt ht=>(e2 t cM).trans (h.re t ht);obtain⟨ra,F⟩:∃r:fW,r=⟨zS (w.heap.size+1) 1 1,1,cs.toList⟩:=⟨_,rfl⟩
 obtain⟨rb,K⟩:∃r:fW,r=⟨zS w.heap.size ns ns,ns,(List.range ns).map λi=>if i<min np args.length then ptr (hd R1 (0,W.vars.length+i,0))else .pointer none⟩:=⟨_,rfl⟩
 have ad:∀b,eY {W with vars:=W.vars++D} G R2 b->eY {W with vars:=W.vars++args.take (min np args.length)} G R1 b:=by
  intro b hb;obtain⟨s,q,e⟩|q:=hb
  .by_cases e0:s.1≠0\/s.2.1<W.vars.length+min np args.length
   .unfold hd at e;rw[e2 s e0]at e;refine .row ?_ e;obtain⟨s,i,j⟩:=s;obtain _|_|_|_|_|_|_|_|_|_|s:=s
    .exact⟨by show i<(W.vars++_).length;dsimp only at e0;omega,q.2⟩
    all_goals exact q
   .obtain⟨s,i,j⟩:=s;have s0:=oO λx=>e0 (.inl x);subst s0;have q1:i<(W.vars++D).length:=q.1;have qj:j=0:=q.2;rw[dq,nl]at q1;obtain⟨d,rfl⟩:∃d,i=W.vars.length+min np args.length+d:=⟨i-(W.vars.length+min np args.length),by dsimp only at e0;omega⟩
    unfold hd at e;rw[qj,z2 d cM]at e;cases e
  .exact .inr q
 have ap:∀b,eY {W with vars:=W.vars++D} G R2 b->b≠w.heap.size/\b≠w.heap.size+1:=λb hb=>h.ne b (ad b hb);have aj:({W with vars:=W.vars++D}:St).co.cy=W.co.cy:=rfl;obtain⟨N,hN⟩:=eX (λs=>s=(6,W.cQ,m)\/s=(7,W.cQ,m)\/s=(8,W.cQ,m):eO->Prop);have out:∀s,eW {W with vars:=W.vars++D} s->¬N s:=by
  intro s M q;rw[hN]at q;have:∀a,¬eW {W with vars:=W.vars++D} (a,W.cQ,m)\/¬(6<=a/\a<=8):=λa=>by
   refine Classical.or_iff_not_imp_right.2 λq M=>?_;have q:=Classical.not_not.1 q;have ak:m<W.co.cy.length:=by have:a=6\/a=7\/a=8:=cM;obtain rfl|rfl|rfl:=this<;>exact M.2.1
   omega
  obtain rfl|rfl|rfl:=q
  .exact(this 6).elim (λx=>x M) λx=>x iM
  .exact(this 7).elim (λx=>x M) λx=>x iM
  .exact(this 8).elim (λx=>x M) λx=>x iM
 obtain⟨E,O⟩:=eX (jG (jG (jG R2 (6,W.cQ,m) ra) (7,W.cQ,m) rb) (8,W.cQ,m) lA);have q6:E (6,W.cQ,m)=ra:=by rw[O,dh _ _ dC,dh _ _ dC,dD]
 have q7:E (7,W.cQ,m)=rb:=by rw[O,dh _ _ dC,dD]
 have q8:E (8,W.cQ,m)=lA:=by rw[O,dD]
 have qo:∀s,¬N s->E s=R2 s:=λs q=>by rw[hN]at q;rw[O,dh _ _ (λe=>q (.inr (.inr e))),dh _ _ (λe=>q (.inr (.inl e))),dh _ _ (λe=>q (.inl e))]
 have i3:Im cJ {W with vars:=W.vars++D} G E H wr:=i2.WI λs M=>qo s (M.elim (out s) λq x=>by rw[hN]at x;obtain rfl|rfl|rfl:=x<;>simp at q);have hh:∀t:eO,t.1≠0\/t.2.1<W.vars.length->¬N t->hd E t=hd R t:=λt q1 q2=>by unfold hd;rw[qo t q2,r2 t q1]
 have Nn:∀t:eO,t.1<6\/t.1=9->¬N t:=λt q x=>by rw[hN]at x;obtain rfl|rfl|rfl:=x<;>simp at q
 have ab:rn.Rows cJ Is Iz (λs=>eW {W with vars:=W.vars++D} s\/N s) E wr:=by
  have A:=i2.eH.add (t:=(6,W.cQ,m)) (r:=ra) (F▸lI h.Vb cM (by unfold maxLen;omega) (by show cs.size=1*5;have:=ga List.length ac;simpa using this) rfl) λk hk u hu _ e=>by
   rw[F]at hk;have:w.heap.size+1=k:=by simpa[Value.ownBlock]using hk
   exact(ap k (.row hu e)).2 this.symm
  have B:=A.add (t:=(7,W.cQ,m)) (r:=rb) (K▸h.own) λk hk u hu al e=>by
   rw[K]at hk;have kk:w.heap.size=k:=by simpa[Value.ownBlock]using hk
   by_cases eu:u=(6,W.cQ,m)
   .subst eu;rw[dD,F]at e;have:w.heap.size+1=k:=by simpa[Value.ownBlock]using e
    omega
   .rw[dh _ _ eu]at e;exact(ap k (.row (hu.resolve_right eu) e)).1 kk.symm
  have C:=B.nil (8,W.cQ,m);rw[<-O]at C;refine C.sub λs M=>?_;obtain q|q:=M
  .exact .inl (.inl (.inl q))
  .rw[hN]at q;obtain q|q|q:=q
   .exact .inl (.inl (.inr q))
   .exact .inl (.inr q)
   .exact .inr q
 have am:({W with vars:=W.vars++D}:St).du (({W with vars:=W.vars++D}:St).co.cy++[f])=({W with vars:=W.vars++D}:St).du (W.co.cy++[f]):=rfl;have aa:(({W with vars:=W.vars++D}:St).du (W.co.cy++[f])).fr W.cQ m=f:=by rw[tW (W:={W with vars:=W.vars++D}) hn,cR rfl,hm,gD]
 have lo:Lo (({W with vars:=W.vars++D}:St).du (W.co.cy++[f])) E:=by
  have cl:=tG {W with vars:=W.vars++D} (W.co.cy++[f]);have key:∀c j a,c<W.cS.length->j<((({W with vars:=W.vars++D}:St).du (W.co.cy++[f])).cS.getD c dE).cy.length->a<((({W with vars:=W.vars++D}:St).du (W.co.cy++[f])).fr c j).da.length->(j<(W.cS.getD c dE).cy.length/\(({W with vars:=W.vars++D}:St).du (W.co.cy++[f])).fr c j=W.fr c j)\/(c=W.cQ/\j=m/\(({W with vars:=W.vars++D}:St).du (W.co.cy++[f])).fr c j=f):=by
   intro c j a h1 L h3;rw[oK (W:={W with vars:=W.vars++D}) hn]at L;rw[tW (W:={W with vars:=W.vars++D}) hn];by_cases e:c=W.cQ
   .subst e;rw[cR rfl]at L|-;have L:=L;rw[dq]at L;simp only[dt,dG]at L;by_cases q:j<W.co.cy.length
    .exact .inl ⟨q,iL _ _ _ _ q⟩
    .have:j=m:=cM;subst this;exact .inr ⟨rfl,rfl,by rw[hm,gD]⟩
   .rw[cK e]at L|-;exact .inl ⟨L,rfl⟩
  intro c j a c' j' a' h1 L h3 h4 h5 h6 J;rw[cl]at h1 L;obtain⟨k1,k2⟩|⟨k0,k1,k2⟩:=key c j a h1 h3 h5<;>obtain⟨k3,k4⟩|⟨k3,k4,k5⟩:=key c' j' a' L h4 h6
  .rw[k2]at h5 J|-;rw[k4]at h6 J;exact i3.lone c j a c' j' a' h1 L k1 k3 h5 h6 J
  .rw[k2]at h5 J;rw[k5,fs]at J h6;have:=sl c j h1 k1 _ (qX h5);rw[J,cB,ed,iO (by simpa using h6)]at this;have:W.vars.length+a'<W.vars.length:=this;omega
  .rw[k4]at h6 J;rw[k2,fs]at J h5;have:=sl c' j' L k3 _ (qX h6);rw[<-J,cB,ed,iO (by simpa using h5)]at this;have:W.vars.length+a<W.vars.length:=this;omega
  .refine .inl ?_;rw[k2,fs]at h5 J;rw[k5,fs]at h6 J;rw[cB,ed,iO (by simpa using h5),cB,ed,iO (by simpa using h6)]at J;have J:W.vars.length+a=W.vars.length+a':=J;rw[k0,k1,k3,k4,show a=a' by omega]
 have PU:=Eh (N:=N) (f:=f) (z:=want) i3 (cV hB M) hn ae rfl (λs q=>by
  rw[hN]at q;have mp:∀i,i<W.tables.length->_:=λi hi=>ap (G.map i) (.inr ⟨i,hi,rfl⟩);obtain rfl|rfl|rfl:=q
  .refine⟨dC,λi hi e=>(mp i hi).2 ?_⟩;rw[q6,F]at e;simpa[Value.ownBlock]using e.symm
  .refine⟨dC,λi hi e=>(mp i hi).1 ?_⟩;rw[q7,K]at e;simpa[Value.ownBlock]using e.symm
  .refine⟨dC,λi hi e=>?_⟩;rw[q8]at e;cases e) (λ_ s q1 q2 q3=>by
  obtain⟨s,t⟩:=s;dsimp only at q1 q2 q3;rw[hN,q3,hm];have:s=6\/s=7\/s=8:=cM;obtain rfl|rfl|rfl:=this
  .exact .inl rfl
  .exact .inr (.inl rfl)
  .exact .inr (.inr rfl)) ab (λu s q=>by
  rw[hN]at q;obtain rfl|rfl|rfl:=q
  .rw[q6,F];refine⟨rfl,?_⟩;show cs.toList=[ptr (gy (hd E) (5,W.cQ,0) u (2,((({W with vars:=W.vars++D}:St).du (W.co.cy++[f])).fr W.cQ m).fn,0)),zI ((({W with vars:=W.vars++D}:St).du (W.co.cy++[f])).fr W.cQ m).eA,gy (hd E) (5,W.cQ,0) u (7,W.cQ,m),gy (hd E) (5,W.cQ,0) u (8,W.cQ,m),zI (if W.cQ=W.cQ/\m=W.co.cy.length then want else G.wa W.cQ m)];rw[aa,cR ⟨rfl,hm⟩,dL dC,dL dC,dL dC,show hd E (7,W.cQ,m)=rb.v by unfold hd;rw[q7],show hd E (8,W.cQ,m)=zN by unfold hd;rw[q8];rfl,hh (2,_,0) (.inl dC) (Nn _ (.inl dC)),K,ac,<-hf];rfl
  .rw[q7,K];have e:sP (({W with vars:=W.vars++D}:St).du (W.co.cy++[f])) (7,W.cQ,m)=ns:=by
    show((({W with vars:=W.vars++D}:St).du (W.co.cy++[f])).fr W.cQ m).da.length=ns;rw[aa,fs];simp
   refine⟨e.symm,?_⟩;show _=((({W with vars:=W.vars++D}:St).du (W.co.cy++[f])).fr W.cQ m).da.flatMap λx=>[ptr (gy (hd E) (5,W.cQ,0) u (0,x,0))]
   rw[aa,fs,List.flatMap_map];have fm:∀(g h:Nat->Value)(l:List Nat),(∀i∈l,g i=h i)->l.map g=l.flatMap λi=>[h i]:=by
    intro g h l
    induction l with
    |nil=>intro _;rfl
    |cons x l ih=>intro q;rw[jP,eE,q x dC,ih λi hi=>q i (by simp[hi])];rfl
   refine fm _ _ _ λi hi=>?_;have hi:=tQ.1 hi;rw[dL dC];unfold hd;rw[qo _ (Nn _ (.inl dC))];by_cases q:i<min np args.length
   .rw[cR q,e2 (0,W.vars.length+i,0) (.inr (by show W.vars.length+i<_;omega))]
   .rw[cK q,show W.vars.length+i=W.vars.length+min np args.length+(i-min np args.length) by omega,z2 _ cM];rfl
  .rw[q8];refine⟨?_,?_⟩
   .show 0=((({W with vars:=W.vars++D}:St).du (W.co.cy++[f])).fr W.cQ m).ops.length;rw[aa,<-hf];rfl
   .show[]=((({W with vars:=W.vars++D}:St).du (W.co.cy++[f])).fr W.cQ m).ops.flatMap _;rw[aa,<-hf];rfl) lo (T:=147) (x:=zP (w.heap.size+1)) (by
  rw[fg,cK dC];show _=Value.iface _ (ptr (E (6,W.cQ,W.co.cy.length)).v);rw[<-hm,q6,F];rfl)
 rw[hh (9,0,0) (.inl dC) (Nn _ (.inr rfl))]at PU;refine PU.mono ?_;rintro e w' ⟨hx,R',u,i,d,kp,fk⟩;have f3:∀b,eY {W with vars:=W.vars++D} G E b->eY {W with vars:=W.vars++args.take (min np args.length)} G R1 b:=λb hb=>by
  obtain⟨s,q,e⟩|q:=hb
  .unfold hd at e;rw[qo s (out s q)]at e;exact ad b (.row q e)
  .exact .inr q
 refine⟨hx,_,R',by rw[hT];exact i,?_,?_,?_⟩
 .rw[hT];exact Gw.push (W:={W with vars:=W.vars++D}) (gw.pF rfl rfl rfl (λ_=>rfl) (λ_=>⟨rfl,rfl,rfl,rfl⟩) (λ_ _=>⟨rfl,rfl⟩) (λ_ _ _=>⟨rfl,rfl⟩)) hn I.run I.gq rfl (by rw[<-hf];exact wt) (λq=>by rw[fg]at q;cases q)
 .rw[d,dL dC];exact hh (9,0,0) (.inl dC) (Nn _ (.inr rfl))
 .refine⟨kp.os.trans h.kp.os,kp.tape.trans h.kp.tape,kp.output.trans h.kp.output,cV M kp.size,λb hb hn=>?_,λb hb hn q=>?_⟩
  .exact(kp.kg b cM λq=>h.kp.out b hb hn (f3 b q)).trans (h.kp.kg b hb hn)
  .rw[hT]at q;obtain x|⟨s,x,e⟩|x:=fk b q
   .exact h.kp.out b hb hn (f3 b x)
   .rw[hN]at x;unfold hd at e;obtain rfl|rfl|rfl:=x
    .rw[q6,F]at e;have:w.heap.size+1=b:=by simpa[Value.ownBlock]using e
     omega
    .rw[q7,K]at e;have:w.heap.size=b:=by simpa[Value.ownBlock]using e
     omega
    .rw[q8]at e;cases e
   .omega
def Av.any{S:Nat->Prop}{Z:eO->Value}(h:Av S w G Z v l):Av (λ_=>False) w G Z v l:=by obtain⟨D,cap,e,E,F,I⟩:=h;exact⟨D,cap,e,E,F,λq=>let ⟨b,off,e,_,J⟩:=I q;⟨b,off,e,λh=>h,J⟩⟩
def En.drew{D:eO->fW}(h:En cJ W G R H w args ns cs k wr D):En cJ W G R H w args ns cs k wr.drew D:=⟨h.im.below (cN _ _).drew,h.re,h.own,h.Vb,h.ne,h.kp.drew⟩
def EV(I:Iv p Hs W cW)(gw:Gw W G)(wt:Wt W cW want)(h:Im cJ W G R H w)(hB:cJ<=w.heap.size)(A:Av (eY W G R) w G (hd R) v args)(ae:fn<W.funcs.length)(af:W.co.cy.length<=1000000000000){uc ud:Value}(L:H.pc (W.funcs.getD fn (0,[])).1=[zI (np:Int),zI (ns:Int),uc,ud])(ak:np<=ns)(am:ns<=200)(hT:T=({W with vars:=W.vars++(List.range ns).map λi=>if i<np then args.getD i v0 else v0}:St).push ⟨false,cW,(W.funcs.getD fn (0,[])).1,0,(W.funcs.getD fn (0,[])).2,(List.range ns).map λi=>W.vars.length+i,[],fn⟩):
  zC 63 #[ptr (hd R (9,0,0)),ptr (hd R (2,fn,0)),v,zI want] w λe w'=>(∃x,e=.returned x)/\∃G' R',Im cJ T G' R' H w'/\Gw T G'/\hd R' (9,0,0)=hd R (9,0,0)/\Kp (eY W G R) (eY T G' R') w w':=by
 obtain⟨g,cg,h9,_⟩:=h.mP;have t2:eW W (2,fn,0):=⟨ae,rfl⟩
 obtain⟨bc,cc,h2,_,c2,_,az⟩:=h.eA t2 (h.ij _ t2 dC) dC;have p2:ptr (hd R (2,fn,0))=zP bc:=by unfold hd;rw[h2];rfl
 have p9:ptr (hd R (9,0,0))=zP g:=by rw[h9];rfl
 have k0:=c2 0 _ (by show(H.pc _++_)[0]?=_;rw[L];rfl);have k1:=c2 1 _ (by show(H.pc _++_)[1]?=_;rw[L];rfl);obtain⟨K,E⟩:=eX (#[zP bc,zI 0,zS w.heap.size ns ns,zN,zI want]:Array Value);have E0:Hid (En cJ W G R H w args ns K 0 ((w.alloc (.cells (madeCells #[.pointer none] ns) 195)).alloc (.cells K 153)) R):=by
  have e:({W with vars:=W.vars++args.take 0}:St)=W:=by rw[List.take_zero,kS]
  have sz:(w.alloc (.cells (madeCells #[.pointer none] ns) 195)).heap.size=w.heap.size+1:=dC;refine⟨?_,λ_ _=>rfl,?_,?_,λb hb=>?_,?_⟩
  .rw[e];exact h.below ((ba).alloc dC _)
  .have o:=jt (base:=cJ) (e:=195) (size:=1) w (madeCells #[.pointer none] ns) ns hB (by unfold maxLen;omega) (by rw[size_madeCells,jV]);have l:(madeCells #[Value.pointer none] ns).toList=(List.range ns).map λi=>if i<0 then ptr (hd R (0,W.vars.length+i,0))else .pointer none:=by
    unfold madeCells;rw[W9,Array.toList_range];refine mH λi _=>?_;rw[cK (dT _),show i % (#[Value.pointer none]:Array Value).size=0 from Nat.mod_one i];rfl
   rw[l]at o;exact o.alloc _
  .rw[<-sz];exact dJ _ _
  .rw[e]at hb;have:=eY.lt h hb;omega
  .rw[e];exact(Kp.alloc _).trans (Kp.alloc _)
 have ag:Hid (∀k wr,k<args.length->k<ns->(∃D,En cJ W G R H w args ns K k wr D)->∃R2,En cJ W G R H w args ns K (k+1) ((wr.alloc (.cells #[zI (args.getD k v0).k,zI (hC G (args.getD k v0)),.string ⟨(args.getD k v0).s.toArray⟩,dV (hd R) (args.getD k v0)] 196)).setCell (zA w.heap.size k) (zP wr.heap.size)).drew R2):=λk wr q1 q2 ⟨D,en⟩=>(en.gY hB (gw.sl I) q1 q2).imp λ_=>En.drew;have ah:Hid (∀wr,(∃D,En cJ W G R H w args ns K (min np args.length) wr D)->zC 140 #[zP g,.iface 147 (zP (w.heap.size+1))] wr λe w'=>(∃x,e=.returned x)/\∃G' R',Im cJ T G' R' H w'/\Gw T G'/\hd R' (9,0,0)=hd R (9,0,0)/\Kp (eY W G R) (eY T G' R') w w'):=λwr ⟨D,en⟩=>by rw[<-p9];exact en.push I gw wt hB af ak am (by rw[E,p2]) hT
 have ai:Hid (∀k wr,(∃D,En cJ W G R H w args ns K k wr D)->zE wr (w.heap.size+1) 2 (zS w.heap.size ns ns)/\(∀i,i<ns->(∃u,zE wr w.heap.size i u)/\wr.frozen? (zA w.heap.size i)=false)/\Av (λ_=>False) wr G (hd R) v args):=λk wr ⟨D,en⟩=>by refine⟨Lc.cell (S:=λ_=>False) ⟨λh=>h,en.Vb⟩ (by rw[E];rfl),λi hi=>⟨⟨_,(en.own.cellAt i cM).trans (cG (by simpa using hi))⟩,en.own.frozenAt i⟩,(A.kept en.kp).any⟩
 have TS:=cO (λ(x:Vl)=>(gm (hd R) x).store);obtain⟨ao,cap,rfl,an,aA,hA⟩:=A;obtain⟨al,J⟩:∃n,n=args.length:=⟨_,rfl⟩
 rw[p9,p2,<-J];rw[<-J]at an ag ah ai;have F:=cO J;obtain⟨i0,ap,aq,aB,ar⟩:=fQ (show(Tryz.prog.info? 195).map (λi=>(i.zero,i.size,i.bytes))=some (some (.pointer none),1,8) by kernel_rfl);have mk:=run_make (P:=Tryz.prog) w 141 195 i0 (.pointer none) DE ap aq .i64 .i64 (ns:Int) (ns:Int) cM (Int.le_refl _) (by rw[ar];omega) cM;rw[E]at E0;clear hA J hT I gw wt h hB L c2 h2 h9 t2 ae af;go_enter func63,ntmps63;go_upto_region 1 with fail;refine dx λw1 M=>?_;have E1:Hid (∃D,En cJ W G R H w args ns K 0 w1 D):=by rw[M,E];rw[E]at*;exact⟨R,E0⟩
 have B1:Hid (zB w w1):=M▸(ba).alloc dC _;replace k0:=di k0 B1;clear M E0 mk k1;obtain⟨O,aj⟩:=eX (min np al);have au:=cO aj;obtain⟨q,e⟩|⟨q,e⟩:=(by omega:(np<=al/\O=np)\/(al<np/\O=al))
 all_goals
  subst e;clear aj;go_wp2;go_loopw[28] (λx wr=>∃k:Nat,k<=O/\x=zI (k:Int)/\Hid (∃D,En cJ W G R H w args ns K k wr D)) (λx _=>O-(intOf x).toNat)
  case atStart=>exact⟨0,dM _,rfl,E1⟩
  case round=>
   obtain⟨k,hk,rfl,JK⟩:=hrel;by_cases aC:k<O
   .have aw:(k:Int)<(O:Int):=cM;have aD:(k:Int)<(ns:Int):=cM;try(have aE:(k:Int)<(al:Int):=cM)
    obtain⟨y6,yf,AV⟩:=ai k wr JK;obtain⟨⟨yu,aa⟩,fz⟩:=yf k cM;obtain⟨aF,ax,e1,_,_,hv⟩:=AV;obtain⟨b,off,rfl,_,hc⟩:=hv (by rw[<-F];omega);simp only[de]at e1;obtain⟨rfl,e2,rfl⟩:=e1;clear e2;have NX:=cO (ag k wr cM cM JK);have z0:=hc k 0 _ (by rw[<-F];omega) rfl;have z1:=hc k 1 _ (by rw[<-F];omega) rfl;have z2:=hc k 2 _ (by rw[<-F];omega) rfl;have z3:=hc k 3 _ (by rw[<-F];omega) rfl;have ts:=TS (args.getD k v0);obtain⟨tt,ht⟩:∃t,t=dV (hd R) (args.getD k v0):=⟨_,rfl⟩
    obtain⟨ik,ab⟩:∃t,t=hC G (args.getD k v0):=⟨_,rfl⟩
    obtain⟨sk,ac⟩:∃t:ByteArray,t=⟨(args.getD k v0).s.toArray⟩:=⟨_,rfl⟩
    obtain⟨kk,ad⟩:∃t,t=(args.getD k v0).k:=⟨_,rfl⟩
    rw[<-ht,<-ab,<-ac,<-ad]at NX;rw[<-ht]at z3 ts;rw[<-ab]at z1;rw[show sv (args.getD k v0).s=.string sk by rw[ac];rfl]at z2;rw[<-ad,eD]at z0;clear ht ab ac ad hc hv yf;obtain⟨S,hS⟩:=eX (fI wr none);have x0:=Wd.cn hS z0;have x1:=Wd.cn hS z1;have x2:=Wd.cn hS z2;have x3:=Wd.cn hS z3;have x6:=Wd.cn hS y6;have HS:=cO hS;clear hS z0 z1 z2 z3 y6;haveI:=pz HS;go_upto_region 4 with fail;refine uq S 10 1 (HS▸(fI.refl _ _).drew) ?_;simp only[List.take,List.drop];repeat(go_big_quiet_step(fail))
    refine wpQuiet_nil ?_;refine dI ?_;clear x0 x1 x2 x3 x6;go_wp2;refine⟨HS▸(fI.refl _ _).drew.alloc _,?_⟩;refine ej ?_;have ay:=fJ (o:=.cells #[zI kk,zI ik,.string sk,tt] 196) aa;have aG:(wr.alloc (.cells #[zI kk,zI ik,.string sk,tt] 196)).frozen? (zA w.heap.size k)=false:=(dA (a:=(zA w.heap.size k)) (gH _ _ _ (dy _ _ aa))).trans fz;clear aa fz;go_wp2;go_roundw
    case rel=>exact⟨k+1,cM,l9,NX⟩
    case measure=>simp[intOf];omega
   .obtain rfl:k=O:=cM;have FN:=cO (ah wr (by rw[<-au];exact JK));go_wp2_with(go_at_call 140;refine cA FN ?_;rintro e w5 ⟨⟨x,rfl⟩,g5⟩;have G5:=cO g5;clear g5)
    go_returns;exact⟨⟨_,rfl⟩,G5⟩
end
section
variable{v:Vl}
def Bq{l:List Cn}{i:Nat}(h:i<l.length):(l.map iU).getD i v0=iU (l.getD i mU):=by rw[cB,ed,cG h,cB,cG h];rfl
def Fa(h:Cu cJ W G R H m w){S:Nat->Prop}(A:Av S w G (hd R) H.ks l)(hl:l.length<=20000)(I:a<l.length)(hv:v=l.getD a v0):
  zC 102 #[ptr (hd R (9,0,0)),ptr (hd R (6,W.cQ,m)),.agg (zW op (a:Int) b)] w (To cJ W G R H m w (W.ee [v])):=by
 obtain⟨f,hf,_⟩:=h.ptr;obtain⟨g,cg,h9,c9,_⟩:=h.im.mP;obtain⟨ao,kc,J,K,_,D⟩:=A;obtain⟨kb,off,rfl,_,D⟩:=D cM;have M:=c9 1 _ rfl;rw[J]at M;have hg:ptr (hd R (9,0,0))=zP g:=by rw[h9];rfl
 have O:=cO (λX (hX:zB w X)=>(h.below hX).push v);rw[hf]at O|-;rw[hg];unfold jX vq at O;have y0:w.cell? (zA kb (off+a*4))=_:=D a 0 _ I rfl;have y1:=D a 1 _ I rfl;have y2:=D a 2 _ I rfl;have y3:=D a 3 _ I rfl;rw[<-hv]at y0 y1 y2 y3;obtain⟨nu,L⟩:∃n,n=l.length:=⟨_,rfl⟩
 rw[<-L]at M I hl K;have aa:(a:Int)<(nu:Int):=cM;generalize dV (hd R) v=tt at*;generalize hC G v=ii at*;clear h hf hv L D c9 h9 hg J;go_enter func102,ntmps102;go_wp2;refine dx λw1 E=>?_;have F:Hid (zB w w1):=E▸ba;have L1:Hid (Lc (λ_=>False) w1 w.heap.size (zW op (a:Int) b) 105):=E▸Lc.new w (λ_ h=>h.elim) _ _;clear E;replace M:=di M F;replace y0:=di y0 F;replace y1:=di y1 F;replace y2:=di y2 F;replace y3:=di y3 F;have x1:=L1.cell (j:=1) rfl;refine uZ 9 ?_;simp only[List.take,List.drop];repeat(go_big_quiet_step(fail))
 refine wpQuiet_nil ?_;go_wp2_with(go_at_call 159;refine cA (O _ F.drew) ?_;rintro e w7 ⟨⟨x,rfl⟩,R7,u7,i7,d7,k7⟩;have I7:=cO i7;have D7:=cO d7;have K7:=cO ((Kp.cY F.drew).trans k7);clear i7 d7 k7)
 go_returns;exact⟨⟨_,rfl⟩,R7,I7,λt _ ht=>by rw[D7,dL (λe=>ht (by rw[e]))],K7⟩
end
end im
end Go.Proofs.YtfpkdfeakanlpaaGreatDoor
