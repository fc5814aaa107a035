import Derived.Defers
import Derived.Recover
import Derived.Test.YtfpkdfeakanlpaaGreatDoorMImUnC
import Derived.Test.YtfpkdfeakanlpaaGreatDoorMImDoO
set_option linter.all false
set_option maxRecDepth 100000
set_option maxHeartbeats 8000000
namespace Go.Proofs.YtfpkdfeakanlpaaGreatDoor
open Go.Proofs.Tryz
namespace im
open RowKit bts pg rn chk
variable{e:Ending}{Q:Ending->World->Prop}{G G':Gh}{H H':Hi}{op:Int}{a b m n:Nat}{Hs:Nat→List Int}{p:Pg}{U V W:St}{R R' R0:eO→fW}{w w' w0 w1:World}
section
variable{a b:Int}
structure Sq(W V:St):Prop where
 gw:∀G,Gw W G→Gw V G
 ins:V.ins=W.ins
 pr:V.dn=W.dn
 er:V.lu=W.lu
 cQ:V.cQ<V.cS.length
 len:0<V.co.cy.length
 gd:V.db.guard=false
def Sq.db(h:Sq W V){f:Fr}(D:f.guard=false)(E:f.want=V.db.want):Sq W (V.dN f):=
 ⟨λG g=>(h.gw G g).db h.cQ h.len (D.trans h.gd.symm) E (λe=>by rw[D]at e;cases e),h.ins,h.pr,h.er,pX h.cQ f,by rw[jg h.cQ];exact h.len,by rw[jf h.cQ h.len];exact D⟩
def Sq.ee(h:Sq W V)(l:List Vl):Sq W (V.ee l):=h.db (f:={V.db with ops:=_}) h.gd rfl
def Sq.dZ(h:Sq W V)(n:Nat):Sq W (V.dZ n):=h.db (f:={V.db with ops:=_}) h.gd rfl
def Sq.gi(h:Sq W V)(a:Nat):Sq W (V.gi a):=h.db (f:={V.db with eA:=_}) h.gd rfl
def Sq.UO(h:Sq W V)(l:List Vl){t:List (List (Vl×Vl))}(D:t.length=V.tables.length):Sq W {V with vars:=l,tables:=t} :=
 ⟨λG g=>(h.gw G g).pF D rfl rfl (λ_=>rfl) (λ_=>⟨rfl,rfl,rfl,rfl⟩) (λ_ _=>⟨rfl,rfl⟩) (λ_ _ _=>⟨rfl,rfl⟩),h.ins,h.pr,h.er,h.cQ,h.len,h.gd⟩
def Sq.store(h:Sq W V)(t k v:Vl):Sq W (V.store t k v).1:=by
 unfold St.store;split
 .exact h.UO V.vars (by rw[df])
 .exact h
def Rk(d:∀t:eO,t.1≠0->t.1≠8->hd R' t=hd R t)(v:Vl):jX G (hd R') v=jX G (hd R) v:=by unfold jX dV;rw[d (1,v.n.toNat,0) dC dC,d (2,v.n.toNat,0) dC dC,d (4,v.n.toNat,0) dC dC]
def Rz.cz{r:mX}(M:Mi w0 p W G R H w)(s:Sq W r.1)(h:Rz w0.heap.size W G R H w r e w'):Cz w0 p W G R H w r e w':=by
 obtain⟨D,R',i,d,k⟩:=h;obtain⟨E,F⟩:=M.gY i (s.gw G M.gw) k s.ins s.pr s.er;refine⟨G,R',H,E,F,d _ dC dC,?_⟩;obtain⟨V,o⟩:=r;cases o with
 |none=>exact D
 |some v=>exact D.trans (by rw[Rk d])
def To.cz(M:Mi w0 p W G R H w)(s:Sq W V)(h:To w0.heap.size W G R H m w V e w'):Cz w0 p W G R H w (ok V) e w':=Rz.cz (r:=ok V) M s h
def JW(h:W.cQ<W.cS.length):W.dZ 0=W:=by
 have e:W.db.ops.take (W.db.ops.length-0)=W.db.ops:=qR;unfold St.dZ;rw[e];show({W with cS:=W.cS.set W.cQ {W.co with cy:=W.co.cy.set (W.co.cy.length-1) W.db}}:St)=W;have q:W.co.cy.set (W.co.cy.length-1) W.db=W.co.cy:=by
  by_cases l:0<W.co.cy.length
  .unfold St.db;rw[cB,cG cM];exact U2 cM
  .rw[eJ.1 (by omega:W.co.cy.length=0)];rfl
 rw[q];have D:W.cS.set W.cQ {W.co with cy:=W.co.cy}=W.cS:=by show W.cS.set W.cQ W.co=W.cS;unfold St.co;rw[cB,cG h];exact U2 h
 rw[D]
def AJ{j k:Nat}(h:k+n=W.db.ops.length+j)(D:n<=W.db.ops.length):(W.taken n).getD j v0=W.db.ops.getD k v0:=by unfold St.taken;rw[cB,lN,<-cB,show W.db.ops.length-n+j=k by omega]
structure Ix(w0:World)(p:Pg)(Hs:Nat→List Int)(W U:St)(G:Gh)(R:eO→fW)(H:Hi)(w:World)(m n:Nat)(op:Int)(a b:Nat):Prop where
 E:mz p Hs
 tb:Tb w0
 pw:Pw w0
 I:Iv p Hs W 0
 M:Mi w0 p U G R H w
 C:Cu w0.heap.size U G R H m w
 hm:W.co.cy.length=m+1
 hg:W.db.guard=false
 hx:(p.cU.getD W.db.eR gu).dw.getD W.db.eA jI=⟨op,a,b⟩
 hU:U={W.gi (W.db.eA+1) with dz:=W.dz+1}
 B:Bd W
 st:W.dz≤100000
 gW:Gw W G
 em:Em p Hs W U (U.dZ n) n ⟨op,a,b⟩
 ol:n≤U.db.ops.length
 sq:Sq U U
 sn:W.db.da.length≤200∧W.db.oo.length≤100
 sl:∀i,i<W.db.da.length→W.db.da.getD i 0<W.vars.length
def Io(w0:World)(p:Pg)(W U:St)(G:Gh)(R:eO->fW)(H:Hi)(w:World)(m:Nat)(op:Int)(a b:Nat):Prop:=
 ∃k,zG[op.toNat]?=some (.func (.func k) #[] #[])/\Calls Tryz.prog k #[ptr (hd R (9,0,0)),ptr (hd R (6,U.cQ,m)),.agg #[.int .i64 op,.int .i64 (a:Int),.int .i64 (b:Int)]] w (Cz w0 p U G R H w (pj p W))
section
variable{a b:Nat}
def Ix.simp(x:Ix w0 p Hs W U G R H w m n op a b)(h:op≠22/\op≠23/\op≠24):pj p W=ew p (U.dZ n) ⟨op,a,b⟩ (U.taken n):=by rw[vO (n:=n) x.hx x.hU (by rw[x.em.OU,fh]) rfl,cK h.1,cK h.2.1,cK h.2.2]
def Ix.iv(x:Ix w0 p Hs W U G R H w m n op a b)(h:op≠18/\op≠23/\op≠24):Iv p Hs (U.dZ n) (qK ⟨op,a,b⟩):=x.em.iv h.1 h.2.1 h.2.2
def Ix.zw(x:Ix w0 p Hs W U G R H w m n op a b)(j:Nat):gG U.sz ((U.taken n).getD j v0):=by have:U.sz=W.sz:=x.hU▸pP W _;rw[this];exact iR x.em.zw j
def Ix.zero(x:Ix w0 p Hs W U G R H w m 0 op a b):U.dZ 0=U:=JW x.C.cQ
def Ix.db(x:Ix w0 p Hs W U G R H w m n op a b):U.db.da=W.db.da/\U.db.oo=W.db.oo/\U.db.fn=W.db.fn/\U.db.want=W.db.want/\U.db.ops=W.db.ops:=x.em.db▸⟨rfl,rfl,rfl,rfl,rfl⟩
def Ix.t(x:Ix w0 p Hs W U G R H w m n op a b):pM p Hs W.sz W.db 0:=x.I.kI (by rw[x.hm];omega)
def Ix.sc(x:Ix w0 p Hs W U G R H w m n op a b):U.vars=W.vars/\U.funcs=W.funcs/\U.tables=W.tables/\U.cQ=W.cQ:=x.hU▸⟨rfl,rfl,rfl,rfl⟩
def Ix.ka(x:Ix w0 p Hs W U G R H w m n op a b):(a:Int)<chk.db p.dv.length p.cU.length (p.cU.getD W.db.eR gu).da (p.cU.getD W.db.eR gu).fP.length (p.cU.getD W.db.eR gu).dw.length (sg op.toNat):=(jy x.em.xf.a).2.2
def Ix.iG(x:Ix w0 p Hs W U G R H w m n op a b):W.tables.length+W.funcs.length+W.cS.length<=1000000000:=by have:=x.B.tables;have:=x.B.funcs;have:=x.B.cS;have:=x.st;omega
def Ix.Va(x:Ix w0 p Hs W U G R H w m n op a b):U.tables.length+U.funcs.length+U.cS.length<=1000000000:=x.sc.2.1▸x.sc.2.2.1▸x.em.cS▸x.iG
def Ix.lt(x:Ix w0 p Hs W U G R H w m n op a b)(h:(a:Int)<(p.cU.getD W.db.eR gu).da):a<U.db.da.length/\U.db.da.length<=1000/\U.db.da.getD a 0<U.vars.length:=by
 have l:a<W.db.da.length:=by rw[x.t.da x.hg];omega
 rw[x.db.1,x.sc.1];exact⟨l,by have:=x.sn;omega,x.sl a l⟩
def Ix.up(x:Ix w0 p Hs W U G R H w m n op a b):U.db.fn<U.funcs.length/\(U.funcs.getD U.db.fn (0,[])).2=U.db.oo/\U.db.oo.length=(p.cU.getD W.db.eR gu).fP.length/\U.db.oo.length<=1000:=by have f:=x.t.fn x.hg;rw[x.db.2.1,x.db.2.2.1,x.sc.2.1];exact⟨f.1,ga Prod.snd f.2,x.t.oo x.hg,by have:=x.sn;omega⟩
def Ix.Eu(x:Ix w0 p Hs W U G R H w m n op a b)(h:n=1):0<U.db.ops.length/\(U.taken n).getD 0 v0=U.db.ops.getD (U.db.ops.length-1) v0:=by have:=x.ol;exact⟨cM,AJ cM cM⟩
def Ix.Wg(x:Ix w0 p Hs W U G R H w m n op a b)(h:n=2):2<=U.db.ops.length/\(U.taken n).getD 1 v0=U.db.ops.getD (U.db.ops.length-1) v0/\(U.taken n).getD 0 v0=U.db.ops.getD (U.db.ops.length-1-1) v0:=by have:=x.ol;exact⟨cM,AJ cM cM,AJ cM cM⟩
def Ix.We(x:Ix w0 p Hs W U G R H w m n op a b)(h:n=3):3<=U.db.ops.length/\(U.taken n).getD 2 v0=U.db.ops.getD (U.db.ops.length-1) v0/\(U.taken n).getD 1 v0=U.db.ops.getD (U.db.ops.length-1-1) v0/\(U.taken n).getD 0 v0=U.db.ops.getD (U.db.ops.length-1-2) v0:=by have:=x.ol;exact⟨cM,AJ cM cM,AJ cM cM,AJ cM cM⟩
def Ix.yh(x:Ix w0 p Hs W U G R H w m n op a b):∀t∈U.tables,∀e∈t,gG U.sz e.1/\gG U.sz e.2:=by have:U.sz=W.sz:=x.hU▸pP W _;rw[this,x.sc.2.2.1];exact x.I.tables
def VQ(x:Ix w0 p Hs W U G R H w m 0 0 a b):Io w0 p W U G R H w m 0 a b:=by refine⟨102,rfl,?_⟩;rw[x.simp iM,TO];rw[x.zero];exact(Fa (v:=iU (p.dv.getD a mU)) x.C x.M.ks (by rw[dY];exact x.E.jZ.1.1.2.2) (by rw[dY];have:(a:Int)<(p.dv.length:Int):=x.ka;omega) (Bq (by have:(a:Int)<(p.dv.length:Int):=x.ka;omega)).symm).mono λe w' t=>To.cz x.M (x.sq.ee _) t
def VP(x:Ix w0 p Hs W U G R H w m 0 1 a b):Io w0 p W U G R H w m 1 a b:=by refine⟨103,rfl,?_⟩;rw[x.simp iM,TM];rw[x.zero];exact(Ks x.C).mono λe w' t=>To.cz x.M (x.sq.ee _) t
def VO(x:Ix w0 p Hs W U G R H w m 0 2 a b):Io w0 p W U G R H w m 2 a b:=by refine⟨104,rfl,?_⟩;rw[x.simp iM,TL];rw[x.zero];exact(Hy x.C).mono λe w' t=>To.cz x.M (x.sq.ee _) t
def VN(x:Ix w0 p Hs W U G R H w m 0 3 a b):Io w0 p W U G R H w m 3 a b:=by refine⟨105,rfl,?_⟩;rw[x.simp iM,TJ];rw[x.zero];exact(E9 x.C).mono λe w' t=>To.cz x.M (x.sq.ee _) t
def VM(x:Ix w0 p Hs W U G R H w m 0 4 a b):Io w0 p W U G R H w m 4 a b:=by refine⟨106,rfl,?_⟩;rw[x.simp iM,TI];rw[x.zero];exact(Ay x.C).mono λe w' t=>To.cz x.M (x.sq.ee _) t
def VL(x:Ix w0 p Hs W U G R H w m 0 5 a b):Io w0 p W U G R H w m 5 a b:=by refine⟨107,rfl,?_⟩;rw[x.simp iM,TG];rw[x.zero];have l:=x.lt x.ka;exact(Kv x.C l.1 l.2.1 rfl l.2.2).mono λe w' t=>To.cz x.M (x.sq.ee _) t
def VK(x:Ix w0 p Hs W U G R H w m 1 6 a b):Io w0 p W U G R H w m 6 a b:=by refine⟨108,rfl,?_⟩;rw[x.simp iM,TF];have l:=x.lt x.ka;rw[(kT x.C.cQ x.sq.len 1).2.2.2];exact(Kn x.C l.1 l.2.1 rfl l.2.2 (x.Eu rfl).1 (x.Eu rfl).2).mono λe w' t=>To.cz x.M ((x.sq.dZ 1).UO _ rfl) t
def VJ(x:Ix w0 p Hs W U G R H w m 1 7 a b):Io w0 p W U G R H w m 7 a b:=by
 refine⟨109,rfl,?_⟩;rw[x.simp iM,TE];have l:=x.lt x.ka;have h:Sl U:=by have s:=Sl.db (x.gW.sl x.I) x.I.cQ (by rw[x.hm];omega) (f:={W.db with eA:=W.db.eA+1}) (λy D=>x.t.um x.hg y D);rw[x.hU];exact s
 exact(Kt x.C h l.1 l.2.1 (x.Eu rfl).1 (x.Eu rfl).2).mono λe w' t=>To.cz x.M (((x.sq.dZ 1).UO _ rfl).db (x.sq.dZ 1).gd rfl) t
def VI(x:Ix w0 p Hs W U G R H w m 0 8 a b):Io w0 p W U G R H w m 8 a b:=by refine⟨110,rfl,?_⟩;rw[x.simp iM,TC];rw[x.zero];have u:=x.up;have k:(a:Int)<((p.cU.getD W.db.eR gu).fP.length:Int):=x.ka;rw[<-u.2.1];exact(NP x.C x.M.pm.l4 u.1 (by rw[u.2.1,u.2.2.1];omega) (u.2.1▸u.2.2.2) rfl).mono λe w' t=>To.cz x.M (x.sq.ee _) t
def VH(x:Ix w0 p Hs W U G R H w m 1 9 a b):Io w0 p W U G R H w m 9 a b:=by refine⟨111,rfl,?_⟩;rw[x.simp iM,TA];have u:=x.up;have k:(a:Int)<((p.cU.getD W.db.eR gu).fP.length:Int):=x.ka;rw[(kT x.C.cQ x.sq.len 1).2.2.2,show({U.db with ops:=U.db.ops.take (U.db.ops.length-1)}:Fr).oo=(U.funcs.getD U.db.fn (0,[])).2 from u.2.1.symm];exact(EY x.C x.M.pm.l4 u.1 (by rw[u.2.1,u.2.2.1];omega) (u.2.1▸u.2.2.2) rfl (x.Eu rfl).1 (x.Eu rfl).2).mono λe w' t=>To.cz x.M ((x.sq.dZ 1).UO _ rfl) t
def Uw(x:Ix w0 p Hs W U G R H w m 0 10 a b):Io w0 p W U G R H w m 10 a b:=by
 refine⟨112,rfl,?_⟩;rw[x.simp iM,QP,x.zero];have F:=x.iv iM;rw[x.zero]at F;have u:=x.up;have ka:(a:Int)<(p.cU.length:Int):=x.ka;have h:=x.E.jZ.1.2.2.1 a cM;have J:=λc (E:c∈(p.cU.getD a gu).fP)=>x.em.xf.fP rfl c (by show c∈(p.cU.getD ((a:Int)).toNat gu).fP;exact E);have d:=H6 (op:=10) (b:=(b:Int)) (p:=p) x.C (x.M.gw.wf F) (cE _) x.M.mV x.M.pm (a:=a) cM rfl h.2.2.2.1 u.1 u.2.1.symm u.2.2.2 (by rw[x.db.1];have:=x.sn;omega) (λy D=>by rw[x.sc.1];rw[x.db.1]at D;exact x.t.um x.hg y D) (λy D=>by rw[x.sc.1];rw[x.db.2.1]at D;exact x.t.up x.hg y D) (λi I=>by
  have f:=h.2.2.2.2.2 i I;have m:=mG (P:=λc=>c∈(p.cU.getD a gu).fP) (d:=lY) (λc E=>E) I;have o:=J _ m;unfold me at o;rw[x.db.1,u.2.2.1,x.t.da x.hg];refine⟨f.1,λe=>?_,λe=>?_⟩
  .rw[cR e]at o;exact iC o
  .rw[e]at o;have:=iC o;omega) (cV x.M.gw.iG x.Va)
 refine d.mono ?_;rintro e w' ⟨K,R',i,L,k⟩;obtain⟨M,O⟩:=x.M.gY i ((x.M.gw.fn _).db x.C.cQ x.sq.len (f:={U.db with ops:=_}) rfl rfl (λe=>by rw[show U.db.guard=false from x.C.gd]at e;cases e)) k rfl rfl rfl;exact⟨_,R',H,M,O,L,K⟩
def Uv(x:Ix w0 p Hs W U G R H w m 0 11 a b):Io w0 p W U G R H w m 11 a b:=by refine⟨113,rfl,?_⟩;rw[x.simp iM,QO,x.zero];have h:=x.iv iM;rw[x.zero]at h;refine(EW x.C (x.M.gw.wf h).vs (cV x.M.gw.iG x.Va)).mono ?_;rintro e w' ⟨D,r,R',i,d,k⟩;obtain⟨E,F⟩:=x.M.gY i ((x.M.gw.qT r).db x.C.cQ x.sq.len (f:={U.db with ops:=_}) rfl rfl (λe=>by rw[show U.db.guard=false from x.C.gd]at e;cases e)) k rfl rfl rfl;exact⟨_,R',H,E,F,d _ rfl dC,D⟩
def Uu(x:Ix w0 p Hs W U G R H w m 3 12 a b):Io w0 p W U G R H w m 12 a b:=by
 refine⟨114,rfl,?_⟩;rw[x.simp iM,Mg];have o:=x.We rfl;have h:Sq U (match (U.dZ 3).store ((U.taken 3).getD 0 v0) ((U.taken 3).getD 1 v0) ((U.taken 3).getD 2 v0)with|(W,none)=>ok (W.ee [(U.taken 3).getD 0 v0])|r=>r).1:=by
  have s:=(x.sq.dZ 3).store ((U.taken 3).getD 0 v0) ((U.taken 3).getD 1 v0) ((U.taken 3).getD 2 v0);generalize(U.dZ 3).store ((U.taken 3).getD 0 v0) ((U.taken 3).getD 1 v0) ((U.taken 3).getD 2 v0)=r at s;obtain⟨V,_|v⟩:=r
  .exact s.ee _
  .exact s
 exact(E7 x.C x.M.gw.nm x.yh o.1 o.2.1 o.2.2.1 o.2.2.2 (x.zw 1) (x.zw 0)).mono λe w' t=>Rz.cz x.M (h) t
def Ut(x:Ix w0 p Hs W U G R H w m 2 13 a b):Io w0 p W U G R H w m 13 a b:=by refine⟨115,rfl,?_⟩;rw[x.simp iM,Mf];have o:=x.Wg rfl;exact(E6 x.C x.M.gw.nm x.yh o.1 o.2.1 o.2.2 (x.zw 1) (x.zw 0)).mono λe w' t=>Rz.cz x.M (by split;exact(x.sq.dZ 2).ee _;exact x.sq.dZ 2) t
def Us(x:Ix w0 p Hs W U G R H w m 3 14 a b):Io w0 p W U G R H w m 14 a b:=by refine⟨116,rfl,?_⟩;rw[x.simp iM,QN];have o:=x.We rfl;exact(wU x.C x.M.gw.nm x.yh o.1 o.2.1 o.2.2.1 o.2.2.2 (x.zw 1) (x.zw 0)).mono λe w' t=>Rz.cz x.M ((x.sq.dZ 3).store _ _ _) t
def Ur(x:Ix w0 p Hs W U G R H w m 2 15 a b):Io w0 p W U G R H w m 15 a b:=by
 refine⟨117,rfl,?_⟩;rw[x.simp iM,QM];have o:=x.Wg rfl;have h:Sq U (Ig (U.dZ 2) (pv a ((U.taken 2).getD 0 v0) ((U.taken 2).getD 1 v0))).1:=by
  unfold Ig;split
  .exact(x.sq.dZ 2).ee _
  .exact x.sq.dZ 2
 exact(Kx x.C x.M.gw.nm ⟨Wz _,by have:(a:Int)<12:=x.ka;omega⟩ o.1 o.2.1 o.2.2 (x.zw 1) (x.zw 0) (cE _) x.M.mV x.tb x.pw).mono λe w' t=>Rz.cz x.M (h) t
def Uq(x:Ix w0 p Hs W U G R H w m 1 16 a b):Io w0 p W U G R H w m 16 a b:=by refine⟨118,rfl,?_⟩;rw[x.simp iM,QL];exact(Kr x.C (x.Eu rfl).1 (x.Eu rfl).2 (x.zw 0)).mono λe w' t=>To.cz x.M ((x.sq.dZ 1).ee _) t
def Up(x:Ix w0 p Hs W U G R H w m 1 17 a b):Io w0 p W U G R H w m 17 a b:=by
 refine⟨119,rfl,?_⟩;rw[x.simp iM,Me];have h:∀v:Vl,(if v.k=2 then ok ((U.dZ 1).ee [nv (wrap (0-v.n))])else mW (U.dZ 1) nz)=Ig (U.dZ 1) (pv 1 (nv 0) v):=λv=>by
  have e:pv 1 (nv 0) v=(if (nv 0).k=2/\v.k=2 then(match mZ 1 (nv 0).n v.n with|none=>Sum.inr vM|some z=>Sum.inl (nv z))else Sum.inr nz):=by unfold pv;rw[cK iM,cK iM,cK iM,cK iM];rfl
  rw[e];by_cases k:v.k=2
  .rw[cR k,cR ⟨rfl,k⟩];rfl
  .rw[cK k,cK (λq=>k q.2)];rfl
 rw[h];have D:Sq U (Ig (U.dZ 1) (pv 1 (nv 0) ((U.taken 1).getD 0 v0))).1:=by
  unfold Ig;split
  .exact(x.sq.dZ 1).ee _
  .exact x.sq.dZ 1
 exact(Ku x.C x.M.gw.nm (x.Eu rfl).1 (x.Eu rfl).2 (x.zw 0) (cE _) x.M.mV x.tb x.pw).mono λe w' t=>Rz.cz x.M (D) t
def Uo(x:Ix w0 p Hs W U G R H w m 0 18 a b):Io w0 p W U G R H w m 18 a b:=by refine⟨120,rfl,?_⟩;rw[x.simp iM,QK];rw[x.zero];exact(Hz x.C).mono λe w' t=>To.cz x.M (x.sq.gi _) t
def Un(x:Ix w0 p Hs W U G R H w m 1 19 a b):Io w0 p W U G R H w m 19 a b:=by refine⟨121,rfl,?_⟩;rw[x.simp iM,QJ];exact(xB x.C (x.Eu rfl).1 (x.Eu rfl).2 (x.zw 0)).mono λe w' t=>To.cz x.M (by split;exact x.sq.dZ 1;exact(x.sq.dZ 1).gi _) t
def Um(x:Ix w0 p Hs W U G R H w m 1 20 a b):Io w0 p W U G R H w m 20 a b:=by refine⟨122,rfl,?_⟩;rw[x.simp iM,QI];rw[show(if jr ((U.taken 1).getD 0 v0)then U.dZ 1 else((U.dZ 1).ee [(U.taken 1).getD 0 v0]).gi ((a:Int)).toNat)=if (!jr ((U.taken 1).getD 0 v0))=true then((U.dZ 1).ee [(U.taken 1).getD 0 v0]).gi a else U.dZ 1 by cases jr ((U.taken 1).getD 0 v0)<;>rfl];exact(Ky x.C (x.Eu rfl).1 (x.Eu rfl).2 (x.zw 0)).mono λe w' t=>To.cz x.M (by split;exact((x.sq.dZ 1).ee _).gi _;exact x.sq.dZ 1) t
def Ul(x:Ix w0 p Hs W U G R H w m 1 21 a b):Io w0 p W U G R H w m 21 a b:=by refine⟨123,rfl,?_⟩;rw[x.simp iM,QH];rw[show(if jr ((U.taken 1).getD 0 v0)then((U.dZ 1).ee [(U.taken 1).getD 0 v0]).gi ((a:Int)).toNat else U.dZ 1)=if (!jr ((U.taken 1).getD 0 v0))=false then((U.dZ 1).ee [(U.taken 1).getD 0 v0]).gi a else U.dZ 1 by cases jr ((U.taken 1).getD 0 v0)<;>rfl];exact(NQ x.C (x.Eu rfl).1 (x.Eu rfl).2 (x.zw 0)).mono λe w' t=>To.cz x.M (by split;exact((x.sq.dZ 1).ee _).gi _;exact x.sq.dZ 1) t
def Ug(x:Ix w0 p Hs W U G R H w m 1 25 a b):Io w0 p W U G R H w m 25 a b:=by refine⟨127,rfl,?_⟩;rw[x.simp iM,QG];exact(Ko x.C (x.Eu rfl).1).mono λe w' t=>To.cz x.M (x.sq.dZ 1) t
def Ix.QF(x:Ix w0 p Hs W U G R H w m n op a b)(h:V.vars=W.vars)(D:V.dn=W.dn)(E:V.size=W.size)(F:V.cS.length=W.cS.length)(I:ft V<=ft W):td V (nX V ((U.taken n).drop 1)):=by
 refine yp x.B x.st h D E F I ?_;unfold nX;have:=xE V.cS;have:=x.em.xk.AK;have:=x.em.OU;have l:(U.taken n).length<=n:=by unfold St.taken;rw[eZ];omega
 rw[eZ];omega
def Ix.fU(x:Ix w0 p Hs W U G R H w m n op a b):U.fU={W.fU with dz:=W.dz+1}:=by rw[<-x.em.fU];exact(It x.C.cQ _).symm
def Ix.gp(x:Ix w0 p Hs W U G R H w m n op a b):Gw U.fU G:=by rw[x.fU];exact(x.gW.fU x.I).pF rfl rfl rfl (λ_=>rfl) (λ_=>⟨rfl,rfl,rfl,rfl⟩) (λ_ _=>⟨rfl,rfl⟩) (λ_ _ _=>⟨rfl,rfl⟩)
def Ix.UK(x:Ix w0 p Hs W U G R H w m n op a b):m<=1000000000000:=by have:=wV x.I.cQ;have f:=x.B.cy;have:W.dz*(3*W.dz+60)<=100000*300060:=tM x.st (by have:=x.st;omega);rw[x.hm]at*;omega
def Uk(x:Ix w0 p Hs W U G R H w m n 22 a b)(h:n=a+1):Io w0 p W U G R H w m 22 a b:=by
 refine⟨124,rfl,?_⟩;subst h;rw[vO (n:=a+1) x.hx x.hU (by rw[x.em.OU,fh]) rfl,cR rfl];have D:(b:Int)<51:=(jy x.em.xf.b).2.2;have E:(a:Int)<51:=x.ka;refine Kw x.M x.E x.tb x.pw x.C.cQ x.C.len x.C.gd x.C.ops x.ol cM (x.iv iM) ⟨Wz _,cM⟩ (x.em.sz▸x.em.zw) (x.QF ?_ ?_ ?_ (ga Sz.cs x.em.sz) ?_) x.Va
 .rw[x.hU];rfl
 .rw[x.hU];rfl
 .rw[x.hU];rfl
 .rw[x.hU];exact cV (mQ (pX x.I.cQ _) _).cy (mQ x.I.cQ _).cy
def Ui(x:Ix w0 p Hs W U G R H w m n 23 a b)(h:n=a+1):Io w0 p W U G R H w m 23 a b:=by
 refine⟨125,rfl,?_⟩;subst h;rw[vO (n:=a+1) x.hx x.hU (by rw[x.em.OU,fh]) rfl,cK (by show¬(23:Int)=22;decide),cR rfl,x.em.fU,<-x.fU,<-x.db.2.2.2.1];have D:(a:Int)<51:=x.ka;have t:=x.t;refine Km x.M x.E x.tb x.pw x.C.cQ x.gp x.C.len x.C.gd x.UK x.C.ops x.ol cM (x.fU▸x.db.2.2.2.1▸x.em.U8) (x.db.2.2.2.1▸⟨t.nQ,t.sH⟩) (x.fU▸x.em.Ro▸x.em.zw) (x.QF ?_ ?_ ?_ ?_ ?_) ?_
 .rw[x.hU];rfl
 .rw[x.hU];rfl
 .rw[x.hU];rfl
 .rw[x.fU];exact ga Sz.cs x.em.Ro
 .rw[x.fU];exact(qL x.I.cQ).cy
 .have:=x.Va;rw[x.fU,show({W.fU with dz:=W.dz+1}:St).cS.length=W.cS.length from ga Sz.cs x.em.Ro];exact x.iG
def Uh(x:Ix w0 p Hs W U G R H w m n 24 a b)(h:n=a):Io w0 p W U G R H w m 24 a b:=by refine⟨126,rfl,?_⟩;subst h;rw[vO x.hx x.hU (by rw[x.em.OU,fh]) rfl,cK (by show¬(24:Int)=22;decide),cK (by show¬(24:Int)=23;decide),cR rfl,x.em.fU,<-x.fU,<-x.db.2.2.2.1];refine EZ x.M x.E x.C.cQ x.gp x.C.len x.C.gd x.UK x.C.ops x.ol (x.fU▸x.db.2.2.2.1▸x.em.U8) (x.db.2.2.2.1▸x.t.nQ) (x.fU▸x.em.Ro▸x.em.zw) ?_;have f:=x.B.cy;have:W.dz*(3*W.dz+60)<=100000*300060:=tM x.st (by have:=x.st;omega);have:ft U.fU<=ft W:=x.fU▸(qL x.I.cQ).cy;omega
def Uf(x:Ix w0 p Hs W U G R H w m 0 26 a b):Io w0 p W U G R H w m 26 a b:=by
 refine⟨128,rfl,?_⟩;have D:ew p U ⟨26,a,b⟩ (U.taken 0)=if (U.vars.getD (U.db.da.getD a 0) v0).k=2/\(U.vars.getD (U.db.da.getD (a+1) 0) v0).k=2/\(U.vars.getD (U.db.da.getD (a+2) 0) v0).k=2/\(U.vars.getD (U.db.da.getD (a+2) 0) v0).n≠0 then ok (if (0<(U.vars.getD (U.db.da.getD (a+2) 0) v0).n/\(U.vars.getD (U.db.da.getD (a+1) 0) v0).n<(U.vars.getD (U.db.da.getD a 0) v0).n)\/((U.vars.getD (U.db.da.getD (a+2) 0) v0).n<0/\(U.vars.getD (U.db.da.getD a 0) v0).n<(U.vars.getD (U.db.da.getD (a+1) 0) v0).n)then U.gi b else U)else mW U vN:=rfl;rw[x.simp iM,x.zero,D];have k:(a:Int)<(p.cU.getD W.db.eR gu).da-2:=x.ka;have l:a+2<U.db.da.length:=by rw[x.db.1,x.t.da x.hg];omega
 have E:U.db.da.length<=1000:=by rw[x.db.1];have:=x.sn;omega
 have v:∀i,i<U.db.da.length->U.db.da.getD i 0<U.vars.length:=λi h=>by rw[x.sc.1,x.db.1];rw[x.db.1]at h;exact x.sl i h
 exact(Aw x.C l E rfl rfl rfl (v _ cM) (v _ cM) (v _ l) rfl rfl rfl).mono λe w' t=>Rz.cz x.M (by split;(show Sq U (if _ then _ else _);split;exact x.sq.gi _;exact x.sq);exact x.sq) t
def Ue(x:Ix w0 p Hs W U G R H w m 0 27 a b):Io w0 p W U G R H w m 27 a b:=by
 refine⟨129,rfl,?_⟩;have D:ew p U ⟨27,a,b⟩ (U.taken 0)=if (U.vars.getD (U.db.da.getD a 0) v0).k=2/\(U.vars.getD (U.db.da.getD (a+2) 0) v0).k=2 then ok (if (0<(U.vars.getD (U.db.da.getD (a+2) 0) v0).n/\wrap ((U.vars.getD (U.db.da.getD a 0) v0).n+(U.vars.getD (U.db.da.getD (a+2) 0) v0).n)<(U.vars.getD (U.db.da.getD a 0) v0).n)\/((U.vars.getD (U.db.da.getD (a+2) 0) v0).n<0/\(U.vars.getD (U.db.da.getD a 0) v0).n<wrap ((U.vars.getD (U.db.da.getD a 0) v0).n+(U.vars.getD (U.db.da.getD (a+2) 0) v0).n))then U else {U with vars:=U.vars.set (U.db.da.getD a 0) (nv (wrap ((U.vars.getD (U.db.da.getD a 0) v0).n+(U.vars.getD (U.db.da.getD (a+2) 0) v0).n)))}.gi b)else mW U vN:=rfl;rw[x.simp iM,x.zero,D];have k:(a:Int)<(p.cU.getD W.db.eR gu).da-2:=x.ka;have l:a+2<U.db.da.length:=by rw[x.db.1,x.t.da x.hg];omega
 have E:U.db.da.length<=1000:=by rw[x.db.1];have:=x.sn;omega
 have v:∀i,i<U.db.da.length->U.db.da.getD i 0<U.vars.length:=λi h=>by rw[x.sc.1,x.db.1];rw[x.db.1]at h;exact x.sl i h
 exact(Ax x.C l E rfl rfl (v _ cM) (v _ l) rfl rfl rfl).mono λe w' t=>Rz.cz x.M (by split;(show Sq U (if _ then _ else _);split;exact x.sq;exact(x.sq.UO _ rfl).gi _);exact x.sq) t
end
def P8(h:0<=op/\op<28):∃k,zG[op.toNat]?=some (.func (.func k) #[] #[])/\∀X u v y,Sem.run Tryz.prog (callFunc k #[u,v,y]) X=.ok (.enter k #[u,v,y]) X:=by have D:op=0\/op=1\/op=2\/op=3\/op=4\/op=5\/op=6\/op=7\/op=8\/op=9\/op=10\/op=11\/op=12\/op=13\/op=14\/op=15\/op=16\/op=17\/op=18\/op=19\/op=20\/op=21\/op=22\/op=23\/op=24\/op=25\/op=26\/op=27:=cM;obtain rfl|rfl|rfl|rfl|rfl|rfl|rfl|rfl|rfl|rfl|rfl|rfl|rfl|rfl|rfl|rfl|rfl|rfl|rfl|rfl|rfl|rfl|rfl|rfl|rfl|rfl|rfl|rfl:=D<;>exact⟨_,rfl,λ_ _ _ _=>gA⟩
def Sc(E:mz p Hs)(tb:Tb w0)(pw:Pw w0)(I:Iv p Hs W 0)(hm:W.co.cy.length=m+1)(F:W.db.guard=false)(B:Bd W)(J:W.dz<=100000){a b:Nat}(O:(p.cU.getD W.db.eR gu).dw.getD W.db.eA jI=⟨op,a,b⟩)(hU:U={W.gi (W.db.eA+1)with dz:=W.dz+1})(gW:Gw W G)(M:Mi w0 p U G R H w):(0<=op/\op<28)/\Io w0 p W U G R H w m op a b:=by
 have L:0<W.co.cy.length:=cM;obtain⟨n,h⟩:=eX ((jq ⟨op,a,b⟩).toNat);have D:=EM E I L F O hU h rfl;have t:=I.kI L;have K:=E.jZ.1.2.2.1 _ (t.eR F);have o1:=I.IW E L F;have o2:U.db.ops=W.db.ops:=by rw[D.db]
 have gU:U.db.guard=false:=D.db▸F;have nU:U.cQ<U.cS.length:=D.cQ▸D.cS▸I.cQ;have lU:0<U.co.cy.length:=D.len▸L;have x:Ix w0 p Hs W U G R H w m n op a b:=⟨E,tb,pw,I,M,⟨M.im,M.bs,nU,D.len▸hm,gU,by rw[o2];omega⟩,hm,F,O,hU,B,J,gW,D,o2▸D.le,⟨λ_ g=>g,rfl,rfl,rfl,nU,lU,gU⟩,⟨by rw[t.da F];have:=K.2.2.1;omega,by rw[t.oo F];exact K.2.2.2.1⟩,λi hi=>mG (P:=λy=>y<W.vars.length) (t.um F) hi⟩
 have h0:=D.xf.lo;have h1:=D.xf.hi;dsimp only at h0 h1;refine⟨⟨h0,cM⟩,?_⟩;clear D O E tb pw I M B J hU gW;have hc:op=0\/op=1\/op=2\/op=3\/op=4\/op=5\/op=6\/op=7\/op=8\/op=9\/op=10\/op=11\/op=12\/op=13\/op=14\/op=15\/op=16\/op=17\/op=18\/op=19\/op=20\/op=21\/op=22\/op=23\/op=24\/op=25\/op=26\/op=27:=cM;obtain rfl|rfl|rfl|rfl|rfl|rfl|rfl|rfl|rfl|rfl|rfl|rfl|rfl|rfl|rfl|rfl|rfl|rfl|rfl|rfl|rfl|rfl|rfl|rfl|rfl|rfl|rfl|rfl:=hc
 .exact VQ (by rw[h]at x;exact x)
 .exact VP (by rw[h]at x;exact x)
 .exact VO (by rw[h]at x;exact x)
 .exact VN (by rw[h]at x;exact x)
 .exact VM (by rw[h]at x;exact x)
 .exact VL (by rw[h]at x;exact x)
 .exact VK (by rw[h]at x;exact x)
 .exact VJ (by rw[h]at x;exact x)
 .exact VI (by rw[h]at x;exact x)
 .exact VH (by rw[h]at x;exact x)
 .exact Uw (by rw[h]at x;exact x)
 .exact Uv (by rw[h]at x;exact x)
 .exact Uu (by rw[h]at x;exact x)
 .exact Ut (by rw[h]at x;exact x)
 .exact Us (by rw[h]at x;exact x)
 .exact Ur (by rw[h]at x;exact x)
 .exact Uq (by rw[h]at x;exact x)
 .exact Up (by rw[h]at x;exact x)
 .exact Uo (by rw[h]at x;exact x)
 .exact Un (by rw[h]at x;exact x)
 .exact Um (by rw[h]at x;exact x)
 .exact Ul (by rw[h]at x;exact x)
 .exact Uk x (h.trans (by show(1+(a:Int)).toNat=_;omega))
 .exact Ui x (h.trans (by show(1+(a:Int)).toNat=_;omega))
 .exact Uh x (h.trans (by show(0+(a:Int)).toNat=_;omega))
 .exact Ug (by rw[h]at x;exact x)
 .exact Uf (by rw[h]at x;exact x)
 .exact Ue (by rw[h]at x;exact x)
end
def Ic(b:Nat):CallsD Tryz.prog 64 #[.pointer (some ⟨b,0,none⟩)] .returning w λe h D=>e=.returned (.tuple #[])/\h=.returning/\D=w:=by
 refine callsD_of_wpS func64 rfl λE I F=>?_;apply wpS_seq;apply wpS_region;simp[wpOpsS,go_sem,recoverD,F,ntmps64,Exit.thenS];refine wpS_of_wp ?_;go_wp2;cases E
 simp_all [bodyPostS,results,results64]
def Dn{Q:World->Prop}{g:Nat}{F I:Int}{J:ByteArray}{D:Value}(ht:Tg D)(K:w.cell? ⟨b,0,none⟩=some (.pointer (some ⟨g,0,none⟩)))(L:∀X,Below w.heap.size w X->Calls Tryz.prog 65 #[.pointer (some ⟨g,0,none⟩),.agg #[.int .i64 F,.int .i64 I,.string J,D]] X λe w'=>(∃y,e=.returned y)/\Q w'):
  CallsD Tryz.prog 64 #[.pointer (some ⟨b,0,none⟩)] (.panicking (BM (.agg #[.int .i64 F,.int .i64 I,.string J,D]))) w λe u' w'=>e=.returned (.tuple #[])/\u'=.panicking [{v:=.iface 145 (.agg #[.int .i64 F,.int .i64 I,.string J,D]),recovered:=true}]/\Q w':=by
 unfold BM;have ts:=ht.store;have UW:=cO L;clear L;have aa:∀X,(Instr.typeAssert (.iface 145 (.agg #[zI F,zI I,.string J,D])) 20 145 true).run Tryz.prog X=.ok (.tuple #[.agg #[zI F,zI I,.string J,D],.bool true]) X:=λX=>gA;refine callsD_of_wpS func64 rfl λc₀ cs hu=>?_;simp only[ntmps64,qw,dt,dG,Nat.reduceAdd,Nat.reduceSub,Ab,Aa,Gf,Bz,eB,ey];apply wpS_seq;apply wpS_region;simp[wpOpsS,go_sem,recoverD,hu,Exit.thenS];refine wpS_of_wp ?_;go_upto_region 7 with fail;refine dx λw1 E=>?_;have M:Hid (Below w.heap.size w w1):=E▸ba;have L1:Hid (Lc (λ_=>False) w1 w.heap.size #[zI F,zI I,.string J,D] 145):=E▸Lc.new w (λ_ h=>h.elim) _ _;clear E;replace K:=di K M;obtain⟨z0,z1,z2,z3⟩:=L1.c4;go_wp2_with(go_at_call 65;refine cA (UW _ M) ?_;rintro e w2 ⟨⟨y,rfl⟩,O⟩;have Q2:=cO O;clear O)
 cases c₀
 simp_all [bodyPostS,results,results64]
 exact Q2
def sQ{P:Program}{fn:Func}{t I:Array Value}(e:∀w,(results fn t).run P w=(results fn I).run P w):∀(D:List Deferred)(u:FrameMode)(w:World),Leaves P fn t Q D u w->Leaves P fn I Q D u w
 |[],.returning,w,⟨v,E,F⟩=>⟨v,(e w).symm.trans E,F⟩
 |[],.panicking _,_,h=>h
 |[],.run,_,h=>h
 |_::D,_,_,⟨J,K,cap,f,args,E,F,L⟩=>⟨J,K,cap,f,args,E,F,L.mono λM O w' q=>by
   cases M with
   |returned v=>exact sQ e D _ _ q
   |panicked c=>exact sQ e D _ _ q
   |outgrown=>exact q⟩
def AS(d:Option Nat)(v:Value)(c:List PanicEntry)(a:Act)(w:World)(h:bodyPostD Tryz.prog Tryz.f31 Q (.panic c) (a.put d v) w):bodyPostD Tryz.prog Tryz.f31 Q (.panic c) a w:=by
 cases d with
 |none=>exact h
 |some d=>exact sQ (λ_=>by simp[results,OD]) _ _ _ h
def OY(E:mz p Hs)(tb:Tb w0)(pw:Pw w0)(I:Iv p Hs W 0)(hl:0<W.co.cy.length)(K:W.db.guard=false)(B:Bd W)(aa:W.dz<=100000)(M:Mi w0 p {W with dz:=W.dz+1} G R H w):
  Calls Tryz.prog 31 #[ptr (hd R (9,0,0))] w (Cz w0 p {W with dz:=W.dz+1} G R H w (ok (rn.gY p W))):=by
 obtain⟨m,hm⟩:∃m,W.co.cy.length=m+1:=⟨W.co.cy.length-1,cM⟩
 have t:=I.kI hl;have A:=I.eA E hl K;obtain⟨x,hx⟩:∃x,(p.cU.getD W.db.eR gu).dw.getD W.db.eA jI=x:=⟨_,rfl⟩
 rw[hx]at A;obtain⟨op,xa,xb⟩:=x;obtain⟨a,rfl⟩:∃a:Nat,xa=a:=⟨xa.toNat,by have:=(jy A.ok.a).1;dsimp only at this;omega⟩
 obtain⟨b,rfl⟩:∃b:Nat,xb=b:=⟨xb.toNat,by have:=(jy A.ok.b).1;dsimp only at this;omega⟩
 have ah:0<=op:=A.ok.lo;have ar:op<=27:=A.ok.hi;obtain⟨kf,ad,aB⟩:=P8 (op:=op) ⟨ah,cM⟩;obtain⟨n,rfl⟩:∃n:Nat,op=n:=⟨op.toNat,cM⟩
 obtain⟨F,D⟩:=eX ({W with dz:=W.dz+1}:St);rw[<-D]at M|-;have n1:F.cQ<F.cS.length:=D▸I.cQ;have m1:F.co.cy.length=m+1:=D▸hm;have g1:F.db.guard=false:=D▸K;have en:F.cQ=W.cQ:=by rw[D]
 have et:F.db=W.db:=by rw[D];rfl
 have ai:m<=1000000000000:=by have:=wV I.cQ;have f:=B.cy;have:W.dz*(3*W.dz+60)<=100000*300060:=tM aa cM;omega
 obtain⟨g,cg,h9,c9,_,fg⟩:=M.im.mP;have p9:ptr (hd R (9,0,0))=zP g:=by rw[h9];rfl
 obtain⟨c,cc,h4,fc,c4,_⟩:=M.im.Br n1;have p4:ptr (hd R (4,F.cQ,0))=zP c:=by rw[h4];rfl
 obtain⟨t6,_⟩:=M.im.db n1 m1 g1;obtain⟨f,cf,h6,_,c6,z6,_⟩:=M.im.eA t6 (M.im.ij _ t6 dC) dC;have p6:ptr (hd R (6,F.cQ,m))=zP f:=by unfold hd;rw[h6];rfl
 have t2:eW F (2,F.db.fn,0):=⟨by rw[et,D];exact(t.fn K).1,rfl⟩
 obtain⟨k,ck,h2,_,c2,_,_⟩:=M.im.eA t2 (M.im.ij _ t2 dC) dC;have ft:F.fr F.cQ m=F.db:=by unfold St.db;rw[m1];rfl
 obtain⟨uc,ud,aj,_,au⟩:=M.pm.pc _ (t.eR K);obtain⟨aI,cI,rfl,aw,rI⟩:=au;obtain⟨bI,oI,rfl,x0,x1,x2⟩:=rI _ (t.eA K);rw[hx]at x0 x1 x2;obtain⟨nc,ae⟩:∃z,z=(p.cU.getD W.db.eR gu).dw.length:=⟨_,rfl⟩
 obtain⟨J,ab⟩:∃z,z=W.db.eA:=⟨_,rfl⟩
 have ak:=t.eA K;have d0:w.cell? (zA f 0)=some (zP k):=by have:=c6 0 _ rfl;rw[this];show some (ptr (hd R (2,(F.fr F.cQ m).fn,0)))=_;rw[ft];unfold hd;rw[h2];rfl
 have d1:w.cell? (zA f 1)=some (zI J):=by have:=c6 1 _ rfl;rw[this];show some (Value.int .i64 ((F.fr F.cQ m).eA:Int))=_;rw[ft,et,ab]
 have d3:w.cell? (zA k 3)=some (.slice (some (zA bI oI)) nc cI):=by refine c2 3 _ ?_;show(H.pc (F.funcs.getD F.db.fn (0,[])).1++[_])[3]?=_;rw[show(F.funcs.getD F.db.fn (0,[])).1=W.db.eR by rw[et,D];exact ga Prod.fst (t.fn K).2,aj,ae];rfl
 rw[<-ae]at ak aw;rw[<-ab]at ak x0 x1 x2;have gW:Gw W G:=M.gw.pF (by rw[D]) (by rw[D]) (by rw[D]) (λ_=>by rw[D]) (λ_=>D▸⟨rfl,rfl,rfl,rfl⟩) (λ_ _=>D▸⟨rfl,rfl⟩) (λ_ _ _=>D▸⟨rfl,rfl⟩);have FO:Hid (∀w1,w1=w.alloc (.cells #[zP g] 70)->∀X,Below w1.heap.size w1 X->X.cell? (zA w.heap.size 0)=some (zP g)/\X.cell? (zA g 41)=some (zP c)/\(Calls Tryz.prog 66 #[zP c] X λe w'=>e=.returned (.iface 147 (zP f))/\Below X.heap.size X w')/\X.cell? (zA f 0)=some (zP k)/\X.cell? (zA f 1)=some (zI J)/\X.frozen? (zA f 1)=false/\X.cell? (zA k 3)=some (.slice (some (zA bI oI)) nc cI)/\X.cell? (zA bI (oI+J*3))=some (zI n)/\X.cell? (zA bI (oI+J*3+1))=some (zI a)/\X.cell? (zA bI (oI+J*3+2))=some (zI b) /\
   ∀Y,Below X.heap.size (X.setCell (zA f 1) (zI ((J+1:Nat):Int))) Y->Y.cell? (zA w.heap.size 0)=some (zP g)/\Y.cell? (zA g (3+n))=some (.func (.func kf) #[] #[])/\Calls Tryz.prog kf #[zP g,zP f,.agg (zW n a b)] Y λe w'=>(∃x,e=.returned x/\∀z,Cz w0 p F G R H w (ok (rn.gY p W)) (.returned z) w')\/∃kx ix sx tx,e=.panicked (BM (.agg #[zI kx,zI ix,.string sx,tx]))/\Tg tx/\w'.cell? (zA w.heap.size 0)=some (zP g)/\∀Z,Below w'.heap.size w' Z->Calls Tryz.prog 65 #[zP g,.agg #[zI kx,zI ix,.string sx,tx]] Z λe ac=>(∃y,e=.returned y)/\∀z,Cz w0 p F G R H w (ok (rn.gY p W)) (.returned z) ac):=λw1 hw X hX=>by
  have b1:Below w.heap.size w w1:=hw▸ba;have L:Lc (Fs F G R H) w1 w.heap.size #[zP g] 70:=hw▸Lc.new w (λk hk=>Fs.lt M hk) _ _;have bX:=iy b1 hX;have b0:=M.mV.trans (bX.mono M.mV.size);have MX:=M.below bX;have lf:=dy _ (zA f 1) d1;refine⟨(L.kept (Kp.cY hX)).cell rfl,di (by rw[<-p4];exact c9 41 _ rfl) bX,?_,di d0 bX,di d1 bX,(dA (a:=(zA f 1)) (bX.block f lf)).trans (z6 1),di d3 bX,di x0 b0,di x1 b0,di x2 b0,λY hY=>?_⟩
  .have tp:=LQ MX.im n1 m1 ai;rw[p4]at tp;unfold PZ at tp;rw[cK (by rw[g1];simp),p6]at tp;exact tp
  have C:Cu w0.heap.size F G R H m X:=⟨MX.im,MX.bs,n1,m1,g1,by rw[et];have:=I.IW E hl K;omega⟩
  obtain⟨_,_,R5,C5,d5,k5⟩:=C.gi (J+1) p6;have al:Below (X.setCell (zA f 1) (zI ((J+1:Nat):Int))).heap.size (X.setCell (zA f 1) (zI ((J+1:Nat):Int))) Y:=by simpa[World.setCell]using hY
  obtain⟨M5,ax⟩:=MX.gY C5.im (MX.gw.db n1 cM (f:={F.db with eA:=J+1}) rfl rfl (λe=>by rw[show F.db.guard=false from g1]at e;cases e)) k5 rfl rfl rfl;have MY:=M5.below al;have kY:Kp (Fs F G R H) (Fs (F.gi (J+1)) G R5 H) w1 Y:=((Kp.cY hX).trans ax).trans (Kp.cY al);have kw:=(Kp.cY (S:=Fs F G R H) b1).trans kY;have hU:F.gi (J+1)={W.gi (W.db.eA+1)with dz:=W.dz+1}:=by rw[D,ab];rfl
  obtain⟨_,k',am,CI⟩:=Sc E tb pw I hm K B aa hx hU gW MY;have:k'=kf:=by rw[ad]at am;cases am;rfl
  subst this;obtain⟨g',aC,an,ay,_⟩:=MY.im.mP;rw[d5,h9]at an;cases an;rw[d5,p9,show(F.gi (J+1)).cQ=F.cQ from rfl,p6]at CI;refine⟨(L.kept kY).cell rfl,ay (3+n) _ ?_,CI.mono λe w' cz=>?_⟩
  .show([H.ps,H.ks,H.ins]++zG++_)[3+n]?=_;have ap:=ad;rw[jQ,fB (by show 3<=3+n;omega),show 3+n-([H.ps,H.ks,H.ins]:List Value).length=n by show 3+n-3=n;omega,fH (by have:=(fG.1 ap).1;exact this)];exact ap
  .obtain⟨r,hr⟩:∃r,r=pj p W:=⟨_,rfl⟩
   rw[<-hr]at cz;have cw:=cz.from kw (by rw[d5]);obtain⟨V,o⟩:=r;cases o with
   |none=>
    obtain⟨y,rfl⟩:=Cz.ret (V:=V) cz;refine .inl ⟨y,rfl,λz=>?_⟩;rw[show rn.gY p W=V by unfold rn.gY;rw[<-hr]];exact Cz.re (V:=V) cw z
   |some v=>
    obtain⟨G7,R7,H7,M7,k7,d7,e7⟩:=cz;have e7:=e7;obtain⟨hv,q,hq⟩:=(show mX.ok p Hs (V,some v) by rw[hr];exact tF E I hl K).2 v rfl;refine .inr ⟨_,_,_,_,e7,gm _ _,(L.kept (kY.trans k7)).cell rfl,λZ hZ=>?_⟩;have MZ:=M7.below hZ;have uw:=Jt MZ E tb pw hq hv (by show rn.ft V<=_;have f:=(Dd E I hl K).cy;rw[<-hr]at f;have f:rn.ft V<=rn.ft W+(3*W.cS.length+52):=f;have:=B.cy;have:=B.cS;have:W.dz*(3*W.dz+60)<=100000*300060:=tM aa cM;omega) (T:=rn.gY p W) (by unfold rn.gY;rw[<-hr]);rw[d7,d5,p9]at uw;refine uw.mono λe ac az=>?_;have c3:=az.from ((kw.trans k7).trans (Kp.cY hZ)) (d7.trans (by rw[d5]));exact⟨c3.ret,λz=>c3.re z⟩
 have aD:∀(fn:Fn)(first cap:Array Value)(w:World),(Instr.makeFunc fn first cap).run Tryz.prog w=.ok (.func fn first cap) w:=λ_ _ _ _=>rfl;have ta:∀X,(Instr.typeAssert (.iface 147 (zP f)) 149 147 false).run Tryz.prog X=.ok (zP f) X:=λX=>gA;rw[p9];have aE:(n:Int)<28:=cM;have aA:(J:Int)<(nc:Int):=cM;clear ad M E tb pw I hl K B aa hm t A hx D n1 m1 g1 en et ai h9 c9 fg p9 h4 fc c4 p4 t6 h6 c6 z6 p6 t2 h2 c2 ft aj x0 x1 x2 ae ab d0 d1 d3 gW rI ah ar;go_enter_defers func31,ntmps31;go_upto_region 2 with fail;refine dx λw1 aq=>?_;have FW:=cO (FO w1 aq);clear aq FO;obtain⟨m0,m1,tp,_⟩:=FW w1 (cN _ _);have TP:=cO tp;clear tp;go_upto_region 3 with(go_at_call 66;refine cA TP ?_;rintro e O ⟨rfl,b3⟩;have B3:=cO b3;clear b3)
 clear m0 m1 TP;obtain⟨S,hS⟩:=eX (Below O.heap.size O);have un:=cO (λX (q:S X)=>show Below w1.heap.size w1 X by rw[hS]at q;exact iy B3 q);have y0:=λx:Wd S=>(FW _ (un _ x.ok)).2.2.2.1;have y1:=λx:Wd S=>(FW _ (un _ x.ok)).2.2.2.2.1;have y2:=λx:Wd S=>(FW _ (un _ x.ok)).2.2.2.2.2.2.1;have y3:=λx:Wd S=>(FW _ (un _ x.ok)).2.2.2.2.2.2.2.1;have y4:=λx:Wd S=>(FW _ (un _ x.ok)).2.2.2.2.2.2.2.2.1;have y5:=λx:Wd S=>(FW _ (un _ x.ok)).2.2.2.2.2.2.2.2.2.1;have MK:Hid (∀X,Below O.heap.size O X->S X):=λX q=>hS▸q;clear hS;haveI:Nonempty (Wd S):=⟨⟨O,MK _ (cN _ _)⟩⟩
 refine mA S 14 1 gA gA (λd v c a w h=>AS d v c a w h) (MK _ (cN _ _).drew) ?_;simp only[List.take,List.drop];repeat(go_big_quiet_step(fail))
 refine wpQuiet_nil ?_;clear y0 y1 y2 y3 y4 y5;refine dI ?_;go_wp2;refine⟨MK _ ((cN _ _).drew.alloc (cE _) _),?_⟩;refine ej ?_;go_upto_region 4 with fail;refine dx λw4 af=>?_;have B4:Hid (Below w1.heap.size w1 w4):=af▸B3.trans (((cN O.heap.size O).drew.alloc (cE _) _).mono B3.size);have L4:Hid (Lc (λ_=>False) w4 O.heap.size (zW n a b) 105):=af▸Lc.new O.drew (λ_ h=>h.elim) _ _;clear af;have NE:¬O.heap.size=f:=λe=>by have:=dy _ (zA f 1) (FW _ B3).2.2.2.2.1;dsimp only at this;omega
 obtain⟨_,_,_,_,f1,f2,_,_,_,_,GO⟩:=FW _ B4;have GW:=cO GO;clear GO;go_upto_region 5 with fail;refine dx λw5 ag=>?_;have L5:Hid (Lc (λ_=>False) w5 O.heap.size (zW n a b) 105):=by rw[ag];exact⟨λh=>h,(cZ _ (zA f 1) _ _ NE).trans L4.2⟩
 have F5:Hid (∀Y,Below w5.heap.size w5 Y->_):=λY hY=>GW Y (by rw[ag]at hY;rw[show((J+1:Nat):Int)=(J:Int)+1 from rfl];exact hY.mono QB);clear ag GW f1 f2;obtain⟨k0,k1,_⟩:=F5 _ (cN _ _);obtain⟨l0,l1,l2⟩:=L5.c3;refine sG 10 gA gA (λd v c a w h=>AS d v c a w h) ?_;simp only[List.take,List.drop];repeat(go_big_quiet_step(fail))
 refine wpQuiet_nil ?_;obtain⟨_,_,CI⟩:=F5 _ (cN _ _).drew;have C5:=cO CI;clear CI F5 k0 k1 l0 l1 l2;go_wp2;refine cA C5 ?_;rintro e w7 (⟨y,rfl,q7⟩|⟨kx,ix,sx,tx,rfl,ht,c7,u7⟩)
 .have Q7:=cO q7;clear q7;dsimp only;go_wp2;refine leaves_cons (f:=64) (args:=#[zP w.heap.size]) dC (by simp[go_sem]) ?_;refine(Ic w.heap.size).mono ?_;rintro e u' ac ⟨rfl,rfl,rfl⟩;simp[Leaves,settle,results,OD,go_sem];exact Q7 _
 .have T7:=cO ht;have C7:=cO c7;have U7:=cO u7;clear ht c7 u7;dsimp only;refine leaves_cons (f:=64) (args:=#[zP w.heap.size]) dC (by simp[go_sem]) ?_;refine(Dn (Q:=λw'=>∀z,Cz w0 p F G R H w (ok (rn.gY p W)) (.returned z) w') T7 C7 U7).mono ?_;rintro e u' ac ⟨rfl,rfl,q⟩;simp[Leaves,settle,results,OD,go_sem];exact q _
end im
end Go.Proofs.YtfpkdfeakanlpaaGreatDoor
