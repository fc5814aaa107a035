import Derived.Lib.ItoaLen
import Derived.Laws.OwnMore
import Derived.OneCell
import Derived.WalkSmall
import Derived.Laws.StructEq
import Derived.WideKeyRuns
import Derived.MapKept
import Derived.Test.YtfpkdfeakanlpaaGreatDoorMPgSz
set_option linter.all false
set_option maxRecDepth 100000
set_option maxHeartbeats 8000000
namespace Go.Proofs.YtfpkdfeakanlpaaGreatDoor
open Go.Proofs.Tryz
namespace rn
open pg chk
variable{x:In}{a b cW q:Int}{s:List UInt8}{i m n:Nat}{Hs:Nat→List Int}{p:Pg}{α:Type}
structure Vl where
 k:Int
 n:Int
 s:List UInt8
structure Fr where
 guard:Bool
 want:Int
 eR:Nat
 eA:Nat
 oo:List Nat
 da:List Nat
 ops:List Vl
 fn:Nat
structure Co where
 cy:List Fr
 state:Int
 body:Vl
 gq:Nat
 want:Int
 held:Int
structure St where
 ins:List (List Int)
 vars:List Vl
 tables:List (List (Vl×Vl))
 funcs:List (Nat×List Nat)
 cS:List Co
 cQ:Nat
 oz:Bool
 dw:Int
 dn:List (List UInt8)
 lu:List UInt8
 dz:Nat
 iq:Nat
 size:Nat
def v0:Vl:=⟨0,0,[]⟩
def pG:Fr:=⟨false,0,0,0,[],[],[],0⟩
def dE:Co:=⟨[],0,v0,0,0,0⟩
def bv(b:Bool):Vl:=⟨1,if b then 1 else 0,[]⟩
def nv(n:Int):Vl:=⟨2,n,[]⟩
def tv(s:List UInt8):Vl:=⟨3,0,s⟩
def same(x y:Vl):Bool:=x.k==y.k&&x.n==y.n&&x.s==y.s
def jr(v:Vl):Bool:=!(v.k==0)&&(!(v.k==1) || v.n==1)
def Vy:List UInt8:=[110,105,108]
def TU:List UInt8:=[98,111,111,108,101,97,110]
def Pe:List UInt8:=[110,117,109,98,101,114]
def Pd:List UInt8:=[115,116,114,105,110,103]
def RJ:List UInt8:=[116,97,98,108,101]
def QR:List UInt8:=[102,117,110,99,116,105,111,110]
def WH:List UInt8:=[99,111,114,111,117,116,105,110,101]
def nH(k:Int):List UInt8:=[Vy,TU,Pe,Pd,RJ,QR,QR,WH].getD k.toNat []
def TT:List UInt8:=[116,114,117,101]
def RM:List UInt8:=[102,97,108,115,101]
def UN(n:Int):List UInt8:=if n<0 then 45::Lib.decDigits (-n).toNat else Lib.decDigits n.toNat
def jY(v:Vl):List UInt8:=if v.k=1 then(if v.n=1 then TT else RM)else if v.k=2 then UN v.n else if v.k=3 then v.s else nH v.k
def yY:List UInt8:=[99,97,108,108]
def kM:List UInt8:=[105,110,100,101,120]
def nz:List UInt8:=[97,114,105,116,104,109,101,116,105,99]
def vM:List UInt8:=[122,101,114,111]
def Hv:List UInt8:=[99,111,110,99,97,116,101,110,97,116,105,111,110]
def yX:List UInt8:=[116,111,111,32,108,111,110,103]
def Bl:List UInt8:=[99,111,109,112,97,114,105,115,111,110]
def vN:List UInt8:=[102,111,114]
def Aq:List UInt8:=[111,117,116,112,117,116]
def rV:List UInt8:=[97,114,103,117,109,101,110,116]
def rU:List UInt8:=[121,105,101,108,100]
def lR:List UInt8:=[99,97,110,110,111,116,32,114,101,115,117,109,101]
def lQ(k:Int):List UInt8:=[[115,117,115,112,101,110,100,101,100],[114,117,110,110,105,110,103],[110,111,114,109,97,108],[100,101,97,100]].getD k.toNat []
abbrev mX:=St×Option Vl
def ok(W:St):mX:=(W,none)
def mW(W:St)(s:List UInt8):mX:=(W,some (tv s))
def St.co(W:St):Co:=W.cS.getD W.cQ dE
def St.dW(W:St)(i:Nat)(c:Co):St:={W with cS:=W.cS.set i c}
def St.db(W:St):Fr:=W.co.cy.getD (W.co.cy.length-1) pG
def St.du(W:St)(l:List Fr):St:=W.dW W.cQ {W.co with cy:=l}
def St.dN(W:St)(f:Fr):St:=W.du (W.co.cy.set (W.co.cy.length-1) f)
def St.fU(W:St):St:=W.du (W.co.cy.take (W.co.cy.length-1))
def St.push(W:St)(f:Fr):St:=
 {W.du (W.co.cy++[f])with iq:=max W.iq (W.co.cy.length+1)}
def St.ee(W:St)(l:List Vl):St:=W.dN {W.db with ops:=W.db.ops++l}
def St.dZ(W:St)(n:Nat):St:=W.dN {W.db with ops:=W.db.ops.take (W.db.ops.length-n)}
def St.taken(W:St)(n:Nat):List Vl:=W.db.ops.drop (W.db.ops.length-n)
def St.gi(W:St)(a:Nat):St:=W.dN {W.db with eA:=a}
def St.fy(W:St)(state:Int):St:=
 let c:=W.co;let W:=W.dW W.cQ {c with state:=state};let W:={W with cQ:=c.gq}
 W.dW W.cQ {W.co with state:=1}
def first(l:List Vl):Vl:=l.getD 0 v0
def sA:Nat->St->List Vl->Int->St
 |0,W,_,_=>W
 |f+1,W,l,h=>
  if W.co.cy.length=0 then
   if W.cQ=0 then {W with oz:=true,dw:=0}
   else sA f (W.fy 3) [bv true,first l] W.co.want
  else if W.db.guard then sA f W.fU [bv true,first l] W.db.want
  else W.ee ((List.range h.toNat).map λi=>l.getD i v0)
def vH(W:St):Nat:=(W.cS.map λ(c:Co)=>c.cy.length+if c.state=3 then 0 else 1).sum+1
def gv(W:St)(l:List Vl)(want:Int):St:=sA (vH W) W l want
def je(v:Vl):Nat->St->St
 |0,W=>
  if W.cQ=0 then {W with oz:=true,dw:=6,lu:=jY v}
  else gv (W.fy 3) [bv false,v] W.co.want
 |n+1,W=>if W.db.guard then gv W.fU [bv false,v] W.db.want else je v n W.fU
def mE:List (List UInt8)->List UInt8
 |[]=>[]
 |[x]=>x
 |x::l=>x++9::mE l
def enter(p:Pg)(W:St)(fn:Nat)(args:List Vl)(want:Int):St:=
 let c:=W.funcs.getD fn (0,[]);let q:=p.cU.getD c.1 gu;let h:=(List.range q.da.toNat).map λi=>if i<q.params.toNat then args.getD i v0 else v0;let D:={W with vars:=W.vars++h}
 D.push ⟨false,want,c.1,0,c.2,(List.range q.da.toNat).map λi=>W.vars.length+i,[],fn⟩
def gj(l:List Int):List UInt8:=l.map λz=>UInt8.ofNat z.toNat
def plain(W:St)(n:Int)(args:List Vl)(want:Int):mX:=
 let v:=first args
 if n=0 then
  let nw:=mE (args.map jY)
  if 100000<W.size+nw.length then mW W Aq
  else ok (gv {W with size:=W.size+nw.length,dn:=W.dn++[nw]} [] want)
 else if n=1 then
  match W.ins with
  |[]=>ok (gv W [v0] want)
  |x::l=>ok (gv {W with ins:=l} [tv (gj x)] want)
 else if n=2 then ok (gv W [tv (jY v)] want)
 else if n=3 then ok (gv W [tv (nH v.k)] want)
 else if n=5 then(W,some v)
 else if n=6 then
  if v.k=5\/v.k=6 then
   ok (gv {W with cS:=W.cS++[⟨[],0,v,0,0,-1⟩]} [⟨7,W.cS.length,[]⟩] want)
  else mW W rV
 else if n=8 then
  if W.cQ=0 then mW W rU
  else
   let W:=W.dW W.cQ {W.co with held:=want}
   ok (gv (W.fy 0) [bv true,v] W.co.want)
 else if v.k=7 then ok (gv W [tv (lQ (W.cS.getD v.n.toNat dE).state)] want)
 else mW W rV
def call(p:Pg):Nat->St->Vl->List Vl->Int->mX
 |0,W,_,_,_=>ok W
 |g+1,W,f,args,want=>
  if f.k=6 then
   if f.n=4 then call p g (W.push ⟨true,want,0,0,[],[],[],0⟩) (first args) (args.drop 1) 1
   else if f.n=7 then
    let v:=first args
    let u:=args.getD 1 v0
    if v.k=7 then
     let c:=W.cS.getD v.n.toNat dE
     if c.state=0 then
      let D:=W.dW W.cQ {W.co with state:=2};let h:={D.dW v.n.toNat {c with state:=1,gq:=W.cQ,want:=want,held:=if c.held<0 then 0 else c.held}with cQ:=v.n.toNat}
      if c.held<0 then call p g h c.body [u] 1 else ok (gv h [u] c.held)
     else ok (gv W [bv false,tv lR] want)
    else mW W rV
   else plain W f.n args want
  else if f.k=5 then ok (enter p W f.n.toNat args want)
  else mW W yY
def mC(c:Co):Nat:=if c.state=0 then 1 else 0
def nX(W:St)(args:List Vl):Nat:=3*(W.cS.map mC).sum+args.length+2
def tX(p:Pg)(W:St)(f:Vl)(args:List Vl)(want:Int):mX:=call p (nX W args) W f args want
def wrap(n:Int):Int:=(n+9223372036854775808) % 18446744073709551616-9223372036854775808
def mZ(op a b:Int):Option Int:=
 if op=0 then some (wrap (a+b))else if op=1 then some (wrap (a-b))else if op=2 then some (wrap (a*b))
 else if b=0 then none else if op=3 then some (wrap (a.fdiv b))else some (wrap (a-b*wrap (a.fdiv b)))
def sD:List UInt8->List UInt8->Bool
 |_,[]=>false
 |[],_::_=>true
 |x::l,y::m=>if x=y then sD l m else x<y
def holds(op:Int)(h D:Bool):Bool:=if op=8 then h else if op=9 then !D else if op=10 then D else !h
def pv(op:Int)(x y:Vl):Vl ⊕ List UInt8:=
 if op=6 then .inl (bv (same x y))else if op=7 then .inl (bv (!same x y))
 else if op=5 then
  if (x.k=2\/x.k=3)/\(y.k=2\/y.k=3)then
   let s:=jY x++jY y
   if 5000<s.length then .inr yX else .inl (tv s)
  else .inr Hv
 else if 7<op then
  if x.k=3/\y.k=3 then .inl (bv (holds op (sD x.s y.s) (sD y.s x.s)))
  else if x.k=2/\y.k=2 then .inl (bv (holds op (decide (x.n<y.n)) (decide (y.n<x.n))))
  else .inr Bl
 else if x.k=2/\y.k=2 then
  match mZ op x.n y.n with
  |none=>.inr vM
  |some z=>.inl (nv z)
 else .inr nz
def pI:List (Vl×Vl)->Vl->Vl
 |[],_=>v0
 |e::l,k=>if same e.1 k then e.2 else pI l k
def put:List (Vl×Vl)->Vl->Vl->List (Vl×Vl)
 |[],k,v=>[(k,v)]
 |e::l,k,v=>if same e.1 k then(e.1,v)::l else e::put l k v
def St.store(W:St)(t k v:Vl):mX:=
 if t.k=4/\k.k≠0 then ok {W with tables:=W.tables.set t.n.toNat (put (W.tables.getD t.n.toNat []) k v)}else mW W kM
def iU(c:Cn):Vl:=if c.pB then tv (gj c.oy)else nv c.n
def ew(p:Pg)(W:St)(x:In)(i:List Vl):mX:=
 let f:=W.db;let a:=x.a.toNat;let h (j:Nat):Vl:=i.getD j v0
 match x.op.toNat with
 |0=>ok (W.ee [iU (p.dv.getD a mU)])
 |1=>ok (W.ee [v0])
 |2=>ok (W.ee [bv true])
 |3=>ok (W.ee [bv false])
 |4=>ok (W.ee [⟨6,x.a,[]⟩])
 |5=>ok (W.ee [W.vars.getD (f.da.getD a 0) v0])
 |6=>ok {W with vars:=W.vars.set (f.da.getD a 0) (h 0)}
 |7=>ok ({W with vars:=W.vars++[h 0]}.dN {f with da:=f.da.set a W.vars.length})
 |8=>ok (W.ee [W.vars.getD (f.oo.getD a 0) v0])
 |9=>ok {W with vars:=W.vars.set (f.oo.getD a 0) (h 0)}
 |10=>ok ({W with funcs:=W.funcs++[(a,(p.cU.getD a gu).fP.map λ(c:Cp)=>if c.up then f.oo.getD c.index.toNat 0 else f.da.getD c.index.toNat 0)]}.ee [⟨5,W.funcs.length,[]⟩])
 |11=>ok ({W with tables:=W.tables++[[]]}.ee [⟨4,W.tables.length,[]⟩])
 |12=>match W.store (h 0) (h 1) (h 2)with
  |(W,none)=>ok (W.ee [h 0])
  |r=>r
 |13=>if (h 0).k=4 then ok (W.ee [pI (W.tables.getD (h 0).n.toNat []) (h 1)])else mW W kM
 |14=>W.store (h 0) (h 1) (h 2)
 |15=>match pv x.a (h 0) (h 1)with
  |.inl v=>ok (W.ee [v])
  |.inr s=>mW W s
 |16=>ok (W.ee [bv (!jr (h 0))])
 |17=>if (h 0).k=2 then ok (W.ee [nv (wrap (0-(h 0).n))])else mW W nz
 |18=>ok (W.gi a)
 |19=>ok (if jr (h 0)then W else W.gi a)
 |20=>ok (if jr (h 0)then W else(W.ee [h 0]).gi a)
 |21=>ok (if jr (h 0)then(W.ee [h 0]).gi a else W)
 |26=>
  let i:=W.vars.getD (f.da.getD a 0) v0;let l:=W.vars.getD (f.da.getD (a+1) 0) v0;let d:=W.vars.getD (f.da.getD (a+2) 0) v0
  if i.k=2/\l.k=2/\d.k=2/\d.n≠0 then ok (if (0<d.n/\l.n<i.n)\/(d.n<0/\i.n<l.n)then W.gi x.b.toNat else W)else mW W vN
 |27=>
  let i:=W.vars.getD (f.da.getD a 0) v0;let d:=W.vars.getD (f.da.getD (a+2) 0) v0
  if i.k=2/\d.k=2 then
   let z:=wrap (i.n+d.n)
   ok (if (0<d.n/\z<i.n)\/(d.n<0/\i.n<z)then W else {W with vars:=W.vars.set (f.da.getD a 0) (nv z)}.gi x.b.toNat)
  else mW W vN
 |_=>ok W
def pj(p:Pg)(W:St):mX:=
 let f:=W.db;let x:=(p.cU.getD f.eR gu).dw.getD f.eA jI;let W:={W.gi (f.eA+1)with dz:=W.dz+1}
 let n:=(jq x).toNat;let i:=W.taken n;let W:=W.dZ n
 if x.op=22 then tX p W (i.getD 0 v0) (i.drop 1) x.b
 else if x.op=23 then tX p W.fU (i.getD 0 v0) (i.drop 1) f.want
 else if x.op=24 then ok (gv W.fU i f.want)
 else ew p W x i
def gY(p:Pg)(W:St):St:=
 match pj p W with
 |(W,none)=>W
 |(W,some v)=>je v W.co.cy.length W
def start(p:Pg)(ins:List (List Int)):St:=
 enter p ⟨ins,[],[],[(0,[])],[⟨[],1,v0,0,0,0⟩],0,false,0,[],[],0,0,0⟩ 0 [] 0
def run(p:Pg):Nat->St->St
 |0,W=>if W.oz then W else {W with dw:=7}
 |n+1,W=>if W.oz then W else run p n (gY p W)
structure Sz where
 vs:Nat
 ts:Nat
 fl:List (Nat×List Nat)
 cs:Nat
def Sz.fs(a:Sz):Nat:=a.fl.length
def Sz.le(a b:Sz):Prop:=a.vs<=b.vs/\a.ts<=b.ts/\a.fl <+: b.fl/\a.cs<=b.cs
def Sz.le.fs{a b:Sz}(h:a.le b):a.fs<=b.fs:=h.2.2.1.length_le
def Ej{a b:List (Nat×List Nat)}(h:a <+: b)(D:i<a.length):b.getD i (0,[])=a.getD i (0,[]):=by obtain⟨c,rfl⟩:=h;simp[cB,fH D]
def St.sz(W:St):Sz:=⟨W.vars.length,W.tables.length,W.funcs,W.cS.length⟩
structure gG(z:Sz)(v:Vl):Prop where
 lo:0≤v.k
 hi:v.k≤7
 nil:v.k=0→v.n=0
 bool:v.k=1→v.n=0∨v.n=1
 ij:v.k=2→-9223372036854775808≤v.n∧v.n≤9223372036854775807
 oy:v.k=3→v.n=0∧v.s.length≤5000
 RX:v.k≠3→v.s=[]
 qT:v.k=4→0≤v.n∧v.n<(z.ts:Int)
 fn:v.k=5→0≤v.n∧v.n<(z.fs:Int)
 pv:v.k=6→0≤v.n∧v.n<10
 co:v.k=7→0≤v.n∧v.n<(z.cs:Int)
def gG.mono{a b:Sz}{v:Vl}(h:gG a v)(l:a.le b):gG b v:=by have D:=l.fs;obtain⟨_,E,_,F⟩:=l;exact⟨h.lo,h.hi,h.nil,h.bool,h.ij,h.oy,h.RX,λe=>by have:=h.qT e;omega,λe=>by have:=h.fn e;omega,h.pv,λe=>by have:=h.co e;omega⟩
def xu(z:Sz):gG z v0:=by constructor<;>simp[v0]
def iX(z:Sz)(b:Bool):gG z (bv b):=by constructor<;>simp[bv]
def rF(z:Sz){n:Int}(h:-9223372036854775808<=n)(D:n<=9223372036854775807):gG z (nv n):=by constructor<;>simp[nv];omega
def jF(z:Sz)(h:s.length<=5000):gG z (tv s):=by constructor<;>simp[tv];omega
def iR{z:Sz}{l:List Vl}(h:∀v∈l,gG z v)(i:Nat):gG z (l.getD i v0):=by
 rw[cB];cases e:l[i]? with
 |none=>exact xu z
 |some v=>exact h v (z8 e)
def ir{z:Sz}{l:List Vl}(h:∀v∈l,gG z v):gG z (first l):=iR h 0
structure pM(p:Pg)(Hs:Nat→List Int)(z:Sz)(f:Fr)(cW:Int):Prop where
 nQ:0≤f.want
 sH:f.want≤50
 eR:f.guard=false→f.eR<p.cU.length
 eA:f.guard=false→f.eA<(p.cU.getD f.eR gu).dw.length
 Kg:f.guard=false→(Hs f.eR).getD f.eA (-1)=(f.ops.length:Int)+cW
 da:f.guard=false→f.da.length=(p.cU.getD f.eR gu).da.toNat
 um:f.guard=false→∀x∈f.da,x<z.vs
 oo:f.guard=false→f.oo.length=(p.cU.getD f.eR gu).fP.length
 up:f.guard=false→∀x∈f.oo,x<z.vs
 ops:f.guard=false→∀v∈f.ops,gG z v
 fn:f.guard=false→f.fn<z.fs∧z.fl.getD f.fn (0,[])=(f.eR,f.oo)
def pM.mono{Hs:Nat->List Int}{a b:Sz}{f:Fr}(h:pM p Hs a f cW)(l:a.le b):pM p Hs b f cW:=
 ⟨h.nQ,h.sH,h.eR,h.eA,h.Kg,h.da,λe x D=>dj (h.um e x D) l.1,h.oo,λe x D=>dj (h.up e x D) l.1,λe v E=>(h.ops e v E).mono l,λe=>⟨dj (h.fn e).1 l.fs,(Ej l.2.2.1 (h.fn e).1).trans (h.fn e).2⟩⟩
def j7(p:Pg)(Hs:Nat->List Int)(z:Sz)(l:List Fr)(cW:Int):Prop:=
 ∀i,i<l.length->pM p Hs z (l.getD i pG) (if i+1<l.length then(l.getD (i+1) pG).want else cW)
section
variable{z y:Sz}{l:List Fr}{f:Fr}
def j7.mono(h:j7 p Hs z l a)(q:z.le y):j7 p Hs y l a:=λi D=>(h i D).mono q
def j7.nil:j7 p Hs z [] a:=λi h=>absurd h (dT i)
def oH(l:List α)(n i:Nat)(d:α)(h:i<n):(l.take n).getD i d=l.getD i d:=by simp[cB,h]
def iL(l m:List α)(i:Nat)(d:α)(h:i<l.length):(l++m).getD i d=l.getD i d:=by simp[cB,fH h]
def gD(l:List α)(x d:α):(l++[x]).getD l.length d=x:=by simp[cB]
def ez(l:List α)(i:Nat)(x d:α)(h:i<l.length):(l.set i x).getD i d=x:=by simp[cB,h]
def dR(l:List α)(i j:Nat)(x d:α)(h:i≠j):(l.set i x).getD j d=l.getD j d:=by simp[cB,dm h]
def j7.db(h:j7 p Hs z l a)(D:0<l.length):pM p Hs z (l.getD (l.length-1) pG) a:=by have:=h (l.length-1) cM;rwa[cK cM]at this
def j7.fU(h:j7 p Hs z l a)(F:0<l.length):j7 p Hs z (l.take (l.length-1)) (l.getD (l.length-1) pG).want:=by
 intro i D;have E:(l.take (l.length-1)).length=l.length-1:=dC;rw[E]at D|-;have:=h i cM;rw[cR cM]at this;rw[oH l _ i pG D];by_cases e:i+1<l.length-1
 .rw[cR e,oH l _ (i+1) pG e];exact this
 .rw[cK e];have:i+1=l.length-1:=cM;rw[<-this];assumption
def j7.push(h:j7 p Hs z l f.want)(I:pM p Hs z f b):j7 p Hs z (l++[f]) b:=by
 intro i F;rw[dq]at F|-;simp only[dt,dG,dU]at F|-;by_cases e:i<l.length
 .rw[iL l _ i pG e,cR cM];have:=h i e;by_cases D:i+1<l.length
  .rw[iL l _ (i+1) pG D];rwa[cR D]at this
  .have E:i+1=l.length:=cM;rw[E,gD];rwa[cK D]at this
 .have E:i=l.length:=cM;subst E;rw[gD,cK cM];exact I
def j7.dN(h:j7 p Hs z l a)(J:0<l.length)(F:f.want=(l.getD (l.length-1) pG).want)(I:pM p Hs z f b):j7 p Hs z (l.set (l.length-1) f) b:=by
 intro i E;rw[df]at E|-;by_cases e:i=l.length-1
 .subst e;rw[ez _ _ _ _ cM,cK cM];exact I
 .rw[dR _ _ _ _ _ (λh=>e h.symm),cR cM];have:=h i E;rw[cR cM]at this;by_cases D:i+1=l.length-1
  .rw[D,ez _ _ _ _ cM,F,<-D];exact this
  .rw[dR _ _ _ _ _ (λh=>D h.symm)];exact this
end
def nr(c:Co):Prop:=c.state=1\/c.state=2
structure Iv(p:Pg)(Hs:Nat→List Int)(W:St)(cW:Int):Prop where
 cQ:W.cQ<W.cS.length
 run:(W.cS.getD W.cQ dE).state=1
 one:∀i,i<W.cS.length→(W.cS.getD i dE).state=1→i=W.cQ
 main:nr (W.cS.getD 0 dE)
 vw:∀i,i<W.cS.length→0≤(W.cS.getD i dE).state∧(W.cS.getD i dE).state≤3
 gq:∀i,i<W.cS.length→i≠0→nr (W.cS.getD i dE)→(W.cS.getD i dE).gq<W.cS.length∧(W.cS.getD (W.cS.getD i dE).gq dE).state=2
 inj:∀i j,i<W.cS.length→j<W.cS.length→i≠0→j≠0→nr (W.cS.getD i dE)→nr (W.cS.getD j dE)→(W.cS.getD i dE).gq=(W.cS.getD j dE).gq→i=j
 vars:∀v∈W.vars,gG W.sz v
 tables:∀t∈W.tables,∀e∈t,gG W.sz e.1∧gG W.sz e.2
 funcs:∀c∈W.funcs,c.1<p.cU.length∧c.2.length=(p.cU.getD c.1 gu).fP.length∧∀x∈c.2,x<W.vars.length
 pU:∀i,i<W.cS.length→0≤(W.cS.getD i dE).want∧(W.cS.getD i dE).want≤50
 held:∀i,i<W.cS.length→-1≤(W.cS.getD i dE).held∧(W.cS.getD i dE).held≤50
 fresh:∀i,i<W.cS.length→(W.cS.getD i dE).held<0→(W.cS.getD i dE).state=0∧(W.cS.getD i dE).cy=[]
 body:∀i,i<W.cS.length→gG W.sz (W.cS.getD i dE).body∧((W.cS.getD i dE).held<0→(W.cS.getD i dE).body.k=5∨(W.cS.getD i dE).body.k=6)
 Kz:∀i,i<W.cS.length→(W.cS.getD i dE).state=3→(W.cS.getD i dE).cy=[]
 uJ:∀i,i<W.cS.length→(W.cS.getD i dE).state=0→j7 p Hs W.sz (W.cS.getD i dE).cy (W.cS.getD i dE).held
 waits:∀i,i<W.cS.length→i≠0→nr (W.cS.getD i dE)→j7 p Hs W.sz (W.cS.getD (W.cS.getD i dE).gq dE).cy (W.cS.getD i dE).want
 Ce:j7 p Hs W.sz (W.cS.getD W.cQ dE).cy cW
 ins:∀x∈W.ins,x.length≤5000
section
variable{W:St}{l:List Fr}
def Iv.cy(h:Iv p Hs W cW)(hc:j7 p Hs W.sz l b):Iv p Hs (W.du l) b:=by
 have I:(W.du l).sz=W.sz:=by simp[St.du,St.dW,St.sz]
 have E:(W.du l).cS.length=W.cS.length:=by simp[St.du,St.dW]
 have O:(W.du l).cQ=W.cQ:=rfl;have h0:(W.du l).cS.getD W.cQ dE={W.co with cy:=l}:=ez _ _ _ _ h.cQ;have L:∀i,i≠W.cQ->(W.du l).cS.getD i dE=W.cS.getD i dE:=λi D=>dR _ _ _ _ _ (λe=>D e.symm);have g:∀i,((W.du l).cS.getD i dE).state=(W.cS.getD i dE).state/\((W.du l).cS.getD i dE).gq=(W.cS.getD i dE).gq/\((W.du l).cS.getD i dE).want=(W.cS.getD i dE).want/\((W.du l).cS.getD i dE).held=(W.cS.getD i dE).held/\((W.du l).cS.getD i dE).body=(W.cS.getD i dE).body:=by
  intro i;by_cases e:i=W.cQ
  .subst e;rw[h0];exact⟨rfl,rfl,rfl,rfl,rfl⟩
  .rw[L i e];exact⟨rfl,rfl,rfl,rfl,rfl⟩
 have J:∀i,nr ((W.du l).cS.getD i dE)↔nr (W.cS.getD i dE):=λi=>by unfold nr;rw[(g i).1]
 have M:∀i,(W.cS.getD i dE).state≠1->i≠W.cQ:=λi D e=>D (e▸h.run);refine⟨E▸h.cQ,by rw[O,(g _).1];exact h.run,λi D=>?_,(J 0).2 h.main,λi D=>?_,λi D F K=>?_,λi j D hj F K h4 h5 h6=>?_,?_,?_,?_,λi D=>?_,λi D=>?_,λi D F=>?_,λi D=>?_,λi D F=>?_,λi D F=>?_,λi D F K=>?_,?_,h.ins⟩
 .rw[(g i).1,O];exact h.one i (E▸D)
 .rw[(g i).1];exact h.vw i (E▸D)
 .rw[(g i).2.1,E,(g _).1];exact h.gq i (E▸D) F ((J i).1 K)
 .rw[(g i).2.1,(g j).2.1]at h6;exact h.inj i j (E▸D) (E▸hj) F K ((J i).1 h4) ((J j).1 h5) h6
 .rw[I];exact h.vars
 .rw[I];exact h.tables
 .exact h.funcs
 .rw[(g i).2.2.1];exact h.pU i (E▸D)
 .rw[(g i).2.2.2.1];exact h.held i (E▸D)
 .rw[(g i).2.2.2.1]at F;have:=h.fresh i (E▸D) F;rw[L i (M i cM)];exact this
 .rw[(g i).2.2.2.1,(g i).2.2.2.2,I];exact h.body i (E▸D)
 .rw[(g i).1]at F;rw[L i (M i cM)];exact h.Kz i (E▸D) F
 .rw[(g i).1]at F;rw[L i (M i cM),I];exact h.uJ i (E▸D) F
 .have hb:=h.gq i (E▸D) F ((J i).1 K);rw[(g i).2.1,(g i).2.2.1,L _ (M _ cM),I];exact h.waits i (E▸D) F ((J i).1 K)
 .rw[O,h0,I];exact hc
end
section
variable{W V:St}{l:List Fr}
def Iv.data(h:Iv p Hs W cW)(I:V.cS=W.cS)(J:V.cQ=W.cQ)(E:W.sz.le V.sz)(K:∀v∈V.vars,gG V.sz v)(L:∀t∈V.tables,∀e∈t,gG V.sz e.1/\gG V.sz e.2)(M:∀c∈V.funcs,c.1<p.cU.length/\c.2.length=(p.cU.getD c.1 gu).fP.length/\∀x∈c.2,x<V.vars.length)(D:∀x∈V.ins,x.length<=5000):Iv p Hs V cW:=by
 refine⟨?_,?_,?_,?_,?_,?_,?_,K,L,M,?_,?_,?_,λi D=>?_,?_,λi D F=>?_,λi D F O=>?_,?_,D⟩<;>(try rw[I]at*)<;>(try rw[J])
 .exact h.cQ
 .exact h.run
 .exact h.one
 .exact h.main
 .exact h.vw
 .exact h.gq
 .exact h.inj
 .exact h.pU
 .exact h.held
 .exact h.fresh
 .exact⟨(h.body i D).1.mono E,(h.body i D).2⟩
 .exact h.Kz
 .exact(h.uJ i D F).mono E
 .exact(h.waits i D F O).mono E
 .exact h.Ce.mono E
def Iv.Di(h:Iv p Hs W cW){v:Vl}(hv:gG W.sz v)(hk:v.k=5\/v.k=6):Iv p Hs {W with cS:=W.cS++[⟨[],0,v,0,0,-1⟩]} cW:=by
 have K:W.sz.le (St.sz {W with cS:=W.cS++[⟨[],0,v,0,0,-1⟩]}):=⟨cE _,cE _,gS _,by simp[St.sz]⟩
 have hl:(W.cS++[(⟨[],0,v,0,0,-1⟩:Co)]).length=W.cS.length+1:=dC;have J:(W.cS++[(⟨[],0,v,0,0,-1⟩:Co)]).getD W.cS.length dE=⟨[],0,v,0,0,-1⟩:=gD _ _ _;have F:∀i,i<W.cS.length->(W.cS++[(⟨[],0,v,0,0,-1⟩:Co)]).getD i dE=W.cS.getD i dE:=λi D=>iL _ _ _ _ D;have k0:=Wv (dM _) h.cQ;have E:∀i,i<W.cS.length+1->i=W.cS.length\/i<W.cS.length:=λi D=>cM;have O:∀i,i<W.cS.length+1->nr ((W.cS++[(⟨[],0,v,0,0,-1⟩:Co)]).getD i dE)->i<W.cS.length:=by
  intro i D M;obtain e|e:=E i D
  .subst e;rw[J]at M;obtain M|M:=M<;>simp at M
  .exact e
 refine⟨?_,?_,λi D=>?_,?_,λi D=>?_,λi D L I=>?_,λi j D hj L I h4 h5=>?_,λx M=>(h.vars x M).mono K,λt ht e he=>⟨(h.tables t ht e he).1.mono K,(h.tables t ht e he).2.mono K⟩,h.funcs,λi D=>?_,λi D=>?_,λi D=>?_,λi D=>?_,λi D=>?_,λi D=>?_,λi D L I=>?_,?_,h.ins⟩<;>simp only[hl]at*
 .have:=h.cQ;omega
 .rw[F _ h.cQ];exact h.run
 .obtain e|e:=E i D
  .subst e;rw[J];simp
  .rw[F i e];exact h.one i e
 .rw[F 0 k0];exact h.main
 .obtain e|e:=E i D
  .subst e;rw[J];simp
  .rw[F i e];exact h.vw i e
 .have e:=O i D I;rw[F i e]at I|-;have hb:=h.gq i e L I;rw[F _ hb.1];exact⟨cM,hb.2⟩
 .have e:=O i D h4;have e':=O j hj h5;rw[F i e]at h4|-;rw[F j e']at h5|-;exact h.inj i j e e' L I h4 h5
 .obtain e|e:=E i D
  .subst e;rw[J];simp
  .rw[F i e];exact h.pU i e
 .obtain e|e:=E i D
  .subst e;rw[J];simp
  .rw[F i e];exact h.held i e
 .obtain e|e:=E i D
  .subst e;rw[J];simp
  .rw[F i e];exact h.fresh i e
 .obtain e|e:=E i D
  .subst e;rw[J];exact⟨hv.mono K,λ_=>hk⟩
  .rw[F i e];exact⟨(h.body i e).1.mono K,(h.body i e).2⟩
 .obtain e|e:=E i D
  .subst e;rw[J];simp
  .rw[F i e];exact h.Kz i e
 .obtain e|e:=E i D
  .subst e;rw[J];exact λ_=>j7.nil
  .rw[F i e];exact λL=>(h.uJ i e L).mono K
 .have e:=O i D I;rw[F i e]at I|-;rw[F _ (h.gq i e L I).1];exact(h.waits i e L I).mono K
 .rw[F _ h.cQ];exact h.Ce.mono K
def Iv.left(h:Iv p Hs W cW)(h0:W.cQ≠0){s hd:Int}(hs:(s=3/\(W.cS.getD W.cQ dE).cy=[]/\hd=(W.cS.getD W.cQ dE).held)\/(s=0/\hd=cW/\0<=cW/\cW<=50))(hV:V.vars=W.vars/\V.tables=W.tables/\V.funcs=W.funcs)(F:V.ins=W.ins)(J:V.cS.length=W.cS.length)(hn:V.cQ=(W.cS.getD W.cQ dE).gq)(M:V.cS.getD W.cQ dE={W.cS.getD W.cQ dE with state:=s,held:=hd})(g1:V.cS.getD V.cQ dE={W.cS.getD V.cQ dE with state:=1})(L:∀i,i≠W.cQ->i≠V.cQ->V.cS.getD i dE=W.cS.getD i dE):Iv p Hs V (W.cS.getD W.cQ dE).want:=by
 have O:V.sz=W.sz:=by simp[St.sz,hV.1,hV.2.1,hV.2.2,J]
 have lw:nr (W.cS.getD W.cQ dE):=.inl h.run;have hb:=h.gq W.cQ h.cQ h0 lw;rw[<-hn]at hb;have nb:V.cQ≠W.cQ:=λe=>by have:=hb.2;rw[e,h.run]at this;omega
 have ae:s=3\/s=0:=cM;have af:0<=hd:=by
  obtain⟨_,_,e⟩|⟨_,e,e1,_⟩:=hs
  .rw[e];by_cases x:(W.cS.getD W.cQ dE).held<0
   .have:=(h.fresh W.cQ h.cQ x).1;rw[h.run]at this;omega
   .omega
  .omega
 have nl:∀i,nr (V.cS.getD i dE)->i≠W.cQ:=by intro i K e;subst e;rw[M]at K;obtain K|K:=K<;>simp at K<;>omega
 have lv:∀i,nr (V.cS.getD i dE)->nr (W.cS.getD i dE):=by
  intro i K;by_cases e:i=V.cQ
  .subst e;exact .inr hb.2
  .rwa[L i (nl i K) e]at K
 have D:∀i,i≠W.cQ->(V.cS.getD i dE).gq=(W.cS.getD i dE).gq/\(V.cS.getD i dE).want=(W.cS.getD i dE).want/\(V.cS.getD i dE).held=(W.cS.getD i dE).held/\(V.cS.getD i dE).body=(W.cS.getD i dE).body/\(V.cS.getD i dE).cy=(W.cS.getD i dE).cy:=by
  intro i K;by_cases e:i=V.cQ
  .subst e;rw[g1];exact⟨rfl,rfl,rfl,rfl,rfl⟩
  .rw[L i K e];exact⟨rfl,rfl,rfl,rfl,rfl⟩
 have ab:∀i,i<W.cS.length->i≠0->nr (W.cS.getD i dE)->i≠W.cQ->(W.cS.getD i dE).gq≠W.cQ/\(W.cS.getD i dE).gq≠V.cQ:=by intro i F ac K ad;have aa:=h.gq i F ac K;refine⟨λe=>?_,λe=>ad (h.inj i W.cQ F h.cQ ac h0 K lw (e.trans hn))⟩;have:=aa.2;rw[e,h.run]at this;omega
 refine⟨?_,?_,λi F E=>?_,?_,λi F=>?_,λi F E h3=>?_,λi j F hj E h3 h4 h5 h6=>?_,?_,?_,?_,λi F=>?_,λi F=>?_,λi F E=>?_,λi F=>?_,λi F E=>?_,λi F E=>?_,λi F E h3=>?_,?_,F▸h.ins⟩
 .rw[J];exact hb.1
 .rw[g1]
 .by_cases e:i=V.cQ
  .exact e
  .by_cases I:i=W.cQ
   .subst I;rw[M]at E;simp at E;omega
   .rw[L i I e]at E;exact absurd (h.one i (J▸F) E) I
 .by_cases e:0=V.cQ
  .rw[e,g1];exact .inl rfl
  .rw[L 0 (λx=>h0 x.symm) e];exact h.main
 .by_cases e:i=V.cQ
  .subst e;rw[g1];simp
  .by_cases I:i=W.cQ
   .subst I;rw[M];simp;omega
   .rw[L i I e];exact h.vw i (J▸F)
 .have ne:=nl i h3;have lo:=lv i h3;have aa:=h.gq i (J▸F) E lo;have t:=ab i (J▸F) E lo ne;rw[(D i ne).1,J,L _ t.1 t.2];exact aa
 .rw[(D i (nl i h4)).1,(D j (nl j h5)).1]at h6;exact h.inj i j (J▸F) (J▸hj) E h3 (lv i h4) (lv j h5) h6
 .rw[O,hV.1];exact h.vars
 .rw[O,hV.2.1];exact h.tables
 .rw[hV.1,hV.2.2];exact h.funcs
 .by_cases I:i=W.cQ
  .subst I;rw[M];exact h.pU _ h.cQ
  .rw[(D i I).2.1];exact h.pU i (J▸F)
 .by_cases I:i=W.cQ
  .subst I;rw[M];show -1<=hd/\hd<=50;obtain⟨_,_,e⟩|⟨_,e,e1,_⟩:=hs
   .rw[e];exact h.held _ h.cQ
   .omega
  .rw[(D i I).2.2.1];exact h.held i (J▸F)
 .by_cases I:i=W.cQ
  .subst I;rw[M]at E;have:hd<0:=E;omega
  .rw[(D i I).2.2.1]at E;have:=h.fresh i (J▸F) E;by_cases e:i=V.cQ
   .subst e;omega
   .rw[L i I e];exact this
 .by_cases I:i=W.cQ
  .subst I;rw[M,O];exact⟨(h.body _ h.cQ).1,λ(x:hd<0)=>cM⟩
  .rw[(D i I).2.2.1,(D i I).2.2.2.1,O];exact h.body i (J▸F)
 .by_cases I:i=W.cQ
  .subst I;rw[M]at E|-;have E:s=3:=E;obtain⟨_,e,_⟩|⟨e,_⟩:=hs
   .exact e
   .omega
  .by_cases e:i=V.cQ
   .subst e;rw[g1]at E;simp at E
   .rw[L i I e]at E|-;exact h.Kz i (J▸F) E
 .by_cases I:i=W.cQ
  .subst I;rw[M]at E|-;rw[O];have E:s=0:=E;obtain⟨e,_⟩|⟨_,e,_⟩:=hs
   .omega
   .show j7 p Hs W.sz (W.cS.getD W.cQ dE).cy hd;rw[e];exact h.Ce
  .by_cases e:i=V.cQ
   .subst e;rw[g1]at E;simp at E
   .rw[L i I e]at E|-;rw[O];exact h.uJ i (J▸F) E
 .have ne:=nl i h3;have lo:=lv i h3;have t:=ab i (J▸F) E lo ne;rw[(D i ne).1,(D i ne).2.1,L _ t.1 t.2,O];exact h.waits i (J▸F) E lo
 .rw[O,(D V.cQ nb).2.2.2.2,hn];exact h.waits W.cQ h.cQ h0 lw
def Iv.Pf(h:Iv p Hs W cW)(hp:0<=cW/\cW<=50){t:Nat}(ht:t<W.cS.length)(hs:(W.cS.getD t dE).state=0){hd:Int}(hq:((W.cS.getD t dE).held<0/\hd=0)\/(0<=(W.cS.getD t dE).held/\hd=(W.cS.getD t dE).held/\q=hd))(hV:V.vars=W.vars/\V.tables=W.tables/\V.funcs=W.funcs)(F:V.ins=W.ins)(J:V.cS.length=W.cS.length)(hn:V.cQ=t)(O:V.cS.getD W.cQ dE={W.cS.getD W.cQ dE with state:=2})(K:V.cS.getD t dE={W.cS.getD t dE with state:=1,gq:=W.cQ,want:=cW,held:=hd})(L:∀i,i≠W.cQ->i≠t->V.cS.getD i dE=W.cS.getD i dE):Iv p Hs V q:=by
 have hz:V.sz=W.sz:=by simp[St.sz,hV.1,hV.2.1,hV.2.2,J]
 have nt:t≠W.cQ:=λe=>by rw[e,h.run]at hs;omega
 have aa:¬nr (W.cS.getD t dE):=λx=>by obtain x|x:=x<;>omega
 have t0:t≠0:=λe=>aa (e▸h.main);have M:∀i,i<W.cS.length->i≠0->nr (W.cS.getD i dE)->(W.cS.getD i dE).gq≠W.cQ/\(W.cS.getD i dE).gq≠t:=by intro i F E h3;have:=(h.gq i F E h3).2;exact⟨λe=>by rw[e,h.run]at this;omega,λe=>by rw[e,hs]at this;omega⟩
 have lv:∀i,i≠t->nr (V.cS.getD i dE)->nr (W.cS.getD i dE):=by
  intro i F hx;by_cases e:i=W.cQ
  .subst e;exact .inl h.run
  .rwa[L i e F]at hx
 have D:∀i,i≠t->(V.cS.getD i dE).gq=(W.cS.getD i dE).gq/\(V.cS.getD i dE).want=(W.cS.getD i dE).want/\(V.cS.getD i dE).held=(W.cS.getD i dE).held/\(V.cS.getD i dE).body=(W.cS.getD i dE).body/\(V.cS.getD i dE).cy=(W.cS.getD i dE).cy:=by
  intro i hx;by_cases e:i=W.cQ
  .subst e;rw[O];exact⟨rfl,rfl,rfl,rfl,rfl⟩
  .rw[L i e hx];exact⟨rfl,rfl,rfl,rfl,rfl⟩
 have ab:0<=hd/\hd<=50:=by have:=h.held t ht;obtain⟨_,e⟩|⟨e1,e2,_⟩:=hq<;>omega
 refine⟨?_,?_,λi F E=>?_,?_,λi F=>?_,λi F E h3=>?_,λi j F hj E h3 h4 h5 h6=>?_,?_,?_,?_,λi F=>?_,λi F=>?_,λi F E=>?_,λi F=>?_,λi F E=>?_,λi F E=>?_,λi F E h3=>?_,?_,F▸h.ins⟩
 .rw[J,hn];exact ht
 .rw[hn,K]
 .rw[hn];by_cases e:i=t
  .exact e
  .by_cases I:i=W.cQ
   .subst I;rw[O]at E;simp at E
   .rw[L i I e]at E;exact absurd (h.one i (J▸F) E) I
 .by_cases e:0=W.cQ
  .rw[e,O];exact .inr rfl
  .rw[L 0 e (λx=>t0 x.symm)];exact h.main
 .by_cases e:i=t
  .subst e;rw[K];simp
  .by_cases I:i=W.cQ
   .subst I;rw[O];simp
   .rw[L i I e];exact h.vw i (J▸F)
 .by_cases e:i=t
  .subst e;rw[K,J];show W.cQ<W.cS.length/\(V.cS.getD W.cQ dE).state=2;rw[O];exact⟨h.cQ,rfl⟩
  .have lo:=lv i e h3;have hb:=h.gq i (J▸F) E lo;have n:=M i (J▸F) E lo;rw[(D i e).1,J,L _ n.1 n.2];exact hb
 .by_cases e:i=t
  .by_cases I:j=t
   .rw[e,I]
   .subst e;rw[(D j I).1,K]at h6;exact absurd (Eq.symm h6) (M j (J▸hj) h3 (lv j I h5)).1
  .by_cases I:j=t
   .subst I;rw[(D i e).1,K]at h6;exact absurd h6 (M i (J▸F) E (lv i e h4)).1
   .rw[(D i e).1,(D j I).1]at h6;exact h.inj i j (J▸F) (J▸hj) E h3 (lv i e h4) (lv j I h5) h6
 .rw[hz,hV.1];exact h.vars
 .rw[hz,hV.2.1];exact h.tables
 .rw[hV.1,hV.2.2];exact h.funcs
 .by_cases e:i=t
  .subst e;rw[K];exact hp
  .rw[(D i e).2.1];exact h.pU i (J▸F)
 .by_cases e:i=t
  .subst e;rw[K];show -1<=hd/\hd<=50;omega
  .rw[(D i e).2.2.1];exact h.held i (J▸F)
 .by_cases e:i=t
  .subst e;rw[K]at E;have:hd<0:=E;omega
  .rw[(D i e).2.2.1]at E;have f:=h.fresh i (J▸F) E;by_cases I:i=W.cQ
   .subst I;rw[h.run]at f;omega
   .rw[L i I e];exact f
 .by_cases e:i=t
  .subst e;rw[K,hz];exact⟨(h.body _ ht).1,λ(x:hd<0)=>cM⟩
  .rw[(D i e).2.2.1,(D i e).2.2.2.1,hz];exact h.body i (J▸F)
 .by_cases e:i=t
  .subst e;rw[K]at E;simp at E
  .by_cases I:i=W.cQ
   .subst I;rw[O]at E;simp at E
   .rw[L i I e]at E|-;exact h.Kz i (J▸F) E
 .by_cases e:i=t
  .subst e;rw[K]at E;simp at E
  .by_cases I:i=W.cQ
   .subst I;rw[O]at E;simp at E
   .rw[L i I e]at E|-;rw[hz];exact h.uJ i (J▸F) E
 .by_cases e:i=t
  .subst e;rw[K];show j7 p Hs V.sz (V.cS.getD W.cQ dE).cy cW;rw[hz,O];exact h.Ce
  .have lo:=lv i e h3;have n:=M i (J▸F) E lo;rw[(D i e).1,(D i e).2.1,L _ n.1 n.2,hz];exact h.waits i (J▸F) E lo
 .rw[hn,K,hz];show j7 p Hs W.sz (W.cS.getD t dE).cy q;obtain⟨e,_⟩|⟨e1,e2,e3⟩:=hq
  .rw[(h.fresh t ht e).2];exact j7.nil
  .rw[e3,e2];exact h.uJ t ht hs
def qY(h:Iv p Hs W cW)(D:W.cQ≠0)(s:Int):(W.fy s).vars=W.vars/\(W.fy s).tables=W.tables/\(W.fy s).funcs=W.funcs/\(W.fy s).cS.length=W.cS.length/\(W.fy s).cQ=W.co.gq /\
  (W.fy s).cS=(W.cS.set W.cQ {W.co with state:=s}).set W.co.gq {W.cS.getD W.co.gq dE with state:=1}:=by
 have E:=h.gq W.cQ h.cQ D (.inl h.run);have F:W.cQ≠W.co.gq:=λe=>by have:=E.2;unfold St.co at e;rw[<-e,h.run]at this;omega
 refine⟨rfl,rfl,rfl,by simp[St.fy,St.dW],rfl,?_⟩;show(W.cS.set W.cQ _).set W.co.gq _=_;congr 1;show {(W.cS.set W.cQ {W.co with state:=s}).getD W.co.gq dE with state:=1}=_;rw[dR _ _ _ _ _ F]
def Iv.sR(h:Iv p Hs W cW)(D:W.cQ≠0)(I:W.co.cy=[]):Iv p Hs (W.fy 3) W.co.want:=by
 have E:=h.gq W.cQ h.cQ D (.inl h.run);have J:W.cQ≠W.co.gq:=λe=>by have:=E.2;unfold St.co at e;rw[<-e,h.run]at this;omega
 have c:=qY h D 3;have K:W.cQ<(W.cS.set W.cQ {W.co with state:=3}).length:=by rw[df];exact h.cQ
 refine h.left (s:=3) (hd:=W.co.held) D (.inl ⟨rfl,I,rfl⟩) ⟨c.1,c.2.1,c.2.2.1⟩ rfl c.2.2.2.1 c.2.2.2.2.1 ?_ ?_ λi L F=>?_
 .rw[c.2.2.2.2.2,dR _ _ _ _ _ (λe=>J e.symm),ez _ _ _ _ h.cQ];rfl
 .rw[c.2.2.2.2.2,c.2.2.2.2.1,ez _ _ _ _ (by rw[df];exact E.1)]
 .rw[c.2.2.2.2.1]at F;rw[c.2.2.2.2.2,dR _ _ _ _ _ (λe=>F e.symm),dR _ _ _ _ _ (λe=>L e.symm)]
end
def mx(F:α->Nat)(d x:α):∀(l:List α)(i:Nat),i<l.length->((l.set i x).map F).sum+F (l.getD i d)=(l.map F).sum+F x
 |[],i,h=>absurd h (dT i)
 |a::l,0,_=>iY
 |a::l,i+1,h=>by have:=mx F d x l i (by simpa using h);simp at this|-;omega
def Lh(c:Co):Nat:=c.cy.length+if c.state=3 then 0 else 1
def oS(W:St):vH W=(W.cS.map Lh).sum+1:=rfl
section
variable{W V:St}{l:List Fr}
def sW(h:Iv p Hs W cW)(D:0<W.co.cy.length):vH W.fU+1=vH W:=by
 rw[oS,oS];have:=mx Lh dE {W.co with cy:=W.co.cy.take (W.co.cy.length-1)} W.cS W.cQ h.cQ;have e:(W.fU).cS=W.cS.set W.cQ {W.co with cy:=W.co.cy.take (W.co.cy.length-1)}:=rfl;rw[e];have E:Lh (W.cS.getD W.cQ dE)=W.co.cy.length+1:=by show W.co.cy.length+(if (W.cS.getD W.cQ dE).state=3 then 0 else 1)=_;rw[h.run];simp
 have F:Lh {W.co with cy:=W.co.cy.take (W.co.cy.length-1)}=W.co.cy.length-1+1:=by show(W.co.cy.take (W.co.cy.length-1)).length+(if (W.cS.getD W.cQ dE).state=3 then 0 else 1)=_;rw[h.run];simp
 omega
def qd(h:Iv p Hs W cW)(E:W.cQ≠0)(F:W.co.cy=[]):vH (W.fy 3)+1=vH W:=by
 rw[oS,oS];have D:=h.gq W.cQ h.cQ E (.inl h.run);have I:W.cQ≠W.co.gq:=λe=>by have:=D.2;unfold St.co at e;rw[<-e,h.run]at this;omega
 have K:=mx Lh dE {W.co with state:=3} W.cS W.cQ h.cQ;have J:=mx Lh dE {W.cS.getD W.co.gq dE with state:=1} (W.cS.set W.cQ {W.co with state:=3}) W.co.gq (by rw[df];exact D.1);rw[dR _ _ _ _ _ I]at J;rw[(qY h E 3).2.2.2.2.2];have L:Lh (W.cS.getD W.cQ dE)=1:=by show W.co.cy.length+(if (W.cS.getD W.cQ dE).state=3 then 0 else 1)=_;rw[h.run,F];simp
 have M:Lh {W.co with state:=3}=0:=by show W.co.cy.length+(if (3:Int)=3 then 0 else 1)=_;rw[F];simp
 have O:Lh (W.cS.getD W.co.gq dE)=(W.cS.getD W.co.gq dE).cy.length+1:=by have:(W.cS.getD W.co.gq dE).state=2:=D.2;unfold Lh;rw[this];simp
 have e4:Lh {W.cS.getD W.co.gq dE with state:=1}=(W.cS.getD W.co.gq dE).cy.length+1:=by unfold Lh;simp
 omega
def jS(h:Iv p Hs W cW)(D:0<W.co.cy.length):Iv p Hs W.fU W.db.want:=h.cy (j7.fU h.Ce D)
def xK(h:W.co.cy.length=0)(D:W.cQ=0)(l:List Vl)(q:Int):gv W l q={W with oz:=true,dw:=0}:=by unfold gv;rw[oS];unfold sA;rw[cR h,cR D]
def vE(h:Iv p Hs W cW)(D:W.co.cy.length=0)(E:W.cQ≠0)(l:List Vl)(q:Int):gv W l q=gv (W.fy 3) [bv true,first l] W.co.want:=by have F:=eJ.1 D;have:=qd h E F;unfold gv;rw[<-this];show(if W.co.cy.length=0 then _ else _)=_;rw[cR D,cK E]
def vG(h:Iv p Hs W cW)(D:W.co.cy.length≠0)(E:W.db.guard=true)(l:List Vl)(q:Int):gv W l q=gv W.fU [bv true,first l] W.db.want:=by have:=sW h cM;unfold gv;rw[<-this];show(if W.co.cy.length=0 then _ else _)=_;rw[cK D,cR E]
def Da(h:W.co.cy.length≠0)(D:W.db.guard=false)(l:List Vl)(q:Int):gv W l q=W.ee ((List.range q.toNat).map λi=>l.getD i v0):=by unfold gv;rw[oS];unfold sA;rw[cK h,cK (by rw[D];simp)]
end
structure mz(p:Pg)(Hs:Nat→List Int):Prop where
 jZ:j5 p
 PT:∀i,i<p.cU.length→zr (qq (p.cU.getD i gu).dw) (p.cU.getD i gu).dw.length (Hs i)
 Ua:∀i,i<p.dv.length→-9223372036854775808≤(p.dv.getD i mU).n∧(p.dv.getD i mU).n≤9223372036854775807
def mz.of(h:j5 p)(E:∀i,i<p.dv.length->-9223372036854775808<=(p.dv.getD i mU).n/\(p.dv.getD i mU).n<=9223372036854775807):∃Hs,mz p Hs:=by
 have:∀i,∃H:List Int,i<p.cU.length->zr (qq (p.cU.getD i gu).dw) (p.cU.getD i gu).dw.length H:=by
  intro i;by_cases D:i<p.cU.length
  .obtain⟨H,F⟩:=(h.2 i D).2;exact⟨H,λ_=>F⟩
  .exact⟨[],λx=>absurd x D⟩
 exact⟨λi=>(this i).choose,h,λi D=>(this i).choose_spec D,E⟩
section
variable{W V:St}{l:List Fr}{f:Fr}
def rW(h:W.cQ<W.cS.length)(l:List Fr):(W.du l).co={W.co with cy:=l}:=ez _ _ _ _ h
def jg(h:W.cQ<W.cS.length)(f:Fr):(W.dN f).co.cy.length=W.co.cy.length:=by unfold St.dN;rw[rW h];simp
def jf(h:W.cQ<W.cS.length)(D:0<W.co.cy.length)(f:Fr):(W.dN f).db=f:=by show(W.dN f).co.cy.getD ((W.dN f).co.cy.length-1) pG=f;rw[jg h];unfold St.dN;rw[rW h];exact ez _ _ _ _ cM
def jv(W:St)(l:List Fr):(W.du l).sz=W.sz:=by simp[St.du,St.dW,St.sz]
def pP(W:St)(f:Fr):(W.dN f).sz=W.sz:=jv _ _
def oV(W:St)(s:Int):(W.fy s).sz=W.sz:=by simp[St.fy,St.dW,St.sz]
def Iv.kI(h:Iv p Hs W cW)(D:0<W.co.cy.length):pM p Hs W.sz W.db cW:=j7.db h.Ce D
def Iv.set(h:Iv p Hs W cW)(D:0<W.co.cy.length)(E:f.want=W.db.want)(F:pM p Hs W.sz f b):Iv p Hs (W.dN f) b:=h.cy (j7.dN h.Ce D E F)
def Lw{z:Sz}{l:List Vl}(h:∀v∈l,gG z v)(n:Nat):∀v∈(List.range n).map (λi=>l.getD i v0),gG z v:=by intro v D;obtain⟨i,_,rfl⟩:=jj.1 D;exact iR h i
def Iv.ee(h:Iv p Hs W cW)(E:0<W.co.cy.length)(F:W.db.guard=false){xs:List Vl}(I:∀v∈xs,gG W.sz v)(J:(xs.length:Int)+b=cW):Iv p Hs (W.ee xs) b:=by
 have t:=h.kI E;refine h.set E rfl ⟨t.nQ,t.sH,t.eR,t.eA,λ_=>?_,t.da,t.um,t.oo,t.up,λ_ v D=>?_,t.fn⟩
 .rw[t.Kg F];show(W.db.ops.length:Int)+cW=((W.db.ops++xs).length:Int)+b;rw[dq];omega
 .obtain D|D:=gI.1 D
  .exact t.ops F v D
  .exact I v D
def zJ(p:Pg)(Hs:Nat->List Int)(W:St):Prop:=W.oz=true\/(Iv p Hs W 0/\0<W.co.cy.length/\W.db.guard=false)
def Ns:∀(n:Nat)(W:St)(cW:Int)(l:List Vl),vH W<=n->Iv p Hs W cW->0<=cW->(∀v∈l,gG W.sz v)->zJ p Hs (gv W l cW)
 |0,W,cW,l,J,h,M,I=>by rw[oS]at J;omega
 |n+1,W,cW,l,J,h,M,I=>by
  have K:∀v∈[bv true,first l],gG W.sz v:=by
   intro v E;simp only[eQ,eh,iw]at E;obtain e|e:=E
   .subst e;exact iX _ _
   .subst e;exact ir I
  by_cases e:W.co.cy.length=0
  .by_cases F:W.cQ=0
   .rw[xK e F];exact .inl rfl
   .have L:W.co.cy=[]:=eJ.1 e;have:=qd h F L;rw[vE h e F];exact Ns n _ _ _ cM (h.sR F L) (h.pU W.cQ h.cQ).1 (by rw[oV];exact K)
  .by_cases D:W.db.guard=true
   .have:=sW h cM;rw[vG h e D];exact Ns n _ _ _ cM (jS h cM) (h.kI cM).nQ (by unfold St.fU;rw[jv];exact K)
   .have D:W.db.guard=false:=by simpa using D
    rw[Da e D];refine .inr ⟨h.ee cM D (Lw I _) iY,?_,?_⟩
    .unfold St.ee;rw[jg h.cQ];omega
    .unfold St.ee;rw[jf h.cQ cM];exact D
def Iv.rj(h:Iv p Hs W cW)(D:0<=cW){l:List Vl}(E:∀v∈l,gG W.sz v):zJ p Hs (gv W l cW):=Ns _ W cW l (cE _) h D E
def AF{v:Vl}:∀(n:Nat)(W:St)(cW:Int),W.co.cy.length=n->Iv p Hs W cW->gG W.sz v->zJ p Hs (je v n W)
 |0,W,cW,J,h,E=>by
  have F:∀x∈[bv false,v],gG W.sz x:=by
   intro x D;simp only[eQ,eh,iw]at D;obtain e|e:=D
   .subst e;exact iX _ _
   .subst e;exact E
  unfold je;by_cases I:W.cQ=0
  .rw[cR I];exact .inl rfl
  .rw[cK I];exact(h.sR I (eJ.1 J)).rj (h.pU W.cQ h.cQ).1 (by rw[oV];exact F)
 |n+1,W,cW,J,h,E=>by
  have F:∀x∈[bv false,v],gG W.sz x:=by
   intro x D;simp only[eQ,eh,iw]at D;obtain e|e:=D
   .subst e;exact iX _ _
   .subst e;exact E
  have K:W.fU.sz=W.sz:=jv _ _;unfold je;by_cases L:W.db.guard=true
  .rw[cR L];exact(jS h cM).rj (h.kI cM).nQ (K▸F)
  .rw[cK L];refine AF n W.fU W.db.want ?_ (jS h cM) (K▸E);unfold St.fU;rw[rW h.cQ];simp;omega
def mX.ok(p:Pg)(Hs:Nat->List Int)(r:mX):Prop:=
 (r.2=none->zJ p Hs r.1)/\(∀v,r.2=some v->gG r.1.sz v/\∃q,Iv p Hs r.1 q)
def gN(h:zJ p Hs W):mX.ok p Hs (rn.ok W):=⟨λ_=>h,λv D=>by cases D⟩
def mN(h:Iv p Hs W cW)(hs:s.length<=5000):mX.ok p Hs (rn.mW W s):=
 ⟨λe=>(by cases e),λv D=>(by cases D;exact⟨jF _ hs,_,h⟩)⟩
def Iv.iq(h:Iv p Hs W cW)(n:Nat):Iv p Hs {W with iq:=n} cW:=h.data rfl rfl ⟨cE _,cE _,gS _,cE _⟩ h.vars h.tables h.funcs h.ins
def Iv.push(h:Iv p Hs W cW)(D:f.want=cW)(E:pM p Hs W.sz f b):Iv p Hs (W.push f) b:=
 (h.cy (j7.push (D▸h.Ce) E)).iq _
def Eg(h:W.cQ<W.cS.length)(f:Fr):0<(W.push f).co.cy.length/\(W.push f).db=f:=by have e:(W.push f).co={W.co with cy:=W.co.cy++[f]}:=rW h _;refine⟨by rw[e];simp,?_⟩;show(W.push f).co.cy.getD ((W.push f).co.cy.length-1) pG=f;rw[e];show(W.co.cy++[f]).getD ((W.co.cy++[f]).length-1) pG=f;rw[dq];exact gD _ _ _
def EU(E:mz p Hs)(h:Iv p Hs W cW)(hp:0<=cW/\cW<=50){fn:Nat}(L:fn<W.funcs.length){args:List Vl}(ha:∀v∈args,gG W.sz v):zJ p Hs (enter p W fn args cW):=by
 have D:=h.funcs _ (fA L);have ec:W.funcs.getD fn (0,[])=W.funcs[fn]:=by simp[cB,L]
 rw[<-ec]at D;have I:=E.jZ.1.2.2.1 _ D.1;have g:=E.PT _ D.1;unfold enter;generalize M:W.funcs.getD fn (0,[])=c at D I g;have J:W.sz.le (St.sz {W with vars:=W.vars++(List.range (p.cU.getD c.1 gu).da.toNat).map λi=>if i<(p.cU.getD c.1 gu).params.toNat then args.getD i v0 else v0}):=
  ⟨by simp[St.sz],cE _,gS _,cE _⟩
 have O:Iv p Hs {W with vars:=W.vars++(List.range (p.cU.getD c.1 gu).da.toNat).map λi=>if i<(p.cU.getD c.1 gu).params.toNat then args.getD i v0 else v0} cW:=by
  refine h.data rfl rfl J (λv F=>?_) (λt ht e he=>⟨(h.tables t ht e he).1.mono J,(h.tables t ht e he).2.mono J⟩) (λc D=>⟨(h.funcs c D).1,(h.funcs c D).2.1,λx K=>dj ((h.funcs c D).2.2 x K) dC⟩) h.ins;obtain F|F:=gI.1 F
  .exact(h.vars v F).mono J
  .obtain⟨i,_,rfl⟩:=jj.1 F;split
   .exact(iR ha i).mono J
   .exact xu _
 refine .inr ⟨O.push rfl ⟨hp.1,hp.2,λ_=>D.1,λ_=>I.2.2.2.2.1,λ_=>?_,λ_=>dC,λ_ x K=>?_,λ_=>D.2.1,λ_ x K=>?_,λ_ v F=>(by cases F),λ_=>⟨L,M⟩⟩,(Eg O.cQ _).1,?_⟩
 .rw[g.2.1];rfl
 .obtain⟨i,hi,rfl⟩:=jj.1 K;have:=tQ.1 hi;show W.vars.length+i<(W.vars++_).length;rw[dq,dY,oe];omega
 .have:=D.2.2 x K;simp[St.sz];omega
 .dsimp only;rw[(Eg O.cQ _).2]
end
def Qg{n:Int}(h:-9223372036854775808<=n)(D:n<=9223372036854775807):(UN n).length<=21:=by
 unfold UN;split
 .rw[dt,Lib.decDigits_length];have:=Lib.nDigits_le20 (-n).toNat cM;omega
 .rw[Lib.decDigits_length];have:=Lib.nDigits_le20 n.toNat cM;omega
def tC(k:Int):(nH k).length<=9:=by
 unfold nH;obtain h|h:=xj k.toNat 8
 .have:k.toNat=0\/k.toNat=1\/k.toNat=2\/k.toNat=3\/k.toNat=4\/k.toNat=5\/k.toNat=6\/k.toNat=7:=cM;obtain e|e|e|e|e|e|e|e:=this<;>rw[e]<;>decide
 .rw[cB,dO (by simpa using h)];simp
def uj(k:Int):(lQ k).length<=9:=by
 unfold lQ;obtain h|h:=xj k.toNat 4
 .have:k.toNat=0\/k.toNat=1\/k.toNat=2\/k.toNat=3:=cM;obtain e|e|e|e:=this<;>rw[e]<;>decide
 .rw[cB,dO (by simpa using h)];simp
def mM{z:Sz}{v:Vl}(h:gG z v):(jY v).length<=5000:=by
 unfold jY;by_cases F:v.k=1
 .rw[cR F];split<;>decide
 .rw[cK F];by_cases D:v.k=2
  .rw[cR D];have:=Qg (h.ij D).1 (h.ij D).2;omega
  .rw[cK D];by_cases E:v.k=3
   .rw[cR E];exact(h.oy E).2
   .rw[cK E];have:=tC v.k;omega
def pY{P:α->Prop}{a:α}(h:P a):∀v∈[a],P v:=λv D=>by simp only[eQ,eh,iw]at D;subst D;exact h
def yC{P:α->Prop}{a b:α}(h:P a)(g:P b):∀v∈[a,b],P v:=λv D=>by simp only[eQ,eh,iw]at D;obtain e|e:=D<;>subst e<;>assumption
section
variable{W V:St}{l:List Fr}{f:Fr}
def Iv.BA(h:Iv p Hs W cW)(I:0<=cW/\cW<=50)(J:W.cQ≠0):
  Iv p Hs ((W.dW W.cQ {W.co with held:=cW}).fy 0) W.co.want/\(W.dW W.cQ {W.co with held:=cW}).co.want=W.co.want/\((W.dW W.cQ {W.co with held:=cW}).fy 0).sz=W.sz:=by
 have K:=h.gq W.cQ h.cQ J (.inl h.run);have L:W.cQ≠W.co.gq:=λe=>by have:=K.2;unfold St.co at e;rw[<-e,h.run]at this;omega
 have E:(W.dW W.cQ {W.co with held:=cW}).co={W.co with held:=cW}:=ez _ _ _ _ h.cQ;have D:((W.dW W.cQ {W.co with held:=cW}).fy 0).cS=(W.cS.set W.cQ {W.co with held:=cW,state:=0}).set W.co.gq {W.cS.getD W.co.gq dE with state:=1}:=by unfold St.fy;rw[E];show((W.cS.set W.cQ {W.co with held:=cW}).set W.cQ {W.co with held:=cW,state:=0}).set W.co.gq {((W.cS.set W.cQ {W.co with held:=cW}).set W.cQ {W.co with held:=cW,state:=0}).getD W.co.gq dE with state:=1}=_;rw[nD,dR _ _ _ _ _ L]
 have F:((W.dW W.cQ {W.co with held:=cW}).fy 0).cQ=W.co.gq:=by show(W.dW W.cQ {W.co with held:=cW}).co.gq=_;rw[E]
 refine⟨?_,by rw[E],by rw[oV];simp[St.dW,St.sz]⟩;refine h.left (s:=0) (hd:=cW) J (.inr ⟨rfl,rfl,I.1,I.2⟩) ⟨rfl,rfl,rfl⟩ rfl (by rw[D];simp) F ?_ ?_ λi O M=>?_
 .rw[D,dR _ _ _ _ _ (λe=>L e.symm),ez _ _ _ _ h.cQ];rfl
 .rw[D,F,ez _ _ _ _ (by rw[df];exact K.1)]
 .rw[F]at M;rw[D,dR _ _ _ _ _ (λe=>M e.symm),dR _ _ _ _ _ (λe=>O e.symm)]
def ME(h:Iv p Hs W cW)(D:0<=cW/\cW<=50){args:List Vl}(ha:∀v∈args,gG W.sz v)(n:Int):mX.ok p Hs (plain W n args cW):=by
 have E:=ir ha;unfold plain;dsimp only;by_cases I:n=0
 .rw[cR I];split
  .exact mN h iM
  .refine gN (Iv.rj ?_ D.1 (by intro v E;cases E));exact h.data rfl rfl ⟨cE _,cE _,gS _,cE _⟩ h.vars h.tables h.funcs h.ins
 rw[cK I];by_cases J:n=1
 .rw[cR J];split
  .exact gN (h.rj D.1 (pY (xu _)))
  .rename_i x l e;have F:=h.ins;rw[e]at F;have h1:Iv p Hs {W with ins:=l} cW:=h.data rfl rfl ⟨cE _,cE _,gS _,cE _⟩ h.vars h.tables h.funcs λy hy=>F y (ig _ hy);refine gN (h1.rj D.1 (pY (jF _ ?_)));unfold gj;rw[dY];exact F x (fR)
 rw[cK J];by_cases K:n=2
 .rw[cR K];exact gN (h.rj D.1 (pY (jF _ (mM E))))
 rw[cK K];by_cases L:n=3
 .rw[cR L];exact gN (h.rj D.1 (pY (jF _ (by have:=tC (first args).k;omega))))
 rw[cK L];by_cases M:n=5
 .rw[cR M];exact⟨λe=>(by cases e),λv e=>(by cases e;exact⟨E,_,h⟩)⟩
 rw[cK M];by_cases O:n=6
 .rw[cR O];by_cases k:(first args).k=5\/(first args).k=6
  .rw[cR k];refine gN (Iv.rj (h.Di E k) D.1 (pY ?_));constructor<;>simp[St.sz]<;>omega
  .rw[cK k];exact mN h iM
 rw[cK O];by_cases n8:n=8
 .rw[cR n8];by_cases z:W.cQ=0
  .rw[cR z];exact mN h iM
  .rw[cK z];have y:=h.BA D z;rw[y.2.1];exact gN (y.1.rj (h.pU W.cQ h.cQ).1 (y.2.2▸yC (iX _ _) E))
 rw[cK n8];by_cases k:(first args).k=7
 .rw[cR k];exact gN (h.rj D.1 (pY (jF _ (by have:=uj (W.cS.getD (first args).n.toNat dE).state;omega))))
 .rw[cK k];exact mN h iM
def sL(h:W.cQ<W.cS.length)(l:List Fr):((W.du l).cS.map mC).sum=(W.cS.map mC).sum:=by have:=mx mC dE {W.co with cy:=l} W.cS W.cQ h;have e:mC {W.co with cy:=l}=mC (W.cS.getD W.cQ dE):=rfl;rw[e]at this;show((W.cS.set W.cQ {W.co with cy:=l}).map mC).sum=_;omega
def iV(W:St)(h:Nat)(want:Int):St:=
 {(W.dW W.cQ {W.co with state:=2}).dW h {W.cS.getD h dE with state:=1,gq:=W.cQ,want:=want,held:=if (W.cS.getD h dE).held<0 then 0 else(W.cS.getD h dE).held}with cQ:=h}
def qF(h:Iv p Hs W cW)(J:0<=cW/\cW<=50){t:Nat}(D:t<W.cS.length)(I:(W.cS.getD t dE).state=0)(K:¬(W.cS.getD t dE).held<0->q=(W.cS.getD t dE).held):Iv p Hs (iV W t cW) q:=by
 have L:t≠W.cQ:=λe=>by rw[e,h.run]at I;omega
 unfold iV;generalize E:({W.cS.getD t dE with state:=1,gq:=W.cQ,want:=cW,held:=if (W.cS.getD t dE).held<0 then 0 else(W.cS.getD t dE).held}:Co)=F;refine h.Pf (t:=t) (hd:=if (W.cS.getD t dE).held<0 then 0 else(W.cS.getD t dE).held) (q:=q) J D I ?_ ⟨rfl,rfl,rfl⟩ rfl (by simp[St.dW]) rfl ?_ ?_ λi M O=>?_
 .by_cases e:(W.cS.getD t dE).held<0
  .exact .inl ⟨e,cR e⟩
  .exact .inr ⟨cM,cK e,(K e).trans (cK e).symm⟩
 .show((W.cS.set W.cQ {W.co with state:=2}).set t F).getD W.cQ dE=_;rw[dR _ _ _ _ _ L,ez _ _ _ _ h.cQ];rfl
 .show((W.cS.set W.cQ {W.co with state:=2}).set t F).getD t dE=_;rw[ez _ _ _ _ (by rw[df];exact D),E]
 .show((W.cS.set W.cQ {W.co with state:=2}).set t F).getD i dE=_;rw[dR _ _ _ _ _ (λe=>O e.symm),dR _ _ _ _ _ (λe=>M e.symm)]
def qE(W:St)(t:Nat)(q:Int):(iV W t q).sz=W.sz:=by simp[iV,St.dW,St.sz]
def AP(h:Iv p Hs W cW){t:Nat}(D:t<W.cS.length)(I:(W.cS.getD t dE).state=0):((iV W t cW).cS.map mC).sum+1=(W.cS.map mC).sum:=by
 have J:t≠W.cQ:=λe=>by rw[e,h.run]at I;omega
 unfold iV;generalize E:({W.cS.getD t dE with state:=1,gq:=W.cQ,want:=cW,held:=if (W.cS.getD t dE).held<0 then 0 else(W.cS.getD t dE).held}:Co)=F;have L:=mx mC dE {W.co with state:=2} W.cS W.cQ h.cQ;have K:=mx mC dE F (W.cS.set W.cQ {W.co with state:=2}) t (by rw[df];exact D);rw[dR _ _ _ _ _ (λx=>J x.symm)]at K;have M:mC (W.cS.getD W.cQ dE)=0:=by unfold mC;rw[h.run];rfl
 have O:mC {W.co with state:=2}=0:=rfl;have e3:mC (W.cS.getD t dE)=1:=by unfold mC;rw[I];rfl
 have e4:mC F=0:=by subst E;rfl
 show(((W.cS.set W.cQ {W.co with state:=2}).set t F).map mC).sum+1=_;omega
def Dp(E:mz p Hs):∀(g:Nat)(W:St)(f:Vl)(args:List Vl)(cW:Int),3*(W.cS.map mC).sum+args.length+(if f.k=6 then 2 else 1)<=g->Iv p Hs W cW->0<=cW/\cW<=50->gG W.sz f->(∀v∈args,gG W.sz v)->mX.ok p Hs (call p g W f args cW)
 |0,W,f,args,cW,J,h,F,hf,I=>by split at J<;>omega
 |g+1,W,f,args,cW,J,h,F,hf,I=>by
  unfold call;by_cases k6:f.k=6
  .rw[cR k6]at J|-;by_cases n4:f.n=4
   .rw[cR n4];have M:pM p Hs W.sz ⟨true,cW,0,0,[],[],[],0⟩ 1:=⟨F.1,F.2,nb,nb,nb,nb,nb,nb,nb,nb,nb⟩
    have K:(W.push ⟨true,cW,0,0,[],[],[],0⟩).sz=W.sz:=by simp[St.push,St.du,St.dW,St.sz]
    have O:((W.push ⟨true,cW,0,0,[],[],[],0⟩).cS.map mC).sum=(W.cS.map mC).sum:=sL h.cQ _;refine Dp E g _ _ _ 1 ?_ (h.push rfl M) cM (K▸ir I) (K▸λv hv=>I v (fK hv));rw[O];cases args with
    |nil=>simp[first,v0]at J|-;omega
    |cons x l=>simp at J|-;split<;>omega
   .rw[cK n4];by_cases n7:f.n=7
    .rw[cR n7];dsimp only;have hv:=ir I;have hu:=iR I 1;by_cases k7:(first args).k=7
     .rw[cR k7];have ht:=hv.co k7;have D:(first args).n.toNat<W.cS.length:=by have:W.sz.cs=W.cS.length:=rfl;omega
      generalize(first args).n.toNat=t at D;by_cases L:(W.cS.getD t dE).state=0
      .rw[cR L];have K:=qE W t cW;by_cases e:(W.cS.getD t dE).held<0
       .rw[cR e];refine Dp E g (iV W t cW) _ _ 1 ?_ (qF h F D L λx=>absurd e x) cM (K▸(h.body t D).1) (K▸pY hu);have:=AP h D L;show 3*((iV W t cW).cS.map mC).sum+1+_<=g;split<;>omega
       .rw[cK e];exact gN ((qF h F D L λ_=>rfl).rj cM (K▸pY hu))
      .rw[cK L];exact gN (h.rj F.1 (yC (iX _ _) (jF _ iM)))
     .rw[cK k7];exact mN h iM
    .rw[cK n7];exact ME h F I f.n
  .rw[cK k6]at J|-;by_cases k5:f.k=5
   .rw[cR k5];have:=hf.fn k5;exact gN (EU E h F (by have e:W.sz.fs=W.funcs.length:=rfl;omega) I)
   .rw[cK k5];exact mN h iM
def Fo(E:mz p Hs)(h:Iv p Hs W cW)(D:0<=cW/\cW<=50){f:Vl}(F:gG W.sz f){args:List Vl}(I:∀v∈args,gG W.sz v):mX.ok p Hs (tX p W f args cW):=
 Dp E _ W f args cW (by unfold nX;split<;>omega) h D F I
end
def og(n:Int):-9223372036854775808<=wrap n/\wrap n<=9223372036854775807:=by unfold wrap;omega
def Fu{op z:Int}(h:mZ op a b=some z):-9223372036854775808<=z/\z<=9223372036854775807:=by
 unfold mZ at h;split at h
 .cases h;exact og _
 split at h
 .cases h;exact og _
 split at h
 .cases h;exact og _
 split at h
 .cases h
 split at h
 .cases h;exact og _
 .cases h;exact og _
def Sy{z:Sz}(op:Int)(x y:Vl):(∀v,pv op x y=.inl v->gG z v)/\(∀s,pv op x y=.inr s->s.length<=5000):=by
 unfold pv;split
 .exact⟨λv h=>by cases h;exact iX _ _,λs h=>by cases h⟩
 split
 .exact⟨λv h=>by cases h;exact iX _ _,λs h=>by cases h⟩
 split
 .split
  .dsimp only;split
   .exact⟨λv h=>(by cases h),λs h=>(by cases h;decide)⟩
   .rename_i D;exact⟨λv h=>(by cases h;exact jF _ cM),λs h=>(by cases h)⟩
  .exact⟨λv h=>(by cases h),λs h=>(by cases h;decide)⟩
 split
 .split
  .exact⟨λv h=>by cases h;exact iX _ _,λs h=>by cases h⟩
  split
  .exact⟨λv h=>by cases h;exact iX _ _,λs h=>by cases h⟩
  .exact⟨λv h=>(by cases h),λs h=>(by cases h;decide)⟩
 split
 .split
  .exact⟨λv h=>(by cases h),λs h=>(by cases h;decide)⟩
  .rename_i e;exact⟨λv h=>(by cases h;exact rF _ (Fu e).1 (Fu e).2),λs h=>(by cases h)⟩
 .exact⟨λv h=>(by cases h),λs h=>(by cases h;decide)⟩
def IZ{z:Sz}{k:Vl}:∀{l:List (Vl×Vl)},(∀e∈l,gG z e.1/\gG z e.2)->gG z (pI l k)
 |[],_=>xu z
 |e::l,h=>by
  unfold pI;split
  .exact(h e fR).2
  .exact IZ λx D=>h x (ig _ D)
def Mv{z:Sz}{k v:Vl}(F:gG z k)(E:gG z v):∀{l:List (Vl×Vl)},(∀e∈l,gG z e.1/\gG z e.2)->∀e∈put l k v,gG z e.1/\gG z e.2
 |[],_=>by intro e D;simp only[put,eQ,eh,iw]at D;subst D;exact⟨F,E⟩
 |a::l,h=>by
  intro e D;unfold put at D;split at D
  .obtain D|D:=eQ.1 D
   .subst D;exact⟨(h a fR).1,E⟩
   .exact h e (ig _ D)
  .obtain D|D:=eQ.1 D
   .subst D;exact h e fR
   .exact Mv F E (λx I=>h x (ig _ I)) e D
def mG{P:α->Prop}{l:List α}{d:α}(h:∀x∈l,P x)(D:i<l.length):P (l.getD i d):=by rw[cB,cG D];exact h _ (fA D)
def nW{P:α->Prop}{l:List α}{d:α}(h:∀x∈l,P x)(hd:P d):P (l.getD i d):=by
 by_cases D:i<l.length
 .exact mG h D
 .rw[cB,dO cM];exact hd
section
variable{W V:St}{l:List Fr}{f:Fr}
def oR(h:W.cQ<W.cS.length)(f g:Fr):(W.dN f).dN g=W.dN g:=by have e:(W.dN f).co={W.co with cy:=W.co.cy.set (W.co.cy.length-1) f}:=rW h _;show(W.dN f).du ((W.dN f).co.cy.set ((W.dN f).co.cy.length-1) g)=_;unfold St.du;rw[e];simp only[nD,df];show({W with cS:=(W.cS.set W.cQ _).set W.cQ _}:St)=_;rw[nD];rfl
def rL(h:W.cQ<W.cS.length)(f:Fr):(W.dN f).fU=W.fU:=by
 have e:(W.dN f).co={W.co with cy:=W.co.cy.set (W.co.cy.length-1) f}:=rW h _;show(W.dN f).du ((W.dN f).co.cy.take ((W.dN f).co.cy.length-1))=_;unfold St.du;rw[e];simp only[df];show({W with cS:=(W.cS.set W.cQ _).set W.cQ _}:St)=_;rw[nD];have:(W.co.cy.set (W.co.cy.length-1) f).take (W.co.cy.length-1)=W.co.cy.take (W.co.cy.length-1):=by rw[V4 (cE _)]
 rw[this];rfl
def Iv.rH(h:Iv p Hs W cW)(F:V.cS=W.cS)(K:V.cQ=W.cQ)(D:V.vars=W.vars)(I:V.tables=W.tables)(J:V.funcs=W.funcs)(L:V.ins=W.ins):Iv p Hs V cW:=by
 have E:V.sz=W.sz:=by simp[St.sz,F,D,I,J]
 refine h.data F K (E▸⟨cE _,cE _,gS _,cE _⟩) ?_ ?_ ?_ ?_
 .rw[E,D];exact h.vars
 .rw[E,I];exact h.tables
 .rw[J,D];exact h.funcs
 .rw[L];exact h.ins
def Iv.gi(h:Iv p Hs W cW)(D:0<W.co.cy.length){a:Nat}(E:a<(p.cU.getD W.db.eR gu).dw.length)(F:(Hs W.db.eR).getD a (-1)=(W.db.ops.length:Int)+b):Iv p Hs (W.gi a) b:=
 have t:=h.kI D
 h.set D rfl ⟨t.nQ,t.sH,t.eR,λ_=>E,λ_=>F,t.da,t.um,t.oo,t.up,t.ops,t.fn⟩
def Cj(h:Iv p Hs (W.dN f) 0)(D:W.cQ<W.cS.length)(E:0<W.co.cy.length)(F:f.guard=false):zJ p Hs (W.dN f):=
 .inr ⟨h,by rw[jg D];exact E,by rw[jf D E];exact F⟩
def Iv.IE(h:Iv p Hs W cW)(D:0<W.co.cy.length)(E:W.db.guard=false){a:Nat}(F:a<(p.cU.getD W.db.eR gu).dw.length)(I:(Hs W.db.eR).getD a (-1)=(W.db.ops.length:Int)):zJ p Hs (W.gi a):=
 Cj (f:={W.db with eA:=a}) (h.gi (b:=0) D F (by rw[I];omega)) h.cQ D E
def Iv.qD(h:Iv p Hs W 1)(D:0<W.co.cy.length)(E:W.db.guard=false){v:Vl}(F:gG W.sz v):zJ p Hs (W.ee [v]):=
 Cj (f:={W.db with ops:=W.db.ops++[v]}) (h.ee D E (pY F) dC) h.cQ D E
def Iv.QT(h:Iv p Hs W 0)(D:0<W.co.cy.length)(E:W.db.guard=false){v:Vl}(F:gG W.sz v){a:Nat}(I:a<(p.cU.getD W.db.eR gu).dw.length)(J:(Hs W.db.eR).getD a (-1)=(W.db.ops.length:Int)+1):zJ p Hs ((W.ee [v]).gi a):=by have K:Iv p Hs (W.ee [v]) (-1):=h.ee D E (pY F) dC;have e:(W.ee [v]).db={W.db with ops:=W.db.ops++[v]}:=jf h.cQ D _;refine K.IE (by unfold St.ee;rw[jg h.cQ];exact D) (e▸E) (e▸I) ?_;rw[e];show(Hs W.db.eR).getD a (-1)=((W.db.ops++[v]).length:Int);rw[J,dq];simp
def DW(h:Iv p Hs W cW){t k v:Vl}(E:gG W.sz k)(F:gG W.sz v):
  (∀U,W.store t k v=(U,none)->Iv p Hs U cW/\U.sz=W.sz/\U.co=W.co)/\(∀U x,W.store t k v=(U,some x)->U=W/\x=tv kM):=by
 unfold St.store;by_cases c:t.k=4/\k.k≠0
 .rw[cR c];refine⟨λU e=>?_,λU x e=>by cases e⟩;cases e;have D:St.sz {W with tables:=W.tables.set t.n.toNat (put (W.tables.getD t.n.toNat []) k v)}=W.sz:=by simp[St.sz]
  refine⟨h.data rfl rfl (D▸⟨cE _,cE _,gS _,cE _⟩) (D▸h.vars) (λx I=>?_) h.funcs h.ins,D,rfl⟩;rw[D];obtain e|e:=oN I
  .exact h.tables x e
  .subst e;refine Mv E F ?_;exact nW (P:=λq:List (Vl×Vl)=>∀e∈q,gG W.sz e.1/\gG W.sz e.2) h.tables (λe J=>by cases J)
 .rw[cK c];exact⟨λU e=>(by cases e),λU x e=>(by cases e;exact⟨rfl,rfl⟩)⟩
structure Xf(p:Pg)(q:Pr)(x:In):Prop where
 lo:0≤x.op
 hi:x.op≤27
 a:mY p q (sg x.op.toNat) x.a=true
 b:mY p q (uS x.op.toNat) x.b=true
 fP:x.op=10→∀c∈(p.cU.getD x.a.toNat gu).fP,me q c=true
def QC{q:Pr}(h:kj p q x=true):Xf p q x:=by unfold kj at h;simp only[fY,uL]at h;obtain⟨E,F,I,J,D⟩:=h;refine⟨E,F,I,J,λe c K=>?_⟩;rw[cR e]at D;exact oE.1 D c K
def jy{q:Pr}{u:Nat}{v:Int}(h:mY p q u v=true):0<=v/\pA u<=v/\v<chk.db p.dv.length p.cU.length q.da q.fP.length q.dw.length u:=by
 unfold mY kn at h;simp only[fY,uL]at h;have:0<=pA u:=by unfold pA;split<;>omega
 exact⟨cM,h.1,h.2⟩
def Jy(E:mz p Hs)(X:Xf p (p.cU.getD W.db.eR gu) x)(h:Iv p Hs W (lv x.op.toNat))(I:0<W.co.cy.length)(F:W.db.guard=false){i:List Vl}(hi:∀v∈i,gG W.sz v)(aj:x.op≠18)(ak:x.op≠22)(al:x.op≠23)(am:x.op≠24)(af:x.op=19->x.a.toNat<(p.cU.getD W.db.eR gu).dw.length/\(Hs W.db.eR).getD x.a.toNat (-1)=(W.db.ops.length:Int))(aa:x.op=20\/x.op=21->x.a.toNat<(p.cU.getD W.db.eR gu).dw.length/\(Hs W.db.eR).getD x.a.toNat (-1)=(W.db.ops.length:Int)+1)(ab:x.op=26\/x.op=27->x.b.toNat<(p.cU.getD W.db.eR gu).dw.length/\(Hs W.db.eR).getD x.b.toNat (-1)=(W.db.ops.length:Int)):
  mX.ok p Hs (ew p W x i):=by
 have t:=h.kI I;have L:=iR hi 0;have ac:=iR hi 1;have ad:=iR hi 2;have hX:=jy X.a;have hp:=t.eR F;have an:=E.jZ.1.2.2.1 _ hp;have var:∀k,gG W.sz (W.vars.getD k v0):=λk=>iR h.vars k;have D:∀{U:St},Iv p Hs U 0->U.co=W.co->zJ p Hs U:=λhU e=>.inr ⟨hU,e▸I,by unfold St.db;rw[e];exact F⟩;have O:∀k v,gG W.sz v->∀q,Iv p Hs W q->Iv p Hs {W with vars:=W.vars.set k v} q:=by
  intro k v hv q hq;have J:St.sz {W with vars:=W.vars.set k v}=W.sz:=by simp[St.sz]
  refine hq.data rfl rfl (J▸⟨cE _,cE _,gS _,cE _⟩) (λy hy=>?_) (J▸h.tables) (λc K=>⟨(h.funcs c K).1,(h.funcs c K).2.1,λy hy=>by rw[df];exact(h.funcs c K).2.2 y hy⟩) h.ins;rw[J];obtain e|e:=oN hy
  .exact h.vars y e
  .subst e;exact hv
 have ag:x.op.toNat=0\/x.op.toNat=1\/x.op.toNat=2\/x.op.toNat=3\/x.op.toNat=4\/x.op.toNat=5\/x.op.toNat=6\/x.op.toNat=7\/x.op.toNat=8\/x.op.toNat=9\/x.op.toNat=10\/x.op.toNat=11\/x.op.toNat=12\/x.op.toNat=13\/x.op.toNat=14\/x.op.toNat=15\/x.op.toNat=16\/x.op.toNat=17\/x.op.toNat=19\/x.op.toNat=20\/x.op.toNat=21\/x.op.toNat=25\/x.op.toNat=26\/x.op.toNat=27:=by have:=X.lo;have:=X.hi;omega
 unfold ew;dsimp only;obtain e|e|e|e|e|e|e|e|e|e|e|e|e|e|e|e|e|e|e|e|e|e|e|e:=ag<;>rw[e]at h hX|-
 .have h:=h;refine gN (h.qD I F ?_);have hk:x.a.toNat<p.dv.length:=by
   have:x.a<(p.dv.length:Int):=hX.2.2;omega
  have fk:=E.jZ.1.2.1 _ hk;unfold iU;split
  .exact jF _ (by unfold gj;rw[dY];exact fk.1)
  .exact rF _ (E.Ua _ hk).1 (E.Ua _ hk).2
 .have h:=h;exact gN (h.qD I F (xu _))
 .have h:=h;exact gN (h.qD I F (iX _ _))
 .have h:=h;exact gN (h.qD I F (iX _ _))
 .have h:=h;refine gN (h.qD I F ?_);have:x.a<10:=hX.2.2;constructor<;>simp<;>omega
 .have h:=h;exact gN (h.qD I F (var _))
 .have h:=h;exact gN (D (O _ _ L 0 h) rfl)
 .have h:=h;have J:W.sz.le (St.sz {W with vars:=W.vars++[i.getD 0 v0]}):=⟨by simp[St.sz],cE _,gS _,cE _⟩
  have h1:Iv p Hs {W with vars:=W.vars++[i.getD 0 v0]} 0:=by
   refine h.data rfl rfl J (λv hv=>?_) (λt M e he=>⟨(h.tables t M e he).1.mono J,(h.tables t M e he).2.mono J⟩) (λc K=>⟨(h.funcs c K).1,(h.funcs c K).2.1,λx hx=>dj ((h.funcs c K).2.2 x hx) dC⟩) h.ins;obtain hv|hv:=gI.1 hv
   .exact(h.vars v hv).mono J
   .exact pY (P:=gG _) (L.mono J) v hv
  have t1:=h1.kI I;refine gN (Cj (h1.set I rfl ⟨t1.nQ,t1.sH,t1.eR,t1.eA,t1.Kg,λg=>by show(W.db.da.set x.a.toNat W.vars.length).length=_;rw[df];exact t1.da g,λ_ y hy=>?_,t1.oo,t1.up,t1.ops,t1.fn⟩) h1.cQ I F);obtain e|e:=oN hy
  .exact t1.um F y e
  .subst e;simp[St.sz]
 .have h:=h;exact gN (h.qD I F (var _))
 .have h:=h;exact gN (D (O _ _ L 0 h) rfl)
 .have h:=h;have ah:x.op=10:=by have:=X.lo;omega
  have cap:=X.fP ah;have ha:x.a.toNat<p.cU.length:=by have:x.a<(p.cU.length:Int):=hX.2.2;omega
  have fa:=(E.jZ.1.2.2.1 _ ha).2.2.2.2.2;generalize ae:((p.cU.getD x.a.toNat gu).fP.map λ(c:Cp)=>if c.up then W.db.oo.getD c.index.toNat 0 else W.db.da.getD c.index.toNat 0)=cl;have J:W.sz.le (St.sz {W with funcs:=W.funcs++[(x.a.toNat,cl)]}):=⟨cE _,cE _,List.prefix_append _ _,cE _⟩
  have h1:Iv p Hs {W with funcs:=W.funcs++[(x.a.toNat,cl)]} 1:=by
   refine h.data rfl rfl J (λv hv=>(h.vars v hv).mono J) (λt M e he=>⟨(h.tables t M e he).1.mono J,(h.tables t M e he).2.mono J⟩) (λc K=>?_) h.ins;obtain K|K:=gI.1 K
   .exact h.funcs c K
   .refine pY (P:=λc:Nat×List Nat=>c.1<p.cU.length/\c.2.length=(p.cU.getD c.1 gu).fP.length/\∀x∈c.2,x<W.vars.length) ⟨ha,by rw[<-ae];simp,λy hy=>?_⟩ c K;rw[<-ae]at hy;obtain⟨c,K,rfl⟩:=jj.1 hy;have co:=cap c K;obtain⟨k,hk,ek⟩:=gM K;have fk:=fa k hk;have ai:(p.cU.getD x.a.toNat gu).fP.getD k lY=c:=by rw[cB,cG hk];exact ek
    rw[ai]at fk;unfold me at co;by_cases u:c.up=true
    .rw[cR u]at co|-;have co:=iC co;exact mG (P:=λx=>x<W.vars.length) (t.up F) (by rw[t.oo F];omega)
    .rw[cK u]at co|-;have co:=iC co;exact mG (P:=λx=>x<W.vars.length) (t.um F) (by rw[t.da F];omega)
  refine gN (h1.qD I F ?_);constructor<;>simp[St.sz,Sz.fs]<;>omega
 .have h:=h;have J:W.sz.le (St.sz {W with tables:=W.tables++[[]]}):=⟨cE _,by simp[St.sz],gS _,cE _⟩
  have h1:Iv p Hs {W with tables:=W.tables++[[]]} 1:=by
   refine h.data rfl rfl J (λv hv=>(h.vars v hv).mono J) (λt M e he=>?_) h.funcs h.ins;obtain M|M:=gI.1 M
   .exact⟨(h.tables t M e he).1.mono J,(h.tables t M e he).2.mono J⟩
   .simp only[eQ,eh,iw]at M;subst M;cases he
  refine gN (h1.qD I F ?_);constructor<;>simp[St.sz]<;>omega
 .have h:=h;show mX.ok p Hs (match W.store (i.getD 0 v0) (i.getD 1 v0) (i.getD 2 v0)with|(W,none)=>rn.ok (W.ee [(i.getD 0 v0)])|r=>r);have s:=DW h (t:=i.getD 0 v0) ac ad;generalize W.store (i.getD 0 v0) (i.getD 1 v0) (i.getD 2 v0)=r at s;obtain⟨U,_|w⟩:=r
  .have s:=s.1 U rfl;exact gN (s.1.qD (s.2.2▸I) (by unfold St.db;rw[s.2.2];exact F) (s.2.1▸L))
  .have s:=s.2 U w rfl;rw[s.1,s.2];exact mN h iM
 .have h:=h;show mX.ok p Hs (if (i.getD 0 v0).k=4 then rn.ok (W.ee [pI (W.tables.getD (i.getD 0 v0).n.toNat []) (i.getD 1 v0)])else mW W kM);split
  .exact gN (h.qD I F (IZ (nW (P:=λq:List (Vl×Vl)=>∀e∈q,gG W.sz e.1/\gG W.sz e.2) h.tables (λe he=>by cases he))))
  .exact mN h iM
 .have h:=h;show mX.ok p Hs (W.store (i.getD 0 v0) (i.getD 1 v0) (i.getD 2 v0));have s:=DW h (t:=i.getD 0 v0) ac ad;generalize W.store (i.getD 0 v0) (i.getD 1 v0) (i.getD 2 v0)=r at s;obtain⟨U,_|w⟩:=r
  .have s:=s.1 U rfl;exact gN (D s.1 s.2.2)
  .have s:=s.2 U w rfl;rw[s.1,s.2];exact mN h iM
 .have h:=h;show mX.ok p Hs (match pv x.a (i.getD 0 v0) (i.getD 1 v0)with|.inl v=>rn.ok (W.ee [v])|.inr s=>mW W s);have s:=Sy (z:=W.sz) x.a (i.getD 0 v0) (i.getD 1 v0);generalize pv x.a (i.getD 0 v0) (i.getD 1 v0)=r at s;obtain v|w:=r
  .exact gN (h.qD I F (s.1 v rfl))
  .exact mN h (s.2 w rfl)
 .have h:=h;exact gN (h.qD I F (iX _ _))
 .have h:=h;show mX.ok p Hs (if (i.getD 0 v0).k=2 then rn.ok (W.ee [nv (wrap (0-(i.getD 0 v0).n))])else mW W nz);split
  .exact gN (h.qD I F (rF _ (og _).1 (og _).2))
  .exact mN h iM
 .have h:=h;show mX.ok p Hs (rn.ok (if jr (i.getD 0 v0)then W else W.gi x.a.toNat));have j:=af (by have:=X.lo;omega);split
  .exact gN (D h rfl)
  .exact gN (h.IE I F j.1 j.2)
 .have h:=h;show mX.ok p Hs (rn.ok (if jr (i.getD 0 v0)then W else(W.ee [(i.getD 0 v0)]).gi x.a.toNat));have j:=aa (by have:=X.lo;omega);split
  .exact gN (D h rfl)
  .exact gN (h.QT I F L j.1 j.2)
 .have h:=h;show mX.ok p Hs (rn.ok (if jr (i.getD 0 v0)then(W.ee [(i.getD 0 v0)]).gi x.a.toNat else W));have j:=aa (by have:=X.lo;omega);split
  .exact gN (h.QT I F L j.1 j.2)
  .exact gN (D h rfl)
 .exact gN (D h rfl)
 .have h:=h;show mX.ok p Hs (if (W.vars.getD (W.db.da.getD x.a.toNat 0) v0).k=2/\(W.vars.getD (W.db.da.getD (x.a.toNat+1) 0) v0).k=2/\(W.vars.getD (W.db.da.getD (x.a.toNat+2) 0) v0).k=2/\(W.vars.getD (W.db.da.getD (x.a.toNat+2) 0) v0).n≠0 then rn.ok (if (0<(W.vars.getD (W.db.da.getD (x.a.toNat+2) 0) v0).n/\(W.vars.getD (W.db.da.getD (x.a.toNat+1) 0) v0).n<(W.vars.getD (W.db.da.getD x.a.toNat 0) v0).n)\/((W.vars.getD (W.db.da.getD (x.a.toNat+2) 0) v0).n<0/\(W.vars.getD (W.db.da.getD x.a.toNat 0) v0).n<(W.vars.getD (W.db.da.getD (x.a.toNat+1) 0) v0).n)then W.gi x.b.toNat else W)else mW W vN);have j:=ab (by have:=X.lo;omega);split
  .split
   .exact gN (h.IE I F j.1 j.2)
   .exact gN (D h rfl)
  .exact mN h iM
 .have h:=h;show mX.ok p Hs (if (W.vars.getD (W.db.da.getD x.a.toNat 0) v0).k=2/\(W.vars.getD (W.db.da.getD (x.a.toNat+2) 0) v0).k=2 then rn.ok (if (0<(W.vars.getD (W.db.da.getD (x.a.toNat+2) 0) v0).n/\(wrap ((W.vars.getD (W.db.da.getD x.a.toNat 0) v0).n+(W.vars.getD (W.db.da.getD (x.a.toNat+2) 0) v0).n))<(W.vars.getD (W.db.da.getD x.a.toNat 0) v0).n)\/((W.vars.getD (W.db.da.getD (x.a.toNat+2) 0) v0).n<0/\(W.vars.getD (W.db.da.getD x.a.toNat 0) v0).n<(wrap ((W.vars.getD (W.db.da.getD x.a.toNat 0) v0).n+(W.vars.getD (W.db.da.getD (x.a.toNat+2) 0) v0).n)))then W else {W with vars:=W.vars.set (W.db.da.getD x.a.toNat 0) (nv (wrap ((W.vars.getD (W.db.da.getD x.a.toNat 0) v0).n+(W.vars.getD (W.db.da.getD (x.a.toNat+2) 0) v0).n)))}.gi x.b.toNat)else mW W vN);have j:=ab (by have:=X.lo;omega);split
  .split
   .exact gN (D h rfl)
   .exact gN ((O _ _ (rF _ (og _).1 (og _).2) 0 h).IE I F j.1 j.2)
  .exact mN h iM
end
def Rn(k:Nat):0<=tk k:=by unfold tk;exact nW (P:=λz:Int=>0<=z) iM iM
def OO(h:0<=x.a):0<=jq x:=by unfold jq;have:=Rn x.op.toNat;split<;>omega
section
variable{W V:St}{l:List Fr}{f:Fr}
def Ha(h:W.cQ<W.cS.length)(D:0<W.co.cy.length)(n k:Nat):
  St.dZ {W.gi (W.db.eA+1)with dz:=k} n={W.dN {W.db with eA:=W.db.eA+1,ops:=W.db.ops.take (W.db.ops.length-n)}with dz:=k} /\
  St.taken {W.gi (W.db.eA+1)with dz:=k} n=W.db.ops.drop (W.db.ops.length-n):=by
 have e:(W.gi (W.db.eA+1)).db={W.db with eA:=W.db.eA+1}:=jf h D _;refine⟨?_,?_⟩
 .show({(W.gi (W.db.eA+1)).dN {(W.gi (W.db.eA+1)).db with ops:=(W.gi (W.db.eA+1)).db.ops.take ((W.gi (W.db.eA+1)).db.ops.length-n)}with dz:=k}:St)=_;rw[e];unfold St.gi;rw[oR h]
 .show(W.gi (W.db.eA+1)).db.ops.drop ((W.gi (W.db.eA+1)).db.ops.length-n)=_;rw[e]
structure At(p:Pg)(Hs:Nat→List Int)(W:St)(x:In):Prop where
 ok:Xf p (p.cU.getD W.db.eR gu) x
 JG:0≤jq x
 zd:jq x≤(W.db.ops.length:Int)
 next:x.op≠18→x.op≠23→x.op≠24→W.db.eA+1<(p.cU.getD W.db.eR gu).dw.length∧(Hs W.db.eR).getD (W.db.eA+1) (-1)=(W.db.ops.length:Int)-jq x+qK x
 gi:x.op=18∨x.op=19→x.a.toNat<(p.cU.getD W.db.eR gu).dw.length∧(Hs W.db.eR).getD x.a.toNat (-1)=(W.db.ops.length:Int)-jq x
 choose:x.op=20∨x.op=21→x.a.toNat<(p.cU.getD W.db.eR gu).dw.length∧(Hs W.db.eR).getD x.a.toNat (-1)=(W.db.ops.length:Int)-jq x+1
 loop:x.op=26∨x.op=27→x.b.toNat<(p.cU.getD W.db.eR gu).dw.length∧(Hs W.db.eR).getD x.b.toNat (-1)=(W.db.ops.length:Int)-jq x
def Iv.eA(E:mz p Hs)(h:Iv p Hs W 0)(M:0<W.co.cy.length)(I:W.db.guard=false):At p Hs W ((p.cU.getD W.db.eR gu).dw.getD W.db.eA jI):=by
 have t:=h.kI M;have K:=t.eR I;have L:=t.eA I;have J:=t.Kg I;rw[Int.add_zero]at J;have g:=E.PT _ K;have X:=QC ((E.jZ.2 _ K).1 _ L);obtain⟨es,F,D⟩:=g.2.2 _ L (by rw[J];omega);rw[J]at F;unfold qq at F;generalize(p.cU.getD W.db.eR gu).dw.getD W.db.eA jI=x at X F;have O:=(jy X.a).1;by_cases c:(W.db.ops.length:Int)-jq x<0\/300<(W.db.ops.length:Int)-jq x+qK x
 .rw[cR c]at F;cases F
 rw[cK c]at F;cases F;refine⟨X,OO O,cM,λa1 a2 a3=>?_,λa=>?_,λa=>?_,λa=>?_⟩
 .exact D (W.db.eA+1,(W.db.ops.length:Int)-jq x+qK x) (List.mem_append_left _ (by unfold zF;rw[cK cM];exact fR))
 .exact D (x.a.toNat,(W.db.ops.length:Int)-jq x) (xY _ (by unfold uR;rw[cR a];exact fR))
 .exact D (x.a.toNat,(W.db.ops.length:Int)-jq x+1) (xY _ (by unfold uR;rw[cK cM,cR a];exact fR))
 .exact D (x.b.toNat,(W.db.ops.length:Int)-jq x) (xY _ (by unfold uR;rw[cK cM,cK cM,cR a];exact fR))
def Uc(h:x.op≠22):qK x=lv x.op.toNat:=by unfold qK;rw[cK h]
def tF(E:mz p Hs)(h:Iv p Hs W 0)(F:0<W.co.cy.length)(hg:W.db.guard=false):mX.ok p Hs (pj p W):=by
 have A:=h.eA E F hg;have t:=h.kI F;unfold pj;dsimp only;generalize(p.cU.getD W.db.eR gu).dw.getD W.db.eA jI=x at A;have m:=Ha h.cQ F (jq x).toNat (W.dz+1);rw[m.1,m.2];have L:(W.db.ops.take (W.db.ops.length-(jq x).toNat)).length=W.db.ops.length-(jq x).toNat:=by rw[dX];omega
 have ab:((W.db.ops.length-(jq x).toNat:Nat):Int)=(W.db.ops.length:Int)-jq x:=by have:=A.JG;have:=A.zd;omega
 have hi:∀v∈W.db.ops.drop (W.db.ops.length-(jq x).toNat),gG W.sz v:=λv O=>t.ops hg v (fK O);have fr:∀(a:Nat)(q:Int),a<(p.cU.getD W.db.eR gu).dw.length->(Hs W.db.eR).getD a (-1)=(W.db.ops.length:Int)-jq x+q ->
   pM p Hs W.sz {W.db with eA:=a,ops:=W.db.ops.take (W.db.ops.length-(jq x).toNat)} q:=by
  intro a q h1 h2;refine⟨t.nQ,t.sH,t.eR,λ_=>h1,λ_=>?_,t.da,t.um,t.oo,t.up,λ_ v O=>t.ops hg v (ox O),t.fn⟩;rw[L,ab];exact h2
 have hz:St.sz {W.dN {W.db with eA:=W.db.eA+1,ops:=W.db.ops.take (W.db.ops.length-(jq x).toNat)}with dz:=W.dz+1}=W.sz:=pP W {W.db with eA:=W.db.eA+1,ops:=W.db.ops.take (W.db.ops.length-(jq x).toNat)};have M:St.fU {W.dN {W.db with eA:=W.db.eA+1,ops:=W.db.ops.take (W.db.ops.length-(jq x).toNat)}with dz:=W.dz+1}={W.fU with dz:=W.dz+1}:=by show({(W.dN {W.db with eA:=W.db.eA+1,ops:=W.db.ops.take (W.db.ops.length-(jq x).toNat)}).fU with dz:=W.dz+1}:St)=_;rw[rL h.cQ]
 have ac:Iv p Hs {W.fU with dz:=W.dz+1} W.db.want:=(jS h F).rH rfl rfl rfl rfl rfl rfl;have aa:St.sz {W.fU with dz:=W.dz+1}=W.sz:=jv W (W.co.cy.take (W.co.cy.length-1));have one:∀q:Int,x.op≠18->x.op≠23->x.op≠24->qK x=q->Iv p Hs {W.dN {W.db with eA:=W.db.eA+1,ops:=W.db.ops.take (W.db.ops.length-(jq x).toNat)}with dz:=W.dz+1} q:=by intro q a1 a2 a3 e;have n:=A.next a1 a2 a3;exact(h.set (f:={W.db with eA:=W.db.eA+1,ops:=W.db.ops.take (W.db.ops.length-(jq x).toNat)}) F rfl (fr _ q n.1 (by rw[n.2,e]))).rH rfl rfl rfl rfl rfl rfl
 by_cases D:x.op=22
 .rw[cR D];have hb:=jy A.ok.b;rw[D]at hb;have ad:x.b<51:=hb.2.2;refine Fo E (one x.b cM cM cM (by unfold qK;rw[cR D])) cM ?_ ?_
  .rw[hz];exact iR hi 0
  .rw[hz];exact λv O=>hi v (fK O)
 rw[cK D];by_cases I:x.op=23
 .rw[cR I,M];refine Fo E ac ⟨t.nQ,t.sH⟩ ?_ ?_
  .rw[aa];exact iR hi 0
  .rw[aa];exact λv O=>hi v (fK O)
 rw[cK I];by_cases J:x.op=24
 .rw[cR J,M];exact gN (ac.rj t.nQ (aa▸hi))
 rw[cK J];by_cases K:x.op=18
 .have e:ew p {W.dN {W.db with eA:=W.db.eA+1,ops:=W.db.ops.take (W.db.ops.length-(jq x).toNat)}with dz:=W.dz+1} x (W.db.ops.drop (W.db.ops.length-(jq x).toNat))=rn.ok {W.dN {W.db with eA:=x.a.toNat,ops:=W.db.ops.take (W.db.ops.length-(jq x).toNat)}with dz:=W.dz+1}:=by
   unfold ew;rw[K];show rn.ok ({(W.dN {W.db with eA:=W.db.eA+1,ops:=W.db.ops.take (W.db.ops.length-(jq x).toNat)}).dN {(W.dN {W.db with eA:=W.db.eA+1,ops:=W.db.ops.take (W.db.ops.length-(jq x).toNat)}).db with eA:=x.a.toNat}with dz:=W.dz+1}:St)=_;rw[jf h.cQ F,oR h.cQ]
  rw[e];have j:=A.gi (.inl K);have h1:Iv p Hs (W.dN {W.db with eA:=x.a.toNat,ops:=W.db.ops.take (W.db.ops.length-(jq x).toNat)}) 0:=h.set F rfl (fr _ 0 j.1 (by rw[j.2];omega));refine gN (.inr ⟨h1.rH rfl rfl rfl rfl rfl rfl,?_,?_⟩)
  .show 0<(W.dN {W.db with eA:=x.a.toNat,ops:=W.db.ops.take (W.db.ops.length-(jq x).toNat)}).co.cy.length;rw[jg h.cQ];exact F
  .show(W.dN {W.db with eA:=x.a.toNat,ops:=W.db.ops.take (W.db.ops.length-(jq x).toNat)}).db.guard=false;rw[jf h.cQ F];exact hg
 have et:St.db {W.dN {W.db with eA:=W.db.eA+1,ops:=W.db.ops.take (W.db.ops.length-(jq x).toNat)}with dz:=W.dz+1}={W.db with eA:=W.db.eA+1,ops:=W.db.ops.take (W.db.ops.length-(jq x).toNat)}:=jf h.cQ F _;have el:(St.co {W.dN {W.db with eA:=W.db.eA+1,ops:=W.db.ops.take (W.db.ops.length-(jq x).toNat)}with dz:=W.dz+1}).cy.length=W.co.cy.length:=jg h.cQ _;have h1:=one (lv x.op.toNat) K I J (Uc D);generalize({W.dN {W.db with eA:=W.db.eA+1,ops:=W.db.ops.take (W.db.ops.length-(jq x).toNat)}with dz:=W.dz+1}:St)=V at hz et el h1;have ep:V.db.eR=W.db.eR:=by rw[et]
 have eo:(V.db.ops.length:Int)=(W.db.ops.length:Int)-jq x:=by rw[et,<-ab,L]
 refine Jy E (ep▸A.ok) h1 (el▸F) (et▸hg) (hz▸hi) K D I J (λe=>?_) (λe=>?_) (λe=>?_)
 .rw[ep,eo];exact A.gi (.inr e)
 .rw[ep,eo];exact A.choose e
 .rw[ep,eo];exact A.loop e
def Ca(E:mz p Hs)(h:zJ p Hs W)(D:W.oz=false):zJ p Hs (gY p W):=by
 obtain h|⟨h,F,I⟩:=h
 .rw[D]at h;cases h
 have x:=tF E h F I;unfold gY;generalize pj p W=r at x;obtain⟨V,_|v⟩:=r
 .exact x.1 rfl
 .obtain⟨J,q,K⟩:=x.2 v rfl;exact AF _ V q rfl K J
def ym(E:mz p Hs){ins:List (List Int)}(h:∀x∈ins,x.length<=5000):zJ p Hs (start p ins):=by
 have J:Iv p Hs ⟨ins,[],[],[(0,[])],[⟨[],1,v0,0,0,0⟩],0,false,0,[],[],0,0,0⟩ 0:=by
  have one:∀i,i<1->i=0:=λi h=>cM;refine⟨dC,rfl,λi h _=>one i h,.inl rfl,λi h=>?_,λi h D=>absurd (one i h) D,λi j h M D=>absurd (one i h) D,λv F=>(by cases F),λt K=>(by cases K),λc I=>?_,λi h=>?_,λi h=>?_,λi h D=>?_,λi h=>?_,λi h D=>?_,λi h D=>?_,λi h D=>absurd (one i h) D,j7.nil,h⟩
  .rw[one i h];simp
  .simp only[eQ,eh,iw]at I;subst I;exact⟨E.jZ.1.1.1,E.jZ.1.2.2.2.2.2.symm,λx L=>by cases L⟩
  .rw[one i h];simp
  .rw[one i h];simp
  .rw[one i h]at D;simp at D
  .rw[one i h];exact⟨xu _,λD=>by simp at D⟩
  .rw[one i h]at D;simp at D
  .rw[one i h]at D;simp at D
 exact EU E J cM dC (λv F=>by cases F)
end
def ny(c:Co):Nat:=c.cy.length
def ft(W:St):Nat:=(W.cS.map ny).sum
structure Le(W V:St):Prop where
 vars:V.vars=W.vars
 tables:V.tables=W.tables
 funcs:V.funcs=W.funcs
 dn:V.dn=W.dn
 size:V.size=W.size
 dz:V.dz=W.dz
 iq:V.iq=W.iq
 cS:V.cS.length=W.cS.length
 cy:ft V≤ft W
def Le.refl(W:St):Le W W:=⟨rfl,rfl,rfl,rfl,rfl,rfl,rfl,rfl,cE _⟩
def Le.trans{A B C:St}(h:Le A B)(g:Le B C):Le A C:=
 ⟨g.vars.trans h.vars,g.tables.trans h.tables,g.funcs.trans h.funcs,g.dn.trans h.dn,g.size.trans h.size,g.dz.trans h.dz,g.iq.trans h.iq,g.cS.trans h.cS,cV g.cy h.cy⟩
section
variable{W V:St}{l:List Fr}{f:Fr}
def rS(h:W.cQ<W.cS.length)(l:List Fr):ft (W.du l)+W.co.cy.length=ft W+l.length:=by have:=mx ny dE {W.co with cy:=l} W.cS W.cQ h;exact this
def vj(h:W.cQ<W.cS.length)(D:l.length<=W.co.cy.length):Le W (W.du l):=
 ⟨rfl,rfl,rfl,rfl,rfl,rfl,rfl,by simp[St.du,St.dW],by have:=rS h l;omega⟩
def qL(h:W.cQ<W.cS.length):Le W W.fU:=vj h (by rw[dX];omega)
def mQ(h:W.cQ<W.cS.length)(f:Fr):Le W (W.dN f):=vj h (by rw[df];omega)
def vm(h:Iv p Hs W cW)(D:W.cQ≠0)(s:Int):Le W (W.fy s):=by
 have c:=qY h D s;have E:=h.gq W.cQ h.cQ D (.inl h.run);have F:W.cQ≠W.co.gq:=λe=>by have:=E.2;unfold St.co at e;rw[<-e,h.run]at this;omega
 refine⟨rfl,rfl,rfl,rfl,rfl,rfl,rfl,c.2.2.2.1,?_⟩;unfold ft;rw[c.2.2.2.2.2];have J:=mx ny dE {W.co with state:=s} W.cS W.cQ h.cQ;have I:=mx ny dE {W.cS.getD W.co.gq dE with state:=1} (W.cS.set W.cQ {W.co with state:=s}) W.co.gq (by rw[df];exact E.1);rw[dR _ _ _ _ _ F]at I;have K:ny {W.co with state:=s}=ny (W.cS.getD W.cQ dE):=rfl;have L:ny {W.cS.getD W.co.gq dE with state:=1}=ny (W.cS.getD W.co.gq dE):=rfl;omega
def Nt:∀(n:Nat)(W:St)(cW:Int)(l:List Vl)(q:Int),vH W<=n->Iv p Hs W cW->Le W (gv W l q)
 |0,W,cW,l,q,F,h=>by rw[oS]at F;omega
 |n+1,W,cW,l,q,F,h=>by
  by_cases e:W.co.cy.length=0
  .by_cases D:W.cQ=0
   .rw[xK e D];exact⟨rfl,rfl,rfl,rfl,rfl,rfl,rfl,rfl,cE _⟩
   .have I:=eJ.1 e;have:=qd h D I;rw[vE h e D];exact(vm h D 3).trans (Nt n _ _ _ _ cM (h.sR D I))
  .by_cases E:W.db.guard=true
   .have:=sW h cM;rw[vG h e E];exact(qL h.cQ).trans (Nt n _ _ _ _ cM (jS h cM))
   .have E:W.db.guard=false:=by simpa using E
    rw[Da e E];exact mQ h.cQ _
def Iv.Kj(h:Iv p Hs W cW)(l:List Vl)(q:Int):Le W (gv W l q):=Nt _ W cW l q (cE _) h
def we{v:Vl}:∀(n:Nat)(W:St)(cW:Int),W.co.cy.length=n->Iv p Hs W cW->Le W (je v n W)
 |0,W,cW,E,h=>by
  unfold je;by_cases D:W.cQ=0
  .rw[cR D];exact⟨rfl,rfl,rfl,rfl,rfl,rfl,rfl,rfl,cE _⟩
  .rw[cK D];exact(vm h D 3).trans ((h.sR D (eJ.1 E)).Kj _ _)
 |n+1,W,cW,E,h=>by
  unfold je;by_cases F:W.db.guard=true
  .rw[cR F];exact(qL h.cQ).trans ((jS h cM).Kj _ _)
  .rw[cK F];refine(qL h.cQ).trans (we n W.fU W.db.want ?_ (jS h cM));unfold St.fU;rw[rW h.cQ];simp;omega
structure Gr(n:Nat)(W V:St):Prop where
 vars:V.vars.length≤W.vars.length+200
 tables:V.tables.length≤W.tables.length+1
 funcs:V.funcs.length≤W.funcs.length+1
 cS:V.cS.length≤W.cS.length+1
 dn:V.dn.length≤W.dn.length+1
 size:V.size≤max W.size 100000
 dz:V.dz=W.dz
 cy:ft V≤ft W+n
 iq:V.iq≤max W.iq (ft W+n)
 eH:∀k,(∀t∈W.tables,t.length≤k)→∀t∈V.tables,t.length≤k+1
def Le.gr(h:Le W V)(n:Nat):Gr n W V:=
 ⟨by rw[h.vars];omega,by rw[h.tables];omega,by rw[h.funcs];omega,by rw[h.cS];omega,by rw[h.dn];omega,by rw[h.size];omega,h.dz,by have:=h.cy;omega,by rw[h.iq];omega,λk E t D=>by rw[h.tables]at D;have:=E t D;omega⟩
def Gr.le{U:St}(g:Gr n W V)(h:Le V U):Gr n W U:=
 ⟨h.vars▸g.vars,h.tables▸g.tables,h.funcs▸g.funcs,h.cS▸g.cS,h.dn▸g.dn,h.size▸g.size,h.dz▸g.dz,cV h.cy g.cy,h.iq▸g.iq,λk E t D=>by rw[h.tables]at D;exact g.eH k E t D⟩
def Gr.after{U:St}(D:U.vars=W.vars)(h:U.tables=W.tables)(E:U.funcs=W.funcs)(F:U.dn=W.dn)(I:U.size=W.size)(J:U.dz=W.dz)(M:U.iq<=max W.iq (ft W+m))(K:U.cS.length=W.cS.length)(O:ft U<=ft W+m)(g:Gr n U V):Gr (n+m) W V:=
 ⟨by rw[<-D];exact g.vars,by rw[<-h];exact g.tables,by rw[<-E];exact g.funcs,by rw[<-K];exact g.cS,by rw[<-F];exact g.dn,by rw[<-I];exact g.size,by rw[<-J];exact g.dz,by have:=g.cy;omega,by have:=g.iq;omega,λk L=>g.eH k (h▸L)⟩
def Gr.mono(g:Gr n W V)(h:n<=m):Gr m W V:=
 ⟨g.vars,g.tables,g.funcs,g.cS,g.dn,g.size,g.dz,by have:=g.cy;omega,by have:=g.iq;omega,g.eH⟩
def wV(h:W.cQ<W.cS.length):W.co.cy.length<=ft W:=by have:=rS h [];simp at this;omega
def xO(h:W.cQ<W.cS.length)(f:Fr):ft (W.push f)=ft W+1:=by have:=rS h (W.co.cy++[f]);rw[dq]at this;have e:ft (W.push f)=ft (W.du (W.co.cy++[f])):=rfl;rw[e];simp at this;omega
def NK(E:mz p Hs)(h:Iv p Hs W cW){fn:Nat}(I:fn<W.funcs.length)(args:List Vl):Gr 1 W (enter p W fn args cW):=by
 have F:=h.funcs _ (fA I);have J:W.funcs.getD fn (0,[])=W.funcs[fn]:=by simp[cB,I]
 rw[<-J]at F;have D:=E.jZ.1.2.2.1 _ F.1;unfold enter;generalize W.funcs.getD fn (0,[])=c at F D;dsimp only;have M:=wV h.cQ;refine⟨?_,fT W.tables.length 1,fT W.funcs.length 1,?_,fT W.dn.length 1,kQ W.size 100000,rfl,?_,?_,λk K t L=>by have:=K t L;omega⟩
 .show(W.vars++_).length<=_;rw[dq,dY,oe];have:=D.2.2.1;omega
 .show(W.cS.set _ _).length<=_;rw[df];omega
 .exact mi (xO (W:={W with vars:=_}) h.cQ _)
 .show max W.iq (W.co.cy.length+1)<=_;omega
def MH(h:Iv p Hs W cW)(hp:0<=cW/\cW<=50){args:List Vl}(ha:∀v∈args,gG W.sz v)(n:Int):Gr 0 W (plain W n args cW).1:=by
 have hv:=ir ha;unfold plain;dsimp only;by_cases F:n=0
 .rw[cR F];split
  .exact(Le.refl W).gr 0
  .rename_i hs;refine Gr.le (V:={W with size:=W.size+(mE (args.map jY)).length,dn:=W.dn++[mE (args.map jY)]}) ?_ (Iv.Kj (p:=p) (Hs:=Hs) (cW:=cW) ?_ _ _)
   .refine⟨Jq,Jq,Jq,Jq,dC,Jq,rfl,cE _,Jq,λk D t E=>by have:=D t E;omega⟩
   .exact h.rH rfl rfl rfl rfl rfl rfl
 rw[cK F];by_cases I:n=1
 .rw[cR I];split
  .exact(h.Kj _ _).gr 0
  .rename_i x l e;have J:=h.ins;rw[e]at J;have h1:Iv p Hs {W with ins:=l} cW:=h.data rfl rfl ⟨cE _,cE _,gS _,cE _⟩ h.vars h.tables h.funcs λy hy=>J y (ig _ hy);exact Le.gr (W:=W) (Le.trans (A:=W) (B:={W with ins:=l}) ⟨rfl,rfl,rfl,rfl,rfl,rfl,rfl,rfl,cE _⟩ (h1.Kj _ _)) 0
 rw[cK I];by_cases K:n=2
 .rw[cR K];exact(h.Kj _ _).gr 0
 rw[cK K];by_cases L:n=3
 .rw[cR L];exact(h.Kj _ _).gr 0
 rw[cK L];by_cases M:n=5
 .rw[cR M];exact(Le.refl W).gr 0
 rw[cK M];by_cases O:n=6
 .rw[cR O];by_cases k:(first args).k=5\/(first args).k=6
  .rw[cR k];refine Gr.le (V:={W with cS:=W.cS++[⟨[],0,first args,0,0,-1⟩]}) ?_ ((h.Di hv k).Kj _ _);refine⟨Jq,Jq,Jq,dC,Jq,Jq,rfl,?_,Jq,λk D t E=>by have:=D t E;omega⟩;unfold ft;simp[ny]
  .rw[cK k];exact(Le.refl W).gr 0
 rw[cK O];by_cases n8:n=8
 .rw[cR n8];by_cases z:W.cQ=0
  .rw[cR z];exact(Le.refl W).gr 0
  .rw[cK z];have y:=h.BA hp z;refine Le.gr (Le.trans (B:=(W.dW W.cQ {W.co with held:=cW}).fy 0) ?_ (y.1.Kj _ _)) 0;have hb:=h.gq W.cQ h.cQ z (.inl h.run);have nb:W.cQ≠W.co.gq:=λe=>by have:=hb.2;unfold St.co at e;rw[<-e,h.run]at this;omega
   have c1:(W.dW W.cQ {W.co with held:=cW}).co={W.co with held:=cW}:=ez _ _ _ _ h.cQ;have hc:((W.dW W.cQ {W.co with held:=cW}).fy 0).cS=(W.cS.set W.cQ {W.co with held:=cW,state:=0}).set W.co.gq {W.cS.getD W.co.gq dE with state:=1}:=by unfold St.fy;rw[c1];show((W.cS.set W.cQ {W.co with held:=cW}).set W.cQ {W.co with held:=cW,state:=0}).set W.co.gq {((W.cS.set W.cQ {W.co with held:=cW}).set W.cQ {W.co with held:=cW,state:=0}).getD W.co.gq dE with state:=1}=_;rw[nD,dR _ _ _ _ _ nb]
   refine⟨rfl,rfl,rfl,rfl,rfl,rfl,rfl,by rw[hc];simp,?_⟩;unfold ft;rw[hc];have s1:=mx ny dE {W.co with held:=cW,state:=0} W.cS W.cQ h.cQ;have s2:=mx ny dE {W.cS.getD W.co.gq dE with state:=1} (W.cS.set W.cQ {W.co with held:=cW,state:=0}) W.co.gq (by rw[df];exact hb.1);rw[dR _ _ _ _ _ nb]at s2;have e1:ny {W.co with held:=cW,state:=0}=ny (W.cS.getD W.cQ dE):=rfl;have e2:ny {W.cS.getD W.co.gq dE with state:=1}=ny (W.cS.getD W.co.gq dE):=rfl;omega
 rw[cK n8];by_cases k:(first args).k=7
 .rw[cR k];exact(h.Kj _ _).gr 0
 .rw[cK k];exact(Le.refl W).gr 0
def IG(h:Iv p Hs W cW){t:Nat}(D:t<W.cS.length)(I:(W.cS.getD t dE).state=0):ft (iV W t cW)=ft W:=by
 have J:t≠W.cQ:=λe=>by rw[e,h.run]at I;omega
 unfold iV;generalize E:({W.cS.getD t dE with state:=1,gq:=W.cQ,want:=cW,held:=if (W.cS.getD t dE).held<0 then 0 else(W.cS.getD t dE).held}:Co)=F;have L:=mx ny dE {W.co with state:=2} W.cS W.cQ h.cQ;have K:=mx ny dE F (W.cS.set W.cQ {W.co with state:=2}) t (by rw[df];exact D);rw[dR _ _ _ _ _ (λx=>J x.symm)]at K;have M:ny {W.co with state:=2}=ny (W.cS.getD W.cQ dE):=rfl;have O:ny F=ny (W.cS.getD t dE):=by subst E;rfl
 show(((W.cS.set W.cQ {W.co with state:=2}).set t F).map ny).sum=(W.cS.map ny).sum;omega
def xU(E:mz p Hs):∀(g:Nat)(W:St)(f:Vl)(args:List Vl)(cW:Int),Iv p Hs W cW->0<=cW/\cW<=50->gG W.sz f->(∀v∈args,gG W.sz v)->Gr g W (call p g W f args cW).1
 |0,W,f,args,cW,h,I,hf,J=>by unfold call;exact(Le.refl W).gr 0
 |g+1,W,f,args,cW,h,I,hf,J=>by
  unfold call;by_cases k6:f.k=6
  .rw[cR k6];by_cases n4:f.n=4
   .rw[cR n4];have M:pM p Hs W.sz ⟨true,cW,0,0,[],[],[],0⟩ 1:=⟨I.1,I.2,nb,nb,nb,nb,nb,nb,nb,nb,nb⟩
    have K:(W.push ⟨true,cW,0,0,[],[],[],0⟩).sz=W.sz:=by simp[St.push,St.du,St.dW,St.sz]
    have r:=xU E g (W.push ⟨true,cW,0,0,[],[],[],0⟩) (first args) (args.drop 1) 1 (h.push rfl M) cM (K▸ir J) (K▸λv O=>J v (fK O));have:=wV h.cQ;refine Gr.after (U:=W.push ⟨true,cW,0,0,[],[],[],0⟩) rfl rfl rfl rfl rfl rfl ?_ (by simp[St.push,St.du,St.dW]) (mi (xO h.cQ _)) r;show max W.iq (W.co.cy.length+1)<=_;omega
   .rw[cK n4];by_cases n7:f.n=7
    .rw[cR n7];dsimp only;have O:=ir J;have hu:=iR J 1;by_cases k7:(first args).k=7
     .rw[cR k7];have ht:=O.co k7;have F:(first args).n.toNat<W.cS.length:=by have:W.sz.cs=W.cS.length:=rfl;omega
      generalize(first args).n.toNat=t at F;by_cases L:(W.cS.getD t dE).state=0
      .rw[cR L];have K:=qE W t cW;have D:Le W (iV W t cW):=⟨rfl,rfl,rfl,rfl,rfl,rfl,rfl,by simp[iV,St.dW],mi (IG h F L)⟩
       by_cases e:(W.cS.getD t dE).held<0
       .rw[cR e];have r:=xU E g (iV W t cW) _ _ 1 (qF h I F L λx=>absurd e x) cM (K▸(h.body t F).1) (K▸pY hu);exact(Gr.after (m:=0) D.vars D.tables D.funcs D.dn D.size D.dz (by rw[D.iq];omega) D.cS D.cy r).mono cM
       .rw[cK e];exact(D.trans ((qF h I F L λ_=>rfl).Kj _ _)).gr _
      .rw[cK L];exact(h.Kj _ _).gr _
     .rw[cK k7];exact(Le.refl W).gr _
    .rw[cK n7];exact(MH h I J f.n).mono cM
  .rw[cK k6];by_cases k5:f.k=5
   .rw[cR k5];have:=hf.fn k5;exact(NK E h (by have e:W.sz.fs=W.funcs.length:=rfl;omega) args).mono cM
   .rw[cK k5];exact(Le.refl W).gr _
def II(k v:Vl):∀l:List (Vl×Vl),(put l k v).length<=l.length+1
 |[]=>by simp[put]
 |e::l=>by
  unfold put;split
  .simp
  .have:=II k v l;simp;omega
def DY(t k v:Vl):Gr 0 W (W.store t k v).1:=by
 unfold St.store;split
 .refine⟨fT W.vars.length 200,by show(W.tables.set _ _).length<=_;rw[df];omega,fT W.funcs.length 1,fT W.cS.length 1,fT W.dn.length 1,kQ W.size 100000,rfl,cE (ft W),kQ W.iq (ft W),λh D E F=>?_⟩;obtain e|e:=oN F
  .have:=D E e;omega
  .subst e;have I:=II k v (W.tables.getD t.n.toNat []);have J:(W.tables.getD t.n.toNat []).length<=h:=nW (P:=λq:List (Vl×Vl)=>q.length<=h) D dC;omega
 .exact(Le.refl W).gr 0
def xE(l:List Co):(l.map mC).sum<=l.length:=by
 induction l with
 |nil=>simp
 |cons c l h=>
  have:mC c<=1:=by unfold mC;split<;>omega
  simp;omega
def xL{xs:List Vl}(h:xs.length<=W.vars.length+200):Gr 0 W {W with vars:=xs} :=
 ⟨h,fT W.tables.length 1,fT W.funcs.length 1,fT W.cS.length 1,fT W.dn.length 1,kQ W.size 100000,rfl,cE (ft W),kQ W.iq (ft W),λk D t E=>by have:=D t E;omega⟩
def Nv{xs:List (Nat×List Nat)}(h:xs.length<=W.funcs.length+1):Gr 0 W {W with funcs:=xs} :=
 ⟨fT W.vars.length 200,fT W.tables.length 1,h,fT W.cS.length 1,fT W.dn.length 1,kQ W.size 100000,rfl,cE (ft W),kQ W.iq (ft W),λk D t E=>by have:=D t E;omega⟩
def Ki:Gr 0 W {W with tables:=W.tables++[[]]} :=
 ⟨fT W.vars.length 200,dC,fT W.funcs.length 1,fT W.cS.length 1,fT W.dn.length 1,kQ W.size 100000,rfl,cE (ft W),kQ W.iq (ft W),λk h t D=>by
  obtain e|e:=gI.1 D
  .have:=h t e;omega
  .simp only[eQ,eh,iw]at e;subst e;simp⟩
def lS(h:W.cQ<W.cS.length)(xs:List Vl):Le W (W.ee xs):=mQ h _
def vr(h:W.cQ<W.cS.length)(a:Nat):Le W (W.gi a):=mQ h _
def pX(h:W.cQ<W.cS.length)(f:Fr):(W.dN f).cQ<(W.dN f).cS.length:=by show W.cQ<(W.cS.set _ _).length;rw[df];exact h
def I5(h:W.cQ<W.cS.length)(xs:List Vl)(a:Nat):Le W ((W.ee xs).gi a):=(lS h xs).trans (vr (pX h _) a)
def Jz(h:W.cQ<W.cS.length)(x:In)(i:List Vl):Gr 0 W (ew p W x i).1:=by
 unfold ew;dsimp only;split
 .exact(lS h _).gr 0
 .exact(lS h _).gr 0
 .exact(lS h _).gr 0
 .exact(lS h _).gr 0
 .exact(lS h _).gr 0
 .exact(lS h _).gr 0
 .exact xL (by rw[df];omega)
 .exact Gr.le (V:={W with vars:=W.vars++[i.getD 0 v0]}) (xL (by rw[dq];simp)) (mQ (W:={W with vars:=W.vars++[i.getD 0 v0]}) h _)
 .exact(lS h _).gr 0
 .exact xL (by rw[df];omega)
 .generalize((p.cU.getD x.a.toNat gu).fP.map λ(c:Cp)=>if c.up then W.db.oo.getD c.index.toNat 0 else W.db.da.getD c.index.toNat 0)=D;exact Gr.le (V:={W with funcs:=W.funcs++[(x.a.toNat,D)]}) (Nv (by rw[dq];simp)) (lS (W:={W with funcs:=W.funcs++[(x.a.toNat,D)]}) h _)
 .exact Gr.le (V:={W with tables:=W.tables++[[]]}) Ki (lS (W:={W with tables:=W.tables++[[]]}) h _)
 .have s:=DY (W:=W) (i.getD 0 v0) (i.getD 1 v0) (i.getD 2 v0);have E:(W.store (i.getD 0 v0) (i.getD 1 v0) (i.getD 2 v0)).1.cQ<(W.store (i.getD 0 v0) (i.getD 1 v0) (i.getD 2 v0)).1.cS.length:=by
   unfold St.store;split<;>exact h
  generalize W.store (i.getD 0 v0) (i.getD 1 v0) (i.getD 2 v0)=r at s E;obtain⟨U,_|w⟩:=r
  .exact s.le (lS E _)
  .exact s
 .split
  .exact(lS h _).gr 0
  .exact(Le.refl W).gr 0
 .exact DY _ _ _
 .split
  .exact(lS h _).gr 0
  .exact(Le.refl W).gr 0
 .exact(lS h _).gr 0
 .split
  .exact(lS h _).gr 0
  .exact(Le.refl W).gr 0
 .exact(vr h _).gr 0
 .show Gr 0 W (if _ then _ else _);split
  .exact(Le.refl W).gr 0
  .exact(vr h _).gr 0
 .show Gr 0 W (if _ then _ else _);split
  .exact(Le.refl W).gr 0
  .exact(I5 h _ _).gr 0
 .show Gr 0 W (if _ then _ else _);split
  .exact(I5 h _ _).gr 0
  .exact(Le.refl W).gr 0
 .split
  .show Gr 0 W (if _ then _ else _);split
   .exact(vr h _).gr 0
   .exact(Le.refl W).gr 0
  .exact(Le.refl W).gr 0
 .split
  .show Gr 0 W (if _ then _ else _);split
   .exact(Le.refl W).gr 0
   .exact Gr.le (V:={W with vars:=W.vars.set (W.db.da.getD x.a.toNat 0) (nv (wrap ((W.vars.getD (W.db.da.getD x.a.toNat 0) v0).n+(W.vars.getD (W.db.da.getD (x.a.toNat+2) 0) v0).n)))}) (xL (by rw[df];omega)) (vr (W:={W with vars:=W.vars.set (W.db.da.getD x.a.toNat 0) (nv (wrap ((W.vars.getD (W.db.da.getD x.a.toNat 0) v0).n+(W.vars.getD (W.db.da.getD (x.a.toNat+2) 0) v0).n)))}) h _)
  .exact(Le.refl W).gr 0
 .exact(Le.refl W).gr 0
def Dd(E:mz p Hs)(h:Iv p Hs W 0)(L:0<W.co.cy.length)(hg:W.db.guard=false):Gr (3*W.cS.length+52) {W with dz:=W.dz+1} (pj p W).1:=by
 have A:=h.eA E L hg;have t:=h.kI L;unfold pj;dsimp only;generalize(p.cU.getD W.db.eR gu).dw.getD W.db.eA jI=x at A;have m:=Ha h.cQ L (jq x).toNat (W.dz+1);rw[m.1,m.2];have hi:∀v∈W.db.ops.drop (W.db.ops.length-(jq x).toNat),gG W.sz v:=λv K=>t.ops hg v (fK K);have M:(W.db.ops.drop (W.db.ops.length-(jq x).toNat)).length=(jq x).toNat:=by have:=A.JG;have:=A.zd;rw[eZ];omega
 generalize hf:({W.db with eA:=W.db.eA+1,ops:=W.db.ops.take (W.db.ops.length-(jq x).toNat)}:Fr)=F;have hz:St.sz {W.dN F with dz:=W.dz+1}=W.sz:=pP W F;have l1:Le {W with dz:=W.dz+1} {W.dN F with dz:=W.dz+1}:=mQ (W:={W with dz:=W.dz+1}) h.cQ F;have l2:Le {W with dz:=W.dz+1} {W.fU with dz:=W.dz+1}:=qL (W:={W with dz:=W.dz+1}) h.cQ;have J:St.fU {W.dN F with dz:=W.dz+1}={W.fU with dz:=W.dz+1}:=by show({(W.dN F).fU with dz:=W.dz+1}:St)=_;rw[rL h.cQ]
 have O:Iv p Hs {W.fU with dz:=W.dz+1} W.db.want:=(jS h L).rH rfl rfl rfl rfl rfl rfl;have aa:St.sz {W.fU with dz:=W.dz+1}=W.sz:=jv W (W.co.cy.take (W.co.cy.length-1));have up:∀{U X:St}{n:Nat},Le {W with dz:=W.dz+1} U->Gr n U X->n<=3*W.cS.length+52->Gr (3*W.cS.length+52) {W with dz:=W.dz+1} X:=by intro U X n q r hn;exact(Gr.after (m:=0) q.vars q.tables q.funcs q.dn q.size q.dz (by rw[q.iq];omega) q.cS q.cy r).mono cM
 have fu:∀(U:St)(xs:List Vl),U.cS.length=W.cS.length->xs.length<=50->nX U xs<=3*W.cS.length+52:=by intro U xs e1 e2;have:=xE U.cS;unfold nX;omega
 have ka:=jy A.ok.a;by_cases D:x.op=22
 .rw[cR D];have hb:=jy A.ok.b;rw[D]at hb ka;have ah:x.b<51:=hb.2.2;have ad:x.a<51:=ka.2.2;have af:jq x=1+x.a:=by unfold jq;rw[cR (.inl D),D];rfl
  have n:=A.next cM cM cM;have ab:qK x=x.b:=by unfold qK;rw[cR D]
  have ae:((W.db.ops.length-(jq x).toNat:Nat):Int)=(W.db.ops.length:Int)-jq x:=by have:=A.JG;have:=A.zd;omega
  have fo:pM p Hs W.sz F x.b:=by subst hf;refine⟨t.nQ,t.sH,t.eR,λ_=>n.1,λ_=>?_,t.da,t.um,t.oo,t.up,λ_ v K=>t.ops hg v (ox K),t.fn⟩;show _=((W.db.ops.take (W.db.ops.length-(jq x).toNat)).length:Int)+x.b;rw[dX,sw (Wu _ _),ae,n.2,ab]
  have h1:Iv p Hs {W.dN F with dz:=W.dz+1} x.b:=(h.set (f:=F) L (by subst hf;rfl) fo).rH rfl rfl rfl rfl rfl rfl;refine up l1 (xU E _ _ _ _ x.b h1 cM ?_ ?_) (fu _ _ l1.cS ?_)
  .rw[hz];exact iR hi 0
  .rw[hz];exact λv K=>hi v (fK K)
  .rw[eZ,M];omega
 rw[cK D];by_cases I:x.op=23
 .rw[cR I,J];rw[I]at ka;have ad:x.a<51:=ka.2.2;have ag:jq x=1+x.a:=by unfold jq;rw[cR (.inr (.inl I)),I];rfl
  refine up l2 (xU E _ _ _ _ W.db.want O ⟨t.nQ,t.sH⟩ ?_ ?_) (fu _ _ l2.cS ?_)
  .rw[aa];exact iR hi 0
  .rw[aa];exact λv K=>hi v (fK K)
  .rw[eZ,M];omega
 rw[cK I];by_cases ac:x.op=24
 .rw[cR ac,J];exact(l2.trans (O.Kj _ _)).gr _
 rw[cK ac];exact up (n:=0) l1 (Jz (W:={W.dN F with dz:=W.dz+1}) (pX h.cQ F) x _) cM
structure Bd(W:St):Prop where
 vars:W.vars.length≤201*(W.dz+1)
 tables:W.tables.length≤W.dz
 funcs:W.funcs.length≤W.dz+1
 cS:W.cS.length≤W.dz+1
 dn:W.dn.length≤W.dz
 size:W.size≤100000
 cy:ft W≤1+W.dz*(3*W.dz+60)
 iq:W.iq≤1+W.dz*(3*W.dz+60)
 eH:∀t∈W.tables,t.length≤W.dz
def Cb(E:mz p Hs)(h:zJ p Hs W)(O:W.oz=false)(B:Bd W):Bd (gY p W):=by
 obtain h|⟨h,F,I⟩:=h
 .rw[O]at h;cases h
 have x:=tF E h F I;have g:=Dd E h F I;have key:∀U,Gr (3*W.cS.length+52) {W with dz:=W.dz+1} U->Bd U:=by
  intro U g;have D:U.dz=W.dz+1:=g.dz;have J:W.dz*(3*W.dz+60)+63*1+66*W.dz-60*W.dz=(W.dz+1)*(3*(W.dz+1)+60):=by
   have e0:W.dz*(3*W.dz+60)=3*(W.dz*W.dz)+60*W.dz:=by rw[Vo,WV,sF W.dz 60]
   have e2:(W.dz+1)*(3*(W.dz+1)+60)=3*(W.dz*W.dz)+66*W.dz+63:=by rw[Nat.add_mul,Vo,WV,Vo,sF W.dz 60];omega
   omega
  have K:=g.vars;have ht:=g.tables;have hf:=g.funcs;have hc:=g.cS;have hp:=g.dn;have hz:=g.size;have L:=g.cy;have M:=g.iq;have b1:=B.vars;have b2:=B.tables;have b3:=B.funcs;have b4:=B.cS;have b5:=B.dn;have b6:=B.size;have b7:=B.cy;have b8:=B.iq;have L:ft U<=ft W+(3*W.cS.length+52):=L;have M:U.iq<=max W.iq (ft W+(3*W.cS.length+52)):=M;dsimp only at K ht hf hc hp hz;refine⟨by rw[D];omega,by rw[D];omega,by rw[D];omega,by rw[D];omega,by rw[D];omega,cM,?_,?_,?_⟩
  .rw[D,<-J];omega
  .rw[D,<-J];omega
  .rw[D];exact g.eH W.dz B.eH
 unfold gY;generalize pj p W=r at x g;obtain⟨V,_|v⟩:=r
 .exact key V g
 .obtain⟨K,q,hq⟩:=x.2 v rfl;exact key _ (g.le (we _ V q rfl hq))
def yo(E:mz p Hs)(ins:List (List Int)):Bd (start p ins):=by
 have h:=E.jZ.1.2.2.1 0 E.jZ.1.1.1;unfold start enter;dsimp only;refine⟨?_,cE 0,cE 1,cE 1,cE 0,by show 0<=100000;omega,?_,?_,λt D=>by cases D⟩
 .show([]++_:List Vl).length<=201*(0+1);rw[eB,dY,oe];have:=h.2.2.1;show(p.cU.getD 0 gu).da.toNat<=201;omega
 .exact cE 1
 .exact cE 1
end
end rn
namespace rn
open RowKit
variable{cJ c cap g i n r:Nat}{Z:Nat→Nat}{E:Nat→TypeId}{α β:Type}{w w':World}
abbrev eO:=Nat×Nat×Nat
structure fW where
 v:Value
 n:Nat
 cs:List Value
def lA:fW:=⟨.slice none 0 0,0,[]⟩
def jG(R:eO->fW)(t:eO)(r:fW)(u:eO):fW:=if u=t then r else R u
def dD(R:eO->fW)(t:eO)(r:fW):jG R t r t=r:=cR rfl
def dh(R:eO->fW){t u:eO}(r:fW)(h:u≠t):jG R t r u=R u:=cK h
structure Rows(cJ:Nat)(E:Nat→TypeId)(Z:Nat→Nat)(D:eO→Prop)(R:eO→fW)(w:World):Prop where
 own:∀t,D t→w.ownsRow cJ (E t.1) (Z t.1) (R t).v (R t).n (R t).cs
 apart:∀t u,D t→D u→t≠u→∀k,(R t).v.ownBlock=some k→(R u).v.ownBlock≠some k
section
variable{D D':eO→Prop}{R R':eO→fW}{t:eO}{r:fW}
def Rows.kept(h:Rows cJ E Z D R w){row:Option Nat}(I:w.grownBy w' row)(J:∀t,D t->(R t).v.ownBlock=none\/(R t).v.ownBlock≠row):Rows cJ E Z D R w' :=
 ⟨λt F=>(h.own t F).kept I (J t F),h.apart⟩
def Rows.sub(h:Rows cJ E Z D R w)(hs:∀t,D' t->D t):Rows cJ E Z D' R w:=⟨λt F=>h.own t (hs t F),λt u F I=>h.apart t u (hs t F) (hs u I)⟩
def Rows.same(h:Rows cJ E Z D R w)(I:∀t,D t->R' t=R t):Rows cJ E Z D R' w:=
 ⟨λt F=>by rw[I t F];exact h.own t F,λt u F J K k=>by rw[I t F,I u J];exact h.apart t u F J K k⟩
def Rows.put(h:Rows cJ E Z D R w)(ht:D t)(hg:w.grownBy w' (R t).v.ownBlock)(ho:w'.ownsRow cJ (E t.1) (Z t.1) r.v r.n r.cs)(O:∀k,r.v.ownBlock=some k->(R t).v.ownBlock=some k\/w.heap.size<=k):Rows cJ E Z D (jG R t r) w':=by
 refine⟨λu F=>?_,λu x F K L k I=>?_⟩
 .by_cases e:u=t
  .subst e;rw[dD];exact ho
  .rw[dh R r e];refine(h.own u F).kept hg ?_;cases hv:(R u).v.ownBlock with
   |none=>exact .inl rfl
   |some k=>exact .inr λx=>h.apart u t F ht e k hv x.symm
 .by_cases e:u=t
  .subst e;rw[dD]at I;rw[dh R r (λz=>L z.symm)];obtain J|J:=O k I
   .exact h.apart u x F K L k J
   .intro M;have:=((h.own x K).lt k M).2;omega
  .rw[dh R r e]at I;by_cases e':x=t
   .subst e';rw[dD];intro M;obtain J|J:=O k M
    .exact h.apart u x F K L k I J
    .have:=((h.own u F).lt k I).2;omega
   .rw[dh R r e'];exact h.apart u x F K L k I
def Rows.add(h:Rows cJ E Z D R w)(ho:w.ownsRow cJ (E t.1) (Z t.1) r.v r.n r.cs)(L:∀k,r.v.ownBlock=some k->∀u,D u->u≠t->(R u).v.ownBlock≠some k):Rows cJ E Z (λu=>D u\/u=t) (jG R t r) w:=by
 refine⟨λu J=>?_,λu x J M O k I=>?_⟩
 .by_cases e:u=t
  .subst e;rw[dD];exact ho
  .rw[dh R r e];exact h.own u (J.resolve_right e)
 .by_cases e:u=t
  .subst e;rw[dD]at I;have F:x≠u:=λz=>O z.symm;rw[dh R r F];exact L k I x (M.resolve_right F) F
  .rw[dh R r e]at I;by_cases K:x=t
   .subst K;rw[dD];intro h2;exact L k h2 u (J.resolve_right e) e I
   .rw[dh R r K];exact h.apart u x (J.resolve_right e) (M.resolve_right K) O k I
def Rows.nil(h:Rows cJ E Z D R w)(t:eO):Rows cJ E Z (λu=>D u\/u=t) (jG R t lA) w:=
 h.add (fD w cJ _ _) λk F=>by cases F
def Rows.uE(h:Rows cJ E Z D R w)(F:D t)(M:0<(R t).n):∃g cap,(R t).v=.slice (some ⟨g,0,none⟩) (R t).n cap/\cJ<=g/\(R t).n<=cap:=by
 obtain⟨_,O⟩|⟨g,cap,I,J,K,_,L,_⟩:=(h.own t F).2
 .omega
 .exact⟨g,cap,J,K,L⟩
def Rows.cell(h:Rows cJ E Z D R w)(F:D t)(I:(R t).v=.slice (some ⟨g,0,none⟩) (R t).n cap){j:Nat}{u:Value}(J:j<(R t).n*Z t.1)(K:(R t).cs[j]?=some u):w.cell? ⟨g,j,none⟩=some u:=by have:=h.own t F;rw[I]at this;exact(this.cellAt j J).trans K
def Rows.free(h:Rows cJ E Z D R w)(F:D t)(I:(R t).v=.slice (some ⟨g,0,none⟩) (R t).n cap)(j:Nat):w.frozen? ⟨g,j,none⟩=false:=by have:=h.own t F;rw[I]at this;exact this.frozenAt j
def Rows.store(h:Rows cJ E Z D R w)(I:D t)(F:(R t).v=.slice (some ⟨g,0,none⟩) (R t).n cap)(j:Nat)(u:Value):Rows cJ E Z D (jG R t ⟨(R t).v,(R t).n,(R t).cs.set j u⟩) (w.setCell ⟨g,j,none⟩ u):=by
 have J:=h.own t I;rw[F]at J;have s:=J.stored j u;have K:(R t).v.ownBlock=some g:=by rw[F];rfl
 refine h.put I (K▸s.2) ?_ λk L=>.inl L;show World.ownsRow _ cJ _ _ (R t).v (R t).n ((R t).cs.set j u);rw[F];exact s.1
def Rows.AA(h:Rows cJ E Z D R w){a:Addr}(I:∀t,D t->(R t).v.ownBlock≠some a.block)(u:Value):Rows cJ E Z D R (w.setCell a u):=
 ⟨λt F=>iQ (h.own t F) (I t F) u,h.apart⟩
def Rows.cut(h:Rows cJ E Z D R w)(M:D t)(J:(R t).v=.slice (some ⟨g,0,none⟩) (R t).n cap)(O:n<=(R t).n):Rows cJ E Z D (jG R t ⟨.slice (some ⟨g,0,none⟩) n cap,n,(R t).cs.take (n*Z t.1)⟩) w:=by
 have ho:=h.own t M;have hb:(R t).v.ownBlock=some g:=by rw[J];rfl
 have hr:w.grownBy w (R t).v.ownBlock:=jE _ _;refine h.put M hr ?_ λk hk=>.inl (hb.trans hk);obtain⟨h1,h2⟩:=ho;obtain⟨e,_⟩|⟨g',aa,K,I,hg,hh,hc,hm,hs,L⟩:=h2
 .rw[J]at e;cases e
 .rw[J]at I;cases I;have F:n*Z t.1<=(R t).n*Z t.1:=Vn _ O;refine⟨?_,.inr ⟨g,cap,K,rfl,hg,hh,cV O hc,hm,hs,?_⟩⟩
  .rw[dX,h1];exact sw F
  .rw[<-L,OE,sw F]
end
section
variable{f g:α→List β}
def kH(h:∀x,(f x).length=c):∀l:List α,(l.flatMap f).length=l.length*c
 |[]=>dC
 |x::l=>by rw[eE,dq,h x,kH h l,dt,oB];omega
def kh(D:∀x,(f x).length=c)(d:α):∀(l:List α)(i r:Nat),i<l.length->r<c->(l.flatMap f)[i*c+r]?=(f (l.getD i d))[r]?
 |[],i,r,h,_=>absurd h (dT i)
 |x::l,0,r,_,E=>by rw[eE,gh,dU,fH (by rw[D x];exact E)];rfl
 |x::l,i+1,r,h,E=>by
  rw[eE,fB (by rw[D x,oB];omega),D x];have e:(i+1)*c+r-c=i*c+r:=by rw[oB];omega
  rw[e,kh D d l i r (by simpa using h) E];rfl
def mf(l:List α)(x:α):(l++[x]).flatMap f=l.flatMap f++f x:=dC
def rq(h:∀x,(f x).length=c):∀(l:List α)(n:Nat),(l.take n).flatMap f=(l.flatMap f).take (n*c)
 |[],n=>dC
 |x::l,0=>dC
 |x::l,n+1=>by
  rw[List.take_succ_cons,eE,eE,List.take_append,h x,rq h l n];have e:(n+1)*c-c=n*c:=by rw[oB];omega
  have D:(f x).take ((n+1)*c)=f x:=iI (by rw[h x,oB];omega);rw[e,D]
def ry(h:∀x,(f x).length=c):∀(l:List α)(n:Nat),(l.drop n).flatMap f=(l.flatMap f).drop (n*c)
 |[],n=>dC
 |x::l,0=>dC
 |x::l,n+1=>by
  rw[List.drop_succ_cons,eE,List.drop_append,h x,ry h l n];have e:(n+1)*c-c=n*c:=by rw[oB];omega
  have D:(f x).drop ((n+1)*c)=[]:=qz (by rw[h x,oB];omega);rw[e,D,eB]
def vK(h:∀x,(f x).length=c)(l:List α)(i:Nat)(y d:α)(zs:List β)(I:zs.length=l.length*c)(J:∀r,r<c->zs[i*c+r]?=(f y)[r]?)(K:∀k,k / c≠i->zs[k]?=(l.flatMap f)[k]?):zs=(l.set i y).flatMap f:=by
 by_cases L:c=0
 .subst L;have M:=eJ.1 (by rw[I];simp);have O:(l.set i y).flatMap f=[]:=eJ.1 (by rw[kH h];simp);rw[M,O]
 apply iE;intro k;by_cases hk:k<l.length*c
 .have D:=(U1 cM).2 hk;have E:k % c<c:=Nat.mod_lt _ cM;have F:k=k / c*c+k % c:=by rw[sF];exact(Nat.div_add_mod k c).symm
  have r:=kh h d (l.set i y) (k / c) (k % c) (by rw[df];exact D) E;rw[<-F]at r;rw[r];by_cases e:k / c=i
  .have q:=J (k % c) E;rw[<-e,<-F]at q;rw[q,<-e,ez _ _ _ _ D]
  .rw[dR _ _ _ _ _ (λx=>e x.symm),K k e];have q:=kh h d l (k / c) (k % c) D E;rwa[<-F]at q
 .rw[dO cM,dO (by rw[kH h,df];omega)]
def GQ(n i:Nat)(h:i<n):(List.range n).getD i 0=i:=by simp[cB,h]
def oY{f:Nat->List β}(D:∀x,(f x).length=c)(h:i<n)(E:r<c):((List.range n).flatMap f)[i*c+r]?=(f i)[r]?:=by have:=kh D 0 (List.range n) i r (oe▸h) E;rwa[GQ n i h]at this
def wh{f:Nat->List β}(h:∀x,(f x).length=c)(n:Nat):((List.range n).flatMap f).length=n*c:=by rw[kH h,oe]
def fX{f g:Nat->List β}(h:∀i,i<n->f i=g i):(List.range n).flatMap f=(List.range n).flatMap g:=by rw[W6,W6];congr 1;exact mH λi D=>h i (tQ.1 D)
def pQ{f f':Nat->List β}(E:∀x,(f x).length=c)(h:∀x,(f' x).length=c){u:β}(hi:i<n)(F:r<c)(L:f' i=(f i).set r u)(h2:∀j,j<n->j≠i->f' j=f j):
  ((List.range n).flatMap f).set (i*c+r) u=(List.range n).flatMap f':=by
 have I:i*c+r<n*c:=by have:(i+1)*c<=n*c:=Vn _ hi;rw[oB]at this;omega
 apply iE;intro k;by_cases hk:k<n*c
 .have J:=(U1 cM).2 hk;have M:k % c<c:=Nat.mod_lt _ cM;have O:k=k / c*c+k % c:=by rw[sF];exact(Nat.div_add_mod k c).symm
  have r':=oY h J M;have r0:=oY E J M;rw[<-O]at r' r0;rw[r'];by_cases e:i*c+r=k
  .have D:k / c=i:=by
    rw[<-e,sF,Nat.mul_add_div cM,Nat.div_eq_of_lt F];omega
   have K:k % c=r:=by rw[<-e,sF,Nat.mul_add_mod,Nat.mod_eq_of_lt F]
   rw[D,K,L,<-e,dP (by rw[wh E];exact I),dP (by rw[E];exact F)]
  .rw[dm e,r0];by_cases D:k / c=i
   .have K:r≠k % c:=λx=>e (by rw[x,<-D];exact O.symm);rw[D,L,dm K]
   .rw[h2 _ J D]
 .rw[dO (by rw[df,wh E];omega),dO (by rw[wh h];omega)]
end
end rn
namespace im
open RowKit
variable{h:Array MapEntry}{c r:Nat}{X:World}
structure wI where
 k:Int
 n:Int
 s:ByteArray
def kv(x:wI):Value:=.agg #[.int .i64 x.k,.int .i64 x.n,.string x.s]
def vh(x y:wI):Bool:=x.k==y.k&&(x.n==y.n&&x.s.toList==y.s.toList)
def rA(x:wI):List (wI×Value)->Nat->Option (Nat×Value)
 |[],_=>none
 |e::l,i=>if vh x e.1 then some (i,e.2)else rA x l (i+1)
def Nq:Tryz.prog.stoodInHeld 130=false:=gA
def Ir:Tryz.prog.underlying 130=some (.struct (Tryz.prog.fieldsOf 130)):=gA
def NJ(x y:wI)(X:World):(Op.equal 130 (kv x) (kv y)).run Tryz.prog X=.ok (vh x y) X:=by obtain⟨a,b,s⟩:=x;obtain⟨h,F,E⟩:=y;unfold Op.equal kv vh;dsimp only;rw[show Op.maxDepth=9999+1 from rfl,run_equalIn_agg X 9999 _ _ _ Ir Nq];have D:(Tryz.prog.fieldsOf 130).toList.map (λf=>(f.name== "_",f.type,f.offset))=[(false,128,0),(false,3,1),(false,9,2)]:=gA;generalize(Tryz.prog.fieldsOf 130).toList=I at D|-;obtain _|⟨f1,_|⟨f2,_|⟨f3,_|⟨f4,l⟩⟩⟩⟩:=I<;>simp only[jP,Gg,iA,fS,reduceCtorEq,WY,and_true,sB]at D;obtain⟨⟨J,K,L⟩,⟨M,O,o2⟩,n3,t3,o3⟩:=D;simp only[Op.eqFields,J,M,n3,K,O,t3,L,o2,o3,ne_eq,not_false_eq_true,wY];have p1:∀(a b:Int)(s:ByteArray),(part 128 (zV a b s) 0).run Tryz.prog X=.ok (zI a) X:=λa b s=>gA;have p2:∀(a b:Int)(s:ByteArray),(part 3 (zV a b s) 1).run Tryz.prog X=.ok (zI b) X:=λa b s=>gA;have p3:∀(a b:Int)(s:ByteArray),(part 9 (zV a b s) 2).run Tryz.prog X=.ok (.string s) X:=λa b s=>gA;have e0:∀a h:Int,(Op.equalIn 9999 128 (zI a) (zI h)).run Tryz.prog X=.ok (a==h) X:=λa h=>Lp (P:=Tryz.prog) X 9998 128 .i64 .i64 a h underlying128;have e1:∀a h:Int,(Op.equalIn 9999 3 (zI a) (zI h)).run Tryz.prog X=.ok (a==h) X:=λa h=>Lp (P:=Tryz.prog) X 9998 3 .i64 .i64 a h mJ;have e3:=Wq (P:=Tryz.prog) X 9998 9 s E ji;cases h1:a==h<;>cases h2:b==F<;>cases h3:s.toList==E.toList<;>simp only[iS,p1,p2,p3,iD,e0,e1,e3,h1,h2,h3,Sem.run_ite,jB,OG,Rf,DG,wY,Ve,Bool.and_true,OI,OH]
def CJ(e:Bool)(x:wI)(X:World):(Instr.checkKey e 10000 130 (kv x)).run Tryz.prog X=.ok () X:=by obtain⟨a,b,s⟩:=x;kernel_rfl
def EL(x:wI)(X:World):∀(l:List (wI×Value)) (D:List MapEntry) (i:Nat),D.map (λe=>(e.key,e.val))=l.map (λe=>(kv e.1,e.2))->(Instr.findAsking 130 (kv x) D i).run Tryz.prog X=.ok (rA x l i) X
 |[],[],i,_=>rfl
 |[],e::D,i,h=>by cases h
 |e::l,[],i,h=>by cases h
 |e::l,d::D,i,h=>by
  simp only[jP,iA,fS]at h;unfold Instr.findAsking rA;rw[iS,h.1.1,NJ,iD];cases vh x e.1 with
  |true=>rw[cR rfl,cR rfl,<-h.1.2];rfl
  |false=>rw[cK dC,cK dC];exact EL x X l D (i+1) h.2
def yS(x:wI)(X:World)(l:List (wI×Value))(D:List MapEntry)(h:D.map (λe=>(e.key,e.val))=l.map (λe=>(kv e.1,e.2))):(Instr.findKey 130 (kv x) D).run Tryz.prog X=.ok (rA x l 0) X:=by rw[run_findKey_eq (P:=Tryz.prog) (w:=X) (k:=130) (by rw[Ir])];exact EL x X l D 0 h
def Ri:Value:=.agg #[.int .i64 0,.int .i64 0,.string ⟨#[]⟩,.nilIface]
def Lu(X:World):(zeroValue 132).run Tryz.prog X=.ok Ri X:=gA
def zp(w:World)(r:Nat)(l:List (wI×Value)):Prop:=∃h c,w.heap[r]?=some (.map h c)/\h.toList.map (λe=>(e.key,e.val))=l.map (λe=>(kv e.1,e.2))
def Db(D:X.heap[r]?=some (.map h c)):(getObj r).run Tryz.prog X=.ok (.map h c) X:=by simp[getObj,Sem.run,D]
def IC(o:Obj)(D:X.heap[r]?=some (.map h c)):(setObj r o).run Tryz.prog X=.ok () {X with heap:=X.heap.setIfInBounds r o}:=by simp[setObj,Sem.run,D]
def Hc{l:List (wI×Value)}(h:zp X r l)(x:wI):(Instr.lookup 227 (.map (some r)) (kv x) false).run Tryz.prog X=.ok (((rA x l 0).map (·.2)).getD Ri) X:=by
 obtain⟨F,c,D,E⟩:=h;unfold Instr.lookup;rw[iS,show(underlying 227).run Tryz.prog X=.ok (.map 130 132) X by kernel_rfl,iD];simp only[iS,Db D,iD,jB,CJ,yS x X l _ E];cases rA x l 0 with
 |none=>simp only[iS,Lu,iD];rfl
 |some e=>rfl
def Cl(x:wI)(v:Value):List (wI×Value)->List (wI×Value)
 |[]=>[(x,v)]
 |e::l=>if vh x e.1 then(x,v)::l else e::Cl x v l
def I2{x y:wI}(h:vh x y=true):x=y:=by
 obtain⟨a,b,s⟩:=x;obtain⟨E,F,D⟩:=y;unfold vh at h;simp only[fY,oq]at h;obtain⟨rfl,rfl,h⟩:=h;have:s=D:=by
  have:=ga List.toArray h;rw[iP,iP]at h;cases s;cases D
  simp_all
 rw[this]
def yT(x:wI):∀(l:List (wI×Value)) (i:Nat) {j:Nat} {v:Value},rA x l i=some (j,v)->i<=j/\j<i+l.length/\∀u,Cl x u l=l.set (j-i) (x,u)/\∃e,l[j-i]?=some e/\e.1=x
 |[],i,j,v,h=>by cases h
 |e::l,i,j,v,h=>by
  unfold rA at h;by_cases c:vh x e.1=true
  .rw[cR c]at h;cases h;refine⟨cE _,dC,λu=>?_⟩;rw[qv];unfold Cl;rw[cR c];exact⟨rfl,e,rfl,(I2 c).symm⟩
  .rw[cK c]at h;obtain⟨E,F,D⟩:=yT x l (i+1) h;refine⟨cM,iY,λu=>?_⟩;unfold Cl;rw[cK c,(D u).1,show j-i=(j-(i+1))+1 by omega];exact⟨rfl,(D u).2⟩
def yU(x:wI)(u:Value):∀(l:List (wI×Value)) (i:Nat),rA x l i=none->Cl x u l=l++[(x,u)]
 |[],i,h=>rfl
 |e::l,i,h=>by
  unfold rA at h;by_cases c:vh x e.1=true
  .rw[cR c]at h;cases h
  .rw[cK c]at h;unfold Cl;rw[cK c,yU x u l (i+1) h];rfl
def Qm(x:wI):Instr.sameBits 10000 (kv x) (kv x)=true:=by
 obtain⟨a,b,s⟩:=x;have h:(s==s)=true:=by
  first
   |(rw[show(s==s)=(s.data==s.data)from rfl];exact beq_self_eq_true _)
   |(rw[show(s==s)=decide (s=s)from rfl];exact fM rfl)
 simp[kv,Instr.sameBits,h]
def Gk{l:List (wI×Value)}(h:zp X r l)(x:wI)(v:Value):∃o,(Instr.mapUpdate 227 (.map (some r)) (kv x) v).run Tryz.prog X=.ok () {X with heap:=X.heap.setIfInBounds r o}/\zp {X with heap:=X.heap.setIfInBounds r o} r (Cl x v l):=by
 obtain⟨D,c,F,E⟩:=h;have M:D.toList.length=l.length:=by have:=ga List.length E;simpa using this
 have O:=(dS.1 F).1;have eA:∀o:Obj,({X with heap:=X.heap.setIfInBounds r o}:World).heap[r]?=some o:=λo=>by show(X.heap.setIfInBounds r o)[r]?=some o;rw[zv O]
 cases I:rA x l 0 with
 |none=>
  refine⟨.map (D.push {key:=kv x,val:=v,born:=c}) (c+1),?_,_,_,eA _,?_⟩
  .unfold Instr.mapUpdate;simp only[iS,show(underlying 227).run Tryz.prog X=.ok (.map 130 132) X by kernel_rfl,Db F,iD,jB,CJ,yS x X l _ E,I];exact IC _ F
  .rw[yU x v l 0 I,Array.toList_push,gX,E,gX];rfl
 |some q=>
  obtain⟨j,u⟩:=q;obtain⟨_,J,h3⟩:=yT x l 0 I;obtain⟨K,e,L,h6⟩:=h3 v;rw[Nat.sub_zero]at K L;rw[dU,<-M]at J;have hj:j<D.size:=by simpa using J
  have hk:((D[j]?).map (·.key)).getD (kv x)=kv x:=by have:=ga (λq:List (Value×Value)=>(q[j]?).map (·.1)) E;simp only[ed,Option.map_map,L,kP,h6]at this;rw[nZ]at this;rw[QA hj]at this|-;simpa using this
  refine⟨.map (D.modify j λe=>{e with key:=kv x,val:=v}) c,?_,_,_,eA _,?_⟩
  .unfold Instr.mapUpdate;simp only[iS,show(underlying 227).run Tryz.prog X=.ok (.map 130 132) X by kernel_rfl,Db F,iD,jB,CJ,yS x X l _ E,I,hk,Instr.keyThatStays,Qm,wY];exact IC _ F
  .rw[K,Array.toList_modify,Tt,<-E];refine iE λk=>?_;rw[ed,List.getElem?_modify,uP,ed,dY];by_cases e:j=k
   .subst e;rw[cR rfl,cR J,cG J];simp
   .rw[cK e];cases D.toList[k]? <;> simp[e]
end im
namespace rn
open pg chk
variable{cW:Int}{c:Nat}{Hs:Nat→List Int}{p:Pg}{W:St}
def IQ:∀(n:Nat)(f:Nat->Nat),(∀i,i<=n->f i<n)->∃i j,i<j/\j<=n/\f i=f j
 |0,f,h=>absurd (h 0 (cE _)) (dT _)
 |n+1,f,h=>by
  by_cases I:∃i,i<=n/\f i=f (n+1)
  .obtain⟨i,E,e⟩:=I;exact⟨i,n+1,cM,cE _,e⟩
  .have D:∀i,i<=n->f i≠f (n+1):=λi E e=>I ⟨i,E,e⟩;have L:=h (n+1) (cE _);obtain⟨i,j,F,M,e⟩:=IQ n (λi=>if f i<f (n+1)then f i else f i-1) (λi E=>by
    have J:=h i cM;have K:=D i E;split<;>omega)
   refine⟨i,j,F,cM,?_⟩;have J:=D i cM;have K:=D j cM;split at e<;>split at e<;>omega
def Iv.Rj(h:Iv p Hs W cW)(hc:c<W.cS.length)(hs:(W.cS.getD c dE).state=2):∃i,i<W.cS.length/\i≠0/\nr (W.cS.getD i dE)/\(W.cS.getD i dE).gq=c:=by
 apply oO;intro F;have F:∀i,i<W.cS.length->i≠0->nr (W.cS.getD i dE)->(W.cS.getD i dE).gq≠c:=λi h1 h2 h3 h4=>F ⟨i,h1,h2,h3,h4⟩;let φ:Nat->Nat:=λi=>if i=0 then W.cQ else(W.cS.getD i dE).gq;have φ0:φ 0=W.cQ:=rfl;have L:∀i,i≠0->φ i=(W.cS.getD i dE).gq:=λi I=>cK I;have ok:∀i,i<W.cS.length->nr (W.cS.getD i dE)->φ i<W.cS.length/\nr (W.cS.getD (φ i) dE)/\φ i≠c:=by
  intro i I hl;by_cases e:i=0
  .subst e;rw[φ0];exact⟨h.cQ,.inl h.run,λe=>by rw[<-e,h.run]at hs;omega⟩
  .rw[L i e];have b:=h.gq i I e hl;exact⟨b.1,.inr b.2,F i I e hl⟩
 have inj:∀i j,i<W.cS.length->j<W.cS.length->nr (W.cS.getD i dE)->nr (W.cS.getD j dE)->φ i=φ j->i=j:=by
  intro i j I hj li lj e;by_cases M:i=0
  .by_cases J:j=0
   .omega
   .subst M;rw[φ0,L j J]at e;have b:=h.gq j hj J lj;rw[<-e,h.run]at b;omega
  .by_cases J:j=0
   .subst J;rw[φ0,L i M]at e;have b:=h.gq i I M li;rw[e,h.run]at b;omega
   .rw[L i M,L j J]at e;exact h.inj i j I hj M J li lj e
 let D:Nat->Nat:=λn=>Nat.rec c (λ_ x=>φ x) n;have aa:D 0=c:=rfl;have E:∀n,D (n+1)=φ (D n):=λn=>rfl;have all:∀n,D n<W.cS.length/\nr (W.cS.getD (D n) dE):=by
  intro n
  induction n with
  |zero=>exact⟨hc,.inr hs⟩
  |succ n K=>rw[E];exact⟨(ok _ K.1 K.2).1,(ok _ K.1 K.2).2.1⟩
 have O:∀i d,D i=D (i+d)->D 0=D d:=by
  intro i
  induction i with
  |zero=>intro d e;rwa[dU]at e
  |succ i K=>
   intro d e;refine K d (inj _ _ (all _).1 (all _).1 (all _).2 (all _).2 ?_);rw[<-E,<-E];rwa[show i+1+d=i+d+1 by omega]at e
 obtain⟨i,j,ab,_,e⟩:=IQ W.cS.length D (λi _=>(all i).1);obtain⟨d,rfl⟩:∃d,j=i+(d+1):=⟨j-i-1,cM⟩
 have:=O i (d+1) e;rw[E,aa]at this;exact(ok _ (all d).1 (all d).2).2.2 this.symm
def Iv.NI(h:Iv p Hs W cW)(D:c<W.cS.length):∃q,j7 p Hs W.sz (W.cS.getD c dE).cy q:=by
 have k:=h.vw c D;by_cases E:(W.cS.getD c dE).state=0
 .exact⟨_,h.uJ c D E⟩
 by_cases F:(W.cS.getD c dE).state=1
 .have:=h.one c D F;subst this;exact⟨_,h.Ce⟩
 by_cases I:(W.cS.getD c dE).state=2
 .obtain⟨i,J,K,L,e⟩:=h.Rj D I;have:=h.waits i J K L;rw[e]at this;exact⟨_,this⟩
 .rw[h.Kz c D cM];exact⟨0,j7.nil⟩
def Iv.Wm(h:Iv p Hs W cW){j:Nat}(D:c<W.cS.length)(E:j<(W.cS.getD c dE).cy.length)(F:((W.cS.getD c dE).cy.getD j pG).guard=false):((W.cS.getD c dE).cy.getD j pG).fn<W.funcs.length:=by obtain⟨q,k⟩:=h.NI D;exact((k j E).fn F).1
end rn
end Go.Proofs.YtfpkdfeakanlpaaGreatDoor
