import Derived.Test.YtkmiagkehcflnaaGreatDoorMIpTab
import Derived.Test.YtkmiagkehcflnaaGreatDoorMPsLists
import Derived.Test.YtkmiagkehcflnaaGreatDoorMPtOps
import Derived.Test.YtkmiagkehcflnaaGreatDoorMPsName
set_option maxRecDepth 100000
set_option maxHeartbeats 8000000
namespace Go.Proofs.YtkmiagkehcflnaaGreatDoor
namespace ps
open Go.RowKit bts nod lex tk
def startL:List ByteArray:=[{data:=#[110,105,108]},{data:=#[116,114,117,101]},{data:=#[102,97,108,115,101]},{data:=#[102,117,110,99,116,105,111,110]},{data:=#[110,111,116]},{data:=#[45]},{data:=#[40]},{data:=#[123]}]
def bare (k:Int):Nd:=⟨k,0,[],[],0⟩
section
variable (zs:List Int) (T:List (Int×Nat×Nat))
def inWord:List ByteArray→Ps→Bool
 |[],_=>false
 |t::r,s=>isP zs T s t || inWord r s
def starts (s:Ps):Bool:=decide (kindP T s=1) || decide (kindP T s=2) || decide (kindP T s=3) || inWord zs T startL s
def ends (s:Ps):Bool:=over T s || isP zs T s {data:=#[101,110,100]} || isP zs T s {data:=#[101,108,115,101]} || isP zs T s {data:=#[101,108,115,101,105,102]} || isP zs T s {data:=#[117,110,116,105,108]}
def opFrom (s:Ps):Nat→Nat→Nd×Int
 |0,_=>(nd0,0)
 |f+1,k=>if isP zs T s (vt.opT 21 (k:Int)) then (⟨21,(k:Int),[],[],0⟩,vt.bindK 21 (k:Int)) else opFrom s f (k+1)
def oper (s:Ps):Nd×Int:=if isP zs T s {data:=#[111,114]} then (bare 23,1) else if isP zs T s {data:=#[97,110,100]} then (bare 22,2) else opFrom zs T s 12 0
def namesF:Nat→Ps→List (List Int)→List (List Int)×Ps
 |0,s,out=>(out,s)
 |f+1,s,out=>if (isP zs T s {data:=#[44]}) then namesF f (nameS zs T (got zs T s {data:=#[44]})) (out++[nameT zs T (got zs T s {data:=#[44]})]) else (out,s)
def longer (s:Ps) (b:Bool):Ps:={s with long:=s.long || b}
def names (s:Ps):List (List Int)×Ps :=
 ((namesF zs T (T.length+1) (nameS zs T s) [nameT zs T s]).1,longer (namesF zs T (T.length+1) (nameS zs T s) [nameT zs T s]).2 (decide (50<(namesF zs T (T.length+1) (nameS zs T s) [nameT zs T s]).1.length)))
def named (s:Ps):Bool:=decide (kindP T s=1)&&decide (s.at_+1<T.length)&&((strOfNums (textOf zs T (s.at_+1))).toList==({data:=#[61]}:ByteArray).toList)
def pB0 (pz:Nat→Int→List (List Nd)→Ps→List (List Nd)×Int×Ps) (n:Int) (_ks:List (List Nd)) (s:Ps):List (List Nd)×Int×Ps :=
 let x:=pz 2 0 [] s
 pz 1 n x.1 x.2.2
def pB1 (pz:Nat→Int→List (List Nd)→Ps→List (List Nd)×Int×Ps) (n:Int) (ks:List (List Nd)) (s:Ps):List (List Nd)×Int×Ps :=
 if 0≤s.bad then (ks,0,s) else
 let q:=oper zs T s
 if q.2<n∨q.2=0 then (ks,0,s) else
 let y:=pz 0 (if q.2=4 then q.2 else q.2+1) [] (step s)
 pz 1 n [tk.node q.1 (ks++y.1)] y.2.2
def pB2 (pz:Nat→Int→List (List Nd)→Ps→List (List Nd)×Int×Ps) (_n:Int) (_ks:List (List Nd)) (s:Ps):List (List Nd)×Int×Ps :=
 if (isP zs T s {data:=#[110,111,116]}) then let x:=pz 2 0 [] (got zs T s {data:=#[110,111,116]});([tk.node (bare 24) x.1],0,x.2.2)
 else if (isP zs T s {data:=#[45]}) then let x:=pz 2 0 [] (got zs T s {data:=#[45]});([tk.node (bare 25) x.1],0,x.2.2)
 else pz 3 0 [] s
def pB3 (pz:Nat→Int→List (List Nd)→Ps→List (List Nd)×Int×Ps) (_n:Int) (_ks:List (List Nd)) (s:Ps):List (List Nd)×Int×Ps :=
 if (isP zs T s {data:=#[110,105,108]}) then ([leaf 11],0,(got zs T s {data:=#[110,105,108]})) else if (isP zs T s {data:=#[116,114,117,101]}) then ([leaf 12],0,(got zs T s {data:=#[116,114,117,101]})) else if (isP zs T s {data:=#[102,97,108,115,101]}) then ([leaf 13],0,(got zs T s {data:=#[102,97,108,115,101]}))
 else if (isP zs T s {data:=#[102,117,110,99,116,105,111,110]}) then pz 8 0 [] (got zs T s {data:=#[102,117,110,99,116,105,111,110]})
 else if (isP zs T s {data:=#[123]}) then pz 9 0 [] s
 else if kindP T s=2 then ([[⟨14,(scn.scan (nums (now zs T s))).1,[],[],0⟩]],0,step s)
 else if kindP T s=3 then ([[⟨15,0,lit.unqText (nums (now zs T s)),[],0⟩]],0,longer (step s) (decide (5000<(lit.unqText (nums (now zs T s))).length)))
 else let x:=pz 4 0 [] s;(x.1,0,x.2.2)
def pB4 (pz:Nat→Int→List (List Nd)→Ps→List (List Nd)×Int×Ps) (_n:Int) (_ks:List (List Nd)) (s:Ps):List (List Nd)×Int×Ps :=
 if (isP zs T s {data:=#[40]}) then let x:=pz 0 1 [] (got zs T s {data:=#[40]});pz 5 0 x.1 (want zs T x.2.2 {data:=#[41]})
 else pz 5 116 [[⟨16,0,[],[nameT zs T s],0⟩]] (nameS zs T s)
def pB5 (pz:Nat→Int→List (List Nd)→Ps→List (List Nd)×Int×Ps) (n:Int) (ks:List (List Nd)) (s:Ps):List (List Nd)×Int×Ps :=
 if 0≤s.bad then (ks,n,s)
 else if (isP zs T s {data:=#[46]}) then pz 5 116 [tk.node (bare 17) (ks++[[⟨15,0,nameT zs T (got zs T s {data:=#[46]}),[],0⟩]])] (nameS zs T (got zs T s {data:=#[46]}))
 else if (isP zs T s {data:=#[91]}) then let y:=pz 0 1 [] (got zs T s {data:=#[91]});pz 5 116 [tk.node (bare 17) (ks++y.1)] (want zs T y.2.2 {data:=#[93]})
 else if (isP zs T s {data:=#[40]}) then
  let y:=if isP zs T (got zs T s {data:=#[40]}) {data:=#[41]} then (ks,0,(got zs T s {data:=#[40]})) else (let z:=pz 6 0 [] (got zs T s {data:=#[40]});(ks++z.1,0,z.2.2))
  pz 5 99 [tk.node (bare 18) y.1] (want zs T y.2.2 {data:=#[41]})
 else (ks,n,s)
def pB6 (pz:Nat→Int→List (List Nd)→Ps→List (List Nd)×Int×Ps) (_n:Int) (_ks:List (List Nd)) (s:Ps):List (List Nd)×Int×Ps :=
 let x:=pz 0 1 [] s
 let y:=pz 7 0 x.1 x.2.2
 (y.1,0,longer y.2.2 (decide (50<y.1.length)))
def pB7 (pz:Nat→Int→List (List Nd)→Ps→List (List Nd)×Int×Ps) (_n:Int) (ks:List (List Nd)) (s:Ps):List (List Nd)×Int×Ps :=
 if (isP zs T s {data:=#[44]}) then let x:=pz 0 1 [] (got zs T s {data:=#[44]});pz 7 0 (ks++x.1) x.2.2 else (ks,0,s)
def pB8 (pz:Nat→Int→List (List Nd)→Ps→List (List Nd)×Int×Ps) (_n:Int) (_ks:List (List Nd)) (s:Ps):List (List Nd)×Int×Ps :=
 let s1:=want zs T s {data:=#[40]}
 let m:=if isP zs T s1 {data:=#[41]} then ([],s1) else names zs T s1
 let s2:=want zs T m.2 {data:=#[41]}
 let b:=pz 11 0 [] {s2 with loop:=false}
 ([tk.node ⟨19,0,[],m.1,0⟩ b.1],0,want zs T {b.2.2 with loop:=s2.loop} {data:=#[101,110,100]})
def pB9 (pz:Nat→Int→List (List Nd)→Ps→List (List Nd)×Int×Ps) (_n:Int) (_ks:List (List Nd)) (s:Ps):List (List Nd)×Int×Ps :=
 let y:=pz 10 0 [] (want zs T s {data:=#[123]})
 ([tk.node (bare 20) y.1],0,want zs T y.2.2 {data:=#[125]})
def pB10 (pz:Nat→Int→List (List Nd)→Ps→List (List Nd)×Int×Ps) (n:Int) (ks:List (List Nd)) (s:Ps):List (List Nd)×Int×Ps :=
 if 0≤s.bad∨isP zs T s {data:=#[125]} then (ks,n,s) else
 let k:=if named zs T s then ([[⟨15,0,nameT zs T s,[],0⟩]],n,want zs T (nameS zs T s) {data:=#[61]})
  else if (isP zs T s {data:=#[91]}) then (let y:=pz 0 1 [] (got zs T s {data:=#[91]});(y.1,n,want zs T (want zs T y.2.2 {data:=#[93]}) {data:=#[61]}))
  else ([[⟨14,n+1,[],[],0⟩]],n+1,s)
 let y:=pz 0 1 [] k.2.2
 if isP zs T y.2.2 {data:=#[44]} then pz 10 k.2.1 (ks++k.1++y.1) (got zs T y.2.2 {data:=#[44]}) else (ks++k.1++y.1,k.2.1,y.2.2)
def pB11 (pz:Nat→Int→List (List Nd)→Ps→List (List Nd)×Int×Ps) (_n:Int) (_ks:List (List Nd)) (s:Ps):List (List Nd)×Int×Ps :=
 let y:=pz 12 0 [] s
 ([tk.node (bare 0) y.1],0,y.2.2)
def pB12 (pz:Nat→Int→List (List Nd)→Ps→List (List Nd)×Int×Ps) (_n:Int) (ks:List (List Nd)) (s:Ps):List (List Nd)×Int×Ps :=
 if ends zs T s then (ks,0,s)
 else if (isP zs T s {data:=#[114,101,116,117,114,110]}) then
  let y:=if starts zs T (got zs T s {data:=#[114,101,116,117,114,110]}) then pz 6 0 [] (got zs T s {data:=#[114,101,116,117,114,110]}) else ([],0,(got zs T s {data:=#[114,101,116,117,114,110]}))
  (ks++[tk.node (bare 9) y.1],0,got zs T y.2.2 {data:=#[59]})
 else if s.loop&&(isP zs T s {data:=#[98,114,101,97,107]}) then (ks++[leaf 8],0,got zs T (got zs T s {data:=#[98,114,101,97,107]}) {data:=#[59]})
 else let y:=pz 13 0 [] s;pz 12 0 (ks++y.1) (got zs T y.2.2 {data:=#[59]})
def pB13 (pz:Nat→Int→List (List Nd)→Ps→List (List Nd)×Int×Ps) (_n:Int) (_ks:List (List Nd)) (s:Ps):List (List Nd)×Int×Ps :=
 if (isP zs T s {data:=#[108,111,99,97,108]}) then
  if isP zs T (got zs T s {data:=#[108,111,99,97,108]}) {data:=#[102,117,110,99,116,105,111,110]} then
   let s1:=got zs T (got zs T s {data:=#[108,111,99,97,108]}) {data:=#[102,117,110,99,116,105,111,110]}
   let x:=pz 8 0 [] (nameS zs T s1)
   ([tk.node ⟨26,0,[],[nameT zs T s1],0⟩ x.1],0,x.2.2)
  else
   let m:=names zs T (got zs T s {data:=#[108,111,99,97,108]})
   let y:=if isP zs T m.2 {data:=#[61]} then pz 6 0 [] (got zs T m.2 {data:=#[61]}) else ([],0,m.2)
   ([tk.node ⟨1,0,[],m.1,0⟩ y.1],0,y.2.2)
 else if (isP zs T s {data:=#[100,111]}) then let b:=pz 11 0 [] (got zs T s {data:=#[100,111]});([tk.node (bare 3) b.1],0,want zs T b.2.2 {data:=#[101,110,100]})
 else if (isP zs T s {data:=#[119,104,105,108,101]}) then
  let c:=pz 0 1 [] (got zs T s {data:=#[119,104,105,108,101]})
  let s1:=want zs T c.2.2 {data:=#[100,111]}
  let b:=pz 11 0 [] {s1 with loop:=true}
  ([tk.node (bare 4) (c.1++b.1)],0,want zs T {b.2.2 with loop:=s1.loop} {data:=#[101,110,100]})
 else if (isP zs T s {data:=#[114,101,112,101,97,116]}) then
  let b:=pz 11 0 [] {(got zs T s {data:=#[114,101,112,101,97,116]}) with loop:=true}
  let c:=pz 0 1 [] (want zs T {b.2.2 with loop:=((got zs T s {data:=#[114,101,112,101,97,116]})).loop} {data:=#[117,110,116,105,108]})
  ([tk.node (bare 5) (b.1++c.1)],0,c.2.2)
 else if (isP zs T s {data:=#[105,102]}) then pz 14 0 [] (got zs T s {data:=#[105,102]})
 else if (isP zs T s {data:=#[102,111,114]}) then
  let s1:=(got zs T s {data:=#[102,111,114]})
  let a:=pz 0 1 [] (want zs T (nameS zs T s1) {data:=#[61]})
  let b:=pz 0 1 [] (want zs T a.2.2 {data:=#[44]})
  let c:=if isP zs T b.2.2 {data:=#[44]} then pz 0 1 [] (got zs T b.2.2 {data:=#[44]}) else ([],0,b.2.2)
  let s2:=want zs T c.2.2 {data:=#[100,111]}
  let d:=pz 11 0 [] {s2 with loop:=true}
  ([tk.node ⟨7,0,[],[nameT zs T s1],0⟩ (a.1++b.1++c.1++d.1)],0,want zs T {d.2.2 with loop:=s2.loop} {data:=#[101,110,100]})
 else pz 16 0 [] s
def pB14 (pz:Nat→Int→List (List Nd)→Ps→List (List Nd)×Int×Ps) (_n:Int) (_ks:List (List Nd)) (s:Ps):List (List Nd)×Int×Ps :=
 let c:=pz 0 1 [] s
 let b:=pz 11 0 [] (want zs T c.2.2 {data:=#[116,104,101,110]})
 let y:=pz 15 0 (c.1++b.1) b.2.2
 let z:=if isP zs T y.2.2 {data:=#[101,108,115,101]} then (let e:=pz 11 0 [] (got zs T y.2.2 {data:=#[101,108,115,101]});(y.1++e.1,0,e.2.2)) else y
 ([tk.node (bare 6) z.1],0,want zs T z.2.2 {data:=#[101,110,100]})
def pB15 (pz:Nat→Int→List (List Nd)→Ps→List (List Nd)×Int×Ps) (_n:Int) (ks:List (List Nd)) (s:Ps):List (List Nd)×Int×Ps :=
 if isP zs T s {data:=#[101,108,115,101,105,102]} then
  let c:=pz 0 1 [] (got zs T s {data:=#[101,108,115,101,105,102]})
  let b:=pz 11 0 [] (want zs T c.2.2 {data:=#[116,104,101,110]})
  pz 15 0 (ks++c.1++b.1) b.2.2
 else (ks,0,s)
def pB16 (pz:Nat→Int→List (List Nd)→Ps→List (List Nd)×Int×Ps) (_n:Int) (_ks:List (List Nd)) (s:Ps):List (List Nd)×Int×Ps :=
 let x:=pz 4 0 [] s
 if x.2.1=99∧¬isP zs T x.2.2 {data:=#[61]}∧¬isP zs T x.2.2 {data:=#[44]} then ([tk.node (bare 10) x.1],0,x.2.2) else
 let y:=pz 17 x.2.1 x.1 x.2.2
 let s2:=want zs T (longer y.2.2 (decide (50<y.1.length))) {data:=#[61]}
 let z:=if s2.bad<0 then (let e:=pz 6 0 [] s2;(y.1++e.1,0,e.2.2)) else (y.1,0,s2)
 ([tk.node ⟨2,(y.1.length:Int),[],[],0⟩ z.1],0,z.2.2)
def pB17 (pz:Nat→Int→List (List Nd)→Ps→List (List Nd)×Int×Ps) (n:Int) (ks:List (List Nd)) (s:Ps):List (List Nd)×Int×Ps :=
 if 0≤s.bad then (ks,n,s) else
 let s1:=if ¬n=116∨(¬isP zs T s {data:=#[61]}∧¬isP zs T s {data:=#[44]}) then wrong zs T s else s
 if isP zs T s1 {data:=#[44]} then
  let x:=pz 4 0 [] (got zs T s1 {data:=#[44]})
  pz 17 x.2.1 (ks++x.1) x.2.2
 else (ks,n,s1)
def pzS (tag:Nat) (pz:Nat→Int→List (List Nd)→Ps→List (List Nd)×Int×Ps) (n:Int) (ks:List (List Nd)) (s:Ps):List (List Nd)×Int×Ps :=
 match tag with
 |0=>pB0 pz n ks s
 |1=>pB1 zs T pz n ks s
 |2=>pB2 zs T pz n ks s
 |3=>pB3 zs T pz n ks s
 |4=>pB4 zs T pz n ks s
 |5=>pB5 zs T pz n ks s
 |6=>pB6 pz n ks s
 |7=>pB7 zs T pz n ks s
 |8=>pB8 zs T pz n ks s
 |9=>pB9 zs T pz n ks s
 |10=>pB10 zs T pz n ks s
 |11=>pB11 pz n ks s
 |12=>pB12 zs T pz n ks s
 |13=>pB13 zs T pz n ks s
 |14=>pB14 zs T pz n ks s
 |15=>pB15 zs T pz n ks s
 |16=>pB16 zs T pz n ks s
 |_=>pB17 zs T pz n ks s
def pz:Nat→Nat→Int→List (List Nd)→Ps→List (List Nd)×Int×Ps
 |0,_,_,ks,s=>(ks,0,s)
 |f+1,tag,n,ks,s=>pzS zs T tag (pz f) n ks s
end
def parseT (zs:List Int) (T:List (Int×Nat×Nat)) (valid:List Nd→Bool):List Nd×Int×Int :=
 let x:=pz zs T (20*T.length+40) 11 0 [] ⟨0,-1,false,false⟩
 let s:=if x.2.2.bad<0∧x.2.2.at_<T.length then wrong zs T x.2.2 else x.2.2
 if 0≤s.bad then ([],2,s.bad) else if s.long || !valid (x.1.getD 0 []) then ([],4,0) else (x.1.getD 0 [],0,0)
section
variable (zs:List Int) (T:List (Int×Nat×Nat)) (f:Nat) (n:Int) (ks:List (List Nd)) (s:Ps)
theorem pz_0:pz zs T (f+1) 0 n ks s=pB0 (pz zs T f) n ks s:=rfl
theorem pz_1:pz zs T (f+1) 1 n ks s=pB1 zs T (pz zs T f) n ks s:=rfl
theorem pz_2:pz zs T (f+1) 2 n ks s=pB2 zs T (pz zs T f) n ks s:=rfl
theorem pz_3:pz zs T (f+1) 3 n ks s=pB3 zs T (pz zs T f) n ks s:=rfl
theorem pz_4:pz zs T (f+1) 4 n ks s=pB4 zs T (pz zs T f) n ks s:=rfl
theorem pz_5:pz zs T (f+1) 5 n ks s=pB5 zs T (pz zs T f) n ks s:=rfl
theorem pz_6:pz zs T (f+1) 6 n ks s=pB6 (pz zs T f) n ks s:=rfl
theorem pz_7:pz zs T (f+1) 7 n ks s=pB7 zs T (pz zs T f) n ks s:=rfl
theorem pz_8:pz zs T (f+1) 8 n ks s=pB8 zs T (pz zs T f) n ks s:=rfl
theorem pz_9:pz zs T (f+1) 9 n ks s=pB9 zs T (pz zs T f) n ks s:=rfl
theorem pz_10:pz zs T (f+1) 10 n ks s=pB10 zs T (pz zs T f) n ks s:=rfl
theorem pz_11:pz zs T (f+1) 11 n ks s=pB11 (pz zs T f) n ks s:=rfl
theorem pz_12:pz zs T (f+1) 12 n ks s=pB12 zs T (pz zs T f) n ks s:=rfl
theorem pz_13:pz zs T (f+1) 13 n ks s=pB13 zs T (pz zs T f) n ks s:=rfl
theorem pz_14:pz zs T (f+1) 14 n ks s=pB14 zs T (pz zs T f) n ks s:=rfl
theorem pz_15:pz zs T (f+1) 15 n ks s=pB15 zs T (pz zs T f) n ks s:=rfl
theorem pz_16:pz zs T (f+1) 16 n ks s=pB16 zs T (pz zs T f) n ks s:=rfl
theorem pz_17:pz zs T (f+1) 17 n ks s=pB17 zs T (pz zs T f) n ks s:=rfl
end
theorem inWord_step {zs:List Int} {T:List (Int×Nat×Nat)} {s:Ps} {l:List ByteArray} {k:Nat} (h:k<l.length) (hn:isP zs T s (l.getD k ByteArray.empty)=false):inWord zs T (l.drop k) s=inWord zs T (l.drop (k+1)) s:=by
 rw [List.drop_eq_getElem_cons h,inWord]
 have e:l.getD k ByteArray.empty=l[k]:=by simp [List.getD_eq_getElem?_getD,List.getElem?_eq_getElem h]
 rw [e] at hn
 rw [hn,Bool.false_or]
theorem inWord_hit {zs:List Int} {T:List (Int×Nat×Nat)} {s:Ps} {l:List ByteArray} {k:Nat} (h:k<l.length) (hn:isP zs T s (l.getD k ByteArray.empty)=true):inWord zs T (l.drop k) s=true:=by
 rw [List.drop_eq_getElem_cons h,inWord]
 have e:l.getD k ByteArray.empty=l[k]:=by simp [List.getD_eq_getElem?_getD,List.getElem?_eq_getElem h]
 rw [e] at hn
 rw [hn,Bool.true_or]
theorem l3starts_any {w0 w:World} {sv tv:Option Addr} {sc tc g:Nat} {zs:List Int} {T:List (Int×Nat×Nat)} {s:Ps} (hS:Sr w0 sv sc tv tc zs T) (h:Pp w0 sv sc tv tc zs T w g s) :
  Calls Tryz.prog 29 #[.pointer (some ⟨g,0,none⟩)] w fun e w'=>e=.returned (.bool (starts zs T s))∧Below w.heap.size w w':=by
 have KD:Hid (Calls Tryz.prog 56 #[.pointer (some ⟨g,0,none⟩)] w fun e w'=>e=.returned (.int .i64 (kindP T s))∧∃m,w'=w.drewN m):=l3kind_any hS h
 have IS:Hid (∀W t,Below w.heap.size w W→Calls Tryz.prog 55 #[.pointer (some ⟨g,0,none⟩),.string t] W fun e w'=>e=.returned (.bool (isP zs T s t))∧Below W.heap.size W w'):=fun W t hW=>l3is_any hS (h.keep hW) t
 have HT:Hid (∀(W W3:World),W3=W.alloc (.cells #[.string {data:=#[110,105,108]},.string {data:=#[116,114,117,101]},.string {data:=#[102,97,108,115,101]},.string {data:=#[102,117,110,99,116,105,111,110]},.string {data:=#[110,111,116]},.string {data:=#[45]},.string {data:=#[40]},.string {data:=#[123]}] 9)→(∀k,k<8→W3.cell? ⟨W.heap.size,k,none⟩=some (.string (startL.getD k ByteArray.empty)))∧Below W.heap.size W W3):=fun W W3 e=>by
  have e1:W3.heap[W.heap.size]?=some (.cells (startL.map Value.string).toArray 9):=by rw [e];exact heap_alloc_new _ _
  refine ⟨fun k hk=>?_,by rw [e];exact (Below.refl _ _).alloc (Nat.le_refl _) _⟩
  unfold World.cell?
  rw [e1]
  have h3:k<startL.length:=hk
  simp [List.getElem?_map,List.getElem?_eq_getElem h3,List.getD_eq_getElem?_getD]
 obtain ⟨X,hX⟩:∃X,X=starts zs T s:=⟨_,rfl⟩
 have HX:Hid (X=starts zs T s):=hX
 rw [← hX]
 clear hX
 unfold starts at HX
 generalize kindP T s=kd at KD HX
 clear hS h
 by_cases h3:kd=1∨kd=2∨kd=3
 ·have hx:X=true:=by rw [HX.out];rcases h3 with rfl|rfl|rfl <;> simp
  subst hx
  clear HX IS HT
  rcases h3 with rfl|rfl|rfl
  all_goals
   go_enter Tryz.func29,Tryz.ntmps29
   go_wp2_with (go_at_call 56;refine Calls.mono KD.out ?_;rintro e w1 ⟨rfl,n1,rfl⟩)
   go_returns
   exact ⟨rfl,tk.bel_drewN (Below.refl _ _) _⟩
 ·have e1:(kd==1)=false:=by simp;omega
  have e2:(kd==2)=false:=by simp;omega
  have e3:(kd==3)=false:=by simp;omega
  have HX2:Hid (X=inWord zs T (startL.drop 0) s):=by
   show _=_
   rw [HX.out,decide_eq_false (by omega),decide_eq_false (by omega),decide_eq_false (by omega)];rfl
  clear HX h3
  go_enter Tryz.func29,Tryz.ntmps29
  go_wp2_with (go_at_call 56;refine Calls.mono KD.out ?_;rintro e w1 ⟨rfl,n1,rfl⟩;obtain ⟨hct,hbA⟩:=HT.out (w.drewN n1) _ rfl;have CT:Hid _:=hct;have BA:Hid _:=(tk.bel_drewN (Below.refl w.heap.size w) n1).trans hbA;clear hct hbA)
  go_loopw [5] (fun i wr=>∃(k:Nat),k≤8∧i=.int .i64 (k:Int)∧Hid (X=inWord zs T (startL.drop k) s)∧Hid (∀k,k<8→wr.cell? ⟨w.heap.size,k,none⟩=some (.string (startL.getD k ByteArray.empty)))∧Hid (Below w.heap.size w wr)) (fun i _=>8-(intOf i).toNat)
  case atStart=>exact ⟨0,by omega,rfl,HX2,CT,BA⟩
  case round =>
   obtain ⟨k,hk,rfl,HK,HC,HB⟩:=hrel
   by_cases hlt:k<8
   ·have cell:=HC.out k hlt
    have i1:(k:Int)<8:=by omega
    obtain ⟨t,ht⟩:∃t,t=startL.getD k ByteArray.empty:=⟨_,rfl⟩
    rw [← ht] at cell
    have HT2:Hid (startL.getD k ByteArray.empty=t):=ht.symm
    clear ht
    have I1:Hid (Calls Tryz.prog 55 #[.pointer (some ⟨g,0,none⟩),.string t] wr fun e w'=>e=.returned (.bool (isP zs T s t))∧Below wr.heap.size wr w'):=IS.out wr t HB.out
    cases hi:isP zs T s t
    ·have HE:Hid (X=inWord zs T (startL.drop (k+1)) s):=by show _=_;rw [HK.out,inWord_step hlt (by rw [HT2.out];exact hi)]
     rw [hi] at I1
     clear hi
     go_wp2_with (go_at_call 55;refine Calls.mono I1.out ?_;rintro e w4 ⟨rfl,hb⟩;have B4:Hid (Below w.heap.size w w4):=HB.out.trans (hb.mono HB.out.size);have C4:Hid (∀k,k<8→w4.cell? ⟨w.heap.size,k,none⟩=some (.string (startL.getD k ByteArray.empty))):=(fun k hk=>cellB (HC.out k hk) hb);clear hb)
     go_roundw
     case rel=>exact ⟨k+1,by omega,by go_num,HE,C4,B4⟩
     case measure=>simp [intOf];omega
    ·have HE:Hid (X=true):=by show _=_;rw [HK.out,inWord_hit hlt (by rw [HT2.out];exact hi)]
     rw [hi] at I1
     clear hi
     go_wp2_with (go_at_call 55;refine Calls.mono I1.out ?_;rintro e w4 ⟨rfl,hb⟩;have B4:Hid (Below w.heap.size w w4):=HB.out.trans (hb.mono HB.out.size);clear hb)
     go_returns
     exact ⟨by rw [HE.out];rfl,B4.out⟩
   ·obtain rfl:k=8:=by omega
    have HE:Hid (X=false):=by show _=_;rw [HK.out];rfl
    go_wp2
    go_returns
    exact ⟨by rw [HE.out];rfl,HB.out⟩
end ps
end Go.Proofs.YtkmiagkehcflnaaGreatDoor
