import Derived.Laws.BytesArg
import Derived.Test.YtkmiagkehcflnaaGreatDoorMIpTab
import Derived.Test.YtkmiagkehcflnaaGreatDoorMIpClone
set_option maxRecDepth 100000
set_option maxHeartbeats 8000000
namespace Go.Proofs.YtkmiagkehcflnaaGreatDoor
namespace lex
open Go.RowKit bts scn lit
def letter (c:Int):Bool:=(decide (97≤c)&&decide (c≤122)) || (decide (65≤c)&&decide (c≤90)) || (c==95)
def digit (c:Int):Bool:=decide (48≤c)&&decide (c≤57)
def alnum (c:Int):Bool:=letter c || digit c
def span (p:Int→Bool) (zs:List Int) (k:Nat):Nat:=((zs.drop k).takeWhile p).length
theorem span_step {p:Int→Bool} {zs:List Int} {k:Nat} (h:k<zs.length) (hp:p (zs.getD k 0)=true):span p zs k=span p zs (k+1)+1:=by
 unfold span;rw [drop_cons h,List.takeWhile_cons,if_pos hp,List.length_cons]
theorem span_stop {p:Int→Bool} {zs:List Int} {k:Nat} (hp:p (zs.getD k 0)=false):span p zs k=0:=by
 by_cases h:k<zs.length
 ·unfold span;rw [drop_cons h,List.takeWhile_cons,if_neg (by rw [hp];decide)];rfl
 ·unfold span;rw [List.drop_of_length_le (by omega)];rfl
theorem span_end {p:Int→Bool} {zs:List Int} {k:Nat} (h:zs.length≤k):span p zs k=0:=by
 unfold span;rw [List.drop_of_length_le h];rfl
theorem span_le (p:Int→Bool) (zs:List Int) (k:Nat):span p zs k≤zs.length-k:=by
 unfold span
 have:=(List.takeWhile_sublist p (l:=zs.drop k)).length_le
 rwa [List.length_drop] at this
def words:List ByteArray:=[{data:=#[97,110,100]},{data:=#[98,114,101,97,107]},{data:=#[100,111]},{data:=#[101,108,115,101]},{data:=#[101,108,115,101,105,102]},{data:=#[101,110,100]},{data:=#[102,97,108,115,101]},{data:=#[102,111,114]},{data:=#[102,117,110,99,116,105,111,110]},{data:=#[105,102]},{data:=#[108,111,99,97,108]},{data:=#[110,105,108]},{data:=#[110,111,116]},{data:=#[111,114]},{data:=#[114,101,112,101,97,116]},{data:=#[114,101,116,117,114,110]},{data:=#[116,104,101,110]},{data:=#[116,114,117,101]},{data:=#[117,110,116,105,108]},{data:=#[119,104,105,108,101]}]
def signs:List ByteArray:=[{data:=#[61,61]},{data:=#[126,61]},{data:=#[60,61]},{data:=#[62,61]},{data:=#[47,47]},{data:=#[46,46]},{data:=#[43]},{data:=#[45]},{data:=#[42]},{data:=#[37]},{data:=#[60]},{data:=#[62]},{data:=#[61]},{data:=#[40]},{data:=#[41]},{data:=#[123]},{data:=#[125]},{data:=#[91]},{data:=#[93]},{data:=#[59]},{data:=#[44]},{data:=#[46]}]
def isIn (l:List ByteArray) (s:ByteArray):Bool:=l.any fun x=>x.toList==s.toList
theorem isIn_step {l:List ByteArray} {s:ByteArray} {k:Nat} (h:k<l.length) (hne:((l.getD k ByteArray.empty).toList==s.toList)=false):isIn (l.drop k) s=isIn (l.drop (k+1)) s:=by
 rw [List.drop_eq_getElem_cons h]
 have e:l.getD k ByteArray.empty=l[k]:=by simp [List.getD_eq_getElem?_getD,List.getElem?_eq_getElem h]
 rw [e] at hne
 simp only [isIn,List.any_cons,hne,Bool.false_or]
theorem isIn_hit {l:List ByteArray} {s:ByteArray} {k:Nat} (h:k<l.length) (he:((l.getD k ByteArray.empty).toList==s.toList)=true):isIn (l.drop k) s=true:=by
 rw [List.drop_eq_getElem_cons h]
 have e:l.getD k ByteArray.empty=l[k]:=by simp [List.getD_eq_getElem?_getD,List.getElem?_eq_getElem h]
 rw [e] at he
 simp only [isIn,List.any_cons,he,Bool.true_or]
def part (zs:List Int) (k n:Nat):List Int:=(zs.drop k).take n
theorem part_len {zs:List Int} {k n:Nat} (h:k+n≤zs.length):(part zs k n).length=n:=by unfold part;rw [List.length_take,List.length_drop];omega
theorem part_getD {zs:List Int} {k n i:Nat} (hi:i<n):(part zs k n).getD i 0=zs.getD (k+i) 0:=by
 simp [part,List.getD_eq_getElem?_getD,List.getElem?_drop,hi]
theorem part_bts {zs:List Int} (hb:Bts zs) (k n:Nat):Bts (part zs k n):=by
 intro i
 by_cases hi:i<n
 ·rw [part_getD hi];exact hb _
 ·have:(part zs k n).getD i 0=0:=by
   rw [List.getD_eq_getElem?_getD,List.getElem?_eq_none (by unfold part;rw [List.length_take];omega)];rfl
  rw [this];omega
def stands (zs:List Int) (k:Nat) (s:ByteArray):Bool:=decide (k+s.size≤zs.length)&&((strOfNums (part zs k s.size)).toList==s.toList)
def signLen (zs:List Int) (k:Nat):List ByteArray→Option Nat
 |[]=>none
 |s::r=>if stands zs k s then some s.size else signLen zs k r
def ofLit (k:Nat):Option (List Int×Nat)→Int×Nat×Int
 |none=>(0,0,2)
 |some (_,e)=>(3,e-k,0)
def ofSign:Option Nat→Int×Nat×Int
 |none=>(0,0,2)
 |some n=>(5,n,0)
def tokK (zs:List Int) (k:Nat):Int×Nat×Int :=
 if letter (zs.getD k 0) then (if isIn words (strOfNums (part zs k (span alnum zs k))) then (4,span alnum zs k,0) else (1,span alnum zs k,0))
 else if digit (zs.getD k 0) then (2,span alnum zs k,(scan (part zs k (span alnum zs k))).2)
 else if zs.getD k 0=34∨zs.getD k 0=39 then ofLit k (litAt zs k)
 else ofSign (signLen zs k signs)
def blank (c:Int):Bool:=(c==32) || (c==9) || (c==13) || (c==10)
def notLf (c:Int):Bool:=c != 10
def lxF (zs:List Int):Nat→Nat→List (Int×Nat×Nat)→List (Int×Nat×Nat)×Int×Int
 |0,_,out=>(out,0,0)
 |f+1,k,out=>if k<zs.length then
   (if blank (zs.getD k 0) then lxF zs f (k+1) out
   else if zs.getD k 0=45∧k+1<zs.length∧zs.getD (k+1) 0=45 then
    (if 0<span notLf zs k then lxF zs f (k+span notLf zs k) out else (out,0,0))
   else if (tokK zs k).2.2=0 then
    (if 0<(tokK zs k).2.1 then lxF zs f (k+(tokK zs k).2.1) (out++[((tokK zs k).1,k,(tokK zs k).2.1)]) else (out,0,0))
   else ([],(tokK zs k).2.2,(k:Int)))
  else (out,0,0)
theorem lxF_any {zs:List Int}:∀{f f' k:Nat} {out:List (Int×Nat×Nat)},zs.length-k<f→zs.length-k<f'→lxF zs f k out=lxF zs f' k out:=by
 intro f
 induction f with
 |zero=>intro f' k out h;omega
 |succ f ih =>
  intro f' k out h h'
  obtain ⟨f',rfl⟩:∃g,f'=g+1:=⟨f'-1,by omega⟩
  rw [lxF,lxF]
  by_cases hi:k<zs.length
  ·rw [if_pos hi,if_pos hi,ih (f':=f') (k:=k+1) (by omega) (by omega)]
   by_cases h1:0<span notLf zs k
   ·rw [if_pos h1,if_pos h1,ih (f':=f') (k:=k+span notLf zs k) (by omega) (by omega)]
    by_cases h2:0<(tokK zs k).2.1
    ·rw [if_pos h2,if_pos h2,ih (f':=f') (k:=k+(tokK zs k).2.1) (by omega) (by omega)]
    ·rw [if_neg h2,if_neg h2]
   ·rw [if_neg h1,if_neg h1]
    by_cases h2:0<(tokK zs k).2.1
    ·rw [if_pos h2,if_pos h2,ih (f':=f') (k:=k+(tokK zs k).2.1) (by omega) (by omega)]
    ·rw [if_neg h2,if_neg h2]
  ·rw [if_neg hi,if_neg hi]
def lx (zs:List Int) (k:Nat) (out:List (Int×Nat×Nat)):List (Int×Nat×Nat)×Int×Int:=lxF zs (zs.length+1) k out
theorem lx_eq (zs:List Int) (k:Nat) (out:List (Int×Nat×Nat)):lx zs k out=if k<zs.length then
  (if blank (zs.getD k 0) then lx zs (k+1) out
  else if zs.getD k 0=45∧k+1<zs.length∧zs.getD (k+1) 0=45 then
   (if 0<span notLf zs k then lx zs (k+span notLf zs k) out else (out,0,0))
  else if (tokK zs k).2.2=0 then
   (if 0<(tokK zs k).2.1 then lx zs (k+(tokK zs k).2.1) (out++[((tokK zs k).1,k,(tokK zs k).2.1)]) else (out,0,0))
  else ([],(tokK zs k).2.2,(k:Int)))
 else (out,0,0):=by
 unfold lx
 rw [lxF]
 by_cases hi:k<zs.length
 ·rw [if_pos hi,if_pos hi,lxF_any (f:=zs.length) (f':=zs.length+1) (k:=k+1) (by omega) (by omega)]
  by_cases h1:0<span notLf zs k
  ·rw [if_pos h1,if_pos h1,lxF_any (f:=zs.length) (f':=zs.length+1) (k:=k+span notLf zs k) (by omega) (by omega)]
   by_cases h2:0<(tokK zs k).2.1
   ·rw [if_pos h2,if_pos h2,lxF_any (f:=zs.length) (f':=zs.length+1) (k:=k+(tokK zs k).2.1) (by omega) (by omega)]
   ·rw [if_neg h2,if_neg h2]
  ·rw [if_neg h1,if_neg h1]
   by_cases h2:0<(tokK zs k).2.1
   ·rw [if_pos h2,if_pos h2,lxF_any (f:=zs.length) (f':=zs.length+1) (k:=k+(tokK zs k).2.1) (by omega) (by omega)]
   ·rw [if_neg h2,if_neg h2]
 ·rw [if_neg hi,if_neg hi]
def lexR (zs:List Int):List (Int×Nat×Nat)×Int×Int:=if 6000<zs.length then ([],4,6000) else lx zs 0 []
end lex
namespace ps
open Go.RowKit bts nod lex tk
structure Ps where
 at_:Nat
 bad:Int
 long:Bool
 loop:Bool
section
variable (zs:List Int) (T:List (Int×Nat×Nat))
def over (s:Ps):Bool:=decide (0≤s.bad) || decide (T.length≤s.at_)
def textOf (k:Nat):List Int:=lex.part zs (T.getD k (0,0,0)).2.1 (T.getD k (0,0,0)).2.2
def now (s:Ps):ByteArray:=if over T s then {data:=#[]} else strOfNums (textOf zs T s.at_)
def kindP (s:Ps):Int:=if over T s then 0 else (T.getD s.at_ (0,0,0)).1
def isP (s:Ps) (t:ByteArray):Bool:=(kindP T s==4 || kindP T s==5)&&((now zs T s).toList==t.toList)
def wrong (s:Ps):Ps:=if 0≤s.bad then s else {s with bad:=if s.at_<T.length then ((T.getD s.at_ (0,0,0)).2.1:Int) else (zs.length:Int)}
def step (s:Ps):Ps:={s with at_:=s.at_+1}
def want (s:Ps) (t:ByteArray):Ps:=if isP zs T s t then step s else wrong zs T s
def got (s:Ps) (t:ByteArray):Ps:=if isP zs T s t then step s else s
def nameT (s:Ps):List Int:=if kindP T s=1 then nums (now zs T s) else []
def nameS (s:Ps):Ps:=if kindP T s=1 then {step s with long:=s.long || decide (5000<(now zs T s).size)} else wrong zs T s
end
theorem over_bad {T:List (Int×Nat×Nat)} {s:Ps} (h:0≤s.bad):over T s=true:=by simp [over,h]
theorem over_end {T:List (Int×Nat×Nat)} {s:Ps} (h:T.length≤s.at_):over T s=true:=by simp [over,h]
theorem over_no {T:List (Int×Nat×Nat)} {s:Ps} (h1:¬0≤s.bad) (h2:s.at_<T.length):over T s=false:=by
 simp only [over,Bool.or_eq_false_iff,decide_eq_false_iff_not];omega
theorem over_cases (T:List (Int×Nat×Nat)) (s:Ps):(0≤s.bad∧over T s=true)∨(¬0≤s.bad∧T.length≤s.at_∧over T s=true)∨(¬0≤s.bad∧s.at_<T.length∧over T s=false):=by
 by_cases h:0≤s.bad
 ·exact .inl ⟨h,over_bad h⟩
 ·by_cases h2:T.length≤s.at_
  ·exact .inr (.inl ⟨h,h2,over_end h2⟩)
  ·exact .inr (.inr ⟨h,by omega,over_no h (by omega)⟩)
end ps
end Go.Proofs.YtkmiagkehcflnaaGreatDoor
