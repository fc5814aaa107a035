import Derived.Test.YtkmiagkehcflnaaGreatDoorMLexRead
import Derived.Test.YtkmiagkehcflnaaGreatDoorMTrLc
import Derived.Test.YtkmiagkehcflnaaGreatDoorMTrMeth
set_option maxRecDepth 100000
set_option maxHeartbeats 8000000
namespace Go.Proofs.YtkmiagkehcflnaaGreatDoor
namespace vt
open Go.RowKit bts nod lex
theorem wkind_in {s:ByteArray} (h:isIn words s=true):wkind s=4:=by unfold wkind;rw [if_pos h]
theorem wkind_out {s:ByteArray} (h:isIn words s=false):wkind s=1:=by unfold wkind;rw [if_neg (by rw [h];decide)]
theorem part_whole (zs:List Int):lex.part zs 0 zs.length=zs:=by unfold lex.part;rw [List.drop_zero,List.take_length]
theorem digit_letter {c:Int} (h:digit c=true):letter c=false:=by
 unfold digit at h
 simp only [Bool.and_eq_true,decide_eq_true_eq] at h
 exact letter_no (by omega)
theorem span_first {zs:List Int} (h:0<span alnum zs 0):alnum (zs.getD 0 0)=true:=by
 cases hc:alnum (zs.getD 0 0) with
 |true=>rfl
 |false=>rw [span_stop hc] at h;omega
theorem iName_any (v:Value) (zs:List Int) (w:World) (h:RcV w v zs) (hm:zs.length≤1048576):Calls Tryz.prog 176 #[v] w fun e w'=>e=.returned (.bool (isName zs))∧w'=w:=by
 obtain ⟨ao,cap,rfl,hcap,hc2,hr,hb⟩:=h
 obtain ⟨n,hn⟩:∃n,n=zs.length:=⟨_,rfl⟩
 rw [← hn] at hcap hm ⊢
 by_cases h0:n=0
 ·have HN:Hid (isName zs=false):=by show _=_;unfold isName;rw [← hn,decide_eq_false (by omega)];rfl
  subst h0
  clear hr hb hn
  go_enter Tryz.func176,Tryz.ntmps176
  go_wp2_with fail
  go_ret
  exact ⟨ret_bool HN.out.symm,rfl⟩
 have d0:((n:Int)==0)=false:=by simp;omega
 by_cases h1:5000<n
 ·have HN:Hid (isName zs=false):=by show _=_;unfold isName;rw [← hn,decide_eq_false (show ¬n≤5000 by omega)];simp
  have d1:decide ((5000:Int)<(n:Int))=true:=by simp;omega
  clear hr hb hn
  go_enter Tryz.func176,Tryz.ntmps176
  go_wp2_with fail
  go_ret
  exact ⟨ret_bool HN.out.symm,rfl⟩
 have d1:decide ((5000:Int)<(n:Int))=false:=by simp;omega
 obtain ⟨b,off,rfl,hbw,hcell⟩:=hr.at (show 0<zs.length by omega)
 have hc0:=hcell 0 (by omega)
 rw [Nat.add_zero] at hc0
 have CD:=isDigit_any (zs.getD 0 0) w
 have CW:=readWord_any b off cap n zs w hcell hn.symm hcap hc2 hm
 have hpos:(0:Int)<(n:Int):=by omega
 cases hd:digit (zs.getD 0 0) with
 |true =>
  have HN:Hid (isName zs=false):=by show _=_;unfold isName;rw [digit_letter hd];simp
  rw [hd] at CD
  generalize zs.getD 0 0=z at CD hc0
  clear hr hb hn CW hcell hd
  go_enter Tryz.func176,Tryz.ntmps176
  go_wp2_with fail
  refine CD.mono ?_
  rintro e w' ⟨rfl,hw⟩
  replace hw:=hw.symm
  subst hw
  clear CD
  go_wp2_with fail
  go_ret
  exact ⟨ret_bool HN.out.symm,rfl⟩
 |false =>
  rw [hd] at CD
  have HN:Hid (isName zs=((wkind (strOfNums (lex.part zs 0 (span alnum zs 0)))==1)&&((span alnum zs 0:Int)==(n:Int)))):=by
   show _=_
   by_cases hs:span alnum zs 0=n
   ·have hl:letter (zs.getD 0 0)=true:=by
     have:=span_first (zs:=zs) (by omega)
     unfold alnum at this
     rw [hd,Bool.or_false] at this
     exact this
    unfold isName
    rw [hs,hn,part_whole,hl,decide_eq_true (show 0<zs.length by omega),decide_eq_true (show zs.length≤5000 by omega),decide_eq_true rfl]
    cases hw:isIn words (strOfNums zs) with
    |true=>rw [wkind_in hw];rfl
    |false=>rw [wkind_out hw];simp
   ·unfold isName
    rw [decide_eq_false (show ¬span alnum zs 0=zs.length by omega),show ((span alnum zs 0:Int)==(n:Int))=false by simp;omega]
    simp
  generalize wkind (strOfNums (lex.part zs 0 (span alnum zs 0)))=kw at CW HN
  generalize span alnum zs 0=sp at CW HN
  generalize zs.getD 0 0=z at CD hc0
  clear hr hb hn hcell hd
  by_cases hkw:kw=1
  ·subst hkw
   go_enter Tryz.func176,Tryz.ntmps176
   go_wp2_with fail
   refine CD.mono ?_
   rintro e w' ⟨rfl,hw⟩
   replace hw:=hw.symm
   subst hw
   clear CD
   go_wp2_with fail
   refine CW.mono ?_
   rintro e w' ⟨rfl,hw⟩
   replace hw:=hw.symm
   subst hw
   clear CW
   go_wp2_with fail
   go_ret
   exact ⟨ret_bool (by rw [HN.out];simp),rfl⟩
  ·have hk:(kw==1)=false:=by simp;exact hkw
   go_enter Tryz.func176,Tryz.ntmps176
   go_wp2_with fail
   refine CD.mono ?_
   rintro e w' ⟨rfl,hw⟩
   replace hw:=hw.symm
   subst hw
   clear CD
   go_wp2_with fail
   refine CW.mono ?_
   rintro e w' ⟨rfl,hw⟩
   replace hw:=hw.symm
   subst hw
   clear CW
   go_wp2_with fail
   go_ret
   exact ⟨ret_bool (by rw [HN.out,hk];rfl),rfl⟩
theorem name_size {l:List (List Int)} {i:Nat} (h:i<l.length) (hs:sizeSS l≤1048576):(l.getD i []).length≤1048576:=by
 have h1:=lens_succ (l:=l) (k:=i) h
 have h2:=lens_le l (l.length-(i+1)) (i+1) (by omega)
 unfold sizeSS at hs
 omega
theorem named_no {nn:Int} {tx:List Int} {nms:List (List Int)} {lo hi:Nat} (h:¬(nn=0∧tx.length=0∧lo≤nms.length∧nms.length≤hi)):named nn tx nms lo hi=false:=by
 rw [Bool.eq_false_iff]
 intro hc
 unfold named at hc
 simp only [Bool.and_eq_true,decide_eq_true_eq,beq_iff_eq] at hc
 exact h ⟨hc.1,hc.2.1,hc.2.2.1,hc.2.2.2.1⟩
theorem named_name {nn:Int} {tx:List Int} {nms:List (List Int)} {lo hi k:Nat} (hk:k<nms.length) (h:isName (nms.getD k [])=false):named nn tx nms lo hi=false:=by
 have:nms.all isName=false:=by
  rw [Bool.eq_false_iff]
  intro ha
  rw [List.all_eq_true] at ha
  have e:nms.getD k []=nms[k]:=by simp [List.getD_eq_getElem?_getD,List.getElem?_eq_getElem hk]
  rw [e,ha _ (List.getElem_mem hk)] at h
  cases h
 unfold named;rw [this];simp
theorem named_yes {nn:Int} {tx:List Int} {nms:List (List Int)} {lo hi:Nat} (h:nn=0∧tx.length=0∧lo≤nms.length∧nms.length≤hi) (hn:∀j,j<nms.length→isName (nms.getD j [])=true):named nn tx nms lo hi=true:=by
 have:nms.all isName=true:=by
  rw [List.all_eq_true]
  intro x hx
  obtain ⟨k,hk,rfl⟩:=List.getElem_of_mem hx
  have:=hn k hk
  have e:nms.getD k []=nms[k]:=by simp [List.getD_eq_getElem?_getD,List.getElem?_eq_getElem hk]
  rwa [e] at this
 unfold named
 rw [this,decide_eq_true h.2.1,decide_eq_true h.2.2.1,decide_eq_true h.2.2.2,h.1];rfl
theorem named_any (g:Nat) (d:Nd) (ao:Option Addr) (m cap:Nat) (at_ an:Option Addr) (ca cn lo hi:Nat) (w:World) (N:Node6 w g d ao m cap at_ an ca cn) (hm:RcVV w (.slice an d.names.length cn) d.names) (hsz:d.text.length+sizeSS d.names≤1048576) (_hlo:lo≤60) (_hhi:hi≤60) :
  Calls Tryz.prog 175 #[.pointer (some ⟨g,0,none⟩),.int .i64 lo,.int .i64 hi] w fun e w'=>e=.returned (.bool (named d.n d.text d.names lo hi))∧w'=w:=by
 obtain ⟨c0,c1,c2,c3,c4,c5⟩:=N
 have hq:sizeSS d.names≤1048576:=by omega
 have hqn:d.names.length≤1048576:=by unfold sizeSS at hq;omega
 by_cases h1:¬(d.n=0)
 ·have HN:Hid (named d.n d.text d.names lo hi=false):=named_no (fun h=>h1 h.1)
  have e1:(d.n != 0)=true:=bne_iff_ne.mpr h1
  generalize named d.n d.text d.names lo hi=rr at HN ⊢
  generalize d.n=nn at *
  clear hm hsz
  go_enter Tryz.func175,Tryz.ntmps175
  go_wp2_with fail
  go_ret
  exact ⟨ret_bool HN.out.symm,rfl⟩
 replace h1:d.n=0:=Decidable.of_not_not h1
 by_cases h2:¬(d.text.length=0)
 ·have HN:Hid (named d.n d.text d.names lo hi=false):=named_no (fun h=>h2 h.2.1)
  have e2:0<d.text.length:=by omega
  have e3:decide ((0:Int)<(d.text.length:Int))=true:=by simp;omega
  generalize named d.n d.text d.names lo hi=rr at HN ⊢
  rw [h1] at c1
  generalize d.text.length=pp at *
  clear hm hsz h1
  go_enter Tryz.func175,Tryz.ntmps175
  go_wp2_with fail
  go_ret
  exact ⟨ret_bool HN.out.symm,rfl⟩
 replace h2:d.text.length=0:=Decidable.of_not_not h2
 by_cases h3:¬(lo≤d.names.length)
 ·have HN:Hid (named d.n d.text d.names lo hi=false):=named_no (fun h=>h3 h.2.2.1)
  have e2:decide (d.names.length<lo)=true:=by simp;omega
  have e3:decide ((d.names.length:Int)<(lo:Int))=true:=by simp;omega
  generalize named d.n d.text d.names lo hi=rr at HN ⊢
  rw [h1] at c1
  rw [h2] at c2
  generalize d.names.length=pp at *
  clear hm hsz h1 h2 h3
  go_enter Tryz.func175,Tryz.ntmps175
  go_wp2_with fail
  go_ret
  exact ⟨ret_bool HN.out.symm,rfl⟩
 replace h3:lo≤d.names.length:=Decidable.of_not_not h3
 by_cases h4:¬(d.names.length≤hi)
 ·have HN:Hid (named d.n d.text d.names lo hi=false):=named_no (fun h=>h4 h.2.2.2)
  have e2:decide (d.names.length<lo)=false:=by simp;omega
  have e3:decide ((d.names.length:Int)<(lo:Int))=false:=by simp;omega
  have e4:decide (hi<d.names.length)=true:=by simp;omega
  have e5:decide ((hi:Int)<(d.names.length:Int))=true:=by simp;omega
  generalize named d.n d.text d.names lo hi=rr at HN ⊢
  rw [h1] at c1
  rw [h2] at c2
  generalize d.names.length=pp at *
  clear hm hsz h1 h2 h3 h4
  go_enter Tryz.func175,Tryz.ntmps175
  go_wp2_with fail
  go_ret
  exact ⟨ret_bool HN.out.symm,rfl⟩
 replace h4:d.names.length≤hi:=Decidable.of_not_not h4
 have e2:decide (d.names.length<lo)=false:=by simp;omega
 have e3:decide ((d.names.length:Int)<(lo:Int))=false:=by simp;omega
 have e4:decide (hi<d.names.length)=false:=by simp;omega
 have e5:decide ((hi:Int)<(d.names.length:Int))=false:=by simp;omega
 have HOK:Hid (d.n=0∧d.text.length=0∧lo≤d.names.length∧d.names.length≤hi):=⟨h1,h2,h3,h4⟩
 have HM:Hid (RcVV w (.slice an d.names.length cn) d.names):=hm
 have HQ:Hid (sizeSS d.names≤1048576):=hq
 obtain ⟨rr,hrr⟩:∃rr,rr=named d.n d.text d.names lo hi:=⟨_,rfl⟩
 rw [← hrr]
 have HRR:Hid (rr=named d.n d.text d.names lo hi):=hrr
 rw [h1] at c1
 rw [h2] at c2
 obtain ⟨q,hqq⟩:∃q,q=d.names.length:=⟨_,rfl⟩
 have HQQ:Hid (q=d.names.length):=hqq
 rw [← hqq] at e2 e3 e4 e5 c3 hqn
 clear hm hsz h1 h2 h3 h4 hq hrr hqq
 go_enter Tryz.func175,Tryz.ntmps175
 go_wp2_with fail
 go_loopw [50] (fun x wr=>∃(k:Nat),k≤q∧x=.int .i64 k∧Hid (∀j,j<k→isName (d.names.getD j [])=true)∧wr=w) (fun x _=>q-(intOf x).toNat)
 case atStart=>exact ⟨0,by omega,rfl,fun j hj=>absurd hj (by omega),rfl⟩
 case round =>
  obtain ⟨k,hk,rfl,HA,rfl⟩:=hrel
  by_cases hkq:k<q
  ·obtain ⟨ao2,cap2,eq2,_,_,hx⟩:=HM.out
   simp only [Value.slice.injEq] at eq2
   obtain ⟨rfl,_,rfl⟩:=eq2
   obtain ⟨b,off,u,eu,hcu,hru⟩:=hx k (by have:=HQQ.out;omega)
   subst eu
   have CN:=iName_any u (d.names.getD k []) wr hru (name_size (by have:=HQQ.out;omega) HQ.out)
   obtain ⟨a3,c3',rfl,_⟩:=hru
   have HB:Hid (isName (d.names.getD k [])=isName (d.names.getD k [])):=rfl
   generalize hbb:isName (d.names.getD k [])=bb at CN
   generalize (d.names.getD k []).length=ln at *
   clear hx
   go_wp2_with fail
   refine CN.mono ?_
   rintro e w' ⟨rfl,hw⟩
   replace hw:=hw.symm
   subst hw
   clear CN
   cases bb with
   |false =>
    go_wp2_with fail
    go_ret
    refine ⟨ret_bool ?_,rfl⟩
    rw [HRR.out,named_name (by have:=HQQ.out;omega) hbb]
   |true =>
    go_wp2_with fail
    go_roundw
    case rel =>
     refine ⟨k+1,by omega,by go_num,fun j hj=>?_,trivial⟩
     by_cases hjk:j<k
     ·exact HA.out j hjk
     ·have:j=k:=by omega
      subst this
      exact hbb
    case measure=>simp [intOf];omega
  ·have hkq2:k=q:=by omega
   subst hkq2
   go_wp2_with fail
   go_ret
   refine ⟨ret_bool ?_,rfl⟩
   rw [HRR.out,named_yes HOK.out (fun j hj=>HA.out j (by have:=HQQ.out;omega))]
theorem plain_any (g:Nat) (d:Nd) (ao:Option Addr) (m cap:Nat) (at_ an:Option Addr) (ca cn:Nat) (w:World) (N:Node6 w g d ao m cap at_ an ca cn) (hm:RcVV w (.slice an d.names.length cn) d.names) (hsz:d.text.length+sizeSS d.names≤1048576) :
  Calls Tryz.prog 173 #[.pointer (some ⟨g,0,none⟩)] w fun e w'=>e=.returned (.bool (named d.n d.text d.names 0 0))∧w'=w:=by
 have C:=named_any g d ao m cap at_ an ca cn 0 0 w N hm hsz (by omega) (by omega)
 generalize named d.n d.text d.names 0 0=rr at C ⊢
 clear N hm hsz
 go_enter Tryz.func173,Tryz.ntmps173
 go_wp2_with fail
 refine C.mono ?_
 rintro e w' ⟨rfl,hw⟩
 replace hw:=hw.symm
 subst hw
 clear C
 go_wp2_with fail
 go_ret
 exact ⟨rfl,rfl⟩
theorem numbered_any (g:Nat) (d:Nd) (ao:Option Addr) (m cap:Nat) (at_ an:Option Addr) (ca cn:Nat) (lo hi:Int) (w:World) (N:Node6 w g d ao m cap at_ an ca cn) (hsz:d.text.length+sizeSS d.names≤1048576) :
  Calls Tryz.prog 187 #[.pointer (some ⟨g,0,none⟩),.int .i64 lo,.int .i64 hi] w fun e w'=>e=.returned (.bool (numbered d.n d.text d.names lo hi))∧w'=w:=by
 obtain ⟨c0,c1,c2,c3,c4,c5⟩:=N
 have hp:d.text.length≤1048576:=by omega
 have hq:d.names.length≤1048576:=by unfold sizeSS at hsz;omega
 unfold numbered
 generalize d.n=nn at *
 generalize d.text.length=p at *
 generalize d.names.length=q at *
 clear hsz
 by_cases h1:lo≤nn
 ·by_cases h2:nn≤hi
  ·have e1:decide (lo≤nn)=true:=decide_eq_true h1
   have e2:decide (nn≤hi)=true:=decide_eq_true h2
   by_cases h3:p=0
   ·subst h3
    go_enter Tryz.func187,Tryz.ntmps187
    go_wp2_with fail
    go_ret
    refine ⟨ret_bool ?_,rfl⟩
    rw [e1,e2]
    by_cases h4:q=0
    ·subst h4;rfl
    ·rw [decide_eq_false h4];simp [h4]
   ·have e3:((p:Int)==0)=false:=by simp;omega
    go_enter Tryz.func187,Tryz.ntmps187
    go_wp2_with fail
    go_ret
    exact ⟨ret_bool (by rw [decide_eq_false h3];simp),rfl⟩
  ·have e1:decide (lo≤nn)=true:=decide_eq_true h1
   have e2:decide (nn≤hi)=false:=decide_eq_false h2
   go_enter Tryz.func187,Tryz.ntmps187
   go_wp2_with fail
   go_ret
   exact ⟨ret_bool (by first|rfl|(rw [e2];simp)),rfl⟩
 ·have e1:decide (lo≤nn)=false:=decide_eq_false h1
  go_enter Tryz.func187,Tryz.ntmps187
  go_wp2_with fail
  go_ret
  exact ⟨ret_bool (by first|rfl|(rw [e1];rfl)),rfl⟩
theorem ta_no {r:Nat} {ks:List Int} {lo hi:Nat} (h:¬(lo≤ks.length∧ks.length≤hi)):takesAll r ks lo hi=false:=by
 rw [Bool.eq_false_iff]
 intro hc
 unfold takesAll at hc
 simp only [Bool.and_eq_true,decide_eq_true_eq] at hc
 exact h ⟨hc.1,hc.2.1⟩
theorem allB_iff {p:Int→Bool} {ks:List Int}:ks.all p=true↔∀k,k<ks.length→p (ks.getD k 0)=true:=by
 rw [List.all_eq_true]
 constructor
 ·intro h k hk
  have e:ks.getD k 0=ks[k]:=by simp [List.getD_eq_getElem?_getD,List.getElem?_eq_getElem hk]
  rw [e];exact h _ (List.getElem_mem hk)
 ·intro h x hx
  obtain ⟨k,hk,rfl⟩:=List.getElem_of_mem hx
  have:=h k hk
  have e:ks.getD k 0=ks[k]:=by simp [List.getD_eq_getElem?_getD,List.getElem?_eq_getElem hk]
  rwa [e] at this
theorem ta_at {r:Nat} {ks:List Int} {lo hi k:Nat} (hk:k<ks.length) (h:takes r (ks.getD k 0)=false):takesAll r ks lo hi=false:=by
 rw [Bool.eq_false_iff]
 intro hc
 unfold takesAll at hc
 simp only [Bool.and_eq_true] at hc
 rw [allB_iff.1 hc.2.2 k hk] at h
 cases h
theorem ta_yes {r:Nat} {ks:List Int} {lo hi:Nat} (h:lo≤ks.length∧ks.length≤hi) (ha:∀k,k<ks.length→takes r (ks.getD k 0)=true):takesAll r ks lo hi=true:=by
 unfold takesAll
 rw [decide_eq_true h.1,decide_eq_true h.2,allB_iff.2 ha];rfl
theorem takesAll_any (r:Nat) (hr:r≤5) (v:Value) (ts:List Int) (lo hi:Nat) (w:World) (h:RepS w v ts) (_hlo:lo≤10000) (_hhi:hi≤10000) :
  Calls Tryz.prog 174 #[.int .i64 r,v,.int .i64 lo,.int .i64 hi] w fun e w'=>e=.returned (.bool (takesAll r ts lo hi))∧Below w.heap.size w w':=by
 have HS:Hid (RepS w v ts):=h
 obtain ⟨ao,cap,rfl,h1,h2,h3,hx⟩:=h
 obtain ⟨m,hm⟩:∃m,m=ts.length:=⟨_,rfl⟩
 rw [← hm] at h1 h3 HS ⊢
 by_cases hb:¬(lo≤m∧m≤hi)
 ·have HN:Hid (takesAll r ts lo hi=false):=ta_no (by rw [← hm];exact hb)
  clear hx HS
  by_cases h4:m<lo
  ·have e2:decide (m<lo)=true:=by simp;omega
   have e3:decide ((m:Int)<(lo:Int))=true:=by simp;omega
   go_enter Tryz.func174,Tryz.ntmps174
   go_wp2_with fail
   go_ret
   exact ⟨ret_bool HN.out.symm,Below.refl _ _⟩
  ·have e2:decide (m<lo)=false:=by simp;omega
   have e3:decide ((m:Int)<(lo:Int))=false:=by simp;omega
   have e4:decide (hi<m)=true:=by simp;omega
   have e5:decide ((hi:Int)<(m:Int))=true:=by simp;omega
   go_enter Tryz.func174,Tryz.ntmps174
   go_wp2_with fail
   go_ret
   exact ⟨ret_bool HN.out.symm,Below.refl _ _⟩
 replace hb:lo≤m∧m≤hi:=Decidable.of_not_not hb
 have e2:decide (m<lo)=false:=by simp;omega
 have e3:decide ((m:Int)<(lo:Int))=false:=by simp;omega
 have e4:decide (hi<m)=false:=by simp;omega
 have e5:decide ((hi:Int)<(m:Int))=false:=by simp;omega
 obtain ⟨rr,hrr⟩:∃rr,rr=takesAll r ts lo hi:=⟨_,rfl⟩
 rw [← hrr]
 have HRR:Hid (rr=takesAll r ts lo hi):=hrr
 have HL:Hid (lo≤ts.length∧ts.length≤hi):=by show _∧_;rw [← hm];exact hb
 have HM:Hid (m=ts.length):=hm
 clear hx hrr hm hb
 go_enter Tryz.func174,Tryz.ntmps174
 go_wp2_with fail
 go_loopw [23] (fun x wr=>∃(k:Nat),k≤m∧x=.int .i64 k∧Hid (∀j,j<k→takes r (ts.getD j 0)=true)∧Below w.heap.size w wr) (fun x _=>m-(intOf x).toNat)
 case atStart=>exact ⟨0,by omega,rfl,fun j hj=>absurd hj (by omega),Below.refl _ _⟩
 case round =>
  obtain ⟨k,hk,rfl,HA,hbel⟩:=hrel
  by_cases hkq:k<m
  ·obtain ⟨ao2,cap2,eq2,_,_,_,hx⟩:=HS.out.kept hbel
   simp only [Value.slice.injEq] at eq2
   obtain ⟨rfl,hml,rfl⟩:=eq2
   clear hml
   obtain ⟨b,off,u,eu,hcu,D',t',hru,hkt⟩:=hx k (by have:=HM.out;omega)
   subst eu
   have CN:=takes_any r hr hru
   rw [hkt] at CN
   obtain ⟨bb,hbb⟩:∃bb,bb=takes r (ts.getD k 0):=⟨_,rfl⟩
   rw [← hbb] at CN
   have HB:Hid (bb=takes r (ts.getD k 0)):=hbb
   have HBel:Hid (Below w.heap.size w wr):=hbel
   obtain ⟨T,gg,rfl⟩:∃T g,u=.iface T (.pointer (some ⟨g,0,none⟩)):=by obtain ⟨g,_,_,_,_,_,_,e,_⟩:=hru.open;exact ⟨_,g,e⟩
   clear hbb hkt
   clear hx hru hbel
   go_wp2_with fail
   refine CN.mono ?_
   rintro e w' ⟨rfl,hw⟩
   clear CN
   have HB2:Hid (Below w.heap.size w w'):=HBel.out.trans (hw.mono HBel.out.size)
   clear hw
   cases bb with
   |false =>
    go_wp2_with fail
    go_ret
    refine ⟨ret_bool ?_,HB2.out⟩
    rw [HRR.out,ta_at (by have:=HM.out;omega) HB.out.symm]
   |true =>
    go_wp2_with fail
    go_roundw
    case rel =>
     refine ⟨k+1,by omega,by go_num,fun j hj=>?_,HB2.out⟩
     by_cases hjk:j<k
     ·exact HA.out j hjk
     ·have:j=k:=by omega
      subst this
      exact HB.out.symm
    case measure=>simp [intOf];omega
  ·have hkq2:k=m:=by omega
   subst hkq2
   go_wp2_with fail
   go_ret
   refine ⟨ret_bool ?_,hbel⟩
   rw [HRR.out,ta_yes HL.out (fun j hj=>HA.out j (by have:=HM.out;omega))]
theorem hd_no {rs:List Nat} {ks:List Int} (h:¬rs.length=ks.length):holds rs ks=false:=by
 rw [Bool.eq_false_iff]
 intro hc
 exact h (holds_iff.1 hc).1
theorem hd_at {rs:List Nat} {ks:List Int} {k:Nat} (hk:k<ks.length) (h:takes (rs.getD k 0) (ks.getD k 0)=false):holds rs ks=false:=by
 rw [Bool.eq_false_iff]
 intro hc
 rw [(holds_iff.1 hc).2 k hk] at h
 cases h
def RolesAt (w:World) (ra:Option Addr) (rs:List Nat):Prop:=∀k,k<rs.length→∃b off,ra=some ⟨b,off,none⟩∧w.cell? ⟨b,off+k,none⟩=some (.int .i64 (rs.getD k 0:Nat))∧rs.getD k 0≤5
theorem RolesAt.kept {w w':World} {ra:Option Addr} {rs:List Nat} (h:RolesAt w ra rs) (hb:Below w.heap.size w w'):RolesAt w' ra rs:=by
 intro k hk
 obtain ⟨b,off,e,hc,h5⟩:=h k hk
 exact ⟨b,off,e,(hb.cell (p:=⟨b,off+k,none⟩) (World.block_lt_of_cell? _ _ hc)).trans hc,h5⟩
theorem holds_any (g:Nat) (d:Nd) (ao:Option Addr) (cap:Nat) (at_ an:Option Addr) (ca cn:Nat) (w:World) (ts:List Int) (N:Node6 w g d ao ts.length cap at_ an ca cn) (h:RepS w (.slice ao ts.length cap) ts) (ra:Option Addr) (rs:List Nat) (hr:RolesAt w ra rs) (_hrs:rs.length≤4) :
  Calls Tryz.prog 183 #[.pointer (some ⟨g,0,none⟩),.slice ra rs.length rs.length] w fun e w'=>e=.returned (.bool (holds rs ts))∧Below w.heap.size w w':=by
 have HN:Hid (Node6 w g d ao ts.length cap at_ an ca cn):=N
 have HS:Hid (RepS w (.slice ao ts.length cap) ts):=h
 have HR:Hid (RolesAt w ra rs):=hr
 obtain ⟨c0,c1,c2,c3,c4,c5⟩:=N
 obtain ⟨ao',cap',_,h1,h2,h3,_⟩:=h
 obtain ⟨m,hm⟩:∃m,m=ts.length:=⟨_,rfl⟩
 obtain ⟨n,hn⟩:∃n,n=rs.length:=⟨_,rfl⟩
 rw [← hm] at h3 HN c5
 rw [← hn]
 by_cases hb:¬(m=n)
 ·have HF:Hid (holds rs ts=false):=hd_no (by rw [← hm,← hn];exact fun e=>hb e.symm)
  have e1:((m:Int) != (n:Int))=true:=by simp;omega
  generalize holds rs ts=rr at HF ⊢
  clear h1 h2 HS HR HN
  go_enter Tryz.func183,Tryz.ntmps183
  go_wp2_with fail
  go_ret
  exact ⟨ret_bool HF.out.symm,Below.refl _ _⟩
 replace hb:m=n:=Decidable.of_not_not hb
 obtain ⟨rr,hrr⟩:∃rr,rr=holds rs ts:=⟨_,rfl⟩
 rw [← hrr]
 have HRR:Hid (rr=holds rs ts):=hrr
 have HM:Hid (m=ts.length∧m=rs.length):=⟨hm,by omega⟩
 rw [← hb]
 have e1:((m:Int) != (m:Int))=false:=by simp
 clear hrr hm hb hn h1 h2 hr c0 c1 c2 c3 c4
 go_enter Tryz.func183,Tryz.ntmps183
 go_wp2_with fail
 go_loopw [17] (fun x wr=>∃(k:Nat),k≤m∧x=.int .i64 k∧Hid (∀j,j<k→takes (rs.getD j 0) (ts.getD j 0)=true)∧Below w.heap.size w wr) (fun x _=>m-(intOf x).toNat)
 case atStart=>exact ⟨0,by omega,rfl,fun j hj=>absurd hj (by omega),Below.refl _ _⟩
 case round =>
  obtain ⟨k,hk,rfl,HA,hbel⟩:=hrel
  by_cases hkq:k<m
  ·obtain ⟨ao2,cap2,eq2,_,_,_,hx⟩:=HS.out.kept hbel
   simp only [Value.slice.injEq] at eq2
   obtain ⟨rfl,hml,rfl⟩:=eq2
   clear hml
   obtain ⟨b,off,u,eu,hcu,D',t',hru,hkt⟩:=hx k (by have:=HM.out;omega)
   subst eu
   obtain ⟨b2,off2,eu,hcr,h5⟩:=(HR.out.kept hbel) k (by have:=HM.out;omega)
   subst eu
   have q5:=(HN.out.below hbel).c5
   have CN:=takes_any (rs.getD k 0) h5 hru
   rw [hkt] at CN
   obtain ⟨bb,hbb⟩:∃bb,bb=takes (rs.getD k 0) (ts.getD k 0):=⟨_,rfl⟩
   rw [← hbb] at CN
   have HB:Hid (bb=takes (rs.getD k 0) (ts.getD k 0)):=hbb
   have HBel:Hid (Below w.heap.size w wr):=hbel
   obtain ⟨T,gg,rfl⟩:∃T g,u=.iface T (.pointer (some ⟨g,0,none⟩)):=by obtain ⟨g,_,_,_,_,_,_,e,_⟩:=hru.open;exact ⟨_,g,e⟩
   clear hbb hkt
   generalize rs.getD k 0=rk at CN hcr
   have i1:(k:Int)<(m:Int):=by omega
   clear hx hru hbel c5 h5
   go_wp2_with fail
   refine CN.mono ?_
   rintro e w' ⟨rfl,hw⟩
   clear CN
   have HB2:Hid (Below w.heap.size w w'):=HBel.out.trans (hw.mono HBel.out.size)
   clear hw
   cases bb with
   |false =>
    go_wp2_with fail
    go_ret
    refine ⟨ret_bool ?_,HB2.out⟩
    rw [HRR.out,hd_at (by have:=HM.out;omega) HB.out.symm]
   |true =>
    go_wp2_with fail
    go_roundw
    case rel =>
     refine ⟨k+1,by omega,by go_num,fun j hj=>?_,HB2.out⟩
     by_cases hjk:j<k
     ·exact HA.out j hjk
     ·have:j=k:=by omega
      subst this
      exact HB.out.symm
    case measure=>simp [intOf];omega
  ·have hkq2:k=m:=by omega
   subst hkq2
   go_wp2_with fail
   go_ret
   refine ⟨ret_bool ?_,hbel⟩
   rw [HRR.out,holds_iff.2 ⟨by have:=HM.out;omega,fun j hj=>HA.out j (by have:=HM.out;omega)⟩]
theorem roles_new (W:World) (rs:List Nat) (t:TypeId) (h5:∀k,k<rs.length→rs.getD k 0≤5):RolesAt (W.alloc (.cells (rs.map fun r=>Value.int .i64 (r:Nat)).toArray t)) (some ⟨W.heap.size,0,none⟩) rs:=by
 intro k hk
 refine ⟨W.heap.size,0,rfl,?_,h5 k hk⟩
 have hh:=heap_alloc_new W (.cells (rs.map fun r=>Value.int .i64 (r:Nat)).toArray t)
 unfold World.cell?
 rw [hh]
 simp [hk,List.getD_eq_getElem?_getD]
theorem roles_none (W:World) (ra:Option Addr):RolesAt W ra []:=fun k hk=>absurd hk (by simp)
theorem ft3 (g:Nat) (d:Nd) (ao:Option Addr) (cap:Nat) (at_ an:Option Addr) (ca cn:Nat) (w:World) (ts:List Int) (N:Node6 w g d ao ts.length cap at_ an ca cn) (hm:RcVV w (.slice an d.names.length cn) d.names) (hsz:d.text.length+sizeSS d.names≤1048576) (h:RepS w (.slice ao ts.length cap) ts) :
  Calls Tryz.prog 191 #[.pointer (some ⟨g,0,none⟩)] w fun e w'=>e=.returned (.bool (named d.n d.text d.names 0 0&&holds [0] ts))∧Below w.heap.size w w':=by
 have P:=plain_any g d ao ts.length cap at_ an ca cn w N hm hsz
 have c5:=N.c5
 have HN:Hid (Node6 w g d ao ts.length cap at_ an ca cn):=N
 have HS:Hid (RepS w (.slice ao ts.length cap) ts):=h
 generalize named d.n d.text d.names 0 0=nb at P ⊢
 clear N hm hsz h
 cases nb with
 |false =>
  go_enter Tryz.func191,Tryz.ntmps191
  go_wp2_with fail
  refine P.mono ?_
  rintro e w' ⟨rfl,hw⟩
  replace hw:=hw.symm
  subst hw
  clear P
  go_wp2_with fail
  go_ret
  exact ⟨rfl,Below.refl _ _⟩
 |true =>
  go_enter Tryz.func191,Tryz.ntmps191
  go_wp2_with fail
  refine P.mono ?_
  rintro e w' ⟨rfl,hw⟩
  replace hw:=hw.symm
  subst hw
  clear P
  go_wp2_with fail
  have hb1:Hid (Below w.heap.size w (w.alloc (.cells #[.int .i64 0] 93))):=(Below.refl _ _).alloc (Nat.le_refl _) _
  refine (holds_any g d ao cap at_ an ca cn _ ts (HN.out.below hb1.out) (HS.out.kept hb1.out) _ [0] (roles_new w [0] _ (by decide)) (by decide)).mono ?_
  rintro e w1 ⟨rfl,hw1⟩
  have HB:Hid (Below w.heap.size w w1):=hb1.out.trans (hw1.mono hb1.out.size)
  clear hw1
  go_wp2_with fail
  go_ret
  exact ⟨ret_bool (by simp),HB.out⟩
theorem ft4 (g:Nat) (d:Nd) (ao:Option Addr) (cap:Nat) (at_ an:Option Addr) (ca cn:Nat) (w:World) (ts:List Int) (N:Node6 w g d ao ts.length cap at_ an ca cn) (hm:RcVV w (.slice an d.names.length cn) d.names) (hsz:d.text.length+sizeSS d.names≤1048576) (h:RepS w (.slice ao ts.length cap) ts) :
  Calls Tryz.prog 194 #[.pointer (some ⟨g,0,none⟩)] w fun e w'=>e=.returned (.bool (named d.n d.text d.names 0 0&&holds [2,0] ts))∧Below w.heap.size w w':=by
 have P:=plain_any g d ao ts.length cap at_ an ca cn w N hm hsz
 have c5:=N.c5
 have HN:Hid (Node6 w g d ao ts.length cap at_ an ca cn):=N
 have HS:Hid (RepS w (.slice ao ts.length cap) ts):=h
 generalize named d.n d.text d.names 0 0=nb at P ⊢
 clear N hm hsz h
 cases nb with
 |false =>
  go_enter Tryz.func194,Tryz.ntmps194
  go_wp2_with fail
  refine P.mono ?_
  rintro e w' ⟨rfl,hw⟩
  replace hw:=hw.symm
  subst hw
  clear P
  go_wp2_with fail
  go_ret
  exact ⟨rfl,Below.refl _ _⟩
 |true =>
  go_enter Tryz.func194,Tryz.ntmps194
  go_wp2_with fail
  refine P.mono ?_
  rintro e w' ⟨rfl,hw⟩
  replace hw:=hw.symm
  subst hw
  clear P
  go_wp2_with fail
  have hb1:Hid (Below w.heap.size w (w.alloc (.cells #[.int .i64 2,.int .i64 0] 93))):=(Below.refl _ _).alloc (Nat.le_refl _) _
  refine (holds_any g d ao cap at_ an ca cn _ ts (HN.out.below hb1.out) (HS.out.kept hb1.out) _ [2,0] (roles_new w [2,0] _ (by decide)) (by decide)).mono ?_
  rintro e w1 ⟨rfl,hw1⟩
  have HB:Hid (Below w.heap.size w w1):=hb1.out.trans (hw1.mono hb1.out.size)
  clear hw1
  go_wp2_with fail
  go_ret
  exact ⟨ret_bool (by simp),HB.out⟩
theorem ft5 (g:Nat) (d:Nd) (ao:Option Addr) (cap:Nat) (at_ an:Option Addr) (ca cn:Nat) (w:World) (ts:List Int) (N:Node6 w g d ao ts.length cap at_ an ca cn) (hm:RcVV w (.slice an d.names.length cn) d.names) (hsz:d.text.length+sizeSS d.names≤1048576) (h:RepS w (.slice ao ts.length cap) ts) :
  Calls Tryz.prog 197 #[.pointer (some ⟨g,0,none⟩)] w fun e w'=>e=.returned (.bool (named d.n d.text d.names 0 0&&holds [0,2] ts))∧Below w.heap.size w w':=by
 have P:=plain_any g d ao ts.length cap at_ an ca cn w N hm hsz
 have c5:=N.c5
 have HN:Hid (Node6 w g d ao ts.length cap at_ an ca cn):=N
 have HS:Hid (RepS w (.slice ao ts.length cap) ts):=h
 generalize named d.n d.text d.names 0 0=nb at P ⊢
 clear N hm hsz h
 cases nb with
 |false =>
  go_enter Tryz.func197,Tryz.ntmps197
  go_wp2_with fail
  refine P.mono ?_
  rintro e w' ⟨rfl,hw⟩
  replace hw:=hw.symm
  subst hw
  clear P
  go_wp2_with fail
  go_ret
  exact ⟨rfl,Below.refl _ _⟩
 |true =>
  go_enter Tryz.func197,Tryz.ntmps197
  go_wp2_with fail
  refine P.mono ?_
  rintro e w' ⟨rfl,hw⟩
  replace hw:=hw.symm
  subst hw
  clear P
  go_wp2_with fail
  have hb1:Hid (Below w.heap.size w (w.alloc (.cells #[.int .i64 0,.int .i64 2] 93))):=(Below.refl _ _).alloc (Nat.le_refl _) _
  refine (holds_any g d ao cap at_ an ca cn _ ts (HN.out.below hb1.out) (HS.out.kept hb1.out) _ [0,2] (roles_new w [0,2] _ (by decide)) (by decide)).mono ?_
  rintro e w1 ⟨rfl,hw1⟩
  have HB:Hid (Below w.heap.size w w1):=hb1.out.trans (hw1.mono hb1.out.size)
  clear hw1
  go_wp2_with fail
  go_ret
  exact ⟨ret_bool (by simp),HB.out⟩
theorem ft8 (g:Nat) (d:Nd) (ao:Option Addr) (cap:Nat) (at_ an:Option Addr) (ca cn:Nat) (w:World) (ts:List Int) (N:Node6 w g d ao ts.length cap at_ an ca cn) (hm:RcVV w (.slice an d.names.length cn) d.names) (hsz:d.text.length+sizeSS d.names≤1048576) (h:RepS w (.slice ao ts.length cap) ts) :
  Calls Tryz.prog 206 #[.pointer (some ⟨g,0,none⟩)] w fun e w'=>e=.returned (.bool (named d.n d.text d.names 0 0&&holds [] ts))∧Below w.heap.size w w':=by
 have P:=plain_any g d ao ts.length cap at_ an ca cn w N hm hsz
 have c5:=N.c5
 have HN:Hid (Node6 w g d ao ts.length cap at_ an ca cn):=N
 have HS:Hid (RepS w (.slice ao ts.length cap) ts):=h
 generalize named d.n d.text d.names 0 0=nb at P ⊢
 clear N hm hsz h
 cases nb with
 |false =>
  go_enter Tryz.func206,Tryz.ntmps206
  go_wp2_with fail
  refine P.mono ?_
  rintro e w' ⟨rfl,hw⟩
  replace hw:=hw.symm
  subst hw
  clear P
  go_wp2_with fail
  go_ret
  exact ⟨rfl,Below.refl _ _⟩
 |true =>
  go_enter Tryz.func206,Tryz.ntmps206
  go_wp2_with fail
  refine P.mono ?_
  rintro e w' ⟨rfl,hw⟩
  replace hw:=hw.symm
  subst hw
  clear P
  go_wp2_with fail
  refine (holds_any g d ao cap at_ an ca cn _ ts HN.out HS.out none [] (roles_none _ _) (by decide)).mono ?_
  rintro e w1 ⟨rfl,hw1⟩
  have HB:Hid (Below w.heap.size w w1):=hw1
  clear hw1
  go_wp2_with fail
  go_ret
  exact ⟨ret_bool (by simp),HB.out⟩
theorem ft10 (g:Nat) (d:Nd) (ao:Option Addr) (cap:Nat) (at_ an:Option Addr) (ca cn:Nat) (w:World) (ts:List Int) (N:Node6 w g d ao ts.length cap at_ an ca cn) (hm:RcVV w (.slice an d.names.length cn) d.names) (hsz:d.text.length+sizeSS d.names≤1048576) (h:RepS w (.slice ao ts.length cap) ts) :
  Calls Tryz.prog 212 #[.pointer (some ⟨g,0,none⟩)] w fun e w'=>e=.returned (.bool (named d.n d.text d.names 0 0&&holds [4] ts))∧Below w.heap.size w w':=by
 have P:=plain_any g d ao ts.length cap at_ an ca cn w N hm hsz
 have c5:=N.c5
 have HN:Hid (Node6 w g d ao ts.length cap at_ an ca cn):=N
 have HS:Hid (RepS w (.slice ao ts.length cap) ts):=h
 generalize named d.n d.text d.names 0 0=nb at P ⊢
 clear N hm hsz h
 cases nb with
 |false =>
  go_enter Tryz.func212,Tryz.ntmps212
  go_wp2_with fail
  refine P.mono ?_
  rintro e w' ⟨rfl,hw⟩
  replace hw:=hw.symm
  subst hw
  clear P
  go_wp2_with fail
  go_ret
  exact ⟨rfl,Below.refl _ _⟩
 |true =>
  go_enter Tryz.func212,Tryz.ntmps212
  go_wp2_with fail
  refine P.mono ?_
  rintro e w' ⟨rfl,hw⟩
  replace hw:=hw.symm
  subst hw
  clear P
  go_wp2_with fail
  have hb1:Hid (Below w.heap.size w (w.alloc (.cells #[.int .i64 4] 93))):=(Below.refl _ _).alloc (Nat.le_refl _) _
  refine (holds_any g d ao cap at_ an ca cn _ ts (HN.out.below hb1.out) (HS.out.kept hb1.out) _ [4] (roles_new w [4] _ (by decide)) (by decide)).mono ?_
  rintro e w1 ⟨rfl,hw1⟩
  have HB:Hid (Below w.heap.size w w1):=hb1.out.trans (hw1.mono hb1.out.size)
  clear hw1
  go_wp2_with fail
  go_ret
  exact ⟨ret_bool (by simp),HB.out⟩
theorem ftW (g:Nat) (d:Nd) (ao:Option Addr) (cap:Nat) (at_ an:Option Addr) (ca cn:Nat) (w:World) (ts:List Int) (N:Node6 w g d ao ts.length cap at_ an ca cn) (hm:RcVV w (.slice an d.names.length cn) d.names) (hsz:d.text.length+sizeSS d.names≤1048576) (h:RepS w (.slice ao ts.length cap) ts) :
  Calls Tryz.prog 243 #[.pointer (some ⟨g,0,none⟩)] w fun e w'=>e=.returned (.bool (named d.n d.text d.names 0 0&&holds [] ts))∧Below w.heap.size w w':=by
 have P:=plain_any g d ao ts.length cap at_ an ca cn w N hm hsz
 have c5:=N.c5
 have HN:Hid (Node6 w g d ao ts.length cap at_ an ca cn):=N
 have HS:Hid (RepS w (.slice ao ts.length cap) ts):=h
 generalize named d.n d.text d.names 0 0=nb at P ⊢
 clear N hm hsz h
 cases nb with
 |false =>
  go_enter Tryz.func243,Tryz.ntmps243
  go_wp2_with fail
  refine P.mono ?_
  rintro e w' ⟨rfl,hw⟩
  replace hw:=hw.symm
  subst hw
  clear P
  go_wp2_with fail
  go_ret
  exact ⟨rfl,Below.refl _ _⟩
 |true =>
  go_enter Tryz.func243,Tryz.ntmps243
  go_wp2_with fail
  refine P.mono ?_
  rintro e w' ⟨rfl,hw⟩
  replace hw:=hw.symm
  subst hw
  clear P
  go_wp2_with fail
  refine (holds_any g d ao cap at_ an ca cn _ ts HN.out HS.out none [] (roles_none _ _) (by decide)).mono ?_
  rintro e w1 ⟨rfl,hw1⟩
  have HB:Hid (Below w.heap.size w w1):=hw1
  clear hw1
  go_wp2_with fail
  go_ret
  exact ⟨ret_bool (by simp),HB.out⟩
theorem ft17 (g:Nat) (d:Nd) (ao:Option Addr) (cap:Nat) (at_ an:Option Addr) (ca cn:Nat) (w:World) (ts:List Int) (N:Node6 w g d ao ts.length cap at_ an ca cn) (hm:RcVV w (.slice an d.names.length cn) d.names) (hsz:d.text.length+sizeSS d.names≤1048576) (h:RepS w (.slice ao ts.length cap) ts) :
  Calls Tryz.prog 224 #[.pointer (some ⟨g,0,none⟩)] w fun e w'=>e=.returned (.bool (named d.n d.text d.names 0 0&&holds [2,2] ts))∧Below w.heap.size w w':=by
 have P:=plain_any g d ao ts.length cap at_ an ca cn w N hm hsz
 have c5:=N.c5
 have HN:Hid (Node6 w g d ao ts.length cap at_ an ca cn):=N
 have HS:Hid (RepS w (.slice ao ts.length cap) ts):=h
 generalize named d.n d.text d.names 0 0=nb at P ⊢
 clear N hm hsz h
 cases nb with
 |false =>
  go_enter Tryz.func224,Tryz.ntmps224
  go_wp2_with fail
  refine P.mono ?_
  rintro e w' ⟨rfl,hw⟩
  replace hw:=hw.symm
  subst hw
  clear P
  go_wp2_with fail
  go_ret
  exact ⟨rfl,Below.refl _ _⟩
 |true =>
  go_enter Tryz.func224,Tryz.ntmps224
  go_wp2_with fail
  refine P.mono ?_
  rintro e w' ⟨rfl,hw⟩
  replace hw:=hw.symm
  subst hw
  clear P
  go_wp2_with fail
  have hb1:Hid (Below w.heap.size w (w.alloc (.cells #[.int .i64 2,.int .i64 2] 93))):=(Below.refl _ _).alloc (Nat.le_refl _) _
  refine (holds_any g d ao cap at_ an ca cn _ ts (HN.out.below hb1.out) (HS.out.kept hb1.out) _ [2,2] (roles_new w [2,2] _ (by decide)) (by decide)).mono ?_
  rintro e w1 ⟨rfl,hw1⟩
  have HB:Hid (Below w.heap.size w w1):=hb1.out.trans (hw1.mono hb1.out.size)
  clear hw1
  go_wp2_with fail
  go_ret
  exact ⟨ret_bool (by simp),HB.out⟩
theorem ftU (g:Nat) (d:Nd) (ao:Option Addr) (cap:Nat) (at_ an:Option Addr) (ca cn:Nat) (w:World) (ts:List Int) (N:Node6 w g d ao ts.length cap at_ an ca cn) (hm:RcVV w (.slice an d.names.length cn) d.names) (hsz:d.text.length+sizeSS d.names≤1048576) (h:RepS w (.slice ao ts.length cap) ts) :
  Calls Tryz.prog 240 #[.pointer (some ⟨g,0,none⟩)] w fun e w'=>e=.returned (.bool (named d.n d.text d.names 0 0&&holds [2] ts))∧Below w.heap.size w w':=by
 have P:=plain_any g d ao ts.length cap at_ an ca cn w N hm hsz
 have c5:=N.c5
 have HN:Hid (Node6 w g d ao ts.length cap at_ an ca cn):=N
 have HS:Hid (RepS w (.slice ao ts.length cap) ts):=h
 generalize named d.n d.text d.names 0 0=nb at P ⊢
 clear N hm hsz h
 cases nb with
 |false =>
  go_enter Tryz.func240,Tryz.ntmps240
  go_wp2_with fail
  refine P.mono ?_
  rintro e w' ⟨rfl,hw⟩
  replace hw:=hw.symm
  subst hw
  clear P
  go_wp2_with fail
  go_ret
  exact ⟨rfl,Below.refl _ _⟩
 |true =>
  go_enter Tryz.func240,Tryz.ntmps240
  go_wp2_with fail
  refine P.mono ?_
  rintro e w' ⟨rfl,hw⟩
  replace hw:=hw.symm
  subst hw
  clear P
  go_wp2_with fail
  have hb1:Hid (Below w.heap.size w (w.alloc (.cells #[.int .i64 2] 93))):=(Below.refl _ _).alloc (Nat.le_refl _) _
  refine (holds_any g d ao cap at_ an ca cn _ ts (HN.out.below hb1.out) (HS.out.kept hb1.out) _ [2] (roles_new w [2] _ (by decide)) (by decide)).mono ?_
  rintro e w1 ⟨rfl,hw1⟩
  have HB:Hid (Below w.heap.size w w1):=hb1.out.trans (hw1.mono hb1.out.size)
  clear hw1
  go_wp2_with fail
  go_ret
  exact ⟨ret_bool (by simp),HB.out⟩
theorem ft26 (g:Nat) (d:Nd) (ao:Option Addr) (cap:Nat) (at_ an:Option Addr) (ca cn:Nat) (w:World) (ts:List Int) (N:Node6 w g d ao ts.length cap at_ an ca cn) (hm:RcVV w (.slice an d.names.length cn) d.names) (hsz:d.text.length+sizeSS d.names≤1048576) (h:RepS w (.slice ao ts.length cap) ts) :
  Calls Tryz.prog 181 #[.pointer (some ⟨g,0,none⟩)] w fun e w'=>e=.returned (.bool (named d.n d.text d.names 1 1&&holds [5] ts))∧Below w.heap.size w w':=by
 have P:=named_any g d ao ts.length cap at_ an ca cn 1 1 w N hm hsz (by omega) (by omega)
 have c5:=N.c5
 have HN:Hid (Node6 w g d ao ts.length cap at_ an ca cn):=N
 have HS:Hid (RepS w (.slice ao ts.length cap) ts):=h
 generalize named d.n d.text d.names 1 1=nb at P ⊢
 clear N hm hsz h
 cases nb with
 |false =>
  go_enter Tryz.func181,Tryz.ntmps181
  go_wp2_with fail
  refine P.mono ?_
  rintro e w' ⟨rfl,hw⟩
  replace hw:=hw.symm
  subst hw
  clear P
  go_wp2_with fail
  go_ret
  exact ⟨rfl,Below.refl _ _⟩
 |true =>
  go_enter Tryz.func181,Tryz.ntmps181
  go_wp2_with fail
  refine P.mono ?_
  rintro e w' ⟨rfl,hw⟩
  replace hw:=hw.symm
  subst hw
  clear P
  go_wp2_with fail
  have hb1:Hid (Below w.heap.size w (w.alloc (.cells #[.int .i64 5] 93))):=(Below.refl _ _).alloc (Nat.le_refl _) _
  refine (holds_any g d ao cap at_ an ca cn _ ts (HN.out.below hb1.out) (HS.out.kept hb1.out) _ [5] (roles_new w [5] _ (by decide)) (by decide)).mono ?_
  rintro e w1 ⟨rfl,hw1⟩
  have HB:Hid (Below w.heap.size w w1):=hb1.out.trans (hw1.mono hb1.out.size)
  clear hw1
  go_wp2_with fail
  go_ret
  exact ⟨ret_bool (by simp),HB.out⟩
theorem ft16 (g:Nat) (d:Nd) (ao:Option Addr) (cap:Nat) (at_ an:Option Addr) (ca cn:Nat) (w:World) (ts:List Int) (N:Node6 w g d ao ts.length cap at_ an ca cn) (hm:RcVV w (.slice an d.names.length cn) d.names) (hsz:d.text.length+sizeSS d.names≤1048576) (h:RepS w (.slice ao ts.length cap) ts) :
  Calls Tryz.prog 221 #[.pointer (some ⟨g,0,none⟩)] w fun e w'=>e=.returned (.bool (named d.n d.text d.names 1 1&&holds [] ts))∧Below w.heap.size w w':=by
 have P:=named_any g d ao ts.length cap at_ an ca cn 1 1 w N hm hsz (by omega) (by omega)
 have c5:=N.c5
 have HN:Hid (Node6 w g d ao ts.length cap at_ an ca cn):=N
 have HS:Hid (RepS w (.slice ao ts.length cap) ts):=h
 generalize named d.n d.text d.names 1 1=nb at P ⊢
 clear N hm hsz h
 cases nb with
 |false =>
  go_enter Tryz.func221,Tryz.ntmps221
  go_wp2_with fail
  refine P.mono ?_
  rintro e w' ⟨rfl,hw⟩
  replace hw:=hw.symm
  subst hw
  clear P
  go_wp2_with fail
  go_ret
  exact ⟨rfl,Below.refl _ _⟩
 |true =>
  go_enter Tryz.func221,Tryz.ntmps221
  go_wp2_with fail
  refine P.mono ?_
  rintro e w' ⟨rfl,hw⟩
  replace hw:=hw.symm
  subst hw
  clear P
  go_wp2_with fail
  refine (holds_any g d ao cap at_ an ca cn _ ts HN.out HS.out none [] (roles_none _ _) (by decide)).mono ?_
  rintro e w1 ⟨rfl,hw1⟩
  have HB:Hid (Below w.heap.size w w1):=hw1
  clear hw1
  go_wp2_with fail
  go_ret
  exact ⟨ret_bool (by simp),HB.out⟩
theorem ft19 (g:Nat) (d:Nd) (ao:Option Addr) (cap:Nat) (at_ an:Option Addr) (ca cn:Nat) (w:World) (ts:List Int) (N:Node6 w g d ao ts.length cap at_ an ca cn) (hm:RcVV w (.slice an d.names.length cn) d.names) (hsz:d.text.length+sizeSS d.names≤1048576) (h:RepS w (.slice ao ts.length cap) ts) :
  Calls Tryz.prog 230 #[.pointer (some ⟨g,0,none⟩)] w fun e w'=>e=.returned (.bool (named d.n d.text d.names 0 50&&holds [0] ts))∧Below w.heap.size w w':=by
 have P:=named_any g d ao ts.length cap at_ an ca cn 0 50 w N hm hsz (by omega) (by omega)
 have c5:=N.c5
 have HN:Hid (Node6 w g d ao ts.length cap at_ an ca cn):=N
 have HS:Hid (RepS w (.slice ao ts.length cap) ts):=h
 generalize named d.n d.text d.names 0 50=nb at P ⊢
 clear N hm hsz h
 cases nb with
 |false =>
  go_enter Tryz.func230,Tryz.ntmps230
  go_wp2_with fail
  refine P.mono ?_
  rintro e w' ⟨rfl,hw⟩
  replace hw:=hw.symm
  subst hw
  clear P
  go_wp2_with fail
  go_ret
  exact ⟨rfl,Below.refl _ _⟩
 |true =>
  go_enter Tryz.func230,Tryz.ntmps230
  go_wp2_with fail
  refine P.mono ?_
  rintro e w' ⟨rfl,hw⟩
  replace hw:=hw.symm
  subst hw
  clear P
  go_wp2_with fail
  have hb1:Hid (Below w.heap.size w (w.alloc (.cells #[.int .i64 0] 93))):=(Below.refl _ _).alloc (Nat.le_refl _) _
  refine (holds_any g d ao cap at_ an ca cn _ ts (HN.out.below hb1.out) (HS.out.kept hb1.out) _ [0] (roles_new w [0] _ (by decide)) (by decide)).mono ?_
  rintro e w1 ⟨rfl,hw1⟩
  have HB:Hid (Below w.heap.size w w1):=hb1.out.trans (hw1.mono hb1.out.size)
  clear hw1
  go_wp2_with fail
  go_ret
  exact ⟨ret_bool (by simp),HB.out⟩
theorem ft1 (g:Nat) (d:Nd) (ao:Option Addr) (cap:Nat) (at_ an:Option Addr) (ca cn:Nat) (w:World) (ts:List Int) (N:Node6 w g d ao ts.length cap at_ an ca cn) (hm:RcVV w (.slice an d.names.length cn) d.names) (hsz:d.text.length+sizeSS d.names≤1048576) (h:RepS w (.slice ao ts.length cap) ts) :
  Calls Tryz.prog 178 #[.pointer (some ⟨g,0,none⟩)] w fun e w'=>e=.returned (.bool (named d.n d.text d.names 1 50&&takesAll 2 ts 0 50))∧Below w.heap.size w w':=by
 have P:=named_any g d ao ts.length cap at_ an ca cn 1 50 w N hm hsz (by omega) (by omega)
 have c5:=N.c5
 have HN:Hid (Node6 w g d ao ts.length cap at_ an ca cn):=N
 have HS:Hid (RepS w (.slice ao ts.length cap) ts):=h
 generalize named d.n d.text d.names 1 50=nb at P ⊢
 clear N hm hsz h
 cases nb with
 |false =>
  go_enter Tryz.func178,Tryz.ntmps178
  go_wp2_with fail
  refine P.mono ?_
  rintro e w' ⟨rfl,hw⟩
  replace hw:=hw.symm
  subst hw
  clear P
  go_wp2_with fail
  go_ret
  exact ⟨rfl,Below.refl _ _⟩
 |true =>
  go_enter Tryz.func178,Tryz.ntmps178
  go_wp2_with fail
  refine P.mono ?_
  rintro e w' ⟨rfl,hw⟩
  replace hw:=hw.symm
  subst hw
  clear P
  go_wp2_with fail
  refine (takesAll_any 2 (by omega) _ ts 0 50 w HS.out (by omega) (by omega)).mono ?_
  rintro e w1 ⟨rfl,hw1⟩
  have HB:Hid (Below w.heap.size w w1):=hw1
  clear hw1
  go_wp2_with fail
  go_ret
  exact ⟨ret_bool (by simp),HB.out⟩
theorem ft9 (g:Nat) (d:Nd) (ao:Option Addr) (cap:Nat) (at_ an:Option Addr) (ca cn:Nat) (w:World) (ts:List Int) (N:Node6 w g d ao ts.length cap at_ an ca cn) (hm:RcVV w (.slice an d.names.length cn) d.names) (hsz:d.text.length+sizeSS d.names≤1048576) (h:RepS w (.slice ao ts.length cap) ts) :
  Calls Tryz.prog 209 #[.pointer (some ⟨g,0,none⟩)] w fun e w'=>e=.returned (.bool (named d.n d.text d.names 0 0&&takesAll 2 ts 0 50))∧Below w.heap.size w w':=by
 have P:=plain_any g d ao ts.length cap at_ an ca cn w N hm hsz
 have c5:=N.c5
 have HN:Hid (Node6 w g d ao ts.length cap at_ an ca cn):=N
 have HS:Hid (RepS w (.slice ao ts.length cap) ts):=h
 generalize named d.n d.text d.names 0 0=nb at P ⊢
 clear N hm hsz h
 cases nb with
 |false =>
  go_enter Tryz.func209,Tryz.ntmps209
  go_wp2_with fail
  refine P.mono ?_
  rintro e w' ⟨rfl,hw⟩
  replace hw:=hw.symm
  subst hw
  clear P
  go_wp2_with fail
  go_ret
  exact ⟨rfl,Below.refl _ _⟩
 |true =>
  go_enter Tryz.func209,Tryz.ntmps209
  go_wp2_with fail
  refine P.mono ?_
  rintro e w' ⟨rfl,hw⟩
  replace hw:=hw.symm
  subst hw
  clear P
  go_wp2_with fail
  refine (takesAll_any 2 (by omega) _ ts 0 50 w HS.out (by omega) (by omega)).mono ?_
  rintro e w1 ⟨rfl,hw1⟩
  have HB:Hid (Below w.heap.size w w1):=hw1
  clear hw1
  go_wp2_with fail
  go_ret
  exact ⟨ret_bool (by simp),HB.out⟩
theorem ft18 (g:Nat) (d:Nd) (ao:Option Addr) (cap:Nat) (at_ an:Option Addr) (ca cn:Nat) (w:World) (ts:List Int) (N:Node6 w g d ao ts.length cap at_ an ca cn) (hm:RcVV w (.slice an d.names.length cn) d.names) (hsz:d.text.length+sizeSS d.names≤1048576) (h:RepS w (.slice ao ts.length cap) ts) :
  Calls Tryz.prog 227 #[.pointer (some ⟨g,0,none⟩)] w fun e w'=>e=.returned (.bool (named d.n d.text d.names 0 0&&takesAll 2 ts 1 51))∧Below w.heap.size w w':=by
 have P:=plain_any g d ao ts.length cap at_ an ca cn w N hm hsz
 have c5:=N.c5
 have HN:Hid (Node6 w g d ao ts.length cap at_ an ca cn):=N
 have HS:Hid (RepS w (.slice ao ts.length cap) ts):=h
 generalize named d.n d.text d.names 0 0=nb at P ⊢
 clear N hm hsz h
 cases nb with
 |false =>
  go_enter Tryz.func227,Tryz.ntmps227
  go_wp2_with fail
  refine P.mono ?_
  rintro e w' ⟨rfl,hw⟩
  replace hw:=hw.symm
  subst hw
  clear P
  go_wp2_with fail
  go_ret
  exact ⟨rfl,Below.refl _ _⟩
 |true =>
  go_enter Tryz.func227,Tryz.ntmps227
  go_wp2_with fail
  refine P.mono ?_
  rintro e w' ⟨rfl,hw⟩
  replace hw:=hw.symm
  subst hw
  clear P
  go_wp2_with fail
  refine (takesAll_any 2 (by omega) _ ts 1 51 w HS.out (by omega) (by omega)).mono ?_
  rintro e w1 ⟨rfl,hw1⟩
  have HB:Hid (Below w.heap.size w w1):=hw1
  clear hw1
  go_wp2_with fail
  go_ret
  exact ⟨ret_bool (by simp),HB.out⟩
end vt
end Go.Proofs.YtkmiagkehcflnaaGreatDoor
