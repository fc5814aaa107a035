import Derived.Laws.BytesArg
import Derived.Test.YtkmiagkehcflnaaGreatDoorMTrLc
set_option maxRecDepth 100000
set_option maxHeartbeats 8000000
namespace Go.Proofs.YtkmiagkehcflnaaGreatDoor
namespace vt
open Go.RowKit bts nod lex
theorem l3isName_any (ao:Option Addr) (n cap:Nat) (s:List Int) (w:World) (hl:s.length=n) (hr:Rd w ao s) (hb:Bts s) (hm:n≤1048576) :
  Calls Tryz.prog 95 #[.slice ao n cap] w fun e w'=>e=.returned (.bool (isName s))∧Below w.heap.size w w':=by
 by_cases h0:0<n
 ·obtain ⟨b,off,rfl,hbw,hcell⟩:=hr.at (by omega)
  have hc0:=hcell 0 (by omega)
  rw [Nat.add_zero] at hc0
  have hz:=hb 0
  by_cases h1:n≤5000
  ·have R:=l2run_any b off cap 0 s w hb hcell (by omega) (by omega)
   rw [hl] at R
   have CV:(convert 22 9 (.slice (some ⟨b,off,none⟩) n cap)).run Tryz.prog w=.ok (.string (strOfNums s)) w :=
    run_convert_bytes_arg w 22 5 Tryz.underlying22 Tryz.underlying5 b off n cap s hl (fun i hi=>hcell i (by omega)) 9 Tryz.underlying9
   have WD:=isWord_any (strOfNums s) w
   have LT:=letter_any (s.getD 0 0) hz.1 hz.2 w
   have HN:Hid (isName s=(letter (s.getD 0 0)&&(decide (span alnum s 0=n)&&!isIn words (strOfNums s)))):=by
    show _=_
    unfold isName
    rw [hl,decide_eq_true h0,decide_eq_true h1,Bool.true_and,Bool.true_and]
   generalize letter (s.getD 0 0)=bl at LT HN
   generalize isIn words (strOfNums s)=bw at WD HN
   generalize strOfNums s=str at CV WD
   generalize span alnum s 0=sp at R HN
   generalize s.getD 0 0=z at hc0 hz LT
   clear hcell hr hb hl
   have hd1:decide (n≤5000)=true:=decide_eq_true h1
   have hd0:decide (0<n)=true:=decide_eq_true h0
   cases bl with
   |false =>
    go_enter Tryz.func95,Tryz.ntmps95
    go_wp2_with fail
    refine LT.mono ?_
    rintro e w' ⟨rfl,hw⟩
    replace hw:=hw.symm
    subst hw
    clear LT
    go_wp2_with fail
    go_ret
    exact ⟨ret_bool (by rw [HN.out];rfl),Below.refl _ _⟩
   |true =>
    by_cases hsp:sp=n
    ·subst hsp
     go_enter Tryz.func95,Tryz.ntmps95
     go_wp2_with fail
     refine LT.mono ?_
     rintro e w' ⟨rfl,hw⟩
     replace hw:=hw.symm
     subst hw
     clear LT
     go_wp2_with fail
     refine R.mono ?_
     rintro e w' ⟨rfl,hw⟩
     replace hw:=hw.symm
     subst hw
     clear R
     go_wp2_with fail
     refine WD.mono ?_
     rintro e w1 ⟨rfl,o,rfl⟩
     clear WD
     go_wp2_with fail
     go_ret
     exact ⟨ret_bool (by rw [HN.out];simp),(Below.refl _ _).alloc (Nat.le_refl _) _⟩
    ·have hne:((sp:Int)==(n:Int))=false:=by simp;omega
     go_enter Tryz.func95,Tryz.ntmps95
     go_wp2_with fail
     refine LT.mono ?_
     rintro e w' ⟨rfl,hw⟩
     replace hw:=hw.symm
     subst hw
     clear LT
     go_wp2_with fail
     refine R.mono ?_
     rintro e w' ⟨rfl,hw⟩
     replace hw:=hw.symm
     subst hw
     clear R
     go_wp2_with fail
     go_ret
     exact ⟨ret_bool (by rw [HN.out,decide_eq_false hsp];rfl),Below.refl _ _⟩
  ·have HN:Hid (isName s=false):=by show _=_;unfold isName;rw [hl,decide_eq_false h1];simp
   have hd1:decide (n≤5000)=false:=decide_eq_false h1
   have hd0:decide (0<n)=true:=decide_eq_true h0
   clear hcell hr hb hl
   go_enter Tryz.func95,Tryz.ntmps95
   go_wp2_with fail
   go_ret
   exact ⟨ret_bool (by rw [HN.out]),Below.refl _ _⟩
 ·have HN:Hid (isName s=false):=by show _=_;unfold isName;rw [hl,decide_eq_false h0];rfl
  have hn0:n=0:=by omega
  subst hn0
  clear hr hb hl
  go_enter Tryz.func95,Tryz.ntmps95
  go_wp2_with fail
  go_ret
  exact ⟨ret_bool (by rw [HN.out]),Below.refl _ _⟩
def least (kd:Int):Nat:=if kd=1∨kd=26∨kd=7∨kd=16 then 1 else 0
def most (kd:Int):Nat:=if kd=1 then 50 else if kd=26∨kd=7∨kd=16 then 1 else if kd=19 then 50 else 0
def numOk (kd nn:Int):Bool:=if kd=21 then decide (0≤nn)&&decide (nn≤11) else (kd==2) || ((kd==14) || (nn==0))
def textOk (kd:Int) (p:Nat):Bool:=(decide (kd=15) || decide (p=0))&&decide (p≤5000)
def fieldsB (kd nn:Int) (tx:List Int) (nms:List (List Int)):Bool :=
 decide (least kd≤nms.length)&&(decide (nms.length≤most kd)&&(nms.all isName&&(textOk kd tx.length&&numOk kd nn)))
theorem fB_few {kd nn:Int} {tx:List Int} {nms:List (List Int)} (h:nms.length<least kd):fieldsB kd nn tx nms=false:=by
 unfold fieldsB;rw [decide_eq_false (by omega)];rfl
theorem fB_many {kd nn:Int} {tx:List Int} {nms:List (List Int)} (h:most kd<nms.length):fieldsB kd nn tx nms=false:=by
 unfold fieldsB;rw [decide_eq_false (show ¬nms.length≤most kd by omega)];simp
theorem fB_name {kd nn:Int} {tx:List Int} {nms:List (List Int)} {k:Nat} (hk:k<nms.length) (h:isName (nms.getD k [])=false):fieldsB kd nn tx nms=false:=by
 have:nms.all isName=false:=by
  rw [Bool.eq_false_iff]
  intro ha
  rw [List.all_eq_true] at ha
  have e:nms.getD k []=nms[k]:=by simp [List.getD_eq_getElem?_getD,List.getElem?_eq_getElem hk]
  rw [e,ha _ (List.getElem_mem hk)] at h
  cases h
 unfold fieldsB;rw [this];simp
theorem fB_ok {kd nn:Int} {tx:List Int} {nms:List (List Int)} (h1:least kd≤nms.length) (h2:nms.length≤most kd) (h:∀j,j<nms.length→isName (nms.getD j [])=true):fieldsB kd nn tx nms=(textOk kd tx.length&&numOk kd nn):=by
 have:nms.all isName=true:=by
  rw [List.all_eq_true]
  intro x hx
  obtain ⟨k,hk,rfl⟩:=List.getElem_of_mem hx
  have:=h k hk
  have e:nms.getD k []=nms[k]:=by simp [List.getD_eq_getElem?_getD,List.getElem?_eq_getElem hk]
  rwa [e] at this
 unfold fieldsB;rw [this,decide_eq_true h1,decide_eq_true h2];rfl
theorem fl1 (nn ct:Int) (ut un:Value) (tx:List Int) (nms:List (List Int)) (w:World) (ht:RdV w ut tx) (hn:RdVV w un nms) (hs:tx.length+sizeSS nms≤1048576) :
  Calls Tryz.prog 66 #[.agg #[.int .i64 1,.int .i64 nn,ut,un,.int .i64 ct]] w fun e w'=>e=.returned (.bool (fieldsB 1 nn tx nms))∧Below w.heap.size w w':=by
 have HS:Hid (∀i,i<nms.length→(nms.getD i []).length≤1048576):=by
  intro i hi
  have h1:=lens_succ hi
  have h2:=lens_le nms (nms.length-(i+1)) (i+1) (by omega)
  unfold sizeSS at hs
  omega
 have HR:Hid (RdVV w un nms):=hn
 obtain ⟨at_,ca,rfl,_,_,_⟩:=ht
 obtain ⟨an,cn,rfl,_,_⟩:=hn
 have hp1:tx.length≤1048576:=by omega
 have hm1:nms.length≤1048576:=by unfold sizeSS at hs;omega
 obtain ⟨m,hmm⟩:∃m,m=nms.length:=⟨_,rfl⟩
 obtain ⟨p,hpp⟩:∃p,p=tx.length:=⟨_,rfl⟩
 have HLN:Hid (nms.length=m):=hmm.symm
 have HLT:Hid (tx.length=p):=hpp.symm
 rw [← hmm] at hm1 ⊢
 rw [← hpp] at hp1 ⊢
 clear hmm hpp hs
 have hL:Hid (least 1=1):=rfl
 have hM:Hid (most 1=50):=rfl
 by_cases hlo:m<1
 ·have HF:Hid (fieldsB 1 nn tx nms=false):=fB_few (by rw [hL.out,HLN.out];exact hlo)
  have hm0:m=0:=by omega
  subst hm0
  go_enter Tryz.func66,Tryz.ntmps66
  go_wp2
  go_ret
  exact ⟨ret_bool (by rw [HF.out]),(Below.refl _ _).alloc (Nat.le_refl _) _⟩
 by_cases hhi:50<m
 ·have HF:Hid (fieldsB 1 nn tx nms=false):=fB_many (by rw [hM.out,HLN.out];exact hhi)
  go_enter Tryz.func66,Tryz.ntmps66
  go_wp2
  go_ret
  exact ⟨ret_bool (by rw [HF.out]),(Below.refl _ _).alloc (Nat.le_refl _) _⟩
 have dlo:decide ((m:Int)<1)=false:=by simp;omega
 have dhi:decide ((50:Int)<(m:Int))=false:=by simp;omega
 have HA:Hid (∀wr,Below (w.heap.size+1) (w.alloc (.cells #[.int .i64 1,.int .i64 nn,.slice at_ p ca,.slice an m cn,.int .i64 ct] 61)) wr→wr.cell? ⟨w.heap.size,0,none⟩=some (.int .i64 1)∧wr.cell? ⟨w.heap.size,1,none⟩=some (.int .i64 nn)∧wr.cell? ⟨w.heap.size,2,none⟩=some (.slice at_ p ca)∧wr.cell? ⟨w.heap.size,3,none⟩=some (.slice an m cn)):=by
  intro wr hb
  have hh:=(hb.block w.heap.size (by omega)).trans (heap_alloc_new w _)
  exact ⟨by simp only [World.cell?,hh];rfl,by simp only [World.cell?,hh];rfl,by simp only [World.cell?,hh];rfl,by simp only [World.cell?,hh];rfl⟩
 go_enter Tryz.func66,Tryz.ntmps66
 go_wp2
 go_loopw [5] (fun q wr=>∃(k:Nat),k≤m∧q=.int .i64 k∧Hid (∀j,j<k→isName (nms.getD j [])=true)∧Below (w.heap.size+1) (w.alloc (.cells #[.int .i64 1,.int .i64 nn,.slice at_ p ca,.slice an m cn,.int .i64 ct] 61)) wr) (fun q _=>m-(intOf q).toNat)
 case atStart=>exact ⟨0,Nat.zero_le _,rfl,fun j hj=>absurd hj (by omega),Below.refl _ _⟩
 case round =>
  obtain ⟨k,hk,rfl,HJ,hbel⟩:=hrel
  obtain ⟨c0,c1,c2,c3⟩:=HA.out wr hbel
  have HBw:Hid (Below w.heap.size w wr):=((Below.refl _ _).alloc (Nat.le_refl _) _).trans (hbel.mono (by omega))
  have HB1:Hid (Below (w.heap.size+1) (w.alloc (.cells #[.int .i64 1,.int .i64 nn,.slice at_ p ca,.slice an m cn,.int .i64 ct] 61)) wr):=hbel
  have hsz:=hbel.size
  simp only [World.size_alloc] at hsz
  clear hbel
  by_cases hlt:k<m
  ·obtain ⟨_,_,e1,_,h1⟩:=HR.out.below HBw.out
   simp only [Value.slice.injEq] at e1
   obtain ⟨rfl,_,rfl⟩:=e1
   obtain ⟨b,off,u,rfl,hc,a1,c1',rfl,_,hrd,hbt⟩:=h1 k (by rw [HLN.out];exact hlt)
   have hsz2:=HS.out k (by rw [HLN.out];exact hlt)
   obtain ⟨q,hqq⟩:∃q,q=(nms.getD k []).length:=⟨_,rfl⟩
   have C:=l3isName_any a1 q c1' (nms.getD k []) wr hqq.symm hrd hbt (by omega)
   rw [← hqq] at hc
   clear h1 hqq hrd hbt hsz2
   cases hnm:isName (nms.getD k []) with
   |false =>
    have HF:Hid (fieldsB 1 nn tx nms=false):=fB_name (by rw [HLN.out];exact hlt) hnm
    rw [hnm] at C
    clear hnm
    go_wp2_with fail
    refine C.mono ?_
    rintro e w1 ⟨rfl,hb1⟩
    clear C
    go_wp2
    go_ret
    exact ⟨ret_bool (by rw [HF.out]),HBw.out.trans (hb1.mono (by omega))⟩
   |true =>
    have HJ':Hid (∀j,j<k+1→isName (nms.getD j [])=true):=by
     intro j hj
     by_cases e:j=k
     ·subst e;exact hnm
     ·exact HJ.out j (by omega)
    rw [hnm] at C
    clear hnm
    go_wp2_with fail
    refine C.mono ?_
    rintro e w1 ⟨rfl,hb1⟩
    clear C
    have HBx:Hid (Below (w.heap.size+1) (w.alloc (.cells #[.int .i64 1,.int .i64 nn,.slice at_ p ca,.slice (some ⟨b,off,none⟩) m cn,.int .i64 ct] 61)) w1):=HB1.out.trans (hb1.mono hsz)
    clear hb1
    go_wp2
    go_roundw
    case rel=>exact ⟨k+1,by omega,by go_num,HJ',HBx.out⟩
    case measure=>simp [intOf];omega
  ·have hkm:k=m:=by omega
   subst hkm
   have HO:Hid (fieldsB 1 nn tx nms=(textOk 1 p&&numOk 1 nn)):=by
    show _=_
    rw [← HLT.out]
    exact fB_ok (by rw [hL.out,HLN.out];omega) (by rw [hM.out,HLN.out];omega) (fun j hj=>HJ.out j (by rw [← HLN.out];exact hj))
   by_cases hp:p=0
   ·subst hp
    have HT:Hid (textOk 1 0=true):=by show _=_;unfold textOk;simp
    go_wp2
    go_ret
    exact ⟨ret_bool (by rw [HO.out,HT.out];simp [numOk]),HBw.out⟩
   ·have HT:Hid (textOk 1 p=false):=by show _=_;unfold textOk;rw [decide_eq_false hp];rfl
    have dp:((p:Int) != 0)=true:=bne_iff_ne.mpr (by omega)
    go_wp2
    go_ret
    exact ⟨ret_bool (by rw [HO.out,HT.out];rfl),HBw.out⟩
theorem fl26 (nn ct:Int) (ut un:Value) (tx:List Int) (nms:List (List Int)) (w:World) (ht:RdV w ut tx) (hn:RdVV w un nms) (hs:tx.length+sizeSS nms≤1048576) :
  Calls Tryz.prog 66 #[.agg #[.int .i64 26,.int .i64 nn,ut,un,.int .i64 ct]] w fun e w'=>e=.returned (.bool (fieldsB 26 nn tx nms))∧Below w.heap.size w w':=by
 have HS:Hid (∀i,i<nms.length→(nms.getD i []).length≤1048576):=by
  intro i hi
  have h1:=lens_succ hi
  have h2:=lens_le nms (nms.length-(i+1)) (i+1) (by omega)
  unfold sizeSS at hs
  omega
 have HR:Hid (RdVV w un nms):=hn
 obtain ⟨at_,ca,rfl,_,_,_⟩:=ht
 obtain ⟨an,cn,rfl,_,_⟩:=hn
 have hp1:tx.length≤1048576:=by omega
 have hm1:nms.length≤1048576:=by unfold sizeSS at hs;omega
 obtain ⟨m,hmm⟩:∃m,m=nms.length:=⟨_,rfl⟩
 obtain ⟨p,hpp⟩:∃p,p=tx.length:=⟨_,rfl⟩
 have HLN:Hid (nms.length=m):=hmm.symm
 have HLT:Hid (tx.length=p):=hpp.symm
 rw [← hmm] at hm1 ⊢
 rw [← hpp] at hp1 ⊢
 clear hmm hpp hs
 have hL:Hid (least 26=1):=rfl
 have hM:Hid (most 26=1):=rfl
 by_cases hlo:m<1
 ·have HF:Hid (fieldsB 26 nn tx nms=false):=fB_few (by rw [hL.out,HLN.out];exact hlo)
  have hm0:m=0:=by omega
  subst hm0
  go_enter Tryz.func66,Tryz.ntmps66
  go_wp2
  go_ret
  exact ⟨ret_bool (by rw [HF.out]),(Below.refl _ _).alloc (Nat.le_refl _) _⟩
 by_cases hhi:1<m
 ·have HF:Hid (fieldsB 26 nn tx nms=false):=fB_many (by rw [hM.out,HLN.out];exact hhi)
  go_enter Tryz.func66,Tryz.ntmps66
  go_wp2
  go_ret
  exact ⟨ret_bool (by rw [HF.out]),(Below.refl _ _).alloc (Nat.le_refl _) _⟩
 have dlo:decide ((m:Int)<1)=false:=by simp;omega
 have dhi:decide ((1:Int)<(m:Int))=false:=by simp;omega
 have HA:Hid (∀wr,Below (w.heap.size+1) (w.alloc (.cells #[.int .i64 26,.int .i64 nn,.slice at_ p ca,.slice an m cn,.int .i64 ct] 61)) wr→wr.cell? ⟨w.heap.size,0,none⟩=some (.int .i64 26)∧wr.cell? ⟨w.heap.size,1,none⟩=some (.int .i64 nn)∧wr.cell? ⟨w.heap.size,2,none⟩=some (.slice at_ p ca)∧wr.cell? ⟨w.heap.size,3,none⟩=some (.slice an m cn)):=by
  intro wr hb
  have hh:=(hb.block w.heap.size (by omega)).trans (heap_alloc_new w _)
  exact ⟨by simp only [World.cell?,hh];rfl,by simp only [World.cell?,hh];rfl,by simp only [World.cell?,hh];rfl,by simp only [World.cell?,hh];rfl⟩
 go_enter Tryz.func66,Tryz.ntmps66
 go_wp2
 go_loopw [5] (fun q wr=>∃(k:Nat),k≤m∧q=.int .i64 k∧Hid (∀j,j<k→isName (nms.getD j [])=true)∧Below (w.heap.size+1) (w.alloc (.cells #[.int .i64 26,.int .i64 nn,.slice at_ p ca,.slice an m cn,.int .i64 ct] 61)) wr) (fun q _=>m-(intOf q).toNat)
 case atStart=>exact ⟨0,Nat.zero_le _,rfl,fun j hj=>absurd hj (by omega),Below.refl _ _⟩
 case round =>
  obtain ⟨k,hk,rfl,HJ,hbel⟩:=hrel
  obtain ⟨c0,c1,c2,c3⟩:=HA.out wr hbel
  have HBw:Hid (Below w.heap.size w wr):=((Below.refl _ _).alloc (Nat.le_refl _) _).trans (hbel.mono (by omega))
  have HB1:Hid (Below (w.heap.size+1) (w.alloc (.cells #[.int .i64 26,.int .i64 nn,.slice at_ p ca,.slice an m cn,.int .i64 ct] 61)) wr):=hbel
  have hsz:=hbel.size
  simp only [World.size_alloc] at hsz
  clear hbel
  by_cases hlt:k<m
  ·obtain ⟨_,_,e1,_,h1⟩:=HR.out.below HBw.out
   simp only [Value.slice.injEq] at e1
   obtain ⟨rfl,_,rfl⟩:=e1
   obtain ⟨b,off,u,rfl,hc,a1,c1',rfl,_,hrd,hbt⟩:=h1 k (by rw [HLN.out];exact hlt)
   have hsz2:=HS.out k (by rw [HLN.out];exact hlt)
   obtain ⟨q,hqq⟩:∃q,q=(nms.getD k []).length:=⟨_,rfl⟩
   have C:=l3isName_any a1 q c1' (nms.getD k []) wr hqq.symm hrd hbt (by omega)
   rw [← hqq] at hc
   clear h1 hqq hrd hbt hsz2
   cases hnm:isName (nms.getD k []) with
   |false =>
    have HF:Hid (fieldsB 26 nn tx nms=false):=fB_name (by rw [HLN.out];exact hlt) hnm
    rw [hnm] at C
    clear hnm
    go_wp2_with fail
    refine C.mono ?_
    rintro e w1 ⟨rfl,hb1⟩
    clear C
    go_wp2
    go_ret
    exact ⟨ret_bool (by rw [HF.out]),HBw.out.trans (hb1.mono (by omega))⟩
   |true =>
    have HJ':Hid (∀j,j<k+1→isName (nms.getD j [])=true):=by
     intro j hj
     by_cases e:j=k
     ·subst e;exact hnm
     ·exact HJ.out j (by omega)
    rw [hnm] at C
    clear hnm
    go_wp2_with fail
    refine C.mono ?_
    rintro e w1 ⟨rfl,hb1⟩
    clear C
    have HBx:Hid (Below (w.heap.size+1) (w.alloc (.cells #[.int .i64 26,.int .i64 nn,.slice at_ p ca,.slice (some ⟨b,off,none⟩) m cn,.int .i64 ct] 61)) w1):=HB1.out.trans (hb1.mono hsz)
    clear hb1
    go_wp2
    go_roundw
    case rel=>exact ⟨k+1,by omega,by go_num,HJ',HBx.out⟩
    case measure=>simp [intOf];omega
  ·have hkm:k=m:=by omega
   subst hkm
   have HO:Hid (fieldsB 26 nn tx nms=(textOk 26 p&&numOk 26 nn)):=by
    show _=_
    rw [← HLT.out]
    exact fB_ok (by rw [hL.out,HLN.out];omega) (by rw [hM.out,HLN.out];omega) (fun j hj=>HJ.out j (by rw [← HLN.out];exact hj))
   by_cases hp:p=0
   ·subst hp
    have HT:Hid (textOk 26 0=true):=by show _=_;unfold textOk;simp
    go_wp2
    go_ret
    exact ⟨ret_bool (by rw [HO.out,HT.out];simp [numOk]),HBw.out⟩
   ·have HT:Hid (textOk 26 p=false):=by show _=_;unfold textOk;rw [decide_eq_false hp];rfl
    have dp:((p:Int) != 0)=true:=bne_iff_ne.mpr (by omega)
    go_wp2
    go_ret
    exact ⟨ret_bool (by rw [HO.out,HT.out];rfl),HBw.out⟩
theorem fl7 (nn ct:Int) (ut un:Value) (tx:List Int) (nms:List (List Int)) (w:World) (ht:RdV w ut tx) (hn:RdVV w un nms) (hs:tx.length+sizeSS nms≤1048576) :
  Calls Tryz.prog 66 #[.agg #[.int .i64 7,.int .i64 nn,ut,un,.int .i64 ct]] w fun e w'=>e=.returned (.bool (fieldsB 7 nn tx nms))∧Below w.heap.size w w':=by
 have HS:Hid (∀i,i<nms.length→(nms.getD i []).length≤1048576):=by
  intro i hi
  have h1:=lens_succ hi
  have h2:=lens_le nms (nms.length-(i+1)) (i+1) (by omega)
  unfold sizeSS at hs
  omega
 have HR:Hid (RdVV w un nms):=hn
 obtain ⟨at_,ca,rfl,_,_,_⟩:=ht
 obtain ⟨an,cn,rfl,_,_⟩:=hn
 have hp1:tx.length≤1048576:=by omega
 have hm1:nms.length≤1048576:=by unfold sizeSS at hs;omega
 obtain ⟨m,hmm⟩:∃m,m=nms.length:=⟨_,rfl⟩
 obtain ⟨p,hpp⟩:∃p,p=tx.length:=⟨_,rfl⟩
 have HLN:Hid (nms.length=m):=hmm.symm
 have HLT:Hid (tx.length=p):=hpp.symm
 rw [← hmm] at hm1 ⊢
 rw [← hpp] at hp1 ⊢
 clear hmm hpp hs
 have hL:Hid (least 7=1):=rfl
 have hM:Hid (most 7=1):=rfl
 by_cases hlo:m<1
 ·have HF:Hid (fieldsB 7 nn tx nms=false):=fB_few (by rw [hL.out,HLN.out];exact hlo)
  have hm0:m=0:=by omega
  subst hm0
  go_enter Tryz.func66,Tryz.ntmps66
  go_wp2
  go_ret
  exact ⟨ret_bool (by rw [HF.out]),(Below.refl _ _).alloc (Nat.le_refl _) _⟩
 by_cases hhi:1<m
 ·have HF:Hid (fieldsB 7 nn tx nms=false):=fB_many (by rw [hM.out,HLN.out];exact hhi)
  go_enter Tryz.func66,Tryz.ntmps66
  go_wp2
  go_ret
  exact ⟨ret_bool (by rw [HF.out]),(Below.refl _ _).alloc (Nat.le_refl _) _⟩
 have dlo:decide ((m:Int)<1)=false:=by simp;omega
 have dhi:decide ((1:Int)<(m:Int))=false:=by simp;omega
 have HA:Hid (∀wr,Below (w.heap.size+1) (w.alloc (.cells #[.int .i64 7,.int .i64 nn,.slice at_ p ca,.slice an m cn,.int .i64 ct] 61)) wr→wr.cell? ⟨w.heap.size,0,none⟩=some (.int .i64 7)∧wr.cell? ⟨w.heap.size,1,none⟩=some (.int .i64 nn)∧wr.cell? ⟨w.heap.size,2,none⟩=some (.slice at_ p ca)∧wr.cell? ⟨w.heap.size,3,none⟩=some (.slice an m cn)):=by
  intro wr hb
  have hh:=(hb.block w.heap.size (by omega)).trans (heap_alloc_new w _)
  exact ⟨by simp only [World.cell?,hh];rfl,by simp only [World.cell?,hh];rfl,by simp only [World.cell?,hh];rfl,by simp only [World.cell?,hh];rfl⟩
 go_enter Tryz.func66,Tryz.ntmps66
 go_wp2
 go_loopw [5] (fun q wr=>∃(k:Nat),k≤m∧q=.int .i64 k∧Hid (∀j,j<k→isName (nms.getD j [])=true)∧Below (w.heap.size+1) (w.alloc (.cells #[.int .i64 7,.int .i64 nn,.slice at_ p ca,.slice an m cn,.int .i64 ct] 61)) wr) (fun q _=>m-(intOf q).toNat)
 case atStart=>exact ⟨0,Nat.zero_le _,rfl,fun j hj=>absurd hj (by omega),Below.refl _ _⟩
 case round =>
  obtain ⟨k,hk,rfl,HJ,hbel⟩:=hrel
  obtain ⟨c0,c1,c2,c3⟩:=HA.out wr hbel
  have HBw:Hid (Below w.heap.size w wr):=((Below.refl _ _).alloc (Nat.le_refl _) _).trans (hbel.mono (by omega))
  have HB1:Hid (Below (w.heap.size+1) (w.alloc (.cells #[.int .i64 7,.int .i64 nn,.slice at_ p ca,.slice an m cn,.int .i64 ct] 61)) wr):=hbel
  have hsz:=hbel.size
  simp only [World.size_alloc] at hsz
  clear hbel
  by_cases hlt:k<m
  ·obtain ⟨_,_,e1,_,h1⟩:=HR.out.below HBw.out
   simp only [Value.slice.injEq] at e1
   obtain ⟨rfl,_,rfl⟩:=e1
   obtain ⟨b,off,u,rfl,hc,a1,c1',rfl,_,hrd,hbt⟩:=h1 k (by rw [HLN.out];exact hlt)
   have hsz2:=HS.out k (by rw [HLN.out];exact hlt)
   obtain ⟨q,hqq⟩:∃q,q=(nms.getD k []).length:=⟨_,rfl⟩
   have C:=l3isName_any a1 q c1' (nms.getD k []) wr hqq.symm hrd hbt (by omega)
   rw [← hqq] at hc
   clear h1 hqq hrd hbt hsz2
   cases hnm:isName (nms.getD k []) with
   |false =>
    have HF:Hid (fieldsB 7 nn tx nms=false):=fB_name (by rw [HLN.out];exact hlt) hnm
    rw [hnm] at C
    clear hnm
    go_wp2_with fail
    refine C.mono ?_
    rintro e w1 ⟨rfl,hb1⟩
    clear C
    go_wp2
    go_ret
    exact ⟨ret_bool (by rw [HF.out]),HBw.out.trans (hb1.mono (by omega))⟩
   |true =>
    have HJ':Hid (∀j,j<k+1→isName (nms.getD j [])=true):=by
     intro j hj
     by_cases e:j=k
     ·subst e;exact hnm
     ·exact HJ.out j (by omega)
    rw [hnm] at C
    clear hnm
    go_wp2_with fail
    refine C.mono ?_
    rintro e w1 ⟨rfl,hb1⟩
    clear C
    have HBx:Hid (Below (w.heap.size+1) (w.alloc (.cells #[.int .i64 7,.int .i64 nn,.slice at_ p ca,.slice (some ⟨b,off,none⟩) m cn,.int .i64 ct] 61)) w1):=HB1.out.trans (hb1.mono hsz)
    clear hb1
    go_wp2
    go_roundw
    case rel=>exact ⟨k+1,by omega,by go_num,HJ',HBx.out⟩
    case measure=>simp [intOf];omega
  ·have hkm:k=m:=by omega
   subst hkm
   have HO:Hid (fieldsB 7 nn tx nms=(textOk 7 p&&numOk 7 nn)):=by
    show _=_
    rw [← HLT.out]
    exact fB_ok (by rw [hL.out,HLN.out];omega) (by rw [hM.out,HLN.out];omega) (fun j hj=>HJ.out j (by rw [← HLN.out];exact hj))
   by_cases hp:p=0
   ·subst hp
    have HT:Hid (textOk 7 0=true):=by show _=_;unfold textOk;simp
    go_wp2
    go_ret
    exact ⟨ret_bool (by rw [HO.out,HT.out];simp [numOk]),HBw.out⟩
   ·have HT:Hid (textOk 7 p=false):=by show _=_;unfold textOk;rw [decide_eq_false hp];rfl
    have dp:((p:Int) != 0)=true:=bne_iff_ne.mpr (by omega)
    go_wp2
    go_ret
    exact ⟨ret_bool (by rw [HO.out,HT.out];rfl),HBw.out⟩
theorem fl16 (nn ct:Int) (ut un:Value) (tx:List Int) (nms:List (List Int)) (w:World) (ht:RdV w ut tx) (hn:RdVV w un nms) (hs:tx.length+sizeSS nms≤1048576) :
  Calls Tryz.prog 66 #[.agg #[.int .i64 16,.int .i64 nn,ut,un,.int .i64 ct]] w fun e w'=>e=.returned (.bool (fieldsB 16 nn tx nms))∧Below w.heap.size w w':=by
 have HS:Hid (∀i,i<nms.length→(nms.getD i []).length≤1048576):=by
  intro i hi
  have h1:=lens_succ hi
  have h2:=lens_le nms (nms.length-(i+1)) (i+1) (by omega)
  unfold sizeSS at hs
  omega
 have HR:Hid (RdVV w un nms):=hn
 obtain ⟨at_,ca,rfl,_,_,_⟩:=ht
 obtain ⟨an,cn,rfl,_,_⟩:=hn
 have hp1:tx.length≤1048576:=by omega
 have hm1:nms.length≤1048576:=by unfold sizeSS at hs;omega
 obtain ⟨m,hmm⟩:∃m,m=nms.length:=⟨_,rfl⟩
 obtain ⟨p,hpp⟩:∃p,p=tx.length:=⟨_,rfl⟩
 have HLN:Hid (nms.length=m):=hmm.symm
 have HLT:Hid (tx.length=p):=hpp.symm
 rw [← hmm] at hm1 ⊢
 rw [← hpp] at hp1 ⊢
 clear hmm hpp hs
 have hL:Hid (least 16=1):=rfl
 have hM:Hid (most 16=1):=rfl
 by_cases hlo:m<1
 ·have HF:Hid (fieldsB 16 nn tx nms=false):=fB_few (by rw [hL.out,HLN.out];exact hlo)
  have hm0:m=0:=by omega
  subst hm0
  go_enter Tryz.func66,Tryz.ntmps66
  go_wp2
  go_ret
  exact ⟨ret_bool (by rw [HF.out]),(Below.refl _ _).alloc (Nat.le_refl _) _⟩
 by_cases hhi:1<m
 ·have HF:Hid (fieldsB 16 nn tx nms=false):=fB_many (by rw [hM.out,HLN.out];exact hhi)
  go_enter Tryz.func66,Tryz.ntmps66
  go_wp2
  go_ret
  exact ⟨ret_bool (by rw [HF.out]),(Below.refl _ _).alloc (Nat.le_refl _) _⟩
 have dlo:decide ((m:Int)<1)=false:=by simp;omega
 have dhi:decide ((1:Int)<(m:Int))=false:=by simp;omega
 have HA:Hid (∀wr,Below (w.heap.size+1) (w.alloc (.cells #[.int .i64 16,.int .i64 nn,.slice at_ p ca,.slice an m cn,.int .i64 ct] 61)) wr→wr.cell? ⟨w.heap.size,0,none⟩=some (.int .i64 16)∧wr.cell? ⟨w.heap.size,1,none⟩=some (.int .i64 nn)∧wr.cell? ⟨w.heap.size,2,none⟩=some (.slice at_ p ca)∧wr.cell? ⟨w.heap.size,3,none⟩=some (.slice an m cn)):=by
  intro wr hb
  have hh:=(hb.block w.heap.size (by omega)).trans (heap_alloc_new w _)
  exact ⟨by simp only [World.cell?,hh];rfl,by simp only [World.cell?,hh];rfl,by simp only [World.cell?,hh];rfl,by simp only [World.cell?,hh];rfl⟩
 go_enter Tryz.func66,Tryz.ntmps66
 go_wp2
 go_loopw [5] (fun q wr=>∃(k:Nat),k≤m∧q=.int .i64 k∧Hid (∀j,j<k→isName (nms.getD j [])=true)∧Below (w.heap.size+1) (w.alloc (.cells #[.int .i64 16,.int .i64 nn,.slice at_ p ca,.slice an m cn,.int .i64 ct] 61)) wr) (fun q _=>m-(intOf q).toNat)
 case atStart=>exact ⟨0,Nat.zero_le _,rfl,fun j hj=>absurd hj (by omega),Below.refl _ _⟩
 case round =>
  obtain ⟨k,hk,rfl,HJ,hbel⟩:=hrel
  obtain ⟨c0,c1,c2,c3⟩:=HA.out wr hbel
  have HBw:Hid (Below w.heap.size w wr):=((Below.refl _ _).alloc (Nat.le_refl _) _).trans (hbel.mono (by omega))
  have HB1:Hid (Below (w.heap.size+1) (w.alloc (.cells #[.int .i64 16,.int .i64 nn,.slice at_ p ca,.slice an m cn,.int .i64 ct] 61)) wr):=hbel
  have hsz:=hbel.size
  simp only [World.size_alloc] at hsz
  clear hbel
  by_cases hlt:k<m
  ·obtain ⟨_,_,e1,_,h1⟩:=HR.out.below HBw.out
   simp only [Value.slice.injEq] at e1
   obtain ⟨rfl,_,rfl⟩:=e1
   obtain ⟨b,off,u,rfl,hc,a1,c1',rfl,_,hrd,hbt⟩:=h1 k (by rw [HLN.out];exact hlt)
   have hsz2:=HS.out k (by rw [HLN.out];exact hlt)
   obtain ⟨q,hqq⟩:∃q,q=(nms.getD k []).length:=⟨_,rfl⟩
   have C:=l3isName_any a1 q c1' (nms.getD k []) wr hqq.symm hrd hbt (by omega)
   rw [← hqq] at hc
   clear h1 hqq hrd hbt hsz2
   cases hnm:isName (nms.getD k []) with
   |false =>
    have HF:Hid (fieldsB 16 nn tx nms=false):=fB_name (by rw [HLN.out];exact hlt) hnm
    rw [hnm] at C
    clear hnm
    go_wp2_with fail
    refine C.mono ?_
    rintro e w1 ⟨rfl,hb1⟩
    clear C
    go_wp2
    go_ret
    exact ⟨ret_bool (by rw [HF.out]),HBw.out.trans (hb1.mono (by omega))⟩
   |true =>
    have HJ':Hid (∀j,j<k+1→isName (nms.getD j [])=true):=by
     intro j hj
     by_cases e:j=k
     ·subst e;exact hnm
     ·exact HJ.out j (by omega)
    rw [hnm] at C
    clear hnm
    go_wp2_with fail
    refine C.mono ?_
    rintro e w1 ⟨rfl,hb1⟩
    clear C
    have HBx:Hid (Below (w.heap.size+1) (w.alloc (.cells #[.int .i64 16,.int .i64 nn,.slice at_ p ca,.slice (some ⟨b,off,none⟩) m cn,.int .i64 ct] 61)) w1):=HB1.out.trans (hb1.mono hsz)
    clear hb1
    go_wp2
    go_roundw
    case rel=>exact ⟨k+1,by omega,by go_num,HJ',HBx.out⟩
    case measure=>simp [intOf];omega
  ·have hkm:k=m:=by omega
   subst hkm
   have HO:Hid (fieldsB 16 nn tx nms=(textOk 16 p&&numOk 16 nn)):=by
    show _=_
    rw [← HLT.out]
    exact fB_ok (by rw [hL.out,HLN.out];omega) (by rw [hM.out,HLN.out];omega) (fun j hj=>HJ.out j (by rw [← HLN.out];exact hj))
   by_cases hp:p=0
   ·subst hp
    have HT:Hid (textOk 16 0=true):=by show _=_;unfold textOk;simp
    go_wp2
    go_ret
    exact ⟨ret_bool (by rw [HO.out,HT.out];simp [numOk]),HBw.out⟩
   ·have HT:Hid (textOk 16 p=false):=by show _=_;unfold textOk;rw [decide_eq_false hp];rfl
    have dp:((p:Int) != 0)=true:=bne_iff_ne.mpr (by omega)
    go_wp2
    go_ret
    exact ⟨ret_bool (by rw [HO.out,HT.out];rfl),HBw.out⟩
end vt
end Go.Proofs.YtkmiagkehcflnaaGreatDoor
