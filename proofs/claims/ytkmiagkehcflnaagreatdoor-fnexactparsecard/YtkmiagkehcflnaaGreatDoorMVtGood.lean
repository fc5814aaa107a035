import Derived.Test.YtkmiagkehcflnaaGreatDoorMPtSmall
import Derived.Test.YtkmiagkehcflnaaGreatDoorMVtFields
set_option maxRecDepth 100000
set_option maxHeartbeats 8000000
namespace Go.Proofs.YtkmiagkehcflnaaGreatDoor
namespace vt
open Go.RowKit bts nod lex
theorem fl19 (nn ct:Int) (ut un:Value) (tx:List Int) (nms:List (List Int)) (w:World) (ht:RdV w ut tx) (hn:RdVV w un nms) (hs:tx.length+sizeSS nms≤1048576) :
  Calls Tryz.prog 66 #[.agg #[.int .i64 19,.int .i64 nn,ut,un,.int .i64 ct]] w fun e w'=>e=.returned (.bool (fieldsB 19 nn tx nms))∧Below w.heap.size w w':=by
 have HS:Hid (∀i,i<nms.length→(nms.getD i []).length≤1048576):=by
  intro i hi
  have h1:=lens_succ hi
  have h2:=lens_le nms (nms.length-(i+1)) (i+1) (by omega)
  unfold sizeSS at hs
  omega
 have HR:Hid (RdVV w un nms):=hn
 obtain ⟨at_,ca,rfl,_,_,_⟩:=ht
 obtain ⟨an,cn,rfl,_,_⟩:=hn
 have hp1:tx.length≤1048576:=by omega
 have hm1:nms.length≤1048576:=by unfold sizeSS at hs;omega
 obtain ⟨m,hmm⟩:∃m,m=nms.length:=⟨_,rfl⟩
 obtain ⟨p,hpp⟩:∃p,p=tx.length:=⟨_,rfl⟩
 have HLN:Hid (nms.length=m):=hmm.symm
 have HLT:Hid (tx.length=p):=hpp.symm
 rw [← hmm] at hm1 ⊢
 rw [← hpp] at hp1 ⊢
 clear hmm hpp hs
 have hL:Hid (least 19=0):=rfl
 have hM:Hid (most 19=50):=rfl
 by_cases hhi:50<m
 ·have HF:Hid (fieldsB 19 nn tx nms=false):=fB_many (by rw [hM.out,HLN.out];exact hhi)
  go_enter Tryz.func66,Tryz.ntmps66
  go_wp2
  go_ret
  exact ⟨ret_bool (by rw [HF.out]),(Below.refl _ _).alloc (Nat.le_refl _) _⟩
 have dhi:decide ((50:Int)<(m:Int))=false:=by simp;omega
 have HA:Hid (∀wr,Below (w.heap.size+1) (w.alloc (.cells #[.int .i64 19,.int .i64 nn,.slice at_ p ca,.slice an m cn,.int .i64 ct] 61)) wr→wr.cell? ⟨w.heap.size,0,none⟩=some (.int .i64 19)∧wr.cell? ⟨w.heap.size,1,none⟩=some (.int .i64 nn)∧wr.cell? ⟨w.heap.size,2,none⟩=some (.slice at_ p ca)∧wr.cell? ⟨w.heap.size,3,none⟩=some (.slice an m cn)):=by
  intro wr hb
  have hh:=(hb.block w.heap.size (by omega)).trans (heap_alloc_new w _)
  exact ⟨by simp only [World.cell?,hh];rfl,by simp only [World.cell?,hh];rfl,by simp only [World.cell?,hh];rfl,by simp only [World.cell?,hh];rfl⟩
 go_enter Tryz.func66,Tryz.ntmps66
 go_wp2
 go_loopw [5] (fun q wr=>∃(k:Nat),k≤m∧q=.int .i64 k∧Hid (∀j,j<k→isName (nms.getD j [])=true)∧Below (w.heap.size+1) (w.alloc (.cells #[.int .i64 19,.int .i64 nn,.slice at_ p ca,.slice an m cn,.int .i64 ct] 61)) wr) (fun q _=>m-(intOf q).toNat)
 case atStart=>exact ⟨0,Nat.zero_le _,rfl,fun j hj=>absurd hj (by omega),Below.refl _ _⟩
 case round =>
  obtain ⟨k,hk,rfl,HJ,hbel⟩:=hrel
  obtain ⟨c0,c1,c2,c3⟩:=HA.out wr hbel
  have HBw:Hid (Below w.heap.size w wr):=((Below.refl _ _).alloc (Nat.le_refl _) _).trans (hbel.mono (by omega))
  have HB1:Hid (Below (w.heap.size+1) (w.alloc (.cells #[.int .i64 19,.int .i64 nn,.slice at_ p ca,.slice an m cn,.int .i64 ct] 61)) wr):=hbel
  have hsz:=hbel.size
  simp only [World.size_alloc] at hsz
  clear hbel
  by_cases hlt:k<m
  ·obtain ⟨_,_,e1,_,h1⟩:=HR.out.below HBw.out
   simp only [Value.slice.injEq] at e1
   obtain ⟨rfl,_,rfl⟩:=e1
   obtain ⟨b,off,u,rfl,hc,a1,c1',rfl,_,hrd,hbt⟩:=h1 k (by rw [HLN.out];exact hlt)
   have hsz2:=HS.out k (by rw [HLN.out];exact hlt)
   obtain ⟨q,hqq⟩:∃q,q=(nms.getD k []).length:=⟨_,rfl⟩
   have C:=l3isName_any a1 q c1' (nms.getD k []) wr hqq.symm hrd hbt (by omega)
   rw [← hqq] at hc
   clear h1 hqq hrd hbt hsz2
   cases hnm:isName (nms.getD k []) with
   |false =>
    have HF:Hid (fieldsB 19 nn tx nms=false):=fB_name (by rw [HLN.out];exact hlt) hnm
    rw [hnm] at C
    clear hnm
    go_wp2_with fail
    refine C.mono ?_
    rintro e w1 ⟨rfl,hb1⟩
    clear C
    go_wp2
    go_ret
    exact ⟨ret_bool (by rw [HF.out]),HBw.out.trans (hb1.mono (by omega))⟩
   |true =>
    have HJ':Hid (∀j,j<k+1→isName (nms.getD j [])=true):=by
     intro j hj
     by_cases e:j=k
     ·subst e;exact hnm
     ·exact HJ.out j (by omega)
    rw [hnm] at C
    clear hnm
    go_wp2_with fail
    refine C.mono ?_
    rintro e w1 ⟨rfl,hb1⟩
    clear C
    have HBx:Hid (Below (w.heap.size+1) (w.alloc (.cells #[.int .i64 19,.int .i64 nn,.slice at_ p ca,.slice (some ⟨b,off,none⟩) m cn,.int .i64 ct] 61)) w1):=HB1.out.trans (hb1.mono hsz)
    clear hb1
    go_wp2
    go_roundw
    case rel=>exact ⟨k+1,by omega,by go_num,HJ',HBx.out⟩
    case measure=>simp [intOf];omega
  ·have hkm:k=m:=by omega
   subst hkm
   have HO:Hid (fieldsB 19 nn tx nms=(textOk 19 p&&numOk 19 nn)):=by
    show _=_
    rw [← HLT.out]
    exact fB_ok (by rw [hL.out,HLN.out];omega) (by rw [hM.out,HLN.out];omega) (fun j hj=>HJ.out j (by rw [← HLN.out];exact hj))
   by_cases hp:p=0
   ·subst hp
    have HT:Hid (textOk 19 0=true):=by show _=_;unfold textOk;simp
    go_wp2
    go_ret
    exact ⟨ret_bool (by rw [HO.out,HT.out];simp [numOk]),HBw.out⟩
   ·have HT:Hid (textOk 19 p=false):=by show _=_;unfold textOk;rw [decide_eq_false hp];rfl
    have dp:((p:Int) != 0)=true:=bne_iff_ne.mpr (by omega)
    go_wp2
    go_ret
    exact ⟨ret_bool (by rw [HO.out,HT.out];rfl),HBw.out⟩
theorem fl15 (nn ct:Int) (ut un:Value) (tx:List Int) (nms:List (List Int)) (w:World) (ht:RdV w ut tx) (hn:RdVV w un nms) (_hs:tx.length+sizeSS nms≤1048576) :
  Calls Tryz.prog 66 #[.agg #[.int .i64 15,.int .i64 nn,ut,un,.int .i64 ct]] w fun e w'=>e=.returned (.bool (fieldsB 15 nn tx nms))∧Below w.heap.size w w':=by
 obtain ⟨at_,ca,rfl,_,_,_⟩:=ht
 obtain ⟨an,cn,rfl,_,_⟩:=hn
 have hp1:tx.length≤1048576:=by omega
 have hm1:nms.length≤1048576:=by unfold sizeSS at _hs;omega
 obtain ⟨m,hmm⟩:∃m,m=nms.length:=⟨_,rfl⟩
 obtain ⟨p,hpp⟩:∃p,p=tx.length:=⟨_,rfl⟩
 have HLN:Hid (nms.length=m):=hmm.symm
 have HLT:Hid (tx.length=p):=hpp.symm
 rw [← hmm] at hm1 ⊢
 rw [← hpp] at hp1 ⊢
 clear hmm hpp _hs
 have hL:Hid (least 15=0):=rfl
 have hM:Hid (most 15=0):=rfl
 by_cases hhi:0<m
 ·have HF:Hid (fieldsB 15 nn tx nms=false):=fB_many (by rw [hM.out,HLN.out];exact hhi)
  have hlt:(0:Int)<(m:Int):=by omega
  go_enter Tryz.func66,Tryz.ntmps66
  go_wp2
  go_ret
  exact ⟨ret_bool (by rw [HF.out]),(Below.refl _ _).alloc (Nat.le_refl _) _⟩
 have dhi:decide ((0:Int)<(m:Int))=false:=by simp;omega
 have HA:Hid (∀wr,Below (w.heap.size+1) (w.alloc (.cells #[.int .i64 15,.int .i64 nn,.slice at_ p ca,.slice an m cn,.int .i64 ct] 61)) wr→wr.cell? ⟨w.heap.size,0,none⟩=some (.int .i64 15)∧wr.cell? ⟨w.heap.size,1,none⟩=some (.int .i64 nn)∧wr.cell? ⟨w.heap.size,2,none⟩=some (.slice at_ p ca)∧wr.cell? ⟨w.heap.size,3,none⟩=some (.slice an m cn)):=by
  intro wr hb
  have hh:=(hb.block w.heap.size (by omega)).trans (heap_alloc_new w _)
  exact ⟨by simp only [World.cell?,hh];rfl,by simp only [World.cell?,hh];rfl,by simp only [World.cell?,hh];rfl,by simp only [World.cell?,hh];rfl⟩
 go_enter Tryz.func66,Tryz.ntmps66
 go_wp2
 go_loopw [5] (fun q wr=>∃(k:Nat),k≤m∧q=.int .i64 k∧Hid (∀j,j<k→isName (nms.getD j [])=true)∧Below (w.heap.size+1) (w.alloc (.cells #[.int .i64 15,.int .i64 nn,.slice at_ p ca,.slice an m cn,.int .i64 ct] 61)) wr) (fun q _=>m-(intOf q).toNat)
 case atStart=>exact ⟨0,Nat.zero_le _,rfl,fun j hj=>absurd hj (by omega),Below.refl _ _⟩
 case round =>
  obtain ⟨k,hk,rfl,HJ,hbel⟩:=hrel
  obtain ⟨c0,c1,c2,c3⟩:=HA.out wr hbel
  have HBw:Hid (Below w.heap.size w wr):=((Below.refl _ _).alloc (Nat.le_refl _) _).trans (hbel.mono (by omega))
  clear hbel
  by_cases hlt:k<m
  ·omega
  ·have hkm:k=m:=by omega
   subst hkm
   have HO:Hid (fieldsB 15 nn tx nms=(textOk 15 p&&numOk 15 nn)):=by
    show _=_
    rw [← HLT.out]
    exact fB_ok (by rw [hL.out,HLN.out];omega) (by rw [hM.out,HLN.out];omega) (fun j hj=>HJ.out j (by rw [← HLN.out];exact hj))
   by_cases hp:p≤5000
   ·have dp:decide ((5000:Int)<(p:Int))=false:=by simp;omega
    have HT:Hid (textOk 15 p=true):=by show _=_;unfold textOk;rw [decide_eq_true hp];rfl
    go_wp2
    go_ret
    exact ⟨ret_bool (by rw [HO.out,HT.out];simp [numOk]),HBw.out⟩
   ·have HT:Hid (textOk 15 p=false):=by show _=_;unfold textOk;rw [decide_eq_false hp];rfl
    go_wp2
    go_ret
    exact ⟨ret_bool (by rw [HO.out,HT.out];rfl),HBw.out⟩
theorem fl21 (nn ct:Int) (ut un:Value) (tx:List Int) (nms:List (List Int)) (w:World) (ht:RdV w ut tx) (hn:RdVV w un nms) (_hs:tx.length+sizeSS nms≤1048576) :
  Calls Tryz.prog 66 #[.agg #[.int .i64 21,.int .i64 nn,ut,un,.int .i64 ct]] w fun e w'=>e=.returned (.bool (fieldsB 21 nn tx nms))∧Below w.heap.size w w':=by
 obtain ⟨at_,ca,rfl,_,_,_⟩:=ht
 obtain ⟨an,cn,rfl,_,_⟩:=hn
 have hp1:tx.length≤1048576:=by omega
 have hm1:nms.length≤1048576:=by unfold sizeSS at _hs;omega
 obtain ⟨m,hmm⟩:∃m,m=nms.length:=⟨_,rfl⟩
 obtain ⟨p,hpp⟩:∃p,p=tx.length:=⟨_,rfl⟩
 have HLN:Hid (nms.length=m):=hmm.symm
 have HLT:Hid (tx.length=p):=hpp.symm
 rw [← hmm] at hm1 ⊢
 rw [← hpp] at hp1 ⊢
 clear hmm hpp _hs
 have hL:Hid (least 21=0):=rfl
 have hM:Hid (most 21=0):=rfl
 by_cases hhi:0<m
 ·have HF:Hid (fieldsB 21 nn tx nms=false):=fB_many (by rw [hM.out,HLN.out];exact hhi)
  have hlt:(0:Int)<(m:Int):=by omega
  go_enter Tryz.func66,Tryz.ntmps66
  go_wp2
  go_ret
  exact ⟨ret_bool (by rw [HF.out]),(Below.refl _ _).alloc (Nat.le_refl _) _⟩
 have dhi:decide ((0:Int)<(m:Int))=false:=by simp;omega
 have HA:Hid (∀wr,Below (w.heap.size+1) (w.alloc (.cells #[.int .i64 21,.int .i64 nn,.slice at_ p ca,.slice an m cn,.int .i64 ct] 61)) wr→wr.cell? ⟨w.heap.size,0,none⟩=some (.int .i64 21)∧wr.cell? ⟨w.heap.size,1,none⟩=some (.int .i64 nn)∧wr.cell? ⟨w.heap.size,2,none⟩=some (.slice at_ p ca)∧wr.cell? ⟨w.heap.size,3,none⟩=some (.slice an m cn)):=by
  intro wr hb
  have hh:=(hb.block w.heap.size (by omega)).trans (heap_alloc_new w _)
  exact ⟨by simp only [World.cell?,hh];rfl,by simp only [World.cell?,hh];rfl,by simp only [World.cell?,hh];rfl,by simp only [World.cell?,hh];rfl⟩
 go_enter Tryz.func66,Tryz.ntmps66
 go_wp2
 go_loopw [5] (fun q wr=>∃(k:Nat),k≤m∧q=.int .i64 k∧Hid (∀j,j<k→isName (nms.getD j [])=true)∧Below (w.heap.size+1) (w.alloc (.cells #[.int .i64 21,.int .i64 nn,.slice at_ p ca,.slice an m cn,.int .i64 ct] 61)) wr) (fun q _=>m-(intOf q).toNat)
 case atStart=>exact ⟨0,Nat.zero_le _,rfl,fun j hj=>absurd hj (by omega),Below.refl _ _⟩
 case round =>
  obtain ⟨k,hk,rfl,HJ,hbel⟩:=hrel
  obtain ⟨c0,c1,c2,c3⟩:=HA.out wr hbel
  have HBw:Hid (Below w.heap.size w wr):=((Below.refl _ _).alloc (Nat.le_refl _) _).trans (hbel.mono (by omega))
  clear hbel
  by_cases hlt:k<m
  ·omega
  ·have hkm:k=m:=by omega
   subst hkm
   have HO:Hid (fieldsB 21 nn tx nms=(textOk 21 p&&numOk 21 nn)):=by
    show _=_
    rw [← HLT.out]
    exact fB_ok (by rw [hL.out,HLN.out];omega) (by rw [hM.out,HLN.out];omega) (fun j hj=>HJ.out j (by rw [← HLN.out];exact hj))
   by_cases hp:p=0
   ·subst hp
    have HT:Hid (textOk 21 0=true):=by show _=_;unfold textOk;simp
    by_cases ha:0≤nn
    ·have da:decide (0≤nn)=true:=decide_eq_true ha
     go_wp2
     go_ret
     exact ⟨ret_bool (by rw [HO.out,HT.out];simp [numOk,ha]),HBw.out⟩
    ·have da:decide (0≤nn)=false:=decide_eq_false ha
     go_wp2
     go_ret
     exact ⟨ret_bool (by rw [HO.out,HT.out];simp [numOk];omega),HBw.out⟩
   ·have HT:Hid (textOk 21 p=false):=by show _=_;unfold textOk;rw [decide_eq_false hp];rfl
    have dp:((p:Int) != 0)=true:=bne_iff_ne.mpr (by omega)
    go_wp2
    go_ret
    exact ⟨ret_bool (by rw [HO.out,HT.out];rfl),HBw.out⟩
theorem fl2 (nn ct:Int) (ut un:Value) (tx:List Int) (nms:List (List Int)) (w:World) (ht:RdV w ut tx) (hn:RdVV w un nms) (_hs:tx.length+sizeSS nms≤1048576) :
  Calls Tryz.prog 66 #[.agg #[.int .i64 2,.int .i64 nn,ut,un,.int .i64 ct]] w fun e w'=>e=.returned (.bool (fieldsB 2 nn tx nms))∧Below w.heap.size w w':=by
 obtain ⟨at_,ca,rfl,_,_,_⟩:=ht
 obtain ⟨an,cn,rfl,_,_⟩:=hn
 have hp1:tx.length≤1048576:=by omega
 have hm1:nms.length≤1048576:=by unfold sizeSS at _hs;omega
 obtain ⟨m,hmm⟩:∃m,m=nms.length:=⟨_,rfl⟩
 obtain ⟨p,hpp⟩:∃p,p=tx.length:=⟨_,rfl⟩
 have HLN:Hid (nms.length=m):=hmm.symm
 have HLT:Hid (tx.length=p):=hpp.symm
 rw [← hmm] at hm1 ⊢
 rw [← hpp] at hp1 ⊢
 clear hmm hpp _hs
 have hL:Hid (least 2=0):=rfl
 have hM:Hid (most 2=0):=rfl
 by_cases hhi:0<m
 ·have HF:Hid (fieldsB 2 nn tx nms=false):=fB_many (by rw [hM.out,HLN.out];exact hhi)
  have hlt:(0:Int)<(m:Int):=by omega
  go_enter Tryz.func66,Tryz.ntmps66
  go_wp2
  go_ret
  exact ⟨ret_bool (by rw [HF.out]),(Below.refl _ _).alloc (Nat.le_refl _) _⟩
 have dhi:decide ((0:Int)<(m:Int))=false:=by simp;omega
 have HA:Hid (∀wr,Below (w.heap.size+1) (w.alloc (.cells #[.int .i64 2,.int .i64 nn,.slice at_ p ca,.slice an m cn,.int .i64 ct] 61)) wr→wr.cell? ⟨w.heap.size,0,none⟩=some (.int .i64 2)∧wr.cell? ⟨w.heap.size,1,none⟩=some (.int .i64 nn)∧wr.cell? ⟨w.heap.size,2,none⟩=some (.slice at_ p ca)∧wr.cell? ⟨w.heap.size,3,none⟩=some (.slice an m cn)):=by
  intro wr hb
  have hh:=(hb.block w.heap.size (by omega)).trans (heap_alloc_new w _)
  exact ⟨by simp only [World.cell?,hh];rfl,by simp only [World.cell?,hh];rfl,by simp only [World.cell?,hh];rfl,by simp only [World.cell?,hh];rfl⟩
 go_enter Tryz.func66,Tryz.ntmps66
 go_wp2
 go_loopw [5] (fun q wr=>∃(k:Nat),k≤m∧q=.int .i64 k∧Hid (∀j,j<k→isName (nms.getD j [])=true)∧Below (w.heap.size+1) (w.alloc (.cells #[.int .i64 2,.int .i64 nn,.slice at_ p ca,.slice an m cn,.int .i64 ct] 61)) wr) (fun q _=>m-(intOf q).toNat)
 case atStart=>exact ⟨0,Nat.zero_le _,rfl,fun j hj=>absurd hj (by omega),Below.refl _ _⟩
 case round =>
  obtain ⟨k,hk,rfl,HJ,hbel⟩:=hrel
  obtain ⟨c0,c1,c2,c3⟩:=HA.out wr hbel
  have HBw:Hid (Below w.heap.size w wr):=((Below.refl _ _).alloc (Nat.le_refl _) _).trans (hbel.mono (by omega))
  clear hbel
  by_cases hlt:k<m
  ·omega
  ·have hkm:k=m:=by omega
   subst hkm
   have HO:Hid (fieldsB 2 nn tx nms=(textOk 2 p&&numOk 2 nn)):=by
    show _=_
    rw [← HLT.out]
    exact fB_ok (by rw [hL.out,HLN.out];omega) (by rw [hM.out,HLN.out];omega) (fun j hj=>HJ.out j (by rw [← HLN.out];exact hj))
   by_cases hp:p=0
   ·subst hp
    have HT:Hid (textOk 2 0=true):=by show _=_;unfold textOk;simp
    go_wp2
    go_ret
    exact ⟨ret_bool (by rw [HO.out,HT.out];simp [numOk]),HBw.out⟩
   ·have HT:Hid (textOk 2 p=false):=by show _=_;unfold textOk;rw [decide_eq_false hp];rfl
    have dp:((p:Int) != 0)=true:=bne_iff_ne.mpr (by omega)
    go_wp2
    go_ret
    exact ⟨ret_bool (by rw [HO.out,HT.out];rfl),HBw.out⟩
theorem fl14 (nn ct:Int) (ut un:Value) (tx:List Int) (nms:List (List Int)) (w:World) (ht:RdV w ut tx) (hn:RdVV w un nms) (_hs:tx.length+sizeSS nms≤1048576) :
  Calls Tryz.prog 66 #[.agg #[.int .i64 14,.int .i64 nn,ut,un,.int .i64 ct]] w fun e w'=>e=.returned (.bool (fieldsB 14 nn tx nms))∧Below w.heap.size w w':=by
 obtain ⟨at_,ca,rfl,_,_,_⟩:=ht
 obtain ⟨an,cn,rfl,_,_⟩:=hn
 have hp1:tx.length≤1048576:=by omega
 have hm1:nms.length≤1048576:=by unfold sizeSS at _hs;omega
 obtain ⟨m,hmm⟩:∃m,m=nms.length:=⟨_,rfl⟩
 obtain ⟨p,hpp⟩:∃p,p=tx.length:=⟨_,rfl⟩
 have HLN:Hid (nms.length=m):=hmm.symm
 have HLT:Hid (tx.length=p):=hpp.symm
 rw [← hmm] at hm1 ⊢
 rw [← hpp] at hp1 ⊢
 clear hmm hpp _hs
 have hL:Hid (least 14=0):=rfl
 have hM:Hid (most 14=0):=rfl
 by_cases hhi:0<m
 ·have HF:Hid (fieldsB 14 nn tx nms=false):=fB_many (by rw [hM.out,HLN.out];exact hhi)
  have hlt:(0:Int)<(m:Int):=by omega
  go_enter Tryz.func66,Tryz.ntmps66
  go_wp2
  go_ret
  exact ⟨ret_bool (by rw [HF.out]),(Below.refl _ _).alloc (Nat.le_refl _) _⟩
 have dhi:decide ((0:Int)<(m:Int))=false:=by simp;omega
 have HA:Hid (∀wr,Below (w.heap.size+1) (w.alloc (.cells #[.int .i64 14,.int .i64 nn,.slice at_ p ca,.slice an m cn,.int .i64 ct] 61)) wr→wr.cell? ⟨w.heap.size,0,none⟩=some (.int .i64 14)∧wr.cell? ⟨w.heap.size,1,none⟩=some (.int .i64 nn)∧wr.cell? ⟨w.heap.size,2,none⟩=some (.slice at_ p ca)∧wr.cell? ⟨w.heap.size,3,none⟩=some (.slice an m cn)):=by
  intro wr hb
  have hh:=(hb.block w.heap.size (by omega)).trans (heap_alloc_new w _)
  exact ⟨by simp only [World.cell?,hh];rfl,by simp only [World.cell?,hh];rfl,by simp only [World.cell?,hh];rfl,by simp only [World.cell?,hh];rfl⟩
 go_enter Tryz.func66,Tryz.ntmps66
 go_wp2
 go_loopw [5] (fun q wr=>∃(k:Nat),k≤m∧q=.int .i64 k∧Hid (∀j,j<k→isName (nms.getD j [])=true)∧Below (w.heap.size+1) (w.alloc (.cells #[.int .i64 14,.int .i64 nn,.slice at_ p ca,.slice an m cn,.int .i64 ct] 61)) wr) (fun q _=>m-(intOf q).toNat)
 case atStart=>exact ⟨0,Nat.zero_le _,rfl,fun j hj=>absurd hj (by omega),Below.refl _ _⟩
 case round =>
  obtain ⟨k,hk,rfl,HJ,hbel⟩:=hrel
  obtain ⟨c0,c1,c2,c3⟩:=HA.out wr hbel
  have HBw:Hid (Below w.heap.size w wr):=((Below.refl _ _).alloc (Nat.le_refl _) _).trans (hbel.mono (by omega))
  clear hbel
  by_cases hlt:k<m
  ·omega
  ·have hkm:k=m:=by omega
   subst hkm
   have HO:Hid (fieldsB 14 nn tx nms=(textOk 14 p&&numOk 14 nn)):=by
    show _=_
    rw [← HLT.out]
    exact fB_ok (by rw [hL.out,HLN.out];omega) (by rw [hM.out,HLN.out];omega) (fun j hj=>HJ.out j (by rw [← HLN.out];exact hj))
   by_cases hp:p=0
   ·subst hp
    have HT:Hid (textOk 14 0=true):=by show _=_;unfold textOk;simp
    go_wp2
    go_ret
    exact ⟨ret_bool (by rw [HO.out,HT.out];simp [numOk]),HBw.out⟩
   ·have HT:Hid (textOk 14 p=false):=by show _=_;unfold textOk;rw [decide_eq_false hp];rfl
    have dp:((p:Int) != 0)=true:=bne_iff_ne.mpr (by omega)
    go_wp2
    go_ret
    exact ⟨ret_bool (by rw [HO.out,HT.out];rfl),HBw.out⟩
theorem flX (kd nn ct:Int) (ut un:Value) (tx:List Int) (nms:List (List Int)) (w:World) (ht:RdV w ut tx) (hn:RdVV w un nms) (_hs:tx.length+sizeSS nms≤1048576) (n1:¬kd=1) (n26:¬kd=26) (n7:¬kd=7) (n16:¬kd=16) (n19:¬kd=19) (n15:¬kd=15) (n21:¬kd=21) (n2:¬kd=2) (n14:¬kd=14) :
  Calls Tryz.prog 66 #[.agg #[.int .i64 kd,.int .i64 nn,ut,un,.int .i64 ct]] w fun e w'=>e=.returned (.bool (fieldsB kd nn tx nms))∧Below w.heap.size w w':=by
 obtain ⟨at_,ca,rfl,_,_,_⟩:=ht
 obtain ⟨an,cn,rfl,_,_⟩:=hn
 have hp1:tx.length≤1048576:=by omega
 have hm1:nms.length≤1048576:=by unfold sizeSS at _hs;omega
 obtain ⟨m,hmm⟩:∃m,m=nms.length:=⟨_,rfl⟩
 obtain ⟨p,hpp⟩:∃p,p=tx.length:=⟨_,rfl⟩
 have HLN:Hid (nms.length=m):=hmm.symm
 have HLT:Hid (tx.length=p):=hpp.symm
 rw [← hmm] at hm1 ⊢
 rw [← hpp] at hp1 ⊢
 clear hmm hpp _hs
 have e1:(kd==1)=false:=by simp;exact n1
 have e26:(kd==26)=false:=by simp;exact n26
 have e7:(kd==7)=false:=by simp;exact n7
 have e16:(kd==16)=false:=by simp;exact n16
 have e19:(kd==19)=false:=by simp;exact n19
 have e15:(kd==15)=false:=by simp;exact n15
 have e21:(kd==21)=false:=by simp;exact n21
 have e2:(kd==2)=false:=by simp;exact n2
 have e14:(kd==14)=false:=by simp;exact n14
 have d15:(kd != 15)=true:=bne_iff_ne.mpr n15
 have hL:Hid (least kd=0):=by show _=_;unfold least;rw [if_neg (by omega)]
 have hM:Hid (most kd=0):=by show _=_;unfold most;rw [if_neg (by omega),if_neg (by omega),if_neg (by omega)]
 by_cases hhi:0<m
 ·have HF:Hid (fieldsB kd nn tx nms=false):=fB_many (by rw [hM.out,HLN.out];exact hhi)
  have hlt:(0:Int)<(m:Int):=by omega
  go_enter Tryz.func66,Tryz.ntmps66
  go_wp2
  go_ret
  exact ⟨ret_bool (by rw [HF.out]),(Below.refl _ _).alloc (Nat.le_refl _) _⟩
 have dhi:decide ((0:Int)<(m:Int))=false:=by simp;omega
 have HA:Hid (∀wr,Below (w.heap.size+1) (w.alloc (.cells #[.int .i64 kd,.int .i64 nn,.slice at_ p ca,.slice an m cn,.int .i64 ct] 61)) wr→wr.cell? ⟨w.heap.size,0,none⟩=some (.int .i64 kd)∧wr.cell? ⟨w.heap.size,1,none⟩=some (.int .i64 nn)∧wr.cell? ⟨w.heap.size,2,none⟩=some (.slice at_ p ca)∧wr.cell? ⟨w.heap.size,3,none⟩=some (.slice an m cn)):=by
  intro wr hb
  have hh:=(hb.block w.heap.size (by omega)).trans (heap_alloc_new w _)
  exact ⟨by simp only [World.cell?,hh];rfl,by simp only [World.cell?,hh];rfl,by simp only [World.cell?,hh];rfl,by simp only [World.cell?,hh];rfl⟩
 go_enter Tryz.func66,Tryz.ntmps66
 go_wp2
 go_loopw [5] (fun q wr=>∃(k:Nat),k≤m∧q=.int .i64 k∧Hid (∀j,j<k→isName (nms.getD j [])=true)∧Below (w.heap.size+1) (w.alloc (.cells #[.int .i64 kd,.int .i64 nn,.slice at_ p ca,.slice an m cn,.int .i64 ct] 61)) wr) (fun q _=>m-(intOf q).toNat)
 case atStart=>exact ⟨0,Nat.zero_le _,rfl,fun j hj=>absurd hj (by omega),Below.refl _ _⟩
 case round =>
  obtain ⟨k,hk,rfl,HJ,hbel⟩:=hrel
  obtain ⟨c0,c1,c2,c3⟩:=HA.out wr hbel
  have HBw:Hid (Below w.heap.size w wr):=((Below.refl _ _).alloc (Nat.le_refl _) _).trans (hbel.mono (by omega))
  clear hbel
  by_cases hlt:k<m
  ·omega
  ·have hkm:k=m:=by omega
   subst hkm
   have HO:Hid (fieldsB kd nn tx nms=(textOk kd p&&numOk kd nn)):=by
    show _=_
    rw [← HLT.out]
    exact fB_ok (by rw [hL.out,HLN.out];omega) (by rw [hM.out,HLN.out];omega) (fun j hj=>HJ.out j (by rw [← HLN.out];exact hj))
   by_cases hp:p=0
   ·subst hp
    have HT:Hid (textOk kd 0=true):=by show _=_;unfold textOk;simp
    go_wp2
    go_ret
    exact ⟨ret_bool (by rw [HO.out,HT.out];simp [numOk,n21,e2,e14]),HBw.out⟩
   ·have HT:Hid (textOk kd p=false):=by show _=_;unfold textOk;rw [decide_eq_false hp,decide_eq_false n15];rfl
    have dp:((p:Int) != 0)=true:=bne_iff_ne.mpr (by omega)
    go_wp2
    go_ret
    exact ⟨ret_bool (by rw [HO.out,HT.out];rfl),HBw.out⟩
theorem l3fields_any (kd nn ct:Int) (ut un:Value) (tx:List Int) (nms:List (List Int)) (w:World) (ht:RdV w ut tx) (hn:RdVV w un nms) (hs:tx.length+sizeSS nms≤1048576) :
  Calls Tryz.prog 66 #[.agg #[.int .i64 kd,.int .i64 nn,ut,un,.int .i64 ct]] w fun e w'=>e=.returned (.bool (fieldsB kd nn tx nms))∧Below w.heap.size w w':=by
 by_cases n1:kd=1
 ·subst n1;exact fl1 nn ct ut un tx nms w ht hn hs
 by_cases n26:kd=26
 ·subst n26;exact fl26 nn ct ut un tx nms w ht hn hs
 by_cases n7:kd=7
 ·subst n7;exact fl7 nn ct ut un tx nms w ht hn hs
 by_cases n16:kd=16
 ·subst n16;exact fl16 nn ct ut un tx nms w ht hn hs
 by_cases n19:kd=19
 ·subst n19;exact fl19 nn ct ut un tx nms w ht hn hs
 by_cases n15:kd=15
 ·subst n15;exact fl15 nn ct ut un tx nms w ht hn hs
 by_cases n21:kd=21
 ·subst n21;exact fl21 nn ct ut un tx nms w ht hn hs
 by_cases n2:kd=2
 ·subst n2;exact fl2 nn ct ut un tx nms w ht hn hs
 by_cases n14:kd=14
 ·subst n14;exact fl14 nn ct ut un tx nms w ht hn hs
 exact flX kd nn ct ut un tx nms w ht hn hs n1 n26 n7 n16 n19 n15 n21 n2 n14
def knd (l:List Nd) (i:Nat):Int:=(l.getD i nd0).kind
def innerOf (kd:Int) (lp:Bool):Bool:=if kd=4∨kd=5∨kd=7 then true else if kd=19 then false else lp
def letAt (s:ByteArray) (k:Nat):Int:=if h:k<s.size then ((s[k]'h).toNat:Int) else 0
theorem letAt_in {s:ByteArray} {k:Nat} (h:k<s.size):letAt s k=((s[k]'h).toNat:Int):=by unfold letAt;rw [dif_pos h]
def headOk (kd nn:Int) (tx:List Int) (nms:List (List Int)) (ct:Int) (lp:Bool):Bool :=
 decide (0≤kd)&&(decide (kd≤26)&&(fieldsB kd nn tx nms&&(decide (((shape kd nn ct).size:Int)=ct)&&(!((shape kd nn ct).toList==[63])&&(!(kd==8) || lp)))))
def goodKids (f:Nat→Bool) (l:List Nd) (blk:Bool) (sh:ByteArray):Nat→List Nat→Bool
 |_,[]=>true
 |k,x::r=>fits (letAt sh k) (knd l x)&&(f x&&(!(blk&&((knd l x==9 || knd l x==8)&&!r.isEmpty))&&goodKids f l blk sh (k+1) r))
def good (l:List Nd):Nat→Nat→Bool→Bool
 |0,_,_=>false
 |d+1,i,lp=>headOk (knd l i) (l.getD i nd0).n (l.getD i nd0).text (l.getD i nd0).names (cnt l i) lp &&
   goodKids (fun x=>good l d x (innerOf (knd l i) lp)) l (knd l i==0) (shape (knd l i) (l.getD i nd0).n (cnt l i)) 0 (kids l i)
theorem kids_ok {l:List Nd} {d:Nat} (hd:d≤200):∀{c p e:Nat},loopN (endAt l d) c p=some e→∀k,k<c→∃e',endAt l d ((kidsL l c p).getD k 0)=some e':=by
 intro c
 induction c with
 |zero=>intro p e h k hk;omega
 |succ c ih =>
  intro p e h k hk
  cases hf:endAt l d p with
  |none=>rw [loopN_none hf] at h;cases h
  |some m =>
   rw [loopN_some hf] at h
   cases k with
   |zero=>exact ⟨m,by rw [kidsL];exact hf⟩
   |succ k =>
    have e1:(kidsL l (c+1) p).getD (k+1) 0=(kidsL l c m).getD k 0:=by
     rw [kidsL];unfold nx;rw [endAt_le hf hd];rfl
    rw [e1]
    exact ih h k (by omega)
theorem goodKids_step {f:Nat→Bool} {l:List Nd} {blk:Bool} {sh:ByteArray} {ks:List Nat} {j:Nat} (h:j<ks.length) :
  goodKids f l blk sh j (ks.drop j)=(fits (letAt sh j) (knd l (ks.getD j 0))&&(f (ks.getD j 0)&&(!(blk&&((knd l (ks.getD j 0)==9 || knd l (ks.getD j 0)==8)&&decide (j+1<ks.length)))&&goodKids f l blk sh (j+1) (ks.drop (j+1))))):=by
 have e:ks.drop j=ks.getD j 0::ks.drop (j+1):=by
  rw [List.drop_eq_getElem_cons h]
  simp [List.getD_eq_getElem?_getD,List.getElem?_eq_getElem h]
 have e2:(!(ks.drop (j+1)).isEmpty)=decide (j+1<ks.length):=by
  rw [Bool.eq_iff_iff]
  simp only [Bool.not_eq_true',List.isEmpty_eq_false_iff,decide_eq_true_eq,ne_eq,List.drop_eq_nil_iff]
  omega
 rw [e,goodKids,e2]
theorem bad_neg (n cap b off i p ca q cn:Nat) (at_ an:Option Addr) (kd nn ct:Int) (lp:Bool) (w:World) (hin:i<n) (_hn:n≤6000) (_hct:0≤ct) (_hct1:ct≤6000)
  (c0:w.cell? ⟨b,off+i*5,none⟩=some (.int .i64 kd)) (c1:w.cell? ⟨b,off+i*5+1,none⟩=some (.int .i64 nn)) (c2:w.cell? ⟨b,off+i*5+2,none⟩=some (.slice at_ p ca)) (c3:w.cell? ⟨b,off+i*5+3,none⟩=some (.slice an q cn)) (c4:w.cell? ⟨b,off+i*5+4,none⟩=some (.int .i64 ct))
  (CS:Hid (∀W,Calls Tryz.prog 65 #[.agg #[.int .i64 kd,.int .i64 nn,.slice at_ p ca,.slice an q cn,.int .i64 ct]] W fun x w'=>x=.returned (.string (shape kd nn ct))∧Below W.heap.size W w')) (h:kd<0) :
  Calls Tryz.prog 35 #[.slice (some ⟨b,off,none⟩) n cap,.int .i64 i,.bool lp] w fun x w'=>x=.returned (.bool false)∧Below w.heap.size w w':=by
 have HA:Hid (∀wr,Below (w.heap.size+1) (w.alloc (.cells #[.int .i64 kd,.int .i64 nn,.slice at_ p ca,.slice an q cn,.int .i64 ct] 61)) wr→wr.cell? ⟨w.heap.size,0,none⟩=some (.int .i64 kd)∧wr.cell? ⟨w.heap.size,1,none⟩=some (.int .i64 nn)∧wr.cell? ⟨w.heap.size,2,none⟩=some (.slice at_ p ca)∧wr.cell? ⟨w.heap.size,3,none⟩=some (.slice an q cn)∧wr.cell? ⟨w.heap.size,4,none⟩=some (.int .i64 ct)∧Below w.heap.size w wr):=by
  intro wr hb
  have hh:=(hb.block w.heap.size (by omega)).trans (heap_alloc_new w _)
  exact ⟨by simp only [World.cell?,hh];rfl,by simp only [World.cell?,hh];rfl,by simp only [World.cell?,hh];rfl,by simp only [World.cell?,hh];rfl,by simp only [World.cell?,hh];rfl,((Below.refl _ _).alloc (Nat.le_refl _) _).trans (hb.mono (by omega))⟩
 go_enter Tryz.func35,Tryz.ntmps35
 go_wp2_with fail
 refine (CS.out _).mono ?_
 rintro x w1 ⟨rfl,hb1⟩
 simp only [World.size_alloc] at hb1
 obtain ⟨a0,a1,a2,a3,a4,hw1⟩:=HA.out w1 hb1
 have HB1:Hid (Below (w.heap.size+1) (w.alloc (.cells #[.int .i64 kd,.int .i64 nn,.slice at_ p ca,.slice an q cn,.int .i64 ct] 61)) w1):=hb1
 have HW1:Hid (Below w.heap.size w w1):=hw1
 have hs1:=hb1.size
 simp only [World.size_alloc] at hs1
 clear hb1 hw1 c0 c1 c2 c3 c4
 go_wp2
 go_ret
 exact ⟨rfl,HW1.out⟩
theorem bad_big (n cap b off i p ca q cn:Nat) (at_ an:Option Addr) (kd nn ct:Int) (lp:Bool) (w:World) (hin:i<n) (_hn:n≤6000) (_hct:0≤ct) (_hct1:ct≤6000)
  (c0:w.cell? ⟨b,off+i*5,none⟩=some (.int .i64 kd)) (c1:w.cell? ⟨b,off+i*5+1,none⟩=some (.int .i64 nn)) (c2:w.cell? ⟨b,off+i*5+2,none⟩=some (.slice at_ p ca)) (c3:w.cell? ⟨b,off+i*5+3,none⟩=some (.slice an q cn)) (c4:w.cell? ⟨b,off+i*5+4,none⟩=some (.int .i64 ct))
  (CS:Hid (∀W,Calls Tryz.prog 65 #[.agg #[.int .i64 kd,.int .i64 nn,.slice at_ p ca,.slice an q cn,.int .i64 ct]] W fun x w'=>x=.returned (.string (shape kd nn ct))∧Below W.heap.size W w')) (h:26<kd) :
  Calls Tryz.prog 35 #[.slice (some ⟨b,off,none⟩) n cap,.int .i64 i,.bool lp] w fun x w'=>x=.returned (.bool false)∧Below w.heap.size w w':=by
 have e0:decide (kd<0)=false:=by simp;omega
 have HA:Hid (∀wr,Below (w.heap.size+1) (w.alloc (.cells #[.int .i64 kd,.int .i64 nn,.slice at_ p ca,.slice an q cn,.int .i64 ct] 61)) wr→wr.cell? ⟨w.heap.size,0,none⟩=some (.int .i64 kd)∧wr.cell? ⟨w.heap.size,1,none⟩=some (.int .i64 nn)∧wr.cell? ⟨w.heap.size,2,none⟩=some (.slice at_ p ca)∧wr.cell? ⟨w.heap.size,3,none⟩=some (.slice an q cn)∧wr.cell? ⟨w.heap.size,4,none⟩=some (.int .i64 ct)∧Below w.heap.size w wr):=by
  intro wr hb
  have hh:=(hb.block w.heap.size (by omega)).trans (heap_alloc_new w _)
  exact ⟨by simp only [World.cell?,hh];rfl,by simp only [World.cell?,hh];rfl,by simp only [World.cell?,hh];rfl,by simp only [World.cell?,hh];rfl,by simp only [World.cell?,hh];rfl,((Below.refl _ _).alloc (Nat.le_refl _) _).trans (hb.mono (by omega))⟩
 go_enter Tryz.func35,Tryz.ntmps35
 go_wp2_with fail
 refine (CS.out _).mono ?_
 rintro x w1 ⟨rfl,hb1⟩
 simp only [World.size_alloc] at hb1
 obtain ⟨a0,a1,a2,a3,a4,hw1⟩:=HA.out w1 hb1
 have HB1:Hid (Below (w.heap.size+1) (w.alloc (.cells #[.int .i64 kd,.int .i64 nn,.slice at_ p ca,.slice an q cn,.int .i64 ct] 61)) w1):=hb1
 have HW1:Hid (Below w.heap.size w w1):=hw1
 have hs1:=hb1.size
 simp only [World.size_alloc] at hs1
 clear hb1 hw1 c0 c1 c2 c3 c4
 go_wp2
 go_ret
 exact ⟨rfl,HW1.out⟩
theorem bad_fields (n cap b off i p ca q cn:Nat) (at_ an:Option Addr) (kd nn ct:Int) (lp:Bool) (tx:List Int) (nms:List (List Int)) (w:World) (hin:i<n) (_hn:n≤6000) (_hct:0≤ct) (_hct1:ct≤6000)
  (c0:w.cell? ⟨b,off+i*5,none⟩=some (.int .i64 kd)) (c1:w.cell? ⟨b,off+i*5+1,none⟩=some (.int .i64 nn)) (c2:w.cell? ⟨b,off+i*5+2,none⟩=some (.slice at_ p ca)) (c3:w.cell? ⟨b,off+i*5+3,none⟩=some (.slice an q cn)) (c4:w.cell? ⟨b,off+i*5+4,none⟩=some (.int .i64 ct))
  (CS:Hid (∀W,Calls Tryz.prog 65 #[.agg #[.int .i64 kd,.int .i64 nn,.slice at_ p ca,.slice an q cn,.int .i64 ct]] W fun x w'=>x=.returned (.string (shape kd nn ct))∧Below W.heap.size W w'))
  (CF:Hid (∀W,Below w.heap.size w W→Calls Tryz.prog 66 #[.agg #[.int .i64 kd,.int .i64 nn,.slice at_ p ca,.slice an q cn,.int .i64 ct]] W fun e w'=>e=.returned (.bool (fieldsB kd nn tx nms))∧Below W.heap.size W w')) (h0:0≤kd) (h26:kd≤26) (h:fieldsB kd nn tx nms=false) :
  Calls Tryz.prog 35 #[.slice (some ⟨b,off,none⟩) n cap,.int .i64 i,.bool lp] w fun x w'=>x=.returned (.bool false)∧Below w.heap.size w w':=by
 have e0:decide (kd<0)=false:=by simp;omega
 have e1:decide (26<kd)=false:=by simp;omega
 rw [h] at CF
 have HA:Hid (∀wr,Below (w.heap.size+1) (w.alloc (.cells #[.int .i64 kd,.int .i64 nn,.slice at_ p ca,.slice an q cn,.int .i64 ct] 61)) wr→wr.cell? ⟨w.heap.size,0,none⟩=some (.int .i64 kd)∧wr.cell? ⟨w.heap.size,1,none⟩=some (.int .i64 nn)∧wr.cell? ⟨w.heap.size,2,none⟩=some (.slice at_ p ca)∧wr.cell? ⟨w.heap.size,3,none⟩=some (.slice an q cn)∧wr.cell? ⟨w.heap.size,4,none⟩=some (.int .i64 ct)∧Below w.heap.size w wr):=by
  intro wr hb
  have hh:=(hb.block w.heap.size (by omega)).trans (heap_alloc_new w _)
  exact ⟨by simp only [World.cell?,hh];rfl,by simp only [World.cell?,hh];rfl,by simp only [World.cell?,hh];rfl,by simp only [World.cell?,hh];rfl,by simp only [World.cell?,hh];rfl,((Below.refl _ _).alloc (Nat.le_refl _) _).trans (hb.mono (by omega))⟩
 go_enter Tryz.func35,Tryz.ntmps35
 go_wp2_with fail
 refine (CS.out _).mono ?_
 rintro x w1 ⟨rfl,hb1⟩
 simp only [World.size_alloc] at hb1
 obtain ⟨a0,a1,a2,a3,a4,hw1⟩:=HA.out w1 hb1
 have HB1:Hid (Below (w.heap.size+1) (w.alloc (.cells #[.int .i64 kd,.int .i64 nn,.slice at_ p ca,.slice an q cn,.int .i64 ct] 61)) w1):=hb1
 have HW1:Hid (Below w.heap.size w w1):=hw1
 have hs1:=hb1.size
 simp only [World.size_alloc] at hs1
 clear hb1 hw1 c0 c1 c2 c3 c4
 go_wp2_with fail
 refine (CF.out _ HW1.out).mono ?_
 rintro x w2 ⟨rfl,hb2⟩
 have HB2:Hid (Below (w.heap.size+1) (w.alloc (.cells #[.int .i64 kd,.int .i64 nn,.slice at_ p ca,.slice an q cn,.int .i64 ct] 61)) w2):=HB1.out.trans (hb2.mono hs1)
 obtain ⟨d0,d1,d2,d3,d4,hw2⟩:=HA.out w2 HB2.out
 have HW2:Hid (Below w.heap.size w w2):=hw2
 have hs2:=hb2.size
 clear hb2 hw2 a0 a1 a2 a3 a4
 go_wp2
 go_ret
 exact ⟨rfl,HW2.out⟩
theorem bad_size (n cap b off i p ca q cn:Nat) (at_ an:Option Addr) (kd nn ct:Int) (lp:Bool) (tx:List Int) (nms:List (List Int)) (w:World) (hin:i<n) (_hn:n≤6000) (_hct:0≤ct) (_hct1:ct≤6000)
  (c0:w.cell? ⟨b,off+i*5,none⟩=some (.int .i64 kd)) (c1:w.cell? ⟨b,off+i*5+1,none⟩=some (.int .i64 nn)) (c2:w.cell? ⟨b,off+i*5+2,none⟩=some (.slice at_ p ca)) (c3:w.cell? ⟨b,off+i*5+3,none⟩=some (.slice an q cn)) (c4:w.cell? ⟨b,off+i*5+4,none⟩=some (.int .i64 ct))
  (CS:Hid (∀W,Calls Tryz.prog 65 #[.agg #[.int .i64 kd,.int .i64 nn,.slice at_ p ca,.slice an q cn,.int .i64 ct]] W fun x w'=>x=.returned (.string (shape kd nn ct))∧Below W.heap.size W w'))
  (CF:Hid (∀W,Below w.heap.size w W→Calls Tryz.prog 66 #[.agg #[.int .i64 kd,.int .i64 nn,.slice at_ p ca,.slice an q cn,.int .i64 ct]] W fun e w'=>e=.returned (.bool (fieldsB kd nn tx nms))∧Below W.heap.size W w')) (h0:0≤kd) (h26:kd≤26) (hf:fieldsB kd nn tx nms=true) (h:¬((shape kd nn ct).size:Int)=ct) :
  Calls Tryz.prog 35 #[.slice (some ⟨b,off,none⟩) n cap,.int .i64 i,.bool lp] w fun x w'=>x=.returned (.bool false)∧Below w.heap.size w w':=by
 have e0:decide (kd<0)=false:=by simp;omega
 have e1:decide (26<kd)=false:=by simp;omega
 rw [hf] at CF
 have hne:(((shape kd nn ct).size:Int) != ct)=true:=bne_iff_ne.mpr h
 generalize shape kd nn ct=sh at CS hne h
 have HA:Hid (∀wr,Below (w.heap.size+1) (w.alloc (.cells #[.int .i64 kd,.int .i64 nn,.slice at_ p ca,.slice an q cn,.int .i64 ct] 61)) wr→wr.cell? ⟨w.heap.size,0,none⟩=some (.int .i64 kd)∧wr.cell? ⟨w.heap.size,1,none⟩=some (.int .i64 nn)∧wr.cell? ⟨w.heap.size,2,none⟩=some (.slice at_ p ca)∧wr.cell? ⟨w.heap.size,3,none⟩=some (.slice an q cn)∧wr.cell? ⟨w.heap.size,4,none⟩=some (.int .i64 ct)∧Below w.heap.size w wr):=by
  intro wr hb
  have hh:=(hb.block w.heap.size (by omega)).trans (heap_alloc_new w _)
  exact ⟨by simp only [World.cell?,hh];rfl,by simp only [World.cell?,hh];rfl,by simp only [World.cell?,hh];rfl,by simp only [World.cell?,hh];rfl,by simp only [World.cell?,hh];rfl,((Below.refl _ _).alloc (Nat.le_refl _) _).trans (hb.mono (by omega))⟩
 go_enter Tryz.func35,Tryz.ntmps35
 go_wp2_with fail
 refine (CS.out _).mono ?_
 rintro x w1 ⟨rfl,hb1⟩
 simp only [World.size_alloc] at hb1
 obtain ⟨a0,a1,a2,a3,a4,hw1⟩:=HA.out w1 hb1
 have HB1:Hid (Below (w.heap.size+1) (w.alloc (.cells #[.int .i64 kd,.int .i64 nn,.slice at_ p ca,.slice an q cn,.int .i64 ct] 61)) w1):=hb1
 have HW1:Hid (Below w.heap.size w w1):=hw1
 have hs1:=hb1.size
 simp only [World.size_alloc] at hs1
 clear hb1 hw1 c0 c1 c2 c3 c4
 go_wp2_with fail
 refine (CF.out _ HW1.out).mono ?_
 rintro x w2 ⟨rfl,hb2⟩
 have HB2:Hid (Below (w.heap.size+1) (w.alloc (.cells #[.int .i64 kd,.int .i64 nn,.slice at_ p ca,.slice an q cn,.int .i64 ct] 61)) w2):=HB1.out.trans (hb2.mono hs1)
 obtain ⟨d0,d1,d2,d3,d4,hw2⟩:=HA.out w2 HB2.out
 have HW2:Hid (Below w.heap.size w w2):=hw2
 have hs2:=hb2.size
 clear hb2 hw2 a0 a1 a2 a3 a4
 go_wp2
 go_ret
 exact ⟨rfl,HW2.out⟩
theorem bad_shape (n cap b off i p ca q cn:Nat) (at_ an:Option Addr) (kd nn ct:Int) (lp:Bool) (tx:List Int) (nms:List (List Int)) (w:World) (hin:i<n) (_hn:n≤6000) (_hct:0≤ct) (_hct1:ct≤6000)
  (c0:w.cell? ⟨b,off+i*5,none⟩=some (.int .i64 kd)) (c1:w.cell? ⟨b,off+i*5+1,none⟩=some (.int .i64 nn)) (c2:w.cell? ⟨b,off+i*5+2,none⟩=some (.slice at_ p ca)) (c3:w.cell? ⟨b,off+i*5+3,none⟩=some (.slice an q cn)) (c4:w.cell? ⟨b,off+i*5+4,none⟩=some (.int .i64 ct))
  (CS:Hid (∀W,Calls Tryz.prog 65 #[.agg #[.int .i64 kd,.int .i64 nn,.slice at_ p ca,.slice an q cn,.int .i64 ct]] W fun x w'=>x=.returned (.string (shape kd nn ct))∧Below W.heap.size W w'))
  (CF:Hid (∀W,Below w.heap.size w W→Calls Tryz.prog 66 #[.agg #[.int .i64 kd,.int .i64 nn,.slice at_ p ca,.slice an q cn,.int .i64 ct]] W fun e w'=>e=.returned (.bool (fieldsB kd nn tx nms))∧Below W.heap.size W w')) (h0:0≤kd) (h26:kd≤26) (hf:fieldsB kd nn tx nms=true) (hsz:((shape kd nn ct).size:Int)=ct) (h:((shape kd nn ct).toList==[63])=true) :
  Calls Tryz.prog 35 #[.slice (some ⟨b,off,none⟩) n cap,.int .i64 i,.bool lp] w fun x w'=>x=.returned (.bool false)∧Below w.heap.size w w':=by
 have e0:decide (kd<0)=false:=by simp;omega
 have e1:decide (26<kd)=false:=by simp;omega
 rw [hf] at CF
 have hne:(((shape kd nn ct).size:Int) != ct)=false:=by rw [hsz];simp
 generalize shape kd nn ct=sh at CS hne h hsz
 have HA:Hid (∀wr,Below (w.heap.size+1) (w.alloc (.cells #[.int .i64 kd,.int .i64 nn,.slice at_ p ca,.slice an q cn,.int .i64 ct] 61)) wr→wr.cell? ⟨w.heap.size,0,none⟩=some (.int .i64 kd)∧wr.cell? ⟨w.heap.size,1,none⟩=some (.int .i64 nn)∧wr.cell? ⟨w.heap.size,2,none⟩=some (.slice at_ p ca)∧wr.cell? ⟨w.heap.size,3,none⟩=some (.slice an q cn)∧wr.cell? ⟨w.heap.size,4,none⟩=some (.int .i64 ct)∧Below w.heap.size w wr):=by
  intro wr hb
  have hh:=(hb.block w.heap.size (by omega)).trans (heap_alloc_new w _)
  exact ⟨by simp only [World.cell?,hh];rfl,by simp only [World.cell?,hh];rfl,by simp only [World.cell?,hh];rfl,by simp only [World.cell?,hh];rfl,by simp only [World.cell?,hh];rfl,((Below.refl _ _).alloc (Nat.le_refl _) _).trans (hb.mono (by omega))⟩
 go_enter Tryz.func35,Tryz.ntmps35
 go_wp2_with fail
 refine (CS.out _).mono ?_
 rintro x w1 ⟨rfl,hb1⟩
 simp only [World.size_alloc] at hb1
 obtain ⟨a0,a1,a2,a3,a4,hw1⟩:=HA.out w1 hb1
 have HB1:Hid (Below (w.heap.size+1) (w.alloc (.cells #[.int .i64 kd,.int .i64 nn,.slice at_ p ca,.slice an q cn,.int .i64 ct] 61)) w1):=hb1
 have HW1:Hid (Below w.heap.size w w1):=hw1
 have hs1:=hb1.size
 simp only [World.size_alloc] at hs1
 clear hb1 hw1 c0 c1 c2 c3 c4
 go_wp2_with fail
 refine (CF.out _ HW1.out).mono ?_
 rintro x w2 ⟨rfl,hb2⟩
 have HB2:Hid (Below (w.heap.size+1) (w.alloc (.cells #[.int .i64 kd,.int .i64 nn,.slice at_ p ca,.slice an q cn,.int .i64 ct] 61)) w2):=HB1.out.trans (hb2.mono hs1)
 obtain ⟨d0,d1,d2,d3,d4,hw2⟩:=HA.out w2 HB2.out
 have HW2:Hid (Below w.heap.size w w2):=hw2
 have hs2:=hb2.size
 clear hb2 hw2 a0 a1 a2 a3 a4
 go_wp2
 go_ret
 exact ⟨rfl,HW2.out⟩
theorem bad_break (n cap b off i p ca q cn:Nat) (at_ an:Option Addr) (nn ct:Int) (lp:Bool) (tx:List Int) (nms:List (List Int)) (w:World) (hin:i<n) (_hn:n≤6000) (_hct:0≤ct) (_hct1:ct≤6000)
  (c0:w.cell? ⟨b,off+i*5,none⟩=some (.int .i64 8)) (c1:w.cell? ⟨b,off+i*5+1,none⟩=some (.int .i64 nn)) (c2:w.cell? ⟨b,off+i*5+2,none⟩=some (.slice at_ p ca)) (c3:w.cell? ⟨b,off+i*5+3,none⟩=some (.slice an q cn)) (c4:w.cell? ⟨b,off+i*5+4,none⟩=some (.int .i64 ct))
  (CS:Hid (∀W,Calls Tryz.prog 65 #[.agg #[.int .i64 8,.int .i64 nn,.slice at_ p ca,.slice an q cn,.int .i64 ct]] W fun x w'=>x=.returned (.string (shape 8 nn ct))∧Below W.heap.size W w'))
  (CF:Hid (∀W,Below w.heap.size w W→Calls Tryz.prog 66 #[.agg #[.int .i64 8,.int .i64 nn,.slice at_ p ca,.slice an q cn,.int .i64 ct]] W fun e w'=>e=.returned (.bool (fieldsB 8 nn tx nms))∧Below W.heap.size W w')) (hlp:lp=false) (hf:fieldsB 8 nn tx nms=true) (hsz:((shape 8 nn ct).size:Int)=ct) (h:((shape 8 nn ct).toList==[63])=false) :
  Calls Tryz.prog 35 #[.slice (some ⟨b,off,none⟩) n cap,.int .i64 i,.bool lp] w fun x w'=>x=.returned (.bool false)∧Below w.heap.size w w':=by
 subst hlp
 rw [hf] at CF
 have hne:(((shape 8 nn ct).size:Int) != ct)=false:=by rw [hsz];simp
 generalize shape 8 nn ct=sh at CS hne h hsz
 have HA:Hid (∀wr,Below (w.heap.size+1) (w.alloc (.cells #[.int .i64 8,.int .i64 nn,.slice at_ p ca,.slice an q cn,.int .i64 ct] 61)) wr→wr.cell? ⟨w.heap.size,0,none⟩=some (.int .i64 8)∧wr.cell? ⟨w.heap.size,1,none⟩=some (.int .i64 nn)∧wr.cell? ⟨w.heap.size,2,none⟩=some (.slice at_ p ca)∧wr.cell? ⟨w.heap.size,3,none⟩=some (.slice an q cn)∧wr.cell? ⟨w.heap.size,4,none⟩=some (.int .i64 ct)∧Below w.heap.size w wr):=by
  intro wr hb
  have hh:=(hb.block w.heap.size (by omega)).trans (heap_alloc_new w _)
  exact ⟨by simp only [World.cell?,hh];rfl,by simp only [World.cell?,hh];rfl,by simp only [World.cell?,hh];rfl,by simp only [World.cell?,hh];rfl,by simp only [World.cell?,hh];rfl,((Below.refl _ _).alloc (Nat.le_refl _) _).trans (hb.mono (by omega))⟩
 go_enter Tryz.func35,Tryz.ntmps35
 go_wp2_with fail
 refine (CS.out _).mono ?_
 rintro x w1 ⟨rfl,hb1⟩
 simp only [World.size_alloc] at hb1
 obtain ⟨a0,a1,a2,a3,a4,hw1⟩:=HA.out w1 hb1
 have HB1:Hid (Below (w.heap.size+1) (w.alloc (.cells #[.int .i64 8,.int .i64 nn,.slice at_ p ca,.slice an q cn,.int .i64 ct] 61)) w1):=hb1
 have HW1:Hid (Below w.heap.size w w1):=hw1
 have hs1:=hb1.size
 simp only [World.size_alloc] at hs1
 clear hb1 hw1 c0 c1 c2 c3 c4
 go_wp2_with fail
 refine (CF.out _ HW1.out).mono ?_
 rintro x w2 ⟨rfl,hb2⟩
 have HB2:Hid (Below (w.heap.size+1) (w.alloc (.cells #[.int .i64 8,.int .i64 nn,.slice at_ p ca,.slice an q cn,.int .i64 ct] 61)) w2):=HB1.out.trans (hb2.mono hs1)
 obtain ⟨d0,d1,d2,d3,d4,hw2⟩:=HA.out w2 HB2.out
 have HW2:Hid (Below w.heap.size w w2):=hw2
 have hs2:=hb2.size
 clear hb2 hw2 a0 a1 a2 a3 a4
 go_wp2
 go_ret
 exact ⟨rfl,HW2.out⟩
end vt
end Go.Proofs.YtkmiagkehcflnaaGreatDoor
