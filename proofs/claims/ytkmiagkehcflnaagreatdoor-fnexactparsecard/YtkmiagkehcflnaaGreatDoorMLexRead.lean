import Derived.BigQuiet
import Derived.Deep.QuietTactic
import Derived.Test.YtkmiagkehcflnaaGreatDoorMLitWalks
import Derived.Test.YtkmiagkehcflnaaGreatDoorMTrLc
set_option maxRecDepth 100000
set_option maxHeartbeats 8000000
namespace Go.Proofs.YtkmiagkehcflnaaGreatDoor
namespace lex
open Go.RowKit bts scn lit
theorem alnum_yes {c:Int} (h:(97≤c∧c≤122)∨(65≤c∧c≤90)∨c=95∨(48≤c∧c≤57)):alnum c=true:=by
 unfold alnum letter digit
 rcases h with ⟨a,b⟩|⟨a,b⟩|a|⟨a,b⟩ <;> simp [*]
theorem alnum_no {c:Int} (h:¬((97≤c∧c≤122)∨(65≤c∧c≤90)∨c=95∨(48≤c∧c≤57))):alnum c=false:=by
 unfold alnum
 rw [letter_no (by omega),digit_no (by omega)];rfl
theorem blank_yes' {c:Int} (h:c=32∨c=9∨c=13∨c=10):blank c=true:=by rcases h with rfl|rfl|rfl|rfl <;> rfl
theorem blank_no' {c:Int} (h:¬(c=32∨c=9∨c=13∨c=10)):blank c=false:=by
 rw [Bool.eq_false_iff]
 intro hc
 unfold blank at hc
 simp only [Bool.or_eq_true,beq_iff_eq] at hc
 omega
theorem isBlank_any (c:Int) (w:World) :
  Calls Tryz.prog 72 #[.int .u8 c] w fun e w'=>e=.returned (.bool (blank c))∧w'=w:=by
 by_cases hc:c=32∨c=9∨c=13∨c=10
 ·rw [blank_yes' hc]
  rcases hc with rfl|rfl|rfl|rfl
  all_goals
   go_enter Tryz.func72,Tryz.ntmps72
   go_wp2
   go_ret
   exact ⟨rfl,rfl⟩
 ·rw [blank_no' hc]
  have e32:(c==32)=false:=by simp;omega
  have e9:(c==9)=false:=by simp;omega
  have e13:(c==13)=false:=by simp;omega
  have e10:(c==10)=false:=by simp;omega
  clear hc
  go_enter Tryz.func72,Tryz.ntmps72
  go_wp2
  go_ret
  exact ⟨ret_bool (by simp [*]),rfl⟩
theorem isDigit_any (c:Int) (w:World) :
  Calls Tryz.prog 73 #[.int .u8 c] w fun e w'=>e=.returned (.bool (digit c))∧w'=w:=by
 have hc:c<48∨(48≤c∧c≤57)∨57<c:=by omega
 rcases hc with a|⟨a,b⟩|a
 all_goals
  go_enter Tryz.func73,Tryz.ntmps73
  go_wp2
  go_ret
  exact ⟨ret_bool (by first|(rw [digit_yes (by omega)];done)|(rw [digit_no (by omega)];done)|(rw [digit_no (by omega)];simp;omega)),rfl⟩
theorem isWordByte_any (c:Int) (w:World) :
  Calls Tryz.prog 74 #[.int .u8 c] w fun e w'=>e=.returned (.bool (alnum c))∧w'=w:=by
 have D:=isDigit_any c w
 have hc:c<48∨(48≤c∧c≤57)∨(57<c∧c<65)∨(65≤c∧c≤90)∨(90<c∧c<95)∨c=95∨c=96∨(97≤c∧c≤122)∨122<c:=by omega
 rcases hc with a|⟨a,b⟩|⟨a,b⟩|⟨a,b⟩|⟨a,b⟩|rfl|rfl|⟨a,b⟩|a
 ·have e95:(c==95)=false:=by simp;omega
  rw [digit_no (by omega)] at D
  rw [alnum_no (by omega)]
  go_enter Tryz.func74,Tryz.ntmps74
  go_wp2_with (go_at_call 73;refine D.mono ?_;rintro e w' ⟨rfl,hw⟩;replace hw:=hw.symm;subst hw)
  go_ret
  exact ⟨rfl,rfl⟩
 ·have e95:(c==95)=false:=by simp;omega
  rw [digit_yes (by omega)] at D
  rw [alnum_yes (by omega)]
  go_enter Tryz.func74,Tryz.ntmps74
  go_wp2_with (go_at_call 73;refine D.mono ?_;rintro e w' ⟨rfl,hw⟩;replace hw:=hw.symm;subst hw)
  go_ret
  exact ⟨rfl,rfl⟩
 ·have e95:(c==95)=false:=by simp;omega
  rw [digit_no (by omega)] at D
  rw [alnum_no (by omega)]
  go_enter Tryz.func74,Tryz.ntmps74
  go_wp2_with (go_at_call 73;refine D.mono ?_;rintro e w' ⟨rfl,hw⟩;replace hw:=hw.symm;subst hw)
  go_ret
  exact ⟨rfl,rfl⟩
 ·rw [alnum_yes (by omega)]
  go_enter Tryz.func74,Tryz.ntmps74
  go_wp2
  go_ret
  exact ⟨rfl,rfl⟩
 ·have e95:(c==95)=false:=by simp;omega
  rw [digit_no (by omega)] at D
  rw [alnum_no (by omega)]
  go_enter Tryz.func74,Tryz.ntmps74
  go_wp2_with (go_at_call 73;refine D.mono ?_;rintro e w' ⟨rfl,hw⟩;replace hw:=hw.symm;subst hw)
  go_ret
  exact ⟨ret_bool (by simp;omega),rfl⟩
 ·rw [alnum_yes (by omega)]
  go_enter Tryz.func74,Tryz.ntmps74
  go_wp2
  go_ret
  exact ⟨rfl,rfl⟩
 ·rw [digit_no (by omega)] at D
  rw [alnum_no (by omega)]
  go_enter Tryz.func74,Tryz.ntmps74
  go_wp2_with (go_at_call 73;refine D.mono ?_;rintro e w' ⟨rfl,hw⟩;replace hw:=hw.symm;subst hw)
  go_ret
  exact ⟨rfl,rfl⟩
 ·rw [alnum_yes (by omega)]
  go_enter Tryz.func74,Tryz.ntmps74
  go_wp2
  go_ret
  exact ⟨rfl,rfl⟩
 ·have e95:(c==95)=false:=by simp;omega
  rw [digit_no (by omega)] at D
  rw [alnum_no (by omega)]
  go_enter Tryz.func74,Tryz.ntmps74
  go_wp2_with (go_at_call 73;refine D.mono ?_;rintro e w' ⟨rfl,hw⟩;replace hw:=hw.symm;subst hw)
  go_ret
  exact ⟨ret_bool (by simp;omega),rfl⟩
theorem readSign_any (c:Int) (w:World) :
  Calls Tryz.prog 77 #[.int .u8 c] w fun e w'=>e=.returned (.tuple #[.int .i64 (sgn c).1,.int .u8 (sgn c).2])∧w'=w:=by
 rcases sgn_cases c with ⟨h,e⟩|⟨h,e⟩|⟨h,e⟩|⟨h,e⟩|⟨h,e⟩|⟨h1,h2,h3,h4,h5,e⟩ <;> rw [e]
 ·rcases h with rfl|rfl|rfl|rfl|rfl|rfl|rfl|rfl|rfl|rfl|rfl
  all_goals
   clear e
   go_enter Tryz.func77,Tryz.ntmps77
   go_wp2
   go_ret2
   exact ⟨rfl,rfl⟩
 ·rcases h with rfl|rfl|rfl
  all_goals
   clear e
   go_enter Tryz.func77,Tryz.ntmps77
   go_wp2
   go_ret2
   exact ⟨rfl,rfl⟩
 ·rcases h with rfl|rfl
  all_goals
   clear e
   go_enter Tryz.func77,Tryz.ntmps77
   go_wp2
   go_ret2
   exact ⟨rfl,rfl⟩
 ·subst h
  clear e
  go_enter Tryz.func77,Tryz.ntmps77
  go_wp2
  go_ret2
  exact ⟨rfl,rfl⟩
 ·subst h
  clear e
  go_enter Tryz.func77,Tryz.ntmps77
  go_wp2
  go_ret2
  exact ⟨rfl,rfl⟩
 ·have a43:(c==43)=false:=by simp;omega
  have a42:(c==42)=false:=by simp;omega
  have a37:(c==37)=false:=by simp;omega
  have a40:(c==40)=false:=by simp;omega
  have a41:(c==41)=false:=by simp;omega
  have a123:(c==123)=false:=by simp;omega
  have a125:(c==125)=false:=by simp;omega
  have a91:(c==91)=false:=by simp;omega
  have a93:(c==93)=false:=by simp;omega
  have a59:(c==59)=false:=by simp;omega
  have a44:(c==44)=false:=by simp;omega
  have a61:(c==61)=false:=by simp;omega
  have a60:(c==60)=false:=by simp;omega
  have a62:(c==62)=false:=by simp;omega
  have a46:(c==46)=false:=by simp;omega
  have a45:(c==45)=false:=by simp;omega
  have a126:(c==126)=false:=by simp;omega
  have a47:(c==47)=false:=by simp;omega
  clear h1 h2 h3 h4 h5 e
  go_enter Tryz.func77,Tryz.ntmps77
  go_wp2
  go_ret2
  exact ⟨rfl,rfl⟩
theorem runSize_any (b off cap n:Nat) (zs:List Int) (w:World) (hcell:∀i,i<zs.length→w.cell? ⟨b,off+i,none⟩=some (.int .u8 (zs.getD i 0))) (hl:zs.length=n) (hm:n≤1073741824) :
  Calls Tryz.prog 78 #[.slice (some ⟨b,off,none⟩) n cap] w fun e w'=>e=.returned (.int .i64 (span alnum zs 0))∧w'=w:=by
 have HL:Hid (zs.length=n):=hl
 have HC:Hid (∀i,i<zs.length→w.cell? ⟨b,off+i,none⟩=some (.int .u8 (zs.getD i 0))):=hcell
 clear hl hcell
 go_enter Tryz.func78,Tryz.ntmps78
 go_wp2
 go_loop [7] (fun q=>∃(m:Nat),m≤n∧q=.int .i64 m∧Hid (span alnum zs 0=m+span alnum zs m)) (fun q=>n-(intOf q).toNat)
 case atStart=>exact ⟨0,by omega,rfl,by show _=_;rw [Nat.zero_add]⟩
 case round =>
  obtain ⟨m,hm1,rfl,HR⟩:=hrel
  by_cases hlt:m<n
  ·have hc:=HC.out m (by rw [HL.out];exact hlt)
   obtain ⟨z,hzz⟩:∃z,z=zs.getD m 0:=⟨_,rfl⟩
   rw [← hzz] at hc
   have HZ:Hid (zs.getD m 0=z):=hzz.symm
   have HI:Hid (m<zs.length):=by show _<_;rw [HL.out];exact hlt
   clear hzz
   have W:=isWordByte_any z w
   by_cases ha:alnum z=true
   ·have HA:Hid (span alnum zs 0=(m+1)+span alnum zs (m+1)):=by show _=_;rw [HR.out,span_step HI.out (by rw [HZ.out];exact ha)];omega
    rw [ha] at W
    go_wp2_with (go_at_call 74;refine W.mono ?_;rintro e w' ⟨rfl,hw⟩;replace hw:=hw.symm;subst hw)
    go_round
    case rel=>exact ⟨m+1,by omega,by go_num,HA⟩
    case measure=>simp [intOf];omega
   ·have ha':alnum z=false:=by simpa using ha
    clear ha
    have HE:Hid (span alnum zs 0=m):=by show _=_;rw [HR.out,span_stop (by rw [HZ.out];exact ha')];rfl
    rw [ha'] at W
    go_wp2_with (go_at_call 74;refine W.mono ?_;rintro e w' ⟨rfl,hw⟩;replace hw:=hw.symm;subst hw)
    go_ret
    exact ⟨ret_int (by rw [HE.out]),rfl⟩
  ·have HE:Hid (span alnum zs 0=m):=by show _=_;rw [HR.out,span_end (by rw [HL.out];omega)];rfl
   have hmn:m=n:=by omega
   subst hmn
   go_wp2
   go_ret
   exact ⟨ret_int (by rw [HE.out]),rfl⟩
def wkind (s:ByteArray):Int:=if isIn words s then 4 else 1
theorem toList_len (bs:ByteArray):bs.data.toList.length=bs.size:=Array.length_toList
theorem toList_loop (bs:ByteArray):∀(j i:Nat) (r:List UInt8),bs.size-i≤j→ByteArray.toList.loop bs i r=r.reverse++bs.data.toList.drop i:=by
 intro j
 induction j with
 |zero =>
  intro i r h
  rw [ByteArray.toList.loop,if_neg (by omega),List.drop_of_length_le (by rw [toList_len];omega),List.append_nil]
 |succ j ih =>
  intro i r h
  by_cases hi:i<bs.size
  ·have hs:=toList_len bs
   rw [ByteArray.toList.loop,if_pos hi,ih (i+1) _ (by omega),List.drop_eq_getElem_cons (l:=bs.data.toList) (i:=i) (by omega),List.reverse_cons,List.append_assoc]
   have e:bs.get! i=bs.data.toList[i]'(by omega):=by
    have hi':i<bs.data.size:=hi
    show bs.data[i]! = _
    rw [getElem!_pos bs.data i hi',Array.getElem_toList]
   rw [e];rfl
  ·rw [ByteArray.toList.loop,if_neg hi,List.drop_of_length_le (by rw [toList_len];omega),List.append_nil]
theorem toList_mk (bs:ByteArray):bs.toList=bs.data.toList:=by
 unfold ByteArray.toList
 rw [toList_loop bs bs.size 0 [] (by omega)];rfl
theorem wkind_hit {s:ByteArray} {l:List UInt8} (h:(s.toList==l)=true) (hl:l∈words.map (fun x=>x.data.toList)):wkind s=4:=by
 unfold wkind isIn
 rw [if_pos]
 rw [List.any_eq_true]
 obtain ⟨x,hx,e⟩:=List.mem_map.mp hl
 refine ⟨x,hx,?_⟩
 rw [toList_mk x,e]
 simp only [beq_iff_eq] at h ⊢
 exact h.symm
theorem wkind_miss {s:ByteArray} (h:∀l∈words.map (fun x=>x.data.toList),(s.toList==l)=false):wkind s=1:=by
 unfold wkind isIn
 rw [if_neg]
 rw [List.any_eq_true]
 rintro ⟨x,hx,e⟩
 have:=h _ (List.mem_map_of_mem hx)
 rw [← toList_mk x] at this
 simp only [beq_iff_eq] at e
 rw [e] at this
 simp at this
theorem conv_at (b off n cap:Nat) (zs:List Int) (w:World) (hcell:∀i,i<zs.length→w.cell? ⟨b,off+i,none⟩=some (.int .u8 (zs.getD i 0))) (h:n≤zs.length) :
  (convert 22 9 (.slice (some ⟨b,off,none⟩) n cap)).run Tryz.prog w=.ok (.string (strOfNums (part zs 0 n))) w :=
 run_convert_bytes_arg w 22 5 Tryz.underlying22 Tryz.underlying5 b off n cap (part zs 0 n) (part_len (by omega)) (fun i hi=>by rw [part_getD hi,Nat.zero_add];exact hcell i (by omega)) 9 Tryz.underlying9
theorem readWord_any (b off cap n:Nat) (zs:List Int) (w:World) (hcell:∀i,i<zs.length→w.cell? ⟨b,off+i,none⟩=some (.int .u8 (zs.getD i 0))) (hl:zs.length=n) (hcap:n≤cap) (_hm:cap≤9223372036854775807) (hnb:n≤1048576:=by omega) :
  Calls Tryz.prog 75 #[.slice (some ⟨b,off,none⟩) n cap] w fun e w'=>e=.returned (.tuple #[.int .i64 (wkind (strOfNums (part zs 0 (span alnum zs 0)))),.int .i64 (span alnum zs 0)])∧w'=w:=by
 have R:=runSize_any b off cap n zs w hcell hl (by omega)
 have hle:=span_le alnum zs 0
 have CV:=conv_at b off (span alnum zs 0) cap zs w hcell (by omega)
 obtain ⟨m,hmm⟩:∃m,m=span alnum zs 0:=⟨_,rfl⟩
 rw [← hmm] at R hle CV ⊢
 obtain ⟨s,hs⟩:∃s,s=strOfNums (part zs 0 m):=⟨_,rfl⟩
 rw [← hs] at CV ⊢
 have hmn:m≤n:=by omega
 clear hle hs hmm hcell hl
 go_enter Tryz.func75,Tryz.ntmps75
 go_wp2_with fail
 refine R.mono ?_
 rintro e w' ⟨rfl,hw⟩
 replace hw:=hw.symm
 subst hw
 clear R
 go_wp2_with fail
 all_goals
  first
  |(exfalso;simp_all;done)
  |(go_ret2;refine ⟨ret_two (_,_) rfl ?_ rfl,rfl⟩;exact wkind_hit (by assumption) (by decide))
  |(go_ret2;refine ⟨ret_two (_,_) rfl ?_ rfl,rfl⟩;refine wkind_miss ?_;intro l hl;simp only [words,List.map_cons,List.map_nil,List.mem_cons,List.not_mem_nil,or_false] at hl;rcases hl with rfl|rfl|rfl|rfl|rfl|rfl|rfl|rfl|rfl|rfl|rfl|rfl|rfl|rfl|rfl|rfl|rfl|rfl|rfl|rfl <;> assumption)
end lex
end Go.Proofs.YtkmiagkehcflnaaGreatDoor
