import Derived.Handy
import Derived.Test.YtkmiagkehcflnaaGreatDoorMIpTab
import Derived.Test.YtkmiagkehcflnaaGreatDoorMScanMore
import Derived.Test.YtkmiagkehcflnaaGreatDoorMVtEnd
import Derived.Test.YtkmiagkehcflnaaGreatDoorMPsLists
set_option maxRecDepth 100000
set_option maxHeartbeats 8000000
namespace Go.Proofs.YtkmiagkehcflnaaGreatDoor
namespace lex
open Go.RowKit bts scn lit
theorem ret_bool {a b:Bool} (h:a=b):Ending.returned (.bool a)=.returned (.bool b):=by rw [h]
theorem letter_yes {c:Int} (h:(97≤c∧c≤122)∨(65≤c∧c≤90)∨c=95):letter c=true:=by
 unfold letter
 rcases h with ⟨a,b⟩|⟨a,b⟩|a <;> simp [*]
theorem letter_no {c:Int} (h:¬((97≤c∧c≤122)∨(65≤c∧c≤90)∨c=95)):letter c=false:=by
 rw [Bool.eq_false_iff]
 intro hc
 unfold letter at hc
 simp only [Bool.or_eq_true,Bool.and_eq_true,decide_eq_true_eq,beq_iff_eq] at hc
 omega
theorem digit_yes {c:Int} (h:48≤c∧c≤57):digit c=true:=by unfold digit;simp [h.1,h.2]
theorem digit_no {c:Int} (h:¬(48≤c∧c≤57)):digit c=false:=by
 rw [Bool.eq_false_iff]
 intro hc
 unfold digit at hc
 simp only [Bool.and_eq_true,decide_eq_true_eq] at hc
 omega
theorem letter_any (c:Int) (_h0:0≤c) (_h1:c≤255) (w:World) :
  Calls Tryz.prog 49 #[.int .u8 c] w fun e w'=>e=.returned (.bool (letter c))∧w'=w:=by
 have hc:c<65∨(65≤c∧c≤90)∨(90<c∧c<95)∨c=95∨c=96∨(97≤c∧c≤122)∨122<c:=by omega
 rcases hc with a|⟨a,b⟩|⟨a,b⟩|rfl|rfl|⟨a,b⟩|a
 all_goals
  go_enter Tryz.func49,Tryz.ntmps49
  go_wp2
  go_ret
  exact ⟨ret_bool (by first|(rw [letter_yes (by omega)];done)|(rw [letter_no (by omega)];done)|(rw [letter_no (by omega)];simp;omega)),rfl⟩
theorem digit_any2 (c:Int) (_h0:0≤c) (_h1:c≤255) (w:World) :
  Calls Tryz.prog 51 #[.int .u8 c] w fun e w'=>e=.returned (.bool (digit c))∧w'=w:=by
 have hc:c<48∨(48≤c∧c≤57)∨57<c:=by omega
 rcases hc with a|⟨a,b⟩|a
 all_goals
  go_enter Tryz.func51,Tryz.ntmps51
  go_wp2
  go_ret
  exact ⟨ret_bool (by first|(rw [digit_yes (by omega)];done)|(rw [digit_no (by omega)];done)|(rw [digit_no (by omega)];simp;omega)),rfl⟩
theorem l2run_any (b off cap k:Nat) (zs:List Int) (w:World) (hb:Bts zs) (hcell:∀i,i<zs.length→w.cell? ⟨b,off+i,none⟩=some (.int .u8 (zs.getD i 0))) (hm:zs.length≤1073741824) (hk:k≤zs.length) :
  Calls Tryz.prog 48 #[.slice (some ⟨b,off,none⟩) zs.length cap,.int .i64 k] w fun e w'=>e=.returned (.int .i64 (span alnum zs k))∧w'=w:=by
 obtain ⟨n,hnn⟩:∃n,n=zs.length:=⟨_,rfl⟩
 have HL:Hid (zs.length=n):=hnn.symm
 have HB:Hid (Bts zs):=hb
 have HC:Hid (∀i,i<zs.length→w.cell? ⟨b,off+i,none⟩=some (.int .u8 (zs.getD i 0))):=hcell
 rw [← hnn] at hm hk ⊢
 clear hnn hb hcell
 go_enter Tryz.func48,Tryz.ntmps48
 go_wp2
 go_loop [5] (fun q=>∃(m:Nat),k+m≤n∧q=.int .i64 m∧Hid (span alnum zs k=m+span alnum zs (k+m))) (fun q=>n-(intOf q).toNat)
 case atStart=>exact ⟨0,by omega,rfl,by show _=_;rw [Nat.add_zero,Nat.zero_add]⟩
 case round =>
  obtain ⟨m,hm1,rfl,HR⟩:=hrel
  by_cases hlt:k+m<n
  ·have hc:=HC.out (k+m) (by rw [HL.out];exact hlt)
   have hz:=HB.out (k+m)
   obtain ⟨z,hzz⟩:∃z,z=zs.getD (k+m) 0:=⟨_,rfl⟩
   rw [← hzz] at hc hz
   have HZ:Hid (zs.getD (k+m) 0=z):=hzz.symm
   have HI:Hid (k+m<zs.length):=by show _<_;rw [HL.out];exact hlt
   obtain ⟨z0,z1⟩:=hz
   clear hzz
   by_cases hl:letter z=true
   ·have HA:Hid (alnum (zs.getD (k+m) 0)=true):=by show _=_;rw [HZ.out];unfold alnum;rw [hl];rfl
    go_wp2_with (first|(go_at_call 49;refine (letter_any _ z0 z1 _).mono ?_;rintro e w' ⟨rfl,hw⟩;replace hw:=hw.symm;subst hw)|(go_at_call 51;refine (digit_any2 _ z0 z1 _).mono ?_;rintro e w' ⟨rfl,hw⟩;replace hw:=hw.symm;subst hw))
    go_round
    case rel=>exact ⟨m+1,by omega,by go_num,by show _=_;rw [HR.out,span_step HI.out HA.out];show m+(span alnum zs (k+m+1)+1)=m+1+span alnum zs (k+m+1);omega⟩
    case measure=>simp [intOf];omega
   ·have hl':letter z=false:=by simpa using hl
    clear hl
    by_cases hd:digit z=true
    ·have HA:Hid (alnum (zs.getD (k+m) 0)=true):=by show _=_;rw [HZ.out];unfold alnum;rw [hl',hd];rfl
     go_wp2_with (first|(go_at_call 49;refine (letter_any _ z0 z1 _).mono ?_;rintro e w' ⟨rfl,hw⟩;replace hw:=hw.symm;subst hw)|(go_at_call 51;refine (digit_any2 _ z0 z1 _).mono ?_;rintro e w' ⟨rfl,hw⟩;replace hw:=hw.symm;subst hw))
     go_round
     case rel=>exact ⟨m+1,by omega,by go_num,by show _=_;rw [HR.out,span_step HI.out HA.out];show m+(span alnum zs (k+m+1)+1)=m+1+span alnum zs (k+m+1);omega⟩
     case measure=>simp [intOf];omega
    ·have hd':digit z=false:=by simpa using hd
     clear hd
     have HA:Hid (alnum (zs.getD (k+m) 0)=false):=by show _=_;rw [HZ.out];unfold alnum;rw [hl',hd'];rfl
     have HE:Hid (span alnum zs k=m):=by show _=_;rw [HR.out,span_stop HA.out];omega
     go_wp2_with (first|(go_at_call 49;refine (letter_any _ z0 z1 _).mono ?_;rintro e w' ⟨rfl,hw⟩;replace hw:=hw.symm;subst hw)|(go_at_call 51;refine (digit_any2 _ z0 z1 _).mono ?_;rintro e w' ⟨rfl,hw⟩;replace hw:=hw.symm;subst hw))
     go_ret
     exact ⟨ret_int (by rw [HE.out]),rfl⟩
  ·have HE:Hid (span alnum zs k=m):=by show _=_;rw [HR.out,span_end (by rw [HL.out];omega)];omega
   have hd:decide (((k:Int)+(m:Int))<(n:Int))=false:=by simp;omega
   go_wp2
   go_ret
   exact ⟨ret_int (by rw [HE.out]),rfl⟩
theorem words_any (w:World):Calls Tryz.prog 88 #[] w fun e w'=>e=.returned (.slice (some ⟨w.heap.size,0,none⟩) 20 20)∧w'=w.alloc (.cells #[.string {data:=#[97,110,100]},.string {data:=#[98,114,101,97,107]},.string {data:=#[100,111]},.string {data:=#[101,108,115,101]},.string {data:=#[101,108,115,101,105,102]},.string {data:=#[101,110,100]},.string {data:=#[102,97,108,115,101]},.string {data:=#[102,111,114]},.string {data:=#[102,117,110,99,116,105,111,110]},.string {data:=#[105,102]},.string {data:=#[108,111,99,97,108]},.string {data:=#[110,105,108]},.string {data:=#[110,111,116]},.string {data:=#[111,114]},.string {data:=#[114,101,112,101,97,116]},.string {data:=#[114,101,116,117,114,110]},.string {data:=#[116,104,101,110]},.string {data:=#[116,114,117,101]},.string {data:=#[117,110,116,105,108]},.string {data:=#[119,104,105,108,101]}] 9):=by
 go_enter Tryz.func88,Tryz.ntmps88
 go_wp2
 go_ret
 exact ⟨rfl,rfl⟩
theorem signs_any (w:World):Calls Tryz.prog 54 #[] w fun e w'=>e=.returned (.slice (some ⟨w.heap.size,0,none⟩) 22 22)∧w'=w.alloc (.cells #[.string {data:=#[61,61]},.string {data:=#[126,61]},.string {data:=#[60,61]},.string {data:=#[62,61]},.string {data:=#[47,47]},.string {data:=#[46,46]},.string {data:=#[43]},.string {data:=#[45]},.string {data:=#[42]},.string {data:=#[37]},.string {data:=#[60]},.string {data:=#[62]},.string {data:=#[61]},.string {data:=#[40]},.string {data:=#[41]},.string {data:=#[123]},.string {data:=#[125]},.string {data:=#[91]},.string {data:=#[93]},.string {data:=#[59]},.string {data:=#[44]},.string {data:=#[46]}] 9):=by
 go_enter Tryz.func54,Tryz.ntmps54
 go_wp2
 go_ret
 exact ⟨rfl,rfl⟩
theorem words_cell (w:World) (k:Nat) (h:k<20):(w.alloc (.cells #[.string {data:=#[97,110,100]},.string {data:=#[98,114,101,97,107]},.string {data:=#[100,111]},.string {data:=#[101,108,115,101]},.string {data:=#[101,108,115,101,105,102]},.string {data:=#[101,110,100]},.string {data:=#[102,97,108,115,101]},.string {data:=#[102,111,114]},.string {data:=#[102,117,110,99,116,105,111,110]},.string {data:=#[105,102]},.string {data:=#[108,111,99,97,108]},.string {data:=#[110,105,108]},.string {data:=#[110,111,116]},.string {data:=#[111,114]},.string {data:=#[114,101,112,101,97,116]},.string {data:=#[114,101,116,117,114,110]},.string {data:=#[116,104,101,110]},.string {data:=#[116,114,117,101]},.string {data:=#[117,110,116,105,108]},.string {data:=#[119,104,105,108,101]}] 9)).cell? ⟨w.heap.size,k,none⟩=some (.string (words.getD k ByteArray.empty)):=by
 rw [World.cell?_alloc_new]
 match k,h with
 |0,_|1,_|2,_|3,_|4,_|5,_|6,_|7,_|8,_|9,_|10,_|11,_|12,_|13,_|14,_|15,_|16,_|17,_|18,_|19,_=>rfl
 |k+20,h=>omega
theorem signs_cell (w:World) (k:Nat) (h:k<22):(w.alloc (.cells #[.string {data:=#[61,61]},.string {data:=#[126,61]},.string {data:=#[60,61]},.string {data:=#[62,61]},.string {data:=#[47,47]},.string {data:=#[46,46]},.string {data:=#[43]},.string {data:=#[45]},.string {data:=#[42]},.string {data:=#[37]},.string {data:=#[60]},.string {data:=#[62]},.string {data:=#[61]},.string {data:=#[40]},.string {data:=#[41]},.string {data:=#[123]},.string {data:=#[125]},.string {data:=#[91]},.string {data:=#[93]},.string {data:=#[59]},.string {data:=#[44]},.string {data:=#[46]}] 9)).cell? ⟨w.heap.size,k,none⟩=some (.string (signs.getD k ByteArray.empty)):=by
 rw [World.cell?_alloc_new]
 match k,h with
 |0,_|1,_|2,_|3,_|4,_|5,_|6,_|7,_|8,_|9,_|10,_|11,_|12,_|13,_|14,_|15,_|16,_|17,_|18,_|19,_|20,_|21,_=>rfl
 |k+22,h=>omega
theorem words_len:words.length=20:=rfl
theorem signs_len:signs.length=22:=rfl
theorem isWord_any (s:ByteArray) (w:World) :
  Calls Tryz.prog 50 #[.string s] w fun e w'=>e=.returned (.bool (isIn words s))∧∃o,w'=w.alloc o:=by
 have C:=words_any w
 have HW:=words_cell w
 generalize hO:(Obj.cells #[.string {data:=#[97,110,100]},.string {data:=#[98,114,101,97,107]},.string {data:=#[100,111]},.string {data:=#[101,108,115,101]},.string {data:=#[101,108,115,101,105,102]},.string {data:=#[101,110,100]},.string {data:=#[102,97,108,115,101]},.string {data:=#[102,111,114]},.string {data:=#[102,117,110,99,116,105,111,110]},.string {data:=#[105,102]},.string {data:=#[108,111,99,97,108]},.string {data:=#[110,105,108]},.string {data:=#[110,111,116]},.string {data:=#[111,114]},.string {data:=#[114,101,112,101,97,116]},.string {data:=#[114,101,116,117,114,110]},.string {data:=#[116,104,101,110]},.string {data:=#[116,114,117,101]},.string {data:=#[117,110,116,105,108]},.string {data:=#[119,104,105,108,101]}] 9)=O at C HW
 clear hO
 have HH:Hid (∀k,k<20→(w.alloc O).cell? ⟨w.heap.size,k,none⟩=some (.string (words.getD k ByteArray.empty))):=HW
 clear HW
 go_enter Tryz.func50,Tryz.ntmps50
 go_wp2_with fail
 refine C.mono ?_
 rintro e w1 ⟨rfl,rfl⟩
 clear C
 go_wp2
 go_loop [4] (fun q=>∃(k:Nat),k≤20∧q=.int .i64 k∧Hid (isIn words s=isIn (words.drop k) s)) (fun q=>20-(intOf q).toNat)
 case atStart=>exact ⟨0,by omega,rfl,rfl⟩
 case round =>
  obtain ⟨k,hk,rfl,HR⟩:=hrel
  by_cases hlt:k<20
  ·have hc:=HH.out k hlt
   obtain ⟨x,hx⟩:∃x,x=words.getD k ByteArray.empty:=⟨_,rfl⟩
   rw [← hx] at hc
   have HX:Hid (words.getD k ByteArray.empty=x):=hx.symm
   clear hx
   by_cases he:(x.toList==s.toList)=true
   ·have HE:Hid (isIn words s=true):=by show _=_;rw [HR.out,isIn_hit (by rw [words_len];exact hlt) (by rw [HX.out];exact he)]
    go_wp2
    go_ret
    exact ⟨ret_bool (by rw [HE.out]),_,rfl⟩
   ·have he':(x.toList==s.toList)=false:=by simpa using he
    clear he
    have HE:Hid (isIn words s=isIn (words.drop (k+1)) s):=by show _=_;rw [HR.out,isIn_step (by rw [words_len];exact hlt) (by rw [HX.out];exact he')]
    go_wp2
    go_round
    case rel=>exact ⟨k+1,by omega,by go_num,HE⟩
    case measure=>simp [intOf];omega
  ·have hk2:k=20:=by omega
   subst hk2
   have HE:Hid (isIn words s=false):=by show _=_;rw [HR.out];rfl
   go_wp2
   go_ret
   exact ⟨ret_bool (by rw [HE.out]),_,rfl⟩
end lex
namespace vt
open Go.RowKit bts nod lex
def isExpr (k:Int):Bool:=decide (11≤k)&&decide (k≤25)
def isStat (k:Int):Bool:=(decide (1≤k)&&decide (k≤10)) || (k==26)
theorem isExpr_yes {k:Int} (h:11≤k∧k≤25):isExpr k=true:=by unfold isExpr;simp [h.1,h.2]
theorem isExpr_no {k:Int} (h:¬(11≤k∧k≤25)):isExpr k=false:=by
 rw [Bool.eq_false_iff]
 intro hc
 unfold isExpr at hc
 simp only [Bool.and_eq_true,decide_eq_true_eq] at hc
 exact h hc
theorem isStat_yes {k:Int} (h:(1≤k∧k≤10)∨k=26):isStat k=true:=by
 unfold isStat
 rcases h with ⟨a,b⟩|rfl
 ·simp [a,b]
 ·rfl
theorem isStat_no {k:Int} (h:¬((1≤k∧k≤10)∨k=26)):isStat k=false:=by
 rw [Bool.eq_false_iff]
 intro hc
 unfold isStat at hc
 simp only [Bool.or_eq_true,Bool.and_eq_true,decide_eq_true_eq,beq_iff_eq] at hc
 exact h hc
theorem l3expr_any (k:Int) (w:World):Calls Tryz.prog 97 #[.int .i64 k] w fun e w'=>e=.returned (.bool (isExpr k))∧w'=w:=by
 have hc:k<11∨(11≤k∧k≤25)∨25<k:=by omega
 rcases hc with a|⟨a,b⟩|a
 all_goals
  go_enter Tryz.func97,Tryz.ntmps97
  go_wp2
  go_ret
  exact ⟨ret_bool (by first|(rw [isExpr_yes (by omega)];done)|(rw [isExpr_no (by omega)];done)|(rw [isExpr_no (by omega)];simp;omega)),rfl⟩
theorem l3stat_any (k:Int) (w:World):Calls Tryz.prog 98 #[.int .i64 k] w fun e w'=>e=.returned (.bool (isStat k))∧w'=w:=by
 have hc:k<1∨(1≤k∧k≤10)∨(10<k∧k<26)∨k=26∨26<k:=by omega
 rcases hc with a|⟨a,b⟩|⟨a,b⟩|rfl|a
 all_goals
  go_enter Tryz.func98,Tryz.ntmps98
  go_wp2
  go_ret
  exact ⟨ret_bool (by first|(rw [isStat_yes (by omega)];done)|(rw [isStat_no (by omega)];done)|(rw [isStat_no (by omega)];simp;omega)),rfl⟩
def fits (c k:Int):Bool :=
 if c=101 then isExpr k else if c=98 then k==0 else if c=115 then isStat k else if c=102 then k==19 else if c=99 then k==18 else (k==16) || (k==17)
theorem l3fits_any (c k:Int) (w:World):Calls Tryz.prog 68 #[.int .u8 c,.int .i64 k] w fun e w'=>e=.returned (.bool (fits c k))∧w'=w:=by
 have E:=l3expr_any k w
 have S:=l3stat_any k w
 by_cases h1:c=101
 ·subst h1
  rw [show fits 101 k=isExpr k from rfl]
  go_enter Tryz.func68,Tryz.ntmps68
  go_wp2_with (go_at_call 97;refine E.mono ?_;rintro e w' ⟨rfl,hw⟩;replace hw:=hw.symm;subst hw)
  go_ret
  exact ⟨rfl,rfl⟩
 by_cases h2:c=98
 ·subst h2
  rw [show fits 98 k=(k==0) from rfl]
  go_enter Tryz.func68,Tryz.ntmps68
  go_wp2
  go_ret
  exact ⟨rfl,rfl⟩
 by_cases h3:c=115
 ·subst h3
  rw [show fits 115 k=isStat k from rfl]
  go_enter Tryz.func68,Tryz.ntmps68
  go_wp2_with (go_at_call 98;refine S.mono ?_;rintro e w' ⟨rfl,hw⟩;replace hw:=hw.symm;subst hw)
  go_ret
  exact ⟨rfl,rfl⟩
 by_cases h4:c=102
 ·subst h4
  rw [show fits 102 k=(k==19) from rfl]
  go_enter Tryz.func68,Tryz.ntmps68
  go_wp2
  go_ret
  exact ⟨rfl,rfl⟩
 by_cases h5:c=99
 ·subst h5
  rw [show fits 99 k=(k==18) from rfl]
  go_enter Tryz.func68,Tryz.ntmps68
  go_wp2
  go_ret
  exact ⟨rfl,rfl⟩
 have e1:(c==101)=false:=by simp;exact h1
 have e2:(c==98)=false:=by simp;exact h2
 have e3:(c==115)=false:=by simp;exact h3
 have e4:(c==102)=false:=by simp;exact h4
 have e5:(c==99)=false:=by simp;exact h5
 rw [show fits c k=((k==16) || (k==17)) by unfold fits;rw [if_neg h1,if_neg h2,if_neg h3,if_neg h4,if_neg h5]]
 clear h1 h2 h3 h4 h5
 by_cases h6:k=16
 ·subst h6
  go_enter Tryz.func68,Tryz.ntmps68
  go_wp2
  go_ret
  exact ⟨rfl,rfl⟩
 ·have e6:(k==16)=false:=by simp;exact h6
  go_enter Tryz.func68,Tryz.ntmps68
  go_wp2
  go_ret
  exact ⟨ret_bool (by rw [e6];simp),rfl⟩
def isName (s:List Int):Bool:=decide (0<s.length)&&(decide (s.length≤5000)&&(letter (s.getD 0 0)&&(decide (span alnum s 0=s.length)&&!isIn words (strOfNums s))))
def Tr:Nat→Type
 |0=>Unit
 |D+1=>Nd×List (Tr D)
def tr0:(D:Nat)→Tr D
 |0=>()
 |_+1=>(nd0,[])
def mkT {D:Nat} (d:Nd) (ks:List (Tr D)):Tr (D+1):=(d,ks)
def dT:{D:Nat}→Tr D→Nd
 |0,_=>nd0
 |_+1,t=>t.1
def kindT {D:Nat} (t:Tr D):Int:=(dT t).kind
def kkT:{D:Nat}→Tr D→List Int
 |0,_=>[]
 |_+1,t=>t.2.map kindT
def sizeT:{D:Nat}→Tr D→Nat
 |0,_=>1
 |_+1,t=>1+(t.2.map sizeT).sum
theorem sum_at {α:Type} (f:α→Nat) (z:α):∀{ts:List α} {k:Nat},k<ts.length→f (ts.getD k z)≤(ts.map f).sum
 |[],k,h=>absurd h (by simp)
 |a::r,0,_=>by simp
 |a::r,k+1,h=>by
  have:=sum_at f z (ts:=r) (k:=k) (by simpa using h)
  simp only [List.map_cons,List.sum_cons]
  have e:(a::r).getD (k+1) z=r.getD k z:=rfl
  rw [e];omega
def takes (r:Nat) (k:Int):Bool :=
 if r=0 then k==0 else if r=1 then isStat k else if r=2 then isExpr k else if r=3 then (k==16) || (k==17) else if r=4 then k==18 else k==19
def holds:List Nat→List Int→Bool
 |[],[]=>true
 |r::rs,k::ks=>takes r k&&holds rs ks
 |_,_=>false
def takesAll (r:Nat) (ks:List Int) (lo hi:Nat):Bool:=decide (lo≤ks.length)&&(decide (ks.length≤hi)&&ks.all (takes r))
def named (nn:Int) (tx:List Int) (nms:List (List Int)) (lo hi:Nat):Bool:=(nn==0)&&(decide (tx.length=0)&&(decide (lo≤nms.length)&&(decide (nms.length≤hi)&&nms.all isName)))
def numbered (nn:Int) (tx:List Int) (nms:List (List Int)) (lo hi:Int):Bool:=decide (lo≤nn)&&(decide (nn≤hi)&&(decide (tx.length=0)&&decide (nms.length=0)))
def lastOnly:List Int→Bool
 |[]=>true
 |[_]=>true
 |k::r=>!((k==9) || (k==8))&&lastOnly r
def ifParts (n:Nat):Nat→List Int→Bool
 |_,[]=>true
 |i,k::r=>takes (if i % 2=1∨i+1=n then 0 else 2) k&&ifParts n (i+1) r
def fitsI (kd nn:Int) (tx:List Int) (nms:List (List Int)) (ks:List Int):Bool :=
 if kd=0 then lastOnly ks&&(named nn tx nms 0 0&&takesAll 1 ks 0 6000)
 else if kd=1 then named nn tx nms 1 50&&takesAll 2 ks 0 50
 else if kd=26 then named nn tx nms 1 1&&holds [5] ks
 else if kd=2 then numbered nn tx nms 1 50&&(decide (nn≤ks.length)&&(takesAll 3 (ks.take nn.toNat) 1 50&&takesAll 2 (ks.drop nn.toNat) 1 50))
 else if kd=3 then named nn tx nms 0 0&&holds [0] ks
 else if kd=4 then named nn tx nms 0 0&&holds [2,0] ks
 else if kd=5 then named nn tx nms 0 0&&holds [0,2] ks
 else if kd=6 then ifParts ks.length 0 ks&&(named nn tx nms 0 0&&decide (2≤ks.length))
 else if kd=7 then named nn tx nms 1 1&&(holds [2,2,0] ks || holds [2,2,2,0] ks)
 else if kd=8 then named nn tx nms 0 0&&holds [] ks
 else if kd=9 then named nn tx nms 0 0&&takesAll 2 ks 0 50
 else if kd=10 then named nn tx nms 0 0&&holds [4] ks
 else if kd=14 then decide (tx.length=0)&&(decide (nms.length=0)&&holds [] ks)
 else if kd=15 then (nn==0)&&(decide (tx.length≤5000)&&(decide (nms.length=0)&&holds [] ks))
 else if kd=16 then named nn tx nms 1 1&&holds [] ks
 else if kd=17 then named nn tx nms 0 0&&holds [2,2] ks
 else if kd=18 then named nn tx nms 0 0&&takesAll 2 ks 1 51
 else if kd=19 then named nn tx nms 0 50&&holds [0] ks
 else if kd=20 then named nn tx nms 0 0&&(decide (ks.length % 2=0)&&takesAll 2 ks 0 6000)
 else if kd=21 then numbered nn tx nms 0 11&&holds [2,2] ks
 else if kd=22∨kd=23 then numbered nn tx nms 0 0&&holds [2,2] ks
 else if kd=24∨kd=25 then named nn tx nms 0 0&&holds [2] ks
 else named nn tx nms 0 0&&holds [] ks
def innerT (kd:Int) (lp:Bool):Bool:=if kd=4∨kd=5∨kd=7 then true else if kd=19 then false else lp
def fitsT {D:Nat} (t:Tr D):Bool:=fitsI (dT t).kind (dT t).n (dT t).text (dT t).names (kkT t)
def nodeOk {D:Nat} (t:Tr D) (deep:Nat) (lp:Bool):Bool:=decide (deep≤200)&&(fitsT t&&(!(kindT t==8) || lp))
def okT:{D:Nat}→Tr D→Nat→Bool→Bool
 |0,_,_,_=>false
 |_+1,t,deep,lp=>nodeOk t deep lp&&t.2.all (fun c=>okT c (deep+1) (innerT t.1.kind lp))
theorem holds_iff:∀{rs:List Nat} {ks:List Int},holds rs ks=true↔rs.length=ks.length∧∀k,k<ks.length→takes (rs.getD k 0) (ks.getD k 0)=true
 |[],[]=>by simp [holds]
 |[],k::ks=>by simp [holds]
 |r::rs,[]=>by simp [holds]
 |r::rs,k::ks=>by
  rw [holds,Bool.and_eq_true,holds_iff (rs:=rs) (ks:=ks)]
  constructor
  ·rintro ⟨h1,h2,h3⟩
   refine ⟨by simp [h2],fun j hj=>?_⟩
   cases j with
   |zero=>exact h1
   |succ j=>exact h3 j (by simpa using hj)
  ·rintro ⟨h1,h2⟩
   refine ⟨h2 0 (by simp),by simpa using h1,fun j hj=>?_⟩
   exact h2 (j+1) (by simpa using hj)
theorem all_iff {p:Int→Bool} {ks:List Int}:ks.all p=true↔∀k,k<ks.length→p (ks.getD k 0)=true:=by
 rw [List.all_eq_true]
 constructor
 ·intro h k hk
  have e:ks.getD k 0=ks[k]:=by simp [List.getD_eq_getElem?_getD,List.getElem?_eq_getElem hk]
  rw [e];exact h _ (List.getElem_mem hk)
 ·intro h x hx
  obtain ⟨k,hk,rfl⟩:=List.getElem_of_mem hx
  have:=h k hk
  have e:ks.getD k 0=ks[k]:=by simp [List.getD_eq_getElem?_getD,List.getElem?_eq_getElem hk]
  rwa [e] at this
theorem lastOnly_iff:∀{ks:List Int},lastOnly ks=true↔∀k,k+1<ks.length→¬(ks.getD k 0=9∨ks.getD k 0=8)
 |[]=>by simp [lastOnly]
 |[a]=>by simp [lastOnly]
 |a::b::r=>by
  rw [lastOnly,Bool.and_eq_true,lastOnly_iff (ks:=b::r)]
  ·constructor
   ·rintro ⟨h1,h2⟩ k hk
    cases k with
    |zero=>simpa using h1
    |succ k=>exact h2 k (by simpa using hk)
   ·intro h
    refine ⟨by simpa using h 0 (by simp),fun k hk=>h (k+1) (by simpa using hk)⟩
  ·intro x;cases x
theorem ifParts_iff {n:Nat}:∀{ks:List Int} {i:Nat},ifParts n i ks=true↔∀k,k<ks.length→takes (if (i+k) % 2=1∨i+k+1=n then 0 else 2) (ks.getD k 0)=true
 |[],i=>by simp [ifParts]
 |a::r,i=>by
  rw [ifParts,Bool.and_eq_true,ifParts_iff (ks:=r)]
  constructor
  ·rintro ⟨h1,h2⟩ k hk
   cases k with
   |zero=>exact h1
   |succ k =>
    have:=h2 k (by simpa using hk)
    rw [show i+1+k=i+(k+1) by omega] at this
    exact this
  ·intro h
   refine ⟨h 0 (by simp),fun k hk=>?_⟩
   have:=h (k+1) (by simpa using hk)
   rw [show i+(k+1)=i+1+k by omega] at this
   exact this
def ty (k:Int):Nat :=
 if k=0 then 152 else if k=1 then 155 else if k=2 then 159 else if k=3 then 161 else if k=4 then 163
 else if k=5 then 165 else if k=6 then 167 else if k=7 then 169 else if k=8 then 171 else if k=9 then 173
 else if k=10 then 175 else if k=14 then 177 else if k=15 then 179 else if k=16 then 181 else if k=17 then 183
 else if k=18 then 185 else if k=19 then 187 else if k=20 then 189 else if k=21∨k=22∨k=23 then 191 else if k=24∨k=25 then 193
 else if k=26 then 157 else 195
theorem kinds {P:Int→Prop} (h:P 0∧P 1∧P 2∧P 3∧P 4∧P 5∧P 6∧P 7∧P 8∧P 9∧P 10∧P 11∧P 12∧P 13∧P 14∧P 15∧P 16∧P 17∧P 18∧P 19∧P 20∧P 21∧P 22∧P 23∧P 24∧P 25∧P 26) {k:Int} (h0:0≤k) (h26:k≤26):P k:=by
 obtain ⟨a0,a1,a2,a3,a4,a5,a6,a7,a8,a9,a10,a11,a12,a13,a14,a15,a16,a17,a18,a19,a20,a21,a22,a23,a24,a25,a26⟩:=h
 have:k=0∨k=1∨k=2∨k=3∨k=4∨k=5∨k=6∨k=7∨k=8∨k=9∨k=10∨k=11∨k=12∨k=13∨k=14∨k=15∨k=16∨k=17∨k=18∨k=19∨k=20∨k=21∨k=22∨k=23∨k=24∨k=25∨k=26:=by omega
 rcases this with rfl|rfl|rfl|rfl|rfl|rfl|rfl|rfl|rfl|rfl|rfl|rfl|rfl|rfl|rfl|rfl|rfl|rfl|rfl|rfl|rfl|rfl|rfl|rfl|rfl|rfl|rfl <;> assumption
def NodeAt (w:World) (g:Nat) (d:Nd) (ut un pv:Value):Prop :=
 w.cell? ⟨g,0,none⟩=some (.int .i64 d.kind)∧w.cell? ⟨g,1,none⟩=some (.int .i64 d.n)∧w.cell? ⟨g,2,none⟩=some ut∧w.cell? ⟨g,3,none⟩=some un∧w.cell? ⟨g,4,none⟩=some (.int .i64 d.count)∧w.cell? ⟨g,5,none⟩=some pv
theorem NodeAt.below {w w':World} {g:Nat} {d:Nd} {ut un pv:Value} (h:NodeAt w g d ut un pv) (hb:Below w.heap.size w w'):NodeAt w' g d ut un pv:=by
 obtain ⟨c0,c1,c2,c3,c4,c5⟩:=h
 have hlt:=World.block_lt_of_cell? _ _ c0
 exact ⟨(hb.cell (p:=⟨g,0,none⟩) hlt).trans c0,(hb.cell (p:=⟨g,1,none⟩) hlt).trans c1,(hb.cell (p:=⟨g,2,none⟩) hlt).trans c2,(hb.cell (p:=⟨g,3,none⟩) hlt).trans c3,(hb.cell (p:=⟨g,4,none⟩) hlt).trans c4,(hb.cell (p:=⟨g,5,none⟩) hlt).trans c5⟩
def RcV (w:World) (v:Value) (zs:List Int):Prop:=∃ao cap,v=.slice ao zs.length cap∧zs.length≤cap∧cap≤9223372036854775807∧Rd w ao zs∧Bts zs
def RcVV (w:World) (v:Value) (l:List (List Int)):Prop :=
 ∃ao cap,v=.slice ao l.length cap∧l.length≤cap∧cap≤9223372036854775807∧∀i,i<l.length→∃b off u,ao=some ⟨b,off,none⟩∧w.cell? ⟨b,off+i,none⟩=some u∧RcV w u (l.getD i [])
def RcN (w:World) (ao:Option Addr) (l:List Nd):Prop :=
 ∀i,i<l.length→∃b off ut un,ao=some ⟨b,off,none⟩∧w.cell? ⟨b,off+i*5,none⟩=some (.int .i64 (l.getD i nd0).kind)∧w.cell? ⟨b,off+i*5+1,none⟩=some (.int .i64 (l.getD i nd0).n) ∧
  w.cell? ⟨b,off+i*5+2,none⟩=some ut∧w.cell? ⟨b,off+i*5+3,none⟩=some un∧w.cell? ⟨b,off+i*5+4,none⟩=some (.int .i64 (l.getD i nd0).count)∧RcV w ut (l.getD i nd0).text∧RcVV w un (l.getD i nd0).names
theorem RcV.rd {w:World} {v:Value} {zs:List Int} (h:RcV w v zs):RdV w v zs:=by
 obtain ⟨ao,cap,e,h1,h2,hr,hz⟩:=h
 exact ⟨ao,cap,e,by omega,hr,hz⟩
theorem RcVV.rd {w:World} {v:Value} {l:List (List Int)} (h:RcVV w v l):RdVV w v l:=by
 obtain ⟨ao,cap,e,h1,h2,h⟩:=h
 refine ⟨ao,cap,e,by omega,fun i hi=>?_⟩
 obtain ⟨b,off,u,e,hc,hu⟩:=h i hi
 exact ⟨b,off,u,e,hc,hu.rd⟩
theorem RcV.below {w w':World} {v:Value} {zs:List Int} (h:RcV w v zs) (hb:Below w.heap.size w w'):RcV w' v zs:=by
 obtain ⟨ao,cap,e,h1,h2,hr,hz⟩:=h
 exact ⟨ao,cap,e,h1,h2,hr.below hb,hz⟩
theorem RcVV.below {w w':World} {v:Value} {l:List (List Int)} (h:RcVV w v l) (hb:Below w.heap.size w w'):RcVV w' v l:=by
 obtain ⟨ao,cap,e,h1,h2,h⟩:=h
 refine ⟨ao,cap,e,h1,h2,fun i hi=>?_⟩
 obtain ⟨b,off,u,e,hc,hr⟩:=h i hi
 exact ⟨b,off,u,e,(hb.cell (p:=⟨b,off+i,none⟩) (World.block_lt_of_cell? _ _ hc)).trans hc,hr.below hb⟩
theorem RcN.below {w w':World} {ao:Option Addr} {l:List Nd} (h:RcN w ao l) (hb:Below w.heap.size w w'):RcN w' ao l:=by
 intro i hi
 obtain ⟨b,off,ut,un,e,c0,c1,c2,c3,c4,ht,hn⟩:=h i hi
 have hlt:=World.block_lt_of_cell? _ _ c0
 exact ⟨b,off,ut,un,e,(hb.cell (p:=⟨b,off+i*5,none⟩) hlt).trans c0,(hb.cell (p:=⟨b,off+i*5+1,none⟩) hlt).trans c1,(hb.cell (p:=⟨b,off+i*5+2,none⟩) hlt).trans c2,(hb.cell (p:=⟨b,off+i*5+3,none⟩) hlt).trans c3,(hb.cell (p:=⟨b,off+i*5+4,none⟩) hlt).trans c4,ht.below hb,hn.below hb⟩
theorem OwS.rc {w:World} {B:Nat} {v:Value} {zs:List Int} (h:OwS w B v zs) (hb:Bts zs) (hm:zs.length≤9223372036854775807):RcV w v zs:=by
 obtain ⟨ao,cap,e,_,hr,hz⟩:=h.rd hb hm
 obtain ⟨g,e2,_⟩:=h
 rw [e2] at e
 simp only [Value.slice.injEq] at e
 obtain ⟨rfl,_,rfl⟩:=e
 exact ⟨_,_,e2,Nat.le_refl _,hm,hr,hz⟩
theorem OwSS.rc {w:World} {B:Nat} {v:Value} {l:List (List Int)} (h:OwSS w B v l) (hok:∀i,i<l.length→Bts (l.getD i [])∧(l.getD i []).length≤9223372036854775807) (hm:l.length≤9223372036854775807):RcVV w v l:=by
 obtain ⟨g,us,e,ho,hx⟩:=h
 refine ⟨_,_,e,Nat.le_refl _,hm,fun i hi=>?_⟩
 obtain ⟨u,hu,hs⟩:=hx i hi
 exact ⟨g,0,u,rfl,by rw [Nat.zero_add,ho.cellAt _ (by omega),hu],OwS.rc hs (hok i hi).1 (hok i hi).2⟩
theorem OwN.rc {w:World} {B:Nat} {g n:Nat} {l:List Nd} (h:OwN w B (.slice (some ⟨g,0,none⟩) n n) l) (hok:∀i,i<l.length→NdOk (l.getD i nd0)):RcN w (some ⟨g,0,none⟩) l:=by
 obtain ⟨g',us,e,ho,hx⟩:=h
 simp only [Value.slice.injEq,Option.some.injEq,Addr.mk.injEq,and_true] at e
 obtain ⟨rfl,_,_⟩:=e
 intro i hi
 obtain ⟨ut,un,h0,h1,h2,h3,h4,ht,hn⟩:=hx i hi
 have ok:=hok i hi
 refine ⟨g,0,ut,un,rfl,?_,?_,?_,?_,?_,OwS.rc ht ok.1.1 ok.1.2,OwSS.rc hn ok.2.2 ok.2.1⟩
 ·rw [Nat.zero_add,ho.cellAt _ (by omega),h0]
 ·rw [Nat.zero_add,ho.cellAt _ (by omega),h1]
 ·rw [Nat.zero_add,ho.cellAt _ (by omega),h2]
 ·rw [Nat.zero_add,ho.cellAt _ (by omega),h3]
 ·rw [Nat.zero_add,ho.cellAt _ (by omega),h4]
def Rep:{D:Nat}→World→Value→Tr D→Prop
 |0,_,_,_=>False
 |D+1,w,v,t=>∃(g:Nat) (ao:Option Addr) (cap:Nat) (ut un:Value) (U:Nat→Value),v=.iface (ty t.1.kind) (.pointer (some ⟨g,0,none⟩))∧0≤t.1.kind∧t.1.kind≤26∧t.2.length≤cap∧cap≤9223372036854775807∧t.2.length≤1048576 ∧
   NodeAt w g t.1 ut un (.slice ao t.2.length cap)∧RcV w ut t.1.text∧RcVV w un t.1.names∧t.1.text.length+sizeSS t.1.names≤1048576 ∧
   (∀k,k<t.2.length→∃b off,ao=some ⟨b,off,none⟩∧w.cell? ⟨b,off+k,none⟩=some (U k))∧(∀k,k<t.2.length→Rep w (U k) (t.2.getD k (tr0 D)))
theorem Rep.kept {w w':World} (hb:Below w.heap.size w w'):∀{D:Nat} {v:Value} {t:Tr D},Rep w v t→Rep w' v t:=by
 intro D
 induction D with
 |zero=>intro v t h;exact h
 |succ D ih =>
  rintro v t ⟨g,ao,cap,ut,un,U,e,hk0,hk1,hlen,hcap,hl6,hn,ht,hm,hsz,hc,hr⟩
  refine ⟨g,ao,cap,ut,un,U,e,hk0,hk1,hlen,hcap,hl6,hn.below hb,ht.below hb,hm.below hb,hsz,fun k hk=>?_,fun k hk=>ih (hr k hk)⟩
  obtain ⟨b,off,e,h⟩:=hc k hk
  exact ⟨b,off,e,(hb.cell (p:=⟨b,off+k,none⟩) (World.block_lt_of_cell? _ _ h)).trans h⟩
def Lc (w w':World):Prop:=∀a v,w.cell? a=some v→w'.cell? a=some v
theorem Lc.refl (w:World):Lc w w:=fun _ _ h=>h
theorem Lc.trans {a b c:World} (h:Lc a b) (k:Lc b c):Lc a c:=fun p v e=>k p v (h p v e)
theorem Lc.of {w w':World} (h:Below w.heap.size w w'):Lc w w':=fun p _ e=>(h.cell (p:=p) (World.block_lt_of_cell? _ _ e)).trans e
theorem RcV.lc {w w':World} {v:Value} {zs:List Int} (h:RcV w v zs) (hl:Lc w w'):RcV w' v zs:=by
 obtain ⟨ao,cap,e,h1,h2,hr,hz⟩:=h
 refine ⟨ao,cap,e,h1,h2,fun i hi=>?_,hz⟩
 obtain ⟨b,off,e,hc⟩:=hr i hi
 exact ⟨b,off,e,hl _ _ hc⟩
theorem RcVV.lc {w w':World} {v:Value} {l:List (List Int)} (h:RcVV w v l) (hl:Lc w w'):RcVV w' v l:=by
 obtain ⟨ao,cap,e,h1,h2,h⟩:=h
 refine ⟨ao,cap,e,h1,h2,fun i hi=>?_⟩
 obtain ⟨b,off,u,e,hc,hu⟩:=h i hi
 exact ⟨b,off,u,e,hl _ _ hc,hu.lc hl⟩
theorem NodeAt.lc {w w':World} {g:Nat} {d:Nd} {ut un pv:Value} (h:NodeAt w g d ut un pv) (hl:Lc w w'):NodeAt w' g d ut un pv:=by
 obtain ⟨c0,c1,c2,c3,c4,c5⟩:=h
 exact ⟨hl _ _ c0,hl _ _ c1,hl _ _ c2,hl _ _ c3,hl _ _ c4,hl _ _ c5⟩
theorem Rep.lc {w w':World} (hl:Lc w w'):∀{D:Nat} {v:Value} {t:Tr D},Rep w v t→Rep w' v t:=by
 intro D
 induction D with
 |zero=>intro v t h;exact h
 |succ D ih =>
  rintro v t ⟨g,ao,cap,ut,un,U,e,hk0,hk1,hlen,hcap,hl6,hn,ht,hm,hsz,hc,hr⟩
  refine ⟨g,ao,cap,ut,un,U,e,hk0,hk1,hlen,hcap,hl6,hn.lc hl,ht.lc hl,hm.lc hl,hsz,fun k hk=>?_,fun k hk=>ih (hr k hk)⟩
  obtain ⟨b,off,e,h⟩:=hc k hk
  exact ⟨b,off,e,hl _ _ h⟩
end vt
end Go.Proofs.YtkmiagkehcflnaaGreatDoor
