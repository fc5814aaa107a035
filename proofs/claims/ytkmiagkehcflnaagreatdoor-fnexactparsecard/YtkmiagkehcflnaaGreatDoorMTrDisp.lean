import Derived.Shelf.Abstract
import Derived.Test.YtkmiagkehcflnaaGreatDoorMTrFitsA
import Derived.Test.YtkmiagkehcflnaaGreatDoorMTrFitsE
set_option maxRecDepth 100000
set_option maxHeartbeats 8000000
namespace Go.Proofs.YtkmiagkehcflnaaGreatDoor
namespace vt
open Go.RowKit bts nod lex
theorem ft20 (g:Nat) (d:Nd) (ao:Option Addr) (cap:Nat) (at_ an:Option Addr) (ca cn:Nat) (w:World) (ts:List Int) (N:Node6 w g d ao ts.length cap at_ an ca cn) (hm:RcVV w (.slice an d.names.length cn) d.names) (hsz:d.text.length+sizeSS d.names≤1048576) (h:RepS w (.slice ao ts.length cap) ts) :
  Calls Tryz.prog 233 #[.pointer (some ⟨g,0,none⟩)] w fun e w'=>e=.returned (.bool (named d.n d.text d.names 0 0&&(decide (ts.length % 2=0)&&takesAll 2 ts 0 6000)))∧Below w.heap.size w w':=by
 have P:=plain_any g d ao ts.length cap at_ an ca cn w N hm hsz
 have c0:=N.c0
 have c1:=N.c1
 have c2:=N.c2
 have c3:=N.c3
 have c5:=N.c5
 have HN:Hid (Node6 w g d ao ts.length cap at_ an ca cn):=N
 have HS:Hid (RepS w (.slice ao ts.length cap) ts):=h
 have hl6:ts.length≤1048576:=by obtain ⟨_,_,_,_,_,h3,_⟩:=h;exact h3
 generalize named d.n d.text d.names 0 0=nb at P ⊢
 clear N hm hsz h c0 c1 c2 c3
 cases nb with
 |false =>
  go_enter Tryz.func233,Tryz.ntmps233
  go_wp2_with fail
  refine P.mono ?_
  rintro e w' ⟨rfl,hw⟩
  replace hw:=hw.symm
  subst hw
  clear P
  go_wp2_with fail
  go_ret
  exact ⟨ret_bool (by first|rfl|simp),Below.refl _ _⟩
 |true =>
  by_cases ho:ts.length % 2=0
  ·have e1:((ts.length:Int) % 2==0)=true:=by simp;omega
   have TA:=takesAll_any 2 (by omega) _ ts 0 6000 w HS.out (by omega) (by omega)
   rw [decide_eq_true ho]
   generalize takesAll 2 ts 0 6000=ta at TA ⊢
   clear HS HN
   generalize ts.length=m at *
   clear ho
   go_enter Tryz.func233,Tryz.ntmps233
   go_wp2_with fail
   refine P.mono ?_
   rintro e w' ⟨rfl,hw⟩
   replace hw:=hw.symm
   subst hw
   clear P
   go_wp2_with fail
   refine (TA).mono ?_
   rintro e w1 ⟨rfl,hw1⟩
   have HB:Hid (Below w.heap.size w w1):=hw1
   clear hw1
   go_wp2_with fail
   go_ret
   exact ⟨ret_bool (by first|rfl|simp),HB.out⟩
  ·have e1:((ts.length:Int) % 2==0)=false:=by simp;omega
   rw [decide_eq_false ho]
   generalize takesAll 2 ts 0 6000=ta
   clear HS HN
   generalize ts.length=m at *
   clear ho
   go_enter Tryz.func233,Tryz.ntmps233
   go_wp2_with fail
   refine P.mono ?_
   rintro e w' ⟨rfl,hw⟩
   replace hw:=hw.symm
   subst hw
   clear P
   go_wp2_with fail
   go_ret
   exact ⟨ret_bool (by first|rfl|simp),Below.refl _ _⟩
theorem ft14 (g:Nat) (d:Nd) (ao:Option Addr) (cap:Nat) (at_ an:Option Addr) (ca cn:Nat) (w:World) (ts:List Int) (N:Node6 w g d ao ts.length cap at_ an ca cn) (_hm:RcVV w (.slice an d.names.length cn) d.names) (hsz:d.text.length+sizeSS d.names≤1048576) (h:RepS w (.slice ao ts.length cap) ts) :
  Calls Tryz.prog 215 #[.pointer (some ⟨g,0,none⟩)] w fun e w'=>e=.returned (.bool (numbered d.n d.text d.names (-9223372036854775808) 9223372036854775807&&holds [] ts))∧Below w.heap.size w w':=by
 have P:=numbered_any g d ao ts.length cap at_ an ca cn (-9223372036854775808) 9223372036854775807 w N hsz
 have c0:=N.c0
 have c1:=N.c1
 have c2:=N.c2
 have c3:=N.c3
 have c5:=N.c5
 have HN:Hid (Node6 w g d ao ts.length cap at_ an ca cn):=N
 have HS:Hid (RepS w (.slice ao ts.length cap) ts):=h
 have hl6:ts.length≤1048576:=by obtain ⟨_,_,_,_,_,h3,_⟩:=h;exact h3
 generalize numbered d.n d.text d.names (-9223372036854775808) 9223372036854775807=nb at P ⊢
 clear N _hm hsz h c0 c1 c2 c3
 cases nb with
 |false =>
  go_enter Tryz.func215,Tryz.ntmps215
  go_wp2_with fail
  refine P.mono ?_
  rintro e w' ⟨rfl,hw⟩
  replace hw:=hw.symm
  subst hw
  clear P
  go_wp2_with fail
  go_ret
  exact ⟨ret_bool (by first|rfl|simp),Below.refl _ _⟩
 |true =>
  go_enter Tryz.func215,Tryz.ntmps215
  go_wp2_with fail
  refine P.mono ?_
  rintro e w' ⟨rfl,hw⟩
  replace hw:=hw.symm
  subst hw
  clear P
  go_wp2_with fail
  refine (holds_any g d ao cap at_ an ca cn _ ts HN.out HS.out none [] (roles_none _ _) (by decide)).mono ?_
  rintro e w1 ⟨rfl,hw1⟩
  have HB:Hid (Below w.heap.size w w1):=hw1
  clear hw1
  go_wp2_with fail
  go_ret
  exact ⟨ret_bool (by first|rfl|simp),HB.out⟩
theorem ft15 (g:Nat) (d:Nd) (ao:Option Addr) (cap:Nat) (at_ an:Option Addr) (ca cn:Nat) (w:World) (ts:List Int) (N:Node6 w g d ao ts.length cap at_ an ca cn) (_hm:RcVV w (.slice an d.names.length cn) d.names) (hsz:d.text.length+sizeSS d.names≤1048576) (h:RepS w (.slice ao ts.length cap) ts) :
  Calls Tryz.prog 218 #[.pointer (some ⟨g,0,none⟩)] w fun e w'=>e=.returned (.bool ((d.n==0)&&(decide (d.text.length≤5000)&&(decide (d.names.length=0)&&holds [] ts))))∧Below w.heap.size w w':=by
 have c0:=N.c0
 have c1:=N.c1
 have c2:=N.c2
 have c3:=N.c3
 have c5:=N.c5
 have HN:Hid (Node6 w g d ao ts.length cap at_ an ca cn):=N
 have HS:Hid (RepS w (.slice ao ts.length cap) ts):=h
 have hl6:ts.length≤1048576:=by obtain ⟨_,_,_,_,_,h3,_⟩:=h;exact h3
 have hp:d.text.length≤1048576:=by omega
 have hq:d.names.length≤1048576:=by unfold sizeSS at hsz;omega
 have HD:=holds_any g d ao cap at_ an ca cn _ ts HN.out HS.out none [] (roles_none _ _) (by decide)
 generalize holds [] ts=hd at HD ⊢
 clear _hm hsz h N HS HN
 generalize d.n=nn at *
 generalize d.text.length=p at *
 generalize d.names.length=q at *
 by_cases h1:nn=0
 ·subst h1
  by_cases h2:p≤5000
  ·have e2:decide ((p:Int)≤5000)=true:=by simp;omega
   by_cases h3:q=0
   ·subst h3
    rw [decide_eq_true h2]
    go_enter Tryz.func218,Tryz.ntmps218
    go_wp2_with fail
    refine (HD).mono ?_
    rintro e w1 ⟨rfl,hw1⟩
    have HB:Hid (Below w.heap.size w w1):=hw1
    clear hw1
    go_wp2_with fail
    go_ret
    exact ⟨ret_bool (by first|rfl|simp),HB.out⟩
   ·have e3:((q:Int)==0)=false:=by simp;omega
    rw [decide_eq_false h3]
    go_enter Tryz.func218,Tryz.ntmps218
    go_wp2_with fail
    go_ret
    exact ⟨ret_bool (by first|rfl|simp),Below.refl _ _⟩
  ·have e2:decide ((p:Int)≤5000)=false:=by simp;omega
   rw [decide_eq_false h2]
   go_enter Tryz.func218,Tryz.ntmps218
   go_wp2_with fail
   go_ret
   exact ⟨ret_bool (by first|rfl|simp),Below.refl _ _⟩
 ·have e1:(nn==0)=false:=by simp;exact h1
  rw [e1]
  go_enter Tryz.func218,Tryz.ntmps218
  go_wp2_with fail
  go_ret
  exact ⟨ret_bool (by first|rfl|simp),Below.refl _ _⟩
theorem ft21 (g:Nat) (d:Nd) (ao:Option Addr) (cap:Nat) (at_ an:Option Addr) (ca cn:Nat) (w:World) (ts:List Int) (N:Node6 w g d ao ts.length cap at_ an ca cn) (_hm:RcVV w (.slice an d.names.length cn) d.names) (hsz:d.text.length+sizeSS d.names≤1048576) (h:RepS w (.slice ao ts.length cap) ts) (hk:d.kind=21) :
  Calls Tryz.prog 237 #[.pointer (some ⟨g,0,none⟩)] w fun e w'=>e=.returned (.bool (numbered d.n d.text d.names 0 11&&holds [2,2] ts))∧Below w.heap.size w w':=by
 have P:=numbered_any g d ao ts.length cap at_ an ca cn 0 11 w N hsz
 have c0:=N.c0
 have c1:=N.c1
 have c2:=N.c2
 have c3:=N.c3
 have c5:=N.c5
 have HN:Hid (Node6 w g d ao ts.length cap at_ an ca cn):=N
 have HS:Hid (RepS w (.slice ao ts.length cap) ts):=h
 have hl6:ts.length≤1048576:=by obtain ⟨_,_,_,_,_,h3,_⟩:=h;exact h3
 rw [hk] at c0
 generalize numbered d.n d.text d.names 0 11=nb at P ⊢
 clear N _hm hsz h c1 c2 c3
 cases nb with
 |false =>
  go_enter Tryz.func237,Tryz.ntmps237
  go_wp2_with fail
  refine P.mono ?_
  rintro e w' ⟨rfl,hw⟩
  replace hw:=hw.symm
  subst hw
  clear P
  go_wp2_with fail
  go_ret
  exact ⟨ret_bool (by first|rfl|simp),Below.refl _ _⟩
 |true =>
  go_enter Tryz.func237,Tryz.ntmps237
  go_wp2_with fail
  refine P.mono ?_
  rintro e w' ⟨rfl,hw⟩
  replace hw:=hw.symm
  subst hw
  clear P
  go_wp2_with fail
  have hb1:Hid (Below w.heap.size w (w.alloc (.cells #[.int .i64 2,.int .i64 2] 93))):=(Below.refl _ _).alloc (Nat.le_refl _) _
  refine (holds_any g d ao cap at_ an ca cn _ ts (HN.out.below hb1.out) (HS.out.kept hb1.out) _ [2,2] (roles_new w [2,2] _ (by decide)) (by decide)).mono ?_
  rintro e w1 ⟨rfl,hw1⟩
  have HB:Hid (Below w.heap.size w w1):=hb1.out.trans (hw1.mono hb1.out.size)
  clear hw1
  go_wp2_with fail
  go_ret
  exact ⟨ret_bool (by first|rfl|simp),HB.out⟩
theorem ftQ (g:Nat) (d:Nd) (ao:Option Addr) (cap:Nat) (at_ an:Option Addr) (ca cn:Nat) (w:World) (ts:List Int) (N:Node6 w g d ao ts.length cap at_ an ca cn) (_hm:RcVV w (.slice an d.names.length cn) d.names) (hsz:d.text.length+sizeSS d.names≤1048576) (h:RepS w (.slice ao ts.length cap) ts) (hk:¬d.kind=21) :
  Calls Tryz.prog 237 #[.pointer (some ⟨g,0,none⟩)] w fun e w'=>e=.returned (.bool (numbered d.n d.text d.names 0 0&&holds [2,2] ts))∧Below w.heap.size w w':=by
 have P:=numbered_any g d ao ts.length cap at_ an ca cn 0 0 w N hsz
 have c0:=N.c0
 have c1:=N.c1
 have c2:=N.c2
 have c3:=N.c3
 have c5:=N.c5
 have HN:Hid (Node6 w g d ao ts.length cap at_ an ca cn):=N
 have HS:Hid (RepS w (.slice ao ts.length cap) ts):=h
 have hl6:ts.length≤1048576:=by obtain ⟨_,_,_,_,_,h3,_⟩:=h;exact h3
 have ek:(d.kind==21)=false:=by simp;exact hk
 generalize d.kind=kd at *
 generalize numbered d.n d.text d.names 0 0=nb at P ⊢
 clear N _hm hsz h c1 c2 c3
 cases nb with
 |false =>
  go_enter Tryz.func237,Tryz.ntmps237
  go_wp2_with fail
  refine P.mono ?_
  rintro e w' ⟨rfl,hw⟩
  replace hw:=hw.symm
  subst hw
  clear P
  go_wp2_with fail
  go_ret
  exact ⟨ret_bool (by first|rfl|simp),Below.refl _ _⟩
 |true =>
  go_enter Tryz.func237,Tryz.ntmps237
  go_wp2_with fail
  refine P.mono ?_
  rintro e w' ⟨rfl,hw⟩
  replace hw:=hw.symm
  subst hw
  clear P
  go_wp2_with fail
  have hb1:Hid (Below w.heap.size w (w.alloc (.cells #[.int .i64 2,.int .i64 2] 93))):=(Below.refl _ _).alloc (Nat.le_refl _) _
  refine (holds_any g d ao cap at_ an ca cn _ ts (HN.out.below hb1.out) (HS.out.kept hb1.out) _ [2,2] (roles_new w [2,2] _ (by decide)) (by decide)).mono ?_
  rintro e w1 ⟨rfl,hw1⟩
  have HB:Hid (Below w.heap.size w w1):=hb1.out.trans (hw1.mono hb1.out.size)
  clear hw1
  go_wp2_with fail
  go_ret
  exact ⟨ret_bool (by first|rfl|simp),HB.out⟩
theorem RepS.take {w:World} {b off m cap:Nat} {ts:List Int} (h:RepS w (.slice (some ⟨b,off,none⟩) m cap) ts) (n:Nat) (hn:n≤m):RepS w (.slice (some ⟨b,off,none⟩) n cap) (ts.take n):=by
 obtain ⟨ao,cp,e,h1,h2,h3,hx⟩:=h
 simp only [Value.slice.injEq] at e
 obtain ⟨rfl,rfl,rfl⟩:=e
 have hl:(ts.take n).length=n:=by rw [List.length_take];omega
 refine ⟨_,cap,by rw [hl],by omega,h2,by omega,fun k hk=>?_⟩
 rw [hl] at hk
 obtain ⟨b',off',u,e,hc,D,t,hr,hkt⟩:=hx k (by omega)
 refine ⟨b',off',u,e,hc,D,t,hr,?_⟩
 rw [show (ts.take n).getD k 0=ts.getD k 0 by simp [List.getD_eq_getElem?_getD,hk]]
 exact hkt
theorem RepS.drop {w:World} {b off m cap:Nat} {ts:List Int} (h:RepS w (.slice (some ⟨b,off,none⟩) m cap) ts) (n:Nat) (hn:n≤m) (ra:Option Addr) (hra:n<m→ra=some ⟨b,off+n,none⟩):RepS w (.slice ra (m-n) (cap-n)) (ts.drop n):=by
 obtain ⟨ao,cp,e,h1,h2,h3,hx⟩:=h
 simp only [Value.slice.injEq] at e
 obtain ⟨rfl,rfl,rfl⟩:=e
 have hl:(ts.drop n).length=ts.length-n:=List.length_drop
 refine ⟨ra,cap-n,by rw [hl],by omega,by omega,by omega,fun k hk=>?_⟩
 rw [hl] at hk
 obtain ⟨b',off',u,e,hc,D,t,hr,hkt⟩:=hx (n+k) (by omega)
 simp only [Option.some.injEq,Addr.mk.injEq,and_true] at e
 obtain ⟨rfl,rfl⟩:=e
 refine ⟨b,off+n,u,hra (by omega),by rw [Nat.add_assoc];exact hc,D,t,hr,?_⟩
 rw [show (ts.drop n).getD k 0=ts.getD (n+k) 0 by simp [List.getD_eq_getElem?_getD]]
 exact hkt
theorem targets_any (g:Nat) (b off m cap n:Nat) (w:World) (c1:w.cell? ⟨g,1,none⟩=some (.int .i64 n)) (c5:w.cell? ⟨g,5,none⟩=some (.slice (some ⟨b,off,none⟩) m cap)) (hn:n≤m) (hm:m≤cap) (_hc:cap≤9223372036854775807) :
  Calls Tryz.prog 188 #[.pointer (some ⟨g,0,none⟩)] w fun e w'=>e=.returned (.slice (some ⟨b,off,none⟩) n cap)∧Below w.heap.size w w':=by
 have f1:(n:Int)≤(cap:Int):=by omega
 have f2:(0:Int)≤(n:Int):=by omega
 go_enter Tryz.func188,Tryz.ntmps188
 go_wp2_with fail
 go_quiet (fail)
 go_wp2_with fail
 go_ret
 exact ⟨by simp,bel_drewN (Below.refl _ _) _⟩
theorem values_any (g:Nat) (b off m cap n:Nat) (w:World) (c1:w.cell? ⟨g,1,none⟩=some (.int .i64 n)) (c5:w.cell? ⟨g,5,none⟩=some (.slice (some ⟨b,off,none⟩) m cap)) (hn:n≤m) (hm:m≤cap) (_hc:cap≤9223372036854775807) :
  Calls Tryz.prog 189 #[.pointer (some ⟨g,0,none⟩)] w fun e w'=>(∃ra,e=.returned (.slice ra (m-n) (cap-n))∧(n<m→ra=some ⟨b,off+n,none⟩))∧Below w.heap.size w w':=by
 have f1:(n:Int)≤(m:Int):=by omega
 have f2:(0:Int)≤(n:Int):=by omega
 by_cases h1:cap=n
 ·go_enter Tryz.func189,Tryz.ntmps189
  go_wp2_with fail
  go_quiet (fail)
  go_wp2_with fail
  go_ret
  refine ⟨⟨some ⟨b,off,none⟩,?_,fun h=>by omega⟩,bel_drewN (Below.refl _ _) _⟩
  rw [show cap-n=0 by omega]
  rfl
 ·go_enter Tryz.func189,Tryz.ntmps189
  go_wp2_with fail
  go_quiet (fail)
  go_wp2_with fail
  go_ret
  exact ⟨⟨_,rfl,fun _=>rfl⟩,bel_drewN (Below.refl _ _) _⟩
theorem ft2 (g:Nat) (d:Nd) (ao:Option Addr) (cap:Nat) (at_ an:Option Addr) (ca cn:Nat) (w:World) (ts:List Int) (N:Node6 w g d ao ts.length cap at_ an ca cn) (_hm:RcVV w (.slice an d.names.length cn) d.names) (hsz:d.text.length+sizeSS d.names≤1048576) (h:RepS w (.slice ao ts.length cap) ts) :
  Calls Tryz.prog 185 #[.pointer (some ⟨g,0,none⟩)] w fun e w'=>e=.returned (.bool (numbered d.n d.text d.names 1 50&&(decide (d.n≤(ts.length:Int))&&(takesAll 3 (ts.take d.n.toNat) 1 50&&takesAll 2 (ts.drop d.n.toNat) 1 50))))∧Below w.heap.size w w':=by
 have c1:=N.c1
 have c5:=N.c5
 have HN:Hid (Node6 w g d ao ts.length cap at_ an ca cn):=N
 have hl6:ts.length≤1048576:=by obtain ⟨_,_,_,_,_,h3,_⟩:=h;exact h3
 have P:Hid (∀W,Below w.heap.size w W→Calls Tryz.prog 187 #[.pointer (some ⟨g,0,none⟩),.int .i64 1,.int .i64 50] W fun e w'=>e=.returned (.bool (numbered d.n d.text d.names 1 50))∧w'=W):=fun W hW=>numbered_any g d ao ts.length cap at_ an ca cn 1 50 W (HN.out.below hW) hsz
 cases hnb:numbered d.n d.text d.names 1 50 with
 |false =>
  rw [hnb] at P
  clear N _hm hsz h hnb HN
  generalize ts.length=m at *
  go_enter Tryz.func185,Tryz.ntmps185
  go_wp2_with fail
  go_quiet ((go_at_call 187;exact Calls.quiet_of_same (P.out _ (by repeat (first|exact Below.refl _ _|assumption|refine Below.drew ?_|refine bel_drewN ?_ _)))))
  go_wp2_with fail
  go_ret
  exact ⟨rfl,by repeat (first|exact Below.refl _ _|assumption|refine Below.drew ?_|refine bel_drewN ?_ _)⟩
 |true =>
  rw [hnb] at P
  have hr:1≤d.n∧d.n≤50:=by
   unfold numbered at hnb
   simp only [Bool.and_eq_true,decide_eq_true_eq] at hnb
   exact ⟨hnb.1,hnb.2.1⟩
  obtain ⟨n,hn⟩:∃n:Nat,d.n=(n:Int):=⟨d.n.toNat,by omega⟩
  rw [hn,Int.toNat_natCast]
  rw [hn] at c1 hr
  by_cases hle:n≤ts.length
  ·have hS:=h
   obtain ⟨ao2,cap2,e2,k1,k2,k3,hx⟩:=h
   simp only [Value.slice.injEq,true_and] at e2
   obtain ⟨rfl,rfl⟩:=e2
   obtain ⟨b,off,_,e3,_⟩:=hx 0 (by omega)
   subst e3
   have T:Hid (∀W,Below w.heap.size w W→_):=fun W (hW:Below w.heap.size w W)=>targets_any g b off ts.length cap n W (by have:=(HN.out.below hW).c1;rwa [hn] at this) (HN.out.below hW).c5 hle k1 k2
   have V:=fun W (hW:Below w.heap.size w W)=>values_any g b off ts.length cap n W (by have:=(HN.out.below hW).c1;rwa [hn] at this) (HN.out.below hW).c5 hle k1 k2
   have A1:=fun W (hW:Below w.heap.size w W)=>takesAll_any 3 (by omega) _ (ts.take n) 1 50 W ((hS.kept hW).take n hle) (by omega) (by omega)
   have A2:=fun W (hW:Below w.heap.size w W) ra hra=>takesAll_any 2 (by omega) _ (ts.drop n) 1 50 W ((hS.kept hW).drop n hle ra hra) (by omega) (by omega)
   have HV:Hid (∀W,Below w.heap.size w W→_):=V
   have HA1:Hid (∀W,Below w.heap.size w W→_):=A1
   have HA2:Hid (∀W,Below w.heap.size w W→∀ra:Option Addr,(n<ts.length→ra=some (⟨b,off+n,none⟩:Addr))→_):=A2
   clear V A1 A2
   have e1:decide ((ts.length:Int)<(n:Int))=false:=by simp;omega
   have e1':decide (ts.length<n)=false:=by simp;omega
   rw [decide_eq_true (show (n:Int)≤(ts.length:Int) by omega)]
   generalize takesAll 3 (ts.take n) 1 50=t1 at HA1 ⊢
   generalize takesAll 2 (ts.drop n) 1 50=t2 at HA2 ⊢
   clear hx hS N _hm hsz hnb
   generalize ts.length=m at *
   go_enter Tryz.func185,Tryz.ntmps185
   go_wp2_with fail
   go_quiet ((go_at_call 187;exact Calls.quiet_of_same (P.out _ (by repeat (first|exact Below.refl _ _|assumption|refine Below.drew ?_|refine bel_drewN ?_ _)))))
   go_wp2_with fail
   refine (T.out (w.drewN _) (bel_drewN (Below.refl _ _) _)).mono ?_
   rintro e w1 ⟨rfl,hb1⟩
   clear T
   have HB1:Hid (Below w.heap.size w w1):=(bel_drewN (Below.refl _ _) _).trans hb1
   clear hb1
   go_wp2_with fail
   refine (HA1.out _ HB1.out).mono ?_
   rintro e w2 ⟨rfl,hb2⟩
   have HB2:Hid (Below w.heap.size w w2):=HB1.out.trans (hb2.mono HB1.out.size)
   clear hb2
   cases t1 with
   |false =>
    go_wp2_with fail
    go_ret
    exact ⟨rfl,HB2.out⟩
   |true =>
    go_wp2_with fail
    refine (HV.out _ HB2.out).mono ?_
    rintro e w3 ⟨⟨ra,rfl,hra⟩,hb3⟩
    have HB3:Hid (Below w.heap.size w w3):=HB2.out.trans (hb3.mono HB2.out.size)
    have HR:Hid (n<m→ra=some ⟨b,off+n,none⟩):=hra
    clear hb3 hra
    go_wp2_with fail
    refine (HA2.out _ HB3.out ra HR.out).mono ?_
    rintro e w4 ⟨rfl,hb4⟩
    have HB4:Hid (Below w.heap.size w w4):=HB3.out.trans (hb4.mono HB3.out.size)
    clear hb4
    go_wp2_with fail
    go_ret
    exact ⟨ret_bool (by simp),HB4.out⟩
  ·have e1:decide ((ts.length:Int)<(n:Int))=true:=by simp;omega
   have e1':decide (ts.length<n)=true:=by simp;omega
   rw [decide_eq_false (show ¬(n:Int)≤(ts.length:Int) by omega)]
   clear N _hm hsz h HN hnb
   generalize ts.length=m at *
   go_enter Tryz.func185,Tryz.ntmps185
   go_wp2_with fail
   go_quiet ((go_at_call 187;exact Calls.quiet_of_same (P.out _ (by repeat (first|exact Below.refl _ _|assumption|refine Below.drew ?_|refine bel_drewN ?_ _)))))
   go_wp2_with fail
   go_ret
   exact ⟨rfl,by repeat (first|exact Below.refl _ _|assumption|refine Below.drew ?_|refine bel_drewN ?_ _)⟩
theorem ft7 (g:Nat) (d:Nd) (ao:Option Addr) (cap:Nat) (at_ an:Option Addr) (ca cn:Nat) (w:World) (ts:List Int) (N:Node6 w g d ao ts.length cap at_ an ca cn) (hm:RcVV w (.slice an d.names.length cn) d.names) (hsz:d.text.length+sizeSS d.names≤1048576) (h:RepS w (.slice ao ts.length cap) ts) :
  Calls Tryz.prog 203 #[.pointer (some ⟨g,0,none⟩)] w fun e w'=>e=.returned (.bool (named d.n d.text d.names 1 1&&(holds [2,2,0] ts || holds [2,2,2,0] ts)))∧Below w.heap.size w w':=by
 have P:=named_any g d ao ts.length cap at_ an ca cn 1 1 w N hm hsz (by omega) (by omega)
 have HN:Hid (Node6 w g d ao ts.length cap at_ an ca cn):=N
 have HS:Hid (RepS w (.slice ao ts.length cap) ts):=h
 have H1:Hid (∀W,Below w.heap.size w W→Calls Tryz.prog 183 #[.pointer (some ⟨g,0,none⟩),.slice (some ⟨W.heap.size,0,none⟩) 3 3] (W.alloc (.cells #[.int .i64 2,.int .i64 2,.int .i64 0] 93)) fun e w'=>e=.returned (.bool (holds [2,2,0] ts))∧Below (W.alloc (.cells #[.int .i64 2,.int .i64 2,.int .i64 0] 93)).heap.size (W.alloc (.cells #[.int .i64 2,.int .i64 2,.int .i64 0] 93)) w') :=
  fun W hW=>holds_any g d ao cap at_ an ca cn _ ts (HN.out.below (hW.alloc hW.size _)) (HS.out.kept (hW.alloc hW.size _)) _ [2,2,0] (roles_new W [2,2,0] _ (by decide)) (by decide)
 have H2:Hid (∀W,Below w.heap.size w W→Calls Tryz.prog 183 #[.pointer (some ⟨g,0,none⟩),.slice (some ⟨W.heap.size,0,none⟩) 4 4] (W.alloc (.cells #[.int .i64 2,.int .i64 2,.int .i64 2,.int .i64 0] 93)) fun e w'=>e=.returned (.bool (holds [2,2,2,0] ts))∧Below (W.alloc (.cells #[.int .i64 2,.int .i64 2,.int .i64 2,.int .i64 0] 93)).heap.size (W.alloc (.cells #[.int .i64 2,.int .i64 2,.int .i64 2,.int .i64 0] 93)) w') :=
  fun W hW=>holds_any g d ao cap at_ an ca cn _ ts (HN.out.below (hW.alloc hW.size _)) (HS.out.kept (hW.alloc hW.size _)) _ [2,2,2,0] (roles_new W [2,2,2,0] _ (by decide)) (by decide)
 generalize named d.n d.text d.names 1 1=nb at P ⊢
 generalize holds [2,2,0] ts=h1 at H1 ⊢
 generalize holds [2,2,2,0] ts=h2 at H2 ⊢
 clear N hm hsz h HN HS
 cases nb with
 |false =>
  go_enter Tryz.func203,Tryz.ntmps203
  go_wp2_with fail
  refine P.mono ?_
  rintro e w' ⟨rfl,hw⟩
  replace hw:=hw.symm
  subst hw
  clear P
  go_wp2_with fail
  go_ret
  exact ⟨rfl,Below.refl _ _⟩
 |true =>
  go_enter Tryz.func203,Tryz.ntmps203
  go_wp2_with fail
  refine P.mono ?_
  rintro e w' ⟨rfl,hw⟩
  replace hw:=hw.symm
  subst hw
  clear P
  go_wp2_with fail
  refine (H1.out w (Below.refl _ _)).mono ?_
  rintro e w1 ⟨rfl,hw1⟩
  have HB:Hid (Below w.heap.size w w1):=((Below.refl _ _).alloc (Nat.le_refl _) _).trans (hw1.mono (by simp))
  clear hw1
  cases h1 with
  |true =>
   go_wp2_with fail
   go_ret
   exact ⟨ret_bool (by simp),HB.out⟩
  |false =>
   go_wp2_with fail
   refine (H2.out w1 HB.out).mono ?_
   rintro e w2 ⟨rfl,hw2⟩
   have hz:=HB.out.size
   have HB2:Hid (Below w.heap.size w w2):=(HB.out.alloc HB.out.size _).trans (hw2.mono (by simp;omega))
   clear hw2
   go_wp2_with fail
   go_ret
   exact ⟨ret_bool (by simp),HB2.out⟩
end vt
namespace vt
open Go.RowKit Go.Shelf bts nod lex
def MethodIs (T g:Nat) (name:String) (f:Nat):Prop:=∀W:World,(method 381 T (.pointer (some ⟨g,0,none⟩)) name).run Tryz.prog W=.ok (f,.pointer (some ⟨g,0,none⟩)) W
theorem fits_any {D:Nat} {v:Value} {t:Tr D} {w:World} (h:Rep w v t) (hwf:-9223372036854775808≤(dT t).n∧(dT t).n≤9223372036854775807) :
  ∃T g f,v=.iface T (.pointer (some ⟨g,0,none⟩))∧MethodIs T g "loop.example/s02245/impl.fits" f∧(∀args W,(callFunc f args).run Tryz.prog W=.ok (.enter f args) W)∧Calls Tryz.prog f #[.pointer (some ⟨g,0,none⟩)] w fun e w'=>e=.returned (.bool (fitsT t))∧Below w.heap.size w w':=by
 obtain ⟨g,ao,cap,at_,an,ca,cn,rfl,hk0,hk1,N,ht,hm,hsz,hS⟩:=h.open
 unfold fitsT
 clear h
 generalize kkT t=ks at *
 generalize dT t=d at *
 have:d.kind=0∨d.kind=1∨d.kind=2∨d.kind=3∨d.kind=4∨d.kind=5∨d.kind=6∨d.kind=7∨d.kind=8∨d.kind=9∨d.kind=10∨d.kind=11∨d.kind=12∨d.kind=13∨d.kind=14∨d.kind=15∨d.kind=16∨d.kind=17∨d.kind=18∨d.kind=19∨d.kind=20∨d.kind=21∨d.kind=22∨d.kind=23∨d.kind=24∨d.kind=25∨d.kind=26:=by omega
 rcases this with hk|hk|hk|hk|hk|hk|hk|hk|hk|hk|hk|hk|hk|hk|hk|hk|hk|hk|hk|hk|hk|hk|hk|hk|hk|hk|hk
 ·refine ⟨_,g,170,rfl,?_,enters_of Tryz.func170 (by kernel_rfl) rfl,?_⟩
  ·rw [hk];intro W;kernel_rfl
  ·rw [hk];exact ft0 g d ao cap at_ an ca cn w ks N hm hsz hS
 ·refine ⟨_,g,178,rfl,?_,enters_of Tryz.func178 (by kernel_rfl) rfl,?_⟩
  ·rw [hk];intro W;kernel_rfl
  ·rw [hk];exact ft1 g d ao cap at_ an ca cn w ks N hm hsz hS
 ·refine ⟨_,g,185,rfl,?_,enters_of Tryz.func185 (by kernel_rfl) rfl,?_⟩
  ·rw [hk];intro W;kernel_rfl
  ·rw [hk,show fitsI 2 d.n d.text d.names ks=(numbered d.n d.text d.names 1 50&&(decide (d.n≤(ks.length:Int))&&(takesAll 3 (ks.take d.n.toNat) 1 50&&takesAll 2 (ks.drop d.n.toNat) 1 50))) from rfl]
   exact ft2 g d ao cap at_ an ca cn w ks N hm hsz hS
 ·refine ⟨_,g,191,rfl,?_,enters_of Tryz.func191 (by kernel_rfl) rfl,?_⟩
  ·rw [hk];intro W;kernel_rfl
  ·rw [hk];exact ft3 g d ao cap at_ an ca cn w ks N hm hsz hS
 ·refine ⟨_,g,194,rfl,?_,enters_of Tryz.func194 (by kernel_rfl) rfl,?_⟩
  ·rw [hk];intro W;kernel_rfl
  ·rw [hk];exact ft4 g d ao cap at_ an ca cn w ks N hm hsz hS
 ·refine ⟨_,g,197,rfl,?_,enters_of Tryz.func197 (by kernel_rfl) rfl,?_⟩
  ·rw [hk];intro W;kernel_rfl
  ·rw [hk];exact ft5 g d ao cap at_ an ca cn w ks N hm hsz hS
 ·refine ⟨_,g,200,rfl,?_,enters_of Tryz.func200 (by kernel_rfl) rfl,?_⟩
  ·rw [hk];intro W;kernel_rfl
  ·rw [hk];exact ft6 g d ao cap at_ an ca cn w ks N hm hsz hS
 ·refine ⟨_,g,203,rfl,?_,enters_of Tryz.func203 (by kernel_rfl) rfl,?_⟩
  ·rw [hk];intro W;kernel_rfl
  ·rw [hk];exact ft7 g d ao cap at_ an ca cn w ks N hm hsz hS
 ·refine ⟨_,g,206,rfl,?_,enters_of Tryz.func206 (by kernel_rfl) rfl,?_⟩
  ·rw [hk];intro W;kernel_rfl
  ·rw [hk];exact ft8 g d ao cap at_ an ca cn w ks N hm hsz hS
 ·refine ⟨_,g,209,rfl,?_,enters_of Tryz.func209 (by kernel_rfl) rfl,?_⟩
  ·rw [hk];intro W;kernel_rfl
  ·rw [hk];exact ft9 g d ao cap at_ an ca cn w ks N hm hsz hS
 ·refine ⟨_,g,212,rfl,?_,enters_of Tryz.func212 (by kernel_rfl) rfl,?_⟩
  ·rw [hk];intro W;kernel_rfl
  ·rw [hk];exact ft10 g d ao cap at_ an ca cn w ks N hm hsz hS
 ·refine ⟨_,g,243,rfl,?_,enters_of Tryz.func243 (by kernel_rfl) rfl,?_⟩
  ·rw [hk];intro W;kernel_rfl
  ·rw [hk];exact ftW g d ao cap at_ an ca cn w ks N hm hsz hS
 ·refine ⟨_,g,243,rfl,?_,enters_of Tryz.func243 (by kernel_rfl) rfl,?_⟩
  ·rw [hk];intro W;kernel_rfl
  ·rw [hk];exact ftW g d ao cap at_ an ca cn w ks N hm hsz hS
 ·refine ⟨_,g,243,rfl,?_,enters_of Tryz.func243 (by kernel_rfl) rfl,?_⟩
  ·rw [hk];intro W;kernel_rfl
  ·rw [hk];exact ftW g d ao cap at_ an ca cn w ks N hm hsz hS
 ·refine ⟨_,g,215,rfl,?_,enters_of Tryz.func215 (by kernel_rfl) rfl,?_⟩
  ·rw [hk];intro W;kernel_rfl
  ·have e:fitsI 14 d.n d.text d.names ks=(numbered d.n d.text d.names (-9223372036854775808) 9223372036854775807&&holds [] ks):=by
    show (decide (d.text.length=0)&&(decide (d.names.length=0)&&holds [] ks))=_
    unfold numbered
    rw [decide_eq_true (show -9223372036854775808≤d.n from hwf.1),decide_eq_true (show d.n≤9223372036854775807 from hwf.2),Bool.true_and,Bool.true_and,Bool.and_assoc]
   rw [hk,e];exact ft14 g d ao cap at_ an ca cn w ks N hm hsz hS
 ·refine ⟨_,g,218,rfl,?_,enters_of Tryz.func218 (by kernel_rfl) rfl,?_⟩
  ·rw [hk];intro W;kernel_rfl
  ·rw [hk];exact ft15 g d ao cap at_ an ca cn w ks N hm hsz hS
 ·refine ⟨_,g,221,rfl,?_,enters_of Tryz.func221 (by kernel_rfl) rfl,?_⟩
  ·rw [hk];intro W;kernel_rfl
  ·rw [hk];exact ft16 g d ao cap at_ an ca cn w ks N hm hsz hS
 ·refine ⟨_,g,224,rfl,?_,enters_of Tryz.func224 (by kernel_rfl) rfl,?_⟩
  ·rw [hk];intro W;kernel_rfl
  ·rw [hk];exact ft17 g d ao cap at_ an ca cn w ks N hm hsz hS
 ·refine ⟨_,g,227,rfl,?_,enters_of Tryz.func227 (by kernel_rfl) rfl,?_⟩
  ·rw [hk];intro W;kernel_rfl
  ·rw [hk];exact ft18 g d ao cap at_ an ca cn w ks N hm hsz hS
 ·refine ⟨_,g,230,rfl,?_,enters_of Tryz.func230 (by kernel_rfl) rfl,?_⟩
  ·rw [hk];intro W;kernel_rfl
  ·rw [hk];exact ft19 g d ao cap at_ an ca cn w ks N hm hsz hS
 ·refine ⟨_,g,233,rfl,?_,enters_of Tryz.func233 (by kernel_rfl) rfl,?_⟩
  ·rw [hk];intro W;kernel_rfl
  ·rw [hk,show fitsI 20 d.n d.text d.names ks=(named d.n d.text d.names 0 0&&(decide (ks.length % 2=0)&&takesAll 2 ks 0 6000)) from rfl]
   exact ft20 g d ao cap at_ an ca cn w ks N hm hsz hS
 ·refine ⟨_,g,237,rfl,?_,enters_of Tryz.func237 (by kernel_rfl) rfl,?_⟩
  ·rw [hk];intro W;kernel_rfl
  ·rw [hk];exact ft21 g d ao cap at_ an ca cn w ks N hm hsz hS hk
 ·refine ⟨_,g,237,rfl,?_,enters_of Tryz.func237 (by kernel_rfl) rfl,?_⟩
  ·rw [hk];intro W;kernel_rfl
  ·have hne:¬d.kind=21:=by omega
   rw [hk];exact ftQ g d ao cap at_ an ca cn w ks N hm hsz hS hne
 ·refine ⟨_,g,237,rfl,?_,enters_of Tryz.func237 (by kernel_rfl) rfl,?_⟩
  ·rw [hk];intro W;kernel_rfl
  ·have hne:¬d.kind=21:=by omega
   rw [hk];exact ftQ g d ao cap at_ an ca cn w ks N hm hsz hS hne
 ·refine ⟨_,g,240,rfl,?_,enters_of Tryz.func240 (by kernel_rfl) rfl,?_⟩
  ·rw [hk];intro W;kernel_rfl
  ·rw [hk];exact ftU g d ao cap at_ an ca cn w ks N hm hsz hS
 ·refine ⟨_,g,240,rfl,?_,enters_of Tryz.func240 (by kernel_rfl) rfl,?_⟩
  ·rw [hk];intro W;kernel_rfl
  ·rw [hk];exact ftU g d ao cap at_ an ca cn w ks N hm hsz hS
 ·refine ⟨_,g,181,rfl,?_,enters_of Tryz.func181 (by kernel_rfl) rfl,?_⟩
  ·rw [hk];intro W;kernel_rfl
  ·rw [hk];exact ft26 g d ao cap at_ an ca cn w ks N hm hsz hS
end vt
end Go.Proofs.YtkmiagkehcflnaaGreatDoor
