import Derived.Laws.Concat
import Derived.Deep.RegionHeld3
import Derived.Handy
import Derived.Test.YtkmiagkehcflnaaGreatDoorMVtEnd
set_option maxRecDepth 100000
set_option maxHeartbeats 8000000
namespace Go.Proofs.YtkmiagkehcflnaaGreatDoor
namespace vt
open Go.RowKit bts nod
def rep (c:ByteArray):Nat→ByteArray
 |0=>{data:=#[]}
 |k+1=>rep c k++c
theorem rep_size (c:ByteArray):∀k,(rep c k).size=k*c.size
 |0=>by rw [Nat.zero_mul];rfl
 |k+1=>by rw [rep,ByteArray.size_append,rep_size c k,Nat.succ_mul]
theorem ret_s {a b:ByteArray} (h:a=b):Ending.returned (.string a)=.returned (.string b):=by rw [h]
theorem l3many_any (c:ByteArray) (k:Int) (w:World) (h0:0≤k) (hk:k≤6000) (hc:c.size≤2) :
  Calls Tryz.prog 94 #[.string c,.int .i64 k] w fun x w'=>x=.returned (.string (rep c k.toNat))∧w'=w:=by
 obtain ⟨n,rfl⟩:∃n:Nat,k=(n:Int):=⟨k.toNat,by omega⟩
 rw [Int.toNat_natCast]
 clear h0
 go_enter Tryz.func94,Tryz.ntmps94
 go_wp2
 go_loop [5,6] (fun p q=>∃(m:Nat) (s:ByteArray),m≤n∧p=.string s∧q=.int .i64 m∧Hid (s=rep c m)) (fun _ q=>n-(intOf q).toNat)
 case atStart=>exact ⟨0,_,Nat.zero_le _,rfl,rfl,rfl⟩
 case round =>
  obtain ⟨m,s,hm,rfl,rfl,HS⟩:=hrel
  by_cases hlt:m<n
  ·have hsz:s.size≤12000:=by
    rw [HS.out,rep_size]
    have:m*c.size≤6000*2:=Nat.mul_le_mul (by omega) hc
    omega
   have hlim:¬9223372036854775807<s.size+c.size:=by omega
   go_wp2
   go_round
   case rel=>exact ⟨m+1,_,by omega,rfl,by go_num,by show _=_;rw [HS.out,rep]⟩
   case measure=>simp [intOf];omega
  ·have hmn:m=n:=by omega
   subst hmn
   go_wp2
   go_ret
   exact ⟨ret_s HS.out,rfl⟩
def shape (kd nn ct:Int):ByteArray :=
 if kd=0 then rep {data:=#[115]} ct.toNat
 else if kd=1∨kd=9 then (if 50<ct then {data:=#[63]} else rep {data:=#[101]} ct.toNat)
 else if kd=26 then {data:=#[102]}
 else if kd=2 then (if nn<1∨50<nn∨ct≤nn∨nn+50<ct then {data:=#[63]} else rep {data:=#[116]} nn.toNat++rep {data:=#[101]} (ct-nn).toNat)
 else if kd=3 then {data:=#[98]}
 else if kd=4 then {data:=#[101,98]}
 else if kd=5 then {data:=#[98,101]}
 else if kd=6 then (if ct<2 then {data:=#[63]} else rep {data:=#[101,98]} (ct / 2).toNat++rep {data:=#[98]} (ct % 2).toNat)
 else if kd=7 then (if ct=4 then {data:=#[101,101,101,98]} else {data:=#[101,101,98]})
 else if kd=10 then {data:=#[99]}
 else if kd=17∨kd=21∨kd=22∨kd=23 then {data:=#[101,101]}
 else if kd=18 then (if ct<1∨51<ct then {data:=#[63]} else rep {data:=#[101]} ct.toNat)
 else if kd=19 then {data:=#[98]}
 else if kd=20 then (if ¬ct % 2=0 then {data:=#[63]} else rep {data:=#[101]} ct.toNat)
 else if kd=24∨kd=25 then {data:=#[101]}
 else {data:=#[]}
theorem sh0 (nn ct:Int) (ut un:Value) (w:World) (_h0:0≤ct) (_h1:ct≤6000) :
  Calls Tryz.prog 65 #[.agg #[.int .i64 0,.int .i64 nn,ut,un,.int .i64 ct]] w fun x w'=>x=.returned (.string (rep {data:=#[115]} ct.toNat))∧Below w.heap.size w w':=by
 go_enter Tryz.func65,Tryz.ntmps65
 go_wp2_with (go_at_call 94;refine (l3many_any _ _ _ (by omega) (by omega) (by decide)).mono ?_;rintro x w' ⟨rfl,hw⟩;replace hw:=hw.symm;subst hw)
 go_ret
 exact ⟨rfl,(Below.refl _ _).alloc (Nat.le_refl _) _⟩
theorem sh1_many (nn ct:Int) (ut un:Value) (w:World) (_h0:0≤ct) (_h1:ct≤6000) (h:50<ct) :
  Calls Tryz.prog 65 #[.agg #[.int .i64 1,.int .i64 nn,ut,un,.int .i64 ct]] w fun x w'=>x=.returned (.string ({data:=#[63]}))∧Below w.heap.size w w':=by
 go_enter Tryz.func65,Tryz.ntmps65
 go_wp2_with (go_at_call 94;refine (l3many_any _ _ _ (by omega) (by omega) (by decide)).mono ?_;rintro x w' ⟨rfl,hw⟩;replace hw:=hw.symm;subst hw)
 go_ret
 exact ⟨rfl,(Below.refl _ _).alloc (Nat.le_refl _) _⟩
theorem sh1_few (nn ct:Int) (ut un:Value) (w:World) (_h0:0≤ct) (_h1:ct≤6000) (h:¬50<ct) :
  Calls Tryz.prog 65 #[.agg #[.int .i64 1,.int .i64 nn,ut,un,.int .i64 ct]] w fun x w'=>x=.returned (.string (rep {data:=#[101]} ct.toNat))∧Below w.heap.size w w':=by
 go_enter Tryz.func65,Tryz.ntmps65
 go_wp2_with (go_at_call 94;refine (l3many_any _ _ _ (by omega) (by omega) (by decide)).mono ?_;rintro x w' ⟨rfl,hw⟩;replace hw:=hw.symm;subst hw)
 go_ret
 exact ⟨rfl,(Below.refl _ _).alloc (Nat.le_refl _) _⟩
theorem sh9_many (nn ct:Int) (ut un:Value) (w:World) (_h0:0≤ct) (_h1:ct≤6000) (h:50<ct) :
  Calls Tryz.prog 65 #[.agg #[.int .i64 9,.int .i64 nn,ut,un,.int .i64 ct]] w fun x w'=>x=.returned (.string ({data:=#[63]}))∧Below w.heap.size w w':=by
 go_enter Tryz.func65,Tryz.ntmps65
 go_wp2_with (go_at_call 94;refine (l3many_any _ _ _ (by omega) (by omega) (by decide)).mono ?_;rintro x w' ⟨rfl,hw⟩;replace hw:=hw.symm;subst hw)
 go_ret
 exact ⟨rfl,(Below.refl _ _).alloc (Nat.le_refl _) _⟩
theorem sh9_few (nn ct:Int) (ut un:Value) (w:World) (_h0:0≤ct) (_h1:ct≤6000) (h:¬50<ct) :
  Calls Tryz.prog 65 #[.agg #[.int .i64 9,.int .i64 nn,ut,un,.int .i64 ct]] w fun x w'=>x=.returned (.string (rep {data:=#[101]} ct.toNat))∧Below w.heap.size w w':=by
 go_enter Tryz.func65,Tryz.ntmps65
 go_wp2_with (go_at_call 94;refine (l3many_any _ _ _ (by omega) (by omega) (by decide)).mono ?_;rintro x w' ⟨rfl,hw⟩;replace hw:=hw.symm;subst hw)
 go_ret
 exact ⟨rfl,(Below.refl _ _).alloc (Nat.le_refl _) _⟩
theorem sh18_a (nn ct:Int) (ut un:Value) (w:World) (_h0:0≤ct) (_h1:ct≤6000) (h:ct<1) :
  Calls Tryz.prog 65 #[.agg #[.int .i64 18,.int .i64 nn,ut,un,.int .i64 ct]] w fun x w'=>x=.returned (.string ({data:=#[63]}))∧Below w.heap.size w w':=by
 go_enter Tryz.func65,Tryz.ntmps65
 go_wp2_with (go_at_call 94;refine (l3many_any _ _ _ (by omega) (by omega) (by decide)).mono ?_;rintro x w' ⟨rfl,hw⟩;replace hw:=hw.symm;subst hw)
 go_ret
 exact ⟨rfl,(Below.refl _ _).alloc (Nat.le_refl _) _⟩
theorem sh18_b (nn ct:Int) (ut un:Value) (w:World) (_h0:0≤ct) (_h1:ct≤6000) (h:51<ct) :
  Calls Tryz.prog 65 #[.agg #[.int .i64 18,.int .i64 nn,ut,un,.int .i64 ct]] w fun x w'=>x=.returned (.string ({data:=#[63]}))∧Below w.heap.size w w':=by
 go_enter Tryz.func65,Tryz.ntmps65
 go_wp2_with (go_at_call 94;refine (l3many_any _ _ _ (by omega) (by omega) (by decide)).mono ?_;rintro x w' ⟨rfl,hw⟩;replace hw:=hw.symm;subst hw)
 go_ret
 exact ⟨rfl,(Below.refl _ _).alloc (Nat.le_refl _) _⟩
theorem sh18_c (nn ct:Int) (ut un:Value) (w:World) (_h0:0≤ct) (_h1:ct≤6000) (h:¬ct<1) (h2:¬51<ct) :
  Calls Tryz.prog 65 #[.agg #[.int .i64 18,.int .i64 nn,ut,un,.int .i64 ct]] w fun x w'=>x=.returned (.string (rep {data:=#[101]} ct.toNat))∧Below w.heap.size w w':=by
 have e1:decide (ct<1)=false:=by simp;omega
 have e2:decide (51<ct)=false:=by simp;omega
 go_enter Tryz.func65,Tryz.ntmps65
 go_wp2_with (go_at_call 94;refine (l3many_any _ _ _ (by omega) (by omega) (by decide)).mono ?_;rintro x w' ⟨rfl,hw⟩;replace hw:=hw.symm;subst hw)
 go_ret
 exact ⟨rfl,(Below.refl _ _).alloc (Nat.le_refl _) _⟩
theorem sh2_a (nn ct:Int) (ut un:Value) (w:World) (_h0:0≤ct) (_h1:ct≤6000) (h:nn<1) :
  Calls Tryz.prog 65 #[.agg #[.int .i64 2,.int .i64 nn,ut,un,.int .i64 ct]] w fun x w'=>x=.returned (.string ({data:=#[63]}))∧Below w.heap.size w w':=by
 go_enter Tryz.func65,Tryz.ntmps65
 go_wp2_with (go_at_call 94;refine (l3many_any _ _ _ (by omega) (by omega) (by decide)).mono ?_;rintro x w' ⟨rfl,hw⟩;replace hw:=hw.symm;subst hw)
 go_ret
 exact ⟨rfl,(Below.refl _ _).alloc (Nat.le_refl _) _⟩
theorem sh2_b (nn ct:Int) (ut un:Value) (w:World) (_h0:0≤ct) (_h1:ct≤6000) (h:50<nn) :
  Calls Tryz.prog 65 #[.agg #[.int .i64 2,.int .i64 nn,ut,un,.int .i64 ct]] w fun x w'=>x=.returned (.string ({data:=#[63]}))∧Below w.heap.size w w':=by
 go_enter Tryz.func65,Tryz.ntmps65
 go_wp2_with (go_at_call 94;refine (l3many_any _ _ _ (by omega) (by omega) (by decide)).mono ?_;rintro x w' ⟨rfl,hw⟩;replace hw:=hw.symm;subst hw)
 go_ret
 exact ⟨rfl,(Below.refl _ _).alloc (Nat.le_refl _) _⟩
theorem sh2_c (nn ct:Int) (ut un:Value) (w:World) (_h0:0≤ct) (_h1:ct≤6000) (ha:¬nn<1) (hb:¬50<nn) (h:ct≤nn) :
  Calls Tryz.prog 65 #[.agg #[.int .i64 2,.int .i64 nn,ut,un,.int .i64 ct]] w fun x w'=>x=.returned (.string ({data:=#[63]}))∧Below w.heap.size w w':=by
 have e1:decide (nn<1)=false:=by simp;omega
 have e2:decide (50<nn)=false:=by simp;omega
 go_enter Tryz.func65,Tryz.ntmps65
 go_wp2_with (go_at_call 94;refine (l3many_any _ _ _ (by omega) (by omega) (by decide)).mono ?_;rintro x w' ⟨rfl,hw⟩;replace hw:=hw.symm;subst hw)
 go_ret
 exact ⟨rfl,(Below.refl _ _).alloc (Nat.le_refl _) _⟩
theorem sh2_d (nn ct:Int) (ut un:Value) (w:World) (_h0:0≤ct) (_h1:ct≤6000) (ha:¬nn<1) (hb:¬50<nn) (hc:¬ct≤nn) (h:nn+50<ct) :
  Calls Tryz.prog 65 #[.agg #[.int .i64 2,.int .i64 nn,ut,un,.int .i64 ct]] w fun x w'=>x=.returned (.string ({data:=#[63]}))∧Below w.heap.size w w':=by
 have e1:decide (nn<1)=false:=by simp;omega
 have e2:decide (50<nn)=false:=by simp;omega
 have e3:decide (ct≤nn)=false:=by simp;omega
 go_enter Tryz.func65,Tryz.ntmps65
 go_wp2_with (go_at_call 94;refine (l3many_any _ _ _ (by omega) (by omega) (by decide)).mono ?_;rintro x w' ⟨rfl,hw⟩;replace hw:=hw.symm;subst hw)
 go_ret
 exact ⟨rfl,(Below.refl _ _).alloc (Nat.le_refl _) _⟩
theorem sh2_e (nn ct:Int) (ut un:Value) (w:World) (_h0:0≤ct) (_h1:ct≤6000) (ha:¬nn<1) (hb:¬50<nn) (hc:¬ct≤nn) (h:¬nn+50<ct) :
  Calls Tryz.prog 65 #[.agg #[.int .i64 2,.int .i64 nn,ut,un,.int .i64 ct]] w fun x w'=>x=.returned (.string (rep {data:=#[116]} nn.toNat++rep {data:=#[101]} (ct-nn).toNat))∧Below w.heap.size w w':=by
 have e1:decide (nn<1)=false:=by simp;omega
 have e2:decide (50<nn)=false:=by simp;omega
 have e3:decide (ct≤nn)=false:=by simp;omega
 have e4:decide (nn+50<ct)=false:=by simp;omega
 have hlim:¬9223372036854775807<(rep {data:=#[116]} nn.toNat).size+(rep {data:=#[101]} (ct-nn).toNat).size:=by
  rw [rep_size,rep_size]
  have a1:(ByteArray.mk #[116]).size=1:=rfl
  have a2:(ByteArray.mk #[101]).size=1:=rfl
  rw [a1,a2];omega
 go_enter Tryz.func65,Tryz.ntmps65
 have q1:IntKind.i64.wrap (ct-nn)=ct-nn:=IntWalk.i64_in _ ⟨by omega,by omega⟩
 go_wp2_with fail
 go_region_held3 (fun w'=>w'.cell? ⟨w.heap.size,1,none⟩=some (.int .i64 nn)) (go_keep)
  ((go_at_call 94;refine (l3many_any _ _ _ (by omega) (by omega) (by decide)).mono ?_;rintro x w' ⟨rfl,rfl⟩))
 go_wp2
 go_ret
 exact ⟨rfl,by repeat (first|exact Below.refl _ _|refine bel_drewN ?_ _|refine Below.drew ?_|refine Below.alloc ?_ (Nat.le_refl _) _)⟩
theorem sh6_a (nn ct:Int) (ut un:Value) (w:World) (_h0:0≤ct) (_h1:ct≤6000) (h:ct<2) :
  Calls Tryz.prog 65 #[.agg #[.int .i64 6,.int .i64 nn,ut,un,.int .i64 ct]] w fun x w'=>x=.returned (.string ({data:=#[63]}))∧Below w.heap.size w w':=by
 go_enter Tryz.func65,Tryz.ntmps65
 go_wp2_with (go_at_call 94;refine (l3many_any _ _ _ (by omega) (by omega) (by decide)).mono ?_;rintro x w' ⟨rfl,hw⟩;replace hw:=hw.symm;subst hw)
 go_ret
 exact ⟨rfl,(Below.refl _ _).alloc (Nat.le_refl _) _⟩
theorem sh6_b (nn ct:Int) (ut un:Value) (w:World) (_h0:0≤ct) (_h1:ct≤6000) (h:¬ct<2) :
  Calls Tryz.prog 65 #[.agg #[.int .i64 6,.int .i64 nn,ut,un,.int .i64 ct]] w fun x w'=>x=.returned (.string (rep {data:=#[101,98]} (ct / 2).toNat++rep {data:=#[98]} (ct % 2).toNat))∧Below w.heap.size w w':=by
 have hlim:¬9223372036854775807<(rep {data:=#[101,98]} (ct / 2).toNat).size+(rep {data:=#[98]} (ct % 2).toNat).size:=by
  rw [rep_size,rep_size]
  have a1:(ByteArray.mk #[101,98]).size=2:=rfl
  have a2:(ByteArray.mk #[98]).size=1:=rfl
  rw [a1,a2];omega
 go_enter Tryz.func65,Tryz.ntmps65
 go_wp2_with (go_at_call 94;refine (l3many_any _ _ _ (by omega) (by omega) (by decide)).mono ?_;rintro x w' ⟨rfl,hw⟩;replace hw:=hw.symm;subst hw)
 go_ret
 exact ⟨rfl,(Below.refl _ _).alloc (Nat.le_refl _) _⟩
theorem sh7_a (nn ct:Int) (ut un:Value) (w:World) (_h0:0≤ct) (_h1:ct≤6000) (h:ct=4) :
  Calls Tryz.prog 65 #[.agg #[.int .i64 7,.int .i64 nn,ut,un,.int .i64 ct]] w fun x w'=>x=.returned (.string ({data:=#[101,101,101,98]}))∧Below w.heap.size w w':=by
 subst h
 go_enter Tryz.func65,Tryz.ntmps65
 go_wp2_with (go_at_call 94;refine (l3many_any _ _ _ (by omega) (by omega) (by decide)).mono ?_;rintro x w' ⟨rfl,hw⟩;replace hw:=hw.symm;subst hw)
 go_ret
 exact ⟨rfl,(Below.refl _ _).alloc (Nat.le_refl _) _⟩
theorem sh7_b (nn ct:Int) (ut un:Value) (w:World) (_h0:0≤ct) (_h1:ct≤6000) (h:¬ct=4) :
  Calls Tryz.prog 65 #[.agg #[.int .i64 7,.int .i64 nn,ut,un,.int .i64 ct]] w fun x w'=>x=.returned (.string ({data:=#[101,101,98]}))∧Below w.heap.size w w':=by
 have e1:(ct==4)=false:=by simp;omega
 go_enter Tryz.func65,Tryz.ntmps65
 go_wp2_with (go_at_call 94;refine (l3many_any _ _ _ (by omega) (by omega) (by decide)).mono ?_;rintro x w' ⟨rfl,hw⟩;replace hw:=hw.symm;subst hw)
 go_ret
 exact ⟨rfl,(Below.refl _ _).alloc (Nat.le_refl _) _⟩
theorem sh20_a (nn ct:Int) (ut un:Value) (w:World) (_h0:0≤ct) (_h1:ct≤6000) (h:¬ct % 2=0) :
  Calls Tryz.prog 65 #[.agg #[.int .i64 20,.int .i64 nn,ut,un,.int .i64 ct]] w fun x w'=>x=.returned (.string ({data:=#[63]}))∧Below w.heap.size w w':=by
 have e1:(ct % 2 != 0)=true:=bne_iff_ne.mpr h
 go_enter Tryz.func65,Tryz.ntmps65
 go_wp2_with (go_at_call 94;refine (l3many_any _ _ _ (by omega) (by omega) (by decide)).mono ?_;rintro x w' ⟨rfl,hw⟩;replace hw:=hw.symm;subst hw)
 go_ret
 exact ⟨rfl,(Below.refl _ _).alloc (Nat.le_refl _) _⟩
theorem sh20_b (nn ct:Int) (ut un:Value) (w:World) (_h0:0≤ct) (_h1:ct≤6000) (h:ct % 2=0) :
  Calls Tryz.prog 65 #[.agg #[.int .i64 20,.int .i64 nn,ut,un,.int .i64 ct]] w fun x w'=>x=.returned (.string (rep {data:=#[101]} ct.toNat))∧Below w.heap.size w w':=by
 go_enter Tryz.func65,Tryz.ntmps65
 go_wp2_with (go_at_call 94;refine (l3many_any _ _ _ (by omega) (by omega) (by decide)).mono ?_;rintro x w' ⟨rfl,hw⟩;replace hw:=hw.symm;subst hw)
 go_ret
 exact ⟨rfl,(Below.refl _ _).alloc (Nat.le_refl _) _⟩
theorem sh26 (nn ct:Int) (ut un:Value) (w:World) (_h0:0≤ct) (_h1:ct≤6000) :
  Calls Tryz.prog 65 #[.agg #[.int .i64 26,.int .i64 nn,ut,un,.int .i64 ct]] w fun x w'=>x=.returned (.string ({data:=#[102]}))∧Below w.heap.size w w':=by
 go_enter Tryz.func65,Tryz.ntmps65
 go_wp2_with (go_at_call 94;refine (l3many_any _ _ _ (by omega) (by omega) (by decide)).mono ?_;rintro x w' ⟨rfl,hw⟩;replace hw:=hw.symm;subst hw)
 go_ret
 exact ⟨rfl,(Below.refl _ _).alloc (Nat.le_refl _) _⟩
theorem sh3 (nn ct:Int) (ut un:Value) (w:World) (_h0:0≤ct) (_h1:ct≤6000) :
  Calls Tryz.prog 65 #[.agg #[.int .i64 3,.int .i64 nn,ut,un,.int .i64 ct]] w fun x w'=>x=.returned (.string ({data:=#[98]}))∧Below w.heap.size w w':=by
 go_enter Tryz.func65,Tryz.ntmps65
 go_wp2_with (go_at_call 94;refine (l3many_any _ _ _ (by omega) (by omega) (by decide)).mono ?_;rintro x w' ⟨rfl,hw⟩;replace hw:=hw.symm;subst hw)
 go_ret
 exact ⟨rfl,(Below.refl _ _).alloc (Nat.le_refl _) _⟩
theorem sh4 (nn ct:Int) (ut un:Value) (w:World) (_h0:0≤ct) (_h1:ct≤6000) :
  Calls Tryz.prog 65 #[.agg #[.int .i64 4,.int .i64 nn,ut,un,.int .i64 ct]] w fun x w'=>x=.returned (.string ({data:=#[101,98]}))∧Below w.heap.size w w':=by
 go_enter Tryz.func65,Tryz.ntmps65
 go_wp2_with (go_at_call 94;refine (l3many_any _ _ _ (by omega) (by omega) (by decide)).mono ?_;rintro x w' ⟨rfl,hw⟩;replace hw:=hw.symm;subst hw)
 go_ret
 exact ⟨rfl,(Below.refl _ _).alloc (Nat.le_refl _) _⟩
theorem sh5 (nn ct:Int) (ut un:Value) (w:World) (_h0:0≤ct) (_h1:ct≤6000) :
  Calls Tryz.prog 65 #[.agg #[.int .i64 5,.int .i64 nn,ut,un,.int .i64 ct]] w fun x w'=>x=.returned (.string ({data:=#[98,101]}))∧Below w.heap.size w w':=by
 go_enter Tryz.func65,Tryz.ntmps65
 go_wp2_with (go_at_call 94;refine (l3many_any _ _ _ (by omega) (by omega) (by decide)).mono ?_;rintro x w' ⟨rfl,hw⟩;replace hw:=hw.symm;subst hw)
 go_ret
 exact ⟨rfl,(Below.refl _ _).alloc (Nat.le_refl _) _⟩
theorem sh10 (nn ct:Int) (ut un:Value) (w:World) (_h0:0≤ct) (_h1:ct≤6000) :
  Calls Tryz.prog 65 #[.agg #[.int .i64 10,.int .i64 nn,ut,un,.int .i64 ct]] w fun x w'=>x=.returned (.string ({data:=#[99]}))∧Below w.heap.size w w':=by
 go_enter Tryz.func65,Tryz.ntmps65
 go_wp2_with (go_at_call 94;refine (l3many_any _ _ _ (by omega) (by omega) (by decide)).mono ?_;rintro x w' ⟨rfl,hw⟩;replace hw:=hw.symm;subst hw)
 go_ret
 exact ⟨rfl,(Below.refl _ _).alloc (Nat.le_refl _) _⟩
theorem sh17 (nn ct:Int) (ut un:Value) (w:World) (_h0:0≤ct) (_h1:ct≤6000) :
  Calls Tryz.prog 65 #[.agg #[.int .i64 17,.int .i64 nn,ut,un,.int .i64 ct]] w fun x w'=>x=.returned (.string ({data:=#[101,101]}))∧Below w.heap.size w w':=by
 go_enter Tryz.func65,Tryz.ntmps65
 go_wp2_with (go_at_call 94;refine (l3many_any _ _ _ (by omega) (by omega) (by decide)).mono ?_;rintro x w' ⟨rfl,hw⟩;replace hw:=hw.symm;subst hw)
 go_ret
 exact ⟨rfl,(Below.refl _ _).alloc (Nat.le_refl _) _⟩
theorem sh21 (nn ct:Int) (ut un:Value) (w:World) (_h0:0≤ct) (_h1:ct≤6000) :
  Calls Tryz.prog 65 #[.agg #[.int .i64 21,.int .i64 nn,ut,un,.int .i64 ct]] w fun x w'=>x=.returned (.string ({data:=#[101,101]}))∧Below w.heap.size w w':=by
 go_enter Tryz.func65,Tryz.ntmps65
 go_wp2_with (go_at_call 94;refine (l3many_any _ _ _ (by omega) (by omega) (by decide)).mono ?_;rintro x w' ⟨rfl,hw⟩;replace hw:=hw.symm;subst hw)
 go_ret
 exact ⟨rfl,(Below.refl _ _).alloc (Nat.le_refl _) _⟩
theorem sh22 (nn ct:Int) (ut un:Value) (w:World) (_h0:0≤ct) (_h1:ct≤6000) :
  Calls Tryz.prog 65 #[.agg #[.int .i64 22,.int .i64 nn,ut,un,.int .i64 ct]] w fun x w'=>x=.returned (.string ({data:=#[101,101]}))∧Below w.heap.size w w':=by
 go_enter Tryz.func65,Tryz.ntmps65
 go_wp2_with (go_at_call 94;refine (l3many_any _ _ _ (by omega) (by omega) (by decide)).mono ?_;rintro x w' ⟨rfl,hw⟩;replace hw:=hw.symm;subst hw)
 go_ret
 exact ⟨rfl,(Below.refl _ _).alloc (Nat.le_refl _) _⟩
theorem sh23 (nn ct:Int) (ut un:Value) (w:World) (_h0:0≤ct) (_h1:ct≤6000) :
  Calls Tryz.prog 65 #[.agg #[.int .i64 23,.int .i64 nn,ut,un,.int .i64 ct]] w fun x w'=>x=.returned (.string ({data:=#[101,101]}))∧Below w.heap.size w w':=by
 go_enter Tryz.func65,Tryz.ntmps65
 go_wp2_with (go_at_call 94;refine (l3many_any _ _ _ (by omega) (by omega) (by decide)).mono ?_;rintro x w' ⟨rfl,hw⟩;replace hw:=hw.symm;subst hw)
 go_ret
 exact ⟨rfl,(Below.refl _ _).alloc (Nat.le_refl _) _⟩
theorem sh19 (nn ct:Int) (ut un:Value) (w:World) (_h0:0≤ct) (_h1:ct≤6000) :
  Calls Tryz.prog 65 #[.agg #[.int .i64 19,.int .i64 nn,ut,un,.int .i64 ct]] w fun x w'=>x=.returned (.string ({data:=#[98]}))∧Below w.heap.size w w':=by
 go_enter Tryz.func65,Tryz.ntmps65
 go_wp2_with (go_at_call 94;refine (l3many_any _ _ _ (by omega) (by omega) (by decide)).mono ?_;rintro x w' ⟨rfl,hw⟩;replace hw:=hw.symm;subst hw)
 go_ret
 exact ⟨rfl,(Below.refl _ _).alloc (Nat.le_refl _) _⟩
theorem sh24 (nn ct:Int) (ut un:Value) (w:World) (_h0:0≤ct) (_h1:ct≤6000) :
  Calls Tryz.prog 65 #[.agg #[.int .i64 24,.int .i64 nn,ut,un,.int .i64 ct]] w fun x w'=>x=.returned (.string ({data:=#[101]}))∧Below w.heap.size w w':=by
 go_enter Tryz.func65,Tryz.ntmps65
 go_wp2_with (go_at_call 94;refine (l3many_any _ _ _ (by omega) (by omega) (by decide)).mono ?_;rintro x w' ⟨rfl,hw⟩;replace hw:=hw.symm;subst hw)
 go_ret
 exact ⟨rfl,(Below.refl _ _).alloc (Nat.le_refl _) _⟩
theorem sh25 (nn ct:Int) (ut un:Value) (w:World) (_h0:0≤ct) (_h1:ct≤6000) :
  Calls Tryz.prog 65 #[.agg #[.int .i64 25,.int .i64 nn,ut,un,.int .i64 ct]] w fun x w'=>x=.returned (.string ({data:=#[101]}))∧Below w.heap.size w w':=by
 go_enter Tryz.func65,Tryz.ntmps65
 go_wp2_with (go_at_call 94;refine (l3many_any _ _ _ (by omega) (by omega) (by decide)).mono ?_;rintro x w' ⟨rfl,hw⟩;replace hw:=hw.symm;subst hw)
 go_ret
 exact ⟨rfl,(Below.refl _ _).alloc (Nat.le_refl _) _⟩
theorem shX (kd nn ct:Int) (ut un:Value) (w:World) (_h0:0≤ct) (_h1:ct≤6000) (n0:¬kd=0) (n1:¬kd=1) (n9:¬kd=9) (n26:¬kd=26) (n2:¬kd=2) (n3:¬kd=3) (n4:¬kd=4) (n5:¬kd=5) (n6:¬kd=6) (n7:¬kd=7) (n10:¬kd=10) (n17:¬kd=17) (n21:¬kd=21) (n22:¬kd=22) (n23:¬kd=23) (n18:¬kd=18) (n19:¬kd=19) (n20:¬kd=20) (n24:¬kd=24) (n25:¬kd=25) :
  Calls Tryz.prog 65 #[.agg #[.int .i64 kd,.int .i64 nn,ut,un,.int .i64 ct]] w fun x w'=>x=.returned (.string ({data:=#[]}))∧Below w.heap.size w w':=by
 have e0:(kd==0)=false:=by simp;exact n0
 have e1:(kd==1)=false:=by simp;exact n1
 have e9:(kd==9)=false:=by simp;exact n9
 have e26:(kd==26)=false:=by simp;exact n26
 have e2:(kd==2)=false:=by simp;exact n2
 have e3:(kd==3)=false:=by simp;exact n3
 have e4:(kd==4)=false:=by simp;exact n4
 have e5:(kd==5)=false:=by simp;exact n5
 have e6:(kd==6)=false:=by simp;exact n6
 have e7:(kd==7)=false:=by simp;exact n7
 have e10:(kd==10)=false:=by simp;exact n10
 have e17:(kd==17)=false:=by simp;exact n17
 have e21:(kd==21)=false:=by simp;exact n21
 have e22:(kd==22)=false:=by simp;exact n22
 have e23:(kd==23)=false:=by simp;exact n23
 have e18:(kd==18)=false:=by simp;exact n18
 have e19:(kd==19)=false:=by simp;exact n19
 have e20:(kd==20)=false:=by simp;exact n20
 have e24:(kd==24)=false:=by simp;exact n24
 have e25:(kd==25)=false:=by simp;exact n25
 clear n0 n1 n9 n26 n2 n3 n4 n5 n6 n7 n10 n17 n21 n22 n23 n18 n19 n20 n24 n25
 go_enter Tryz.func65,Tryz.ntmps65
 go_wp2_with (go_at_call 94;refine (l3many_any _ _ _ (by omega) (by omega) (by decide)).mono ?_;rintro x w' ⟨rfl,hw⟩;replace hw:=hw.symm;subst hw)
 go_ret
 exact ⟨rfl,(Below.refl _ _).alloc (Nat.le_refl _) _⟩
theorem l3shape_any (kd nn ct:Int) (ut un:Value) (w:World) (h0:0≤ct) (h1:ct≤6000) :
  Calls Tryz.prog 65 #[.agg #[.int .i64 kd,.int .i64 nn,ut,un,.int .i64 ct]] w fun x w'=>x=.returned (.string (shape kd nn ct))∧Below w.heap.size w w':=by
 by_cases n0:kd=0
 ·subst n0
  exact sh0 nn ct ut un w h0 h1
 by_cases n1:kd=1
 ·subst n1
  by_cases h:50<ct
  ·rw [show shape 1 nn ct={data:=#[63]} from if_pos h];exact sh1_many nn ct ut un w h0 h1 h
  ·rw [show shape 1 nn ct=rep {data:=#[101]} ct.toNat from if_neg h];exact sh1_few nn ct ut un w h0 h1 h
 by_cases n9:kd=9
 ·subst n9
  by_cases h:50<ct
  ·rw [show shape 9 nn ct={data:=#[63]} from if_pos h];exact sh9_many nn ct ut un w h0 h1 h
  ·rw [show shape 9 nn ct=rep {data:=#[101]} ct.toNat from if_neg h];exact sh9_few nn ct ut un w h0 h1 h
 by_cases n26:kd=26
 ·subst n26
  exact sh26 nn ct ut un w h0 h1
 by_cases n2:kd=2
 ·subst n2
  by_cases h:nn<1∨50<nn∨ct≤nn∨nn+50<ct
  ·rw [show shape 2 nn ct={data:=#[63]} from if_pos h]
   by_cases ha:nn<1
   ·exact sh2_a nn ct ut un w h0 h1 ha
   by_cases hb:50<nn
   ·exact sh2_b nn ct ut un w h0 h1 hb
   by_cases hc:ct≤nn
   ·exact sh2_c nn ct ut un w h0 h1 ha hb hc
   ·exact sh2_d nn ct ut un w h0 h1 ha hb hc (by omega)
  ·rw [show shape 2 nn ct=rep {data:=#[116]} nn.toNat++rep {data:=#[101]} (ct-nn).toNat from if_neg h]
   exact sh2_e nn ct ut un w h0 h1 (by omega) (by omega) (by omega) (by omega)
 by_cases n3:kd=3
 ·subst n3
  exact sh3 nn ct ut un w h0 h1
 by_cases n4:kd=4
 ·subst n4
  exact sh4 nn ct ut un w h0 h1
 by_cases n5:kd=5
 ·subst n5
  exact sh5 nn ct ut un w h0 h1
 by_cases n6:kd=6
 ·subst n6
  by_cases h:ct<2
  ·rw [show shape 6 nn ct={data:=#[63]} from if_pos h];exact sh6_a nn ct ut un w h0 h1 h
  ·rw [show shape 6 nn ct=rep {data:=#[101,98]} (ct / 2).toNat++rep {data:=#[98]} (ct % 2).toNat from if_neg h];exact sh6_b nn ct ut un w h0 h1 h
 by_cases n7:kd=7
 ·subst n7
  by_cases h:ct=4
  ·rw [show shape 7 nn ct={data:=#[101,101,101,98]} from if_pos h];exact sh7_a nn ct ut un w h0 h1 h
  ·rw [show shape 7 nn ct={data:=#[101,101,98]} from if_neg h];exact sh7_b nn ct ut un w h0 h1 h
 by_cases n10:kd=10
 ·subst n10
  exact sh10 nn ct ut un w h0 h1
 by_cases n17:kd=17
 ·subst n17
  exact sh17 nn ct ut un w h0 h1
 by_cases n21:kd=21
 ·subst n21
  exact sh21 nn ct ut un w h0 h1
 by_cases n22:kd=22
 ·subst n22
  exact sh22 nn ct ut un w h0 h1
 by_cases n23:kd=23
 ·subst n23
  exact sh23 nn ct ut un w h0 h1
 by_cases n18:kd=18
 ·subst n18
  by_cases h:ct<1∨51<ct
  ·rw [show shape 18 nn ct={data:=#[63]} from if_pos h]
   by_cases ha:ct<1
   ·exact sh18_a nn ct ut un w h0 h1 ha
   ·exact sh18_b nn ct ut un w h0 h1 (by omega)
  ·rw [show shape 18 nn ct=rep {data:=#[101]} ct.toNat from if_neg h];exact sh18_c nn ct ut un w h0 h1 (by omega) (by omega)
 by_cases n19:kd=19
 ·subst n19
  exact sh19 nn ct ut un w h0 h1
 by_cases n20:kd=20
 ·subst n20
  by_cases h:ct % 2=0
  ·rw [show shape 20 nn ct=rep {data:=#[101]} ct.toNat by unfold shape;simp [h]];exact sh20_b nn ct ut un w h0 h1 h
  ·rw [show shape 20 nn ct={data:=#[63]} from if_pos h];exact sh20_a nn ct ut un w h0 h1 h
 by_cases n24:kd=24
 ·subst n24
  exact sh24 nn ct ut un w h0 h1
 by_cases n25:kd=25
 ·subst n25
  exact sh25 nn ct ut un w h0 h1
 rw [show shape kd nn ct={data:=#[]} by unfold shape;simp only [n0,n1,n9,n26,n2,n3,n4,n5,n6,n7,n10,n17,n21,n22,n23,n18,n19,n20,n24,n25,or_self,if_false]]
 exact shX kd nn ct ut un w h0 h1 n0 n1 n9 n26 n2 n3 n4 n5 n6 n7 n10 n17 n21 n22 n23 n18 n19 n20 n24 n25
def b1 (c:UInt8):ByteArray:={data:=#[c]}
def ind (level:Nat):ByteArray:=rep {data:=#[32,32]} level
end vt
end Go.Proofs.YtkmiagkehcflnaaGreatDoor
