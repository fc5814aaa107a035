import Derived.Test.YtkmiagkehcflnaaGreatDoorMPtSmall
set_option maxRecDepth 100000
set_option maxHeartbeats 8000000
namespace Go.Proofs.YtkmiagkehcflnaaGreatDoor
namespace vt
open Go.RowKit bts nod
def bindK (kd nn:Int):Int :=
 if kd=23 then 1 else if kd=22 then 2 else if ¬kd=21 then 9
 else if nn=0∨nn=1 then 5 else if nn=2∨nn=3∨nn=4 then 6 else if nn=5 then 4 else 3
def opT (kd nn:Int):ByteArray :=
 if kd=22 then {data:=#[97,110,100]} else if kd=23 then {data:=#[111,114]}
 else if nn=0 then b1 43 else if nn=1 then b1 45 else if nn=2 then b1 42 else if nn=3 then {data:=#[47,47]} else if nn=4 then b1 37 else if nn=5 then {data:=#[46,46]}
 else if nn=6 then {data:=#[61,61]} else if nn=7 then {data:=#[126,61]} else if nn=8 then b1 60 else if nn=9 then {data:=#[60,61]} else if nn=10 then b1 62 else {data:=#[62,61]}
theorem ops12 {P:Int→Prop} (h:P 0∧P 1∧P 2∧P 3∧P 4∧P 5∧P 6∧P 7∧P 8∧P 9∧P 10∧P 11) {k:Int} (h0:0≤k) (h11:k≤11):P k:=by
 obtain ⟨a0,a1,a2,a3,a4,a5,a6,a7,a8,a9,a10,a11⟩:=h
 have:k=0∨k=1∨k=2∨k=3∨k=4∨k=5∨k=6∨k=7∨k=8∨k=9∨k=10∨k=11:=by omega
 rcases this with rfl|rfl|rfl|rfl|rfl|rfl|rfl|rfl|rfl|rfl|rfl|rfl <;> assumption
theorem l3bind_any (kd nn ct:Int) (ut un:Value) (w:World) (hn:kd=21→0≤nn∧nn≤11) :
  Calls Tryz.prog 113 #[.agg #[.int .i64 kd,.int .i64 nn,ut,un,.int .i64 ct]] w fun x w'=>x=.returned (.int .i64 (bindK kd nn))∧Below w.heap.size w w':=by
 by_cases h23:kd=23
 ·subst h23
  go_enter Tryz.func113,Tryz.ntmps113
  go_wp2
  go_ret
  exact ⟨rfl,by go_grown⟩
 by_cases h22:kd=22
 ·subst h22
  go_enter Tryz.func113,Tryz.ntmps113
  go_wp2
  go_ret
  exact ⟨rfl,by go_grown⟩
 by_cases h21:kd=21
 ·subst h21
  obtain ⟨h0,h1⟩:=hn rfl
  refine ops12 (P:=fun nn=>Calls Tryz.prog 113 #[.agg #[.int .i64 21,.int .i64 nn,ut,un,.int .i64 ct]] w fun x w'=>x=.returned (.int .i64 (bindK 21 nn))∧Below w.heap.size w w') ?_ h0 h1
  clear hn h0 h1
  refine ⟨?_,?_,?_,?_,?_,?_,?_,?_,?_,?_,?_,?_⟩
  all_goals
   go_enter Tryz.func113,Tryz.ntmps113
   go_wp2
   go_ret
   exact ⟨rfl,by go_grown⟩
 ·have e1:(kd==23)=false:=by simp;exact h23
  have e2:(kd==22)=false:=by simp;exact h22
  have e3:(kd != 21)=true:=bne_iff_ne.mpr h21
  rw [show bindK kd nn=9 by unfold bindK;rw [if_neg h23,if_neg h22,if_pos h21]]
  clear hn
  go_enter Tryz.func113,Tryz.ntmps113
  go_wp2
  go_ret
  exact ⟨rfl,by go_grown⟩
theorem l3opText_any (kd nn ct:Int) (ut un:Value) (w:World) (hk:kd=21∨kd=22∨kd=23) (hn:kd=21→0≤nn∧nn≤11) :
  Calls Tryz.prog 112 #[.agg #[.int .i64 kd,.int .i64 nn,ut,un,.int .i64 ct]] w fun x w'=>x=.returned (.string (opT kd nn))∧Below w.heap.size w w':=by
 rcases hk with rfl|rfl|rfl
 ·obtain ⟨h0,h1⟩:=hn rfl
  refine ops12 (P:=fun nn=>Calls Tryz.prog 112 #[.agg #[.int .i64 21,.int .i64 nn,ut,un,.int .i64 ct]] w fun x w'=>x=.returned (.string (opT 21 nn))∧Below w.heap.size w w') ?_ h0 h1
  clear hn h0 h1
  refine ⟨?_,?_,?_,?_,?_,?_,?_,?_,?_,?_,?_,?_⟩
  all_goals
   go_enter Tryz.func112,Tryz.ntmps112
   go_wp2
   go_ret
   exact ⟨rfl,by go_grown⟩
 ·go_enter Tryz.func112,Tryz.ntmps112
  go_wp2
  go_ret
  exact ⟨rfl,by go_grown⟩
 ·go_enter Tryz.func112,Tryz.ntmps112
  go_wp2
  go_ret
  exact ⟨rfl,by go_grown⟩
end vt
end Go.Proofs.YtkmiagkehcflnaaGreatDoor
