import Derived.Test.YtkmiagkehcflnaaGreatDoorMTrMeth
set_option maxRecDepth 100000
set_option maxHeartbeats 8000000
namespace Go.Proofs.YtkmiagkehcflnaaGreatDoor
namespace vt
open Go.RowKit bts nod lex
theorem newNode_any {kd:Int} (h0:0≤kd) (h26:kd≤26) (w:World) (nn ct:Int) (at_ an:Option Addr) (p ca q cn:Nat) (ao:Option Addr) (m cap:Nat) (_hm:m≤1048576) :
  Calls Tryz.prog 84 #[.agg #[.int .i64 kd,.int .i64 nn,.slice at_ p ca,.slice an q cn,.int .i64 ct],.slice ao m cap] w fun e w'=>e=.returned (.iface (ty kd) (.pointer (some ⟨w.heap.size+1+1,0,none⟩))) ∧
   ∃o1 o2 T,w'=((w.alloc o1).alloc o2).alloc (.cells #[.int .i64 kd,.int .i64 nn,.slice at_ p ca,.slice an q cn,.int .i64 m,.slice ao m cap] T):=by
 refine kinds (P:=fun kd=>Calls Tryz.prog 84 #[.agg #[.int .i64 kd,.int .i64 nn,.slice at_ p ca,.slice an q cn,.int .i64 ct],.slice ao m cap] w fun e w'=>e=.returned (.iface (ty kd) (.pointer (some ⟨w.heap.size+1+1,0,none⟩))) ∧
   ∃o1 o2 T,w'=((w.alloc o1).alloc o2).alloc (.cells #[.int .i64 kd,.int .i64 nn,.slice at_ p ca,.slice an q cn,.int .i64 m,.slice ao m cap] T)) ?_ h0 h26
 refine ⟨?_,?_,?_,?_,?_,?_,?_,?_,?_,?_,?_,?_,?_,?_,?_,?_,?_,?_,?_,?_,?_,?_,?_,?_,?_,?_,?_⟩
 all_goals
  go_enter Tryz.func84,Tryz.ntmps84
  go_wp2
  go_ret
  exact ⟨rfl,_,_,_,rfl⟩
end vt
end Go.Proofs.YtkmiagkehcflnaaGreatDoor
