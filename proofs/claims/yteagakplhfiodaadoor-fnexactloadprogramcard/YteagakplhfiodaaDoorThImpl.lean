import Derived.Test.YteagakplhfiodaaDoorThCode
import Derived.Test.YteagakplhfiodaaDoorThOwn
import Derived.Test.YteagakplhfiodaaDoorChkImpl
import Derived.Test.YteagakplhfiodaaDoorSvPut
namespace Go.Proofs.YteagakplhfiodaaDoor.th
open Go.RowKit Go.Proofs.YteagakplhfiodaaDoor.bts Go.Proofs.YteagakplhfiodaaDoor.pg Go.Proofs.YteagakplhfiodaaDoor.chk Go.Proofs.YteagakplhfiodaaDoor.sv

/-- All of it lies below M. -/
def UnderK (M : Nat) (v : Value) (n : Nat) (ut : Nat → Value) : Prop := (∀ b, v.ownBlock = some b → b < M) ∧ ∀ j, j < n → ∀ b, (ut j).ownBlock = some b → b < M
/-- A call answers this program, in memory of its own: the constants below M, the functions from M on. -/
def Prog (w : World) (q : Pg) (e : Ending) (w' : World) : Prop :=
  ∃ (ak ap : Option Addr) (ck cp M : Nat) (ut uc ud : Nat → Value), e = .returned (.agg #[.slice ak q.consts.length ck, .slice ap q.protos.length cp]) ∧ BK w' w.heap.size (.slice ak q.consts.length ck) q.consts.length (fun j => q.consts.getD j cn0) ut ∧ UnderK M (.slice ak q.consts.length ck) q.consts.length ut ∧ w.heap.size ≤ M ∧
    BP w' M (.slice ap q.protos.length cp) q.protos.length (fun j => q.protos.getD j pr0) uc ud ∧ M ≤ w'.heap.size ∧ Below w.heap.size w w'

end Go.Proofs.YteagakplhfiodaaDoor.th
