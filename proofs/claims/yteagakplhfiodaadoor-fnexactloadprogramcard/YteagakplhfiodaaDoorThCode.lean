import Derived.Test.YteagakplhfiodaaDoorThClone
namespace Go.Proofs.YteagakplhfiodaaDoor.th
open Go.RowKit Go.Proofs.YteagakplhfiodaaDoor.bts Go.Proofs.YteagakplhfiodaaDoor.pg Go.Proofs.YteagakplhfiodaaDoor.chk Go.Proofs.YteagakplhfiodaaDoor.sv

theorem map_getD {code : List In} {f : In → In} {j : Nat} (h : j < code.length) : (code.map f).getD j in0 = f (code.getD j in0) := by
  simp [List.getD_eq_getElem?_getD, List.getElem?_eq_getElem h]

end Go.Proofs.YteagakplhfiodaaDoor.th
