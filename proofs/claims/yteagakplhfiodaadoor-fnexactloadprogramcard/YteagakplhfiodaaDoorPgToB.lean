import Derived.Test.YteagakplhfiodaaDoorPgTo
namespace Go.Proofs.YteagakplhfiodaaDoor.pg
open Go.RowKit Go.Proofs.YteagakplhfiodaaDoor.bts

end Go.Proofs.YteagakplhfiodaaDoor.pg
