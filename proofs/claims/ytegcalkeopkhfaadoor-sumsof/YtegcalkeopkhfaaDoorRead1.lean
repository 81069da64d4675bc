/- bits.Open, (*Reader).Left, by contracts. -/
import Derived.Test.YtegcalkeopkhfaaDoorRows1
import Derived.Deep.DrawnRows
namespace Go.Proofs.YtegcalkeopkhfaaDoor
open Go.RowKit
end Go.Proofs.YtegcalkeopkhfaaDoor
