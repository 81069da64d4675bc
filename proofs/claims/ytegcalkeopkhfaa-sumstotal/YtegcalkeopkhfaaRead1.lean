/- bits.Open, (*Reader).Left, by contracts. -/
import Derived.Test.YtegcalkeopkhfaaRows1
import Derived.Deep.DrawnRows
namespace Go.Proofs.Ytegcalkeopkhfaa
open Go.RowKit
end Go.Proofs.Ytegcalkeopkhfaa
