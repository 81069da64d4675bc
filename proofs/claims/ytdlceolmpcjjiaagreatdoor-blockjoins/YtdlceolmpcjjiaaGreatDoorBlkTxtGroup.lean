/- block's Text by its contract. -/
import Derived.Test.YtdlceolmpcjjiaaGreatDoorBlkTwoGroup
import Derived.Test.YtdlceolmpcjjiaaGreatDoorLabCutGroup
import Derived.Lib.ItoaNum
import Derived.Lib.AtoiAll
import Derived.Test.YtdlceolmpcjjiaaGreatDoorRefTicksGroup
import Derived.Deep.AppendLies
import Derived.Test.YtdlceolmpcjjiaaGreatDoorChecked
import Derived.Shelf.Strconv.Itoa3
import Derived.Shelf.Strconv.AtoiAll
import Derived.Shelf.Strconv.ToError
import Derived.Shelf.Strconv.ToErrorRange
import Derived.Test.YtdlceolmpcjjiaaGreatDoorRows1Group
import Derived.Test.YtdlceolmpcjjiaaGreatDoorRefsGroup
import Derived.Lib.SmallJoins
import Derived.Lib.AppendIntMem
import Derived.Deep.RegionHeld3
import Derived.Test.YtdlceolmpcjjiaaGreatDoorErrAsGroup
namespace Go.Proofs.YtdlceolmpcjjiaaGreatDoor
open Go.RowKit Go.Maps PtMath LabMath
end Go.Proofs.YtdlceolmpcjjiaaGreatDoor
/- What statements on blocks ask of the package variables. -/
namespace Go.Proofs.YtdlceolmpcjjiaaGreatDoor
open Go.RowKit

/-- What blocks and their errors' numbers ask. -/
structure EnvB (B : Nat) (ea : Nat → Addr) (w : World) : Prop where
  env : Env B ea w
  k : EnvK B ea w
end Go.Proofs.YtdlceolmpcjjiaaGreatDoor
