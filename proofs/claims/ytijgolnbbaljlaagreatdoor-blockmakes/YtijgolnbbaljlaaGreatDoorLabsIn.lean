/- Labels and matches that come in, as the walks are told of them. -/
import Derived.Test.YtijgolnbbaljlaaGreatDoorArgsInGroup
import Derived.Test.YtijgolnbbaljlaaGreatDoorRefTicksGroup
namespace Go.Proofs.YtijgolnbbaljlaaGreatDoor
open Go.ChangeShapes Go.WideShapes Go.ChangeAt Go.RowKit Go.Deep
end Go.Proofs.YtijgolnbbaljlaaGreatDoor
