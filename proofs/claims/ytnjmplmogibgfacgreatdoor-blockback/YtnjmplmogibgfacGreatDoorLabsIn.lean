/- Labels and matches that come in, as the walks are told of them. -/
import Derived.Test.YtnjmplmogibgfacGreatDoorArgsInGroup
import Derived.Test.YtnjmplmogibgfacGreatDoorRefTicksGroup
namespace Go.Proofs.YtnjmplmogibgfacGreatDoor
open Go.ChangeShapes Go.WideShapes Go.ChangeAt Go.RowKit Go.Deep
end Go.Proofs.YtnjmplmogibgfacGreatDoor
