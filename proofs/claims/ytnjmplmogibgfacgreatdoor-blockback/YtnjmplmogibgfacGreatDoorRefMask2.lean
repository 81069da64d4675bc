/- The document's MaskOf by its contract. -/
import Derived.Test.YtnjmplmogibgfacGreatDoorRefTicksGroup
import Derived.Deep.DeepCutAuto
namespace Go.Proofs.YtnjmplmogibgfacGreatDoor
open Go.RowKit
end Go.Proofs.YtnjmplmogibgfacGreatDoor
