/- The statements' helper faulted: an error, and the document's own fault. -/
import Derived.Test.YtnjmplmogibgfacGreatDoorErrAsGroup
import Derived.Test.YtnjmplmogibgfacGreatDoorPutGroup
namespace Go.Proofs.YtnjmplmogibgfacGreatDoor
open Go.RowKit
end Go.Proofs.YtnjmplmogibgfacGreatDoor
