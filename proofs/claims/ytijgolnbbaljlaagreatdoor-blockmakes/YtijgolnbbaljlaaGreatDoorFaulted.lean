/- The statements' helper faulted: an error, and the document's own fault. -/
import Derived.Test.YtijgolnbbaljlaaGreatDoorErrAsGroup
import Derived.Test.YtijgolnbbaljlaaGreatDoorPutGroup
namespace Go.Proofs.YtijgolnbbaljlaaGreatDoor
open Go.RowKit
end Go.Proofs.YtijgolnbbaljlaaGreatDoor
