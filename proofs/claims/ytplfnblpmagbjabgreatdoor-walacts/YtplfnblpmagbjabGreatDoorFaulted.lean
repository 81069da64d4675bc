/- The statements' helper faulted: an error, and the document's own fault. -/
import Derived.Test.YtplfnblpmagbjabGreatDoorErrAsGroup
import Derived.Test.YtplfnblpmagbjabGreatDoorPutGroup
namespace Go.Proofs.YtplfnblpmagbjabGreatDoor
open Go.RowKit
end Go.Proofs.YtplfnblpmagbjabGreatDoor
