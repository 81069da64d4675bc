/- From the condition on the listed package variables to what the walks of chunks ask. -/
import Derived.Test.YtijgolnbbaljlaaGreatDoorMaskLaid
import Derived.Test.YtijgolnbbaljlaaGreatDoorWaveLaid
import Derived.Test.YtijgolnbbaljlaaGreatDoorErrAsGroup
namespace Go.Proofs.YtijgolnbbaljlaaGreatDoor
open Go.ChangeShapes Go.WideShapes Go.ChangeAt Go.RowKit Go.Deep
end Go.Proofs.YtijgolnbbaljlaaGreatDoor
