/- slices.Sort of texts and bits.Len, as the library has proved them: laid at this program. -/
import Derived.Test.YtijgolnbbaljlaaGreatDoorChecked
import Derived.Shelf.Sort.Plain
import Derived.Shelf.Small.Bits
namespace Go.Proofs.YtijgolnbbaljlaaGreatDoor
open Go.Shelf
end Go.Proofs.YtijgolnbbaljlaaGreatDoor
