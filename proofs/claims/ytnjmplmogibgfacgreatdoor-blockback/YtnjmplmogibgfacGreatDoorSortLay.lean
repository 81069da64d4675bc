/- slices.Sort of texts and bits.Len, as the library has proved them: laid at this program. -/
import Derived.Test.YtnjmplmogibgfacGreatDoorChecked
import Derived.Shelf.Sort.Plain
import Derived.Shelf.Small.Bits
namespace Go.Proofs.YtnjmplmogibgfacGreatDoor
open Go.Shelf
end Go.Proofs.YtnjmplmogibgfacGreatDoor
