/- slices.Sort of texts of one's own by its contract. -/
import Derived.Test.YtnjmplmogibgfacGreatDoorSortLay
import Derived.Sort.OwnSorted
import Derived.Sort.KeysCollected
namespace Go.Proofs.YtnjmplmogibgfacGreatDoor
open Go.RowKit Go.Shelf
end Go.Proofs.YtnjmplmogibgfacGreatDoor
