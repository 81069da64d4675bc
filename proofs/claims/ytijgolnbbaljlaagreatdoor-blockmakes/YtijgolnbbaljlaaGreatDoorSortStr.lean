/- slices.Sort of texts of one's own by its contract. -/
import Derived.Test.YtijgolnbbaljlaaGreatDoorSortLay
import Derived.Sort.OwnSorted
import Derived.Sort.KeysCollected
namespace Go.Proofs.YtijgolnbbaljlaaGreatDoor
open Go.RowKit Go.Shelf
end Go.Proofs.YtijgolnbbaljlaaGreatDoor
