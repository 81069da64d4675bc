/- The document's Unwave, by its contract. -/
import Derived.Test.YtdlceolmpcjjiaaGreatDoorRefsGroup
import Derived.Deep.RegionHeld3
namespace Go.Proofs.YtdlceolmpcjjiaaGreatDoor
open Go.RowKit
theorem num_four (v : Nat) (h : v < 18446744073709551616) : BitMath.numOf 4 v = wrap64 (v : Int) := by
  unfold BitMath.numOf wrap64
  rw [if_pos rfl]
  split <;> omega

end Go.Proofs.YtdlceolmpcjjiaaGreatDoor
