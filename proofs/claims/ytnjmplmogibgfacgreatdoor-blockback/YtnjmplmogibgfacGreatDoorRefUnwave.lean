/- The document's Unwave, by its contract. -/
import Derived.Test.YtnjmplmogibgfacGreatDoorRefsGroup
import Derived.Deep.RegionHeld3
namespace Go.Proofs.YtnjmplmogibgfacGreatDoor
open Go.RowKit
theorem num_four (v : Nat) (h : v < 18446744073709551616) : BitMath.numOf 4 v = wrap64 (v : Int) := by
  unfold BitMath.numOf wrap64
  rw [if_pos rfl]
  split <;> omega

theorem getD_some (bs : List Bool) (i : Nat) (h : bs.getD i false = true) : bs[i]? = some true := by
  rw [List.getD_eq_getElem?_getD] at h
  cases hx : bs[i]? with
  | none => rw [hx] at h; cases h
  | some b => rw [hx] at h; rw [← h]; rfl

end Go.Proofs.YtnjmplmogibgfacGreatDoor
