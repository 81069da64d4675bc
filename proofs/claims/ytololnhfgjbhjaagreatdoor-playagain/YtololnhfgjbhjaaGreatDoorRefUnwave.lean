import Derived.Test.YtololnhfgjbhjaaGreatDoorRefsGroup
import Derived.Deep.RegionHeld3
namespace Go.Proofs.YtololnhfgjbhjaaGreatDoor
open Go.RowKit
theorem ZI(v:Nat)(h:v<18446744073709551616):aj.numOf 4 v=wrap64 (v:Int):=by
 unfold aj.numOf wrap64;rw[if_pos rfl];split<;>omega
end Go.Proofs.YtololnhfgjbhjaaGreatDoor
