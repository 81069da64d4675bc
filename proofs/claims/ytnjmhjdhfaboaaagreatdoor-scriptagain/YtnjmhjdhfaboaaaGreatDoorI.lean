import Derived.Test.YtnjmhjdhfaboaaaGreatDoorG
import Derived.Deep.RegionHeld3
namespace Go.Proofs.YtnjmhjdhfaboaaaGreatDoor
open Go.RowKit
theorem ab5(v:Nat)(h:v<18446744073709551616):aj.numOf 4 v=wrap64 (v:Int):=by
 unfold aj.numOf wrap64;rw[if_pos rfl];split<;>omega
