/- ChunkMerges by its walk: points between any ticks; any two lists as one. -/
import Derived.Test.YtijgolnbbaljlaaGreatDoorIsPackedGroup
import Derived.Test.YtijgolnbbaljlaaGreatDoorPtsOwnGroup
import Derived.Test.YtijgolnbbaljlaaGreatDoorPtListGroup
namespace Go.Proofs.YtijgolnbbaljlaaGreatDoor
open Go.RowKit PtMath
theorem same_list (w : World) (a b : Option Addr) (ca cb : Nat) (l : List (Int × Nat)) (ha : PtsL w a l) (hb : PtsL w b l) (hin : PtsIn l) (hn : l.length ≤ 1000) :
    Calls Tryz.prog 21 #[.slice a l.length ca, .slice b l.length cb] w fun e w' => e = .returned (.bool true) ∧ Below w.heap.size w w' := by
  refine (same_points w a b l.length ca cb (tickAt l) (bitAt l) (pts_of_list ha hin) (pts_of_list hb hin) (by omega)).mono ?_
  rintro e w' ⟨rfl, q, rfl⟩
  exact ⟨rfl, below_drewN (Below.refl _ _) q⟩
theorem Tryz.fieldF (a b : Value) (w : World) : (Instr.field 32 (.agg #[a, b]) 0).run Tryz.prog w = .ok a w := by kernel_rfl

end Go.Proofs.YtijgolnbbaljlaaGreatDoor
