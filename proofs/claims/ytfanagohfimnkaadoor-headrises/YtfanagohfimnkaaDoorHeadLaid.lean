/- From the condition on seven errors to what the walks of heads ask. -/
import Derived.Test.YtfanagohfimnkaaDoorLaid
import Derived.Test.YtfanagohfimnkaaDoorHeadAtGroup
namespace Go.Proofs.YtfanagohfimnkaaDoor
open Go.ChangeShapes Go.WideShapes Go.ChangeAt Go.RowKit

/-- The seven errors of labels and heads. -/
def laidHead : List (String × DataW Unit) := [("tidegauge/api.ErrText", Rows.laid_tidegauge_api_ErrText), ("tidegauge/api.ErrBound", Rows.laid_tidegauge_api_ErrBound), ("tidegauge/api.ErrShape", Rows.laid_tidegauge_api_ErrShape), ("tidegauge/api.ErrName", Rows.laid_tidegauge_api_ErrName), ("tidegauge/api.ErrNone", Rows.laid_tidegauge_api_ErrNone), ("tidegauge/api.ErrFull", Rows.laid_tidegauge_api_ErrFull), ("tidegauge/api.ErrOld", Rows.laid_tidegauge_api_ErrOld)]
theorem split_head {W : World} (h : laidMetH Tryd.prog laidHead W) : laidMet Tryd.prog laidHead W := by
  have e1 : (laidHead.filter fun x => x.2.handleName?.isNone) = laidHead := by kernel_rfl
  have h' := laidMetH_iff.1 h
  rw [e1] at h'
  exact h'.1
theorem envH_of_laid {W : World} (h : laidMetH Tryd.prog laidHead W) : ∃ ea, EnvH W.heap.size ea W := by
  have hL := split_head h
  clear h
  obtain ⟨a0, s0, c0, d0, x0, p0, hL⟩ := sentinel_of hL (g := 5) (by kernel_rfl) (by kernel_rfl) Tryd.underlying32 Tryd.rowES Tryd.underlying197 Tryd.underlying216 rfl rfl Tryd.underlying9 Tryd.cellsES Tryd.cellsStr
  obtain ⟨a1, s1, c1, d1, x1, p1, hL⟩ := sentinel_of hL (g := 0) (by kernel_rfl) (by kernel_rfl) Tryd.underlying32 Tryd.rowES Tryd.underlying197 Tryd.underlying216 rfl rfl Tryd.underlying9 Tryd.cellsES Tryd.cellsStr
  obtain ⟨a2, s2, c2, d2, x2, p2, hL⟩ := sentinel_of hL (g := 3) (by kernel_rfl) (by kernel_rfl) Tryd.underlying32 Tryd.rowES Tryd.underlying197 Tryd.underlying216 rfl rfl Tryd.underlying9 Tryd.cellsES Tryd.cellsStr
  obtain ⟨a3, s3, c3, d3, x3, p3, hL⟩ := sentinel_of hL (g := 2) (by kernel_rfl) (by kernel_rfl) Tryd.underlying32 Tryd.rowES Tryd.underlying197 Tryd.underlying216 rfl rfl Tryd.underlying9 Tryd.cellsES Tryd.cellsStr
  obtain ⟨a4, s4, c4, d4, x4, p4, hL⟩ := sentinel_of hL (g := 1) (by kernel_rfl) (by kernel_rfl) Tryd.underlying32 Tryd.rowES Tryd.underlying197 Tryd.underlying216 rfl rfl Tryd.underlying9 Tryd.cellsES Tryd.cellsStr
  obtain ⟨a6, s6, c6, d6, x6, p6, hL⟩ := sentinel_of hL (g := 7) (by kernel_rfl) (by kernel_rfl) Tryd.underlying32 Tryd.rowES Tryd.underlying197 Tryd.underlying216 rfl rfl Tryd.underlying9 Tryd.cellsES Tryd.cellsStr
  obtain ⟨a7, s7, c7, d7, x7, p7, hL⟩ := sentinel_of hL (g := 8) (by kernel_rfl) (by kernel_rfl) Tryd.underlying32 Tryd.rowES Tryd.underlying197 Tryd.underlying216 rfl rfl Tryd.underlying9 Tryd.cellsES Tryd.cellsStr
  refine ⟨fun i => ([a0, a1, a2, a3, a4, a4, a6, a7] : List Addr).getD i a0, c0, c1, c2, c3, c4, c6, c7, fun g hg => ?_⟩
  simp only [List.mem_cons, List.not_mem_nil, or_false] at hg
  rcases hg with rfl | rfl | rfl | rfl | rfl | rfl | rfl
  · exact World.block_lt_of_cell? W ⟨5, 0, none⟩ c0
  · exact World.block_lt_of_cell? W ⟨0, 0, none⟩ c1
  · exact World.block_lt_of_cell? W ⟨3, 0, none⟩ c2
  · exact World.block_lt_of_cell? W ⟨2, 0, none⟩ c3
  · exact World.block_lt_of_cell? W ⟨1, 0, none⟩ c4
  · exact World.block_lt_of_cell? W ⟨7, 0, none⟩ c6
  · exact World.block_lt_of_cell? W ⟨8, 0, none⟩ c7
theorem door_head (os : Os) (args : Array Value) : laidMetH Tryd.prog laidHead ((World.doorLaid Tryd.prog 400 os).forCall (fun _ _ => 0) ⟨#[], args, []⟩).memory :=
  laidMetH_of_parts3 (fuel := 8) (laidMet_of_run' 8 (by kernel_rfl) (by kernel_rfl)) (by kernel_rfl) (by kernel_rfl)
end Go.Proofs.YtfanagohfimnkaaDoor
