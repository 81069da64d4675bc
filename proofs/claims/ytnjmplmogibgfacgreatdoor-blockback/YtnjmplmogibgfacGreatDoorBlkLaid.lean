/- From the condition on the listed package variables to what the walks of blocks ask. -/
import Derived.Test.YtnjmplmogibgfacGreatDoorMaskLaid
import Derived.Test.YtnjmplmogibgfacGreatDoorWaveLaid
import Derived.Test.YtnjmplmogibgfacGreatDoorBlkEnv
namespace Go.Proofs.YtnjmplmogibgfacGreatDoor
open Go.ChangeShapes Go.WideShapes Go.ChangeAt Go.RowKit Go.Deep

/-- The eight errors that a statement on blocks meets which asks no error's number. -/
def sents8 : List (String × DataW Unit) := [("tidegauge/api.ErrText", Rows.laid_tidegauge_api_ErrText), ("tidegauge/api.ErrBound", Rows.laid_tidegauge_api_ErrBound), ("tidegauge/api.ErrShape", Rows.laid_tidegauge_api_ErrShape), ("tidegauge/api.ErrName", Rows.laid_tidegauge_api_ErrName), ("tidegauge/api.ErrNone", Rows.laid_tidegauge_api_ErrNone), ("tidegauge/api.ErrFull", Rows.laid_tidegauge_api_ErrFull), ("tidegauge/api.ErrOld", Rows.laid_tidegauge_api_ErrOld), ("tidegauge/api.ErrSum", Rows.laid_tidegauge_api_ErrSum)]
def laidBlk : List (String × DataW Unit) := ("math/bits.deBruijn64tab", Rows.laid_math_bits_deBruijn64tab) :: ("errors.errorType", Rows.laid_errors_errorType) :: (sents8 ++ [("tidegauge/wave.forms", Rows.laid_tidegauge_wave_forms)])
theorem split_blk {W : World} (h : laidMetH Tryz.prog laidBlk W) : laidMet Tryz.prog (("math/bits.deBruijn64tab", Rows.laid_math_bits_deBruijn64tab) :: (sents8 ++ [("tidegauge/wave.forms", Rows.laid_tidegauge_wave_forms)])) W ∧ handlesMet Tryz.prog [("errors.errorType", Rows.laid_errors_errorType)] W := by
  have e1 : (laidBlk.filter fun x => x.2.handleName?.isNone) = ("math/bits.deBruijn64tab", Rows.laid_math_bits_deBruijn64tab) :: (sents8 ++ [("tidegauge/wave.forms", Rows.laid_tidegauge_wave_forms)]) := by kernel_rfl
  have e2 : (laidBlk.filter fun x => x.2.handleName?.isSome) = [("errors.errorType", Rows.laid_errors_errorType)] := by kernel_rfl
  have h' := laidMetH_iff.1 h
  rw [e1, e2] at h'
  exact h'
theorem envK_of_laid {W : World} (h : laidMetH Tryz.prog laidBlk W) : ∃ ea, EnvK W.heap.size ea W := by
  obtain ⟨hL0, hH⟩ := split_blk h
  have ht := handle_of hH
  have hTab := tab_of hL0
  have hL := hL0.tail
  clear hH hL0 h
  obtain ⟨a0, s0, c0, d0, x0, p0, hL⟩ := sentinel_of hL (g := 1) (by kernel_rfl) (by kernel_rfl) Tryz.underlying34 Tryz.rowES Tryz.underlying277 Tryz.underlying295 rfl rfl Tryz.underlying9 Tryz.cellsES Tryz.cellsStr
  obtain ⟨a1, s1, c1, d1, x1, p1, hL⟩ := sentinel_of hL (g := 2) (by kernel_rfl) (by kernel_rfl) Tryz.underlying34 Tryz.rowES Tryz.underlying277 Tryz.underlying295 rfl rfl Tryz.underlying9 Tryz.cellsES Tryz.cellsStr
  obtain ⟨a2, s2, c2, d2, x2, p2, hL⟩ := sentinel_of hL (g := 0) (by kernel_rfl) (by kernel_rfl) Tryz.underlying34 Tryz.rowES Tryz.underlying277 Tryz.underlying295 rfl rfl Tryz.underlying9 Tryz.cellsES Tryz.cellsStr
  obtain ⟨a3, s3, c3, d3, x3, p3, hL⟩ := sentinel_of hL (g := 3) (by kernel_rfl) (by kernel_rfl) Tryz.underlying34 Tryz.rowES Tryz.underlying277 Tryz.underlying295 rfl rfl Tryz.underlying9 Tryz.cellsES Tryz.cellsStr
  obtain ⟨a4, s4, c4, d4, x4, p4, hL⟩ := sentinel_of hL (g := 4) (by kernel_rfl) (by kernel_rfl) Tryz.underlying34 Tryz.rowES Tryz.underlying277 Tryz.underlying295 rfl rfl Tryz.underlying9 Tryz.cellsES Tryz.cellsStr
  obtain ⟨a6, s6, c6, d6, x6, p6, hL⟩ := sentinel_of hL (g := 6) (by kernel_rfl) (by kernel_rfl) Tryz.underlying34 Tryz.rowES Tryz.underlying277 Tryz.underlying295 rfl rfl Tryz.underlying9 Tryz.cellsES Tryz.cellsStr
  obtain ⟨a7, s7, c7, d7, x7, p7, hL⟩ := sentinel_of hL (g := 7) (by kernel_rfl) (by kernel_rfl) Tryz.underlying34 Tryz.rowES Tryz.underlying277 Tryz.underlying295 rfl rfl Tryz.underlying9 Tryz.cellsES Tryz.cellsStr
  obtain ⟨a8, s8, c8, d8, x8, p8, hL⟩ := sentinel_of hL (g := 8) (by kernel_rfl) (by kernel_rfl) Tryz.underlying34 Tryz.rowES Tryz.underlying277 Tryz.underlying295 rfl rfl Tryz.underlying9 Tryz.cellsES Tryz.cellsStr
  have hF := forms_of hL
  have hlow : 11 < W.heap.size := World.block_lt_of_cell? W ⟨11, 0, none⟩ ht
  exact ⟨fun i => ([a0, a1, a2, a3, a4, a4, a6, a7, a8] : List Addr).getD i a0, ⟨c0, c1, c4, c7, c8, ht, hlow⟩, c2, c3, hF, hTab, hF.lt, hTab.lt⟩
theorem door_blk (os : Os) (args : Array Value) : laidMetH Tryz.prog laidBlk ((World.doorLaid Tryz.prog 400 os).forCall (fun _ _ => 0) ⟨#[], args, []⟩).memory :=
  laidMetH_of_parts3 (fuel := 8) (laidMet_of_run' 8 (by kernel_rfl) (by kernel_rfl)) (by kernel_rfl) (by kernel_rfl)
end Go.Proofs.YtnjmplmogibgfacGreatDoor
