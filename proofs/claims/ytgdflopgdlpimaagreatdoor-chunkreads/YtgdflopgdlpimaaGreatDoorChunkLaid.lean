/- From the condition on the listed package variables to what the walks of chunks ask. -/
import Derived.Test.YtgdflopgdlpimaaGreatDoorMaskLaid
import Derived.Test.YtgdflopgdlpimaaGreatDoorWaveLaid
import Derived.Test.YtgdflopgdlpimaaGreatDoorErrAsGroup
namespace Go.Proofs.YtgdflopgdlpimaaGreatDoor
open Go.ChangeShapes Go.WideShapes Go.ChangeAt Go.RowKit Go.Deep

def laidChunk : List (String × DataW Unit) := ("math/bits.deBruijn64tab", Rows.laid_math_bits_deBruijn64tab) :: ("errors.errorType", Rows.laid_errors_errorType) :: (sents ++ [("tidegauge/wave.forms", Rows.laid_tidegauge_wave_forms)])
theorem split_chunk {W : World} (h : laidMetH Tryz.prog laidChunk W) : laidMet Tryz.prog (("math/bits.deBruijn64tab", Rows.laid_math_bits_deBruijn64tab) :: (sents ++ [("tidegauge/wave.forms", Rows.laid_tidegauge_wave_forms)])) W ∧ handlesMet Tryz.prog [("errors.errorType", Rows.laid_errors_errorType)] W := by
  have e1 : (laidChunk.filter fun x => x.2.handleName?.isNone) = ("math/bits.deBruijn64tab", Rows.laid_math_bits_deBruijn64tab) :: (sents ++ [("tidegauge/wave.forms", Rows.laid_tidegauge_wave_forms)]) := by kernel_rfl
  have e2 : (laidChunk.filter fun x => x.2.handleName?.isSome) = [("errors.errorType", Rows.laid_errors_errorType)] := by kernel_rfl
  have h' := laidMetH_iff.1 h
  rw [e1, e2] at h'
  exact h'
theorem env_of_chunk {W : World} (h : laidMetH Tryz.prog laidChunk W) : (∃ ea, Env W.heap.size ea W) ∧ Forms W ∧ Tab W := by
  obtain ⟨hL, hH⟩ := split_chunk h
  obtain ⟨hE, hr⟩ := env_of_sents hL.tail hH
  exact ⟨hE, forms_of hr, tab_of hL⟩
theorem door_chunk (os : Os) (args : Array Value) : laidMetH Tryz.prog laidChunk ((World.doorLaid Tryz.prog 400 os).forCall (fun _ _ => 0) ⟨#[], args, []⟩).memory :=
  laidMetH_of_parts3 (fuel := 8) (laidMet_of_run' 8 (by kernel_rfl) (by kernel_rfl)) (by kernel_rfl) (by kernel_rfl)
/-- The seven errors that a statement meets which asks no error's number. -/
def sents7 : List (String × DataW Unit) := [("tidegauge/api.ErrText", Rows.laid_tidegauge_api_ErrText), ("tidegauge/api.ErrBound", Rows.laid_tidegauge_api_ErrBound), ("tidegauge/api.ErrShape", Rows.laid_tidegauge_api_ErrShape), ("tidegauge/api.ErrNone", Rows.laid_tidegauge_api_ErrNone), ("tidegauge/api.ErrFull", Rows.laid_tidegauge_api_ErrFull), ("tidegauge/api.ErrOld", Rows.laid_tidegauge_api_ErrOld), ("tidegauge/api.ErrSum", Rows.laid_tidegauge_api_ErrSum)]
def laidSeven : List (String × DataW Unit) := ("math/bits.deBruijn64tab", Rows.laid_math_bits_deBruijn64tab) :: ("errors.errorType", Rows.laid_errors_errorType) :: (sents7 ++ [("tidegauge/wave.forms", Rows.laid_tidegauge_wave_forms)])
theorem split_seven {W : World} (h : laidMetH Tryz.prog laidSeven W) : laidMet Tryz.prog (("math/bits.deBruijn64tab", Rows.laid_math_bits_deBruijn64tab) :: (sents7 ++ [("tidegauge/wave.forms", Rows.laid_tidegauge_wave_forms)])) W ∧ handlesMet Tryz.prog [("errors.errorType", Rows.laid_errors_errorType)] W := by
  have e1 : (laidSeven.filter fun x => x.2.handleName?.isNone) = ("math/bits.deBruijn64tab", Rows.laid_math_bits_deBruijn64tab) :: (sents7 ++ [("tidegauge/wave.forms", Rows.laid_tidegauge_wave_forms)]) := by kernel_rfl
  have e2 : (laidSeven.filter fun x => x.2.handleName?.isSome) = [("errors.errorType", Rows.laid_errors_errorType)] := by kernel_rfl
  have h' := laidMetH_iff.1 h
  rw [e1, e2] at h'
  exact h'
theorem ern_of_sents {W : World} {r : List (String × DataW Unit)} (hL0 : laidMet Tryz.prog (sents7 ++ r) W) (hH : handlesMet Tryz.prog [("errors.errorType", Rows.laid_errors_errorType)] W) : (∃ ea, Ern W.heap.size ea W) ∧ laidMet Tryz.prog r W := by
  have ht := handle_of hH
  have hL := hL0
  clear hH hL0
  obtain ⟨a0, s0, c0, d0, x0, p0, hL⟩ := sentinel_of hL (g := 2) (by kernel_rfl) (by kernel_rfl) Tryz.underlying25 Tryz.rowES Tryz.underlying172 Tryz.underlying191 rfl rfl Tryz.underlying9 Tryz.cellsES Tryz.cellsStr
  obtain ⟨a1, s1, c1, d1, x1, p1, hL⟩ := sentinel_of hL (g := 0) (by kernel_rfl) (by kernel_rfl) Tryz.underlying25 Tryz.rowES Tryz.underlying172 Tryz.underlying191 rfl rfl Tryz.underlying9 Tryz.cellsES Tryz.cellsStr
  obtain ⟨a2, s2, c2, d2, x2, p2, hL⟩ := sentinel_of hL (g := 4) (by kernel_rfl) (by kernel_rfl) Tryz.underlying25 Tryz.rowES Tryz.underlying172 Tryz.underlying191 rfl rfl Tryz.underlying9 Tryz.cellsES Tryz.cellsStr
  obtain ⟨a4, s4, c4, d4, x4, p4, hL⟩ := sentinel_of hL (g := 6) (by kernel_rfl) (by kernel_rfl) Tryz.underlying25 Tryz.rowES Tryz.underlying172 Tryz.underlying191 rfl rfl Tryz.underlying9 Tryz.cellsES Tryz.cellsStr
  obtain ⟨a6, s6, c6, d6, x6, p6, hL⟩ := sentinel_of hL (g := 8) (by kernel_rfl) (by kernel_rfl) Tryz.underlying25 Tryz.rowES Tryz.underlying172 Tryz.underlying191 rfl rfl Tryz.underlying9 Tryz.cellsES Tryz.cellsStr
  obtain ⟨a7, s7, c7, d7, x7, p7, hL⟩ := sentinel_of hL (g := 1) (by kernel_rfl) (by kernel_rfl) Tryz.underlying25 Tryz.rowES Tryz.underlying172 Tryz.underlying191 rfl rfl Tryz.underlying9 Tryz.cellsES Tryz.cellsStr
  obtain ⟨a8, s8, c8, d8, x8, p8, hL⟩ := sentinel_of hL (g := 3) (by kernel_rfl) (by kernel_rfl) Tryz.underlying25 Tryz.rowES Tryz.underlying172 Tryz.underlying191 rfl rfl Tryz.underlying9 Tryz.cellsES Tryz.cellsStr
  have hlow : 11 < W.heap.size := World.block_lt_of_cell? W ⟨11, 0, none⟩ ht
  exact ⟨⟨fun i => ([a0, a1, a2, a2, a4, a4, a6, a7, a8] : List Addr).getD i a0, c0, c1, c4, c7, c8, ht, hlow⟩, hL⟩
theorem ern_of_seven {W : World} (h : laidMetH Tryz.prog laidSeven W) : (∃ ea, Ern W.heap.size ea W) ∧ Forms W ∧ Tab W := by
  obtain ⟨hL, hH⟩ := split_seven h
  obtain ⟨hE, hr⟩ := ern_of_sents hL.tail hH
  exact ⟨hE, forms_of hr, tab_of hL⟩
theorem door_seven (os : Os) (args : Array Value) : laidMetH Tryz.prog laidSeven ((World.doorLaid Tryz.prog 400 os).forCall (fun _ _ => 0) ⟨#[], args, []⟩).memory :=
  laidMetH_of_parts3 (fuel := 8) (laidMet_of_run' 8 (by kernel_rfl) (by kernel_rfl)) (by kernel_rfl) (by kernel_rfl)
end Go.Proofs.YtgdflopgdlpimaaGreatDoor
