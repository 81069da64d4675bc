/- From the conditions on the listed package variables of statements on blocks to what their walks ask. -/
import Derived.Test.YtijgolnbbaljlaaGreatDoorChunkLaid
import Derived.Test.YtijgolnbbaljlaaGreatDoorBlkTxtGroup
import Derived.Lib.LaidTab
import Derived.Lay
namespace Go.Proofs.YtijgolnbbaljlaaGreatDoor
open Go.ChangeShapes Go.WideShapes Go.ChangeAt Go.RowKit Go.Deep

theorem pow_of2 {W : World} {r : List (String × DataW Unit)} (h : laidMet Tryz.prog (("internal/strconv.uint64pow10", Rows.laid_internal_strconv_uint64pow10) :: r) W) : Lib.TabIs Tryz.prog W "internal/strconv.uint64pow10" .u64 Lib.pow10Tab := by
  have e : (Rows.laid_internal_strconv_uint64pow10 : DataW Unit) = Lib.tabData .u64 Lib.pow10Tab := by rfl
  rw [e] at h
  exact Lib.tabIs_of_head (g := 13) (t := 220) (e := 69) (n := 20) (by kernel_rfl) (by kernel_rfl) Tryz.underlying220 Tryz.underlying69 (by kernel_rfl) (by kernel_rfl) h
theorem envB_of {W : World} (h : (∃ ea, Env W.heap.size ea W) ∧ Forms W ∧ Tab W) : ∃ ea, EnvB W.heap.size ea W := by
  obtain ⟨⟨ea, E⟩, hF, hT⟩ := h
  exact ⟨ea, E, ⟨E.ern, E.c2, E.c3, hF, hT, hF.lt, hT.lt⟩⟩
def laidMk : List (String × DataW Unit) := ("math/bits.deBruijn32tab", Rows.laid_math_bits_deBruijn32tab) :: ("math/bits.deBruijn64tab", Rows.laid_math_bits_deBruijn64tab) :: ("internal/strconv.uint64pow10", Rows.laid_internal_strconv_uint64pow10) :: ("unicode/utf8.acceptRanges", Rows.laid_unicode_utf8_acceptRanges) :: ("errors.errorType", Rows.laid_errors_errorType) :: ("strconv.ErrRange", Rows.laid_strconv_ErrRange) :: ("strconv.ErrSyntax", Rows.laid_strconv_ErrSyntax) :: (sents ++ [("tidegauge/wave.forms", Rows.laid_tidegauge_wave_forms), ("unicode/utf8.first", Rows.laid_unicode_utf8_first)])
theorem envs_of_mk {W : World} (h : laidMetH Tryz.prog laidMk W) : (∃ ea, EnvB W.heap.size ea W) ∧ Lib.TabIs Tryz.prog W "internal/strconv.uint64pow10" .u64 Lib.pow10Tab ∧ EnvS W := by
  have e1 : (laidMk.filter fun x => x.2.handleName?.isNone) = ("math/bits.deBruijn32tab", Rows.laid_math_bits_deBruijn32tab) :: ("math/bits.deBruijn64tab", Rows.laid_math_bits_deBruijn64tab) :: ("internal/strconv.uint64pow10", Rows.laid_internal_strconv_uint64pow10) :: ("unicode/utf8.acceptRanges", Rows.laid_unicode_utf8_acceptRanges) :: ("strconv.ErrRange", Rows.laid_strconv_ErrRange) :: ("strconv.ErrSyntax", Rows.laid_strconv_ErrSyntax) :: (sents ++ [("tidegauge/wave.forms", Rows.laid_tidegauge_wave_forms), ("unicode/utf8.first", Rows.laid_unicode_utf8_first)]) := by kernel_rfl
  have e2 : (laidMk.filter fun x => x.2.handleName?.isSome) = [("errors.errorType", Rows.laid_errors_errorType)] := by kernel_rfl
  have h' := laidMetH_iff.1 h
  rw [e1, e2] at h'
  obtain ⟨hL, hH⟩ := h'
  have hT := tab_of hL.tail
  have hP := pow_of2 hL.tail.tail
  have hL := hL.tail.tail.tail.tail
  obtain ⟨ar, sr, cr, dr, xr, pr, hL⟩ := sentinel_of hL (g := 15) (by kernel_rfl) (by kernel_rfl) Tryz.underlying27 Tryz.rowES Tryz.underlying313 Tryz.underlying315 rfl rfl Tryz.underlying9 Tryz.cellsES Tryz.cellsStr
  obtain ⟨ay, sy, cy, dy, xy, py, hL⟩ := sentinel_of hL (g := 14) (by kernel_rfl) (by kernel_rfl) Tryz.underlying27 Tryz.rowES Tryz.underlying313 Tryz.underlying315 rfl rfl Tryz.underlying9 Tryz.cellsES Tryz.cellsStr
  obtain ⟨hE, hr⟩ := env_of_sents hL hH
  exact ⟨envB_of ⟨hE, forms_of hr, hT⟩, hP, ⟨_, _, cy⟩, ⟨_, _, cr⟩⟩
/-- A world of the door's with the pinned table laid. -/
noncomputable def doorMk (os : Os) : World := (World.doorLaid Tryz.prog 400 os).layVars Tryz.prog [("unicode/utf8.first", Rows.laid_unicode_utf8_first)]
theorem doorMk_os (os : Os) : (doorMk os).os = os := (World.layVars_os _ _ _).trans rfl
theorem doorMk_shaped (os : Os) (args : Array Value) : ((doorMk os).forCall (fun _ _ => 0) ⟨#[], args, []⟩).Shaped Tryz.prog := World.shaped_of_RefB (by kernel_rfl) (by kernel_rfl)
theorem door_mk (os : Os) (args : Array Value) : laidMetH Tryz.prog laidMk ((doorMk os).forCall (fun _ _ => 0) ⟨#[], args, []⟩).memory :=
  laidMetH_of_parts3 (fuel := 8) (laidMet_of_run' 8 (by kernel_rfl) (by kernel_rfl)) (by kernel_rfl) (by kernel_rfl)
end Go.Proofs.YtijgolnbbaljlaaGreatDoor
