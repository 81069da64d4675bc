/- From the condition on the variables that logs list to what the walks of logs ask. -/
import Derived.Test.YtplfnblpmagbjabGreatDoorLaid
import Derived.Test.YtplfnblpmagbjabGreatDoorMaskLaid
import Derived.Test.YtplfnblpmagbjabGreatDoorWalRecGroup
import Derived.Lib.LaidTab
namespace Go.Proofs.YtplfnblpmagbjabGreatDoor
open Go.ChangeShapes Go.WideShapes Go.ChangeAt Go.RowKit

def laidWal : List (String × DataW Unit) := [("math/bits.deBruijn32tab", Rows.laid_math_bits_deBruijn32tab), ("math/bits.deBruijn64tab", Rows.laid_math_bits_deBruijn64tab), ("internal/strconv.uint64pow10", Rows.laid_internal_strconv_uint64pow10), ("strconv.ErrRange", Rows.laid_strconv_ErrRange), ("strconv.ErrSyntax", Rows.laid_strconv_ErrSyntax), ("tidegauge/api.ErrText", Rows.laid_tidegauge_api_ErrText), ("tidegauge/api.ErrBound", Rows.laid_tidegauge_api_ErrBound), ("tidegauge/api.ErrShape", Rows.laid_tidegauge_api_ErrShape), ("tidegauge/api.ErrName", Rows.laid_tidegauge_api_ErrName), ("tidegauge/api.ErrNone", Rows.laid_tidegauge_api_ErrNone), ("tidegauge/api.ErrFull", Rows.laid_tidegauge_api_ErrFull), ("tidegauge/api.ErrOff", Rows.laid_tidegauge_api_ErrOff)]
theorem split_wal {W : World} (h : laidMetH Tryz.prog laidWal W) : laidMet Tryz.prog laidWal W := by
  have e1 : (laidWal.filter fun x => x.2.handleName?.isNone) = laidWal := by kernel_rfl
  have h' := laidMetH_iff.1 h
  rw [e1] at h'
  exact h'.1
theorem pow_of {W : World} {r : List (String × DataW Unit)} (h : laidMet Tryz.prog (("internal/strconv.uint64pow10", Rows.laid_internal_strconv_uint64pow10) :: r) W) : Lib.TabIs Tryz.prog W "internal/strconv.uint64pow10" .u64 Lib.pow10Tab := by
  have e : (Rows.laid_internal_strconv_uint64pow10 : DataW Unit) = Lib.tabData .u64 Lib.pow10Tab := by rfl
  rw [e] at h
  exact Lib.tabIs_of_head (g := 13) (t := 177) (e := 32) (n := 20) (by kernel_rfl) (by kernel_rfl) Tryz.underlying177 Tryz.underlying32 (by kernel_rfl) (by kernel_rfl) h
theorem envW_of_laid {W : World} (h : laidMetH Tryz.prog laidWal W) : ∃ ea, EnvW W.heap.size ea W := by
  have hL := (split_wal h).tail
  clear h
  have hT := tab_of hL
  have hL := hL.tail
  have hP := pow_of hL
  have hL := hL.tail
  obtain ⟨ar, sr, cr, dr, xr, pr, hL⟩ := sentinel_of hL (g := 15) (by kernel_rfl) (by kernel_rfl) Tryz.underlying26 Tryz.rowES Tryz.underlying186 Tryz.underlying188 rfl rfl Tryz.underlying9 Tryz.cellsES Tryz.cellsStr
  obtain ⟨ay, sy, cs, dy, xy, py, hL⟩ := sentinel_of hL (g := 14) (by kernel_rfl) (by kernel_rfl) Tryz.underlying26 Tryz.rowES Tryz.underlying186 Tryz.underlying188 rfl rfl Tryz.underlying9 Tryz.cellsES Tryz.cellsStr
  obtain ⟨a0, s0, c0, d0, x0, p0, hL⟩ := sentinel_of hL (g := 4) (by kernel_rfl) (by kernel_rfl) Tryz.underlying26 Tryz.rowES Tryz.underlying186 Tryz.underlying188 rfl rfl Tryz.underlying9 Tryz.cellsES Tryz.cellsStr
  obtain ⟨a1, s1, c1, d1, x1, p1, hL⟩ := sentinel_of hL (g := 0) (by kernel_rfl) (by kernel_rfl) Tryz.underlying26 Tryz.rowES Tryz.underlying186 Tryz.underlying188 rfl rfl Tryz.underlying9 Tryz.cellsES Tryz.cellsStr
  obtain ⟨a2, s2, c2, d2, x2, p2, hL⟩ := sentinel_of hL (g := 1) (by kernel_rfl) (by kernel_rfl) Tryz.underlying26 Tryz.rowES Tryz.underlying186 Tryz.underlying188 rfl rfl Tryz.underlying9 Tryz.cellsES Tryz.cellsStr
  obtain ⟨a3, s3, c3, d3, x3, p3, hL⟩ := sentinel_of hL (g := 5) (by kernel_rfl) (by kernel_rfl) Tryz.underlying26 Tryz.rowES Tryz.underlying186 Tryz.underlying188 rfl rfl Tryz.underlying9 Tryz.cellsES Tryz.cellsStr
  obtain ⟨a4, s4, c4, d4, x4, p4, hL⟩ := sentinel_of hL (g := 6) (by kernel_rfl) (by kernel_rfl) Tryz.underlying26 Tryz.rowES Tryz.underlying186 Tryz.underlying188 rfl rfl Tryz.underlying9 Tryz.cellsES Tryz.cellsStr
  obtain ⟨a6, s6, c6, d6, x6, p6, hL⟩ := sentinel_of hL (g := 2) (by kernel_rfl) (by kernel_rfl) Tryz.underlying26 Tryz.rowES Tryz.underlying186 Tryz.underlying188 rfl rfl Tryz.underlying9 Tryz.cellsES Tryz.cellsStr
  obtain ⟨a9, s9, c9, d9, x9, p9, hL⟩ := sentinel_of hL (g := 3) (by kernel_rfl) (by kernel_rfl) Tryz.underlying26 Tryz.rowES Tryz.underlying186 Tryz.underlying188 rfl rfl Tryz.underlying9 Tryz.cellsES Tryz.cellsStr
  refine ⟨fun i => ([a0, a1, a2, a3, a4, a4, a6, a6, a6, a9] : List Addr).getD i a0, c0, c1, c2, c3, c4, c6, c9, hT, Lib.tabBelow_of_tabIs hP, ⟨⟨_, _, cs⟩, ⟨_, _, cr⟩⟩, ?_⟩
  exact ⟨World.block_lt_of_cell? W ⟨4, 0, none⟩ c0, World.block_lt_of_cell? W ⟨0, 0, none⟩ c1, World.block_lt_of_cell? W ⟨1, 0, none⟩ c2, World.block_lt_of_cell? W ⟨5, 0, none⟩ c3, World.block_lt_of_cell? W ⟨6, 0, none⟩ c4, World.block_lt_of_cell? W ⟨2, 0, none⟩ c6, World.block_lt_of_cell? W ⟨3, 0, none⟩ c9, hT.lt, World.block_lt_of_cell? W ⟨14, 0, none⟩ cs, World.block_lt_of_cell? W ⟨15, 0, none⟩ cr⟩
theorem door_wal (os : Os) (args : Array Value) : laidMetH Tryz.prog laidWal ((World.doorLaid Tryz.prog 400 os).forCall (fun _ _ => 0) ⟨#[], args, []⟩).memory :=
  laidMetH_of_parts3 (fuel := 8) (laidMet_of_run' 8 (by kernel_rfl) (by kernel_rfl)) (by kernel_rfl) (by kernel_rfl)
end Go.Proofs.YtplfnblpmagbjabGreatDoor
/- From the condition on the variables that WalActs lists to what its walk asks. -/
namespace Go.Proofs.YtplfnblpmagbjabGreatDoor
open Go.ChangeShapes Go.WideShapes Go.ChangeAt Go.RowKit

def laidWalB : List (String × DataW Unit) := ("math/bits.deBruijn32tab", Rows.laid_math_bits_deBruijn32tab) :: ("math/bits.deBruijn64tab", Rows.laid_math_bits_deBruijn64tab) :: ("internal/strconv.uint64pow10", Rows.laid_internal_strconv_uint64pow10) :: ("strconv.ErrRange", Rows.laid_strconv_ErrRange) :: ("strconv.ErrSyntax", Rows.laid_strconv_ErrSyntax) :: sents
def laidWalA : List (String × DataW Unit) := ("math/bits.deBruijn32tab", Rows.laid_math_bits_deBruijn32tab) :: ("math/bits.deBruijn64tab", Rows.laid_math_bits_deBruijn64tab) :: ("internal/strconv.uint64pow10", Rows.laid_internal_strconv_uint64pow10) :: ("errors.errorType", Rows.laid_errors_errorType) :: ("strconv.ErrRange", Rows.laid_strconv_ErrRange) :: ("strconv.ErrSyntax", Rows.laid_strconv_ErrSyntax) :: sents
theorem split_walA {W : World} (h : laidMetH Tryz.prog laidWalA W) : laidMet Tryz.prog laidWalB W ∧ handlesMet Tryz.prog [("errors.errorType", Rows.laid_errors_errorType)] W := by
  have e1 : (laidWalA.filter fun x => x.2.handleName?.isNone) = laidWalB := by kernel_rfl
  have e2 : (laidWalA.filter fun x => x.2.handleName?.isSome) = [("errors.errorType", Rows.laid_errors_errorType)] := by kernel_rfl
  have h' := laidMetH_iff.1 h
  rw [e1, e2] at h'
  exact h'
theorem envs_of_laid {W : World} (h : laidMetH Tryz.prog laidWalA W) : ∃ ea, EnvW W.heap.size ea W ∧ Env W.heap.size ea W := by
  obtain ⟨hL, hH⟩ := split_walA h
  clear h
  have hL := hL.tail
  have hT := tab_of hL
  have hL := hL.tail
  have hP := pow_of hL
  have hL := hL.tail
  obtain ⟨ar, sr, cr, dr, xr, pr, hL⟩ := sentinel_of hL (g := 15) (by kernel_rfl) (by kernel_rfl) Tryz.underlying26 Tryz.rowES Tryz.underlying186 Tryz.underlying188 rfl rfl Tryz.underlying9 Tryz.cellsES Tryz.cellsStr
  obtain ⟨ay, sy, cs, dy, xy, py, hL⟩ := sentinel_of hL (g := 14) (by kernel_rfl) (by kernel_rfl) Tryz.underlying26 Tryz.rowES Tryz.underlying186 Tryz.underlying188 rfl rfl Tryz.underlying9 Tryz.cellsES Tryz.cellsStr
  rw [← List.append_nil sents] at hL
  obtain ⟨⟨ea, E⟩, _⟩ := env_of_sents hL hH
  refine ⟨ea, ⟨E.c0, E.c1, E.c2, E.c3, E.c4, E.c6, E.c9, hT, Lib.tabBelow_of_tabIs hP, ⟨⟨_, _, cs⟩, ⟨_, _, cr⟩⟩, ?_⟩, E⟩
  exact ⟨World.block_lt_of_cell? W ⟨4, 0, none⟩ E.c0, World.block_lt_of_cell? W ⟨0, 0, none⟩ E.c1, World.block_lt_of_cell? W ⟨1, 0, none⟩ E.c2, World.block_lt_of_cell? W ⟨5, 0, none⟩ E.c3, World.block_lt_of_cell? W ⟨6, 0, none⟩ E.c4, World.block_lt_of_cell? W ⟨2, 0, none⟩ E.c6, World.block_lt_of_cell? W ⟨3, 0, none⟩ E.c9, hT.lt, World.block_lt_of_cell? W ⟨14, 0, none⟩ cs, World.block_lt_of_cell? W ⟨15, 0, none⟩ cr⟩
theorem door_walA (os : Os) (args : Array Value) : laidMetH Tryz.prog laidWalA ((World.doorLaid Tryz.prog 400 os).forCall (fun _ _ => 0) ⟨#[], args, []⟩).memory :=
  laidMetH_of_parts3 (fuel := 8) (laidMet_of_run' 8 (by kernel_rfl) (by kernel_rfl)) (by kernel_rfl) (by kernel_rfl)
end Go.Proofs.YtplfnblpmagbjabGreatDoor
