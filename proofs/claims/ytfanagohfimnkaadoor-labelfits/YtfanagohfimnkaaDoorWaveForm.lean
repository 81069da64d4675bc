/- Package wave's forms by contracts: holds, size, formOf, Size. -/
import Derived.Test.YtfanagohfimnkaaDoorRefsGroup
import Derived.Test.YtfanagohfimnkaaDoorRefLabOfGroup
import Derived.Test.YtfanagohfimnkaaDoorBitMathGroup
namespace Go.Proofs.YtfanagohfimnkaaDoor
open Go.RowKit

/-- The twenty cells of the variable forms. -/
def formCells : List Value := [.int .u64 0, .int .i64 1, .int .i64 0, .int .i64 0, .int .u64 2, .int .i64 2, .int .i64 7, .int .i64 63, .int .u64 6, .int .i64 3, .int .i64 9, .int .i64 255, .int .u64 14, .int .i64 4, .int .i64 12, .int .i64 2047, .int .u64 15, .int .i64 4, .int .i64 64, .int .i64 0]
/-- A form as a value. -/
def formVal : Nat → Value
  | 0 => .agg #[.int .u64 0, .int .i64 1, .int .i64 0, .int .i64 0]
  | 1 => .agg #[.int .u64 2, .int .i64 2, .int .i64 7, .int .i64 63]
  | 2 => .agg #[.int .u64 6, .int .i64 3, .int .i64 9, .int .i64 255]
  | 3 => .agg #[.int .u64 14, .int .i64 4, .int .i64 12, .int .i64 2047]
  | _ => .agg #[.int .u64 15, .int .i64 4, .int .i64 64, .int .i64 0]

theorem formOf_le0 (n : Int) : BitMath.formOf n ≤ 0 ↔ n = 0 := by
  unfold BitMath.formOf
  repeat' split
  all_goals omega
theorem formOf_le1 (n : Int) : BitMath.formOf n ≤ 1 ↔ -64 < n ∧ n < 65 := by
  unfold BitMath.formOf
  repeat' split
  all_goals omega
theorem formOf_le2 (n : Int) : BitMath.formOf n ≤ 2 ↔ -256 < n ∧ n < 257 := by
  unfold BitMath.formOf
  repeat' split
  all_goals omega
theorem formOf_le3 (n : Int) : BitMath.formOf n ≤ 3 ↔ -2048 < n ∧ n < 2049 := by
  unfold BitMath.formOf
  repeat' split
  all_goals omega
theorem hold0 (n : Int) (h0 : -9223372036854775808 ≤ n) (h1 : n ≤ 9223372036854775807) : (IntKind.u64.wrap n == 0) = decide (BitMath.formOf n ≤ 0) := by
  rw [Bool.eq_iff_iff, beq_iff_eq, decide_eq_true_iff, formOf_le0, IntKind.wrap_u64]
  omega
theorem hold1 (n : Int) (h0 : -9223372036854775808 ≤ n) (h1 : n ≤ 9223372036854775807) : (IntKind.u64.wrap (wrap64 (n + 63)) / 128 == 0) = decide (BitMath.formOf n ≤ 1) := by
  rw [Bool.eq_iff_iff, beq_iff_eq, decide_eq_true_iff, formOf_le1, IntKind.wrap_u64]
  unfold wrap64
  omega
theorem hold2 (n : Int) (h0 : -9223372036854775808 ≤ n) (h1 : n ≤ 9223372036854775807) : (IntKind.u64.wrap (wrap64 (n + 255)) / 512 == 0) = decide (BitMath.formOf n ≤ 2) := by
  rw [Bool.eq_iff_iff, beq_iff_eq, decide_eq_true_iff, formOf_le2, IntKind.wrap_u64]
  unfold wrap64
  omega
theorem hold3 (n : Int) (h0 : -9223372036854775808 ≤ n) (h1 : n ≤ 9223372036854775807) : (IntKind.u64.wrap (wrap64 (n + 2047)) / 4096 == 0) = decide (BitMath.formOf n ≤ 3) := by
  rw [Bool.eq_iff_iff, beq_iff_eq, decide_eq_true_iff, formOf_le3, IntKind.wrap_u64]
  unfold wrap64
  omega
theorem hold4 (n : Int) : (IntKind.u64.wrap n / 18446744073709551616 == 0) = decide (BitMath.formOf n ≤ 4) := by
  have h := BitMath.formOf_le n
  rw [Bool.eq_iff_iff, beq_iff_eq, decide_eq_true_iff, IntKind.wrap_u64]
  omega

end Go.Proofs.YtfanagohfimnkaaDoor
