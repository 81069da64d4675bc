/- Package wave's forms by contracts: holds, size, formOf, Size. -/
import Derived.Test.YtlbdjkeaohdjkabDoorRefsGroup
import Derived.Test.YtlbdjkeaohdjkabDoorRows1Group
import Derived.Test.YtlbdjkeaohdjkabDoorBitMathGroup
namespace Go.Proofs.YtlbdjkeaohdjkabDoor
open Go.RowKit

/-- The twenty cells of the variable forms. -/
def formCells : List Value := [.int .u64 0, .int .i64 1, .int .i64 0, .int .i64 0, .int .u64 2, .int .i64 2, .int .i64 7, .int .i64 63, .int .u64 6, .int .i64 3, .int .i64 9, .int .i64 255, .int .u64 14, .int .i64 4, .int .i64 12, .int .i64 2047, .int .u64 15, .int .i64 4, .int .i64 64, .int .i64 0]
def Forms (w : World) : Prop := ∀ i, i < 20 → w.cell? ⟨7, i, none⟩ = formCells[i]?
/-- A form as a value. -/
def formVal : Nat → Value
  | 0 => .agg #[.int .u64 0, .int .i64 1, .int .i64 0, .int .i64 0]
  | 1 => .agg #[.int .u64 2, .int .i64 2, .int .i64 7, .int .i64 63]
  | 2 => .agg #[.int .u64 6, .int .i64 3, .int .i64 9, .int .i64 255]
  | 3 => .agg #[.int .u64 14, .int .i64 4, .int .i64 12, .int .i64 2047]
  | _ => .agg #[.int .u64 15, .int .i64 4, .int .i64 64, .int .i64 0]

theorem Forms.lt {w : World} (h : Forms w) : 7 < w.heap.size := by
  have := h 0 (by omega)
  rcases Nat.lt_or_ge 7 w.heap.size with h' | h'
  · exact h'
  · exact absurd this (by simp [World.cell?, Array.getElem?_eq_none h', formCells])
theorem Forms.below {w w' : World} (h : Forms w) {B : Nat} (hb : Below B w w') (hB : 7 < B) : Forms w' := fun i hi => (hb.cell (p := ⟨7, i, none⟩) hB).trans (h i hi)

theorem formOf_le0 (n : Int) : BitMath.formOf n ≤ 0 ↔ n = 0 := by
  unfold BitMath.formOf
  repeat' split
  all_goals omega
theorem formOf_le1 (n : Int) : BitMath.formOf n ≤ 1 ↔ -64 < n ∧ n < 65 := by
  unfold BitMath.formOf
  repeat' split
  all_goals omega
theorem formOf_le2 (n : Int) : BitMath.formOf n ≤ 2 ↔ -256 < n ∧ n < 257 := by
  unfold BitMath.formOf
  repeat' split
  all_goals omega
theorem formOf_le3 (n : Int) : BitMath.formOf n ≤ 3 ↔ -2048 < n ∧ n < 2049 := by
  unfold BitMath.formOf
  repeat' split
  all_goals omega
theorem hold0 (n : Int) (h0 : -9223372036854775808 ≤ n) (h1 : n ≤ 9223372036854775807) : (IntKind.u64.wrap n == 0) = decide (BitMath.formOf n ≤ 0) := by
  rw [Bool.eq_iff_iff, beq_iff_eq, decide_eq_true_iff, formOf_le0, IntKind.wrap_u64]
  omega
theorem hold1 (n : Int) (h0 : -9223372036854775808 ≤ n) (h1 : n ≤ 9223372036854775807) : (IntKind.u64.wrap (wrap64 (n + 63)) / 128 == 0) = decide (BitMath.formOf n ≤ 1) := by
  rw [Bool.eq_iff_iff, beq_iff_eq, decide_eq_true_iff, formOf_le1, IntKind.wrap_u64]
  unfold wrap64
  omega
theorem hold2 (n : Int) (h0 : -9223372036854775808 ≤ n) (h1 : n ≤ 9223372036854775807) : (IntKind.u64.wrap (wrap64 (n + 255)) / 512 == 0) = decide (BitMath.formOf n ≤ 2) := by
  rw [Bool.eq_iff_iff, beq_iff_eq, decide_eq_true_iff, formOf_le2, IntKind.wrap_u64]
  unfold wrap64
  omega
theorem hold3 (n : Int) (h0 : -9223372036854775808 ≤ n) (h1 : n ≤ 9223372036854775807) : (IntKind.u64.wrap (wrap64 (n + 2047)) / 4096 == 0) = decide (BitMath.formOf n ≤ 3) := by
  rw [Bool.eq_iff_iff, beq_iff_eq, decide_eq_true_iff, formOf_le3, IntKind.wrap_u64]
  unfold wrap64
  omega
theorem hold4 (n : Int) : (IntKind.u64.wrap n / 18446744073709551616 == 0) = decide (BitMath.formOf n ≤ 4) := by
  have h := BitMath.formOf_le n
  rw [Bool.eq_iff_iff, beq_iff_eq, decide_eq_true_iff, IntKind.wrap_u64]
  omega

theorem holds_at (k : Nat) (hk : k ≤ 4) (n : Int) (w : World) (h0 : -9223372036854775808 ≤ n) (h1 : n ≤ 9223372036854775807) :
    Calls Tryd.prog 88 #[formVal k, .int .i64 n] w fun e w' => e = .returned (.bool (decide (BitMath.formOf n ≤ k))) ∧ Below w.heap.size w w' := by
  match k, hk with
  | 0, _ =>
    have HH := (show Hid _ from hold0 n h0 h1)
    unfold formVal
    go_enter Tryd.func88, Tryd.ntmps88
    go_wp2
    go_ret
    exact ⟨congrArg (fun b => Ending.returned (Value.bool b)) HH.out, (Below.refl _ _).alloc (Nat.le_refl _) _⟩
  | 1, _ =>
    have HH := (show Hid _ from hold1 n h0 h1)
    unfold formVal
    go_enter Tryd.func88, Tryd.ntmps88
    go_wp2
    go_ret
    exact ⟨congrArg (fun b => Ending.returned (Value.bool b)) HH.out, (Below.refl _ _).alloc (Nat.le_refl _) _⟩
  | 2, _ =>
    have HH := (show Hid _ from hold2 n h0 h1)
    unfold formVal
    go_enter Tryd.func88, Tryd.ntmps88
    go_wp2
    go_ret
    exact ⟨congrArg (fun b => Ending.returned (Value.bool b)) HH.out, (Below.refl _ _).alloc (Nat.le_refl _) _⟩
  | 3, _ =>
    have HH := (show Hid _ from hold3 n h0 h1)
    unfold formVal
    go_enter Tryd.func88, Tryd.ntmps88
    go_wp2
    go_ret
    exact ⟨congrArg (fun b => Ending.returned (Value.bool b)) HH.out, (Below.refl _ _).alloc (Nat.le_refl _) _⟩
  | 4, _ =>
    have HH := (show Hid _ from hold4 n)
    unfold formVal
    go_enter Tryd.func88, Tryd.ntmps88
    go_wp2
    go_ret
    exact ⟨congrArg (fun b => Ending.returned (Value.bool b)) HH.out, (Below.refl _ _).alloc (Nat.le_refl _) _⟩

theorem size_at (k : Nat) (hk : k ≤ 4) (w : World) :
    Calls Tryd.prog 51 #[formVal k] w fun e w' => e = .returned (.int .i64 (((BitMath.headOf k).length + BitMath.wideOf k : Nat) : Int)) ∧ Below w.heap.size w w' := by
  match k, hk with
  | 0, _ =>
    unfold formVal
    go_enter Tryd.func51, Tryd.ntmps51
    go_wp2
    go_ret
    exact ⟨rfl, (Below.refl _ _).alloc (Nat.le_refl _) _⟩
  | 1, _ =>
    unfold formVal
    go_enter Tryd.func51, Tryd.ntmps51
    go_wp2
    go_ret
    exact ⟨rfl, (Below.refl _ _).alloc (Nat.le_refl _) _⟩
  | 2, _ =>
    unfold formVal
    go_enter Tryd.func51, Tryd.ntmps51
    go_wp2
    go_ret
    exact ⟨rfl, (Below.refl _ _).alloc (Nat.le_refl _) _⟩
  | 3, _ =>
    unfold formVal
    go_enter Tryd.func51, Tryd.ntmps51
    go_wp2
    go_ret
    exact ⟨rfl, (Below.refl _ _).alloc (Nat.le_refl _) _⟩
  | 4, _ =>
    unfold formVal
    go_enter Tryd.func51, Tryd.ntmps51
    go_wp2
    go_ret
    exact ⟨rfl, (Below.refl _ _).alloc (Nat.le_refl _) _⟩

theorem forms_four {w : World} (h : Forms w) (k : Nat) (hk : k ≤ 4) : ∀ j, j < 4 → w.cell? ⟨7, 4 * k + j, none⟩ = formCells[4 * k + j]? := fun j hj => h _ (by omega)

set_option maxRecDepth 1000000 in
set_option maxHeartbeats 2000000 in
theorem formOf_any (n : Int) (w : World) (hF : Forms w) (h0 : -9223372036854775808 ≤ n) (h1 : n ≤ 9223372036854775807) :
    Calls Tryd.prog 50 #[.int .i64 n] w fun e w' => e = .returned (formVal (BitMath.formOf n)) ∧ Below w.heap.size w w' := by
  have HF : Hid (Forms w) := hF
  have hlt := hF.lt
  clear hF
  go_enter Tryd.func50, Tryd.ntmps50
  go_wp2_with fail
  generalize hw0 : w.alloc (.cells #[.int .u64 0, .int .i64 0, .int .i64 0, .int .i64 0] 103) = wa
  have hba : Below w.heap.size w wa := by rw [← hw0]; exact (Below.refl _ _).alloc (Nat.le_refl _) _
  have hwa : wa.heap[w.heap.size]? = some (.cells #[.int .u64 0, .int .i64 0, .int .i64 0, .int .i64 0] 103 (0, 0)) := by rw [← hw0]; exact heap_alloc_new _ _
  have hsa : wa.heap.size = w.heap.size + 1 := by rw [← hw0]; simp
  have HWA := (show Hid _ from hwa)
  have HBA := (show Hid _ from hba)
  clear hw0 hwa hba
  go_loopw [3] (fun i wr => ∃ k : Nat, k ≤ BitMath.formOf n ∧ i = .int .i64 k ∧ Below wa.heap.size wa wr) (fun i _ => 4 - (intOf i).toNat)
  case atStart => exact ⟨0, Nat.zero_le _, rfl, Below.refl _ _⟩
  case round =>
    obtain ⟨k, hk, rfl, hbr⟩ := hrel
    have hfl := BitMath.formOf_le n
    have hF := (HF.out.below HBA.out hlt).below hbr (by omega)
    have hH := fun w0 => holds_at k (by omega) n w0 h0 h1
    have HBR := (show Hid _ from hbr)
    clear hbr
    by_cases hle : BitMath.formOf n ≤ k
    · have hek : BitMath.formOf n = k := by omega
      have HE := (show Hid _ from hek)
      have hd : decide (BitMath.formOf n ≤ k) = true := by simpa using hle
      rw [hd] at hH
      have hk4 : k ≤ 4 := by omega
      clear hd hek hfl hk hle
      rcases (by omega : k = 0 ∨ k = 1 ∨ k = 2 ∨ k = 3 ∨ k = 4) with rfl | rfl | rfl | rfl | rfl
      · have f0 : wr.cell? ⟨7, 0, none⟩ = some (.int .u64 0) := hF 0 (by omega)
        have f1 : wr.cell? ⟨7, 1, none⟩ = some (.int .i64 1) := hF 1 (by omega)
        have f2 : wr.cell? ⟨7, 2, none⟩ = some (.int .i64 0) := hF 2 (by omega)
        have f3 : wr.cell? ⟨7, 3, none⟩ = some (.int .i64 0) := hF 3 (by omega)
        unfold formVal at hH
        have HH := (show Hid _ from hH)
        have HFF : Hid (Forms wr) := hF
        clear hH hF
        go_wp2_with fail
        refine Calls.mono (HH.out _) ?_
        rintro e w1 ⟨rfl, hb1⟩
        have hF1 := HFF.out.below hb1 (by have := HBR.out.size; omega)
        have e0 : w1.cell? ⟨7, 0, none⟩ = some (.int .u64 0) := hF1 0 (by omega)
        have e1 : w1.cell? ⟨7, 1, none⟩ = some (.int .i64 1) := hF1 1 (by omega)
        have e2 : w1.cell? ⟨7, 2, none⟩ = some (.int .i64 0) := hF1 2 (by omega)
        have e3 : w1.cell? ⟨7, 3, none⟩ = some (.int .i64 0) := hF1 3 (by omega)
        have hblk : w1.heap[w.heap.size]? = some (.cells #[.int .u64 0, .int .i64 0, .int .i64 0, .int .i64 0] 103 (0, 0)) := by
          rw [hb1.block _ (by have := HBR.out.size; omega), HBR.out.block _ (by omega)]
          exact HWA.out
        have hbw : Below w.heap.size w w1 := HBA.out.trans ((HBR.out.mono (by omega)).trans (hb1.mono (by have := HBR.out.size; omega)))
        have z0 := cells_of hblk 0
        have z1 := cells_of hblk 1
        have z2 := cells_of hblk 2
        have z3 := cells_of hblk 3
        have y0 := frozen_of hblk 0
        have y1 := frozen_of hblk 1
        have y2 := frozen_of hblk 2
        have y3 := frozen_of hblk 3
        simp only [List.getElem?_toArray] at z0 z1 z2 z3
        clear hblk hF1 f0 f1 f2 f3 hb1
        go_wp2
        refine bodyPost_ret (v := formVal 0) (by simp [results, Tryd.results50, go_sem, formVal, z0, z1, z2, z3]) rfl ⟨by rw [HE.out], ?_⟩
        exact (((hbw.setCell (Nat.le_refl _) _).setCell (Nat.le_refl _) _).setCell (Nat.le_refl _) _).setCell (Nat.le_refl _) _
      · have f0 : wr.cell? ⟨7, 4, none⟩ = some (.int .u64 2) := hF 4 (by omega)
        have f1 : wr.cell? ⟨7, 5, none⟩ = some (.int .i64 2) := hF 5 (by omega)
        have f2 : wr.cell? ⟨7, 6, none⟩ = some (.int .i64 7) := hF 6 (by omega)
        have f3 : wr.cell? ⟨7, 7, none⟩ = some (.int .i64 63) := hF 7 (by omega)
        unfold formVal at hH
        have HH := (show Hid _ from hH)
        have HFF : Hid (Forms wr) := hF
        clear hH hF
        go_wp2_with fail
        refine Calls.mono (HH.out _) ?_
        rintro e w1 ⟨rfl, hb1⟩
        have hF1 := HFF.out.below hb1 (by have := HBR.out.size; omega)
        have e0 : w1.cell? ⟨7, 4, none⟩ = some (.int .u64 2) := hF1 4 (by omega)
        have e1 : w1.cell? ⟨7, 5, none⟩ = some (.int .i64 2) := hF1 5 (by omega)
        have e2 : w1.cell? ⟨7, 6, none⟩ = some (.int .i64 7) := hF1 6 (by omega)
        have e3 : w1.cell? ⟨7, 7, none⟩ = some (.int .i64 63) := hF1 7 (by omega)
        have hblk : w1.heap[w.heap.size]? = some (.cells #[.int .u64 0, .int .i64 0, .int .i64 0, .int .i64 0] 103 (0, 0)) := by
          rw [hb1.block _ (by have := HBR.out.size; omega), HBR.out.block _ (by omega)]
          exact HWA.out
        have hbw : Below w.heap.size w w1 := HBA.out.trans ((HBR.out.mono (by omega)).trans (hb1.mono (by have := HBR.out.size; omega)))
        have z0 := cells_of hblk 0
        have z1 := cells_of hblk 1
        have z2 := cells_of hblk 2
        have z3 := cells_of hblk 3
        have y0 := frozen_of hblk 0
        have y1 := frozen_of hblk 1
        have y2 := frozen_of hblk 2
        have y3 := frozen_of hblk 3
        simp only [List.getElem?_toArray] at z0 z1 z2 z3
        clear hblk hF1 f0 f1 f2 f3 hb1
        go_wp2
        refine bodyPost_ret (v := formVal 1) (by simp [results, Tryd.results50, go_sem, formVal, z0, z1, z2, z3]) rfl ⟨by rw [HE.out], ?_⟩
        exact (((hbw.setCell (Nat.le_refl _) _).setCell (Nat.le_refl _) _).setCell (Nat.le_refl _) _).setCell (Nat.le_refl _) _
      · have f0 : wr.cell? ⟨7, 8, none⟩ = some (.int .u64 6) := hF 8 (by omega)
        have f1 : wr.cell? ⟨7, 9, none⟩ = some (.int .i64 3) := hF 9 (by omega)
        have f2 : wr.cell? ⟨7, 10, none⟩ = some (.int .i64 9) := hF 10 (by omega)
        have f3 : wr.cell? ⟨7, 11, none⟩ = some (.int .i64 255) := hF 11 (by omega)
        unfold formVal at hH
        have HH := (show Hid _ from hH)
        have HFF : Hid (Forms wr) := hF
        clear hH hF
        go_wp2_with fail
        refine Calls.mono (HH.out _) ?_
        rintro e w1 ⟨rfl, hb1⟩
        have hF1 := HFF.out.below hb1 (by have := HBR.out.size; omega)
        have e0 : w1.cell? ⟨7, 8, none⟩ = some (.int .u64 6) := hF1 8 (by omega)
        have e1 : w1.cell? ⟨7, 9, none⟩ = some (.int .i64 3) := hF1 9 (by omega)
        have e2 : w1.cell? ⟨7, 10, none⟩ = some (.int .i64 9) := hF1 10 (by omega)
        have e3 : w1.cell? ⟨7, 11, none⟩ = some (.int .i64 255) := hF1 11 (by omega)
        have hblk : w1.heap[w.heap.size]? = some (.cells #[.int .u64 0, .int .i64 0, .int .i64 0, .int .i64 0] 103 (0, 0)) := by
          rw [hb1.block _ (by have := HBR.out.size; omega), HBR.out.block _ (by omega)]
          exact HWA.out
        have hbw : Below w.heap.size w w1 := HBA.out.trans ((HBR.out.mono (by omega)).trans (hb1.mono (by have := HBR.out.size; omega)))
        have z0 := cells_of hblk 0
        have z1 := cells_of hblk 1
        have z2 := cells_of hblk 2
        have z3 := cells_of hblk 3
        have y0 := frozen_of hblk 0
        have y1 := frozen_of hblk 1
        have y2 := frozen_of hblk 2
        have y3 := frozen_of hblk 3
        simp only [List.getElem?_toArray] at z0 z1 z2 z3
        clear hblk hF1 f0 f1 f2 f3 hb1
        go_wp2
        refine bodyPost_ret (v := formVal 2) (by simp [results, Tryd.results50, go_sem, formVal, z0, z1, z2, z3]) rfl ⟨by rw [HE.out], ?_⟩
        exact (((hbw.setCell (Nat.le_refl _) _).setCell (Nat.le_refl _) _).setCell (Nat.le_refl _) _).setCell (Nat.le_refl _) _
      · have f0 : wr.cell? ⟨7, 12, none⟩ = some (.int .u64 14) := hF 12 (by omega)
        have f1 : wr.cell? ⟨7, 13, none⟩ = some (.int .i64 4) := hF 13 (by omega)
        have f2 : wr.cell? ⟨7, 14, none⟩ = some (.int .i64 12) := hF 14 (by omega)
        have f3 : wr.cell? ⟨7, 15, none⟩ = some (.int .i64 2047) := hF 15 (by omega)
        unfold formVal at hH
        have HH := (show Hid _ from hH)
        have HFF : Hid (Forms wr) := hF
        clear hH hF
        go_wp2_with fail
        refine Calls.mono (HH.out _) ?_
        rintro e w1 ⟨rfl, hb1⟩
        have hF1 := HFF.out.below hb1 (by have := HBR.out.size; omega)
        have e0 : w1.cell? ⟨7, 12, none⟩ = some (.int .u64 14) := hF1 12 (by omega)
        have e1 : w1.cell? ⟨7, 13, none⟩ = some (.int .i64 4) := hF1 13 (by omega)
        have e2 : w1.cell? ⟨7, 14, none⟩ = some (.int .i64 12) := hF1 14 (by omega)
        have e3 : w1.cell? ⟨7, 15, none⟩ = some (.int .i64 2047) := hF1 15 (by omega)
        have hblk : w1.heap[w.heap.size]? = some (.cells #[.int .u64 0, .int .i64 0, .int .i64 0, .int .i64 0] 103 (0, 0)) := by
          rw [hb1.block _ (by have := HBR.out.size; omega), HBR.out.block _ (by omega)]
          exact HWA.out
        have hbw : Below w.heap.size w w1 := HBA.out.trans ((HBR.out.mono (by omega)).trans (hb1.mono (by have := HBR.out.size; omega)))
        have z0 := cells_of hblk 0
        have z1 := cells_of hblk 1
        have z2 := cells_of hblk 2
        have z3 := cells_of hblk 3
        have y0 := frozen_of hblk 0
        have y1 := frozen_of hblk 1
        have y2 := frozen_of hblk 2
        have y3 := frozen_of hblk 3
        simp only [List.getElem?_toArray] at z0 z1 z2 z3
        clear hblk hF1 f0 f1 f2 f3 hb1
        go_wp2
        refine bodyPost_ret (v := formVal 3) (by simp [results, Tryd.results50, go_sem, formVal, z0, z1, z2, z3]) rfl ⟨by rw [HE.out], ?_⟩
        exact (((hbw.setCell (Nat.le_refl _) _).setCell (Nat.le_refl _) _).setCell (Nat.le_refl _) _).setCell (Nat.le_refl _) _
      · have f0 : wr.cell? ⟨7, 16, none⟩ = some (.int .u64 15) := hF 16 (by omega)
        have f1 : wr.cell? ⟨7, 17, none⟩ = some (.int .i64 4) := hF 17 (by omega)
        have f2 : wr.cell? ⟨7, 18, none⟩ = some (.int .i64 64) := hF 18 (by omega)
        have f3 : wr.cell? ⟨7, 19, none⟩ = some (.int .i64 0) := hF 19 (by omega)
        unfold formVal at hH
        have HH := (show Hid _ from hH)
        have HFF : Hid (Forms wr) := hF
        clear hH hF
        go_wp2_with fail
        refine Calls.mono (HH.out _) ?_
        rintro e w1 ⟨rfl, hb1⟩
        have hF1 := HFF.out.below hb1 (by have := HBR.out.size; omega)
        have e0 : w1.cell? ⟨7, 16, none⟩ = some (.int .u64 15) := hF1 16 (by omega)
        have e1 : w1.cell? ⟨7, 17, none⟩ = some (.int .i64 4) := hF1 17 (by omega)
        have e2 : w1.cell? ⟨7, 18, none⟩ = some (.int .i64 64) := hF1 18 (by omega)
        have e3 : w1.cell? ⟨7, 19, none⟩ = some (.int .i64 0) := hF1 19 (by omega)
        have hblk : w1.heap[w.heap.size]? = some (.cells #[.int .u64 0, .int .i64 0, .int .i64 0, .int .i64 0] 103 (0, 0)) := by
          rw [hb1.block _ (by have := HBR.out.size; omega), HBR.out.block _ (by omega)]
          exact HWA.out
        have hbw : Below w.heap.size w w1 := HBA.out.trans ((HBR.out.mono (by omega)).trans (hb1.mono (by have := HBR.out.size; omega)))
        have z0 := cells_of hblk 0
        have z1 := cells_of hblk 1
        have z2 := cells_of hblk 2
        have z3 := cells_of hblk 3
        have y0 := frozen_of hblk 0
        have y1 := frozen_of hblk 1
        have y2 := frozen_of hblk 2
        have y3 := frozen_of hblk 3
        simp only [List.getElem?_toArray] at z0 z1 z2 z3
        clear hblk hF1 f0 f1 f2 f3 hb1
        go_wp2
        refine bodyPost_ret (v := formVal 4) (by simp [results, Tryd.results50, go_sem, formVal, z0, z1, z2, z3]) rfl ⟨by rw [HE.out], ?_⟩
        exact (((hbw.setCell (Nat.le_refl _) _).setCell (Nat.le_refl _) _).setCell (Nat.le_refl _) _).setCell (Nat.le_refl _) _
    · have hd : decide (BitMath.formOf n ≤ k) = false := by simpa using hle
      rw [hd] at hH
      have hk3 : k ≤ 3 := by omega
      have hgt : k + 1 ≤ BitMath.formOf n := by omega
      have HKF := (show Hid _ from hgt)
      clear hd hfl hk hle hgt
      rcases (by omega : k = 0 ∨ k = 1 ∨ k = 2 ∨ k = 3) with rfl | rfl | rfl | rfl
      · have f0 : wr.cell? ⟨7, 0, none⟩ = some (.int .u64 0) := hF 0 (by omega)
        have f1 : wr.cell? ⟨7, 1, none⟩ = some (.int .i64 1) := hF 1 (by omega)
        have f2 : wr.cell? ⟨7, 2, none⟩ = some (.int .i64 0) := hF 2 (by omega)
        have f3 : wr.cell? ⟨7, 3, none⟩ = some (.int .i64 0) := hF 3 (by omega)
        unfold formVal at hH
        have HH := (show Hid _ from hH)
        have HFF : Hid (Forms wr) := hF
        clear hH hF
        go_wp2_with fail
        refine Calls.mono (HH.out _) ?_
        rintro e w1 ⟨rfl, hb1⟩
        have hb2 := HBR.out.trans (hb1.mono HBR.out.size)
        clear f0 f1 f2 f3 hb1
        go_wp2
        go_roundw
        case rel => exact ⟨1, by have := HKF.out; omega, rfl, hb2⟩
        case measure => simp [intOf]
      · have f0 : wr.cell? ⟨7, 4, none⟩ = some (.int .u64 2) := hF 4 (by omega)
        have f1 : wr.cell? ⟨7, 5, none⟩ = some (.int .i64 2) := hF 5 (by omega)
        have f2 : wr.cell? ⟨7, 6, none⟩ = some (.int .i64 7) := hF 6 (by omega)
        have f3 : wr.cell? ⟨7, 7, none⟩ = some (.int .i64 63) := hF 7 (by omega)
        unfold formVal at hH
        have HH := (show Hid _ from hH)
        have HFF : Hid (Forms wr) := hF
        clear hH hF
        go_wp2_with fail
        refine Calls.mono (HH.out _) ?_
        rintro e w1 ⟨rfl, hb1⟩
        have hb2 := HBR.out.trans (hb1.mono HBR.out.size)
        clear f0 f1 f2 f3 hb1
        go_wp2
        go_roundw
        case rel => exact ⟨2, by have := HKF.out; omega, rfl, hb2⟩
        case measure => simp [intOf]
      · have f0 : wr.cell? ⟨7, 8, none⟩ = some (.int .u64 6) := hF 8 (by omega)
        have f1 : wr.cell? ⟨7, 9, none⟩ = some (.int .i64 3) := hF 9 (by omega)
        have f2 : wr.cell? ⟨7, 10, none⟩ = some (.int .i64 9) := hF 10 (by omega)
        have f3 : wr.cell? ⟨7, 11, none⟩ = some (.int .i64 255) := hF 11 (by omega)
        unfold formVal at hH
        have HH := (show Hid _ from hH)
        have HFF : Hid (Forms wr) := hF
        clear hH hF
        go_wp2_with fail
        refine Calls.mono (HH.out _) ?_
        rintro e w1 ⟨rfl, hb1⟩
        have hb2 := HBR.out.trans (hb1.mono HBR.out.size)
        clear f0 f1 f2 f3 hb1
        go_wp2
        go_roundw
        case rel => exact ⟨3, by have := HKF.out; omega, rfl, hb2⟩
        case measure => simp [intOf]
      · have f0 : wr.cell? ⟨7, 12, none⟩ = some (.int .u64 14) := hF 12 (by omega)
        have f1 : wr.cell? ⟨7, 13, none⟩ = some (.int .i64 4) := hF 13 (by omega)
        have f2 : wr.cell? ⟨7, 14, none⟩ = some (.int .i64 12) := hF 14 (by omega)
        have f3 : wr.cell? ⟨7, 15, none⟩ = some (.int .i64 2047) := hF 15 (by omega)
        unfold formVal at hH
        have HH := (show Hid _ from hH)
        have HFF : Hid (Forms wr) := hF
        clear hH hF
        go_wp2_with fail
        refine Calls.mono (HH.out _) ?_
        rintro e w1 ⟨rfl, hb1⟩
        have hb2 := HBR.out.trans (hb1.mono HBR.out.size)
        clear f0 f1 f2 f3 hb1
        go_wp2
        go_roundw
        case rel => exact ⟨4, by have := HKF.out; omega, rfl, hb2⟩
        case measure => simp [intOf]
end Go.Proofs.YtlbdjkeaohdjkabDoor
