/- The closed fact of the statements on sums. -/
import Derived.Test.YtegcalkeopkhfaaSmOf
namespace Go.Proofs.Ytegcalkeopkhfaa
open Go.RowKit PtMath SmMath

theorem summed_any (w : World) : Calls Try.prog 4 #[] w fun e w' => e = .returned (.bool true) ∧ Below w.heap.size w w' := by
  obtain ⟨W, hW⟩ : ∃ W, W = w.alloc (.cells #[.int .i64 1, .int .u64 5, .int .i64 2, .int .u64 3] 38) := ⟨_, rfl⟩
  have hb : Below w.heap.size w W := by rw [hW]; exact (Below.refl _ _).alloc (Nat.le_refl _) _
  have hk : W.heap[w.heap.size]? = some (.cells #[.int .i64 1, .int .u64 5, .int .i64 2, .int .u64 3] 38 (0, 0)) := by rw [hW]; exact heap_alloc_new _ _
  have hP : PtsL W (some ⟨w.heap.size, 0, none⟩) [(1, 5), (2, 3)] := .inr ⟨w.heap.size, 0, rfl, fun k hk' => by
    rcases k with _ | _ | k
    · exact ⟨cells_of hk 0, cells_of hk 1⟩
    · exact ⟨cells_of hk 2, cells_of hk 3⟩
    · simp at hk'; omega⟩
  have h := smOf_any W _ 2 _ hP (fun p hp => by
    simp at hp
    rcases hp with rfl | rfl
    · exact ⟨by decide, by decide, by decide⟩
    · exact ⟨by decide, by decide, by decide⟩) (by decide)
  have H : Hid (Calls Try.prog 5 #[.slice (some ⟨w.heap.size, 0, none⟩) 2 2] W fun e w' => e = .returned (.agg #[.int .i64 2, .int .u64 3, .int .u64 5, .int .u64 3, .int .u64 8]) ∧ Below W.heap.size W w') := h
  have HB := (show Hid _ from hb)
  rw [hW] at H HB
  clear h hP hk hb hW
  go_enter Try.func4, Try.ntmps4
  go_wp2_with fail
  refine Calls.mono H.out ?_
  rintro e w1 ⟨rfl, hb1⟩
  have HB1 : Hid (Below w.heap.size w w1) := HB.out.trans (hb1.mono HB.out.size)
  have hwl := HB1.out.size
  clear hb1
  go_wp2
  go_ret
  exact ⟨rfl, HB1.out.alloc hwl _⟩
end Go.Proofs.Ytegcalkeopkhfaa
