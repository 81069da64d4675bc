/- Package wave's Put by contracts; the statements' helper waved. -/
import Derived.Test.YtfanagohfimnkaaDoorWavePut
namespace Go.Proofs.YtfanagohfimnkaaDoor
open Go.RowKit

/-- A variable that holds a struct, behind what makes memory. -/
theorem form_var {w1 w2 : World} {C : Array Value} {t : TypeId} (h : Below (w1.alloc (.cells C t)).heap.size (w1.alloc (.cells C t)) w2) : w2.heap[w1.heap.size]? = some (.cells C t (0, 0)) ∧ Below w1.heap.size w1 w2 := by
  have hb : Below w1.heap.size w1 (w1.alloc (.cells C t)) := (Below.refl _ _).alloc (Nat.le_refl _) _
  refine ⟨?_, hb.trans (h.mono (by simp))⟩
  rw [h.block w1.heap.size (by simp)]
  exact heap_alloc_new _ _

end Go.Proofs.YtfanagohfimnkaaDoor
