/- Package wave's Size and Put by contracts; the statements' helper waved. -/
import Derived.Test.YtfanagohfimnkaaDoorWaveForm
import Derived.Test.YtfanagohfimnkaaDoorPutGroup
namespace Go.Proofs.YtfanagohfimnkaaDoor
open Go.RowKit

/-- What becomes of a row's own block. -/
def Grew (w : World) (v v' : Value) : Prop := v'.ownBlock = v.ownBlock ∨ ∃ g, v'.ownBlock = some g ∧ w.heap.size ≤ g
theorem Grew.trans {w w1 : World} {v v1 v2 : Value} (h : Grew w v v1) (k : Grew w1 v1 v2) (hs : w.heap.size ≤ w1.heap.size) : Grew w v v2 := by
  rcases k with k | ⟨g, k, hg⟩
  · rcases h with h | ⟨g, h, hg⟩
    · exact .inl (k.trans h)
    · exact .inr ⟨g, k.trans h, hg⟩
  · exact .inr ⟨g, k, Nat.le_trans hs hg⟩
theorem Grew.mem {w : World} {v v' : Value} (h : Grew w v v') {r : Nat} : ∀ x, x ∈ r :: v'.ownBlock.toList → x ∈ r :: v.ownBlock.toList ∨ w.heap.size ≤ x := by
  intro x hx
  rcases List.mem_cons.1 hx with h1 | h1
  · exact .inl (by rw [h1]; simp)
  · rcases h with h | ⟨g, h, hg⟩
    · rw [h] at h1
      exact .inl (List.mem_cons.2 (.inr h1))
    · rw [h] at h1
      simp at h1
      subst h1
      exact .inr hg
/-- The mark of a form, as Put is handed it. -/
def markOf : Nat → Nat
  | 0 => 0
  | 1 => 2
  | 2 => 6
  | 3 => 14
  | _ => 15
theorem mark_bits (k : Nat) (hk : k ≤ 4) : BitMath.bitsOf (markOf k) (BitMath.headOf k).length = BitMath.headOf k := by
  match k, hk with
  | 0, _ => rfl
  | 1, _ => rfl
  | 2, _ => rfl
  | 3, _ => rfl
  | 4, _ => rfl

end Go.Proofs.YtfanagohfimnkaaDoor
