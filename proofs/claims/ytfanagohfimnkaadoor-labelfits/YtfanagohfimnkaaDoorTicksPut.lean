/- Package wave's Ticks by its contract, where every tick is in bounds and there is room. -/
import Derived.Test.YtfanagohfimnkaaDoorBitMathGroup
import Derived.Test.YtfanagohfimnkaaDoorWavePut2
import Derived.Test.YtfanagohfimnkaaDoorWaveGet
import Derived.Test.YtfanagohfimnkaaDoorSlicesIn
import Derived.Test.YtfanagohfimnkaaDoorRefLabOfGroup
namespace Go.Proofs.YtfanagohfimnkaaDoor
open Go.RowKit
theorem two_blocks {w : World} {C D : Array Value} {t u : TypeId} : (∀ i, ((w.alloc (.cells C t)).alloc (.cells D u)).cell? ⟨w.heap.size + 1, i, none⟩ = D[i]?) ∧ Below w.heap.size w ((w.alloc (.cells C t)).alloc (.cells D u)) := by
  refine ⟨fun i => ?_, ((Below.refl _ _).alloc (Nat.le_refl _) _).alloc (by simp) _⟩
  have h : ((w.alloc (.cells C t)).alloc (.cells D u)).heap[w.heap.size + 1]? = some (.cells D u (0, 0)) := by
    have := heap_alloc_new (w.alloc (.cells C t)) (.cells D u)
    simpa using this
  exact cells_of h i

theorem delta_bounds (G : Nat → Int) (n k : Nat) (hk : k < n) (hok : ∀ i, i < n → -1099511627776 ≤ G i ∧ G i ≤ 1099511627776) : -9223372036854775808 ≤ deltaOf G k ∧ deltaOf G k ≤ 9223372036854775807 := by
  have hb := course_bounds G n k (by omega) hok
  have ht := hok k hk
  rw [← course_delta]
  omega

/-- Blocks below r stay: what a slice that came in keeps. -/
theorem Ints.low {w w' : World} {a : Option Addr} {n : Nat} {G : Nat → Int} (h : Ints w a n G) {r : Nat} (hb : Below r w w') (hr : ∀ x, a = some x → x.block < r) : Ints w' a n G := by
  rcases h with h | ⟨b, o, h, hc⟩
  · exact .inl h
  · refine .inr ⟨b, o, h, fun k hk => ?_⟩
    exact (hb.cell (p := ⟨b, o + k, none⟩) (show b < r from hr _ h)).trans (hc k hk)

theorem Kept.lows {S : List Nat} {w w' : World} {r : Nat} (h : Kept S w w') (hr : r ≤ w.heap.size) (hS : ∀ x, x ∈ S → r ≤ x) : Below r w w' := h.below hr hS

end Go.Proofs.YtfanagohfimnkaaDoor
