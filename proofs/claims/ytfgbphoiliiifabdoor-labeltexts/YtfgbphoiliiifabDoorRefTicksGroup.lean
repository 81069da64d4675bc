/- The document's answers on ticks, by contracts: IsTick, Fine, TicksFault, TicksOf. -/
import Derived.Test.YtfgbphoiliiifabDoorRefUnwave
import Derived.Test.YtfgbphoiliiifabDoorSlicesIn
import Derived.Deep.QuietTactic
import Derived.BigQuiet
import Derived.Test.YtfgbphoiliiifabDoorBitMathGroup
namespace Go.Proofs.YtfgbphoiliiifabDoor
open Go.RowKit

/-- Is it a tick? -/
def isTick (t : Int) : Bool := decide (-1099511627776 ≤ t) && decide (t ≤ 1099511627776)
theorem isTick_iff (t : Int) : isTick t = true ↔ -1099511627776 ≤ t ∧ t ≤ 1099511627776 := by simp [isTick]

/-- The variable of the result, behind what makes memory. -/
theorem one_block {w w2 : World} {C : Array Value} {t : TypeId} (h : Below (w.alloc (.cells C t)).heap.size (w.alloc (.cells C t)) w2) :
    (∀ i, w2.cell? ⟨w.heap.size, i, none⟩ = C[i]?) ∧ (∀ i, w2.frozen? ⟨w.heap.size, i, none⟩ = false) ∧ Below w.heap.size w w2 := by
  have hb : w2.heap[w.heap.size]? = some (.cells C t (0, 0)) := by
    rw [h.block w.heap.size (by simp)]
    exact heap_alloc_new _ _
  have hb0 : Below w.heap.size w (w.alloc (.cells C t)) := (Below.refl _ _).alloc (Nat.le_refl _) _
  exact ⟨fun i => by simp [World.cell?, hb], fun i => by simp [World.frozen?, hb], hb0.trans (h.mono (by simp))⟩

theorem fine_any (w : World) : Calls Tryd.prog 22 #[] w fun e w' => e = .returned (.agg #[.int .i64 0, .int .i64 (-1)]) ∧ Below w.heap.size w w' := by
  go_enter Tryd.func22, Tryd.ntmps22
  go_wp2
  exact bodyPost_ret (v := .agg #[.int .i64 0, .int .i64 (-1)]) (by simp [results, Tryd.results22, go_sem]) rfl ⟨rfl, (Below.refl _ _).alloc (Nat.le_refl _) _⟩

end Go.Proofs.YtfgbphoiliiifabDoor
/- The document's answers on points, by contracts: Bare, PointsFault, SamePoints. -/
namespace Go.Proofs.YtfgbphoiliiifabDoor
open Go.RowKit

theorem bare_any (c : Int) (w : World) : Calls Tryd.prog 23 #[.int .i64 c] w fun e w' => e = .returned (.agg #[.int .i64 c, .int .i64 (-1)]) ∧ Below w.heap.size w w' := by
  go_enter Tryd.func23, Tryd.ntmps23
  go_wp2
  exact bodyPost_ret (v := .agg #[.int .i64 c, .int .i64 (-1)]) (by simp [results, Tryd.results23, go_sem]) rfl ⟨rfl, (Below.refl _ _).alloc (Nat.le_refl _) _⟩

/-- Is the i-th point well behind the one ahead? -/
def ptOk (T : Nat → Int) (i : Nat) : Bool := isTick (T i) && (decide (i = 0) || decide (T (i - 1) < T i))

end Go.Proofs.YtfgbphoiliiifabDoor
