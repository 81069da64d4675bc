/- The document's answers on ticks, by contracts: IsTick, Fine, TicksFault, TicksOf. -/
import Derived.Test.YtnjmplmogibgfabDoorRefUnwave
import Derived.Test.YtnjmplmogibgfabDoorSlicesIn
import Derived.Deep.QuietTactic
import Derived.BigQuiet
import Derived.Test.YtnjmplmogibgfabDoorBitMathGroup
namespace Go.Proofs.YtnjmplmogibgfabDoor
open Go.RowKit

/-- Is it a tick? -/
def isTick (t : Int) : Bool := decide (-1099511627776 ≤ t) && decide (t ≤ 1099511627776)
theorem isTick_iff (t : Int) : isTick t = true ↔ -1099511627776 ≤ t ∧ t ≤ 1099511627776 := by simp [isTick]

set_option maxRecDepth 1000000 in
theorem is_tick (t : Int) (w : World) : Calls Tryd.prog 125 #[.int .i64 t] w fun e w' => e = .returned (.bool (isTick t)) ∧ w' = w := by
  by_cases h1 : -1099511627776 ≤ t
  · have d1 : decide (-1099511627776 ≤ t) = true := by simpa using h1
    by_cases h2 : t ≤ 1099511627776
    · have d2 : decide (t ≤ 1099511627776) = true := by simpa using h2
      have e : isTick t = true := by unfold isTick; rw [d1, d2]; rfl
      have HE := (show Hid _ from e)
      clear e h1 h2
      go_enter Tryd.func125, Tryd.ntmps125
      go_wp2
      go_ret
      exact ⟨by rw [HE.out]; rfl, rfl⟩
    · have d2 : decide (t ≤ 1099511627776) = false := by simpa using h2
      have e : isTick t = false := by unfold isTick; rw [d1, d2]; rfl
      have HE := (show Hid _ from e)
      clear e h1 h2
      go_enter Tryd.func125, Tryd.ntmps125
      go_wp2
      go_ret
      exact ⟨by rw [HE.out]; rfl, rfl⟩
  · have d1 : decide (-1099511627776 ≤ t) = false := by simpa using h1
    have e : isTick t = false := by unfold isTick; rw [d1]; rfl
    have HE := (show Hid _ from e)
    clear e h1
    go_enter Tryd.func125, Tryd.ntmps125
    go_wp2
    go_ret
    exact ⟨by rw [HE.out]; rfl, rfl⟩

/-- The variable of the result, behind what makes memory. -/
theorem one_block {w w2 : World} {C : Array Value} {t : TypeId} (h : Below (w.alloc (.cells C t)).heap.size (w.alloc (.cells C t)) w2) :
    (∀ i, w2.cell? ⟨w.heap.size, i, none⟩ = C[i]?) ∧ (∀ i, w2.frozen? ⟨w.heap.size, i, none⟩ = false) ∧ Below w.heap.size w w2 := by
  have hb : w2.heap[w.heap.size]? = some (.cells C t (0, 0)) := by
    rw [h.block w.heap.size (by simp)]
    exact heap_alloc_new _ _
  have hb0 : Below w.heap.size w (w.alloc (.cells C t)) := (Below.refl _ _).alloc (Nat.le_refl _) _
  exact ⟨fun i => by simp [World.cell?, hb], fun i => by simp [World.frozen?, hb], hb0.trans (h.mono (by simp))⟩

theorem fine_any (w : World) : Calls Tryd.prog 27 #[] w fun e w' => e = .returned (.agg #[.int .i64 0, .int .i64 (-1)]) ∧ Below w.heap.size w w' := by
  go_enter Tryd.func27, Tryd.ntmps27
  go_wp2
  exact bodyPost_ret (v := .agg #[.int .i64 0, .int .i64 (-1)]) (by simp [results, Tryd.results27, go_sem]) rfl ⟨rfl, (Below.refl _ _).alloc (Nat.le_refl _) _⟩

end Go.Proofs.YtnjmplmogibgfabDoor
/- The document's answers on points, by contracts: Bare, PointsFault, SamePoints. -/
namespace Go.Proofs.YtnjmplmogibgfabDoor
open Go.RowKit

theorem bare_any (c : Int) (w : World) : Calls Tryd.prog 28 #[.int .i64 c] w fun e w' => e = .returned (.agg #[.int .i64 c, .int .i64 (-1)]) ∧ Below w.heap.size w w' := by
  go_enter Tryd.func28, Tryd.ntmps28
  go_wp2
  exact bodyPost_ret (v := .agg #[.int .i64 c, .int .i64 (-1)]) (by simp [results, Tryd.results28, go_sem]) rfl ⟨rfl, (Below.refl _ _).alloc (Nat.le_refl _) _⟩

/-- Is the i-th point well behind the one ahead? -/
def ptOk (T : Nat → Int) (i : Nat) : Bool := isTick (T i) && (decide (i = 0) || decide (T (i - 1) < T i))

set_option maxRecDepth 1000000 in
theorem same_points (w : World) (a b : Option Addr) (n ca cb : Nat) (T : Nat → Int) (B : Nat → Nat) (ha : Pts w a n T B) (hb : Pts w b n T B) (hn : (n : Int) ≤ 100000) :
    Calls Tryd.prog 42 #[.slice a n ca, .slice b n cb] w fun e w' => e = .returned (.bool true) ∧ ∃ q, w' = w.drewN q := by
  have HA : Hid (Pts w a n T B) := ha
  have HB : Hid (Pts w b n T B) := hb
  clear ha hb
  go_enter Tryd.func42, Tryd.ntmps42
  go_wp2_with fail
  go_loopw [4, 5] (fun s4 i wr => s4 = .bool false ∧ ∃ k q : Nat, k ≤ n ∧ i = .int .i64 k ∧ wr = w.drewN q) (fun _ i _ => n - (intOf i).toNat)
  case atStart => exact ⟨rfl, 0, 0, Nat.zero_le _, rfl, rfl⟩
  case round =>
    obtain ⟨rfl, k, q, hk, rfl, rfl⟩ := hrel
    by_cases hlt : k < n
    · obtain ⟨b1, o1, rfl, h1⟩ := HA.out.at k hlt
      obtain ⟨b2, o2, rfl, h2⟩ := HB.out.at k hlt
      obtain ⟨hc1, hd1, _⟩ := h1 k hlt
      obtain ⟨hc2, hd2, _⟩ := h2 k hlt
      have hk0 : (0 : Int) ≤ (k : Int) := by omega
      have hk1 : (k : Int) < (n : Int) := by omega
      generalize T k = t at *
      generalize B k = v at *
      clear h1 h2
      go_wp2_with fail
      go_quiet (fail)
      go_wp2
      go_roundw
      case rel => exact ⟨rfl, k + 1, _, by omega, by go_num, by first | rfl | (rw [World.drewN_drewN])⟩
      case measure => simp [intOf] <;> omega
    · have hge : (n : Int) ≤ (k : Int) := by omega
      go_wp2
      go_ret
      exact ⟨rfl, q, rfl⟩
end Go.Proofs.YtnjmplmogibgfabDoor
