/- tidegaugeref1.SameInts at two slices of the same numbers. -/
import Derived.Test.YtgdflopgdlpimaaDoorCoded
import Derived.Deep.QuietTactic
import Derived.BigQuiet
namespace Go.Proofs.YtgdflopgdlpimaaDoor
open Go.RowKit

set_option maxHeartbeats 1000000 in
theorem same_ints (ba bb n : Nat) (f : Nat → Int) (w : World) (hn : n < 4294967296) (ha : ∀ k, k < n → w.cell? ⟨ba, k, none⟩ = some (.int .i64 (f k))) (hb : ∀ k, k < n → w.cell? ⟨bb, k, none⟩ = some (.int .i64 (f k))) :
    Calls Tryd.prog 12 #[.slice (some ⟨ba, 0, none⟩) n n, .slice (some ⟨bb, 0, none⟩) n n] w fun e w' => e = .returned (.bool true) ∧ Below w.heap.size w w' ∧ (∀ x : Addr, w'.cell? x = w.cell? x) ∧ w'.heap = w.heap := by
  go_enter Tryd.func12, Tryd.ntmps12
  go_wp2_with fail
  go_loopw [5] (fun i wr => ∃ k q : Nat, k ≤ n ∧ i = .int .i64 k ∧ wr = w.drewN q) (fun i _ => n - (intOf i).toNat)
  case atStart => exact ⟨0, 0, Nat.zero_le _, rfl, rfl⟩
  case round =>
    obtain ⟨k, q, hk, rfl, rfl⟩ := hrel
    by_cases hlt : k < n
    · have h1 := ha k hlt
      have h2 := hb k hlt
      have h3 : (0 : Int) ≤ (k : Int) := by omega
      have h4 : (k : Int) < (n : Int) := by omega
      clear ha hb
      go_wp2_with fail
      go_quiet (fail)
      go_wp2
      go_roundw
      case rel => exact ⟨k + 1, _, by omega, by go_num, by first | rfl | (rw [World.drewN_drewN])⟩
      case measure => simp [intOf]; omega
    · go_wp2
      go_ret
      exact ⟨rfl, ⟨rfl, rfl, rfl, Nat.le_refl _, fun _ _ => rfl⟩, fun _ => by simp, rfl⟩
end Go.Proofs.YtgdflopgdlpimaaDoor
