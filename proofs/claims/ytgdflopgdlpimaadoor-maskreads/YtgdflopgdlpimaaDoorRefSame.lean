/- The document's SameValues by its contract. -/
import Derived.Test.YtgdflopgdlpimaaDoorSlicesIn
import Derived.Test.YtgdflopgdlpimaaDoorChecked
import Derived.Deep.QuietTactic
import Derived.BigQuiet
namespace Go.Proofs.YtgdflopgdlpimaaDoor
open Go.RowKit

set_option maxRecDepth 1000000 in
theorem same_values (w : World) (a b : Option Addr) (n ca cb : Nat) (V : Nat → Nat) (ha : U64s w a n V) (hb : U64s w b n V) (hn : (n : Int) ≤ 100000) :
    Calls Tryd.prog 41 #[.slice a n ca, .slice b n cb] w fun e w' => e = .returned (.bool true) ∧ ∃ q, w' = w.drewN q := by
  have HA : Hid (U64s w a n V) := ha
  have HB : Hid (U64s w b n V) := hb
  clear ha hb
  go_enter Tryd.func41, Tryd.ntmps41
  go_wp2_with fail
  go_loopw [4, 5] (fun s4 i wr => s4 = .bool false ∧ ∃ k q : Nat, k ≤ n ∧ i = .int .i64 k ∧ wr = w.drewN q) (fun _ i _ => n - (intOf i).toNat)
  case atStart => exact ⟨rfl, 0, 0, Nat.zero_le _, rfl, rfl⟩
  case round =>
    obtain ⟨rfl, k, q, hk, rfl, rfl⟩ := hrel
    by_cases hlt : k < n
    · obtain ⟨b1, o1, rfl, h1⟩ := HA.out.at k hlt
      obtain ⟨b2, o2, rfl, h2⟩ := HB.out.at k hlt
      have hc1 := (h1 k hlt).1
      have hc2 := (h2 k hlt).1
      have hk0 : (0 : Int) ≤ (k : Int) := by omega
      have hk1 : (k : Int) < (n : Int) := by omega
      generalize V k = v at *
      clear h1 h2
      go_wp2_with fail
      go_quiet (fail)
      go_wp2
      go_roundw
      case rel => exact ⟨rfl, k + 1, _, by omega, by go_num, by first | rfl | (rw [World.drewN_drewN])⟩
      case measure => simp [intOf] <;> omega
    · have hge : (n : Int) ≤ (k : Int) := by omega
      go_wp2
      go_ret
      exact ⟨rfl, q, rfl⟩
end Go.Proofs.YtgdflopgdlpimaaDoor
