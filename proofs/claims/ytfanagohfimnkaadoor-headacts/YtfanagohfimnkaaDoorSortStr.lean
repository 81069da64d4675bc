/- slices.Sort of texts of one's own by its contract. -/
import Derived.Test.YtfanagohfimnkaaDoorSortLay
import Derived.Sort.OwnSorted
import Derived.Sort.KeysCollected
namespace Go.Proofs.YtfanagohfimnkaaDoor
open Go.RowKit Go.Shelf

set_option maxRecDepth 1000000 in
theorem sortStr_none (w : World) :
    Calls Tryd.prog 50 #[.slice none 0 0] w fun e w' => e = .returned (.tuple #[]) ∧ w' = w := by
  have HI : Hid (∀ w, Calls Tryd.prog 85 #[.slice none 0 0, .int .i64 0, .int .i64 0] w fun e w' => e = .returned (.tuple #[]) ∧ w' = w) := fun w => by
    go_enter Tryd.func85, Tryd.ntmps85
    go_wp2
    refine wp_loop_rounds 1 ?_
    rw [rounds_succ]
    go_wp2
    go_end0
    exact ⟨rfl, rfl⟩
  have HP : Hid (∀ w, Calls Tryd.prog 67 #[.slice none 0 0, .int .i64 0, .int .i64 0, .int .i64 0] w fun e w' => e = .returned (.tuple #[]) ∧ w' = w) := fun w => by
    go_enter Tryd.func67, Tryd.ntmps67
    go_wp2
    refine wp_loop_rounds 1 ?_
    rw [rounds_succ]
    go_wp2_with fail
    refine Calls.mono (HI.out _) ?_
    rintro e w1 ⟨rfl, hw1⟩
    have hw1' := hw1
    subst hw1'
    go_wp2
    refine bodyPost_ret (results_none rfl _ _ _) rfl ?_
    exact ⟨rfl, rfl⟩
  have HL : Hid (∀ w, Calls Tryd.prog 68 #[.int .u64 0] w fun e w' => e = .returned (.int .i64 0) ∧ w' = w) := fun w => Any.bits_Len lays125 0 w (by omega) (by omega)
  go_enter Tryd.func50, Tryd.ntmps50
  go_wp2_with fail
  refine Calls.mono (HL.out _) ?_
  rintro e w1 ⟨rfl, hw1⟩
  have hw1' := hw1
  subst hw1'
  go_wp2_with fail
  refine Calls.mono (HP.out _) ?_
  rintro e w1 ⟨rfl, hw1⟩
  have hw1' := hw1
  subst hw1'
  go_wp2
  go_end0
  exact ⟨rfl, rfl⟩
/-- The texts of a row of one's own are sorted in place; nothing else turns. -/
theorem sortStr_any (w : World) (base : Nat) (v : Value) (ss : List (List UInt8)) (hown : w.ownsRow base 9 1 v ss.length (ss.map encStr)) (hn : ss.length ≤ 1000000) (h0 : ss = [] → v = .slice none 0 0) :
    Calls Tryd.prog 50 #[v] w fun e w' => e = .returned (.tuple #[]) ∧ w'.ownsRow base 9 1 v ss.length ((ss.mergeSort leB).map encStr) ∧ w.grownBy w' v.ownBlock := by
  by_cases hs : ss = []
  · have hv := h0 hs
    subst hs hv
    refine (sortStr_none w).mono ?_
    rintro e w' ⟨rfl, rfl⟩
    exact ⟨rfl, by simpa using hown, ⟨rfl, rfl, rfl, Nat.le_refl _, fun _ _ _ => rfl⟩⟩
  · rcases hown.2 with ⟨_, hz⟩ | ⟨g, cap, cur, rfl, hbase, hh, h1, h2, h3, h4⟩
    · exact absurd (List.eq_nil_of_length_eq_zero hz) hs
    · refine Calls.mono (Any.slices_Sort_string lays190 g 0 cap ss w (holds_of_block hh (by simpa using h4)) (Array.getElem?_eq_some_iff.1 hh).1 (by omega)) ?_
      rintro e w' ⟨rfl, n, os, rfl⟩
      exact ⟨rfl, ownsRow_sorted (by simp) hbase hh h1 h2 h3, grownBy_sorted _⟩
end Go.Proofs.YtfanagohfimnkaaDoor
