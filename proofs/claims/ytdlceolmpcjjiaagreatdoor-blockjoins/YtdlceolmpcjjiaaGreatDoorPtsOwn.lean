/- Points of the call's own, by ticks and values or as a list. -/
import Derived.Test.YtdlceolmpcjjiaaGreatDoorPtMerge
import Derived.Test.YtdlceolmpcjjiaaGreatDoorRefReadGroup
import Derived.Test.YtdlceolmpcjjiaaGreatDoorRefTicksGroup
namespace Go.Proofs.YtdlceolmpcjjiaaGreatDoor
open Go.RowKit PtMath

theorem pairCells_listOf (T : Nat → Int) (B : Nat → Nat) : ∀ n, pairCells (listOf T B n) = ptCells T B n
  | 0 => rfl
  | n + 1 => by
    rw [ptCells, ← pairCells_listOf T B n]
    have e : listOf T B (n + 1) = listOf T B n ++ [(T n, B n)] := by simp [listOf, List.range_succ]
    rw [e, ← pairCells_snoc]
theorem length_listOf (T : Nat → Int) (B : Nat → Nat) (n : Nat) : (listOf T B n).length = n := by simp [listOf]
/-- A list of points, as ticks and values. -/
def tickAt (l : List (Int × Nat)) (i : Nat) : Int := (l.getD i (0, 0)).1
def bitAt (l : List (Int × Nat)) (i : Nat) : Nat := (l.getD i (0, 0)).2
theorem pts_of_list {w : World} {a : Option Addr} {l : List (Int × Nat)} (h : PtsL w a l) (hin : PtsIn l) : Pts w a l.length (tickAt l) (bitAt l) := by
  rcases h with h | ⟨b, o, h, hc⟩
  · subst h
    exact .inl rfl
  · refine .inr ⟨b, o, h, fun k hk => ?_⟩
    obtain ⟨c0, c1⟩ := hc k hk
    have e : l.getD k (0, 0) = l[k] := by simp [List.getD_eq_getElem?_getD, hk]
    have hm := hin l[k] (List.getElem_mem hk)
    unfold tickAt bitAt
    rw [e]
    exact ⟨c0, c1, hm.1, hm.2.1, hm.2.2⟩
end Go.Proofs.YtdlceolmpcjjiaaGreatDoor
