/- Points of the call's own, by ticks and values or as a list. -/
import Derived.Test.YtnjmplmogibgfacGreatDoorPtMerge
import Derived.Test.YtnjmplmogibgfacGreatDoorRefReadGroup
import Derived.Test.YtnjmplmogibgfacGreatDoorRefTicksGroup
namespace Go.Proofs.YtnjmplmogibgfacGreatDoor
open Go.RowKit PtMath

theorem pairCells_listOf (T : Nat → Int) (B : Nat → Nat) : ∀ n, pairCells (listOf T B n) = ptCells T B n
  | 0 => rfl
  | n + 1 => by
    rw [ptCells, ← pairCells_listOf T B n]
    have e : listOf T B (n + 1) = listOf T B n ++ [(T n, B n)] := by simp [listOf, List.range_succ]
    rw [e, ← pairCells_snoc]
theorem length_listOf (T : Nat → Int) (B : Nat → Nat) (n : Nat) : (listOf T B n).length = n := by simp [listOf]
theorem pts_bounds {w : World} {a : Option Addr} {n : Nat} {T : Nat → Int} {B : Nat → Nat} (h : Pts w a n T B) : (∀ i, i < n → -9223372036854775808 ≤ T i ∧ T i ≤ 9223372036854775807) ∧ ∀ i, i < n → B i < 18446744073709551616 := by
  refine ⟨fun i hi => ?_, fun i hi => ?_⟩
  · obtain ⟨_, _, _, hc⟩ := h.at i hi
    exact ⟨(hc i hi).2.2.1, (hc i hi).2.2.2.1⟩
  · obtain ⟨_, _, _, hc⟩ := h.at i hi
    exact (hc i hi).2.2.2.2
theorem own_points2 (w : World) (la : Option Addr) (n c : Nat) (T : Nat → Int) (B : Nat → Nat) (hP : Pts w la n T B) (hn : n ≤ 1000) :
    Calls Tryz.prog 47 #[.slice la n c] w fun e w' => ∃ a c', e = .returned (.slice a n c') ∧ Pts w' a n T B ∧ Below w.heap.size w w' := by
  obtain ⟨h1, _, h3⟩ := ptsL_of hP
  have h := own_points w la c (listOf T B n) h1 (by rw [h3]; exact hn)
  rw [h3, pairCells_listOf] at h
  refine h.mono ?_
  rintro e w' ⟨v, rfl, hown, hb⟩
  obtain ⟨hT, hB⟩ := pts_bounds hP
  obtain ⟨a, c', rfl, hp⟩ := pts_own hown hT hB
  exact ⟨a, c', rfl, hp, hb⟩
/-- A list of points, as ticks and values. -/
def tickAt (l : List (Int × Nat)) (i : Nat) : Int := (l.getD i (0, 0)).1
def bitAt (l : List (Int × Nat)) (i : Nat) : Nat := (l.getD i (0, 0)).2
theorem pts_of_list {w : World} {a : Option Addr} {l : List (Int × Nat)} (h : PtsL w a l) (hin : PtsIn l) : Pts w a l.length (tickAt l) (bitAt l) := by
  rcases h with h | ⟨b, o, h, hc⟩
  · subst h
    exact .inl rfl
  · refine .inr ⟨b, o, h, fun k hk => ?_⟩
    obtain ⟨c0, c1⟩ := hc k hk
    have e : l.getD k (0, 0) = l[k] := by simp [List.getD_eq_getElem?_getD, hk]
    have hm := hin l[k] (List.getElem_mem hk)
    unfold tickAt bitAt
    rw [e]
    exact ⟨c0, c1, hm.1, hm.2.1, hm.2.2⟩
theorem ptsIn_sub {l m : List (Int × Nat)} (h : PtsIn l) (hs : ∀ x, x ∈ m → x ∈ l) : PtsIn m := fun p hp => h p (hs p hp)
end Go.Proofs.YtnjmplmogibgfacGreatDoor
