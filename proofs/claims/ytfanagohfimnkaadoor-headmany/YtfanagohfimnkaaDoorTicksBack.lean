/- Ticks that were put are read: mathematics over the document's ReadTicks. -/
import Derived.Test.YtfanagohfimnkaaDoorRefRead
namespace Go.Proofs.YtfanagohfimnkaaDoor

/-- The first k of ticks. -/
def firstTicks (G : Nat → Int) (k : Nat) : List Int := (List.range k).map G
theorem length_firstTicks (G : Nat → Int) (k : Nat) : (firstTicks G k).length = k := by simp [firstTicks]
theorem firstTicks_step (G : Nat → Int) (k : Nat) : firstTicks G (k + 1) = firstTicks G k ++ [G k] := by simp [firstTicks, List.range_succ]
theorem getD_firstTicks (G : Nat → Int) (k i : Nat) (h : i < k) : (firstTicks G k).getD i 0 = G i := by simp [firstTicks, h]
theorem ticksTo_split (G : Nat → Int) (k : Nat) : ∀ n, k < n → ∃ R, ticksTo G n = ticksTo G k ++ (BitMath.waveOf (deltaOf G k) ++ R)
  | 0, h => absurd h (by omega)
  | n + 1, h => by
    rcases Nat.lt_or_ge k n with h1 | h1
    · obtain ⟨R, hR⟩ := ticksTo_split G k n h1
      exact ⟨R ++ BitMath.waveOf (deltaOf G n), by rw [ticksTo, hR]; simp [List.append_assoc]⟩
    · have : k = n := by omega
      subst this
      exact ⟨[], by rw [ticksTo, List.append_nil]⟩
theorem next_first (G : Nat → Int) (k : Nat) : nextTick (firstTicks G k) (deltaOf G k) = G k := by
  unfold nextTick
  rw [length_firstTicks]
  by_cases h0 : k = 0
  · subst h0
    simp [deltaOf]
  · by_cases h1 : k = 1
    · subst h1
      rw [if_pos (by omega), if_neg (by omega), getD_firstTicks G 1 (1 - 1) (by omega)]
      simp [deltaOf]
    · rw [if_pos (by omega), if_pos (by omega), getD_firstTicks G k (k - 1) (by omega), getD_firstTicks G k (k - 2) (by omega)]
      unfold deltaOf
      rw [if_neg h0, if_neg h1]
      omega

theorem readTo_ticks (G : Nat → Int) (n : Nat) (P R : List Bool) (hok : ∀ i, i < n → -1099511627776 ≤ G i ∧ G i ≤ 1099511627776) : ∀ m k, k + m = n →
    readTo (P ++ (ticksTo G n ++ R)) m (P.length + (ticksTo G k).length) (firstTicks G k) = (0, firstTicks G n, P.length + (ticksTo G n).length)
  | 0, k, h => by
    have : k = n := by omega
    subst this
    rfl
  | m + 1, k, h => by
    have ih := readTo_ticks G n P R hok m (k + 1) (by omega)
    obtain ⟨Q, hQ⟩ := ticksTo_split G k n (by omega)
    have hd : (P ++ (ticksTo G n ++ R)).drop (P.length + (ticksTo G k).length) = BitMath.waveOf (deltaOf G k) ++ (Q ++ R) := by
      rw [← List.drop_drop, List.drop_left, hQ, List.append_assoc, List.drop_left, List.append_assoc]
    have hb := course_bounds G n k (by omega) hok
    have hk := hok k (by omega)
    have hde := course_delta G k
    have hu := BitMath.unwave_wave (deltaOf G k) (Q ++ R) (by omega) (by omega)
    rw [readTo_succ, hd, hu]
    simp only
    have hfar : far (deltaOf G k) = false := by
      unfold far
      rw [decide_eq_false (by omega), decide_eq_false (by omega)]
      rfl
    rw [if_neg (by omega), hfar, Bool.and_false, if_neg (by decide), next_first, if_pos ((isTick_iff _).2 hk), ← firstTicks_step]
    rw [length_ticksTo_step] at ih
    rw [Nat.add_assoc]
    exact ih
end Go.Proofs.YtfanagohfimnkaaDoor
