/- Plain mathematics of ticks in a wave, and the course that the program keeps. -/
import Derived.Test.YtabojdlhhdceoaaDoorWaveMath2
namespace Go.Proofs.YtabojdlhhdceoaaDoor

/-- What the i-th tick is put as. -/
def deltaOf (G : Nat → Int) (i : Nat) : Int := if i = 0 then G 0 else if i = 1 then G 1 - G 0 else G i - G (i - 1) - (G (i - 1) - G (i - 2))
/-- The bits of the first k ticks. -/
def ticksTo (G : Nat → Int) : Nat → List Bool
  | 0 => []
  | k + 1 => ticksTo G k ++ BitMath.waveOf (deltaOf G k)
theorem length_ticksTo (G : Nat → Int) : ∀ k, (ticksTo G k).length ≤ 68 * k
  | 0 => by simp [ticksTo]
  | k + 1 => by
    rw [ticksTo, List.length_append]
    have := length_ticksTo G k
    have := BitMath.length_waveOf_le (deltaOf G k)
    omega
theorem length_ticksTo_step (G : Nat → Int) (k : Nat) : (ticksTo G (k + 1)).length = (ticksTo G k).length + (BitMath.waveOf (deltaOf G k)).length := by rw [ticksTo, List.length_append]
theorem length_ticksTo_mono (G : Nat → Int) (k : Nat) : ∀ n, k ≤ n → (ticksTo G k).length ≤ (ticksTo G n).length
  | 0, h => by
    have : k = 0 := by omega
    subst this
    exact Nat.le_refl _
  | n + 1, h => by
    rcases Nat.lt_or_ge n k with h1 | h1
    · have : k = n + 1 := by omega
      subst this
      exact Nat.le_refl _
    · have := length_ticksTo_mono G k n h1
      rw [length_ticksTo_step]
      omega

/-- The course behind k ticks: the last one; its step. -/
def cAt (G : Nat → Int) (k : Nat) : Int := if k = 0 then 0 else G (k - 1)
def cStep (G : Nat → Int) (k : Nat) : Int := if k ≤ 1 then 0 else G (k - 1) - G (k - 2)
theorem course_delta (G : Nat → Int) (k : Nat) : G k - cAt G k - cStep G k = deltaOf G k := by
  unfold cAt cStep deltaOf
  by_cases h0 : k = 0
  · subst h0; simp
  · by_cases h1 : k = 1
    · subst h1; simp
    · rw [if_neg h0, if_neg (by omega), if_neg h0, if_neg h1]
theorem course_next (G : Nat → Int) (k : Nat) (h : 0 < k) : cAt G (k + 1) = G k ∧ cStep G (k + 1) = G k - cAt G k := by
  unfold cAt cStep
  rw [if_neg (by omega), if_neg (by omega), if_neg (by omega)]
  simp
theorem course_first (G : Nat → Int) : cAt G 1 = G 0 ∧ cStep G 1 = 0 := by
  unfold cAt cStep
  simp
theorem course_bounds (G : Nat → Int) (n k : Nat) (hk : k ≤ n) (hok : ∀ i, i < n → -1099511627776 ≤ G i ∧ G i ≤ 1099511627776) : -1099511627776 ≤ cAt G k ∧ cAt G k ≤ 1099511627776 ∧ -2199023255552 ≤ cStep G k ∧ cStep G k ≤ 2199023255552 := by
  unfold cAt cStep
  by_cases h0 : k = 0
  · subst h0; simp
  · have a := hok (k - 1) (by omega)
    rw [if_neg h0]
    by_cases h1 : k ≤ 1
    · rw [if_pos h1]; omega
    · have b := hok (k - 2) (by omega)
      rw [if_neg h1]; omega

/-- Even ticks. -/
theorem even_delta (f s : Int) (G : Nat → Int) (n : Nat) (hG : ∀ i, i < n → G i = f + i * s) (i : Nat) (h2 : 2 ≤ i) (hi : i < n) : deltaOf G i = 0 := by
  have e0 := hG i hi
  have e1 := hG (i - 1) (by omega)
  have e2 := hG (i - 2) (by omega)
  have c1 : ((i - 1 : Nat) : Int) = (i : Int) - 1 := by omega
  have c2 : ((i - 2 : Nat) : Int) = (i : Int) - 2 := by omega
  unfold deltaOf
  rw [if_neg (by omega), if_neg (by omega), e0, e1, e2, c1, c2]
  generalize (i : Int) = x
  rw [Int.sub_mul, Int.sub_mul]
  omega
theorem even_length (f s : Int) (G : Nat → Int) (n : Nat) (hG : ∀ i, i < n → G i = f + i * s) : ∀ k, 2 ≤ k → k ≤ n → (ticksTo G k).length + 2 = (BitMath.waveOf f).length + (BitMath.waveOf s).length + k
  | 0, h, _ => absurd h (by omega)
  | 1, h, _ => absurd h (by omega)
  | 2, _, hk => by
    have e0 : deltaOf G 0 = f := by unfold deltaOf; rw [if_pos rfl, hG 0 (by omega)]; simp
    have e1 : deltaOf G 1 = s := by unfold deltaOf; rw [if_neg (by omega), if_pos rfl, hG 0 (by omega), hG 1 (by omega)]; simp; omega
    simp only [ticksTo, List.length_append, e0, e1, List.length_nil]
    omega
  | k + 3, _, hk => by
    have ih := even_length f s G n hG (k + 2) (by omega) (by omega)
    have e : deltaOf G (k + 2) = 0 := even_delta f s G n hG (k + 2) (by omega) (by omega)
    have l0 : (BitMath.waveOf 0).length = 1 := rfl
    rw [length_ticksTo_step, e, l0]
    omega

/-- A number's size by its form. -/
theorem length_by_form (a b : Int) (h : BitMath.formOf a ≤ BitMath.formOf b) : (BitMath.waveOf a).length ≤ (BitMath.waveOf b).length := by
  rw [BitMath.length_waveOf, BitMath.length_waveOf]
  have hb := BitMath.formOf_le b
  generalize BitMath.formOf a = x at *
  generalize BitMath.formOf b = y at *
  rcases (by omega : y = 0 ∨ y = 1 ∨ y = 2 ∨ y = 3 ∨ y = 4) with rfl | rfl | rfl | rfl | rfl <;>
    rcases (by omega : x = 0 ∨ x = 1 ∨ x = 2 ∨ x = 3 ∨ x = 4) with rfl | rfl | rfl | rfl | rfl <;> first | omega | decide
theorem form_up (a b : Int) (h0 : 0 ≤ a) (h : a ≤ b) : BitMath.formOf a ≤ BitMath.formOf b := by
  unfold BitMath.formOf
  repeat' split
  all_goals omega
theorem form_down (a b : Int) (h0 : 0 ≤ a) (h : a ≤ b) : BitMath.formOf (-a) ≤ BitMath.formOf (-b) := by
  unfold BitMath.formOf
  repeat' split
  all_goals omega
theorem form_sign (a : Int) (h0 : 0 ≤ a) : BitMath.formOf a ≤ BitMath.formOf (-a) := by
  unfold BitMath.formOf
  repeat' split
  all_goals omega
end Go.Proofs.YtabojdlhhdceoaaDoor
