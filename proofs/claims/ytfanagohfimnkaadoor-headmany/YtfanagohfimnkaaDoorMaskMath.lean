/- Plain mathematics of masks: values by what changes. Nothing of Go. -/
import Derived.Test.YtfanagohfimnkaaDoorBitMathGroup
namespace BitMath

/-- How many bits are 0 at the head. -/
def lz : List Bool → Nat
  | false :: r => lz r + 1
  | _ => 0
theorem lz_le : ∀ l : List Bool, lz l ≤ l.length
  | [] => Nat.le_refl _
  | true :: _ => Nat.zero_le _
  | false :: r => by simp only [lz, List.length_cons]; have := lz_le r; omega
theorem lz_at : ∀ (l : List Bool) (i : Nat), l[i]? = some true → lz l ≤ i
  | [], i, h => by simp at h
  | true :: _, i, _ => Nat.zero_le _
  | false :: r, 0, h => by simp at h
  | false :: r, i + 1, h => by
    simp only [lz]
    have := lz_at r i (by simpa using h)
    omega
theorem lz_low : ∀ (l : List Bool) (i : Nat), i < lz l → l[i]? = some false
  | [], i, h => by simp [lz] at h
  | true :: _, i, h => by simp [lz] at h
  | false :: r, 0, _ => rfl
  | false :: r, i + 1, h => by
    simp only [lz] at h
    have := lz_low r i (by omega)
    simpa using this
theorem lz_end : ∀ l : List Bool, l[lz l]? ≠ some false
  | [] => by simp [lz]
  | true :: _ => by simp [lz]
  | false :: r => by simpa [lz] using lz_end r
theorem lz_eq : ∀ (l : List Bool) (k : Nat), (∀ i, i < k → l[i]? = some false) → l[k]? ≠ some false → lz l = k
  | [], 0, _, _ => rfl
  | [], k + 1, h, _ => by have := h 0 (by omega); simp at this
  | true :: _, 0, _, _ => rfl
  | true :: _, k + 1, h, _ => by have := h 0 (by omega); simp at this
  | false :: r, 0, _, h => by simp at h
  | false :: r, k + 1, h, h2 => by
    simp only [lz]
    rw [lz_eq r k (fun i hi => by simpa using h (i + 1) (by omega)) (by simpa using h2)]

theorem bits_some (x : Nat) (hx : x < 18446744073709551616) (h : x ≠ 0) : ∃ i, i < 64 ∧ (bitsOf x 64)[i]? = some true := by
  obtain ⟨j, hj⟩ := Nat.exists_testBit_of_ne_zero h
  have hj64 : j < 64 := by
    rcases Nat.lt_or_ge j 64 with h1 | h1
    · exact h1
    · have : x < 2 ^ j := Nat.lt_of_lt_of_le hx (by
        have : 2 ^ 64 ≤ 2 ^ j := Nat.pow_le_pow_right (by omega) h1
        exact this)
      rw [Nat.testBit_lt_two_pow this] at hj
      cases hj
  refine ⟨63 - j, by omega, ?_⟩
  have hl := length_bitsOf x 64
  rw [List.getElem?_eq_getElem (by omega), getElem_bitsOf, show 64 - 1 - (63 - j) = j by omega, hj]

/-- LEAD and TAIL of what changes. -/
def mLead (x : Nat) : Nat := min (lz (bitsOf x 64)) 31
def mTail (x : Nat) : Nat := lz (bitsOf x 64).reverse
theorem lead_le (x : Nat) : mLead x ≤ 31 := Nat.min_le_right _ _
theorem lead_tail (x : Nat) (hx : x < 18446744073709551616) (h : x ≠ 0) : mLead x + mTail x ≤ 63 := by
  obtain ⟨i, hi, ht⟩ := bits_some x hx h
  have h1 := lz_at _ _ ht
  have hl := length_bitsOf x 64
  have h2 : (bitsOf x 64).reverse[63 - i]? = some true := by
    rw [List.getElem?_reverse (by omega), hl, show 64 - 1 - (63 - i) = i by omega]
    exact ht
  have h3 := lz_at _ _ h2
  unfold mLead mTail
  omega

/-- A window: is there one, its lead, its tail. -/
def mFits (w : Bool × Nat × Nat) (x : Nat) : Bool := w.1 && (decide (w.2.1 ≤ mLead x) && decide (w.2.2 ≤ mTail x))
def mBits (w : Bool × Nat × Nat) (x : Nat) : List Bool :=
  if x = 0 then [false]
  else if mFits w x = true then [true, false] ++ ((bitsOf x 64).drop w.2.1).take (64 - w.2.2 - w.2.1)
  else [true, true] ++ bitsOf (mLead x) 5 ++ bitsOf (64 - mLead x - mTail x) 6 ++ ((bitsOf x 64).drop (mLead x)).take (64 - mTail x - mLead x)
def mNext (w : Bool × Nat × Nat) (x : Nat) : Bool × Nat × Nat := if x = 0 then w else if mFits w x = true then w else (true, mLead x, mTail x)
/-- The window behind k values, and their bits. -/
def winTo (V : Nat → Nat) : Nat → Bool × Nat × Nat
  | 0 => (false, 0, 0)
  | k + 1 => if k = 0 then (false, 0, 0) else mNext (winTo V k) (V k ^^^ V (k - 1))
def maskTo (V : Nat → Nat) : Nat → List Bool
  | 0 => []
  | k + 1 => if k = 0 then bitsOf (V 0) 64 else maskTo V k ++ mBits (winTo V k) (V k ^^^ V (k - 1))
theorem winTo_step (V : Nat → Nat) (k : Nat) (h : k ≠ 0) : winTo V (k + 1) = mNext (winTo V k) (V k ^^^ V (k - 1)) := by rw [winTo, if_neg h]
theorem maskTo_step (V : Nat → Nat) (k : Nat) (h : k ≠ 0) : maskTo V (k + 1) = maskTo V k ++ mBits (winTo V k) (V k ^^^ V (k - 1)) := by rw [maskTo, if_neg h]
theorem maskTo_first (V : Nat → Nat) : maskTo V 1 = bitsOf (V 0) 64 := by rw [maskTo, if_pos rfl]
theorem winTo_first (V : Nat → Nat) : winTo V 1 = (false, 0, 0) := by rw [winTo, if_pos rfl]
theorem xor_lt (a b : Nat) (ha : a < 18446744073709551616) (hb : b < 18446744073709551616) : a ^^^ b < 18446744073709551616 := Nat.xor_lt_two_pow (n := 64) ha hb
theorem winTo_ok (V : Nat → Nat) (n : Nat) (hV : ∀ i, i < n → V i < 18446744073709551616) : ∀ k, k ≤ n → (winTo V k).2.1 ≤ 31 ∧ (winTo V k).2.1 + (winTo V k).2.2 ≤ 63
  | 0, _ => by simp [winTo]
  | k + 1, h => by
    by_cases hk : k = 0
    · subst hk; rw [winTo_first]; simp
    · rw [winTo_step V k hk]
      have ih := winTo_ok V n hV k (by omega)
      have hx := xor_lt (V k) (V (k - 1)) (hV k (by omega)) (hV (k - 1) (by omega))
      unfold mNext
      by_cases h0 : V k ^^^ V (k - 1) = 0
      · rw [if_pos h0]; exact ih
      · rw [if_neg h0]
        by_cases h1 : mFits (winTo V k) (V k ^^^ V (k - 1)) = true
        · rw [if_pos h1]; exact ih
        · rw [if_neg h1]
          exact ⟨lead_le _, lead_tail _ hx h0⟩
theorem length_mBits (w : Bool × Nat × Nat) (x : Nat) : (mBits w x).length ≤ 77 := by
  have hl := length_bitsOf x 64
  unfold mBits
  split
  · simp
  · split
    · simp [hl]; omega
    · simp [hl, length_bitsOf]; omega
theorem length_maskTo (V : Nat → Nat) : ∀ k, (maskTo V k).length ≤ 77 * k
  | 0 => by simp [maskTo]
  | k + 1 => by
    by_cases hk : k = 0
    · subst hk; rw [maskTo_first, length_bitsOf]; omega
    · rw [maskTo_step V k hk, List.length_append]
      have h1 := length_maskTo V k
      have h2 := length_mBits (winTo V k) (V k ^^^ V (k - 1))
      omega
end BitMath
