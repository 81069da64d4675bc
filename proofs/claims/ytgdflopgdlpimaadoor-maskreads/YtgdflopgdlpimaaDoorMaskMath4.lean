/- Plain mathematics of masks, fourth part: what is read, form by form. -/
import Derived.Test.YtgdflopgdlpimaaDoorMaskPut
namespace BitMath

theorem bitsOf_val (l : List Bool) : bitsOf (valB l) l.length = l := by
  apply List.ext_getElem?
  intro i
  by_cases hi : i < l.length
  · rw [List.getElem?_eq_getElem (by rw [length_bitsOf]; exact hi), getElem_bitsOf, testBit_valB, decide_eq_true (by omega), Bool.true_and, List.getD_eq_getElem?_getD, show l.length - 1 - (l.length - 1 - i) = i by omega, List.getElem?_eq_getElem hi]
    rfl
  · rw [List.getElem?_eq_none (by rw [length_bitsOf]; omega), List.getElem?_eq_none (by omega)]
theorem mul_lt64 (y t W : Nat) (hy : y < 2 ^ W) (ht : W + t ≤ 64) : y * 2 ^ t < 18446744073709551616 := by
  have h1 : y * 2 ^ t < 2 ^ W * 2 ^ t := Nat.mul_lt_mul_of_pos_right hy (Nat.two_pow_pos t)
  rw [← Nat.pow_add] at h1
  exact Nat.lt_of_lt_of_le h1 (Nat.pow_le_pow_right (by omega) ht)
/-- Bits that lie between L and T leave that many zeros. -/
theorem zeros_of (y L T W : Nat) (hy : y < 2 ^ W) (h : L + W + T = 64) (h0 : y * 2 ^ T ≠ 0) : L ≤ lz (bitsOf (y * 2 ^ T) 64) ∧ T ≤ mTail (y * 2 ^ T) := by
  have hx := mul_lt64 y T W hy (by omega)
  have hl := length_bitsOf (y * 2 ^ T) 64
  refine ⟨?_, ?_⟩
  · have h1 := lz_len (y * 2 ^ T) hx 64 (Nat.le_refl _) hx
    have h2 := Go.Lib.bitLen_le (y * 2 ^ T) (W + T) (by omega) (by
      rw [Nat.pow_add]
      exact Nat.mul_lt_mul_of_pos_right hy (Nat.two_pow_pos T))
    omega
  · rcases Nat.lt_or_ge (mTail (y * 2 ^ T)) T with h1 | h1
    · exfalso
      have h2 := lead_tail (y * 2 ^ T) hx h0
      apply lz_end (bitsOf (y * 2 ^ T) 64).reverse
      show (bitsOf (y * 2 ^ T) 64).reverse[mTail (y * 2 ^ T)]? = some false
      generalize mTail (y * 2 ^ T) = c at *
      rw [List.getElem?_reverse (by omega), hl, List.getElem?_eq_getElem (by omega), getElem_bitsOf, show 64 - 1 - (64 - 1 - c) = c by omega, Nat.mul_comm, Nat.testBit_two_pow_mul]
      simp
      intro h3
      omega
    · exact h1
theorem take_two (D : List Bool) (a b : Bool) (n : Nat) (h0 : D[0]? = some a) (h1 : D[1]? = some b) : D.take (2 + n) = [a, b] ++ (D.drop 2).take n := by
  cases D with
  | nil => cases h0
  | cons c r =>
    cases r with
    | nil => cases h1
    | cons d s =>
      simp at h0 h1
      subst h0
      subst h1
      rw [Nat.add_comm]
      rfl
theorem getD_of (D : List Bool) (i : Nat) (b : Bool) (h : D[i]? = some b) : D.getD i false = b := by rw [List.getD_eq_getElem?_getD, h]; rfl
theorem len_of (D : List Bool) (i : Nat) (b : Bool) (h : D[i]? = some b) : i < D.length := by
  rcases Nat.lt_or_ge i D.length with h1 | h1
  · exact h1
  · rw [List.getElem?_eq_none h1] at h; cases h

theorem step_short (u : Bool × Nat × Nat) (p : Nat) (D : List Bool) (h : D.length = 0 ∨ (D[0]? = some true ∧ D.length ≤ 1) ∨ (D[0]? = some true ∧ D[1]? = some true ∧ D.length < 13)) : readStep u p D = (5, 0, 0) := by
  unfold readStep
  rcases h with h | ⟨h0, h⟩ | ⟨h0, h1, h⟩
  · rw [if_pos h]
  · have := len_of D 0 _ h0
    rw [if_neg (by omega), if_neg (by rw [getD_of D 0 _ h0]; decide), if_pos h]
  · have := len_of D 1 _ h1
    rw [if_neg (by omega), if_neg (by rw [getD_of D 0 _ h0]; decide), if_neg (by omega), if_pos ⟨getD_of D 1 _ h1, h⟩]
theorem step_zero (u : Bool × Nat × Nat) (p : Nat) (D : List Bool) (h : D[0]? = some false) : readStep u p D = (0, p ^^^ 0, 1) := by
  have := len_of D 0 _ h
  unfold readStep
  rw [if_neg (by omega), if_pos (getD_of D 0 _ h), Nat.xor_zero]

/-- The window ahead, used again: its value. -/
theorem step_old (u : Bool × Nat × Nat) (D : List Bool) (hu : WinOK u) (h0 : D[0]? = some true) (h1 : D[1]? = some false) :
    ((D.drop 2).length < wideW u → ∀ p, readStep u p D = (5, 0, 0)) ∧
    (wideW u ≤ (D.drop 2).length → ∀ X, X = valB ((D.drop 2).take (wideW u)) * 2 ^ (64 - u.2.1 - wideW u) → X < 18446744073709551616 →
      (X = 0 → ∀ p, readStep u p D = (1, 0, 0)) ∧ (X ≠ 0 → mFits u X = true ∧ ∀ p, readStep u p D = (0, p ^^^ X, 2 + wideW u))) := by
  have hl1 := len_of D 1 _ h1
  have hw := wide_le hu
  have hd : (D.drop 2).length = D.length - 2 := List.length_drop
  have hh : headR u D = (u.2.1, wideW u, 2) := by unfold headR; rw [getD_of D 1 _ h1]; rfl
  have hn13 : ¬ (D.getD 1 false = true ∧ D.length < 13) := by rw [getD_of D 1 _ h1]; simp
  refine ⟨fun h p => ?_, fun h X hX hXl => ⟨fun hX0 p => ?_, fun hX0 => ?_⟩⟩
  · unfold readStep
    rw [if_neg (by omega), if_neg (by rw [getD_of D 0 _ h0]; decide), if_neg (by omega), if_neg hn13, hh]
    simp only
    rw [if_neg (by omega), if_pos (by omega)]
  · unfold readStep
    rw [if_neg (by omega), if_neg (by rw [getD_of D 0 _ h0]; decide), if_neg (by omega), if_neg hn13, hh]
    simp only
    rw [← hX]
    by_cases hW : wideW u = 0
    · rw [if_pos (.inl hW)]
    · rw [if_neg (by omega), if_neg (by omega), if_pos (.inl hX0)]
  · have hW : wideW u ≠ 0 := by
      intro hW
      rw [hW] at hX
      simp [valB] at hX
      exact hX0 hX
    have hu1 : u.1 = true := by
      cases h : u.1 with
      | true => rfl
      | false => exfalso; apply hW; unfold wideW; rw [h]; rfl
    have hwd : wideW u = 64 - u.2.1 - u.2.2 := by unfold wideW; rw [if_pos hu1]
    have hT : 64 - u.2.1 - wideW u = u.2.2 := by have := hu.2.2; omega
    have hbl : ((D.drop 2).take (wideW u)).length = wideW u := by rw [List.length_take, Nat.min_eq_left h]
    have hy := valB_lt ((D.drop 2).take (wideW u))
    rw [hbl] at hy
    rw [hT] at hX
    have hz := zeros_of _ u.2.1 u.2.2 (wideW u) hy (by have := hu.2.2; omega) (by rw [← hX]; exact hX0)
    rw [← hX] at hz
    have hfit : mFits u X = true := by
      unfold mFits mLead
      have := hu.2.1
      rw [hu1, decide_eq_true (by omega : u.2.1 ≤ min (lz (bitsOf X 64)) 31), decide_eq_true hz.2]
      rfl
    refine ⟨hfit, fun p => ?_⟩
    have hmb : mBits u X = D.take (2 + wideW u) := by
      rw [take_two D true false _ h0 h1]
      unfold mBits
      rw [if_neg hX0, if_pos hfit, mid_bits X u.2.1 u.2.2 (by have := hu.2.2; omega), ← hwd]
      have hdv : X / 2 ^ u.2.2 = valB ((D.drop 2).take (wideW u)) := by rw [hX]; exact Nat.mul_div_cancel _ (Nat.two_pow_pos _)
      rw [hdv]
      have hb := bitsOf_val ((D.drop 2).take (wideW u))
      rw [hbl] at hb
      rw [hb]
    unfold readStep
    rw [if_neg (by omega), if_neg (by rw [getD_of D 0 _ h0]; decide), if_neg (by omega), if_neg hn13, hh]
    simp only
    rw [hT, ← hX, if_neg (by omega), if_neg (by omega), if_neg (by
      intro hc
      rcases hc with hc | hc
      · exact hX0 hc
      · exact hc hmb)]

/-- A window anew. -/
theorem step_new (u : Bool × Nat × Nat) (D : List Bool) (A F : Nat) (h0 : D[0]? = some true) (h1 : D[1]? = some true) (h13 : 13 ≤ D.length) (hA : A = valB ((D.drop 2).take 5)) (hF : F = fixW (valB ((D.drop 7).take 6))) :
    (64 < A + F → ∀ p, readStep u p D = (1, 0, 0)) ∧
    (A + F ≤ 64 → (D.drop 13).length < F → ∀ p, readStep u p D = (5, 0, 0)) ∧
    (A + F ≤ 64 → F ≤ (D.drop 13).length → ∀ X, X = valB ((D.drop 13).take F) * 2 ^ (64 - A - F) → X < 18446744073709551616 →
      ((wayOf u X = 2 ∧ (mNext u X).2.1 = A ∧ wideW (mNext u X) = F) → ∀ p, readStep u p D = (0, p ^^^ X, 13 + F)) ∧
      (¬ (wayOf u X = 2 ∧ (mNext u X).2.1 = A ∧ wideW (mNext u X) = F) → ∀ p, readStep u p D = (1, 0, 0))) := by
  have hd : (D.drop 13).length = D.length - 13 := List.length_drop
  have hF0 : F ≠ 0 := by rw [hF]; unfold fixW; split <;> omega
  have hh : headR u D = (A, F, 13) := by unfold headR; rw [getD_of D 1 _ h1, ← hA, ← hF]; rfl
  have hn13 : ¬ (D.getD 1 false = true ∧ D.length < 13) := by omega
  refine ⟨fun h p => ?_, fun h h2 p => ?_, fun h h2 X hX hXl => ⟨fun hw p => ?_, fun hw p => ?_⟩⟩
  · unfold readStep
    rw [if_neg (by omega), if_neg (by rw [getD_of D 0 _ h0]; decide), if_neg (by omega), if_neg hn13, hh]
    simp only
    rw [if_pos (.inr h)]
  · unfold readStep
    rw [if_neg (by omega), if_neg (by rw [getD_of D 0 _ h0]; decide), if_neg (by omega), if_neg hn13, hh]
    simp only
    rw [if_neg (by omega), if_pos (by omega)]
  · obtain ⟨hw1, hw2, hw3⟩ := hw
    have hX0 : X ≠ 0 := by intro hc; unfold wayOf at hw1; rw [if_pos hc] at hw1; omega
    have hnf : ¬ mFits u X = true := by intro hc; unfold wayOf at hw1; rw [if_neg hX0, if_pos hc] at hw1; omega
    have hnx : mNext u X = (true, mLead X, mTail X) := by unfold mNext; rw [if_neg hX0, if_neg hnf]
    rw [hnx] at hw2 hw3
    have hw2' : mLead X = A := hw2
    have hw3' : 64 - mLead X - mTail X = F := by unfold wideW at hw3; simpa using hw3
    have hlt := lead_tail X hXl hX0
    have hT : 64 - A - F = mTail X := by omega
    have hbl : ((D.drop 13).take F).length = F := by rw [List.length_take, Nat.min_eq_left h2]
    have hb13 := bitsOf_val ((D.drop 13).take F)
    rw [hbl] at hb13
    have hb5 : bitsOf A 5 = (D.drop 2).take 5 := by
      have := bitsOf_val ((D.drop 2).take 5)
      rw [← hA, List.length_take, List.length_drop, Nat.min_eq_left (by omega)] at this
      exact this
    have hb6 : bitsOf F 6 = (D.drop 7).take 6 := by
      have := bitsOf_val ((D.drop 7).take 6)
      rw [List.length_take, List.length_drop, Nat.min_eq_left (by omega)] at this
      rw [hF]
      unfold fixW
      split
      · rename_i hz
        rw [hz] at this
        rw [← this]
        decide
      · exact this
    have hdv : X / 2 ^ mTail X = valB ((D.drop 13).take F) := Nat.div_eq_of_eq_mul_left (Nat.two_pow_pos _) (by rw [← hT]; exact hX)
    have hmb : mBits u X = D.take (13 + F) := by
      rw [show 13 + F = 2 + (5 + (6 + F)) by omega, take_two D true true _ h0 h1]
      unfold mBits
      rw [if_neg hX0, if_neg hnf, mid_bits X (mLead X) (mTail X) (by omega), hw3', hw2', hdv, hb13, hb5, hb6]
      have e1 : (D.drop 2).take (5 + (6 + F)) = (D.drop 2).take 5 ++ ((D.drop 7).take 6 ++ (D.drop 13).take F) := by
        rw [List.take_add, List.drop_drop, List.take_add, List.drop_drop]
      rw [e1]
      simp [List.append_assoc]
    unfold readStep
    rw [if_neg (by omega), if_neg (by rw [getD_of D 0 _ h0]; decide), if_neg (by omega), if_neg hn13, hh]
    simp only
    rw [← hX, if_neg (by omega), if_neg (by omega), if_neg (by
      intro hc
      rcases hc with hc | hc
      · exact hX0 hc
      · exact hc hmb)]
  · unfold readStep
    rw [if_neg (by omega), if_neg (by rw [getD_of D 0 _ h0]; decide), if_neg (by omega), if_neg hn13, hh]
    simp only
    rw [← hX, if_neg (by omega), if_neg (by omega), if_pos]
    by_cases hX0 : X = 0
    · exact .inl hX0
    · refine .inr (fun hmb => hw ?_)
      have hn := head_new u X hXl D (13 + F) (by omega) hX0 (getD_of D 1 _ h1) hmb
      rw [← hA, ← hF] at hn
      have hnf : ¬ mFits u X = true := by
        intro hc
        have h3 : (mBits u X).getD 1 false = true := by rw [hmb, getD_take _ _ _ (by omega)]; exact getD_of D 1 _ h1
        unfold mBits at h3
        rw [if_neg hX0, if_pos hc] at h3
        simp at h3
      exact ⟨by unfold wayOf; rw [if_neg hX0, if_neg hnf], by rw [hn.1], hn.2⟩
end BitMath
