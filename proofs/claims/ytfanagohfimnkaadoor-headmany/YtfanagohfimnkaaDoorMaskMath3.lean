/- Plain mathematics of masks, third part: what is put is read. Nothing of Go. -/
import Derived.Test.YtfanagohfimnkaaDoorMaskMath2
namespace BitMath

theorem valB_zeros : ∀ l : List Bool, (∀ i, i < l.length → l[i]? = some false) → valB l = 0 := by
  apply snoc_ind
  · intro _; rfl
  · intro l a ih h
    rw [valB_snoc, ih (fun i hi => by
      have := h i (by simp; omega)
      rwa [List.getElem?_append_left hi] at this)]
    have := h l.length (by simp)
    simp at this
    subst this
    rfl
/-- The bits between, shifted back, are the value. -/
theorem mid_val (x L T : Nat) (hx : x < 18446744073709551616) (hL : L ≤ lz (bitsOf x 64)) (hT : T ≤ lz (bitsOf x 64).reverse) (hLT : L + T ≤ 64) : valB (((bitsOf x 64).drop L).take (64 - T - L)) * 2 ^ T = x := by
  have hl := length_bitsOf x 64
  have hv : valB (bitsOf x 64) = x := by rw [valB_bitsOf]; exact Nat.mod_eq_of_lt hx
  have hs : bitsOf x 64 = (bitsOf x 64).take L ++ (((bitsOf x 64).drop L).take (64 - T - L) ++ ((bitsOf x 64).drop L).drop (64 - T - L)) := by
    rw [List.take_append_drop, List.take_append_drop]
  have h0 : valB ((bitsOf x 64).take L) = 0 := by
    apply valB_zeros
    intro i hi
    rw [List.length_take] at hi
    rw [List.getElem?_take_of_lt (by omega)]
    exact lz_low _ _ (by omega)
  have h2 : valB (((bitsOf x 64).drop L).drop (64 - T - L)) = 0 := by
    apply valB_zeros
    intro i hi
    rw [List.length_drop, List.length_drop] at hi
    rw [List.getElem?_drop, List.getElem?_drop]
    have := lz_low (bitsOf x 64).reverse (T - 1 - i) (by omega)
    rw [List.getElem?_reverse (by omega), hl] at this
    rw [← this]
    congr 1
    omega
  have hlen : (((bitsOf x 64).drop L).drop (64 - T - L)).length = T := by rw [List.length_drop, List.length_drop]; omega
  rw [hs, valB_append, valB_append, h0, h2, hlen, Nat.zero_mul, Nat.zero_add, Nat.add_zero] at hv
  exact hv

theorem readStep_bits (w : Bool × Nat × Nat) (p x : Nat) (R : List Bool) (hx : x < 18446744073709551616) (hw : w.2.1 + w.2.2 ≤ 63) : readStep w p (mBits w x ++ R) = (0, p ^^^ x, (mBits w x).length) := by
  have hl := length_bitsOf x 64
  by_cases h0 : x = 0
  · have hm : mBits w x = [false] := by unfold mBits; rw [if_pos h0]
    rw [hm, h0, Nat.xor_zero]
    unfold readStep
    rw [if_neg (by simp), if_pos (by rfl)]
    rfl
  · have hlt := lead_tail x hx h0
    have hle := lead_le x
    by_cases hf : mFits w x = true
    · have hm : mBits w x = [true, false] ++ ((bitsOf x 64).drop w.2.1).take (64 - w.2.2 - w.2.1) := by unfold mBits; rw [if_neg h0, if_pos hf]
      have hff := hf
      unfold mFits at hff
      simp at hff
      obtain ⟨hw1, hL, hT⟩ := hff
      have hlen : (((bitsOf x 64).drop w.2.1).take (64 - w.2.2 - w.2.1)).length = 64 - w.2.1 - w.2.2 := by rw [List.length_take, List.length_drop]; omega
      have hml : (mBits w x).length = 2 + (64 - w.2.1 - w.2.2) := by rw [hm, List.length_append, hlen]; rfl
      have hwd : wideW w = 64 - w.2.1 - w.2.2 := by unfold wideW; rw [if_pos hw1]
      have hh : headR w (mBits w x ++ R) = (w.2.1, wideW w, 2) := by unfold headR; rw [hm]; rfl
      have hd : ((mBits w x ++ R).drop 2).take (wideW w) = ((bitsOf x 64).drop w.2.1).take (64 - w.2.2 - w.2.1) := by
        rw [hm, List.append_assoc]
        show ((((bitsOf x 64).drop w.2.1).take (64 - w.2.2 - w.2.1)) ++ R).take (wideW w) = _
        rw [hwd, ← hlen, List.take_left]
      have hval : valB (((mBits w x ++ R).drop 2).take (wideW w)) * 2 ^ (64 - w.2.1 - wideW w) = x := by
        rw [hd, hwd, show 64 - w.2.1 - (64 - w.2.1 - w.2.2) = w.2.2 by omega]
        exact mid_val x w.2.1 w.2.2 hx (by unfold mLead at hL; omega) hT (by omega)
      unfold readStep
      rw [if_neg (by rw [hm]; simp), if_neg (by rw [hm]; simp), if_neg (by rw [hm]; simp), if_neg (by rw [hm]; simp), hh]
      simp only
      rw [if_neg (by omega), if_neg (by rw [List.length_append, hml]; omega), hval, if_neg (by
        intro hc
        rcases hc with hc | hc
        · exact h0 hc
        · apply hc
          rw [hwd, ← hml, List.take_left]), hml, hwd]
    · have hm : mBits w x = [true, true] ++ bitsOf (mLead x) 5 ++ bitsOf (64 - mLead x - mTail x) 6 ++ ((bitsOf x 64).drop (mLead x)).take (64 - mTail x - mLead x) := by unfold mBits; rw [if_neg h0, if_neg hf]
      have hlen : (((bitsOf x 64).drop (mLead x)).take (64 - mTail x - mLead x)).length = 64 - mLead x - mTail x := by rw [List.length_take, List.length_drop]; omega
      have hml : (mBits w x).length = 13 + (64 - mLead x - mTail x) := by
        rw [hm]
        simp only [List.length_append, length_bitsOf, hlen, List.length_cons, List.length_nil]
      have h5 : ((mBits w x ++ R).drop 2).take 5 = bitsOf (mLead x) 5 := by
        rw [hm]
        simp only [List.append_assoc]
        show ((bitsOf (mLead x) 5) ++ (bitsOf (64 - mLead x - mTail x) 6 ++ (((bitsOf x 64).drop (mLead x)).take (64 - mTail x - mLead x) ++ R))).take 5 = _
        rw [List.take_append_of_le_length (by rw [length_bitsOf]; exact Nat.le_refl _), List.take_of_length_le (by rw [length_bitsOf]; exact Nat.le_refl _)]
      have hd7 : (mBits w x ++ R).drop 7 = bitsOf (64 - mLead x - mTail x) 6 ++ (((bitsOf x 64).drop (mLead x)).take (64 - mTail x - mLead x) ++ R) := by
        rw [hm]
        have : ([true, true] ++ bitsOf (mLead x) 5).length = 7 := by simp [length_bitsOf]
        rw [List.append_assoc, List.append_assoc, ← this, List.drop_left]
      have h6 : ((mBits w x ++ R).drop 7).take 6 = bitsOf (64 - mLead x - mTail x) 6 := by
        rw [hd7, List.take_append_of_le_length (by rw [length_bitsOf]; exact Nat.le_refl _), List.take_of_length_le (by rw [length_bitsOf]; exact Nat.le_refl _)]
      have v5 : valB (((mBits w x ++ R).drop 2).take 5) = mLead x := by rw [h5, valB_bitsOf]; exact Nat.mod_eq_of_lt (by omega)
      have v6 : fixW (valB (((mBits w x ++ R).drop 7).take 6)) = 64 - mLead x - mTail x := by
        rw [h6, valB_bitsOf]
        unfold fixW
        have : (2 : Nat) ^ 6 = 64 := rfl
        rw [this]
        split <;> omega
      have hg1 : (mBits w x ++ R).getD 1 false = true := by rw [hm]; rfl
      have hg0 : (mBits w x ++ R).getD 0 false = true := by rw [hm]; rfl
      have hh : headR w (mBits w x ++ R) = (mLead x, 64 - mLead x - mTail x, 13) := by
        unfold headR
        rw [if_pos hg1, v5, v6]
      have hd13 : (mBits w x ++ R).drop 13 = ((bitsOf x 64).drop (mLead x)).take (64 - mTail x - mLead x) ++ R := by
        have : (mBits w x ++ R).drop 13 = ((mBits w x ++ R).drop 7).drop 6 := by rw [List.drop_drop]
        rw [this, hd7]
        have h66 : (bitsOf (64 - mLead x - mTail x) 6).length = 6 := length_bitsOf _ _
        exact List.drop_left' h66
      have hval : valB (((mBits w x ++ R).drop 13).take (64 - mLead x - mTail x)) * 2 ^ (64 - mLead x - (64 - mLead x - mTail x)) = x := by
        rw [hd13, show 64 - mLead x - (64 - mLead x - mTail x) = mTail x by omega]
        have ht : ((((bitsOf x 64).drop (mLead x)).take (64 - mTail x - mLead x)) ++ R).take (64 - mLead x - mTail x) = ((bitsOf x 64).drop (mLead x)).take (64 - mTail x - mLead x) := by
          exact List.take_left' hlen
        rw [ht]
        exact mid_val x (mLead x) (mTail x) hx (by unfold mLead; omega) (Nat.le_refl _) (by omega)
      unfold readStep
      rw [if_neg (by rw [List.length_append, hml]; omega), if_neg (by rw [hg0]; decide), if_neg (by rw [List.length_append, hml]; omega), if_neg (by rw [List.length_append, hml]; omega), hh]
      simp only
      rw [if_neg (by omega), if_neg (by rw [List.length_append, hml]; omega), hval, if_neg (by
        intro hc
        rcases hc with hc | hc
        · exact h0 hc
        · apply hc
          rw [← hml, List.take_left]), hml]

theorem maskTo_split (V : Nat → Nat) (k : Nat) (hk : k ≠ 0) : ∀ n, k < n → ∃ R, maskTo V n = maskTo V k ++ (mBits (winTo V k) (V k ^^^ V (k - 1)) ++ R)
  | 0, h => absurd h (by omega)
  | n + 1, h => by
    rcases Nat.lt_or_ge k n with h1 | h1
    · obtain ⟨R, hR⟩ := maskTo_split V k hk n h1
      refine ⟨R ++ mBits (winTo V n) (V n ^^^ V (n - 1)), ?_⟩
      rw [maskTo_step V n (by omega), hR]
      simp [List.append_assoc]
    · have : k = n := by omega
      subst this
      exact ⟨[], by rw [maskTo_step V k hk, List.append_nil]⟩
theorem maskTo_split0 (V : Nat → Nat) : ∀ n, 0 < n → ∃ R, maskTo V n = bitsOf (V 0) 64 ++ R
  | 0, h => absurd h (by omega)
  | n + 1, _ => by
    by_cases hn : n = 0
    · subst hn
      exact ⟨[], by rw [maskTo_first, List.append_nil]⟩
    · obtain ⟨R, hR⟩ := maskTo_split0 V n (by omega)
      exact ⟨R ++ mBits (winTo V n) (V n ^^^ V (n - 1)), by rw [maskTo_step V n hn, hR, List.append_assoc]⟩
/-- The first k of values. -/
def firstV (V : Nat → Nat) (k : Nat) : List Nat := (List.range k).map V
theorem vf_firstV (V : Nat → Nat) (n i : Nat) (h : i < n) : vf (firstV V n) i = V i := by simp [vf, firstV, h]

/-- What is put is read. -/
theorem maskRead_mask (V : Nat → Nat) (n : Nat) (R : List Bool) (hV : ∀ i, i < n → V i < 18446744073709551616) : ∀ k, k ≤ n → maskRead (maskTo V n ++ R) k = (0, firstV V k, (maskTo V k).length)
  | 0, _ => rfl
  | k + 1, h => by
    by_cases hk : k = 0
    · subst hk
      obtain ⟨Q, hQ⟩ := maskTo_split0 V n (by omega)
      have hl := length_bitsOf (V 0) 64
      rw [maskRead_first _ (by rw [hQ]; simp only [List.length_append, hl]; omega), maskTo_first, hl]
      have ht : (maskTo V n ++ R).take 64 = bitsOf (V 0) 64 := by
        rw [hQ, List.append_assoc]
        exact List.take_left' hl
      rw [ht, valB_bitsOf, Nat.mod_eq_of_lt (hV 0 (by omega))]
      rfl
    · have ih := maskRead_mask V n R hV k (by omega)
      obtain ⟨Q, hQ⟩ := maskTo_split V k hk n (by omega)
      have hwin : winTo (vf (firstV V k)) k = winTo V k := winTo_congr _ _ _ (fun i hi => vf_firstV V k i hi)
      have hp : vf (firstV V k) (k - 1) = V (k - 1) := vf_firstV V k (k - 1) (by omega)
      have hd : (maskTo V n ++ R).drop (maskTo V k).length = mBits (winTo V k) (V k ^^^ V (k - 1)) ++ (Q ++ R) := by
        rw [hQ, List.append_assoc, List.drop_left, List.append_assoc]
      have hx := xor_lt (V k) (V (k - 1)) (hV k (by omega)) (hV (k - 1) (by omega))
      have hs := readStep_bits (winTo V k) (V (k - 1)) (V k ^^^ V (k - 1)) (Q ++ R) hx (winTo_ok V n hV k (by omega)).2
      rw [← hd] at hs
      have hb : V (k - 1) ^^^ (V k ^^^ V (k - 1)) = V k := by rw [Nat.xor_comm (V k), ← Nat.xor_assoc, Nat.xor_self, Nat.zero_xor]
      rw [hb] at hs
      rw [maskRead_good _ k _ _ (winTo V k) (V (k - 1)) _ _ hk ih hwin hp hs, maskTo_step V k hk, List.length_append]
      simp [firstV, List.range_succ]
end BitMath
