/- Plain mathematics of masks, second part: reading. Nothing of Go. -/
import Derived.Test.YtfanagohfimnkaaDoorMaskMath
namespace BitMath

theorem winTo_congr (V U : Nat → Nat) : ∀ k, (∀ i, i < k → V i = U i) → winTo V k = winTo U k
  | 0, _ => rfl
  | k + 1, h => by
    by_cases hk : k = 0
    · subst hk; rw [winTo_first, winTo_first]
    · rw [winTo_step V k hk, winTo_step U k hk, winTo_congr V U k (fun i hi => h i (by omega)), h k (by omega), h (k - 1) (by omega)]
theorem maskTo_congr (V U : Nat → Nat) : ∀ k, (∀ i, i < k → V i = U i) → maskTo V k = maskTo U k
  | 0, _ => rfl
  | k + 1, h => by
    by_cases hk : k = 0
    · subst hk; rw [maskTo_first, maskTo_first, h 0 (by omega)]
    · rw [maskTo_step V k hk, maskTo_step U k hk, maskTo_congr V U k (fun i hi => h i (by omega)), winTo_congr V U k (fun i hi => h i (by omega)), h k (by omega), h (k - 1) (by omega)]

/-- The list's values as a function. -/
def vf (vs : List Nat) (i : Nat) : Nat := vs.getD i 0
theorem vf_left (vs : List Nat) (v i : Nat) (h : i < vs.length) : vf (vs ++ [v]) i = vf vs i := by
  simp [vf, List.getElem?_append_left h]
theorem vf_last (vs : List Nat) (v : Nat) : vf (vs ++ [v]) vs.length = v := by simp [vf]
theorem xor_back (p x : Nat) : (p ^^^ x) ^^^ p = x := by rw [Nat.xor_comm p x, Nat.xor_assoc, Nat.xor_self, Nat.xor_zero]
theorem maskTo_next (vs : List Nat) (x : Nat) (h : vs.length ≠ 0) :
    maskTo (vf (vs ++ [vf vs (vs.length - 1) ^^^ x])) (vs.length + 1) = maskTo (vf vs) vs.length ++ mBits (winTo (vf vs) vs.length) x ∧
    winTo (vf (vs ++ [vf vs (vs.length - 1) ^^^ x])) (vs.length + 1) = mNext (winTo (vf vs) vs.length) x := by
  have hc : ∀ i, i < vs.length → vf (vs ++ [vf vs (vs.length - 1) ^^^ x]) i = vf vs i := fun i hi => vf_left _ _ _ hi
  rw [maskTo_step _ _ h, winTo_step _ _ h, maskTo_congr _ _ _ hc, winTo_congr _ _ _ hc, vf_last, hc (vs.length - 1) (by omega), xor_back]
  exact ⟨rfl, rfl⟩

/-- How many bits a window has; none: 0. -/
def wideW (w : Bool × Nat × Nat) : Nat := if w.1 = true then 64 - w.2.1 - w.2.2 else 0
def fixW (n : Nat) : Nat := if n = 0 then 64 else n
/-- Behind the mark: lead, width and how many bits the head has. -/
def headR (w : Bool × Nat × Nat) (D : List Bool) : Nat × Nat × Nat :=
  if D.getD 1 false = true then (valB ((D.drop 2).take 5), fixW (valB ((D.drop 7).take 6)), 13) else (w.2.1, wideW w, 2)
/-- One later value: an error's number, the value, how many bits. -/
def readStep (w : Bool × Nat × Nat) (p : Nat) (D : List Bool) : Nat × Nat × Nat :=
  if D.length = 0 then (5, 0, 0)
  else if D.getD 0 false = false then (0, p, 1)
  else if D.length ≤ 1 then (5, 0, 0)
  else if D.getD 1 false = true ∧ D.length < 13 then (5, 0, 0)
  else if (headR w D).2.1 = 0 ∨ 64 < (headR w D).1 + (headR w D).2.1 then (1, 0, 0)
  else if D.length < (headR w D).2.2 + (headR w D).2.1 then (5, 0, 0)
  else if valB ((D.drop (headR w D).2.2).take (headR w D).2.1) * 2 ^ (64 - (headR w D).1 - (headR w D).2.1) = 0 ∨ mBits w (valB ((D.drop (headR w D).2.2).take (headR w D).2.1) * 2 ^ (64 - (headR w D).1 - (headR w D).2.1)) ≠ D.take ((headR w D).2.2 + (headR w D).2.1) then (1, 0, 0)
  else (0, p ^^^ (valB ((D.drop (headR w D).2.2).take (headR w D).2.1) * 2 ^ (64 - (headR w D).1 - (headR w D).2.1)), (headR w D).2.2 + (headR w D).2.1)

/-- n values: an error's number, the values, how many bits. -/
def maskRead (D : List Bool) : Nat → Nat × List Nat × Nat
  | 0 => (0, [], 0)
  | k + 1 =>
    if (maskRead D k).1 ≠ 0 then maskRead D k
    else if k = 0 then (if D.length < 64 then (5, [], 0) else (0, [valB (D.take 64)], 64))
    else if (readStep (winTo (vf (maskRead D k).2.1) k) (vf (maskRead D k).2.1 (k - 1)) (D.drop (maskRead D k).2.2)).1 ≠ 0 then ((readStep (winTo (vf (maskRead D k).2.1) k) (vf (maskRead D k).2.1 (k - 1)) (D.drop (maskRead D k).2.2)).1, [], 0)
    else (0, (maskRead D k).2.1 ++ [(readStep (winTo (vf (maskRead D k).2.1) k) (vf (maskRead D k).2.1 (k - 1)) (D.drop (maskRead D k).2.2)).2.1], (maskRead D k).2.2 + (readStep (winTo (vf (maskRead D k).2.1) k) (vf (maskRead D k).2.1 (k - 1)) (D.drop (maskRead D k).2.2)).2.2)
theorem maskRead_err (D : List Bool) (k : Nat) (c : Nat) (hc : c ≠ 0) (h : maskRead D k = (c, [], 0)) : ∀ n, k ≤ n → maskRead D n = (c, [], 0)
  | 0, hn => by
    have : k = 0 := by omega
    subst this; exact h
  | n + 1, hn => by
    rcases Nat.lt_or_ge n k with h1 | h1
    · have : k = n + 1 := by omega
      subst this; exact h
    · have ih := maskRead_err D k c hc h n h1
      rw [maskRead, ih, if_pos hc]
theorem maskRead_first_bad (D : List Bool) (h : D.length < 64) : maskRead D 1 = (5, [], 0) := by
  rw [maskRead, if_neg (by simp [maskRead]), if_pos rfl, if_pos h]
theorem maskRead_first (D : List Bool) (h : 64 ≤ D.length) : maskRead D 1 = (0, [valB (D.take 64)], 64) := by
  rw [maskRead, if_neg (by simp [maskRead]), if_pos rfl, if_neg (by omega)]
theorem maskRead_bad (D : List Bool) (k u : Nat) (vs : List Nat) (w : Bool × Nat × Nat) (p c : Nat) (hk : k ≠ 0) (h : maskRead D k = (0, vs, u)) (hw : winTo (vf vs) k = w) (hp : vf vs (k - 1) = p) (hs : readStep w p (D.drop u) = (c, 0, 0)) (hc : c ≠ 0) : maskRead D (k + 1) = (c, [], 0) := by
  rw [maskRead, h, if_neg (by simp), if_neg hk, hw, hp, hs, if_pos hc]
theorem maskRead_good (D : List Bool) (k u : Nat) (vs : List Nat) (w : Bool × Nat × Nat) (p v m : Nat) (hk : k ≠ 0) (h : maskRead D k = (0, vs, u)) (hw : winTo (vf vs) k = w) (hp : vf vs (k - 1) = p) (hs : readStep w p (D.drop u) = (0, v, m)) : maskRead D (k + 1) = (0, vs ++ [v], u + m) := by
  rw [maskRead, h, if_neg (by simp), if_neg hk, hw, hp, hs, if_neg (by simp)]

theorem getD_take (D : List Bool) (n i : Nat) (h : i < n) : (D.take n).getD i false = D.getD i false := by
  rw [List.getD_eq_getElem?_getD, List.getD_eq_getElem?_getD, List.getElem?_take_of_lt h]
/-- What a head that Put would make tells of the window. -/
theorem head_new (w : Bool × Nat × Nat) (x : Nat) (hx : x < 18446744073709551616) (D : List Bool) (n : Nat) (hn : 13 ≤ n) (h0 : x ≠ 0) (hf : D.getD 1 false = true) (hm : mBits w x = D.take n) :
    mNext w x = (true, valB ((D.drop 2).take 5), 64 - valB ((D.drop 2).take 5) - fixW (valB ((D.drop 7).take 6))) ∧ wideW (mNext w x) = fixW (valB ((D.drop 7).take 6)) := by
  have hlt := lead_tail x hx h0
  have hl := lead_le x
  have h1 : (mBits w x).getD 1 false = true := by rw [hm, getD_take _ _ _ (by omega)]; exact hf
  have hnf : ¬ mFits w x = true := by
    intro hfit
    unfold mBits at h1
    rw [if_neg h0, if_pos hfit] at h1
    simp at h1
  have hb : mBits w x = [true, true] ++ bitsOf (mLead x) 5 ++ bitsOf (64 - mLead x - mTail x) 6 ++ ((bitsOf x 64).drop (mLead x)).take (64 - mTail x - mLead x) := by
    unfold mBits
    rw [if_neg h0, if_neg hnf]
  have e5 : (D.drop 2).take 5 = bitsOf (mLead x) 5 := by
    have : ((D.take n).drop 2).take 5 = (D.drop 2).take 5 := by rw [List.drop_take, List.take_take, Nat.min_eq_left (by omega)]
    rw [← this, ← hm, hb, List.append_assoc, List.append_assoc, List.drop_append_of_le_length (by simp)]
    simp only [List.drop_succ_cons, List.drop_zero, List.nil_append]
    rw [List.take_append_of_le_length (by rw [length_bitsOf]; exact Nat.le_refl _), List.take_of_length_le (by rw [length_bitsOf]; exact Nat.le_refl _)]
  have e6 : (D.drop 7).take 6 = bitsOf (64 - mLead x - mTail x) 6 := by
    have : ((D.take n).drop 7).take 6 = (D.drop 7).take 6 := by rw [List.drop_take, List.take_take, Nat.min_eq_left (by omega)]
    rw [← this, ← hm, hb, List.append_assoc ([true, true] ++ bitsOf (mLead x) 5), List.drop_append_of_le_length (by simp [length_bitsOf])]
    have : List.drop 7 ([true, true] ++ bitsOf (mLead x) 5) = [] := List.drop_of_length_le (by simp [length_bitsOf])
    rw [this, List.nil_append, List.take_append_of_le_length (by rw [length_bitsOf]; exact Nat.le_refl _), List.take_of_length_le (by rw [length_bitsOf]; exact Nat.le_refl _)]
  have v5 : valB ((D.drop 2).take 5) = mLead x := by rw [e5, valB_bitsOf]; exact Nat.mod_eq_of_lt (by omega)
  have v6 : fixW (valB ((D.drop 7).take 6)) = 64 - mLead x - mTail x := by
    rw [e6, valB_bitsOf]
    unfold fixW
    have : (2 : Nat) ^ 6 = 64 := rfl
    rw [this]
    split <;> omega
  have hnx : mNext w x = (true, mLead x, mTail x) := by unfold mNext; rw [if_neg h0, if_neg hnf]
  rw [hnx, v5, v6]
  refine ⟨?_, ?_⟩
  · congr 2
    omega
  · unfold wideW
    rw [if_pos rfl]
theorem head_old (w : Bool × Nat × Nat) (x : Nat) (D : List Bool) (n : Nat) (hn : 2 ≤ n) (h0 : x ≠ 0) (hf : D.getD 1 false = false) (_hd : D.getD 0 false = true) (hm : mBits w x = D.take n) : mNext w x = w := by
  have h1 : (mBits w x).getD 1 false = false := by rw [hm, getD_take _ _ _ (by omega)]; exact hf
  unfold mNext
  rw [if_neg h0]
  by_cases hfit : mFits w x = true
  · rw [if_pos hfit]
  · unfold mBits at h1
    rw [if_neg h0, if_neg hfit] at h1
    simp at h1
end BitMath
