/- Plain mathematics of waves, second part: what is put is read; a form that is a number's own. Nothing of Go. -/
import Derived.Test.YtabojdlhhdceoaaDoorWaveMath
namespace BitMath

theorem bits_val (X : List Bool) : bitsOf (valB X) X.length = X := by
  apply List.ext_getElem (length_bitsOf _ _)
  intro i h1 h2
  rw [getElem_bitsOf, testBit_valB, decide_eq_true (by omega), Bool.true_and, List.getD_eq_getElem?_getD, List.getElem?_eq_getElem (by omega), Option.getD_some]
  congr 1
  omega

theorem bytes_pack (bs : List Bool) : (bitsOfBytes (pack bs)).take bs.length = bs := by
  apply List.ext_getElem?
  intro i
  by_cases h : i < bs.length
  · rw [List.getElem?_take_of_lt h, getElem_bitsOfBytes _ _ (by rw [length_pack]; omega), pack, getElem_packTo _ _ _ (by omega), Option.getD_some]
    have hlt := byteAt_lt bs (i / 8)
    rw [show (UInt8.ofNat (byteAt bs (i / 8))).toNat = byteAt bs (i / 8) from by simp [Nat.mod_eq_of_lt hlt], testBit_byteAt _ _ _ (by omega), show 8 * (i / 8) + (7 - (7 - i % 8)) = i from by omega, List.getD_eq_getElem?_getD, List.getElem?_eq_getElem h, Option.getD_some]
  · rw [List.getElem?_eq_none (by simp; omega), List.getElem?_eq_none (by omega)]

/-- What a reader of l with N bits has from i on. -/
def restB (l : List UInt8) (i N : Nat) : List Bool := ((bitsOfBytes l).take N).drop i
theorem length_restB (l : List UInt8) (i N : Nat) (hN : N ≤ 8 * l.length) : (restB l i N).length = N - i := by
  rw [restB, List.length_drop, List.length_take, length_bitsOfBytes]
  omega
theorem readB_rest (l : List UInt8) (i n N : Nat) (h : i + n ≤ N) : readB l i n = (restB l i N).take n := by
  rw [readB, restB, List.drop_take, List.take_take, Nat.min_eq_left (by omega)]
theorem restB_drop (l : List UInt8) (i n N : Nat) : restB l (i + n) N = (restB l i N).drop n := by
  rw [restB, restB, List.drop_drop]
theorem restB_pack (bs : List Bool) (i : Nat) : restB (pack bs) i bs.length = bs.drop i := by
  rw [restB, bytes_pack]
theorem valB_one (b : Bool) : valB [b] = b.toNat := by cases b <;> rfl

theorem u64_num (o v : Nat) (ho : o ≤ 4) (hv : v < 2 ^ wideOf o) : u64 (numOf o v + biasOf o) = v := by
  unfold u64 numOf
  match o, ho with
  | 0, _ => simp [wideOf, biasOf] at *; omega
  | 1, _ => simp [wideOf, biasOf] at *; omega
  | 2, _ => simp [wideOf, biasOf] at *; omega
  | 3, _ => simp [wideOf, biasOf] at *; omega
  | 4, _ => simp [wideOf, biasOf] at *; split <;> omega

theorem num_u64 (n : Int) (h0 : -9223372036854775808 ≤ n) (h1 : n ≤ 9223372036854775807) : numOf (formOf n) (u64 (n + biasOf (formOf n))) = n := by
  unfold formOf
  by_cases a : n = 0
  · rw [if_pos a]; subst a; rfl
  · rw [if_neg a]
    by_cases b : -64 < n ∧ n < 65
    · rw [if_pos b]; simp only [numOf, biasOf, u64]; rw [if_neg (by decide)]; omega
    · rw [if_neg b]
      by_cases c : -256 < n ∧ n < 257
      · rw [if_pos c]; simp only [numOf, biasOf, u64]; rw [if_neg (by decide)]; omega
      · rw [if_neg c]
        by_cases d : -2048 < n ∧ n < 2049
        · rw [if_pos d]; simp only [numOf, biasOf, u64]; rw [if_neg (by decide)]; omega
        · rw [if_neg d]; simp only [numOf, biasOf, u64, if_true]; split <;> omega
theorem u64_lt_wide (n : Int) (h0 : -9223372036854775808 ≤ n) (h1 : n ≤ 9223372036854775807) : u64 (n + biasOf (formOf n)) < 2 ^ wideOf (formOf n) := by
  unfold formOf
  by_cases a : n = 0
  · rw [if_pos a]; subst a; decide
  · rw [if_neg a]
    by_cases b : -64 < n ∧ n < 65
    · rw [if_pos b]; simp only [biasOf, u64, wideOf]; omega
    · rw [if_neg b]
      by_cases c : -256 < n ∧ n < 257
      · rw [if_pos c]; simp only [biasOf, u64, wideOf]; omega
      · rw [if_neg c]
        by_cases d : -2048 < n ∧ n < 2049
        · rw [if_pos d]; simp only [biasOf, u64, wideOf]; omega
        · rw [if_neg d]; simp only [biasOf, u64, wideOf]; omega

theorem ones_head (o : Nat) (ho : o ≤ 4) (R : List Bool) : onesOf (headOf o ++ R) 4 = o := by
  match o, ho with
  | 0, _ => rfl
  | 1, _ => rfl
  | 2, _ => rfl
  | 3, _ => rfl
  | 4, _ => simp [headOf, onesOf]
theorem head_len (o : Nat) (_ho : o ≤ 4) : (headOf o).length = if o < 4 then o + 1 else 4 := length_headOf o
theorem take_head (D : List Bool) : ∀ o, onesOf D 4 = o → (headOf o).length ≤ D.length → D.take (headOf o).length = headOf o := by
  match D with
  | [] => intro o ho hl; subst ho; simp [onesOf, headOf] at hl
  | false :: r => intro o ho _; subst ho; rfl
  | [true] => intro o ho hl; subst ho; simp [onesOf, headOf] at hl
  | true :: false :: r => intro o ho _; subst ho; rfl
  | [true, true] => intro o ho hl; subst ho; simp [onesOf, headOf] at hl
  | true :: true :: false :: r => intro o ho _; subst ho; rfl
  | [true, true, true] => intro o ho hl; subst ho; simp [onesOf, headOf] at hl
  | true :: true :: true :: false :: r => intro o ho _; subst ho; rfl
  | true :: true :: true :: true :: r =>
    intro o ho _
    have : o = 4 := by rw [← ho]; simp [onesOf]
    subst this
    rfl

/-- A wave with whatever behind it is read as its number. -/
theorem unwave_wave (n : Int) (R : List Bool) (h0 : -9223372036854775808 ≤ n) (h1 : n ≤ 9223372036854775807) : unwave (waveOf n ++ R) = (0, n, (waveOf n).length) := by
  have hlen := length_waveOf n
  have hon : onesOf (waveOf n ++ R) 4 = formOf n := by rw [waveOf, List.append_assoc]; exact ones_head _ (formOf_le n) _
  have hh := head_len (formOf n) (formOf_le n)
  rw [unwave_long (waveOf n ++ R) (formOf n) _ hon hh (by rw [List.length_append]; omega) (u64 (n + biasOf (formOf n))) ?_]
  · rw [num_u64 n h0 h1, ← hlen, List.take_left, if_pos rfl]
  · rw [waveOf, List.append_assoc, List.drop_left, List.take_append_of_le_length (by rw [length_bitsOf]; exact Nat.le_refl _), List.take_of_length_le (by rw [length_bitsOf]; exact Nat.le_refl _), valB_bitsOf, Nat.mod_eq_of_lt (u64_lt_wide n h0 h1)]

/-- Bits of form o are the wave of their number just if o is the number's own form. -/
theorem wave_own (D : List Bool) (o : Nat) (ho : onesOf D 4 = o) (hl : (headOf o).length + wideOf o ≤ D.length) (v : Nat) (hv : v = valB ((D.drop (headOf o).length).take (wideOf o))) :
    (waveOf (numOf o v) = D.take ((headOf o).length + wideOf o)) = (formOf (numOf o v) = o) := by
  have ho4 : o ≤ 4 := by rw [← ho]; exact onesOf_le _ _
  have hX : ((D.drop (headOf o).length).take (wideOf o)).length = wideOf o := by simp; omega
  have hvl : v < 2 ^ wideOf o := by
    have := valB_lt ((D.drop (headOf o).length).take (wideOf o))
    rwa [hX, ← hv] at this
  apply propext
  constructor
  · intro h
    have e1 : onesOf (waveOf (numOf o v) ++ []) 4 = formOf (numOf o v) := by rw [waveOf, List.append_assoc]; exact ones_head _ (formOf_le _) _
    have e2 : D.take ((headOf o).length + wideOf o) = headOf o ++ (D.drop (headOf o).length).take (wideOf o) := by
      rw [List.take_add, take_head D o ho (by omega)]
    rw [List.append_nil, h, e2, ones_head o ho4] at e1
    exact e1.symm
  · intro h
    rw [waveOf, h, u64_num o v ho4 hvl, List.take_add, take_head D o ho (by omega)]
    congr 1
    rw [hv]
    have := bits_val ((D.drop (headOf o).length).take (wideOf o))
    rw [hX] at this
    exact this
end BitMath
