/- Plain mathematics of a row of bits: what a piece that is put does to the bytes. Nothing of Go. -/
import Derived.Test.YtegcalkeopkhfaaBitMath
namespace BitMath

theorem getD_append_left (a b : List Bool) (i : Nat) (h : i < a.length) : (a ++ b).getD i false = a.getD i false := by
  rw [List.getD_eq_getElem?_getD, List.getD_eq_getElem?_getD, List.getElem?_append_left h]
theorem getD_append_right (a b : List Bool) (i : Nat) (h : a.length ≤ i) : (a ++ b).getD i false = b.getD (i - a.length) false := by
  rw [List.getD_eq_getElem?_getD, List.getD_eq_getElem?_getD, List.getElem?_append_right h]
theorem getD_end (a : List Bool) (i : Nat) (h : a.length ≤ i) : a.getD i false = false := by
  rw [List.getD_eq_getElem?_getD, List.getElem?_eq_none h]; rfl

theorem byteAt_or (bs X : List Bool) (h : X.length ≤ 8 - bs.length % 8) : byteAt (bs ++ X) (bs.length / 8) = byteAt bs (bs.length / 8) ||| (valB X <<< (8 - bs.length % 8 - X.length)) := by
  apply Nat.eq_of_testBit_eq
  intro j
  rw [Nat.testBit_or, Nat.testBit_shiftLeft]
  have hq : bs.length % 8 < 8 := Nat.mod_lt _ (by omega)
  have hd := Nat.div_add_mod bs.length 8
  by_cases hj : j < 8
  · rw [testBit_byteAt _ _ _ hj, testBit_byteAt _ _ _ hj, testBit_valB]
    by_cases hp : 8 * (bs.length / 8) + (7 - j) < bs.length
    · rw [getD_append_left _ _ _ hp]
      have h1 : ¬ j - (8 - bs.length % 8 - X.length) < X.length := by omega
      rw [decide_eq_false h1]
      simp
    · rw [getD_append_right _ _ _ (by omega), getD_end bs _ (by omega)]
      simp only [Bool.false_or]
      by_cases h2 : 8 - bs.length % 8 - X.length ≤ j
      · have h3 : j - (8 - bs.length % 8 - X.length) < X.length := by omega
        have h4 : decide (j ≥ 8 - bs.length % 8 - X.length) = true := decide_eq_true h2
        rw [h4, decide_eq_true h3]
        simp only [Bool.true_and]
        congr 1
        omega
      · have h4 : decide (j ≥ 8 - bs.length % 8 - X.length) = false := decide_eq_false (by omega)
        rw [h4, getD_end X _ (by omega)]
        rfl
  · rw [testBit_byteAt_ge _ _ _ (by omega), testBit_byteAt_ge _ _ _ (by omega), testBit_valB]
    have h1 : ¬ j - (8 - bs.length % 8 - X.length) < X.length := by omega
    rw [decide_eq_false h1]
    simp

theorem byteBits_congr (a b : List Bool) (i : Nat) : ∀ k, (∀ j, j < k → a.getD (8 * i + j) false = b.getD (8 * i + j) false) → byteBits a i k = byteBits b i k
  | 0, _ => rfl
  | k + 1, h => by rw [byteBits, byteBits, byteBits_congr a b i k (fun j hj => h j (by omega)), h k (by omega)]
theorem byteAt_low (bs X : List Bool) (i : Nat) (h : i < bs.length / 8) : byteAt (bs ++ X) i = byteAt bs i := by
  unfold byteAt
  rw [byteBits_congr (bs ++ X) bs i 8 (fun j hj => getD_append_left _ _ _ (by omega))]
theorem packTo_low (bs X : List Bool) : ∀ j, j ≤ bs.length / 8 → packTo (bs ++ X) j = packTo bs j
  | 0, _ => rfl
  | j + 1, h => by rw [packTo, packTo, packTo_low bs X j (by omega), byteAt_low bs X j (by omega)]
theorem byteBits_none (bs : List Bool) (i : Nat) : ∀ k, bs.length ≤ 8 * i → byteBits bs i k = List.replicate k false
  | 0, _ => rfl
  | k + 1, h => by rw [byteBits, byteBits_none bs i k h, getD_end bs _ (by omega), ← List.replicate_succ']
theorem byteAt_none (bs : List Bool) (i : Nat) (h : bs.length ≤ 8 * i) : byteAt bs i = 0 := by
  unfold byteAt
  rw [byteBits_none bs i 8 h]
  rfl
theorem pack_full (bs : List Bool) (h : bs.length % 8 = 0) : pack bs = packTo bs (bs.length / 8) := by
  unfold pack
  have : (bs.length + 7) / 8 = bs.length / 8 := by omega
  rw [this]
theorem pack_part (bs : List Bool) (h : bs.length % 8 ≠ 0) : pack bs = packTo bs (bs.length / 8 + 1) := by
  unfold pack
  have : (bs.length + 7) / 8 = bs.length / 8 + 1 := by omega
  rw [this]
theorem pack_full_zero (bs : List Bool) (h : bs.length % 8 = 0) : pack bs ++ [0] = packTo bs (bs.length / 8 + 1) := by
  rw [pack_full bs h, packTo, byteAt_none bs _ (by omega)]
  rfl
/-- A piece of t bits, 1 up to what is free in the last byte. -/
theorem pack_piece (bs X : List Bool) (h0 : 0 < X.length) (h : X.length ≤ 8 - bs.length % 8) :
    pack (bs ++ X) = packTo bs (bs.length / 8) ++ [UInt8.ofNat (byteAt bs (bs.length / 8) ||| (valB X <<< (8 - bs.length % 8 - X.length)))] := by
  unfold pack
  have : ((bs ++ X).length + 7) / 8 = bs.length / 8 + 1 := by rw [List.length_append]; omega
  rw [this, packTo, packTo_low bs X _ (Nat.le_refl _), byteAt_or bs X h]

theorem bitsOf_add (u t : Nat) : ∀ a, bitsOf u (a + t) = bitsOf (u >>> t) a ++ bitsOf u t
  | 0 => by rw [Nat.zero_add]; rfl
  | a + 1 => by
    have : a + 1 + t = (a + t) + 1 := by omega
    rw [this, bitsOf, bitsOf, bitsOf_add u t a, Nat.testBit_shiftRight, Nat.add_comm a t]
    rfl
/-- What has been put of a value's last n bits while m are left. -/
def putTo (v n m : Nat) : List Bool := bitsOf (v >>> m) (n - m)
theorem putTo_start (v n : Nat) : putTo v n n = [] := by simp [putTo, bitsOf]
theorem putTo_end (v n : Nat) : putTo v n 0 = bitsOf v n := by simp [putTo]
theorem length_putTo (v n m : Nat) : (putTo v n m).length = n - m := length_bitsOf _ _
theorem putTo_step (v n m t : Nat) (h : m ≤ n) (ht : t ≤ m) : putTo v n (m - t) = putTo v n m ++ bitsOf (v >>> (m - t)) t := by
  unfold putTo
  have e1 : n - (m - t) = (n - m) + t := by omega
  rw [e1, bitsOf_add, ← Nat.shiftRight_add]
  have e2 : m - t + t = m := by omega
  rw [e2]

theorem valB_append (a b : List Bool) : valB (a ++ b) = valB a * 2 ^ b.length + valB b := by
  refine snoc_ind (P := fun b => valB (a ++ b) = valB a * 2 ^ b.length + valB b) (by simp [valB]) (fun l c ih => ?_) b
  rw [← List.append_assoc, valB_snoc, valB_snoc, ih, List.length_append, List.length_singleton, Nat.pow_succ]
  rw [Nat.mul_add, ← Nat.mul_assoc (valB a), Nat.mul_comm 2 (valB a * 2 ^ l.length)]
  omega
/-- The bits of bytes from bit i on, n of them. -/
def readB (l : List UInt8) (i n : Nat) : List Bool := ((bitsOfBytes l).drop i).take n
theorem length_readB (l : List UInt8) (i n : Nat) (h : i + n ≤ 8 * l.length) : (readB l i n).length = n := by
  unfold readB
  rw [List.length_take, List.length_drop, length_bitsOfBytes]
  omega
theorem readB_zero (l : List UInt8) (i : Nat) : readB l i 0 = [] := by simp [readB]
theorem readB_add (l : List UInt8) (i n t : Nat) : readB l i (n + t) = readB l i n ++ readB l (i + n) t := by
  unfold readB
  rw [List.take_add, List.drop_drop]
theorem readB_byte (l : List UInt8) (i t : Nat) (h : i / 8 < l.length) (ht : t ≤ 8 - i % 8) : readB l i t = bitsOf ((l[i / 8]).toNat >>> (8 - i % 8 - t)) t := by
  apply List.ext_getElem?
  intro k
  unfold readB
  by_cases hk : k < t
  · have hR : (bitsOf ((l[i / 8]).toNat >>> (8 - i % 8 - t)) t)[k]? = some ((l[i / 8]).toNat.testBit (8 - i % 8 - t + (t - 1 - k))) := by
      rw [List.getElem?_eq_getElem (by rw [length_bitsOf]; exact hk), getElem_bitsOf, Nat.testBit_shiftRight]
    rw [List.getElem?_take_of_lt hk, List.getElem?_drop, getElem_bitsOfBytes l (i + k) (by omega), hR]
    have e1 : (i + k) / 8 = i / 8 := by omega
    have e2 : (i + k) % 8 = i % 8 + k := by omega
    rw [e1, e2, List.getElem?_eq_getElem h, Option.getD_some]
    congr 2
    omega
  · rw [List.getElem?_eq_none (by rw [List.length_take]; omega), List.getElem?_eq_none (by rw [length_bitsOf]; omega)]
theorem valB_readB (l : List UInt8) (i n t : Nat) (h : (i + n) / 8 < l.length) (ht : t ≤ 8 - (i + n) % 8) (hl : i + n + t ≤ 8 * l.length) :
    valB (readB l i (n + t)) = (valB (readB l i n) * 2 ^ t) ||| (((l[(i + n) / 8]).toNat >>> (8 - (i + n) % 8 - t)) % 2 ^ t) := by
  rw [readB_add, valB_append, length_readB _ _ _ hl, readB_byte l (i + n) t h ht, valB_bitsOf]
  have hlt : ((l[(i + n) / 8]).toNat >>> (8 - (i + n) % 8 - t)) % 2 ^ t < 2 ^ t := Nat.mod_lt _ (Nat.two_pow_pos t)
  have := Nat.shiftLeft_add_eq_or_of_lt hlt (valB (readB l i n))
  rw [Nat.shiftLeft_eq] at this
  exact this
end BitMath
