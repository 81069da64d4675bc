/- Plain mathematics of bits: lists of Bool, highest bit first; their texts, their values, the bytes that hold them. Nothing of Go. -/
namespace BitMath

/-- The last n bits of v, the highest first. -/
def bitsOf (v : Nat) : Nat → List Bool
  | 0 => []
  | n + 1 => v.testBit n :: bitsOf v n

theorem length_bitsOf (v : Nat) : ∀ n, (bitsOf v n).length = n
  | 0 => rfl
  | n + 1 => by simp [bitsOf, length_bitsOf v n]

theorem getElem_bitsOf (v : Nat) : ∀ n i (h : i < (bitsOf v n).length), (bitsOf v n)[i] = v.testBit (n - 1 - i)
  | 0, i, h => absurd h (by simp [bitsOf])
  | n + 1, 0, h => by simp [bitsOf]
  | n + 1, i + 1, h => by
    have h' : i < n := by simpa [length_bitsOf] using h
    simp only [bitsOf, List.getElem_cons_succ]
    rw [getElem_bitsOf v n i (by rw [length_bitsOf]; exact h')]
    congr 1
    omega

/-- The value of bits, the highest first. -/
def valB (bs : List Bool) : Nat := bs.foldl (fun a b => 2 * a + b.toNat) 0

theorem valB_snoc (bs : List Bool) (b : Bool) : valB (bs ++ [b]) = 2 * valB bs + b.toNat := by simp [valB]
theorem snoc_ind {α : Type} {P : List α → Prop} (h0 : P []) (hs : ∀ l a, P l → P (l ++ [a])) : ∀ l, P l := by
  intro l
  rw [← List.reverse_reverse l]
  induction l.reverse with
  | nil => exact h0
  | cons a r ih => rw [List.reverse_cons]; exact hs _ _ ih

theorem valB_lt (bs : List Bool) : valB bs < 2 ^ bs.length := by
  refine snoc_ind (P := fun bs => valB bs < 2 ^ bs.length) (by simp [valB]) (fun l a ih => ?_) bs
  rw [valB_snoc, List.length_append, List.length_singleton, Nat.pow_succ]
  cases a <;> simp <;> omega

theorem testBit_valB (bs : List Bool) : ∀ j, (valB bs).testBit j = (decide (j < bs.length) && bs.getD (bs.length - 1 - j) false) := by
  refine snoc_ind (P := fun bs => ∀ j, (valB bs).testBit j = (decide (j < bs.length) && bs.getD (bs.length - 1 - j) false)) ?_ ?_ bs
  · intro j; simp [valB]
  · intro l a ih j
    rw [valB_snoc]
    cases j with
    | zero =>
      rw [Nat.testBit_zero]
      simp
      cases a <;> simp <;> omega
    | succ j =>
      rw [Nat.testBit_succ]
      have e : (2 * valB l + a.toNat) / 2 = valB l := by cases a <;> simp <;> omega
      rw [e, ih j]
      simp only [List.length_append, List.length_singleton]
      by_cases h : j < l.length
      · have h1 : j + 1 < l.length + 1 := by omega
        rw [decide_eq_true h, decide_eq_true h1]
        simp only [Bool.true_and]
        have h2 : l.length + 1 - 1 - (j + 1) = l.length - 1 - j := by omega
        rw [h2, List.getD_eq_getElem?_getD, List.getD_eq_getElem?_getD, List.getElem?_append_left (by omega)]
      · have h1 : ¬ j + 1 < l.length + 1 := by omega
        rw [decide_eq_false h, decide_eq_false h1]
        rfl

theorem valB_bitsOf (v n : Nat) : valB (bitsOf v n) = v % 2 ^ n := by
  apply Nat.eq_of_testBit_eq
  intro j
  rw [testBit_valB, Nat.testBit_mod_two_pow, length_bitsOf]
  by_cases h : j < n
  · rw [decide_eq_true h]
    simp only [Bool.true_and]
    rw [List.getD_eq_getElem?_getD, List.getElem?_eq_getElem (by rw [length_bitsOf]; omega), Option.getD_some, getElem_bitsOf]
    congr 1
    omega
  · rw [decide_eq_false h]; rfl

/-- The bits of bytes, one byte behind the other. -/
def bitsOfBytes (l : List UInt8) : List Bool := l.flatMap fun b => bitsOf b.toNat 8
theorem length_bitsOfBytes (l : List UInt8) : (bitsOfBytes l).length = 8 * l.length := by
  induction l with
  | nil => rfl
  | cons a r ih =>
    have : bitsOfBytes (a :: r) = bitsOf a.toNat 8 ++ bitsOfBytes r := by simp [bitsOfBytes]
    rw [this, List.length_append, length_bitsOf, ih, List.length_cons]
    omega
theorem getElem_bitsOfBytes (l : List UInt8) : ∀ i, i < 8 * l.length → (bitsOfBytes l)[i]? = some (((l[i / 8]?).getD 0).toNat.testBit (7 - i % 8)) := by
  induction l with
  | nil => intro i hi; simp at hi
  | cons a r ih =>
    intro i hi
    have e : bitsOfBytes (a :: r) = bitsOf a.toNat 8 ++ bitsOfBytes r := by simp [bitsOfBytes]
    rw [e]
    by_cases h : i < 8
    · rw [List.getElem?_append_left (by rw [length_bitsOf]; exact h), List.getElem?_eq_getElem (by rw [length_bitsOf]; exact h), getElem_bitsOf]
      have h1 : i / 8 = 0 := by omega
      have h2 : i % 8 = i := by omega
      rw [h1, h2]
      simp
    · rw [List.getElem?_append_right (by rw [length_bitsOf]; omega), length_bitsOf, ih (i - 8) (by simp at hi; omega)]
      have h1 : i / 8 = (i - 8) / 8 + 1 := by omega
      have h2 : i % 8 = (i - 8) % 8 := by omega
      rw [h1, h2]
      simp

/-- Eight bits from bit 8 * i on, none behind the end, as a byte. -/
def byteBits (bs : List Bool) (i : Nat) : Nat → List Bool
  | 0 => []
  | k + 1 => byteBits bs i k ++ [bs.getD (8 * i + k) false]
theorem length_byteBits (bs : List Bool) (i : Nat) : ∀ k, (byteBits bs i k).length = k
  | 0 => rfl
  | k + 1 => by simp [byteBits, length_byteBits bs i k]
theorem getD_byteBits (bs : List Bool) (i : Nat) : ∀ k j, j < k → (byteBits bs i k).getD j false = bs.getD (8 * i + j) false
  | 0, j, h => absurd h (by omega)
  | k + 1, j, h => by
    by_cases hj : j < k
    · rw [← getD_byteBits bs i k j hj, byteBits, List.getD_eq_getElem?_getD, List.getElem?_append_left (by rw [length_byteBits]; exact hj), List.getD_eq_getElem?_getD]
    · have : j = k := by omega
      subst this
      rw [byteBits, List.getD_eq_getElem?_getD, List.getElem?_append_right (by rw [length_byteBits]; exact Nat.le_refl _), length_byteBits]
      simp
def byteAt (bs : List Bool) (i : Nat) : Nat := valB (byteBits bs i 8)
theorem byteAt_lt (bs : List Bool) (i : Nat) : byteAt bs i < 256 := by
  have := valB_lt (byteBits bs i 8)
  rw [length_byteBits] at this
  exact this
theorem testBit_byteAt (bs : List Bool) (i j : Nat) (h : j < 8) : (byteAt bs i).testBit j = bs.getD (8 * i + (7 - j)) false := by
  rw [byteAt, testBit_valB, length_byteBits, decide_eq_true h, Bool.true_and, getD_byteBits _ _ _ _ (by omega)]
theorem testBit_byteAt_ge (bs : List Bool) (i j : Nat) (h : 8 ≤ j) : (byteAt bs i).testBit j = false := by
  rw [byteAt, testBit_valB, length_byteBits, decide_eq_false (by omega), Bool.false_and]
/-- The first j bytes of bits. -/
def packTo (bs : List Bool) : Nat → List UInt8
  | 0 => []
  | j + 1 => packTo bs j ++ [UInt8.ofNat (byteAt bs j)]
theorem length_packTo (bs : List Bool) : ∀ j, (packTo bs j).length = j
  | 0 => rfl
  | j + 1 => by simp [packTo, length_packTo bs j]
def pack (bs : List Bool) : List UInt8 := packTo bs ((bs.length + 7) / 8)
theorem length_pack (bs : List Bool) : (pack bs).length = (bs.length + 7) / 8 := length_packTo _ _
theorem getElem_packTo (bs : List Bool) : ∀ j i, i < j → (packTo bs j)[i]? = some (UInt8.ofNat (byteAt bs i))
  | 0, i, h => absurd h (by omega)
  | j + 1, i, h => by
    by_cases hi : i < j
    · rw [packTo, List.getElem?_append_left (by rw [length_packTo]; exact hi), getElem_packTo bs j i hi]
    · have : i = j := by omega
      subst this
      rw [packTo, List.getElem?_append_right (by rw [length_packTo]; exact Nat.le_refl _), length_packTo]
      simp

end BitMath
/- Plain mathematics of a row of bits: what a piece that is put does to the bytes. Nothing of Go. -/
namespace BitMath

theorem getD_append_left (a b : List Bool) (i : Nat) (h : i < a.length) : (a ++ b).getD i false = a.getD i false := by
  rw [List.getD_eq_getElem?_getD, List.getD_eq_getElem?_getD, List.getElem?_append_left h]
theorem getD_append_right (a b : List Bool) (i : Nat) (h : a.length ≤ i) : (a ++ b).getD i false = b.getD (i - a.length) false := by
  rw [List.getD_eq_getElem?_getD, List.getD_eq_getElem?_getD, List.getElem?_append_right h]
theorem getD_end (a : List Bool) (i : Nat) (h : a.length ≤ i) : a.getD i false = false := by
  rw [List.getD_eq_getElem?_getD, List.getElem?_eq_none h]; rfl

theorem byteAt_or (bs X : List Bool) (h : X.length ≤ 8 - bs.length % 8) : byteAt (bs ++ X) (bs.length / 8) = byteAt bs (bs.length / 8) ||| (valB X <<< (8 - bs.length % 8 - X.length)) := by
  apply Nat.eq_of_testBit_eq
  intro j
  rw [Nat.testBit_or, Nat.testBit_shiftLeft]
  have hq : bs.length % 8 < 8 := Nat.mod_lt _ (by omega)
  have hd := Nat.div_add_mod bs.length 8
  by_cases hj : j < 8
  · rw [testBit_byteAt _ _ _ hj, testBit_byteAt _ _ _ hj, testBit_valB]
    by_cases hp : 8 * (bs.length / 8) + (7 - j) < bs.length
    · rw [getD_append_left _ _ _ hp]
      have h1 : ¬ j - (8 - bs.length % 8 - X.length) < X.length := by omega
      rw [decide_eq_false h1]
      simp
    · rw [getD_append_right _ _ _ (by omega), getD_end bs _ (by omega)]
      simp only [Bool.false_or]
      by_cases h2 : 8 - bs.length % 8 - X.length ≤ j
      · have h3 : j - (8 - bs.length % 8 - X.length) < X.length := by omega
        have h4 : decide (j ≥ 8 - bs.length % 8 - X.length) = true := decide_eq_true h2
        rw [h4, decide_eq_true h3]
        simp only [Bool.true_and]
        congr 1
        omega
      · have h4 : decide (j ≥ 8 - bs.length % 8 - X.length) = false := decide_eq_false (by omega)
        rw [h4, getD_end X _ (by omega)]
        rfl
  · rw [testBit_byteAt_ge _ _ _ (by omega), testBit_byteAt_ge _ _ _ (by omega), testBit_valB]
    have h1 : ¬ j - (8 - bs.length % 8 - X.length) < X.length := by omega
    rw [decide_eq_false h1]
    simp

theorem byteBits_congr (a b : List Bool) (i : Nat) : ∀ k, (∀ j, j < k → a.getD (8 * i + j) false = b.getD (8 * i + j) false) → byteBits a i k = byteBits b i k
  | 0, _ => rfl
  | k + 1, h => by rw [byteBits, byteBits, byteBits_congr a b i k (fun j hj => h j (by omega)), h k (by omega)]
theorem byteAt_low (bs X : List Bool) (i : Nat) (h : i < bs.length / 8) : byteAt (bs ++ X) i = byteAt bs i := by
  unfold byteAt
  rw [byteBits_congr (bs ++ X) bs i 8 (fun j hj => getD_append_left _ _ _ (by omega))]
theorem packTo_low (bs X : List Bool) : ∀ j, j ≤ bs.length / 8 → packTo (bs ++ X) j = packTo bs j
  | 0, _ => rfl
  | j + 1, h => by rw [packTo, packTo, packTo_low bs X j (by omega), byteAt_low bs X j (by omega)]
theorem byteBits_none (bs : List Bool) (i : Nat) : ∀ k, bs.length ≤ 8 * i → byteBits bs i k = List.replicate k false
  | 0, _ => rfl
  | k + 1, h => by rw [byteBits, byteBits_none bs i k h, getD_end bs _ (by omega), ← List.replicate_succ']
theorem byteAt_none (bs : List Bool) (i : Nat) (h : bs.length ≤ 8 * i) : byteAt bs i = 0 := by
  unfold byteAt
  rw [byteBits_none bs i 8 h]
  rfl
theorem pack_full (bs : List Bool) (h : bs.length % 8 = 0) : pack bs = packTo bs (bs.length / 8) := by
  unfold pack
  have : (bs.length + 7) / 8 = bs.length / 8 := by omega
  rw [this]
theorem pack_part (bs : List Bool) (h : bs.length % 8 ≠ 0) : pack bs = packTo bs (bs.length / 8 + 1) := by
  unfold pack
  have : (bs.length + 7) / 8 = bs.length / 8 + 1 := by omega
  rw [this]
theorem pack_full_zero (bs : List Bool) (h : bs.length % 8 = 0) : pack bs ++ [0] = packTo bs (bs.length / 8 + 1) := by
  rw [pack_full bs h, packTo, byteAt_none bs _ (by omega)]
  rfl
/-- A piece of t bits, 1 up to what is free in the last byte. -/
theorem pack_piece (bs X : List Bool) (h0 : 0 < X.length) (h : X.length ≤ 8 - bs.length % 8) :
    pack (bs ++ X) = packTo bs (bs.length / 8) ++ [UInt8.ofNat (byteAt bs (bs.length / 8) ||| (valB X <<< (8 - bs.length % 8 - X.length)))] := by
  unfold pack
  have : ((bs ++ X).length + 7) / 8 = bs.length / 8 + 1 := by rw [List.length_append]; omega
  rw [this, packTo, packTo_low bs X _ (Nat.le_refl _), byteAt_or bs X h]

theorem bitsOf_add (u t : Nat) : ∀ a, bitsOf u (a + t) = bitsOf (u >>> t) a ++ bitsOf u t
  | 0 => by rw [Nat.zero_add]; rfl
  | a + 1 => by
    have : a + 1 + t = (a + t) + 1 := by omega
    rw [this, bitsOf, bitsOf, bitsOf_add u t a, Nat.testBit_shiftRight, Nat.add_comm a t]
    rfl
/-- What has been put of a value's last n bits while m are left. -/
def putTo (v n m : Nat) : List Bool := bitsOf (v >>> m) (n - m)
theorem putTo_start (v n : Nat) : putTo v n n = [] := by simp [putTo, bitsOf]
theorem putTo_end (v n : Nat) : putTo v n 0 = bitsOf v n := by simp [putTo]
theorem length_putTo (v n m : Nat) : (putTo v n m).length = n - m := length_bitsOf _ _
theorem putTo_step (v n m t : Nat) (h : m ≤ n) (ht : t ≤ m) : putTo v n (m - t) = putTo v n m ++ bitsOf (v >>> (m - t)) t := by
  unfold putTo
  have e1 : n - (m - t) = (n - m) + t := by omega
  rw [e1, bitsOf_add, ← Nat.shiftRight_add]
  have e2 : m - t + t = m := by omega
  rw [e2]

theorem valB_append (a b : List Bool) : valB (a ++ b) = valB a * 2 ^ b.length + valB b := by
  refine snoc_ind (P := fun b => valB (a ++ b) = valB a * 2 ^ b.length + valB b) (by simp [valB]) (fun l c ih => ?_) b
  rw [← List.append_assoc, valB_snoc, valB_snoc, ih, List.length_append, List.length_singleton, Nat.pow_succ]
  rw [Nat.mul_add, ← Nat.mul_assoc (valB a), Nat.mul_comm 2 (valB a * 2 ^ l.length)]
  omega
/-- The bits of bytes from bit i on, n of them. -/
def readB (l : List UInt8) (i n : Nat) : List Bool := ((bitsOfBytes l).drop i).take n
theorem length_readB (l : List UInt8) (i n : Nat) (h : i + n ≤ 8 * l.length) : (readB l i n).length = n := by
  unfold readB
  rw [List.length_take, List.length_drop, length_bitsOfBytes]
  omega
theorem readB_zero (l : List UInt8) (i : Nat) : readB l i 0 = [] := by simp [readB]
theorem readB_add (l : List UInt8) (i n t : Nat) : readB l i (n + t) = readB l i n ++ readB l (i + n) t := by
  unfold readB
  rw [List.take_add, List.drop_drop]
theorem readB_byte (l : List UInt8) (i t : Nat) (h : i / 8 < l.length) (ht : t ≤ 8 - i % 8) : readB l i t = bitsOf ((l[i / 8]).toNat >>> (8 - i % 8 - t)) t := by
  apply List.ext_getElem?
  intro k
  unfold readB
  by_cases hk : k < t
  · have hR : (bitsOf ((l[i / 8]).toNat >>> (8 - i % 8 - t)) t)[k]? = some ((l[i / 8]).toNat.testBit (8 - i % 8 - t + (t - 1 - k))) := by
      rw [List.getElem?_eq_getElem (by rw [length_bitsOf]; exact hk), getElem_bitsOf, Nat.testBit_shiftRight]
    rw [List.getElem?_take_of_lt hk, List.getElem?_drop, getElem_bitsOfBytes l (i + k) (by omega), hR]
    have e1 : (i + k) / 8 = i / 8 := by omega
    have e2 : (i + k) % 8 = i % 8 + k := by omega
    rw [e1, e2, List.getElem?_eq_getElem h, Option.getD_some]
    congr 2
    omega
  · rw [List.getElem?_eq_none (by rw [List.length_take]; omega), List.getElem?_eq_none (by rw [length_bitsOf]; omega)]
theorem valB_readB (l : List UInt8) (i n t : Nat) (h : (i + n) / 8 < l.length) (ht : t ≤ 8 - (i + n) % 8) (hl : i + n + t ≤ 8 * l.length) :
    valB (readB l i (n + t)) = (valB (readB l i n) * 2 ^ t) ||| (((l[(i + n) / 8]).toNat >>> (8 - (i + n) % 8 - t)) % 2 ^ t) := by
  rw [readB_add, valB_append, length_readB _ _ _ hl, readB_byte l (i + n) t h ht, valB_bitsOf]
  have hlt : ((l[(i + n) / 8]).toNat >>> (8 - (i + n) % 8 - t)) % 2 ^ t < 2 ^ t := Nat.mod_lt _ (Nat.two_pow_pos t)
  have := Nat.shiftLeft_add_eq_or_of_lt hlt (valB (readB l i n))
  rw [Nat.shiftLeft_eq] at this
  exact this
end BitMath
/- Plain mathematics of bits: cuts of texts, and of bytes. Nothing of Go. -/
namespace BitMath
end BitMath
/- Plain mathematics of waves: a number's bits, and a number of bits. Nothing of Go. -/
namespace BitMath

/-- A whole number as 64 bits. -/
def u64 (n : Int) : Nat := (n % 18446744073709551616).toNat
theorem u64_lt (n : Int) : u64 n < 18446744073709551616 := by unfold u64; omega
/-- The form of a number: how many ones are ahead. -/
def formOf (n : Int) : Nat := if n = 0 then 0 else if -64 < n ∧ n < 65 then 1 else if -256 < n ∧ n < 257 then 2 else if -2048 < n ∧ n < 2049 then 3 else 4
def headOf : Nat → List Bool
  | 0 => [false]
  | 1 => [true, false]
  | 2 => [true, true, false]
  | 3 => [true, true, true, false]
  | _ => [true, true, true, true]
def wideOf : Nat → Nat
  | 0 => 0
  | 1 => 7
  | 2 => 9
  | 3 => 12
  | _ => 64
def biasOf : Nat → Int
  | 1 => 63
  | 2 => 255
  | 3 => 2047
  | _ => 0
/-- A number in a wave. -/
def waveOf (n : Int) : List Bool := headOf (formOf n) ++ bitsOf (u64 (n + biasOf (formOf n))) (wideOf (formOf n))
theorem formOf_le (n : Int) : formOf n ≤ 4 := by unfold formOf; split <;> (try split) <;> (try split) <;> (try split) <;> omega
theorem length_headOf (k : Nat) : (headOf k).length = if k < 4 then k + 1 else 4 := by
  match k with
  | 0 => rfl
  | 1 => rfl
  | 2 => rfl
  | 3 => rfl
  | k + 4 => rw [if_neg (by omega)]; rfl
theorem length_waveOf (n : Int) : (waveOf n).length = (headOf (formOf n)).length + wideOf (formOf n) := by rw [waveOf, List.length_append, length_bitsOf]
theorem length_waveOf_le (n : Int) : (waveOf n).length ≤ 68 := by
  rw [length_waveOf]
  have := formOf_le n
  match h : formOf n with
  | 0 => simp [headOf, wideOf]
  | 1 => simp [headOf, wideOf]
  | 2 => simp [headOf, wideOf]
  | 3 => simp [headOf, wideOf]
  | k + 4 =>
    have : k = 0 := by omega
    subst this
    simp [headOf, wideOf]

/-- How many ones are ahead, up to four. -/
def onesOf : List Bool → Nat → Nat
  | true :: r, f + 1 => onesOf r f + 1
  | _, _ => 0
theorem onesOf_le : ∀ (bs : List Bool) (f : Nat), onesOf bs f ≤ f
  | _, 0 => by cases ‹List Bool› with | nil => simp [onesOf] | cons a r => cases a <;> simp [onesOf]
  | [], f + 1 => by simp [onesOf]
  | true :: r, f + 1 => by simp [onesOf]; exact onesOf_le r f
  | false :: r, f + 1 => by simp [onesOf]

/-- What the bits from here on say: an error's number, the number, how many bits. -/
def unwave (bs : List Bool) : Nat × Int × Nat :=
  let o := onesOf bs 4
  let h := if o < 4 then o + 1 else 4
  if bs.length < h ∨ bs.length < h + wideOf o then (5, 0, 0)
  else
    let v := valB ((bs.drop h).take (wideOf o))
    let n : Int := if o = 4 then (if v < 9223372036854775808 then (v : Int) else (v : Int) - 18446744073709551616) else (v : Int) - biasOf o
    if waveOf n = bs.take (h + wideOf o) then (0, n, h + wideOf o) else (1, 0, 0)

theorem onesOf_eq : ∀ (f : Nat) (bs : List Bool) (o : Nat), o ≤ f → (∀ j, j < o → bs[j]? = some true) → (o < f → bs.getD o false = false) → onesOf bs f = o
  | 0, bs, o, h, _, _ => by
    have : o = 0 := by omega
    subst this
    have := onesOf_le bs 0
    omega
  | f + 1, [], o, h, h1, h2 => by
    match o with
    | 0 => rfl
    | o + 1 => have := h1 0 (by omega); simp at this
  | f + 1, b :: r, 0, h, h1, h2 => by
    have := h2 (by omega)
    simp at this
    subst this
    rfl
  | f + 1, b :: r, o + 1, h, h1, h2 => by
    have h0 := h1 0 (by omega)
    simp at h0
    subst h0
    simp only [onesOf]
    rw [onesOf_eq f r o (by omega) (fun j hj => by simpa using h1 (j + 1) (by omega)) (fun ho => by simpa using h2 (by omega))]

/-- The number that v is in form o. -/
def numOf (o v : Nat) : Int := if o = 4 then (if v < 9223372036854775808 then (v : Int) else (v : Int) - 18446744073709551616) else (v : Int) - biasOf o
theorem unwave_short (D : List Bool) (o h : Nat) (ho : onesOf D 4 = o) (hh : h = if o < 4 then o + 1 else 4) (hl : D.length < h + wideOf o) : unwave D = (5, 0, 0) := by
  subst ho hh
  unfold unwave
  simp only
  rw [if_pos (.inr hl)]
theorem unwave_long (D : List Bool) (o h : Nat) (ho : onesOf D 4 = o) (hh : h = if o < 4 then o + 1 else 4) (hl : h + wideOf o ≤ D.length) (v : Nat) (hv : v = valB ((D.drop h).take (wideOf o))) :
    unwave D = if waveOf (numOf o v) = D.take (h + wideOf o) then (0, numOf o v, h + wideOf o) else (1, 0, 0) := by
  subst ho hh hv
  unfold unwave numOf
  simp only
  rw [if_neg (by omega)]
end BitMath
/- Plain mathematics of waves, second part: what is put is read; a form that is a number's own. Nothing of Go. -/
namespace BitMath

theorem bits_val (X : List Bool) : bitsOf (valB X) X.length = X := by
  apply List.ext_getElem (length_bitsOf _ _)
  intro i h1 h2
  rw [getElem_bitsOf, testBit_valB, decide_eq_true (by omega), Bool.true_and, List.getD_eq_getElem?_getD, List.getElem?_eq_getElem (by omega), Option.getD_some]
  congr 1
  omega

theorem bytes_pack (bs : List Bool) : (bitsOfBytes (pack bs)).take bs.length = bs := by
  apply List.ext_getElem?
  intro i
  by_cases h : i < bs.length
  · rw [List.getElem?_take_of_lt h, getElem_bitsOfBytes _ _ (by rw [length_pack]; omega), pack, getElem_packTo _ _ _ (by omega), Option.getD_some]
    have hlt := byteAt_lt bs (i / 8)
    rw [show (UInt8.ofNat (byteAt bs (i / 8))).toNat = byteAt bs (i / 8) from by simp [Nat.mod_eq_of_lt hlt], testBit_byteAt _ _ _ (by omega), show 8 * (i / 8) + (7 - (7 - i % 8)) = i from by omega, List.getD_eq_getElem?_getD, List.getElem?_eq_getElem h, Option.getD_some]
  · rw [List.getElem?_eq_none (by simp; omega), List.getElem?_eq_none (by omega)]

/-- What a reader of l with N bits has from i on. -/
def restB (l : List UInt8) (i N : Nat) : List Bool := ((bitsOfBytes l).take N).drop i
theorem length_restB (l : List UInt8) (i N : Nat) (hN : N ≤ 8 * l.length) : (restB l i N).length = N - i := by
  rw [restB, List.length_drop, List.length_take, length_bitsOfBytes]
  omega
theorem readB_rest (l : List UInt8) (i n N : Nat) (h : i + n ≤ N) : readB l i n = (restB l i N).take n := by
  rw [readB, restB, List.drop_take, List.take_take, Nat.min_eq_left (by omega)]
theorem restB_drop (l : List UInt8) (i n N : Nat) : restB l (i + n) N = (restB l i N).drop n := by
  rw [restB, restB, List.drop_drop]
theorem valB_one (b : Bool) : valB [b] = b.toNat := by cases b <;> rfl

theorem u64_num (o v : Nat) (ho : o ≤ 4) (hv : v < 2 ^ wideOf o) : u64 (numOf o v + biasOf o) = v := by
  unfold u64 numOf
  match o, ho with
  | 0, _ => simp [wideOf, biasOf] at *; omega
  | 1, _ => simp [wideOf, biasOf] at *; omega
  | 2, _ => simp [wideOf, biasOf] at *; omega
  | 3, _ => simp [wideOf, biasOf] at *; omega
  | 4, _ => simp [wideOf, biasOf] at *; split <;> omega

theorem num_u64 (n : Int) (h0 : -9223372036854775808 ≤ n) (h1 : n ≤ 9223372036854775807) : numOf (formOf n) (u64 (n + biasOf (formOf n))) = n := by
  unfold formOf
  by_cases a : n = 0
  · rw [if_pos a]; subst a; rfl
  · rw [if_neg a]
    by_cases b : -64 < n ∧ n < 65
    · rw [if_pos b]; simp only [numOf, biasOf, u64]; rw [if_neg (by decide)]; omega
    · rw [if_neg b]
      by_cases c : -256 < n ∧ n < 257
      · rw [if_pos c]; simp only [numOf, biasOf, u64]; rw [if_neg (by decide)]; omega
      · rw [if_neg c]
        by_cases d : -2048 < n ∧ n < 2049
        · rw [if_pos d]; simp only [numOf, biasOf, u64]; rw [if_neg (by decide)]; omega
        · rw [if_neg d]; simp only [numOf, biasOf, u64, if_true]; split <;> omega
theorem u64_lt_wide (n : Int) (h0 : -9223372036854775808 ≤ n) (h1 : n ≤ 9223372036854775807) : u64 (n + biasOf (formOf n)) < 2 ^ wideOf (formOf n) := by
  unfold formOf
  by_cases a : n = 0
  · rw [if_pos a]; subst a; decide
  · rw [if_neg a]
    by_cases b : -64 < n ∧ n < 65
    · rw [if_pos b]; simp only [biasOf, u64, wideOf]; omega
    · rw [if_neg b]
      by_cases c : -256 < n ∧ n < 257
      · rw [if_pos c]; simp only [biasOf, u64, wideOf]; omega
      · rw [if_neg c]
        by_cases d : -2048 < n ∧ n < 2049
        · rw [if_pos d]; simp only [biasOf, u64, wideOf]; omega
        · rw [if_neg d]; simp only [biasOf, u64, wideOf]; omega

theorem ones_head (o : Nat) (ho : o ≤ 4) (R : List Bool) : onesOf (headOf o ++ R) 4 = o := by
  match o, ho with
  | 0, _ => rfl
  | 1, _ => rfl
  | 2, _ => rfl
  | 3, _ => rfl
  | 4, _ => simp [headOf, onesOf]
theorem head_len (o : Nat) (_ho : o ≤ 4) : (headOf o).length = if o < 4 then o + 1 else 4 := length_headOf o
theorem take_head (D : List Bool) : ∀ o, onesOf D 4 = o → (headOf o).length ≤ D.length → D.take (headOf o).length = headOf o := by
  match D with
  | [] => intro o ho hl; subst ho; simp [onesOf, headOf] at hl
  | false :: r => intro o ho _; subst ho; rfl
  | [true] => intro o ho hl; subst ho; simp [onesOf, headOf] at hl
  | true :: false :: r => intro o ho _; subst ho; rfl
  | [true, true] => intro o ho hl; subst ho; simp [onesOf, headOf] at hl
  | true :: true :: false :: r => intro o ho _; subst ho; rfl
  | [true, true, true] => intro o ho hl; subst ho; simp [onesOf, headOf] at hl
  | true :: true :: true :: false :: r => intro o ho _; subst ho; rfl
  | true :: true :: true :: true :: r =>
    intro o ho _
    have : o = 4 := by rw [← ho]; simp [onesOf]
    subst this
    rfl

/-- A wave with whatever behind it is read as its number. -/
theorem unwave_wave (n : Int) (R : List Bool) (h0 : -9223372036854775808 ≤ n) (h1 : n ≤ 9223372036854775807) : unwave (waveOf n ++ R) = (0, n, (waveOf n).length) := by
  have hlen := length_waveOf n
  have hon : onesOf (waveOf n ++ R) 4 = formOf n := by rw [waveOf, List.append_assoc]; exact ones_head _ (formOf_le n) _
  have hh := head_len (formOf n) (formOf_le n)
  rw [unwave_long (waveOf n ++ R) (formOf n) _ hon hh (by rw [List.length_append]; omega) (u64 (n + biasOf (formOf n))) ?_]
  · rw [num_u64 n h0 h1, ← hlen, List.take_left, if_pos rfl]
  · rw [waveOf, List.append_assoc, List.drop_left, List.take_append_of_le_length (by rw [length_bitsOf]; exact Nat.le_refl _), List.take_of_length_le (by rw [length_bitsOf]; exact Nat.le_refl _), valB_bitsOf, Nat.mod_eq_of_lt (u64_lt_wide n h0 h1)]

/-- Bits of form o are the wave of their number just if o is the number's own form. -/
theorem wave_own (D : List Bool) (o : Nat) (ho : onesOf D 4 = o) (hl : (headOf o).length + wideOf o ≤ D.length) (v : Nat) (hv : v = valB ((D.drop (headOf o).length).take (wideOf o))) :
    (waveOf (numOf o v) = D.take ((headOf o).length + wideOf o)) = (formOf (numOf o v) = o) := by
  have ho4 : o ≤ 4 := by rw [← ho]; exact onesOf_le _ _
  have hX : ((D.drop (headOf o).length).take (wideOf o)).length = wideOf o := by simp; omega
  have hvl : v < 2 ^ wideOf o := by
    have := valB_lt ((D.drop (headOf o).length).take (wideOf o))
    rwa [hX, ← hv] at this
  apply propext
  constructor
  · intro h
    have e1 : onesOf (waveOf (numOf o v) ++ []) 4 = formOf (numOf o v) := by rw [waveOf, List.append_assoc]; exact ones_head _ (formOf_le _) _
    have e2 : D.take ((headOf o).length + wideOf o) = headOf o ++ (D.drop (headOf o).length).take (wideOf o) := by
      rw [List.take_add, take_head D o ho (by omega)]
    rw [List.append_nil, h, e2, ones_head o ho4] at e1
    exact e1.symm
  · intro h
    rw [waveOf, h, u64_num o v ho4 hvl, List.take_add, take_head D o ho (by omega)]
    congr 1
    rw [hv]
    have := bits_val ((D.drop (headOf o).length).take (wideOf o))
    rw [hX] at this
    exact this
end BitMath
/- Plain mathematics of masks: values by what changes. Nothing of Go. -/
namespace BitMath

/-- How many bits are 0 at the head. -/
def lz : List Bool → Nat
  | false :: r => lz r + 1
  | _ => 0
theorem lz_le : ∀ l : List Bool, lz l ≤ l.length
  | [] => Nat.le_refl _
  | true :: _ => Nat.zero_le _
  | false :: r => by simp only [lz, List.length_cons]; have := lz_le r; omega
theorem lz_at : ∀ (l : List Bool) (i : Nat), l[i]? = some true → lz l ≤ i
  | [], i, h => by simp at h
  | true :: _, i, _ => Nat.zero_le _
  | false :: r, 0, h => by simp at h
  | false :: r, i + 1, h => by
    simp only [lz]
    have := lz_at r i (by simpa using h)
    omega
theorem lz_low : ∀ (l : List Bool) (i : Nat), i < lz l → l[i]? = some false
  | [], i, h => by simp [lz] at h
  | true :: _, i, h => by simp [lz] at h
  | false :: r, 0, _ => rfl
  | false :: r, i + 1, h => by
    simp only [lz] at h
    have := lz_low r i (by omega)
    simpa using this
theorem lz_end : ∀ l : List Bool, l[lz l]? ≠ some false
  | [] => by simp [lz]
  | true :: _ => by simp [lz]
  | false :: r => by simpa [lz] using lz_end r
theorem lz_eq : ∀ (l : List Bool) (k : Nat), (∀ i, i < k → l[i]? = some false) → l[k]? ≠ some false → lz l = k
  | [], 0, _, _ => rfl
  | [], k + 1, h, _ => by have := h 0 (by omega); simp at this
  | true :: _, 0, _, _ => rfl
  | true :: _, k + 1, h, _ => by have := h 0 (by omega); simp at this
  | false :: r, 0, _, h => by simp at h
  | false :: r, k + 1, h, h2 => by
    simp only [lz]
    rw [lz_eq r k (fun i hi => by simpa using h (i + 1) (by omega)) (by simpa using h2)]

theorem bits_some (x : Nat) (hx : x < 18446744073709551616) (h : x ≠ 0) : ∃ i, i < 64 ∧ (bitsOf x 64)[i]? = some true := by
  obtain ⟨j, hj⟩ := Nat.exists_testBit_of_ne_zero h
  have hj64 : j < 64 := by
    rcases Nat.lt_or_ge j 64 with h1 | h1
    · exact h1
    · have : x < 2 ^ j := Nat.lt_of_lt_of_le hx (by
        have : 2 ^ 64 ≤ 2 ^ j := Nat.pow_le_pow_right (by omega) h1
        exact this)
      rw [Nat.testBit_lt_two_pow this] at hj
      cases hj
  refine ⟨63 - j, by omega, ?_⟩
  have hl := length_bitsOf x 64
  rw [List.getElem?_eq_getElem (by omega), getElem_bitsOf, show 64 - 1 - (63 - j) = j by omega, hj]

/-- LEAD and TAIL of what changes. -/
def mLead (x : Nat) : Nat := min (lz (bitsOf x 64)) 31
def mTail (x : Nat) : Nat := lz (bitsOf x 64).reverse
theorem lead_le (x : Nat) : mLead x ≤ 31 := Nat.min_le_right _ _
theorem lead_tail (x : Nat) (hx : x < 18446744073709551616) (h : x ≠ 0) : mLead x + mTail x ≤ 63 := by
  obtain ⟨i, hi, ht⟩ := bits_some x hx h
  have h1 := lz_at _ _ ht
  have hl := length_bitsOf x 64
  have h2 : (bitsOf x 64).reverse[63 - i]? = some true := by
    rw [List.getElem?_reverse (by omega), hl, show 64 - 1 - (63 - i) = i by omega]
    exact ht
  have h3 := lz_at _ _ h2
  unfold mLead mTail
  omega

/-- A window: is there one, its lead, its tail. -/
def mFits (w : Bool × Nat × Nat) (x : Nat) : Bool := w.1 && (decide (w.2.1 ≤ mLead x) && decide (w.2.2 ≤ mTail x))
def mBits (w : Bool × Nat × Nat) (x : Nat) : List Bool :=
  if x = 0 then [false]
  else if mFits w x = true then [true, false] ++ ((bitsOf x 64).drop w.2.1).take (64 - w.2.2 - w.2.1)
  else [true, true] ++ bitsOf (mLead x) 5 ++ bitsOf (64 - mLead x - mTail x) 6 ++ ((bitsOf x 64).drop (mLead x)).take (64 - mTail x - mLead x)
def mNext (w : Bool × Nat × Nat) (x : Nat) : Bool × Nat × Nat := if x = 0 then w else if mFits w x = true then w else (true, mLead x, mTail x)
/-- The window behind k values, and their bits. -/
def winTo (V : Nat → Nat) : Nat → Bool × Nat × Nat
  | 0 => (false, 0, 0)
  | k + 1 => if k = 0 then (false, 0, 0) else mNext (winTo V k) (V k ^^^ V (k - 1))
def maskTo (V : Nat → Nat) : Nat → List Bool
  | 0 => []
  | k + 1 => if k = 0 then bitsOf (V 0) 64 else maskTo V k ++ mBits (winTo V k) (V k ^^^ V (k - 1))
theorem winTo_step (V : Nat → Nat) (k : Nat) (h : k ≠ 0) : winTo V (k + 1) = mNext (winTo V k) (V k ^^^ V (k - 1)) := by rw [winTo, if_neg h]
theorem maskTo_step (V : Nat → Nat) (k : Nat) (h : k ≠ 0) : maskTo V (k + 1) = maskTo V k ++ mBits (winTo V k) (V k ^^^ V (k - 1)) := by rw [maskTo, if_neg h]
theorem maskTo_first (V : Nat → Nat) : maskTo V 1 = bitsOf (V 0) 64 := by rw [maskTo, if_pos rfl]
theorem winTo_first (V : Nat → Nat) : winTo V 1 = (false, 0, 0) := by rw [winTo, if_pos rfl]
theorem xor_lt (a b : Nat) (ha : a < 18446744073709551616) (hb : b < 18446744073709551616) : a ^^^ b < 18446744073709551616 := Nat.xor_lt_two_pow (n := 64) ha hb
theorem winTo_ok (V : Nat → Nat) (n : Nat) (hV : ∀ i, i < n → V i < 18446744073709551616) : ∀ k, k ≤ n → (winTo V k).2.1 ≤ 31 ∧ (winTo V k).2.1 + (winTo V k).2.2 ≤ 63
  | 0, _ => by simp [winTo]
  | k + 1, h => by
    by_cases hk : k = 0
    · subst hk; rw [winTo_first]; simp
    · rw [winTo_step V k hk]
      have ih := winTo_ok V n hV k (by omega)
      have hx := xor_lt (V k) (V (k - 1)) (hV k (by omega)) (hV (k - 1) (by omega))
      unfold mNext
      by_cases h0 : V k ^^^ V (k - 1) = 0
      · rw [if_pos h0]; exact ih
      · rw [if_neg h0]
        by_cases h1 : mFits (winTo V k) (V k ^^^ V (k - 1)) = true
        · rw [if_pos h1]; exact ih
        · rw [if_neg h1]
          exact ⟨lead_le _, lead_tail _ hx h0⟩
theorem length_mBits (w : Bool × Nat × Nat) (x : Nat) : (mBits w x).length ≤ 77 := by
  have hl := length_bitsOf x 64
  unfold mBits
  split
  · simp
  · split
    · simp [hl]; omega
    · simp [hl, length_bitsOf]; omega
theorem length_maskTo (V : Nat → Nat) : ∀ k, (maskTo V k).length ≤ 77 * k
  | 0 => by simp [maskTo]
  | k + 1 => by
    by_cases hk : k = 0
    · subst hk; rw [maskTo_first, length_bitsOf]; omega
    · rw [maskTo_step V k hk, List.length_append]
      have h1 := length_maskTo V k
      have h2 := length_mBits (winTo V k) (V k ^^^ V (k - 1))
      omega
end BitMath
/- Plain mathematics of masks, second part: reading. Nothing of Go. -/
namespace BitMath

theorem winTo_congr (V U : Nat → Nat) : ∀ k, (∀ i, i < k → V i = U i) → winTo V k = winTo U k
  | 0, _ => rfl
  | k + 1, h => by
    by_cases hk : k = 0
    · subst hk; rw [winTo_first, winTo_first]
    · rw [winTo_step V k hk, winTo_step U k hk, winTo_congr V U k (fun i hi => h i (by omega)), h k (by omega), h (k - 1) (by omega)]
theorem maskTo_congr (V U : Nat → Nat) : ∀ k, (∀ i, i < k → V i = U i) → maskTo V k = maskTo U k
  | 0, _ => rfl
  | k + 1, h => by
    by_cases hk : k = 0
    · subst hk; rw [maskTo_first, maskTo_first, h 0 (by omega)]
    · rw [maskTo_step V k hk, maskTo_step U k hk, maskTo_congr V U k (fun i hi => h i (by omega)), winTo_congr V U k (fun i hi => h i (by omega)), h k (by omega), h (k - 1) (by omega)]

/-- The list's values as a function. -/
def vf (vs : List Nat) (i : Nat) : Nat := vs.getD i 0
theorem vf_left (vs : List Nat) (v i : Nat) (h : i < vs.length) : vf (vs ++ [v]) i = vf vs i := by
  simp [vf, List.getElem?_append_left h]
theorem vf_last (vs : List Nat) (v : Nat) : vf (vs ++ [v]) vs.length = v := by simp [vf]
theorem xor_back (p x : Nat) : (p ^^^ x) ^^^ p = x := by rw [Nat.xor_comm p x, Nat.xor_assoc, Nat.xor_self, Nat.xor_zero]
theorem maskTo_next (vs : List Nat) (x : Nat) (h : vs.length ≠ 0) :
    maskTo (vf (vs ++ [vf vs (vs.length - 1) ^^^ x])) (vs.length + 1) = maskTo (vf vs) vs.length ++ mBits (winTo (vf vs) vs.length) x ∧
    winTo (vf (vs ++ [vf vs (vs.length - 1) ^^^ x])) (vs.length + 1) = mNext (winTo (vf vs) vs.length) x := by
  have hc : ∀ i, i < vs.length → vf (vs ++ [vf vs (vs.length - 1) ^^^ x]) i = vf vs i := fun i hi => vf_left _ _ _ hi
  rw [maskTo_step _ _ h, winTo_step _ _ h, maskTo_congr _ _ _ hc, winTo_congr _ _ _ hc, vf_last, hc (vs.length - 1) (by omega), xor_back]
  exact ⟨rfl, rfl⟩

/-- How many bits a window has; none: 0. -/
def wideW (w : Bool × Nat × Nat) : Nat := if w.1 = true then 64 - w.2.1 - w.2.2 else 0
def fixW (n : Nat) : Nat := if n = 0 then 64 else n
/-- Behind the mark: lead, width and how many bits the head has. -/
def headR (w : Bool × Nat × Nat) (D : List Bool) : Nat × Nat × Nat :=
  if D.getD 1 false = true then (valB ((D.drop 2).take 5), fixW (valB ((D.drop 7).take 6)), 13) else (w.2.1, wideW w, 2)
/-- One later value: an error's number, the value, how many bits. -/
def readStep (w : Bool × Nat × Nat) (p : Nat) (D : List Bool) : Nat × Nat × Nat :=
  if D.length = 0 then (5, 0, 0)
  else if D.getD 0 false = false then (0, p, 1)
  else if D.length ≤ 1 then (5, 0, 0)
  else if D.getD 1 false = true ∧ D.length < 13 then (5, 0, 0)
  else if (headR w D).2.1 = 0 ∨ 64 < (headR w D).1 + (headR w D).2.1 then (1, 0, 0)
  else if D.length < (headR w D).2.2 + (headR w D).2.1 then (5, 0, 0)
  else if valB ((D.drop (headR w D).2.2).take (headR w D).2.1) * 2 ^ (64 - (headR w D).1 - (headR w D).2.1) = 0 ∨ mBits w (valB ((D.drop (headR w D).2.2).take (headR w D).2.1) * 2 ^ (64 - (headR w D).1 - (headR w D).2.1)) ≠ D.take ((headR w D).2.2 + (headR w D).2.1) then (1, 0, 0)
  else (0, p ^^^ (valB ((D.drop (headR w D).2.2).take (headR w D).2.1) * 2 ^ (64 - (headR w D).1 - (headR w D).2.1)), (headR w D).2.2 + (headR w D).2.1)

/-- n values: an error's number, the values, how many bits. -/
def maskRead (D : List Bool) : Nat → Nat × List Nat × Nat
  | 0 => (0, [], 0)
  | k + 1 =>
    if (maskRead D k).1 ≠ 0 then maskRead D k
    else if k = 0 then (if D.length < 64 then (5, [], 0) else (0, [valB (D.take 64)], 64))
    else if (readStep (winTo (vf (maskRead D k).2.1) k) (vf (maskRead D k).2.1 (k - 1)) (D.drop (maskRead D k).2.2)).1 ≠ 0 then ((readStep (winTo (vf (maskRead D k).2.1) k) (vf (maskRead D k).2.1 (k - 1)) (D.drop (maskRead D k).2.2)).1, [], 0)
    else (0, (maskRead D k).2.1 ++ [(readStep (winTo (vf (maskRead D k).2.1) k) (vf (maskRead D k).2.1 (k - 1)) (D.drop (maskRead D k).2.2)).2.1], (maskRead D k).2.2 + (readStep (winTo (vf (maskRead D k).2.1) k) (vf (maskRead D k).2.1 (k - 1)) (D.drop (maskRead D k).2.2)).2.2)
theorem maskRead_err (D : List Bool) (k : Nat) (c : Nat) (hc : c ≠ 0) (h : maskRead D k = (c, [], 0)) : ∀ n, k ≤ n → maskRead D n = (c, [], 0)
  | 0, hn => by
    have : k = 0 := by omega
    subst this; exact h
  | n + 1, hn => by
    rcases Nat.lt_or_ge n k with h1 | h1
    · have : k = n + 1 := by omega
      subst this; exact h
    · have ih := maskRead_err D k c hc h n h1
      rw [maskRead, ih, if_pos hc]
theorem maskRead_first_bad (D : List Bool) (h : D.length < 64) : maskRead D 1 = (5, [], 0) := by
  rw [maskRead, if_neg (by simp [maskRead]), if_pos rfl, if_pos h]
theorem maskRead_first (D : List Bool) (h : 64 ≤ D.length) : maskRead D 1 = (0, [valB (D.take 64)], 64) := by
  rw [maskRead, if_neg (by simp [maskRead]), if_pos rfl, if_neg (by omega)]
theorem maskRead_bad (D : List Bool) (k u : Nat) (vs : List Nat) (w : Bool × Nat × Nat) (p c : Nat) (hk : k ≠ 0) (h : maskRead D k = (0, vs, u)) (hw : winTo (vf vs) k = w) (hp : vf vs (k - 1) = p) (hs : readStep w p (D.drop u) = (c, 0, 0)) (hc : c ≠ 0) : maskRead D (k + 1) = (c, [], 0) := by
  rw [maskRead, h, if_neg (by simp), if_neg hk, hw, hp, hs, if_pos hc]
theorem maskRead_good (D : List Bool) (k u : Nat) (vs : List Nat) (w : Bool × Nat × Nat) (p v m : Nat) (hk : k ≠ 0) (h : maskRead D k = (0, vs, u)) (hw : winTo (vf vs) k = w) (hp : vf vs (k - 1) = p) (hs : readStep w p (D.drop u) = (0, v, m)) : maskRead D (k + 1) = (0, vs ++ [v], u + m) := by
  rw [maskRead, h, if_neg (by simp), if_neg hk, hw, hp, hs, if_neg (by simp)]

theorem getD_take (D : List Bool) (n i : Nat) (h : i < n) : (D.take n).getD i false = D.getD i false := by
  rw [List.getD_eq_getElem?_getD, List.getD_eq_getElem?_getD, List.getElem?_take_of_lt h]
/-- What a head that Put would make tells of the window. -/
theorem head_new (w : Bool × Nat × Nat) (x : Nat) (hx : x < 18446744073709551616) (D : List Bool) (n : Nat) (hn : 13 ≤ n) (h0 : x ≠ 0) (hf : D.getD 1 false = true) (hm : mBits w x = D.take n) :
    mNext w x = (true, valB ((D.drop 2).take 5), 64 - valB ((D.drop 2).take 5) - fixW (valB ((D.drop 7).take 6))) ∧ wideW (mNext w x) = fixW (valB ((D.drop 7).take 6)) := by
  have hlt := lead_tail x hx h0
  have hl := lead_le x
  have h1 : (mBits w x).getD 1 false = true := by rw [hm, getD_take _ _ _ (by omega)]; exact hf
  have hnf : ¬ mFits w x = true := by
    intro hfit
    unfold mBits at h1
    rw [if_neg h0, if_pos hfit] at h1
    simp at h1
  have hb : mBits w x = [true, true] ++ bitsOf (mLead x) 5 ++ bitsOf (64 - mLead x - mTail x) 6 ++ ((bitsOf x 64).drop (mLead x)).take (64 - mTail x - mLead x) := by
    unfold mBits
    rw [if_neg h0, if_neg hnf]
  have e5 : (D.drop 2).take 5 = bitsOf (mLead x) 5 := by
    have : ((D.take n).drop 2).take 5 = (D.drop 2).take 5 := by rw [List.drop_take, List.take_take, Nat.min_eq_left (by omega)]
    rw [← this, ← hm, hb, List.append_assoc, List.append_assoc, List.drop_append_of_le_length (by simp)]
    simp only [List.drop_succ_cons, List.drop_zero, List.nil_append]
    rw [List.take_append_of_le_length (by rw [length_bitsOf]; exact Nat.le_refl _), List.take_of_length_le (by rw [length_bitsOf]; exact Nat.le_refl _)]
  have e6 : (D.drop 7).take 6 = bitsOf (64 - mLead x - mTail x) 6 := by
    have : ((D.take n).drop 7).take 6 = (D.drop 7).take 6 := by rw [List.drop_take, List.take_take, Nat.min_eq_left (by omega)]
    rw [← this, ← hm, hb, List.append_assoc ([true, true] ++ bitsOf (mLead x) 5), List.drop_append_of_le_length (by simp [length_bitsOf])]
    have : List.drop 7 ([true, true] ++ bitsOf (mLead x) 5) = [] := List.drop_of_length_le (by simp [length_bitsOf])
    rw [this, List.nil_append, List.take_append_of_le_length (by rw [length_bitsOf]; exact Nat.le_refl _), List.take_of_length_le (by rw [length_bitsOf]; exact Nat.le_refl _)]
  have v5 : valB ((D.drop 2).take 5) = mLead x := by rw [e5, valB_bitsOf]; exact Nat.mod_eq_of_lt (by omega)
  have v6 : fixW (valB ((D.drop 7).take 6)) = 64 - mLead x - mTail x := by
    rw [e6, valB_bitsOf]
    unfold fixW
    have : (2 : Nat) ^ 6 = 64 := rfl
    rw [this]
    split <;> omega
  have hnx : mNext w x = (true, mLead x, mTail x) := by unfold mNext; rw [if_neg h0, if_neg hnf]
  rw [hnx, v5, v6]
  refine ⟨?_, ?_⟩
  · congr 2
    omega
  · unfold wideW
    rw [if_pos rfl]
end BitMath
/- Plain mathematics of masks, third part: what is put is read. Nothing of Go. -/
namespace BitMath

theorem valB_zeros : ∀ l : List Bool, (∀ i, i < l.length → l[i]? = some false) → valB l = 0 := by
  apply snoc_ind
  · intro _; rfl
  · intro l a ih h
    rw [valB_snoc, ih (fun i hi => by
      have := h i (by simp; omega)
      rwa [List.getElem?_append_left hi] at this)]
    have := h l.length (by simp)
    simp at this
    subst this
    rfl
/-- The bits between, shifted back, are the value. -/
theorem mid_val (x L T : Nat) (hx : x < 18446744073709551616) (hL : L ≤ lz (bitsOf x 64)) (hT : T ≤ lz (bitsOf x 64).reverse) (hLT : L + T ≤ 64) : valB (((bitsOf x 64).drop L).take (64 - T - L)) * 2 ^ T = x := by
  have hl := length_bitsOf x 64
  have hv : valB (bitsOf x 64) = x := by rw [valB_bitsOf]; exact Nat.mod_eq_of_lt hx
  have hs : bitsOf x 64 = (bitsOf x 64).take L ++ (((bitsOf x 64).drop L).take (64 - T - L) ++ ((bitsOf x 64).drop L).drop (64 - T - L)) := by
    rw [List.take_append_drop, List.take_append_drop]
  have h0 : valB ((bitsOf x 64).take L) = 0 := by
    apply valB_zeros
    intro i hi
    rw [List.length_take] at hi
    rw [List.getElem?_take_of_lt (by omega)]
    exact lz_low _ _ (by omega)
  have h2 : valB (((bitsOf x 64).drop L).drop (64 - T - L)) = 0 := by
    apply valB_zeros
    intro i hi
    rw [List.length_drop, List.length_drop] at hi
    rw [List.getElem?_drop, List.getElem?_drop]
    have := lz_low (bitsOf x 64).reverse (T - 1 - i) (by omega)
    rw [List.getElem?_reverse (by omega), hl] at this
    rw [← this]
    congr 1
    omega
  have hlen : (((bitsOf x 64).drop L).drop (64 - T - L)).length = T := by rw [List.length_drop, List.length_drop]; omega
  rw [hs, valB_append, valB_append, h0, h2, hlen, Nat.zero_mul, Nat.zero_add, Nat.add_zero] at hv
  exact hv

theorem readStep_bits (w : Bool × Nat × Nat) (p x : Nat) (R : List Bool) (hx : x < 18446744073709551616) (hw : w.2.1 + w.2.2 ≤ 63) : readStep w p (mBits w x ++ R) = (0, p ^^^ x, (mBits w x).length) := by
  have hl := length_bitsOf x 64
  by_cases h0 : x = 0
  · have hm : mBits w x = [false] := by unfold mBits; rw [if_pos h0]
    rw [hm, h0, Nat.xor_zero]
    unfold readStep
    rw [if_neg (by simp), if_pos (by rfl)]
    rfl
  · have hlt := lead_tail x hx h0
    have hle := lead_le x
    by_cases hf : mFits w x = true
    · have hm : mBits w x = [true, false] ++ ((bitsOf x 64).drop w.2.1).take (64 - w.2.2 - w.2.1) := by unfold mBits; rw [if_neg h0, if_pos hf]
      have hff := hf
      unfold mFits at hff
      simp at hff
      obtain ⟨hw1, hL, hT⟩ := hff
      have hlen : (((bitsOf x 64).drop w.2.1).take (64 - w.2.2 - w.2.1)).length = 64 - w.2.1 - w.2.2 := by rw [List.length_take, List.length_drop]; omega
      have hml : (mBits w x).length = 2 + (64 - w.2.1 - w.2.2) := by rw [hm, List.length_append, hlen]; rfl
      have hwd : wideW w = 64 - w.2.1 - w.2.2 := by unfold wideW; rw [if_pos hw1]
      have hh : headR w (mBits w x ++ R) = (w.2.1, wideW w, 2) := by unfold headR; rw [hm]; rfl
      have hd : ((mBits w x ++ R).drop 2).take (wideW w) = ((bitsOf x 64).drop w.2.1).take (64 - w.2.2 - w.2.1) := by
        rw [hm, List.append_assoc]
        show ((((bitsOf x 64).drop w.2.1).take (64 - w.2.2 - w.2.1)) ++ R).take (wideW w) = _
        rw [hwd, ← hlen, List.take_left]
      have hval : valB (((mBits w x ++ R).drop 2).take (wideW w)) * 2 ^ (64 - w.2.1 - wideW w) = x := by
        rw [hd, hwd, show 64 - w.2.1 - (64 - w.2.1 - w.2.2) = w.2.2 by omega]
        exact mid_val x w.2.1 w.2.2 hx (by unfold mLead at hL; omega) hT (by omega)
      unfold readStep
      rw [if_neg (by rw [hm]; simp), if_neg (by rw [hm]; simp), if_neg (by rw [hm]; simp), if_neg (by rw [hm]; simp), hh]
      simp only
      rw [if_neg (by omega), if_neg (by rw [List.length_append, hml]; omega), hval, if_neg (by
        intro hc
        rcases hc with hc | hc
        · exact h0 hc
        · apply hc
          rw [hwd, ← hml, List.take_left]), hml, hwd]
    · have hm : mBits w x = [true, true] ++ bitsOf (mLead x) 5 ++ bitsOf (64 - mLead x - mTail x) 6 ++ ((bitsOf x 64).drop (mLead x)).take (64 - mTail x - mLead x) := by unfold mBits; rw [if_neg h0, if_neg hf]
      have hlen : (((bitsOf x 64).drop (mLead x)).take (64 - mTail x - mLead x)).length = 64 - mLead x - mTail x := by rw [List.length_take, List.length_drop]; omega
      have hml : (mBits w x).length = 13 + (64 - mLead x - mTail x) := by
        rw [hm]
        simp only [List.length_append, length_bitsOf, hlen, List.length_cons, List.length_nil]
      have h5 : ((mBits w x ++ R).drop 2).take 5 = bitsOf (mLead x) 5 := by
        rw [hm]
        simp only [List.append_assoc]
        show ((bitsOf (mLead x) 5) ++ (bitsOf (64 - mLead x - mTail x) 6 ++ (((bitsOf x 64).drop (mLead x)).take (64 - mTail x - mLead x) ++ R))).take 5 = _
        rw [List.take_append_of_le_length (by rw [length_bitsOf]; exact Nat.le_refl _), List.take_of_length_le (by rw [length_bitsOf]; exact Nat.le_refl _)]
      have hd7 : (mBits w x ++ R).drop 7 = bitsOf (64 - mLead x - mTail x) 6 ++ (((bitsOf x 64).drop (mLead x)).take (64 - mTail x - mLead x) ++ R) := by
        rw [hm]
        have : ([true, true] ++ bitsOf (mLead x) 5).length = 7 := by simp [length_bitsOf]
        rw [List.append_assoc, List.append_assoc, ← this, List.drop_left]
      have h6 : ((mBits w x ++ R).drop 7).take 6 = bitsOf (64 - mLead x - mTail x) 6 := by
        rw [hd7, List.take_append_of_le_length (by rw [length_bitsOf]; exact Nat.le_refl _), List.take_of_length_le (by rw [length_bitsOf]; exact Nat.le_refl _)]
      have v5 : valB (((mBits w x ++ R).drop 2).take 5) = mLead x := by rw [h5, valB_bitsOf]; exact Nat.mod_eq_of_lt (by omega)
      have v6 : fixW (valB (((mBits w x ++ R).drop 7).take 6)) = 64 - mLead x - mTail x := by
        rw [h6, valB_bitsOf]
        unfold fixW
        have : (2 : Nat) ^ 6 = 64 := rfl
        rw [this]
        split <;> omega
      have hg1 : (mBits w x ++ R).getD 1 false = true := by rw [hm]; rfl
      have hg0 : (mBits w x ++ R).getD 0 false = true := by rw [hm]; rfl
      have hh : headR w (mBits w x ++ R) = (mLead x, 64 - mLead x - mTail x, 13) := by
        unfold headR
        rw [if_pos hg1, v5, v6]
      have hd13 : (mBits w x ++ R).drop 13 = ((bitsOf x 64).drop (mLead x)).take (64 - mTail x - mLead x) ++ R := by
        have : (mBits w x ++ R).drop 13 = ((mBits w x ++ R).drop 7).drop 6 := by rw [List.drop_drop]
        rw [this, hd7]
        have h66 : (bitsOf (64 - mLead x - mTail x) 6).length = 6 := length_bitsOf _ _
        exact List.drop_left' h66
      have hval : valB (((mBits w x ++ R).drop 13).take (64 - mLead x - mTail x)) * 2 ^ (64 - mLead x - (64 - mLead x - mTail x)) = x := by
        rw [hd13, show 64 - mLead x - (64 - mLead x - mTail x) = mTail x by omega]
        have ht : ((((bitsOf x 64).drop (mLead x)).take (64 - mTail x - mLead x)) ++ R).take (64 - mLead x - mTail x) = ((bitsOf x 64).drop (mLead x)).take (64 - mTail x - mLead x) := by
          exact List.take_left' hlen
        rw [ht]
        exact mid_val x (mLead x) (mTail x) hx (by unfold mLead; omega) (Nat.le_refl _) (by omega)
      unfold readStep
      rw [if_neg (by rw [List.length_append, hml]; omega), if_neg (by rw [hg0]; decide), if_neg (by rw [List.length_append, hml]; omega), if_neg (by rw [List.length_append, hml]; omega), hh]
      simp only
      rw [if_neg (by omega), if_neg (by rw [List.length_append, hml]; omega), hval, if_neg (by
        intro hc
        rcases hc with hc | hc
        · exact h0 hc
        · apply hc
          rw [← hml, List.take_left]), hml]

theorem maskTo_split (V : Nat → Nat) (k : Nat) (hk : k ≠ 0) : ∀ n, k < n → ∃ R, maskTo V n = maskTo V k ++ (mBits (winTo V k) (V k ^^^ V (k - 1)) ++ R)
  | 0, h => absurd h (by omega)
  | n + 1, h => by
    rcases Nat.lt_or_ge k n with h1 | h1
    · obtain ⟨R, hR⟩ := maskTo_split V k hk n h1
      refine ⟨R ++ mBits (winTo V n) (V n ^^^ V (n - 1)), ?_⟩
      rw [maskTo_step V n (by omega), hR]
      simp [List.append_assoc]
    · have : k = n := by omega
      subst this
      exact ⟨[], by rw [maskTo_step V k hk, List.append_nil]⟩
theorem maskTo_split0 (V : Nat → Nat) : ∀ n, 0 < n → ∃ R, maskTo V n = bitsOf (V 0) 64 ++ R
  | 0, h => absurd h (by omega)
  | n + 1, _ => by
    by_cases hn : n = 0
    · subst hn
      exact ⟨[], by rw [maskTo_first, List.append_nil]⟩
    · obtain ⟨R, hR⟩ := maskTo_split0 V n (by omega)
      exact ⟨R ++ mBits (winTo V n) (V n ^^^ V (n - 1)), by rw [maskTo_step V n hn, hR, List.append_assoc]⟩
/-- The first k of values. -/
def firstV (V : Nat → Nat) (k : Nat) : List Nat := (List.range k).map V
theorem vf_firstV (V : Nat → Nat) (n i : Nat) (h : i < n) : vf (firstV V n) i = V i := by simp [vf, firstV, h]

/-- What is put is read. -/
theorem maskRead_mask (V : Nat → Nat) (n : Nat) (R : List Bool) (hV : ∀ i, i < n → V i < 18446744073709551616) : ∀ k, k ≤ n → maskRead (maskTo V n ++ R) k = (0, firstV V k, (maskTo V k).length)
  | 0, _ => rfl
  | k + 1, h => by
    by_cases hk : k = 0
    · subst hk
      obtain ⟨Q, hQ⟩ := maskTo_split0 V n (by omega)
      have hl := length_bitsOf (V 0) 64
      rw [maskRead_first _ (by rw [hQ]; simp only [List.length_append, hl]; omega), maskTo_first, hl]
      have ht : (maskTo V n ++ R).take 64 = bitsOf (V 0) 64 := by
        rw [hQ, List.append_assoc]
        exact List.take_left' hl
      rw [ht, valB_bitsOf, Nat.mod_eq_of_lt (hV 0 (by omega))]
      rfl
    · have ih := maskRead_mask V n R hV k (by omega)
      obtain ⟨Q, hQ⟩ := maskTo_split V k hk n (by omega)
      have hwin : winTo (vf (firstV V k)) k = winTo V k := winTo_congr _ _ _ (fun i hi => vf_firstV V k i hi)
      have hp : vf (firstV V k) (k - 1) = V (k - 1) := vf_firstV V k (k - 1) (by omega)
      have hd : (maskTo V n ++ R).drop (maskTo V k).length = mBits (winTo V k) (V k ^^^ V (k - 1)) ++ (Q ++ R) := by
        rw [hQ, List.append_assoc, List.drop_left, List.append_assoc]
      have hx := xor_lt (V k) (V (k - 1)) (hV k (by omega)) (hV (k - 1) (by omega))
      have hs := readStep_bits (winTo V k) (V (k - 1)) (V k ^^^ V (k - 1)) (Q ++ R) hx (winTo_ok V n hV k (by omega)).2
      rw [← hd] at hs
      have hb : V (k - 1) ^^^ (V k ^^^ V (k - 1)) = V k := by rw [Nat.xor_comm (V k), ← Nat.xor_assoc, Nat.xor_self, Nat.zero_xor]
      rw [hb] at hs
      rw [maskRead_good _ k _ _ (winTo V k) (V (k - 1)) _ _ hk ih hwin hp hs, maskTo_step V k hk, List.length_append]
      simp [firstV, List.range_succ]
end BitMath
/- Points of series, added and cut: mathematics. Nothing of Go. -/
namespace HeadMath
end HeadMath
/- Plain mathematics of ticks in a wave, and the course that the program keeps. -/
namespace Go.Proofs.YtdlceolmpcjjiaaGreatDoor

/-- What the i-th tick is put as. -/
def deltaOf (G : Nat → Int) (i : Nat) : Int := if i = 0 then G 0 else if i = 1 then G 1 - G 0 else G i - G (i - 1) - (G (i - 1) - G (i - 2))
/-- The bits of the first k ticks. -/
def ticksTo (G : Nat → Int) : Nat → List Bool
  | 0 => []
  | k + 1 => ticksTo G k ++ BitMath.waveOf (deltaOf G k)
theorem length_ticksTo (G : Nat → Int) : ∀ k, (ticksTo G k).length ≤ 68 * k
  | 0 => by simp [ticksTo]
  | k + 1 => by
    rw [ticksTo, List.length_append]
    have := length_ticksTo G k
    have := BitMath.length_waveOf_le (deltaOf G k)
    omega
theorem length_ticksTo_step (G : Nat → Int) (k : Nat) : (ticksTo G (k + 1)).length = (ticksTo G k).length + (BitMath.waveOf (deltaOf G k)).length := by rw [ticksTo, List.length_append]
theorem length_ticksTo_mono (G : Nat → Int) (k : Nat) : ∀ n, k ≤ n → (ticksTo G k).length ≤ (ticksTo G n).length
  | 0, h => by
    have : k = 0 := by omega
    subst this
    exact Nat.le_refl _
  | n + 1, h => by
    rcases Nat.lt_or_ge n k with h1 | h1
    · have : k = n + 1 := by omega
      subst this
      exact Nat.le_refl _
    · have := length_ticksTo_mono G k n h1
      rw [length_ticksTo_step]
      omega

/-- The course behind k ticks: the last one; its step. -/
def cAt (G : Nat → Int) (k : Nat) : Int := if k = 0 then 0 else G (k - 1)
def cStep (G : Nat → Int) (k : Nat) : Int := if k ≤ 1 then 0 else G (k - 1) - G (k - 2)
theorem course_delta (G : Nat → Int) (k : Nat) : G k - cAt G k - cStep G k = deltaOf G k := by
  unfold cAt cStep deltaOf
  by_cases h0 : k = 0
  · subst h0; simp
  · by_cases h1 : k = 1
    · subst h1; simp
    · rw [if_neg h0, if_neg (by omega), if_neg h0, if_neg h1]
theorem course_next (G : Nat → Int) (k : Nat) (h : 0 < k) : cAt G (k + 1) = G k ∧ cStep G (k + 1) = G k - cAt G k := by
  unfold cAt cStep
  rw [if_neg (by omega), if_neg (by omega), if_neg (by omega)]
  simp
theorem course_first (G : Nat → Int) : cAt G 1 = G 0 ∧ cStep G 1 = 0 := by
  unfold cAt cStep
  simp
theorem course_bounds (G : Nat → Int) (n k : Nat) (hk : k ≤ n) (hok : ∀ i, i < n → -1099511627776 ≤ G i ∧ G i ≤ 1099511627776) : -1099511627776 ≤ cAt G k ∧ cAt G k ≤ 1099511627776 ∧ -2199023255552 ≤ cStep G k ∧ cStep G k ≤ 2199023255552 := by
  unfold cAt cStep
  by_cases h0 : k = 0
  · subst h0; simp
  · have a := hok (k - 1) (by omega)
    rw [if_neg h0]
    by_cases h1 : k ≤ 1
    · rw [if_pos h1]; omega
    · have b := hok (k - 2) (by omega)
      rw [if_neg h1]; omega

end Go.Proofs.YtdlceolmpcjjiaaGreatDoor
/- Plain mathematics of words, names and labels. Nothing of Go. -/
namespace LabMath

/-- A letter a to z, a digit, or '-'. -/
def wordB (c : UInt8) : Bool := decide ((97 ≤ c.toNat ∧ c.toNat ≤ 122) ∨ (48 ≤ c.toNat ∧ c.toNat ≤ 57) ∨ c.toNat = 45)
def isWord (s : ByteArray) : Bool := s.data.toList.all wordB && decide (1 ≤ s.size ∧ s.size ≤ 12)
def isName (s : ByteArray) : Bool := isWord s && decide (97 ≤ (s.data.toList.getD 0 0).toNat)
theorem isWord_no (s : ByteArray) (k : Nat) (hk : k < s.size) (h : wordB s[k] = false) : isWord s = false := by
  unfold isWord
  have : s.data.toList.all wordB = false := by
    rw [List.all_eq_false]
    refine ⟨s[k], ?_, by rw [h]; decide⟩
    show s.data[k] ∈ s.data.toList
    rw [Array.mem_toList_iff]
    exact Array.getElem_mem _
  rw [this, Bool.false_and]
theorem isWord_end (s : ByteArray) (h : ∀ k (hk : k < s.size), wordB s[k] = true) : isWord s = decide (1 ≤ s.size ∧ s.size ≤ 12) := by
  unfold isWord
  have : s.data.toList.all wordB = true := by
    rw [List.all_eq_true]
    intro c hc
    rw [Array.mem_toList_iff] at hc
    obtain ⟨k, hk, rfl⟩ := Array.mem_iff_getElem.1 hc
    exact h k hk
  rw [this, Bool.true_and]
end LabMath
/- Plain mathematics of a chunk's sum. Nothing of Go. -/
namespace BitMath

/-- One bit, one byte, a text of the long division. -/
def crcBit (c b k : Nat) : Nat := if (c ^^^ (b / 2 ^ k)) % 2 = 1 then (c / 2) ^^^ 3988292384 else c / 2
def crcByte (c b : Nat) : Nat → Nat
  | 0 => c
  | k + 1 => crcBit (crcByte c b k) b k
def crcTo (l : List UInt8) : Nat → Nat
  | 0 => 4294967295
  | i + 1 => crcByte (crcTo l i) (l.getD i 0).toNat 8
def crcOf (l : List UInt8) : Nat := crcTo l l.length ^^^ 4294967295
theorem crcBit_lt (c b k : Nat) (h : c < 4294967296) : crcBit c b k < 4294967296 := by
  unfold crcBit
  split
  · exact Nat.xor_lt_two_pow (n := 32) (by omega) (by decide)
  · omega
theorem crcByte_lt (c b : Nat) (h : c < 4294967296) : ∀ k, crcByte c b k < 4294967296
  | 0 => h
  | k + 1 => crcBit_lt _ _ _ (crcByte_lt c b h k)
theorem crcTo_lt (l : List UInt8) : ∀ i, crcTo l i < 4294967296
  | 0 => by show 4294967295 < 4294967296; decide
  | i + 1 => crcByte_lt _ _ (crcTo_lt l i) _
theorem crcOf_lt (l : List UInt8) : crcOf l < 4294967296 := Nat.xor_lt_two_pow (n := 32) (crcTo_lt l _) (by decide)
/-- Four bytes, the highest first. -/
def fourOf (n : Nat) : List UInt8 := [UInt8.ofNat (n / 16777216 % 256), UInt8.ofNat (n / 65536 % 256), UInt8.ofNat (n / 256 % 256), UInt8.ofNat (n % 256)]
def sealOf (l : List UInt8) : List UInt8 := l ++ fourOf (crcOf l)
end BitMath
/- Plain mathematics of the sum: two texts that part in one byte have two sums. Nothing of Go. -/
namespace BitMath
theorem xor_half (a b : Nat) : (a ^^^ b) / 2 = a / 2 ^^^ b / 2 := by
  apply Nat.eq_of_testBit_eq
  intro i
  rw [Nat.testBit_xor, ← Nat.testBit_succ, ← Nat.testBit_succ, ← Nat.testBit_succ, Nat.testBit_xor]
end BitMath
/- Plain mathematics of a chunk's sum: one byte at once, its bits the other way round. Nothing of Go. -/
namespace BitMath
theorem raw_even (c b k : Nat) (h : (crcByte c b k ^^^ b / 2 ^ k) % 2 = 0) : (crcByte c b k ^^^ b / 2 ^ k) / 2 = crcByte c b (k + 1) ^^^ b / 2 ^ (k + 1) := by
  rw [xor_half, crcByte, crcBit, if_neg (by omega), Nat.div_div_eq_div_mul, ← Nat.pow_succ]
theorem raw_odd (c b k : Nat) (h : (crcByte c b k ^^^ b / 2 ^ k) % 2 = 1) : (crcByte c b k ^^^ b / 2 ^ k) / 2 ^^^ 3988292384 = crcByte c b (k + 1) ^^^ b / 2 ^ (k + 1) := by
  rw [xor_half, crcByte, crcBit, if_pos h, Nat.div_div_eq_div_mul, ← Nat.pow_succ]
  rw [Nat.xor_assoc, Nat.xor_assoc, Nat.xor_comm _ 3988292384]
theorem raw_end (c b : Nat) (h : b < 256) : crcByte c b 8 ^^^ b / 2 ^ 8 = crcByte c b 8 := by
  rw [Nat.div_eq_of_lt h, Nat.xor_zero]
theorem raw_start (c b : Nat) : crcByte c b 0 ^^^ b / 2 ^ 0 = c ^^^ b := by simp [crcByte]
end BitMath
