/- Plain mathematics of bits: lists of Bool, highest bit first; their texts, their values, the bytes that hold them. Nothing of Go. -/
namespace BitMath

/-- The last n bits of v, the highest first. -/
def bitsOf (v : Nat) : Nat → List Bool
  | 0 => []
  | n + 1 => v.testBit n :: bitsOf v n

theorem length_bitsOf (v : Nat) : ∀ n, (bitsOf v n).length = n
  | 0 => rfl
  | n + 1 => by simp [bitsOf, length_bitsOf v n]

theorem getElem_bitsOf (v : Nat) : ∀ n i (h : i < (bitsOf v n).length), (bitsOf v n)[i] = v.testBit (n - 1 - i)
  | 0, i, h => absurd h (by simp [bitsOf])
  | n + 1, 0, h => by simp [bitsOf]
  | n + 1, i + 1, h => by
    have h' : i < n := by simpa [length_bitsOf] using h
    simp only [bitsOf, List.getElem_cons_succ]
    rw [getElem_bitsOf v n i (by rw [length_bitsOf]; exact h')]
    congr 1
    omega

/-- The value of bits, the highest first. -/
def valB (bs : List Bool) : Nat := bs.foldl (fun a b => 2 * a + b.toNat) 0

theorem valB_snoc (bs : List Bool) (b : Bool) : valB (bs ++ [b]) = 2 * valB bs + b.toNat := by simp [valB]
theorem valB_nil : valB [] = 0 := rfl

theorem snoc_ind {α : Type} {P : List α → Prop} (h0 : P []) (hs : ∀ l a, P l → P (l ++ [a])) : ∀ l, P l := by
  intro l
  rw [← List.reverse_reverse l]
  induction l.reverse with
  | nil => exact h0
  | cons a r ih => rw [List.reverse_cons]; exact hs _ _ ih

theorem valB_lt (bs : List Bool) : valB bs < 2 ^ bs.length := by
  refine snoc_ind (P := fun bs => valB bs < 2 ^ bs.length) (by simp [valB]) (fun l a ih => ?_) bs
  rw [valB_snoc, List.length_append, List.length_singleton, Nat.pow_succ]
  cases a <;> simp <;> omega

theorem testBit_valB (bs : List Bool) : ∀ j, (valB bs).testBit j = (decide (j < bs.length) && bs.getD (bs.length - 1 - j) false) := by
  refine snoc_ind (P := fun bs => ∀ j, (valB bs).testBit j = (decide (j < bs.length) && bs.getD (bs.length - 1 - j) false)) ?_ ?_ bs
  · intro j; simp [valB]
  · intro l a ih j
    rw [valB_snoc]
    cases j with
    | zero =>
      rw [Nat.testBit_zero]
      simp
      cases a <;> simp <;> omega
    | succ j =>
      rw [Nat.testBit_succ]
      have e : (2 * valB l + a.toNat) / 2 = valB l := by cases a <;> simp <;> omega
      rw [e, ih j]
      simp only [List.length_append, List.length_singleton]
      by_cases h : j < l.length
      · have h1 : j + 1 < l.length + 1 := by omega
        rw [decide_eq_true h, decide_eq_true h1]
        simp only [Bool.true_and]
        have h2 : l.length + 1 - 1 - (j + 1) = l.length - 1 - j := by omega
        rw [h2, List.getD_eq_getElem?_getD, List.getD_eq_getElem?_getD, List.getElem?_append_left (by omega)]
      · have h1 : ¬ j + 1 < l.length + 1 := by omega
        rw [decide_eq_false h, decide_eq_false h1]
        rfl

theorem valB_bitsOf (v n : Nat) : valB (bitsOf v n) = v % 2 ^ n := by
  apply Nat.eq_of_testBit_eq
  intro j
  rw [testBit_valB, Nat.testBit_mod_two_pow, length_bitsOf]
  by_cases h : j < n
  · rw [decide_eq_true h]
    simp only [Bool.true_and]
    rw [List.getD_eq_getElem?_getD, List.getElem?_eq_getElem (by rw [length_bitsOf]; omega), Option.getD_some, getElem_bitsOf]
    congr 1
    omega
  · rw [decide_eq_false h]; rfl

/-- A bit as a letter. -/
def chr (b : Bool) : UInt8 := if b = true then 49 else 48
theorem chr_toNat (b : Bool) : (chr b).toNat = 48 + b.toNat := by cases b <;> rfl
theorem chr_eq (b : Bool) : (chr b == 49) = b := by cases b <;> rfl
/-- Bits as a text. -/
def txt (bs : List Bool) : ByteArray := ⟨(bs.map chr).toArray⟩
theorem txt_data (bs : List Bool) : (txt bs).data.toList = bs.map chr := by simp [txt]
theorem txt_size (bs : List Bool) : (txt bs).size = bs.length := by simp [txt, ByteArray.size]
theorem txt_append (a b : List Bool) : txt a ++ txt b = txt (a ++ b) := by
  apply ByteArray.ext
  simp [txt]
theorem txt_nil : txt [] = ByteArray.empty := rfl
theorem chr_ofNat (v : Nat) (k : Nat) : UInt8.ofNat (48 + v / 2 ^ k % 2) = chr (v.testBit k) := by
  rw [Nat.testBit_eq_decide_div_mod_eq]
  rcases Nat.mod_two_eq_zero_or_one (v / 2 ^ k) with h | h <;> rw [h] <;> rfl
theorem txt_get (bs : List Bool) (i : Nat) (h : i < (txt bs).size) : (txt bs)[i] = chr (bs[i]'(by rw [txt_size] at h; exact h)) := by
  simp [txt, ByteArray.getElem_eq_getElem_data]


/-- The bits of bytes, one byte behind the other. -/
def bitsOfBytes (l : List UInt8) : List Bool := l.flatMap fun b => bitsOf b.toNat 8
theorem bitsOfBytes_snoc (l : List UInt8) (b : UInt8) : bitsOfBytes (l ++ [b]) = bitsOfBytes l ++ bitsOf b.toNat 8 := by simp [bitsOfBytes]
theorem length_bitsOfBytes (l : List UInt8) : (bitsOfBytes l).length = 8 * l.length := by
  induction l with
  | nil => rfl
  | cons a r ih =>
    have : bitsOfBytes (a :: r) = bitsOf a.toNat 8 ++ bitsOfBytes r := by simp [bitsOfBytes]
    rw [this, List.length_append, length_bitsOf, ih, List.length_cons]
    omega
theorem getElem_bitsOfBytes (l : List UInt8) : ∀ i, i < 8 * l.length → (bitsOfBytes l)[i]? = some (((l[i / 8]?).getD 0).toNat.testBit (7 - i % 8)) := by
  induction l with
  | nil => intro i hi; simp at hi
  | cons a r ih =>
    intro i hi
    have e : bitsOfBytes (a :: r) = bitsOf a.toNat 8 ++ bitsOfBytes r := by simp [bitsOfBytes]
    rw [e]
    by_cases h : i < 8
    · rw [List.getElem?_append_left (by rw [length_bitsOf]; exact h), List.getElem?_eq_getElem (by rw [length_bitsOf]; exact h), getElem_bitsOf]
      have h1 : i / 8 = 0 := by omega
      have h2 : i % 8 = i := by omega
      rw [h1, h2]
      simp
    · rw [List.getElem?_append_right (by rw [length_bitsOf]; omega), length_bitsOf, ih (i - 8) (by simp at hi; omega)]
      have h1 : i / 8 = (i - 8) / 8 + 1 := by omega
      have h2 : i % 8 = (i - 8) % 8 := by omega
      rw [h1, h2]
      simp

/-- Eight bits from bit 8 * i on, none behind the end, as a byte. -/
def byteBits (bs : List Bool) (i : Nat) : Nat → List Bool
  | 0 => []
  | k + 1 => byteBits bs i k ++ [bs.getD (8 * i + k) false]
theorem length_byteBits (bs : List Bool) (i : Nat) : ∀ k, (byteBits bs i k).length = k
  | 0 => rfl
  | k + 1 => by simp [byteBits, length_byteBits bs i k]
theorem getD_byteBits (bs : List Bool) (i : Nat) : ∀ k j, j < k → (byteBits bs i k).getD j false = bs.getD (8 * i + j) false
  | 0, j, h => absurd h (by omega)
  | k + 1, j, h => by
    by_cases hj : j < k
    · rw [← getD_byteBits bs i k j hj, byteBits, List.getD_eq_getElem?_getD, List.getElem?_append_left (by rw [length_byteBits]; exact hj), List.getD_eq_getElem?_getD]
    · have : j = k := by omega
      subst this
      rw [byteBits, List.getD_eq_getElem?_getD, List.getElem?_append_right (by rw [length_byteBits]; exact Nat.le_refl _), length_byteBits]
      simp
def byteAt (bs : List Bool) (i : Nat) : Nat := valB (byteBits bs i 8)
theorem byteAt_lt (bs : List Bool) (i : Nat) : byteAt bs i < 256 := by
  have := valB_lt (byteBits bs i 8)
  rw [length_byteBits] at this
  exact this
theorem testBit_byteAt (bs : List Bool) (i j : Nat) (h : j < 8) : (byteAt bs i).testBit j = bs.getD (8 * i + (7 - j)) false := by
  rw [byteAt, testBit_valB, length_byteBits, decide_eq_true h, Bool.true_and, getD_byteBits _ _ _ _ (by omega)]
theorem testBit_byteAt_ge (bs : List Bool) (i j : Nat) (h : 8 ≤ j) : (byteAt bs i).testBit j = false := by
  rw [byteAt, testBit_valB, length_byteBits, decide_eq_false (by omega), Bool.false_and]
/-- The first j bytes of bits. -/
def packTo (bs : List Bool) : Nat → List UInt8
  | 0 => []
  | j + 1 => packTo bs j ++ [UInt8.ofNat (byteAt bs j)]
theorem length_packTo (bs : List Bool) : ∀ j, (packTo bs j).length = j
  | 0 => rfl
  | j + 1 => by simp [packTo, length_packTo bs j]
def pack (bs : List Bool) : List UInt8 := packTo bs ((bs.length + 7) / 8)
theorem length_pack (bs : List Bool) : (pack bs).length = (bs.length + 7) / 8 := length_packTo _ _
theorem getElem_packTo (bs : List Bool) : ∀ j i, i < j → (packTo bs j)[i]? = some (UInt8.ofNat (byteAt bs i))
  | 0, i, h => absurd h (by omega)
  | j + 1, i, h => by
    by_cases hi : i < j
    · rw [packTo, List.getElem?_append_left (by rw [length_packTo]; exact hi), getElem_packTo bs j i hi]
    · have : i = j := by omega
      subst this
      rw [packTo, List.getElem?_append_right (by rw [length_packTo]; exact Nat.le_refl _), length_packTo]
      simp

end BitMath
