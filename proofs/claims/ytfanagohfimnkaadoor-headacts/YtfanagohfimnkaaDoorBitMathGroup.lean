/- Plain mathematics of bits: lists of Bool, highest bit first; their texts, their values, the bytes that hold them. Nothing of Go. -/
namespace BitMath

/-- The last n bits of v, the highest first. -/
def bitsOf (v : Nat) : Nat → List Bool
  | 0 => []
  | n + 1 => v.testBit n :: bitsOf v n

theorem length_bitsOf (v : Nat) : ∀ n, (bitsOf v n).length = n
  | 0 => rfl
  | n + 1 => by simp [bitsOf, length_bitsOf v n]

theorem getElem_bitsOf (v : Nat) : ∀ n i (h : i < (bitsOf v n).length), (bitsOf v n)[i] = v.testBit (n - 1 - i)
  | 0, i, h => absurd h (by simp [bitsOf])
  | n + 1, 0, h => by simp [bitsOf]
  | n + 1, i + 1, h => by
    have h' : i < n := by simpa [length_bitsOf] using h
    simp only [bitsOf, List.getElem_cons_succ]
    rw [getElem_bitsOf v n i (by rw [length_bitsOf]; exact h')]
    congr 1
    omega

/-- The value of bits, the highest first. -/
def valB (bs : List Bool) : Nat := bs.foldl (fun a b => 2 * a + b.toNat) 0

theorem valB_snoc (bs : List Bool) (b : Bool) : valB (bs ++ [b]) = 2 * valB bs + b.toNat := by simp [valB]
theorem valB_nil : valB [] = 0 := rfl

theorem snoc_ind {α : Type} {P : List α → Prop} (h0 : P []) (hs : ∀ l a, P l → P (l ++ [a])) : ∀ l, P l := by
  intro l
  rw [← List.reverse_reverse l]
  induction l.reverse with
  | nil => exact h0
  | cons a r ih => rw [List.reverse_cons]; exact hs _ _ ih

theorem valB_lt (bs : List Bool) : valB bs < 2 ^ bs.length := by
  refine snoc_ind (P := fun bs => valB bs < 2 ^ bs.length) (by simp [valB]) (fun l a ih => ?_) bs
  rw [valB_snoc, List.length_append, List.length_singleton, Nat.pow_succ]
  cases a <;> simp <;> omega

theorem testBit_valB (bs : List Bool) : ∀ j, (valB bs).testBit j = (decide (j < bs.length) && bs.getD (bs.length - 1 - j) false) := by
  refine snoc_ind (P := fun bs => ∀ j, (valB bs).testBit j = (decide (j < bs.length) && bs.getD (bs.length - 1 - j) false)) ?_ ?_ bs
  · intro j; simp [valB]
  · intro l a ih j
    rw [valB_snoc]
    cases j with
    | zero =>
      rw [Nat.testBit_zero]
      simp
      cases a <;> simp <;> omega
    | succ j =>
      rw [Nat.testBit_succ]
      have e : (2 * valB l + a.toNat) / 2 = valB l := by cases a <;> simp <;> omega
      rw [e, ih j]
      simp only [List.length_append, List.length_singleton]
      by_cases h : j < l.length
      · have h1 : j + 1 < l.length + 1 := by omega
        rw [decide_eq_true h, decide_eq_true h1]
        simp only [Bool.true_and]
        have h2 : l.length + 1 - 1 - (j + 1) = l.length - 1 - j := by omega
        rw [h2, List.getD_eq_getElem?_getD, List.getD_eq_getElem?_getD, List.getElem?_append_left (by omega)]
      · have h1 : ¬ j + 1 < l.length + 1 := by omega
        rw [decide_eq_false h, decide_eq_false h1]
        rfl

theorem valB_bitsOf (v n : Nat) : valB (bitsOf v n) = v % 2 ^ n := by
  apply Nat.eq_of_testBit_eq
  intro j
  rw [testBit_valB, Nat.testBit_mod_two_pow, length_bitsOf]
  by_cases h : j < n
  · rw [decide_eq_true h]
    simp only [Bool.true_and]
    rw [List.getD_eq_getElem?_getD, List.getElem?_eq_getElem (by rw [length_bitsOf]; omega), Option.getD_some, getElem_bitsOf]
    congr 1
    omega
  · rw [decide_eq_false h]; rfl

/-- A bit as a letter. -/
def chr (b : Bool) : UInt8 := if b = true then 49 else 48
theorem chr_toNat (b : Bool) : (chr b).toNat = 48 + b.toNat := by cases b <;> rfl
theorem chr_eq (b : Bool) : (chr b == 49) = b := by cases b <;> rfl
/-- Bits as a text. -/
def txt (bs : List Bool) : ByteArray := ⟨(bs.map chr).toArray⟩
theorem txt_data (bs : List Bool) : (txt bs).data.toList = bs.map chr := by simp [txt]
theorem txt_size (bs : List Bool) : (txt bs).size = bs.length := by simp [txt, ByteArray.size]
theorem txt_append (a b : List Bool) : txt a ++ txt b = txt (a ++ b) := by
  apply ByteArray.ext
  simp [txt]
theorem txt_nil : txt [] = ByteArray.empty := rfl
theorem chr_ofNat (v : Nat) (k : Nat) : UInt8.ofNat (48 + v / 2 ^ k % 2) = chr (v.testBit k) := by
  rw [Nat.testBit_eq_decide_div_mod_eq]
  rcases Nat.mod_two_eq_zero_or_one (v / 2 ^ k) with h | h <;> rw [h] <;> rfl
theorem txt_get (bs : List Bool) (i : Nat) (h : i < (txt bs).size) : (txt bs)[i] = chr (bs[i]'(by rw [txt_size] at h; exact h)) := by
  simp [txt, ByteArray.getElem_eq_getElem_data]


/-- The bits of bytes, one byte behind the other. -/
def bitsOfBytes (l : List UInt8) : List Bool := l.flatMap fun b => bitsOf b.toNat 8
theorem bitsOfBytes_snoc (l : List UInt8) (b : UInt8) : bitsOfBytes (l ++ [b]) = bitsOfBytes l ++ bitsOf b.toNat 8 := by simp [bitsOfBytes]
theorem length_bitsOfBytes (l : List UInt8) : (bitsOfBytes l).length = 8 * l.length := by
  induction l with
  | nil => rfl
  | cons a r ih =>
    have : bitsOfBytes (a :: r) = bitsOf a.toNat 8 ++ bitsOfBytes r := by simp [bitsOfBytes]
    rw [this, List.length_append, length_bitsOf, ih, List.length_cons]
    omega
theorem getElem_bitsOfBytes (l : List UInt8) : ∀ i, i < 8 * l.length → (bitsOfBytes l)[i]? = some (((l[i / 8]?).getD 0).toNat.testBit (7 - i % 8)) := by
  induction l with
  | nil => intro i hi; simp at hi
  | cons a r ih =>
    intro i hi
    have e : bitsOfBytes (a :: r) = bitsOf a.toNat 8 ++ bitsOfBytes r := by simp [bitsOfBytes]
    rw [e]
    by_cases h : i < 8
    · rw [List.getElem?_append_left (by rw [length_bitsOf]; exact h), List.getElem?_eq_getElem (by rw [length_bitsOf]; exact h), getElem_bitsOf]
      have h1 : i / 8 = 0 := by omega
      have h2 : i % 8 = i := by omega
      rw [h1, h2]
      simp
    · rw [List.getElem?_append_right (by rw [length_bitsOf]; omega), length_bitsOf, ih (i - 8) (by simp at hi; omega)]
      have h1 : i / 8 = (i - 8) / 8 + 1 := by omega
      have h2 : i % 8 = (i - 8) % 8 := by omega
      rw [h1, h2]
      simp

/-- Eight bits from bit 8 * i on, none behind the end, as a byte. -/
def byteBits (bs : List Bool) (i : Nat) : Nat → List Bool
  | 0 => []
  | k + 1 => byteBits bs i k ++ [bs.getD (8 * i + k) false]
theorem length_byteBits (bs : List Bool) (i : Nat) : ∀ k, (byteBits bs i k).length = k
  | 0 => rfl
  | k + 1 => by simp [byteBits, length_byteBits bs i k]
theorem getD_byteBits (bs : List Bool) (i : Nat) : ∀ k j, j < k → (byteBits bs i k).getD j false = bs.getD (8 * i + j) false
  | 0, j, h => absurd h (by omega)
  | k + 1, j, h => by
    by_cases hj : j < k
    · rw [← getD_byteBits bs i k j hj, byteBits, List.getD_eq_getElem?_getD, List.getElem?_append_left (by rw [length_byteBits]; exact hj), List.getD_eq_getElem?_getD]
    · have : j = k := by omega
      subst this
      rw [byteBits, List.getD_eq_getElem?_getD, List.getElem?_append_right (by rw [length_byteBits]; exact Nat.le_refl _), length_byteBits]
      simp
def byteAt (bs : List Bool) (i : Nat) : Nat := valB (byteBits bs i 8)
theorem byteAt_lt (bs : List Bool) (i : Nat) : byteAt bs i < 256 := by
  have := valB_lt (byteBits bs i 8)
  rw [length_byteBits] at this
  exact this
theorem testBit_byteAt (bs : List Bool) (i j : Nat) (h : j < 8) : (byteAt bs i).testBit j = bs.getD (8 * i + (7 - j)) false := by
  rw [byteAt, testBit_valB, length_byteBits, decide_eq_true h, Bool.true_and, getD_byteBits _ _ _ _ (by omega)]
theorem testBit_byteAt_ge (bs : List Bool) (i j : Nat) (h : 8 ≤ j) : (byteAt bs i).testBit j = false := by
  rw [byteAt, testBit_valB, length_byteBits, decide_eq_false (by omega), Bool.false_and]
/-- The first j bytes of bits. -/
def packTo (bs : List Bool) : Nat → List UInt8
  | 0 => []
  | j + 1 => packTo bs j ++ [UInt8.ofNat (byteAt bs j)]
theorem length_packTo (bs : List Bool) : ∀ j, (packTo bs j).length = j
  | 0 => rfl
  | j + 1 => by simp [packTo, length_packTo bs j]
def pack (bs : List Bool) : List UInt8 := packTo bs ((bs.length + 7) / 8)
theorem length_pack (bs : List Bool) : (pack bs).length = (bs.length + 7) / 8 := length_packTo _ _
theorem getElem_packTo (bs : List Bool) : ∀ j i, i < j → (packTo bs j)[i]? = some (UInt8.ofNat (byteAt bs i))
  | 0, i, h => absurd h (by omega)
  | j + 1, i, h => by
    by_cases hi : i < j
    · rw [packTo, List.getElem?_append_left (by rw [length_packTo]; exact hi), getElem_packTo bs j i hi]
    · have : i = j := by omega
      subst this
      rw [packTo, List.getElem?_append_right (by rw [length_packTo]; exact Nat.le_refl _), length_packTo]
      simp

end BitMath
/- Plain mathematics of a row of bits: what a piece that is put does to the bytes. Nothing of Go. -/
namespace BitMath

theorem getD_append_left (a b : List Bool) (i : Nat) (h : i < a.length) : (a ++ b).getD i false = a.getD i false := by
  rw [List.getD_eq_getElem?_getD, List.getD_eq_getElem?_getD, List.getElem?_append_left h]
theorem getD_append_right (a b : List Bool) (i : Nat) (h : a.length ≤ i) : (a ++ b).getD i false = b.getD (i - a.length) false := by
  rw [List.getD_eq_getElem?_getD, List.getD_eq_getElem?_getD, List.getElem?_append_right h]
theorem getD_end (a : List Bool) (i : Nat) (h : a.length ≤ i) : a.getD i false = false := by
  rw [List.getD_eq_getElem?_getD, List.getElem?_eq_none h]; rfl

theorem byteAt_or (bs X : List Bool) (h : X.length ≤ 8 - bs.length % 8) : byteAt (bs ++ X) (bs.length / 8) = byteAt bs (bs.length / 8) ||| (valB X <<< (8 - bs.length % 8 - X.length)) := by
  apply Nat.eq_of_testBit_eq
  intro j
  rw [Nat.testBit_or, Nat.testBit_shiftLeft]
  have hq : bs.length % 8 < 8 := Nat.mod_lt _ (by omega)
  have hd := Nat.div_add_mod bs.length 8
  by_cases hj : j < 8
  · rw [testBit_byteAt _ _ _ hj, testBit_byteAt _ _ _ hj, testBit_valB]
    by_cases hp : 8 * (bs.length / 8) + (7 - j) < bs.length
    · rw [getD_append_left _ _ _ hp]
      have h1 : ¬ j - (8 - bs.length % 8 - X.length) < X.length := by omega
      rw [decide_eq_false h1]
      simp
    · rw [getD_append_right _ _ _ (by omega), getD_end bs _ (by omega)]
      simp only [Bool.false_or]
      by_cases h2 : 8 - bs.length % 8 - X.length ≤ j
      · have h3 : j - (8 - bs.length % 8 - X.length) < X.length := by omega
        have h4 : decide (j ≥ 8 - bs.length % 8 - X.length) = true := decide_eq_true h2
        rw [h4, decide_eq_true h3]
        simp only [Bool.true_and]
        congr 1
        omega
      · have h4 : decide (j ≥ 8 - bs.length % 8 - X.length) = false := decide_eq_false (by omega)
        rw [h4, getD_end X _ (by omega)]
        rfl
  · rw [testBit_byteAt_ge _ _ _ (by omega), testBit_byteAt_ge _ _ _ (by omega), testBit_valB]
    have h1 : ¬ j - (8 - bs.length % 8 - X.length) < X.length := by omega
    rw [decide_eq_false h1]
    simp

theorem byteBits_congr (a b : List Bool) (i : Nat) : ∀ k, (∀ j, j < k → a.getD (8 * i + j) false = b.getD (8 * i + j) false) → byteBits a i k = byteBits b i k
  | 0, _ => rfl
  | k + 1, h => by rw [byteBits, byteBits, byteBits_congr a b i k (fun j hj => h j (by omega)), h k (by omega)]
theorem byteAt_low (bs X : List Bool) (i : Nat) (h : i < bs.length / 8) : byteAt (bs ++ X) i = byteAt bs i := by
  unfold byteAt
  rw [byteBits_congr (bs ++ X) bs i 8 (fun j hj => getD_append_left _ _ _ (by omega))]
theorem packTo_low (bs X : List Bool) : ∀ j, j ≤ bs.length / 8 → packTo (bs ++ X) j = packTo bs j
  | 0, _ => rfl
  | j + 1, h => by rw [packTo, packTo, packTo_low bs X j (by omega), byteAt_low bs X j (by omega)]
theorem byteBits_none (bs : List Bool) (i : Nat) : ∀ k, bs.length ≤ 8 * i → byteBits bs i k = List.replicate k false
  | 0, _ => rfl
  | k + 1, h => by rw [byteBits, byteBits_none bs i k h, getD_end bs _ (by omega), ← List.replicate_succ']
theorem byteAt_none (bs : List Bool) (i : Nat) (h : bs.length ≤ 8 * i) : byteAt bs i = 0 := by
  unfold byteAt
  rw [byteBits_none bs i 8 h]
  rfl
theorem pack_full (bs : List Bool) (h : bs.length % 8 = 0) : pack bs = packTo bs (bs.length / 8) := by
  unfold pack
  have : (bs.length + 7) / 8 = bs.length / 8 := by omega
  rw [this]
theorem pack_part (bs : List Bool) (h : bs.length % 8 ≠ 0) : pack bs = packTo bs (bs.length / 8 + 1) := by
  unfold pack
  have : (bs.length + 7) / 8 = bs.length / 8 + 1 := by omega
  rw [this]
theorem pack_full_zero (bs : List Bool) (h : bs.length % 8 = 0) : pack bs ++ [0] = packTo bs (bs.length / 8 + 1) := by
  rw [pack_full bs h, packTo, byteAt_none bs _ (by omega)]
  rfl
/-- A piece of t bits, 1 up to what is free in the last byte. -/
theorem pack_piece (bs X : List Bool) (h0 : 0 < X.length) (h : X.length ≤ 8 - bs.length % 8) :
    pack (bs ++ X) = packTo bs (bs.length / 8) ++ [UInt8.ofNat (byteAt bs (bs.length / 8) ||| (valB X <<< (8 - bs.length % 8 - X.length)))] := by
  unfold pack
  have : ((bs ++ X).length + 7) / 8 = bs.length / 8 + 1 := by rw [List.length_append]; omega
  rw [this, packTo, packTo_low bs X _ (Nat.le_refl _), byteAt_or bs X h]

theorem bitsOf_add (u t : Nat) : ∀ a, bitsOf u (a + t) = bitsOf (u >>> t) a ++ bitsOf u t
  | 0 => by rw [Nat.zero_add]; rfl
  | a + 1 => by
    have : a + 1 + t = (a + t) + 1 := by omega
    rw [this, bitsOf, bitsOf, bitsOf_add u t a, Nat.testBit_shiftRight, Nat.add_comm a t]
    rfl
/-- What has been put of a value's last n bits while m are left. -/
def putTo (v n m : Nat) : List Bool := bitsOf (v >>> m) (n - m)
theorem putTo_start (v n : Nat) : putTo v n n = [] := by simp [putTo, bitsOf]
theorem putTo_end (v n : Nat) : putTo v n 0 = bitsOf v n := by simp [putTo]
theorem length_putTo (v n m : Nat) : (putTo v n m).length = n - m := length_bitsOf _ _
theorem putTo_step (v n m t : Nat) (h : m ≤ n) (ht : t ≤ m) : putTo v n (m - t) = putTo v n m ++ bitsOf (v >>> (m - t)) t := by
  unfold putTo
  have e1 : n - (m - t) = (n - m) + t := by omega
  rw [e1, bitsOf_add, ← Nat.shiftRight_add]
  have e2 : m - t + t = m := by omega
  rw [e2]

theorem valB_append (a b : List Bool) : valB (a ++ b) = valB a * 2 ^ b.length + valB b := by
  refine snoc_ind (P := fun b => valB (a ++ b) = valB a * 2 ^ b.length + valB b) (by simp [valB]) (fun l c ih => ?_) b
  rw [← List.append_assoc, valB_snoc, valB_snoc, ih, List.length_append, List.length_singleton, Nat.pow_succ]
  rw [Nat.mul_add, ← Nat.mul_assoc (valB a), Nat.mul_comm 2 (valB a * 2 ^ l.length)]
  omega
/-- The bits of bytes from bit i on, n of them. -/
def readB (l : List UInt8) (i n : Nat) : List Bool := ((bitsOfBytes l).drop i).take n
theorem length_readB (l : List UInt8) (i n : Nat) (h : i + n ≤ 8 * l.length) : (readB l i n).length = n := by
  unfold readB
  rw [List.length_take, List.length_drop, length_bitsOfBytes]
  omega
theorem readB_zero (l : List UInt8) (i : Nat) : readB l i 0 = [] := by simp [readB]
theorem readB_add (l : List UInt8) (i n t : Nat) : readB l i (n + t) = readB l i n ++ readB l (i + n) t := by
  unfold readB
  rw [List.take_add, List.drop_drop]
theorem readB_byte (l : List UInt8) (i t : Nat) (h : i / 8 < l.length) (ht : t ≤ 8 - i % 8) : readB l i t = bitsOf ((l[i / 8]).toNat >>> (8 - i % 8 - t)) t := by
  apply List.ext_getElem?
  intro k
  unfold readB
  by_cases hk : k < t
  · have hR : (bitsOf ((l[i / 8]).toNat >>> (8 - i % 8 - t)) t)[k]? = some ((l[i / 8]).toNat.testBit (8 - i % 8 - t + (t - 1 - k))) := by
      rw [List.getElem?_eq_getElem (by rw [length_bitsOf]; exact hk), getElem_bitsOf, Nat.testBit_shiftRight]
    rw [List.getElem?_take_of_lt hk, List.getElem?_drop, getElem_bitsOfBytes l (i + k) (by omega), hR]
    have e1 : (i + k) / 8 = i / 8 := by omega
    have e2 : (i + k) % 8 = i % 8 + k := by omega
    rw [e1, e2, List.getElem?_eq_getElem h, Option.getD_some]
    congr 2
    omega
  · rw [List.getElem?_eq_none (by rw [List.length_take]; omega), List.getElem?_eq_none (by rw [length_bitsOf]; omega)]
theorem valB_readB (l : List UInt8) (i n t : Nat) (h : (i + n) / 8 < l.length) (ht : t ≤ 8 - (i + n) % 8) (hl : i + n + t ≤ 8 * l.length) :
    valB (readB l i (n + t)) = (valB (readB l i n) * 2 ^ t) ||| (((l[(i + n) / 8]).toNat >>> (8 - (i + n) % 8 - t)) % 2 ^ t) := by
  rw [readB_add, valB_append, length_readB _ _ _ hl, readB_byte l (i + n) t h ht, valB_bitsOf]
  have hlt : ((l[(i + n) / 8]).toNat >>> (8 - (i + n) % 8 - t)) % 2 ^ t < 2 ^ t := Nat.mod_lt _ (Nat.two_pow_pos t)
  have := Nat.shiftLeft_add_eq_or_of_lt hlt (valB (readB l i n))
  rw [Nat.shiftLeft_eq] at this
  exact this
end BitMath
/- Plain mathematics of bits: cuts of texts, and of bytes. Nothing of Go. -/
namespace BitMath

theorem bitsOfBytes_append (a b : List UInt8) : bitsOfBytes (a ++ b) = bitsOfBytes a ++ bitsOfBytes b := by simp [bitsOfBytes]
theorem bitsOfBytes_take (l : List UInt8) (c : Nat) : bitsOfBytes (l.take c) = (bitsOfBytes l).take (8 * c) := by
  by_cases h : c ≤ l.length
  · have hl : (bitsOfBytes (l.take c)).length = 8 * c := by rw [length_bitsOfBytes, List.length_take]; omega
    have e : bitsOfBytes l = bitsOfBytes (l.take c) ++ bitsOfBytes (l.drop c) := by rw [← bitsOfBytes_append, List.take_append_drop]
    rw [e, List.take_append_of_le_length (by omega)]
    exact (List.take_of_length_le (by omega)).symm
  · rw [List.take_of_length_le (by omega), List.take_of_length_le (by rw [length_bitsOfBytes]; omega)]
theorem readB_take (l : List UInt8) (c i n : Nat) (h : i + n ≤ 8 * c) : readB (l.take c) i n = readB l i n := by
  unfold readB
  rw [bitsOfBytes_take, List.drop_take, List.take_take]
  congr 1
  omega
theorem txt_extract (B : List Bool) (a b : Nat) : (txt B).extract a b = txt ((B.drop a).take (b - a)) := by
  apply ByteArray.ext
  apply Array.toList_inj.1
  simp [txt, List.map_take, List.map_drop]
/-- The bits from a on, n of them, of the first m bits of bytes, as a text. -/
theorem txt_cut (l : List UInt8) (m a n : Nat) (h : a + n ≤ m) : ((txt (bitsOfBytes l)).extract 0 m).extract a (a + n) = txt (readB l a n) := by
  rw [txt_extract, txt_extract]
  unfold readB
  congr 1
  rw [List.drop_zero, Nat.sub_zero, List.drop_take, List.take_take]
  congr 1
  omega
end BitMath
/- Plain mathematics of waves: a number's bits, and a number of bits. Nothing of Go. -/
namespace BitMath

/-- A whole number as 64 bits. -/
def u64 (n : Int) : Nat := (n % 18446744073709551616).toNat
theorem u64_lt (n : Int) : u64 n < 18446744073709551616 := by unfold u64; omega
/-- The form of a number: how many ones are ahead. -/
def formOf (n : Int) : Nat := if n = 0 then 0 else if -64 < n ∧ n < 65 then 1 else if -256 < n ∧ n < 257 then 2 else if -2048 < n ∧ n < 2049 then 3 else 4
def headOf : Nat → List Bool
  | 0 => [false]
  | 1 => [true, false]
  | 2 => [true, true, false]
  | 3 => [true, true, true, false]
  | _ => [true, true, true, true]
def wideOf : Nat → Nat
  | 0 => 0
  | 1 => 7
  | 2 => 9
  | 3 => 12
  | _ => 64
def biasOf : Nat → Int
  | 1 => 63
  | 2 => 255
  | 3 => 2047
  | _ => 0
/-- A number in a wave. -/
def waveOf (n : Int) : List Bool := headOf (formOf n) ++ bitsOf (u64 (n + biasOf (formOf n))) (wideOf (formOf n))
theorem formOf_le (n : Int) : formOf n ≤ 4 := by unfold formOf; split <;> (try split) <;> (try split) <;> (try split) <;> omega
theorem length_headOf (k : Nat) : (headOf k).length = if k < 4 then k + 1 else 4 := by
  match k with
  | 0 => rfl
  | 1 => rfl
  | 2 => rfl
  | 3 => rfl
  | k + 4 => rw [if_neg (by omega)]; rfl
theorem length_waveOf (n : Int) : (waveOf n).length = (headOf (formOf n)).length + wideOf (formOf n) := by rw [waveOf, List.length_append, length_bitsOf]
theorem length_waveOf_le (n : Int) : (waveOf n).length ≤ 68 := by
  rw [length_waveOf]
  have := formOf_le n
  match h : formOf n with
  | 0 => simp [headOf, wideOf]
  | 1 => simp [headOf, wideOf]
  | 2 => simp [headOf, wideOf]
  | 3 => simp [headOf, wideOf]
  | k + 4 =>
    have : k = 0 := by omega
    subst this
    simp [headOf, wideOf]

/-- How many ones are ahead, up to four. -/
def onesOf : List Bool → Nat → Nat
  | true :: r, f + 1 => onesOf r f + 1
  | _, _ => 0
theorem onesOf_le : ∀ (bs : List Bool) (f : Nat), onesOf bs f ≤ f
  | _, 0 => by cases ‹List Bool› with | nil => simp [onesOf] | cons a r => cases a <;> simp [onesOf]
  | [], f + 1 => by simp [onesOf]
  | true :: r, f + 1 => by simp [onesOf]; exact onesOf_le r f
  | false :: r, f + 1 => by simp [onesOf]

/-- What the bits from here on say: an error's number, the number, how many bits. -/
def unwave (bs : List Bool) : Nat × Int × Nat :=
  let o := onesOf bs 4
  let h := if o < 4 then o + 1 else 4
  if bs.length < h ∨ bs.length < h + wideOf o then (5, 0, 0)
  else
    let v := valB ((bs.drop h).take (wideOf o))
    let n : Int := if o = 4 then (if v < 9223372036854775808 then (v : Int) else (v : Int) - 18446744073709551616) else (v : Int) - biasOf o
    if waveOf n = bs.take (h + wideOf o) then (0, n, h + wideOf o) else (1, 0, 0)

theorem onesOf_eq : ∀ (f : Nat) (bs : List Bool) (o : Nat), o ≤ f → (∀ j, j < o → bs[j]? = some true) → (o < f → bs.getD o false = false) → onesOf bs f = o
  | 0, bs, o, h, _, _ => by
    have : o = 0 := by omega
    subst this
    have := onesOf_le bs 0
    omega
  | f + 1, [], o, h, h1, h2 => by
    match o with
    | 0 => rfl
    | o + 1 => have := h1 0 (by omega); simp at this
  | f + 1, b :: r, 0, h, h1, h2 => by
    have := h2 (by omega)
    simp at this
    subst this
    rfl
  | f + 1, b :: r, o + 1, h, h1, h2 => by
    have h0 := h1 0 (by omega)
    simp at h0
    subst h0
    simp only [onesOf]
    rw [onesOf_eq f r o (by omega) (fun j hj => by simpa using h1 (j + 1) (by omega)) (fun ho => by simpa using h2 (by omega))]

/-- The number that v is in form o. -/
def numOf (o v : Nat) : Int := if o = 4 then (if v < 9223372036854775808 then (v : Int) else (v : Int) - 18446744073709551616) else (v : Int) - biasOf o
theorem unwave_short (D : List Bool) (o h : Nat) (ho : onesOf D 4 = o) (hh : h = if o < 4 then o + 1 else 4) (hl : D.length < h + wideOf o) : unwave D = (5, 0, 0) := by
  subst ho hh
  unfold unwave
  simp only
  rw [if_pos (.inr hl)]
theorem unwave_long (D : List Bool) (o h : Nat) (ho : onesOf D 4 = o) (hh : h = if o < 4 then o + 1 else 4) (hl : h + wideOf o ≤ D.length) (v : Nat) (hv : v = valB ((D.drop h).take (wideOf o))) :
    unwave D = if waveOf (numOf o v) = D.take (h + wideOf o) then (0, numOf o v, h + wideOf o) else (1, 0, 0) := by
  subst ho hh hv
  unfold unwave numOf
  simp only
  rw [if_neg (by omega)]
end BitMath
/- Plain mathematics of waves, second part: what is put is read; a form that is a number's own. Nothing of Go. -/
namespace BitMath

theorem bits_val (X : List Bool) : bitsOf (valB X) X.length = X := by
  apply List.ext_getElem (length_bitsOf _ _)
  intro i h1 h2
  rw [getElem_bitsOf, testBit_valB, decide_eq_true (by omega), Bool.true_and, List.getD_eq_getElem?_getD, List.getElem?_eq_getElem (by omega), Option.getD_some]
  congr 1
  omega

theorem bytes_pack (bs : List Bool) : (bitsOfBytes (pack bs)).take bs.length = bs := by
  apply List.ext_getElem?
  intro i
  by_cases h : i < bs.length
  · rw [List.getElem?_take_of_lt h, getElem_bitsOfBytes _ _ (by rw [length_pack]; omega), pack, getElem_packTo _ _ _ (by omega), Option.getD_some]
    have hlt := byteAt_lt bs (i / 8)
    rw [show (UInt8.ofNat (byteAt bs (i / 8))).toNat = byteAt bs (i / 8) from by simp [Nat.mod_eq_of_lt hlt], testBit_byteAt _ _ _ (by omega), show 8 * (i / 8) + (7 - (7 - i % 8)) = i from by omega, List.getD_eq_getElem?_getD, List.getElem?_eq_getElem h, Option.getD_some]
  · rw [List.getElem?_eq_none (by simp; omega), List.getElem?_eq_none (by omega)]

/-- What a reader of l with N bits has from i on. -/
def restB (l : List UInt8) (i N : Nat) : List Bool := ((bitsOfBytes l).take N).drop i
theorem length_restB (l : List UInt8) (i N : Nat) (hN : N ≤ 8 * l.length) : (restB l i N).length = N - i := by
  rw [restB, List.length_drop, List.length_take, length_bitsOfBytes]
  omega
theorem readB_rest (l : List UInt8) (i n N : Nat) (h : i + n ≤ N) : readB l i n = (restB l i N).take n := by
  rw [readB, restB, List.drop_take, List.take_take, Nat.min_eq_left (by omega)]
theorem restB_drop (l : List UInt8) (i n N : Nat) : restB l (i + n) N = (restB l i N).drop n := by
  rw [restB, restB, List.drop_drop]
theorem restB_pack (bs : List Bool) (i : Nat) : restB (pack bs) i bs.length = bs.drop i := by
  rw [restB, bytes_pack]
theorem valB_one (b : Bool) : valB [b] = b.toNat := by cases b <;> rfl

theorem u64_num (o v : Nat) (ho : o ≤ 4) (hv : v < 2 ^ wideOf o) : u64 (numOf o v + biasOf o) = v := by
  unfold u64 numOf
  match o, ho with
  | 0, _ => simp [wideOf, biasOf] at *; omega
  | 1, _ => simp [wideOf, biasOf] at *; omega
  | 2, _ => simp [wideOf, biasOf] at *; omega
  | 3, _ => simp [wideOf, biasOf] at *; omega
  | 4, _ => simp [wideOf, biasOf] at *; split <;> omega

theorem num_u64 (n : Int) (h0 : -9223372036854775808 ≤ n) (h1 : n ≤ 9223372036854775807) : numOf (formOf n) (u64 (n + biasOf (formOf n))) = n := by
  unfold formOf
  by_cases a : n = 0
  · rw [if_pos a]; subst a; rfl
  · rw [if_neg a]
    by_cases b : -64 < n ∧ n < 65
    · rw [if_pos b]; simp only [numOf, biasOf, u64]; rw [if_neg (by decide)]; omega
    · rw [if_neg b]
      by_cases c : -256 < n ∧ n < 257
      · rw [if_pos c]; simp only [numOf, biasOf, u64]; rw [if_neg (by decide)]; omega
      · rw [if_neg c]
        by_cases d : -2048 < n ∧ n < 2049
        · rw [if_pos d]; simp only [numOf, biasOf, u64]; rw [if_neg (by decide)]; omega
        · rw [if_neg d]; simp only [numOf, biasOf, u64, if_true]; split <;> omega
theorem u64_lt_wide (n : Int) (h0 : -9223372036854775808 ≤ n) (h1 : n ≤ 9223372036854775807) : u64 (n + biasOf (formOf n)) < 2 ^ wideOf (formOf n) := by
  unfold formOf
  by_cases a : n = 0
  · rw [if_pos a]; subst a; decide
  · rw [if_neg a]
    by_cases b : -64 < n ∧ n < 65
    · rw [if_pos b]; simp only [biasOf, u64, wideOf]; omega
    · rw [if_neg b]
      by_cases c : -256 < n ∧ n < 257
      · rw [if_pos c]; simp only [biasOf, u64, wideOf]; omega
      · rw [if_neg c]
        by_cases d : -2048 < n ∧ n < 2049
        · rw [if_pos d]; simp only [biasOf, u64, wideOf]; omega
        · rw [if_neg d]; simp only [biasOf, u64, wideOf]; omega

theorem ones_head (o : Nat) (ho : o ≤ 4) (R : List Bool) : onesOf (headOf o ++ R) 4 = o := by
  match o, ho with
  | 0, _ => rfl
  | 1, _ => rfl
  | 2, _ => rfl
  | 3, _ => rfl
  | 4, _ => simp [headOf, onesOf]
theorem head_len (o : Nat) (_ho : o ≤ 4) : (headOf o).length = if o < 4 then o + 1 else 4 := length_headOf o
theorem take_head (D : List Bool) : ∀ o, onesOf D 4 = o → (headOf o).length ≤ D.length → D.take (headOf o).length = headOf o := by
  match D with
  | [] => intro o ho hl; subst ho; simp [onesOf, headOf] at hl
  | false :: r => intro o ho _; subst ho; rfl
  | [true] => intro o ho hl; subst ho; simp [onesOf, headOf] at hl
  | true :: false :: r => intro o ho _; subst ho; rfl
  | [true, true] => intro o ho hl; subst ho; simp [onesOf, headOf] at hl
  | true :: true :: false :: r => intro o ho _; subst ho; rfl
  | [true, true, true] => intro o ho hl; subst ho; simp [onesOf, headOf] at hl
  | true :: true :: true :: false :: r => intro o ho _; subst ho; rfl
  | true :: true :: true :: true :: r =>
    intro o ho _
    have : o = 4 := by rw [← ho]; simp [onesOf]
    subst this
    rfl

/-- A wave with whatever behind it is read as its number. -/
theorem unwave_wave (n : Int) (R : List Bool) (h0 : -9223372036854775808 ≤ n) (h1 : n ≤ 9223372036854775807) : unwave (waveOf n ++ R) = (0, n, (waveOf n).length) := by
  have hlen := length_waveOf n
  have hon : onesOf (waveOf n ++ R) 4 = formOf n := by rw [waveOf, List.append_assoc]; exact ones_head _ (formOf_le n) _
  have hh := head_len (formOf n) (formOf_le n)
  rw [unwave_long (waveOf n ++ R) (formOf n) _ hon hh (by rw [List.length_append]; omega) (u64 (n + biasOf (formOf n))) ?_]
  · rw [num_u64 n h0 h1, ← hlen, List.take_left, if_pos rfl]
  · rw [waveOf, List.append_assoc, List.drop_left, List.take_append_of_le_length (by rw [length_bitsOf]; exact Nat.le_refl _), List.take_of_length_le (by rw [length_bitsOf]; exact Nat.le_refl _), valB_bitsOf, Nat.mod_eq_of_lt (u64_lt_wide n h0 h1)]

/-- Bits of form o are the wave of their number just if o is the number's own form. -/
theorem wave_own (D : List Bool) (o : Nat) (ho : onesOf D 4 = o) (hl : (headOf o).length + wideOf o ≤ D.length) (v : Nat) (hv : v = valB ((D.drop (headOf o).length).take (wideOf o))) :
    (waveOf (numOf o v) = D.take ((headOf o).length + wideOf o)) = (formOf (numOf o v) = o) := by
  have ho4 : o ≤ 4 := by rw [← ho]; exact onesOf_le _ _
  have hX : ((D.drop (headOf o).length).take (wideOf o)).length = wideOf o := by simp; omega
  have hvl : v < 2 ^ wideOf o := by
    have := valB_lt ((D.drop (headOf o).length).take (wideOf o))
    rwa [hX, ← hv] at this
  apply propext
  constructor
  · intro h
    have e1 : onesOf (waveOf (numOf o v) ++ []) 4 = formOf (numOf o v) := by rw [waveOf, List.append_assoc]; exact ones_head _ (formOf_le _) _
    have e2 : D.take ((headOf o).length + wideOf o) = headOf o ++ (D.drop (headOf o).length).take (wideOf o) := by
      rw [List.take_add, take_head D o ho (by omega)]
    rw [List.append_nil, h, e2, ones_head o ho4] at e1
    exact e1.symm
  · intro h
    rw [waveOf, h, u64_num o v ho4 hvl, List.take_add, take_head D o ho (by omega)]
    congr 1
    rw [hv]
    have := bits_val ((D.drop (headOf o).length).take (wideOf o))
    rw [hX] at this
    exact this
end BitMath
/- Plain mathematics of ticks in a wave, and the course that the program keeps. -/
namespace Go.Proofs.YtfanagohfimnkaaDoor

/-- What the i-th tick is put as. -/
def deltaOf (G : Nat → Int) (i : Nat) : Int := if i = 0 then G 0 else if i = 1 then G 1 - G 0 else G i - G (i - 1) - (G (i - 1) - G (i - 2))
/-- The bits of the first k ticks. -/
def ticksTo (G : Nat → Int) : Nat → List Bool
  | 0 => []
  | k + 1 => ticksTo G k ++ BitMath.waveOf (deltaOf G k)
theorem length_ticksTo (G : Nat → Int) : ∀ k, (ticksTo G k).length ≤ 68 * k
  | 0 => by simp [ticksTo]
  | k + 1 => by
    rw [ticksTo, List.length_append]
    have := length_ticksTo G k
    have := BitMath.length_waveOf_le (deltaOf G k)
    omega
theorem length_ticksTo_step (G : Nat → Int) (k : Nat) : (ticksTo G (k + 1)).length = (ticksTo G k).length + (BitMath.waveOf (deltaOf G k)).length := by rw [ticksTo, List.length_append]
theorem length_ticksTo_mono (G : Nat → Int) (k : Nat) : ∀ n, k ≤ n → (ticksTo G k).length ≤ (ticksTo G n).length
  | 0, h => by
    have : k = 0 := by omega
    subst this
    exact Nat.le_refl _
  | n + 1, h => by
    rcases Nat.lt_or_ge n k with h1 | h1
    · have : k = n + 1 := by omega
      subst this
      exact Nat.le_refl _
    · have := length_ticksTo_mono G k n h1
      rw [length_ticksTo_step]
      omega

/-- The course behind k ticks: the last one; its step. -/
def cAt (G : Nat → Int) (k : Nat) : Int := if k = 0 then 0 else G (k - 1)
def cStep (G : Nat → Int) (k : Nat) : Int := if k ≤ 1 then 0 else G (k - 1) - G (k - 2)
theorem course_delta (G : Nat → Int) (k : Nat) : G k - cAt G k - cStep G k = deltaOf G k := by
  unfold cAt cStep deltaOf
  by_cases h0 : k = 0
  · subst h0; simp
  · by_cases h1 : k = 1
    · subst h1; simp
    · rw [if_neg h0, if_neg (by omega), if_neg h0, if_neg h1]
theorem course_next (G : Nat → Int) (k : Nat) (h : 0 < k) : cAt G (k + 1) = G k ∧ cStep G (k + 1) = G k - cAt G k := by
  unfold cAt cStep
  rw [if_neg (by omega), if_neg (by omega), if_neg (by omega)]
  simp
theorem course_first (G : Nat → Int) : cAt G 1 = G 0 ∧ cStep G 1 = 0 := by
  unfold cAt cStep
  simp
theorem course_bounds (G : Nat → Int) (n k : Nat) (hk : k ≤ n) (hok : ∀ i, i < n → -1099511627776 ≤ G i ∧ G i ≤ 1099511627776) : -1099511627776 ≤ cAt G k ∧ cAt G k ≤ 1099511627776 ∧ -2199023255552 ≤ cStep G k ∧ cStep G k ≤ 2199023255552 := by
  unfold cAt cStep
  by_cases h0 : k = 0
  · subst h0; simp
  · have a := hok (k - 1) (by omega)
    rw [if_neg h0]
    by_cases h1 : k ≤ 1
    · rw [if_pos h1]; omega
    · have b := hok (k - 2) (by omega)
      rw [if_neg h1]; omega

/-- Even ticks. -/
theorem even_delta (f s : Int) (G : Nat → Int) (n : Nat) (hG : ∀ i, i < n → G i = f + i * s) (i : Nat) (h2 : 2 ≤ i) (hi : i < n) : deltaOf G i = 0 := by
  have e0 := hG i hi
  have e1 := hG (i - 1) (by omega)
  have e2 := hG (i - 2) (by omega)
  have c1 : ((i - 1 : Nat) : Int) = (i : Int) - 1 := by omega
  have c2 : ((i - 2 : Nat) : Int) = (i : Int) - 2 := by omega
  unfold deltaOf
  rw [if_neg (by omega), if_neg (by omega), e0, e1, e2, c1, c2]
  generalize (i : Int) = x
  rw [Int.sub_mul, Int.sub_mul]
  omega
theorem even_length (f s : Int) (G : Nat → Int) (n : Nat) (hG : ∀ i, i < n → G i = f + i * s) : ∀ k, 2 ≤ k → k ≤ n → (ticksTo G k).length + 2 = (BitMath.waveOf f).length + (BitMath.waveOf s).length + k
  | 0, h, _ => absurd h (by omega)
  | 1, h, _ => absurd h (by omega)
  | 2, _, hk => by
    have e0 : deltaOf G 0 = f := by unfold deltaOf; rw [if_pos rfl, hG 0 (by omega)]; simp
    have e1 : deltaOf G 1 = s := by unfold deltaOf; rw [if_neg (by omega), if_pos rfl, hG 0 (by omega), hG 1 (by omega)]; simp; omega
    simp only [ticksTo, List.length_append, e0, e1, List.length_nil]
    omega
  | k + 3, _, hk => by
    have ih := even_length f s G n hG (k + 2) (by omega) (by omega)
    have e : deltaOf G (k + 2) = 0 := even_delta f s G n hG (k + 2) (by omega) (by omega)
    have l0 : (BitMath.waveOf 0).length = 1 := rfl
    rw [length_ticksTo_step, e, l0]
    omega

/-- A number's size by its form. -/
theorem length_by_form (a b : Int) (h : BitMath.formOf a ≤ BitMath.formOf b) : (BitMath.waveOf a).length ≤ (BitMath.waveOf b).length := by
  rw [BitMath.length_waveOf, BitMath.length_waveOf]
  have hb := BitMath.formOf_le b
  generalize BitMath.formOf a = x at *
  generalize BitMath.formOf b = y at *
  rcases (by omega : y = 0 ∨ y = 1 ∨ y = 2 ∨ y = 3 ∨ y = 4) with rfl | rfl | rfl | rfl | rfl <;>
    rcases (by omega : x = 0 ∨ x = 1 ∨ x = 2 ∨ x = 3 ∨ x = 4) with rfl | rfl | rfl | rfl | rfl <;> first | omega | decide
theorem form_up (a b : Int) (h0 : 0 ≤ a) (h : a ≤ b) : BitMath.formOf a ≤ BitMath.formOf b := by
  unfold BitMath.formOf
  repeat' split
  all_goals omega
theorem form_down (a b : Int) (h0 : 0 ≤ a) (h : a ≤ b) : BitMath.formOf (-a) ≤ BitMath.formOf (-b) := by
  unfold BitMath.formOf
  repeat' split
  all_goals omega
theorem form_sign (a : Int) (h0 : 0 ≤ a) : BitMath.formOf a ≤ BitMath.formOf (-a) := by
  unfold BitMath.formOf
  repeat' split
  all_goals omega
end Go.Proofs.YtfanagohfimnkaaDoor
/- Plain mathematics of words, names and labels. Nothing of Go. -/
namespace LabMath

/-- A letter a to z, a digit, or '-'. -/
def wordB (c : UInt8) : Bool := decide ((97 ≤ c.toNat ∧ c.toNat ≤ 122) ∨ (48 ≤ c.toNat ∧ c.toNat ≤ 57) ∨ c.toNat = 45)
def isWord (s : ByteArray) : Bool := s.data.toList.all wordB && decide (1 ≤ s.size ∧ s.size ≤ 12)
def isName (s : ByteArray) : Bool := isWord s && decide (97 ≤ (s.data.toList.getD 0 0).toNat)
theorem isWord_no (s : ByteArray) (k : Nat) (hk : k < s.size) (h : wordB s[k] = false) : isWord s = false := by
  unfold isWord
  have : s.data.toList.all wordB = false := by
    rw [List.all_eq_false]
    refine ⟨s[k], ?_, by rw [h]; decide⟩
    show s.data[k] ∈ s.data.toList
    rw [Array.mem_toList_iff]
    exact Array.getElem_mem _
  rw [this, Bool.false_and]
theorem isWord_end (s : ByteArray) (h : ∀ k (hk : k < s.size), wordB s[k] = true) : isWord s = decide (1 ≤ s.size ∧ s.size ≤ 12) := by
  unfold isWord
  have : s.data.toList.all wordB = true := by
    rw [List.all_eq_true]
    intro c hc
    rw [Array.mem_toList_iff] at hc
    obtain ⟨k, hk, rfl⟩ := Array.mem_iff_getElem.1 hc
    exact h k hk
  rw [this, Bool.true_and]
end LabMath
/- Plain mathematics of a chunk's sum. Nothing of Go. -/
namespace BitMath

/-- One bit, one byte, a text of the long division. -/
def crcBit (c b k : Nat) : Nat := if (c ^^^ (b / 2 ^ k)) % 2 = 1 then (c / 2) ^^^ 3988292384 else c / 2
def crcByte (c b : Nat) : Nat → Nat
  | 0 => c
  | k + 1 => crcBit (crcByte c b k) b k
def crcTo (l : List UInt8) : Nat → Nat
  | 0 => 4294967295
  | i + 1 => crcByte (crcTo l i) (l.getD i 0).toNat 8
def crcOf (l : List UInt8) : Nat := crcTo l l.length ^^^ 4294967295
theorem crcBit_lt (c b k : Nat) (h : c < 4294967296) : crcBit c b k < 4294967296 := by
  unfold crcBit
  split
  · exact Nat.xor_lt_two_pow (n := 32) (by omega) (by decide)
  · omega
theorem crcByte_lt (c b : Nat) (h : c < 4294967296) : ∀ k, crcByte c b k < 4294967296
  | 0 => h
  | k + 1 => crcBit_lt _ _ _ (crcByte_lt c b h k)
theorem crcTo_lt (l : List UInt8) : ∀ i, crcTo l i < 4294967296
  | 0 => by show 4294967295 < 4294967296; decide
  | i + 1 => crcByte_lt _ _ (crcTo_lt l i) _
theorem crcOf_lt (l : List UInt8) : crcOf l < 4294967296 := Nat.xor_lt_two_pow (n := 32) (crcTo_lt l _) (by decide)
/-- Four bytes, the highest first. -/
def fourOf (n : Nat) : List UInt8 := [UInt8.ofNat (n / 16777216 % 256), UInt8.ofNat (n / 65536 % 256), UInt8.ofNat (n / 256 % 256), UInt8.ofNat (n % 256)]
def sealOf (l : List UInt8) : List UInt8 := l ++ fourOf (crcOf l)
end BitMath
