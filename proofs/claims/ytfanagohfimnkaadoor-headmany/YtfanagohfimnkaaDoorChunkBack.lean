/- What is a chunk, and how it parts: mathematics over the document's answers. -/
import Derived.Test.YtfanagohfimnkaaDoorRefRow
import Derived.Test.YtfanagohfimnkaaDoorRefTicksGroup
import Derived.Test.YtfanagohfimnkaaDoorTicksBack
import Derived.Test.YtfanagohfimnkaaDoorMaskMath3
namespace Go.Proofs.YtfanagohfimnkaaDoor

/-- Bytes that are a chunk of right points. -/
def IsChunk (l : List UInt8) : Prop := ∃ (n : Nat) (T : Nat → Int) (B : Nat → Nat), n ≤ 120 ∧ (∀ i, i < n → ptOk T i = true) ∧ (∀ i, i < n → B i < 18446744073709551616) ∧ l = chunkBytes T B n

theorem ptOk_tick (T : Nat → Int) (i : Nat) (h : ptOk T i = true) : -1099511627776 ≤ T i ∧ T i ≤ 1099511627776 := by
  unfold ptOk at h
  simp only [Bool.and_eq_true] at h
  exact (isTick_iff _).1 h.1
theorem length_fourOf (n : Nat) : (BitMath.fourOf n).length = 4 := rfl
theorem sealOf_take (b : List UInt8) : (BitMath.sealOf b).take ((BitMath.sealOf b).length - 4) = b := by
  unfold BitMath.sealOf
  rw [List.length_append, length_fourOf, Nat.add_sub_cancel, List.take_left]

theorem bits_bytes_pack (bs : List Bool) : ∃ Z, BitMath.bitsOfBytes (BitMath.pack bs) = bs ++ Z := by
  refine ⟨(BitMath.bitsOfBytes (BitMath.pack bs)).drop bs.length, ?_⟩
  have := BitMath.bytes_pack bs
  exact ((congrArg (fun x => x ++ (BitMath.bitsOfBytes (BitMath.pack bs)).drop bs.length) this).symm.trans (List.take_append_drop _ _)).symm

/-- A chunk's parts, one behind the other. -/
theorem chunk_parse (l : List UInt8) (n : Nat) (T : Nat → Int) (B : Nat → Nat) (hn : n ≤ 120) (hT : ∀ i, i < n → ptOk T i = true) (hB : ∀ i, i < n → B i < 18446744073709551616) (hl : l = chunkBytes T B n) :
    5 ≤ l.length ∧ l.take (l.length - 4) = BitMath.pack (rowBits T B n) ∧ BitMath.sealOf (l.take (l.length - 4)) = l ∧
    BitMath.valB ((BitMath.bitsOfBytes (l.take (l.length - 4))).take 8) = n ∧
    readTo (BitMath.bitsOfBytes (l.take (l.length - 4))) n 8 [] = (0, firstTicks T n, 8 + (ticksTo T n).length) ∧
    ∃ u, BitMath.maskRead ((BitMath.bitsOfBytes (l.take (l.length - 4))).drop (8 + (ticksTo T n).length)) n = (0, BitMath.firstV B n, u) := by
  have hb : l.take (l.length - 4) = BitMath.pack (rowBits T B n) := by rw [hl]; exact sealOf_take _
  have hlr : 8 ≤ (rowBits T B n).length := by simp only [rowBits, List.length_append, BitMath.length_bitsOf]; omega
  have hlp := BitMath.length_pack (rowBits T B n)
  have hll : l.length = (BitMath.pack (rowBits T B n)).length + 4 := by rw [hl, chunkBytes, BitMath.sealOf, List.length_append, length_fourOf]
  obtain ⟨Z, hZ⟩ := bits_bytes_pack (rowBits T B n)
  have hD : BitMath.bitsOfBytes (l.take (l.length - 4)) = BitMath.bitsOf n 8 ++ (ticksTo T n ++ (BitMath.maskTo B n ++ Z)) := by
    rw [hb, hZ, rowBits]
    simp only [List.append_assoc]
  have h8 : (BitMath.bitsOf n 8).length = 8 := BitMath.length_bitsOf _ _
  refine ⟨by omega, hb, by rw [hb, hl]; rfl, ?_, ?_, ?_⟩
  · rw [hD, List.take_left' h8, BitMath.valB_bitsOf]
    exact Nat.mod_eq_of_lt (by omega)
  · have := readTo_ticks T n (BitMath.bitsOf n 8) (BitMath.maskTo B n ++ Z) (fun i hi => ptOk_tick T i (hT i hi)) n 0 (by omega)
    rw [h8] at this
    rw [hD]
    exact this
  · refine ⟨(BitMath.maskTo B n).length, ?_⟩
    have hd : (BitMath.bitsOfBytes (l.take (l.length - 4))).drop (8 + (ticksTo T n).length) = BitMath.maskTo B n ++ Z := by
      rw [hD, ← List.drop_drop, List.drop_left' h8, List.drop_left]
    rw [hd]
    exact BitMath.maskRead_mask B n Z hB n (Nat.le_refl _)

theorem ticksTo_congr (T U : Nat → Int) : ∀ k, (∀ i, i < k → T i = U i) → ticksTo T k = ticksTo U k
  | 0, _ => rfl
  | k + 1, h => by
    have hd : deltaOf T k = deltaOf U k := by
      unfold deltaOf
      by_cases h0 : k = 0
      · subst h0
        rw [if_pos rfl, if_pos rfl, h 0 (by omega)]
      · by_cases h1 : k = 1
        · subst h1
          rw [if_neg h0, if_pos rfl, if_neg h0, if_pos rfl, h 0 (by omega), h 1 (by omega)]
        · rw [if_neg h0, if_neg h1, if_neg h0, if_neg h1, h k (by omega), h (k - 1) (by omega), h (k - 2) (by omega)]
    rw [ticksTo, ticksTo, ticksTo_congr T U k (fun i hi => h i (by omega)), hd]
theorem rowBits_congr (T U : Nat → Int) (B C : Nat → Nat) (n : Nat) (hT : ∀ i, i < n → T i = U i) (hB : ∀ i, i < n → B i = C i) : rowBits T B n = rowBits U C n := by
  unfold rowBits
  rw [ticksTo_congr T U n hT, BitMath.maskTo_congr B C n hB]
theorem ptOk_congr (T U : Nat → Int) (n : Nat) (hT : ∀ i, i < n → T i = U i) (i : Nat) (hi : i < n) : ptOk T i = ptOk U i := by
  unfold ptOk
  rw [hT i hi, hT (i - 1) (by omega)]
end Go.Proofs.YtfanagohfimnkaaDoor
