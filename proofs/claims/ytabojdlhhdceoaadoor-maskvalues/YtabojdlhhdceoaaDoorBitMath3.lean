/- Plain mathematics of bits: cuts of texts, and of bytes. Nothing of Go. -/
import Derived.Test.YtabojdlhhdceoaaDoorBitMath2
namespace BitMath

theorem bitsOfBytes_append (a b : List UInt8) : bitsOfBytes (a ++ b) = bitsOfBytes a ++ bitsOfBytes b := by simp [bitsOfBytes]
theorem bitsOfBytes_take (l : List UInt8) (c : Nat) : bitsOfBytes (l.take c) = (bitsOfBytes l).take (8 * c) := by
  by_cases h : c ≤ l.length
  · have hl : (bitsOfBytes (l.take c)).length = 8 * c := by rw [length_bitsOfBytes, List.length_take]; omega
    have e : bitsOfBytes l = bitsOfBytes (l.take c) ++ bitsOfBytes (l.drop c) := by rw [← bitsOfBytes_append, List.take_append_drop]
    rw [e, List.take_append_of_le_length (by omega)]
    exact (List.take_of_length_le (by omega)).symm
  · rw [List.take_of_length_le (by omega), List.take_of_length_le (by rw [length_bitsOfBytes]; omega)]
theorem readB_take (l : List UInt8) (c i n : Nat) (h : i + n ≤ 8 * c) : readB (l.take c) i n = readB l i n := by
  unfold readB
  rw [bitsOfBytes_take, List.drop_take, List.take_take]
  congr 1
  omega
theorem txt_extract (B : List Bool) (a b : Nat) : (txt B).extract a b = txt ((B.drop a).take (b - a)) := by
  apply ByteArray.ext
  apply Array.toList_inj.1
  simp [txt, List.map_take, List.map_drop]
/-- The bits from a on, n of them, of the first m bits of bytes, as a text. -/
theorem txt_cut (l : List UInt8) (m a n : Nat) (h : a + n ≤ m) : ((txt (bitsOfBytes l)).extract 0 m).extract a (a + n) = txt (readB l a n) := by
  rw [txt_extract, txt_extract]
  unfold readB
  congr 1
  rw [List.drop_zero, Nat.sub_zero, List.drop_take, List.take_take]
  congr 1
  omega
end BitMath
