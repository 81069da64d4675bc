/- ValueOf, Unpack and Pack of the document's answers, by contracts. -/
import Derived.Test.YtegcalkeopkhfaaRefs
namespace Go.Proofs.Ytegcalkeopkhfaa
open Go.RowKit

/-- One step of ValueOf, in the walk's spelling. -/
theorem txt_at (bs : List Bool) (k : Nat) (h : k < bs.length) : ∃ hp : k < (BitMath.txt bs).size, (BitMath.txt bs)[k] = BitMath.chr bs[k] := by
  have hp : k < (BitMath.txt bs).size := by rw [BitMath.txt_size]; exact h
  exact ⟨hp, BitMath.txt_get bs k hp⟩

theorem take_valB (bs : List Bool) (k : Nat) (h : k < bs.length) : BitMath.valB (bs.take (k + 1)) = 2 * BitMath.valB (bs.take k) + (bs[k]).toNat := by
  rw [List.take_succ_eq_append_getElem h, BitMath.valB_snoc]
theorem pow_le_64 (n : Nat) (h : n ≤ 64) : 2 ^ n ≤ 18446744073709551616 := by
  have : 2 ^ n ≤ 2 ^ 64 := Nat.pow_le_pow_right (by omega) h
  simpa using this
theorem valB_64 (bs : List Bool) (h : bs.length ≤ 64) : BitMath.valB bs < 18446744073709551616 := by
  have := BitMath.valB_lt bs
  have := pow_le_64 _ h
  omega
theorem value_step (bs : List Bool) (k x : Nat) (s : ByteArray) (hs : s = BitMath.txt bs) (hl : bs.length ≤ 64) (hk : k < s.size) (hx : x = BitMath.valB (bs.take k)) :
    IntKind.u64.wrap (IntKind.u64.wrap (2 * (x : Int)) + ((s[k].toNat : Int) - 48) % 256) = ((BitMath.valB (bs.take (k + 1)) : Nat) : Int) := by
  subst hs
  have hk' : k < bs.length := by rw [BitMath.txt_size] at hk; exact hk
  rw [BitMath.txt_get bs k hk, BitMath.chr_toNat, take_valB bs k hk', ← hx]
  have h1 := valB_64 (bs.take (k + 1)) (by simp; omega)
  rw [take_valB bs k hk', ← hx] at h1
  rw [IntKind.wrap_u64, IntKind.wrap_u64]
  cases bs[k] <;> simp at h1 ⊢ <;> omega

theorem add_txt (P : Program) (a b : List Bool) (h : a.length + b.length ≤ 9223372036854775807) (w : World) :
    (Op.stringOp .add (BitMath.txt a) (BitMath.txt b)).run P w = .ok (.string (BitMath.txt (a ++ b))) w := by
  rw [run_string_add_sum w _ _ (by rw [BitMath.txt_size, BitMath.txt_size]; exact h), BitMath.txt_append]

theorem data_at (s : ByteArray) (k : Nat) (h : k < s.size) : s.data.toList.take (k + 1) = s.data.toList.take k ++ [s[k]] := by
  rw [List.take_succ_eq_append_getElem (by simpa using h)]; rfl

theorem byte_step (bs : List Bool) (j t : Nat) : BitMath.valB (BitMath.byteBits bs j (t + 1)) = 2 * BitMath.valB (BitMath.byteBits bs j t) + (bs.getD (8 * j + t) false).toNat := by
  rw [BitMath.byteBits, BitMath.valB_snoc]
theorem byte_lt (bs : List Bool) (j t : Nat) (ht : t ≤ 8) : BitMath.valB (BitMath.byteBits bs j t) < 256 := by
  have h := BitMath.valB_lt (BitMath.byteBits bs j t)
  rw [BitMath.length_byteBits] at h
  have : 2 ^ t ≤ 2 ^ 8 := Nat.pow_le_pow_right (by omega) ht
  have h8 : (2 : Nat) ^ 8 = 256 := rfl
  omega
theorem bit_at (s : ByteArray) (bs : List Bool) (hs : s = BitMath.txt bs) (i : Nat) (h : i < s.size) (b : Bool) (hb : bs.getD i false = b) : (((s[i]).toNat : Int) == 49) = b := by
  subst hs
  rw [BitMath.txt_get bs i h]
  have h' : i < bs.length := by rw [BitMath.txt_size] at h; exact h
  rw [List.getD_eq_getElem?_getD, List.getElem?_eq_getElem h', Option.getD_some] at hb
  rw [hb]
  cases b <;> rfl
theorem add_byte (P : Program) (bs : List Bool) (j : Nat) (h : j ≤ 1048576) (w : World) :
    (Op.stringOp .add ⟨(BitMath.packTo bs j).toArray⟩ (byteStr (BitMath.valB (BitMath.byteBits bs j 8)))).run P w = .ok (.string ⟨(BitMath.packTo bs (j + 1)).toArray⟩) w := by
  rw [run_string_add_sum w _ _ (by simp [ByteArray.size, byteStr, BitMath.length_packTo]; omega)]
  unfold byteStr
  rw [show (#[UInt8.ofNat ((BitMath.valB (BitMath.byteBits bs j 8) : Nat) : Int).toNat] : Array UInt8) = [UInt8.ofNat (BitMath.byteAt bs j)].toArray from by rw [Int.toNat_natCast]; rfl, ByteArray.mk_append_mk]
  rfl

end Go.Proofs.Ytegcalkeopkhfaa
