/- ValueOf, Unpack and Pack of the document's answers, by contracts. -/
import Derived.Test.YtgdflopgdlpimaaDoorRefs
namespace Go.Proofs.YtgdflopgdlpimaaDoor
open Go.RowKit

/-- One step of ValueOf, in the walk's spelling. -/
theorem txt_at (bs : List Bool) (k : Nat) (h : k < bs.length) : ∃ hp : k < (BitMath.txt bs).size, (BitMath.txt bs)[k] = BitMath.chr bs[k] := by
  have hp : k < (BitMath.txt bs).size := by rw [BitMath.txt_size]; exact h
  exact ⟨hp, BitMath.txt_get bs k hp⟩

theorem take_valB (bs : List Bool) (k : Nat) (h : k < bs.length) : BitMath.valB (bs.take (k + 1)) = 2 * BitMath.valB (bs.take k) + (bs[k]).toNat := by
  rw [List.take_succ_eq_append_getElem h, BitMath.valB_snoc]
theorem pow_le_64 (n : Nat) (h : n ≤ 64) : 2 ^ n ≤ 18446744073709551616 := by
  have : 2 ^ n ≤ 2 ^ 64 := Nat.pow_le_pow_right (by omega) h
  simpa using this
theorem valB_64 (bs : List Bool) (h : bs.length ≤ 64) : BitMath.valB bs < 18446744073709551616 := by
  have := BitMath.valB_lt bs
  have := pow_le_64 _ h
  omega
theorem value_step (bs : List Bool) (k x : Nat) (s : ByteArray) (hs : s = BitMath.txt bs) (hl : bs.length ≤ 64) (hk : k < s.size) (hx : x = BitMath.valB (bs.take k)) :
    IntKind.u64.wrap (IntKind.u64.wrap (2 * (x : Int)) + ((s[k].toNat : Int) - 48) % 256) = ((BitMath.valB (bs.take (k + 1)) : Nat) : Int) := by
  subst hs
  have hk' : k < bs.length := by rw [BitMath.txt_size] at hk; exact hk
  rw [BitMath.txt_get bs k hk, BitMath.chr_toNat, take_valB bs k hk', ← hx]
  have h1 := valB_64 (bs.take (k + 1)) (by simp; omega)
  rw [take_valB bs k hk', ← hx] at h1
  rw [IntKind.wrap_u64, IntKind.wrap_u64]
  cases bs[k] <;> simp at h1 ⊢ <;> omega

set_option maxRecDepth 100000 in
theorem value_of (s : ByteArray) (bs : List Bool) (w : World) (hs : s = BitMath.txt bs) (hl : bs.length ≤ 64) :
    Calls Tryd.prog 26 #[.string s] w fun e w' => e = .returned (.int .u64 (BitMath.valB bs)) ∧ w' = w := by
  have hsz : s.size = bs.length := by rw [hs, BitMath.txt_size]
  have HS := (show Hid _ from hs)
  have hm : s.size ≤ 64 := by omega
  clear hs hsz
  go_enter Tryd.func26, Tryd.ntmps26
  go_wp2_with fail
  go_loop [3, 4] (fun v i => ∃ k x : Nat, k ≤ s.size ∧ i = .int .i64 k ∧ v = .int .u64 x ∧ x = BitMath.valB (bs.take k)) (fun _ i => s.size - (intOf i).toNat)
  case atStart => exact ⟨0, 0, Nat.zero_le _, rfl, rfl, by simp [BitMath.valB]⟩
  case round =>
    obtain ⟨k, x, hk, rfl, rfl, hx⟩ := hrel
    have HX := (show Hid _ from hx)
    clear hx
    by_cases hlt : k < s.size
    · have hst := value_step bs k x s HS.out hl hlt HX.out
      have HV := (show Hid _ from hst)
      clear hst
      go_wp2
      go_round
      case rel => exact ⟨k + 1, _, by omega, by go_num, congrArg (Value.int .u64) HV.out, rfl⟩
      case measure => simp [intOf]; omega
    · have hk' : k = s.size := by omega
      have e : x = BitMath.valB bs := by
        have h1 := HX.out
        have h2 : s.size = bs.length := by rw [HS.out, BitMath.txt_size]
        rw [h1, List.take_of_length_le (by omega)]
      clear HX
      subst e
      go_wp2
      go_ret
      exact ⟨rfl, rfl⟩

theorem add_txt (P : Program) (a b : List Bool) (h : a.length + b.length ≤ 9223372036854775807) (w : World) :
    (Op.stringOp .add (BitMath.txt a) (BitMath.txt b)).run P w = .ok (.string (BitMath.txt (a ++ b))) w := by
  rw [run_string_add_sum w _ _ (by rw [BitMath.txt_size, BitMath.txt_size]; exact h), BitMath.txt_append]

theorem data_at (s : ByteArray) (k : Nat) (h : k < s.size) : s.data.toList.take (k + 1) = s.data.toList.take k ++ [s[k]] := by
  rw [List.take_succ_eq_append_getElem (by simpa using h)]; rfl

set_option maxRecDepth 100000 in
theorem unpack_any (s : ByteArray) (w : World) (hs : s.size ≤ 1048576) :
    Calls Tryd.prog 24 #[.string s] w fun e w' => e = .returned (.string (BitMath.txt (BitMath.bitsOfBytes s.data.toList))) ∧ Below w.heap.size w w' := by
  go_enter Tryd.func24, Tryd.ntmps24
  go_wp2_with fail
  go_loopw [3, 4] (fun o i wr => ∃ k : Nat, k ≤ s.size ∧ i = .int .i64 k ∧ o = .string (BitMath.txt (BitMath.bitsOfBytes (s.data.toList.take k))) ∧ Below w.heap.size w wr) (fun _ i _ => s.size - (intOf i).toNat)
  case atStart => exact ⟨0, Nat.zero_le _, rfl, rfl, Below.refl _ _⟩
  case round =>
    obtain ⟨k, hk, rfl, rfl, hb⟩ := hrel
    by_cases hlt : k < s.size
    · have hadd := add_txt Tryd.prog (BitMath.bitsOfBytes (s.data.toList.take k)) (BitMath.bitsOf (s[k]).toNat 8) (by
        rw [BitMath.length_bitsOfBytes, BitMath.length_bitsOf]
        have : (s.data.toList.take k).length ≤ k := List.length_take_le _ _
        omega)
      rw [← BitMath.bitsOfBytes_snoc, ← data_at s k hlt] at hadd
      have hbl : s[k].toNat < 256 := s[k].toNat_lt
      go_wp2_with fail
      refine (bits_any (s[k]).toNat 8 _ (by omega) (by omega) (by omega)).mono ?_
      rintro e w1 ⟨rfl, hb1⟩
      have hb2 := hb.trans (hb1.mono hb.size)
      clear hb1 hb
      go_wp2
      go_roundw
      case rel => exact ⟨k + 1, by omega, by go_num, rfl, hb2⟩
      case measure => simp [intOf]; omega
    · have hk' : k = s.size := by omega
      clear hk
      subst hk'
      go_wp2
      go_ret
      refine ⟨?_, hb⟩
      rw [List.take_of_length_le (by simp)]
      rfl

theorem byte_step (bs : List Bool) (j t : Nat) : BitMath.valB (BitMath.byteBits bs j (t + 1)) = 2 * BitMath.valB (BitMath.byteBits bs j t) + (bs.getD (8 * j + t) false).toNat := by
  rw [BitMath.byteBits, BitMath.valB_snoc]
theorem byte_lt (bs : List Bool) (j t : Nat) (ht : t ≤ 8) : BitMath.valB (BitMath.byteBits bs j t) < 256 := by
  have h := BitMath.valB_lt (BitMath.byteBits bs j t)
  rw [BitMath.length_byteBits] at h
  have : 2 ^ t ≤ 2 ^ 8 := Nat.pow_le_pow_right (by omega) ht
  have h8 : (2 : Nat) ^ 8 = 256 := rfl
  omega
theorem bit_at (s : ByteArray) (bs : List Bool) (hs : s = BitMath.txt bs) (i : Nat) (h : i < s.size) (b : Bool) (hb : bs.getD i false = b) : (((s[i]).toNat : Int) == 49) = b := by
  subst hs
  rw [BitMath.txt_get bs i h]
  have h' : i < bs.length := by rw [BitMath.txt_size] at h; exact h
  rw [List.getD_eq_getElem?_getD, List.getElem?_eq_getElem h', Option.getD_some] at hb
  rw [hb]
  cases b <;> rfl
theorem add_byte (P : Program) (bs : List Bool) (j : Nat) (h : j ≤ 1048576) (w : World) :
    (Op.stringOp .add ⟨(BitMath.packTo bs j).toArray⟩ (byteStr (BitMath.valB (BitMath.byteBits bs j 8)))).run P w = .ok (.string ⟨(BitMath.packTo bs (j + 1)).toArray⟩) w := by
  rw [run_string_add_sum w _ _ (by simp [ByteArray.size, byteStr, BitMath.length_packTo]; omega)]
  unfold byteStr
  rw [show (#[UInt8.ofNat ((BitMath.valB (BitMath.byteBits bs j 8) : Nat) : Int).toNat] : Array UInt8) = [UInt8.ofNat (BitMath.byteAt bs j)].toArray from by rw [Int.toNat_natCast]; rfl, ByteArray.mk_append_mk]
  rfl

set_option maxRecDepth 100000 in
theorem pack_any (s : ByteArray) (bs : List Bool) (w : World) (hs : s = BitMath.txt bs) (hl : bs.length ≤ 1048576) :
    Calls Tryd.prog 21 #[.string s] w fun e w' => e = .returned (.string ⟨(BitMath.pack bs).toArray⟩) ∧ Below w.heap.size w w' := by
  have hsz : s.size = bs.length := by rw [hs, BitMath.txt_size]
  have HS := (show Hid _ from hs)
  have hm : s.size ≤ 1048576 := by omega
  have HZ := (show Hid _ from hsz)
  clear hs hsz hl
  go_enter Tryd.func21, Tryd.ntmps21
  go_wp2_with fail
  go_loopw [3, 4, 5, 6] (fun o i n6 k6 wr => ∃ j : Nat, 8 * j ≤ s.size + 7 ∧ i = .int .i64 (8 * (j : Int)) ∧ o = .string ⟨(BitMath.packTo bs j).toArray⟩ ∧ Below w.heap.size w wr) (fun _ i _ _ _ => s.size + 8 - (intOf i).toNat)
  case atStart => exact ⟨0, by omega, by simp, rfl, Below.refl _ _⟩
  case round =>
    obtain ⟨j, hj, rfl, rfl, hb⟩ := hrel
    by_cases hlt : 8 * (j : Int) < (s.size : Int)
    · go_wp2_with fail
      go_loop [5, 6] (fun n k => ∃ t x : Nat, t ≤ 8 ∧ k = .int .i64 t ∧ n = .int .i64 x ∧ x = BitMath.valB (BitMath.byteBits bs j t)) (fun _ k => 8 - (intOf k).toNat)
      case atStart => exact ⟨0, 0, by omega, rfl, rfl, rfl⟩
      case round =>
        obtain ⟨t, x, ht, rfl, rfl, hx⟩ := hrel
        have HX := (show Hid _ from hx)
        have hx8 : (x : Int) < 256 := by
          have := byte_lt bs j t ht
          omega
        clear hx
        by_cases ht8 : t < 8
        · have hst := byte_step bs j t
          rw [← HX.out] at hst
          by_cases hin : 8 * j + t < s.size
          · have hin' : 8 * (j : Int) + (t : Int) < (s.size : Int) := by omega
            cases hbit : bs.getD (8 * j + t) false with
            | false =>
              have hb49 := bit_at s bs HS.out (8 * j + t) hin false hbit
              rw [hbit] at hst
              have HT := (show Hid _ from hst)
              clear hst hbit
              go_wp2
              go_round
              case rel => exact ⟨t + 1, 2 * x, by omega, by go_num, by go_num, HT.out.symm⟩
              case measure => simp [intOf]; omega
            | true =>
              have hb49 := bit_at s bs HS.out (8 * j + t) hin true hbit
              rw [hbit] at hst
              have HT := (show Hid _ from hst)
              clear hst hbit
              go_wp2
              go_round
              case rel => exact ⟨t + 1, 2 * x + 1, by omega, by go_num, by go_num, HT.out.symm⟩
              case measure => simp [intOf]; omega
          · have hin' : (s.size : Int) ≤ 8 * (j : Int) + (t : Int) := by omega
            have hbit : bs.getD (8 * j + t) false = false := by
              have h2 := HZ.out
              rw [List.getD_eq_getElem?_getD, List.getElem?_eq_none (by omega)]
              rfl
            rw [hbit] at hst
            have HT := (show Hid _ from hst)
            clear hst hbit
            go_wp2
            go_round
            case rel => exact ⟨t + 1, 2 * x, by omega, by go_num, by go_num, HT.out.symm⟩
            case measure => simp [intOf]; omega
        · obtain rfl : t = 8 := by omega
          have hadd := add_byte Tryd.prog bs j (by omega)
          rw [← HX.out] at hadd
          go_wp2_with fail
          refine (byte_any (x : Int) _ (by omega) (by omega)).mono ?_
          rintro e w1 ⟨rfl, hb1⟩
          have hb2 := hb.trans (hb1.mono hb.size)
          clear hb1 hb
          go_wp2
          go_roundw
          case rel => exact ⟨j + 1, by omega, by go_num, rfl, hb2⟩
          case measure => simp [intOf]; omega
    · have hj' : (s.size : Int) ≤ 8 * (j : Int) := by omega
      have e : j = (bs.length + 7) / 8 := by
        have := HZ.out
        omega
      have HE := (show Hid _ from e)
      clear e
      go_wp2
      go_ret
      refine ⟨?_, hb⟩
      rw [HE.out]
      rfl
end Go.Proofs.YtgdflopgdlpimaaDoor
