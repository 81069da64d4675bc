/- The document's answers on bits, by contracts: Byte, Bits, Pack, Unpack, ValueOf. -/
import Derived.Test.YtnjmplmogibgfabDoorProg
import Derived.Test.YtnjmplmogibgfabDoorBitMathGroup
import Derived.WalkKit
import Derived.WalkSpells
import Derived.WalkLawsBesides
import Derived.Laws.BitsAllLaws
import Derived.Laws.IdiomStrings
namespace Go.Proofs.YtnjmplmogibgfabDoor
open Go.RowKit

/-- One byte as a text. -/
def byteStr (n : Int) : ByteArray := ⟨#[UInt8.ofNat n.toNat]⟩
theorem byte_any (n : Int) (w : World) (h0 : 0 ≤ n) (h1 : n < 256) :
    Calls Tryd.prog 97 #[.int .i64 n] w fun e w' => e = .returned (.string (byteStr n)) ∧ Below w.heap.size w w' := by
  have hback := run_convert_bytes_back (P := Tryd.prog) (w.alloc (.cells #[.int .u8 n] 5)) 133 9 5 ⟨w.heap.size, 0, none⟩ 1 [UInt8.ofNat n.toNat] Tryd.underlying133 Tryd.underlying5 Tryd.underlying9 (fun j hj => by
    match j, hj with
    | 0, _ => simp [Addr.add]; omega)
  simp only [List.length_cons, List.length_nil, Nat.zero_add] at hback
  go_enter Tryd.func97, Tryd.ntmps97
  go_wp2
  go_ret
  exact ⟨rfl, (Below.refl _ _).alloc (Nat.le_refl _) _⟩

theorem add_bit (P : Program) (v k x : Nat) (hx : x = v / 2 ^ k) (hk : k < 64) (w : World) :
    (Op.stringOp .add (byteStr (48 + (x : Int) % 2)) (BitMath.txt (BitMath.bitsOf v k))).run P w = .ok (.string (BitMath.txt (BitMath.bitsOf v (k + 1)))) w := by
  rw [run_string_add_sum w _ _ (by rw [BitMath.txt_size, BitMath.length_bitsOf]; simp [byteStr, ByteArray.size]; omega)]
  have e : byteStr (48 + (x : Int) % 2) = BitMath.txt [v.testBit k] := by
    unfold byteStr
    have e1 : (48 + (x : Int) % 2).toNat = 48 + v / 2 ^ k % 2 := by rw [← hx]; omega
    rw [e1, BitMath.chr_ofNat]
    rfl
  rw [e, BitMath.txt_append]
  rfl

end Go.Proofs.YtnjmplmogibgfabDoor
/- ValueOf, Unpack and Pack of the document's answers, by contracts. -/
namespace Go.Proofs.YtnjmplmogibgfabDoor
open Go.RowKit

/-- One step of ValueOf, in the walk's spelling. -/
theorem txt_at (bs : List Bool) (k : Nat) (h : k < bs.length) : ∃ hp : k < (BitMath.txt bs).size, (BitMath.txt bs)[k] = BitMath.chr bs[k] := by
  have hp : k < (BitMath.txt bs).size := by rw [BitMath.txt_size]; exact h
  exact ⟨hp, BitMath.txt_get bs k hp⟩

theorem take_valB (bs : List Bool) (k : Nat) (h : k < bs.length) : BitMath.valB (bs.take (k + 1)) = 2 * BitMath.valB (bs.take k) + (bs[k]).toNat := by
  rw [List.take_succ_eq_append_getElem h, BitMath.valB_snoc]
theorem pow_le_64 (n : Nat) (h : n ≤ 64) : 2 ^ n ≤ 18446744073709551616 := by
  have : 2 ^ n ≤ 2 ^ 64 := Nat.pow_le_pow_right (by omega) h
  simpa using this
theorem valB_64 (bs : List Bool) (h : bs.length ≤ 64) : BitMath.valB bs < 18446744073709551616 := by
  have := BitMath.valB_lt bs
  have := pow_le_64 _ h
  omega
theorem value_step (bs : List Bool) (k x : Nat) (s : ByteArray) (hs : s = BitMath.txt bs) (hl : bs.length ≤ 64) (hk : k < s.size) (hx : x = BitMath.valB (bs.take k)) :
    IntKind.u64.wrap (IntKind.u64.wrap (2 * (x : Int)) + ((s[k].toNat : Int) - 48) % 256) = ((BitMath.valB (bs.take (k + 1)) : Nat) : Int) := by
  subst hs
  have hk' : k < bs.length := by rw [BitMath.txt_size] at hk; exact hk
  rw [BitMath.txt_get bs k hk, BitMath.chr_toNat, take_valB bs k hk', ← hx]
  have h1 := valB_64 (bs.take (k + 1)) (by simp; omega)
  rw [take_valB bs k hk', ← hx] at h1
  rw [IntKind.wrap_u64, IntKind.wrap_u64]
  cases bs[k] <;> simp at h1 ⊢ <;> omega

theorem add_txt (P : Program) (a b : List Bool) (h : a.length + b.length ≤ 9223372036854775807) (w : World) :
    (Op.stringOp .add (BitMath.txt a) (BitMath.txt b)).run P w = .ok (.string (BitMath.txt (a ++ b))) w := by
  rw [run_string_add_sum w _ _ (by rw [BitMath.txt_size, BitMath.txt_size]; exact h), BitMath.txt_append]

theorem data_at (s : ByteArray) (k : Nat) (h : k < s.size) : s.data.toList.take (k + 1) = s.data.toList.take k ++ [s[k]] := by
  rw [List.take_succ_eq_append_getElem (by simpa using h)]; rfl

theorem byte_step (bs : List Bool) (j t : Nat) : BitMath.valB (BitMath.byteBits bs j (t + 1)) = 2 * BitMath.valB (BitMath.byteBits bs j t) + (bs.getD (8 * j + t) false).toNat := by
  rw [BitMath.byteBits, BitMath.valB_snoc]
theorem byte_lt (bs : List Bool) (j t : Nat) (ht : t ≤ 8) : BitMath.valB (BitMath.byteBits bs j t) < 256 := by
  have h := BitMath.valB_lt (BitMath.byteBits bs j t)
  rw [BitMath.length_byteBits] at h
  have : 2 ^ t ≤ 2 ^ 8 := Nat.pow_le_pow_right (by omega) ht
  have h8 : (2 : Nat) ^ 8 = 256 := rfl
  omega
theorem bit_at (s : ByteArray) (bs : List Bool) (hs : s = BitMath.txt bs) (i : Nat) (h : i < s.size) (b : Bool) (hb : bs.getD i false = b) : (((s[i]).toNat : Int) == 49) = b := by
  subst hs
  rw [BitMath.txt_get bs i h]
  have h' : i < bs.length := by rw [BitMath.txt_size] at h; exact h
  rw [List.getD_eq_getElem?_getD, List.getElem?_eq_getElem h', Option.getD_some] at hb
  rw [hb]
  cases b <;> rfl
theorem add_byte (P : Program) (bs : List Bool) (j : Nat) (h : j ≤ 1048576) (w : World) :
    (Op.stringOp .add ⟨(BitMath.packTo bs j).toArray⟩ (byteStr (BitMath.valB (BitMath.byteBits bs j 8)))).run P w = .ok (.string ⟨(BitMath.packTo bs (j + 1)).toArray⟩) w := by
  rw [run_string_add_sum w _ _ (by simp [ByteArray.size, byteStr, BitMath.length_packTo]; omega)]
  unfold byteStr
  rw [show (#[UInt8.ofNat ((BitMath.valB (BitMath.byteBits bs j 8) : Nat) : Int).toNat] : Array UInt8) = [UInt8.ofNat (BitMath.byteAt bs j)].toArray from by rw [Int.toNat_natCast]; rfl, ByteArray.mk_append_mk]
  rfl

end Go.Proofs.YtnjmplmogibgfabDoor
/- The document's answer on waves, by contracts: Wave, Unwave. -/
namespace Go.Proofs.YtnjmplmogibgfabDoor
open Go.RowKit

/-- A head and bits, joined. -/
theorem add_head (P : Program) (h : ByteArray) (hd b : List Bool) (hh : h = BitMath.txt hd) (hl : hd.length + b.length ≤ 1000) (w : World) :
    (Op.stringOp .add h (BitMath.txt b)).run P w = .ok (.string (BitMath.txt (hd ++ b))) w := by
  subst hh
  exact add_txt P hd b (by omega) w
theorem wave_zero : (⟨#[48]⟩ : ByteArray) = BitMath.txt (BitMath.waveOf 0) := rfl

theorem wave_form (n : Int) (k : Nat) (hk : BitMath.formOf n = k) : BitMath.waveOf n = BitMath.headOf k ++ BitMath.bitsOf (BitMath.u64 (n + BitMath.biasOf k)) (BitMath.wideOf k) := by
  unfold BitMath.waveOf
  rw [hk]
theorem u64_cast (n : Int) : IntKind.u64.wrap n = (BitMath.u64 n : Int) := by
  rw [IntKind.wrap_u64]
  unfold BitMath.u64
  omega

end Go.Proofs.YtnjmplmogibgfabDoor
/- The document's sum of a chunk, by contracts: CRC, four, Seal. -/
namespace Go.Proofs.YtnjmplmogibgfabDoor
open Go.RowKit

theorem i64_xor_nat (a b : Nat) (ha : a < 4294967296) (hb : b < 4294967296) : bits .xor .i64 (a : Int) (b : Int) = ((a ^^^ b : Nat) : Int) := by
  have hx : a ^^^ b < 2 ^ 32 := Nat.xor_lt_two_pow (by omega) (by omega)
  show IntKind.i64.wrap ((BitVec.ofInt 64 (a : Int) ^^^ BitVec.ofInt 64 (b : Int)).toNat : Int) = _
  rw [BitVec.toNat_xor, ofInt_u64 a (by omega), ofInt_u64 b (by omega), IntWalk.i64_in _ (by omega)]

theorem byte_wide (n : Int) (w : World) (_h0 : 0 ≤ n) (_h1 : n < 4294967296) :
    Calls Tryd.prog 97 #[.int .i64 n] w fun e w' => e = .returned (.string (byteStr (n % 256))) ∧ Below w.heap.size w w' := by
  have hw : IntKind.u8.wrap n = n % 256 := by rw [IntKind.wrap_u8]
  have hback := run_convert_bytes_back (P := Tryd.prog) (w.alloc (.cells #[.int .u8 (n % 256)] 5)) 133 9 5 ⟨w.heap.size, 0, none⟩ 1 [UInt8.ofNat (n % 256).toNat] Tryd.underlying133 Tryd.underlying5 Tryd.underlying9 (fun j hj => by
    match j, hj with
    | 0, _ => simp [Addr.add]; omega)
  simp only [List.length_cons, List.length_nil, Nat.zero_add] at hback
  go_enter Tryd.func97, Tryd.ntmps97
  go_wp2
  go_ret
  exact ⟨rfl, (Below.refl _ _).alloc (Nat.le_refl _) _⟩

/-- One step of the division, as the walk has it. -/
theorem bit_eq (c b k : Nat) (hc : c < 4294967296) (hb : b < 256) : bits .xor .i64 (c : Int) ((b : Int) / 2 ^ k) = ((c ^^^ (b / 2 ^ k) : Nat) : Int) := by
  have hle : b / 2 ^ k ≤ b := Nat.div_le_self _ _
  have e : (b : Int) / 2 ^ k = ((b / 2 ^ k : Nat) : Int) := by simp
  rw [e, i64_xor_nat c (b / 2 ^ k) hc (by omega)]
theorem tmod2 (q r : Nat) (h : q % 2 = r) : ((q : Int)).tmod 2 = (r : Int) := by
  rw [Int.tmod_eq_emod_of_nonneg (by omega)]
  omega
theorem tdiv2 (c : Nat) : ((c : Int)).tdiv 2 = ((c / 2 : Nat) : Int) := by
  rw [Int.tdiv_eq_ediv_of_nonneg (by omega)]
  omega

set_option maxRecDepth 1000000 in
set_option maxHeartbeats 1000000 in
theorem crc_any (s : ByteArray) (w : World) (hs : s.size ≤ 1000000) :
    Calls Tryd.prog 99 #[.string s] w fun e w' => e = .returned (.int .i64 (BitMath.crcOf s.data.toList : Int)) ∧ w' = w := by
  go_enter Tryd.func99, Tryd.ntmps99
  go_wp2_with fail
  go_loop [3, 4, 5, 6] (fun c i _ _ => ∃ k : Nat, k ≤ s.size ∧ i = .int .i64 k ∧ c = .int .i64 (BitMath.crcTo s.data.toList k : Int)) (fun _ i _ _ => s.size - (intOf i).toNat)
  case atStart => exact ⟨0, Nat.zero_le _, rfl, rfl⟩
  case round =>
    obtain ⟨k, hk, rfl, rfl⟩ := hrel
    by_cases hlt : k < s.size
    · have hk0 : (0 : Int) ≤ (k : Int) := by omega
      have hk1 : (k : Int) < (s.size : Int) := by omega
      have hcl := BitMath.crcTo_lt s.data.toList k
      have hst : BitMath.crcTo s.data.toList (k + 1) = BitMath.crcByte (BitMath.crcTo s.data.toList k) (s[k]).toNat 8 := by
        rw [BitMath.crcTo]
        congr 1
        rw [List.getD_eq_getElem?_getD, Array.getElem?_toList]
        have : s.data[k]? = some s[k] := Array.getElem?_eq_getElem hlt
        rw [this]
        rfl
      have hb := (s[k]).toNat_lt
      generalize BitMath.crcTo s.data.toList k = c0 at *
      generalize hb0 : (s[k]).toNat = b at *
      have HST := (show Hid _ from hst)
      clear hst
      go_wp2_with fail
      go_loop [3, 5, 6] (fun c t _ => ∃ j : Nat, j ≤ 8 ∧ t = .int .i64 j ∧ c = .int .i64 (BitMath.crcByte c0 b j : Int)) (fun _ t _ => 8 - (intOf t).toNat)
      case atStart => exact ⟨0, by omega, rfl, rfl⟩
      case round =>
        obtain ⟨j, hj, rfl, rfl⟩ := hrel
        by_cases hj8 : j < 8
        · have hj0 : (0 : Int) ≤ (j : Int) := by omega
          have hj1 : (j : Int) < 8 := by omega
          have hcb := BitMath.crcByte_lt c0 b hcl j
          have hs1 : BitMath.crcByte c0 b (j + 1) = BitMath.crcBit (BitMath.crcByte c0 b j) b j := rfl
          generalize BitMath.crcByte c0 b j = c at *
          have hbe := bit_eq c b j hcb hb
          have hju : IntKind.u64.wrap (j : Int) = (j : Int) := IntWalk.u64_in _ (by omega)
          have hbi : IntKind.i64.wrap (b : Int) = (b : Int) := IntWalk.i64_in _ (by omega)
          obtain ⟨q, hq⟩ : ∃ q, q = c ^^^ (b / 2 ^ j) := ⟨_, rfl⟩
          rw [← hq] at hbe
          obtain ⟨d, hd⟩ : ∃ d, d = c / 2 := ⟨_, rfl⟩
          have hdv := tdiv2 c
          have hdv2 : (c : Int) / 2 = (d : Int) := by omega
          rw [← hd] at hdv
          have hdl : (d : Int) ≤ 4294967295 := by omega
          by_cases hodd : q % 2 = 1
          · have hm := tmod2 q 1 hodd
            have hm2 : (q : Int) % 2 = 1 := by omega
            have hx := i64_xor_nat d 3988292384 (by omega) (by decide)
            have hs2 : BitMath.crcByte c0 b (j + 1) = d ^^^ 3988292384 := by rw [hs1]; unfold BitMath.crcBit; rw [← hq, if_pos hodd, hd]
            have HS2 := (show Hid _ from hs2)
            obtain ⟨z, hz⟩ : ∃ z, z = d ^^^ 3988292384 := ⟨_, rfl⟩
            rw [← hz] at hx HS2
            have HXX : Hid (bits .xor .i64 (d : Int) 3988292384 = (z : Int)) := hx
            clear hs1 hs2 hodd hq hd hz hx
            go_wp2
            go_round
            case rel => exact ⟨j + 1, by omega, by go_num, by rw [HS2.out]; exact congrArg (Value.int .i64) HXX.out⟩
            case measure => simp [intOf]; omega
          · have hz : q % 2 = 0 := by omega
            have hm := tmod2 q 0 hz
            have hm2 : (q : Int) % 2 = 0 := by omega
            have hs2 : BitMath.crcByte c0 b (j + 1) = d := by rw [hs1]; unfold BitMath.crcBit; rw [← hq, if_neg hodd, hd]
            have HS2 := (show Hid _ from hs2)
            clear hs1 hs2 hodd hz hq hd
            go_wp2
            go_round
            case rel => exact ⟨j + 1, by omega, by go_num, by rw [HS2.out]⟩
            case measure => simp [intOf]; omega
        · have hj88 : j = 8 := by omega
          subst hj88
          have hge : (8 : Int) ≤ ((8 : Nat) : Int) := by omega
          go_wp2
          go_round
          case rel => exact ⟨k + 1, by omega, by go_num, by rw [HST.out]⟩
          case measure => simp only [intOf]; omega
    · have hsl : s.data.toList.length = s.size := Array.length_toList
      have hke : k = s.data.toList.length := by omega
      clear hsl
      have hge : (s.size : Int) ≤ (k : Int) := by omega
      have hx := i64_xor_nat (BitMath.crcTo s.data.toList k) 4294967295 (BitMath.crcTo_lt _ _) (by decide)
      have he : BitMath.crcOf s.data.toList = BitMath.crcTo s.data.toList k ^^^ 4294967295 := by rw [hke]; rfl
      have HE := (show Hid _ from he)
      generalize BitMath.crcTo s.data.toList k = c at *
      obtain ⟨z, hz⟩ : ∃ z, z = c ^^^ 4294967295 := ⟨_, rfl⟩
      rw [← hz] at hx HE
      have HXX : Hid (bits .xor .i64 (c : Int) 4294967295 = (z : Int)) := hx
      clear he hke hz hx
      go_wp2
      go_ret
      exact ⟨by rw [HE.out]; exact congrArg (fun y => Ending.returned (Value.int .i64 y)) HXX.out, rfl⟩

theorem add_str (P : Program) (a b : ByteArray) (h : a.size + b.size ≤ 9223372036854775807) (w : World) : (Op.stringOp .add a b).run P w = .ok (.string (a ++ b)) w := run_string_add_sum w _ _ h
theorem byteStr_size (n : Int) : (byteStr n).size = 1 := rfl

set_option maxRecDepth 1000000 in
theorem four_any (n : Nat) (w : World) (hn : n < 4294967296) :
    Calls Tryd.prog 102 #[.int .i64 (n : Int)] w fun e w' => e = .returned (.string ⟨(BitMath.fourOf n).toArray⟩) ∧ Below w.heap.size w w' := by
  have h1 := fun w0 => byte_wide ((n / 16777216 : Nat) : Int) w0 (by omega) (by omega)
  have h2 := fun w0 => byte_wide ((n / 65536 : Nat) : Int) w0 (by omega) (by omega)
  have h3 := fun w0 => byte_wide ((n / 256 : Nat) : Int) w0 (by omega) (by omega)
  have h4 := fun w0 => byte_wide (n : Int) w0 (by omega) (by omega)
  have e1 : (n : Int) / 16777216 = ((n / 16777216 : Nat) : Int) := by omega
  have e2 : (n : Int) / 65536 = ((n / 65536 : Nat) : Int) := by omega
  have e3 : (n : Int) / 256 = ((n / 256 : Nat) : Int) := by omega
  rw [← e1] at h1
  rw [← e2] at h2
  rw [← e3] at h3
  have hfin : byteStr ((n : Int) / 16777216 % 256) ++ byteStr ((n : Int) / 65536 % 256) ++ byteStr ((n : Int) / 256 % 256) ++ byteStr ((n : Int) % 256) = ⟨(BitMath.fourOf n).toArray⟩ := by
    unfold byteStr BitMath.fourOf
    rw [show ((n : Int) / 16777216 % 256).toNat = n / 16777216 % 256 by omega, show ((n : Int) / 65536 % 256).toNat = n / 65536 % 256 by omega, show ((n : Int) / 256 % 256).toNat = n / 256 % 256 by omega, show ((n : Int) % 256).toNat = n % 256 by omega]
    rfl
  obtain ⟨b1, hb1⟩ : ∃ b, byteStr ((n : Int) / 16777216 % 256) = b := ⟨_, rfl⟩
  obtain ⟨b2, hb2⟩ : ∃ b, byteStr ((n : Int) / 65536 % 256) = b := ⟨_, rfl⟩
  obtain ⟨b3, hb3⟩ : ∃ b, byteStr ((n : Int) / 256 % 256) = b := ⟨_, rfl⟩
  obtain ⟨b4, hb4⟩ : ∃ b, byteStr ((n : Int) % 256) = b := ⟨_, rfl⟩
  have s1 : b1.size = 1 := by rw [← hb1]; rfl
  have s2 : b2.size = 1 := by rw [← hb2]; rfl
  have s3 : b3.size = 1 := by rw [← hb3]; rfl
  have s4 : b4.size = 1 := by rw [← hb4]; rfl
  rw [hb1, hb2, hb3, hb4] at hfin
  rw [hb1] at h1
  rw [hb2] at h2
  rw [hb3] at h3
  rw [hb4] at h4
  have a1 := add_str Tryd.prog b1 b2 (by omega)
  have a2 := add_str Tryd.prog (b1 ++ b2) b3 (by rw [ByteArray.size_append]; omega)
  have a3 := add_str Tryd.prog (b1 ++ b2 ++ b3) b4 (by rw [ByteArray.size_append, ByteArray.size_append]; omega)
  rw [hfin] at a3
  obtain ⟨c1, hc1⟩ : ∃ c, b1 ++ b2 = c := ⟨_, rfl⟩
  rw [hc1] at a1 a2 a3
  obtain ⟨c2, hc2⟩ : ∃ c, c1 ++ b3 = c := ⟨_, rfl⟩
  rw [hc2] at a2 a3
  have H1 := (show Hid _ from h1)
  have H2 := (show Hid _ from h2)
  have H3 := (show Hid _ from h3)
  have H4 := (show Hid _ from h4)
  clear h1 h2 h3 h4 hfin hb1 hb2 hb3 hb4 s1 s2 s3 s4 hc1 hc2 e1 e2 e3
  generalize (⟨(BitMath.fourOf n).toArray⟩ : ByteArray) = r at *
  go_enter Tryd.func102, Tryd.ntmps102
  go_wp2_with fail
  refine Calls.mono (H1.out _) ?_
  rintro e w1 ⟨rfl, hb1⟩
  go_wp2_with fail
  refine Calls.mono (H2.out _) ?_
  rintro e w2 ⟨rfl, hb2⟩
  replace hb2 := hb1.trans (hb2.mono hb1.size)
  go_wp2_with fail
  refine Calls.mono (H3.out _) ?_
  rintro e w3 ⟨rfl, hb3⟩
  replace hb3 := hb2.trans (hb3.mono hb2.size)
  go_wp2_with fail
  refine Calls.mono (H4.out _) ?_
  rintro e w4 ⟨rfl, hb4⟩
  replace hb4 := hb3.trans (hb4.mono hb3.size)
  clear hb1 hb2 hb3
  go_wp2
  go_ret
  exact ⟨rfl, hb4⟩

set_option maxRecDepth 1000000 in
theorem seal_any (s : ByteArray) (w : World) (hs : s.size ≤ 1000000) :
    Calls Tryd.prog 58 #[.string s] w fun e w' => e = .returned (.string ⟨(BitMath.sealOf s.data.toList).toArray⟩) ∧ Below w.heap.size w w' := by
  have HC := (show Hid _ from crc_any s w hs)
  have HF := (show Hid _ from fun w0 => four_any (BitMath.crcOf s.data.toList) w0 (BitMath.crcOf_lt _))
  have hz : (⟨(BitMath.fourOf (BitMath.crcOf s.data.toList)).toArray⟩ : ByteArray).size = 4 := rfl
  have hadd := add_str Tryd.prog s ⟨(BitMath.fourOf (BitMath.crcOf s.data.toList)).toArray⟩ (by rw [hz]; omega)
  have hfin : s ++ ⟨(BitMath.fourOf (BitMath.crcOf s.data.toList)).toArray⟩ = ⟨(BitMath.sealOf s.data.toList).toArray⟩ := by
    apply ByteArray.ext
    rw [ByteArray.data_append]
    apply Array.ext'
    simp [BitMath.sealOf]
  rw [hfin] at hadd
  clear hfin hz
  generalize (⟨(BitMath.sealOf s.data.toList).toArray⟩ : ByteArray) = r at *
  generalize (⟨(BitMath.fourOf (BitMath.crcOf s.data.toList)).toArray⟩ : ByteArray) = f at *
  generalize BitMath.crcOf s.data.toList = c at *
  go_enter Tryd.func58, Tryd.ntmps58
  go_wp2_with fail
  refine Calls.mono HC.out ?_
  rintro e w1 ⟨rfl, hw1⟩
  have hw1' := hw1.symm
  subst hw1'
  go_wp2_with fail
  refine Calls.mono (HF.out _) ?_
  rintro e w2 ⟨rfl, hb2⟩
  go_wp2
  go_ret
  exact ⟨rfl, hb2⟩
end Go.Proofs.YtnjmplmogibgfabDoor
