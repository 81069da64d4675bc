/- The document's answers on bits, by contracts: Byte, Bits, Pack, Unpack, ValueOf. -/
import Derived.Test.YtfanagohfimnkaaDoorProg
import Derived.Test.YtfanagohfimnkaaDoorBitMathGroup
import Derived.WalkKit
import Derived.WalkSpells
import Derived.WalkLawsBesides
import Derived.Laws.BitsAllLaws
import Derived.Laws.IdiomStrings
namespace Go.Proofs.YtfanagohfimnkaaDoor
open Go.RowKit

/-- One byte as a text. -/
def byteStr (n : Int) : ByteArray := ⟨#[UInt8.ofNat n.toNat]⟩
theorem byte_any (n : Int) (w : World) (h0 : 0 ≤ n) (h1 : n < 256) :
    Calls Tryd.prog 66 #[.int .i64 n] w fun e w' => e = .returned (.string (byteStr n)) ∧ Below w.heap.size w w' := by
  have hback := run_convert_bytes_back (P := Tryd.prog) (w.alloc (.cells #[.int .u8 n] 5)) 111 9 5 ⟨w.heap.size, 0, none⟩ 1 [UInt8.ofNat n.toNat] Tryd.underlying111 Tryd.underlying5 Tryd.underlying9 (fun j hj => by
    match j, hj with
    | 0, _ => simp [Addr.add]; omega)
  simp only [List.length_cons, List.length_nil, Nat.zero_add] at hback
  go_enter Tryd.func66, Tryd.ntmps66
  go_wp2
  go_ret
  exact ⟨rfl, (Below.refl _ _).alloc (Nat.le_refl _) _⟩

theorem add_bit (P : Program) (v k x : Nat) (hx : x = v / 2 ^ k) (hk : k < 64) (w : World) :
    (Op.stringOp .add (byteStr (48 + (x : Int) % 2)) (BitMath.txt (BitMath.bitsOf v k))).run P w = .ok (.string (BitMath.txt (BitMath.bitsOf v (k + 1)))) w := by
  rw [run_string_add_sum w _ _ (by rw [BitMath.txt_size, BitMath.length_bitsOf]; simp [byteStr, ByteArray.size]; omega)]
  have e : byteStr (48 + (x : Int) % 2) = BitMath.txt [v.testBit k] := by
    unfold byteStr
    have e1 : (48 + (x : Int) % 2).toNat = 48 + v / 2 ^ k % 2 := by rw [← hx]; omega
    rw [e1, BitMath.chr_ofNat]
    rfl
  rw [e, BitMath.txt_append]
  rfl

end Go.Proofs.YtfanagohfimnkaaDoor
/- ValueOf, Unpack and Pack of the document's answers, by contracts. -/
namespace Go.Proofs.YtfanagohfimnkaaDoor
open Go.RowKit

/-- One step of ValueOf, in the walk's spelling. -/
theorem txt_at (bs : List Bool) (k : Nat) (h : k < bs.length) : ∃ hp : k < (BitMath.txt bs).size, (BitMath.txt bs)[k] = BitMath.chr bs[k] := by
  have hp : k < (BitMath.txt bs).size := by rw [BitMath.txt_size]; exact h
  exact ⟨hp, BitMath.txt_get bs k hp⟩

theorem take_valB (bs : List Bool) (k : Nat) (h : k < bs.length) : BitMath.valB (bs.take (k + 1)) = 2 * BitMath.valB (bs.take k) + (bs[k]).toNat := by
  rw [List.take_succ_eq_append_getElem h, BitMath.valB_snoc]
theorem pow_le_64 (n : Nat) (h : n ≤ 64) : 2 ^ n ≤ 18446744073709551616 := by
  have : 2 ^ n ≤ 2 ^ 64 := Nat.pow_le_pow_right (by omega) h
  simpa using this
theorem valB_64 (bs : List Bool) (h : bs.length ≤ 64) : BitMath.valB bs < 18446744073709551616 := by
  have := BitMath.valB_lt bs
  have := pow_le_64 _ h
  omega
theorem value_step (bs : List Bool) (k x : Nat) (s : ByteArray) (hs : s = BitMath.txt bs) (hl : bs.length ≤ 64) (hk : k < s.size) (hx : x = BitMath.valB (bs.take k)) :
    IntKind.u64.wrap (IntKind.u64.wrap (2 * (x : Int)) + ((s[k].toNat : Int) - 48) % 256) = ((BitMath.valB (bs.take (k + 1)) : Nat) : Int) := by
  subst hs
  have hk' : k < bs.length := by rw [BitMath.txt_size] at hk; exact hk
  rw [BitMath.txt_get bs k hk, BitMath.chr_toNat, take_valB bs k hk', ← hx]
  have h1 := valB_64 (bs.take (k + 1)) (by simp; omega)
  rw [take_valB bs k hk', ← hx] at h1
  rw [IntKind.wrap_u64, IntKind.wrap_u64]
  cases bs[k] <;> simp at h1 ⊢ <;> omega

theorem add_txt (P : Program) (a b : List Bool) (h : a.length + b.length ≤ 9223372036854775807) (w : World) :
    (Op.stringOp .add (BitMath.txt a) (BitMath.txt b)).run P w = .ok (.string (BitMath.txt (a ++ b))) w := by
  rw [run_string_add_sum w _ _ (by rw [BitMath.txt_size, BitMath.txt_size]; exact h), BitMath.txt_append]

theorem data_at (s : ByteArray) (k : Nat) (h : k < s.size) : s.data.toList.take (k + 1) = s.data.toList.take k ++ [s[k]] := by
  rw [List.take_succ_eq_append_getElem (by simpa using h)]; rfl

theorem byte_step (bs : List Bool) (j t : Nat) : BitMath.valB (BitMath.byteBits bs j (t + 1)) = 2 * BitMath.valB (BitMath.byteBits bs j t) + (bs.getD (8 * j + t) false).toNat := by
  rw [BitMath.byteBits, BitMath.valB_snoc]
theorem byte_lt (bs : List Bool) (j t : Nat) (ht : t ≤ 8) : BitMath.valB (BitMath.byteBits bs j t) < 256 := by
  have h := BitMath.valB_lt (BitMath.byteBits bs j t)
  rw [BitMath.length_byteBits] at h
  have : 2 ^ t ≤ 2 ^ 8 := Nat.pow_le_pow_right (by omega) ht
  have h8 : (2 : Nat) ^ 8 = 256 := rfl
  omega
theorem bit_at (s : ByteArray) (bs : List Bool) (hs : s = BitMath.txt bs) (i : Nat) (h : i < s.size) (b : Bool) (hb : bs.getD i false = b) : (((s[i]).toNat : Int) == 49) = b := by
  subst hs
  rw [BitMath.txt_get bs i h]
  have h' : i < bs.length := by rw [BitMath.txt_size] at h; exact h
  rw [List.getD_eq_getElem?_getD, List.getElem?_eq_getElem h', Option.getD_some] at hb
  rw [hb]
  cases b <;> rfl
theorem add_byte (P : Program) (bs : List Bool) (j : Nat) (h : j ≤ 1048576) (w : World) :
    (Op.stringOp .add ⟨(BitMath.packTo bs j).toArray⟩ (byteStr (BitMath.valB (BitMath.byteBits bs j 8)))).run P w = .ok (.string ⟨(BitMath.packTo bs (j + 1)).toArray⟩) w := by
  rw [run_string_add_sum w _ _ (by simp [ByteArray.size, byteStr, BitMath.length_packTo]; omega)]
  unfold byteStr
  rw [show (#[UInt8.ofNat ((BitMath.valB (BitMath.byteBits bs j 8) : Nat) : Int).toNat] : Array UInt8) = [UInt8.ofNat (BitMath.byteAt bs j)].toArray from by rw [Int.toNat_natCast]; rfl, ByteArray.mk_append_mk]
  rfl

end Go.Proofs.YtfanagohfimnkaaDoor
/- The document's answer on waves, by contracts: Wave, Unwave. -/
namespace Go.Proofs.YtfanagohfimnkaaDoor
open Go.RowKit

/-- A head and bits, joined. -/
theorem add_head (P : Program) (h : ByteArray) (hd b : List Bool) (hh : h = BitMath.txt hd) (hl : hd.length + b.length ≤ 1000) (w : World) :
    (Op.stringOp .add h (BitMath.txt b)).run P w = .ok (.string (BitMath.txt (hd ++ b))) w := by
  subst hh
  exact add_txt P hd b (by omega) w
theorem wave_zero : (⟨#[48]⟩ : ByteArray) = BitMath.txt (BitMath.waveOf 0) := rfl

theorem wave_form (n : Int) (k : Nat) (hk : BitMath.formOf n = k) : BitMath.waveOf n = BitMath.headOf k ++ BitMath.bitsOf (BitMath.u64 (n + BitMath.biasOf k)) (BitMath.wideOf k) := by
  unfold BitMath.waveOf
  rw [hk]
theorem u64_cast (n : Int) : IntKind.u64.wrap n = (BitMath.u64 n : Int) := by
  rw [IntKind.wrap_u64]
  unfold BitMath.u64
  omega

end Go.Proofs.YtfanagohfimnkaaDoor
/- The document's isWord and IsName by contracts. -/
namespace Go.Proofs.YtfanagohfimnkaaDoor
open Go.RowKit LabMath

set_option maxRecDepth 1000000 in
set_option maxHeartbeats 1000000 in
theorem isWord_any (s : ByteArray) (w : World) (hs : s.size ≤ 1000000) :
    Calls Tryd.prog 41 #[.string s] w fun e w' => e = .returned (.bool (isWord s)) ∧ w' = w := by
  go_enter Tryd.func41, Tryd.ntmps41
  go_wp2_with fail
  go_loop [3, 4, 5] (fun i _ _ => ∃ k : Nat, k ≤ s.size ∧ i = .int .i64 k ∧ ∀ j (hj : j < s.size), j < k → wordB s[j] = true) (fun i _ _ => s.size - (intOf i).toNat)
  case atStart => exact ⟨0, Nat.zero_le _, rfl, fun j _ h => absurd h (by omega)⟩
  case round =>
    obtain ⟨k, hk, rfl, hall⟩ := hrel
    by_cases hlt : k < s.size
    · have hk0 : (0 : Int) ≤ (k : Int) := by omega
      have hk1 : (k : Int) < (s.size : Int) := by omega
      have HALL := (show Hid _ from hall)
      have hno := isWord_no s k hlt
      have HNX : Hid (wordB s[k] = true → ∀ j (hj : j < s.size), j < k + 1 → wordB s[j] = true) := fun h j hj hjk => by
        rcases Nat.lt_or_ge j k with h1 | h1
        · exact HALL.out j hj h1
        · have : j = k := by omega
          subst this
          exact h
      have HNO := (show Hid _ from hno)
      have hb := (s[k]).toNat_lt
      obtain ⟨b, hb0⟩ : ∃ b, (s[k]).toNat = b := ⟨_, rfl⟩
      have HB0 := (show Hid _ from hb0)
      have HW : Hid (wordB s[k] = decide ((97 ≤ b ∧ b ≤ 122) ∨ (48 ≤ b ∧ b ≤ 57) ∨ b = 45)) := by
        show wordB s[k] = _
        unfold wordB
        rw [hb0]
      clear hall hno
      by_cases h1 : 97 ≤ b
      · have d1 : decide ((97 : Int) ≤ (b : Int)) = true := by simp; omega
        by_cases h2 : b ≤ 122
        · have d2 : decide ((b : Int) ≤ 122) = true := by simp; omega
          have HOK : Hid (wordB s[k] = true) := by show _ = _; rw [HW.out]; simp; omega
          go_wp2
          go_round
          case rel => exact ⟨k + 1, by omega, by go_num, HNX.out HOK.out⟩
          case measure => simp [intOf]; omega
        · have d2 : decide ((b : Int) ≤ 122) = false := by simp; omega
          have d3 : decide ((48 : Int) ≤ (b : Int)) = true := by simp; omega
          have d4 : decide ((b : Int) ≤ 57) = false := by simp; omega
          have d5 : ((b : Int) == 45) = false := by rw [beq_eq_false_iff_ne]; omega
          have HOK : Hid (wordB s[k] = false) := by show _ = _; rw [HW.out]; simp; omega
          go_wp2
          go_ret
          exact ⟨by rw [HNO.out HOK.out]; rfl, rfl⟩
      · have d1 : decide ((97 : Int) ≤ (b : Int)) = false := by simp; omega
        by_cases h3 : 48 ≤ b
        · have d3 : decide ((48 : Int) ≤ (b : Int)) = true := by simp; omega
          by_cases h4 : b ≤ 57
          · have d4 : decide ((b : Int) ≤ 57) = true := by simp; omega
            have HOK : Hid (wordB s[k] = true) := by show _ = _; rw [HW.out]; simp; omega
            go_wp2
            go_round
            case rel => exact ⟨k + 1, by omega, by go_num, HNX.out HOK.out⟩
            case measure => simp [intOf]; omega
          · have d4 : decide ((b : Int) ≤ 57) = false := by simp; omega
            have d5 : ((b : Int) == 45) = false := by rw [beq_eq_false_iff_ne]; omega
            have HOK : Hid (wordB s[k] = false) := by show _ = _; rw [HW.out]; simp; omega
            go_wp2
            go_ret
            exact ⟨by rw [HNO.out HOK.out]; rfl, rfl⟩
        · have d3 : decide ((48 : Int) ≤ (b : Int)) = false := by simp; omega
          by_cases h5 : b = 45
          · have d5 : ((b : Int) == 45) = true := by rw [beq_iff_eq]; omega
            have HOK : Hid (wordB s[k] = true) := by show _ = _; rw [HW.out]; simp; omega
            go_wp2
            go_round
            case rel => exact ⟨k + 1, by omega, by go_num, HNX.out HOK.out⟩
            case measure => simp [intOf]; omega
          · have d5 : ((b : Int) == 45) = false := by rw [beq_eq_false_iff_ne]; omega
            have HOK : Hid (wordB s[k] = false) := by show _ = _; rw [HW.out]; simp; omega
            go_wp2
            go_ret
            exact ⟨by rw [HNO.out HOK.out]; rfl, rfl⟩
    · have hend := isWord_end s (fun j hj => hall j hj (by omega))
      have HEND := (show Hid _ from hend)
      have hge : (s.size : Int) ≤ (k : Int) := by omega
      clear hend hall
      by_cases h1 : 1 ≤ s.size
      · have d1 : decide ((1 : Int) ≤ (s.size : Int)) = true := by simp; omega
        cases h2 : decide ((s.size : Int) ≤ 12) with
        | true =>
          have h3 : (s.size : Int) ≤ 12 := of_decide_eq_true h2
          go_wp2
          go_ret
          exact ⟨by rw [HEND.out, decide_eq_true (by omega)]; rfl, rfl⟩
        | false =>
          have h3 : ¬ (s.size : Int) ≤ 12 := of_decide_eq_false h2
          go_wp2
          go_ret
          exact ⟨by rw [HEND.out, decide_eq_false (by omega)]; rfl, rfl⟩
      · have d1 : decide ((1 : Int) ≤ (s.size : Int)) = false := by simp; omega
        go_wp2
        go_ret
        exact ⟨by rw [HEND.out, decide_eq_false (by omega)]; rfl, rfl⟩

theorem word_size (s : ByteArray) (h : isWord s = true) : 1 ≤ s.size ∧ s.size ≤ 12 := by
  unfold isWord at h
  rw [Bool.and_eq_true] at h
  exact of_decide_eq_true h.2

set_option maxRecDepth 1000000 in
theorem isName_any (s : ByteArray) (w : World) (hs : s.size ≤ 1000000) :
    Calls Tryd.prog 40 #[.string s] w fun e w' => e = .returned (.bool (isName s)) ∧ w' = w := by
  have hw := isWord_any s w hs
  cases hi : isWord s with
  | false =>
    rw [hi] at hw
    have HW := (show Hid _ from hw)
    have HN : Hid (isName s = false) := by show _ = _; unfold isName; rw [hi]; rfl
    clear hw
    go_enter Tryd.func40, Tryd.ntmps40
    go_wp2_with fail
    refine Calls.mono HW.out ?_
    rintro e w1 ⟨rfl, hw1⟩
    have hw1' := hw1.symm
    subst hw1'
    go_wp2
    go_ret
    exact ⟨by rw [HN.out]; rfl, rfl⟩
  | true =>
    rw [hi] at hw
    have hz := word_size s hi
    have HW := (show Hid _ from hw)
    have h0 : (0 : Int) < (s.size : Int) := by omega
    have hg : s.data.toList.getD 0 0 = s[0]'(by omega) := by
      rw [List.getD_eq_getElem?_getD, Array.getElem?_toList]
      have : s.data[0]? = some (s[0]'(by omega)) := Array.getElem?_eq_getElem (by show 0 < s.size; omega)
      rw [this]
      rfl
    have HN : Hid (isName s = decide ((97 : Int) ≤ ((s[0]'(by omega)).toNat : Int))) := by
      show _ = _
      unfold isName
      rw [hi, hg, Bool.true_and]
      rw [decide_eq_decide]
      omega
    clear hw hg
    go_enter Tryd.func40, Tryd.ntmps40
    go_wp2_with fail
    refine Calls.mono HW.out ?_
    rintro e w1 ⟨rfl, hw1⟩
    have hw1' := hw1.symm
    subst hw1'
    go_wp2
    go_ret
    exact ⟨by rw [HN.out]; rfl, rfl⟩
end Go.Proofs.YtfanagohfimnkaaDoor
/- label's isLetter, isValue and isName by contracts. -/
namespace Go.Proofs.YtfanagohfimnkaaDoor
open Go.RowKit LabMath

/-- A letter a to z. -/
def letB (b : Nat) : Bool := decide (97 ≤ b ∧ b ≤ 122)

set_option maxRecDepth 1000000 in
theorem lisLetter_any (b : Nat) (w : World) :
    Calls Tryd.prog 72 #[.int .u8 (b : Int)] w fun e w' => e = .returned (.bool (letB b)) ∧ w' = w := by
  by_cases h1 : 97 ≤ b
  · have d1 : decide ((97 : Int) ≤ (b : Int)) = true := by simp; omega
    have HB : Hid (letB b = decide ((b : Int) ≤ 122)) := by
      show _ = _
      unfold letB
      rw [decide_eq_decide]
      omega
    go_enter Tryd.func72, Tryd.ntmps72
    go_wp2
    go_ret
    exact ⟨by rw [HB.out]; rfl, rfl⟩
  · have d1 : decide ((97 : Int) ≤ (b : Int)) = false := by simp; omega
    have HB : Hid (letB b = false) := by
      show _ = _
      unfold letB
      rw [decide_eq_false]
      omega
    go_enter Tryd.func72, Tryd.ntmps72
    go_wp2
    go_ret
    exact ⟨by rw [HB.out]; rfl, rfl⟩

theorem isWord_size_no (s : ByteArray) (h : ¬ (1 ≤ s.size ∧ s.size ≤ 12)) : isWord s = false := by
  unfold isWord
  rw [decide_eq_false h, Bool.and_false]

set_option maxRecDepth 1000000 in
set_option maxHeartbeats 1000000 in
theorem lisValue_any (s : ByteArray) (w : World) (hs : s.size ≤ 1000000) :
    Calls Tryd.prog 58 #[.string s] w fun e w' => e = .returned (.bool (isWord s)) ∧ w' = w := by
  by_cases hz : 1 ≤ s.size ∧ s.size ≤ 12
  · have d1 : decide ((s.size : Int) < 1) = false := by simp; omega
    have d2 : decide ((12 : Int) < (s.size : Int)) = false := by simp; omega
    go_enter Tryd.func58, Tryd.ntmps58
    go_wp2_with fail
    go_loop [3, 4, 15] (fun _ _ i => ∃ k : Nat, k ≤ s.size ∧ i = .int .i64 k ∧ ∀ j (hj : j < s.size), j < k → wordB s[j] = true) (fun _ _ i => s.size - (intOf i).toNat)
    case atStart => exact ⟨0, Nat.zero_le _, rfl, fun j _ h => absurd h (by omega)⟩
    case round =>
      obtain ⟨k, hk, rfl, hall⟩ := hrel
      by_cases hlt : k < s.size
      · have hk0 : (0 : Int) ≤ (k : Int) := by omega
        have hk1 : (k : Int) < (s.size : Int) := by omega
        have HALL := (show Hid _ from hall)
        have hno := isWord_no s k hlt
        have HNX : Hid (wordB s[k] = true → ∀ j (hj : j < s.size), j < k + 1 → wordB s[j] = true) := fun h j hj hjk => by
          rcases Nat.lt_or_ge j k with h1 | h1
          · exact HALL.out j hj h1
          · have : j = k := by omega
            subst this
            exact h
        have HNO := (show Hid _ from hno)
        have hb := (s[k]).toNat_lt
        have hlet := lisLetter_any (s[k]).toNat w
        obtain ⟨b, hb0⟩ : ∃ b, (s[k]).toNat = b := ⟨_, rfl⟩
        rw [hb0] at hlet
        have HLET := (show Hid _ from hlet)
        have HB0 := (show Hid _ from hb0)
        have HW : Hid (wordB s[k] = decide ((97 ≤ b ∧ b ≤ 122) ∨ (48 ≤ b ∧ b ≤ 57) ∨ b = 45)) := by
          show wordB s[k] = _
          unfold wordB
          rw [hb0]
        clear hall hno hlet
        cases hl : letB b with
        | true =>
          have HOK : Hid (wordB s[k] = true) := by
            show _ = _
            rw [HW.out, decide_eq_true]
            exact .inl (of_decide_eq_true hl)
          have HLB := (show Hid _ from hl)
          clear hl
          go_wp2_with fail
          refine Calls.mono HLET.out ?_
          rintro e w1 ⟨rfl, hw1⟩
          have hw1' := hw1.symm
          subst hw1'
          rw [HLB.out]
          go_wp2
          go_round
          case rel => exact ⟨k + 1, by omega, by go_num, HNX.out HOK.out⟩
          case measure => simp [intOf]; omega
        | false =>
          have hnl : ¬ (97 ≤ b ∧ b ≤ 122) := of_decide_eq_false hl
          have HLB := (show Hid _ from hl)
          clear hl
          by_cases h3 : 48 ≤ b ∧ b ≤ 57
          · have d3 : decide ((b : Int) < 48) = false := by simp; omega
            have d4 : decide ((57 : Int) < (b : Int)) = false := by simp; omega
            have HOK : Hid (wordB s[k] = true) := by show _ = _; rw [HW.out, decide_eq_true]; exact .inr (.inl h3)
            go_wp2_with fail
            refine Calls.mono HLET.out ?_
            rintro e w1 ⟨rfl, hw1⟩
            have hw1' := hw1.symm
            subst hw1'
            rw [HLB.out]
            go_wp2
            go_round
            case rel => exact ⟨k + 1, by omega, by go_num, HNX.out HOK.out⟩
            case measure => simp [intOf]; omega
          · by_cases h5 : b = 45
            · have HOK : Hid (wordB s[k] = true) := by show _ = _; rw [HW.out, decide_eq_true]; exact .inr (.inr h5)
              subst h5
              have HLET : Hid (Calls Tryd.prog 72 #[.int .u8 45] w fun e w' => e = .returned (.bool (letB 45)) ∧ w' = w) := HLET.out
              go_wp2_with fail
              refine Calls.mono HLET.out ?_
              rintro e w1 ⟨rfl, hw1⟩
              have hw1' := hw1.symm
              subst hw1'
              rw [HLB.out]
              go_wp2
              go_round
              case rel => exact ⟨k + 1, by omega, by go_num, HNX.out HOK.out⟩
              case measure => simp [intOf]; omega
            · have d5 : ((b : Int) != 45) = true := by rw [bne_iff_ne]; omega
              have HOK : Hid (wordB s[k] = false) := by show _ = _; rw [HW.out, decide_eq_false]; omega
              by_cases h6 : b < 48
              · have d3 : decide ((b : Int) < 48) = true := by simp; omega
                go_wp2_with fail
                refine Calls.mono HLET.out ?_
                rintro e w1 ⟨rfl, hw1⟩
                have hw1' := hw1.symm
                subst hw1'
                rw [HLB.out]
                go_wp2
                go_ret
                exact ⟨by rw [HNO.out HOK.out]; rfl, rfl⟩
              · have d3 : decide ((b : Int) < 48) = false := by simp; omega
                have d4 : decide ((57 : Int) < (b : Int)) = true := by simp; omega
                go_wp2_with fail
                refine Calls.mono HLET.out ?_
                rintro e w1 ⟨rfl, hw1⟩
                have hw1' := hw1.symm
                subst hw1'
                rw [HLB.out]
                go_wp2
                go_ret
                exact ⟨by rw [HNO.out HOK.out]; rfl, rfl⟩
      · have hend := isWord_end s (fun j hj => hall j hj (by omega))
        have HEND : Hid (isWord s = true) := by show _ = _; rw [hend, decide_eq_true hz]
        have hge : (s.size : Int) ≤ (k : Int) := by omega
        clear hend hall
        go_wp2
        go_ret
        exact ⟨by rw [HEND.out]; rfl, rfl⟩
  · have HNO : Hid (isWord s = false) := isWord_size_no s hz
    by_cases h1 : 1 ≤ s.size
    · have d1 : decide ((s.size : Int) < 1) = false := by simp; omega
      have d2 : decide ((12 : Int) < (s.size : Int)) = true := by simp; omega
      go_enter Tryd.func58, Tryd.ntmps58
      go_wp2
      go_ret
      exact ⟨by rw [HNO.out]; rfl, rfl⟩
    · have d1 : decide ((s.size : Int) < 1) = true := by simp; omega
      go_enter Tryd.func58, Tryd.ntmps58
      go_wp2
      go_ret
      exact ⟨by rw [HNO.out]; rfl, rfl⟩

theorem word_first (s : ByteArray) (h : isWord s = true) (h0 : 0 < s.size) : wordB s[0] = true := by
  unfold isWord at h
  rw [Bool.and_eq_true, List.all_eq_true] at h
  refine h.1 _ ?_
  show s.data[0] ∈ s.data.toList
  rw [Array.mem_toList_iff]
  exact Array.getElem_mem _

set_option maxRecDepth 1000000 in
theorem lisName_any (s : ByteArray) (w : World) (hs : s.size ≤ 1000000) :
    Calls Tryd.prog 57 #[.string s] w fun e w' => e = .returned (.bool (isName s)) ∧ w' = w := by
  have hw := lisValue_any s w hs
  cases hi : isWord s with
  | false =>
    rw [hi] at hw
    have HW := (show Hid _ from hw)
    have HN : Hid (isName s = false) := by show _ = _; unfold isName; rw [hi]; rfl
    clear hw
    go_enter Tryd.func57, Tryd.ntmps57
    go_wp2_with fail
    refine Calls.mono HW.out ?_
    rintro e w1 ⟨rfl, hw1⟩
    have hw1' := hw1.symm
    subst hw1'
    go_wp2
    go_ret
    exact ⟨by rw [HN.out]; rfl, rfl⟩
  | true =>
    rw [hi] at hw
    have hz := word_size s hi
    have hwf := word_first s hi (by omega)
    have HW := (show Hid _ from hw)
    have h0 : (0 : Int) < (s.size : Int) := by omega
    have hg : s.data.toList.getD 0 0 = s[0]'(by omega) := by
      rw [List.getD_eq_getElem?_getD, Array.getElem?_toList]
      have : s.data[0]? = some (s[0]'(by omega)) := Array.getElem?_eq_getElem (by show 0 < s.size; omega)
      rw [this]
      rfl
    have HN : Hid (isName s = letB (s[0]'(by omega)).toNat) := by
      show _ = _
      unfold isName letB
      rw [hi, hg, Bool.true_and, decide_eq_decide]
      have := of_decide_eq_true hwf
      omega
    have HLET : Hid _ := lisLetter_any (s[0]'(by omega)).toNat w
    clear hw hg hwf
    go_enter Tryd.func57, Tryd.ntmps57
    go_wp2_with fail
    refine Calls.mono HW.out ?_
    rintro e w1 ⟨rfl, hw1⟩
    have hw1' := hw1.symm
    subst hw1'
    go_wp2_with fail
    refine Calls.mono HLET.out ?_
    rintro e w1 ⟨rfl, hw1⟩
    have hw1' := hw1.symm
    subst hw1'
    go_wp2
    go_ret
    exact ⟨by rw [HN.out]; rfl, rfl⟩
end Go.Proofs.YtfanagohfimnkaaDoor
/- The document's sum of a chunk, by contracts: CRC, four, Seal. -/
namespace Go.Proofs.YtfanagohfimnkaaDoor
open Go.RowKit

theorem i64_xor_nat (a b : Nat) (ha : a < 4294967296) (hb : b < 4294967296) : bits .xor .i64 (a : Int) (b : Int) = ((a ^^^ b : Nat) : Int) := by
  have hx : a ^^^ b < 2 ^ 32 := Nat.xor_lt_two_pow (by omega) (by omega)
  show IntKind.i64.wrap ((BitVec.ofInt 64 (a : Int) ^^^ BitVec.ofInt 64 (b : Int)).toNat : Int) = _
  rw [BitVec.toNat_xor, ofInt_u64 a (by omega), ofInt_u64 b (by omega), IntWalk.i64_in _ (by omega)]

theorem byte_wide (n : Int) (w : World) (_h0 : 0 ≤ n) (_h1 : n < 4294967296) :
    Calls Tryd.prog 66 #[.int .i64 n] w fun e w' => e = .returned (.string (byteStr (n % 256))) ∧ Below w.heap.size w w' := by
  have hw : IntKind.u8.wrap n = n % 256 := by rw [IntKind.wrap_u8]
  have hback := run_convert_bytes_back (P := Tryd.prog) (w.alloc (.cells #[.int .u8 (n % 256)] 5)) 111 9 5 ⟨w.heap.size, 0, none⟩ 1 [UInt8.ofNat (n % 256).toNat] Tryd.underlying111 Tryd.underlying5 Tryd.underlying9 (fun j hj => by
    match j, hj with
    | 0, _ => simp [Addr.add]; omega)
  simp only [List.length_cons, List.length_nil, Nat.zero_add] at hback
  go_enter Tryd.func66, Tryd.ntmps66
  go_wp2
  go_ret
  exact ⟨rfl, (Below.refl _ _).alloc (Nat.le_refl _) _⟩

/-- One step of the division, as the walk has it. -/
theorem bit_eq (c b k : Nat) (hc : c < 4294967296) (hb : b < 256) : bits .xor .i64 (c : Int) ((b : Int) / 2 ^ k) = ((c ^^^ (b / 2 ^ k) : Nat) : Int) := by
  have hle : b / 2 ^ k ≤ b := Nat.div_le_self _ _
  have e : (b : Int) / 2 ^ k = ((b / 2 ^ k : Nat) : Int) := by simp
  rw [e, i64_xor_nat c (b / 2 ^ k) hc (by omega)]
theorem tmod2 (q r : Nat) (h : q % 2 = r) : ((q : Int)).tmod 2 = (r : Int) := by
  rw [Int.tmod_eq_emod_of_nonneg (by omega)]
  omega
theorem tdiv2 (c : Nat) : ((c : Int)).tdiv 2 = ((c / 2 : Nat) : Int) := by
  rw [Int.tdiv_eq_ediv_of_nonneg (by omega)]
  omega

theorem add_str (P : Program) (a b : ByteArray) (h : a.size + b.size ≤ 9223372036854775807) (w : World) : (Op.stringOp .add a b).run P w = .ok (.string (a ++ b)) w := run_string_add_sum w _ _ h
theorem byteStr_size (n : Int) : (byteStr n).size = 1 := rfl

end Go.Proofs.YtfanagohfimnkaaDoor
