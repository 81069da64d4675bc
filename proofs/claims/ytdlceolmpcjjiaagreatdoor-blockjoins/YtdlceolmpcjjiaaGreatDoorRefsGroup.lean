/- The document's answers on bits, by contracts: Byte, Bits, Pack, Unpack, ValueOf. -/
import Derived.Test.YtdlceolmpcjjiaaGreatDoorProg
import Derived.Test.YtdlceolmpcjjiaaGreatDoorBitMathGroup
import Derived.WalkKit
import Derived.WalkSpells
import Derived.WalkLawsBesides
import Derived.Laws.BitsAllLaws
import Derived.Laws.IdiomStrings
namespace Go.Proofs.YtdlceolmpcjjiaaGreatDoor
open Go.RowKit
end Go.Proofs.YtdlceolmpcjjiaaGreatDoor
/- ValueOf, Unpack and Pack of the document's answers, by contracts. -/
namespace Go.Proofs.YtdlceolmpcjjiaaGreatDoor
open Go.RowKit
theorem pow_le_64 (n : Nat) (h : n ≤ 64) : 2 ^ n ≤ 18446744073709551616 := by
  have : 2 ^ n ≤ 2 ^ 64 := Nat.pow_le_pow_right (by omega) h
  simpa using this
theorem valB_64 (bs : List Bool) (h : bs.length ≤ 64) : BitMath.valB bs < 18446744073709551616 := by
  have := BitMath.valB_lt bs
  have := pow_le_64 _ h
  omega
end Go.Proofs.YtdlceolmpcjjiaaGreatDoor
/- The document's answer on waves, by contracts: Wave, Unwave. -/
namespace Go.Proofs.YtdlceolmpcjjiaaGreatDoor
open Go.RowKit
theorem wave_form (n : Int) (k : Nat) (hk : BitMath.formOf n = k) : BitMath.waveOf n = BitMath.headOf k ++ BitMath.bitsOf (BitMath.u64 (n + BitMath.biasOf k)) (BitMath.wideOf k) := by
  unfold BitMath.waveOf
  rw [hk]
end Go.Proofs.YtdlceolmpcjjiaaGreatDoor
/- The document's isWord and IsName by contracts. -/
namespace Go.Proofs.YtdlceolmpcjjiaaGreatDoor
open Go.RowKit LabMath
theorem word_size (s : ByteArray) (h : isWord s = true) : 1 ≤ s.size ∧ s.size ≤ 12 := by
  unfold isWord at h
  rw [Bool.and_eq_true] at h
  exact of_decide_eq_true h.2

end Go.Proofs.YtdlceolmpcjjiaaGreatDoor
/- label's isLetter, isValue and isName by contracts. -/
namespace Go.Proofs.YtdlceolmpcjjiaaGreatDoor
open Go.RowKit LabMath

/-- A letter a to z. -/
def letB (b : Nat) : Bool := decide (97 ≤ b ∧ b ≤ 122)

set_option maxRecDepth 1000000 in
theorem lisLetter_any (b : Nat) (w : World) :
    Calls Tryz.prog 195 #[.int .u8 (b : Int)] w fun e w' => e = .returned (.bool (letB b)) ∧ w' = w := by
  by_cases h1 : 97 ≤ b
  · have d1 : decide ((97 : Int) ≤ (b : Int)) = true := by simp; omega
    have HB : Hid (letB b = decide ((b : Int) ≤ 122)) := by
      show _ = _
      unfold letB
      rw [decide_eq_decide]
      omega
    go_enter Tryz.func195, Tryz.ntmps195
    go_wp2
    go_ret
    exact ⟨by rw [HB.out]; rfl, rfl⟩
  · have d1 : decide ((97 : Int) ≤ (b : Int)) = false := by simp; omega
    have HB : Hid (letB b = false) := by
      show _ = _
      unfold letB
      rw [decide_eq_false]
      omega
    go_enter Tryz.func195, Tryz.ntmps195
    go_wp2
    go_ret
    exact ⟨by rw [HB.out]; rfl, rfl⟩

theorem isWord_size_no (s : ByteArray) (h : ¬ (1 ≤ s.size ∧ s.size ≤ 12)) : isWord s = false := by
  unfold isWord
  rw [decide_eq_false h, Bool.and_false]

set_option maxRecDepth 1000000 in
set_option maxHeartbeats 1000000 in
theorem lisValue_any (s : ByteArray) (w : World) (hs : s.size ≤ 1000000) :
    Calls Tryz.prog 157 #[.string s] w fun e w' => e = .returned (.bool (isWord s)) ∧ w' = w := by
  by_cases hz : 1 ≤ s.size ∧ s.size ≤ 12
  · have d1 : decide ((s.size : Int) < 1) = false := by simp; omega
    have d2 : decide ((12 : Int) < (s.size : Int)) = false := by simp; omega
    go_enter Tryz.func157, Tryz.ntmps157
    go_wp2_with fail
    go_loop [3, 4, 15] (fun _ _ i => ∃ k : Nat, k ≤ s.size ∧ i = .int .i64 k ∧ ∀ j (hj : j < s.size), j < k → wordB s[j] = true) (fun _ _ i => s.size - (intOf i).toNat)
    case atStart => exact ⟨0, Nat.zero_le _, rfl, fun j _ h => absurd h (by omega)⟩
    case round =>
      obtain ⟨k, hk, rfl, hall⟩ := hrel
      by_cases hlt : k < s.size
      · have hk0 : (0 : Int) ≤ (k : Int) := by omega
        have hk1 : (k : Int) < (s.size : Int) := by omega
        have HALL := (show Hid _ from hall)
        have hno := isWord_no s k hlt
        have HNX : Hid (wordB s[k] = true → ∀ j (hj : j < s.size), j < k + 1 → wordB s[j] = true) := fun h j hj hjk => by
          rcases Nat.lt_or_ge j k with h1 | h1
          · exact HALL.out j hj h1
          · have : j = k := by omega
            subst this
            exact h
        have HNO := (show Hid _ from hno)
        have hb := (s[k]).toNat_lt
        have hlet := lisLetter_any (s[k]).toNat w
        obtain ⟨b, hb0⟩ : ∃ b, (s[k]).toNat = b := ⟨_, rfl⟩
        rw [hb0] at hlet
        have HLET := (show Hid _ from hlet)
        have HB0 := (show Hid _ from hb0)
        have HW : Hid (wordB s[k] = decide ((97 ≤ b ∧ b ≤ 122) ∨ (48 ≤ b ∧ b ≤ 57) ∨ b = 45)) := by
          show wordB s[k] = _
          unfold wordB
          rw [hb0]
        clear hall hno hlet
        cases hl : letB b with
        | true =>
          have HOK : Hid (wordB s[k] = true) := by
            show _ = _
            rw [HW.out, decide_eq_true]
            exact .inl (of_decide_eq_true hl)
          have HLB := (show Hid _ from hl)
          clear hl
          go_wp2_with fail
          refine Calls.mono HLET.out ?_
          rintro e w1 ⟨rfl, hw1⟩
          have hw1' := hw1.symm
          subst hw1'
          rw [HLB.out]
          go_wp2
          go_round
          case rel => exact ⟨k + 1, by omega, by go_num, HNX.out HOK.out⟩
          case measure => simp [intOf]; omega
        | false =>
          have hnl : ¬ (97 ≤ b ∧ b ≤ 122) := of_decide_eq_false hl
          have HLB := (show Hid _ from hl)
          clear hl
          by_cases h3 : 48 ≤ b ∧ b ≤ 57
          · have d3 : decide ((b : Int) < 48) = false := by simp; omega
            have d4 : decide ((57 : Int) < (b : Int)) = false := by simp; omega
            have HOK : Hid (wordB s[k] = true) := by show _ = _; rw [HW.out, decide_eq_true]; exact .inr (.inl h3)
            go_wp2_with fail
            refine Calls.mono HLET.out ?_
            rintro e w1 ⟨rfl, hw1⟩
            have hw1' := hw1.symm
            subst hw1'
            rw [HLB.out]
            go_wp2
            go_round
            case rel => exact ⟨k + 1, by omega, by go_num, HNX.out HOK.out⟩
            case measure => simp [intOf]; omega
          · by_cases h5 : b = 45
            · have HOK : Hid (wordB s[k] = true) := by show _ = _; rw [HW.out, decide_eq_true]; exact .inr (.inr h5)
              subst h5
              have HLET : Hid (Calls Tryz.prog 195 #[.int .u8 45] w fun e w' => e = .returned (.bool (letB 45)) ∧ w' = w) := HLET.out
              go_wp2_with fail
              refine Calls.mono HLET.out ?_
              rintro e w1 ⟨rfl, hw1⟩
              have hw1' := hw1.symm
              subst hw1'
              rw [HLB.out]
              go_wp2
              go_round
              case rel => exact ⟨k + 1, by omega, by go_num, HNX.out HOK.out⟩
              case measure => simp [intOf]; omega
            · have d5 : ((b : Int) != 45) = true := by rw [bne_iff_ne]; omega
              have HOK : Hid (wordB s[k] = false) := by show _ = _; rw [HW.out, decide_eq_false]; omega
              by_cases h6 : b < 48
              · have d3 : decide ((b : Int) < 48) = true := by simp; omega
                go_wp2_with fail
                refine Calls.mono HLET.out ?_
                rintro e w1 ⟨rfl, hw1⟩
                have hw1' := hw1.symm
                subst hw1'
                rw [HLB.out]
                go_wp2
                go_ret
                exact ⟨by rw [HNO.out HOK.out]; rfl, rfl⟩
              · have d3 : decide ((b : Int) < 48) = false := by simp; omega
                have d4 : decide ((57 : Int) < (b : Int)) = true := by simp; omega
                go_wp2_with fail
                refine Calls.mono HLET.out ?_
                rintro e w1 ⟨rfl, hw1⟩
                have hw1' := hw1.symm
                subst hw1'
                rw [HLB.out]
                go_wp2
                go_ret
                exact ⟨by rw [HNO.out HOK.out]; rfl, rfl⟩
      · have hend := isWord_end s (fun j hj => hall j hj (by omega))
        have HEND : Hid (isWord s = true) := by show _ = _; rw [hend, decide_eq_true hz]
        have hge : (s.size : Int) ≤ (k : Int) := by omega
        clear hend hall
        go_wp2
        go_ret
        exact ⟨by rw [HEND.out]; rfl, rfl⟩
  · have HNO : Hid (isWord s = false) := isWord_size_no s hz
    by_cases h1 : 1 ≤ s.size
    · have d1 : decide ((s.size : Int) < 1) = false := by simp; omega
      have d2 : decide ((12 : Int) < (s.size : Int)) = true := by simp; omega
      go_enter Tryz.func157, Tryz.ntmps157
      go_wp2
      go_ret
      exact ⟨by rw [HNO.out]; rfl, rfl⟩
    · have d1 : decide ((s.size : Int) < 1) = true := by simp; omega
      go_enter Tryz.func157, Tryz.ntmps157
      go_wp2
      go_ret
      exact ⟨by rw [HNO.out]; rfl, rfl⟩

theorem word_first (s : ByteArray) (h : isWord s = true) (h0 : 0 < s.size) : wordB s[0] = true := by
  unfold isWord at h
  rw [Bool.and_eq_true, List.all_eq_true] at h
  refine h.1 _ ?_
  show s.data[0] ∈ s.data.toList
  rw [Array.mem_toList_iff]
  exact Array.getElem_mem _

set_option maxRecDepth 1000000 in
theorem lisName_any (s : ByteArray) (w : World) (hs : s.size ≤ 1000000) :
    Calls Tryz.prog 156 #[.string s] w fun e w' => e = .returned (.bool (isName s)) ∧ w' = w := by
  have hw := lisValue_any s w hs
  cases hi : isWord s with
  | false =>
    rw [hi] at hw
    have HW := (show Hid _ from hw)
    have HN : Hid (isName s = false) := by show _ = _; unfold isName; rw [hi]; rfl
    clear hw
    go_enter Tryz.func156, Tryz.ntmps156
    go_wp2_with fail
    refine Calls.mono HW.out ?_
    rintro e w1 ⟨rfl, hw1⟩
    have hw1' := hw1.symm
    subst hw1'
    go_wp2
    go_ret
    exact ⟨by rw [HN.out]; rfl, rfl⟩
  | true =>
    rw [hi] at hw
    have hz := word_size s hi
    have hwf := word_first s hi (by omega)
    have HW := (show Hid _ from hw)
    have h0 : (0 : Int) < (s.size : Int) := by omega
    have hg : s.data.toList.getD 0 0 = s[0]'(by omega) := by
      rw [List.getD_eq_getElem?_getD, Array.getElem?_toList]
      have : s.data[0]? = some (s[0]'(by omega)) := Array.getElem?_eq_getElem (by show 0 < s.size; omega)
      rw [this]
      rfl
    have HN : Hid (isName s = letB (s[0]'(by omega)).toNat) := by
      show _ = _
      unfold isName letB
      rw [hi, hg, Bool.true_and, decide_eq_decide]
      have := of_decide_eq_true hwf
      omega
    have HLET : Hid _ := lisLetter_any (s[0]'(by omega)).toNat w
    clear hw hg hwf
    go_enter Tryz.func156, Tryz.ntmps156
    go_wp2_with fail
    refine Calls.mono HW.out ?_
    rintro e w1 ⟨rfl, hw1⟩
    have hw1' := hw1.symm
    subst hw1'
    go_wp2_with fail
    refine Calls.mono HLET.out ?_
    rintro e w1 ⟨rfl, hw1⟩
    have hw1' := hw1.symm
    subst hw1'
    go_wp2
    go_ret
    exact ⟨by rw [HN.out]; rfl, rfl⟩
end Go.Proofs.YtdlceolmpcjjiaaGreatDoor
/- The document's sum of a chunk, by contracts: CRC, four, Seal. -/
namespace Go.Proofs.YtdlceolmpcjjiaaGreatDoor
open Go.RowKit
theorem add_str (P : Program) (a b : ByteArray) (h : a.size + b.size ≤ 9223372036854775807) (w : World) : (Op.stringOp .add a b).run P w = .ok (.string (a ++ b)) w := run_string_add_sum w _ _ h
end Go.Proofs.YtdlceolmpcjjiaaGreatDoor
/- chunk's sum by contracts: shifted, Sum, sealed. -/
namespace Go.Proofs.YtdlceolmpcjjiaaGreatDoor
open Go.RowKit

theorem ofInt_u32 (n : Nat) (h : n < 4294967296) : (BitVec.ofInt 32 (n : Int)).toNat = n := by
  rw [BitVec.toNat_ofInt]
  omega
theorem u32_xor_nat (a b : Nat) (ha : a < 4294967296) (hb : b < 4294967296) : bits .xor .u32 (a : Int) (b : Int) = ((a ^^^ b : Nat) : Int) := by
  have hx : a ^^^ b < 2 ^ 32 := Nat.xor_lt_two_pow (by omega) (by omega)
  show IntKind.u32.wrap ((BitVec.ofInt 32 (a : Int) ^^^ BitVec.ofInt 32 (b : Int)).toNat : Int) = _
  rw [BitVec.toNat_xor, ofInt_u32 a (by omega), ofInt_u32 b (by omega), IntKind.wrap_u32]
  omega
theorem u32_and_one (a : Nat) (ha : a < 4294967296) : bits .and .u32 (a : Int) 1 = ((a % 2 : Nat) : Int) := by
  show IntKind.u32.wrap ((BitVec.ofInt 32 (a : Int) &&& BitVec.ofInt 32 ((1 : Nat) : Int)).toNat : Int) = _
  rw [BitVec.toNat_and, ofInt_u32 a (by omega), ofInt_u32 1 (by omega), IntKind.wrap_u32, Nat.and_one_is_mod]
  omega
set_option maxRecDepth 1000000 in
theorem shifted_any (r : Nat) (w : World) (h : r < 4294967296) :
    Calls Tryz.prog 168 #[.int .u32 (r : Int)] w fun e w' => e = .returned (.int .u32 ((if r % 2 = 0 then r / 2 else (r / 2) ^^^ 3988292384 : Nat) : Int)) ∧ w' = w := by
  have ha := u32_and_one r h
  have hI : (r : Int) ≤ 4294967295 := by omega
  have hd : (r : Int) / 2 = ((r / 2 : Nat) : Int) := by omega
  have hx := u32_xor_nat (r / 2) 3988292384 (by omega) (by decide)
  rw [← hd] at hx
  have HD := (show Hid _ from hd)
  have HX : Hid (bits .xor .u32 ((r : Int) / 2) 3988292384 = ((r / 2 ^^^ 3988292384 : Nat) : Int)) := hx
  by_cases h2 : r % 2 = 0
  · rw [if_pos h2]
    have ha0 : bits .and .u32 (r : Int) 1 = 0 := by rw [ha, h2]; rfl
    clear ha hx hd h2 h
    go_enter Tryz.func168, Tryz.ntmps168
    go_wp2
    go_ret
    exact ⟨by rw [← HD.out]; rfl, rfl⟩
  · rw [if_neg h2]
    have ha0 : bits .and .u32 (r : Int) 1 = 1 := by rw [ha, show r % 2 = 1 by omega]; rfl
    clear ha hx hd h2 h
    go_enter Tryz.func168, Tryz.ntmps168
    go_wp2
    go_ret
    exact ⟨by rw [← HX.out]; rfl, rfl⟩

theorem raw_lt (c b k : Nat) (hc : c < 4294967296) (hb : b < 256) : BitMath.crcByte c b k ^^^ b / 2 ^ k < 4294967296 := by
  have h1 := BitMath.crcByte_lt c b hc k
  have h2 : b / 2 ^ k ≤ b := Nat.div_le_self _ _
  exact Nat.xor_lt_two_pow (n := 32) (by omega) (by omega)
theorem raw_step (c b k : Nat) : (if (BitMath.crcByte c b k ^^^ b / 2 ^ k) % 2 = 0 then (BitMath.crcByte c b k ^^^ b / 2 ^ k) / 2 else (BitMath.crcByte c b k ^^^ b / 2 ^ k) / 2 ^^^ 3988292384) = BitMath.crcByte c b (k + 1) ^^^ b / 2 ^ (k + 1) := by
  split
  · rename_i h
    exact BitMath.raw_even c b k h
  · exact BitMath.raw_odd c b k (by omega)

set_option maxRecDepth 1000000 in
set_option maxHeartbeats 1000000 in
theorem sum_any (s : ByteArray) (w : World) (hs : s.size ≤ 1000000) :
    Calls Tryz.prog 132 #[.string s] w fun e w' => e = .returned (.int .u32 (BitMath.crcOf s.data.toList : Int)) ∧ w' = w := by
  go_enter Tryz.func132, Tryz.ntmps132
  go_wp2_with fail
  go_loop [3, 4, 7, 16] (fun c _ i _ => ∃ k : Nat, k ≤ s.size ∧ i = .int .i64 k ∧ c = .int .u32 (BitMath.crcTo s.data.toList k : Int)) (fun _ _ i _ => s.size - (intOf i).toNat)
  case atStart => exact ⟨0, Nat.zero_le _, rfl, rfl⟩
  case round =>
    obtain ⟨k, hk, rfl, rfl⟩ := hrel
    by_cases hlt : k < s.size
    · have hk0 : (0 : Int) ≤ (k : Int) := by omega
      have hk1 : (k : Int) < (s.size : Int) := by omega
      have hcl := BitMath.crcTo_lt s.data.toList k
      have hst : BitMath.crcTo s.data.toList (k + 1) = BitMath.crcByte (BitMath.crcTo s.data.toList k) (s[k]).toNat 8 := by
        rw [BitMath.crcTo]
        congr 1
        rw [List.getD_eq_getElem?_getD, Array.getElem?_toList]
        have : s.data[k]? = some s[k] := Array.getElem?_eq_getElem hlt
        rw [this]
        rfl
      have hb := (s[k]).toNat_lt
      generalize BitMath.crcTo s.data.toList k = c0 at *
      generalize hb0 : (s[k]).toNat = b at *
      have HST := (show Hid _ from hst)
      clear hst
      have hbu : IntKind.u32.wrap (b : Int) = (b : Int) := by rw [IntKind.wrap_u32]; omega
      have hx := u32_xor_nat c0 b hcl (by omega)
      rw [← BitMath.raw_start c0 b] at hx
      go_wp2_with fail
      go_loop [3, 16] (fun c t => ∃ j : Nat, j ≤ 8 ∧ t = .int .i64 j ∧ c = .int .u32 ((BitMath.crcByte c0 b j ^^^ b / 2 ^ j : Nat) : Int)) (fun _ t => 8 - (intOf t).toNat)
      case atStart => exact ⟨0, by omega, rfl, by simp⟩
      case round =>
        obtain ⟨j, hj, rfl, rfl⟩ := hrel
        by_cases hj8 : j < 8
        · have hj0 : (0 : Int) ≤ (j : Int) := by omega
          have hj1 : (j : Int) < 8 := by omega
          have hsh := fun w0 => shifted_any (BitMath.crcByte c0 b j ^^^ b / 2 ^ j) w0 (raw_lt c0 b j hcl hb)
          rw [raw_step] at hsh
          have HSH := (show Hid _ from hsh)
          clear hsh
          go_wp2_with fail
          refine Calls.mono (HSH.out _) ?_
          rintro e w1 ⟨rfl, hw1⟩
          have hw1' := hw1.symm
          subst hw1'
          go_wp2
          go_round
          case rel => exact ⟨j + 1, by omega, by go_num, rfl⟩
          case measure => simp [intOf]; omega
        · have hj88 : j = 8 := by omega
          subst hj88
          have hge : (8 : Int) ≤ ((8 : Nat) : Int) := by omega
          go_wp2
          go_round
          case rel => exact ⟨k + 1, by omega, by go_num, by rw [HST.out, BitMath.raw_end c0 b hb]⟩
          case measure => simp only [intOf]; omega
    · have hsl : s.data.toList.length = s.size := Array.length_toList
      have hke : k = s.data.toList.length := by omega
      clear hsl
      have hge : (s.size : Int) ≤ (k : Int) := by omega
      have hx := u32_xor_nat 4294967295 (BitMath.crcTo s.data.toList k) (by decide) (BitMath.crcTo_lt _ _)
      rw [Nat.xor_comm] at hx
      have he : BitMath.crcOf s.data.toList = BitMath.crcTo s.data.toList k ^^^ 4294967295 := by rw [hke]; rfl
      have HE := (show Hid _ from he)
      generalize BitMath.crcTo s.data.toList k = c at *
      obtain ⟨z, hz⟩ : ∃ z, z = c ^^^ 4294967295 := ⟨_, rfl⟩
      rw [← hz] at hx HE
      have HXX : Hid (bits .xor .u32 IntKind.u32.max (c : Int) = (z : Int)) := hx
      clear he hke hz hx
      go_wp2
      go_ret
      exact ⟨by rw [HE.out]; exact congrArg (fun y => Ending.returned (Value.int .u32 y)) HXX.out, rfl⟩

set_option maxRecDepth 1000000 in
theorem sealed_any (s : ByteArray) (w : World) (hs : s.size ≤ 1000000) :
    Calls Tryz.prog 102 #[.string s] w fun e w' => e = .returned (.string ⟨(BitMath.sealOf s.data.toList).toArray⟩) ∧ Below w.heap.size w w' := by
  have HC := (show Hid _ from sum_any s w hs)
  have hcl := BitMath.crcOf_lt s.data.toList
  have hfin : s ++ ⟨(BitMath.fourOf (BitMath.crcOf s.data.toList)).toArray⟩ = ⟨(BitMath.sealOf s.data.toList).toArray⟩ := by
    apply ByteArray.ext
    rw [ByteArray.data_append]
    apply Array.ext'
    simp [BitMath.sealOf]
  generalize BitMath.crcOf s.data.toList = c at *
  have hback := run_convert_bytes_back (P := Tryz.prog) (w.alloc (.cells #[.int .u8 ((c : Int) / 16777216), .int .u8 ((c : Int) / 65536 % 256), .int .u8 ((c : Int) / 256 % 256), .int .u8 ((c : Int) % 256)] 5)) 84 9 5 ⟨w.heap.size, 0, none⟩ 4 (BitMath.fourOf c) Tryz.underlying84 Tryz.underlying5 Tryz.underlying9 (fun j hj => by
    match j, hj with
    | 0, _ => simp [Addr.add, BitMath.fourOf]; omega
    | 1, _ => simp [Addr.add, BitMath.fourOf]
    | 2, _ => simp [Addr.add, BitMath.fourOf]
    | 3, _ => simp [Addr.add, BitMath.fourOf])
  have hz : (⟨(BitMath.fourOf c).toArray⟩ : ByteArray).size = 4 := rfl
  have hadd := add_str Tryz.prog s ⟨(BitMath.fourOf c).toArray⟩ (by rw [hz]; omega)
  rw [hfin] at hadd
  have hl4 : (BitMath.fourOf c).length = 4 := rfl
  rw [hl4] at hback
  clear hfin hz hl4
  generalize (⟨(BitMath.sealOf s.data.toList).toArray⟩ : ByteArray) = r at *
  generalize (⟨(BitMath.fourOf c).toArray⟩ : ByteArray) = f at *
  go_enter Tryz.func102, Tryz.ntmps102
  go_wp2_with fail
  refine Calls.mono HC.out ?_
  rintro e w1 ⟨rfl, hw1⟩
  have hw1' := hw1.symm
  subst hw1'
  go_wp2
  go_ret
  exact ⟨rfl, (Below.refl _ _).alloc (Nat.le_refl _) _⟩
end Go.Proofs.YtdlceolmpcjjiaaGreatDoor
