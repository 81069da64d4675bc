/- The document's answers on bits, by contracts: Byte, Bits, Pack, Unpack, ValueOf. -/
import Derived.Test.YtgdflopgdlpimaaDoorProg
import Derived.Test.YtgdflopgdlpimaaDoorMaths
import Derived.WalkKit
import Derived.WalkSpells
import Derived.WalkLawsBesides
import Derived.Laws.BitsAllLaws
import Derived.Laws.IdiomStrings
namespace Go.Proofs.YtgdflopgdlpimaaDoor
open Go.RowKit

/-- One byte as a text. -/
def byteStr (n : Int) : ByteArray := ⟨#[UInt8.ofNat n.toNat]⟩
theorem byte_any (n : Int) (w : World) (h0 : 0 ≤ n) (h1 : n < 256) :
    Calls Tryd.prog 57 #[.int .i64 n] w fun e w' => e = .returned (.string (byteStr n)) ∧ Below w.heap.size w w' := by
  have hback := run_convert_bytes_back (P := Tryd.prog) (w.alloc (.cells #[.int .u8 n] 5)) 84 9 5 ⟨w.heap.size, 0, none⟩ 1 [UInt8.ofNat n.toNat] Tryd.underlying84 Tryd.underlying5 Tryd.underlying9 (fun j hj => by
    match j, hj with
    | 0, _ => simp [Addr.add]; omega)
  simp only [List.length_cons, List.length_nil, Nat.zero_add] at hback
  go_enter Tryd.func57, Tryd.ntmps57
  go_wp2
  go_ret
  exact ⟨rfl, (Below.refl _ _).alloc (Nat.le_refl _) _⟩

theorem add_bit (P : Program) (v k x : Nat) (hx : x = v / 2 ^ k) (hk : k < 64) (w : World) :
    (Op.stringOp .add (byteStr (48 + (x : Int) % 2)) (BitMath.txt (BitMath.bitsOf v k))).run P w = .ok (.string (BitMath.txt (BitMath.bitsOf v (k + 1)))) w := by
  rw [run_string_add_sum w _ _ (by rw [BitMath.txt_size, BitMath.length_bitsOf]; simp [byteStr, ByteArray.size]; omega)]
  have e : byteStr (48 + (x : Int) % 2) = BitMath.txt [v.testBit k] := by
    unfold byteStr
    have e1 : (48 + (x : Int) % 2).toNat = 48 + v / 2 ^ k % 2 := by rw [← hx]; omega
    rw [e1, BitMath.chr_ofNat]
    rfl
  rw [e, BitMath.txt_append]
  rfl

set_option maxRecDepth 100000 in
theorem bits_any (v : Nat) (n : Int) (w : World) (hv : (v : Int) < 18446744073709551616) (h0 : 0 ≤ n) (h1 : n ≤ 64) :
    Calls Tryd.prog 19 #[.int .u64 v, .int .i64 n] w fun e w' => e = .returned (.string (BitMath.txt (BitMath.bitsOf v n.toNat))) ∧ Below w.heap.size w w' := by
  go_enter Tryd.func19, Tryd.ntmps19
  go_wp2_with fail
  go_loopw [0, 5, 6] (fun u o i wr => ∃ k x : Nat, k ≤ n.toNat ∧ i = .int .i64 k ∧ u = .int .u64 x ∧ x = v / 2 ^ k ∧ o = .string (BitMath.txt (BitMath.bitsOf v k)) ∧ Below w.heap.size w wr) (fun _ _ i _ => n.toNat - (intOf i).toNat)
  case atStart => exact ⟨0, v, Nat.zero_le _, rfl, rfl, by simp, rfl, Below.refl _ _⟩
  case round =>
    obtain ⟨k, x, hk, rfl, rfl, hx, rfl, hb⟩ := hrel
    have HX := (show Hid _ from hx)
    have hxl : (x : Int) < 18446744073709551616 := by
      have : v / 2 ^ k ≤ v := Nat.div_le_self _ _
      omega
    clear hx
    by_cases hlt : k < n.toNat
    · have hlt' : (k : Int) < n := by omega
      go_wp2_with fail
      refine (byte_any (48 + (x : Int) % 2) _ (by omega) (by omega)).mono ?_
      rintro e w1 ⟨rfl, hb1⟩
      have hb2 := hb.trans (hb1.mono hb.size)
      have HK : Hid (k ≤ n.toNat) := hk
      have HL : Hid (k < n.toNat) := hlt
      have HXL := (show Hid _ from hxl)
      have hadd := add_bit Tryd.prog v k x HX.out (by omega)
      clear hb1 hb hv hk hlt
      go_wp2
      go_roundw
      case rel =>
        refine ⟨k + 1, x / 2, HL.out, by go_num, by go_num, ?_, rfl, hb2⟩
        rw [HX.out, Nat.div_div_eq_div_mul, Nat.pow_succ]
      case measure => have := HL.out; simp [intOf]; omega
    · have e : k = n.toNat := by omega
      have hlt' : n ≤ (k : Int) := by omega
      clear hk hlt hxl hv
      go_wp2
      go_ret
      subst e
      exact ⟨rfl, hb⟩
end Go.Proofs.YtgdflopgdlpimaaDoor
