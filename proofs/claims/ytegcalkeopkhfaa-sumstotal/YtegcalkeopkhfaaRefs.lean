/- The document's answers on bits, by contracts: Byte, Bits, Pack, Unpack, ValueOf. -/
import Derived.Test.YtegcalkeopkhfaaProg
import Derived.Test.YtegcalkeopkhfaaBitMath
import Derived.WalkKit
import Derived.WalkSpells
import Derived.WalkLawsBesides
import Derived.Laws.BitsAllLaws
import Derived.Laws.IdiomStrings
namespace Go.Proofs.Ytegcalkeopkhfaa
open Go.RowKit

/-- One byte as a text. -/
def byteStr (n : Int) : ByteArray := ⟨#[UInt8.ofNat n.toNat]⟩
theorem add_bit (P : Program) (v k x : Nat) (hx : x = v / 2 ^ k) (hk : k < 64) (w : World) :
    (Op.stringOp .add (byteStr (48 + (x : Int) % 2)) (BitMath.txt (BitMath.bitsOf v k))).run P w = .ok (.string (BitMath.txt (BitMath.bitsOf v (k + 1)))) w := by
  rw [run_string_add_sum w _ _ (by rw [BitMath.txt_size, BitMath.length_bitsOf]; simp [byteStr, ByteArray.size]; omega)]
  have e : byteStr (48 + (x : Int) % 2) = BitMath.txt [v.testBit k] := by
    unfold byteStr
    have e1 : (48 + (x : Int) % 2).toNat = 48 + v / 2 ^ k % 2 := by rw [← hx]; omega
    rw [e1, BitMath.chr_ofNat]
    rfl
  rw [e, BitMath.txt_append]
  rfl

end Go.Proofs.Ytegcalkeopkhfaa
