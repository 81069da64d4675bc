/- The document's answer on masks, by contracts: zeros, turned, MaskOf. -/
import Derived.Test.YtfanagohfimnkaaDoorRefsGroup
import Derived.Test.YtfanagohfimnkaaDoorMaskMath
import Derived.Test.YtfanagohfimnkaaDoorSlicesIn
import Derived.Deep.RegionHeld3
import Derived.Deep.QuietTactic
import Derived.BigQuiet
namespace Go.Proofs.YtfanagohfimnkaaDoor
open Go.RowKit

theorem bit_48 (s : ByteArray) (bs : List Bool) (hs : s = BitMath.txt bs) (i : Nat) (h : i < s.size) (b : Bool) (hb : bs[i]? = some b) : (((s[i]).toNat : Int) == 48) = !b := by
  subst hs
  rw [BitMath.txt_get bs i h]
  have h' : i < bs.length := by rw [BitMath.txt_size] at h; exact h
  rw [List.getElem?_eq_getElem h'] at hb
  rw [Option.some.inj hb]
  cases b <;> rfl

theorem turned_step (P : Program) (bs : List Bool) (k : Nat) (s : ByteArray) (hs : s = BitMath.txt bs) (hk : k < bs.length) (hl : bs.length ≤ 1000) (w : World) :
    (Op.stringOp .add (s.extract k (k + 1)) (BitMath.txt (bs.take k).reverse)).run P w = .ok (.string (BitMath.txt (bs.take (k + 1)).reverse)) w := by
  subst hs
  have e : (BitMath.txt bs).extract k (k + 1) = BitMath.txt [bs[k]] := by
    rw [BitMath.txt_extract, show k + 1 - k = 1 by omega, List.drop_eq_getElem_cons hk]
    rfl
  rw [e, add_txt P [bs[k]] (bs.take k).reverse (by simp; omega) w, List.take_succ_eq_append_getElem hk, List.reverse_append]
  rfl

end Go.Proofs.YtfanagohfimnkaaDoor
