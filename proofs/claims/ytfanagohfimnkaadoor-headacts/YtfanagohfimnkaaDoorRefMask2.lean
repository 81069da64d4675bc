/- The document's MaskOf by its contract. -/
import Derived.Test.YtfanagohfimnkaaDoorRefMaskGroup
import Derived.Deep.DeepCutAuto
namespace Go.Proofs.YtfanagohfimnkaaDoor
open Go.RowKit

theorem add_tail (P : Program) (O B : List Bool) (h : ByteArray) (hh : h = BitMath.txt B) (hl : O.length + B.length ≤ 1000000) (w : World) :
    (Op.stringOp .add (BitMath.txt O) h).run P w = .ok (.string (BitMath.txt (O ++ B))) w := by
  subst hh
  exact add_txt P O B (by omega) w
theorem cut_txt (x a b : Nat) (_h : a ≤ b) : (BitMath.txt (BitMath.bitsOf x 64)).extract a b = BitMath.txt (((BitMath.bitsOf x 64).drop a).take (b - a)) := BitMath.txt_extract _ _ _

theorem hid_step {w a b : World} (h : Hid (Below w.heap.size w a)) (k : Below a.heap.size a b) : Hid (Below w.heap.size w b) := h.out.trans (k.mono h.out.size)
theorem hid_drew {w a b : World} (h : Hid (Below w.heap.size w a)) (k : Below a.drew.heap.size a.drew b) : Hid (Below w.heap.size w b) := h.out.drew.trans (k.mono h.out.size)

end Go.Proofs.YtfanagohfimnkaaDoor
