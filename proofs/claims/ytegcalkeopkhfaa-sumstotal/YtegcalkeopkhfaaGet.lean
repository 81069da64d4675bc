/- (*Reader).Get by contracts. -/
import Derived.Test.YtegcalkeopkhfaaRead1
import Derived.Test.YtegcalkeopkhfaaPutParts
namespace Go.Proofs.Ytegcalkeopkhfaa
open Go.RowKit
theorem nblk_set (w : World) (a : Addr) (v : Value) : (w.setCell a v).heap.size = w.heap.size := by simp [World.setCell]
theorem Kept.read {S : List Nat} {a w : World} (h : Kept S a w) (q : Nat) {x : Addr} (hx : x.block ∈ S) (u : Value) : Kept S a ((w.drewN q).setCell x u) :=
  Kept.setCell (w := w.drewN q) ⟨h.os, h.tape, h.output, h.size, h.block⟩ (.inl hx) u

end Go.Proofs.Ytegcalkeopkhfaa
