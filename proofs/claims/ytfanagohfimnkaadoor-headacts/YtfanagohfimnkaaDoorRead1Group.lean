/- bits.Open, (*Reader).Left, by contracts. -/
import Derived.Test.YtfanagohfimnkaaDoorRefLabOfGroup
import Derived.Deep.DrawnRows
namespace Go.Proofs.YtfanagohfimnkaaDoor
open Go.RowKit
/-- '[]byte(s)', what the walk needs of it. -/
theorem conv_bytes (w : World) (s : ByteArray) : ∃ (cap : Nat) (C : Array Value) (fr : Nat × Nat), (convert 9 111 (.string s)).run Tryd.prog w = .ok (.slice (some ⟨w.heap.size, 0, none⟩) s.size cap) (w.drew.alloc (.cells C 5 fr)) ∧ s.size ≤ cap ∧ (∀ j (hj : j < s.data.toList.length), C[j]? = some (.int .u8 ((s.data.toList[j]).toNat : Int))) := by
  refine ⟨_, _, _, run_bytes_of_string (P := Tryd.prog) w 9 111 5 s Tryd.underlying9 Tryd.underlying111 Tryd.underlying5, grownCap_ge _ _ _ _, fun j hj => ?_⟩
  rw [bytesRow_at s _ j (by simpa using hj)]
  simp

end Go.Proofs.YtfanagohfimnkaaDoor
/- (*Reader).Get by contracts. -/
namespace Go.Proofs.YtfanagohfimnkaaDoor
open Go.RowKit
theorem nblk_set (w : World) (a : Addr) (v : Value) : (w.setCell a v).heap.size = w.heap.size := by simp [World.setCell]
theorem Kept.read {S : List Nat} {a w : World} (h : Kept S a w) (q : Nat) {x : Addr} (hx : x.block ∈ S) (u : Value) : Kept S a ((w.drewN q).setCell x u) :=
  Kept.setCell (w := w.drewN q) ⟨h.os, h.tape, h.output, h.size, h.block⟩ (.inl hx) u

end Go.Proofs.YtfanagohfimnkaaDoor
