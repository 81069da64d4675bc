/- Package wave's Get by its contract. -/
import Derived.Test.YtfanagohfimnkaaDoorWaveForm
import Derived.Test.YtfanagohfimnkaaDoorRead1Group
import Derived.Test.YtfanagohfimnkaaDoorPutGroup
namespace Go.Proofs.YtfanagohfimnkaaDoor
open Go.RowKit

/-- What reading leaves: the reader's own block may change, nothing else. -/
theorem Kept.draws {S : List Nat} {a w : World} (h : Kept S a w) (q : Nat) : Kept S a (w.drewN q) := ⟨h.os, h.tape, h.output, h.size, h.block⟩
theorem Kept.cell {S : List Nat} {w w' : World} (k : Kept S w w') {b o : Nat} {v : Value} (h : w.cell? ⟨b, o, none⟩ = some v) (hb : b ∉ S) : w'.cell? ⟨b, o, none⟩ = some v := by
  have hl := lt_of_cell h
  have e := k.block b hl hb
  simp only [World.cell?, e] at h ⊢
  exact h
theorem Kept.none {S : List Nat} {w w' : World} (h : Kept [] w w') : Kept S w w' := ⟨h.os, h.tape, h.output, h.size, fun k hk _ => h.block k hk (by simp)⟩

theorem bit_read (l : List UInt8) (i k N : Nat) (hN : N ≤ 8 * l.length) (h : i + k + 1 ≤ N) (b : Bool) (hb : (BitMath.restB l i N)[k]? = some b) : BitMath.valB (BitMath.readB l (i + k) 1) = b.toNat := by
  rw [BitMath.readB_rest l (i + k) 1 N h, BitMath.restB_drop]
  have hl := BitMath.length_restB l i N hN
  have hk : k < (BitMath.restB l i N).length := by omega
  rw [List.drop_eq_getElem_cons hk, List.take_succ_cons, List.take_zero, BitMath.valB_one]
  rw [List.getElem?_eq_getElem hk] at hb
  rw [Option.some.inj hb]

/-- Behind the result's four cells. -/
theorem stored_kept {w wa wr : World} {x : Nat} (hka : Kept [] w wa) (hkr : Kept [x] wa wr) (a b c d : Value) : Kept [x] w ((((wr.setCell ⟨w.heap.size, 0, none⟩ a).setCell ⟨w.heap.size, 1, none⟩ b).setCell ⟨w.heap.size, 2, none⟩ c).setCell ⟨w.heap.size, 3, none⟩ d) := by
  have h : Kept [x] w wr := hka.none.trans hkr (fun y hy => .inl hy)
  exact (((h.setCell (.inr (Nat.le_refl _)) _).setCell (.inr (Nat.le_refl _)) _).setCell (.inr (Nat.le_refl _)) _).setCell (.inr (Nat.le_refl _)) _
/-- The zero value of a form. -/
def noForm : Value := .agg #[.int .u64 0, .int .i64 0, .int .i64 0, .int .i64 0]

end Go.Proofs.YtfanagohfimnkaaDoor
