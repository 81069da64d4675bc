/- What the parts of a round of Put do to the row: outside the walk. -/
import Derived.Test.YtegcalkeopkhfaaRows1
import Derived.Test.YtegcalkeopkhfaaBitMath2
namespace Go.Proofs.Ytegcalkeopkhfaa
open Go.RowKit

theorem heap_set {w : World} {b : Nat} {cs : Array Value} {t : TypeId} {f : Nat × Nat} (h : w.heap[b]? = some (.cells cs t f)) (i : Nat) (v : Value) :
    (w.setCell ⟨b, i, none⟩ v).heap[b]? = some (.cells (cs.setIfInBounds i v) t f) := by
  simp [World.setCell, Array.getElem?_modify, h]

theorem ofNat_lt (n : Nat) (h : n < 256) : (UInt8.ofNat n).toNat = n := by simp [Nat.mod_eq_of_lt h]

/-- A byte of an owned row is written. -/
theorem own_set {w : World} {base g n cap : Nat} {l : List UInt8} (h : w.ownsRow base 5 1 (.slice (some ⟨g, 0, none⟩) n cap) n (byteCells l)) (k : Nat) (c : UInt8) :
    (w.setCell ⟨g, k, none⟩ (.int .u8 (c.toNat : Int))).ownsRow base 5 1 (.slice (some ⟨g, 0, none⟩) n cap) n (byteCells (l.set k c)) := by
  obtain ⟨hl, h2⟩ := h
  refine ⟨by simpa [byteCells] using hl, ?_⟩
  rcases h2 with ⟨hv, _⟩ | ⟨g', cap', cur, hv, hg, hh, h1, h2, h3, h4⟩
  · cases hv
  · cases hv
    refine .inr ⟨g, cap, cur.setIfInBounds k (.int .u8 (c.toNat : Int)), rfl, hg, heap_set hh k _, h1, h2, by simpa using h3, ?_⟩
    rw [Array.toList_setIfInBounds, List.take_set, h4]
    simp [byteCells, List.map_set]

theorem or_eq (b z s : Nat) (hb : b < 256) (hz : z * 2 ^ s < 256) : bits .or .u8 (b : Int) (IntKind.u8.wrap (IntKind.u64.wrap ((z : Int) * 2 ^ s))) = ((b ||| (z <<< s) : Nat) : Int) := by
  have e0 : ((z : Int) * 2 ^ s) = ((z * 2 ^ s : Nat) : Int) := by simp
  have e1 : IntKind.u8.wrap (IntKind.u64.wrap ((z : Int) * 2 ^ s)) = ((z <<< s : Nat) : Int) := by
    rw [e0, Nat.shiftLeft_eq, IntWalk.u64_in _ (by omega), IntWalk.u8_in _ (by omega)]
  rw [e1, u8_or_nat _ _ hb (by rw [Nat.shiftLeft_eq]; exact hz)]

end Go.Proofs.Ytegcalkeopkhfaa
