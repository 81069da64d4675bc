/- The document's row of a chunk and its chunk, by contracts: RowOf, ChunkOf. -/
import Derived.Test.YtfanagohfimnkaaDoorRefRead
import Derived.Test.YtfanagohfimnkaaDoorRefReadMask
import Derived.Test.YtfanagohfimnkaaDoorRefsGroup
namespace Go.Proofs.YtfanagohfimnkaaDoor
open Go.RowKit

/-- A row that another one's growth leaves. -/
theorem own_far {w w' : World} {base : Nat} {e : TypeId} {s : Nat} {v : Value} {n : Nat} {xs : List Value} {row : Option Nat} (h : w.ownsRow base e s v n xs) (hg : w.grownBy w' row) (hne : ∀ g, v.ownBlock = some g → row ≠ some g) : w'.ownsRow base e s v n xs := by
  obtain ⟨h1, h2⟩ := h
  refine ⟨h1, ?_⟩
  rcases h2 with h2 | ⟨g, cap, cur, hv, hgb, hh, r⟩
  · exact .inl h2
  · have hl : g < w.heap.size := by
      rcases Nat.lt_or_ge g w.heap.size with h' | h'
      · exact h'
      · rw [Array.getElem?_eq_none h'] at hh; cases hh
    have hx := hne g (by rw [hv]; rfl)
    exact .inr ⟨g, cap, cur, hv, hgb, (hg.block g hl (fun e => hx e.symm)).trans hh, r⟩
theorem own_lt {w : World} {base : Nat} {e : TypeId} {s : Nat} {v : Value} {n : Nat} {xs : List Value} (h : w.ownsRow base e s v n xs) : ∀ g, v.ownBlock = some g → g < w.heap.size ∧ base ≤ g := by
  intro g hg
  rcases h.2 with ⟨rfl, _⟩ | ⟨g', cap, cur, rfl, hgb, hh, _⟩
  · simp [Value.ownBlock] at hg
  · simp [Value.ownBlock] at hg
    subst hg
    refine ⟨?_, hgb⟩
    rcases Nat.lt_or_ge g' w.heap.size with h' | h'
    · exact h'
    · rw [Array.getElem?_eq_none h'] at hh; cases hh
theorem grown_far {w wr w1 : World} {v : Value} {o : Obj} {e : TypeId} {s n : Nat} {xs : List Value} (hb : Below w.heap.size w wr) (hown : wr.ownsRow w.heap.size e s v n xs) (hgrow : (wr.alloc o).grownBy w1 v.ownBlock) : Below w.heap.size w w1 := by
  have hba : Below w.heap.size w (wr.alloc o) := hb.alloc hb.size _
  refine hba.trans ⟨hgrow.os, hgrow.tape, hgrow.output, hgrow.size, fun k hk => hgrow.block k (Nat.lt_of_lt_of_le hk hba.size) ?_⟩
  intro he
  have := (own_lt hown k he.symm).2
  omega
/-- The bits of a chunk. -/
def rowBits (T : Nat → Int) (B : Nat → Nat) (n : Nat) : List Bool := BitMath.bitsOf n 8 ++ ticksTo T n ++ BitMath.maskTo B n
theorem length_rowBits (T : Nat → Int) (B : Nat → Nat) (n : Nat) : (rowBits T B n).length ≤ 8 + 145 * n := by
  have h1 := length_ticksTo T n
  have h2 := BitMath.length_maskTo B n
  simp only [rowBits, List.length_append, BitMath.length_bitsOf]
  omega
def firstInts (T : Nat → Int) (n : Nat) : List Int := (List.range n).map T
def firstNats (B : Nat → Nat) (n : Nat) : List Nat := (List.range n).map B
theorem firstInts_step (T : Nat → Int) (k : Nat) : firstInts T (k + 1) = firstInts T k ++ [T k] := by simp [firstInts, List.range_succ]
theorem firstNats_step (B : Nat → Nat) (k : Nat) : firstNats B (k + 1) = firstNats B k ++ [B k] := by simp [firstNats, List.range_succ]
theorem vf_first (B : Nat → Nat) (n i : Nat) (h : i < n) : BitMath.vf (firstNats B n) i = B i := by simp [BitMath.vf, firstNats, h]
theorem ints_own {w : World} {base n : Nat} {v : Value} {T : Nat → Int} (h : w.ownsRow base 3 1 v n (intList (firstInts T n))) : ∃ a c, v = .slice a n c ∧ Ints w a n T := by
  by_cases hn : n = 0
  · subst hn
    rcases h.2 with ⟨rfl, _⟩ | ⟨g, cap, cur, rfl, _⟩
    · exact ⟨none, 0, rfl, .inl rfl⟩
    · exact ⟨_, _, rfl, .inl rfl⟩
  · obtain ⟨g, cap, rfl, _, _, hc⟩ := own_list h (by omega) (by simp [firstInts])
    refine ⟨_, _, rfl, .inr ⟨g, 0, rfl, fun k hk => ?_⟩⟩
    rw [Nat.zero_add, hc k hk]
    simp [firstInts, hk]
theorem u64s_own {w : World} {base n : Nat} {v : Value} {B : Nat → Nat} (h : w.ownsRow base 49 1 v n (u64Cells (firstNats B n))) (hB : ∀ i, i < n → B i < 18446744073709551616) : ∃ a c, v = .slice a n c ∧ U64s w a n B := by
  by_cases hn : n = 0
  · subst hn
    rcases h.2 with ⟨rfl, _⟩ | ⟨g, cap, cur, rfl, _⟩
    · exact ⟨none, 0, rfl, .inl rfl⟩
    · exact ⟨_, _, rfl, .inl rfl⟩
  · obtain ⟨g, cap, rfl, _, _, _, hU⟩ := own_u64s h (by simp [firstNats]) (by
      intro x hx
      simp [firstNats] at hx
      obtain ⟨i, hi, rfl⟩ := hx
      exact hB i hi) (by omega)
    refine ⟨_, _, rfl, ?_⟩
    rcases hU with h0 | ⟨b, o, e, hc⟩
    · omega
    · refine .inr ⟨b, o, e, fun k hk => ?_⟩
      have := hc k hk
      rw [vf_first B n k hk] at this
      exact this

/-- The bytes of a chunk. -/
def chunkBytes (T : Nat → Int) (B : Nat → Nat) (n : Nat) : List UInt8 := BitMath.sealOf (BitMath.pack (rowBits T B n))
end Go.Proofs.YtfanagohfimnkaaDoor
