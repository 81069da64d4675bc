/- A text's bytes as a slice, one of them turned, and back; no chunk has a byte turned. -/
import Derived.Test.YtgdflopgdlpimaaDoorRead1Group
import Derived.Test.YtgdflopgdlpimaaDoorBitMathGroup
import Derived.Test.YtgdflopgdlpimaaDoorDecode
namespace Go.Proofs.YtgdflopgdlpimaaDoor
open Go.RowKit

theorem conv_at (w : World) (s : ByteArray) : ∃ (cap : Nat) (W : World), (convert 9 84 (.string s)).run Tryd.prog w = .ok (.slice (some ⟨w.heap.size, 0, none⟩) s.size cap) W ∧ Below w.heap.size w W ∧ W.heap.size = w.heap.size + 1 ∧ s.size ≤ cap ∧
    (∀ j (hj : j < s.data.toList.length), W.cell? ⟨w.heap.size, j, none⟩ = some (.int .u8 ((s.data.toList[j]).toNat : Int))) ∧ ∀ j, j < s.size → W.frozen? ⟨w.heap.size, j, none⟩ = false := by
  refine ⟨_, _, run_bytes_of_string (P := Tryd.prog) w 9 84 5 s Tryd.underlying9 Tryd.underlying84 Tryd.underlying5, ?_, by simp, grownCap_ge _ _ _ _, fun j hj => ?_, fun j hj => ?_⟩
  · exact ((Below.refl w.heap.size w).trans ⟨rfl, rfl, rfl, Nat.le_refl _, fun _ _ => rfl⟩ : Below w.heap.size w w.drew).alloc (Nat.le_refl _) _
  · have hb : (w.drew.alloc (.cells (bytesRow s (grownCap w s.size 0 5)) 5 ((bytesRow s (grownCap w s.size 0 5)).size, (bytesRow s (grownCap w s.size 0 5)).size + 1))).heap[w.heap.size]? = some (.cells (bytesRow s (grownCap w s.size 0 5)) 5 ((bytesRow s (grownCap w s.size 0 5)).size, (bytesRow s (grownCap w s.size 0 5)).size + 1)) := heap_alloc_new w.drew _
    simp only [World.cell?, hb]
    rw [if_neg (by decide), bytesRow_at s _ j (by simpa using hj)]
    simp
  · have hb : (w.drew.alloc (.cells (bytesRow s (grownCap w s.size 0 5)) 5 ((bytesRow s (grownCap w s.size 0 5)).size, (bytesRow s (grownCap w s.size 0 5)).size + 1))).heap[w.heap.size]? = some (.cells (bytesRow s (grownCap w s.size 0 5)) 5 ((bytesRow s (grownCap w s.size 0 5)).size, (bytesRow s (grownCap w s.size 0 5)).size + 1)) := heap_alloc_new w.drew _
    have hz : s.size ≤ (bytesRow s (grownCap w s.size 0 5)).size := by
      have h1 := bytesRow_at s (grownCap w s.size 0 5) j hj
      rcases Nat.lt_or_ge j (bytesRow s (grownCap w s.size 0 5)).size with h | h
      · simp [bytesRow]
      · rw [Array.getElem?_eq_none h] at h1
        cases h1
    simp only [World.frozen?, hb]
    simp
    omega
theorem u8_xor_nat (a b : Nat) (ha : a < 256) (hb : b < 256) : bits .xor .u8 (a : Int) (b : Int) = ((a ^^^ b : Nat) : Int) := by
  have hx : a ^^^ b < 2 ^ 8 := Nat.xor_lt_two_pow (by omega) (by omega)
  show IntKind.u8.wrap ((BitVec.ofInt 8 (a : Int) ^^^ BitVec.ofInt 8 (b : Int)).toNat : Int) = _
  have e : ∀ n : Nat, n < 256 → (BitVec.ofInt 8 (n : Int)).toNat = n := fun n h => by
    rw [BitVec.toNat_ofInt]
    omega
  rw [BitVec.toNat_xor, e a ha, e b hb, IntKind.wrap_u8]
  omega
theorem xor_apart (a b : Nat) (hb : b ≠ 0) : a ^^^ b ≠ a := by
  intro h
  have h2 : a ^^^ (a ^^^ b) = a ^^^ a := by rw [h]
  rw [← Nat.xor_assoc, Nat.xor_self, Nat.zero_xor] at h2
  exact hb h2
theorem turned_not (T : Nat → Int) (B : Nat → Nat) (n i : Nat) (y : UInt8) (hi : i < (chunkBytes T B n).length) (hy : y ≠ (chunkBytes T B n).getD i 0) : ¬ IsChunk ((chunkBytes T B n).set i y) := by
  intro h
  obtain ⟨_, h2, _⟩ := chunk_body _ h
  have ht := BitMath.turned (BitMath.pack (rowBits T B n)) i y hi hy
  apply ht
  obtain ⟨b, hb⟩ : ∃ b, b = BitMath.pack (rowBits T B n) := ⟨_, rfl⟩
  have hc : chunkBytes T B n = BitMath.sealOf b := by rw [hb]; rfl
  rw [← hb]
  rw [hc] at h2
  have hl : ((BitMath.sealOf b).set i y).length - 4 = b.length := by
    rw [List.length_set, BitMath.sealOf, List.length_append, length_fourOf]
    omega
  rw [hl] at h2
  generalize (BitMath.sealOf b).set i y = q at *
  have h3 : q.take b.length ++ q.drop b.length = q := List.take_append_drop _ _
  unfold BitMath.sealOf at h2
  have h4 := h2.trans h3.symm
  exact (List.append_cancel_left h4).symm
theorem dec_no {w w' : World} {l : List UInt8} {aT aS : Addr} {e : Ending} (h : DecOut w w' l aT aS e) (hn : ¬ IsChunk l) : Below w.heap.size w w' ∧ ∃ a : Addr, e = .returned (.tuple #[.slice none 0 0, .iface 97 (.pointer (some a))]) := by
  obtain ⟨hb, ⟨n, T, B, v, h1, h2, h3, h4, _⟩ | ⟨_, h1⟩⟩ := h
  · exact absurd ⟨n, T, B, h1, h2, h3, h4⟩ hn
  · exact ⟨hb, _, h1⟩
theorem back_at (W : World) (g cap i : Nat) (l : List UInt8) (y : UInt8) (hi : i < l.length) (hc : ∀ j (hj : j < l.length), W.cell? ⟨g, j, none⟩ = some (.int .u8 ((l[j]).toNat : Int))) :
    (convert 84 9 (.slice (some ⟨g, 0, none⟩) l.length cap)).run Tryd.prog (W.setCell ⟨g, i, none⟩ (.int .u8 (y.toNat : Int))) = .ok (.string ⟨(l.set i y).toArray⟩) (W.setCell ⟨g, i, none⟩ (.int .u8 (y.toNat : Int))) := by
  have h := run_convert_bytes_back (P := Tryd.prog) (W.setCell ⟨g, i, none⟩ (.int .u8 (y.toNat : Int))) 84 9 5 ⟨g, 0, none⟩ cap (l.set i y) Tryd.underlying84 Tryd.underlying5 Tryd.underlying9 (fun j hj => by
    have hj' : j < l.length := by simpa using hj
    have ea : (⟨g, 0, none⟩ : Addr).add j = ⟨g, j, none⟩ := by
      unfold Addr.add
      cases j <;> simp
    rw [ea]
    have h0 := hc j hj'
    by_cases hji : j = i
    · subst hji
      rw [World.cell?_setCell_same' _ _ _ (by rw [h0]; rfl)]
      simp
    · rw [World.cell?_setCell_other _ _ _ _ (fun e => hji (by injection e with _ e2; exact e2.symm)), h0, List.getElem_set_ne (by omega)])
  rw [List.length_set] at h
  exact h
end Go.Proofs.YtgdflopgdlpimaaDoor
