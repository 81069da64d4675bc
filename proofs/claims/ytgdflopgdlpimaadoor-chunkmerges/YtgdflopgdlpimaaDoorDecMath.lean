/- A chunk's parts as packages wave and mask read them: numbers first, then ticks, then values. Mathematics. -/
import Derived.Test.YtgdflopgdlpimaaDoorChunkBack
import Derived.Test.YtgdflopgdlpimaaDoorRefReadGroup
namespace Go.Proofs.YtgdflopgdlpimaaDoor

theorem chunk_read (l : List UInt8) (n : Nat) (T : Nat → Int) (B : Nat → Nat) (hn : n ≤ 120) (hT : ∀ i, i < n → ptOk T i = true) (hB : ∀ i, i < n → B i < 18446744073709551616) (hl : l = chunkBytes T B n) :
    ∃ ns u, readNums ((BitMath.bitsOfBytes (l.take (l.length - 4))).drop 8) n = (0, ns, (ticksTo T n).length) ∧ ticksBy [] ns = some (firstTicks T n) ∧
      BitMath.maskRead (((BitMath.bitsOfBytes (l.take (l.length - 4))).drop 8).drop (ticksTo T n).length) n = (0, BitMath.firstV B n, u) := by
  obtain ⟨_, hb, _, _, _, u, hu⟩ := chunk_parse l n T B hn hT hB hl
  obtain ⟨Z, hZ⟩ := bits_bytes_pack (rowBits T B n)
  have hD : (BitMath.bitsOfBytes (l.take (l.length - 4))).drop 8 = ticksTo T n ++ (BitMath.maskTo B n ++ Z) := by
    rw [hb, hZ, rowBits]
    simp only [List.append_assoc]
    exact List.drop_left' (BitMath.length_bitsOf _ _)
  have hr := readTo_ticks T n [] (BitMath.maskTo B n ++ Z) (fun i hi => ptOk_tick T i (hT i hi)) n 0 (by omega)
  simp only [List.nil_append, List.length_nil, ticksTo, Nat.zero_add] at hr
  rw [← hD] at hr
  rw [← List.drop_drop] at hu
  rcases good_or_bad ((BitMath.bitsOfBytes (l.take (l.length - 4))).drop 8) n with ⟨ns, u1, ts, h1, h2, _, _, _, h3⟩ | ⟨h1, _⟩
  · have h4 := h3 0
    rw [Nat.zero_add] at h4
    have h5 : readTo ((BitMath.bitsOfBytes (l.take (l.length - 4))).drop 8) 0 u1 ts = (0, ts, u1) := rfl
    have h6 : (0, firstTicks T n, (ticksTo T n).length) = (0, ts, u1) := hr.symm.trans (h4.trans h5)
    injection h6 with _ h7
    injection h7 with h8 h9
    rw [← h9] at h1
    rw [← h8] at h2
    exact ⟨ns, u, h1, h2, hu⟩
  · have h4 := h1 0
    rw [Nat.zero_add] at h4
    exact absurd (congrArg Prod.fst hr) h4

/-- What is read of a chunk is what was put. -/
theorem chunk_is (l : List UInt8) (n : Nat) (T : Nat → Int) (B : Nat → Nat) (hn : n ≤ 120) (hT : ∀ i, i < n → ptOk T i = true) (hB : ∀ i, i < n → B i < 18446744073709551616) (hl : l = chunkBytes T B n)
    (ns ts : List Int) (vs : List Nat) (u u2 : Nat) (h1 : readNums ((BitMath.bitsOfBytes (l.take (l.length - 4))).drop 8) n = (0, ns, u)) (h2 : ticksBy [] ns = some ts)
    (h3 : BitMath.maskRead (((BitMath.bitsOfBytes (l.take (l.length - 4))).drop 8).drop u) n = (0, vs, u2)) :
    ts = firstTicks T n ∧ vs = BitMath.firstV B n := by
  obtain ⟨ns', u', k1, k2, k3⟩ := chunk_read l n T B hn hT hB hl
  have e1 := h1.symm.trans k1
  injection e1 with _ e2
  injection e2 with e3 e4
  subst e3 e4
  have e5 := h2.symm.trans k2
  injection e5 with e6
  have e7 := h3.symm.trans k3
  injection e7 with _ e8
  injection e8 with e9 _
  exact ⟨e6, e9⟩
theorem chunk_same (T U : Nat → Int) (B C : Nat → Nat) (n m : Nat) (hn : n ≤ 120) (hm : m ≤ 120) (hT : ∀ i, i < n → ptOk T i = true) (hU : ∀ i, i < m → ptOk U i = true) (hB : ∀ i, i < n → B i < 18446744073709551616) (hC : ∀ i, i < m → C i < 18446744073709551616) (h : chunkBytes T B n = chunkBytes U C m) :
    n = m ∧ (∀ i, i < n → T i = U i) ∧ ∀ i, i < n → B i = C i := by
  obtain ⟨_, _, _, a4, _⟩ := chunk_parse _ n T B hn hT hB rfl
  obtain ⟨_, _, _, b4, _⟩ := chunk_parse _ m U C hm hU hC rfl
  rw [h] at a4
  have hnm : n = m := a4.symm.trans b4
  subst hnm
  obtain ⟨ns, u, k1, k2, k3⟩ := chunk_read _ n T B hn hT hB rfl
  rw [h] at k1 k3
  obtain ⟨e1, e2⟩ := chunk_is _ n U C hm hU hC rfl ns _ _ _ _ k1 k2 k3
  refine ⟨rfl, fun i hi => ?_, fun i hi => ?_⟩
  · have := congrArg (fun z => z.getD i 0) e1
    simp only [getD_firstTicks _ _ _ hi] at this
    exact this
  · have := congrArg (fun z => BitMath.vf z i) e2
    simpa [BitMath.vf, BitMath.firstV, hi] using this
end Go.Proofs.YtgdflopgdlpimaaDoor
