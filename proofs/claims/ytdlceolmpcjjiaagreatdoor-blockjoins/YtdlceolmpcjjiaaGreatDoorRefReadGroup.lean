/- The document's ReadTicks, by its contract. -/
import Derived.Test.YtdlceolmpcjjiaaGreatDoorRefTicksGroup
import Derived.Deep.AppendLies
import Derived.Deep.DeepCutAuto
import Derived.Test.YtdlceolmpcjjiaaGreatDoorBitMathGroup
import Derived.Test.YtdlceolmpcjjiaaGreatDoorRefUnwave
import Derived.Test.YtdlceolmpcjjiaaGreatDoorRefsGroup
namespace Go.Proofs.YtdlceolmpcjjiaaGreatDoor
open Go.RowKit

/-- What a number that was read says of the next tick, behind those that are there. -/
def nextTick (out : List Int) (t : Int) : Int := t + (if 0 < out.length then out.getD (out.length - 1) 0 else 0) + (if 1 < out.length then out.getD (out.length - 1) 0 - out.getD (out.length - 2) 0 else 0)
/-- A difference beyond all ticks. -/
def far (t : Int) : Bool := decide (8796093022208 < t) || decide (t < -8796093022208)
/-- f ticks more from place a on, behind those that are there: an error's number, the ticks, the place. -/
def readTo (bs : List Bool) : Nat → Nat → List Int → Nat × List Int × Nat
  | 0, a, out => (0, out, a)
  | f + 1, a, out =>
    if 0 < (BitMath.unwave (bs.drop a)).1 then ((BitMath.unwave (bs.drop a)).1, [], 0)
    else if (decide (0 < out.length) && far (BitMath.unwave (bs.drop a)).2.1) = true then (2, [], 0)
    else if isTick (nextTick out (BitMath.unwave (bs.drop a)).2.1) = true then readTo bs f (a + (BitMath.unwave (bs.drop a)).2.2) (out ++ [nextTick out (BitMath.unwave (bs.drop a)).2.1])
    else (2, [], 0)
theorem Tryz.infoIntR : (Tryz.prog.info? 3).map (fun i => (i.zero, i.size, i.bytes)) = some (some (.int .i64 0), 1, 8) := by kernel_rfl

theorem num_bound (o v : Nat) (ho : o ≤ 4) (hv : v < 2 ^ BitMath.wideOf o) : -9223372036854775808 ≤ BitMath.numOf o v ∧ BitMath.numOf o v ≤ 9223372036854775807 := by
  obtain rfl | rfl | rfl | rfl | rfl : o = 0 ∨ o = 1 ∨ o = 2 ∨ o = 3 ∨ o = 4 := by omega
  · simp [BitMath.numOf, BitMath.biasOf, BitMath.wideOf] at hv ⊢; omega
  · simp [BitMath.numOf, BitMath.biasOf, BitMath.wideOf] at hv ⊢; omega
  · simp [BitMath.numOf, BitMath.biasOf, BitMath.wideOf] at hv ⊢; omega
  · simp [BitMath.numOf, BitMath.biasOf, BitMath.wideOf] at hv ⊢; omega
  · have hv' : v < 18446744073709551616 := by have : (2 : Nat) ^ BitMath.wideOf 4 = 18446744073709551616 := rfl; omega
    unfold BitMath.numOf
    rw [if_pos rfl]
    split <;> omega
theorem wide_le (o : Nat) : BitMath.wideOf o ≤ 64 := by unfold BitMath.wideOf; split <;> omega
theorem unwave_bits_at (D : List Bool) (o h : Nat) (ho : BitMath.onesOf D 4 = o) (hh : h = if o < 4 then o + 1 else 4) (ho4 : o ≤ 4) : (BitMath.unwave D).2.2 ≤ D.length ∧ (BitMath.unwave D).2.2 ≤ 68 ∧ (BitMath.unwave D).1 ≤ 5 ∧ -9223372036854775808 ≤ (BitMath.unwave D).2.1 ∧ (BitMath.unwave D).2.1 ≤ 9223372036854775807 := by
  have hh4 : h ≤ 4 := by rw [hh]; split <;> omega
  by_cases hl : D.length < h + BitMath.wideOf o
  · rw [BitMath.unwave_short D o h ho hh hl]
    simp
  · have hw := wide_le o
    have hv := BitMath.valB_lt ((D.drop h).take (BitMath.wideOf o))
    have hlen : ((D.drop h).take (BitMath.wideOf o)).length = BitMath.wideOf o := by rw [List.length_take, List.length_drop]; omega
    rw [hlen] at hv
    have hb := num_bound o _ ho4 hv
    rw [BitMath.unwave_long D o h ho hh (by omega) _ rfl]
    generalize BitMath.valB ((D.drop h).take (BitMath.wideOf o)) = v at *
    by_cases he : BitMath.waveOf (BitMath.numOf o v) = D.take (h + BitMath.wideOf o)
    · rw [if_pos he]
      exact ⟨by simp only; omega, by simp only; omega, by simp only; omega, hb.1, hb.2⟩
    · rw [if_neg he]
      simp
theorem unwave_bits (D : List Bool) : (BitMath.unwave D).2.2 ≤ D.length ∧ (BitMath.unwave D).2.2 ≤ 68 ∧ (BitMath.unwave D).1 ≤ 5 ∧ -9223372036854775808 ≤ (BitMath.unwave D).2.1 ∧ (BitMath.unwave D).2.1 ≤ 9223372036854775807 :=
  unwave_bits_at D _ _ rfl rfl (BitMath.onesOf_le D 4)
theorem readTo_succ (bs : List Bool) (f a : Nat) (out : List Int) : readTo bs (f + 1) a out =
    if 0 < (BitMath.unwave (bs.drop a)).1 then ((BitMath.unwave (bs.drop a)).1, [], 0)
    else if (decide (0 < out.length) && far (BitMath.unwave (bs.drop a)).2.1) = true then (2, [], 0)
    else if isTick (nextTick out (BitMath.unwave (bs.drop a)).2.1) = true then readTo bs f (a + (BitMath.unwave (bs.drop a)).2.2) (out ++ [nextTick out (BitMath.unwave (bs.drop a)).2.1])
    else (2, [], 0) := rfl


/-- The cells of ints. -/
def intList (l : List Int) : List Value := l.map (Value.int .i64)
theorem intList_snoc (l : List Int) (x : Int) : intList l ++ [.int .i64 x] = intList (l ++ [x]) := by simp [intList]
theorem own_list {w : World} {base k : Nat} {v : Value} {out : List Int} (h : w.ownsRow base 3 1 v k (intList out)) (hk : 0 < k) (hl : out.length = k) :
    ∃ g cap, v = .slice (some ⟨g, 0, none⟩) k cap ∧ base ≤ g ∧ k ≤ cap ∧ ∀ j, j < k → w.cell? ⟨g, j, none⟩ = some (.int .i64 (out.getD j 0)) := by
  obtain ⟨_, h2⟩ := h
  rcases h2 with ⟨_, h0⟩ | ⟨g, cap, cur, hv, hg, hh, h1, h2, h3, h4⟩
  · omega
  · rw [Nat.mul_one] at h3 h4
    refine ⟨g, cap, hv, hg, h1, fun j hj => ?_⟩
    have e : (cur.toList.take k)[j]? = cur.toList[j]? := by rw [List.getElem?_take_of_lt hj]
    have e2 : w.cell? ⟨g, j, none⟩ = cur[j]? := by simp [World.cell?, hh]
    rw [e2, ← Array.getElem?_toList, ← e, h4, intList, List.getElem?_map, List.getElem?_eq_getElem (by omega), List.getD_eq_getElem?_getD, List.getElem?_eq_getElem (by omega)]
    rfl
theorem own_kept {w w' : World} {base : Nat} {e : TypeId} {s : Nat} {v : Value} {n : Nat} {xs : List Value} (h : w.ownsRow base e s v n xs) (hb : Below w.heap.size w w') : w'.ownsRow base e s v n xs := by
  obtain ⟨h1, h2⟩ := h
  refine ⟨h1, ?_⟩
  rcases h2 with h2 | ⟨g, cap, cur, hv, hg, hh, r⟩
  · exact .inl h2
  · have hl : g < w.heap.size := by
      rcases Nat.lt_or_ge g w.heap.size with h' | h'
      · exact h'
      · rw [Array.getElem?_eq_none h'] at hh; cases hh
    exact .inr ⟨g, cap, cur, hv, hg, (hb.block g hl).trans hh, r⟩
end Go.Proofs.YtdlceolmpcjjiaaGreatDoor
/- The document's ReadMask by its contract. -/
namespace Go.Proofs.YtdlceolmpcjjiaaGreatDoor
open Go.RowKit

theorem Tryz.infoU64 : (Tryz.prog.info? 69).map (fun i => (i.zero, i.size, i.bytes)) = some (some (.int .u64 0), 1, 8) := by kernel_rfl

/-- The cells of values. -/
def u64Cells (vs : List Nat) : List Value := vs.map fun (n : Nat) => .int .u64 (n : Int)
theorem u64Cells_snoc (vs : List Nat) (x : Nat) : u64Cells vs ++ [.int .u64 (x : Int)] = u64Cells (vs ++ [x]) := by simp [u64Cells]
theorem own_u64s {w : World} {base : Nat} {v : Value} {n : Nat} {vs : List Nat} (h : w.ownsRow base 69 1 v n (u64Cells vs)) (hl : vs.length = n) (hv : ∀ x, x ∈ vs → x < 18446744073709551616) (hn : 0 < n) :
    ∃ g cap, v = .slice (some ⟨g, 0, none⟩) n cap ∧ g < w.heap.size ∧ base ≤ g ∧ n ≤ cap ∧ U64s w (some ⟨g, 0, none⟩) n (BitMath.vf vs) := by
  obtain ⟨_, h2⟩ := h
  rcases h2 with ⟨_, h0⟩ | ⟨g, cap, cur, hv', hg, hh, h1, h2, h3, h4⟩
  · omega
  · rw [Nat.mul_one] at h3 h4
    have hgl : g < w.heap.size := by
      rcases Nat.lt_or_ge g w.heap.size with h' | h'
      · exact h'
      · rw [Array.getElem?_eq_none h'] at hh; cases hh
    refine ⟨g, cap, hv', hgl, hg, h1, .inr ⟨g, 0, rfl, fun k hk => ⟨?_, ?_⟩⟩⟩
    · have e0 : w.cell? ⟨g, k, none⟩ = cur[k]? := by simp [World.cell?, hh]
      rw [Nat.zero_add, e0, ← Array.getElem?_toList]
      have e : (cur.toList.take n)[k]? = cur.toList[k]? := by rw [List.getElem?_take_of_lt hk]
      rw [← e, h4, u64Cells, List.getElem?_map, List.getElem?_eq_getElem (by omega)]
      simp [BitMath.vf, List.getElem?_eq_getElem (show k < vs.length by omega)]
    · have : BitMath.vf vs k = vs[k]'(by omega) := by simp [BitMath.vf, List.getElem?_eq_getElem (show k < vs.length by omega)]
      rw [this]
      exact hv _ (List.getElem_mem _)

end Go.Proofs.YtdlceolmpcjjiaaGreatDoor
/- The document's row of a chunk and its chunk, by contracts: RowOf, ChunkOf. -/
namespace Go.Proofs.YtdlceolmpcjjiaaGreatDoor
open Go.RowKit

/-- A row that another one's growth leaves. -/
theorem own_far {w w' : World} {base : Nat} {e : TypeId} {s : Nat} {v : Value} {n : Nat} {xs : List Value} {row : Option Nat} (h : w.ownsRow base e s v n xs) (hg : w.grownBy w' row) (hne : ∀ g, v.ownBlock = some g → row ≠ some g) : w'.ownsRow base e s v n xs := by
  obtain ⟨h1, h2⟩ := h
  refine ⟨h1, ?_⟩
  rcases h2 with h2 | ⟨g, cap, cur, hv, hgb, hh, r⟩
  · exact .inl h2
  · have hl : g < w.heap.size := by
      rcases Nat.lt_or_ge g w.heap.size with h' | h'
      · exact h'
      · rw [Array.getElem?_eq_none h'] at hh; cases hh
    have hx := hne g (by rw [hv]; rfl)
    exact .inr ⟨g, cap, cur, hv, hgb, (hg.block g hl (fun e => hx e.symm)).trans hh, r⟩
theorem own_lt {w : World} {base : Nat} {e : TypeId} {s : Nat} {v : Value} {n : Nat} {xs : List Value} (h : w.ownsRow base e s v n xs) : ∀ g, v.ownBlock = some g → g < w.heap.size ∧ base ≤ g := by
  intro g hg
  rcases h.2 with ⟨rfl, _⟩ | ⟨g', cap, cur, rfl, hgb, hh, _⟩
  · simp [Value.ownBlock] at hg
  · simp [Value.ownBlock] at hg
    subst hg
    refine ⟨?_, hgb⟩
    rcases Nat.lt_or_ge g' w.heap.size with h' | h'
    · exact h'
    · rw [Array.getElem?_eq_none h'] at hh; cases hh
theorem grown_far {w wr w1 : World} {v : Value} {o : Obj} {e : TypeId} {s n : Nat} {xs : List Value} (hb : Below w.heap.size w wr) (hown : wr.ownsRow w.heap.size e s v n xs) (hgrow : (wr.alloc o).grownBy w1 v.ownBlock) : Below w.heap.size w w1 := by
  have hba : Below w.heap.size w (wr.alloc o) := hb.alloc hb.size _
  refine hba.trans ⟨hgrow.os, hgrow.tape, hgrow.output, hgrow.size, fun k hk => hgrow.block k (Nat.lt_of_lt_of_le hk hba.size) ?_⟩
  intro he
  have := (own_lt hown k he.symm).2
  omega
/-- The bits of a chunk. -/
def rowBits (T : Nat → Int) (B : Nat → Nat) (n : Nat) : List Bool := BitMath.bitsOf n 8 ++ ticksTo T n ++ BitMath.maskTo B n
theorem length_rowBits (T : Nat → Int) (B : Nat → Nat) (n : Nat) : (rowBits T B n).length ≤ 8 + 145 * n := by
  have h1 := length_ticksTo T n
  have h2 := BitMath.length_maskTo B n
  simp only [rowBits, List.length_append, BitMath.length_bitsOf]
  omega
def firstInts (T : Nat → Int) (n : Nat) : List Int := (List.range n).map T
def firstNats (B : Nat → Nat) (n : Nat) : List Nat := (List.range n).map B
theorem firstInts_step (T : Nat → Int) (k : Nat) : firstInts T (k + 1) = firstInts T k ++ [T k] := by simp [firstInts, List.range_succ]
theorem firstNats_step (B : Nat → Nat) (k : Nat) : firstNats B (k + 1) = firstNats B k ++ [B k] := by simp [firstNats, List.range_succ]
theorem vf_first (B : Nat → Nat) (n i : Nat) (h : i < n) : BitMath.vf (firstNats B n) i = B i := by simp [BitMath.vf, firstNats, h]
theorem ints_own {w : World} {base n : Nat} {v : Value} {T : Nat → Int} (h : w.ownsRow base 3 1 v n (intList (firstInts T n))) : ∃ a c, v = .slice a n c ∧ Ints w a n T := by
  by_cases hn : n = 0
  · subst hn
    rcases h.2 with ⟨rfl, _⟩ | ⟨g, cap, cur, rfl, _⟩
    · exact ⟨none, 0, rfl, .inl rfl⟩
    · exact ⟨_, _, rfl, .inl rfl⟩
  · obtain ⟨g, cap, rfl, _, _, hc⟩ := own_list h (by omega) (by simp [firstInts])
    refine ⟨_, _, rfl, .inr ⟨g, 0, rfl, fun k hk => ?_⟩⟩
    rw [Nat.zero_add, hc k hk]
    simp [firstInts, hk]
theorem u64s_own {w : World} {base n : Nat} {v : Value} {B : Nat → Nat} (h : w.ownsRow base 69 1 v n (u64Cells (firstNats B n))) (hB : ∀ i, i < n → B i < 18446744073709551616) : ∃ a c, v = .slice a n c ∧ U64s w a n B := by
  by_cases hn : n = 0
  · subst hn
    rcases h.2 with ⟨rfl, _⟩ | ⟨g, cap, cur, rfl, _⟩
    · exact ⟨none, 0, rfl, .inl rfl⟩
    · exact ⟨_, _, rfl, .inl rfl⟩
  · obtain ⟨g, cap, rfl, _, _, _, hU⟩ := own_u64s h (by simp [firstNats]) (by
      intro x hx
      simp [firstNats] at hx
      obtain ⟨i, hi, rfl⟩ := hx
      exact hB i hi) (by omega)
    refine ⟨_, _, rfl, ?_⟩
    rcases hU with h0 | ⟨b, o, e, hc⟩
    · omega
    · refine .inr ⟨b, o, e, fun k hk => ?_⟩
      have := hc k hk
      rw [vf_first B n k hk] at this
      exact this

/-- The bytes of a chunk. -/
def chunkBytes (T : Nat → Int) (B : Nat → Nat) (n : Nat) : List UInt8 := BitMath.sealOf (BitMath.pack (rowBits T B n))
end Go.Proofs.YtdlceolmpcjjiaaGreatDoor
/- Ticks that were put are read: mathematics over the document's ReadTicks. -/
namespace Go.Proofs.YtdlceolmpcjjiaaGreatDoor

/-- The first k of ticks. -/
def firstTicks (G : Nat → Int) (k : Nat) : List Int := (List.range k).map G
theorem length_firstTicks (G : Nat → Int) (k : Nat) : (firstTicks G k).length = k := by simp [firstTicks]
theorem firstTicks_step (G : Nat → Int) (k : Nat) : firstTicks G (k + 1) = firstTicks G k ++ [G k] := by simp [firstTicks, List.range_succ]
theorem getD_firstTicks (G : Nat → Int) (k i : Nat) (h : i < k) : (firstTicks G k).getD i 0 = G i := by simp [firstTicks, h]
theorem ticksTo_split (G : Nat → Int) (k : Nat) : ∀ n, k < n → ∃ R, ticksTo G n = ticksTo G k ++ (BitMath.waveOf (deltaOf G k) ++ R)
  | 0, h => absurd h (by omega)
  | n + 1, h => by
    rcases Nat.lt_or_ge k n with h1 | h1
    · obtain ⟨R, hR⟩ := ticksTo_split G k n h1
      exact ⟨R ++ BitMath.waveOf (deltaOf G n), by rw [ticksTo, hR]; simp [List.append_assoc]⟩
    · have : k = n := by omega
      subst this
      exact ⟨[], by rw [ticksTo, List.append_nil]⟩
theorem next_first (G : Nat → Int) (k : Nat) : nextTick (firstTicks G k) (deltaOf G k) = G k := by
  unfold nextTick
  rw [length_firstTicks]
  by_cases h0 : k = 0
  · subst h0
    simp [deltaOf]
  · by_cases h1 : k = 1
    · subst h1
      rw [if_pos (by omega), if_neg (by omega), getD_firstTicks G 1 (1 - 1) (by omega)]
      simp [deltaOf]
    · rw [if_pos (by omega), if_pos (by omega), getD_firstTicks G k (k - 1) (by omega), getD_firstTicks G k (k - 2) (by omega)]
      unfold deltaOf
      rw [if_neg h0, if_neg h1]
      omega

theorem readTo_ticks (G : Nat → Int) (n : Nat) (P R : List Bool) (hok : ∀ i, i < n → -1099511627776 ≤ G i ∧ G i ≤ 1099511627776) : ∀ m k, k + m = n →
    readTo (P ++ (ticksTo G n ++ R)) m (P.length + (ticksTo G k).length) (firstTicks G k) = (0, firstTicks G n, P.length + (ticksTo G n).length)
  | 0, k, h => by
    have : k = n := by omega
    subst this
    rfl
  | m + 1, k, h => by
    have ih := readTo_ticks G n P R hok m (k + 1) (by omega)
    obtain ⟨Q, hQ⟩ := ticksTo_split G k n (by omega)
    have hd : (P ++ (ticksTo G n ++ R)).drop (P.length + (ticksTo G k).length) = BitMath.waveOf (deltaOf G k) ++ (Q ++ R) := by
      rw [← List.drop_drop, List.drop_left, hQ, List.append_assoc, List.drop_left, List.append_assoc]
    have hb := course_bounds G n k (by omega) hok
    have hk := hok k (by omega)
    have hde := course_delta G k
    have hu := BitMath.unwave_wave (deltaOf G k) (Q ++ R) (by omega) (by omega)
    rw [readTo_succ, hd, hu]
    simp only
    have hfar : far (deltaOf G k) = false := by
      unfold far
      rw [decide_eq_false (by omega), decide_eq_false (by omega)]
      rfl
    rw [if_neg (by omega), hfar, Bool.and_false, if_neg (by decide), next_first, if_pos ((isTick_iff _).2 hk), ← firstTicks_step]
    rw [length_ticksTo_step] at ih
    rw [Nat.add_assoc]
    exact ih
end Go.Proofs.YtdlceolmpcjjiaaGreatDoor
/- What is a chunk, and how it parts: mathematics over the document's answers. -/
namespace Go.Proofs.YtdlceolmpcjjiaaGreatDoor

/-- Bytes that are a chunk of right points. -/
def IsChunk (l : List UInt8) : Prop := ∃ (n : Nat) (T : Nat → Int) (B : Nat → Nat), n ≤ 120 ∧ (∀ i, i < n → ptOk T i = true) ∧ (∀ i, i < n → B i < 18446744073709551616) ∧ l = chunkBytes T B n

theorem ptOk_tick (T : Nat → Int) (i : Nat) (h : ptOk T i = true) : -1099511627776 ≤ T i ∧ T i ≤ 1099511627776 := by
  unfold ptOk at h
  simp only [Bool.and_eq_true] at h
  exact (isTick_iff _).1 h.1
theorem length_fourOf (n : Nat) : (BitMath.fourOf n).length = 4 := rfl
theorem sealOf_take (b : List UInt8) : (BitMath.sealOf b).take ((BitMath.sealOf b).length - 4) = b := by
  unfold BitMath.sealOf
  rw [List.length_append, length_fourOf, Nat.add_sub_cancel, List.take_left]

theorem bits_bytes_pack (bs : List Bool) : ∃ Z, BitMath.bitsOfBytes (BitMath.pack bs) = bs ++ Z := by
  refine ⟨(BitMath.bitsOfBytes (BitMath.pack bs)).drop bs.length, ?_⟩
  have := BitMath.bytes_pack bs
  exact ((congrArg (fun x => x ++ (BitMath.bitsOfBytes (BitMath.pack bs)).drop bs.length) this).symm.trans (List.take_append_drop _ _)).symm

/-- A chunk's parts, one behind the other. -/
theorem chunk_parse (l : List UInt8) (n : Nat) (T : Nat → Int) (B : Nat → Nat) (hn : n ≤ 120) (hT : ∀ i, i < n → ptOk T i = true) (hB : ∀ i, i < n → B i < 18446744073709551616) (hl : l = chunkBytes T B n) :
    5 ≤ l.length ∧ l.take (l.length - 4) = BitMath.pack (rowBits T B n) ∧ BitMath.sealOf (l.take (l.length - 4)) = l ∧
    BitMath.valB ((BitMath.bitsOfBytes (l.take (l.length - 4))).take 8) = n ∧
    readTo (BitMath.bitsOfBytes (l.take (l.length - 4))) n 8 [] = (0, firstTicks T n, 8 + (ticksTo T n).length) ∧
    ∃ u, BitMath.maskRead ((BitMath.bitsOfBytes (l.take (l.length - 4))).drop (8 + (ticksTo T n).length)) n = (0, BitMath.firstV B n, u) := by
  have hb : l.take (l.length - 4) = BitMath.pack (rowBits T B n) := by rw [hl]; exact sealOf_take _
  have hlr : 8 ≤ (rowBits T B n).length := by simp only [rowBits, List.length_append, BitMath.length_bitsOf]; omega
  have hlp := BitMath.length_pack (rowBits T B n)
  have hll : l.length = (BitMath.pack (rowBits T B n)).length + 4 := by rw [hl, chunkBytes, BitMath.sealOf, List.length_append, length_fourOf]
  obtain ⟨Z, hZ⟩ := bits_bytes_pack (rowBits T B n)
  have hD : BitMath.bitsOfBytes (l.take (l.length - 4)) = BitMath.bitsOf n 8 ++ (ticksTo T n ++ (BitMath.maskTo B n ++ Z)) := by
    rw [hb, hZ, rowBits]
    simp only [List.append_assoc]
  have h8 : (BitMath.bitsOf n 8).length = 8 := BitMath.length_bitsOf _ _
  refine ⟨by omega, hb, by rw [hb, hl]; rfl, ?_, ?_, ?_⟩
  · rw [hD, List.take_left' h8, BitMath.valB_bitsOf]
    exact Nat.mod_eq_of_lt (by omega)
  · have := readTo_ticks T n (BitMath.bitsOf n 8) (BitMath.maskTo B n ++ Z) (fun i hi => ptOk_tick T i (hT i hi)) n 0 (by omega)
    rw [h8] at this
    rw [hD]
    exact this
  · refine ⟨(BitMath.maskTo B n).length, ?_⟩
    have hd : (BitMath.bitsOfBytes (l.take (l.length - 4))).drop (8 + (ticksTo T n).length) = BitMath.maskTo B n ++ Z := by
      rw [hD, ← List.drop_drop, List.drop_left' h8, List.drop_left]
    rw [hd]
    exact BitMath.maskRead_mask B n Z hB n (Nat.le_refl _)

theorem ticksTo_congr (T U : Nat → Int) : ∀ k, (∀ i, i < k → T i = U i) → ticksTo T k = ticksTo U k
  | 0, _ => rfl
  | k + 1, h => by
    have hd : deltaOf T k = deltaOf U k := by
      unfold deltaOf
      by_cases h0 : k = 0
      · subst h0
        rw [if_pos rfl, if_pos rfl, h 0 (by omega)]
      · by_cases h1 : k = 1
        · subst h1
          rw [if_neg h0, if_pos rfl, if_neg h0, if_pos rfl, h 0 (by omega), h 1 (by omega)]
        · rw [if_neg h0, if_neg h1, if_neg h0, if_neg h1, h k (by omega), h (k - 1) (by omega), h (k - 2) (by omega)]
    rw [ticksTo, ticksTo, ticksTo_congr T U k (fun i hi => h i (by omega)), hd]
theorem rowBits_congr (T U : Nat → Int) (B C : Nat → Nat) (n : Nat) (hT : ∀ i, i < n → T i = U i) (hB : ∀ i, i < n → B i = C i) : rowBits T B n = rowBits U C n := by
  unfold rowBits
  rw [ticksTo_congr T U n hT, BitMath.maskTo_congr B C n hB]
theorem ptOk_congr (T U : Nat → Int) (n : Nat) (hT : ∀ i, i < n → T i = U i) (i : Nat) (hi : i < n) : ptOk T i = ptOk U i := by
  unfold ptOk
  rw [hT i hi, hT (i - 1) (by omega)]
end Go.Proofs.YtdlceolmpcjjiaaGreatDoor
/- The document's Unchunk by its contract. -/
namespace Go.Proofs.YtdlceolmpcjjiaaGreatDoor
open Go.RowKit

theorem Tryz.infoPoint : (Tryz.prog.info? 71).map (fun i => (i.zero, i.size, i.bytes)) = some (some (.agg #[.int .i64 0, .int .u64 0]), 2, 16) := by kernel_rfl
/-- The cells of points. -/
def ptCells (T : Nat → Int) (B : Nat → Nat) : Nat → List Value
  | 0 => []
  | k + 1 => ptCells T B k ++ [.int .i64 (T k), .int .u64 (B k : Int)]
theorem length_ptCells (T : Nat → Int) (B : Nat → Nat) : ∀ n, (ptCells T B n).length = n * 2
  | 0 => rfl
  | n + 1 => by rw [ptCells, List.length_append, length_ptCells T B n]; simp; omega
theorem ptCells_at (T : Nat → Int) (B : Nat → Nat) : ∀ n k, k < n → (ptCells T B n)[k * 2]? = some (.int .i64 (T k)) ∧ (ptCells T B n)[k * 2 + 1]? = some (.int .u64 (B k : Int))
  | 0, k, h => absurd h (by omega)
  | n + 1, k, h => by
    have hl := length_ptCells T B n
    rcases Nat.lt_or_ge k n with h1 | h1
    · obtain ⟨a, b⟩ := ptCells_at T B n k h1
      rw [ptCells, List.getElem?_append_left (by omega), List.getElem?_append_left (by omega)]
      exact ⟨a, b⟩
    · have : k = n := by omega
      subst this
      rw [ptCells, List.getElem?_append_right (by omega), List.getElem?_append_right (by omega), hl]
      simp
theorem pts_own {w : World} {base n : Nat} {v : Value} {T : Nat → Int} {B : Nat → Nat} (h : w.ownsRow base 71 2 v n (ptCells T B n)) (hT : ∀ i, i < n → -9223372036854775808 ≤ T i ∧ T i ≤ 9223372036854775807) (hB : ∀ i, i < n → B i < 18446744073709551616) : ∃ a c, v = .slice a n c ∧ Pts w a n T B := by
  obtain ⟨_, h2⟩ := h
  rcases h2 with ⟨rfl, h0⟩ | ⟨g, cap, cur, hv, hg, hh, h1, h2, h3, h4⟩
  · subst h0
    exact ⟨none, 0, rfl, .inl rfl⟩
  · refine ⟨_, _, hv, .inr ⟨g, 0, rfl, fun k hk => ?_⟩⟩
    obtain ⟨c0, c1⟩ := ptCells_at T B n k hk
    rw [← h4] at c0 c1
    rw [List.getElem?_take_of_lt (by omega)] at c0 c1
    rw [Array.getElem?_toList] at c0 c1
    refine ⟨?_, ?_, (hT k hk).1, (hT k hk).2, hB k hk⟩
    · simp only [World.cell?, hh, Nat.zero_add]
      exact c0
    · simp only [World.cell?, hh, Nat.zero_add]
      exact c1

theorem str_beq (a b : ByteArray) : (a.toList == b.toList) = decide (a.data.toList = b.data.toList) := by
  rw [ByteArray.toList_eq, ByteArray.toList_eq]
  by_cases h : a.data.toList = b.data.toList
  · simp [h]
  · rw [decide_eq_false h, beq_eq_false_iff_ne]
    exact h

theorem first_bad (p : Nat → Bool) : ∀ n, ∃ m, m ≤ n ∧ (∀ i, i < m → p i = true) ∧ (m < n → p m = false)
  | 0 => ⟨0, Nat.le_refl _, fun i hi => absurd hi (by omega), fun h => absurd h (by omega)⟩
  | n + 1 => by
    obtain ⟨m, hm, h1, h2⟩ := first_bad p n
    rcases Nat.lt_or_ge m n with h | h
    · exact ⟨m, by omega, h1, fun _ => h2 h⟩
    · have : m = n := by omega
      subst this
      cases hp : p m with
      | true =>
        refine ⟨m + 1, Nat.le_refl _, fun i hi => ?_, fun h => absurd h (by omega)⟩
        rcases Nat.lt_or_ge i m with h3 | h3
        · exact h1 i h3
        · have : i = m := by omega
          subst this
          exact hp
      | false => exact ⟨m, by omega, h1, fun _ => hp⟩
theorem own_base {w : World} {base base' : Nat} {e : TypeId} {s : Nat} {v : Value} {n : Nat} {xs : List Value} (h : w.ownsRow base e s v n xs) (hb : base' ≤ base) : w.ownsRow base' e s v n xs := by
  obtain ⟨h1, h2⟩ := h
  refine ⟨h1, ?_⟩
  rcases h2 with h2 | ⟨g, cap, cur, hv, hg, r⟩
  · exact .inl h2
  · exact .inr ⟨g, cap, cur, hv, Nat.le_trans hb hg, r⟩
/-- A cell below a row's base, behind the row's growth. -/
theorem cell_grown {wr X w7 : World} {o : Obj} {g k base n sz : Nat} {c v : Value} {e : TypeId} {xs : List Value} (hX : X.heap = (wr.alloc o).heap) (hown : wr.ownsRow base e sz v n xs) (hgrow : X.grownBy w7 v.ownBlock) (hg : g < base) (hc : wr.cell? ⟨g, k, none⟩ = some c) : w7.cell? ⟨g, k, none⟩ = some c := by
  have hl : g < wr.heap.size := World.block_lt_of_cell? wr ⟨g, k, none⟩ hc
  have h1 : w7.heap[g]? = wr.heap[g]? := by
    rw [hgrow.block g (by rw [hX]; simp; omega) (fun h => by have := (own_lt hown g h.symm).2; omega), hX]
    exact Below.heap_alloc wr o g hl
  simp only [World.cell?, h1] at hc ⊢
  exact hc
/-- What grew, behind a draw. -/
theorem below_grown {w5 wr X w7 : World} {o : Obj} {n sz : Nat} {v : Value} {e : TypeId} {xs : List Value} (hX : X.heap = (wr.alloc o).heap) (ho : X.os = wr.os) (ht : X.tape = wr.tape) (hu : X.output = wr.output) (hb : Below w5.heap.size w5 wr) (hown : wr.ownsRow w5.heap.size e sz v n xs) (hgrow : X.grownBy w7 v.ownBlock) : Below w5.heap.size w5 w7 := by
  have hs := hb.size
  have hsz : wr.heap.size ≤ X.heap.size := by rw [hX]; simp
  refine hb.trans ⟨hgrow.os.trans ho, hgrow.tape.trans ht, hgrow.output.trans hu, Nat.le_trans hsz hgrow.size, fun k hk => ?_⟩
  rw [hgrow.block k (by omega) (fun h => by have := (own_lt hown k h.symm).2; omega), hX]
  exact Below.heap_alloc wr o k (by omega)

end Go.Proofs.YtdlceolmpcjjiaaGreatDoor
/- Numbers read first, then made ticks: what package wave does, against the document's way, tick by tick. -/
namespace Go.Proofs.YtdlceolmpcjjiaaGreatDoor

/-- k numbers: an error's number, the numbers, how many bits. -/
def readNums (D : List Bool) : Nat → Nat × List Int × Nat
  | 0 => (0, [], 0)
  | k + 1 =>
    if (readNums D k).1 ≠ 0 then readNums D k
    else if (BitMath.unwave (D.drop (readNums D k).2.2)).1 ≠ 0 then ((BitMath.unwave (D.drop (readNums D k).2.2)).1, [], 0)
    else (0, (readNums D k).2.1 ++ [(BitMath.unwave (D.drop (readNums D k).2.2)).2.1], (readNums D k).2.2 + (BitMath.unwave (D.drop (readNums D k).2.2)).2.2)
theorem readNums_bad (D : List Bool) (k u : Nat) (ns : List Int) (c : Nat) (h : readNums D k = (0, ns, u)) (hs : (BitMath.unwave (D.drop u)).1 = c) (hc : c ≠ 0) : ∀ n, k < n → (readNums D n).1 ≠ 0
  | 0, hn => absurd hn (by omega)
  | n + 1, hn => by
    rcases Nat.lt_or_ge k n with h1 | h1
    · have ih := readNums_bad D k u ns c h hs hc n h1
      rw [readNums, if_pos ih]
      exact ih
    · have : k = n := by omega
      subst this
      rw [readNums, h, if_neg (by simp), if_pos (by simp only; rw [hs]; exact hc)]
      simp only
      rw [hs]
      exact hc
theorem readNums_good (D : List Bool) (k u b : Nat) (ns : List Int) (x : Int) (h : readNums D k = (0, ns, u)) (hs : BitMath.unwave (D.drop u) = (0, x, b)) : readNums D (k + 1) = (0, ns ++ [x], u + b) := by
  rw [readNums, h, if_neg (by simp)]
  simp only
  rw [hs, if_neg (by simp)]

/-- Numbers as ticks, behind those that are there; none where one is out of bounds. -/
def ticksBy : List Int → List Int → Option (List Int)
  | out, [] => some out
  | out, x :: r => if isTick (nextTick out x) = true then ticksBy (out ++ [nextTick out x]) r else none
theorem ticksBy_snoc : ∀ (l out : List Int) (x : Int), ticksBy out (l ++ [x]) = (ticksBy out l).bind fun o => if isTick (nextTick o x) = true then some (o ++ [nextTick o x]) else none
  | [], out, x => by
    simp only [List.nil_append, ticksBy, Option.bind_some]
  | y :: r, out, x => by
    simp only [List.cons_append, ticksBy]
    split
    · exact ticksBy_snoc r _ x
    · rfl

def AllTicks (l : List Int) : Prop := ∀ t, t ∈ l → -1099511627776 ≤ t ∧ t ≤ 1099511627776
theorem AllTicks.at {l : List Int} (h : AllTicks l) (i : Nat) (hi : i < l.length) : -1099511627776 ≤ l.getD i 0 ∧ l.getD i 0 ≤ 1099511627776 := by
  rw [List.getD_eq_getElem?_getD, List.getElem?_eq_getElem hi]
  exact h _ (List.getElem_mem hi)
theorem AllTicks.snoc {l : List Int} (h : AllTicks l) (x : Int) (hx : isTick x = true) : AllTicks (l ++ [x]) := by
  intro t ht
  rcases List.mem_append.1 ht with h1 | h1
  · exact h t h1
  · simp at h1
    rw [h1]
    exact (isTick_iff x).1 hx
/-- What is beyond all ticks makes none. -/
theorem far_none (out : List Int) (t : Int) (h : AllTicks out) (h0 : 0 < out.length) (hf : far t = true) : isTick (nextTick out t) = false := by
  have h1 := h.at (out.length - 1) (by omega)
  have hb : ∃ d : Int, nextTick out t = t + out.getD (out.length - 1) 0 + d ∧ -2199023255552 ≤ d ∧ d ≤ 2199023255552 := by
    unfold nextTick
    rw [if_pos h0]
    by_cases h2 : 1 < out.length
    · have h3 := h.at (out.length - 2) (by omega)
      rw [if_pos h2]
      exact ⟨_, rfl, by omega, by omega⟩
    · rw [if_neg h2]
      exact ⟨0, rfl, by omega, by omega⟩
  obtain ⟨d, e, hd⟩ := hb
  unfold far at hf
  simp at hf
  unfold isTick
  rw [e]
  generalize out.getD (out.length - 1) 0 = z at *
  simp
  omega

theorem good_or_bad (D : List Bool) : ∀ n, (∃ ns u ts, readNums D n = (0, ns, u) ∧ ticksBy [] ns = some ts ∧ AllTicks ts ∧ ts.length = n ∧ ns.length = n ∧ ∀ f, readTo D (f + n) 0 [] = readTo D f u ts) ∨
    ((∀ f, (readTo D (f + n) 0 []).1 ≠ 0) ∧ ((readNums D n).1 ≠ 0 ∨ ∃ ns u, readNums D n = (0, ns, u) ∧ ticksBy [] ns = none))
  | 0 => .inl ⟨[], 0, [], rfl, rfl, fun t ht => absurd ht (by simp), rfl, rfl, fun _ => rfl⟩
  | n + 1 => by
    rcases good_or_bad D n with ⟨ns, u, ts, hn, ht, hall, hl, hln, hr⟩ | ⟨hbad, hwhy⟩
    · have hr1 : ∀ f, readTo D (f + (n + 1)) 0 [] = readTo D (f + 1) u ts := fun f => by rw [show f + (n + 1) = (f + 1) + n by omega]; exact hr (f + 1)
      obtain ⟨c, x, b, hp⟩ : ∃ c x b, BitMath.unwave (D.drop u) = (c, x, b) := ⟨_, _, _, rfl⟩
      by_cases hc : c = 0
      · subst hc
        have hng := readNums_good D n u b ns x hn hp
        have hts : ticksBy [] (ns ++ [x]) = if isTick (nextTick ts x) = true then some (ts ++ [nextTick ts x]) else none := by rw [ticksBy_snoc, ht]; rfl
        by_cases hi : isTick (nextTick ts x) = true
        · have hnf : ¬ (decide (0 < ts.length) && far x) = true := by
            intro h
            simp at h
            have := far_none ts x hall (by omega) h.2
            rw [hi] at this
            cases this
          rw [if_pos hi] at hts
          refine .inl ⟨_, _, _, hng, hts, hall.snoc _ hi, by simp [hl], by simp [hln], fun f => ?_⟩
          rw [hr1 f, readTo_succ, hp]
          simp only
          rw [if_neg (by omega), if_neg hnf, if_pos hi]
        · rw [if_neg hi] at hts
          refine .inr ⟨fun f => ?_, .inr ⟨_, _, hng, hts⟩⟩
          rw [hr1 f, readTo_succ, hp]
          simp only
          rw [if_neg (by omega)]
          rw [if_neg hi]
          split <;> simp
      · refine .inr ⟨fun f => ?_, .inl (readNums_bad D n u ns c hn (by rw [hp]) hc (n + 1) (by omega))⟩
        rw [hr1 f, readTo_succ, hp]
        simp only
        rw [if_pos (by omega)]
        exact hc
    · refine .inr ⟨fun f => by rw [show f + (n + 1) = (f + 1) + n by omega]; exact hbad (f + 1), ?_⟩
      rcases hwhy with h | ⟨ns, u, hn, ht⟩
      · refine .inl ?_
        rw [readNums, if_pos h]
        exact h
      · obtain ⟨c, x, b, hp⟩ : ∃ c x b, BitMath.unwave (D.drop u) = (c, x, b) := ⟨_, _, _, rfl⟩
        by_cases hc : c = 0
        · subst hc
          exact .inr ⟨_, _, readNums_good D n u b ns x hn hp, by rw [ticksBy_snoc, ht]; rfl⟩
        · exact .inl (readNums_bad D n u ns c hn (by rw [hp]) hc (n + 1) (by omega))
end Go.Proofs.YtdlceolmpcjjiaaGreatDoor
/- A chunk's parts as packages wave and mask read them: numbers first, then ticks, then values. Mathematics. -/
namespace Go.Proofs.YtdlceolmpcjjiaaGreatDoor

theorem chunk_read (l : List UInt8) (n : Nat) (T : Nat → Int) (B : Nat → Nat) (hn : n ≤ 120) (hT : ∀ i, i < n → ptOk T i = true) (hB : ∀ i, i < n → B i < 18446744073709551616) (hl : l = chunkBytes T B n) :
    ∃ ns u, readNums ((BitMath.bitsOfBytes (l.take (l.length - 4))).drop 8) n = (0, ns, (ticksTo T n).length) ∧ ticksBy [] ns = some (firstTicks T n) ∧
      BitMath.maskRead (((BitMath.bitsOfBytes (l.take (l.length - 4))).drop 8).drop (ticksTo T n).length) n = (0, BitMath.firstV B n, u) := by
  obtain ⟨_, hb, _, _, _, u, hu⟩ := chunk_parse l n T B hn hT hB hl
  obtain ⟨Z, hZ⟩ := bits_bytes_pack (rowBits T B n)
  have hD : (BitMath.bitsOfBytes (l.take (l.length - 4))).drop 8 = ticksTo T n ++ (BitMath.maskTo B n ++ Z) := by
    rw [hb, hZ, rowBits]
    simp only [List.append_assoc]
    exact List.drop_left' (BitMath.length_bitsOf _ _)
  have hr := readTo_ticks T n [] (BitMath.maskTo B n ++ Z) (fun i hi => ptOk_tick T i (hT i hi)) n 0 (by omega)
  simp only [List.nil_append, List.length_nil, ticksTo, Nat.zero_add] at hr
  rw [← hD] at hr
  rw [← List.drop_drop] at hu
  rcases good_or_bad ((BitMath.bitsOfBytes (l.take (l.length - 4))).drop 8) n with ⟨ns, u1, ts, h1, h2, _, _, _, h3⟩ | ⟨h1, _⟩
  · have h4 := h3 0
    rw [Nat.zero_add] at h4
    have h5 : readTo ((BitMath.bitsOfBytes (l.take (l.length - 4))).drop 8) 0 u1 ts = (0, ts, u1) := rfl
    have h6 : (0, firstTicks T n, (ticksTo T n).length) = (0, ts, u1) := hr.symm.trans (h4.trans h5)
    injection h6 with _ h7
    injection h7 with h8 h9
    rw [← h9] at h1
    rw [← h8] at h2
    exact ⟨ns, u, h1, h2, hu⟩
  · have h4 := h1 0
    rw [Nat.zero_add] at h4
    exact absurd (congrArg Prod.fst hr) h4

/-- What is read of a chunk is what was put. -/
theorem chunk_is (l : List UInt8) (n : Nat) (T : Nat → Int) (B : Nat → Nat) (hn : n ≤ 120) (hT : ∀ i, i < n → ptOk T i = true) (hB : ∀ i, i < n → B i < 18446744073709551616) (hl : l = chunkBytes T B n)
    (ns ts : List Int) (vs : List Nat) (u u2 : Nat) (h1 : readNums ((BitMath.bitsOfBytes (l.take (l.length - 4))).drop 8) n = (0, ns, u)) (h2 : ticksBy [] ns = some ts)
    (h3 : BitMath.maskRead (((BitMath.bitsOfBytes (l.take (l.length - 4))).drop 8).drop u) n = (0, vs, u2)) :
    ts = firstTicks T n ∧ vs = BitMath.firstV B n := by
  obtain ⟨ns', u', k1, k2, k3⟩ := chunk_read l n T B hn hT hB hl
  have e1 := h1.symm.trans k1
  injection e1 with _ e2
  injection e2 with e3 e4
  subst e3 e4
  have e5 := h2.symm.trans k2
  injection e5 with e6
  have e7 := h3.symm.trans k3
  injection e7 with _ e8
  injection e8 with e9 _
  exact ⟨e6, e9⟩
theorem chunk_same (T U : Nat → Int) (B C : Nat → Nat) (n m : Nat) (hn : n ≤ 120) (hm : m ≤ 120) (hT : ∀ i, i < n → ptOk T i = true) (hU : ∀ i, i < m → ptOk U i = true) (hB : ∀ i, i < n → B i < 18446744073709551616) (hC : ∀ i, i < m → C i < 18446744073709551616) (h : chunkBytes T B n = chunkBytes U C m) :
    n = m ∧ (∀ i, i < n → T i = U i) ∧ ∀ i, i < n → B i = C i := by
  obtain ⟨_, _, _, a4, _⟩ := chunk_parse _ n T B hn hT hB rfl
  obtain ⟨_, _, _, b4, _⟩ := chunk_parse _ m U C hm hU hC rfl
  rw [h] at a4
  have hnm : n = m := a4.symm.trans b4
  subst hnm
  obtain ⟨ns, u, k1, k2, k3⟩ := chunk_read _ n T B hn hT hB rfl
  rw [h] at k1 k3
  obtain ⟨e1, e2⟩ := chunk_is _ n U C hm hU hC rfl ns _ _ _ _ k1 k2 k3
  refine ⟨rfl, fun i hi => ?_, fun i hi => ?_⟩
  · have := congrArg (fun z => z.getD i 0) e1
    simp only [getD_firstTicks _ _ _ hi] at this
    exact this
  · have := congrArg (fun z => BitMath.vf z i) e2
    simpa [BitMath.vf, BitMath.firstV, hi] using this
end Go.Proofs.YtdlceolmpcjjiaaGreatDoor
