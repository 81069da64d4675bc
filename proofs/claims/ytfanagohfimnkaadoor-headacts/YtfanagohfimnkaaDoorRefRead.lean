/- The document's ReadTicks, by its contract. -/
import Derived.Test.YtfanagohfimnkaaDoorRefTicksGroup
import Derived.Deep.AppendLies
import Derived.Deep.DeepCutAuto
namespace Go.Proofs.YtfanagohfimnkaaDoor
open Go.RowKit

/-- What a number that was read says of the next tick, behind those that are there. -/
def nextTick (out : List Int) (t : Int) : Int := t + (if 0 < out.length then out.getD (out.length - 1) 0 else 0) + (if 1 < out.length then out.getD (out.length - 1) 0 - out.getD (out.length - 2) 0 else 0)
/-- A difference beyond all ticks. -/
def far (t : Int) : Bool := decide (8796093022208 < t) || decide (t < -8796093022208)
/-- f ticks more from place a on, behind those that are there: an error's number, the ticks, the place. -/
def readTo (bs : List Bool) : Nat → Nat → List Int → Nat × List Int × Nat
  | 0, a, out => (0, out, a)
  | f + 1, a, out =>
    if 0 < (BitMath.unwave (bs.drop a)).1 then ((BitMath.unwave (bs.drop a)).1, [], 0)
    else if (decide (0 < out.length) && far (BitMath.unwave (bs.drop a)).2.1) = true then (2, [], 0)
    else if isTick (nextTick out (BitMath.unwave (bs.drop a)).2.1) = true then readTo bs f (a + (BitMath.unwave (bs.drop a)).2.2) (out ++ [nextTick out (BitMath.unwave (bs.drop a)).2.1])
    else (2, [], 0)
theorem Tryd.infoIntR : (Tryd.prog.info? 3).map (fun i => (i.zero, i.size, i.bytes)) = some (some (.int .i64 0), 1, 8) := by kernel_rfl

theorem num_bound (o v : Nat) (ho : o ≤ 4) (hv : v < 2 ^ BitMath.wideOf o) : -9223372036854775808 ≤ BitMath.numOf o v ∧ BitMath.numOf o v ≤ 9223372036854775807 := by
  obtain rfl | rfl | rfl | rfl | rfl : o = 0 ∨ o = 1 ∨ o = 2 ∨ o = 3 ∨ o = 4 := by omega
  · simp [BitMath.numOf, BitMath.biasOf, BitMath.wideOf] at hv ⊢; omega
  · simp [BitMath.numOf, BitMath.biasOf, BitMath.wideOf] at hv ⊢; omega
  · simp [BitMath.numOf, BitMath.biasOf, BitMath.wideOf] at hv ⊢; omega
  · simp [BitMath.numOf, BitMath.biasOf, BitMath.wideOf] at hv ⊢; omega
  · have hv' : v < 18446744073709551616 := by have : (2 : Nat) ^ BitMath.wideOf 4 = 18446744073709551616 := rfl; omega
    unfold BitMath.numOf
    rw [if_pos rfl]
    split <;> omega
theorem wide_le (o : Nat) : BitMath.wideOf o ≤ 64 := by unfold BitMath.wideOf; split <;> omega
theorem unwave_bits_at (D : List Bool) (o h : Nat) (ho : BitMath.onesOf D 4 = o) (hh : h = if o < 4 then o + 1 else 4) (ho4 : o ≤ 4) : (BitMath.unwave D).2.2 ≤ D.length ∧ (BitMath.unwave D).2.2 ≤ 68 ∧ (BitMath.unwave D).1 ≤ 5 ∧ -9223372036854775808 ≤ (BitMath.unwave D).2.1 ∧ (BitMath.unwave D).2.1 ≤ 9223372036854775807 := by
  have hh4 : h ≤ 4 := by rw [hh]; split <;> omega
  by_cases hl : D.length < h + BitMath.wideOf o
  · rw [BitMath.unwave_short D o h ho hh hl]
    simp
  · have hw := wide_le o
    have hv := BitMath.valB_lt ((D.drop h).take (BitMath.wideOf o))
    have hlen : ((D.drop h).take (BitMath.wideOf o)).length = BitMath.wideOf o := by rw [List.length_take, List.length_drop]; omega
    rw [hlen] at hv
    have hb := num_bound o _ ho4 hv
    rw [BitMath.unwave_long D o h ho hh (by omega) _ rfl]
    generalize BitMath.valB ((D.drop h).take (BitMath.wideOf o)) = v at *
    by_cases he : BitMath.waveOf (BitMath.numOf o v) = D.take (h + BitMath.wideOf o)
    · rw [if_pos he]
      exact ⟨by simp only; omega, by simp only; omega, by simp only; omega, hb.1, hb.2⟩
    · rw [if_neg he]
      simp
theorem unwave_bits (D : List Bool) : (BitMath.unwave D).2.2 ≤ D.length ∧ (BitMath.unwave D).2.2 ≤ 68 ∧ (BitMath.unwave D).1 ≤ 5 ∧ -9223372036854775808 ≤ (BitMath.unwave D).2.1 ∧ (BitMath.unwave D).2.1 ≤ 9223372036854775807 :=
  unwave_bits_at D _ _ rfl rfl (BitMath.onesOf_le D 4)
theorem readTo_succ (bs : List Bool) (f a : Nat) (out : List Int) : readTo bs (f + 1) a out =
    if 0 < (BitMath.unwave (bs.drop a)).1 then ((BitMath.unwave (bs.drop a)).1, [], 0)
    else if (decide (0 < out.length) && far (BitMath.unwave (bs.drop a)).2.1) = true then (2, [], 0)
    else if isTick (nextTick out (BitMath.unwave (bs.drop a)).2.1) = true then readTo bs f (a + (BitMath.unwave (bs.drop a)).2.2) (out ++ [nextTick out (BitMath.unwave (bs.drop a)).2.1])
    else (2, [], 0) := rfl


/-- The cells of ints. -/
def intList (l : List Int) : List Value := l.map (Value.int .i64)
theorem intList_snoc (l : List Int) (x : Int) : intList l ++ [.int .i64 x] = intList (l ++ [x]) := by simp [intList]
theorem own_list {w : World} {base k : Nat} {v : Value} {out : List Int} (h : w.ownsRow base 3 1 v k (intList out)) (hk : 0 < k) (hl : out.length = k) :
    ∃ g cap, v = .slice (some ⟨g, 0, none⟩) k cap ∧ base ≤ g ∧ k ≤ cap ∧ ∀ j, j < k → w.cell? ⟨g, j, none⟩ = some (.int .i64 (out.getD j 0)) := by
  obtain ⟨_, h2⟩ := h
  rcases h2 with ⟨_, h0⟩ | ⟨g, cap, cur, hv, hg, hh, h1, h2, h3, h4⟩
  · omega
  · rw [Nat.mul_one] at h3 h4
    refine ⟨g, cap, hv, hg, h1, fun j hj => ?_⟩
    have e : (cur.toList.take k)[j]? = cur.toList[j]? := by rw [List.getElem?_take_of_lt hj]
    have e2 : w.cell? ⟨g, j, none⟩ = cur[j]? := by simp [World.cell?, hh]
    rw [e2, ← Array.getElem?_toList, ← e, h4, intList, List.getElem?_map, List.getElem?_eq_getElem (by omega), List.getD_eq_getElem?_getD, List.getElem?_eq_getElem (by omega)]
    rfl
theorem own_kept {w w' : World} {base : Nat} {e : TypeId} {s : Nat} {v : Value} {n : Nat} {xs : List Value} (h : w.ownsRow base e s v n xs) (hb : Below w.heap.size w w') : w'.ownsRow base e s v n xs := by
  obtain ⟨h1, h2⟩ := h
  refine ⟨h1, ?_⟩
  rcases h2 with h2 | ⟨g, cap, cur, hv, hg, hh, r⟩
  · exact .inl h2
  · have hl : g < w.heap.size := by
      rcases Nat.lt_or_ge g w.heap.size with h' | h'
      · exact h'
      · rw [Array.getElem?_eq_none h'] at hh; cases hh
    exact .inr ⟨g, cap, cur, hv, hg, (hb.block g hl).trans hh, r⟩
theorem grown_ints {w wr w1 : World} {v : Value} {C : Array Value} {n : Nat} {xs : List Value} (hb : Below w.heap.size w wr) (hown : wr.ownsRow w.heap.size 3 1 v n xs) (hgrow : (wr.alloc (.cells C 3)).grownBy w1 v.ownBlock) : Below w.heap.size w w1 := by
  have hba : Below w.heap.size w (wr.alloc (.cells C 3)) := hb.alloc hb.size _
  refine hba.trans ⟨hgrow.os, hgrow.tape, hgrow.output, hgrow.size, fun k hk => hgrow.block k (Nat.lt_of_lt_of_le hk hba.size) ?_⟩
  intro e
  rcases hown.2 with ⟨rfl, _⟩ | ⟨g, cap, cur, rfl, hg, _⟩
  · simp [Value.ownBlock] at e
  · simp [Value.ownBlock] at e
    omega
theorem getD_in (l : List Int) (i : Nat) (h : i < l.length) : l.getD i 0 ∈ l := by
  rw [List.getD_eq_getElem?_getD, List.getElem?_eq_getElem h, Option.getD_some]
  exact List.getElem_mem h

/-- What ReadTicks answers. -/
def TicksOut (w w' : World) (bs : List Bool) (a0 n : Nat) (e : Ending) : Prop :=
  Below w.heap.size w w' ∧ ((∃ (out : List Int) (a : Nat) (v : Value), readTo bs n a0 [] = (0, out, a) ∧ e = .returned (.tuple #[v, .int .i64 ((a : Int) - (a0 : Int)), .int .i64 0]) ∧ out.length = n ∧ a0 ≤ a ∧ a ≤ bs.length ∧ w'.ownsRow w.heap.size 3 1 v n (intList out) ∧ (∀ x, x ∈ out → isTick x = true)) ∨
    (∃ c : Nat, c ≠ 0 ∧ readTo bs n a0 [] = (c, [], 0) ∧ e = .returned (.tuple #[.slice none 0 0, .int .i64 0, .int .i64 (c : Int)])))

end Go.Proofs.YtfanagohfimnkaaDoor
