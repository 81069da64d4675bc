/- The document's ReadTicks, by its contract. -/
import Derived.Test.YtnjmplmogibgfabDoorRefTicksGroup
import Derived.Deep.AppendLies
import Derived.Deep.DeepCutAuto
namespace Go.Proofs.YtnjmplmogibgfabDoor
open Go.RowKit

/-- What a number that was read says of the next tick, behind those that are there. -/
def nextTick (out : List Int) (t : Int) : Int := t + (if 0 < out.length then out.getD (out.length - 1) 0 else 0) + (if 1 < out.length then out.getD (out.length - 1) 0 - out.getD (out.length - 2) 0 else 0)
/-- A difference beyond all ticks. -/
def far (t : Int) : Bool := decide (8796093022208 < t) || decide (t < -8796093022208)
/-- f ticks more from place a on, behind those that are there: an error's number, the ticks, the place. -/
def readTo (bs : List Bool) : Nat → Nat → List Int → Nat × List Int × Nat
  | 0, a, out => (0, out, a)
  | f + 1, a, out =>
    if 0 < (BitMath.unwave (bs.drop a)).1 then ((BitMath.unwave (bs.drop a)).1, [], 0)
    else if (decide (0 < out.length) && far (BitMath.unwave (bs.drop a)).2.1) = true then (2, [], 0)
    else if isTick (nextTick out (BitMath.unwave (bs.drop a)).2.1) = true then readTo bs f (a + (BitMath.unwave (bs.drop a)).2.2) (out ++ [nextTick out (BitMath.unwave (bs.drop a)).2.1])
    else (2, [], 0)
theorem Tryd.infoIntR : (Tryd.prog.info? 3).map (fun i => (i.zero, i.size, i.bytes)) = some (some (.int .i64 0), 1, 8) := by kernel_rfl

theorem num_bound (o v : Nat) (ho : o ≤ 4) (hv : v < 2 ^ BitMath.wideOf o) : -9223372036854775808 ≤ BitMath.numOf o v ∧ BitMath.numOf o v ≤ 9223372036854775807 := by
  obtain rfl | rfl | rfl | rfl | rfl : o = 0 ∨ o = 1 ∨ o = 2 ∨ o = 3 ∨ o = 4 := by omega
  · simp [BitMath.numOf, BitMath.biasOf, BitMath.wideOf] at hv ⊢; omega
  · simp [BitMath.numOf, BitMath.biasOf, BitMath.wideOf] at hv ⊢; omega
  · simp [BitMath.numOf, BitMath.biasOf, BitMath.wideOf] at hv ⊢; omega
  · simp [BitMath.numOf, BitMath.biasOf, BitMath.wideOf] at hv ⊢; omega
  · have hv' : v < 18446744073709551616 := by have : (2 : Nat) ^ BitMath.wideOf 4 = 18446744073709551616 := rfl; omega
    unfold BitMath.numOf
    rw [if_pos rfl]
    split <;> omega
theorem wide_le (o : Nat) : BitMath.wideOf o ≤ 64 := by unfold BitMath.wideOf; split <;> omega
theorem unwave_bits_at (D : List Bool) (o h : Nat) (ho : BitMath.onesOf D 4 = o) (hh : h = if o < 4 then o + 1 else 4) (ho4 : o ≤ 4) : (BitMath.unwave D).2.2 ≤ D.length ∧ (BitMath.unwave D).2.2 ≤ 68 ∧ (BitMath.unwave D).1 ≤ 5 ∧ -9223372036854775808 ≤ (BitMath.unwave D).2.1 ∧ (BitMath.unwave D).2.1 ≤ 9223372036854775807 := by
  have hh4 : h ≤ 4 := by rw [hh]; split <;> omega
  by_cases hl : D.length < h + BitMath.wideOf o
  · rw [BitMath.unwave_short D o h ho hh hl]
    simp
  · have hw := wide_le o
    have hv := BitMath.valB_lt ((D.drop h).take (BitMath.wideOf o))
    have hlen : ((D.drop h).take (BitMath.wideOf o)).length = BitMath.wideOf o := by rw [List.length_take, List.length_drop]; omega
    rw [hlen] at hv
    have hb := num_bound o _ ho4 hv
    rw [BitMath.unwave_long D o h ho hh (by omega) _ rfl]
    generalize BitMath.valB ((D.drop h).take (BitMath.wideOf o)) = v at *
    by_cases he : BitMath.waveOf (BitMath.numOf o v) = D.take (h + BitMath.wideOf o)
    · rw [if_pos he]
      exact ⟨by simp only; omega, by simp only; omega, by simp only; omega, hb.1, hb.2⟩
    · rw [if_neg he]
      simp
theorem unwave_bits (D : List Bool) : (BitMath.unwave D).2.2 ≤ D.length ∧ (BitMath.unwave D).2.2 ≤ 68 ∧ (BitMath.unwave D).1 ≤ 5 ∧ -9223372036854775808 ≤ (BitMath.unwave D).2.1 ∧ (BitMath.unwave D).2.1 ≤ 9223372036854775807 :=
  unwave_bits_at D _ _ rfl rfl (BitMath.onesOf_le D 4)
theorem readTo_succ (bs : List Bool) (f a : Nat) (out : List Int) : readTo bs (f + 1) a out =
    if 0 < (BitMath.unwave (bs.drop a)).1 then ((BitMath.unwave (bs.drop a)).1, [], 0)
    else if (decide (0 < out.length) && far (BitMath.unwave (bs.drop a)).2.1) = true then (2, [], 0)
    else if isTick (nextTick out (BitMath.unwave (bs.drop a)).2.1) = true then readTo bs f (a + (BitMath.unwave (bs.drop a)).2.2) (out ++ [nextTick out (BitMath.unwave (bs.drop a)).2.1])
    else (2, [], 0) := rfl


/-- The cells of ints. -/
def intList (l : List Int) : List Value := l.map (Value.int .i64)
theorem intList_snoc (l : List Int) (x : Int) : intList l ++ [.int .i64 x] = intList (l ++ [x]) := by simp [intList]
theorem own_list {w : World} {base k : Nat} {v : Value} {out : List Int} (h : w.ownsRow base 3 1 v k (intList out)) (hk : 0 < k) (hl : out.length = k) :
    ∃ g cap, v = .slice (some ⟨g, 0, none⟩) k cap ∧ base ≤ g ∧ k ≤ cap ∧ ∀ j, j < k → w.cell? ⟨g, j, none⟩ = some (.int .i64 (out.getD j 0)) := by
  obtain ⟨_, h2⟩ := h
  rcases h2 with ⟨_, h0⟩ | ⟨g, cap, cur, hv, hg, hh, h1, h2, h3, h4⟩
  · omega
  · rw [Nat.mul_one] at h3 h4
    refine ⟨g, cap, hv, hg, h1, fun j hj => ?_⟩
    have e : (cur.toList.take k)[j]? = cur.toList[j]? := by rw [List.getElem?_take_of_lt hj]
    have e2 : w.cell? ⟨g, j, none⟩ = cur[j]? := by simp [World.cell?, hh]
    rw [e2, ← Array.getElem?_toList, ← e, h4, intList, List.getElem?_map, List.getElem?_eq_getElem (by omega), List.getD_eq_getElem?_getD, List.getElem?_eq_getElem (by omega)]
    rfl
theorem own_kept {w w' : World} {base : Nat} {e : TypeId} {s : Nat} {v : Value} {n : Nat} {xs : List Value} (h : w.ownsRow base e s v n xs) (hb : Below w.heap.size w w') : w'.ownsRow base e s v n xs := by
  obtain ⟨h1, h2⟩ := h
  refine ⟨h1, ?_⟩
  rcases h2 with h2 | ⟨g, cap, cur, hv, hg, hh, r⟩
  · exact .inl h2
  · have hl : g < w.heap.size := by
      rcases Nat.lt_or_ge g w.heap.size with h' | h'
      · exact h'
      · rw [Array.getElem?_eq_none h'] at hh; cases hh
    exact .inr ⟨g, cap, cur, hv, hg, (hb.block g hl).trans hh, r⟩
theorem grown_ints {w wr w1 : World} {v : Value} {C : Array Value} {n : Nat} {xs : List Value} (hb : Below w.heap.size w wr) (hown : wr.ownsRow w.heap.size 3 1 v n xs) (hgrow : (wr.alloc (.cells C 3)).grownBy w1 v.ownBlock) : Below w.heap.size w w1 := by
  have hba : Below w.heap.size w (wr.alloc (.cells C 3)) := hb.alloc hb.size _
  refine hba.trans ⟨hgrow.os, hgrow.tape, hgrow.output, hgrow.size, fun k hk => hgrow.block k (Nat.lt_of_lt_of_le hk hba.size) ?_⟩
  intro e
  rcases hown.2 with ⟨rfl, _⟩ | ⟨g, cap, cur, rfl, hg, _⟩
  · simp [Value.ownBlock] at e
  · simp [Value.ownBlock] at e
    omega
theorem getD_in (l : List Int) (i : Nat) (h : i < l.length) : l.getD i 0 ∈ l := by
  rw [List.getD_eq_getElem?_getD, List.getElem?_eq_getElem h, Option.getD_some]
  exact List.getElem_mem h

/-- What ReadTicks answers. -/
def TicksOut (w w' : World) (bs : List Bool) (a0 n : Nat) (e : Ending) : Prop :=
  Below w.heap.size w w' ∧ ((∃ (out : List Int) (a : Nat) (v : Value), readTo bs n a0 [] = (0, out, a) ∧ e = .returned (.tuple #[v, .int .i64 ((a : Int) - (a0 : Int)), .int .i64 0]) ∧ out.length = n ∧ a0 ≤ a ∧ a ≤ bs.length ∧ w'.ownsRow w.heap.size 3 1 v n (intList out) ∧ (∀ x, x ∈ out → isTick x = true)) ∨
    (∃ c : Nat, c ≠ 0 ∧ readTo bs n a0 [] = (c, [], 0) ∧ e = .returned (.tuple #[.slice none 0 0, .int .i64 0, .int .i64 (c : Int)])))

end Go.Proofs.YtnjmplmogibgfabDoor
/- Numbers read first, then made ticks: what package wave does, against the document's way, tick by tick. -/
namespace Go.Proofs.YtnjmplmogibgfabDoor

/-- k numbers: an error's number, the numbers, how many bits. -/
def readNums (D : List Bool) : Nat → Nat × List Int × Nat
  | 0 => (0, [], 0)
  | k + 1 =>
    if (readNums D k).1 ≠ 0 then readNums D k
    else if (BitMath.unwave (D.drop (readNums D k).2.2)).1 ≠ 0 then ((BitMath.unwave (D.drop (readNums D k).2.2)).1, [], 0)
    else (0, (readNums D k).2.1 ++ [(BitMath.unwave (D.drop (readNums D k).2.2)).2.1], (readNums D k).2.2 + (BitMath.unwave (D.drop (readNums D k).2.2)).2.2)
theorem readNums_bad (D : List Bool) (k u : Nat) (ns : List Int) (c : Nat) (h : readNums D k = (0, ns, u)) (hs : (BitMath.unwave (D.drop u)).1 = c) (hc : c ≠ 0) : ∀ n, k < n → (readNums D n).1 ≠ 0
  | 0, hn => absurd hn (by omega)
  | n + 1, hn => by
    rcases Nat.lt_or_ge k n with h1 | h1
    · have ih := readNums_bad D k u ns c h hs hc n h1
      rw [readNums, if_pos ih]
      exact ih
    · have : k = n := by omega
      subst this
      rw [readNums, h, if_neg (by simp), if_pos (by simp only; rw [hs]; exact hc)]
      simp only
      rw [hs]
      exact hc
theorem readNums_good (D : List Bool) (k u b : Nat) (ns : List Int) (x : Int) (h : readNums D k = (0, ns, u)) (hs : BitMath.unwave (D.drop u) = (0, x, b)) : readNums D (k + 1) = (0, ns ++ [x], u + b) := by
  rw [readNums, h, if_neg (by simp)]
  simp only
  rw [hs, if_neg (by simp)]

/-- Numbers as ticks, behind those that are there; none where one is out of bounds. -/
def ticksBy : List Int → List Int → Option (List Int)
  | out, [] => some out
  | out, x :: r => if isTick (nextTick out x) = true then ticksBy (out ++ [nextTick out x]) r else none
theorem ticksBy_snoc : ∀ (l out : List Int) (x : Int), ticksBy out (l ++ [x]) = (ticksBy out l).bind fun o => if isTick (nextTick o x) = true then some (o ++ [nextTick o x]) else none
  | [], out, x => by
    simp only [List.nil_append, ticksBy, Option.bind_some]
  | y :: r, out, x => by
    simp only [List.cons_append, ticksBy]
    split
    · exact ticksBy_snoc r _ x
    · rfl

def AllTicks (l : List Int) : Prop := ∀ t, t ∈ l → -1099511627776 ≤ t ∧ t ≤ 1099511627776
theorem AllTicks.at {l : List Int} (h : AllTicks l) (i : Nat) (hi : i < l.length) : -1099511627776 ≤ l.getD i 0 ∧ l.getD i 0 ≤ 1099511627776 := by
  rw [List.getD_eq_getElem?_getD, List.getElem?_eq_getElem hi]
  exact h _ (List.getElem_mem hi)
theorem AllTicks.snoc {l : List Int} (h : AllTicks l) (x : Int) (hx : isTick x = true) : AllTicks (l ++ [x]) := by
  intro t ht
  rcases List.mem_append.1 ht with h1 | h1
  · exact h t h1
  · simp at h1
    rw [h1]
    exact (isTick_iff x).1 hx
/-- What is beyond all ticks makes none. -/
theorem far_none (out : List Int) (t : Int) (h : AllTicks out) (h0 : 0 < out.length) (hf : far t = true) : isTick (nextTick out t) = false := by
  have h1 := h.at (out.length - 1) (by omega)
  have hb : ∃ d : Int, nextTick out t = t + out.getD (out.length - 1) 0 + d ∧ -2199023255552 ≤ d ∧ d ≤ 2199023255552 := by
    unfold nextTick
    rw [if_pos h0]
    by_cases h2 : 1 < out.length
    · have h3 := h.at (out.length - 2) (by omega)
      rw [if_pos h2]
      exact ⟨_, rfl, by omega, by omega⟩
    · rw [if_neg h2]
      exact ⟨0, rfl, by omega, by omega⟩
  obtain ⟨d, e, hd⟩ := hb
  unfold far at hf
  simp at hf
  unfold isTick
  rw [e]
  generalize out.getD (out.length - 1) 0 = z at *
  simp
  omega

theorem good_or_bad (D : List Bool) : ∀ n, (∃ ns u ts, readNums D n = (0, ns, u) ∧ ticksBy [] ns = some ts ∧ AllTicks ts ∧ ts.length = n ∧ ns.length = n ∧ ∀ f, readTo D (f + n) 0 [] = readTo D f u ts) ∨
    ((∀ f, (readTo D (f + n) 0 []).1 ≠ 0) ∧ ((readNums D n).1 ≠ 0 ∨ ∃ ns u, readNums D n = (0, ns, u) ∧ ticksBy [] ns = none))
  | 0 => .inl ⟨[], 0, [], rfl, rfl, fun t ht => absurd ht (by simp), rfl, rfl, fun _ => rfl⟩
  | n + 1 => by
    rcases good_or_bad D n with ⟨ns, u, ts, hn, ht, hall, hl, hln, hr⟩ | ⟨hbad, hwhy⟩
    · have hr1 : ∀ f, readTo D (f + (n + 1)) 0 [] = readTo D (f + 1) u ts := fun f => by rw [show f + (n + 1) = (f + 1) + n by omega]; exact hr (f + 1)
      obtain ⟨c, x, b, hp⟩ : ∃ c x b, BitMath.unwave (D.drop u) = (c, x, b) := ⟨_, _, _, rfl⟩
      by_cases hc : c = 0
      · subst hc
        have hng := readNums_good D n u b ns x hn hp
        have hts : ticksBy [] (ns ++ [x]) = if isTick (nextTick ts x) = true then some (ts ++ [nextTick ts x]) else none := by rw [ticksBy_snoc, ht]; rfl
        by_cases hi : isTick (nextTick ts x) = true
        · have hnf : ¬ (decide (0 < ts.length) && far x) = true := by
            intro h
            simp at h
            have := far_none ts x hall (by omega) h.2
            rw [hi] at this
            cases this
          rw [if_pos hi] at hts
          refine .inl ⟨_, _, _, hng, hts, hall.snoc _ hi, by simp [hl], by simp [hln], fun f => ?_⟩
          rw [hr1 f, readTo_succ, hp]
          simp only
          rw [if_neg (by omega), if_neg hnf, if_pos hi]
        · rw [if_neg hi] at hts
          refine .inr ⟨fun f => ?_, .inr ⟨_, _, hng, hts⟩⟩
          rw [hr1 f, readTo_succ, hp]
          simp only
          rw [if_neg (by omega)]
          rw [if_neg hi]
          split <;> simp
      · refine .inr ⟨fun f => ?_, .inl (readNums_bad D n u ns c hn (by rw [hp]) hc (n + 1) (by omega))⟩
        rw [hr1 f, readTo_succ, hp]
        simp only
        rw [if_pos (by omega)]
        exact hc
    · refine .inr ⟨fun f => by rw [show f + (n + 1) = (f + 1) + n by omega]; exact hbad (f + 1), ?_⟩
      rcases hwhy with h | ⟨ns, u, hn, ht⟩
      · refine .inl ?_
        rw [readNums, if_pos h]
        exact h
      · obtain ⟨c, x, b, hp⟩ : ∃ c x b, BitMath.unwave (D.drop u) = (c, x, b) := ⟨_, _, _, rfl⟩
        by_cases hc : c = 0
        · subst hc
          exact .inr ⟨_, _, readNums_good D n u b ns x hn hp, by rw [ticksBy_snoc, ht]; rfl⟩
        · exact .inl (readNums_bad D n u ns c hn (by rw [hp]) hc (n + 1) (by omega))
end Go.Proofs.YtnjmplmogibgfabDoor
