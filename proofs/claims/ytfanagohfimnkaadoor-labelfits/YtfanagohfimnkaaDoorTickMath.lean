/- Numbers read first, then made ticks: what package wave does, against the document's way, tick by tick. -/
import Derived.Test.YtfanagohfimnkaaDoorRefRead
namespace Go.Proofs.YtfanagohfimnkaaDoor

/-- k numbers: an error's number, the numbers, how many bits. -/
def readNums (D : List Bool) : Nat → Nat × List Int × Nat
  | 0 => (0, [], 0)
  | k + 1 =>
    if (readNums D k).1 ≠ 0 then readNums D k
    else if (BitMath.unwave (D.drop (readNums D k).2.2)).1 ≠ 0 then ((BitMath.unwave (D.drop (readNums D k).2.2)).1, [], 0)
    else (0, (readNums D k).2.1 ++ [(BitMath.unwave (D.drop (readNums D k).2.2)).2.1], (readNums D k).2.2 + (BitMath.unwave (D.drop (readNums D k).2.2)).2.2)
theorem readNums_bad (D : List Bool) (k u : Nat) (ns : List Int) (c : Nat) (h : readNums D k = (0, ns, u)) (hs : (BitMath.unwave (D.drop u)).1 = c) (hc : c ≠ 0) : ∀ n, k < n → (readNums D n).1 ≠ 0
  | 0, hn => absurd hn (by omega)
  | n + 1, hn => by
    rcases Nat.lt_or_ge k n with h1 | h1
    · have ih := readNums_bad D k u ns c h hs hc n h1
      rw [readNums, if_pos ih]
      exact ih
    · have : k = n := by omega
      subst this
      rw [readNums, h, if_neg (by simp), if_pos (by simp only; rw [hs]; exact hc)]
      simp only
      rw [hs]
      exact hc
theorem readNums_good (D : List Bool) (k u b : Nat) (ns : List Int) (x : Int) (h : readNums D k = (0, ns, u)) (hs : BitMath.unwave (D.drop u) = (0, x, b)) : readNums D (k + 1) = (0, ns ++ [x], u + b) := by
  rw [readNums, h, if_neg (by simp)]
  simp only
  rw [hs, if_neg (by simp)]

/-- Numbers as ticks, behind those that are there; none where one is out of bounds. -/
def ticksBy : List Int → List Int → Option (List Int)
  | out, [] => some out
  | out, x :: r => if isTick (nextTick out x) = true then ticksBy (out ++ [nextTick out x]) r else none
theorem ticksBy_snoc : ∀ (l out : List Int) (x : Int), ticksBy out (l ++ [x]) = (ticksBy out l).bind fun o => if isTick (nextTick o x) = true then some (o ++ [nextTick o x]) else none
  | [], out, x => by
    simp only [List.nil_append, ticksBy, Option.bind_some]
  | y :: r, out, x => by
    simp only [List.cons_append, ticksBy]
    split
    · exact ticksBy_snoc r _ x
    · rfl

def AllTicks (l : List Int) : Prop := ∀ t, t ∈ l → -1099511627776 ≤ t ∧ t ≤ 1099511627776
theorem AllTicks.at {l : List Int} (h : AllTicks l) (i : Nat) (hi : i < l.length) : -1099511627776 ≤ l.getD i 0 ∧ l.getD i 0 ≤ 1099511627776 := by
  rw [List.getD_eq_getElem?_getD, List.getElem?_eq_getElem hi]
  exact h _ (List.getElem_mem hi)
theorem AllTicks.snoc {l : List Int} (h : AllTicks l) (x : Int) (hx : isTick x = true) : AllTicks (l ++ [x]) := by
  intro t ht
  rcases List.mem_append.1 ht with h1 | h1
  · exact h t h1
  · simp at h1
    rw [h1]
    exact (isTick_iff x).1 hx
/-- What is beyond all ticks makes none. -/
theorem far_none (out : List Int) (t : Int) (h : AllTicks out) (h0 : 0 < out.length) (hf : far t = true) : isTick (nextTick out t) = false := by
  have h1 := h.at (out.length - 1) (by omega)
  have hb : ∃ d : Int, nextTick out t = t + out.getD (out.length - 1) 0 + d ∧ -2199023255552 ≤ d ∧ d ≤ 2199023255552 := by
    unfold nextTick
    rw [if_pos h0]
    by_cases h2 : 1 < out.length
    · have h3 := h.at (out.length - 2) (by omega)
      rw [if_pos h2]
      exact ⟨_, rfl, by omega, by omega⟩
    · rw [if_neg h2]
      exact ⟨0, rfl, by omega, by omega⟩
  obtain ⟨d, e, hd⟩ := hb
  unfold far at hf
  simp at hf
  unfold isTick
  rw [e]
  generalize out.getD (out.length - 1) 0 = z at *
  simp
  omega

theorem good_or_bad (D : List Bool) : ∀ n, (∃ ns u ts, readNums D n = (0, ns, u) ∧ ticksBy [] ns = some ts ∧ AllTicks ts ∧ ts.length = n ∧ ns.length = n ∧ ∀ f, readTo D (f + n) 0 [] = readTo D f u ts) ∨
    ((∀ f, (readTo D (f + n) 0 []).1 ≠ 0) ∧ ((readNums D n).1 ≠ 0 ∨ ∃ ns u, readNums D n = (0, ns, u) ∧ ticksBy [] ns = none))
  | 0 => .inl ⟨[], 0, [], rfl, rfl, fun t ht => absurd ht (by simp), rfl, rfl, fun _ => rfl⟩
  | n + 1 => by
    rcases good_or_bad D n with ⟨ns, u, ts, hn, ht, hall, hl, hln, hr⟩ | ⟨hbad, hwhy⟩
    · have hr1 : ∀ f, readTo D (f + (n + 1)) 0 [] = readTo D (f + 1) u ts := fun f => by rw [show f + (n + 1) = (f + 1) + n by omega]; exact hr (f + 1)
      obtain ⟨c, x, b, hp⟩ : ∃ c x b, BitMath.unwave (D.drop u) = (c, x, b) := ⟨_, _, _, rfl⟩
      by_cases hc : c = 0
      · subst hc
        have hng := readNums_good D n u b ns x hn hp
        have hts : ticksBy [] (ns ++ [x]) = if isTick (nextTick ts x) = true then some (ts ++ [nextTick ts x]) else none := by rw [ticksBy_snoc, ht]; rfl
        by_cases hi : isTick (nextTick ts x) = true
        · have hnf : ¬ (decide (0 < ts.length) && far x) = true := by
            intro h
            simp at h
            have := far_none ts x hall (by omega) h.2
            rw [hi] at this
            cases this
          rw [if_pos hi] at hts
          refine .inl ⟨_, _, _, hng, hts, hall.snoc _ hi, by simp [hl], by simp [hln], fun f => ?_⟩
          rw [hr1 f, readTo_succ, hp]
          simp only
          rw [if_neg (by omega), if_neg hnf, if_pos hi]
        · rw [if_neg hi] at hts
          refine .inr ⟨fun f => ?_, .inr ⟨_, _, hng, hts⟩⟩
          rw [hr1 f, readTo_succ, hp]
          simp only
          rw [if_neg (by omega)]
          rw [if_neg hi]
          split <;> simp
      · refine .inr ⟨fun f => ?_, .inl (readNums_bad D n u ns c hn (by rw [hp]) hc (n + 1) (by omega))⟩
        rw [hr1 f, readTo_succ, hp]
        simp only
        rw [if_pos (by omega)]
        exact hc
    · refine .inr ⟨fun f => by rw [show f + (n + 1) = (f + 1) + n by omega]; exact hbad (f + 1), ?_⟩
      rcases hwhy with h | ⟨ns, u, hn, ht⟩
      · refine .inl ?_
        rw [readNums, if_pos h]
        exact h
      · obtain ⟨c, x, b, hp⟩ : ∃ c x b, BitMath.unwave (D.drop u) = (c, x, b) := ⟨_, _, _, rfl⟩
        by_cases hc : c = 0
        · subst hc
          exact .inr ⟨_, _, readNums_good D n u b ns x hn hp, by rw [ticksBy_snoc, ht]; rfl⟩
        · exact .inl (readNums_bad D n u ns c hn (by rw [hp]) hc (n + 1) (by omega))
end Go.Proofs.YtfanagohfimnkaaDoor
