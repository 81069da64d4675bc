/- Rows of two lists as one: mathematics. -/
import Derived.Test.YtdlceolmpcjjiaaGreatDoorBitMathGroup
namespace JoinMath

abbrev Rw := List UInt8 × List (Int × Nat)
theorem tri {a b : List UInt8} (h1 : ¬ a = b) (h2 : ¬ a < b) : b < a := by
  rcases List.le_iff_lt_or_eq.1 (List.not_lt.1 h2) with h | h
  · exact h
  · exact absurd h.symm h1
def Up (S : List Rw) : Prop := S.Pairwise fun a b => a.1 < b.1
def hasR (S : List Rw) (k : List UInt8) : Bool := S.any fun r => decide (r.1 = k)
theorem hasR_iff {S : List Rw} {k : List UInt8} : hasR S k = true ↔ ∃ r, r ∈ S ∧ r.1 = k := by simp [hasR]
theorem uniqR {S : List Rw} (h : Up S) : ∀ {r q : Rw}, r ∈ S → q ∈ S → r.1 = q.1 → r = q := by
  induction h with
  | nil => intro l m h; cases h
  | @cons a r h1 _ ih =>
    intro l m hl hm e
    rcases List.mem_cons.1 hl with rfl | hl'
    · rcases List.mem_cons.1 hm with rfl | hm'
      · rfl
      · exact absurd (e ▸ h1 m hm') (List.lt_irrefl _)
    · rcases List.mem_cons.1 hm with rfl | hm'
      · exact absurd (e ▸ h1 l hl') (List.lt_irrefl _)
      · exact ih hl' hm' e
/-- A row more, of a series known or not. -/
def insR : List Rw → Rw → List Rw
  | [], r => [r]
  | p :: S, r => if p.1 = r.1 then (p.1, p.2 ++ r.2) :: S else if r.1 < p.1 then r :: p :: S else p :: insR S r
theorem insR_mem : ∀ {S : List Rw} {r x : Rw}, Up S → (x ∈ insR S r ↔ (x ∈ S ∧ x.1 ≠ r.1) ∨ (∃ p, p ∈ S ∧ p.1 = r.1 ∧ x = (p.1, p.2 ++ r.2)) ∨ (hasR S r.1 = false ∧ x = r))
  | [], r, x, _ => by simp [insR, hasR]
  | p :: S, r, x, h => by
    obtain ⟨h1, h2⟩ := List.pairwise_cons.1 h
    have ih := @insR_mem S r x h2
    rw [insR]
    by_cases e : p.1 = r.1
    · rw [if_pos e]
      have hk : hasR (p :: S) r.1 = true := by simp [hasR, e]
      have hne : ∀ q, q ∈ S → q.1 ≠ r.1 := fun q hq e2 => absurd (e2 ▸ e ▸ h1 q hq) (List.lt_irrefl _)
      rw [hk]
      constructor
      · intro hx
        rcases List.mem_cons.1 hx with rfl | hx'
        · exact .inr (.inl ⟨p, List.mem_cons_self .., e, rfl⟩)
        · exact .inl ⟨List.mem_cons_of_mem _ hx', hne x hx'⟩
      · rintro (⟨hx, hxk⟩ | ⟨q, hq, hqk, rfl⟩ | ⟨hf, _⟩)
        · rcases List.mem_cons.1 hx with rfl | hx'
          · exact absurd e hxk
          · exact List.mem_cons_of_mem _ hx'
        · rcases List.mem_cons.1 hq with rfl | hq'
          · exact List.mem_cons_self ..
          · exact absurd hqk (hne q hq')
        · cases hf
    · rw [if_neg e]
      by_cases g : r.1 < p.1
      · rw [if_pos g]
        have hne : ∀ q, q ∈ p :: S → q.1 ≠ r.1 := fun q hq e2 => by
          rcases List.mem_cons.1 hq with rfl | hq'
          · exact e e2
          · exact absurd (List.lt_trans g (h1 q hq')) (e2 ▸ List.lt_irrefl _)
        have hk : hasR (p :: S) r.1 = false := by
          rw [← Bool.not_eq_true, hasR_iff]
          rintro ⟨q, hq, hqk⟩
          exact hne q hq hqk
        rw [hk]
        constructor
        · intro hx
          rcases List.mem_cons.1 hx with rfl | hx'
          · exact .inr (.inr ⟨rfl, rfl⟩)
          · exact .inl ⟨hx', hne x hx'⟩
        · rintro (⟨hx, _⟩ | ⟨q, hq, hqk, _⟩ | ⟨_, rfl⟩)
          · exact List.mem_cons_of_mem _ hx
          · exact absurd hqk (hne q hq)
          · exact List.mem_cons_self ..
      · rw [if_neg g, List.mem_cons, ih]
        have hk : hasR (p :: S) r.1 = hasR S r.1 := by simp [hasR, e]
        rw [hk]
        constructor
        · rintro (rfl | ⟨hx, hxk⟩ | ⟨q, hq, hqk, rfl⟩ | ⟨hf, rfl⟩)
          · exact .inl ⟨List.mem_cons_self .., e⟩
          · exact .inl ⟨List.mem_cons_of_mem _ hx, hxk⟩
          · exact .inr (.inl ⟨q, List.mem_cons_of_mem _ hq, hqk, rfl⟩)
          · exact .inr (.inr ⟨hf, rfl⟩)
        · rintro (⟨hx, hxk⟩ | ⟨q, hq, hqk, rfl⟩ | ⟨hf, rfl⟩)
          · rcases List.mem_cons.1 hx with rfl | hx'
            · exact .inl rfl
            · exact .inr (.inl ⟨hx', hxk⟩)
          · rcases List.mem_cons.1 hq with rfl | hq'
            · exact absurd hqk e
            · exact .inr (.inr (.inl ⟨q, hq', hqk, rfl⟩))
          · exact .inr (.inr (.inr ⟨hf, rfl⟩))
theorem insR_up : ∀ {S : List Rw} {r : Rw}, Up S → Up (insR S r)
  | [], r, _ => by simp [insR, Up]
  | p :: S, r, h => by
    obtain ⟨h1, h2⟩ := List.pairwise_cons.1 h
    rw [insR]
    by_cases e : p.1 = r.1
    · rw [if_pos e]
      exact List.pairwise_cons.2 ⟨h1, h2⟩
    · rw [if_neg e]
      by_cases g : r.1 < p.1
      · rw [if_pos g]
        refine List.pairwise_cons.2 ⟨fun q hq => ?_, h⟩
        rcases List.mem_cons.1 hq with rfl | hq'
        · exact g
        · exact List.lt_trans g (h1 q hq')
      · rw [if_neg g]
        refine List.pairwise_cons.2 ⟨fun q hq => ?_, insR_up h2⟩
        rcases (insR_mem h2).1 hq with ⟨hq', _⟩ | ⟨q', hq', hk, rfl⟩ | ⟨_, rfl⟩
        · exact h1 q hq'
        · exact h1 q' hq'
        · exact tri (fun e2 => e e2.symm) g
theorem insR_len : ∀ {S : List Rw} {r : Rw}, Up S → (insR S r).length = if hasR S r.1 = true then S.length else S.length + 1
  | [], r, _ => by simp [insR, hasR]
  | p :: S, r, h => by
    obtain ⟨h1, h2⟩ := List.pairwise_cons.1 h
    rw [insR]
    by_cases e : p.1 = r.1
    · rw [if_pos e, if_pos (by simp [hasR, e])]
      rfl
    · rw [if_neg e]
      have hk : hasR (p :: S) r.1 = hasR S r.1 := by simp [hasR, e]
      by_cases g : r.1 < p.1
      · rw [if_pos g]
        have hf : hasR (p :: S) r.1 = false := by
          rw [← Bool.not_eq_true, hasR_iff]
          rintro ⟨q, hq, hqk⟩
          rcases List.mem_cons.1 hq with rfl | hq'
          · exact e hqk
          · exact absurd (List.lt_trans g (h1 q hq')) (hqk ▸ List.lt_irrefl _)
        rw [hf]
        rfl
      · rw [if_neg g, hk, List.length_cons, insR_len h2, List.length_cons]
        split <;> rfl
theorem insR_has {S : List Rw} {r : Rw} (h : Up S) (k : List UInt8) : hasR (insR S r) k = (hasR S k || decide (r.1 = k)) := by
  rw [Bool.eq_iff_iff, Bool.or_eq_true, decide_eq_true_eq, hasR_iff, hasR_iff]
  constructor
  · rintro ⟨x, hx, rfl⟩
    rcases (insR_mem h).1 hx with ⟨hx', _⟩ | ⟨q, hq, hk, rfl⟩ | ⟨_, rfl⟩
    · exact .inl ⟨x, hx', rfl⟩
    · exact .inl ⟨q, hq, rfl⟩
    · exact .inr rfl
  · rintro (⟨x, hx, rfl⟩ | rfl)
    · by_cases e : x.1 = r.1
      · exact ⟨(x.1, x.2 ++ r.2), (insR_mem h).2 (.inr (.inl ⟨x, hx, e, rfl⟩)), rfl⟩
      · exact ⟨x, (insR_mem h).2 (.inl ⟨hx, e⟩), rfl⟩
    · cases hk : hasR S r.1 with
      | false => exact ⟨r, (insR_mem h).2 (.inr (.inr ⟨hk, rfl⟩)), rfl⟩
      | true =>
        obtain ⟨q, hq, hqk⟩ := hasR_iff.1 hk
        exact ⟨(q.1, q.2 ++ r.2), (insR_mem h).2 (.inr (.inl ⟨q, hq, hqk, rfl⟩)), hqk⟩
/-- Rows one behind the other, into those that are there. -/
def takeR (S l : List Rw) : List Rw := l.foldl insR S
theorem takeR_snoc (S l : List Rw) (r : Rw) : takeR S (l ++ [r]) = insR (takeR S l) r := by unfold takeR; rw [List.foldl_append]; rfl
theorem takeR_up : ∀ {l S : List Rw}, Up S → Up (takeR S l)
  | [], _, h => h
  | r :: l, S, h => by
    show Up (takeR (insR S r) l)
    exact takeR_up (insR_up h)
/-- Two rising lists as one. -/
def mergeR : List Rw → List Rw → List Rw
  | [], b => b
  | a, [] => a
  | p :: a, q :: b => if p.1 = q.1 then (p.1, p.2 ++ q.2) :: mergeR a b else if q.1 < p.1 then q :: mergeR (p :: a) b else p :: mergeR a (q :: b)
termination_by a b => a.length + b.length
theorem mergeR_nil (b : List Rw) : mergeR [] b = b := by rw [mergeR]
theorem mergeR_end (a : List Rw) : mergeR a [] = a := by cases a <;> rw [mergeR]; simp
theorem mergeR_cons (p q : Rw) (a b : List Rw) : mergeR (p :: a) (q :: b) = if p.1 = q.1 then (p.1, p.2 ++ q.2) :: mergeR a b else if q.1 < p.1 then q :: mergeR (p :: a) b else p :: mergeR a (q :: b) := by rw [mergeR]
/-- A first row ahead of all others stays first. -/
theorem mergeR_first (p : Rw) (a : List Rw) : ∀ (b : List Rw), (∀ q, q ∈ b → p.1 < q.1) → mergeR (p :: a) b = p :: mergeR a b
  | [], _ => by rw [mergeR_end, mergeR_end]
  | q :: b, h => by
    have hq := h q (List.mem_cons_self ..)
    rw [mergeR_cons, if_neg (fun e => absurd (e ▸ hq) (List.lt_irrefl _)), if_neg (fun e => absurd (List.lt_trans hq e) (List.lt_irrefl _))]
theorem merge_ins : ∀ (S : List Rw) (q : Rw) (b : List Rw), Up S → (∀ x, x ∈ b → q.1 < x.1) → mergeR (insR S q) b = mergeR S (q :: b)
  | [], q, b, _, h => by rw [insR, mergeR_nil, mergeR_first q [] b h, mergeR_nil]
  | p :: S, q, b, hS, h => by
    obtain ⟨h1, h2⟩ := List.pairwise_cons.1 hS
    rw [insR, mergeR_cons]
    by_cases e : p.1 = q.1
    · rw [if_pos e, if_pos e]
      exact mergeR_first (p.1, p.2 ++ q.2) S b fun x hx => by have := h x hx; rw [← e] at this; exact this
    · rw [if_neg e, if_neg e]
      by_cases g : q.1 < p.1
      · rw [if_pos g, if_pos g]
        exact mergeR_first q (p :: S) b h
      · rw [if_neg g, if_neg g, mergeR_first p (insR S q) b fun x hx => List.lt_trans (tri (fun e2 => e e2.symm) g) (h x hx), merge_ins S q b h2 h]
theorem take_merge : ∀ (b S : List Rw), Up S → Up b → takeR S b = mergeR S b
  | [], S, _, _ => (mergeR_end S).symm
  | q :: b, S, hS, hb => by
    obtain ⟨h1, h2⟩ := List.pairwise_cons.1 hb
    rw [← merge_ins S q b hS h1]
    exact take_merge b (insR S q) (insR_up hS) h2
theorem take_nil (a : List Rw) (h : Up a) : takeR [] a = a := by rw [take_merge a [] List.Pairwise.nil h, mergeR_nil]
/-- What both makes of two rising lists. -/
theorem both_is (a b : List Rw) (ha : Up a) (hb : Up b) : takeR (takeR [] a) b = mergeR a b := by rw [take_nil a ha, take_merge b a ha hb]
theorem mergeR_up (a b : List Rw) (ha : Up a) (hb : Up b) : Up (mergeR a b) := by rw [← take_merge b a ha hb]; exact takeR_up ha
end JoinMath
