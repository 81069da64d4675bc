/- Points of series, added and cut: mathematics. Nothing of Go. -/
import Derived.Test.YtfanagohfimnkaaDoorBitMathGroup
namespace HeadMath

/-- A series: its text, its points now, the tick of its last one ever. -/
structure Sr where
  key : List UInt8
  pts : List (Int × Nat)
  last : Int
/-- Known, rising by their texts; each one's points rise, none behind its last one. -/
structure Well (S : List Sr) : Prop where
  sorted : S.Pairwise fun a b => a.key < b.key
  rise : ∀ l, l ∈ S → l.pts.Pairwise fun p q => p.1 < q.1
  last : ∀ l, l ∈ S → ∀ p, p ∈ l.pts → p.1 ≤ l.last
  inb : ∀ l, l ∈ S → ∀ p, p ∈ l.pts → -1099511627776 ≤ p.1 ∧ p.1 ≤ 1099511627776 ∧ p.2 < 18446744073709551616
  lab : ∀ l, l ∈ S → -1099511627776 ≤ l.last ∧ l.last ≤ 1099511627776
def known (S : List Sr) (k : List UInt8) : Bool := S.any fun l => decide (l.key = k)
theorem known_iff {S : List Sr} {k : List UInt8} : known S k = true ↔ ∃ l, l ∈ S ∧ l.key = k := by simp [known]
theorem uniq {S : List Sr} (h : S.Pairwise fun a b => a.key < b.key) : ∀ {l m : Sr}, l ∈ S → m ∈ S → l.key = m.key → l = m := by
  induction h with
  | nil => intro l m h; cases h
  | @cons a r h1 _ ih =>
    intro l m hl hm e
    rcases List.mem_cons.1 hl with rfl | hl'
    · rcases List.mem_cons.1 hm with rfl | hm'
      · rfl
      · exact absurd (e ▸ h1 m hm') (List.lt_irrefl _)
    · rcases List.mem_cons.1 hm with rfl | hm'
      · exact absurd (e ▸ h1 l hl') (List.lt_irrefl _)
      · exact ih hl' hm' e
/-- A point more, of a series known or not. -/
def addS : List Sr → List UInt8 → (Int × Nat) → List Sr
  | [], k, p => [⟨k, [p], p.1⟩]
  | l :: r, k, p => if l.key = k then ⟨k, l.pts ++ [p], p.1⟩ :: r else if k < l.key then ⟨k, [p], p.1⟩ :: l :: r else l :: addS r k p
theorem mem_addS : ∀ {S : List Sr} {k : List UInt8} {p : Int × Nat} {x : Sr}, (S.Pairwise fun a b => a.key < b.key) → (x ∈ addS S k p ↔ (x ∈ S ∧ x.key ≠ k) ∨ (∃ l, l ∈ S ∧ l.key = k ∧ x = ⟨k, l.pts ++ [p], p.1⟩) ∨ (known S k = false ∧ x = ⟨k, [p], p.1⟩))
  | [], k, p, x, _ => by simp [addS, known]
  | l :: r, k, p, x, h => by
    obtain ⟨h1, h2⟩ := List.pairwise_cons.1 h
    have ih := @mem_addS r k p x h2
    rw [addS]
    by_cases e : l.key = k
    · rw [if_pos e]
      have hk : known (l :: r) k = true := by simp [known, e]
      have hne : ∀ m, m ∈ r → m.key ≠ k := fun m hm e2 => absurd (e2 ▸ e ▸ h1 m hm) (List.lt_irrefl _)
      rw [hk]
      constructor
      · intro hx
        rcases List.mem_cons.1 hx with rfl | hx'
        · exact .inr (.inl ⟨l, List.mem_cons_self .., e, rfl⟩)
        · exact .inl ⟨List.mem_cons_of_mem _ hx', hne x hx'⟩
      · rintro (⟨hx, hxk⟩ | ⟨m, hm, hmk, rfl⟩ | ⟨hf, _⟩)
        · rcases List.mem_cons.1 hx with rfl | hx'
          · exact absurd e hxk
          · exact List.mem_cons_of_mem _ hx'
        · rcases List.mem_cons.1 hm with rfl | hm'
          · exact List.mem_cons_self ..
          · exact absurd hmk (hne m hm')
        · cases hf
    · rw [if_neg e]
      by_cases g : k < l.key
      · rw [if_pos g]
        have hnk : ∀ m, m ∈ l :: r → m.key ≠ k := fun m hm e2 => by
          rcases List.mem_cons.1 hm with rfl | hm'
          · exact e e2
          · exact absurd (List.lt_trans g (e2 ▸ h1 m hm')) (List.lt_irrefl _)
        have hk : known (l :: r) k = false := by
          cases h3 : known (l :: r) k with
          | false => rfl
          | true => obtain ⟨m, hm, hmk⟩ := known_iff.1 h3; exact absurd hmk (hnk m hm)
        rw [hk]
        constructor
        · intro hx
          rcases List.mem_cons.1 hx with rfl | hx'
          · exact .inr (.inr ⟨rfl, rfl⟩)
          · exact .inl ⟨hx', hnk x hx'⟩
        · rintro (⟨hx, _⟩ | ⟨m, hm, hmk, _⟩ | ⟨_, rfl⟩)
          · exact List.mem_cons_of_mem _ hx
          · exact absurd hmk (hnk m hm)
          · exact List.mem_cons_self ..
      · rw [if_neg g]
        have hk : known (l :: r) k = known r k := by simp [known, e]
        rw [hk, List.mem_cons, ih]
        constructor
        · rintro (rfl | ⟨hx, hxk⟩ | ⟨m, hm, hmk, rfl⟩ | h3)
          · exact .inl ⟨List.mem_cons_self .., e⟩
          · exact .inl ⟨List.mem_cons_of_mem _ hx, hxk⟩
          · exact .inr (.inl ⟨m, List.mem_cons_of_mem _ hm, hmk, rfl⟩)
          · exact .inr (.inr h3)
        · rintro (⟨hx, hxk⟩ | ⟨m, hm, hmk, rfl⟩ | h3)
          · rcases List.mem_cons.1 hx with rfl | hx'
            · exact .inl rfl
            · exact .inr (.inl ⟨hx', hxk⟩)
          · rcases List.mem_cons.1 hm with rfl | hm'
            · exact absurd hmk e
            · exact .inr (.inr (.inl ⟨m, hm', hmk, rfl⟩))
          · exact .inr (.inr (.inr h3))
theorem addS_head {S : List Sr} {k : List UInt8} {p : Int × Nat} {a : Sr} (hs : S.Pairwise fun a b => a.key < b.key) (ha : ∀ m, m ∈ S → a.key < m.key) (hk : a.key < k) : ∀ x, x ∈ addS S k p → a.key < x.key := by
  intro x hx
  rcases (mem_addS hs).1 hx with ⟨h, _⟩ | ⟨l, hl, e, rfl⟩ | ⟨_, rfl⟩
  · exact ha x h
  · exact hk
  · exact hk
theorem sorted_addS : ∀ {S : List Sr} {k : List UInt8} {p : Int × Nat}, (S.Pairwise fun a b => a.key < b.key) → (addS S k p).Pairwise fun a b => a.key < b.key
  | [], k, p, _ => by simp [addS]
  | l :: r, k, p, h => by
    obtain ⟨h1, h2⟩ := List.pairwise_cons.1 h
    rw [addS]
    by_cases e : l.key = k
    · rw [if_pos e]
      exact List.pairwise_cons.2 ⟨fun m hm => e ▸ h1 m hm, h2⟩
    · rw [if_neg e]
      by_cases g : k < l.key
      · rw [if_pos g]
        refine List.pairwise_cons.2 ⟨fun m hm => ?_, h⟩
        rcases List.mem_cons.1 hm with rfl | hm'
        · exact g
        · exact List.lt_trans g (h1 m hm')
      · rw [if_neg g]
        have hlt : l.key < k := by
          rcases List.le_iff_lt_or_eq.1 (List.not_lt.1 g) with h3 | h3
          · exact h3
          · exact absurd h3 e
        exact List.pairwise_cons.2 ⟨fun m hm => addS_head h2 h1 hlt m hm, sorted_addS h2⟩
theorem Well.add {S : List Sr} (h : Well S) {k : List UInt8} {p : Int × Nat} (hp : -1099511627776 ≤ p.1 ∧ p.1 ≤ 1099511627776 ∧ p.2 < 18446744073709551616) (hlast : ∀ l, l ∈ S → l.key = k → l.last < p.1) : Well (addS S k p) := by
  refine ⟨sorted_addS h.sorted, fun x hx => ?_, fun x hx q hq => ?_, fun x hx q hq => ?_, fun x hx => ?_⟩
  · rcases (mem_addS h.sorted).1 hx with ⟨hx', _⟩ | ⟨l, hl, e, rfl⟩ | ⟨_, rfl⟩
    · exact h.rise x hx'
    · refine List.pairwise_append.2 ⟨h.rise l hl, List.pairwise_singleton .., fun a ha b hb => ?_⟩
      simp at hb
      subst hb
      have := h.last l hl a ha
      have := hlast l hl e
      omega
    · exact List.pairwise_singleton ..
  · rcases (mem_addS h.sorted).1 hx with ⟨hx', _⟩ | ⟨l, hl, e, rfl⟩ | ⟨_, rfl⟩
    · exact h.last x hx' q hq
    · rcases List.mem_append.1 hq with hq' | hq'
      · have := h.last l hl q hq'
        have := hlast l hl e
        show q.1 ≤ p.1
        omega
      · simp at hq'
        subst hq'
        exact Int.le_refl _
    · simp at hq
      subst hq
      exact Int.le_refl _
  · rcases (mem_addS h.sorted).1 hx with ⟨hx', _⟩ | ⟨l, hl, e, rfl⟩ | ⟨_, rfl⟩
    · exact h.inb x hx' q hq
    · rcases List.mem_append.1 hq with hq' | hq'
      · exact h.inb l hl q hq'
      · simp at hq'
        subst hq'
        exact hp
    · simp at hq
      subst hq
      exact hp
  · rcases (mem_addS h.sorted).1 hx with ⟨hx', _⟩ | ⟨l, hl, e, rfl⟩ | ⟨_, rfl⟩
    · exact h.lab x hx'
    · exact ⟨hp.1, hp.2.1⟩
    · exact ⟨hp.1, hp.2.1⟩
def countS (S : List Sr) : Nat := (S.map fun l => l.pts.length).sum
theorem count_addS : ∀ (S : List Sr) (k : List UInt8) (p : Int × Nat), countS (addS S k p) = countS S + 1
  | [], k, p => by simp [addS, countS]
  | l :: r, k, p => by
    rw [addS]
    by_cases e : l.key = k
    · rw [if_pos e]
      simp [countS]
      omega
    · rw [if_neg e]
      by_cases g : k < l.key
      · rw [if_pos g]
        simp [countS]
        omega
      · rw [if_neg g]
        have ih := count_addS r k p
        simp only [countS, List.map_cons, List.sum_cons] at ih ⊢
        omega
theorem length_addS : ∀ (S : List Sr) (k : List UInt8) (p : Int × Nat), (S.Pairwise fun a b => a.key < b.key) → (addS S k p).length = if known S k = true then S.length else S.length + 1
  | [], k, p, _ => by simp [addS, known]
  | l :: r, k, p, h => by
    obtain ⟨h1, h2⟩ := List.pairwise_cons.1 h
    rw [addS]
    by_cases e : l.key = k
    · rw [if_pos e]
      have hk : known (l :: r) k = true := by simp [known, e]
      rw [if_pos hk]
      simp
    · rw [if_neg e]
      by_cases g : k < l.key
      · rw [if_pos g]
        have hk : known (l :: r) k = false := by
          cases h3 : known (l :: r) k with
          | false => rfl
          | true =>
            obtain ⟨m, hm, hmk⟩ := known_iff.1 h3
            rcases List.mem_cons.1 hm with rfl | hm'
            · exact absurd hmk e
            · exact absurd (List.lt_trans g (hmk ▸ h1 m hm')) (List.lt_irrefl _)
        rw [hk]
        simp
      · rw [if_neg g]
        have ih := length_addS r k p h2
        have hk : known (l :: r) k = known r k := by simp [known, e]
        rw [hk, List.length_cons, ih, List.length_cons]
        split <;> rfl
/-- Series that have points. -/
def seriesS (S : List Sr) : List (List UInt8) := (S.filter fun l => !l.pts.isEmpty).map fun l => l.key
theorem mem_seriesS {S : List Sr} {k : List UInt8} : k ∈ seriesS S ↔ ∃ l, l ∈ S ∧ l.key = k ∧ l.pts ≠ [] := by
  simp only [seriesS, List.mem_map, List.mem_filter, Bool.not_eq_true', List.isEmpty_eq_false_iff]
  constructor
  · rintro ⟨l, ⟨h1, h2⟩, h3⟩
    exact ⟨l, h1, h3, h2⟩
  · rintro ⟨l, h1, h2, h3⟩
    exact ⟨l, ⟨h1, h3⟩, h2⟩
theorem sorted_seriesS {S : List Sr} (h : S.Pairwise fun a b => a.key < b.key) : (seriesS S).Pairwise fun a b => a < b :=
  List.pairwise_map.2 (h.sublist List.filter_sublist)
theorem nodup_seriesS {S : List Sr} (h : S.Pairwise fun a b => a.key < b.key) : (seriesS S).Nodup :=
  (sorted_seriesS h).imp fun hab e => absurd (e ▸ hab) (List.lt_irrefl _)
/-- Points ahead of a tick, and the others. -/
def goneP (t : Int) (l : List (Int × Nat)) : List (Int × Nat) := l.filter fun p => decide (p.1 < t)
def leftP (t : Int) (l : List (Int × Nat)) : List (Int × Nat) := l.filter fun p => !decide (p.1 < t)
def cutS (t : Int) (S : List Sr) : List Sr := S.map fun l => ⟨l.key, leftP t l.pts, l.last⟩
def rowsS (t : Int) (S : List Sr) : List (List UInt8 × List (Int × Nat)) := (S.map fun l => (l.key, goneP t l.pts)).filter fun x => !x.2.isEmpty
theorem gone_left (t : Int) (l : List (Int × Nat)) : (goneP t l).length + (leftP t l).length = l.length := by
  induction l with
  | nil => rfl
  | cons p r ih =>
    simp only [goneP, leftP, List.filter_cons] at ih ⊢
    by_cases h : p.1 < t
    · simp [h] at ih ⊢; omega
    · simp [h] at ih ⊢; omega
theorem count_cut (t : Int) : ∀ S : List Sr, countS (cutS t S) + ((rowsS t S).map fun x => x.2.length).sum = countS S
  | [] => rfl
  | l :: r => by
    have ih := count_cut t r
    have hg := gone_left t l.pts
    simp only [countS, cutS, rowsS, List.map_cons, List.sum_cons, List.filter_cons] at ih ⊢
    by_cases h : (goneP t l.pts).isEmpty = true
    · have h0 : (goneP t l.pts).length = 0 := by simpa using h
      simp only [h, Bool.not_true, Bool.false_eq_true, if_false]
      omega
    · simp only [h, Bool.not_false, if_true, List.map_cons, List.sum_cons]
      omega
theorem Well.cut {S : List Sr} (h : Well S) (t : Int) : Well (cutS t S) := by
  refine ⟨List.pairwise_map.2 h.sorted, fun x hx => ?_, fun x hx q hq => ?_, fun x hx q hq => ?_, fun x hx => ?_⟩ <;> obtain ⟨l, hl, rfl⟩ := List.mem_map.1 hx
  · exact (h.rise l hl).sublist List.filter_sublist
  · exact h.last l hl q (List.mem_filter.1 hq).1
  · exact h.inb l hl q (List.mem_filter.1 hq).1
  · exact h.lab l hl
theorem length_cut (t : Int) (S : List Sr) : (cutS t S).length = S.length := by simp [cutS]
theorem known_cut (t : Int) (S : List Sr) (k : List UInt8) : known (cutS t S) k = known S k := by simp [known, cutS, List.any_map, Function.comp_def]
/-- Of points that rise those ahead of a tick are the first ones. -/
theorem split_at (t : Int) : ∀ (l : List (Int × Nat)), (l.Pairwise fun p q => p.1 < q.1) → ∀ n, n ≤ l.length → (∀ i (_ : i < n) (hl : i < l.length), (l[i]).1 < t) → (∀ hl : n < l.length, t ≤ (l[n]).1) → goneP t l = l.take n ∧ leftP t l = l.drop n
  | [], _, n, _, _, _ => by simp [goneP, leftP]
  | p :: r, hp, 0, _, _, h2 => by
    obtain ⟨h3, _⟩ := List.pairwise_cons.1 hp
    have hpt : t ≤ p.1 := h2 (by simp)
    have key : ∀ q, q ∈ p :: r → ¬ q.1 < t := fun q hq => by
      rcases List.mem_cons.1 hq with rfl | hq'
      · omega
      · have := h3 q hq'
        omega
    refine ⟨?_, ?_⟩
    · rw [List.take_zero]
      exact List.filter_eq_nil_iff.2 fun q hq => by simpa using key q hq
    · rw [List.drop_zero]
      exact List.filter_eq_self.2 fun q hq => by simpa using key q hq
  | p :: r, hp, n + 1, hn, h1, h2 => by
    obtain ⟨h3, h4⟩ := List.pairwise_cons.1 hp
    have hpt : p.1 < t := h1 0 (by omega) (by simp)
    have ih := split_at t r h4 n (by simp at hn; omega) (fun i hi hl => h1 (i + 1) (by omega) (by simp; omega)) (fun hl => h2 (by simp; omega))
    constructor
    · rw [List.take_succ_cons, ← ih.1]
      simp [goneP, hpt]
    · rw [List.drop_succ_cons, ← ih.2]
      simp [leftP, hpt]
/-- A series more, without points. -/
def insE : List Sr → List UInt8 → List Sr
  | [], k => [⟨k, [], 0⟩]
  | l :: r, k => if k < l.key then ⟨k, [], 0⟩ :: l :: r else l :: insE r k
theorem mem_insE : ∀ {S : List Sr} {k : List UInt8} {x : Sr}, x ∈ insE S k ↔ x ∈ S ∨ x = ⟨k, [], 0⟩
  | [], k, x => by simp [insE]
  | l :: r, k, x => by
    have ih := @mem_insE r k x
    rw [insE]
    split
    · simp only [List.mem_cons]
      constructor
      · rintro (h | h | h)
        · exact .inr h
        · exact .inl (.inl h)
        · exact .inl (.inr h)
      · rintro ((h | h) | h)
        · exact .inr (.inl h)
        · exact .inr (.inr h)
        · exact .inl h
    · simp only [List.mem_cons, ih]
      constructor
      · rintro (h | h | h)
        · exact .inl (.inl h)
        · exact .inl (.inr h)
        · exact .inr h
      · rintro ((h | h) | h)
        · exact .inl h
        · exact .inr (.inl h)
        · exact .inr (.inr h)
theorem length_insE : ∀ (S : List Sr) (k : List UInt8), (insE S k).length = S.length + 1
  | [], k => rfl
  | l :: r, k => by
    rw [insE]
    split
    · simp
    · simp [length_insE r k]
theorem known_insE (S : List Sr) (k j : List UInt8) : known (insE S k) j = (known S j || decide (k = j)) := by
  cases h : known (insE S k) j with
  | true =>
    obtain ⟨l, hl, hlk⟩ := known_iff.1 h
    rcases mem_insE.1 hl with h1 | h1
    · rw [known_iff.2 ⟨l, h1, hlk⟩]; rfl
    · subst h1; simp at hlk; simp [hlk]
  | false =>
    cases h1 : known S j with
    | true =>
      obtain ⟨l, hl, hlk⟩ := known_iff.1 h1
      rw [known_iff.2 ⟨l, mem_insE.2 (.inl hl), hlk⟩] at h
      cases h
    | false =>
      by_cases e : k = j
      · rw [known_iff.2 ⟨⟨k, [], 0⟩, mem_insE.2 (.inr rfl), e⟩] at h
        cases h
      · simp [e]
theorem sorted_insE : ∀ {S : List Sr} {k : List UInt8}, (S.Pairwise fun a b => a.key < b.key) → known S k = false → (insE S k).Pairwise fun a b => a.key < b.key
  | [], k, _, _ => by simp [insE]
  | l :: r, k, h, hk => by
    obtain ⟨h1, h2⟩ := List.pairwise_cons.1 h
    have hne : l.key ≠ k := fun e => by rw [known_iff.2 ⟨l, List.mem_cons_self .., e⟩] at hk; cases hk
    have hkr : known r k = false := by
      cases h3 : known r k with
      | false => rfl
      | true =>
        obtain ⟨m, hm, hmk⟩ := known_iff.1 h3
        rw [known_iff.2 ⟨m, List.mem_cons_of_mem _ hm, hmk⟩] at hk
        cases hk
    rw [insE]
    by_cases g : k < l.key
    · rw [if_pos g]
      refine List.pairwise_cons.2 ⟨fun m hm => ?_, h⟩
      rcases List.mem_cons.1 hm with rfl | hm'
      · exact g
      · exact List.lt_trans g (h1 m hm')
    · rw [if_neg g]
      have hlt : l.key < k := by
        rcases List.le_iff_lt_or_eq.1 (List.not_lt.1 g) with h3 | h3
        · exact h3
        · exact absurd h3 hne
      refine List.pairwise_cons.2 ⟨fun m hm => ?_, sorted_insE h2 hkr⟩
      rcases mem_insE.1 hm with h3 | h3
      · exact h1 m h3
      · subst h3; exact hlt
theorem addS_insE : ∀ {S : List Sr} {k : List UInt8} {p : Int × Nat}, (S.Pairwise fun a b => a.key < b.key) → known S k = false → addS (insE S k) k p = addS S k p
  | [], k, p, _, _ => by simp [insE, addS]
  | l :: r, k, p, h, hk => by
    obtain ⟨h1, h2⟩ := List.pairwise_cons.1 h
    have hne : l.key ≠ k := fun e => by rw [known_iff.2 ⟨l, List.mem_cons_self .., e⟩] at hk; cases hk
    have hkr : known r k = false := by
      cases h3 : known r k with
      | false => rfl
      | true =>
        obtain ⟨m, hm, hmk⟩ := known_iff.1 h3
        rw [known_iff.2 ⟨m, List.mem_cons_of_mem _ hm, hmk⟩] at hk
        cases hk
    rw [insE]
    by_cases g : k < l.key
    · rw [if_pos g]
      simp [addS, hne, g]
    · rw [if_neg g]
      simp only [addS, if_neg hne, if_neg g]
      rw [addS_insE h2 hkr]
/-- Points of a text. -/
def ptsOf (S : List Sr) (k : List UInt8) : List (Int × Nat) := ((S.find? fun l => decide (l.key = k)).map fun l => l.pts).getD []
theorem ptsOf_none {S : List Sr} {k : List UInt8} (h : known S k = false) : ptsOf S k = [] := by
  have : S.find? (fun l => decide (l.key = k)) = none := List.find?_eq_none.2 fun l hl e => by
    have : known S k = true := known_iff.2 ⟨l, hl, by simpa using e⟩
    rw [h] at this
    cases this
  simp [ptsOf, this]
theorem ptsOf_some {S : List Sr} (hs : S.Pairwise fun a b => a.key < b.key) {l : Sr} (hl : l ∈ S) {k : List UInt8} (hk : l.key = k) : ptsOf S k = l.pts := by
  cases e : S.find? (fun l => decide (l.key = k)) with
  | none => exact absurd (List.find?_eq_none.1 e l hl) (by simp [hk])
  | some m =>
    have hm := List.mem_of_find?_eq_some e
    have hmk : m.key = k := by simpa using List.find?_some e
    have := uniq hs hm hl (hmk.trans hk.symm)
    subst this
    simp [ptsOf, e]
/-- A line cut; those cut whose texts are among some. -/
def cutl (t : Int) (l : Sr) : Sr := ⟨l.key, leftP t l.pts, l.last⟩
def cutJ (t : Int) (names : List (List UInt8)) (S : List Sr) : List Sr := S.map fun l => if l.key ∈ names then cutl t l else l
theorem cutJ_nil (t : Int) (S : List Sr) : cutJ t [] S = S := by simp [cutJ]
theorem cutJ_key (t : Int) (names : List (List UInt8)) (l : Sr) : (if l.key ∈ names then cutl t l else l).key = l.key := by split <;> rfl
theorem cutJ_snoc (t : Int) (names : List (List UInt8)) (k : List UInt8) (hk : k ∉ names) (S : List Sr) : cutJ t (names ++ [k]) S = (cutJ t names S).map fun l => if l.key = k then cutl t l else l := by
  rw [cutJ, cutJ, List.map_map]
  refine List.map_congr_left fun l _ => ?_
  show _ = if (if l.key ∈ names then cutl t l else l).key = k then _ else _
  rw [cutJ_key]
  by_cases e : l.key = k
  · rw [if_pos e, if_pos (by simp [e])]
    show cutl t l = cutl t (if l.key ∈ names then cutl t l else l)
    rw [if_neg (by rw [e]; exact hk)]
  · rw [if_neg e]
    show _ = if l.key ∈ names then cutl t l else l
    by_cases h : l.key ∈ names
    · rw [if_pos (by simp [h]), if_pos h]
    · rw [if_neg (by simp [h, e]), if_neg h]
theorem sorted_cutJ (t : Int) (names : List (List UInt8)) {S : List Sr} (h : S.Pairwise fun a b => a.key < b.key) : (cutJ t names S).Pairwise fun a b => a.key < b.key := by
  refine List.pairwise_map.2 (h.imp fun {a b} hab => ?_)
  rw [cutJ_key, cutJ_key]
  exact hab
theorem mem_cutJ {t : Int} {names : List (List UInt8)} {S : List Sr} {l : Sr} (hl : l ∈ S) (hk : l.key ∉ names) : l ∈ cutJ t names S := List.mem_map.2 ⟨l, hl, if_neg hk⟩
theorem length_cutJ (t : Int) (names : List (List UInt8)) (S : List Sr) : (cutJ t names S).length = S.length := by simp [cutJ]
theorem cutJ_all (t : Int) (S : List Sr) : cutJ t (seriesS S) S = cutS t S := by
  refine List.map_congr_left fun l hl => ?_
  by_cases h : l.key ∈ seriesS S
  · rw [if_pos h]; rfl
  · rw [if_neg h]
    have hp : l.pts = [] := by
      cases e : l.pts with
      | nil => rfl
      | cons a r => exact absurd (mem_seriesS.2 ⟨l, hl, rfl, by rw [e]; simp⟩) h
    cases l
    simp at hp
    subst hp
    rfl
def rowsJ (t : Int) (S : List Sr) (names : List (List UInt8)) : List (List UInt8 × List (Int × Nat)) := (names.map fun k => (k, goneP t (ptsOf S k))).filter fun x => !x.2.isEmpty
theorem rowsJ_snoc (t : Int) (S : List Sr) (names : List (List UInt8)) (k : List UInt8) : rowsJ t S (names ++ [k]) = rowsJ t S names ++ if (goneP t (ptsOf S k)).isEmpty = true then [] else [(k, goneP t (ptsOf S k))] := by
  simp only [rowsJ, List.map_append, List.filter_append, List.map_cons, List.map_nil, List.filter_cons, List.filter_nil]
  cases (goneP t (ptsOf S k)).isEmpty <;> rfl
theorem rowsJ_all (t : Int) {S : List Sr} (hs : S.Pairwise fun a b => a.key < b.key) : rowsJ t S (seriesS S) = rowsS t S := by
  have key : ∀ T : List Sr, (∀ l, l ∈ T → l ∈ S) → ((((T.filter fun l => !l.pts.isEmpty).map fun l => l.key).map fun k => (k, goneP t (ptsOf S k))).filter fun x => !x.2.isEmpty) = ((T.map fun l => (l.key, goneP t l.pts)).filter fun x => !x.2.isEmpty) := by
    intro T
    induction T with
    | nil => intro _; rfl
    | cons a r ih =>
      intro h
      have ih' := ih fun l hl => h l (List.mem_cons_of_mem _ hl)
      have ha := ptsOf_some hs (h a (List.mem_cons_self ..)) rfl
      rw [List.filter_cons]
      by_cases hp : a.pts = []
      · have hg : goneP t a.pts = [] := by rw [hp]; rfl
        simp only [hp, List.isEmpty_nil, Bool.not_true, Bool.false_eq_true, if_false]
        rw [ih', List.map_cons, List.filter_cons]
        rw [hp] at hg
        simp [hp, hg]
      · have hne : (!a.pts.isEmpty) = true := by simp [hp]
        rw [if_pos hne]
        simp only [List.map_cons, List.filter_cons, ha]
        rw [ih']
  exact key S fun _ h => h
end HeadMath
/- Plain mathematics of masks: values by what changes. Nothing of Go. -/
namespace BitMath

/-- How many bits are 0 at the head. -/
def lz : List Bool → Nat
  | false :: r => lz r + 1
  | _ => 0
theorem lz_le : ∀ l : List Bool, lz l ≤ l.length
  | [] => Nat.le_refl _
  | true :: _ => Nat.zero_le _
  | false :: r => by simp only [lz, List.length_cons]; have := lz_le r; omega
theorem lz_at : ∀ (l : List Bool) (i : Nat), l[i]? = some true → lz l ≤ i
  | [], i, h => by simp at h
  | true :: _, i, _ => Nat.zero_le _
  | false :: r, 0, h => by simp at h
  | false :: r, i + 1, h => by
    simp only [lz]
    have := lz_at r i (by simpa using h)
    omega
theorem lz_low : ∀ (l : List Bool) (i : Nat), i < lz l → l[i]? = some false
  | [], i, h => by simp [lz] at h
  | true :: _, i, h => by simp [lz] at h
  | false :: r, 0, _ => rfl
  | false :: r, i + 1, h => by
    simp only [lz] at h
    have := lz_low r i (by omega)
    simpa using this
theorem lz_end : ∀ l : List Bool, l[lz l]? ≠ some false
  | [] => by simp [lz]
  | true :: _ => by simp [lz]
  | false :: r => by simpa [lz] using lz_end r
theorem lz_eq : ∀ (l : List Bool) (k : Nat), (∀ i, i < k → l[i]? = some false) → l[k]? ≠ some false → lz l = k
  | [], 0, _, _ => rfl
  | [], k + 1, h, _ => by have := h 0 (by omega); simp at this
  | true :: _, 0, _, _ => rfl
  | true :: _, k + 1, h, _ => by have := h 0 (by omega); simp at this
  | false :: r, 0, _, h => by simp at h
  | false :: r, k + 1, h, h2 => by
    simp only [lz]
    rw [lz_eq r k (fun i hi => by simpa using h (i + 1) (by omega)) (by simpa using h2)]

theorem bits_some (x : Nat) (hx : x < 18446744073709551616) (h : x ≠ 0) : ∃ i, i < 64 ∧ (bitsOf x 64)[i]? = some true := by
  obtain ⟨j, hj⟩ := Nat.exists_testBit_of_ne_zero h
  have hj64 : j < 64 := by
    rcases Nat.lt_or_ge j 64 with h1 | h1
    · exact h1
    · have : x < 2 ^ j := Nat.lt_of_lt_of_le hx (by
        have : 2 ^ 64 ≤ 2 ^ j := Nat.pow_le_pow_right (by omega) h1
        exact this)
      rw [Nat.testBit_lt_two_pow this] at hj
      cases hj
  refine ⟨63 - j, by omega, ?_⟩
  have hl := length_bitsOf x 64
  rw [List.getElem?_eq_getElem (by omega), getElem_bitsOf, show 64 - 1 - (63 - j) = j by omega, hj]

/-- LEAD and TAIL of what changes. -/
def mLead (x : Nat) : Nat := min (lz (bitsOf x 64)) 31
def mTail (x : Nat) : Nat := lz (bitsOf x 64).reverse
theorem lead_le (x : Nat) : mLead x ≤ 31 := Nat.min_le_right _ _
theorem lead_tail (x : Nat) (hx : x < 18446744073709551616) (h : x ≠ 0) : mLead x + mTail x ≤ 63 := by
  obtain ⟨i, hi, ht⟩ := bits_some x hx h
  have h1 := lz_at _ _ ht
  have hl := length_bitsOf x 64
  have h2 : (bitsOf x 64).reverse[63 - i]? = some true := by
    rw [List.getElem?_reverse (by omega), hl, show 64 - 1 - (63 - i) = i by omega]
    exact ht
  have h3 := lz_at _ _ h2
  unfold mLead mTail
  omega

/-- A window: is there one, its lead, its tail. -/
def mFits (w : Bool × Nat × Nat) (x : Nat) : Bool := w.1 && (decide (w.2.1 ≤ mLead x) && decide (w.2.2 ≤ mTail x))
def mBits (w : Bool × Nat × Nat) (x : Nat) : List Bool :=
  if x = 0 then [false]
  else if mFits w x = true then [true, false] ++ ((bitsOf x 64).drop w.2.1).take (64 - w.2.2 - w.2.1)
  else [true, true] ++ bitsOf (mLead x) 5 ++ bitsOf (64 - mLead x - mTail x) 6 ++ ((bitsOf x 64).drop (mLead x)).take (64 - mTail x - mLead x)
def mNext (w : Bool × Nat × Nat) (x : Nat) : Bool × Nat × Nat := if x = 0 then w else if mFits w x = true then w else (true, mLead x, mTail x)
/-- The window behind k values, and their bits. -/
def winTo (V : Nat → Nat) : Nat → Bool × Nat × Nat
  | 0 => (false, 0, 0)
  | k + 1 => if k = 0 then (false, 0, 0) else mNext (winTo V k) (V k ^^^ V (k - 1))
def maskTo (V : Nat → Nat) : Nat → List Bool
  | 0 => []
  | k + 1 => if k = 0 then bitsOf (V 0) 64 else maskTo V k ++ mBits (winTo V k) (V k ^^^ V (k - 1))
theorem winTo_step (V : Nat → Nat) (k : Nat) (h : k ≠ 0) : winTo V (k + 1) = mNext (winTo V k) (V k ^^^ V (k - 1)) := by rw [winTo, if_neg h]
theorem maskTo_step (V : Nat → Nat) (k : Nat) (h : k ≠ 0) : maskTo V (k + 1) = maskTo V k ++ mBits (winTo V k) (V k ^^^ V (k - 1)) := by rw [maskTo, if_neg h]
theorem maskTo_first (V : Nat → Nat) : maskTo V 1 = bitsOf (V 0) 64 := by rw [maskTo, if_pos rfl]
theorem winTo_first (V : Nat → Nat) : winTo V 1 = (false, 0, 0) := by rw [winTo, if_pos rfl]
theorem xor_lt (a b : Nat) (ha : a < 18446744073709551616) (hb : b < 18446744073709551616) : a ^^^ b < 18446744073709551616 := Nat.xor_lt_two_pow (n := 64) ha hb
theorem winTo_ok (V : Nat → Nat) (n : Nat) (hV : ∀ i, i < n → V i < 18446744073709551616) : ∀ k, k ≤ n → (winTo V k).2.1 ≤ 31 ∧ (winTo V k).2.1 + (winTo V k).2.2 ≤ 63
  | 0, _ => by simp [winTo]
  | k + 1, h => by
    by_cases hk : k = 0
    · subst hk; rw [winTo_first]; simp
    · rw [winTo_step V k hk]
      have ih := winTo_ok V n hV k (by omega)
      have hx := xor_lt (V k) (V (k - 1)) (hV k (by omega)) (hV (k - 1) (by omega))
      unfold mNext
      by_cases h0 : V k ^^^ V (k - 1) = 0
      · rw [if_pos h0]; exact ih
      · rw [if_neg h0]
        by_cases h1 : mFits (winTo V k) (V k ^^^ V (k - 1)) = true
        · rw [if_pos h1]; exact ih
        · rw [if_neg h1]
          exact ⟨lead_le _, lead_tail _ hx h0⟩
theorem length_mBits (w : Bool × Nat × Nat) (x : Nat) : (mBits w x).length ≤ 77 := by
  have hl := length_bitsOf x 64
  unfold mBits
  split
  · simp
  · split
    · simp [hl]; omega
    · simp [hl, length_bitsOf]; omega
theorem length_maskTo (V : Nat → Nat) : ∀ k, (maskTo V k).length ≤ 77 * k
  | 0 => by simp [maskTo]
  | k + 1 => by
    by_cases hk : k = 0
    · subst hk; rw [maskTo_first, length_bitsOf]; omega
    · rw [maskTo_step V k hk, List.length_append]
      have h1 := length_maskTo V k
      have h2 := length_mBits (winTo V k) (V k ^^^ V (k - 1))
      omega
end BitMath
/- Plain mathematics of masks, second part: reading. Nothing of Go. -/
namespace BitMath

theorem winTo_congr (V U : Nat → Nat) : ∀ k, (∀ i, i < k → V i = U i) → winTo V k = winTo U k
  | 0, _ => rfl
  | k + 1, h => by
    by_cases hk : k = 0
    · subst hk; rw [winTo_first, winTo_first]
    · rw [winTo_step V k hk, winTo_step U k hk, winTo_congr V U k (fun i hi => h i (by omega)), h k (by omega), h (k - 1) (by omega)]
theorem maskTo_congr (V U : Nat → Nat) : ∀ k, (∀ i, i < k → V i = U i) → maskTo V k = maskTo U k
  | 0, _ => rfl
  | k + 1, h => by
    by_cases hk : k = 0
    · subst hk; rw [maskTo_first, maskTo_first, h 0 (by omega)]
    · rw [maskTo_step V k hk, maskTo_step U k hk, maskTo_congr V U k (fun i hi => h i (by omega)), winTo_congr V U k (fun i hi => h i (by omega)), h k (by omega), h (k - 1) (by omega)]

/-- The list's values as a function. -/
def vf (vs : List Nat) (i : Nat) : Nat := vs.getD i 0
theorem vf_left (vs : List Nat) (v i : Nat) (h : i < vs.length) : vf (vs ++ [v]) i = vf vs i := by
  simp [vf, List.getElem?_append_left h]
theorem vf_last (vs : List Nat) (v : Nat) : vf (vs ++ [v]) vs.length = v := by simp [vf]
theorem xor_back (p x : Nat) : (p ^^^ x) ^^^ p = x := by rw [Nat.xor_comm p x, Nat.xor_assoc, Nat.xor_self, Nat.xor_zero]
theorem maskTo_next (vs : List Nat) (x : Nat) (h : vs.length ≠ 0) :
    maskTo (vf (vs ++ [vf vs (vs.length - 1) ^^^ x])) (vs.length + 1) = maskTo (vf vs) vs.length ++ mBits (winTo (vf vs) vs.length) x ∧
    winTo (vf (vs ++ [vf vs (vs.length - 1) ^^^ x])) (vs.length + 1) = mNext (winTo (vf vs) vs.length) x := by
  have hc : ∀ i, i < vs.length → vf (vs ++ [vf vs (vs.length - 1) ^^^ x]) i = vf vs i := fun i hi => vf_left _ _ _ hi
  rw [maskTo_step _ _ h, winTo_step _ _ h, maskTo_congr _ _ _ hc, winTo_congr _ _ _ hc, vf_last, hc (vs.length - 1) (by omega), xor_back]
  exact ⟨rfl, rfl⟩

/-- How many bits a window has; none: 0. -/
def wideW (w : Bool × Nat × Nat) : Nat := if w.1 = true then 64 - w.2.1 - w.2.2 else 0
def fixW (n : Nat) : Nat := if n = 0 then 64 else n
/-- Behind the mark: lead, width and how many bits the head has. -/
def headR (w : Bool × Nat × Nat) (D : List Bool) : Nat × Nat × Nat :=
  if D.getD 1 false = true then (valB ((D.drop 2).take 5), fixW (valB ((D.drop 7).take 6)), 13) else (w.2.1, wideW w, 2)
/-- One later value: an error's number, the value, how many bits. -/
def readStep (w : Bool × Nat × Nat) (p : Nat) (D : List Bool) : Nat × Nat × Nat :=
  if D.length = 0 then (5, 0, 0)
  else if D.getD 0 false = false then (0, p, 1)
  else if D.length ≤ 1 then (5, 0, 0)
  else if D.getD 1 false = true ∧ D.length < 13 then (5, 0, 0)
  else if (headR w D).2.1 = 0 ∨ 64 < (headR w D).1 + (headR w D).2.1 then (1, 0, 0)
  else if D.length < (headR w D).2.2 + (headR w D).2.1 then (5, 0, 0)
  else if valB ((D.drop (headR w D).2.2).take (headR w D).2.1) * 2 ^ (64 - (headR w D).1 - (headR w D).2.1) = 0 ∨ mBits w (valB ((D.drop (headR w D).2.2).take (headR w D).2.1) * 2 ^ (64 - (headR w D).1 - (headR w D).2.1)) ≠ D.take ((headR w D).2.2 + (headR w D).2.1) then (1, 0, 0)
  else (0, p ^^^ (valB ((D.drop (headR w D).2.2).take (headR w D).2.1) * 2 ^ (64 - (headR w D).1 - (headR w D).2.1)), (headR w D).2.2 + (headR w D).2.1)

/-- n values: an error's number, the values, how many bits. -/
def maskRead (D : List Bool) : Nat → Nat × List Nat × Nat
  | 0 => (0, [], 0)
  | k + 1 =>
    if (maskRead D k).1 ≠ 0 then maskRead D k
    else if k = 0 then (if D.length < 64 then (5, [], 0) else (0, [valB (D.take 64)], 64))
    else if (readStep (winTo (vf (maskRead D k).2.1) k) (vf (maskRead D k).2.1 (k - 1)) (D.drop (maskRead D k).2.2)).1 ≠ 0 then ((readStep (winTo (vf (maskRead D k).2.1) k) (vf (maskRead D k).2.1 (k - 1)) (D.drop (maskRead D k).2.2)).1, [], 0)
    else (0, (maskRead D k).2.1 ++ [(readStep (winTo (vf (maskRead D k).2.1) k) (vf (maskRead D k).2.1 (k - 1)) (D.drop (maskRead D k).2.2)).2.1], (maskRead D k).2.2 + (readStep (winTo (vf (maskRead D k).2.1) k) (vf (maskRead D k).2.1 (k - 1)) (D.drop (maskRead D k).2.2)).2.2)
theorem maskRead_err (D : List Bool) (k : Nat) (c : Nat) (hc : c ≠ 0) (h : maskRead D k = (c, [], 0)) : ∀ n, k ≤ n → maskRead D n = (c, [], 0)
  | 0, hn => by
    have : k = 0 := by omega
    subst this; exact h
  | n + 1, hn => by
    rcases Nat.lt_or_ge n k with h1 | h1
    · have : k = n + 1 := by omega
      subst this; exact h
    · have ih := maskRead_err D k c hc h n h1
      rw [maskRead, ih, if_pos hc]
theorem maskRead_first_bad (D : List Bool) (h : D.length < 64) : maskRead D 1 = (5, [], 0) := by
  rw [maskRead, if_neg (by simp [maskRead]), if_pos rfl, if_pos h]
theorem maskRead_first (D : List Bool) (h : 64 ≤ D.length) : maskRead D 1 = (0, [valB (D.take 64)], 64) := by
  rw [maskRead, if_neg (by simp [maskRead]), if_pos rfl, if_neg (by omega)]
theorem maskRead_bad (D : List Bool) (k u : Nat) (vs : List Nat) (w : Bool × Nat × Nat) (p c : Nat) (hk : k ≠ 0) (h : maskRead D k = (0, vs, u)) (hw : winTo (vf vs) k = w) (hp : vf vs (k - 1) = p) (hs : readStep w p (D.drop u) = (c, 0, 0)) (hc : c ≠ 0) : maskRead D (k + 1) = (c, [], 0) := by
  rw [maskRead, h, if_neg (by simp), if_neg hk, hw, hp, hs, if_pos hc]
theorem maskRead_good (D : List Bool) (k u : Nat) (vs : List Nat) (w : Bool × Nat × Nat) (p v m : Nat) (hk : k ≠ 0) (h : maskRead D k = (0, vs, u)) (hw : winTo (vf vs) k = w) (hp : vf vs (k - 1) = p) (hs : readStep w p (D.drop u) = (0, v, m)) : maskRead D (k + 1) = (0, vs ++ [v], u + m) := by
  rw [maskRead, h, if_neg (by simp), if_neg hk, hw, hp, hs, if_neg (by simp)]

theorem getD_take (D : List Bool) (n i : Nat) (h : i < n) : (D.take n).getD i false = D.getD i false := by
  rw [List.getD_eq_getElem?_getD, List.getD_eq_getElem?_getD, List.getElem?_take_of_lt h]
/-- What a head that Put would make tells of the window. -/
theorem head_new (w : Bool × Nat × Nat) (x : Nat) (hx : x < 18446744073709551616) (D : List Bool) (n : Nat) (hn : 13 ≤ n) (h0 : x ≠ 0) (hf : D.getD 1 false = true) (hm : mBits w x = D.take n) :
    mNext w x = (true, valB ((D.drop 2).take 5), 64 - valB ((D.drop 2).take 5) - fixW (valB ((D.drop 7).take 6))) ∧ wideW (mNext w x) = fixW (valB ((D.drop 7).take 6)) := by
  have hlt := lead_tail x hx h0
  have hl := lead_le x
  have h1 : (mBits w x).getD 1 false = true := by rw [hm, getD_take _ _ _ (by omega)]; exact hf
  have hnf : ¬ mFits w x = true := by
    intro hfit
    unfold mBits at h1
    rw [if_neg h0, if_pos hfit] at h1
    simp at h1
  have hb : mBits w x = [true, true] ++ bitsOf (mLead x) 5 ++ bitsOf (64 - mLead x - mTail x) 6 ++ ((bitsOf x 64).drop (mLead x)).take (64 - mTail x - mLead x) := by
    unfold mBits
    rw [if_neg h0, if_neg hnf]
  have e5 : (D.drop 2).take 5 = bitsOf (mLead x) 5 := by
    have : ((D.take n).drop 2).take 5 = (D.drop 2).take 5 := by rw [List.drop_take, List.take_take, Nat.min_eq_left (by omega)]
    rw [← this, ← hm, hb, List.append_assoc, List.append_assoc, List.drop_append_of_le_length (by simp)]
    simp only [List.drop_succ_cons, List.drop_zero, List.nil_append]
    rw [List.take_append_of_le_length (by rw [length_bitsOf]; exact Nat.le_refl _), List.take_of_length_le (by rw [length_bitsOf]; exact Nat.le_refl _)]
  have e6 : (D.drop 7).take 6 = bitsOf (64 - mLead x - mTail x) 6 := by
    have : ((D.take n).drop 7).take 6 = (D.drop 7).take 6 := by rw [List.drop_take, List.take_take, Nat.min_eq_left (by omega)]
    rw [← this, ← hm, hb, List.append_assoc ([true, true] ++ bitsOf (mLead x) 5), List.drop_append_of_le_length (by simp [length_bitsOf])]
    have : List.drop 7 ([true, true] ++ bitsOf (mLead x) 5) = [] := List.drop_of_length_le (by simp [length_bitsOf])
    rw [this, List.nil_append, List.take_append_of_le_length (by rw [length_bitsOf]; exact Nat.le_refl _), List.take_of_length_le (by rw [length_bitsOf]; exact Nat.le_refl _)]
  have v5 : valB ((D.drop 2).take 5) = mLead x := by rw [e5, valB_bitsOf]; exact Nat.mod_eq_of_lt (by omega)
  have v6 : fixW (valB ((D.drop 7).take 6)) = 64 - mLead x - mTail x := by
    rw [e6, valB_bitsOf]
    unfold fixW
    have : (2 : Nat) ^ 6 = 64 := rfl
    rw [this]
    split <;> omega
  have hnx : mNext w x = (true, mLead x, mTail x) := by unfold mNext; rw [if_neg h0, if_neg hnf]
  rw [hnx, v5, v6]
  refine ⟨?_, ?_⟩
  · congr 2
    omega
  · unfold wideW
    rw [if_pos rfl]
theorem head_old (w : Bool × Nat × Nat) (x : Nat) (D : List Bool) (n : Nat) (hn : 2 ≤ n) (h0 : x ≠ 0) (hf : D.getD 1 false = false) (_hd : D.getD 0 false = true) (hm : mBits w x = D.take n) : mNext w x = w := by
  have h1 : (mBits w x).getD 1 false = false := by rw [hm, getD_take _ _ _ (by omega)]; exact hf
  unfold mNext
  rw [if_neg h0]
  by_cases hfit : mFits w x = true
  · rw [if_pos hfit]
  · unfold mBits at h1
    rw [if_neg h0, if_neg hfit] at h1
    simp at h1
end BitMath
/- Plain mathematics of masks, third part: what is put is read. Nothing of Go. -/
namespace BitMath

theorem valB_zeros : ∀ l : List Bool, (∀ i, i < l.length → l[i]? = some false) → valB l = 0 := by
  apply snoc_ind
  · intro _; rfl
  · intro l a ih h
    rw [valB_snoc, ih (fun i hi => by
      have := h i (by simp; omega)
      rwa [List.getElem?_append_left hi] at this)]
    have := h l.length (by simp)
    simp at this
    subst this
    rfl
/-- The bits between, shifted back, are the value. -/
theorem mid_val (x L T : Nat) (hx : x < 18446744073709551616) (hL : L ≤ lz (bitsOf x 64)) (hT : T ≤ lz (bitsOf x 64).reverse) (hLT : L + T ≤ 64) : valB (((bitsOf x 64).drop L).take (64 - T - L)) * 2 ^ T = x := by
  have hl := length_bitsOf x 64
  have hv : valB (bitsOf x 64) = x := by rw [valB_bitsOf]; exact Nat.mod_eq_of_lt hx
  have hs : bitsOf x 64 = (bitsOf x 64).take L ++ (((bitsOf x 64).drop L).take (64 - T - L) ++ ((bitsOf x 64).drop L).drop (64 - T - L)) := by
    rw [List.take_append_drop, List.take_append_drop]
  have h0 : valB ((bitsOf x 64).take L) = 0 := by
    apply valB_zeros
    intro i hi
    rw [List.length_take] at hi
    rw [List.getElem?_take_of_lt (by omega)]
    exact lz_low _ _ (by omega)
  have h2 : valB (((bitsOf x 64).drop L).drop (64 - T - L)) = 0 := by
    apply valB_zeros
    intro i hi
    rw [List.length_drop, List.length_drop] at hi
    rw [List.getElem?_drop, List.getElem?_drop]
    have := lz_low (bitsOf x 64).reverse (T - 1 - i) (by omega)
    rw [List.getElem?_reverse (by omega), hl] at this
    rw [← this]
    congr 1
    omega
  have hlen : (((bitsOf x 64).drop L).drop (64 - T - L)).length = T := by rw [List.length_drop, List.length_drop]; omega
  rw [hs, valB_append, valB_append, h0, h2, hlen, Nat.zero_mul, Nat.zero_add, Nat.add_zero] at hv
  exact hv

theorem readStep_bits (w : Bool × Nat × Nat) (p x : Nat) (R : List Bool) (hx : x < 18446744073709551616) (hw : w.2.1 + w.2.2 ≤ 63) : readStep w p (mBits w x ++ R) = (0, p ^^^ x, (mBits w x).length) := by
  have hl := length_bitsOf x 64
  by_cases h0 : x = 0
  · have hm : mBits w x = [false] := by unfold mBits; rw [if_pos h0]
    rw [hm, h0, Nat.xor_zero]
    unfold readStep
    rw [if_neg (by simp), if_pos (by rfl)]
    rfl
  · have hlt := lead_tail x hx h0
    have hle := lead_le x
    by_cases hf : mFits w x = true
    · have hm : mBits w x = [true, false] ++ ((bitsOf x 64).drop w.2.1).take (64 - w.2.2 - w.2.1) := by unfold mBits; rw [if_neg h0, if_pos hf]
      have hff := hf
      unfold mFits at hff
      simp at hff
      obtain ⟨hw1, hL, hT⟩ := hff
      have hlen : (((bitsOf x 64).drop w.2.1).take (64 - w.2.2 - w.2.1)).length = 64 - w.2.1 - w.2.2 := by rw [List.length_take, List.length_drop]; omega
      have hml : (mBits w x).length = 2 + (64 - w.2.1 - w.2.2) := by rw [hm, List.length_append, hlen]; rfl
      have hwd : wideW w = 64 - w.2.1 - w.2.2 := by unfold wideW; rw [if_pos hw1]
      have hh : headR w (mBits w x ++ R) = (w.2.1, wideW w, 2) := by unfold headR; rw [hm]; rfl
      have hd : ((mBits w x ++ R).drop 2).take (wideW w) = ((bitsOf x 64).drop w.2.1).take (64 - w.2.2 - w.2.1) := by
        rw [hm, List.append_assoc]
        show ((((bitsOf x 64).drop w.2.1).take (64 - w.2.2 - w.2.1)) ++ R).take (wideW w) = _
        rw [hwd, ← hlen, List.take_left]
      have hval : valB (((mBits w x ++ R).drop 2).take (wideW w)) * 2 ^ (64 - w.2.1 - wideW w) = x := by
        rw [hd, hwd, show 64 - w.2.1 - (64 - w.2.1 - w.2.2) = w.2.2 by omega]
        exact mid_val x w.2.1 w.2.2 hx (by unfold mLead at hL; omega) hT (by omega)
      unfold readStep
      rw [if_neg (by rw [hm]; simp), if_neg (by rw [hm]; simp), if_neg (by rw [hm]; simp), if_neg (by rw [hm]; simp), hh]
      simp only
      rw [if_neg (by omega), if_neg (by rw [List.length_append, hml]; omega), hval, if_neg (by
        intro hc
        rcases hc with hc | hc
        · exact h0 hc
        · apply hc
          rw [hwd, ← hml, List.take_left]), hml, hwd]
    · have hm : mBits w x = [true, true] ++ bitsOf (mLead x) 5 ++ bitsOf (64 - mLead x - mTail x) 6 ++ ((bitsOf x 64).drop (mLead x)).take (64 - mTail x - mLead x) := by unfold mBits; rw [if_neg h0, if_neg hf]
      have hlen : (((bitsOf x 64).drop (mLead x)).take (64 - mTail x - mLead x)).length = 64 - mLead x - mTail x := by rw [List.length_take, List.length_drop]; omega
      have hml : (mBits w x).length = 13 + (64 - mLead x - mTail x) := by
        rw [hm]
        simp only [List.length_append, length_bitsOf, hlen, List.length_cons, List.length_nil]
      have h5 : ((mBits w x ++ R).drop 2).take 5 = bitsOf (mLead x) 5 := by
        rw [hm]
        simp only [List.append_assoc]
        show ((bitsOf (mLead x) 5) ++ (bitsOf (64 - mLead x - mTail x) 6 ++ (((bitsOf x 64).drop (mLead x)).take (64 - mTail x - mLead x) ++ R))).take 5 = _
        rw [List.take_append_of_le_length (by rw [length_bitsOf]; exact Nat.le_refl _), List.take_of_length_le (by rw [length_bitsOf]; exact Nat.le_refl _)]
      have hd7 : (mBits w x ++ R).drop 7 = bitsOf (64 - mLead x - mTail x) 6 ++ (((bitsOf x 64).drop (mLead x)).take (64 - mTail x - mLead x) ++ R) := by
        rw [hm]
        have : ([true, true] ++ bitsOf (mLead x) 5).length = 7 := by simp [length_bitsOf]
        rw [List.append_assoc, List.append_assoc, ← this, List.drop_left]
      have h6 : ((mBits w x ++ R).drop 7).take 6 = bitsOf (64 - mLead x - mTail x) 6 := by
        rw [hd7, List.take_append_of_le_length (by rw [length_bitsOf]; exact Nat.le_refl _), List.take_of_length_le (by rw [length_bitsOf]; exact Nat.le_refl _)]
      have v5 : valB (((mBits w x ++ R).drop 2).take 5) = mLead x := by rw [h5, valB_bitsOf]; exact Nat.mod_eq_of_lt (by omega)
      have v6 : fixW (valB (((mBits w x ++ R).drop 7).take 6)) = 64 - mLead x - mTail x := by
        rw [h6, valB_bitsOf]
        unfold fixW
        have : (2 : Nat) ^ 6 = 64 := rfl
        rw [this]
        split <;> omega
      have hg1 : (mBits w x ++ R).getD 1 false = true := by rw [hm]; rfl
      have hg0 : (mBits w x ++ R).getD 0 false = true := by rw [hm]; rfl
      have hh : headR w (mBits w x ++ R) = (mLead x, 64 - mLead x - mTail x, 13) := by
        unfold headR
        rw [if_pos hg1, v5, v6]
      have hd13 : (mBits w x ++ R).drop 13 = ((bitsOf x 64).drop (mLead x)).take (64 - mTail x - mLead x) ++ R := by
        have : (mBits w x ++ R).drop 13 = ((mBits w x ++ R).drop 7).drop 6 := by rw [List.drop_drop]
        rw [this, hd7]
        have h66 : (bitsOf (64 - mLead x - mTail x) 6).length = 6 := length_bitsOf _ _
        exact List.drop_left' h66
      have hval : valB (((mBits w x ++ R).drop 13).take (64 - mLead x - mTail x)) * 2 ^ (64 - mLead x - (64 - mLead x - mTail x)) = x := by
        rw [hd13, show 64 - mLead x - (64 - mLead x - mTail x) = mTail x by omega]
        have ht : ((((bitsOf x 64).drop (mLead x)).take (64 - mTail x - mLead x)) ++ R).take (64 - mLead x - mTail x) = ((bitsOf x 64).drop (mLead x)).take (64 - mTail x - mLead x) := by
          exact List.take_left' hlen
        rw [ht]
        exact mid_val x (mLead x) (mTail x) hx (by unfold mLead; omega) (Nat.le_refl _) (by omega)
      unfold readStep
      rw [if_neg (by rw [List.length_append, hml]; omega), if_neg (by rw [hg0]; decide), if_neg (by rw [List.length_append, hml]; omega), if_neg (by rw [List.length_append, hml]; omega), hh]
      simp only
      rw [if_neg (by omega), if_neg (by rw [List.length_append, hml]; omega), hval, if_neg (by
        intro hc
        rcases hc with hc | hc
        · exact h0 hc
        · apply hc
          rw [← hml, List.take_left]), hml]

theorem maskTo_split (V : Nat → Nat) (k : Nat) (hk : k ≠ 0) : ∀ n, k < n → ∃ R, maskTo V n = maskTo V k ++ (mBits (winTo V k) (V k ^^^ V (k - 1)) ++ R)
  | 0, h => absurd h (by omega)
  | n + 1, h => by
    rcases Nat.lt_or_ge k n with h1 | h1
    · obtain ⟨R, hR⟩ := maskTo_split V k hk n h1
      refine ⟨R ++ mBits (winTo V n) (V n ^^^ V (n - 1)), ?_⟩
      rw [maskTo_step V n (by omega), hR]
      simp [List.append_assoc]
    · have : k = n := by omega
      subst this
      exact ⟨[], by rw [maskTo_step V k hk, List.append_nil]⟩
theorem maskTo_split0 (V : Nat → Nat) : ∀ n, 0 < n → ∃ R, maskTo V n = bitsOf (V 0) 64 ++ R
  | 0, h => absurd h (by omega)
  | n + 1, _ => by
    by_cases hn : n = 0
    · subst hn
      exact ⟨[], by rw [maskTo_first, List.append_nil]⟩
    · obtain ⟨R, hR⟩ := maskTo_split0 V n (by omega)
      exact ⟨R ++ mBits (winTo V n) (V n ^^^ V (n - 1)), by rw [maskTo_step V n hn, hR, List.append_assoc]⟩
/-- The first k of values. -/
def firstV (V : Nat → Nat) (k : Nat) : List Nat := (List.range k).map V
theorem vf_firstV (V : Nat → Nat) (n i : Nat) (h : i < n) : vf (firstV V n) i = V i := by simp [vf, firstV, h]

/-- What is put is read. -/
theorem maskRead_mask (V : Nat → Nat) (n : Nat) (R : List Bool) (hV : ∀ i, i < n → V i < 18446744073709551616) : ∀ k, k ≤ n → maskRead (maskTo V n ++ R) k = (0, firstV V k, (maskTo V k).length)
  | 0, _ => rfl
  | k + 1, h => by
    by_cases hk : k = 0
    · subst hk
      obtain ⟨Q, hQ⟩ := maskTo_split0 V n (by omega)
      have hl := length_bitsOf (V 0) 64
      rw [maskRead_first _ (by rw [hQ]; simp only [List.length_append, hl]; omega), maskTo_first, hl]
      have ht : (maskTo V n ++ R).take 64 = bitsOf (V 0) 64 := by
        rw [hQ, List.append_assoc]
        exact List.take_left' hl
      rw [ht, valB_bitsOf, Nat.mod_eq_of_lt (hV 0 (by omega))]
      rfl
    · have ih := maskRead_mask V n R hV k (by omega)
      obtain ⟨Q, hQ⟩ := maskTo_split V k hk n (by omega)
      have hwin : winTo (vf (firstV V k)) k = winTo V k := winTo_congr _ _ _ (fun i hi => vf_firstV V k i hi)
      have hp : vf (firstV V k) (k - 1) = V (k - 1) := vf_firstV V k (k - 1) (by omega)
      have hd : (maskTo V n ++ R).drop (maskTo V k).length = mBits (winTo V k) (V k ^^^ V (k - 1)) ++ (Q ++ R) := by
        rw [hQ, List.append_assoc, List.drop_left, List.append_assoc]
      have hx := xor_lt (V k) (V (k - 1)) (hV k (by omega)) (hV (k - 1) (by omega))
      have hs := readStep_bits (winTo V k) (V (k - 1)) (V k ^^^ V (k - 1)) (Q ++ R) hx (winTo_ok V n hV k (by omega)).2
      rw [← hd] at hs
      have hb : V (k - 1) ^^^ (V k ^^^ V (k - 1)) = V k := by rw [Nat.xor_comm (V k), ← Nat.xor_assoc, Nat.xor_self, Nat.zero_xor]
      rw [hb] at hs
      rw [maskRead_good _ k _ _ (winTo V k) (V (k - 1)) _ _ hk ih hwin hp hs, maskTo_step V k hk, List.length_append]
      simp [firstV, List.range_succ]
end BitMath
