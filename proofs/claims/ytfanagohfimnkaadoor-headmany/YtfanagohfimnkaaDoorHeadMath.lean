/- Points of series, added and cut: mathematics. Nothing of Go. -/
import Derived.Test.YtfanagohfimnkaaDoorBitMathGroup
namespace HeadMath

/-- A series: its text, its points now, the tick of its last one ever. -/
structure Sr where
  key : List UInt8
  pts : List (Int × Nat)
  last : Int
/-- Known, rising by their texts; each one's points rise, none behind its last one. -/
structure Well (S : List Sr) : Prop where
  sorted : S.Pairwise fun a b => a.key < b.key
  rise : ∀ l, l ∈ S → l.pts.Pairwise fun p q => p.1 < q.1
  last : ∀ l, l ∈ S → ∀ p, p ∈ l.pts → p.1 ≤ l.last
  inb : ∀ l, l ∈ S → ∀ p, p ∈ l.pts → -1099511627776 ≤ p.1 ∧ p.1 ≤ 1099511627776 ∧ p.2 < 18446744073709551616
  lab : ∀ l, l ∈ S → -1099511627776 ≤ l.last ∧ l.last ≤ 1099511627776
def known (S : List Sr) (k : List UInt8) : Bool := S.any fun l => decide (l.key = k)
theorem known_iff {S : List Sr} {k : List UInt8} : known S k = true ↔ ∃ l, l ∈ S ∧ l.key = k := by simp [known]
theorem uniq {S : List Sr} (h : S.Pairwise fun a b => a.key < b.key) : ∀ {l m : Sr}, l ∈ S → m ∈ S → l.key = m.key → l = m := by
  induction h with
  | nil => intro l m h; cases h
  | @cons a r h1 _ ih =>
    intro l m hl hm e
    rcases List.mem_cons.1 hl with rfl | hl'
    · rcases List.mem_cons.1 hm with rfl | hm'
      · rfl
      · exact absurd (e ▸ h1 m hm') (List.lt_irrefl _)
    · rcases List.mem_cons.1 hm with rfl | hm'
      · exact absurd (e ▸ h1 l hl') (List.lt_irrefl _)
      · exact ih hl' hm' e
/-- A point more, of a series known or not. -/
def addS : List Sr → List UInt8 → (Int × Nat) → List Sr
  | [], k, p => [⟨k, [p], p.1⟩]
  | l :: r, k, p => if l.key = k then ⟨k, l.pts ++ [p], p.1⟩ :: r else if k < l.key then ⟨k, [p], p.1⟩ :: l :: r else l :: addS r k p
theorem mem_addS : ∀ {S : List Sr} {k : List UInt8} {p : Int × Nat} {x : Sr}, (S.Pairwise fun a b => a.key < b.key) → (x ∈ addS S k p ↔ (x ∈ S ∧ x.key ≠ k) ∨ (∃ l, l ∈ S ∧ l.key = k ∧ x = ⟨k, l.pts ++ [p], p.1⟩) ∨ (known S k = false ∧ x = ⟨k, [p], p.1⟩))
  | [], k, p, x, _ => by simp [addS, known]
  | l :: r, k, p, x, h => by
    obtain ⟨h1, h2⟩ := List.pairwise_cons.1 h
    have ih := @mem_addS r k p x h2
    rw [addS]
    by_cases e : l.key = k
    · rw [if_pos e]
      have hk : known (l :: r) k = true := by simp [known, e]
      have hne : ∀ m, m ∈ r → m.key ≠ k := fun m hm e2 => absurd (e2 ▸ e ▸ h1 m hm) (List.lt_irrefl _)
      rw [hk]
      constructor
      · intro hx
        rcases List.mem_cons.1 hx with rfl | hx'
        · exact .inr (.inl ⟨l, List.mem_cons_self .., e, rfl⟩)
        · exact .inl ⟨List.mem_cons_of_mem _ hx', hne x hx'⟩
      · rintro (⟨hx, hxk⟩ | ⟨m, hm, hmk, rfl⟩ | ⟨hf, _⟩)
        · rcases List.mem_cons.1 hx with rfl | hx'
          · exact absurd e hxk
          · exact List.mem_cons_of_mem _ hx'
        · rcases List.mem_cons.1 hm with rfl | hm'
          · exact List.mem_cons_self ..
          · exact absurd hmk (hne m hm')
        · cases hf
    · rw [if_neg e]
      by_cases g : k < l.key
      · rw [if_pos g]
        have hnk : ∀ m, m ∈ l :: r → m.key ≠ k := fun m hm e2 => by
          rcases List.mem_cons.1 hm with rfl | hm'
          · exact e e2
          · exact absurd (List.lt_trans g (e2 ▸ h1 m hm')) (List.lt_irrefl _)
        have hk : known (l :: r) k = false := by
          cases h3 : known (l :: r) k with
          | false => rfl
          | true => obtain ⟨m, hm, hmk⟩ := known_iff.1 h3; exact absurd hmk (hnk m hm)
        rw [hk]
        constructor
        · intro hx
          rcases List.mem_cons.1 hx with rfl | hx'
          · exact .inr (.inr ⟨rfl, rfl⟩)
          · exact .inl ⟨hx', hnk x hx'⟩
        · rintro (⟨hx, _⟩ | ⟨m, hm, hmk, _⟩ | ⟨_, rfl⟩)
          · exact List.mem_cons_of_mem _ hx
          · exact absurd hmk (hnk m hm)
          · exact List.mem_cons_self ..
      · rw [if_neg g]
        have hk : known (l :: r) k = known r k := by simp [known, e]
        rw [hk, List.mem_cons, ih]
        constructor
        · rintro (rfl | ⟨hx, hxk⟩ | ⟨m, hm, hmk, rfl⟩ | h3)
          · exact .inl ⟨List.mem_cons_self .., e⟩
          · exact .inl ⟨List.mem_cons_of_mem _ hx, hxk⟩
          · exact .inr (.inl ⟨m, List.mem_cons_of_mem _ hm, hmk, rfl⟩)
          · exact .inr (.inr h3)
        · rintro (⟨hx, hxk⟩ | ⟨m, hm, hmk, rfl⟩ | h3)
          · rcases List.mem_cons.1 hx with rfl | hx'
            · exact .inl rfl
            · exact .inr (.inl ⟨hx', hxk⟩)
          · rcases List.mem_cons.1 hm with rfl | hm'
            · exact absurd hmk e
            · exact .inr (.inr (.inl ⟨m, hm', hmk, rfl⟩))
          · exact .inr (.inr (.inr h3))
theorem addS_head {S : List Sr} {k : List UInt8} {p : Int × Nat} {a : Sr} (hs : S.Pairwise fun a b => a.key < b.key) (ha : ∀ m, m ∈ S → a.key < m.key) (hk : a.key < k) : ∀ x, x ∈ addS S k p → a.key < x.key := by
  intro x hx
  rcases (mem_addS hs).1 hx with ⟨h, _⟩ | ⟨l, hl, e, rfl⟩ | ⟨_, rfl⟩
  · exact ha x h
  · exact hk
  · exact hk
theorem sorted_addS : ∀ {S : List Sr} {k : List UInt8} {p : Int × Nat}, (S.Pairwise fun a b => a.key < b.key) → (addS S k p).Pairwise fun a b => a.key < b.key
  | [], k, p, _ => by simp [addS]
  | l :: r, k, p, h => by
    obtain ⟨h1, h2⟩ := List.pairwise_cons.1 h
    rw [addS]
    by_cases e : l.key = k
    · rw [if_pos e]
      exact List.pairwise_cons.2 ⟨fun m hm => e ▸ h1 m hm, h2⟩
    · rw [if_neg e]
      by_cases g : k < l.key
      · rw [if_pos g]
        refine List.pairwise_cons.2 ⟨fun m hm => ?_, h⟩
        rcases List.mem_cons.1 hm with rfl | hm'
        · exact g
        · exact List.lt_trans g (h1 m hm')
      · rw [if_neg g]
        have hlt : l.key < k := by
          rcases List.le_iff_lt_or_eq.1 (List.not_lt.1 g) with h3 | h3
          · exact h3
          · exact absurd h3 e
        exact List.pairwise_cons.2 ⟨fun m hm => addS_head h2 h1 hlt m hm, sorted_addS h2⟩
theorem Well.add {S : List Sr} (h : Well S) {k : List UInt8} {p : Int × Nat} (hp : -1099511627776 ≤ p.1 ∧ p.1 ≤ 1099511627776 ∧ p.2 < 18446744073709551616) (hlast : ∀ l, l ∈ S → l.key = k → l.last < p.1) : Well (addS S k p) := by
  refine ⟨sorted_addS h.sorted, fun x hx => ?_, fun x hx q hq => ?_, fun x hx q hq => ?_, fun x hx => ?_⟩
  · rcases (mem_addS h.sorted).1 hx with ⟨hx', _⟩ | ⟨l, hl, e, rfl⟩ | ⟨_, rfl⟩
    · exact h.rise x hx'
    · refine List.pairwise_append.2 ⟨h.rise l hl, List.pairwise_singleton .., fun a ha b hb => ?_⟩
      simp at hb
      subst hb
      have := h.last l hl a ha
      have := hlast l hl e
      omega
    · exact List.pairwise_singleton ..
  · rcases (mem_addS h.sorted).1 hx with ⟨hx', _⟩ | ⟨l, hl, e, rfl⟩ | ⟨_, rfl⟩
    · exact h.last x hx' q hq
    · rcases List.mem_append.1 hq with hq' | hq'
      · have := h.last l hl q hq'
        have := hlast l hl e
        show q.1 ≤ p.1
        omega
      · simp at hq'
        subst hq'
        exact Int.le_refl _
    · simp at hq
      subst hq
      exact Int.le_refl _
  · rcases (mem_addS h.sorted).1 hx with ⟨hx', _⟩ | ⟨l, hl, e, rfl⟩ | ⟨_, rfl⟩
    · exact h.inb x hx' q hq
    · rcases List.mem_append.1 hq with hq' | hq'
      · exact h.inb l hl q hq'
      · simp at hq'
        subst hq'
        exact hp
    · simp at hq
      subst hq
      exact hp
  · rcases (mem_addS h.sorted).1 hx with ⟨hx', _⟩ | ⟨l, hl, e, rfl⟩ | ⟨_, rfl⟩
    · exact h.lab x hx'
    · exact ⟨hp.1, hp.2.1⟩
    · exact ⟨hp.1, hp.2.1⟩
def countS (S : List Sr) : Nat := (S.map fun l => l.pts.length).sum
theorem count_addS : ∀ (S : List Sr) (k : List UInt8) (p : Int × Nat), countS (addS S k p) = countS S + 1
  | [], k, p => by simp [addS, countS]
  | l :: r, k, p => by
    rw [addS]
    by_cases e : l.key = k
    · rw [if_pos e]
      simp [countS]
      omega
    · rw [if_neg e]
      by_cases g : k < l.key
      · rw [if_pos g]
        simp [countS]
        omega
      · rw [if_neg g]
        have ih := count_addS r k p
        simp only [countS, List.map_cons, List.sum_cons] at ih ⊢
        omega
theorem length_addS : ∀ (S : List Sr) (k : List UInt8) (p : Int × Nat), (S.Pairwise fun a b => a.key < b.key) → (addS S k p).length = if known S k = true then S.length else S.length + 1
  | [], k, p, _ => by simp [addS, known]
  | l :: r, k, p, h => by
    obtain ⟨h1, h2⟩ := List.pairwise_cons.1 h
    rw [addS]
    by_cases e : l.key = k
    · rw [if_pos e]
      have hk : known (l :: r) k = true := by simp [known, e]
      rw [if_pos hk]
      simp
    · rw [if_neg e]
      by_cases g : k < l.key
      · rw [if_pos g]
        have hk : known (l :: r) k = false := by
          cases h3 : known (l :: r) k with
          | false => rfl
          | true =>
            obtain ⟨m, hm, hmk⟩ := known_iff.1 h3
            rcases List.mem_cons.1 hm with rfl | hm'
            · exact absurd hmk e
            · exact absurd (List.lt_trans g (hmk ▸ h1 m hm')) (List.lt_irrefl _)
        rw [hk]
        simp
      · rw [if_neg g]
        have ih := length_addS r k p h2
        have hk : known (l :: r) k = known r k := by simp [known, e]
        rw [hk, List.length_cons, ih, List.length_cons]
        split <;> rfl
/-- Series that have points. -/
def seriesS (S : List Sr) : List (List UInt8) := (S.filter fun l => !l.pts.isEmpty).map fun l => l.key
theorem mem_seriesS {S : List Sr} {k : List UInt8} : k ∈ seriesS S ↔ ∃ l, l ∈ S ∧ l.key = k ∧ l.pts ≠ [] := by
  simp only [seriesS, List.mem_map, List.mem_filter, Bool.not_eq_true', List.isEmpty_eq_false_iff]
  constructor
  · rintro ⟨l, ⟨h1, h2⟩, h3⟩
    exact ⟨l, h1, h3, h2⟩
  · rintro ⟨l, h1, h2, h3⟩
    exact ⟨l, ⟨h1, h3⟩, h2⟩
theorem sorted_seriesS {S : List Sr} (h : S.Pairwise fun a b => a.key < b.key) : (seriesS S).Pairwise fun a b => a < b :=
  List.pairwise_map.2 (h.sublist List.filter_sublist)
theorem nodup_seriesS {S : List Sr} (h : S.Pairwise fun a b => a.key < b.key) : (seriesS S).Nodup :=
  (sorted_seriesS h).imp fun hab e => absurd (e ▸ hab) (List.lt_irrefl _)
/-- Points ahead of a tick, and the others. -/
def goneP (t : Int) (l : List (Int × Nat)) : List (Int × Nat) := l.filter fun p => decide (p.1 < t)
def leftP (t : Int) (l : List (Int × Nat)) : List (Int × Nat) := l.filter fun p => !decide (p.1 < t)
def cutS (t : Int) (S : List Sr) : List Sr := S.map fun l => ⟨l.key, leftP t l.pts, l.last⟩
def rowsS (t : Int) (S : List Sr) : List (List UInt8 × List (Int × Nat)) := (S.map fun l => (l.key, goneP t l.pts)).filter fun x => !x.2.isEmpty
theorem gone_left (t : Int) (l : List (Int × Nat)) : (goneP t l).length + (leftP t l).length = l.length := by
  induction l with
  | nil => rfl
  | cons p r ih =>
    simp only [goneP, leftP, List.filter_cons] at ih ⊢
    by_cases h : p.1 < t
    · simp [h] at ih ⊢; omega
    · simp [h] at ih ⊢; omega
theorem count_cut (t : Int) : ∀ S : List Sr, countS (cutS t S) + ((rowsS t S).map fun x => x.2.length).sum = countS S
  | [] => rfl
  | l :: r => by
    have ih := count_cut t r
    have hg := gone_left t l.pts
    simp only [countS, cutS, rowsS, List.map_cons, List.sum_cons, List.filter_cons] at ih ⊢
    by_cases h : (goneP t l.pts).isEmpty = true
    · have h0 : (goneP t l.pts).length = 0 := by simpa using h
      simp only [h, Bool.not_true, Bool.false_eq_true, if_false]
      omega
    · simp only [h, Bool.not_false, if_true, List.map_cons, List.sum_cons]
      omega
theorem Well.cut {S : List Sr} (h : Well S) (t : Int) : Well (cutS t S) := by
  refine ⟨List.pairwise_map.2 h.sorted, fun x hx => ?_, fun x hx q hq => ?_, fun x hx q hq => ?_, fun x hx => ?_⟩ <;> obtain ⟨l, hl, rfl⟩ := List.mem_map.1 hx
  · exact (h.rise l hl).sublist List.filter_sublist
  · exact h.last l hl q (List.mem_filter.1 hq).1
  · exact h.inb l hl q (List.mem_filter.1 hq).1
  · exact h.lab l hl
theorem length_cut (t : Int) (S : List Sr) : (cutS t S).length = S.length := by simp [cutS]
theorem known_cut (t : Int) (S : List Sr) (k : List UInt8) : known (cutS t S) k = known S k := by simp [known, cutS, List.any_map, Function.comp_def]
/-- Of points that rise those ahead of a tick are the first ones. -/
theorem split_at (t : Int) : ∀ (l : List (Int × Nat)), (l.Pairwise fun p q => p.1 < q.1) → ∀ n, n ≤ l.length → (∀ i (_ : i < n) (hl : i < l.length), (l[i]).1 < t) → (∀ hl : n < l.length, t ≤ (l[n]).1) → goneP t l = l.take n ∧ leftP t l = l.drop n
  | [], _, n, _, _, _ => by simp [goneP, leftP]
  | p :: r, hp, 0, _, _, h2 => by
    obtain ⟨h3, _⟩ := List.pairwise_cons.1 hp
    have hpt : t ≤ p.1 := h2 (by simp)
    have key : ∀ q, q ∈ p :: r → ¬ q.1 < t := fun q hq => by
      rcases List.mem_cons.1 hq with rfl | hq'
      · omega
      · have := h3 q hq'
        omega
    refine ⟨?_, ?_⟩
    · rw [List.take_zero]
      exact List.filter_eq_nil_iff.2 fun q hq => by simpa using key q hq
    · rw [List.drop_zero]
      exact List.filter_eq_self.2 fun q hq => by simpa using key q hq
  | p :: r, hp, n + 1, hn, h1, h2 => by
    obtain ⟨h3, h4⟩ := List.pairwise_cons.1 hp
    have hpt : p.1 < t := h1 0 (by omega) (by simp)
    have ih := split_at t r h4 n (by simp at hn; omega) (fun i hi hl => h1 (i + 1) (by omega) (by simp; omega)) (fun hl => h2 (by simp; omega))
    constructor
    · rw [List.take_succ_cons, ← ih.1]
      simp [goneP, hpt]
    · rw [List.drop_succ_cons, ← ih.2]
      simp [leftP, hpt]
/-- A series more, without points. -/
def insE : List Sr → List UInt8 → List Sr
  | [], k => [⟨k, [], 0⟩]
  | l :: r, k => if k < l.key then ⟨k, [], 0⟩ :: l :: r else l :: insE r k
theorem mem_insE : ∀ {S : List Sr} {k : List UInt8} {x : Sr}, x ∈ insE S k ↔ x ∈ S ∨ x = ⟨k, [], 0⟩
  | [], k, x => by simp [insE]
  | l :: r, k, x => by
    have ih := @mem_insE r k x
    rw [insE]
    split
    · simp only [List.mem_cons]
      constructor
      · rintro (h | h | h)
        · exact .inr h
        · exact .inl (.inl h)
        · exact .inl (.inr h)
      · rintro ((h | h) | h)
        · exact .inr (.inl h)
        · exact .inr (.inr h)
        · exact .inl h
    · simp only [List.mem_cons, ih]
      constructor
      · rintro (h | h | h)
        · exact .inl (.inl h)
        · exact .inl (.inr h)
        · exact .inr h
      · rintro ((h | h) | h)
        · exact .inl h
        · exact .inr (.inl h)
        · exact .inr (.inr h)
theorem length_insE : ∀ (S : List Sr) (k : List UInt8), (insE S k).length = S.length + 1
  | [], k => rfl
  | l :: r, k => by
    rw [insE]
    split
    · simp
    · simp [length_insE r k]
theorem known_insE (S : List Sr) (k j : List UInt8) : known (insE S k) j = (known S j || decide (k = j)) := by
  cases h : known (insE S k) j with
  | true =>
    obtain ⟨l, hl, hlk⟩ := known_iff.1 h
    rcases mem_insE.1 hl with h1 | h1
    · rw [known_iff.2 ⟨l, h1, hlk⟩]; rfl
    · subst h1; simp at hlk; simp [hlk]
  | false =>
    cases h1 : known S j with
    | true =>
      obtain ⟨l, hl, hlk⟩ := known_iff.1 h1
      rw [known_iff.2 ⟨l, mem_insE.2 (.inl hl), hlk⟩] at h
      cases h
    | false =>
      by_cases e : k = j
      · rw [known_iff.2 ⟨⟨k, [], 0⟩, mem_insE.2 (.inr rfl), e⟩] at h
        cases h
      · simp [e]
theorem sorted_insE : ∀ {S : List Sr} {k : List UInt8}, (S.Pairwise fun a b => a.key < b.key) → known S k = false → (insE S k).Pairwise fun a b => a.key < b.key
  | [], k, _, _ => by simp [insE]
  | l :: r, k, h, hk => by
    obtain ⟨h1, h2⟩ := List.pairwise_cons.1 h
    have hne : l.key ≠ k := fun e => by rw [known_iff.2 ⟨l, List.mem_cons_self .., e⟩] at hk; cases hk
    have hkr : known r k = false := by
      cases h3 : known r k with
      | false => rfl
      | true =>
        obtain ⟨m, hm, hmk⟩ := known_iff.1 h3
        rw [known_iff.2 ⟨m, List.mem_cons_of_mem _ hm, hmk⟩] at hk
        cases hk
    rw [insE]
    by_cases g : k < l.key
    · rw [if_pos g]
      refine List.pairwise_cons.2 ⟨fun m hm => ?_, h⟩
      rcases List.mem_cons.1 hm with rfl | hm'
      · exact g
      · exact List.lt_trans g (h1 m hm')
    · rw [if_neg g]
      have hlt : l.key < k := by
        rcases List.le_iff_lt_or_eq.1 (List.not_lt.1 g) with h3 | h3
        · exact h3
        · exact absurd h3 hne
      refine List.pairwise_cons.2 ⟨fun m hm => ?_, sorted_insE h2 hkr⟩
      rcases mem_insE.1 hm with h3 | h3
      · exact h1 m h3
      · subst h3; exact hlt
theorem addS_insE : ∀ {S : List Sr} {k : List UInt8} {p : Int × Nat}, (S.Pairwise fun a b => a.key < b.key) → known S k = false → addS (insE S k) k p = addS S k p
  | [], k, p, _, _ => by simp [insE, addS]
  | l :: r, k, p, h, hk => by
    obtain ⟨h1, h2⟩ := List.pairwise_cons.1 h
    have hne : l.key ≠ k := fun e => by rw [known_iff.2 ⟨l, List.mem_cons_self .., e⟩] at hk; cases hk
    have hkr : known r k = false := by
      cases h3 : known r k with
      | false => rfl
      | true =>
        obtain ⟨m, hm, hmk⟩ := known_iff.1 h3
        rw [known_iff.2 ⟨m, List.mem_cons_of_mem _ hm, hmk⟩] at hk
        cases hk
    rw [insE]
    by_cases g : k < l.key
    · rw [if_pos g]
      simp [addS, hne, g]
    · rw [if_neg g]
      simp only [addS, if_neg hne, if_neg g]
      rw [addS_insE h2 hkr]
/-- Points of a text. -/
def ptsOf (S : List Sr) (k : List UInt8) : List (Int × Nat) := ((S.find? fun l => decide (l.key = k)).map fun l => l.pts).getD []
theorem ptsOf_none {S : List Sr} {k : List UInt8} (h : known S k = false) : ptsOf S k = [] := by
  have : S.find? (fun l => decide (l.key = k)) = none := List.find?_eq_none.2 fun l hl e => by
    have : known S k = true := known_iff.2 ⟨l, hl, by simpa using e⟩
    rw [h] at this
    cases this
  simp [ptsOf, this]
theorem ptsOf_some {S : List Sr} (hs : S.Pairwise fun a b => a.key < b.key) {l : Sr} (hl : l ∈ S) {k : List UInt8} (hk : l.key = k) : ptsOf S k = l.pts := by
  cases e : S.find? (fun l => decide (l.key = k)) with
  | none => exact absurd (List.find?_eq_none.1 e l hl) (by simp [hk])
  | some m =>
    have hm := List.mem_of_find?_eq_some e
    have hmk : m.key = k := by simpa using List.find?_some e
    have := uniq hs hm hl (hmk.trans hk.symm)
    subst this
    simp [ptsOf, e]
/-- A line cut; those cut whose texts are among some. -/
def cutl (t : Int) (l : Sr) : Sr := ⟨l.key, leftP t l.pts, l.last⟩
def cutJ (t : Int) (names : List (List UInt8)) (S : List Sr) : List Sr := S.map fun l => if l.key ∈ names then cutl t l else l
theorem cutJ_nil (t : Int) (S : List Sr) : cutJ t [] S = S := by simp [cutJ]
theorem cutJ_key (t : Int) (names : List (List UInt8)) (l : Sr) : (if l.key ∈ names then cutl t l else l).key = l.key := by split <;> rfl
theorem cutJ_snoc (t : Int) (names : List (List UInt8)) (k : List UInt8) (hk : k ∉ names) (S : List Sr) : cutJ t (names ++ [k]) S = (cutJ t names S).map fun l => if l.key = k then cutl t l else l := by
  rw [cutJ, cutJ, List.map_map]
  refine List.map_congr_left fun l _ => ?_
  show _ = if (if l.key ∈ names then cutl t l else l).key = k then _ else _
  rw [cutJ_key]
  by_cases e : l.key = k
  · rw [if_pos e, if_pos (by simp [e])]
    show cutl t l = cutl t (if l.key ∈ names then cutl t l else l)
    rw [if_neg (by rw [e]; exact hk)]
  · rw [if_neg e]
    show _ = if l.key ∈ names then cutl t l else l
    by_cases h : l.key ∈ names
    · rw [if_pos (by simp [h]), if_pos h]
    · rw [if_neg (by simp [h, e]), if_neg h]
theorem sorted_cutJ (t : Int) (names : List (List UInt8)) {S : List Sr} (h : S.Pairwise fun a b => a.key < b.key) : (cutJ t names S).Pairwise fun a b => a.key < b.key := by
  refine List.pairwise_map.2 (h.imp fun {a b} hab => ?_)
  rw [cutJ_key, cutJ_key]
  exact hab
theorem mem_cutJ {t : Int} {names : List (List UInt8)} {S : List Sr} {l : Sr} (hl : l ∈ S) (hk : l.key ∉ names) : l ∈ cutJ t names S := List.mem_map.2 ⟨l, hl, if_neg hk⟩
theorem length_cutJ (t : Int) (names : List (List UInt8)) (S : List Sr) : (cutJ t names S).length = S.length := by simp [cutJ]
theorem cutJ_all (t : Int) (S : List Sr) : cutJ t (seriesS S) S = cutS t S := by
  refine List.map_congr_left fun l hl => ?_
  by_cases h : l.key ∈ seriesS S
  · rw [if_pos h]; rfl
  · rw [if_neg h]
    have hp : l.pts = [] := by
      cases e : l.pts with
      | nil => rfl
      | cons a r => exact absurd (mem_seriesS.2 ⟨l, hl, rfl, by rw [e]; simp⟩) h
    cases l
    simp at hp
    subst hp
    rfl
def rowsJ (t : Int) (S : List Sr) (names : List (List UInt8)) : List (List UInt8 × List (Int × Nat)) := (names.map fun k => (k, goneP t (ptsOf S k))).filter fun x => !x.2.isEmpty
theorem rowsJ_snoc (t : Int) (S : List Sr) (names : List (List UInt8)) (k : List UInt8) : rowsJ t S (names ++ [k]) = rowsJ t S names ++ if (goneP t (ptsOf S k)).isEmpty = true then [] else [(k, goneP t (ptsOf S k))] := by
  simp only [rowsJ, List.map_append, List.filter_append, List.map_cons, List.map_nil, List.filter_cons, List.filter_nil]
  cases (goneP t (ptsOf S k)).isEmpty <;> rfl
theorem rowsJ_all (t : Int) {S : List Sr} (hs : S.Pairwise fun a b => a.key < b.key) : rowsJ t S (seriesS S) = rowsS t S := by
  have key : ∀ T : List Sr, (∀ l, l ∈ T → l ∈ S) → ((((T.filter fun l => !l.pts.isEmpty).map fun l => l.key).map fun k => (k, goneP t (ptsOf S k))).filter fun x => !x.2.isEmpty) = ((T.map fun l => (l.key, goneP t l.pts)).filter fun x => !x.2.isEmpty) := by
    intro T
    induction T with
    | nil => intro _; rfl
    | cons a r ih =>
      intro h
      have ih' := ih fun l hl => h l (List.mem_cons_of_mem _ hl)
      have ha := ptsOf_some hs (h a (List.mem_cons_self ..)) rfl
      rw [List.filter_cons]
      by_cases hp : a.pts = []
      · have hg : goneP t a.pts = [] := by rw [hp]; rfl
        simp only [hp, List.isEmpty_nil, Bool.not_true, Bool.false_eq_true, if_false]
        rw [ih', List.map_cons, List.filter_cons]
        rw [hp] at hg
        simp [hp, hg]
      · have hne : (!a.pts.isEmpty) = true := by simp [hp]
        rw [if_pos hne]
        simp only [List.map_cons, List.filter_cons, ha]
        rw [ih']
  exact key S fun _ h => h
end HeadMath
