/- A stable sort by blocks that are merged in place: mathematics. Nothing of Go. -/
import Derived.Test.YtfanagohfimnkaaDoorBitMathGroup
namespace SortMath

/-- A way to tell what is less, of which no two are less than each other; what is less than one is less than another, or that one is less. -/
structure SW (lt : Nat → Nat → Bool) : Prop where
  asym : ∀ i j, lt i j = true → lt j i = false
  neg : ∀ i j k, lt i k = true → lt i j = true ∨ lt j k = true
variable {lt : Nat → Nat → Bool}
theorem SW.trans (h : SW lt) {i j k : Nat} (h1 : lt i j = true) (h2 : lt j k = true) : lt i k = true := by
  rcases h.neg i k j h1 with h3 | h3
  · exact h3
  · have := h.asym j k h2
    rw [h3] at this
    cases this
/-- Less; or not more, and ahead. -/
def kl (lt : Nat → Nat → Bool) (i j : Nat) : Prop := lt i j = true ∨ (lt j i = false ∧ i < j)
theorem kl_lt (h : SW lt) {y z x : Nat} (h1 : kl lt y z) (h2 : lt z x = true) : lt y x = true := by
  rcases h1 with h1 | ⟨h1, _⟩
  · exact h.trans h1 h2
  · rcases h.neg z y x h2 with h3 | h3
    · rw [h1] at h3; cases h3
    · exact h3
theorem lt_kl (h : SW lt) {x y z : Nat} (h1 : lt x y = true) (h2 : kl lt y z) : lt x z = true := by
  rcases h2 with h2 | ⟨h2, _⟩
  · exact h.trans h1 h2
  · rcases h.neg x z y h1 with h3 | h3
    · exact h3
    · rw [h2] at h3; cases h3
theorem kl_trans (h : SW lt) {i j k : Nat} (h1 : kl lt i j) (h2 : kl lt j k) : kl lt i k := by
  rcases h1 with h1 | ⟨h1, h1'⟩
  · exact .inl (lt_kl h h1 h2)
  · rcases h2 with h2 | ⟨h2, h2'⟩
    · exact .inl (kl_lt h (.inr ⟨h1, h1'⟩) h2)
    · refine .inr ⟨?_, by omega⟩
      cases h3 : lt k i with
      | false => rfl
      | true =>
        rcases h.neg k j i h3 with h4 | h4
        · rw [h2] at h4; cases h4
        · rw [h1] at h4; cases h4
theorem kl_ne (h : SW lt) {i j : Nat} (h1 : kl lt i j) : i ≠ j := by
  intro e
  subst e
  rcases h1 with h1 | ⟨_, h1⟩
  · have := h.asym i i h1
    rw [h1] at this
    cases this
  · omega
def Srt (lt : Nat → Nat → Bool) (D : Nat → Nat) (a b : Nat) : Prop := ∀ i j, a ≤ i → i < j → j < b → kl lt (D i) (D j)
def Sub (D' D : Nat → Nat) (a b : Nat) : Prop := (∀ i, i < a ∨ b ≤ i → D' i = D i) ∧ ∀ i, a ≤ i → i < b → ∃ j, a ≤ j ∧ j < b ∧ D' i = D j
def Cross (D : Nat → Nat) (a m b : Nat) : Prop := ∀ i j, a ≤ i → i < m → m ≤ j → j < b → D i < D j
theorem Sub.refl (D : Nat → Nat) (a b : Nat) : Sub D D a b := ⟨fun _ _ => rfl, fun i h1 h2 => ⟨i, h1, h2, rfl⟩⟩
theorem Sub.trans {D E F : Nat → Nat} {a b : Nat} (h1 : Sub F E a b) (h2 : Sub E D a b) : Sub F D a b := by
  refine ⟨fun i hi => (h1.1 i hi).trans (h2.1 i hi), fun i hi hj => ?_⟩
  obtain ⟨j, j1, j2, e⟩ := h1.2 i hi hj
  obtain ⟨k, k1, k2, e2⟩ := h2.2 j j1 j2
  exact ⟨k, k1, k2, e.trans e2⟩
theorem Sub.wide {D' D : Nat → Nat} {a b a' b' : Nat} (h : Sub D' D a b) (ha : a' ≤ a) (hb : b ≤ b') : Sub D' D a' b' := by
  refine ⟨fun i hi => h.1 i (by omega), fun i hi hj => ?_⟩
  by_cases hin : a ≤ i ∧ i < b
  · obtain ⟨j, j1, j2, e⟩ := h.2 i hin.1 hin.2
    exact ⟨j, by omega, by omega, e⟩
  · exact ⟨i, hi, hj, h.1 i (by omega)⟩
theorem Sub.less {D' D : Nat → Nat} {a b n N : Nat} (h : Sub D' D a b) (hb : b ≤ n) (hN : ∀ k, k < n → D k < N) : ∀ k, k < n → D' k < N := by
  intro k hk
  by_cases hin : a ≤ k ∧ k < b
  · obtain ⟨j, j1, j2, e⟩ := h.2 k hin.1 hin.2
    rw [e]
    exact hN j (by omega)
  · rw [h.1 k (by omega)]
    exact hN k hk
/-- Two places change. -/
def swp (D : Nat → Nat) (i j : Nat) : Nat → Nat := fun k => if k = i then D j else if k = j then D i else D k
/-- Two stretches change. -/
def swR (D : Nat → Nat) (a b n : Nat) : Nat → Nat := fun k => if a ≤ k ∧ k < a + n then D (k - a + b) else if b ≤ k ∧ k < b + n then D (k - b + a) else D k
theorem swR_zero (D : Nat → Nat) (a b : Nat) : swR D a b 0 = D := by
  funext k
  unfold swR
  rw [if_neg (by omega), if_neg (by omega)]
theorem swR_step (D : Nat → Nat) (a b i : Nat) (h : a + (i + 1) ≤ b) : swp (swR D a b i) (a + i) (b + i) = swR D a b (i + 1) := by
  funext k
  unfold swp
  have e1 : swR D a b i (b + i) = D (b + i) := by unfold swR; rw [if_neg (by omega), if_neg (by omega)]
  have e2 : swR D a b i (a + i) = D (a + i) := by unfold swR; rw [if_neg (by omega), if_neg (by omega)]
  rw [e1, e2]
  unfold swR
  by_cases h1 : k = a + i
  · rw [if_pos h1, if_pos (by omega)]
    congr 1
    omega
  · rw [if_neg h1]
    by_cases h2 : k = b + i
    · rw [if_pos h2, if_neg (by omega), if_pos (by omega)]
      congr 1
      omega
    · rw [if_neg h2]
      by_cases h3 : a ≤ k ∧ k < a + i
      · rw [if_pos h3, if_pos (by omega)]
      · have n3 : ¬ (a ≤ k ∧ k < a + (i + 1)) := by omega
        rw [if_neg h3, if_neg n3]
        by_cases h4 : b ≤ k ∧ k < b + i
        · have n4 : b ≤ k ∧ k < b + (i + 1) := by omega
          rw [if_pos h4, if_pos n4]
        · have n4 : ¬ (b ≤ k ∧ k < b + (i + 1)) := by omega
          rw [if_neg h4, if_neg n4]
/-- What stands from m to b, ahead of what stands from a to m. -/
def rot (D : Nat → Nat) (a m b : Nat) : Nat → Nat := fun k => if a ≤ k ∧ k < b then (if k < a + (b - m) then D (k + (m - a)) else D (k - (b - m))) else D k
/-- On the way: from m - i to m + j it is still to be done. -/
def RotInv (R D : Nat → Nat) (m i j : Nat) : Prop := (∀ k, m - i ≤ k → k < m + j → R k = if k < m - i + j then D (k + i) else D (k - j)) ∧ ∀ k, k < m - i ∨ m + j ≤ k → D k = R k
theorem rot_init (D : Nat → Nat) (a m b : Nat) (h1 : a ≤ m) (h2 : m ≤ b) : RotInv (rot D a m b) D m (m - a) (b - m) := by
  refine ⟨fun k hk hl => ?_, fun k hk => ?_⟩
  · unfold rot
    rw [if_pos (by omega)]
    have : m - (m - a) + (b - m) = a + (b - m) := by omega
    rw [this]
  · unfold rot
    rw [if_neg (by omega)]
theorem rot_gt {R D : Nat → Nat} {m i j : Nat} (h : RotInv R D m i j) (hi : i ≤ m) (hj : j < i) : RotInv R (swR D (m - i) m j) m (i - j) j := by
  refine ⟨fun k hk hl => ?_, fun k hk => ?_⟩
  · rw [h.1 k (by omega) hl, if_neg (by omega)]
    unfold swR
    by_cases h1 : k < m - (i - j) + j
    · rw [if_pos h1, if_neg (by omega), if_pos (by omega)]
      congr 1
      omega
    · rw [if_neg h1, if_neg (by omega), if_neg (by omega)]
  · unfold swR
    by_cases h1 : m - i ≤ k ∧ k < m - i + j
    · rw [if_pos h1, h.1 k (by omega) (by omega), if_pos (by omega)]
      congr 1
      omega
    · rw [if_neg h1, if_neg (by omega)]
      exact h.2 k (by omega)
theorem rot_lt {R D : Nat → Nat} {m i j : Nat} (h : RotInv R D m i j) (hi : i ≤ m) (hj : i < j) : RotInv R (swR D (m - i) (m + j - i) i) m i (j - i) := by
  refine ⟨fun k hk hl => ?_, fun k hk => ?_⟩
  · rw [h.1 k hk (by omega), if_pos (by omega)]
    unfold swR
    by_cases h1 : k < m - i + (j - i)
    · rw [if_pos h1, if_neg (by omega), if_neg (by omega)]
    · rw [if_neg h1, if_pos (by omega)]
      congr 1
      omega
  · unfold swR
    by_cases h1 : m + j - i ≤ k ∧ k < m + j - i + i
    · rw [if_neg (by omega), if_pos h1, h.1 k (by omega) (by omega), if_neg (by omega)]
      congr 1
      omega
    · rw [if_neg (by omega), if_neg h1]
      exact h.2 k (by omega)
theorem rot_eq {R D : Nat → Nat} {m i : Nat} (h : RotInv R D m i i) (hi : i ≤ m) : swR D (m - i) m i = R := by
  funext k
  unfold swR
  by_cases h1 : m - i ≤ k ∧ k < m - i + i
  · rw [if_pos h1, h.1 k (by omega) (by omega), if_pos (by omega)]
    congr 1
    omega
  · rw [if_neg h1]
    by_cases h2 : m ≤ k ∧ k < m + i
    · rw [if_pos h2, h.1 k (by omega) (by omega), if_neg (by omega)]
      congr 1
      omega
    · rw [if_neg h2]
      exact h.2 k (by omega)
theorem rot_same (D : Nat → Nat) (a m b : Nat) (h2 : m ≤ b) (h : a = m ∨ m = b) : rot D a m b = D := by
  funext k
  unfold rot
  by_cases hk : a ≤ k ∧ k < b
  · rw [if_pos hk]
    rcases h with h | h
    · rw [if_pos (by omega)]; congr 1; omega
    · rw [if_neg (by omega)]; congr 1; omega
  · rw [if_neg hk]
theorem rot_sub (D : Nat → Nat) (a m b : Nat) (h1 : a ≤ m) (h2 : m ≤ b) : Sub (rot D a m b) D a b := by
  refine ⟨fun i hi => by unfold rot; rw [if_neg (by omega)], fun i hi hj => ?_⟩
  unfold rot
  rw [if_pos ⟨hi, hj⟩]
  by_cases h : i < a + (b - m)
  · rw [if_pos h]; exact ⟨_, by omega, by omega, rfl⟩
  · rw [if_neg h]; exact ⟨_, by omega, by omega, rfl⟩
/-- The two halves, each sorted: all of the first is ahead of all of the second. -/
theorem halves (hS : SW lt) {D : Nat → Nat} {a m b s mid : Nat} (hL : Srt lt D a m) (hR : Srt lt D m b) (hX : Cross D a m b) (h1 : a ≤ s) (h2 : s ≤ mid) (h3 : s ≤ m) (h4 : m ≤ mid + m - s) (h5 : mid + m - s ≤ b)
    (c1 : s < m → m < mid + m - s → lt (D (mid + m - s - 1)) (D s) = true) (c2 : a < s → mid + m - s < b → lt (D (mid + m - s)) (D (s - 1)) = false) :
    ∀ i j, a ≤ i → i < mid → mid ≤ j → j < b → kl lt (rot D s m (mid + m - s) i) (rot D s m (mid + m - s) j) := by
  intro i j hi him hmj hjb
  have ei : (∃ x, rot D s m (mid + m - s) i = D x ∧ ((a ≤ x ∧ x < s) ∨ (m ≤ x ∧ x < mid + m - s))) := by
    unfold rot
    by_cases h : s ≤ i ∧ i < mid + m - s
    · rw [if_pos h, if_pos (by omega)]
      exact ⟨_, rfl, .inr (by omega)⟩
    · rw [if_neg h]
      exact ⟨_, rfl, .inl (by omega)⟩
  have ej : (∃ y, rot D s m (mid + m - s) j = D y ∧ ((s ≤ y ∧ y < m) ∨ (mid + m - s ≤ y ∧ y < b))) := by
    unfold rot
    by_cases h : s ≤ j ∧ j < mid + m - s
    · rw [if_pos h, if_neg (by omega)]
      exact ⟨_, rfl, .inl (by omega)⟩
    · rw [if_neg h]
      exact ⟨_, rfl, .inr (by omega)⟩
  obtain ⟨x, e1, hx⟩ := ei
  obtain ⟨y, e2, hy⟩ := ej
  rw [e1, e2]
  have leR : ∀ p q, m ≤ p → p ≤ q → q < b → p = q ∨ kl lt (D p) (D q) := fun p q h h' h'' => by
    rcases Nat.lt_or_eq_of_le h' with h6 | h6
    · exact .inr (hR p q h h6 h'')
    · exact .inl h6
  have leL : ∀ p q, a ≤ p → p ≤ q → q < m → p = q ∨ kl lt (D p) (D q) := fun p q h h' h'' => by
    rcases Nat.lt_or_eq_of_le h' with h6 | h6
    · exact .inr (hL p q h h6 h'')
    · exact .inl h6
  rcases hx with hx | hx <;> rcases hy with hy | hy
  · exact hL x y (by omega) (by omega) (by omega)
  · have hc := c2 (by omega) (by omega)
    refine .inr ⟨?_, hX x y (by omega) (by omega) (by omega) (by omega)⟩
    cases h : lt (D y) (D x) with
    | false => rfl
    | true =>
      have g1 : lt (D y) (D (s - 1)) = true := by
        rcases leL x (s - 1) (by omega) (by omega) (by omega) with e | k
        · rw [← e]; exact h
        · exact lt_kl hS h k
      have g2 : lt (D (mid + m - s)) (D (s - 1)) = true := by
        rcases leR (mid + m - s) y (by omega) (by omega) (by omega) with e | k
        · rw [e]; exact g1
        · exact kl_lt hS k g1
      rw [hc] at g2
      cases g2
  · have hc := c1 (by omega) (by omega)
    have g1 : lt (D x) (D s) = true := by
      rcases leR x (mid + m - s - 1) (by omega) (by omega) (by omega) with e | k
      · rw [e]; exact hc
      · exact kl_lt hS k hc
    rcases leL s y (by omega) (by omega) (by omega) with e | k
    · rw [← e]; exact .inl g1
    · exact .inl (lt_kl hS g1 k)
  · exact hR x y (by omega) (by omega) (by omega)
/-- Two sorted halves, of which all of the first is ahead of all of the second: sorted. -/
theorem srt_two {E D : Nat → Nat} {a mid b : Nat} (h1 : Srt lt E a mid) (h2 : Srt lt E mid b) (s1 : ∀ i, a ≤ i → i < mid → ∃ j, a ≤ j ∧ j < mid ∧ E i = D j) (s2 : ∀ i, mid ≤ i → i < b → ∃ j, mid ≤ j ∧ j < b ∧ E i = D j)
    (h : ∀ i j, a ≤ i → i < mid → mid ≤ j → j < b → kl lt (D i) (D j)) : Srt lt E a b := by
  intro i j hi hij hj
  by_cases c1 : j < mid
  · exact h1 i j hi hij c1
  · by_cases c2 : mid ≤ i
    · exact h2 i j c2 hij hj
    · obtain ⟨p, p1, p2, ep⟩ := s1 i hi (by omega)
      obtain ⟨q, q1, q2, eq⟩ := s2 j (by omega) hj
      rw [ep, eq]
      exact h p q p1 p2 q1 q2
/-- The parts behind a cut. -/
theorem rot_parts {D : Nat → Nat} {a m b s mid : Nat} (hL : Srt lt D a m) (hR : Srt lt D m b) (hX : Cross D a m b) (h1 : a ≤ s) (h2 : s ≤ mid) (h3 : s ≤ m) (h4 : m ≤ mid + m - s) (h5 : mid + m - s ≤ b) :
    Srt lt (rot D s m (mid + m - s)) a s ∧ Srt lt (rot D s m (mid + m - s)) s mid ∧ Cross (rot D s m (mid + m - s)) a s mid ∧
    Srt lt (rot D s m (mid + m - s)) mid (mid + m - s) ∧ Srt lt (rot D s m (mid + m - s)) (mid + m - s) b ∧ Cross (rot D s m (mid + m - s)) mid (mid + m - s) b := by
  have e1 : ∀ i, i < s → rot D s m (mid + m - s) i = D i := fun i hi => by unfold rot; rw [if_neg (by omega)]
  have e2 : ∀ i, s ≤ i → i < mid → rot D s m (mid + m - s) i = D (i + (m - s)) := fun i hi hj => by unfold rot; rw [if_pos (by omega), if_pos (by omega)]
  have e3 : ∀ i, mid ≤ i → i < mid + m - s → rot D s m (mid + m - s) i = D (i - (mid - s)) := fun i hi hj => by
    unfold rot
    rw [if_pos (by omega), if_neg (by omega)]
    congr 1
    omega
  have e4 : ∀ i, mid + m - s ≤ i → rot D s m (mid + m - s) i = D i := fun i hi => by unfold rot; rw [if_neg (by omega)]
  refine ⟨?_, ?_, ?_, ?_, ?_, ?_⟩
  · intro i j hi hij hj; rw [e1 i (by omega), e1 j hj]; exact hL i j hi hij (by omega)
  · intro i j hi hij hj; rw [e2 i hi (by omega), e2 j (by omega) hj]; exact hR _ _ (by omega) (by omega) (by omega)
  · intro i j hi him hj hjm; rw [e1 i him, e2 j hj hjm]; exact hX _ _ hi (by omega) (by omega) (by omega)
  · intro i j hi hij hj; rw [e3 i hi (by omega), e3 j (by omega) hj]; exact hL _ _ (by omega) (by omega) (by omega)
  · intro i j hi hij hj; rw [e4 i hi, e4 j (by omega)]; exact hR _ _ (by omega) hij hj
  · intro i j hi him hj hjm; rw [e3 i hi him, e4 j hj]; exact hX _ _ (by omega) (by omega) (by omega) hjm
/-- One ahead goes in among those behind it. -/
def shl (D : Nat → Nat) (a p : Nat) : Nat → Nat := fun k => if a ≤ k ∧ k < p then D (k + 1) else if k = p then D a else D k
theorem shl_zero (D : Nat → Nat) (a : Nat) : shl D a a = D := by
  funext k
  unfold shl
  rw [if_neg (by omega)]
  split
  · rename_i h; rw [h]
  · rfl
theorem shl_step (D : Nat → Nat) (a k : Nat) (h : a ≤ k) : swp (shl D a k) k (k + 1) = shl D a (k + 1) := by
  funext x
  unfold swp shl
  by_cases h1 : x = k
  · subst h1
    rw [if_pos rfl, if_neg (by omega), if_neg (by omega), if_pos (by omega)]
  · rw [if_neg h1]
    by_cases h2 : x = k + 1
    · rw [if_pos h2, if_neg (by omega), if_pos rfl, if_neg (by omega), if_pos h2]
    · rw [if_neg h2]
      by_cases h3 : a ≤ x ∧ x < k
      · rw [if_pos h3, if_pos (by omega)]
      · rw [if_neg h3, if_neg h1, if_neg (by omega), if_neg h2]
theorem shl_fin {D : Nat → Nat} {a b i : Nat} (hR : Srt lt D (a + 1) b) (hX : Cross D a (a + 1) b) (h1 : a + 1 ≤ i) (h2 : i ≤ b) (p1 : ∀ h, a + 1 ≤ h → h < i → lt (D h) (D a) = true) (p2 : ∀ h, i ≤ h → h < b → lt (D h) (D a) = false) :
    Sub (shl D a (i - 1)) D a b ∧ Srt lt (shl D a (i - 1)) a b := by
  have e1 : ∀ k, a ≤ k → k < i - 1 → shl D a (i - 1) k = D (k + 1) := fun k h h' => by unfold shl; rw [if_pos ⟨h, h'⟩]
  have e2 : shl D a (i - 1) (i - 1) = D a := by unfold shl; rw [if_neg (by omega), if_pos rfl]
  have e3 : ∀ k, k < a ∨ i ≤ k → shl D a (i - 1) k = D k := fun k h => by unfold shl; rw [if_neg (by omega), if_neg (by omega)]
  refine ⟨⟨fun k hk => e3 k (by omega), fun k hk hl => ?_⟩, fun x y hx hxy hy => ?_⟩
  · rcases Nat.lt_trichotomy k (i - 1) with h | h | h
    · exact ⟨k + 1, by omega, by omega, e1 k hk h⟩
    · exact ⟨a, by omega, by omega, by rw [h, e2]⟩
    · exact ⟨k, hk, hl, e3 k (by omega)⟩
  · rcases Nat.lt_trichotomy x (i - 1) with h | h | h
    · rw [e1 x hx h]
      rcases Nat.lt_trichotomy y (i - 1) with g | g | g
      · rw [e1 y (by omega) g]; exact hR _ _ (by omega) (by omega) (by omega)
      · rw [g, e2]; exact .inl (p1 _ (by omega) (by omega))
      · rw [e3 y (by omega)]; exact hR _ _ (by omega) (by omega) hy
    · rw [h, e2, e3 y (by omega)]
      exact .inr ⟨p2 y (by omega) hy, hX a y (Nat.le_refl _) (by omega) (by omega) hy⟩
    · rw [e3 x (by omega), e3 y (by omega)]; exact hR _ _ (by omega) hxy hy
/-- One behind goes in among those ahead of it. -/
def shr (D : Nat → Nat) (p m : Nat) : Nat → Nat := fun k => if p < k ∧ k ≤ m then D (k - 1) else if k = p then D m else D k
theorem shr_zero (D : Nat → Nat) (m : Nat) : shr D m m = D := by
  funext k
  unfold shr
  rw [if_neg (by omega)]
  split
  · rename_i h; rw [h]
  · rfl
theorem shr_step (D : Nat → Nat) (k m : Nat) (h : k + 1 ≤ m) : swp (shr D (k + 1) m) (k + 1) k = shr D k m := by
  funext x
  unfold swp shr
  by_cases h1 : x = k + 1
  · subst h1
    rw [if_pos rfl, if_neg (by omega), if_neg (by omega), if_pos (by omega)]
    rfl
  · rw [if_neg h1]
    by_cases h2 : x = k
    · subst h2
      rw [if_pos rfl, if_neg (by omega), if_pos rfl, if_neg (by omega), if_pos rfl]
    · rw [if_neg h2]
      by_cases h3 : k + 1 < x ∧ x ≤ m
      · rw [if_pos h3, if_pos (by omega)]
      · rw [if_neg h3, if_neg h1, if_neg (by omega), if_neg h2]
theorem shr_fin {D : Nat → Nat} {a m i : Nat} (hL : Srt lt D a m) (hX : Cross D a m (m + 1)) (h1 : a ≤ i) (h2 : i ≤ m) (p1 : ∀ h, a ≤ h → h < i → lt (D m) (D h) = false) (p2 : ∀ h, i ≤ h → h < m → lt (D m) (D h) = true) :
    Sub (shr D i m) D a (m + 1) ∧ Srt lt (shr D i m) a (m + 1) := by
  have e1 : ∀ k, i < k → k ≤ m → shr D i m k = D (k - 1) := fun k h h' => by unfold shr; rw [if_pos ⟨h, h'⟩]
  have e2 : shr D i m i = D m := by unfold shr; rw [if_neg (by omega), if_pos rfl]
  have e3 : ∀ k, k < i ∨ m < k → shr D i m k = D k := fun k h => by unfold shr; rw [if_neg (by omega), if_neg (by omega)]
  refine ⟨⟨fun k hk => e3 k (by omega), fun k hk hl => ?_⟩, fun x y hx hxy hy => ?_⟩
  · rcases Nat.lt_trichotomy k i with h | h | h
    · exact ⟨k, hk, hl, e3 k (by omega)⟩
    · exact ⟨m, by omega, by omega, by rw [h, e2]⟩
    · exact ⟨k - 1, by omega, by omega, e1 k h (by omega)⟩
  · rcases Nat.lt_trichotomy x i with h | h | h
    · rw [e3 x (by omega)]
      rcases Nat.lt_trichotomy y i with g | g | g
      · rw [e3 y (by omega)]; exact hL _ _ hx hxy (by omega)
      · rw [g, e2]; exact .inr ⟨p1 x hx h, hX x m hx (by omega) (Nat.le_refl _) (by omega)⟩
      · rw [e1 y g (by omega)]; exact hL _ _ hx (by omega) (by omega)
    · rw [h, e2, e1 y (by omega) (by omega)]
      exact .inl (p2 _ (by omega) (by omega))
    · rw [e1 x h (by omega), e1 y (by omega) (by omega)]; exact hL _ _ (by omega) (by omega) (by omega)
end SortMath
