/- Sums of points, as numbers. -/
import Derived.Test.YtegcalkeopkhfaaPtMerge
namespace SmMath

/-- A sum: count, least, most, last, total. -/
structure Sm where
  c : Nat
  l : Nat
  m : Nat
  t : Nat
  s : Nat
def zeroM : Sm := ⟨0, 0, 0, 0, 0⟩
def oneM (v : Nat) : Sm := ⟨1, v, v, v, v⟩
def addM (a b : Sm) : Sm := if a.c = 0 then b else if b.c = 0 then a else ⟨a.c + b.c, if b.l < a.l then b.l else a.l, if a.m < b.m then b.m else a.m, b.t, (a.s + b.s) % 18446744073709551616⟩
def ofM (l : List (Int × Nat)) : Sm := l.foldl (fun s p => addM s (oneM p.2)) zeroM
theorem ofM_snoc (l : List (Int × Nat)) (p : Int × Nat) : ofM (l ++ [p]) = addM (ofM l) (oneM p.2) := by unfold ofM; rw [List.foldl_append]; rfl
theorem addM_c (a b : Sm) : (addM a b).c = a.c + b.c := by
  unfold addM
  split
  · omega
  · split
    · omega
    · rfl
theorem addM_zero (a : Sm) : addM zeroM a = a := rfl
theorem addM_end (a : Sm) (h : a.c = 0 → a = zeroM) : addM a zeroM = a := by
  unfold addM
  split
  · rename_i h0
    exact (h h0).symm
  · rfl
theorem addM_assoc (a b c : Sm) : addM (addM a b) c = addM a (addM b c) := by
  by_cases ha : a.c = 0
  · simp [addM, ha]
  by_cases hb : b.c = 0
  · simp [addM, ha, hb]
  by_cases hc : c.c = 0
  · simp [addM, ha, hb, hc]
  · have hab : ¬(a.c + b.c = 0) := by omega
    have hbc : ¬(b.c + c.c = 0) := by omega
    simp only [addM, ha, hb, hc, if_false, hab, hbc]
    congr 1
    · omega
    · repeat' split
      all_goals omega
    · repeat' split
      all_goals omega
    · omega
theorem foldl_addM : ∀ (l : List (Int × Nat)) (s : Sm), (s.c = 0 → s = zeroM) → l.foldl (fun s p => addM s (oneM p.2)) s = addM s (ofM l)
  | [], s, h => (addM_end s h).symm
  | p :: r, s, h => by
    have e : ofM (p :: r) = addM (oneM p.2) (ofM r) := foldl_addM r (oneM p.2) (fun h => by cases h)
    rw [e, ← addM_assoc, List.foldl_cons]
    exact foldl_addM r (addM s (oneM p.2)) (fun h => by rw [addM_c] at h; exact absurd h (by simp [oneM]))
theorem ofM_c (l : List (Int × Nat)) : (ofM l).c = l.length := by
  induction l with
  | nil => rfl
  | cons p r ih =>
    have e : ofM (p :: r) = addM (oneM p.2) (ofM r) := foldl_addM r (oneM p.2) (fun h => by cases h)
    rw [e, addM_c, ih, List.length_cons]
    simp [oneM]; omega
theorem ofM_nil (l : List (Int × Nat)) (h : (ofM l).c = 0) : ofM l = zeroM := by
  rw [ofM_c] at h
  rw [List.eq_nil_of_length_eq_zero h]
  rfl
theorem ofM_append (a b : List (Int × Nat)) : ofM (a ++ b) = addM (ofM a) (ofM b) := by
  unfold ofM
  rw [List.foldl_append]
  exact foldl_addM b _ (ofM_nil a)
/-- Numbers of 64 bits. -/
def In (a : Sm) : Prop := a.l < 18446744073709551616 ∧ a.m < 18446744073709551616 ∧ a.t < 18446744073709551616 ∧ a.s < 18446744073709551616
theorem in_add {a b : Sm} (ha : In a) (hb : In b) : In (addM a b) := by
  unfold addM
  obtain ⟨a1, a2, a3, a4⟩ := ha
  obtain ⟨b1, b2, b3, b4⟩ := hb
  split
  · exact ⟨b1, b2, b3, b4⟩
  · split
    · exact ⟨a1, a2, a3, a4⟩
    · refine ⟨?_, ?_, b3, ?_⟩
      · show (if _ then _ else _) < _; split <;> omega
      · show (if _ then _ else _) < _; split <;> omega
      · show _ % _ < _; omega
end SmMath
namespace Go.Proofs.Ytegcalkeopkhfaa
open Go.RowKit PtMath SmMath

/-- A sum as a value. -/
def smV (a : Sm) : Value := .agg #[.int .i64 a.c, .int .u64 a.l, .int .u64 a.m, .int .u64 a.t, .int .u64 a.s]
theorem in_of {l : List (Int × Nat)} (h : PtsIn l) : In (ofM l) := by
  have h0 : ∀ k, In (ofM (l.take k)) := by
    intro k
    induction k with
    | zero => exact (show In zeroM from ⟨by decide, by decide, by decide, by decide⟩)
    | succ k ih =>
      by_cases hk : k < l.length
      · rw [List.take_succ_eq_append_getElem hk, ofM_snoc]
        have hp := (h l[k] (List.getElem_mem hk)).2.2
        exact in_add ih ⟨hp, hp, hp, hp⟩
      · rw [List.take_of_length_le (by omega)]
        rw [List.take_of_length_le (by omega)] at ih
        exact ih
  have := h0 l.length
  rwa [List.take_length] at this

theorem smOne_any (w : World) (t : Int) (v : Nat) :
    Calls Try.prog 10 #[.agg #[.int .i64 t, .int .u64 (v : Int)]] w fun e w' => e = .returned (smV (oneM v)) ∧ Below w.heap.size w w' := by
  go_enter Try.func10, Try.ntmps10
  go_wp2
  exact bodyPost_ret (v := smV (oneM v)) (by simp [results, Try.results10, go_sem, smV, oneM]) rfl ⟨rfl, ((Below.refl _ _).alloc (Nat.le_refl _) _).alloc (by simp) _⟩

set_option maxRecDepth 100000 in
theorem smAdd_any (w : World) (a b : Sm) (h : a.c + b.c ≤ 1000000) (ha : In a) (hb : In b) :
    Calls Try.prog 6 #[smV a, smV b] w fun e w' => e = .returned (smV (addM a b)) ∧ Below w.heap.size w w' := by
  obtain ⟨c, l, m, t, s⟩ := a
  obtain ⟨c', l', m', t', s'⟩ := b
  simp only at h
  unfold smV
  simp only
  by_cases h0 : c = 0
  · subst h0
    go_enter Try.func6, Try.ntmps6
    go_wp2
    refine bodyPost_ret (v := smV ⟨c', l', m', t', s'⟩) (by simp [results, Try.results6, go_sem, smV]) rfl ⟨rfl, ?_⟩
    exact (((Below.refl _ _).alloc (Nat.le_refl _) _).alloc (by simp) _).alloc (by simp; omega) _
  have d0 : ((c : Int) == 0) = false := by simp; omega
  by_cases h1 : c' = 0
  · subst h1
    go_enter Try.func6, Try.ntmps6
    go_wp2
    refine bodyPost_ret (v := smV ⟨c, l, m, t, s⟩) (by simp [results, Try.results6, go_sem, smV]) rfl ⟨by unfold addM; rw [if_neg h0, if_pos rfl]; rfl, ?_⟩
    exact (((Below.refl _ _).alloc (Nat.le_refl _) _).alloc (by simp) _).alloc (by simp; omega) _
  have d1 : ((c' : Int) == 0) = false := by simp; omega
  have hR : addM ⟨c, l, m, t, s⟩ ⟨c', l', m', t', s'⟩ = ⟨c + c', if l' < l then l' else l, if m < m' then m' else m, t', (s + s') % 18446744073709551616⟩ := by unfold addM; rw [if_neg h0, if_neg h1]
  rw [hR]
  have hw : IntKind.u64.wrap ((s : Int) + (s' : Int)) = (((s + s') % 18446744073709551616 : Nat) : Int) := by
    show ((s : Int) + (s' : Int)) % 18446744073709551616 = _
    omega
  generalize (s + s') % 18446744073709551616 = z at *
  have hc : ((c : Int) + (c' : Int)) ≤ 1000000 := by omega
  clear hR ha hb
  go_enter Try.func6, Try.ntmps6
  go_wp2
  all_goals exact bodyPost_ret (v := .agg #[.int .i64 ((c : Int) + (c' : Int)), .int .u64 _, .int .u64 _, .int .u64 (t' : Int), .int .u64 (z : Int)]) (by simp [results, Try.results6, go_sem]) rfl ⟨rfl, (((Below.refl _ _).alloc (Nat.le_refl _) _).alloc (by simp) _).alloc (by simp; omega) _⟩
end Go.Proofs.Ytegcalkeopkhfaa
