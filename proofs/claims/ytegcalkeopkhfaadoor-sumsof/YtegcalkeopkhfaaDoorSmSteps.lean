/- sums.Steps by its contract. -/
import Derived.Test.YtegcalkeopkhfaaDoorSmDoc
namespace SmMath
open PtMath
/-- The sum of stretch i. -/
def stepM (l : List (Int × Nat)) (f st : Int) (i : Nat) : Sm := ofM (betweenL (f + i * st) (f + i * st + st - 1) l)
theorem stepM_no (l : List (Int × Nat)) (p : Int × Nat) (f st : Int) (i : Nat) (h : ¬(f + i * st ≤ p.1 ∧ p.1 ≤ f + i * st + st - 1)) : stepM (l ++ [p]) f st i = stepM l f st i := by
  unfold stepM
  rw [betweenL_snoc, if_neg (by simpa using h)]
theorem stepM_yes (l : List (Int × Nat)) (p : Int × Nat) (f st : Int) (i : Nat) (h : f + i * st ≤ p.1 ∧ p.1 ≤ f + i * st + st - 1) : stepM (l ++ [p]) f st i = addM (stepM l f st i) (oneM p.2) := by
  unfold stepM
  rw [betweenL_snoc, if_pos (by simpa using h), ofM_snoc]
theorem mul_lt_step {st : Int} {i n : Nat} (hs : 1 ≤ st) (h : i < n) : (i : Int) * st + st ≤ n * st := by
  have h1 : ((i + 1 : Nat) : Int) * st ≤ (n : Int) * st := Int.mul_le_mul_of_nonneg_right (by omega) (by omega)
  have h2 : ((i + 1 : Nat) : Int) * st = (i : Int) * st + st := by rw [Int.natCast_add, Int.add_mul]; simp
  omega
theorem stretch_is {t f st : Int} {n : Nat} (hs : 1 ≤ st) (h1 : f ≤ t) (h2 : t < f + n * st) : ∃ i : Nat, i < n ∧ (t - f) / st = (i : Int) ∧ (f + i * st ≤ t ∧ t ≤ f + i * st + st - 1) ∧ ∀ j : Nat, j ≠ i → ¬(f + j * st ≤ t ∧ t ≤ f + j * st + st - 1) := by
  have h0 : 0 ≤ (t - f) / st := Int.ediv_nonneg (by omega) (by omega)
  obtain ⟨i, hi⟩ := Int.eq_ofNat_of_zero_le h0
  have hm := Int.emod_nonneg (t - f) (show st ≠ 0 by omega)
  have hl := Int.emod_lt_of_pos (t - f) (show 0 < st by omega)
  have hd := Int.mul_ediv_add_emod (t - f) st
  rw [hi, Int.mul_comm] at hd
  have hin : i < n := by
    rcases Nat.lt_or_ge i n with h | h
    · exact h
    · have : (n : Int) * st ≤ (i : Int) * st := Int.mul_le_mul_of_nonneg_right (by omega) (by omega)
      omega
  refine ⟨i, hin, hi, by omega, fun j hj => ?_⟩
  rcases Nat.lt_or_gt_of_ne hj with h | h
  · have := mul_lt_step hs h; omega
  · have := mul_lt_step hs h; omega
end SmMath
namespace Go.Proofs.YtegcalkeopkhfaaDoor
open Go.RowKit PtMath SmMath

/-- A row of sums. -/
structure SmsAt (w : World) (g n : Nat) (F : Nat → Sm) : Prop where
  all : ∃ cur : Array Value, w.heap[g]? = some (.cells cur 26 (0, 0)) ∧ cur.size = n * 5 ∧ ∀ i, i < n → cur[i * 5]? = some (.int .i64 (F i).c) ∧ cur[i * 5 + 1]? = some (.int .u64 (F i).l) ∧ cur[i * 5 + 2]? = some (.int .u64 (F i).m) ∧ cur[i * 5 + 3]? = some (.int .u64 (F i).t) ∧ cur[i * 5 + 4]? = some (.int .u64 (F i).s)
theorem SmsAt.below {w w' : World} {g n : Nat} {F : Nat → Sm} (h : SmsAt w g n F) (hb : Below w.heap.size w w') : SmsAt w' g n F := by
  obtain ⟨cur, h1, h2⟩ := h.all
  exact ⟨cur, (hb.block _ (lt_of_block h1)).trans h1, h2⟩
theorem SmsAt.at {w : World} {g n : Nat} {F : Nat → Sm} (h : SmsAt w g n F) (i : Nat) (hi : i < n) : (w.cell? ⟨g, i * 5, none⟩ = some (.int .i64 (F i).c) ∧ w.cell? ⟨g, i * 5 + 1, none⟩ = some (.int .u64 (F i).l) ∧ w.cell? ⟨g, i * 5 + 2, none⟩ = some (.int .u64 (F i).m) ∧ w.cell? ⟨g, i * 5 + 3, none⟩ = some (.int .u64 (F i).t) ∧ w.cell? ⟨g, i * 5 + 4, none⟩ = some (.int .u64 (F i).s)) ∧ ∀ j, w.frozen? ⟨g, j, none⟩ = false := by
  obtain ⟨cur, h1, _, h3⟩ := h.all
  obtain ⟨a0, a1, a2, a3, a4⟩ := h3 i hi
  exact ⟨⟨(cells_of h1 _).trans a0, (cells_of h1 _).trans a1, (cells_of h1 _).trans a2, (cells_of h1 _).trans a3, (cells_of h1 _).trans a4⟩, fun j => frozen_of h1 j⟩
theorem SmsAt.set {w : World} {g n : Nat} {F : Nat → Sm} (h : SmsAt w g n F) (i : Nat) (hi : i < n) (G : Nat → Sm) (hG : ∀ j, j ≠ i → G j = F j) :
    SmsAt (((((w.setCell ⟨g, i * 5, none⟩ (.int .i64 (G i).c)).setCell ⟨g, i * 5 + 1, none⟩ (.int .u64 (G i).l)).setCell ⟨g, i * 5 + 2, none⟩ (.int .u64 (G i).m)).setCell ⟨g, i * 5 + 3, none⟩ (.int .u64 (G i).t)).setCell ⟨g, i * 5 + 4, none⟩ (.int .u64 (G i).s)) g n G := by
  obtain ⟨cur, h1, h2, h3⟩ := h.all
  refine ⟨_, heap_set (heap_set (heap_set (heap_set (heap_set h1 _ _) _ _) _ _) _ _) _ _, by simp [h2], fun j hj => ?_⟩
  by_cases hji : j = i
  · subst hji
    simp only [Array.getElem?_setIfInBounds, Array.size_setIfInBounds, h2]
    refine ⟨?_, ?_, ?_, ?_, ?_⟩ <;> simp <;> omega
  · obtain ⟨a0, a1, a2, a3, a4⟩ := h3 j hj
    rw [hG j hji]
    simp only [Array.getElem?_setIfInBounds]
    refine ⟨?_, ?_, ?_, ?_, ?_⟩ <;> (repeat rw [if_neg (by omega)]) <;> assumption

theorem sums_made {w : World} {cur : Array Value} {g n : Nat} (h : w.heap[g]? = some (.cells cur 26 (0, 0))) (hs : cur.size = n * 5) (hc : cur.toList.take (n * 5) = (madeCells (Value.agg #[.int .i64 0, .int .u64 0, .int .u64 0, .int .u64 0, .int .u64 0]).cells (n * 5)).toList) : SmsAt w g n (fun _ => zeroM) := by
  refine ⟨cur, h, hs, fun i hi => ?_⟩
  have e : ∀ j, j < n * 5 → cur[j]? = some ((#[.int .i64 0, .int .u64 0, .int .u64 0, .int .u64 0, .int .u64 0] : Array Value)[j % 5]!) := fun j hj => by
    have h1 : cur[j]? = (cur.toList.take (n * 5))[j]? := by rw [List.getElem?_take_of_lt hj]; simp
    rw [h1, hc]
    show (madeCells #[.int .i64 0, .int .u64 0, .int .u64 0, .int .u64 0, .int .u64 0] (n * 5)).toList[j]? = _
    simp [madeCells, hj]
  refine ⟨?_, ?_, ?_, ?_, ?_⟩
  · rw [e _ (by omega), show i * 5 % 5 = 0 by omega]; rfl
  · rw [e _ (by omega), show (i * 5 + 1) % 5 = 1 by omega]; rfl
  · rw [e _ (by omega), show (i * 5 + 2) % 5 = 2 by omega]; rfl
  · rw [e _ (by omega), show (i * 5 + 3) % 5 = 3 by omega]; rfl
  · rw [e _ (by omega), show (i * 5 + 4) % 5 = 4 by omega]; rfl
theorem Tryd.infoSum : (Tryd.prog.info? 26).map (fun i => (i.zero, i.size, i.bytes)) = some (some (.agg #[.int .i64 0, .int .u64 0, .int .u64 0, .int .u64 0, .int .u64 0]), 5, 40) := by kernel_rfl

theorem bel_draws {b : Nat} {w w' : World} (h : Below b w w') (q : Nat) : Below b w (w'.drewN q) := h.trans ⟨rfl, rfl, rfl, Nat.le_refl _, fun _ _ => rfl⟩

set_option maxRecDepth 1000000 in
set_option maxHeartbeats 2000000 in
theorem smSteps_bad (w : World) (la : Option Addr) (c m : Nat) (f st n : Int) (p : Addr) (hE : w.cell? ⟨0, 0, none⟩ = some (.iface 82 (.pointer (some p)))) (h : st < 1 ∨ 100000 < st ∨ n < 0 ∨ 120 < n ∨ f < -1099511627776 ∨ 1099511627776 < f) :
    Calls Tryd.prog 10 #[.slice la m c, .int .i64 f, .int .i64 st, .int .i64 n] w fun e w' => e = .returned (.tuple #[.slice none 0 0, .iface 82 (.pointer (some p))]) ∧ Below w.heap.size w w' := by
  have hE' : w.drew.cell? ⟨0, 0, none⟩ = some (.iface 82 (.pointer (some p))) := hE
  by_cases h1 : st < 1
  · clear h
    go_enter Tryd.func10, Tryd.ntmps10
    go_wp2_with fail
    go_quiet (fail)
    go_wp2
    go_ret2
    exact ⟨rfl, bel_draws (Below.refl _ _) _⟩
  by_cases h2 : 100000 < st
  · clear h
    go_enter Tryd.func10, Tryd.ntmps10
    go_wp2_with fail
    go_quiet (fail)
    go_wp2
    go_ret2
    exact ⟨rfl, bel_draws (Below.refl _ _) _⟩
  by_cases h3 : n < 0
  · clear h
    go_enter Tryd.func10, Tryd.ntmps10
    go_wp2_with fail
    go_quiet (fail)
    go_wp2
    go_ret2
    exact ⟨rfl, bel_draws (Below.refl _ _) _⟩
  by_cases h4 : 120 < n
  · clear h
    go_enter Tryd.func10, Tryd.ntmps10
    go_wp2_with fail
    go_quiet (fail)
    go_wp2
    go_ret2
    exact ⟨rfl, bel_draws (Below.refl _ _) _⟩
  by_cases h5 : f < -1099511627776
  · clear h
    go_enter Tryd.func10, Tryd.ntmps10
    go_wp2_with fail
    go_quiet (fail)
    go_wp2
    go_ret2
    exact ⟨rfl, bel_draws (Below.refl _ _) _⟩
  by_cases h6 : 1099511627776 < f
  · clear h
    go_enter Tryd.func10, Tryd.ntmps10
    go_wp2_with fail
    go_quiet (fail)
    go_wp2
    go_ret2
    exact ⟨rfl, bel_draws (Below.refl _ _) _⟩
  omega
end Go.Proofs.YtegcalkeopkhfaaDoor
