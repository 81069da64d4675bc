/- The document's Unchunk by its contract. -/
import Derived.Test.YtfanagohfimnkaaDoorChunkBack
namespace Go.Proofs.YtfanagohfimnkaaDoor
open Go.RowKit

theorem Tryd.infoPoint : (Tryd.prog.info? 55).map (fun i => (i.zero, i.size, i.bytes)) = some (some (.agg #[.int .i64 0, .int .u64 0]), 2, 16) := by kernel_rfl
/-- The cells of points. -/
def ptCells (T : Nat → Int) (B : Nat → Nat) : Nat → List Value
  | 0 => []
  | k + 1 => ptCells T B k ++ [.int .i64 (T k), .int .u64 (B k : Int)]
theorem length_ptCells (T : Nat → Int) (B : Nat → Nat) : ∀ n, (ptCells T B n).length = n * 2
  | 0 => rfl
  | n + 1 => by rw [ptCells, List.length_append, length_ptCells T B n]; simp; omega
theorem ptCells_at (T : Nat → Int) (B : Nat → Nat) : ∀ n k, k < n → (ptCells T B n)[k * 2]? = some (.int .i64 (T k)) ∧ (ptCells T B n)[k * 2 + 1]? = some (.int .u64 (B k : Int))
  | 0, k, h => absurd h (by omega)
  | n + 1, k, h => by
    have hl := length_ptCells T B n
    rcases Nat.lt_or_ge k n with h1 | h1
    · obtain ⟨a, b⟩ := ptCells_at T B n k h1
      rw [ptCells, List.getElem?_append_left (by omega), List.getElem?_append_left (by omega)]
      exact ⟨a, b⟩
    · have : k = n := by omega
      subst this
      rw [ptCells, List.getElem?_append_right (by omega), List.getElem?_append_right (by omega), hl]
      simp
theorem ptCells_congr (T U : Nat → Int) (B C : Nat → Nat) : ∀ n, (∀ i, i < n → T i = U i) → (∀ i, i < n → B i = C i) → ptCells T B n = ptCells U C n
  | 0, _, _ => rfl
  | n + 1, h, k => by rw [ptCells, ptCells, ptCells_congr T U B C n (fun i hi => h i (by omega)) (fun i hi => k i (by omega)), h n (by omega), k n (by omega)]
theorem pts_own {w : World} {base n : Nat} {v : Value} {T : Nat → Int} {B : Nat → Nat} (h : w.ownsRow base 55 2 v n (ptCells T B n)) (hT : ∀ i, i < n → -9223372036854775808 ≤ T i ∧ T i ≤ 9223372036854775807) (hB : ∀ i, i < n → B i < 18446744073709551616) : ∃ a c, v = .slice a n c ∧ Pts w a n T B := by
  obtain ⟨_, h2⟩ := h
  rcases h2 with ⟨rfl, h0⟩ | ⟨g, cap, cur, hv, hg, hh, h1, h2, h3, h4⟩
  · subst h0
    exact ⟨none, 0, rfl, .inl rfl⟩
  · refine ⟨_, _, hv, .inr ⟨g, 0, rfl, fun k hk => ?_⟩⟩
    obtain ⟨c0, c1⟩ := ptCells_at T B n k hk
    rw [← h4] at c0 c1
    rw [List.getElem?_take_of_lt (by omega)] at c0 c1
    rw [Array.getElem?_toList] at c0 c1
    refine ⟨?_, ?_, (hT k hk).1, (hT k hk).2, hB k hk⟩
    · simp only [World.cell?, hh, Nat.zero_add]
      exact c0
    · simp only [World.cell?, hh, Nat.zero_add]
      exact c1

/-- What Unchunk answers. -/
def Unch (w w' : World) (l : List UInt8) (e : Ending) : Prop :=
  Below w.heap.size w w' ∧ ((∃ (n : Nat) (T : Nat → Int) (B : Nat → Nat) (v : Value), n ≤ 120 ∧ (∀ i, i < n → ptOk T i = true) ∧ (∀ i, i < n → B i < 18446744073709551616) ∧ l = chunkBytes T B n ∧ w'.ownsRow w.heap.size 55 2 v n (ptCells T B n) ∧ e = .returned (.tuple #[v, .int .i64 0])) ∨
    (∃ c : Nat, ¬ IsChunk l ∧ c = (if l.length < 5 then 1 else if BitMath.sealOf (l.take (l.length - 4)) = l then 1 else 9) ∧ e = .returned (.tuple #[.slice none 0 0, .int .i64 (c : Int)])))

theorem str_beq (a b : ByteArray) : (a.toList == b.toList) = decide (a.data.toList = b.data.toList) := by
  rw [ByteArray.toList_eq, ByteArray.toList_eq]
  by_cases h : a.data.toList = b.data.toList
  · simp [h]
  · rw [decide_eq_false h, beq_eq_false_iff_ne]
    exact h

theorem first_bad (p : Nat → Bool) : ∀ n, ∃ m, m ≤ n ∧ (∀ i, i < m → p i = true) ∧ (m < n → p m = false)
  | 0 => ⟨0, Nat.le_refl _, fun i hi => absurd hi (by omega), fun h => absurd h (by omega)⟩
  | n + 1 => by
    obtain ⟨m, hm, h1, h2⟩ := first_bad p n
    rcases Nat.lt_or_ge m n with h | h
    · exact ⟨m, by omega, h1, fun _ => h2 h⟩
    · have : m = n := by omega
      subst this
      cases hp : p m with
      | true =>
        refine ⟨m + 1, Nat.le_refl _, fun i hi => ?_, fun h => absurd h (by omega)⟩
        rcases Nat.lt_or_ge i m with h3 | h3
        · exact h1 i h3
        · have : i = m := by omega
          subst this
          exact hp
      | false => exact ⟨m, by omega, h1, fun _ => hp⟩
theorem own_base {w : World} {base base' : Nat} {e : TypeId} {s : Nat} {v : Value} {n : Nat} {xs : List Value} (h : w.ownsRow base e s v n xs) (hb : base' ≤ base) : w.ownsRow base' e s v n xs := by
  obtain ⟨h1, h2⟩ := h
  refine ⟨h1, ?_⟩
  rcases h2 with h2 | ⟨g, cap, cur, hv, hg, r⟩
  · exact .inl h2
  · exact .inr ⟨g, cap, cur, hv, Nat.le_trans hb hg, r⟩
/-- A cell below a row's base, behind the row's growth. -/
theorem cell_grown {wr X w7 : World} {o : Obj} {g k base n sz : Nat} {c v : Value} {e : TypeId} {xs : List Value} (hX : X.heap = (wr.alloc o).heap) (hown : wr.ownsRow base e sz v n xs) (hgrow : X.grownBy w7 v.ownBlock) (hg : g < base) (hc : wr.cell? ⟨g, k, none⟩ = some c) : w7.cell? ⟨g, k, none⟩ = some c := by
  have hl : g < wr.heap.size := World.block_lt_of_cell? wr ⟨g, k, none⟩ hc
  have h1 : w7.heap[g]? = wr.heap[g]? := by
    rw [hgrow.block g (by rw [hX]; simp; omega) (fun h => by have := (own_lt hown g h.symm).2; omega), hX]
    exact Below.heap_alloc wr o g hl
  simp only [World.cell?, h1] at hc ⊢
  exact hc
/-- What grew, behind a draw. -/
theorem below_grown {w5 wr X w7 : World} {o : Obj} {n sz : Nat} {v : Value} {e : TypeId} {xs : List Value} (hX : X.heap = (wr.alloc o).heap) (ho : X.os = wr.os) (ht : X.tape = wr.tape) (hu : X.output = wr.output) (hb : Below w5.heap.size w5 wr) (hown : wr.ownsRow w5.heap.size e sz v n xs) (hgrow : X.grownBy w7 v.ownBlock) : Below w5.heap.size w5 w7 := by
  have hs := hb.size
  have hsz : wr.heap.size ≤ X.heap.size := by rw [hX]; simp
  refine hb.trans ⟨hgrow.os.trans ho, hgrow.tape.trans ht, hgrow.output.trans hu, Nat.le_trans hsz hgrow.size, fun k hk => ?_⟩
  rw [hgrow.block k (by omega) (fun h => by have := (own_lt hown k h.symm).2; omega), hX]
  exact Below.heap_alloc wr o k (by omega)

end Go.Proofs.YtfanagohfimnkaaDoor
