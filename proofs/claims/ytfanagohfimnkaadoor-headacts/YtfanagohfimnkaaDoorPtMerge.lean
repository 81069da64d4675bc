/- The document's MergeOf, the statements' OwnPoints, by contracts. -/
import Derived.Test.YtfanagohfimnkaaDoorPtList
import Derived.Laws.OwnMore
import Derived.Deep.DeepCutAuto
namespace Go.Proofs.YtfanagohfimnkaaDoor
open Go.RowKit PtMath

/-- Nothing is appended to a slice of the call's own. -/
theorem run_append_zero {P : Program} (w : World) (base : Nat) (t ty e : TypeId) (i : TypeInfo) (size : Nat) (ht : P.underlying t = some (.slice e)) (hi : P.info? e = some i)
    (v : Value) (n : Nat) (xs : List Value) (hown : w.ownsRow base e size v n xs) (ax : Option Addr) (cx : Nat) :
    (Builtin.append_ #[t, t] ty #[v, .slice ax 0 cx]).run P w = .ok v w := by
  cases ax with
  | none =>
    rcases hown.2 with ⟨rfl, rfl⟩ | ⟨g, cap, cur, rfl, _, _, hnc, _⟩
    · simp [Builtin.append_, run_underlying ht, sizeOf, typeInfo, hi, Builtin.lenOf, Builtin.firstCells]
    · simp [Builtin.append_, run_underlying ht, sizeOf, typeInfo, hi, Builtin.lenOf, Builtin.firstCells, hnc, storeCells]
  | some a =>
    rcases hown.2 with ⟨rfl, rfl⟩ | ⟨g, cap, cur, rfl, _, _, hnc, _⟩
    · simp [Builtin.append_, run_underlying ht, sizeOf, typeInfo, hi, Builtin.lenOf, Builtin.firstCells, loadCells, loadCellsFrom]
    · simp [Builtin.append_, run_underlying ht, sizeOf, typeInfo, hi, Builtin.lenOf, Builtin.firstCells, hnc, storeCells, loadCells, loadCellsFrom]
theorem wpList_append_zero {P : Program} {w : World} {ops : Array Oper} {rest : List Oper} {o : Oper} {a : Act} {Q : Exit → Act → World → Prop} (hgd : o.guard = none) (s x : Operand) (t : TypeId)
    (ho : o.op = .call { callee := .builtin .append, args := #[s, x], argTypes := #[t, t] })
    (base : Nat) (e : TypeId) (i : TypeInfo) (size : Nat) (ht : P.underlying t = some (.slice e)) (hi : P.info? e = some i)
    (v : Value) (n : Nat) (xs : List Value) (hs : a.eval s = v) (hown : w.ownsRow base e size v n xs) (ax : Option Addr) (cx : Nat) (hx : a.eval x = .slice ax 0 cx)
    (h : wpList P ops Q rest (a.put o.dst v) w) : wpList P ops Q (o :: rest) a w := by
  refine wpList_plain hgd fun K hK => ?_
  have hrun := run_append_zero (P := P) w base t o.type e i size ht hi v n xs hown ax cx
  unfold Oper.wp
  simp [execOp, ho, resolve, invoke, builtin, hs, hx, hrun, Result.andThen]
  exact hK _ _ h

theorem one_pairs (l : List (Int × Nat)) : ∀ u ∈ pairCells l, u.oneCell' = true := by
  intro u hu
  simp [pairCells] at hu
  obtain ⟨a, b, _, h | h⟩ := hu
  · rw [h]; rfl
  · rw [h]; rfl
/-- What lies behind an address, as appended cells. -/
theorem news_pts {w : World} {b o : Nat} {l : List (Int × Nat)} (h : ∀ k (hk : k < l.length), w.cell? ⟨b, o + k * 2, none⟩ = some (.int .i64 l[k].1) ∧ w.cell? ⟨b, o + k * 2 + 1, none⟩ = some (.int .u64 (l[k].2 : Int))) :
    ∀ (j : Nat) u, (pairCells l)[j]? = some u → w.cell? ((⟨b, o, none⟩ : Addr).add j) = some u := by
  intro j u hj
  have hlen := length_pairCells l
  have hjl : j < l.length * 2 := by
    rcases Nat.lt_or_ge j (l.length * 2) with h1 | h1
    · exact h1
    · rw [List.getElem?_eq_none (by omega)] at hj; cases hj
  have e2 : ((⟨b, o, none⟩ : Addr).add j) = ⟨b, o + j, none⟩ := by
    unfold Addr.add
    cases j <;> simp
  rw [e2, ← hj]
  have hk : j / 2 < l.length := by omega
  obtain ⟨p0, p1⟩ := pairCells_at l (j / 2) hk
  obtain ⟨q0, q1⟩ := h (j / 2) hk
  rcases Nat.mod_two_eq_zero_or_one j with hm | hm
  · have e : j = j / 2 * 2 := by omega
    rw [e, p0, ← q0]
  · have e : j = j / 2 * 2 + 1 := by omega
    rw [e, p1, ← q1]
    congr 2

/-- A list of the call's own, and memory that grew. -/
structure OutAt (w wr : World) (v : Value) (out : List (Int × Nat)) : Prop where
  own : wr.ownsRow w.heap.size 55 2 v out.length (pairCells out)
  bel : Below w.heap.size w wr

end Go.Proofs.YtfanagohfimnkaaDoor
