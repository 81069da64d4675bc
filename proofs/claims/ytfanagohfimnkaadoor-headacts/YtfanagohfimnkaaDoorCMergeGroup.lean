/- chunk's Merge by its contract. -/
import Derived.Test.YtfanagohfimnkaaDoorPtMerge
import Derived.Test.YtfanagohfimnkaaDoorRefReadMaskGroup
import Derived.Deep.RegionHeld3
import Derived.Test.YtfanagohfimnkaaDoorRefTicksGroup
namespace Go.Proofs.YtfanagohfimnkaaDoor
open Go.RowKit PtMath

theorem ptsL_tail {w : World} {b o : Nat} {p : Int × Nat} {r : List (Int × Nat)} (h : PtsL w (some ⟨b, o, none⟩) (p :: r)) : PtsL w (some ⟨b, o + 2, none⟩) r := by
  rcases h with h | ⟨b', o', e, hc⟩
  · cases h
  · injection e with e
    injection e with e1 e2
    subst e1 e2
    refine .inr ⟨b, o + 2, rfl, fun k hk => ?_⟩
    have := hc (k + 1) (by simpa using hk)
    rw [show o + (k + 1) * 2 = o + 2 + k * 2 by omega] at this
    exact this
/-- A list of points is appended to one of the call's own. -/
theorem wpList_append_pts {w wr : World} {ops : Array Oper} {rest : List Oper} {o : Oper} {a : Act} {Q : Exit → Act → World → Prop} (hgd : o.guard = none) (s x : Operand)
    (ho : o.op = .call { callee := .builtin .append, args := #[s, x], argTypes := #[67, 67] })
    (v : Value) (out : List (Int × Nat)) (hs : a.eval s = v) (hout : OutAt w wr v out) (y : Option Addr) (n cy : Nat) (l : List (Int × Nat)) (hn : l.length = n) (hx : a.eval x = .slice y n cy) (hP : PtsL wr y l) (hlen : out.length + l.length ≤ 100000)
    (h : ∀ v' w1, OutAt w w1 v' (out ++ l) → wpList Tryd.prog ops Q rest (a.put o.dst v') w1) : wpList Tryd.prog ops Q (o :: rest) a wr := by
  obtain ⟨i0, hi, hz0, hz1, hz2⟩ := info_parts Tryd.infoPt
  by_cases h0 : l = []
  · subst h0
    have : n = 0 := hn.symm
    subst this
    refine wpList_append_zero hgd s x 67 ho w.heap.size 55 i0 2 Tryd.underlying67 hi v out.length (pairCells out) hs hout.own y cy hx ?_
    exact h v wr (by rw [List.append_nil]; exact hout)
  · rcases hP with h1 | ⟨b, p, rfl, hc⟩
    · exact absurd h1 h0
    · have hl0 : 0 < n := by
        rw [← hn]
        cases l with
        | nil => exact absurd rfl h0
        | cons => simp
      have hwl := hout.bel.size
      refine wpList_append_lies _ hgd s x 67 ho w.heap.size 55 i0 (.agg #[.int .i64 0, .int .u64 0]) 2 16 Tryd.underlying67 hi hz0 hz1 hz2 rfl (by decide) v out.length (pairCells out) hs hout.own ⟨b, p, none⟩ n cy (pairCells l) hx (by rw [length_pairCells, hn]) (news_pts hc) (one_pairs l) hl0 (by unfold maxLen; omega) (by omega) hwl wr.heap.size rfl ?_
      intro g1 cap1 w1 hown1 hgrow hat hlt1
      refine h _ w1 ⟨?_, ?_⟩
      · rw [List.length_append, hn, pairCells_append]
        exact hown1
      · refine hout.bel.trans ⟨hgrow.os, hgrow.tape, hgrow.output, hgrow.size, fun j hj => hgrow.block j (Nat.lt_of_lt_of_le hj hwl) (fun e => ?_)⟩
        rcases hout.own.2 with ⟨hv0, _⟩ | ⟨g, cap, cur, hv0, hg, _⟩
        · rw [hv0] at e; simp [Value.ownBlock] at e
        · rw [hv0] at e; simp [Value.ownBlock] at e; omega
def slen : Value → Nat
  | .slice _ n _ => n
  | _ => 0

end Go.Proofs.YtfanagohfimnkaaDoor
/- Points of the call's own, by ticks and values or as a list. -/
namespace Go.Proofs.YtfanagohfimnkaaDoor
open Go.RowKit PtMath

theorem pairCells_listOf (T : Nat → Int) (B : Nat → Nat) : ∀ n, pairCells (listOf T B n) = ptCells T B n
  | 0 => rfl
  | n + 1 => by
    rw [ptCells, ← pairCells_listOf T B n]
    have e : listOf T B (n + 1) = listOf T B n ++ [(T n, B n)] := by simp [listOf, List.range_succ]
    rw [e, ← pairCells_snoc]
theorem length_listOf (T : Nat → Int) (B : Nat → Nat) (n : Nat) : (listOf T B n).length = n := by simp [listOf]
theorem pts_bounds {w : World} {a : Option Addr} {n : Nat} {T : Nat → Int} {B : Nat → Nat} (h : Pts w a n T B) : (∀ i, i < n → -9223372036854775808 ≤ T i ∧ T i ≤ 9223372036854775807) ∧ ∀ i, i < n → B i < 18446744073709551616 := by
  refine ⟨fun i hi => ?_, fun i hi => ?_⟩
  · obtain ⟨_, _, _, hc⟩ := h.at i hi
    exact ⟨(hc i hi).2.2.1, (hc i hi).2.2.2.1⟩
  · obtain ⟨_, _, _, hc⟩ := h.at i hi
    exact (hc i hi).2.2.2.2
/-- A list of points, as ticks and values. -/
def tickAt (l : List (Int × Nat)) (i : Nat) : Int := (l.getD i (0, 0)).1
def bitAt (l : List (Int × Nat)) (i : Nat) : Nat := (l.getD i (0, 0)).2
theorem pts_of_list {w : World} {a : Option Addr} {l : List (Int × Nat)} (h : PtsL w a l) (hin : PtsIn l) : Pts w a l.length (tickAt l) (bitAt l) := by
  rcases h with h | ⟨b, o, h, hc⟩
  · subst h
    exact .inl rfl
  · refine .inr ⟨b, o, h, fun k hk => ?_⟩
    obtain ⟨c0, c1⟩ := hc k hk
    have e : l.getD k (0, 0) = l[k] := by simp [List.getD_eq_getElem?_getD, hk]
    have hm := hin l[k] (List.getElem_mem hk)
    unfold tickAt bitAt
    rw [e]
    exact ⟨c0, c1, hm.1, hm.2.1, hm.2.2⟩
theorem ptsIn_sub {l m : List (Int × Nat)} (h : PtsIn l) (hs : ∀ x, x ∈ m → x ∈ l) : PtsIn m := fun p hp => h p (hs p hp)
end Go.Proofs.YtfanagohfimnkaaDoor
