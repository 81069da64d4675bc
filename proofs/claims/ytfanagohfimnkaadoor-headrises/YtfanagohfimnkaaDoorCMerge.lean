/- chunk's Merge by its contract. -/
import Derived.Test.YtfanagohfimnkaaDoorPtMerge
import Derived.Test.YtfanagohfimnkaaDoorRefReadMaskGroup
import Derived.Deep.RegionHeld3
namespace Go.Proofs.YtfanagohfimnkaaDoor
open Go.RowKit PtMath

theorem ptsL_tail {w : World} {b o : Nat} {p : Int × Nat} {r : List (Int × Nat)} (h : PtsL w (some ⟨b, o, none⟩) (p :: r)) : PtsL w (some ⟨b, o + 2, none⟩) r := by
  rcases h with h | ⟨b', o', e, hc⟩
  · cases h
  · injection e with e
    injection e with e1 e2
    subst e1 e2
    refine .inr ⟨b, o + 2, rfl, fun k hk => ?_⟩
    have := hc (k + 1) (by simpa using hk)
    rw [show o + (k + 1) * 2 = o + 2 + k * 2 by omega] at this
    exact this
/-- A list of points is appended to one of the call's own. -/
theorem wpList_append_pts {w wr : World} {ops : Array Oper} {rest : List Oper} {o : Oper} {a : Act} {Q : Exit → Act → World → Prop} (hgd : o.guard = none) (s x : Operand)
    (ho : o.op = .call { callee := .builtin .append, args := #[s, x], argTypes := #[67, 67] })
    (v : Value) (out : List (Int × Nat)) (hs : a.eval s = v) (hout : OutAt w wr v out) (y : Option Addr) (n cy : Nat) (l : List (Int × Nat)) (hn : l.length = n) (hx : a.eval x = .slice y n cy) (hP : PtsL wr y l) (hlen : out.length + l.length ≤ 100000)
    (h : ∀ v' w1, OutAt w w1 v' (out ++ l) → wpList Tryd.prog ops Q rest (a.put o.dst v') w1) : wpList Tryd.prog ops Q (o :: rest) a wr := by
  obtain ⟨i0, hi, hz0, hz1, hz2⟩ := info_parts Tryd.infoPt
  by_cases h0 : l = []
  · subst h0
    have : n = 0 := hn.symm
    subst this
    refine wpList_append_zero hgd s x 67 ho w.heap.size 55 i0 2 Tryd.underlying67 hi v out.length (pairCells out) hs hout.own y cy hx ?_
    exact h v wr (by rw [List.append_nil]; exact hout)
  · rcases hP with h1 | ⟨b, p, rfl, hc⟩
    · exact absurd h1 h0
    · have hl0 : 0 < n := by
        rw [← hn]
        cases l with
        | nil => exact absurd rfl h0
        | cons => simp
      have hwl := hout.bel.size
      refine wpList_append_lies _ hgd s x 67 ho w.heap.size 55 i0 (.agg #[.int .i64 0, .int .u64 0]) 2 16 Tryd.underlying67 hi hz0 hz1 hz2 rfl (by decide) v out.length (pairCells out) hs hout.own ⟨b, p, none⟩ n cy (pairCells l) hx (by rw [length_pairCells, hn]) (news_pts hc) (one_pairs l) hl0 (by unfold maxLen; omega) (by omega) hwl wr.heap.size rfl ?_
      intro g1 cap1 w1 hown1 hgrow hat hlt1
      refine h _ w1 ⟨?_, ?_⟩
      · rw [List.length_append, hn, pairCells_append]
        exact hown1
      · refine hout.bel.trans ⟨hgrow.os, hgrow.tape, hgrow.output, hgrow.size, fun j hj => hgrow.block j (Nat.lt_of_lt_of_le hj hwl) (fun e => ?_)⟩
        rcases hout.own.2 with ⟨hv0, _⟩ | ⟨g, cap, cur, hv0, hg, _⟩
        · rw [hv0] at e; simp [Value.ownBlock] at e
        · rw [hv0] at e; simp [Value.ownBlock] at e; omega
def slen : Value → Nat
  | .slice _ n _ => n
  | _ => 0

end Go.Proofs.YtfanagohfimnkaaDoor
