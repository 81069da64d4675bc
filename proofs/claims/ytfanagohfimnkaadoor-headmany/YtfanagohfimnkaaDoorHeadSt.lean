/- A head as a statement holds it: its state alone; its calls by contracts on it. -/
import Derived.Test.YtfanagohfimnkaaDoorHeadAdd
import Derived.Test.YtfanagohfimnkaaDoorHeadCut
namespace Go.Proofs.YtfanagohfimnkaaDoor
open Go.RowKit Go.Maps HeadMath LabMath PtMath

/-- Since w a head was made, whose series are S. -/
structure HdSt (w wr : World) (hb : Nat) (S : List Sr) : Prop where
  ex : ∃ mb bl sv, HeadAt wr hb mb S bl sv ∧ (∀ x, x ∈ foot mb S bl sv → w.heap.size ≤ x) ∧ Well S ∧ Below w.heap.size w wr
theorem HdSt.well {w wr : World} {hb : Nat} {S : List Sr} (h : HdSt w wr hb S) : Well S := by obtain ⟨_, _, _, _, _, h, _⟩ := h.ex; exact h
theorem HdSt.bel {w wr : World} {hb : Nat} {S : List Sr} (h : HdSt w wr hb S) : Below w.heap.size w wr := by obtain ⟨_, _, _, _, _, _, h⟩ := h.ex; exact h
theorem HdSt.below {w wr w' : World} {hb : Nat} {S : List Sr} (h : HdSt w wr hb S) (hb' : Below wr.heap.size wr w') : HdSt w w' hb S := by
  obtain ⟨mb, bl, sv, h1, h2, h3, h4⟩ := h.ex
  exact ⟨⟨mb, bl, sv, h1.below hb', h2, h3, h4.trans (hb'.mono h4.size)⟩⟩
theorem len_count {S : List Sr} {l : Sr} (h : l ∈ S) : l.pts.length ≤ countS S := by
  induction S with
  | nil => cases h
  | cons a r ih =>
    simp only [countS, List.map_cons, List.sum_cons] at ih ⊢
    rcases List.mem_cons.1 h with rfl | h'
    · omega
    · have := ih h'
      omega
theorem well_nil : Well [] := ⟨List.Pairwise.nil, fun _ h => (nomatch h), fun _ h => (nomatch h), fun _ h => (nomatch h), fun _ h => (nomatch h)⟩
theorem hd_new (w wr : World) (hb : Below w.heap.size w wr) :
    Calls Tryd.prog 19 #[] wr fun e w' => ∃ h, e = .returned (.pointer (some ⟨h, 0, none⟩)) ∧ HdSt w w' h [] ∧ Below wr.heap.size wr w' := by
  refine (hNew_any wr).mono ?_
  rintro e w' ⟨h, mb, rfl, h1, h2, h3, h4⟩
  refine ⟨h, rfl, ⟨⟨mb, _, _, h1, fun x hx => ?_, well_nil, hb.trans (h2.mono hb.size)⟩⟩, h2⟩
  rcases mem_foot hx with rfl | ⟨l, hl, _⟩ | ⟨l, hl, _⟩
  · exact Nat.le_trans hb.size h4
  · cases hl
  · cases hl
theorem addC_zero {S : List Sr} (hS : S.Pairwise fun a b => a.key < b.key) {k : List UInt8} {t : Int} (h : addC S k t = 0) : readC k = 0 ∧ -1099511627776 ≤ t ∧ t ≤ 1099511627776 ∧ (∀ l, l ∈ S → l.key = k → l.last < t) ∧ (known S k = true ∨ S.length < 60) := by
  unfold addC at h
  have h0 := readC_nonneg k
  by_cases c1 : 0 < readC k
  · rw [if_pos c1] at h; omega
  · rw [if_neg c1] at h
    by_cases c2 : t < -1099511627776 ∨ 1099511627776 < t
    · rw [if_pos c2] at h; omega
    · rw [if_neg c2] at h
      by_cases c3 : oldB S k t = true
      · rw [if_pos c3] at h; omega
      · rw [if_neg c3] at h
        by_cases c4 : known S k = false ∧ 60 ≤ S.length
        · rw [if_pos c4] at h; omega
        · refine ⟨by omega, by omega, by omega, fun l hl hk => ?_, ?_⟩
          · rw [oldB_some hS hl hk] at c3
            simpa using c3
          · cases hkn : known S k with
            | true => exact .inl rfl
            | false => exact .inr (Nat.lt_of_not_le fun hle => c4 ⟨hkn, hle⟩)
theorem hd_add {B : Nat} {ea : Nat → Addr} (w : World) (E : EnvH B ea w) (hB : B ≤ w.heap.size) (wr : World) (hb : Nat) (S : List Sr) (h : HdSt w wr hb S) (hn : S.length ≤ 900) (hc : countS S ≤ 900) (s : ByteArray) (hs : s.size ≤ 1000) (t : Int) (u : Nat) (hu : u < 18446744073709551616) :
    Calls Tryd.prog 20 #[.pointer (some ⟨hb, 0, none⟩), .string s, .agg #[.int .i64 t, .int .u64 (u : Int)]] wr fun e w' => ∃ v, e = .returned v ∧ FaultV ea w' v (addC S s.data.toList t) (addA s.data.toList) ∧ (0 < addC S s.data.toList t → HdSt w w' hb S ∧ Below wr.heap.size wr w') ∧ (addC S s.data.toList t = 0 → HdSt w w' hb (addS S s.data.toList (t, u))) := by
  obtain ⟨mb, bl, sv, h1, h2, h3, h4⟩ := h.ex
  have hwr := h4.size
  refine (hAdd_any wr (E.below h4 hB) (Nat.le_trans hB hwr) hb mb S bl sv h1 (fun x hx => Nat.le_trans hB (h2 x hx)) h3.sorted hn (fun l hl => Nat.le_trans (len_count hl) hc) s hs t u).mono ?_
  rintro e w' ⟨v, rfl, hf, hpos, hz⟩
  refine ⟨v, rfl, hf, fun hp => ⟨⟨⟨mb, bl, sv, h1.below (hpos hp), h2, h3, h4.trans ((hpos hp).mono hwr)⟩⟩, hpos hp⟩, fun h0 => ?_⟩
  obtain ⟨bl', sv', q1, q2, q3⟩ := hz h0
  obtain ⟨_, a1, a2, a3, _⟩ := addC_zero h3.sorted h0
  refine ⟨⟨mb, bl', sv', q1, fun x hx => ?_, h3.add ⟨a1, a2, hu⟩ a3, h4.trans (q2.below hwr h2)⟩⟩
  rcases q3 x hx with h5 | h5
  · exact h2 x h5
  · exact Nat.le_trans hwr h5
theorem hd_count (w wr : World) (hb : Nat) (S : List Sr) (h : HdSt w wr hb S) (hc : countS S ≤ 100000) :
    Calls Tryd.prog 24 #[.pointer (some ⟨hb, 0, none⟩)] wr fun e w' => e = .returned (.int .i64 (countS S : Int)) ∧ Below wr.heap.size wr w' := by
  obtain ⟨mb, bl, sv, h1, h2, h3, h4⟩ := h.ex
  exact hCount_any wr hb mb S bl sv h1 h3.sorted hc
theorem hd_series (w wr : World) (hb : Nat) (S : List Sr) (h : HdSt w wr hb S) (hn : S.length ≤ 1000) :
    Calls Tryd.prog 25 #[.pointer (some ⟨hb, 0, none⟩)] wr fun e w' => ∃ v, e = .returned v ∧ Below wr.heap.size wr w' ∧ w'.ownsRow wr.heap.size 9 1 v (seriesS S).length ((seriesS S).map encStr) := by
  obtain ⟨mb, bl, sv, h1, h2, h3, h4⟩ := h.ex
  exact hSeries_any wr hb mb S bl sv h1 h3.sorted hn
theorem hd_points (w wr : World) (hb : Nat) (S : List Sr) (h : HdSt w wr hb S) (hc : countS S ≤ 1000) (s : ByteArray) (hs : s.size ≤ 1000) (x y : Int) :
    Calls Tryd.prog 26 #[.pointer (some ⟨hb, 0, none⟩), .string s, .int .i64 x, .int .i64 y] wr fun e w' => ∃ v, e = .returned v ∧ w'.ownsRow wr.heap.size 55 2 v (betweenL x y (ptsOf S s.data.toList)).length (pairCells (betweenL x y (ptsOf S s.data.toList))) ∧ Below wr.heap.size wr w' := by
  obtain ⟨mb, bl, sv, h1, h2, h3, h4⟩ := h.ex
  exact hPoints_any wr hb mb S bl sv h1 h3.sorted (fun l hl => Nat.le_trans (len_count hl) hc) s hs x y
theorem hd_cut {B : Nat} {ea : Nat → Addr} (w : World) (E : EnvH B ea w) (hB : B ≤ w.heap.size) (wr : World) (hb : Nat) (S : List Sr) (h : HdSt w wr hb S) (hn : S.length ≤ 1000) (hc : countS S ≤ 1000) (t : Int) :
    Calls Tryd.prog 23 #[.pointer (some ⟨hb, 0, none⟩), .int .i64 t] wr fun e w' => HdSt w w' hb (cutS t S) ∧
      ((rowsS t S = [] ∧ e = .returned (.tuple #[.slice none 0 0, .iface 197 (.pointer (some (ea 4)))])) ∨ (rowsS t S ≠ [] ∧ ∃ r xs, e = .returned (.tuple #[r, .nilIface]) ∧ w'.ownsRow wr.heap.size 70 2 r (rowsS t S).length xs ∧ RowsC w' wr.heap.size xs (rowsS t S))) := by
  obtain ⟨mb, bl, sv, h1, h2, h3, h4⟩ := h.ex
  have hwr := h4.size
  have hE := E.below h4 hB
  refine (hCut_any wr (ea 4) hE.c4 hb mb S bl sv h1 (fun hx => ?_) h3 hn (fun l hl => Nat.le_trans (len_count hl) hc) t).mono ?_
  · have := h2 _ hx
    have := E.low 1 (by simp)
    omega
  · rintro e w' ⟨sv', q1, q2, q3, q4⟩
    refine ⟨⟨⟨mb, bl, sv', q1, fun x hx => ?_, h3.cut t, h4.trans (q3.below hwr h2)⟩⟩, q4⟩
    rcases q2 x hx with h5 | h5
    · exact h2 x h5
    · exact Nat.le_trans hwr h5
end Go.Proofs.YtfanagohfimnkaaDoor
