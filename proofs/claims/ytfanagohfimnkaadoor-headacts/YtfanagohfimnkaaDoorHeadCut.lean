/- head's Cut by its contract. -/
import Derived.Test.YtfanagohfimnkaaDoorHeadCutL
import Derived.Test.YtfanagohfimnkaaDoorMdAtGroup
import Derived.Deep.QuietTactic
import Derived.BigQuiet
namespace Go.Proofs.YtfanagohfimnkaaDoor
open Go.RowKit Go.Maps HeadMath LabMath PtMath

/-- On the way through Cut: so many series are cut. -/
structure CutMid (w wr : World) (hb mb : Nat) (S : List Sr) (bl : List UInt8 → Nat) (sv : List UInt8 → Value) (t : Int) (vn r : Value) (ss : List (List UInt8)) (j : Nat) (svj : List UInt8 → Value) (xs : List Value) : Prop where
  head : HeadAt wr hb mb (cutJ t (ss.take j) S) bl svj
  sub : ∀ x, x ∈ foot mb (cutJ t (ss.take j) S) bl svj → x ∈ foot mb S bl sv ∨ w.heap.size ≤ x
  kept : Kept (foot mb S bl sv) w wr
  names : wr.ownsRow w.heap.size 9 1 vn ss.length (ss.map encStr)
  row : wr.ownsRow w.heap.size 70 2 r (rowsJ t S (ss.take j)).length xs
  pts : RowsC wr w.heap.size xs (rowsJ t S (ss.take j))
  nil : rowsJ t S (ss.take j) = [] → r = .slice none 0 0
/-- What Cut leaves. -/
def CutOut (aN : Addr) (w w' : World) (hb mb : Nat) (S : List Sr) (bl : List UInt8 → Nat) (sv : List UInt8 → Value) (t : Int) (e : Ending) : Prop :=
  ∃ sv', HeadAt w' hb mb (cutS t S) bl sv' ∧ (∀ x, x ∈ foot mb (cutS t S) bl sv' → x ∈ foot mb S bl sv ∨ w.heap.size ≤ x) ∧ Kept (foot mb S bl sv) w w' ∧
    ((rowsS t S = [] ∧ e = .returned (.tuple #[.slice none 0 0, .iface 197 (.pointer (some aN))])) ∨
      (rowsS t S ≠ [] ∧ ∃ r xs, e = .returned (.tuple #[r, .nilIface]) ∧ w'.ownsRow w.heap.size 70 2 r (rowsS t S).length xs ∧ RowsC w' w.heap.size xs (rowsS t S)))
theorem take_succ {α : Type} {l : List α} {j : Nat} (h : j < l.length) : l.take (j + 1) = l.take j ++ [l[j]] := by rw [List.take_succ_eq_append_getElem h]
theorem not_taken {l : List (List UInt8)} (hn : l.Nodup) {j : Nat} (h : j < l.length) : l[j] ∉ l.take j := fun hm => by
  obtain ⟨i, hi, e⟩ := List.mem_iff_getElem.1 hm
  rw [List.getElem_take] at e
  have hij : i < j := by simp at hi; omega
  exact absurd e (List.pairwise_iff_getElem.1 hn i j (by omega) h hij)
theorem enc_back (k : List UInt8) : (⟨k.toArray⟩ : ByteArray).data.toList = k := by simp
/-- A line is cut; its row is told, or there is none. -/
theorem CutMid.step {w wr w2 : World} {hb mb : Nat} {S : List Sr} {bl : List UInt8 → Nat} {sv : List UInt8 → Value} {t : Int} {vn r : Value} {ss : List (List UInt8)} {j : Nat} {svj : List UInt8 → Value} {xs : List Value} (h : CutMid w wr hb mb S bl sv t vn r ss j svj xs) (hS : S.Pairwise fun a b => a.key < b.key) (hss : ss = seriesS S) (hj : j < ss.length)
    {l : Sr} (hl : l ∈ S) (hlk : l.key = ss[j]) {v1 v2 : Value} (hk : Kept [bl l.key] wr w2) (hline : w2.heap[bl l.key]? = some (.cells #[v2, .int .i64 l.last] 103 (0, 0))) (hr1 : w2.ownsRow wr.heap.size 55 2 v1 (goneP t l.pts).length (pairCells (goneP t l.pts))) (hr2 : w2.ownsRow wr.heap.size 55 2 v2 (leftP t l.pts).length (pairCells (leftP t l.pts))) (hnil : leftP t l.pts = [] → v2 = .slice none 0 0) :
    ∃ svk, HeadAt w2 hb mb (cutJ t (ss.take (j + 1)) S) bl svk ∧ (∀ x, x ∈ foot mb (cutJ t (ss.take (j + 1)) S) bl svk → x ∈ foot mb S bl sv ∨ w.heap.size ≤ x) ∧ Kept (foot mb S bl sv) w w2 ∧ w2.ownsRow w.heap.size 9 1 vn ss.length (ss.map encStr) ∧ w2.ownsRow w.heap.size 70 2 r (rowsJ t S (ss.take j)).length xs ∧ RowsC w2 w.heap.size xs (rowsJ t S (ss.take j)) ∧
      w2.ownsRow w.heap.size 55 2 v1 (goneP t (ptsOf S (ss[j]))).length (pairCells (goneP t (ptsOf S (ss[j])))) := by
  have hnt : ss[j] ∉ ss.take j := not_taken (by rw [hss]; exact nodup_seriesS hS) hj
  have hlJ : l ∈ cutJ t (ss.take j) S := mem_cutJ hl (by rw [hlk]; exact hnt)
  have hl0 := h.head.line l hlJ
  obtain ⟨q1, q2⟩ := h.head.cutline (sorted_cutJ t _ hS) hlJ hk hline hr2 hnil
  have he : (cutJ t (ss.take j) S).map (fun x => if x.key = l.key then cutl t x else x) = cutJ t (ss.take (j + 1)) S := by rw [take_succ hj, cutJ_snoc _ _ _ hnt, hlk]
  rw [he] at q1 q2
  have hww : w.heap.size ≤ wr.heap.size := h.kept.size
  refine ⟨_, q1, fun x hx => ?_, h.kept.trans hk (fun x hx => ?_), own_kept1 h.names hk hl0 (by decide), own_kept1 h.row hk hl0 (by decide), h.pts.map fun v n ys hv => own_kept1 hv hk hl0 (by decide), ?_⟩
  · rcases q2 x hx with h1 | h1
    · exact h.sub x h1
    · exact .inr (Nat.le_trans hww h1)
  · simp at hx
    subst hx
    exact .inl (foot_line hl)
  · rw [ptsOf_some hS hl hlk]
    obtain ⟨a1, a2⟩ := hr1
    refine ⟨a1, ?_⟩
    rcases a2 with a2 | ⟨g, cap, cur, hv, hg, rest⟩
    · exact .inl a2
    · exact .inr ⟨g, cap, cur, hv, Nat.le_trans hww hg, rest⟩

set_option maxRecDepth 1000000 in
set_option maxHeartbeats 2000000 in
theorem hCut_any (w : World) (aN : Addr) (hE : w.cell? ⟨1, 0, none⟩ = some (.iface 197 (.pointer (some aN)))) (hb mb : Nat) (S : List Sr) (bl : List UInt8 → Nat) (sv : List UInt8 → Value) (h : HeadAt w hb mb S bl sv) (hfar : 1 ∉ foot mb S bl sv) (hW : Well S) (hn : S.length ≤ 1000) (hc : ∀ l, l ∈ S → l.pts.length ≤ 1000) (t : Int) :
    Calls Tryd.prog 23 #[.pointer (some ⟨hb, 0, none⟩), .int .i64 t] w fun e w' => CutOut aN w w' hb mb S bl sv t e := by
  have HH : Hid (HeadAt w hb mb S bl sv) := h
  have hEl : 1 < w.heap.size := World.block_lt_of_cell? w ⟨1, 0, none⟩ hE
  have HEN : Hid (∀ z, Kept (foot mb S bl sv) w z → z.cell? ⟨1, 0, none⟩ = some (.iface 197 (.pointer (some aN)))) := fun z hz => (World.cell?_of_block (hz.block _ hEl hfar)).trans hE
  have HSE := (show Hid _ from hSeries_any w hb mb S bl sv h hW.sorted hn)
  have HW := (show Hid _ from hW)
  have HC := (show Hid _ from hc)
  obtain ⟨ss, hss⟩ : ∃ ss, ss = seriesS S := ⟨_, rfl⟩
  have HSS := (show Hid _ from hss)
  have hsl : ss.length ≤ 1000 := by rw [hss, seriesS, List.length_map]; exact Nat.le_trans (List.length_filter_le ..) hn
  rw [← hss] at HSE
  clear h hE hfar hW hc hss hEl
  go_enter Tryd.func23, Tryd.ntmps23
  go_wp2_with fail
  refine Calls.mono HSE.out ?_
  rintro e w1 ⟨vn, rfl, hb1, hown1⟩
  obtain ⟨an, cn, hvn⟩ : ∃ an cn, vn = .slice an ss.length cn := by
    rcases hown1.2 with ⟨h1, h2⟩ | ⟨g, cap, cur, h1, _⟩
    · exact ⟨none, 0, by rw [h2]; exact h1⟩
    · exact ⟨_, _, h1⟩
  subst hvn
  have H0 : Hid (CutMid w w1 hb mb S bl sv t (.slice an ss.length cn) (.slice none 0 0) ss 0 sv []) := by
    refine ⟨by rw [List.take_zero, cutJ_nil]; exact HH.out.below hb1, fun x hx => .inl (by rw [List.take_zero, cutJ_nil] at hx; exact hx), Kept.of_below hb1, hown1, ?_, ?_, fun _ => rfl⟩
    · rw [List.take_zero]; exact ⟨rfl, .inl ⟨rfl, rfl⟩⟩
    · rw [List.take_zero]; exact trivial
  clear hb1 hown1 HSE
  obtain ⟨iR, hI, hI0, hI1, hI2⟩ := info_parts Tryd.infoARow
  have HII := (show Hid _ from hI)
  clear hI
  obtain ⟨nn, hnn⟩ : ∃ nn, nn = ss.length := ⟨_, rfl⟩
  have HNN := (show Hid _ from hnn)
  rw [← hnn] at H0 hsl ⊢
  clear hnn
  dsimp only
  go_wp2_with fail
  go_loopw [6, 13] (fun r i wr => ∃ (j : Nat) (svj : List UInt8 → Value) (xs : List Value), i = .int .i64 (j : Int) ∧ j ≤ nn ∧ CutMid w wr hb mb S bl sv t (.slice an nn cn) r ss j svj xs) (fun _ i _ => nn - (intOf i).toNat)
  case atStart => exact ⟨0, sv, [], rfl, Nat.zero_le _, H0.out⟩
  case round =>
    obtain ⟨j, svj, xs, rfl, hj, hmid⟩ := hrel
    have HM := (show Hid _ from hmid)
    clear hmid H0
    by_cases hjn : j < nn
    · have hj' : j < ss.length := by rw [← HNN.out]; exact hjn
      obtain ⟨k, hk⟩ : ∃ k, k = ss[j] := ⟨_, rfl⟩
      have hks : k ∈ seriesS S := by rw [← HSS.out, hk]; exact List.getElem_mem ..
      obtain ⟨l, hl, hlk, _⟩ := mem_seriesS.1 hks
      have hnt : ss[j] ∉ ss.take j := not_taken (by rw [HSS.out]; exact nodup_seriesS HW.out.sorted) hj'
      have hlJ : l ∈ cutJ t (ss.take j) S := mem_cutJ hl (by rw [hlk, hk]; exact hnt)
      have hkl : k.length ≤ 1000 := by rw [← hlk]; exact HM.out.head.len l hlJ
      have hcn : an = none ∨ ∃ g, an = some ⟨g, 0, none⟩ ∧ wr.cell? ⟨g, j, none⟩ = some (.string ⟨k.toArray⟩) := by
        rcases HM.out.names.2 with ⟨h1, _⟩ | ⟨g, cap, cur, h1, _, hh, _, _, _, h4⟩
        · injection h1 with h1; exact .inl h1
        · injection h1 with h1
          refine .inr ⟨g, h1, ?_⟩
          have : cur[j]? = (ss.map encStr)[j]? := by rw [← h4, List.getElem?_take_of_lt (by omega)]; simp
          rw [List.getElem?_map, List.getElem?_eq_getElem hj', ← hk] at this
          simp [World.cell?, hh, this, encStr]
      have hcs : ∃ g, an = some ⟨g, 0, none⟩ ∧ wr.cell? ⟨g, j, none⟩ = some (.string ⟨k.toArray⟩) := by
        rcases hcn with h1 | h1
        · rcases HM.out.names.2 with ⟨_, h2⟩ | ⟨g, _, _, h2, _⟩
          · omega
          · injection h2 with h2; rw [h1] at h2; cases h2
        · exact h1
      obtain ⟨g, rfl, cn0⟩ := hcs
      have hlook : (Instr.lookup 98 (.map (some mb)) (.string ⟨k.toArray⟩) false).run Tryd.prog wr = .ok (.pointer (some ⟨bl l.key, 0, none⟩)) wr := by
        rcases HM.out.head.look ⟨k.toArray⟩ (by show k.toArray.size ≤ 1000; simpa using hkl) with ⟨h1, _⟩ | ⟨l', _, h2, h3⟩
        · rw [enc_back] at h1
          rw [known_iff.2 ⟨l, hlJ, hlk⟩] at h1
          cases h1
        · rw [enc_back, ← hlk] at h2
          rw [h2] at h3
          exact h3
      have c0 := HM.out.head.cell
      have HLC := (show Hid _ from lineCut_any wr (bl l.key) (svj l.key) l.last t l.pts (HM.out.head.line l hlJ) (HM.out.head.row l hlJ) (HM.out.head.nil l hlJ) (HC.out l hl) (HW.out.rise l hl))
      have hj0 : (0 : Int) ≤ (j : Int) := by omega
      have hj1 : (j : Int) < (nn : Int) := by omega
      have HLK : Hid (l.key = ss[j]) := hlk.trans hk
      have HLM := (show Hid _ from hl)
      have HK := (show Hid _ from hk)
      clear hcn hks hnt hlJ hkl hlk hk hl
      go_wp2_with fail
      refine Calls.mono HLC.out ?_
      rintro e w2 ⟨v1, v2, rfl, hk2, hln2, ho1, ho2, _, hnl2⟩
      obtain ⟨svk, q1, q2, q3, q4, q5, q6, q7⟩ := HM.out.step HW.out.sorted HSS.out hj' HLM.out HLK.out hk2 hln2 ho1 ho2 hnl2
      obtain ⟨gp, hgp⟩ : ∃ gp, gp = goneP t (ptsOf S (ss[j])) := ⟨_, rfl⟩
      rw [← hgp] at q7
      have HRS : Hid (rowsJ t S (ss.take (j + 1)) = rowsJ t S (ss.take j) ++ if gp.isEmpty = true then [] else [(ss[j], gp)]) := by show _ = _; rw [take_succ hj', rowsJ_snoc, hgp]
      obtain ⟨a1, cc1, hv1, _⟩ := own_pairs q7
      obtain ⟨n1, hn1⟩ : ∃ n1, n1 = gp.length := ⟨_, rfl⟩
      rw [← hn1] at hv1
      subst hv1
      have HQ := (show Hid _ from And.intro q1 (And.intro q2 (And.intro q3 (And.intro q4 (And.intro q5 (And.intro q6 q7))))))
      have HN1 := (show Hid _ from hn1)
      have hw2 : w.heap.size ≤ w2.heap.size := q3.size
      clear q1 q2 q3 q4 q5 q6 q7 hk2 hln2 ho1 ho2 hnl2 hgp hn1 HLC
      dsimp only
      by_cases hz : n1 = 0
      · subst hz
        have HE0 : Hid (rowsJ t S (ss.take (j + 1)) = rowsJ t S (ss.take j)) := by
          show _ = _
          rw [HRS.out, List.eq_nil_of_length_eq_zero HN1.out.symm]
          simp
        go_wp2
        go_roundw
        case rel => exact ⟨j + 1, svk, xs, by go_num, by omega, ⟨HQ.out.1, HQ.out.2.1, HQ.out.2.2.1, HQ.out.2.2.2.1, by rw [HE0.out]; exact HQ.out.2.2.2.2.1, by rw [HE0.out]; exact HQ.out.2.2.2.2.2.1, by rw [HE0.out]; exact HM.out.nil⟩⟩
        case measure => simp [intOf] <;> omega
      · have hp' : decide ((0 : Int) < (n1 : Int)) = true := decide_eq_true (by omega)
        have HE0 : Hid (rowsJ t S (ss.take (j + 1)) = rowsJ t S (ss.take j) ++ [(ss[j], gp)]) := by
          show _ = _
          rw [HRS.out, if_neg]
          intro e
          have := HN1.out
          rw [List.isEmpty_iff.1 e] at this
          exact hz this
        obtain ⟨rn, hrn⟩ : ∃ rn, rn = (rowsJ t S (ss.take j)).length := ⟨_, rfl⟩
        have hrl : rn ≤ 1000 := by
          rw [hrn, rowsJ]
          refine Nat.le_trans (List.length_filter_le ..) ?_
          rw [List.length_map, List.length_take]
          omega
        have HRN := (show Hid _ from hrn)
        have HRO : Hid (w2.ownsRow w.heap.size 70 2 u6 rn xs) := by rw [hrn]; exact HQ.out.2.2.2.2.1
        have HRA : Hid ((w2.alloc (.cells #[.string ⟨k.toArray⟩, .slice a1 n1 cc1] 70)).ownsRow w.heap.size 70 2 u6 rn xs) := HRO.out.alloc _
        have HNW : Hid (∀ i z, ([.string ⟨k.toArray⟩, .slice a1 n1 cc1] : List Value)[i]? = some z → (w2.alloc (.cells #[.string ⟨k.toArray⟩, .slice a1 n1 cc1] 70)).cell? ((⟨w2.heap.size, 0, none⟩ : Addr).add i) = some z) := World.news_of_block (heap_alloc_new w2 _)
        have H1C : Hid (∀ z ∈ ([.string ⟨k.toArray⟩, .slice a1 n1 cc1] : List Value), z.oneCell' = true) := by
          intro z hz
          simp at hz
          rcases hz with rfl | rfl <;> rfl
        clear hrn
        go_wp2_with (at_builtin; refine wpList_append_lies _ rfl _ _ 57 rfl w.heap.size 70 iR (.agg #[.string ⟨#[]⟩, .slice none 0 0]) 2 40 Tryd.underlying57 HII.out hI0 hI1 hI2 rfl (by decide) _ _ _ rfl HRA.out ⟨w2.heap.size, 0, none⟩ 1 1 [.string ⟨k.toArray⟩, .slice a1 n1 cc1] rfl rfl HNW.out H1C.out (by omega) (by unfold maxLen; omega) (by omega) (by simp; omega) _ rfl ?_)
        intro g7 cap7 w7 hown7 hgrow7 _ _
        have hal : ∀ v n ys e sz, w2.ownsRow w.heap.size e sz v n ys → e ≠ 70 → w7.ownsRow w.heap.size e sz v n ys := fun v n ys e sz hv hne => own_grown (hv.alloc _) HRA.out hgrow7 hne
        have hha : HeadAt (w2.alloc (.cells #[.string ⟨k.toArray⟩, .slice a1 n1 cc1] 70)) hb mb (cutJ t (ss.take (j + 1)) S) bl svk := HQ.out.1.below ((Below.refl _ _).alloc (Nat.le_refl _) _)
        have HFIN : Hid (CutMid w w7 hb mb S bl sv t (.slice (some ⟨g, 0, none⟩) nn cn) (.slice (some ⟨g7, 0, none⟩) (rn + 1) cap7) ss (j + 1) svk (xs ++ [.string ⟨k.toArray⟩, .slice a1 n1 cc1])) := by
          refine ⟨hha.grown HRA.out hgrow7, HQ.out.2.1, ?_, hal _ _ _ _ _ HQ.out.2.2.2.1 (by decide), ?_, ?_, ?_⟩
          · refine (HQ.out.2.2.1.alloc _).trans (Kept.grown (S := u6.ownBlock.toList) hgrow7 (fun q hq => by rw [hq]; simp)) (fun x hx => .inr ?_)
            simp at hx
            exact (own_blk HRO.out hx).1
          · rw [HE0.out, List.length_append, ← HRN.out]
            exact hown7
          · rw [HE0.out]
            have hq := (HQ.out.2.2.2.2.2.1).map (w' := w7) fun v n ys hv => hal v n ys 55 2 hv (by decide)
            have hr := hal _ _ _ _ _ HQ.out.2.2.2.2.2.2 (by decide)
            rw [HK.out]
            exact RowsC.snoc (row := (ss[j], gp)) hr hq
          · intro e
            rw [HE0.out] at e
            simp at e
        clear hown7 hgrow7 hal hha
        go_wp2
        go_roundw
        case rel => exact ⟨j + 1, svk, _, by go_num, by omega, HFIN.out⟩
        case measure => simp [intOf] <;> omega
    · obtain rfl : j = nn := by omega
      have hta : ss.take j = ss := by rw [HNN.out]; exact List.take_length
      have HC1 : Hid (cutJ t (ss.take j) S = cutS t S) := by rw [hta, HSS.out]; exact cutJ_all t S
      have HR1 : Hid (rowsJ t S (ss.take j) = rowsS t S) := by rw [hta, HSS.out]; exact rowsJ_all t HW.out.sorted
      have e0 := HEN.out wr HM.out.kept
      have hrow := HM.out.row
      rw [HR1.out] at hrow
      have HROW := (show Hid _ from hrow)
      clear hta
      by_cases hz : rowsS t S = []
      · have hu := HM.out.nil (by rw [HR1.out]; exact hz)
        subst hu
        have HZ := (show Hid _ from hz)
        clear hz hrow
        go_wp2_with fail
        go_quiet (fail)
        go_wp2
        go_ret2
        refine ⟨svj, by have := HM.out.head; rw [HC1.out] at this; exact this.below (below_draws (Below.refl _ _) _), by have := HM.out.sub; rw [HC1.out] at this; exact this, ⟨HM.out.kept.os, HM.out.kept.tape, HM.out.kept.output, HM.out.kept.size, HM.out.kept.block⟩, .inl ⟨HZ.out, by rfl⟩⟩
      · obtain ⟨ar, nr, cr, hur, hnr⟩ : ∃ ar nr cr, u6 = .slice ar nr cr ∧ nr ≠ 0 := by
          have hne : (rowsS t S).length ≠ 0 := fun e => hz (List.eq_nil_of_length_eq_zero e)
          rcases hrow.2 with ⟨_, h2⟩ | ⟨g, cap, cur, h1, _⟩
          · exact absurd h2 hne
          · exact ⟨_, _, _, h1, hne⟩
        subst hur
        have HZ := (show Hid _ from hz)
        clear hz hrow
        go_wp2
        go_ret2
        refine ⟨svj, by have := HM.out.head; rw [HC1.out] at this; exact this, by have := HM.out.sub; rw [HC1.out] at this; exact this, HM.out.kept, .inr ⟨HZ.out, _, xs, by rfl, HROW.out, by have := HM.out.pts; rw [HR1.out] at this; exact this⟩⟩
end Go.Proofs.YtfanagohfimnkaaDoor
