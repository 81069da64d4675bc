/- chunk's Merge by its contract. -/
import Derived.Test.YtdlceolmpcjjiaaGreatDoorPtMerge
import Derived.Test.YtdlceolmpcjjiaaGreatDoorRefReadGroup
import Derived.Deep.RegionHeld3
namespace Go.Proofs.YtdlceolmpcjjiaaGreatDoor
open Go.RowKit PtMath

theorem ptsL_tail {w : World} {b o : Nat} {p : Int × Nat} {r : List (Int × Nat)} (h : PtsL w (some ⟨b, o, none⟩) (p :: r)) : PtsL w (some ⟨b, o + 2, none⟩) r := by
  rcases h with h | ⟨b', o', e, hc⟩
  · cases h
  · injection e with e
    injection e with e1 e2
    subst e1 e2
    refine .inr ⟨b, o + 2, rfl, fun k hk => ?_⟩
    have := hc (k + 1) (by simpa using hk)
    rw [show o + (k + 1) * 2 = o + 2 + k * 2 by omega] at this
    exact this
/-- A list of points is appended to one of the call's own. -/
theorem wpList_append_pts {w wr : World} {ops : Array Oper} {rest : List Oper} {o : Oper} {a : Act} {Q : Exit → Act → World → Prop} (hgd : o.guard = none) (s x : Operand)
    (ho : o.op = .call { callee := .builtin .append, args := #[s, x], argTypes := #[48, 48] })
    (v : Value) (out : List (Int × Nat)) (hs : a.eval s = v) (hout : OutAt w wr v out) (y : Option Addr) (n cy : Nat) (l : List (Int × Nat)) (hn : l.length = n) (hx : a.eval x = .slice y n cy) (hP : PtsL wr y l) (hlen : out.length + l.length ≤ 100000)
    (h : ∀ v' w1, OutAt w w1 v' (out ++ l) → wpList Tryz.prog ops Q rest (a.put o.dst v') w1) : wpList Tryz.prog ops Q (o :: rest) a wr := by
  obtain ⟨i0, hi, hz0, hz1, hz2⟩ := info_parts Tryz.infoPt
  by_cases h0 : l = []
  · subst h0
    have : n = 0 := hn.symm
    subst this
    refine wpList_append_zero hgd s x 48 ho w.heap.size 71 i0 2 Tryz.underlying48 hi v out.length (pairCells out) hs hout.own y cy hx ?_
    exact h v wr (by rw [List.append_nil]; exact hout)
  · rcases hP with h1 | ⟨b, p, rfl, hc⟩
    · exact absurd h1 h0
    · have hl0 : 0 < n := by
        rw [← hn]
        cases l with
        | nil => exact absurd rfl h0
        | cons => simp
      have hwl := hout.bel.size
      refine wpList_append_lies _ hgd s x 48 ho w.heap.size 71 i0 (.agg #[.int .i64 0, .int .u64 0]) 2 16 Tryz.underlying48 hi hz0 hz1 hz2 rfl (by decide) v out.length (pairCells out) hs hout.own ⟨b, p, none⟩ n cy (pairCells l) hx (by rw [length_pairCells, hn]) (news_pts hc) (one_pairs l) hl0 (by unfold maxLen; omega) (by omega) hwl wr.heap.size rfl ?_
      intro g1 cap1 w1 hown1 hgrow hat hlt1
      refine h _ w1 ⟨?_, ?_⟩
      · rw [List.length_append, hn, pairCells_append]
        exact hown1
      · refine hout.bel.trans ⟨hgrow.os, hgrow.tape, hgrow.output, hgrow.size, fun j hj => hgrow.block j (Nat.lt_of_lt_of_le hj hwl) (fun e => ?_)⟩
        rcases hout.own.2 with ⟨hv0, _⟩ | ⟨g, cap, cur, hv0, hg, _⟩
        · rw [hv0] at e; simp [Value.ownBlock] at e
        · rw [hv0] at e; simp [Value.ownBlock] at e; omega
def slen : Value → Nat
  | .slice _ n _ => n
  | _ => 0

set_option maxRecDepth 1000000 in
set_option maxHeartbeats 4000000 in
theorem cmerge_any (w : World) (la lb : Option Addr) (ca cb : Nat) (a b : List (Int × Nat)) (hA : PtsL w la a) (hB : PtsL w lb b) (ha : a.length ≤ 500) (hb : b.length ≤ 500) (hca : a.length ≤ ca) (hcb : b.length ≤ cb) :
    Calls Tryz.prog 27 #[.slice la a.length ca, .slice lb b.length cb] w fun e w' => ∃ v, e = .returned v ∧ OutAt w w' v (mergeL a b) := by
  obtain ⟨n, hnn⟩ : ∃ n, a.length = n := ⟨_, rfl⟩
  obtain ⟨m, hmm⟩ : ∃ m, b.length = m := ⟨_, rfl⟩
  rw [hnn, hmm]
  have HST : Hid (∃ (a' b' out : List (Int × Nat)) (x y : Option Addr) (cx cy : Nat) (v : Value), Value.slice la n ca = .slice x a'.length cx ∧ a'.length ≤ cx ∧ Value.slice lb m cb = .slice y b'.length cy ∧ b'.length ≤ cy ∧ PtsL w x a' ∧ PtsL w y b' ∧ out ++ mergeL a' b' = mergeL a b ∧ out.length + a'.length + b'.length ≤ 2000 ∧ Value.slice none 0 0 = v ∧ OutAt w w v out) :=
    ⟨a, b, [], la, lb, ca, cb, _, by rw [hnn], hca, by rw [hmm], hcb, hA, hB, rfl, by simp; omega, rfl, ⟨⟨rfl, .inl ⟨rfl, rfl⟩⟩, Below.refl _ _⟩⟩
  clear hnn hmm hca hcb hA hB ha hb
  go_enter Tryz.func27, Tryz.ntmps27
  go_wp2_with fail
  go_loopw [0, 1, 5] (fun va vb sl wr => ∃ (a' b' out : List (Int × Nat)) (x y : Option Addr) (cx cy : Nat) (v : Value), va = .slice x a'.length cx ∧ a'.length ≤ cx ∧ vb = .slice y b'.length cy ∧ b'.length ≤ cy ∧ PtsL w x a' ∧ PtsL w y b' ∧ out ++ mergeL a' b' = mergeL a b ∧ out.length + a'.length + b'.length ≤ 2000 ∧ sl = v ∧ OutAt w wr v out) (fun va vb _ _ => slen va + slen vb)
  case atStart => exact HST.out
  case round =>
    obtain ⟨a', b', out, x, y, cx, cy, v, rfl, hcx, rfl, hcy, hPa, hPb, hmg, hlen, hv, hout⟩ := hrel
    have hv' := hv.symm
    subst hv'
    clear HST
    have HOUT := (show Hid _ from hout)
    have HMG := (show Hid _ from hmg)
    have hbr := hout.bel
    have HBR := (show Hid _ from hbr)
    have hwl := hbr.size
    clear hout hmg
    match a', b', hcx, hcy, hPa, hPb, hlen, HMG with
    | [], b', hcx, hcy, hPa, hPb, hlen, HMG =>
      rw [mergeL_nil] at HMG
      obtain ⟨m', hm'⟩ : ∃ m', b'.length = m' := ⟨_, rfl⟩
      rw [hm']
      have HM := (show Hid _ from hm')
      have HPB : Hid (PtsL w y _) := hPb
      have HPA : Hid (PtsL w x _) := hPa
      have HLEN := (show Hid _ from hlen)
      clear hm' hPb hPa hlen hcx hcy hbr
      go_wp2_with (at_builtin; refine wpList_append_pts rfl _ _ rfl _ out rfl HOUT.out x 0 cx [] rfl rfl (.inl rfl) (by have := HLEN.out; simp at this; simp; omega) ?_)
      intro v1 w1 hout1
      have HOUT1 := (show Hid _ from hout1)
      clear hout1
      go_wp2_with (at_builtin; refine wpList_append_pts rfl _ _ rfl _ out rfl HOUT1.out y m' cy b' HM.out rfl (PtsL.below HPB.out HOUT1.out.bel) (by have := HLEN.out; simp at this; omega) ?_)
      intro v2 w2 hout2
      rw [HMG.out] at hout2
      have HOUT2 := (show Hid _ from hout2)
      clear hout2
      go_wp2
      go_ret
      exact ⟨v2, rfl, HOUT2.out⟩
    | p :: r, [], hcx, hcy, hPa, hPb, hlen, HMG =>
      rw [mergeL_end] at HMG
      obtain ⟨m', hm'⟩ : ∃ m', r.length + 1 = m' := ⟨_, rfl⟩
      have hmI : (0 : Int) < (m' : Int) := by omega
      have HM : Hid ((p :: r).length = m') := hm'
      rw [HM.out]
      have HPB : Hid (PtsL w y _) := hPb
      have HPA : Hid (PtsL w x _) := hPa
      have HLEN := (show Hid _ from hlen)
      clear hPb hPa hlen hcx hcy hbr hm'
      go_wp2_with (at_builtin; refine wpList_append_pts rfl _ _ rfl _ out rfl HOUT.out x m' cx (p :: r) HM.out rfl (PtsL.below HPA.out HOUT.out.bel) (by have := HLEN.out; simp at this; simp; omega) ?_)
      intro v1 w1 hout1
      have HOUT1 : Hid (OutAt w w1 v1 (out ++ p :: r)) := hout1
      clear hout1
      go_wp2_with (at_builtin; refine wpList_append_pts rfl _ _ rfl _ (out ++ p :: r) rfl HOUT1.out y 0 cy [] rfl rfl (.inl rfl) (by have := HLEN.out; simp at this; simp; omega) ?_)
      intro v2 w2 hout2
      have HOUT2 : Hid (OutAt w w2 v2 (mergeL a b)) := by
        show OutAt w w2 v2 (mergeL a b)
        rw [← HMG.out]
        simpa using hout2
      clear hout2
      go_wp2
      go_ret
      exact ⟨v2, rfl, HOUT2.out⟩
    | p :: r, q :: s, hcx, hcy, hPa, hPb, hlen, HMG =>
      rcases hPa with h | ⟨ba, oa, rfl, hcA⟩
      · cases h
      rcases hPb with h | ⟨bb, ob, rfl, hcB⟩
      · cases h
      obtain ⟨a0, a1⟩ := hcA 0 (by simp)
      obtain ⟨b0, b1⟩ := hcB 0 (by simp)
      have hal := World.block_lt_of_cell? w ⟨ba, _, none⟩ a0
      have hbl := World.block_lt_of_cell? w ⟨bb, _, none⟩ b0
      rw [← hbr.cell (p := ⟨ba, oa + 0 * 2, none⟩) hal] at a0
      rw [← hbr.cell (p := ⟨ba, oa + 0 * 2 + 1, none⟩) hal] at a1
      rw [← hbr.cell (p := ⟨bb, ob + 0 * 2, none⟩) hbl] at b0
      rw [← hbr.cell (p := ⟨bb, ob + 0 * 2 + 1, none⟩) hbl] at b1
      simp only [Nat.zero_mul, Nat.add_zero, List.getElem_cons_zero] at a0 a1 b0 b1
      have hmc := mergeL_cons p q r s
      have HPA := (show Hid _ from pairCells_snoc out p)
      have HPB := (show Hid _ from pairCells_snoc out q)
      have HTA : Hid (PtsL w (some ⟨ba, oa + 2, none⟩) r) := ptsL_tail (.inr ⟨ba, oa, rfl, hcA⟩)
      have HTB : Hid (PtsL w (some ⟨bb, ob + 2, none⟩) s) := ptsL_tail (.inr ⟨bb, ob, rfl, hcB⟩)
      have HWA : Hid (PtsL w (some ⟨ba, oa, none⟩) (p :: r)) := .inr ⟨ba, oa, rfl, hcA⟩
      have HWB : Hid (PtsL w (some ⟨bb, ob, none⟩) (q :: s)) := .inr ⟨bb, ob, rfl, hcB⟩
      obtain ⟨t, u⟩ := p
      obtain ⟨t', u'⟩ := q
      simp only at a0 a1 b0 b1 hmc HPA HPB
      obtain ⟨n1, hn1⟩ : ∃ n1, r.length = n1 := ⟨_, rfl⟩
      obtain ⟨m1, hm1⟩ : ∃ m1, s.length = m1 := ⟨_, rfl⟩
      have HN1 := (show Hid _ from hn1)
      have HM1 := (show Hid _ from hm1)
      simp only [List.length_cons] at hcx hcy hlen
      rw [hn1] at hcx hlen
      rw [hm1] at hcy hlen
      obtain ⟨k, hkk⟩ : ∃ k, out.length = k := ⟨_, rfl⟩
      have HKK := (show Hid _ from hkk)
      rw [hkk] at hlen
      have HOWN : Hid (wr.ownsRow w.heap.size 71 2 v k (pairCells out)) := by rw [← hkk]; exact HOUT.out.own
      have hla : (Value.slice (some ⟨ba, oa, none⟩) ((t, u) :: r).length cx) = .slice (some ⟨ba, oa, none⟩) (n1 + 1) cx := by rw [List.length_cons, hn1]
      have hlb : (Value.slice (some ⟨bb, ob, none⟩) ((t', u') :: s).length cy) = .slice (some ⟨bb, ob, none⟩) (m1 + 1) cy := by rw [List.length_cons, hm1]
      rw [hla, hlb]
      have hxI : (1 : Int) ≤ (cx : Int) := by omega
      have hyI : (1 : Int) ≤ (cy : Int) := by omega
      have hnI : (0 : Int) < (n1 : Int) + 1 := by omega
      have hn1I : (1 : Int) ≤ (n1 : Int) + 1 := by omega
      have hm1I : (1 : Int) ≤ (m1 : Int) + 1 := by omega
      have hnxI : (n1 : Int) + 1 ≤ (cx : Int) := by omega
      have hmyI : (m1 : Int) + 1 ≤ (cy : Int) := by omega
      have hmI : (0 : Int) < (m1 : Int) + 1 := by omega
      clear hcA hcB hla hlb hkk hn1 hm1 hbr
      obtain ⟨i0, hi, hz0, hz1, hz2⟩ := info_parts Tryz.infoPt
      by_cases hlt : t < t'
      · have d1 : decide (t < t') = true := decide_eq_true hlt
        have hnx : (out ++ [(t, u)]) ++ mergeL r ((t', u') :: s) = mergeL a b := by rw [← HMG.out, hmc, if_pos hlt, List.append_assoc]; rfl
        have HNX := (show Hid _ from hnx)
        clear hnx hmc
        go_wp2_with fail
        go_quiet (fail)
        obtain ⟨wd, hwd⟩ : ∃ wd, wd = wr.drewN nq := ⟨_, rfl⟩
        rw [← hwd]
        have hbd : Below wr.heap.size wr wd := by rw [hwd]; exact ⟨rfl, rfl, rfl, Nat.le_refl _, fun _ _ => rfl⟩
        have e0 : wd.cell? ⟨ba, oa, none⟩ = some (.int .i64 t) := by rw [hwd]; exact a0
        have e1 : wd.cell? ⟨ba, oa + 1, none⟩ = some (.int .u64 (u : Int)) := by rw [hwd]; exact a1
        have HOWND : Hid (wd.ownsRow w.heap.size 71 2 v k (pairCells out)) := by rw [hwd]; exact HOWN.out
        have HBD := (show Hid _ from HBR.out.trans (hbd.mono HBR.out.size))
        have hwdl : w.heap.size ≤ wd.heap.size := HBD.out.size
        have HOWNA : Hid ((wd.alloc (.cells #[.int .i64 t, .int .u64 (u : Int)] 71)).ownsRow w.heap.size 71 2 v k (pairCells out)) := HOWND.out.alloc _
        have hnews : ∀ j z, ([.int .i64 t, .int .u64 (u : Int)] : List Value)[j]? = some z → (wd.alloc (.cells #[.int .i64 t, .int .u64 (u : Int)] 71)).cell? ((⟨wd.heap.size, 0, none⟩ : Addr).add j) = some z := World.news_of_block (heap_alloc_new wd _)
        have HNEWS := (show Hid _ from hnews)
        have h1c : ∀ z ∈ ([.int .i64 t, .int .u64 (u : Int)] : List Value), z.oneCell' = true := by
          intro z hz
          simp at hz
          rcases hz with rfl | rfl <;> rfl
        have H1C := (show Hid _ from h1c)
        clear hnews h1c hwd hbd a0 a1 b0 b1
        rcases Nat.lt_or_ge 1 cx with hc1 | hc1
        · have hcne : cx ≠ 1 := by omega
          go_wp2_with fail
          go_region_held3 (fun w' => w'.cell? ⟨ba, oa, none⟩ = some (.int .i64 t) ∧ w'.cell? ⟨ba, oa + 1, none⟩ = some (.int .u64 (u : Int))) (first | go_keep | trivial) ((refine step_append_lies _ (by rfl) _ _ 48 (by rfl) w.heap.size 71 i0 (.agg #[.int .i64 0, .int .u64 0]) 2 16 Tryz.underlying48 hi hz0 hz1 hz2 (by rfl) (by decide) _ _ _ (by rfl) (by exact HOWNA.out) ⟨wd.heap.size, 0, none⟩ 1 1 [.int .i64 t, .int .u64 (u : Int)] (by rfl) (by rfl) (by exact HNEWS.out) H1C.out (by omega) (by unfold maxLen; omega) (by omega) (by simp; omega) (wd.heap.size + 1) (by simp) ?_; intro g1 cap1 w7 hown7 hgrow hat hlt7; have hk1t := cell_grown (by rfl) HOWND.out hgrow hal e0; have hk1u := cell_grown (by rfl) HOWND.out hgrow hal e1))
          have hb7 := below_grown (by rfl) (by rfl) (by rfl) (by rfl) HBD.out HOWND.out hgrow
          rw [HPA.out] at hown7
          have hle : (out ++ [(t, u)]).length = k + 1 := by rw [List.length_append, HKK.out]; rfl
          have HOUT1 : Hid (OutAt w w7 (.slice (some ⟨g1, 0, none⟩) (k + 1) cap1) (out ++ [(t, u)])) := ⟨by rw [hle]; exact hown7, hb7⟩
          have KLE := (show Hid _ from hle)
          clear hown7 hgrow hat hlt7 hb7 hle hk1t hk1u
          go_wp2
          go_roundw
          case rel => exact ⟨r, (t', u') :: s, out ++ [(t, u)], _, _, _, cy, _, by rw [HN1.out], by rw [HN1.out]; omega, by rw [List.length_cons, HM1.out], by rw [List.length_cons, HM1.out]; omega, HTA.out, HWB.out, HNX.out, by rw [KLE.out, HN1.out, List.length_cons, HM1.out]; omega, rfl, HOUT1.out⟩
          case measure => simp only [slen]; omega
        · have hcx1 : cx = 1 := by omega
          have hn10 : n1 = 0 := by omega
          subst hcx1 hn10
          have hr0 : r = [] := List.eq_nil_of_length_eq_zero HN1.out
          have HR0 := (show Hid _ from hr0)
          clear hr0
          go_wp2_with fail
          go_region_held3 (fun w' => w'.cell? ⟨ba, oa, none⟩ = some (.int .i64 t) ∧ w'.cell? ⟨ba, oa + 1, none⟩ = some (.int .u64 (u : Int))) (first | go_keep | trivial) ((refine step_append_lies _ (by rfl) _ _ 48 (by rfl) w.heap.size 71 i0 (.agg #[.int .i64 0, .int .u64 0]) 2 16 Tryz.underlying48 hi hz0 hz1 hz2 (by rfl) (by decide) _ _ _ (by rfl) (by exact HOWNA.out) ⟨wd.heap.size, 0, none⟩ 1 1 [.int .i64 t, .int .u64 (u : Int)] (by rfl) (by rfl) (by exact HNEWS.out) H1C.out (by omega) (by unfold maxLen; omega) (by omega) (by simp; omega) (wd.heap.size + 1) (by simp) ?_; intro g1 cap1 w7 hown7 hgrow hat hlt7; have hk1t := cell_grown (by rfl) HOWND.out hgrow hal e0; have hk1u := cell_grown (by rfl) HOWND.out hgrow hal e1))
          have hb7 := below_grown (by rfl) (by rfl) (by rfl) (by rfl) HBD.out HOWND.out hgrow
          rw [HPA.out] at hown7
          have hle : (out ++ [(t, u)]).length = k + 1 := by rw [List.length_append, HKK.out]; rfl
          have HOUT1 : Hid (OutAt w w7 (.slice (some ⟨g1, 0, none⟩) (k + 1) cap1) (out ++ [(t, u)])) := ⟨by rw [hle]; exact hown7, hb7⟩
          have KLE := (show Hid _ from hle)
          clear hown7 hgrow hat hlt7 hb7 hle hk1t hk1u
          go_wp2
          go_roundw
          case rel => exact ⟨r, (t', u') :: s, out ++ [(t, u)], _, _, _, cy, _, by rw [HN1.out], by rw [HN1.out]; omega, by rw [List.length_cons, HM1.out], by rw [List.length_cons, HM1.out]; omega, (.inl HR0.out), HWB.out, HNX.out, by rw [KLE.out, HN1.out, List.length_cons, HM1.out]; omega, rfl, HOUT1.out⟩
          case measure => simp only [slen]; omega
      · have d1 : decide (t < t') = false := decide_eq_false hlt
        by_cases hgt : t' < t
        · have d2 : decide (t' < t) = true := decide_eq_true hgt
          have hnx : (out ++ [(t', u')]) ++ mergeL ((t, u) :: r) s = mergeL a b := by rw [← HMG.out, hmc, if_neg hlt, if_pos hgt, List.append_assoc]; rfl
          have HNX := (show Hid _ from hnx)
          clear hnx hmc
          go_wp2_with fail
          go_quiet (fail)
          generalize nq = q1
          go_wp2_with fail
          go_quiet (fail)
          obtain ⟨wd, hwd⟩ : ∃ wd, wd = (wr.drewN q1).drewN nq := ⟨_, rfl⟩
          rw [← hwd]
          have hbd : Below wr.heap.size wr wd := by rw [hwd]; exact ⟨rfl, rfl, rfl, Nat.le_refl _, fun _ _ => rfl⟩
          have e0 : wd.cell? ⟨bb, ob, none⟩ = some (.int .i64 t') := by rw [hwd]; exact b0
          have e1 : wd.cell? ⟨bb, ob + 1, none⟩ = some (.int .u64 (u' : Int)) := by rw [hwd]; exact b1
          have HOWND : Hid (wd.ownsRow w.heap.size 71 2 v k (pairCells out)) := by rw [hwd]; exact HOWN.out
          have HBD := (show Hid _ from HBR.out.trans (hbd.mono HBR.out.size))
          have hwdl : w.heap.size ≤ wd.heap.size := HBD.out.size
          have HOWNA : Hid ((wd.alloc (.cells #[.int .i64 t', .int .u64 (u' : Int)] 71)).ownsRow w.heap.size 71 2 v k (pairCells out)) := HOWND.out.alloc _
          have hnews : ∀ j z, ([.int .i64 t', .int .u64 (u' : Int)] : List Value)[j]? = some z → (wd.alloc (.cells #[.int .i64 t', .int .u64 (u' : Int)] 71)).cell? ((⟨wd.heap.size, 0, none⟩ : Addr).add j) = some z := World.news_of_block (heap_alloc_new wd _)
          have HNEWS := (show Hid _ from hnews)
          have h1c : ∀ z ∈ ([.int .i64 t', .int .u64 (u' : Int)] : List Value), z.oneCell' = true := by
            intro z hz
            simp at hz
            rcases hz with rfl | rfl <;> rfl
          have H1C := (show Hid _ from h1c)
          clear hnews h1c hwd hbd a0 a1 b0 b1
          rcases Nat.lt_or_ge 1 cy with hc1 | hc1
          · have hcne : cy ≠ 1 := by omega
            go_wp2_with fail
            go_region_held3 (fun w' => w'.cell? ⟨bb, ob, none⟩ = some (.int .i64 t') ∧ w'.cell? ⟨bb, ob + 1, none⟩ = some (.int .u64 (u' : Int))) (first | go_keep | trivial) ((refine step_append_lies _ (by rfl) _ _ 48 (by rfl) w.heap.size 71 i0 (.agg #[.int .i64 0, .int .u64 0]) 2 16 Tryz.underlying48 hi hz0 hz1 hz2 (by rfl) (by decide) _ _ _ (by rfl) (by exact HOWNA.out) ⟨wd.heap.size, 0, none⟩ 1 1 [.int .i64 t', .int .u64 (u' : Int)] (by rfl) (by rfl) (by exact HNEWS.out) H1C.out (by omega) (by unfold maxLen; omega) (by omega) (by simp; omega) (wd.heap.size + 1) (by simp) ?_; intro g1 cap1 w7 hown7 hgrow hat hlt7; have hk1t := cell_grown (by rfl) HOWND.out hgrow hbl e0; have hk1u := cell_grown (by rfl) HOWND.out hgrow hbl e1))
            have hb7 := below_grown (by rfl) (by rfl) (by rfl) (by rfl) HBD.out HOWND.out hgrow
            rw [HPB.out] at hown7
            have hle : (out ++ [(t', u')]).length = k + 1 := by rw [List.length_append, HKK.out]; rfl
            have HOUT1 : Hid (OutAt w w7 (.slice (some ⟨g1, 0, none⟩) (k + 1) cap1) (out ++ [(t', u')])) := ⟨by rw [hle]; exact hown7, hb7⟩
            have KLE := (show Hid _ from hle)
            clear hown7 hgrow hat hlt7 hb7 hle hk1t hk1u
            go_wp2
            go_roundw
            case rel => exact ⟨(t, u) :: r, s, out ++ [(t', u')], _, _, cx, _, _, by rw [List.length_cons, HN1.out], by rw [List.length_cons, HN1.out]; omega, by rw [HM1.out], by rw [HM1.out]; omega, HWA.out, HTB.out, HNX.out, by rw [KLE.out, HM1.out, List.length_cons, HN1.out]; omega, rfl, HOUT1.out⟩
            case measure => simp only [slen]; omega
          · have hcy1 : cy = 1 := by omega
            have hm10 : m1 = 0 := by omega
            subst hcy1 hm10
            have hs0 : s = [] := List.eq_nil_of_length_eq_zero HM1.out
            have HS0 := (show Hid _ from hs0)
            clear hs0
            go_wp2_with fail
            go_region_held3 (fun w' => w'.cell? ⟨bb, ob, none⟩ = some (.int .i64 t') ∧ w'.cell? ⟨bb, ob + 1, none⟩ = some (.int .u64 (u' : Int))) (first | go_keep | trivial) ((refine step_append_lies _ (by rfl) _ _ 48 (by rfl) w.heap.size 71 i0 (.agg #[.int .i64 0, .int .u64 0]) 2 16 Tryz.underlying48 hi hz0 hz1 hz2 (by rfl) (by decide) _ _ _ (by rfl) (by exact HOWNA.out) ⟨wd.heap.size, 0, none⟩ 1 1 [.int .i64 t', .int .u64 (u' : Int)] (by rfl) (by rfl) (by exact HNEWS.out) H1C.out (by omega) (by unfold maxLen; omega) (by omega) (by simp; omega) (wd.heap.size + 1) (by simp) ?_; intro g1 cap1 w7 hown7 hgrow hat hlt7; have hk1t := cell_grown (by rfl) HOWND.out hgrow hbl e0; have hk1u := cell_grown (by rfl) HOWND.out hgrow hbl e1))
            have hb7 := below_grown (by rfl) (by rfl) (by rfl) (by rfl) HBD.out HOWND.out hgrow
            rw [HPB.out] at hown7
            have hle : (out ++ [(t', u')]).length = k + 1 := by rw [List.length_append, HKK.out]; rfl
            have HOUT1 : Hid (OutAt w w7 (.slice (some ⟨g1, 0, none⟩) (k + 1) cap1) (out ++ [(t', u')])) := ⟨by rw [hle]; exact hown7, hb7⟩
            have KLE := (show Hid _ from hle)
            clear hown7 hgrow hat hlt7 hb7 hle hk1t hk1u
            go_wp2
            go_roundw
            case rel => exact ⟨(t, u) :: r, s, out ++ [(t', u')], _, _, cx, _, _, by rw [List.length_cons, HN1.out], by rw [List.length_cons, HN1.out]; omega, by rw [HM1.out], by rw [HM1.out]; omega, HWA.out, (.inl HS0.out), HNX.out, by rw [KLE.out, HM1.out, List.length_cons, HN1.out]; omega, rfl, HOUT1.out⟩
            case measure => simp only [slen]; omega
        · have d2 : decide (t' < t) = false := decide_eq_false hgt
          have hnx : out ++ mergeL r ((t', u') :: s) = mergeL a b := by rw [← HMG.out, hmc, if_neg hlt, if_neg hgt]
          have HNX := (show Hid _ from hnx)
          clear hnx hmc
          rcases Nat.lt_or_ge 1 cx with hc1 | hc1
          · have hcne : cx ≠ 1 := by omega
            go_wp2_with fail
            go_quiet (fail)
            generalize nq = q1
            go_wp2_with fail
            go_quiet (fail)
            go_wp2
            go_roundw
            case rel => exact ⟨r, (t', u') :: s, out, _, _, _, cy, _, by rw [HN1.out], by rw [HN1.out]; omega, by rw [List.length_cons, HM1.out], by rw [List.length_cons, HM1.out]; omega, HTA.out, HWB.out, HNX.out, by rw [HKK.out, HN1.out, List.length_cons, HM1.out]; omega, rfl, ⟨by rw [HKK.out]; exact HOWN.out, HBR.out.trans ⟨rfl, rfl, rfl, Nat.le_refl _, fun _ _ => rfl⟩⟩⟩
            case measure => simp only [slen]; omega
          · have hcx1 : cx = 1 := by omega
            have hn10 : n1 = 0 := by omega
            subst hcx1 hn10
            have hr0 : r = [] := List.eq_nil_of_length_eq_zero HN1.out
            have HR0 := (show Hid _ from hr0)
            clear hr0
            go_wp2_with fail
            go_quiet (fail)
            generalize nq = q1
            go_wp2_with fail
            go_quiet (fail)
            go_wp2
            go_roundw
            case rel => exact ⟨r, (t', u') :: s, out, _, _, _, cy, _, by rw [HN1.out], by rw [HN1.out]; omega, by rw [List.length_cons, HM1.out], by rw [List.length_cons, HM1.out]; omega, (.inl HR0.out), HWB.out, HNX.out, by rw [HKK.out, HN1.out, List.length_cons, HM1.out]; omega, rfl, ⟨by rw [HKK.out]; exact HOWN.out, HBR.out.trans ⟨rfl, rfl, rfl, Nat.le_refl _, fun _ _ => rfl⟩⟩⟩
            case measure => simp only [slen]; omega
end Go.Proofs.YtdlceolmpcjjiaaGreatDoor
