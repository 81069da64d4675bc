/- The document's MergeOf, the statements' OwnPoints, by contracts. -/
import Derived.Test.YtgdflopgdlpimaaDoorPtListGroup
import Derived.Laws.OwnMore
import Derived.Deep.DeepCutAuto
namespace Go.Proofs.YtgdflopgdlpimaaDoor
open Go.RowKit PtMath

/-- Nothing is appended to a slice of the call's own. -/
theorem run_append_zero {P : Program} (w : World) (base : Nat) (t ty e : TypeId) (i : TypeInfo) (size : Nat) (ht : P.underlying t = some (.slice e)) (hi : P.info? e = some i)
    (v : Value) (n : Nat) (xs : List Value) (hown : w.ownsRow base e size v n xs) (ax : Option Addr) (cx : Nat) :
    (Builtin.append_ #[t, t] ty #[v, .slice ax 0 cx]).run P w = .ok v w := by
  cases ax with
  | none =>
    rcases hown.2 with ⟨rfl, rfl⟩ | ⟨g, cap, cur, rfl, _, _, hnc, _⟩
    · simp [Builtin.append_, run_underlying ht, sizeOf, typeInfo, hi, Builtin.lenOf, Builtin.firstCells]
    · simp [Builtin.append_, run_underlying ht, sizeOf, typeInfo, hi, Builtin.lenOf, Builtin.firstCells, hnc, storeCells]
  | some a =>
    rcases hown.2 with ⟨rfl, rfl⟩ | ⟨g, cap, cur, rfl, _, _, hnc, _⟩
    · simp [Builtin.append_, run_underlying ht, sizeOf, typeInfo, hi, Builtin.lenOf, Builtin.firstCells, loadCells, loadCellsFrom]
    · simp [Builtin.append_, run_underlying ht, sizeOf, typeInfo, hi, Builtin.lenOf, Builtin.firstCells, hnc, storeCells, loadCells, loadCellsFrom]
theorem wpList_append_zero {P : Program} {w : World} {ops : Array Oper} {rest : List Oper} {o : Oper} {a : Act} {Q : Exit → Act → World → Prop} (hgd : o.guard = none) (s x : Operand) (t : TypeId)
    (ho : o.op = .call { callee := .builtin .append, args := #[s, x], argTypes := #[t, t] })
    (base : Nat) (e : TypeId) (i : TypeInfo) (size : Nat) (ht : P.underlying t = some (.slice e)) (hi : P.info? e = some i)
    (v : Value) (n : Nat) (xs : List Value) (hs : a.eval s = v) (hown : w.ownsRow base e size v n xs) (ax : Option Addr) (cx : Nat) (hx : a.eval x = .slice ax 0 cx)
    (h : wpList P ops Q rest (a.put o.dst v) w) : wpList P ops Q (o :: rest) a w := by
  refine wpList_plain hgd fun K hK => ?_
  have hrun := run_append_zero (P := P) w base t o.type e i size ht hi v n xs hown ax cx
  unfold Oper.wp
  simp [execOp, ho, resolve, invoke, builtin, hs, hx, hrun, Result.andThen]
  exact hK _ _ h

theorem one_pairs (l : List (Int × Nat)) : ∀ u ∈ pairCells l, u.oneCell' = true := by
  intro u hu
  simp [pairCells] at hu
  obtain ⟨a, b, _, h | h⟩ := hu
  · rw [h]; rfl
  · rw [h]; rfl
/-- What lies behind an address, as appended cells. -/
theorem news_pts {w : World} {b o : Nat} {l : List (Int × Nat)} (h : ∀ k (hk : k < l.length), w.cell? ⟨b, o + k * 2, none⟩ = some (.int .i64 l[k].1) ∧ w.cell? ⟨b, o + k * 2 + 1, none⟩ = some (.int .u64 (l[k].2 : Int))) :
    ∀ (j : Nat) u, (pairCells l)[j]? = some u → w.cell? ((⟨b, o, none⟩ : Addr).add j) = some u := by
  intro j u hj
  have hlen := length_pairCells l
  have hjl : j < l.length * 2 := by
    rcases Nat.lt_or_ge j (l.length * 2) with h1 | h1
    · exact h1
    · rw [List.getElem?_eq_none (by omega)] at hj; cases hj
  have e2 : ((⟨b, o, none⟩ : Addr).add j) = ⟨b, o + j, none⟩ := by
    unfold Addr.add
    cases j <;> simp
  rw [e2, ← hj]
  have hk : j / 2 < l.length := by omega
  obtain ⟨p0, p1⟩ := pairCells_at l (j / 2) hk
  obtain ⟨q0, q1⟩ := h (j / 2) hk
  rcases Nat.mod_two_eq_zero_or_one j with hm | hm
  · have e : j = j / 2 * 2 := by omega
    rw [e, p0, ← q0]
  · have e : j = j / 2 * 2 + 1 := by omega
    rw [e, p1, ← q1]
    congr 2

set_option maxRecDepth 1000000 in
theorem own_points (w : World) (la : Option Addr) (c : Nat) (l : List (Int × Nat)) (hP : PtsL w la l) (hn : l.length ≤ 1000) :
    Calls Tryd.prog 45 #[.slice la l.length c] w fun e w' => ∃ v, e = .returned v ∧ w'.ownsRow w.heap.size 92 2 v l.length (pairCells l) ∧ Below w.heap.size w w' := by
  obtain ⟨i0, hi, hz0, hz1, hz2⟩ := info_parts Tryd.infoPt
  have hownN : w.ownsRow w.heap.size 92 2 (.slice none 0 0) 0 [] := ⟨rfl, .inl ⟨rfl, rfl⟩⟩
  by_cases h0 : l = []
  · subst h0
    go_enter Tryd.func45, Tryd.ntmps45
    go_wp2_with (at_builtin; refine wpList_append_zero rfl _ _ 77 rfl w.heap.size 92 i0 2 Tryd.underlying77 hi _ _ _ rfl hownN la c rfl ?_)
    go_wp2
    go_ret
    exact ⟨_, rfl, hownN, Below.refl _ _⟩
  · rcases hP with h | ⟨b, o, rfl, hc⟩
    · exact absurd h h0
    · have HN := (show Hid _ from news_pts hc)
      have HO := (show Hid _ from one_pairs l)
      have HL := (show Hid _ from length_pairCells l)
      have hl0 : 0 < l.length := by
        cases l with
        | nil => exact absurd rfl h0
        | cons => simp
      clear hc
      generalize hnn : l.length = n at *
      go_enter Tryd.func45, Tryd.ntmps45
      go_wp2_with (at_builtin; refine wpList_append_lies _ rfl _ _ 77 rfl w.heap.size 92 i0 (.agg #[.int .i64 0, .int .u64 0]) 2 16 Tryd.underlying77 hi hz0 hz1 hz2 rfl (by decide) _ _ _ rfl hownN ⟨b, o, none⟩ n c (pairCells l) rfl HL.out HN.out HO.out hl0 ?c3 ?c4 (Nat.le_refl _) w.heap.size rfl ?_)
      case c3 => unfold maxLen; omega
      case c4 => omega
      intro g cap w1 hown1 hgrow hat hlt1
      have hb1 : Below w.heap.size w w1 := ⟨hgrow.os, hgrow.tape, hgrow.output, hgrow.size, fun k hk => hgrow.block k hk (by simp [Value.ownBlock])⟩
      have HOWN : Hid (w1.ownsRow w.heap.size 92 2 (.slice (some ⟨g, 0, none⟩) n cap) n (pairCells l)) := hown1
      have HB := (show Hid _ from hb1)
      clear hown1 hgrow hat hb1
      go_wp2
      go_ret
      exact ⟨_, rfl, HOWN.out, HB.out⟩

/-- A list of the call's own, and memory that grew. -/
structure OutAt (w wr : World) (v : Value) (out : List (Int × Nat)) : Prop where
  own : wr.ownsRow w.heap.size 92 2 v out.length (pairCells out)
  bel : Below w.heap.size w wr

set_option maxRecDepth 1000000 in
set_option maxHeartbeats 4000000 in
theorem merge_any (w : World) (la lb : Option Addr) (ca cb : Nat) (a b : List (Int × Nat)) (hA : PtsL w la a) (hB : PtsL w lb b) (ha : a.length ≤ 500) (hb : b.length ≤ 500) (hca : a.length ≤ ca) (hcb : b.length ≤ cb) :
    Calls Tryd.prog 51 #[.slice la a.length ca, .slice lb b.length cb] w fun e w' => ∃ v, e = .returned v ∧ OutAt w w' v (mergeL a b) := by
  have HA : Hid (PtsL w la a) := hA
  have HB : Hid (PtsL w lb b) := hB
  clear hA hB
  obtain ⟨n, hnn⟩ : ∃ n, a.length = n := ⟨_, rfl⟩
  obtain ⟨m, hmm⟩ : ∃ m, b.length = m := ⟨_, rfl⟩
  rw [hnn] at hca ha ⊢
  rw [hmm] at hcb hb ⊢
  have HN := (show Hid _ from hnn)
  have HM := (show Hid _ from hmm)
  have hcaI : (n : Int) ≤ (ca : Int) := by omega
  have hcbI : (m : Int) ≤ (cb : Int) := by omega
  clear hnn hmm
  go_enter Tryd.func51, Tryd.ntmps51
  go_wp2_with fail
  go_loopw [5, 6, 7] (fun sl i j wr => ∃ (p q : Nat) (v : Value) (out : List (Int × Nat)), sl = v ∧ p ≤ n ∧ q ≤ m ∧ i = .int .i64 p ∧ j = .int .i64 q ∧ out.length ≤ p + q ∧ out ++ mergeL (a.drop p) (b.drop q) = mergeL a b ∧ OutAt w wr v out) (fun _ i j _ => (n + m) - ((intOf i).toNat + (intOf j).toNat))
  case atStart => exact ⟨0, 0, _, [], rfl, Nat.zero_le _, Nat.zero_le _, rfl, rfl, Nat.le_refl _, rfl, ⟨⟨rfl, .inl ⟨rfl, rfl⟩⟩, Below.refl _ _⟩⟩
  case round =>
    obtain ⟨p, q, v, out, hv, hp, hq, rfl, rfl, hlen, hmg, hout⟩ := hrel
    have hv' := hv.symm
    subst hv'
    by_cases hin : p < n ∧ q < m
    · obtain ⟨hpn, hqm⟩ := hin
      have hpa : p < a.length := by have := HN.out; omega
      have hqb : q < b.length := by have := HM.out; omega
      have hda : a.drop p = a[p] :: a.drop (p + 1) := List.drop_eq_getElem_cons hpa
      have hdb : b.drop q = b[q] :: b.drop (q + 1) := List.drop_eq_getElem_cons hqb
      have hmc := mergeL_cons a[p] b[q] (a.drop (p + 1)) (b.drop (q + 1))
      rw [← hda, ← hdb] at hmc
      rcases HA.out with h | ⟨ba, oa, rfl, hcA⟩
      · rw [h] at hpa; simp at hpa
      rcases HB.out with h | ⟨bb, ob, rfl, hcB⟩
      · rw [h] at hqb; simp at hqb
      obtain ⟨a0, a1⟩ := hcA p hpa
      obtain ⟨b0, b1⟩ := hcB q hqb
      have hal := World.block_lt_of_cell? w ⟨ba, _, none⟩ a0
      have hbl := World.block_lt_of_cell? w ⟨bb, _, none⟩ b0
      have hbr := hout.bel
      rw [← hbr.cell (p := ⟨ba, oa + p * 2, none⟩) hal] at a0
      rw [← hbr.cell (p := ⟨ba, oa + p * 2 + 1, none⟩) hal] at a1
      rw [← hbr.cell (p := ⟨bb, ob + q * 2, none⟩) hbl] at b0
      rw [← hbr.cell (p := ⟨bb, ob + q * 2 + 1, none⟩) hbl] at b1
      have HPA := (show Hid _ from pairCells_snoc out a[p])
      have HPB := (show Hid _ from pairCells_snoc out b[q])
      generalize hga : a[p] = pa at *
      generalize hgb : b[q] = pb at *
      obtain ⟨t, u⟩ := pa
      obtain ⟨t', u'⟩ := pb
      simp only at a0 a1 b0 b1 hmc HPA HPB
      have hpI : (p : Int) < (n : Int) := by omega
      have hqI : (q : Int) < (m : Int) := by omega
      have HOUT := (show Hid _ from hout)
      obtain ⟨k, hkk⟩ : ∃ k, out.length = k := ⟨_, rfl⟩
      have HKK := (show Hid _ from hkk)
      have hkl : k ≤ 1000 := by omega
      have hwl := hbr.size
      have HBR := (show Hid _ from hbr)
      have HDA := (show Hid _ from hda)
      have HDB := (show Hid _ from hdb)
      have HMG := (show Hid _ from hmg)
      have HLN := (show Hid _ from hlen)
      have HOWN : Hid (wr.ownsRow w.heap.size 92 2 v k (pairCells out)) := by rw [← hkk]; exact hout.own
      clear hcA hcB hout hbr hkk hda hdb hmg hga hgb hlen
      by_cases hlt : t < t'
      · have d1 : decide (t < t') = true := decide_eq_true hlt
        have hnx : (out ++ [(t, u)]) ++ mergeL (a.drop (p + 1)) (b.drop q) = mergeL a b := by rw [← HMG.out, hmc, if_pos hlt, List.append_assoc, HDB.out]; rfl
        have HNX := (show Hid _ from hnx)
        obtain ⟨i0, hi, hz0, hz1, hz2⟩ := info_parts Tryd.infoPt
        clear hnx hmc
        go_wp2_with fail
        go_quiet (fail)
        obtain ⟨wd, hwd⟩ : ∃ wd, wd = wr.drewN nq := ⟨_, rfl⟩
        rw [← hwd]
        have hbd : Below wr.heap.size wr wd := by rw [hwd]; exact ⟨rfl, rfl, rfl, Nat.le_refl _, fun _ _ => rfl⟩
        have hsd : wd.heap.size = wr.heap.size := by rw [hwd]; rfl
        have a0' : wd.cell? ⟨ba, oa + p * 2, none⟩ = some (.int .i64 t) := by rw [hwd]; exact a0
        have a1' : wd.cell? ⟨ba, oa + p * 2 + 1, none⟩ = some (.int .u64 (u : Int)) := by rw [hwd]; exact a1
        have b0' : wd.cell? ⟨bb, ob + q * 2, none⟩ = some (.int .i64 t') := by rw [hwd]; exact b0
        have b1' : wd.cell? ⟨bb, ob + q * 2 + 1, none⟩ = some (.int .u64 (u' : Int)) := by rw [hwd]; exact b1
        have hown0 : wd.ownsRow w.heap.size 92 2 v k (pairCells out) := by rw [hwd]; exact HOWN.out
        have HBD := (show Hid _ from HBR.out.trans (hbd.mono HBR.out.size))
        have hwdl : w.heap.size ≤ wd.heap.size := HBD.out.size
        clear hwd hbd hsd a0 a1 b0 b1
        have hownA : (wd.alloc (.cells #[.int .i64 t, .int .u64 (u : Int)] 92)).ownsRow w.heap.size 92 2 v k (pairCells out) := World.ownsRow.alloc hown0 _
        have HOWN0 : Hid (wd.ownsRow w.heap.size 92 2 v k (pairCells out)) := hown0
        clear hown0
        go_wp2_with (at_builtin; refine wpList_append_lies _ rfl _ _ 77 rfl w.heap.size 92 i0 (.agg #[.int .i64 0, .int .u64 0]) 2 16 Tryd.underlying77 hi hz0 hz1 hz2 rfl (by decide) _ _ _ rfl hownA ⟨wd.heap.size, 0, none⟩ 1 1 [.int .i64 t, .int .u64 (u : Int)] rfl rfl (World.news_of_block (heap_alloc_new wd _)) ?c2 (by omega) ?c3 ?c4 ?c5 (wd.heap.size + 1) (by simp) ?_)
        case c2 => first | exact ⟨rfl, rfl⟩ | (intro z hz; simp at hz; rcases hz with rfl | rfl <;> rfl)
        case c3 => unfold maxLen; omega
        case c4 => omega
        case c5 => first | omega | (simp; omega)
        intro g1 cap1 w1 hown1 hgrow hat hlt1
        have hb1 := grown_pts rfl rfl rfl rfl HBD.out HOWN0.out hgrow
        rw [HPA.out] at hown1
        have hle : (out ++ [(t, u)]).length = k + 1 := by rw [List.length_append, HKK.out]; rfl
        have HOUT1 : Hid (OutAt w w1 (.slice (some ⟨g1, 0, none⟩) (k + 1) cap1) (out ++ [(t, u)])) := ⟨by rw [hle]; exact hown1, hb1⟩
        have HLE := (show Hid _ from hle)
        clear hown1 hgrow hat hlt1 hb1 hownA a0' a1' b0' b1' hle
        go_wp2
        go_roundw
        case rel => exact ⟨p + 1, q, _, _, rfl, by omega, by omega, by go_num, by go_num, by rw [HLE.out]; have := HLN.out; have := HKK.out; omega, HNX.out, HOUT1.out⟩
        case measure => simp [intOf] <;> omega
      · have d1 : decide (t < t') = false := decide_eq_false hlt
        by_cases hgt : t' < t
        · have d2 : decide (t' < t) = true := decide_eq_true hgt
          have hnx : (out ++ [(t', u')]) ++ mergeL (a.drop p) (b.drop (q + 1)) = mergeL a b := by rw [← HMG.out, hmc, if_neg hlt, if_pos hgt, List.append_assoc, HDA.out]; rfl
          have HNX := (show Hid _ from hnx)
          obtain ⟨i0, hi, hz0, hz1, hz2⟩ := info_parts Tryd.infoPt
          clear hnx hmc
          go_wp2_with fail
          go_quiet (fail)
          obtain ⟨we, hwe⟩ : ∃ we, we = wr.drewN nq := ⟨_, rfl⟩
          rw [← hwe]
          have hbe : Below wr.heap.size wr we := by rw [hwe]; exact ⟨rfl, rfl, rfl, Nat.le_refl _, fun _ _ => rfl⟩
          have x0 : we.cell? ⟨ba, oa + p * 2, none⟩ = some (.int .i64 t) := by rw [hwe]; exact a0
          have x1 : we.cell? ⟨ba, oa + p * 2 + 1, none⟩ = some (.int .u64 (u : Int)) := by rw [hwe]; exact a1
          have x2 : we.cell? ⟨bb, ob + q * 2, none⟩ = some (.int .i64 t') := by rw [hwe]; exact b0
          have x3 : we.cell? ⟨bb, ob + q * 2 + 1, none⟩ = some (.int .u64 (u' : Int)) := by rw [hwe]; exact b1
          have HOWE : Hid (we.ownsRow w.heap.size 92 2 v k (pairCells out)) := by rw [hwe]; exact HOWN.out
          have HBE := (show Hid _ from HBR.out.trans (hbe.mono HBR.out.size))
          clear hwe hbe a0 a1 b0 b1 HOWN HBR HOUT hwl nq
          obtain ⟨wr, hwr⟩ : ∃ wr, wr = we := ⟨_, rfl⟩
          subst hwr
          have a0 := x0
          have a1 := x1
          have b0 := x2
          have b1 := x3
          have HOWN : Hid (wr.ownsRow w.heap.size 92 2 v k (pairCells out)) := HOWE.out
          have HBR := (show Hid _ from HBE.out)
          clear x0 x1 x2 x3 HOWE HBE
          go_wp2_with fail
          go_quiet (fail)
          obtain ⟨wd, hwd⟩ : ∃ wd, wd = wr.drewN nq := ⟨_, rfl⟩
          rw [← hwd]
          have hbd : Below wr.heap.size wr wd := by rw [hwd]; exact ⟨rfl, rfl, rfl, Nat.le_refl _, fun _ _ => rfl⟩
          have hsd : wd.heap.size = wr.heap.size := by rw [hwd]; rfl
          have a0' : wd.cell? ⟨ba, oa + p * 2, none⟩ = some (.int .i64 t) := by rw [hwd]; exact a0
          have a1' : wd.cell? ⟨ba, oa + p * 2 + 1, none⟩ = some (.int .u64 (u : Int)) := by rw [hwd]; exact a1
          have b0' : wd.cell? ⟨bb, ob + q * 2, none⟩ = some (.int .i64 t') := by rw [hwd]; exact b0
          have b1' : wd.cell? ⟨bb, ob + q * 2 + 1, none⟩ = some (.int .u64 (u' : Int)) := by rw [hwd]; exact b1
          have hown0 : wd.ownsRow w.heap.size 92 2 v k (pairCells out) := by rw [hwd]; exact HOWN.out
          have HBD := (show Hid _ from HBR.out.trans (hbd.mono HBR.out.size))
          have hwdl : w.heap.size ≤ wd.heap.size := HBD.out.size
          clear hwd hbd hsd a0 a1 b0 b1
          have hownA : (wd.alloc (.cells #[.int .i64 t', .int .u64 (u' : Int)] 92)).ownsRow w.heap.size 92 2 v k (pairCells out) := World.ownsRow.alloc hown0 _
          have HOWN0 : Hid (wd.ownsRow w.heap.size 92 2 v k (pairCells out)) := hown0
          clear hown0
          go_wp2_with (at_builtin; refine wpList_append_lies _ rfl _ _ 77 rfl w.heap.size 92 i0 (.agg #[.int .i64 0, .int .u64 0]) 2 16 Tryd.underlying77 hi hz0 hz1 hz2 rfl (by decide) _ _ _ rfl hownA ⟨wd.heap.size, 0, none⟩ 1 1 [.int .i64 t', .int .u64 (u' : Int)] rfl rfl (World.news_of_block (heap_alloc_new wd _)) ?c2 (by omega) ?c3 ?c4 ?c5 (wd.heap.size + 1) (by simp) ?_)
          case c2 => first | exact ⟨rfl, rfl⟩ | (intro z hz; simp at hz; rcases hz with rfl | rfl <;> rfl)
          case c3 => unfold maxLen; omega
          case c4 => omega
          case c5 => first | omega | (simp; omega)
          intro g1 cap1 w1 hown1 hgrow hat hlt1
          have hb1 := grown_pts rfl rfl rfl rfl HBD.out HOWN0.out hgrow
          rw [HPB.out] at hown1
          have hle : (out ++ [(t', u')]).length = k + 1 := by rw [List.length_append, HKK.out]; rfl
          have HOUT1 : Hid (OutAt w w1 (.slice (some ⟨g1, 0, none⟩) (k + 1) cap1) (out ++ [(t', u')])) := ⟨by rw [hle]; exact hown1, hb1⟩
          have HLE := (show Hid _ from hle)
          clear hown1 hgrow hat hlt1 hb1 hownA a0' a1' b0' b1' hle
          go_wp2
          go_roundw
          case rel => exact ⟨p, q + 1, _, _, rfl, by omega, by omega, by go_num, by go_num, by rw [HLE.out]; have := HLN.out; have := HKK.out; omega, HNX.out, HOUT1.out⟩
          case measure => simp [intOf] <;> omega
        · have d2 : decide (t' < t) = false := decide_eq_false hgt
          have hnx : out ++ mergeL (a.drop (p + 1)) (b.drop q) = mergeL a b := by rw [← HMG.out, hmc, if_neg hlt, if_neg hgt, HDB.out]
          have HNX := (show Hid _ from hnx)
          clear hnx hmc
          go_wp2_with fail
          go_quiet (fail)
          obtain ⟨we, hwe⟩ : ∃ we, we = wr.drewN nq := ⟨_, rfl⟩
          rw [← hwe]
          have hbe : Below wr.heap.size wr we := by rw [hwe]; exact ⟨rfl, rfl, rfl, Nat.le_refl _, fun _ _ => rfl⟩
          have x0 : we.cell? ⟨ba, oa + p * 2, none⟩ = some (.int .i64 t) := by rw [hwe]; exact a0
          have x1 : we.cell? ⟨ba, oa + p * 2 + 1, none⟩ = some (.int .u64 (u : Int)) := by rw [hwe]; exact a1
          have x2 : we.cell? ⟨bb, ob + q * 2, none⟩ = some (.int .i64 t') := by rw [hwe]; exact b0
          have x3 : we.cell? ⟨bb, ob + q * 2 + 1, none⟩ = some (.int .u64 (u' : Int)) := by rw [hwe]; exact b1
          have HOWE : Hid (we.ownsRow w.heap.size 92 2 v k (pairCells out)) := by rw [hwe]; exact HOWN.out
          have HBE := (show Hid _ from HBR.out.trans (hbe.mono HBR.out.size))
          clear hwe hbe a0 a1 b0 b1 HOWN HBR HOUT hwl nq
          obtain ⟨wr, hwr⟩ : ∃ wr, wr = we := ⟨_, rfl⟩
          subst hwr
          have a0 := x0
          have a1 := x1
          have b0 := x2
          have b1 := x3
          have HOWN : Hid (wr.ownsRow w.heap.size 92 2 v k (pairCells out)) := HOWE.out
          have HBR := (show Hid _ from HBE.out)
          clear x0 x1 x2 x3 HOWE HBE
          go_wp2_with fail
          go_quiet (fail)
          go_wp2
          go_roundw
          case rel => exact ⟨p + 1, q, v, out, rfl, by omega, by omega, by go_num, by go_num, by have := HLN.out; omega, HNX.out, ⟨by rw [HKK.out]; exact HOWN.out, HBR.out.trans ⟨rfl, rfl, rfl, Nat.le_refl _, fun _ _ => rfl⟩⟩⟩
          case measure => simp [intOf] <;> omega
    · have HOUT := (show Hid _ from hout)
      obtain ⟨k, hkk⟩ : ∃ k, out.length = k := ⟨_, rfl⟩
      have HKK := (show Hid _ from hkk)
      have hkl : k ≤ 1000 := by omega
      have HMG := (show Hid _ from hmg)
      have HOWN : Hid (wr.ownsRow w.heap.size 92 2 v k (pairCells out)) := by rw [← hkk]; exact hout.own
      have HBR := (show Hid _ from hout.bel)
      obtain ⟨i0, hi, hz0, hz1, hz2⟩ := info_parts Tryd.infoPt
      clear hout hmg hkk hlen
      have htest : ((decide ((p : Int) < (n : Int)) = false) ∧ decide (p < n) = false) ∨ ((decide ((p : Int) < (n : Int)) = true ∧ decide (p < n) = true) ∧ (decide ((q : Int) < (m : Int)) = false ∧ decide (q < m) = false)) := by
        by_cases h : p < n
        · right
          refine ⟨⟨?_, ?_⟩, ?_, ?_⟩ <;> simp <;> omega
        · left
          refine ⟨?_, ?_⟩ <;> simp <;> omega
      rcases htest with ⟨d1, d1n⟩ | ⟨⟨d1, d1n⟩, d2, d2n⟩
      · go_upto_region 12 with fail
        go_cut [5] (fun sl wx => ∃ v', sl = v' ∧ OutAt w wx v' (out ++ a.drop p))
        case first =>
          by_cases hz : p = n
          · have hdr : a.drop p = [] := List.drop_of_length_le (by have := HN.out; omega)
            have HDR := (show Hid _ from hdr)
            clear hdr
            subst hz
            by_cases hcp : ca = p
            · subst hcp
              go_wp2_with (at_builtin; refine wpList_append_zero rfl _ _ 77 rfl w.heap.size 92 i0 2 Tryd.underlying77 hi _ _ _ rfl HOWN.out _ _ (by first | rfl | (simp; omega)) ?_)
              go_wp2_with fail
              go_meet
              exact ⟨v, rfl, ⟨by rw [HDR.out, List.append_nil, HKK.out]; exact HOWN.out, HBR.out⟩⟩
            · go_wp2_with (at_builtin; refine wpList_append_zero rfl _ _ 77 rfl w.heap.size 92 i0 2 Tryd.underlying77 hi _ _ _ rfl HOWN.out _ _ (by first | rfl | (simp; omega)) ?_)
              go_wp2_with fail
              go_meet
              exact ⟨v, rfl, ⟨by rw [HDR.out, List.append_nil, HKK.out]; exact HOWN.out, HBR.out⟩⟩
          · have hpos : 0 < n - p := by omega
            rcases HA.out with h | ⟨bx, ox, rfl, hcx⟩
            · exfalso
              have := HN.out
              rw [h] at this
              simp at this
              omega
            · have hdl : (a.drop p).length = n - p := by rw [List.length_drop, HN.out]
              have hcd : ∀ j (hj : j < (a.drop p).length), wr.cell? ⟨bx, (ox + p * 2) + j * 2, none⟩ = some (.int .i64 (a.drop p)[j].1) ∧ wr.cell? ⟨bx, (ox + p * 2) + j * 2 + 1, none⟩ = some (.int .u64 ((a.drop p)[j].2 : Int)) := by
                intro j hj
                obtain ⟨q0, q1⟩ := hcx (p + j) (by have := HN.out; omega)
                have hbx : bx < w.heap.size := World.block_lt_of_cell? w ⟨bx, _, none⟩ q0
                rw [← HBR.out.cell (p := ⟨bx, _, none⟩) hbx] at q0
                rw [← HBR.out.cell (p := ⟨bx, _, none⟩) hbx] at q1
                rw [List.getElem_drop]
                rw [show ox + p * 2 + j * 2 = ox + (p + j) * 2 by omega]
                exact ⟨q0, q1⟩
              have HNEWS := (show Hid _ from news_pts hcd)
              have HONE := (show Hid _ from one_pairs (a.drop p))
              have hul : (pairCells (a.drop p)).length = (n - p) * 2 := by rw [length_pairCells, hdl]
              have HULN := (show Hid _ from hul)
              clear hul
              have HDL := (show Hid _ from hdl)
              have hiI : (p : Int) ≤ (n : Int) := by omega
              have hsub : (n : Int) - (p : Int) = ((n - p : Nat) : Int) := by omega
              have hcap : ca ≠ p := by omega
              have hbel := HBR.out.size
              clear hcx hcd hdl
              go_wp2_with (at_builtin; refine wpList_append_lies _ rfl _ _ 77 rfl w.heap.size 92 i0 (.agg #[.int .i64 0, .int .u64 0]) 2 16 Tryd.underlying77 hi hz0 hz1 hz2 rfl (by decide) _ _ _ rfl HOWN.out ⟨bx, ox + p * 2, none⟩ (n - p) (ca - p) (pairCells (a.drop p)) (by first | rfl | (simp; omega)) HULN.out HNEWS.out HONE.out hpos ?c3 ?c4 hbel wr.heap.size rfl ?_)
              case c3 => unfold maxLen; omega
              case c4 => omega
              intro g1 cap1 w1 hown1 hgrow hat hlt1
              have hb1 : Below w.heap.size w w1 := HBR.out.trans ⟨hgrow.os, hgrow.tape, hgrow.output, hgrow.size, fun j hj => hgrow.block j (Nat.lt_of_lt_of_le hj hbel) (fun e => by
                rcases HOWN.out.2 with ⟨hv0, _⟩ | ⟨g, cap, cur, hv0, hg, _⟩
                · rw [hv0] at e; simp [Value.ownBlock] at e
                · rw [hv0] at e; simp [Value.ownBlock] at e; omega)⟩
              have hle : (out ++ a.drop p).length = k + (n - p) := by rw [List.length_append, HDL.out, HKK.out]
              have HOUT1 : Hid (OutAt w w1 (.slice (some ⟨g1, 0, none⟩) (k + (n - p)) cap1) (out ++ a.drop p)) := ⟨by rw [hle, pairCells_append]; exact hown1, hb1⟩
              clear hown1 hgrow hat hlt1 hb1 hle HNEWS HONE HULN
              go_wp2_with fail
              go_meet
              exact ⟨_, rfl, HOUT1.out⟩
        case rest =>
          obtain ⟨v2, hv2, hout2⟩ := hcut
          have hv2' := hv2.symm
          subst hv2'
          have hfin : out ++ a.drop p ++ b.drop q = mergeL a b := by
            rw [← HMG.out, List.append_assoc]
            congr 1
            rw [List.drop_of_length_le (by have := HN.out; simp at d1n; omega : a.length ≤ p), mergeL_nil]
            rfl
          have HFIN := (show Hid _ from hfin)
          have HOUT2 := (show Hid _ from hout2)
          obtain ⟨k2, hk2⟩ : ∃ k2, (out ++ a.drop p).length = k2 := ⟨_, rfl⟩
          have HKK2 := (show Hid _ from hk2)
          have hk2l : k2 ≤ 2000 := by rw [← hk2, List.length_append, List.length_drop]; have := HKK.out; have := HN.out; omega
          have HOWN2 : Hid (wc.ownsRow w.heap.size 92 2 v2 k2 (pairCells (out ++ a.drop p))) := by rw [← hk2]; exact hout2.own
          have HBR2 := (show Hid _ from hout2.bel)
          clear hfin hout2 hk2 HOUT HOWN HBR
          by_cases hz : q = m
          · have hdr : b.drop q = [] := List.drop_of_length_le (by have := HM.out; omega)
            have HDR := (show Hid _ from hdr)
            clear hdr
            by_cases hcp : cb = q
            · go_wp2_with (at_builtin; refine wpList_append_zero rfl _ _ 77 rfl w.heap.size 92 i0 2 Tryd.underlying77 hi _ _ _ rfl HOWN2.out _ _ (by first | rfl | (simp; omega)) ?_)
              go_wp2
              go_ret
              exact ⟨v2, rfl, by rw [← HFIN.out, HDR.out, List.append_nil]; exact HOUT2.out⟩
            · go_wp2_with (at_builtin; refine wpList_append_zero rfl _ _ 77 rfl w.heap.size 92 i0 2 Tryd.underlying77 hi _ _ _ rfl HOWN2.out _ _ (by first | rfl | (simp; omega)) ?_)
              go_wp2
              go_ret
              exact ⟨v2, rfl, by rw [← HFIN.out, HDR.out, List.append_nil]; exact HOUT2.out⟩
          · have hpos : 0 < m - q := by omega
            rcases HB.out with h | ⟨bx, ox, rfl, hcx⟩
            · exfalso
              have := HM.out
              rw [h] at this
              simp at this
              omega
            · have hdl : (b.drop q).length = m - q := by rw [List.length_drop, HM.out]
              have hcd : ∀ j (hj : j < (b.drop q).length), wc.cell? ⟨bx, (ox + q * 2) + j * 2, none⟩ = some (.int .i64 (b.drop q)[j].1) ∧ wc.cell? ⟨bx, (ox + q * 2) + j * 2 + 1, none⟩ = some (.int .u64 ((b.drop q)[j].2 : Int)) := by
                intro j hj
                obtain ⟨q0, q1⟩ := hcx (q + j) (by have := HM.out; omega)
                have hbx : bx < w.heap.size := World.block_lt_of_cell? w ⟨bx, _, none⟩ q0
                rw [← HBR2.out.cell (p := ⟨bx, _, none⟩) hbx] at q0
                rw [← HBR2.out.cell (p := ⟨bx, _, none⟩) hbx] at q1
                rw [List.getElem_drop]
                rw [show ox + q * 2 + j * 2 = ox + (q + j) * 2 by omega]
                exact ⟨q0, q1⟩
              have HNEWS := (show Hid _ from news_pts hcd)
              have HONE := (show Hid _ from one_pairs (b.drop q))
              have hul : (pairCells (b.drop q)).length = (m - q) * 2 := by rw [length_pairCells, hdl]
              have HULN := (show Hid _ from hul)
              clear hul
              have HDL := (show Hid _ from hdl)
              have hiI : (q : Int) ≤ (m : Int) := by omega
              have hsub : (m : Int) - (q : Int) = ((m - q : Nat) : Int) := by omega
              have hcap : cb ≠ q := by omega
              have hbel := HBR2.out.size
              clear hcx hcd hdl
              go_wp2_with (at_builtin; refine wpList_append_lies _ rfl _ _ 77 rfl w.heap.size 92 i0 (.agg #[.int .i64 0, .int .u64 0]) 2 16 Tryd.underlying77 hi hz0 hz1 hz2 rfl (by decide) _ _ _ rfl HOWN2.out ⟨bx, ox + q * 2, none⟩ (m - q) (cb - q) (pairCells (b.drop q)) (by first | rfl | (simp; omega)) HULN.out HNEWS.out HONE.out hpos ?c3 ?c4 hbel wc.heap.size rfl ?_)
              case c3 => unfold maxLen; omega
              case c4 => omega
              intro g1 cap1 w1 hown1 hgrow hat hlt1
              have hb1 : Below w.heap.size w w1 := HBR2.out.trans ⟨hgrow.os, hgrow.tape, hgrow.output, hgrow.size, fun j hj => hgrow.block j (Nat.lt_of_lt_of_le hj hbel) (fun e => by
                rcases HOWN2.out.2 with ⟨hv0, _⟩ | ⟨g, cap, cur, hv0, hg, _⟩
                · rw [hv0] at e; simp [Value.ownBlock] at e
                · rw [hv0] at e; simp [Value.ownBlock] at e; omega)⟩
              have hle : ((out ++ a.drop p) ++ b.drop q).length = k2 + (m - q) := by rw [List.length_append, HDL.out, HKK2.out]
              have HOUT1 : Hid (OutAt w w1 (.slice (some ⟨g1, 0, none⟩) (k2 + (m - q)) cap1) ((out ++ a.drop p) ++ b.drop q)) := ⟨by rw [hle, pairCells_append]; exact hown1, hb1⟩
              clear hown1 hgrow hat hlt1 hb1 hle HNEWS HONE HULN
              go_wp2
              go_ret
              exact ⟨_, rfl, by rw [← HFIN.out]; exact HOUT1.out⟩
      · go_upto_region 12 with fail
        go_cut [5] (fun sl wx => ∃ v', sl = v' ∧ OutAt w wx v' (out ++ a.drop p))
        case first =>
          by_cases hz : p = n
          · have hdr : a.drop p = [] := List.drop_of_length_le (by have := HN.out; omega)
            have HDR := (show Hid _ from hdr)
            clear hdr
            subst hz
            by_cases hcp : ca = p
            · subst hcp
              go_wp2_with (at_builtin; refine wpList_append_zero rfl _ _ 77 rfl w.heap.size 92 i0 2 Tryd.underlying77 hi _ _ _ rfl HOWN.out _ _ (by first | rfl | (simp; omega)) ?_)
              go_wp2_with fail
              go_meet
              exact ⟨v, rfl, ⟨by rw [HDR.out, List.append_nil, HKK.out]; exact HOWN.out, HBR.out⟩⟩
            · go_wp2_with (at_builtin; refine wpList_append_zero rfl _ _ 77 rfl w.heap.size 92 i0 2 Tryd.underlying77 hi _ _ _ rfl HOWN.out _ _ (by first | rfl | (simp; omega)) ?_)
              go_wp2_with fail
              go_meet
              exact ⟨v, rfl, ⟨by rw [HDR.out, List.append_nil, HKK.out]; exact HOWN.out, HBR.out⟩⟩
          · have hpos : 0 < n - p := by omega
            rcases HA.out with h | ⟨bx, ox, rfl, hcx⟩
            · exfalso
              have := HN.out
              rw [h] at this
              simp at this
              omega
            · have hdl : (a.drop p).length = n - p := by rw [List.length_drop, HN.out]
              have hcd : ∀ j (hj : j < (a.drop p).length), wr.cell? ⟨bx, (ox + p * 2) + j * 2, none⟩ = some (.int .i64 (a.drop p)[j].1) ∧ wr.cell? ⟨bx, (ox + p * 2) + j * 2 + 1, none⟩ = some (.int .u64 ((a.drop p)[j].2 : Int)) := by
                intro j hj
                obtain ⟨q0, q1⟩ := hcx (p + j) (by have := HN.out; omega)
                have hbx : bx < w.heap.size := World.block_lt_of_cell? w ⟨bx, _, none⟩ q0
                rw [← HBR.out.cell (p := ⟨bx, _, none⟩) hbx] at q0
                rw [← HBR.out.cell (p := ⟨bx, _, none⟩) hbx] at q1
                rw [List.getElem_drop]
                rw [show ox + p * 2 + j * 2 = ox + (p + j) * 2 by omega]
                exact ⟨q0, q1⟩
              have HNEWS := (show Hid _ from news_pts hcd)
              have HONE := (show Hid _ from one_pairs (a.drop p))
              have hul : (pairCells (a.drop p)).length = (n - p) * 2 := by rw [length_pairCells, hdl]
              have HULN := (show Hid _ from hul)
              clear hul
              have HDL := (show Hid _ from hdl)
              have hiI : (p : Int) ≤ (n : Int) := by omega
              have hsub : (n : Int) - (p : Int) = ((n - p : Nat) : Int) := by omega
              have hcap : ca ≠ p := by omega
              have hbel := HBR.out.size
              clear hcx hcd hdl
              go_wp2_with (at_builtin; refine wpList_append_lies _ rfl _ _ 77 rfl w.heap.size 92 i0 (.agg #[.int .i64 0, .int .u64 0]) 2 16 Tryd.underlying77 hi hz0 hz1 hz2 rfl (by decide) _ _ _ rfl HOWN.out ⟨bx, ox + p * 2, none⟩ (n - p) (ca - p) (pairCells (a.drop p)) (by first | rfl | (simp; omega)) HULN.out HNEWS.out HONE.out hpos ?c3 ?c4 hbel wr.heap.size rfl ?_)
              case c3 => unfold maxLen; omega
              case c4 => omega
              intro g1 cap1 w1 hown1 hgrow hat hlt1
              have hb1 : Below w.heap.size w w1 := HBR.out.trans ⟨hgrow.os, hgrow.tape, hgrow.output, hgrow.size, fun j hj => hgrow.block j (Nat.lt_of_lt_of_le hj hbel) (fun e => by
                rcases HOWN.out.2 with ⟨hv0, _⟩ | ⟨g, cap, cur, hv0, hg, _⟩
                · rw [hv0] at e; simp [Value.ownBlock] at e
                · rw [hv0] at e; simp [Value.ownBlock] at e; omega)⟩
              have hle : (out ++ a.drop p).length = k + (n - p) := by rw [List.length_append, HDL.out, HKK.out]
              have HOUT1 : Hid (OutAt w w1 (.slice (some ⟨g1, 0, none⟩) (k + (n - p)) cap1) (out ++ a.drop p)) := ⟨by rw [hle, pairCells_append]; exact hown1, hb1⟩
              clear hown1 hgrow hat hlt1 hb1 hle HNEWS HONE HULN
              go_wp2_with fail
              go_meet
              exact ⟨_, rfl, HOUT1.out⟩
        case rest =>
          obtain ⟨v2, hv2, hout2⟩ := hcut
          have hv2' := hv2.symm
          subst hv2'
          have hfin : out ++ a.drop p ++ b.drop q = mergeL a b := by
            rw [← HMG.out, List.append_assoc]
            congr 1
            rw [List.drop_of_length_le (by have := HM.out; simp at d2n; omega : b.length ≤ q), mergeL_end, List.append_nil]
          have HFIN := (show Hid _ from hfin)
          have HOUT2 := (show Hid _ from hout2)
          obtain ⟨k2, hk2⟩ : ∃ k2, (out ++ a.drop p).length = k2 := ⟨_, rfl⟩
          have HKK2 := (show Hid _ from hk2)
          have hk2l : k2 ≤ 2000 := by rw [← hk2, List.length_append, List.length_drop]; have := HKK.out; have := HN.out; omega
          have HOWN2 : Hid (wc.ownsRow w.heap.size 92 2 v2 k2 (pairCells (out ++ a.drop p))) := by rw [← hk2]; exact hout2.own
          have HBR2 := (show Hid _ from hout2.bel)
          clear hfin hout2 hk2 HOUT HOWN HBR
          by_cases hz : q = m
          · have hdr : b.drop q = [] := List.drop_of_length_le (by have := HM.out; omega)
            have HDR := (show Hid _ from hdr)
            clear hdr
            by_cases hcp : cb = q
            · go_wp2_with (at_builtin; refine wpList_append_zero rfl _ _ 77 rfl w.heap.size 92 i0 2 Tryd.underlying77 hi _ _ _ rfl HOWN2.out _ _ (by first | rfl | (simp; omega)) ?_)
              go_wp2
              go_ret
              exact ⟨v2, rfl, by rw [← HFIN.out, HDR.out, List.append_nil]; exact HOUT2.out⟩
            · go_wp2_with (at_builtin; refine wpList_append_zero rfl _ _ 77 rfl w.heap.size 92 i0 2 Tryd.underlying77 hi _ _ _ rfl HOWN2.out _ _ (by first | rfl | (simp; omega)) ?_)
              go_wp2
              go_ret
              exact ⟨v2, rfl, by rw [← HFIN.out, HDR.out, List.append_nil]; exact HOUT2.out⟩
          · have hpos : 0 < m - q := by omega
            rcases HB.out with h | ⟨bx, ox, rfl, hcx⟩
            · exfalso
              have := HM.out
              rw [h] at this
              simp at this
              omega
            · have hdl : (b.drop q).length = m - q := by rw [List.length_drop, HM.out]
              have hcd : ∀ j (hj : j < (b.drop q).length), wc.cell? ⟨bx, (ox + q * 2) + j * 2, none⟩ = some (.int .i64 (b.drop q)[j].1) ∧ wc.cell? ⟨bx, (ox + q * 2) + j * 2 + 1, none⟩ = some (.int .u64 ((b.drop q)[j].2 : Int)) := by
                intro j hj
                obtain ⟨q0, q1⟩ := hcx (q + j) (by have := HM.out; omega)
                have hbx : bx < w.heap.size := World.block_lt_of_cell? w ⟨bx, _, none⟩ q0
                rw [← HBR2.out.cell (p := ⟨bx, _, none⟩) hbx] at q0
                rw [← HBR2.out.cell (p := ⟨bx, _, none⟩) hbx] at q1
                rw [List.getElem_drop]
                rw [show ox + q * 2 + j * 2 = ox + (q + j) * 2 by omega]
                exact ⟨q0, q1⟩
              have HNEWS := (show Hid _ from news_pts hcd)
              have HONE := (show Hid _ from one_pairs (b.drop q))
              have hul : (pairCells (b.drop q)).length = (m - q) * 2 := by rw [length_pairCells, hdl]
              have HULN := (show Hid _ from hul)
              clear hul
              have HDL := (show Hid _ from hdl)
              have hiI : (q : Int) ≤ (m : Int) := by omega
              have hsub : (m : Int) - (q : Int) = ((m - q : Nat) : Int) := by omega
              have hcap : cb ≠ q := by omega
              have hbel := HBR2.out.size
              clear hcx hcd hdl
              go_wp2_with (at_builtin; refine wpList_append_lies _ rfl _ _ 77 rfl w.heap.size 92 i0 (.agg #[.int .i64 0, .int .u64 0]) 2 16 Tryd.underlying77 hi hz0 hz1 hz2 rfl (by decide) _ _ _ rfl HOWN2.out ⟨bx, ox + q * 2, none⟩ (m - q) (cb - q) (pairCells (b.drop q)) (by first | rfl | (simp; omega)) HULN.out HNEWS.out HONE.out hpos ?c3 ?c4 hbel wc.heap.size rfl ?_)
              case c3 => unfold maxLen; omega
              case c4 => omega
              intro g1 cap1 w1 hown1 hgrow hat hlt1
              have hb1 : Below w.heap.size w w1 := HBR2.out.trans ⟨hgrow.os, hgrow.tape, hgrow.output, hgrow.size, fun j hj => hgrow.block j (Nat.lt_of_lt_of_le hj hbel) (fun e => by
                rcases HOWN2.out.2 with ⟨hv0, _⟩ | ⟨g, cap, cur, hv0, hg, _⟩
                · rw [hv0] at e; simp [Value.ownBlock] at e
                · rw [hv0] at e; simp [Value.ownBlock] at e; omega)⟩
              have hle : ((out ++ a.drop p) ++ b.drop q).length = k2 + (m - q) := by rw [List.length_append, HDL.out, HKK2.out]
              have HOUT1 : Hid (OutAt w w1 (.slice (some ⟨g1, 0, none⟩) (k2 + (m - q)) cap1) ((out ++ a.drop p) ++ b.drop q)) := ⟨by rw [hle, pairCells_append]; exact hown1, hb1⟩
              clear hown1 hgrow hat hlt1 hb1 hle HNEWS HONE HULN
              go_wp2
              go_ret
              exact ⟨_, rfl, by rw [← HFIN.out]; exact HOUT1.out⟩
end Go.Proofs.YtgdflopgdlpimaaDoor
