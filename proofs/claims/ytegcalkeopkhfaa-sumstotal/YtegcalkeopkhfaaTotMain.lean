/- SumsTotal by its walk: a total of any rows; parts together are the whole. -/
import Derived.Test.YtegcalkeopkhfaaSmTotal
import Derived.Test.YtegcalkeopkhfaaSmSummed
namespace Go.Proofs.Ytegcalkeopkhfaa
open Go.RowKit PtMath SmMath

set_option maxRecDepth 1000000 in
theorem total_long (w : World) (la : Option Addr) (n c : Nat) (hnn : (n : Int) ≤ 9223372036854775807) (h : 30 < n) :
    Calls Try.prog 3 #[.slice la n c] w fun e w' => e = .returned (.bool true) ∧ Below w.heap.size w w' := by
  have HSU := (show Hid _ from summed_any w)
  have d1 : decide ((30 : Int) < (n : Int)) = true := by simp; omega
  go_enter Try.func3, Try.ntmps3
  go_wp2_with fail
  refine Calls.mono HSU.out ?_
  rintro e w1 ⟨rfl, hb1⟩
  have HB1 := (show Hid _ from hb1)
  clear hb1
  go_wp2
  go_ret
  exact ⟨rfl, HB1.out⟩

/-- A round of the statement: the points so far, a sum of them. -/
structure TotAt (w2 wr : World) (v : Value) (out : List (Int × Nat)) : Prop where
  own : wr.ownsRow (w2.heap.size + 1) 38 2 v out.length (pairCells out)
  blk : wr.heap[w2.heap.size]? = some (.cells #[.int .i64 (ofM out).c, .int .u64 (ofM out).l, .int .u64 (ofM out).m, .int .u64 (ofM out).t, .int .u64 (ofM out).s] 27 (0, 0))
  bel : Below w2.heap.size w2 wr
  siz : w2.heap.size + 1 ≤ wr.heap.size

set_option maxRecDepth 1000000 in
set_option maxHeartbeats 4000000 in
theorem total_main (w : World) (la : Option Addr) (c : Nat) (rows : List (List UInt8 × List (Int × Nat))) (hP : RowsP w la rows) (hQ : ∀ r, r ∈ rows → PtsIn r.2 ∧ (r.2.length : Int) ≤ 140737488355328 ∧ (r.1.length : Int) ≤ 140737488355328) (hnn : (rows.length : Int) ≤ 9223372036854775807) :
    Calls Try.prog 3 #[.slice la rows.length c] w fun e w' => e = .returned (.bool true) ∧ Below w.heap.size w w' := by
  by_cases hlong : 30 < rows.length
  · exact total_long w la _ c hnn hlong
  have HP : Hid (RowsP w la rows) := hP
  have HQ := (show Hid _ from hQ)
  obtain ⟨n, hn⟩ : ∃ n, rows.length = n := ⟨_, rfl⟩
  rw [hn] at hnn hlong ⊢
  have HN := (show Hid _ from hn)
  have hn1 : n ≤ 30 := by omega
  have d1 : decide ((30 : Int) < (n : Int)) = false := by simp; omega
  have HSU := (show Hid _ from summed_any w)
  clear hP hQ hn hlong
  go_enter Try.func3, Try.ntmps3
  go_wp2_with fail
  refine Calls.mono HSU.out ?_
  rintro e w1 ⟨rfl, hb1⟩
  have HB1 := (show Hid _ from hb1)
  have HOF : Hid (Calls Try.prog 5 #[.slice none 0 0] w1 fun e w' => e = .returned (.agg #[.int .i64 0, .int .u64 0, .int .u64 0, .int .u64 0, .int .u64 0]) ∧ Below w1.heap.size w1 w') := smOf_any w1 none 0 [] (.inl rfl) (fun p hp => absurd hp List.not_mem_nil) (by decide)
  clear hb1 HSU
  go_wp2_with fail
  refine Calls.mono HOF.out ?_
  rintro e w2 ⟨rfl, hb2⟩
  have HB2 : Hid (Below w.heap.size w w2) := HB1.out.trans (hb2.mono HB1.out.size)
  have H0 : Hid (TotAt w2 (w2.alloc (.cells #[.int .i64 0, .int .u64 0, .int .u64 0, .int .u64 0, .int .u64 0] 27)) (.slice none 0 0) (flat (rows.take 0))) := ⟨⟨rfl, .inl ⟨rfl, rfl⟩⟩, heap_alloc_new _ _, (Below.refl _ _).alloc (Nat.le_refl _) _, by simp⟩
  clear hb2 HOF
  go_wp2_with fail
  go_loopw [4, 6] (fun v i wr => ∃ k : Nat, k ≤ n ∧ i = .int .i64 k ∧ (flat (rows.take k)).length ≤ 200 ∧ TotAt w2 wr v (flat (rows.take k))) (fun _ i _ => n - (intOf i).toNat)
  case atStart => exact ⟨0, Nat.zero_le _, rfl, by simp [flat], H0.out⟩
  case round =>
    obtain ⟨k, hk, rfl, hl, ht⟩ := hrel
    obtain ⟨va, vc, rfl, _, hPv, _⟩ := own_pairs ht.own
    by_cases hlt : k < n
    · have hkl : k < rows.length := by have := HN.out; omega
      have hst : rows.take (k + 1) = rows.take k ++ [rows[k]] := List.take_succ_eq_append_getElem hkl
      have hq := HQ.out rows[k] (List.getElem_mem hkl)
      rcases HP.out with h | ⟨b, o, rfl, hc⟩
      · rw [h] at hkl; simp at hkl
      · obtain ⟨c0, A, C, c1, hPk⟩ := hc k hkl
        have hbl := World.block_lt_of_cell? w ⟨b, _, none⟩ c0
        have hbw : Below w.heap.size w wr := HB2.out.trans (ht.bel.mono HB2.out.size)
        rw [← hbw.cell (p := ⟨b, o + k * 2 + 1, none⟩) hbl] at c1
        have hkI : (k : Int) < (n : Int) := by omega
        have hk0 : (0 : Int) ≤ (k : Int) := by omega
        have hfs : flat (rows.take (k + 1)) = flat (rows.take k) ++ rows[k].2 := by rw [hst, flat_snoc]
        obtain ⟨m, hm⟩ : ∃ m, rows[k].2.length = m := ⟨_, rfl⟩
        rw [hm] at c1 hq
        obtain ⟨y, hy⟩ : ∃ y, (flat (rows.take k)).length = y := ⟨_, rfl⟩
        rw [hy] at hl ⊢
        have hmI : (m : Int) ≤ 140737488355328 := hq.2.1
        have HT := (show Hid _ from ht)
        have HBW := (show Hid _ from hbw)
        have HM := (show Hid _ from hm)
        have HY := (show Hid _ from hy)
        have HFS := (show Hid _ from hfs)
        clear hc hst ht hbw hm hy hfs c0
        by_cases hgt : 200 < y + m
        · have dg : decide ((200 : Int) < (y : Int) + (m : Int)) = true := by simp; omega
          go_wp2
          go_ret
          exact ⟨rfl, HBW.out⟩
        · have dg : decide ((200 : Int) < (y : Int) + (m : Int)) = false := by simp; omega
          have hIp : PtsIn rows[k].2 := hq.1
          have hIk : In (ofM (flat (rows.take k))) := in_of (fun p hp => by
            obtain ⟨r, hr, hp⟩ := mem_flat hp
            exact (HQ.out r (List.mem_of_mem_take hr)).1 p hp)
          have hsn : ofM (flat (rows.take (k + 1))) = addM (ofM (flat (rows.take k))) (ofM rows[k].2) := by rw [HFS.out, ofM_append]
          have hADD : ∀ w0, Calls Try.prog 6 #[smV (ofM (flat (rows.take k))), smV (ofM rows[k].2)] w0 fun e w' => e = .returned (smV (ofM (flat (rows.take (k + 1))))) ∧ Below w0.heap.size w0 w' := fun w0 => by
            rw [hsn]
            exact smAdd_any w0 _ _ (by rw [ofM_c, ofM_c, HY.out, HM.out]; omega) hIk (in_of hIp)
          have hOF : ∀ w0, Below w.heap.size w w0 → Calls Try.prog 5 #[.slice A m C] w0 fun e w' => e = .returned (smV (ofM rows[k].2)) ∧ Below w0.heap.size w0 w' := fun w0 h => by
            have := smOf_any w0 A C rows[k].2 (hPk.below h) hIp (by rw [HM.out]; omega)
            rw [HM.out] at this
            exact this
          have hPw := hPk.below HBW.out
          have hp2 : m = 0 ∨ ∃ b p, A = some ⟨b, p, none⟩ ∧ ∀ (j : Nat) u, (pairCells rows[k].2)[j]? = some u → wr.cell? ((⟨b, p, none⟩ : Addr).add j) = some u := by
            rcases hPw with h | ⟨b', o', h, hc'⟩
            · exact .inl (by rw [← HM.out, h]; rfl)
            · exact .inr ⟨b', o', h, news_pts hc'⟩
          have HPC := (show Hid _ from pairCells_append (flat (rows.take k)) rows[k].2)
          have hbk := HT.out.blk
          obtain ⟨S', hS'⟩ : ∃ S', ofM (flat (rows.take (k + 1))) = S' := ⟨_, rfl⟩
          rw [hS'] at hADD
          generalize ofM (flat (rows.take k)) = S at hADD hbk
          generalize ofM rows[k].2 = SA at hADD hOF
          obtain ⟨q1, q2, q3, q4, q5⟩ := S
          obtain ⟨r1, r2, r3, r4, r5⟩ := S'
          obtain ⟨a1, a2, a3, a4, a5⟩ := SA
          have HS' : Hid (ofM (flat (rows.take (k + 1))) = ⟨r1, r2, r3, r4, r5⟩) := hS'
          have HAD : Hid (∀ w0, Calls Try.prog 6 #[.agg #[.int .i64 q1, .int .u64 q2, .int .u64 q3, .int .u64 q4, .int .u64 q5], .agg #[.int .i64 a1, .int .u64 a2, .int .u64 a3, .int .u64 a4, .int .u64 a5]] w0 fun e w' => e = .returned (.agg #[.int .i64 r1, .int .u64 r2, .int .u64 r3, .int .u64 r4, .int .u64 r5]) ∧ Below w0.heap.size w0 w') := hADD
          have HOFW : Hid (∀ w0, Below w.heap.size w w0 → Calls Try.prog 5 #[.slice A m C] w0 fun e w' => e = .returned (.agg #[.int .i64 a1, .int .u64 a2, .int .u64 a3, .int .u64 a4, .int .u64 a5]) ∧ Below w0.heap.size w0 w') := hOF
          simp only at hbk
          have HBK := (show Hid _ from hbk)
          have HOWN : Hid (wr.ownsRow (w2.heap.size + 1) 38 2 (.slice va y vc) y (pairCells (flat (rows.take k)))) := by
            have := HT.out.own
            rw [HY.out] at this
            exact this
          have HP1 : Hid ((pairCells rows[k].2).length = m * 2) := by rw [length_pairCells, HM.out]; exact rfl
          have HP2 := (show Hid _ from hp2)
          obtain ⟨i0, hi, hz0, hz1, hz2⟩ := info_parts Try.infoPt
          clear hADD hOF hIk hIp hsn hS' hbk hPw hp2 hq hPk hPv
          go_wp2_with (at_builtin; refine wpList_append_any rfl _ _ 24 rfl (w2.heap.size + 1) 38 i0 (.agg #[.int .i64 0, .int .u64 0]) 2 16 Try.underlying24 hi hz0 hz1 hz2 rfl (by decide) _ y (pairCells (flat (rows.take k))) rfl HOWN.out A m C (pairCells rows[k].2) rfl HP1.out HP2.out (one_pairs _) ?p3 (by decide) HT.out.siz ?_)
          case p3 => omega
          intro v3 w3 hown3 hgr _
          rw [← HPC.out, ← HFS.out] at hown3
          have hown3' : w3.ownsRow (w2.heap.size + 1) 38 2 v3 (flat (rows.take (k + 1))).length (pairCells (flat (rows.take (k + 1)))) := by
            rw [HFS.out, List.length_append, HY.out, HM.out, ← HFS.out]
            exact hown3
          have hob : ∀ j, j ≤ w2.heap.size → some j ≠ (Value.slice va y vc).ownBlock := fun j hj e => by
            rcases HOWN.out.2 with ⟨hv0, _⟩ | ⟨g, cap, cur, hv0, hg', _⟩
            · rw [hv0] at e; simp [Value.ownBlock] at e
            · rw [hv0] at e; simp [Value.ownBlock] at e; omega
          have hsz := HT.out.siz
          have HOWN3 := (show Hid _ from hown3')
          have HG3 : Hid (wr.heap.size ≤ w3.heap.size) := hgr.size
          have HB3 : Hid (Below w2.heap.size w2 w3) := HT.out.bel.trans ⟨hgr.os, hgr.tape, hgr.output, hgr.size, fun j hj => hgr.block j (by omega) (hob j (by omega))⟩
          have HBW3 : Hid (Below w.heap.size w w3) := HB2.out.trans (HB3.out.mono HB2.out.size)
          have HK3 : Hid (w3.heap[w2.heap.size]? = some (.cells #[.int .i64 q1, .int .u64 q2, .int .u64 q3, .int .u64 q4, .int .u64 q5] 27 (0, 0))) := (hgr.block _ (by omega) (hob _ (Nat.le_refl _))).trans HBK.out
          have HOF : Hid (∀ w0, Below w3.heap.size w3 w0 → Calls Try.prog 5 #[.slice A m C] w0 fun e w' => e = .returned (.agg #[.int .i64 a1, .int .u64 a2, .int .u64 a3, .int .u64 a4, .int .u64 a5]) ∧ Below w0.heap.size w0 w') := fun w0 h => HOFW.out w0 (HBW3.out.trans (h.mono HBW3.out.size))
          have HC1 : Hid (w.cell? ⟨b, o + k * 2 + 1, none⟩ = some (.slice A m C)) := (HBW.out.cell (p := ⟨b, o + k * 2 + 1, none⟩) hbl).symm.trans c1
          have HSO : Hid (∀ z, Below w3.heap.size w3 z → (z.cell? ⟨w2.heap.size, 0, none⟩ = some (.int .i64 q1) ∧ z.cell? ⟨w2.heap.size, 1, none⟩ = some (.int .u64 q2) ∧ z.cell? ⟨w2.heap.size, 2, none⟩ = some (.int .u64 q3) ∧ z.cell? ⟨w2.heap.size, 3, none⟩ = some (.int .u64 q4) ∧ z.cell? ⟨w2.heap.size, 4, none⟩ = some (.int .u64 q5)) ∧ z.cell? ⟨b, o + k * 2 + 1, none⟩ = some (.slice A m C)) := fun z hz => by
            have h1 := (hz.block _ (lt_of_block HK3.out)).trans HK3.out
            exact ⟨⟨cells_of h1 0, cells_of h1 1, cells_of h1 2, cells_of h1 3, cells_of h1 4⟩, ((HBW3.out.trans (hz.mono HBW3.out.size)).cell (p := ⟨b, o + k * 2 + 1, none⟩) hbl).trans HC1.out⟩
          clear hown3 hown3' hgr hob hsz c1 HBK
          go_wp2_with fail
          refine wp_region_S (S := fun z => (z.cell? ⟨w2.heap.size, 0, none⟩ = some (.int .i64 q1) ∧ z.cell? ⟨w2.heap.size, 1, none⟩ = some (.int .u64 q2) ∧ z.cell? ⟨w2.heap.size, 2, none⟩ = some (.int .u64 q3) ∧ z.cell? ⟨w2.heap.size, 3, none⟩ = some (.int .u64 q4) ∧ z.cell? ⟨w2.heap.size, 4, none⟩ = some (.int .u64 q5)) ∧ z.cell? ⟨b, o + k * 2 + 1, none⟩ = some (.slice A m C)) (by kernel_rfl) 8 (HSO.out _ ((Below.refl _ _).drew)) (fun hHeld => ?_)
          refine wpAnyS_take (i := 0) (v := .agg #[.int .i64 q1, .int .u64 q2, .int .u64 q3, .int .u64 q4, .int .u64 q5]) rfl (by kernel_rfl) (by kernel_rfl) (by kernel_rfl) (by kernel_rfl) (by kernel_rfl) (by kernel_rfl) (fun _ _ _ h => h) (Or.inl ⟨by rfl, ?_⟩) hHeld ?_
          · intro w hSw
            obtain ⟨⟨j0, j1, j2, j3, j4⟩, j5⟩ := hSw
            go_simp
          try simp only [Act.put]
          refine wpAnyS_take0 (i := 1) (v := .slice (some ⟨b, o, none⟩) n c) rfl (by kernel_rfl) (by kernel_rfl) (by kernel_rfl) (by kernel_rfl) (fun _ _ _ h => h) (Or.inl ⟨by rfl, ?_⟩) (fun _ => hHeld) ?_
          · intro w _
            go_simp
          try simp only [Act.put]
          refine wpAnyS_take0 (i := 2) (v := .int .i64 (k : Int)) rfl (by kernel_rfl) (by kernel_rfl) (by kernel_rfl) (by kernel_rfl) (fun _ _ _ h => h) (Or.inl ⟨by rfl, ?_⟩) (fun _ => hHeld) ?_
          · intro w _
            go_simp
          try simp only [Act.put]
          refine wpAnyS_take0 (i := 3) (v := .pointer (some ⟨b, o + k * 2, none⟩)) rfl (by kernel_rfl) (by kernel_rfl) (by kernel_rfl) (by kernel_rfl) (fun _ _ _ h => h) (Or.inl ⟨by rfl, ?_⟩) (fun _ => hHeld) ?_
          · intro w _
            go_simp
          try simp only [Act.put]
          refine wpAnyS_take0 (i := 4) (v := .pointer (some ⟨b, o + k * 2 + 1, none⟩)) rfl (by kernel_rfl) (by kernel_rfl) (by kernel_rfl) (by kernel_rfl) (fun _ _ _ h => h) (Or.inl ⟨by rfl, ?_⟩) (fun _ => hHeld) ?_
          · intro w _
            go_simp
          try simp only [Act.put]
          refine wpAnyS_take (i := 5) (v := .slice A m C) rfl (by kernel_rfl) (by kernel_rfl) (by kernel_rfl) (by kernel_rfl) (by kernel_rfl) (by kernel_rfl) (fun _ _ _ h => h) (Or.inl ⟨by rfl, ?_⟩) hHeld ?_
          · intro w hSw
            obtain ⟨⟨j0, j1, j2, j3, j4⟩, j5⟩ := hSw
            go_simp
          try simp only [Act.put]
          refine wpAnyS_ready (rs := [6]) (by kernel_rfl) (by simp) ?_
          refine AllReadyS.cons rfl (fun K hK => ?_) AllReadyS.nil
          go_simp
          refine Calls.mono (HOF.out _ ((Below.refl _ _).drew)) ?_
          rintro e w4 ⟨rfl, hw4⟩
          dsimp only
          have Hw4 : Hid (Below w3.heap.size w3 w4) := ((Below.refl _ _).drew).trans (hw4.mono (by simp))
          refine hK.out _ _ (HSO.out _ Hw4.out) ?_
          clear hK K
          try simp only [Act.put]
          refine wpAnyS_ready (rs := [7]) (by kernel_rfl) (by simp) ?_
          refine AllReadyS.cons rfl (fun K hK => ?_) AllReadyS.nil
          go_simp
          refine Calls.mono (HAD.out _) ?_
          rintro e w5 ⟨rfl, hw5⟩
          dsimp only
          have Hw5 : Hid (Below w3.heap.size w3 w5) := Hw4.out.trans (hw5.mono Hw4.out.size)
          refine hK.out _ _ (HSO.out _ Hw5.out) ?_
          clear hK K
          try simp only [Act.put]
          have hkk := (Hw5.out.block _ (lt_of_block HK3.out)).trans HK3.out
          have z0 := cells_of hkk 0
          have z1 := cells_of hkk 1
          have z2 := cells_of hkk 2
          have z3 := cells_of hkk 3
          have z4 := cells_of hkk 4
          simp at z0 z1 z2 z3 z4
          have f0 := frozen_of hkk 0
          have f1 := frozen_of hkk 1
          have f2 := frozen_of hkk 2
          have f3 := frozen_of hkk 3
          have f4 := frozen_of hkk 4
          have HS5 := (show Hid _ from set5 hkk (.int .i64 r1) (.int .u64 r2) (.int .u64 r3) (.int .u64 r4) (.int .u64 r5))
          clear hkk hw5 hw4
          refine wpAnyS_ready (rs := [8]) (by kernel_rfl) (by simp) ?_
          refine AllReadyS.last rfl (by kernel_rfl) (fun K hK => ?_) AllReadyS.nil
          go_simp
          refine hK.out _ _ ?_
          clear hK K
          refine wpAnyS_done (by kernel_rfl) ?_ _
          go_wp2
          go_roundw
          case rel =>
            refine ⟨k + 1, by omega, by go_num, by rw [HFS.out, List.length_append, HY.out, HM.out]; omega, ⟨?_, by rw [HS'.out]; exact HS5.out, bel5 (HB3.out.trans (Hw5.out.mono HB3.out.size)) (Nat.le_refl _) _ _ _ _ _, ?_⟩⟩
            · have hg : w3.grownBy (((((w5.setCell ⟨w2.heap.size, 0, none⟩ (.int .i64 r1)).setCell ⟨w2.heap.size, 1, none⟩ (.int .u64 r2)).setCell ⟨w2.heap.size, 2, none⟩ (.int .u64 r3)).setCell ⟨w2.heap.size, 3, none⟩ (.int .u64 r4)).setCell ⟨w2.heap.size, 4, none⟩ (.int .u64 r5)) (some w2.heap.size) :=
                ⟨Hw5.out.os, Hw5.out.tape, Hw5.out.output, by simp only [World.size_setCell]; exact Hw5.out.size, fun j hj hne => by rw [oth5 (fun e => hne (by rw [e])), Hw5.out.block j hj]⟩
              refine World.ownsRow.kept HOWN3.out hg ?_
              rcases HOWN3.out.2 with ⟨hv0, _⟩ | ⟨g, cap, cur, hv0, hg', _⟩
              · exact .inl (by rw [hv0]; rfl)
              · exact .inr (by rw [hv0]; simp [Value.ownBlock]; omega)
            · simp only [World.size_setCell]
              exact Nat.le_trans (Nat.le_trans HT.out.siz HG3.out) Hw5.out.size
          case measure => simp [intOf] <;> omega
    · obtain rfl : k = n := by omega
      have hge : (k : Int) ≤ (k : Int) := Int.le_refl _
      have htk : rows.take k = rows := by rw [← HN.out]; exact List.take_length
      rw [htk] at hl ht hPv ⊢
      have hI : ∀ r, r ∈ rows → PtsIn r.2 := fun r hr => (HQ.out r hr).1
      have hIf : PtsIn (flat rows) := fun p hp => by
        obtain ⟨r, hr, hp⟩ := mem_flat hp
        exact hI r hr p hp
      have hbw : Below w.heap.size w wr := HB2.out.trans (ht.bel.mono HB2.out.size)
      have hTOT : ∀ w0, Below wr.heap.size wr w0 → Calls Try.prog 8 #[.slice la k c] w0 fun e w' => e = .returned (smV (ofM (flat rows))) ∧ Below w0.heap.size w0 w' := fun w0 h => by
        have := smTotal_any w0 la c rows (HP.out.below (hbw.trans (h.mono hbw.size))) hI (by rw [HN.out]; omega) (by omega)
        rw [HN.out] at this
        exact this
      have hSUM : ∀ w0, Below wr.heap.size wr w0 → Calls Try.prog 9 #[.slice va (flat rows).length vc] w0 fun e w' => e = .returned (smV (ofM (flat rows))) ∧ Below w0.heap.size w0 w' := fun w0 h => mSumOf_any w0 va vc (flat rows) (hPv.below h) hIf (by omega)
      have hblk := ht.blk
      generalize (flat rows).length = y at *
      generalize ofM (flat rows) = S at *
      obtain ⟨q1, q2, q3, q4, q5⟩ := S
      simp only at hblk
      have HHD : Hid (∀ z, Below wr.heap.size wr z → z.cell? ⟨w2.heap.size, 0, none⟩ = some (.int .i64 q1) ∧ z.cell? ⟨w2.heap.size, 1, none⟩ = some (.int .u64 q2) ∧ z.cell? ⟨w2.heap.size, 2, none⟩ = some (.int .u64 q3) ∧ z.cell? ⟨w2.heap.size, 3, none⟩ = some (.int .u64 q4) ∧ z.cell? ⟨w2.heap.size, 4, none⟩ = some (.int .u64 q5)) := fun z hz => by
        have h1 := (hz.block _ (lt_of_block hblk)).trans hblk
        exact ⟨cells_of h1 0, cells_of h1 1, cells_of h1 2, cells_of h1 3, cells_of h1 4⟩
      have HTOT : Hid (∀ w0, Below wr.heap.size wr w0 → Calls Try.prog 8 #[.slice la k c] w0 fun e z => e = .returned (.agg #[.int .i64 q1, .int .u64 q2, .int .u64 q3, .int .u64 q4, .int .u64 q5]) ∧ (z.cell? ⟨w2.heap.size, 0, none⟩ = some (.int .i64 q1) ∧ z.cell? ⟨w2.heap.size, 1, none⟩ = some (.int .u64 q2) ∧ z.cell? ⟨w2.heap.size, 2, none⟩ = some (.int .u64 q3) ∧ z.cell? ⟨w2.heap.size, 3, none⟩ = some (.int .u64 q4) ∧ z.cell? ⟨w2.heap.size, 4, none⟩ = some (.int .u64 q5)) ∧ Below wr.heap.size wr z) := fun w0 h => by
        refine (hTOT w0 h).mono ?_
        rintro e z ⟨rfl, hb⟩
        have h2 := h.trans (hb.mono h.size)
        exact ⟨rfl, HHD.out z h2, h2⟩
      have HSUM : Hid (∀ w0, Below wr.heap.size wr w0 → Calls Try.prog 9 #[.slice va y vc] w0 fun e z => e = .returned (.agg #[.int .i64 q1, .int .u64 q2, .int .u64 q3, .int .u64 q4, .int .u64 q5]) ∧ (z.cell? ⟨w2.heap.size, 0, none⟩ = some (.int .i64 q1) ∧ z.cell? ⟨w2.heap.size, 1, none⟩ = some (.int .u64 q2) ∧ z.cell? ⟨w2.heap.size, 2, none⟩ = some (.int .u64 q3) ∧ z.cell? ⟨w2.heap.size, 3, none⟩ = some (.int .u64 q4) ∧ z.cell? ⟨w2.heap.size, 4, none⟩ = some (.int .u64 q5)) ∧ Below wr.heap.size wr z) := fun w0 h => by
        refine (hSUM w0 h).mono ?_
        rintro e z ⟨rfl, hb⟩
        have h2 := h.trans (hb.mono h.size)
        exact ⟨rfl, HHD.out z h2, h2⟩
      have HSAM : Hid (∀ w0, Below wr.heap.size wr w0 → Calls Try.prog 7 #[.agg #[.int .i64 q1, .int .u64 q2, .int .u64 q3, .int .u64 q4, .int .u64 q5], .agg #[.int .i64 q1, .int .u64 q2, .int .u64 q3, .int .u64 q4, .int .u64 q5]] w0 fun e z => e = .returned (.bool true) ∧ (z.cell? ⟨w2.heap.size, 0, none⟩ = some (.int .i64 q1) ∧ z.cell? ⟨w2.heap.size, 1, none⟩ = some (.int .u64 q2) ∧ z.cell? ⟨w2.heap.size, 2, none⟩ = some (.int .u64 q3) ∧ z.cell? ⟨w2.heap.size, 3, none⟩ = some (.int .u64 q4) ∧ z.cell? ⟨w2.heap.size, 4, none⟩ = some (.int .u64 q5)) ∧ Below wr.heap.size wr z) := fun w0 h => by
        refine (sameSum_any w0 ⟨q1, q2, q3, q4, q5⟩).mono ?_
        rintro e z ⟨rfl, hb⟩
        have h2 := h.trans (hb.mono h.size)
        exact ⟨rfl, HHD.out z h2, h2⟩
      have HC0 : Hid (Below wr.heap.size wr wr) := Below.refl _ _
      obtain ⟨k0, k1, k2, k3, k4⟩ := HHD.out wr HC0.out
      have HBW := (show Hid _ from hbw)
      have HTOK : Hid True := trivial
      clear hTOT hSUM hblk ht hPv hbw hI hIf htk
      go_wp2_with fail
      go_region_held3 (fun z => z.cell? ⟨w2.heap.size, 0, none⟩ = some (.int .i64 q1) ∧ z.cell? ⟨w2.heap.size, 1, none⟩ = some (.int .u64 q2) ∧ z.cell? ⟨w2.heap.size, 2, none⟩ = some (.int .u64 q3) ∧ z.cell? ⟨w2.heap.size, 3, none⟩ = some (.int .u64 q4) ∧ z.cell? ⟨w2.heap.size, 4, none⟩ = some (.int .u64 q5)) (go_keep) ((first | (go_at_call 8; clear HTOK; refine Calls.mono (HTOT.out _ (by first | exact HC0.out | exact (HC0.out).drew)) ?_; rintro e w5 ⟨rfl, ⟨k0, k1, k2, k3, k4⟩, hc5⟩; have HC5 := (show Hid _ from hc5); clear hc5) | (go_at_call 9; refine Calls.mono (HSUM.out _ HC5.out) ?_; rintro e w6 ⟨rfl, ⟨k0, k1, k2, k3, k4⟩, hc6⟩; have HC6 := (show Hid _ from hc6); clear hc6) | (go_at_call 7; refine Calls.mono (HSAM.out _ HC6.out) ?_; rintro e w7 ⟨rfl, ⟨k0, k1, k2, k3, k4⟩, hc7⟩; have HC7 := (show Hid _ from hc7); clear hc7) | (go_at_call 8; refine Calls.mono (HTOT.out _ HC7.out) ?_; rintro e w8 ⟨rfl, ⟨k0, k1, k2, k3, k4⟩, hc8⟩; have HC8 := (show Hid _ from hc8); clear hc8)))
      go_wp2
      go_ret
      exact ⟨by simp, HBW.out.trans (HC8.out.mono HBW.out.size)⟩
end Go.Proofs.Ytegcalkeopkhfaa
