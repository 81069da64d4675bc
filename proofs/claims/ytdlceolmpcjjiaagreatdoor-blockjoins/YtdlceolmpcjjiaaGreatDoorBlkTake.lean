/- block's both: its closure by its contract. -/
import Derived.Test.YtdlceolmpcjjiaaGreatDoorJoinMap
import Derived.Test.YtdlceolmpcjjiaaGreatDoorBlkTwoGroup
import Derived.Test.YtdlceolmpcjjiaaGreatDoorPtMerge
namespace Go.Proofs.YtdlceolmpcjjiaaGreatDoor
open Go.RowKit Go.Maps LabMath PtMath JoinMath

section
variable {P : Program} {ops : Array Oper} {Q : Exit → Act → World → Prop} {md : Region.Mode} {S : World → Prop} {st : Nat}
theorem wpAnyS_takeD {i : Nat} {oi : Oper} {d : Option Tmp} {v : Value} {n : Nat} {up : Array Bool} {a : Act} {w : World} (hi : ops[i]? = some oi) (hd : oi.dst = d) (hs : Region.noSelect ops = true) (hf : Region.free md ops up i = true) (hr : (Region.ready md ops up).contains i = true) (hw : waitsFor md ops st i = true) (hne : (st == i) = false) (hst : up.getD st true = false)
    (hQ : ∀ c a w, Q (.panic c) (a.put d v) w → Q (.panic c) a w) (hy : YieldsIf P ops S oi v a) (hS : S w) (h : wpAnyS P md ops Q S st n (up.setIfInBounds i true) (a.put d v) w) : wpAnyS P md ops Q S st (n + 1) up a w := by
  subst hd
  exact wpAnyS_take hi hs hf hr hw hne hst hQ hy hS h
theorem wpAnyS_take0D {i : Nat} {oi : Oper} {d : Option Tmp} {v : Value} {n : Nat} {up : Array Bool} {a : Act} {w : World} (hi : ops[i]? = some oi) (hd : oi.dst = d) (hs : Region.noSelect ops = true) (hf : Region.free md ops up i = true) (hr : (Region.ready md ops up).contains i = true) (hne : (st == i) = false)
    (hQ : ∀ c a w, Q (.panic c) (a.put d v) w → Q (.panic c) a w) (hy : YieldsIf P ops (fun _ => True) oi v a) (hS : up.getD st true = false → S w) (h : wpAnyS P md ops Q S st n (up.setIfInBounds i true) (a.put d v) w) : wpAnyS P md ops Q S st (n + 1) up a w := by
  subst hd
  exact wpAnyS_take0 hi hs hf hr hne hQ hy hS h
end
/-- The closure on its way: the map holds the first rows. -/
structure TkAt (wE wr : World) (mb pb nb : Nat) (S : List Rw) (sv : List UInt8 → Value) : Prop where
  pm : PmAt wr mb nb wE.heap.size S sv
  var : wr.heap[pb]? = some (.cells #[.map (some mb)] 143 (0, 0))
  bel : Below wE.heap.size wE wr
  len : ∀ r, r ∈ S → r.2.length ≤ 120 * nb ∧ r.1.length ≤ 1000
theorem TkAt.below {wE wr z : World} {mb pb nb : Nat} {S : List Rw} {sv : List UInt8 → Value} (h : TkAt wE wr mb pb nb S sv) (hb : Below wr.heap.size wr z) : TkAt wE z mb pb nb S sv :=
  ⟨h.pm.below hb, (hb.block _ (blk_lt h.var)).trans h.var, h.bel.trans (hb.mono h.bel.size), h.len⟩

set_option maxRecDepth 1000000 in
set_option maxHeartbeats 1000000 in
theorem both1_any (wE w : World) (la : Option Addr) (c : Nat) (F : List Rw) (hP : RowsP wE la F) (hF : ∀ r, r ∈ F → r.2 ≠ [] ∧ r.2.length ≤ 120 ∧ r.1.length ≤ 1000) (hn : F.length ≤ 60) (mb pb nb : Nat) (S : List Rw) (sv : List UInt8 → Value) (h : TkAt wE w mb pb nb S sv) (hmb : wE.heap.size ≤ mb) (hpb : wE.heap.size ≤ pb) (hnb : nb ≤ 100) :
    Calls Tryz.prog 84 #[.slice la F.length c, .pointer (some ⟨pb, 0, none⟩)] w fun e w' => e = .returned (.tuple #[]) ∧ ∃ sv', TkAt wE w' mb pb (nb + F.length) (takeR S F) sv' := by
  have HP : Hid (RowsP wE la F) := hP
  have HF := (show Hid _ from hF)
  have HMB := (show Hid _ from hmb)
  have HPB := (show Hid _ from hpb)
  have H0 : Hid (TkAt wE w mb pb (nb + 0) (takeR S (F.take 0)) sv) := h
  obtain ⟨n, hnn⟩ : ∃ n, F.length = n := ⟨_, rfl⟩
  rw [hnn] at hn ⊢
  have HN := (show Hid _ from hnn)
  clear hP hF h hnn hmb hpb
  go_enter Tryz.func84, Tryz.ntmps84
  go_wp2_with fail
  go_loopw [4, 7] (fun _ i wr => ∃ (k : Nat) (sw : List UInt8 → Value), k ≤ n ∧ i = .int .i64 k ∧ TkAt wE wr mb pb (nb + k) (takeR S (F.take k)) sw) (fun _ i _ => n - (intOf i).toNat)
  case atStart => exact ⟨0, _, Nat.zero_le _, rfl, H0.out⟩
  case round =>
    obtain ⟨k, sw, hk, rfl, ht⟩ := hrel
    clear H0
    by_cases hlt : k < n
    · have hkl : k < F.length := by have := HN.out; omega
      have hst : F.take (k + 1) = F.take k ++ [F[k]] := List.take_succ_eq_append_getElem hkl
      obtain ⟨hf1, hf2, hf3⟩ := HF.out F[k] (List.getElem_mem hkl)
      have hPw : RowsP wr la F := HP.out.below ht.bel
      rcases hPw with hx | ⟨b, o, rfl, hc⟩
      · rw [hx] at hkl; simp at hkl
      · obtain ⟨c0, A, C, c1, hPk⟩ := hc k hkl
        rcases hPk with hx | ⟨ab, ao, rfl, hcp⟩
        · exact absurd hx hf1
        obtain ⟨nm, hnm⟩ : ∃ nm : ByteArray, nm = ⟨F[k].1.toArray⟩ := ⟨_, rfl⟩
        have c0' : wr.cell? ⟨b, o + k * 2, none⟩ = some (.string nm) := by rw [hnm]; exact c0
        have hnd : nm.data.toList = F[k].1 := by rw [hnm]
        obtain ⟨m, hm⟩ : ∃ m, F[k].2.length = m := ⟨_, rfl⟩
        rw [hm] at c1 hf2
        have hm0 : 0 < m := by
          rw [← hm]
          cases he : F[k].2 with
          | nil => exact absurd he hf1
          | cons => simp
        obtain ⟨W0, hW0⟩ : ∃ W0, W0 = wr.alloc (.cells #[.string nm, .slice (some ⟨ab, ao, none⟩) m C] 61) := ⟨_, rfl⟩
        have hbW : Below wr.heap.size wr W0 := by rw [hW0]; exact (Below.refl _ _).alloc (Nat.le_refl _) _
        have hsW : W0.heap.size = wr.heap.size + 1 := by rw [hW0]; simp
        have hkW : W0.heap[wr.heap.size]? = some (.cells #[.string nm, .slice (some ⟨ab, ao, none⟩) m C] 61 (0, 0)) := by rw [hW0]; exact heap_alloc_new _ _
        have htW := ht.below hbW
        have htD : TkAt wE W0.drew mb pb (nb + k) (takeR S (F.take k)) sw := htW.below ((Below.refl _ _).drew)
        have hns : nm.size ≤ 1000 := by
          have e : nm.size = F[k].1.length := by rw [hnm]; simp [ByteArray.size]
          omega
        obtain ⟨v0, old, hfd, hlook⟩ := htD.pm.look nm hns
        have hown0 : W0.drew.ownsRow wE.heap.size 71 2 v0 old.length (pairCells old) := hfd.own htD.pm
        have hol : old.length ≤ 20000 := by
          rcases hfd with ⟨_, _, rfl⟩ | ⟨r, hr, _, _, rfl⟩
          · exact Nat.zero_le _
          · have := (htD.len r hr).1
            omega
        have hvb : ∀ q cs t f, W0.drew.heap[q]? = some (.cells cs t f) → t ≠ 71 → some q ≠ v0.ownBlock := fun q cs t f hq ht' e => by
          obtain ⟨_, _, cur, hc⟩ := own_blk hown0 e.symm
          rw [hq] at hc
          injection hc with hc
          injection hc with _ hc
          exact ht' hc
        have hpW : W0.drew.heap[pb]? = some (.cells #[.map (some mb)] 143 (0, 0)) := htD.var
        have hkD : W0.drew.heap[wr.heap.size]? = some (.cells #[.string nm, .slice (some ⟨ab, ao, none⟩) m C] 61 (0, 0)) := hkW
        have hS1 : ∀ z : World, W0.drew.grownBy z v0.ownBlock → z.cell? ⟨pb, 0, none⟩ = some (.map (some mb)) ∧ z.cell? ⟨wr.heap.size, 0, none⟩ = some (.string nm) ∧ z.cell? ⟨wr.heap.size, 1, none⟩ = some (.slice (some ⟨ab, ao, none⟩) m C) ∧ (Instr.lookup 143 (.map (some mb)) (.string nm) false).run Tryz.prog z = .ok v0 z := fun z hz => by
          have e1 := (hz.block pb (blk_lt hpW) (hvb pb _ _ _ hpW (by decide))).trans hpW
          have e2 := (hz.block wr.heap.size (blk_lt hkD) (hvb wr.heap.size _ _ _ hkD (by decide))).trans hkD
          obtain ⟨D, hD, _⟩ := htD.pm.map
          refine ⟨cells_of e1 0, cells_of e2 0, cells_of e2 1, hlook z (hz.block mb hD.lt fun e => ?_)⟩
          obtain ⟨_, _, cur, hc⟩ := own_blk hown0 e.symm
          exact htD.pm.ne_map hc rfl
        have HSD : Hid ((fun z : World => z.cell? ⟨pb, 0, none⟩ = some (.map (some mb)) ∧ z.cell? ⟨wr.heap.size, 0, none⟩ = some (.string nm) ∧ z.cell? ⟨wr.heap.size, 1, none⟩ = some (.slice (some ⟨ab, ao, none⟩) m C) ∧ (Instr.lookup 143 (.map (some mb)) (.string nm) false).run Tryz.prog z = .ok v0 z) W0.drew) := hS1 W0.drew ⟨rfl, rfl, rfl, Nat.le_refl _, fun _ _ _ => rfl⟩
        have HS1F : Hid (∀ z : World, W0.drew.grownBy z v0.ownBlock → z.cell? ⟨pb, 0, none⟩ = some (.map (some mb)) ∧ z.cell? ⟨wr.heap.size, 0, none⟩ = some (.string nm) ∧ z.cell? ⟨wr.heap.size, 1, none⟩ = some (.slice (some ⟨ab, ao, none⟩) m C) ∧ (Instr.lookup 143 (.map (some mb)) (.string nm) false).run Tryz.prog z = .ok v0 z) := hS1
        have hbE : Below wE.heap.size wE W0.drew := htD.bel
        have HBS : Hid (wE.heap.size ≤ W0.drew.heap.size) := hbE.size
        have HNX : Hid (∀ (w2 : World) (sx : List UInt8 → Value), PmAt w2 mb (nb + k + 1) wE.heap.size (insR (takeR S (F.take k)) (nm.data.toList, F[k].2)) sx → Below wE.heap.size W0.drew w2 → (∀ q, q < W0.drew.heap.size → some q ≠ v0.ownBlock → q ≠ mb → w2.heap[q]? = W0.drew.heap[q]?) → TkAt wE w2 mb pb (nb + (k + 1)) (takeR S (F.take (k + 1))) sx) := fun w2 sx g1 g2 g3 => by
          have e : insR (takeR S (F.take k)) (nm.data.toList, F[k].2) = takeR S (F.take (k + 1)) := by rw [hst, takeR_snoc, hnd]
          refine ⟨by rw [← e]; exact g1, (g3 pb (blk_lt hpW) (hvb pb _ _ _ hpW (by decide)) (htD.pm.ne_map hpW)).trans hpW, hbE.trans g2, fun r hr => ?_⟩
          rw [← e] at hr
          rcases (insR_mem htD.pm.up).1 hr with ⟨hr', _⟩ | ⟨q, hq, hqk, rfl⟩ | ⟨_, rfl⟩
          · have := htD.len r hr'
            omega
          · have := htD.len q hq
            refine ⟨?_, this.2⟩
            show (q.2 ++ F[k].2).length ≤ _
            rw [List.length_append, hm]
            omega
          · refine ⟨?_, ?_⟩
            · show F[k].2.length ≤ _
              rw [hm]
              omega
            · show nm.data.toList.length ≤ _
              rw [hnd]
              exact hf3
        have HPM : Hid (PmAt W0.drew mb (nb + k) wE.heap.size (takeR S (F.take k)) sw) := htD.pm
        have HFD := (show Hid _ from hfd)
        have HOW : Hid (W0.drew.ownsRow wE.heap.size 71 2 v0 old.length (pairCells old)) := hown0
        have HP1 : Hid ((pairCells F[k].2).length = m * 2) := by rw [length_pairCells, hm]; exact rfl
        have HNW : Hid (∀ (j : Nat) u, (pairCells F[k].2)[j]? = some u → W0.drew.cell? ((⟨ab, ao, none⟩ : Addr).add j) = some u) := news_pts fun j hj => by
          obtain ⟨e1, e2⟩ := hcp j hj
          have hl := World.block_lt_of_cell? wr ⟨ab, _, none⟩ e1
          exact ⟨(hbW.cell (p := ⟨ab, ao + j * 2, none⟩) hl).trans e1, (hbW.cell (p := ⟨ab, ao + j * 2 + 1, none⟩) hl).trans e2⟩
        have HM := (show Hid _ from hm)
        have HNM := (show Hid _ from hns)
        have HN1 : Hid (nb + k < 1000) := by show _ < _; omega
        have HM0 : Hid (0 < m) := hm0
        have HML : Hid (old.length + m ≤ maxLen) := by show _ ≤ _; unfold maxLen; omega
        have HBY : Hid ((old.length + m) * 16 ≤ 140737488355328) := by show _ ≤ _; omega
        have hkI : (k : Int) < (n : Int) := by omega
        have hk0 : (0 : Int) ≤ (k : Int) := by omega
        obtain ⟨i0, hi, hz0, hz1, hz2⟩ := info_parts Tryz.infoPt
        clear hc hst hf1 hf3 c0 hcp hnm hnd hbW hsW hkW htW htD hfd hlook hown0 hvb hpW hkD hS1 hbE hns hm ht hm0 hf2 hol
        go_wp2_with fail
        rw [← hW0]
        clear hW0
        refine wp_region_S (S := fun z => z.cell? ⟨pb, 0, none⟩ = some (.map (some mb)) ∧ z.cell? ⟨wr.heap.size, 0, none⟩ = some (.string nm) ∧ z.cell? ⟨wr.heap.size, 1, none⟩ = some (.slice (some ⟨ab, ao, none⟩) m C) ∧ (Instr.lookup 143 (.map (some mb)) (.string nm) false).run Tryz.prog z = .ok v0 z) (by kernel_rfl) 10 HSD.out (fun hHeld => ?_)
        refine wpAnyS_takeD (i := 0) (d := some 11) (v := .map (some mb)) rfl rfl (by kernel_rfl) (by kernel_rfl) (by kernel_rfl) (by kernel_rfl) (by kernel_rfl) (by kernel_rfl) (fun _ _ _ h => h) (Or.inl ⟨by rfl, ?_⟩) hHeld ?_
        · intro w hSw
          obtain ⟨jh0, jh1, jh2, jh3⟩ := hSw
          go_simp
        simp only [Act.put, List.setIfInBounds_toArray, List.set_cons_succ, List.set_cons_zero]
        refine wpAnyS_take0D (i := 1) (d := some 12) (v := .pointer (some ⟨wr.heap.size, 0, none⟩)) rfl rfl (by kernel_rfl) (by kernel_rfl) (by kernel_rfl) (by kernel_rfl) (fun _ _ _ h => h) (Or.inl ⟨by rfl, ?_⟩) (fun _ => hHeld) ?_
        · intro w _
          go_simp
        simp only [Act.put, List.setIfInBounds_toArray, List.set_cons_succ, List.set_cons_zero]
        refine wpAnyS_takeD (i := 2) (d := some 13) (v := .string nm) rfl rfl (by kernel_rfl) (by kernel_rfl) (by kernel_rfl) (by kernel_rfl) (by kernel_rfl) (by kernel_rfl) (fun _ _ _ h => h) (Or.inl ⟨by rfl, ?_⟩) hHeld ?_
        · intro w hSw
          obtain ⟨jh0, jh1, jh2, jh3⟩ := hSw
          go_simp
        simp only [Act.put, List.setIfInBounds_toArray, List.set_cons_succ, List.set_cons_zero]
        refine wpAnyS_takeD (i := 3) (d := some 14) (v := .map (some mb)) rfl rfl (by kernel_rfl) (by kernel_rfl) (by kernel_rfl) (by kernel_rfl) (by kernel_rfl) (by kernel_rfl) (fun _ _ _ h => h) (Or.inl ⟨by rfl, ?_⟩) hHeld ?_
        · intro w hSw
          obtain ⟨jh0, jh1, jh2, jh3⟩ := hSw
          go_simp
        simp only [Act.put, List.setIfInBounds_toArray, List.set_cons_succ, List.set_cons_zero]
        refine wpAnyS_take0D (i := 4) (d := some 15) (v := .pointer (some ⟨wr.heap.size, 0, none⟩)) rfl rfl (by kernel_rfl) (by kernel_rfl) (by kernel_rfl) (by kernel_rfl) (fun _ _ _ h => h) (Or.inl ⟨by rfl, ?_⟩) (fun _ => hHeld) ?_
        · intro w _
          go_simp
        simp only [Act.put, List.setIfInBounds_toArray, List.set_cons_succ, List.set_cons_zero]
        refine wpAnyS_takeD (i := 5) (d := some 16) (v := .string nm) rfl rfl (by kernel_rfl) (by kernel_rfl) (by kernel_rfl) (by kernel_rfl) (by kernel_rfl) (by kernel_rfl) (fun _ _ _ h => h) (Or.inl ⟨by rfl, ?_⟩) hHeld ?_
        · intro w hSw
          obtain ⟨jh0, jh1, jh2, jh3⟩ := hSw
          go_simp
        simp only [Act.put, List.setIfInBounds_toArray, List.set_cons_succ, List.set_cons_zero]
        refine wpAnyS_takeD (i := 6) (d := some 17) (v := v0) rfl rfl (by kernel_rfl) (by kernel_rfl) (by kernel_rfl) (by kernel_rfl) (by kernel_rfl) (by kernel_rfl) (fun _ _ _ h => h) (Or.inl ⟨by rfl, ?_⟩) hHeld ?_
        · intro w hSw
          obtain ⟨jh0, jh1, jh2, jh3⟩ := hSw
          go_simp
        simp only [Act.put, List.setIfInBounds_toArray, List.set_cons_succ, List.set_cons_zero]
        refine wpAnyS_take0D (i := 7) (d := some 18) (v := .pointer (some ⟨wr.heap.size, 1, none⟩)) rfl rfl (by kernel_rfl) (by kernel_rfl) (by kernel_rfl) (by kernel_rfl) (fun _ _ _ h => h) (Or.inl ⟨by rfl, ?_⟩) (fun _ => hHeld) ?_
        · intro w _
          go_simp
        simp only [Act.put, List.setIfInBounds_toArray, List.set_cons_succ, List.set_cons_zero]
        refine wpAnyS_takeD (i := 8) (d := some 19) (v := .slice (some ⟨ab, ao, none⟩) m C) rfl rfl (by kernel_rfl) (by kernel_rfl) (by kernel_rfl) (by kernel_rfl) (by kernel_rfl) (by kernel_rfl) (fun _ _ _ h => h) (Or.inl ⟨by rfl, ?_⟩) hHeld ?_
        · intro w hSw
          obtain ⟨jh0, jh1, jh2, jh3⟩ := hSw
          go_simp
        simp only [Act.put, List.setIfInBounds_toArray, List.set_cons_succ, List.set_cons_zero]
        refine wpAnyS_ready (rs := [9]) (by kernel_rfl) (by simp) ?_
        refine AllReadyS.cons rfl (fun K hK => ?_) AllReadyS.nil
        refine step_append_lies _ (by rfl) _ _ 48 (by rfl) wE.heap.size 71 i0 (.agg #[.int .i64 0, .int .u64 0]) 2 16 Tryz.underlying48 hi hz0 hz1 hz2 rfl (by decide) v0 old.length (pairCells old) (by rfl) HOW.out ⟨ab, ao, none⟩ m C (pairCells F[k].2) (by rfl) HP1.out HNW.out (one_pairs _) HM0.out HML.out HBY.out HBS.out _ rfl ?_
        intro g1 cap1 w1 hown1 hgr1 hat1 hlt1
        obtain ⟨w2, hrun, hpm, hbel, hsz2, hold⟩ := HPM.out.put HMB.out HBS.out nm HNM.out HN1.out F[k].2 (v' := .slice (some ⟨g1, 0, none⟩) (old.length + m) cap1) (g := g1) HFD.out rfl (by rw [List.length_append, HM.out, pairCells_append]; exact hown1) hgr1 hat1
        have HS1 := (show Hid _ from HS1F.out w1 hgr1)
        have HPM2 := (show Hid _ from hpm)
        have HBL2 := (show Hid _ from hbel)
        have HHO := (show Hid _ from hold)
        clear hown1 hgr1 hat1 hlt1 hpm hbel hold hsz2
        refine hK.out _ _ HS1.out ?_
        clear hK K
        try simp only [Act.put]
        refine wpAnyS_ready (rs := [10]) (by kernel_rfl) (by simp) ?_
        refine AllReadyS.last rfl (by kernel_rfl) (fun K hK => ?_) AllReadyS.nil
        go_simp
        refine hK.out _ _ ?_
        clear hK K
        refine wpAnyS_done (by kernel_rfl) ?_ _
        clear hrun
        go_wp2
        go_roundw
        case rel => exact ⟨k + 1, _, by omega, by go_num, HNX.out w2 _ HPM2.out HBL2.out HHO.out⟩
        case measure => simp [intOf] <;> omega
    · obtain rfl : k = n := by omega
      have hta : F.take k = F := by rw [← HN.out]; exact List.take_length
      rw [hta] at ht
      have HT := (show Hid _ from ht)
      clear ht
      go_wp2
      exact bodyPost_end (v := .tuple #[]) (by simp [results, Tryz.results84, go_sem]) rfl ⟨rfl, _, HT.out⟩
end Go.Proofs.YtdlceolmpcjjiaaGreatDoor
