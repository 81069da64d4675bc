/- What the statements on blocks call beside the package: long, ownRows, asModel. -/
import Derived.Test.YtdlceolmpcjjiaaGreatDoorBlkTwoGroup
import Derived.Test.YtdlceolmpcjjiaaGreatDoorHeadAtGroup
import Derived.Test.YtdlceolmpcjjiaaGreatDoorSortStr
import Derived.Sort.KeysCollected
import Derived.Deep.AppendLies
import Derived.Test.YtdlceolmpcjjiaaGreatDoorPtListGroup
namespace Go.Proofs.YtdlceolmpcjjiaaGreatDoor
open Go.RowKit Go.Maps PtMath

/-- What long answers. -/
def LongR (w w' : World) (rows : List (List UInt8 × List (Int × Nat))) (e : Ending) : Prop :=
  w' = w ∧ (e = .returned (.bool true) ∨ (e = .returned (.bool false) ∧ rows.length ≤ 70 ∧ ∀ r, r ∈ rows → r.1.length ≤ 200 ∧ r.2.length ≤ 250))

set_option maxRecDepth 1000000 in
set_option maxHeartbeats 1000000 in
theorem llong_any (w : World) (la : Option Addr) (c : Nat) (rows : List (List UInt8 × List (Int × Nat))) (hP : RowsP w la rows) (hn : (rows.length : Int) ≤ 9223372036854775807) (hlen : ∀ r, r ∈ rows → (r.2.length : Int) ≤ 140737488355328 ∧ (r.1.length : Int) ≤ 140737488355328) :
    Calls Tryz.prog 14 #[.slice la rows.length c] w fun e w' => LongR w w' rows e := by
  have HP : Hid (RowsP w la rows) := hP
  have HL : Hid (∀ r, r ∈ rows → (r.2.length : Int) ≤ 140737488355328 ∧ (r.1.length : Int) ≤ 140737488355328) := hlen
  obtain ⟨n, hnn⟩ : ∃ n, n = rows.length := ⟨_, rfl⟩
  have HN := (show Hid _ from hnn.symm)
  rw [← hnn] at hn ⊢
  clear hP hlen hnn
  by_cases h70 : 70 < n
  · have hd : decide ((70 : Int) < (n : Int)) = true := by simp; omega
    go_enter Tryz.func14, Tryz.ntmps14
    go_wp2
    go_ret
    exact ⟨rfl, .inl rfl⟩
  · have hd : decide ((70 : Int) < (n : Int)) = false := by simp; omega
    go_enter Tryz.func14, Tryz.ntmps14
    go_wp2_with fail
    go_loopw [3, 4] (fun v3 i wr => ∃ k m : Nat, k ≤ n ∧ i = .int .i64 (k : Int) ∧ v3 = .int .i64 (m : Int) ∧ m ≤ 250 ∧ wr = w ∧ ∀ j (hj : j < rows.length), j < k → rows[j].1.length ≤ 200 ∧ rows[j].2.length ≤ 250) (fun _ i _ => n - (intOf i).toNat)
    case atStart => exact ⟨0, 0, Nat.zero_le _, rfl, rfl, by omega, rfl, fun j _ h => absurd h (Nat.not_lt_zero _)⟩
    case round =>
      obtain ⟨k, m, hk, rfl, rfl, hm, rfl, hall⟩ := hrel
      have HA : Hid (∀ j (hj : j < rows.length), j < k → rows[j].1.length ≤ 200 ∧ rows[j].2.length ≤ 250) := hall
      clear hall
      by_cases hkn : k < n
      · have hkr : k < rows.length := by rw [HN.out]; exact hkn
        rcases HP.out with h0 | ⟨b, o, rfl, hcs⟩
        · rw [h0] at hkr
          exact absurd hkr (Nat.not_lt_zero _)
        obtain ⟨e1, A, C, e2, hpt⟩ := hcs k hkr
        obtain ⟨l2, l1⟩ := HL.out _ (List.getElem_mem hkr)
        obtain ⟨xk, hxk⟩ : ∃ xk : ByteArray, xk = ⟨(rows[k].1).toArray⟩ := ⟨_, rfl⟩
        obtain ⟨nk, hnk⟩ : ∃ nk, nk = rows[k].2.length := ⟨_, rfl⟩
        have hxs : xk.size = rows[k].1.length := by rw [hxk]; simp [ByteArray.size]
        have q1 : wr.cell? ⟨b, o + k * 2, none⟩ = some (.string xk) := by rw [hxk]; exact e1
        have q2 : wr.cell? ⟨b, o + k * 2 + 1, none⟩ = some (.slice A nk C) := by rw [hnk]; exact e2
        have k0 : (0 : Int) ≤ (k : Int) := by omega
        have k1 : (k : Int) < (n : Int) := by omega
        rw [← hxs] at l1
        rw [← hnk] at l2
        have HX := (show Hid _ from And.intro hxs hnk)
        clear e1 e2 hpt hxk hnk hxs hcs
        by_cases h200 : 200 < xk.size
        · have d1 : decide ((200 : Int) < (xk.size : Int)) = true := by simp; omega
          go_wp2
          go_ret
          exact ⟨rfl, .inl rfl⟩
        · have d1 : decide ((200 : Int) < (xk.size : Int)) = false := by simp; omega
          by_cases h250 : 250 < m + nk
          · have d3 : decide ((250 : Int) < (m : Int) + (nk : Int)) = true := by simp; omega
            have d2 : decide ((60 : Int) < (m : Int) + (nk : Int)) = true := by simp; omega
            by_cases h121 : nk = 121
            · have d4 : ((nk : Int) != 121) = false := by simp [h121]
              have d5 : ((nk : Int) == 121) = true := by simp [h121]
              go_wp2
              go_ret
              exact ⟨rfl, .inl rfl⟩
            · have d4 : ((nk : Int) != 121) = true := by simp; omega
              have d5 : ((nk : Int) == 121) = false := by simp; omega
              go_wp2
              go_ret
              exact ⟨rfl, .inl rfl⟩
          · have d3 : decide ((250 : Int) < (m : Int) + (nk : Int)) = false := by simp; omega
            have HNX : Hid (∀ j (hj : j < rows.length), j < k + 1 → rows[j].1.length ≤ 200 ∧ rows[j].2.length ≤ 250) := fun j hj hjk => by
              rcases Nat.lt_or_ge j k with h | h
              · exact HA.out j hj h
              · obtain rfl : j = k := by omega
                have h1 := HX.out.1
                have h2 := HX.out.2
                omega
            by_cases h60 : 60 < m + nk
            · have d2 : decide ((60 : Int) < (m : Int) + (nk : Int)) = true := by simp; omega
              by_cases h121 : nk = 121
              · have d4 : ((nk : Int) != 121) = false := by simp [h121]
                have d5 : ((nk : Int) == 121) = true := by simp [h121]
                go_wp2
                go_roundw
                case rel => exact ⟨k + 1, m + nk, by omega, by go_num, by go_num, by omega, trivial, HNX.out⟩
                case measure => simp [intOf] <;> omega
              · have d4 : ((nk : Int) != 121) = true := by simp; omega
                have d5 : ((nk : Int) == 121) = false := by simp; omega
                go_wp2
                go_ret
                exact ⟨rfl, .inl rfl⟩
            · have d2 : decide ((60 : Int) < (m : Int) + (nk : Int)) = false := by simp; omega
              go_wp2
              go_roundw
              case rel => exact ⟨k + 1, m + nk, by omega, by go_num, by go_num, by omega, trivial, HNX.out⟩
              case measure => simp [intOf] <;> omega
      · have hge : (n : Int) ≤ (k : Int) := by omega
        have HAL : Hid (∀ r, r ∈ rows → r.1.length ≤ 200 ∧ r.2.length ≤ 250) := fun r hr => by
          obtain ⟨j, hj, rfl⟩ := List.getElem_of_mem hr
          exact HA.out j hj (by have := HN.out; omega)
        have HNL : Hid (rows.length ≤ 70) := by have := HN.out; show rows.length ≤ 70; omega
        go_wp2
        go_ret
        exact ⟨rfl, .inr ⟨rfl, HNL.out, HAL.out⟩⟩

set_option maxRecDepth 1000000 in
set_option maxHeartbeats 1000000 in
theorem ownRows_any (w : World) (la : Option Addr) (c : Nat) (rows : List (List UInt8 × List (Int × Nat))) (hP : RowsP w la rows) (hn : rows.length ≤ 1000) (hlen : ∀ r, r ∈ rows → r.2.length ≤ 1000) :
    Calls Tryz.prog 16 #[.slice la rows.length c] w fun e w' => ∃ v xs, e = .returned v ∧ Below w.heap.size w w' ∧ w'.ownsRow w.heap.size 61 2 v rows.length xs ∧ RowsC w' w.heap.size xs rows := by
  have HP : Hid (RowsP w la rows) := hP
  have HL : Hid (∀ r, r ∈ rows → r.2.length ≤ 1000) := hlen
  obtain ⟨n, hnn⟩ : ∃ n, n = rows.length := ⟨_, rfl⟩
  have HN := (show Hid _ from hnn.symm)
  rw [← hnn] at hn ⊢
  clear hP hlen hnn
  obtain ⟨iR, hI, hI0, hI1, hI2⟩ := info_parts Tryz.infoARow
  have HII := (show Hid _ from hI)
  clear hI
  go_enter Tryz.func16, Tryz.ntmps16
  go_wp2_with fail
  go_loopw [3, 4] (fun v3 i wr => ∃ (k : Nat) (xs : List Value), k ≤ n ∧ i = .int .i64 (k : Int) ∧ Below w.heap.size w wr ∧ wr.ownsRow w.heap.size 61 2 v3 k xs ∧ RowsC wr w.heap.size xs (rows.take k)) (fun _ i _ => n - (intOf i).toNat)
  case atStart => exact ⟨0, [], Nat.zero_le _, rfl, Below.refl _ _, ⟨rfl, .inl ⟨rfl, rfl⟩⟩, by simp [RowsC]⟩
  case round =>
    obtain ⟨k, xs, hk, rfl, hbr, hown, hrc⟩ := hrel
    have HB := (show Hid _ from hbr)
    have HO := (show Hid _ from hown)
    have HRC : Hid (RowsC wr w.heap.size xs (rows.take k)) := hrc
    have hwl : w.heap.size ≤ wr.heap.size := hbr.size
    clear hbr hown hrc
    by_cases hkn : k < n
    · have hkr : k < rows.length := by rw [HN.out]; exact hkn
      rcases HP.out with h0 | ⟨b, o, rfl, hcs⟩
      · rw [h0] at hkr
        exact absurd hkr (Nat.not_lt_zero _)
      obtain ⟨e1, A, C, e2, hpt⟩ := hcs k hkr
      have hbl : b < w.heap.size := World.block_lt_of_cell? w ⟨b, _, none⟩ e1
      have l2 := HL.out _ (List.getElem_mem hkr)
      obtain ⟨xk, hxk⟩ : ∃ xk : ByteArray, xk = ⟨(rows[k].1).toArray⟩ := ⟨_, rfl⟩
      have q2 : wr.cell? ⟨b, o + k * 2 + 1, none⟩ = some (.slice A rows[k].2.length C) := (HB.out.cell (p := ⟨b, _, none⟩) hbl).trans e2
      have HQ1 : Hid (∀ w', Below w.heap.size w w' → w'.cell? ⟨b, o + k * 2, none⟩ = some (.string xk)) := fun w' h => by rw [hxk]; exact (h.cell (p := ⟨b, _, none⟩) hbl).trans e1
      have k0 : (0 : Int) ≤ (k : Int) := by omega
      have k1 : (k : Int) < (n : Int) := by omega
      have HOP := (show Hid _ from own_points wr A C rows[k].2 (hpt.below HB.out) l2)
      have HX := (show Hid _ from hxk)
      obtain ⟨nk, hnk⟩ : ∃ nk, nk = rows[k].2.length := ⟨_, rfl⟩
      rw [← hnk] at q2 HOP
      have HNK := (show Hid _ from hnk)
      clear e1 e2 hpt hxk hcs hnk
      go_wp2_with fail
      refine Calls.mono HOP.out ?_
      rintro e w2 ⟨v, rfl, hown2, hb2⟩
      obtain ⟨a3, c3, rfl⟩ := own_slice1 hown2
      have HB2 := (show Hid _ from HB.out.trans (hb2.mono hwl))
      have hwl2 : w.heap.size ≤ w2.heap.size := HB2.out.size
      have q1 := HQ1.out w2 HB2.out
      have HO2 := (show Hid _ from own_mono2 hown2 hwl)
      have HRO : Hid (w2.ownsRow w.heap.size 61 2 u3 k xs) := own_same HO.out fun g hg => hb2.block g (own_blk HO.out hg).2.1
      have HR2 : Hid (RowsC w2 w.heap.size xs (rows.take k)) := HRC.out.map fun v n ys hv => own_same hv fun g hg => hb2.block g (own_blk hv hg).2.1
      have HRA : Hid ((w2.alloc (.cells #[.string xk, .slice a3 nk c3] 61)).ownsRow w.heap.size 61 2 u3 k xs) := HRO.out.alloc _
      have HNW : Hid (∀ i z, ([.string xk, .slice a3 nk c3] : List Value)[i]? = some z → (w2.alloc (.cells #[.string xk, .slice a3 nk c3] 61)).cell? ((⟨w2.heap.size, 0, none⟩ : Addr).add i) = some z) := World.news_of_block (heap_alloc_new w2 _)
      have H1C : Hid (∀ z ∈ ([.string xk, .slice a3 nk c3] : List Value), z.oneCell' = true) := by
        intro z hz
        simp at hz
        rcases hz with rfl | rfl <;> rfl
      clear hown2 hb2 HOP
      go_wp2_with (at_builtin; refine wpList_append_lies _ rfl _ _ 41 rfl w.heap.size 61 iR (.agg #[.string ⟨#[]⟩, .slice none 0 0]) 2 40 Tryz.underlying41 HII.out hI0 hI1 hI2 rfl (by decide) _ _ _ rfl HRA.out ⟨w2.heap.size, 0, none⟩ 1 1 [.string xk, .slice a3 nk c3] rfl rfl HNW.out H1C.out (by omega) (by unfold maxLen; omega) (by omega) (by simp; omega) _ rfl ?_)
      intro g7 cap7 w7 hown7 hgrow7 _ _
      have hal : ∀ v n ys, w2.ownsRow w.heap.size 71 2 v n ys → w7.ownsRow w.heap.size 71 2 v n ys := fun v n ys hv => own_grown (hv.alloc _) HRA.out hgrow7 (by decide)
      have HFIN : Hid (Below w.heap.size w w7 ∧ w7.ownsRow w.heap.size 61 2 (.slice (some ⟨g7, 0, none⟩) (k + 1) cap7) (k + 1) (xs ++ [.string xk, .slice a3 nk c3]) ∧ RowsC w7 w.heap.size (xs ++ [.string xk, .slice a3 nk c3]) (rows.take (k + 1))) := by
        refine ⟨below_grown2 (HB2.out.alloc hwl2 _) HRA.out (Nat.le_refl _) (by simp; omega) hgrow7, hown7, ?_⟩
        rw [List.take_succ_eq_append_getElem hkr, HX.out]
        refine RowsC.snoc (row := rows[k]) ?_ (HR2.out.map hal)
        have := hal _ _ _ HO2.out
        rw [← HNK.out]
        exact this
      clear hown7 hgrow7 hal
      go_wp2
      go_roundw
      case rel => exact ⟨k + 1, _, by omega, by go_num, HFIN.out.1, HFIN.out.2.1, HFIN.out.2.2⟩
      case measure => simp [intOf] <;> omega
    · obtain rfl : k = n := by omega
      have hge : (k : Int) ≤ (k : Int) := Int.le_refl _
      go_wp2
      go_ret
      refine ⟨_, xs, rfl, HB.out, HO.out, ?_⟩
      have := HRC.out
      rw [List.take_of_length_le (by rw [HN.out]; omega)] at this
      exact this

end Go.Proofs.YtdlceolmpcjjiaaGreatDoor
/- The statements' closed fact on a block. -/
namespace Go.Proofs.YtdlceolmpcjjiaaGreatDoor
open Go.RowKit Go.Maps PtMath

theorem chk_len {l : List (Int × Nat)} (h : l.length ≤ 120) : (chk l).length ≤ 10000 := by
  have h1 := length_rowBits (tickAt l) (bitAt l) l.length
  have h3 : (chk l).length = (BitMath.pack (rowBits (tickAt l) (bitAt l) l.length)).length + 4 := by rw [chk, chunkBytes, BitMath.sealOf, List.length_append, length_fourOf]
  rw [BitMath.length_pack] at h3
  omega
def naRows : List (List UInt8 × List (Int × Nat)) := [([110, 61, 97], [(3, 7)])]
theorem naRows_well : WellR 0 10 naRows := by
  refine ⟨by decide, by decide, List.pairwise_singleton _ _, fun r hr => ?_⟩
  simp [naRows] at hr
  subst hr
  exact ⟨naK_read, ptsC_of (by decide) (by decide), by decide⟩
theorem naRows_full : full naRows = naRows := by decide

set_option maxRecDepth 1000000 in
set_option maxHeartbeats 1000000 in
theorem blocked_any {B : Nat} {ea : Nat → Addr} (w : World) (E : EnvK B ea w) (hB : B ≤ w.heap.size) :
    Calls Tryz.prog 7 #[] w fun e w' => e = .returned (.bool true) ∧ Below w.heap.size w w' := by
  obtain ⟨W, hW⟩ : ∃ W, W = (w.alloc (.cells #[.int .i64 3, .int .u64 7] 71)).alloc (.cells #[.string ⟨#[110, 61, 97]⟩, .slice (some ⟨w.heap.size, 0, none⟩) 1 1] 61) := ⟨_, rfl⟩
  have hbW : Below w.heap.size w W := by rw [hW]; exact ((Below.refl _ _).alloc (Nat.le_refl _) _).alloc (by simp) _
  have hs1 : (w.alloc (.cells #[.int .i64 3, .int .u64 7] 71)).heap.size = w.heap.size + 1 := by simp
  have hx : W.heap[w.heap.size]? = some (.cells #[.int .i64 3, .int .u64 7] 71 (0, 0)) := by
    rw [hW]
    exact (heap_alloc_old _ _ (by rw [hs1]; omega)).trans (heap_alloc_new _ _)
  have hy : W.heap[w.heap.size + 1]? = some (.cells #[.string ⟨#[110, 61, 97]⟩, .slice (some ⟨w.heap.size, 0, none⟩) 1 1] 61 (0, 0)) := by
    rw [hW, ← hs1]
    exact heap_alloc_new _ _
  have hP : RowsP W (some ⟨w.heap.size + 1, 0, none⟩) naRows := by
    refine .inr ⟨_, 0, rfl, fun k hk => ?_⟩
    obtain rfl : k = 0 := by simp [naRows] at hk; omega
    refine ⟨cells_of hy 0, _, 1, cells_of hy 1, .inr ⟨w.heap.size, 0, rfl, fun j hj => ?_⟩⟩
    obtain rfl : j = 0 := by simp [naRows] at hj; omega
    exact ⟨cells_of hx 0, cells_of hx 1⟩
  have hmk := blMake_any W (E.below hbW hB) (Nat.le_trans hB hbW.size) 0 10 (some ⟨w.heap.size + 1, 0, none⟩) 1 naRows hP (fun r hr => by
    simp [naRows] at hr
    subst hr
    exact ⟨fun p hp => by simp at hp; subst hp; decide, by decide, by decide⟩) (by decide)
  have HMK : Hid (Calls Tryz.prog 15 #[.int .i64 0, .int .i64 10, .slice (some ⟨w.heap.size + 1, 0, none⟩) 1 1] W fun e w' => MakeOut ea W w' 0 10 naRows e) := hmk
  have HE := (show Hid _ from E)
  have HB := (show Hid _ from hbW)
  have HW := (show Hid _ from hW)
  clear hx hy hbW hs1 hW hP hmk E
  go_enter Tryz.func7, Tryz.ntmps7
  go_wp2_with fail
  rw [← HW.out]
  refine Calls.mono HMK.out ?_
  rintro e w1 ⟨v, hb1, hf1, ⟨hz, u1, u2, rfl, o1, o2⟩ | ⟨hz, rfl⟩⟩
  · have hv := hf1.none hz
    subst hv
    rw [naRows_full] at o1 o2
    obtain ⟨a1, c1, rfl⟩ := own_slice1 o1
    obtain ⟨a2, c2, rfl⟩ := own_slice1 o2
    have HB1 := (show Hid _ from HB.out.trans (hb1.mono HB.out.size))
    obtain ⟨W2, hW2⟩ : ∃ W2, W2 = w1.alloc (.cells #[.int .i64 0, .int .i64 10, .slice a1 1 c1, .slice a2 1 c2] 25) := ⟨_, rfl⟩
    have hbW2 : Below w1.heap.size w1 W2 := by rw [hW2]; exact (Below.refl _ _).alloc (Nat.le_refl _) _
    have hx2 : W2.heap[w1.heap.size]? = some (.cells #[.int .i64 0, .int .i64 10, .slice a1 1 c1, .slice a2 1 c2] 25 (0, 0)) := by rw [hW2]; exact heap_alloc_new _ _
    have HB2 := (show Hid _ from HB1.out.trans (hbW2.mono HB1.out.size))
    obtain ⟨hc, _, _⟩ := well_bk naRows_well (fun r hr => by simp [naRows] at hr; subst hr; exact ⟨by simp, fun p hp => by simp at hp; subst hp; decide⟩)
    have hck := blCheck_any W2 (HE.out.below HB2.out hB) (Nat.le_trans hB HB2.out.size) 0 10 _ _ _ _ (naRows.map Prod.fst) (naRows.map fun r => chk r.2) (own_bel3 (by simpa using o1) hbW2) (own_bel3 (by simpa using o2) hbW2) (fun x hx => by simp [naRows] at hx; subst hx; decide) (fun x hx => by
      simp [naRows] at hx
      subst hx
      exact chk_len (by decide)) (by decide) (by decide)
    rw [hc] at hck
    have HCK : Hid (Calls Tryz.prog 30 #[.agg #[.int .i64 0, .int .i64 10, .slice a1 1 c1, .slice a2 1 c2]] W2 fun e w' => ∃ v, e = .returned v ∧ Below W2.heap.size W2 w' ∧ FaultV ea w' v 0 _) := hck
    have x0 : W2.cell? ⟨w1.heap.size, 0, none⟩ = some (.int .i64 0) := cells_of hx2 0
    have x1 : W2.cell? ⟨w1.heap.size, 1, none⟩ = some (.int .i64 10) := cells_of hx2 1
    have x2 : W2.cell? ⟨w1.heap.size, 2, none⟩ = some (.slice a1 1 c1) := cells_of hx2 2
    have x3 : W2.cell? ⟨w1.heap.size, 3, none⟩ = some (.slice a2 1 c2) := cells_of hx2 3
    have HW2 := (show Hid _ from hW2)
    clear o1 o2 hf1 hb1 hz hW2 hbW2 hx2 hc hck
    dsimp only
    go_upto_region 2 with fail
    rw [show w1.alloc (.cells #[.int .i64 0, .int .i64 10, .slice a1 naRows.length c1, .slice a2 naRows.length c2] 25) = W2 from HW2.out.symm]
    go_wp2_with fail
    refine Calls.mono HCK.out ?_
    rintro e w3 ⟨v3, rfl, hb3, hf3⟩
    have hv := hf3.none rfl
    subst hv
    have HB3 := (show Hid _ from HB2.out.trans (hb3.mono HB2.out.size))
    clear hf3 hb3 HCK
    go_wp2
    go_ret
    exact ⟨rfl, HB3.out⟩
  · exact absurd (well_mk naRows_well).1 hz
end Go.Proofs.YtdlceolmpcjjiaaGreatDoor
/- Blocks that were made: what they are and hold. -/
namespace Go.Proofs.YtdlceolmpcjjiaaGreatDoor
open Go.RowKit Go.Maps PtMath
/-- The chunks of rows. -/
def chks (F : List (List UInt8 × List (Int × Nat))) : List (List UInt8) := F.map fun r => chk r.2
theorem chks_len (F : List (List UInt8 × List (Int × Nat))) : (chks F).length = F.length := by simp [chks]
/-- What a block made of rows is, and holds. -/
structure MadeB (f s : Int) (F : List (List UInt8 × List (Int × Nat))) : Prop where
  well : WellR f s F
  full : full F = F
  some : ∀ r, r ∈ F → r.2 ≠ [] ∧ BitsIn r.2
  bits : ∀ r, r ∈ F → PtsIn r.2
theorem made_of {f s : Int} {rows : List (List UInt8 × List (Int × Nat))} (h : mkC f s rows = 0) (hin : ∀ r, r ∈ rows → PtsIn r.2) : MadeB f s (full rows) :=
  ⟨(mk_well h).full, full_full fun _ hr => (full_mem hr).2, fun r hr => ⟨(full_mem hr).2, fun p hp => (hin r (full_mem hr).1 p hp).2.2⟩, fun r hr => hin r (full_mem hr).1⟩
theorem MadeB.bk {f s : Int} {F : List (List UInt8 × List (Int × Nat))} (h : MadeB f s F) : bkC f s (F.map Prod.fst) (chks F) = 0 ∧ bkA f s (F.map Prod.fst) (chks F) = -1 ∧ rowsOf (F.map Prod.fst) (chks F) = F := well_bk h.well h.some
theorem MadeB.chunks {f s : Int} {F : List (List UInt8 × List (Int × Nat))} (h : MadeB f s F) : ∀ x, x ∈ (chks F) → x.length ≤ 10000 := fun x hx => by
  obtain ⟨r, hr, rfl⟩ := List.mem_map.1 hx
  exact chk_len (ptsC_zero (h.well.each r hr).2.1).1

/-- A block that was made, as it lies. -/
structure MadeAt (w : World) (b : Nat) (F : List (List UInt8 × List (Int × Nat))) (v1 v2 : Value) : Prop where
  o1 : w.ownsRow b 9 1 v1 (F.map Prod.fst).length ((F.map Prod.fst).map encStr)
  o2 : w.ownsRow b 9 1 v2 (chks F).length ((chks F).map encStr)
theorem MadeAt.below {w z : World} {b : Nat} {F : List (List UInt8 × List (Int × Nat))} {v1 v2 : Value} (h : MadeAt w b F v1 v2) (hb : Below w.heap.size w z) : MadeAt z b F v1 v2 := ⟨own_bel3 h.o1 hb, own_bel3 h.o2 hb⟩
theorem MadeAt.names {w : World} {b : Nat} {F : List (List UInt8 × List (Int × Nat))} {v1 v2 : Value} (h : MadeAt w b F v1 v2) : ∃ a1 c1 a2 c2, v1 = .slice a1 F.length c1 ∧ v2 = .slice a2 F.length c2 ∧ ∀ k (hk : k < F.length), ∃ g, a1 = some ⟨g, 0, none⟩ ∧ w.cell? ⟨g, k, none⟩ = some (encStr F[k].1) := by
  obtain ⟨a1, c1, h1, hc⟩ := own_strs h.o1
  obtain ⟨a2, c2, h2⟩ := own_slice1 h.o2
  rw [List.length_map] at h1
  rw [chks_len] at h2
  refine ⟨a1, c1, a2, c2, h1, h2, fun k hk => ?_⟩
  obtain ⟨g, e, hg⟩ := hc k (by simpa using hk)
  exact ⟨g, e, by rw [hg]; simp⟩
theorem made_points {B : Nat} {ea : Nat → Addr} (w : World) (E : EnvK B ea w) (hB : B ≤ w.heap.size) {f s : Int} {F : List (List UInt8 × List (Int × Nat))} (hmd : MadeB f s F) (hFl : F.length ≤ 70) (hFn : ∀ r, r ∈ F → r.1.length ≤ 200) {b : Nat} {v1 v2 : Value} (h : MadeAt w b F v1 v2) (nm : ByteArray) (lo hi : Int) :
    Calls Tryz.prog 19 #[.agg #[.int .i64 f, .int .i64 s, v1, v2], .string nm, .int .i64 lo, .int .i64 hi] w fun e w' => ∃ x, e = .returned (.tuple #[x, .nilIface]) ∧ Below w.heap.size w w' ∧ w'.ownsRow w.heap.size 71 2 x (betweenL lo hi (ofR F nm.data.toList)).length (pairCells (betweenL lo hi (ofR F nm.data.toList))) := by
  obtain ⟨hz, _, hr⟩ := hmd.bk
  refine (blPoints_any w E hB f s b b v1 v2 (F.map Prod.fst) (chks F) h.o1 h.o2 (fun x hx => ?_) hmd.chunks (by rw [List.length_map]; omega) (by rw [chks_len]; omega) nm lo hi).mono ?_
  · obtain ⟨r, hr, rfl⟩ := List.mem_map.1 hx
    have := hFn r hr
    omega
  · rintro e w' ⟨x, v, rfl, hb, hf, _, ho⟩
    have hv := hf.none hz
    subst hv
    have := ho hz
    rw [hr] at this
    exact ⟨x, rfl, hb, this⟩
end Go.Proofs.YtdlceolmpcjjiaaGreatDoor
