/- What the statements on blocks call beside the package: long, ownRows, asModel. -/
import Derived.Test.YtnjmplmogibgfacGreatDoorBlkTwoGroup
import Derived.Test.YtnjmplmogibgfacGreatDoorMdAtGroup
namespace Go.Proofs.YtnjmplmogibgfacGreatDoor
open Go.RowKit Go.Maps PtMath

/-- What long answers. -/
def LongR (w w' : World) (rows : List (List UInt8 × List (Int × Nat))) (e : Ending) : Prop :=
  w' = w ∧ (e = .returned (.bool true) ∨ (e = .returned (.bool false) ∧ rows.length ≤ 70 ∧ ∀ r, r ∈ rows → r.1.length ≤ 200 ∧ r.2.length ≤ 250))

set_option maxRecDepth 1000000 in
set_option maxHeartbeats 1000000 in
theorem llong_any (w : World) (la : Option Addr) (c : Nat) (rows : List (List UInt8 × List (Int × Nat))) (hP : RowsP w la rows) (hn : (rows.length : Int) ≤ 9223372036854775807) (hlen : ∀ r, r ∈ rows → (r.2.length : Int) ≤ 140737488355328 ∧ (r.1.length : Int) ≤ 140737488355328) :
    Calls Tryz.prog 21 #[.slice la rows.length c] w fun e w' => LongR w w' rows e := by
  have HP : Hid (RowsP w la rows) := hP
  have HL : Hid (∀ r, r ∈ rows → (r.2.length : Int) ≤ 140737488355328 ∧ (r.1.length : Int) ≤ 140737488355328) := hlen
  obtain ⟨n, hnn⟩ : ∃ n, n = rows.length := ⟨_, rfl⟩
  have HN := (show Hid _ from hnn.symm)
  rw [← hnn] at hn ⊢
  clear hP hlen hnn
  by_cases h70 : 70 < n
  · have hd : decide ((70 : Int) < (n : Int)) = true := by simp; omega
    go_enter Tryz.func21, Tryz.ntmps21
    go_wp2
    go_ret
    exact ⟨rfl, .inl rfl⟩
  · have hd : decide ((70 : Int) < (n : Int)) = false := by simp; omega
    go_enter Tryz.func21, Tryz.ntmps21
    go_wp2_with fail
    go_loopw [3, 4] (fun v3 i wr => ∃ k m : Nat, k ≤ n ∧ i = .int .i64 (k : Int) ∧ v3 = .int .i64 (m : Int) ∧ m ≤ 250 ∧ wr = w ∧ ∀ j (hj : j < rows.length), j < k → rows[j].1.length ≤ 200 ∧ rows[j].2.length ≤ 250) (fun _ i _ => n - (intOf i).toNat)
    case atStart => exact ⟨0, 0, Nat.zero_le _, rfl, rfl, by omega, rfl, fun j _ h => absurd h (Nat.not_lt_zero _)⟩
    case round =>
      obtain ⟨k, m, hk, rfl, rfl, hm, rfl, hall⟩ := hrel
      have HA : Hid (∀ j (hj : j < rows.length), j < k → rows[j].1.length ≤ 200 ∧ rows[j].2.length ≤ 250) := hall
      clear hall
      by_cases hkn : k < n
      · have hkr : k < rows.length := by rw [HN.out]; exact hkn
        rcases HP.out with h0 | ⟨b, o, rfl, hcs⟩
        · rw [h0] at hkr
          exact absurd hkr (Nat.not_lt_zero _)
        obtain ⟨e1, A, C, e2, hpt⟩ := hcs k hkr
        obtain ⟨l2, l1⟩ := HL.out _ (List.getElem_mem hkr)
        obtain ⟨xk, hxk⟩ : ∃ xk : ByteArray, xk = ⟨(rows[k].1).toArray⟩ := ⟨_, rfl⟩
        obtain ⟨nk, hnk⟩ : ∃ nk, nk = rows[k].2.length := ⟨_, rfl⟩
        have hxs : xk.size = rows[k].1.length := by rw [hxk]; simp [ByteArray.size]
        have q1 : wr.cell? ⟨b, o + k * 2, none⟩ = some (.string xk) := by rw [hxk]; exact e1
        have q2 : wr.cell? ⟨b, o + k * 2 + 1, none⟩ = some (.slice A nk C) := by rw [hnk]; exact e2
        have k0 : (0 : Int) ≤ (k : Int) := by omega
        have k1 : (k : Int) < (n : Int) := by omega
        rw [← hxs] at l1
        rw [← hnk] at l2
        have HX := (show Hid _ from And.intro hxs hnk)
        clear e1 e2 hpt hxk hnk hxs hcs
        by_cases h200 : 200 < xk.size
        · have d1 : decide ((200 : Int) < (xk.size : Int)) = true := by simp; omega
          go_wp2
          go_ret
          exact ⟨rfl, .inl rfl⟩
        · have d1 : decide ((200 : Int) < (xk.size : Int)) = false := by simp; omega
          by_cases h250 : 250 < m + nk
          · have d3 : decide ((250 : Int) < (m : Int) + (nk : Int)) = true := by simp; omega
            have d2 : decide ((60 : Int) < (m : Int) + (nk : Int)) = true := by simp; omega
            by_cases h121 : nk = 121
            · have d4 : ((nk : Int) != 121) = false := by simp [h121]
              have d5 : ((nk : Int) == 121) = true := by simp [h121]
              go_wp2
              go_ret
              exact ⟨rfl, .inl rfl⟩
            · have d4 : ((nk : Int) != 121) = true := by simp; omega
              have d5 : ((nk : Int) == 121) = false := by simp; omega
              go_wp2
              go_ret
              exact ⟨rfl, .inl rfl⟩
          · have d3 : decide ((250 : Int) < (m : Int) + (nk : Int)) = false := by simp; omega
            have HNX : Hid (∀ j (hj : j < rows.length), j < k + 1 → rows[j].1.length ≤ 200 ∧ rows[j].2.length ≤ 250) := fun j hj hjk => by
              rcases Nat.lt_or_ge j k with h | h
              · exact HA.out j hj h
              · obtain rfl : j = k := by omega
                have h1 := HX.out.1
                have h2 := HX.out.2
                omega
            by_cases h60 : 60 < m + nk
            · have d2 : decide ((60 : Int) < (m : Int) + (nk : Int)) = true := by simp; omega
              by_cases h121 : nk = 121
              · have d4 : ((nk : Int) != 121) = false := by simp [h121]
                have d5 : ((nk : Int) == 121) = true := by simp [h121]
                go_wp2
                go_roundw
                case rel => exact ⟨k + 1, m + nk, by omega, by go_num, by go_num, by omega, trivial, HNX.out⟩
                case measure => simp [intOf] <;> omega
              · have d4 : ((nk : Int) != 121) = true := by simp; omega
                have d5 : ((nk : Int) == 121) = false := by simp; omega
                go_wp2
                go_ret
                exact ⟨rfl, .inl rfl⟩
            · have d2 : decide ((60 : Int) < (m : Int) + (nk : Int)) = false := by simp; omega
              go_wp2
              go_roundw
              case rel => exact ⟨k + 1, m + nk, by omega, by go_num, by go_num, by omega, trivial, HNX.out⟩
              case measure => simp [intOf] <;> omega
      · have hge : (n : Int) ≤ (k : Int) := by omega
        have HAL : Hid (∀ r, r ∈ rows → r.1.length ≤ 200 ∧ r.2.length ≤ 250) := fun r hr => by
          obtain ⟨j, hj, rfl⟩ := List.getElem_of_mem hr
          exact HA.out j hj (by have := HN.out; omega)
        have HNL : Hid (rows.length ≤ 70) := by have := HN.out; show rows.length ≤ 70; omega
        go_wp2
        go_ret
        exact ⟨rfl, .inr ⟨rfl, HNL.out, HAL.out⟩⟩

set_option maxRecDepth 1000000 in
set_option maxHeartbeats 1000000 in
theorem ownRows_any (w : World) (la : Option Addr) (c : Nat) (rows : List (List UInt8 × List (Int × Nat))) (hP : RowsP w la rows) (hn : rows.length ≤ 1000) (hlen : ∀ r, r ∈ rows → r.2.length ≤ 1000) :
    Calls Tryz.prog 23 #[.slice la rows.length c] w fun e w' => ∃ v xs, e = .returned v ∧ Below w.heap.size w w' ∧ w'.ownsRow w.heap.size 59 2 v rows.length xs ∧ RowsC w' w.heap.size xs rows := by
  have HP : Hid (RowsP w la rows) := hP
  have HL : Hid (∀ r, r ∈ rows → r.2.length ≤ 1000) := hlen
  obtain ⟨n, hnn⟩ : ∃ n, n = rows.length := ⟨_, rfl⟩
  have HN := (show Hid _ from hnn.symm)
  rw [← hnn] at hn ⊢
  clear hP hlen hnn
  obtain ⟨iR, hI, hI0, hI1, hI2⟩ := info_parts Tryz.infoARow
  have HII := (show Hid _ from hI)
  clear hI
  go_enter Tryz.func23, Tryz.ntmps23
  go_wp2_with fail
  go_loopw [3, 4] (fun v3 i wr => ∃ (k : Nat) (xs : List Value), k ≤ n ∧ i = .int .i64 (k : Int) ∧ Below w.heap.size w wr ∧ wr.ownsRow w.heap.size 59 2 v3 k xs ∧ RowsC wr w.heap.size xs (rows.take k)) (fun _ i _ => n - (intOf i).toNat)
  case atStart => exact ⟨0, [], Nat.zero_le _, rfl, Below.refl _ _, ⟨rfl, .inl ⟨rfl, rfl⟩⟩, by simp [RowsC]⟩
  case round =>
    obtain ⟨k, xs, hk, rfl, hbr, hown, hrc⟩ := hrel
    have HB := (show Hid _ from hbr)
    have HO := (show Hid _ from hown)
    have HRC : Hid (RowsC wr w.heap.size xs (rows.take k)) := hrc
    have hwl : w.heap.size ≤ wr.heap.size := hbr.size
    clear hbr hown hrc
    by_cases hkn : k < n
    · have hkr : k < rows.length := by rw [HN.out]; exact hkn
      rcases HP.out with h0 | ⟨b, o, rfl, hcs⟩
      · rw [h0] at hkr
        exact absurd hkr (Nat.not_lt_zero _)
      obtain ⟨e1, A, C, e2, hpt⟩ := hcs k hkr
      have hbl : b < w.heap.size := World.block_lt_of_cell? w ⟨b, _, none⟩ e1
      have l2 := HL.out _ (List.getElem_mem hkr)
      obtain ⟨xk, hxk⟩ : ∃ xk : ByteArray, xk = ⟨(rows[k].1).toArray⟩ := ⟨_, rfl⟩
      have q2 : wr.cell? ⟨b, o + k * 2 + 1, none⟩ = some (.slice A rows[k].2.length C) := (HB.out.cell (p := ⟨b, _, none⟩) hbl).trans e2
      have HQ1 : Hid (∀ w', Below w.heap.size w w' → w'.cell? ⟨b, o + k * 2, none⟩ = some (.string xk)) := fun w' h => by rw [hxk]; exact (h.cell (p := ⟨b, _, none⟩) hbl).trans e1
      have k0 : (0 : Int) ≤ (k : Int) := by omega
      have k1 : (k : Int) < (n : Int) := by omega
      have HOP := (show Hid _ from own_points wr A C rows[k].2 (hpt.below HB.out) l2)
      have HX := (show Hid _ from hxk)
      obtain ⟨nk, hnk⟩ : ∃ nk, nk = rows[k].2.length := ⟨_, rfl⟩
      rw [← hnk] at q2 HOP
      have HNK := (show Hid _ from hnk)
      clear e1 e2 hpt hxk hcs hnk
      go_wp2_with fail
      refine Calls.mono HOP.out ?_
      rintro e w2 ⟨v, rfl, hown2, hb2⟩
      obtain ⟨a3, c3, rfl⟩ := own_slice1 hown2
      have HB2 := (show Hid _ from HB.out.trans (hb2.mono hwl))
      have hwl2 : w.heap.size ≤ w2.heap.size := HB2.out.size
      have q1 := HQ1.out w2 HB2.out
      have HO2 := (show Hid _ from own_mono2 hown2 hwl)
      have HRO : Hid (w2.ownsRow w.heap.size 59 2 u3 k xs) := own_same HO.out fun g hg => hb2.block g (own_blk HO.out hg).2.1
      have HR2 : Hid (RowsC w2 w.heap.size xs (rows.take k)) := HRC.out.map fun v n ys hv => own_same hv fun g hg => hb2.block g (own_blk hv hg).2.1
      have HRA : Hid ((w2.alloc (.cells #[.string xk, .slice a3 nk c3] 59)).ownsRow w.heap.size 59 2 u3 k xs) := HRO.out.alloc _
      have HNW : Hid (∀ i z, ([.string xk, .slice a3 nk c3] : List Value)[i]? = some z → (w2.alloc (.cells #[.string xk, .slice a3 nk c3] 59)).cell? ((⟨w2.heap.size, 0, none⟩ : Addr).add i) = some z) := World.news_of_block (heap_alloc_new w2 _)
      have H1C : Hid (∀ z ∈ ([.string xk, .slice a3 nk c3] : List Value), z.oneCell' = true) := by
        intro z hz
        simp at hz
        rcases hz with rfl | rfl <;> rfl
      clear hown2 hb2 HOP
      go_wp2_with (at_builtin; refine wpList_append_lies _ rfl _ _ 54 rfl w.heap.size 59 iR (.agg #[.string ⟨#[]⟩, .slice none 0 0]) 2 40 Tryz.underlying54 HII.out hI0 hI1 hI2 rfl (by decide) _ _ _ rfl HRA.out ⟨w2.heap.size, 0, none⟩ 1 1 [.string xk, .slice a3 nk c3] rfl rfl HNW.out H1C.out (by omega) (by unfold maxLen; omega) (by omega) (by simp; omega) _ rfl ?_)
      intro g7 cap7 w7 hown7 hgrow7 _ _
      have hal : ∀ v n ys, w2.ownsRow w.heap.size 63 2 v n ys → w7.ownsRow w.heap.size 63 2 v n ys := fun v n ys hv => own_grown (hv.alloc _) HRA.out hgrow7 (by decide)
      have HFIN : Hid (Below w.heap.size w w7 ∧ w7.ownsRow w.heap.size 59 2 (.slice (some ⟨g7, 0, none⟩) (k + 1) cap7) (k + 1) (xs ++ [.string xk, .slice a3 nk c3]) ∧ RowsC w7 w.heap.size (xs ++ [.string xk, .slice a3 nk c3]) (rows.take (k + 1))) := by
        refine ⟨below_grown2 (HB2.out.alloc hwl2 _) HRA.out (Nat.le_refl _) (by simp; omega) hgrow7, hown7, ?_⟩
        rw [List.take_succ_eq_append_getElem hkr, HX.out]
        refine RowsC.snoc (row := rows[k]) ?_ (HR2.out.map hal)
        have := hal _ _ _ HO2.out
        rw [← HNK.out]
        exact this
      clear hown7 hgrow7 hal
      go_wp2
      go_roundw
      case rel => exact ⟨k + 1, _, by omega, by go_num, HFIN.out.1, HFIN.out.2.1, HFIN.out.2.2⟩
      case measure => simp [intOf] <;> omega
    · obtain rfl : k = n := by omega
      have hge : (k : Int) ≤ (k : Int) := Int.le_refl _
      go_wp2
      go_ret
      refine ⟨_, xs, rfl, HB.out, HO.out, ?_⟩
      have := HRC.out
      rw [List.take_of_length_le (by rw [HN.out]; omega)] at this
      exact this

set_option maxRecDepth 1000000 in
theorem asModel_any (w : World) (f s : Int) (a1 a2 : Option Addr) (n1 c1 n2 c2 : Nat) :
    Calls Tryz.prog 20 #[.agg #[.int .i64 f, .int .i64 s, .slice a1 n1 c1, .slice a2 n2 c2]] w fun e w' => e = .returned (.agg #[.int .i64 f, .int .i64 s, .slice a1 n1 c1, .slice a2 n2 c2]) ∧ Below w.heap.size w w' := by
  obtain ⟨W, hW⟩ : ∃ W, W = (w.alloc (.cells #[.int .i64 f, .int .i64 s, .slice a1 n1 c1, .slice a2 n2 c2] 37)).alloc (.cells #[.int .i64 0, .int .i64 0, .slice none 0 0, .slice none 0 0] 24) := ⟨_, rfl⟩
  have hbW : Below w.heap.size w W := by rw [hW]; exact ((Below.refl _ _).alloc (Nat.le_refl _) _).alloc (by simp) _
  have hs1 : (w.alloc (.cells #[.int .i64 f, .int .i64 s, .slice a1 n1 c1, .slice a2 n2 c2] 37)).heap.size = w.heap.size + 1 := by simp
  have hx : W.heap[w.heap.size]? = some (.cells #[.int .i64 f, .int .i64 s, .slice a1 n1 c1, .slice a2 n2 c2] 37 (0, 0)) := by
    rw [hW]
    exact (heap_alloc_old _ _ (by rw [hs1]; omega)).trans (heap_alloc_new _ _)
  have hy : W.heap[w.heap.size + 1]? = some (.cells #[.int .i64 0, .int .i64 0, .slice none 0 0, .slice none 0 0] 24 (0, 0)) := by
    rw [hW, ← hs1]
    exact heap_alloc_new _ _
  have x0 : W.cell? ⟨w.heap.size, 0, none⟩ = some (.int .i64 f) := cells_of hx 0
  have x1 : W.cell? ⟨w.heap.size, 1, none⟩ = some (.int .i64 s) := cells_of hx 1
  have x2 : W.cell? ⟨w.heap.size, 2, none⟩ = some (.slice a1 n1 c1) := cells_of hx 2
  have x3 : W.cell? ⟨w.heap.size, 3, none⟩ = some (.slice a2 n2 c2) := cells_of hx 3
  have y0 : W.cell? ⟨w.heap.size + 1, 0, none⟩ = some (.int .i64 0) := cells_of hy 0
  have y1 : W.cell? ⟨w.heap.size + 1, 1, none⟩ = some (.int .i64 0) := cells_of hy 1
  have y2 : W.cell? ⟨w.heap.size + 1, 2, none⟩ = some (.slice none 0 0) := cells_of hy 2
  have y3 : W.cell? ⟨w.heap.size + 1, 3, none⟩ = some (.slice none 0 0) := cells_of hy 3
  have pf : ∀ k, W.frozen? ⟨w.heap.size + 1, k, none⟩ = false := fun k => by simp [World.frozen?, hy]
  have HY := (show Hid _ from hy)
  have HB := (show Hid _ from hbW)
  have HW := (show Hid _ from hW)
  clear hx hy hbW hs1 hW
  go_enter Tryz.func20, Tryz.ntmps20
  go_upto_region 1 with fail
  rw [← HW.out]
  go_wp2
  obtain ⟨Z, hZ⟩ : ∃ Z, Z = ((((W.setCell ⟨w.heap.size + 1, 0, none⟩ (.int .i64 f)).setCell ⟨w.heap.size + 1, 1, none⟩ (.int .i64 s)).setCell ⟨w.heap.size + 1, 2, none⟩ (.slice a1 n1 c1)).setCell ⟨w.heap.size + 1, 3, none⟩ (.slice a2 n2 c2)) := ⟨_, rfl⟩
  rw [← hZ]
  have hz4 : Z.heap[w.heap.size + 1]? = some (.cells #[.int .i64 f, .int .i64 s, .slice a1 n1 c1, .slice a2 n2 c2] 24 (0, 0)) := by rw [hZ]; exact set4 HY.out _ _ _ _
  have hzb : Below w.heap.size w Z := by rw [hZ]; exact set4_below HB.out (by omega) _ _ _ _
  have z0 : Z.cell? ⟨w.heap.size + 1, 0, none⟩ = some (.int .i64 f) := cells_of hz4 0
  have z1 : Z.cell? ⟨w.heap.size + 1, 1, none⟩ = some (.int .i64 s) := cells_of hz4 1
  have z2 : Z.cell? ⟨w.heap.size + 1, 2, none⟩ = some (.slice a1 n1 c1) := cells_of hz4 2
  have z3 : Z.cell? ⟨w.heap.size + 1, 3, none⟩ = some (.slice a2 n2 c2) := cells_of hz4 3
  clear hZ hz4
  refine bodyPost_ret (v := .agg #[.int .i64 f, .int .i64 s, .slice a1 n1 c1, .slice a2 n2 c2]) (by simp [results, Tryz.results20, go_sem, z0, z1, z2, z3]) rfl ⟨rfl, hzb⟩
end Go.Proofs.YtnjmplmogibgfacGreatDoor
/- The statements' closed fact on a block. -/
namespace Go.Proofs.YtnjmplmogibgfacGreatDoor
open Go.RowKit Go.Maps PtMath

theorem chk_len {l : List (Int × Nat)} (h : l.length ≤ 120) : (chk l).length ≤ 10000 := by
  have h1 := length_rowBits (tickAt l) (bitAt l) l.length
  have h3 : (chk l).length = (BitMath.pack (rowBits (tickAt l) (bitAt l) l.length)).length + 4 := by rw [chk, chunkBytes, BitMath.sealOf, List.length_append, length_fourOf]
  rw [BitMath.length_pack] at h3
  omega
def naRows : List (List UInt8 × List (Int × Nat)) := [([110, 61, 97], [(3, 7)])]
theorem naRows_well : WellR 0 10 naRows := by
  refine ⟨by decide, by decide, List.pairwise_singleton _ _, fun r hr => ?_⟩
  simp [naRows] at hr
  subst hr
  exact ⟨naK_read, ptsC_of (by decide) (by decide), by decide⟩
theorem naRows_full : full naRows = naRows := by decide

set_option maxRecDepth 1000000 in
set_option maxHeartbeats 1000000 in
theorem blocked_any {B : Nat} {ea : Nat → Addr} (w : World) (E : EnvK B ea w) (hB : B ≤ w.heap.size) :
    Calls Tryz.prog 5 #[] w fun e w' => e = .returned (.bool true) ∧ Below w.heap.size w w' := by
  obtain ⟨W, hW⟩ : ∃ W, W = (w.alloc (.cells #[.int .i64 3, .int .u64 7] 63)).alloc (.cells #[.string ⟨#[110, 61, 97]⟩, .slice (some ⟨w.heap.size, 0, none⟩) 1 1] 59) := ⟨_, rfl⟩
  have hbW : Below w.heap.size w W := by rw [hW]; exact ((Below.refl _ _).alloc (Nat.le_refl _) _).alloc (by simp) _
  have hs1 : (w.alloc (.cells #[.int .i64 3, .int .u64 7] 63)).heap.size = w.heap.size + 1 := by simp
  have hx : W.heap[w.heap.size]? = some (.cells #[.int .i64 3, .int .u64 7] 63 (0, 0)) := by
    rw [hW]
    exact (heap_alloc_old _ _ (by rw [hs1]; omega)).trans (heap_alloc_new _ _)
  have hy : W.heap[w.heap.size + 1]? = some (.cells #[.string ⟨#[110, 61, 97]⟩, .slice (some ⟨w.heap.size, 0, none⟩) 1 1] 59 (0, 0)) := by
    rw [hW, ← hs1]
    exact heap_alloc_new _ _
  have hP : RowsP W (some ⟨w.heap.size + 1, 0, none⟩) naRows := by
    refine .inr ⟨_, 0, rfl, fun k hk => ?_⟩
    obtain rfl : k = 0 := by simp [naRows] at hk; omega
    refine ⟨cells_of hy 0, _, 1, cells_of hy 1, .inr ⟨w.heap.size, 0, rfl, fun j hj => ?_⟩⟩
    obtain rfl : j = 0 := by simp [naRows] at hj; omega
    exact ⟨cells_of hx 0, cells_of hx 1⟩
  have hmk := blMake_any W (E.below hbW hB) (Nat.le_trans hB hbW.size) 0 10 (some ⟨w.heap.size + 1, 0, none⟩) 1 naRows hP (fun r hr => by
    simp [naRows] at hr
    subst hr
    exact ⟨fun p hp => by simp at hp; subst hp; decide, by decide, by decide⟩) (by decide)
  have HMK : Hid (Calls Tryz.prog 22 #[.int .i64 0, .int .i64 10, .slice (some ⟨w.heap.size + 1, 0, none⟩) 1 1] W fun e w' => MakeOut ea W w' 0 10 naRows e) := hmk
  have HE := (show Hid _ from E)
  have HB := (show Hid _ from hbW)
  have HW := (show Hid _ from hW)
  clear hx hy hbW hs1 hW hP hmk E
  go_enter Tryz.func5, Tryz.ntmps5
  go_wp2_with fail
  rw [← HW.out]
  refine Calls.mono HMK.out ?_
  rintro e w1 ⟨v, hb1, hf1, ⟨hz, u1, u2, rfl, o1, o2⟩ | ⟨hz, rfl⟩⟩
  · have hv := hf1.none hz
    subst hv
    rw [naRows_full] at o1 o2
    obtain ⟨a1, c1, rfl⟩ := own_slice1 o1
    obtain ⟨a2, c2, rfl⟩ := own_slice1 o2
    have HB1 := (show Hid _ from HB.out.trans (hb1.mono HB.out.size))
    obtain ⟨W2, hW2⟩ : ∃ W2, W2 = w1.alloc (.cells #[.int .i64 0, .int .i64 10, .slice a1 1 c1, .slice a2 1 c2] 37) := ⟨_, rfl⟩
    have hbW2 : Below w1.heap.size w1 W2 := by rw [hW2]; exact (Below.refl _ _).alloc (Nat.le_refl _) _
    have hx2 : W2.heap[w1.heap.size]? = some (.cells #[.int .i64 0, .int .i64 10, .slice a1 1 c1, .slice a2 1 c2] 37 (0, 0)) := by rw [hW2]; exact heap_alloc_new _ _
    have HB2 := (show Hid _ from HB1.out.trans (hbW2.mono HB1.out.size))
    obtain ⟨hc, _, _⟩ := well_bk naRows_well (fun r hr => by simp [naRows] at hr; subst hr; exact ⟨by simp, fun p hp => by simp at hp; subst hp; decide⟩)
    have hck := blCheck_any W2 (HE.out.below HB2.out hB) (Nat.le_trans hB HB2.out.size) 0 10 _ _ _ _ (naRows.map Prod.fst) (naRows.map fun r => chk r.2) (own_bel3 (by simpa using o1) hbW2) (own_bel3 (by simpa using o2) hbW2) (fun x hx => by simp [naRows] at hx; subst hx; decide) (fun x hx => by
      simp [naRows] at hx
      subst hx
      exact chk_len (by decide)) (by decide) (by decide)
    rw [hc] at hck
    have HCK : Hid (Calls Tryz.prog 11 #[.agg #[.int .i64 0, .int .i64 10, .slice a1 1 c1, .slice a2 1 c2]] W2 fun e w' => ∃ v, e = .returned v ∧ Below W2.heap.size W2 w' ∧ FaultV ea w' v 0 _) := hck
    have x0 : W2.cell? ⟨w1.heap.size, 0, none⟩ = some (.int .i64 0) := cells_of hx2 0
    have x1 : W2.cell? ⟨w1.heap.size, 1, none⟩ = some (.int .i64 10) := cells_of hx2 1
    have x2 : W2.cell? ⟨w1.heap.size, 2, none⟩ = some (.slice a1 1 c1) := cells_of hx2 2
    have x3 : W2.cell? ⟨w1.heap.size, 3, none⟩ = some (.slice a2 1 c2) := cells_of hx2 3
    have HW2 := (show Hid _ from hW2)
    clear o1 o2 hf1 hb1 hz hW2 hbW2 hx2 hc hck
    dsimp only
    go_upto_region 2 with fail
    rw [show w1.alloc (.cells #[.int .i64 0, .int .i64 10, .slice a1 naRows.length c1, .slice a2 naRows.length c2] 37) = W2 from HW2.out.symm]
    go_wp2_with fail
    refine Calls.mono HCK.out ?_
    rintro e w3 ⟨v3, rfl, hb3, hf3⟩
    have hv := hf3.none rfl
    subst hv
    have HB3 := (show Hid _ from HB2.out.trans (hb3.mono HB2.out.size))
    clear hf3 hb3 HCK
    go_wp2
    go_ret
    exact ⟨rfl, HB3.out⟩
  · exact absurd (well_mk naRows_well).1 hz
end Go.Proofs.YtnjmplmogibgfacGreatDoor
/- The walk of BlockBack. -/
namespace Go.Proofs.YtnjmplmogibgfacGreatDoor
open Go.RowKit Go.Maps PtMath

theorem betweenL_all {f s : Int} {l : List (Int × Nat)} (h : insB f s l = true) : betweenL f (f + s - 1) l = l := by
  unfold betweenL
  rw [List.filter_eq_self]
  intro p hp
  have := insB_true.1 h p hp
  simp [this]
theorem ofR_up {l : List (List UInt8 × List (Int × Nat))} (h : (l.map Prod.fst).Pairwise (· < ·)) {k : Nat} (hk : k < l.length) : ofR l l[k].1 = l[k].2 :=
  ofR_at hk (fun j hj hjk e => by
    have := List.pairwise_iff_getElem.1 h j k (by simpa using hj) (by simpa using hk) hjk
    simp only [List.getElem_map] at this
    rw [e] at this
    exact List.lt_irrefl _ this) rfl
/-- The chunks of rows. -/
def chks (F : List (List UInt8 × List (Int × Nat))) : List (List UInt8) := F.map fun r => chk r.2
theorem chks_len (F : List (List UInt8 × List (Int × Nat))) : (chks F).length = F.length := by simp [chks]
/-- What a block made of rows is, and holds. -/
structure MadeB (f s : Int) (F : List (List UInt8 × List (Int × Nat))) : Prop where
  well : WellR f s F
  full : full F = F
  some : ∀ r, r ∈ F → r.2 ≠ [] ∧ BitsIn r.2
  bits : ∀ r, r ∈ F → PtsIn r.2
theorem made_of {f s : Int} {rows : List (List UInt8 × List (Int × Nat))} (h : mkC f s rows = 0) (hin : ∀ r, r ∈ rows → PtsIn r.2) : MadeB f s (full rows) :=
  ⟨(mk_well h).full, full_full fun _ hr => (full_mem hr).2, fun r hr => ⟨(full_mem hr).2, fun p hp => (hin r (full_mem hr).1 p hp).2.2⟩, fun r hr => hin r (full_mem hr).1⟩
theorem MadeB.bk {f s : Int} {F : List (List UInt8 × List (Int × Nat))} (h : MadeB f s F) : bkC f s (F.map Prod.fst) (chks F) = 0 ∧ bkA f s (F.map Prod.fst) (chks F) = -1 ∧ rowsOf (F.map Prod.fst) (chks F) = F := well_bk h.well h.some
theorem MadeB.chunks {f s : Int} {F : List (List UInt8 × List (Int × Nat))} (h : MadeB f s F) : ∀ x, x ∈ (chks F) → x.length ≤ 10000 := fun x hx => by
  obtain ⟨r, hr, rfl⟩ := List.mem_map.1 hx
  exact chk_len (ptsC_zero (h.well.each r hr).2.1).1

/-- A block that was made, as it lies. -/
structure MadeAt (w : World) (b : Nat) (F : List (List UInt8 × List (Int × Nat))) (v1 v2 : Value) : Prop where
  o1 : w.ownsRow b 9 1 v1 (F.map Prod.fst).length ((F.map Prod.fst).map encStr)
  o2 : w.ownsRow b 9 1 v2 (chks F).length ((chks F).map encStr)
theorem MadeAt.below {w z : World} {b : Nat} {F : List (List UInt8 × List (Int × Nat))} {v1 v2 : Value} (h : MadeAt w b F v1 v2) (hb : Below w.heap.size w z) : MadeAt z b F v1 v2 := ⟨own_bel3 h.o1 hb, own_bel3 h.o2 hb⟩
theorem MadeAt.names {w : World} {b : Nat} {F : List (List UInt8 × List (Int × Nat))} {v1 v2 : Value} (h : MadeAt w b F v1 v2) : ∃ a1 c1 a2 c2, v1 = .slice a1 F.length c1 ∧ v2 = .slice a2 F.length c2 ∧ ∀ k (hk : k < F.length), ∃ g, a1 = some ⟨g, 0, none⟩ ∧ w.cell? ⟨g, k, none⟩ = some (encStr F[k].1) := by
  obtain ⟨a1, c1, h1, hc⟩ := own_strs h.o1
  obtain ⟨a2, c2, h2⟩ := own_slice1 h.o2
  rw [List.length_map] at h1
  rw [chks_len] at h2
  refine ⟨a1, c1, a2, c2, h1, h2, fun k hk => ?_⟩
  obtain ⟨g, e, hg⟩ := hc k (by simpa using hk)
  exact ⟨g, e, by rw [hg]; simp⟩
theorem made_points {B : Nat} {ea : Nat → Addr} (w : World) (E : EnvK B ea w) (hB : B ≤ w.heap.size) {f s : Int} {F : List (List UInt8 × List (Int × Nat))} (hmd : MadeB f s F) (hFl : F.length ≤ 70) (hFn : ∀ r, r ∈ F → r.1.length ≤ 200) {b : Nat} {v1 v2 : Value} (h : MadeAt w b F v1 v2) (nm : ByteArray) (lo hi : Int) :
    Calls Tryz.prog 8 #[.agg #[.int .i64 f, .int .i64 s, v1, v2], .string nm, .int .i64 lo, .int .i64 hi] w fun e w' => ∃ x, e = .returned (.tuple #[x, .nilIface]) ∧ Below w.heap.size w w' ∧ w'.ownsRow w.heap.size 63 2 x (betweenL lo hi (ofR F nm.data.toList)).length (pairCells (betweenL lo hi (ofR F nm.data.toList))) := by
  obtain ⟨hz, _, hr⟩ := hmd.bk
  refine (blPoints_any w E hB f s b b v1 v2 (F.map Prod.fst) (chks F) h.o1 h.o2 (fun x hx => ?_) hmd.chunks (by rw [List.length_map]; omega) (by rw [chks_len]; omega) nm lo hi).mono ?_
  · obtain ⟨r, hr, rfl⟩ := List.mem_map.1 hx
    have := hFn r hr
    omega
  · rintro e w' ⟨x, v, rfl, hb, hf, _, ho⟩
    have hv := hf.none hz
    subst hv
    have := ho hz
    rw [hr] at this
    exact ⟨x, rfl, hb, this⟩
theorem made_same (w : World) {f s : Int} {F : List (List UInt8 × List (Int × Nat))} (hFl : F.length ≤ 70) {b b' : Nat} {v1 v2 u1 u2 : Value} (h : MadeAt w b F v1 v2) (k : MadeAt w b' F u1 u2) :
    Calls Tryz.prog 19 #[.agg #[.int .i64 f, .int .i64 s, v1, v2], .agg #[.int .i64 f, .int .i64 s, u1, u2]] w fun e w' => e = .returned (.bool true) ∧ Below w.heap.size w w' :=
  bkSame_any w f s b b' b b' v1 u1 v2 u2 (F.map Prod.fst) (chks F) h.o1 k.o1 h.o2 k.o2 (by rw [List.length_map]; omega) (by rw [chks_len]; omega)

set_option maxRecDepth 1000000 in
set_option maxHeartbeats 2000000 in
theorem back_main {B : Nat} {ea : Nat → Addr} (w : World) (E : EnvK B ea w) (hB : B ≤ w.heap.size) (la : Option Addr) (c : Nat) (rows : List (List UInt8 × List (Int × Nat))) (hP : RowsP w la rows) (hin : ∀ r, r ∈ rows → PtsIn r.2 ∧ (r.2.length : Int) ≤ 140737488355328 ∧ (r.1.length : Int) ≤ 140737488355328) (hn : (rows.length : Int) ≤ 9223372036854775807) (f s : Int) :
    Calls Tryz.prog 4 #[.slice la rows.length c, .int .i64 f, .int .i64 s] w fun e w' => e = .returned (.bool true) ∧ Below w.heap.size w w' := by
  have HBL := (show Hid _ from blocked_any w E hB)
  have HE := (show Hid _ from E)
  have HP : Hid (RowsP w la rows) := hP
  have HIN : Hid (∀ r, r ∈ rows → PtsIn r.2) := fun r hr => (hin r hr).1
  have HLG : Hid (∀ w', Below w.heap.size w w' → Calls Tryz.prog 21 #[.slice la rows.length c] w' fun e w2 => LongR w' w2 rows e) := fun w' h => llong_any w' la c rows (hP.below h) hn fun r hr => (hin r hr).2
  have HOW : Hid (∀ w', Below w.heap.size w w' → rows.length ≤ 1000 → (∀ r, r ∈ rows → r.2.length ≤ 1000) → Calls Tryz.prog 23 #[.slice la rows.length c] w' fun e w2 => ∃ v xs, e = .returned v ∧ Below w'.heap.size w' w2 ∧ w2.ownsRow w'.heap.size 59 2 v rows.length xs ∧ RowsC w2 w'.heap.size xs rows) := fun w' h h1 h2 => ownRows_any w' la c rows (hP.below h) h1 h2
  obtain ⟨n, hnn⟩ : ∃ n, n = rows.length := ⟨_, rfl⟩
  have HN := (show Hid _ from hnn.symm)
  rw [← hnn] at HLG HOW hn ⊢
  clear hP hin hnn E
  go_enter Tryz.func4, Tryz.ntmps4
  go_wp2_with fail
  refine Calls.mono HBL.out ?_
  rintro e w1 ⟨rfl, hb1⟩
  have HB1 := (show Hid _ from hb1)
  clear hb1 HBL
  dsimp only
  go_wp2_with fail
  refine Calls.mono (HLG.out w1 HB1.out) ?_
  rintro e w2 ⟨hw2, rfl | ⟨rfl, hl70, hlr⟩⟩
  · have hw2' := hw2
    subst hw2'
    clear HLG HOW
    go_wp2
    go_ret
    exact ⟨rfl, HB1.out⟩
  · have hw2' := hw2
    subst hw2'
    have HLR : Hid (∀ r, r ∈ rows → r.1.length ≤ 200 ∧ r.2.length ≤ 250) := hlr
    have HOW2 := (show Hid _ from HOW.out w2 HB1.out (by have := HN.out; omega) (fun r hr => by have := (hlr r hr).2; omega))
    have hn70 : n ≤ 70 := by have := HN.out; omega
    clear HLG HOW hlr hl70
    go_wp2_with fail
    refine Calls.mono HOW2.out ?_
    rintro e w3 ⟨v3, xs3, rfl, hb3, hown3, hrc3⟩
    have HB3 := (show Hid _ from HB1.out.trans (hb3.mono HB1.out.size))
    rw [← HN.out] at hown3
    obtain ⟨a3, c3, rfl, hP3⟩ := rowsP_of hown3 hrc3
    have hmk := blMake_any w3 (HE.out.below HB3.out hB) (Nat.le_trans hB HB3.out.size) f s a3 c3 rows hP3 (fun r hr => ⟨HIN.out r hr, by have := (HLR.out r hr).1; omega, by have := (HLR.out r hr).2; omega⟩) (by rw [HN.out]; omega)
    have HMK := (show Hid _ from hmk)
    rw [HN.out] at HMK ⊢
    clear hb3 hown3 hrc3 hP3 hmk HOW2
    dsimp only
    go_wp2_with fail
    refine Calls.mono HMK.out ?_
    rintro e w4 ⟨v, hb4, hf4, ⟨hz, u1, u2, rfl, o1, o2⟩ | ⟨hz, rfl⟩⟩
    · have hv := hf4.none hz
      subst hv
      have HB4 := (show Hid _ from HB3.out.trans (hb4.mono HB3.out.size))
      have hmd := made_of hz HIN.out
      obtain ⟨F, hF⟩ : ∃ F, F = full rows := ⟨_, rfl⟩
      have hFl : F.length ≤ 70 := by
        have : (full rows).length ≤ rows.length := List.length_filter_le ..
        have := HN.out
        rw [hF]
        omega
      have hFn : ∀ r, r ∈ F → r.1.length ≤ 200 := fun r hr => (HLR.out r (full_mem (hF ▸ hr)).1).1
      rw [← hF] at o1 o2 hmd
      have hma : MadeAt w4 w3.heap.size F u1 u2 := ⟨by rw [List.length_map]; exact o1, by rw [chks_len]; exact o2⟩
      obtain ⟨a1, c1, a2, c2, rfl, rfl, hc1⟩ := hma.names
      obtain ⟨W5, hW5⟩ : ∃ W5, W5 = w4.alloc (.cells #[.int .i64 f, .int .i64 s, .slice a1 F.length c1, .slice a2 F.length c2] 37) := ⟨_, rfl⟩
      have hb5 : Below w4.heap.size w4 W5 := by rw [hW5]; exact (Below.refl _ _).alloc (Nat.le_refl _) _
      have hx5 : W5.heap[w4.heap.size]? = some (.cells #[.int .i64 f, .int .i64 s, .slice a1 F.length c1, .slice a2 F.length c2] 37 (0, 0)) := by rw [hW5]; exact heap_alloc_new _ _
      have HB5 := (show Hid _ from HB4.out.trans (hb5.mono HB4.out.size))
      have HX5 : Hid (∀ w', Below W5.heap.size W5 w' → w'.heap[w4.heap.size]? = some (.cells #[.int .i64 f, .int .i64 s, .slice a1 F.length c1, .slice a2 F.length c2] 37 (0, 0))) := fun w' h => (h.block _ (blk_lt hx5)).trans hx5
      have HC1 : Hid (∀ k (hk : k < F.length), ∃ g, a1 = some ⟨g, 0, none⟩ ∧ ∀ w', Below W5.heap.size W5 w' → w'.cell? ⟨g, k, none⟩ = some (encStr F[k].1)) := fun k hk => by
        obtain ⟨g, e, hc⟩ := hc1 k hk
        have hl : g < w4.heap.size := World.block_lt_of_cell? w4 ⟨g, k, none⟩ hc
        exact ⟨g, e, fun w' h => (h.cell (p := ⟨g, k, none⟩) (Nat.lt_of_lt_of_le hl hb5.size)).trans ((hb5.cell (p := ⟨g, k, none⟩) hl).trans hc)⟩
      have HMA : Hid (∀ w', Below W5.heap.size W5 w' → MadeAt w' w3.heap.size F (.slice a1 F.length c1) (.slice a2 F.length c2)) := fun w' h => hma.below (hb5.trans (h.mono hb5.size))
      have hbd := bdE_zero hmd.well.bd
      have HMD := (show Hid _ from hmd)
      have HFN : Hid (∀ r, r ∈ F → r.1.length ≤ 200) := hFn
      have HW5 := (show Hid _ from hW5)
      have hw5s : w4.heap.size < W5.heap.size := blk_lt hx5
      obtain ⟨m, hm⟩ : ∃ m, m = F.length := ⟨_, rfl⟩
      have HM := (show Hid _ from hm.symm)
      rw [← hm] at HW5 HX5 HMA hFl
      rw [← hm]
      obtain ⟨b1, b2, b3, b4⟩ := hbd
      have HFL := (show Hid _ from hFl)
      clear hz hf4 hb4 o1 o2 hc1 hW5 hb5 hx5 hm HMK hF hmd hFn hma
      dsimp only
      go_upto_region 9 with fail
      rw [show w4.alloc (.cells #[.int .i64 f, .int .i64 s, .slice a1 m c1, .slice a2 m c2] 37) = W5 from HW5.out.symm]
      obtain ⟨iR, hI, hI0, hI1, hI2⟩ := info_parts Tryz.infoARow
      have HII := (show Hid _ from hI)
      have hsum : f + s - 1 = f + s - 1 := rfl
      clear hI hsum
      go_loopw [10, 11] (fun v10 i wr => ∃ (k : Nat) (xs : List Value), k ≤ m ∧ i = .int .i64 (k : Int) ∧ Below W5.heap.size W5 wr ∧ wr.ownsRow W5.heap.size 59 2 v10 k xs ∧ RowsC wr W5.heap.size xs (F.take k)) (fun _ i _ => m - (intOf i).toNat)
      case atStart => exact ⟨0, [], Nat.zero_le _, rfl, Below.refl _ _, ⟨rfl, .inl ⟨rfl, rfl⟩⟩, by simp [RowsC]⟩
      case round =>
        obtain ⟨k, xs, hk, rfl, hbr, hown, hrc⟩ := hrel
        have HBR := (show Hid _ from hbr)
        have HOW := (show Hid _ from hown)
        have HRC : Hid (RowsC wr W5.heap.size xs (F.take k)) := hrc
        have hwl : W5.heap.size ≤ wr.heap.size := hbr.size
        have HWL := (show Hid _ from hwl)
        have hx5 := HX5.out wr hbr
        have x0 : wr.cell? ⟨w4.heap.size, 0, none⟩ = some (.int .i64 f) := cells_of hx5 0
        have x1 : wr.cell? ⟨w4.heap.size, 1, none⟩ = some (.int .i64 s) := cells_of hx5 1
        have x2 : wr.cell? ⟨w4.heap.size, 2, none⟩ = some (.slice a1 m c1) := cells_of hx5 2
        have x3 : wr.cell? ⟨w4.heap.size, 3, none⟩ = some (.slice a2 m c2) := cells_of hx5 3
        clear hbr hown hrc hx5
        by_cases hkm : k < m
        · have hkF : k < F.length := by rw [HM.out]; exact hkm
          obtain ⟨g1, q1, hg1⟩ := HC1.out k hkF
          subst q1
          obtain ⟨nm, hnm⟩ : ∃ nm : ByteArray, nm = ⟨(F[k].1).toArray⟩ := ⟨_, rfl⟩
          have x4 : wr.cell? ⟨g1, k, none⟩ = some (.string nm) := by rw [hnm]; exact hg1 wr HBR.out
          have k0 : (0 : Int) ≤ (k : Int) := by omega
          have k1 : (k : Int) < (m : Int) := by omega
          have k2 : k < m := hkm
          have hofr : ofR F nm.data.toList = F[k].2 := by
            rw [hnm]
            exact ofR_up HMD.out.well.up hkF
          have hbt : betweenL f (f + s - 1) (ofR F nm.data.toList) = F[k].2 := by
            rw [hofr]
            exact betweenL_all (HMD.out.well.each _ (List.getElem_mem hkF)).2.2
          have hne : F[k].2 ≠ [] := (HMD.out.some _ (List.getElem_mem hkF)).1
          have HPT : Hid (∀ w', Below wr.heap.size wr w' → w'.heap.size = wr.heap.size → Calls Tryz.prog 8 #[.agg #[.int .i64 f, .int .i64 s, .slice (some ⟨g1, 0, none⟩) m c1, .slice a2 m c2], .string nm, .int .i64 f, .int .i64 (f + s - 1)] w' fun e w2c => ∃ x, e = .returned (.tuple #[x, .nilIface]) ∧ (w2c.cell? ⟨w4.heap.size, 0, none⟩ = some (.int .i64 f) ∧ w2c.cell? ⟨w4.heap.size, 1, none⟩ = some (.int .i64 s) ∧ w2c.cell? ⟨w4.heap.size, 2, none⟩ = some (.slice (some ⟨g1, 0, none⟩) m c1) ∧ w2c.cell? ⟨w4.heap.size, 3, none⟩ = some (.slice a2 m c2) ∧ w2c.cell? ⟨g1, k, none⟩ = some (.string nm)) ∧ Below wr.heap.size wr w2c ∧ w2c.ownsRow wr.heap.size 63 2 x F[k].2.length (pairCells F[k].2)) := fun w' hbw hsz => by
            have hb5 := HBR.out.trans (hbw.mono hwl)
            have hbb := HB5.out.trans (hb5.mono HB5.out.size)
            refine (made_points w' (HE.out.below hbb hB) (Nat.le_trans hB hbb.size) HMD.out (by rw [HM.out]; omega) HFN.out (HMA.out w' hb5) nm f (f + s - 1)).mono ?_
            rintro e w2c ⟨x, rfl, hb2, ho2⟩
            rw [hbt, hsz] at ho2
            rw [hsz] at hb2
            have hb3 := HBR.out.trans ((hbw.trans hb2).mono hwl)
            have hx := HX5.out w2c hb3
            exact ⟨x, rfl, ⟨cells_of hx 0, cells_of hx 1, cells_of hx 2, cells_of hx 3, by rw [hnm]; exact hg1 w2c hb3⟩, hbw.trans hb2, ho2⟩
          obtain ⟨nk, hnk⟩ : ∃ nk, nk = F[k].2.length := ⟨_, rfl⟩
          have hnk0 : 0 < nk := by rw [hnk]; exact List.length_pos_iff.2 hne
          rw [← hnk] at HPT
          have HNK := (show Hid _ from And.intro hnk hnm)
          have d0 : ((nk : Int) == 0) = false := by simp; omega
          have hww : IntKind.i64.wrap (IntKind.i64.wrap (f + s) - 1) = f + s - 1 := by rw [IntWalk.i64_in (f + s) (by omega), IntWalk.i64_in (f + s - 1) (by omega)]
          rw [← hww] at HPT
          clear hww
          clear hofr hbt hne hnm hnk hg1 hwl b1 b2 b3 b4 hFl hn70 hk
          go_wp2_with fail
          go_region_held3 (fun w2c => (w2c.cell? ⟨w4.heap.size, 0, none⟩ = some (.int .i64 f) ∧ w2c.cell? ⟨w4.heap.size, 1, none⟩ = some (.int .i64 s) ∧ w2c.cell? ⟨w4.heap.size, 2, none⟩ = some (.slice (some ⟨g1, 0, none⟩) m c1) ∧ w2c.cell? ⟨w4.heap.size, 3, none⟩ = some (.slice a2 m c2) ∧ w2c.cell? ⟨g1, k, none⟩ = some (.string nm))) (go_keep) ((go_at_call 8; refine Calls.mono (HPT.out _ (by first | exact Below.refl _ _ | exact below_drew2 (Below.refl _ _)) (by rfl)) ?_; rintro e w6 ⟨x, rfl, ⟨j0, j1, j2, j3, j4⟩, hb6, ho6⟩; have HB6 := (show Hid _ from hb6); have HO6 := (show Hid _ from ho6); clear hb6 ho6 HPT))
          obtain ⟨a6, c6, rfl⟩ := own_slice1 HO6.out
          have HBW6 := (show Hid _ from HBR.out.trans (HB6.out.mono HWL.out))
          have hwl6 : W5.heap.size ≤ w6.heap.size := HBW6.out.size
          have HO6' := (show Hid _ from own_mono2 HO6.out HWL.out)
          have HRO : Hid (w6.ownsRow W5.heap.size 59 2 u10 k xs) := own_same HOW.out fun g hg => HB6.out.block g (own_blk HOW.out hg).2.1
          have HR6 : Hid (RowsC w6 W5.heap.size xs (F.take k)) := HRC.out.map fun v n ys hv => own_same hv fun g hg => HB6.out.block g (own_blk hv hg).2.1
          have HRA : Hid ((w6.alloc (.cells #[.string nm, .slice a6 nk c6] 59)).ownsRow W5.heap.size 59 2 u10 k xs) := HRO.out.alloc _
          have HNW : Hid (∀ i z, ([.string nm, .slice a6 nk c6] : List Value)[i]? = some z → (w6.alloc (.cells #[.string nm, .slice a6 nk c6] 59)).cell? ((⟨w6.heap.size, 0, none⟩ : Addr).add i) = some z) := World.news_of_block (heap_alloc_new w6 _)
          have H1C : Hid (∀ z ∈ ([.string nm, .slice a6 nk c6] : List Value), z.oneCell' = true) := by
            intro z hz
            simp at hz
            rcases hz with rfl | rfl <;> rfl
          have hk70 : k ≤ 70 := by have := HFL.out; omega
          clear HO6
          go_wp2_with (at_builtin; refine wpList_append_lies _ rfl _ _ 54 rfl W5.heap.size 59 iR (.agg #[.string ⟨#[]⟩, .slice none 0 0]) 2 40 Tryz.underlying54 HII.out hI0 hI1 hI2 rfl (by decide) _ _ _ rfl HRA.out ⟨w6.heap.size, 0, none⟩ 1 1 [.string nm, .slice a6 nk c6] rfl rfl HNW.out H1C.out (by omega) (by unfold maxLen; omega) (by omega) (by simp; omega) _ rfl ?_)
          intro g7 cap7 w7 hown7 hgrow7 _ _
          have hal : ∀ v n ys, w6.ownsRow W5.heap.size 63 2 v n ys → w7.ownsRow W5.heap.size 63 2 v n ys := fun v n ys hv => own_grown (hv.alloc _) HRA.out hgrow7 (by decide)
          have HFIN : Hid (Below W5.heap.size W5 w7 ∧ w7.ownsRow W5.heap.size 59 2 (.slice (some ⟨g7, 0, none⟩) (k + 1) cap7) (k + 1) (xs ++ [.string nm, .slice a6 nk c6]) ∧ RowsC w7 W5.heap.size (xs ++ [.string nm, .slice a6 nk c6]) (F.take (k + 1))) := by
            refine ⟨below_grown2 (HBW6.out.alloc hwl6 _) HRA.out (Nat.le_refl _) (by simp; omega) hgrow7, hown7, ?_⟩
            rw [List.take_succ_eq_append_getElem hkF, HNK.out.2]
            refine RowsC.snoc (row := F[k]) ?_ (HR6.out.map hal)
            have := hal _ _ _ HO6'.out
            rw [← HNK.out.1]
            exact this
          clear hown7 hgrow7 hal
          go_wp2
          go_roundw
          case rel => exact ⟨k + 1, _, by omega, by go_num, HFIN.out.1, HFIN.out.2.1, HFIN.out.2.2⟩
          case measure => simp [intOf] <;> omega
        · obtain rfl : k = m := by omega
          have hge : (k : Int) ≤ (k : Int) := Int.le_refl _
          have hta : F.take k = F := List.take_of_length_le (by rw [HM.out]; omega)
          have hrc := HRC.out
          have hown := HOW.out
          rw [hta] at hrc
          rw [← HM.out] at hown
          obtain ⟨a6, c6, hv6, hP6⟩ := rowsP_of hown hrc
          rw [HM.out] at hv6
          subst hv6
          have hbb := HB5.out.trans (HBR.out.mono HB5.out.size)
          have hmk2 := blMake_any wr (HE.out.below hbb hB) (Nat.le_trans hB hbb.size) f s a6 c6 F hP6 (fun r hr => ⟨HMD.out.bits r hr, by have := HFN.out r hr; omega, by have := (ptsC_zero (HMD.out.well.each r hr).2.1).1; omega⟩) (by rw [HM.out]; omega)
          rw [HM.out] at hmk2
          have HMK2 := (show Hid _ from hmk2)
          clear hmk2 hown hrc hP6 hta
          go_wp2_with fail
          refine Calls.mono HMK2.out ?_
          rintro e w7 ⟨v, hb7, hf7, ⟨hz, u1, u2, rfl, o1, o2⟩ | ⟨hz, rfl⟩⟩
          · have hv := hf7.none hz
            subst hv
            rw [HMD.out.full] at o1 o2
            have hma7 : MadeAt w7 wr.heap.size F u1 u2 := ⟨by rw [List.length_map]; exact o1, by rw [chks_len]; exact o2⟩
            obtain ⟨d1, e1, d2, e2, rfl, rfl, _⟩ := hma7.names
            have HB7 := (show Hid _ from HBR.out.trans (hb7.mono hwl))
            obtain ⟨W8, hW8⟩ : ∃ W8, W8 = w7.alloc (.cells #[.int .i64 f, .int .i64 s, .slice d1 F.length e1, .slice d2 F.length e2] 37) := ⟨_, rfl⟩
            have hb8 : Below w7.heap.size w7 W8 := by rw [hW8]; exact (Below.refl _ _).alloc (Nat.le_refl _) _
            have hx8 : W8.heap[w7.heap.size]? = some (.cells #[.int .i64 f, .int .i64 s, .slice d1 F.length e1, .slice d2 F.length e2] 37 (0, 0)) := by rw [hW8]; exact heap_alloc_new _ _
            have HB8 := (show Hid _ from HB7.out.trans (hb8.mono HB7.out.size))
            have HBW8 := (show Hid _ from HB5.out.trans (HB8.out.mono HB5.out.size))
            have HX8 : Hid (∀ w', Below W8.heap.size W8 w' → (w'.cell? ⟨w4.heap.size, 0, none⟩ = some (.int .i64 f) ∧ w'.cell? ⟨w4.heap.size, 1, none⟩ = some (.int .i64 s) ∧ w'.cell? ⟨w4.heap.size, 2, none⟩ = some (.slice a1 k c1) ∧ w'.cell? ⟨w4.heap.size, 3, none⟩ = some (.slice a2 k c2) ∧ w'.cell? ⟨w7.heap.size, 0, none⟩ = some (.int .i64 f) ∧ w'.cell? ⟨w7.heap.size, 1, none⟩ = some (.int .i64 s) ∧ w'.cell? ⟨w7.heap.size, 2, none⟩ = some (.slice d1 k e1) ∧ w'.cell? ⟨w7.heap.size, 3, none⟩ = some (.slice d2 k e2))) := fun w' h => by
              have p := (h.block _ (blk_lt hx8)).trans hx8
              have q := HX5.out w' (HB8.out.trans (h.mono HB8.out.size))
              rw [HM.out] at p
              exact ⟨cells_of q 0, cells_of q 1, cells_of q 2, cells_of q 3, cells_of p 0, cells_of p 1, cells_of p 2, cells_of p 3⟩
            have HAS : Hid (∀ w' p1 m1 q1 p2 m2 q2, Below W8.heap.size W8 w' → Calls Tryz.prog 20 #[.agg #[.int .i64 f, .int .i64 s, .slice p1 m1 q1, .slice p2 m2 q2]] w' fun e w2c => e = .returned (.agg #[.int .i64 f, .int .i64 s, .slice p1 m1 q1, .slice p2 m2 q2]) ∧ (w2c.cell? ⟨w4.heap.size, 0, none⟩ = some (.int .i64 f) ∧ w2c.cell? ⟨w4.heap.size, 1, none⟩ = some (.int .i64 s) ∧ w2c.cell? ⟨w4.heap.size, 2, none⟩ = some (.slice a1 k c1) ∧ w2c.cell? ⟨w4.heap.size, 3, none⟩ = some (.slice a2 k c2) ∧ w2c.cell? ⟨w7.heap.size, 0, none⟩ = some (.int .i64 f) ∧ w2c.cell? ⟨w7.heap.size, 1, none⟩ = some (.int .i64 s) ∧ w2c.cell? ⟨w7.heap.size, 2, none⟩ = some (.slice d1 k e1) ∧ w2c.cell? ⟨w7.heap.size, 3, none⟩ = some (.slice d2 k e2)) ∧ Below W8.heap.size W8 w2c) := fun w' p1 m1 q1 p2 m2 q2 h => by
              refine (asModel_any w' f s p1 p2 m1 q1 m2 q2).mono ?_
              rintro e w2c ⟨rfl, hbc⟩
              have hh := h.trans (hbc.mono h.size)
              exact ⟨rfl, HX8.out w2c hh, hh⟩
            have HSA : Hid (∀ w', Below W8.heap.size W8 w' → Calls Tryz.prog 19 #[.agg #[.int .i64 f, .int .i64 s, .slice a1 k c1, .slice a2 k c2], .agg #[.int .i64 f, .int .i64 s, .slice d1 k e1, .slice d2 k e2]] w' fun e w2c => e = .returned (.bool true) ∧ (w2c.cell? ⟨w4.heap.size, 0, none⟩ = some (.int .i64 f) ∧ w2c.cell? ⟨w4.heap.size, 1, none⟩ = some (.int .i64 s) ∧ w2c.cell? ⟨w4.heap.size, 2, none⟩ = some (.slice a1 k c1) ∧ w2c.cell? ⟨w4.heap.size, 3, none⟩ = some (.slice a2 k c2) ∧ w2c.cell? ⟨w7.heap.size, 0, none⟩ = some (.int .i64 f) ∧ w2c.cell? ⟨w7.heap.size, 1, none⟩ = some (.int .i64 s) ∧ w2c.cell? ⟨w7.heap.size, 2, none⟩ = some (.slice d1 k e1) ∧ w2c.cell? ⟨w7.heap.size, 3, none⟩ = some (.slice d2 k e2)) ∧ Below W8.heap.size W8 w2c) := fun w' h => by
              have hh := hma7.below (hb8.trans (h.mono hb8.size))
              have h5 := HMA.out w' (HB8.out.trans (h.mono HB8.out.size))
              rw [HM.out] at hh
              refine (made_same w' (f := f) (s := s) (by rw [HM.out]; omega) h5 hh).mono ?_
              rintro e w2c ⟨rfl, hbc⟩
              have h2 := h.trans (hbc.mono h.size)
              exact ⟨rfl, HX8.out w2c h2, h2⟩
            obtain ⟨z0, z1, z2, z3, y0, y1, y2, y3⟩ := HX8.out W8 (Below.refl _ _)
            rw [HM.out] at hW8
            have HW8 : Hid (∀ wx, wx = w7.alloc (.cells #[.int .i64 f, .int .i64 s, .slice d1 k e1, .slice d2 k e2] 37) → wx = W8) := fun wx h => h.trans hW8.symm
            have hw78 : w4.heap.size < w7.heap.size := by have := HB7.out.size; omega
            rw [HM.out]
            clear hz hf7 hb7 o1 o2 hma7 hW8 hb8 hx8 HMK2
            dsimp only
            go_upto_region 16 with fail
            rw [HW8.out _ rfl]
            go_region_held3 (fun w2c => (w2c.cell? ⟨w4.heap.size, 0, none⟩ = some (.int .i64 f) ∧ w2c.cell? ⟨w4.heap.size, 1, none⟩ = some (.int .i64 s) ∧ w2c.cell? ⟨w4.heap.size, 2, none⟩ = some (.slice a1 k c1) ∧ w2c.cell? ⟨w4.heap.size, 3, none⟩ = some (.slice a2 k c2) ∧ w2c.cell? ⟨w7.heap.size, 0, none⟩ = some (.int .i64 f) ∧ w2c.cell? ⟨w7.heap.size, 1, none⟩ = some (.int .i64 s) ∧ w2c.cell? ⟨w7.heap.size, 2, none⟩ = some (.slice d1 k e1) ∧ w2c.cell? ⟨w7.heap.size, 3, none⟩ = some (.slice d2 k e2))) (go_keep) ((first
              | (go_at_call 20; refine Calls.mono (HAS.out _ _ _ _ _ _ _ (by first | exact Below.refl _ _ | exact below_drew2 (Below.refl _ _) | exact HC9.out | exact below_drew2 HC9.out)) ?_; rintro e w9 ⟨rfl, ⟨z0, z1, z2, z3, y0, y1, y2, y3⟩, hc9⟩; have HC9 := (show Hid _ from hc9); clear hc9)
              | (go_at_call 19; refine Calls.mono (HSA.out _ (by first | exact HC9.out | exact below_drew2 HC9.out)) ?_; rintro e w9 ⟨rfl, ⟨z0, z1, z2, z3, y0, y1, y2, y3⟩, hc9⟩; have HC9 := (show Hid _ from hc9); clear hc9)))
            all_goals
              go_wp2
              go_ret
              exact ⟨rfl, HBW8.out.trans (HC9.out.mono HBW8.out.size)⟩
          · exact absurd (well_mk HMD.out.well).1 hz
    · obtain ⟨t, p, hv⟩ := hf4.pos hz
      have HB4 := (show Hid _ from HB3.out.trans (hb4.mono HB3.out.size))
      have hsz4 : w.heap.size ≤ w4.heap.size := HB4.out.size
      have x2 : (w4.alloc (.cells #[.int .i64 0, .int .i64 0, .slice none 0 0, .slice none 0 0] 37)).cell? ⟨w4.heap.size, 2, none⟩ = some (.slice none 0 0) := cells_of (heap_alloc_new _ _) 2
      subst hv
      clear hf4 hz hb4 HMK
      dsimp only
      go_wp2
      go_ret
      exact ⟨rfl, HB4.out.alloc hsz4 _⟩
end Go.Proofs.YtnjmplmogibgfacGreatDoor
