/- The document's sets of points: a set of rows. -/
import Derived.Test.YtijgolnbbaljlaaGreatDoorMdAtGroup
import Derived.Test.YtijgolnbbaljlaaGreatDoorBlkTwoGroup
import Derived.Deep.CutRange
namespace Go.Proofs.YtijgolnbbaljlaaGreatDoor
open Go.RowKit Go.Maps PtMath LabMath

/-- A set that holds rows. -/
structure SetR (w : World) (sb : Nat) (rows : List (List UInt8 × List (Int × Nat))) : Prop where
  ex : ∃ a c b d, w.heap[sb]? = some (.cells #[.slice a rows.length c, .slice b rows.length d] 98 (0, 0)) ∧
    (∀ i (hi : i < rows.length), ∃ g, a = some ⟨g, 0, none⟩ ∧ w.cell? ⟨g, i, none⟩ = some (encStr rows[i].1)) ∧
    (∀ i (hi : i < rows.length), ∃ g, b = some ⟨g, 0, none⟩ ∧ ∃ A C, w.cell? ⟨g, i, none⟩ = some (.slice A rows[i].2.length C) ∧ PtsL w A rows[i].2)
theorem SetR.below {w z : World} {sb : Nat} {rows : List (List UInt8 × List (Int × Nat))} (h : SetR w sb rows) (hb : Below w.heap.size w z) : SetR z sb rows := by
  obtain ⟨a, c, b, d, h1, h2, h3⟩ := h.ex
  refine ⟨a, c, b, d, (hb.block _ (blk_lt h1)).trans h1, fun i hi => ?_, fun i hi => ?_⟩
  · obtain ⟨g, e, hc⟩ := h2 i hi
    exact ⟨g, e, (hb.cell (p := ⟨g, i, none⟩) (World.block_lt_of_cell? w ⟨g, i, none⟩ hc)).trans hc⟩
  · obtain ⟨g, e, A, C, hc, hp⟩ := h3 i hi
    exact ⟨g, e, A, C, (hb.cell (p := ⟨g, i, none⟩) (World.block_lt_of_cell? w ⟨g, i, none⟩ hc)).trans hc, hp.below hb⟩
/-- A set on the way. -/
structure SetA (w : World) (base sb : Nat) (vs vl : Value) (ss : List (List UInt8)) (ls : List Value) : Prop where
  set : w.heap[sb]? = some (.cells #[vs, vl] 98 (0, 0))
  low : sb < base
  names : w.ownsRow base 9 1 vs ss.length (ss.map encStr)
  row : w.ownsRow base 48 1 vl ls.length ls
theorem SetA.below {w z : World} {base sb : Nat} {vs vl : Value} {ss : List (List UInt8)} {ls : List Value} (h : SetA w base sb vs vl ss ls) (hb : Below w.heap.size w z) : SetA z base sb vs vl ss ls :=
  ⟨(hb.block _ (blk_lt h.set)).trans h.set, h.low, own_bel3 h.names hb, own_bel3 h.row hb⟩
theorem own_setc {z : World} {base tb k : Nat} {e : TypeId} {sz : Nat} {v u : Value} {n : Nat} {xs : List Value} (h : z.ownsRow base e sz v n xs) (hl : tb < base) : (z.setCell ⟨tb, k, none⟩ u).ownsRow base e sz v n xs := own_same h fun g hg => by
  have := (own_blk h hg).1
  exact Below.heap_setCell _ _ _ _ (by show g ≠ tb; omega)
/-- One name more. -/
theorem SetA.name {w Y z : World} {base sb : Nat} {vs vl : Value} {ss : List (List UInt8)} {ls : List Value} (h : SetA w base sb vs vl ss ls) {x : List UInt8} {g cap : Nat} (hbase : base ≤ w.heap.size) (h1 : Below w.heap.size w Y) (o : z.ownsRow base 9 1 (.slice (some ⟨g, 0, none⟩) (ss.length + 1) cap) (ss.length + 1) (ss.map encStr ++ [encStr x])) (G : Grw Y z vs g) :
    z.heap[sb]? = some (.cells #[vs, vl] 98 (0, 0)) ∧ Below base w z ∧ SetA (z.setCell ⟨sb, 0, none⟩ (.slice (some ⟨g, 0, none⟩) (ss.length + 1) cap)) base sb (.slice (some ⟨g, 0, none⟩) (ss.length + 1) cap) vl (ss ++ [x]) ls := by
  have hlow := h.low
  have s1 := h1.size
  have b1 : Below base w z := (h1.mono hbase).trans (G.below (by omega) fun q hq => (own_blk h.names hq).1)
  have ht := (b1.block sb hlow).trans h.set
  have hr : z.ownsRow base 48 1 vl ls.length ls := own_same h.row fun g' hg' => by
    obtain ⟨_, q2, cur, hc⟩ := own_blk h.row hg'
    refine (G.blk g' (by omega) fun e => ?_).trans (h1.block g' q2)
    obtain ⟨_, _, cur2, hc2⟩ := own_blk h.names e
    exact cells_ne hc hc2 (by decide) rfl
  refine ⟨ht, b1, ⟨(block_set ht 0 _).trans (by rfl), hlow, ?_, own_setc hr hlow⟩⟩
  have := own_setc (k := 0) (u := .slice (some ⟨g, 0, none⟩) (ss.length + 1) cap) o hlow
  simpa using this
/-- One list more. -/
theorem SetA.list {w Y z : World} {base sb : Nat} {vs vl : Value} {ss : List (List UInt8)} {ls : List Value} (h : SetA w base sb vs vl ss ls) {x : Value} {g cap : Nat} (hbase : base ≤ w.heap.size) (h1 : Below w.heap.size w Y) (o : z.ownsRow base 48 1 (.slice (some ⟨g, 0, none⟩) (ls.length + 1) cap) (ls.length + 1) (ls ++ [x])) (G : Grw Y z vl g) :
    z.heap[sb]? = some (.cells #[vs, vl] 98 (0, 0)) ∧ Below base w z ∧ SetA (z.setCell ⟨sb, 1, none⟩ (.slice (some ⟨g, 0, none⟩) (ls.length + 1) cap)) base sb vs (.slice (some ⟨g, 0, none⟩) (ls.length + 1) cap) ss (ls ++ [x]) := by
  have hlow := h.low
  have s1 := h1.size
  have b1 : Below base w z := (h1.mono hbase).trans (G.below (by omega) fun q hq => (own_blk h.row hq).1)
  have ht := (b1.block sb hlow).trans h.set
  have hr : z.ownsRow base 9 1 vs ss.length (ss.map encStr) := own_same h.names fun g' hg' => by
    obtain ⟨_, q2, cur, hc⟩ := own_blk h.names hg'
    refine (G.blk g' (by omega) fun e => ?_).trans (h1.block g' q2)
    obtain ⟨_, _, cur2, hc2⟩ := own_blk h.row e
    exact cells_ne hc hc2 (by decide) rfl
  refine ⟨ht, b1, ⟨(block_set ht 1 _).trans (by rfl), hlow, own_setc hr hlow, ?_⟩⟩
  have := own_setc (k := 1) (u := .slice (some ⟨g, 0, none⟩) (ls.length + 1) cap) o hlow
  simpa using this
theorem own_row1 {w : World} {base : Nat} {e : TypeId} {v : Value} {xs : List Value} (h : w.ownsRow base e 1 v xs.length xs) : ∃ a c, v = .slice a xs.length c ∧ ∀ k (hk : k < xs.length), ∃ g, a = some ⟨g, 0, none⟩ ∧ w.cell? ⟨g, k, none⟩ = some xs[k] := by
  rcases h.2 with ⟨hv, h0⟩ | ⟨g, cap, cur, hv, hg, hh, h1, h2, h3, h4⟩
  · exact ⟨none, 0, by rw [hv, h0], fun k hk => absurd hk (by omega)⟩
  · refine ⟨_, _, hv, fun k hk => ⟨g, rfl, ?_⟩⟩
    have e0 : w.cell? ⟨g, k, none⟩ = cur[k]? := by simp [World.cell?, hh]
    rw [e0, ← Array.getElem?_toList, ← List.getElem?_eq_getElem hk]
    conv => rhs; rw [← h4]
    rw [List.getElem?_take_of_lt (by omega)]
/-- The set of its lists. -/
theorem SetA.done {w : World} {base sb : Nat} {vs vl : Value} {rows : List (List UInt8 × List (Int × Nat))} {ls : List Value} (h : SetA w base sb vs vl (rows.map Prod.fst) ls) (hl : ls.length = rows.length) (hp : ∀ i (hi : i < rows.length), ∃ A C, ls[i]? = some (.slice A rows[i].2.length C) ∧ PtsL w A rows[i].2) : SetR w sb rows := by
  obtain ⟨a, c, h1, hc⟩ := own_strs h.names
  obtain ⟨b, d, h2, hd⟩ := own_row1 h.row
  have hs := h.set
  rw [h1, h2, hl, List.length_map] at hs
  refine ⟨a, c, b, d, hs, fun i hi => ?_, fun i hi => ?_⟩
  · obtain ⟨g, e, hg⟩ := hc i (by simpa using hi)
    exact ⟨g, e, by rw [hg]; simp⟩
  · obtain ⟨g, e, hg⟩ := hd i (by omega)
    obtain ⟨A, C, hA, hP⟩ := hp i hi
    rw [List.getElem?_eq_getElem (by omega)] at hA
    exact ⟨g, e, A, C, by rw [hg, Option.some.inj hA], hP⟩
theorem Tryz.infoPts3 : (Tryz.prog.info? 48).map (fun i => (i.zero, i.size, i.bytes)) = some (some (.slice none 0 0), 1, 24) := by kernel_rfl

set_option maxRecDepth 1000000 in
set_option maxHeartbeats 4000000 in
theorem bkRows_any (w : World) (la : Option Addr) (c : Nat) (rows : List (List UInt8 × List (Int × Nat))) (hP : RowsP w la rows) (hn : rows.length ≤ 1000) :
    Calls Tryz.prog 18 #[.slice la rows.length c] w fun e w' => e = .returned (.pointer (some ⟨w.heap.size, 0, none⟩)) ∧ Below w.heap.size w w' ∧ SetR w' w.heap.size rows := by
  have HP : Hid (RowsP w la rows) := hP
  obtain ⟨W, hW⟩ : ∃ W, W = w.alloc (.cells #[.slice none 0 0, .slice none 0 0] 98) := ⟨_, rfl⟩
  have hbW : Below w.heap.size w W := by rw [hW]; exact (Below.refl _ _).alloc (Nat.le_refl _) _
  have hsW : W.heap[w.heap.size]? = some (.cells #[.slice none 0 0, .slice none 0 0] 98 (0, 0)) := by rw [hW]; exact heap_alloc_new _ _
  have HW := (show Hid _ from hW)
  have HBW := (show Hid _ from hbW)
  have H0 : Hid (SetA W (w.heap.size + 1) w.heap.size (.slice none 0 0) (.slice none 0 0) [] []) := ⟨hsW, Nat.lt_succ_self _, ⟨rfl, .inl ⟨rfl, rfl⟩⟩, ⟨rfl, .inl ⟨rfl, rfl⟩⟩⟩
  have hsz : w.heap.size + 1 ≤ W.heap.size := blk_lt hsW
  obtain ⟨n, hnn⟩ : ∃ n, n = rows.length := ⟨_, rfl⟩
  have HN := (show Hid _ from hnn.symm)
  rw [← hnn] at hn ⊢
  obtain ⟨iS, hI, hS0, hS1, hS2⟩ := info_parts Tryz.infoStr3
  have HIS := (show Hid _ from hI)
  clear hI
  obtain ⟨iR, hI, hR0, hR1, hR2⟩ := info_parts Tryz.infoPts3
  have HIR := (show Hid _ from hI)
  clear hP hW hbW hsW hnn hI
  go_enter Tryz.func18, Tryz.ntmps18
  go_upto_region 2 with fail
  rw [← HW.out]
  go_wp2_with fail
  go_loopw [4] (fun i wr => ∃ (k : Nat) (vs vl : Value) (ls : List Value), k ≤ n ∧ i = .int .i64 (k : Int) ∧ Below w.heap.size w wr ∧ w.heap.size + 1 ≤ wr.heap.size ∧ ls.length = k ∧ SetA wr (w.heap.size + 1) w.heap.size vs vl ((rows.take k).map Prod.fst) ls ∧ ∀ i (hi : i < rows.length), i < k → ∃ A C, ls[i]? = some (.slice A rows[i].2.length C) ∧ PtsL w A rows[i].2) (fun i _ => n - (intOf i).toNat)
  case atStart => exact ⟨0, _, _, [], Nat.zero_le _, rfl, HBW.out, hsz, rfl, by simpa using H0.out, fun i _ h => absurd h (Nat.not_lt_zero _)⟩
  case round =>
    obtain ⟨k, vs, vl, ls, hk, rfl, hbr, hws, hls, hset, hpt⟩ := hrel
    have HBR := (show Hid _ from hbr)
    have HSE := (show Hid _ from hset)
    have HLS := (show Hid _ from hls)
    have HPT : Hid (∀ i (hi : i < rows.length), i < k → ∃ A C, ls[i]? = some (.slice A rows[i].2.length C) ∧ PtsL w A rows[i].2) := hpt
    by_cases hkn : k < n
    · have hkr : k < rows.length := by rw [HN.out]; exact hkn
      rcases HP.out with h0 | ⟨b, o, rfl, hcs⟩
      · rw [h0] at hkr
        exact absurd hkr (Nat.not_lt_zero _)
      obtain ⟨e1, A, C, e2, hpk⟩ := hcs k hkr
      have hbl : b < w.heap.size := World.block_lt_of_cell? w ⟨b, _, none⟩ e1
      obtain ⟨xk, hxk⟩ : ∃ xk : ByteArray, xk = ⟨(rows[k].1).toArray⟩ := ⟨_, rfl⟩
      have HQ : Hid (∀ w', Below w.heap.size w w' → w'.cell? ⟨b, o + k * 2, none⟩ = some (.string xk) ∧ w'.cell? ⟨b, o + k * 2 + 1, none⟩ = some (.slice A rows[k].2.length C)) := fun w' h => by rw [hxk]; exact ⟨(h.cell (p := ⟨b, _, none⟩) hbl).trans e1, (h.cell (p := ⟨b, _, none⟩) hbl).trans e2⟩
      have k0 : (0 : Int) ≤ (k : Int) := by omega
      have k1 : (k : Int) < (n : Int) := by omega
      have hk3 : k ≤ 1000 := by omega
      have hlk : ((rows.take k).map Prod.fst).length = k := by rw [List.length_map, List.length_take]; omega
      obtain ⟨nk, hnk⟩ : ∃ nk, nk = rows[k].2.length := ⟨_, rfl⟩
      rw [← hnk] at HQ
      have HX := (show Hid _ from And.intro hxk (And.intro hnk hpk))
      obtain ⟨a1, c1, hvs⟩ := own_slice1 hset.names
      obtain ⟨a2, c2, hvl⟩ := own_slice1 hset.row
      rw [hlk] at hvs
      rw [hls] at hvl
      subst hvs hvl
      have HO1 : Hid (wr.ownsRow (w.heap.size + 1) 9 1 (.slice a1 k c1) k (((rows.take k).map Prod.fst).map encStr)) := by have := hset.names; rw [hlk] at this; exact this
      have HLK := (show Hid _ from hlk)
      have hst := hset.set
      have s0 : wr.cell? ⟨w.heap.size, 0, none⟩ = some (.slice a1 k c1) := cells_of hst 0
      have sd0 : wr.drew.cell? ⟨w.heap.size, 0, none⟩ = some (.slice a1 k c1) := s0
      have sa0 : (wr.drew.alloc (.cells #[.string xk] 9)).cell? ⟨w.heap.size, 0, none⟩ = some (.slice a1 k c1) := cells_of ((heap_alloc_old _ _ (blk_lt hst)).trans hst) 0
      have sb0 : (wr.alloc (.cells #[.string xk] 9)).cell? ⟨w.heap.size, 0, none⟩ = some (.slice a1 k c1) := sa0
      have hbd : Below w.heap.size w wr.drew := hbr.drew
      have l0 := (HQ.out wr hbr).1
      have ld0 := (HQ.out _ hbd).1
      clear hset hpt hxk hnk hpk e1 e2 hcs hls hlk hst hbr
      go_wp2_with fail
      go_region_law (refine step_app4 wr (by rfl) _ _ 23 (by rfl) (w.heap.size + 1) 9 iS (.string ⟨#[]⟩) 16 Tryz.underlying23 HIS.out hS0 hS1 hS2 (by rfl) (.slice a1 k c1) k (((rows.take k).map Prod.fst).map encStr) (by rfl) HO1.out (by repeat (first | exact Below.refl _ _ | with_reducible apply bel_alloc | with_reducible apply bel_drew)) _ _ _ _ (by rfl) (by exact heap_alloc_new _ _) (by rfl) (by omega) (by decide) hws ?_; intro g7 cap7 w7 hown7 hgr7 hby7; have h7 := HSE.out.name (x := rows[k].1) hws hby7 (by rw [HLK.out]; rw [HX.out.1] at hown7; exact hown7) hgr7; rw [HLK.out] at h7; have q0 : w7.cell? ⟨w.heap.size, 0, none⟩ = some (.slice a1 k c1) := cells_of h7.1 0; have z0 : w7.frozen? ⟨w.heap.size, 0, none⟩ = false := (by simp [World.frozen?, h7.1]); have H7 := (show Hid _ from And.intro h7.2 hgr7.size); have H7S : Hid (w.heap.size + 1 ≤ w7.heap.size) := (Nat.le_trans hws (Nat.le_trans hby7.size hgr7.size)); clear hown7 hgr7 hby7 h7)
      all_goals (
        obtain ⟨⟨hb7, hset7⟩, _⟩ := H7.out
        obtain ⟨Z7, hZ7⟩ : ∃ Z7, Z7 = w7.setCell ⟨w.heap.size, 0, none⟩ (.slice (some ⟨g7, 0, none⟩) (k + 1) cap7) := ⟨_, rfl⟩
        have hbz : Below w.heap.size w Z7 := by rw [hZ7]; exact (HBR.out.trans (hb7.mono (Nat.le_succ _))).setCell (p := ⟨w.heap.size, 0, none⟩) (Nat.le_refl _) _
        have hsz7 : w.heap.size + 1 ≤ Z7.heap.size := by rw [hZ7, World.size_setCell]; exact H7S.out
        rw [← hZ7] at hset7 ⊢
        have HO2 : Hid (Z7.ownsRow (w.heap.size + 1) 48 1 (.slice a2 k c2) k ls) := by have := hset7.row; rw [HLS.out] at this; exact this
        have hst := hset7.set
        have s1 : Z7.cell? ⟨w.heap.size, 1, none⟩ = some (.slice a2 k c2) := cells_of hst 1
        have sd1 : Z7.drew.cell? ⟨w.heap.size, 1, none⟩ = some (.slice a2 k c2) := s1
        have sa1 : (Z7.drew.alloc (.cells #[.slice A nk C] 48)).cell? ⟨w.heap.size, 1, none⟩ = some (.slice a2 k c2) := cells_of ((heap_alloc_old _ _ (blk_lt hst)).trans hst) 1
        have sb1 : (Z7.alloc (.cells #[.slice A nk C] 48)).cell? ⟨w.heap.size, 1, none⟩ = some (.slice a2 k c2) := sa1
        have l1 := (HQ.out Z7 hbz).2
        have ld1 := (HQ.out _ hbz.drew).2
        have HS7 := (show Hid _ from hset7)
        have HBZ := (show Hid _ from hbz)
        clear hset7 hb7 hZ7 hst H7 H7S q0 z0 l0 ld0 s0 sd0 sa0 sb0 hbd hbz
        go_wp2_with fail
        go_region_law (refine step_app4 Z7 (by rfl) _ _ 96 (by rfl) (w.heap.size + 1) 48 iR (.slice none 0 0) 24 Tryz.underlying96 HIR.out hR0 hR1 hR2 (by rfl) (.slice a2 k c2) k ls (by rfl) HO2.out (by repeat (first | exact Below.refl _ _ | with_reducible apply bel_alloc | with_reducible apply bel_drew)) _ _ _ _ (by rfl) (by exact heap_alloc_new _ _) (by rfl) (by omega) (by decide) hsz7 ?_; intro g8 cap8 w8 hown8 hgr8 hby8; have h8 := HS7.out.list (x := .slice A nk C) hsz7 hby8 (by rw [HLS.out]; exact hown8) hgr8; rw [HLS.out] at h8; have q1 : w8.cell? ⟨w.heap.size, 1, none⟩ = some (.slice a2 k c2) := cells_of h8.1 1; have z1 : w8.frozen? ⟨w.heap.size, 1, none⟩ = false := (by simp [World.frozen?, h8.1]); have H8 := (show Hid _ from h8.2); have H8S : Hid (w.heap.size + 1 ≤ w8.heap.size) := (Nat.le_trans hsz7 (Nat.le_trans hby8.size hgr8.size)); clear hown8 hgr8 hby8 h8)
        all_goals (
          have HFIN : Hid (Below w.heap.size w (w8.setCell ⟨w.heap.size, 1, none⟩ (.slice (some ⟨g8, 0, none⟩) (k + 1) cap8)) ∧ w.heap.size + 1 ≤ (w8.setCell ⟨w.heap.size, 1, none⟩ (.slice (some ⟨g8, 0, none⟩) (k + 1) cap8)).heap.size ∧ (ls ++ [Value.slice A nk C]).length = k + 1 ∧ SetA (w8.setCell ⟨w.heap.size, 1, none⟩ (.slice (some ⟨g8, 0, none⟩) (k + 1) cap8)) (w.heap.size + 1) w.heap.size (.slice (some ⟨g7, 0, none⟩) (k + 1) cap7) (.slice (some ⟨g8, 0, none⟩) (k + 1) cap8) ((rows.take (k + 1)).map Prod.fst) (ls ++ [Value.slice A nk C]) ∧ ∀ i (hi : i < rows.length), i < k + 1 → ∃ A' C', (ls ++ [Value.slice A nk C])[i]? = some (.slice A' rows[i].2.length C') ∧ PtsL w A' rows[i].2) := by
            obtain ⟨hb8, hset8⟩ := H8.out
            refine ⟨(HBZ.out.trans (hb8.mono (Nat.le_succ _))).setCell (p := ⟨w.heap.size, 1, none⟩) (Nat.le_refl _) _, by rw [World.size_setCell]; exact H8S.out, by simp [HLS.out], ?_, fun i hi hik => ?_⟩
            · rw [List.take_succ_eq_append_getElem hkr, List.map_append]
              exact hset8
            · rcases Nat.lt_or_ge i k with h | h
              · obtain ⟨A', C', h1, h2⟩ := HPT.out i hi h
                exact ⟨A', C', by rw [List.getElem?_append_left (by rw [HLS.out]; exact h)]; exact h1, h2⟩
              · obtain rfl : i = k := by omega
                exact ⟨A, C, by rw [List.getElem?_append_right (by rw [HLS.out]; exact Nat.le_refl _), HLS.out, ← HX.out.2.1]; simp, HX.out.2.2⟩
          clear H8 H8S q1 z1
          go_wp2
          go_roundw
          case rel => exact ⟨k + 1, _, _, _, by omega, by go_num, HFIN.out⟩
          case measure => simp [intOf] <;> omega))
    · obtain rfl : k = n := by omega
      have hge : (k : Int) ≤ (k : Int) := Int.le_refl _
      have HF : Hid (SetR wr w.heap.size rows) := by
        have hta : rows.take k = rows := by rw [← HN.out]; exact List.take_length
        rw [hta] at hset
        refine hset.done (by rw [hls, HN.out]) fun i hi => ?_
        obtain ⟨A, C, h1, h2⟩ := hpt i hi (by have := HN.out; omega)
        exact ⟨A, C, h1, h2.below hbr⟩
      clear hset hpt hls hbr
      go_wp2
      go_ret
      exact ⟨rfl, HBR.out, HF.out⟩
end Go.Proofs.YtijgolnbbaljlaaGreatDoor
/- What the document's blocks call, told by codes; a block on the way to being made. -/
namespace Go.Proofs.YtijgolnbbaljlaaGreatDoor
open Go.RowKit Go.Maps PtMath LabMath

theorem pf_any (w : World) (la : Option Addr) (c : Nat) (l : List (Int × Nat)) (hP : PtsL w la l) (hin : PtsIn l) (hn : l.length ≤ 1000) :
    Calls Tryz.prog 50 #[.slice la l.length c] w fun e w' => ∃ A : Int, e = .returned (.agg #[.int .i64 (ptsC l), .int .i64 A]) ∧ Below w.heap.size w w' := by
  by_cases h : 120 < l.length
  · have hc : ptsC l = 2 := by unfold ptsC; rw [if_pos h]
    refine (points_many w la l.length c h (by omega)).mono ?_
    rintro e w' ⟨rfl, hb⟩
    exact ⟨-1, by rw [hc], hb⟩
  · obtain ⟨g, g1, g2⟩ := badAt_spec (ptOk (tickAt l)) l.length
    refine (points_fault w la l.length c (tickAt l) (bitAt l) (pts_of_list hP hin) (by omega) _ g g1 g2 _ _ rfl rfl).mono ?_
    rintro e w' ⟨rfl, hb⟩
    exact ⟨_, by unfold ptsC ptBad; rw [if_neg h], hb⟩
theorem co_any (w : World) (la : Option Addr) (c : Nat) (l : List (Int × Nat)) (hP : PtsL w la l) (hin : PtsIn l) (hz : ptsC l = 0) :
    Calls Tryz.prog 52 #[.slice la l.length c] w fun e w' => e = .returned (encStr (chk l)) ∧ Below w.heap.size w w' := by
  obtain ⟨h1, h2⟩ := ptsC_zero hz
  refine (chunkOf_any w la l.length c (tickAt l) (bitAt l) (pts_of_list hP hin) (by omega) fun i hi => ?_).mono ?_
  · have := h2 i hi
    simp only [ptOk, Bool.and_eq_true, isTick_iff] at this
    omega
  · rintro e w' ⟨rfl, hb⟩
    exact ⟨rfl, hb⟩
/-- What Unchunk answers. -/
def UnOut (w w' : World) (c : List UInt8) (e : Ending) : Prop :=
  Below w.heap.size w w' ∧ ((unC c = 0 ∧ ∃ v, e = .returned (.tuple #[v, .int .i64 0]) ∧ w'.ownsRow w.heap.size 71 2 v (unP c).length (pairCells (unP c))) ∨ (unC c ≠ 0 ∧ e = .returned (.tuple #[.slice none 0 0, .int .i64 (unC c)])))
theorem un_any (w : World) (s : ByteArray) (hs : s.size ≤ 10000) :
    Calls Tryz.prog 56 #[.string s] w fun e w' => UnOut w w' s.data.toList e := by
  refine (unchunk_any s w hs).mono ?_
  rintro e w' ⟨hb, ⟨n, T, Bt, v, hn, hT, hBt, hl, hown, rfl⟩ | ⟨c, hnot, hc, rfl⟩⟩
  · have hch : IsChunk s.data.toList := ⟨n, T, Bt, hn, hT, hBt, hl⟩
    have hu : unP s.data.toList = listOf T Bt n := by
      rw [hl, ← chk_listOf]
      refine unP_chk (ptsC_of (by rw [length_listOf]; exact hn) fun i hi => ?_) fun p hp => ?_
      · rw [length_listOf] at hi
        rw [ptOk_congr _ T n (fun j hj => tickAt_listOf T Bt n j hj) i hi]
        exact hT i hi
      · simp [listOf] at hp
        obtain ⟨i, hi, rfl⟩ := hp
        exact hBt i hi
    refine ⟨hb, .inl ⟨unC_zero.2 hch, v, rfl, ?_⟩⟩
    rw [hu, length_listOf, pairCells_listOf]
    exact hown
  · have hu : unC s.data.toList = (c : Int) := by
      rw [unC_not hnot, hc]
      split
      · rfl
      · split <;> rfl
    refine ⟨hb, .inr ⟨fun h => hnot (unC_zero.1 h), by rw [hu]⟩⟩

/-- A block of the document on the way. -/
structure BlkA (w : World) (base tb : Nat) (f s : Int) (u1 u2 : Value) (ss cs : List (List UInt8)) : Prop where
  blk : w.heap[tb]? = some (.cells #[.int .i64 f, .int .i64 s, u1, u2] 30 (0, 0))
  low : tb < base
  own1 : w.ownsRow base 9 1 u1 ss.length (ss.map encStr)
  own2 : w.ownsRow base 9 1 u2 cs.length (cs.map encStr)
  apart : ∀ g, u1.ownBlock = some g → u2.ownBlock ≠ some g
theorem BlkA.below {w z : World} {base tb : Nat} {f s : Int} {u1 u2 : Value} {ss cs : List (List UInt8)} (h : BlkA w base tb f s u1 u2 ss cs) (hb : Below w.heap.size w z) : BlkA z base tb f s u1 u2 ss cs :=
  ⟨(hb.block _ (blk_lt h.blk)).trans h.blk, h.low, own_bel3 h.own1 hb, own_bel3 h.own2 hb, h.apart⟩
/-- One name more. -/
theorem BlkA.first {w Y z : World} {base tb : Nat} {f s : Int} {u1 u2 : Value} {ss cs : List (List UInt8)} (h : BlkA w base tb f s u1 u2 ss cs) {x : List UInt8} {g cap : Nat} (hbase : base ≤ w.heap.size) (h1 : Below w.heap.size w Y) (o : z.ownsRow base 9 1 (.slice (some ⟨g, 0, none⟩) (ss.length + 1) cap) (ss.length + 1) (ss.map encStr ++ [encStr x])) (G : Grw Y z u1 g) :
    z.heap[tb]? = some (.cells #[.int .i64 f, .int .i64 s, u1, u2] 30 (0, 0)) ∧ Below base w z ∧ BlkA (z.setCell ⟨tb, 2, none⟩ (.slice (some ⟨g, 0, none⟩) (ss.length + 1) cap)) base tb f s (.slice (some ⟨g, 0, none⟩) (ss.length + 1) cap) u2 (ss ++ [x]) cs := by
  have hlow := h.low
  have s1 := h1.size
  have b1 : Below base w z := (h1.mono hbase).trans (G.below (by omega) fun q hq => (own_blk h.own1 hq).1)
  have ht := (b1.block tb hlow).trans h.blk
  have hr : z.ownsRow base 9 1 u2 cs.length (cs.map encStr) := own_same h.own2 fun g' hg' => by
    obtain ⟨_, q2, cur, hc⟩ := own_blk h.own2 hg'
    exact (G.blk g' (by omega) fun e => h.apart g' e hg').trans (h1.block g' q2)
  refine ⟨ht, b1, ⟨(block_set ht 2 _).trans (by rfl), hlow, ?_, own_setc hr hlow, fun g' e1 e2 => ?_⟩⟩
  · have := own_setc (k := 2) (u := .slice (some ⟨g, 0, none⟩) (ss.length + 1) cap) o hlow
    simpa using this
  · simp [Value.ownBlock] at e1
    subst e1
    rcases G.at' with e | e
    · exact h.apart g e e2
    · have := (own_blk h.own2 e2).2.1
      omega
/-- One chunk more. -/
theorem BlkA.second {w Y z : World} {base tb : Nat} {f s : Int} {u1 u2 : Value} {ss cs : List (List UInt8)} (h : BlkA w base tb f s u1 u2 ss cs) {x : List UInt8} {g cap : Nat} (hbase : base ≤ w.heap.size) (h1 : Below w.heap.size w Y) (o : z.ownsRow base 9 1 (.slice (some ⟨g, 0, none⟩) (cs.length + 1) cap) (cs.length + 1) (cs.map encStr ++ [encStr x])) (G : Grw Y z u2 g) :
    z.heap[tb]? = some (.cells #[.int .i64 f, .int .i64 s, u1, u2] 30 (0, 0)) ∧ Below base w z ∧ BlkA (z.setCell ⟨tb, 3, none⟩ (.slice (some ⟨g, 0, none⟩) (cs.length + 1) cap)) base tb f s u1 (.slice (some ⟨g, 0, none⟩) (cs.length + 1) cap) ss (cs ++ [x]) := by
  have hlow := h.low
  have s1 := h1.size
  have b1 : Below base w z := (h1.mono hbase).trans (G.below (by omega) fun q hq => (own_blk h.own2 hq).1)
  have ht := (b1.block tb hlow).trans h.blk
  have hr : z.ownsRow base 9 1 u1 ss.length (ss.map encStr) := own_same h.own1 fun g' hg' => by
    obtain ⟨_, q2, cur, hc⟩ := own_blk h.own1 hg'
    exact (G.blk g' (by omega) fun e => h.apart g' hg' e).trans (h1.block g' q2)
  refine ⟨ht, b1, ⟨(block_set ht 3 _).trans (by rfl), hlow, own_setc hr hlow, ?_, fun g' e1 e2 => ?_⟩⟩
  · have := own_setc (k := 3) (u := .slice (some ⟨g, 0, none⟩) (cs.length + 1) cap) o hlow
    simpa using this
  · simp [Value.ownBlock] at e2
    subst e2
    rcases G.at' with e | e
    · exact h.apart g e1 e
    · have := (own_blk h.own1 e1).2.1
      omega
theorem set2 {z : World} {b : Nat} {p0 p1 : Value} {t : TypeId} (h : z.heap[b]? = some (.cells #[p0, p1] t (0, 0))) (v0 v1 : Value) : ((z.setCell ⟨b, 0, none⟩ v0).setCell ⟨b, 1, none⟩ v1).heap[b]? = some (.cells #[v0, v1] t (0, 0)) := by
  have e1 := (block_set h 0 v0).trans (show _ = some (Obj.cells #[v0, p1] t (0, 0)) by rfl)
  exact (block_set e1 1 v1).trans (by rfl)
end Go.Proofs.YtijgolnbbaljlaaGreatDoor
/- What the statements on blocks call beside the package: long, ownRows, asModel. -/
namespace Go.Proofs.YtijgolnbbaljlaaGreatDoor
open Go.RowKit Go.Maps PtMath

/-- What long answers. -/
def LongR (w w' : World) (rows : List (List UInt8 × List (Int × Nat))) (e : Ending) : Prop :=
  w' = w ∧ (e = .returned (.bool true) ∨ (e = .returned (.bool false) ∧ rows.length ≤ 70 ∧ ∀ r, r ∈ rows → r.1.length ≤ 200 ∧ r.2.length ≤ 250))

set_option maxRecDepth 1000000 in
set_option maxHeartbeats 1000000 in
theorem llong_any (w : World) (la : Option Addr) (c : Nat) (rows : List (List UInt8 × List (Int × Nat))) (hP : RowsP w la rows) (hn : (rows.length : Int) ≤ 9223372036854775807) (hlen : ∀ r, r ∈ rows → (r.2.length : Int) ≤ 140737488355328 ∧ (r.1.length : Int) ≤ 140737488355328) :
    Calls Tryz.prog 14 #[.slice la rows.length c] w fun e w' => LongR w w' rows e := by
  have HP : Hid (RowsP w la rows) := hP
  have HL : Hid (∀ r, r ∈ rows → (r.2.length : Int) ≤ 140737488355328 ∧ (r.1.length : Int) ≤ 140737488355328) := hlen
  obtain ⟨n, hnn⟩ : ∃ n, n = rows.length := ⟨_, rfl⟩
  have HN := (show Hid _ from hnn.symm)
  rw [← hnn] at hn ⊢
  clear hP hlen hnn
  by_cases h70 : 70 < n
  · have hd : decide ((70 : Int) < (n : Int)) = true := by simp; omega
    go_enter Tryz.func14, Tryz.ntmps14
    go_wp2
    go_ret
    exact ⟨rfl, .inl rfl⟩
  · have hd : decide ((70 : Int) < (n : Int)) = false := by simp; omega
    go_enter Tryz.func14, Tryz.ntmps14
    go_wp2_with fail
    go_loopw [3, 4] (fun v3 i wr => ∃ k m : Nat, k ≤ n ∧ i = .int .i64 (k : Int) ∧ v3 = .int .i64 (m : Int) ∧ m ≤ 250 ∧ wr = w ∧ ∀ j (hj : j < rows.length), j < k → rows[j].1.length ≤ 200 ∧ rows[j].2.length ≤ 250) (fun _ i _ => n - (intOf i).toNat)
    case atStart => exact ⟨0, 0, Nat.zero_le _, rfl, rfl, by omega, rfl, fun j _ h => absurd h (Nat.not_lt_zero _)⟩
    case round =>
      obtain ⟨k, m, hk, rfl, rfl, hm, rfl, hall⟩ := hrel
      have HA : Hid (∀ j (hj : j < rows.length), j < k → rows[j].1.length ≤ 200 ∧ rows[j].2.length ≤ 250) := hall
      clear hall
      by_cases hkn : k < n
      · have hkr : k < rows.length := by rw [HN.out]; exact hkn
        rcases HP.out with h0 | ⟨b, o, rfl, hcs⟩
        · rw [h0] at hkr
          exact absurd hkr (Nat.not_lt_zero _)
        obtain ⟨e1, A, C, e2, hpt⟩ := hcs k hkr
        obtain ⟨l2, l1⟩ := HL.out _ (List.getElem_mem hkr)
        obtain ⟨xk, hxk⟩ : ∃ xk : ByteArray, xk = ⟨(rows[k].1).toArray⟩ := ⟨_, rfl⟩
        obtain ⟨nk, hnk⟩ : ∃ nk, nk = rows[k].2.length := ⟨_, rfl⟩
        have hxs : xk.size = rows[k].1.length := by rw [hxk]; simp [ByteArray.size]
        have q1 : wr.cell? ⟨b, o + k * 2, none⟩ = some (.string xk) := by rw [hxk]; exact e1
        have q2 : wr.cell? ⟨b, o + k * 2 + 1, none⟩ = some (.slice A nk C) := by rw [hnk]; exact e2
        have k0 : (0 : Int) ≤ (k : Int) := by omega
        have k1 : (k : Int) < (n : Int) := by omega
        rw [← hxs] at l1
        rw [← hnk] at l2
        have HX := (show Hid _ from And.intro hxs hnk)
        clear e1 e2 hpt hxk hnk hxs hcs
        by_cases h200 : 200 < xk.size
        · have d1 : decide ((200 : Int) < (xk.size : Int)) = true := by simp; omega
          go_wp2
          go_ret
          exact ⟨rfl, .inl rfl⟩
        · have d1 : decide ((200 : Int) < (xk.size : Int)) = false := by simp; omega
          by_cases h250 : 250 < m + nk
          · have d3 : decide ((250 : Int) < (m : Int) + (nk : Int)) = true := by simp; omega
            have d2 : decide ((60 : Int) < (m : Int) + (nk : Int)) = true := by simp; omega
            by_cases h121 : nk = 121
            · have d4 : ((nk : Int) != 121) = false := by simp [h121]
              have d5 : ((nk : Int) == 121) = true := by simp [h121]
              go_wp2
              go_ret
              exact ⟨rfl, .inl rfl⟩
            · have d4 : ((nk : Int) != 121) = true := by simp; omega
              have d5 : ((nk : Int) == 121) = false := by simp; omega
              go_wp2
              go_ret
              exact ⟨rfl, .inl rfl⟩
          · have d3 : decide ((250 : Int) < (m : Int) + (nk : Int)) = false := by simp; omega
            have HNX : Hid (∀ j (hj : j < rows.length), j < k + 1 → rows[j].1.length ≤ 200 ∧ rows[j].2.length ≤ 250) := fun j hj hjk => by
              rcases Nat.lt_or_ge j k with h | h
              · exact HA.out j hj h
              · obtain rfl : j = k := by omega
                have h1 := HX.out.1
                have h2 := HX.out.2
                omega
            by_cases h60 : 60 < m + nk
            · have d2 : decide ((60 : Int) < (m : Int) + (nk : Int)) = true := by simp; omega
              by_cases h121 : nk = 121
              · have d4 : ((nk : Int) != 121) = false := by simp [h121]
                have d5 : ((nk : Int) == 121) = true := by simp [h121]
                go_wp2
                go_roundw
                case rel => exact ⟨k + 1, m + nk, by omega, by go_num, by go_num, by omega, trivial, HNX.out⟩
                case measure => simp [intOf] <;> omega
              · have d4 : ((nk : Int) != 121) = true := by simp; omega
                have d5 : ((nk : Int) == 121) = false := by simp; omega
                go_wp2
                go_ret
                exact ⟨rfl, .inl rfl⟩
            · have d2 : decide ((60 : Int) < (m : Int) + (nk : Int)) = false := by simp; omega
              go_wp2
              go_roundw
              case rel => exact ⟨k + 1, m + nk, by omega, by go_num, by go_num, by omega, trivial, HNX.out⟩
              case measure => simp [intOf] <;> omega
      · have hge : (n : Int) ≤ (k : Int) := by omega
        have HAL : Hid (∀ r, r ∈ rows → r.1.length ≤ 200 ∧ r.2.length ≤ 250) := fun r hr => by
          obtain ⟨j, hj, rfl⟩ := List.getElem_of_mem hr
          exact HA.out j hj (by have := HN.out; omega)
        have HNL : Hid (rows.length ≤ 70) := by have := HN.out; show rows.length ≤ 70; omega
        go_wp2
        go_ret
        exact ⟨rfl, .inr ⟨rfl, HNL.out, HAL.out⟩⟩

set_option maxRecDepth 1000000 in
set_option maxHeartbeats 1000000 in
theorem ownRows_any (w : World) (la : Option Addr) (c : Nat) (rows : List (List UInt8 × List (Int × Nat))) (hP : RowsP w la rows) (hn : rows.length ≤ 1000) (hlen : ∀ r, r ∈ rows → r.2.length ≤ 1000) :
    Calls Tryz.prog 16 #[.slice la rows.length c] w fun e w' => ∃ v xs, e = .returned v ∧ Below w.heap.size w w' ∧ w'.ownsRow w.heap.size 61 2 v rows.length xs ∧ RowsC w' w.heap.size xs rows := by
  have HP : Hid (RowsP w la rows) := hP
  have HL : Hid (∀ r, r ∈ rows → r.2.length ≤ 1000) := hlen
  obtain ⟨n, hnn⟩ : ∃ n, n = rows.length := ⟨_, rfl⟩
  have HN := (show Hid _ from hnn.symm)
  rw [← hnn] at hn ⊢
  clear hP hlen hnn
  obtain ⟨iR, hI, hI0, hI1, hI2⟩ := info_parts Tryz.infoARow
  have HII := (show Hid _ from hI)
  clear hI
  go_enter Tryz.func16, Tryz.ntmps16
  go_wp2_with fail
  go_loopw [3, 4] (fun v3 i wr => ∃ (k : Nat) (xs : List Value), k ≤ n ∧ i = .int .i64 (k : Int) ∧ Below w.heap.size w wr ∧ wr.ownsRow w.heap.size 61 2 v3 k xs ∧ RowsC wr w.heap.size xs (rows.take k)) (fun _ i _ => n - (intOf i).toNat)
  case atStart => exact ⟨0, [], Nat.zero_le _, rfl, Below.refl _ _, ⟨rfl, .inl ⟨rfl, rfl⟩⟩, by simp [RowsC]⟩
  case round =>
    obtain ⟨k, xs, hk, rfl, hbr, hown, hrc⟩ := hrel
    have HB := (show Hid _ from hbr)
    have HO := (show Hid _ from hown)
    have HRC : Hid (RowsC wr w.heap.size xs (rows.take k)) := hrc
    have hwl : w.heap.size ≤ wr.heap.size := hbr.size
    clear hbr hown hrc
    by_cases hkn : k < n
    · have hkr : k < rows.length := by rw [HN.out]; exact hkn
      rcases HP.out with h0 | ⟨b, o, rfl, hcs⟩
      · rw [h0] at hkr
        exact absurd hkr (Nat.not_lt_zero _)
      obtain ⟨e1, A, C, e2, hpt⟩ := hcs k hkr
      have hbl : b < w.heap.size := World.block_lt_of_cell? w ⟨b, _, none⟩ e1
      have l2 := HL.out _ (List.getElem_mem hkr)
      obtain ⟨xk, hxk⟩ : ∃ xk : ByteArray, xk = ⟨(rows[k].1).toArray⟩ := ⟨_, rfl⟩
      have q2 : wr.cell? ⟨b, o + k * 2 + 1, none⟩ = some (.slice A rows[k].2.length C) := (HB.out.cell (p := ⟨b, _, none⟩) hbl).trans e2
      have HQ1 : Hid (∀ w', Below w.heap.size w w' → w'.cell? ⟨b, o + k * 2, none⟩ = some (.string xk)) := fun w' h => by rw [hxk]; exact (h.cell (p := ⟨b, _, none⟩) hbl).trans e1
      have k0 : (0 : Int) ≤ (k : Int) := by omega
      have k1 : (k : Int) < (n : Int) := by omega
      have HOP := (show Hid _ from own_points wr A C rows[k].2 (hpt.below HB.out) l2)
      have HX := (show Hid _ from hxk)
      obtain ⟨nk, hnk⟩ : ∃ nk, nk = rows[k].2.length := ⟨_, rfl⟩
      rw [← hnk] at q2 HOP
      have HNK := (show Hid _ from hnk)
      clear e1 e2 hpt hxk hcs hnk
      go_wp2_with fail
      refine Calls.mono HOP.out ?_
      rintro e w2 ⟨v, rfl, hown2, hb2⟩
      obtain ⟨a3, c3, rfl⟩ := own_slice1 hown2
      have HB2 := (show Hid _ from HB.out.trans (hb2.mono hwl))
      have hwl2 : w.heap.size ≤ w2.heap.size := HB2.out.size
      have q1 := HQ1.out w2 HB2.out
      have HO2 := (show Hid _ from own_mono2 hown2 hwl)
      have HRO : Hid (w2.ownsRow w.heap.size 61 2 u3 k xs) := own_same HO.out fun g hg => hb2.block g (own_blk HO.out hg).2.1
      have HR2 : Hid (RowsC w2 w.heap.size xs (rows.take k)) := HRC.out.map fun v n ys hv => own_same hv fun g hg => hb2.block g (own_blk hv hg).2.1
      have HRA : Hid ((w2.alloc (.cells #[.string xk, .slice a3 nk c3] 61)).ownsRow w.heap.size 61 2 u3 k xs) := HRO.out.alloc _
      have HNW : Hid (∀ i z, ([.string xk, .slice a3 nk c3] : List Value)[i]? = some z → (w2.alloc (.cells #[.string xk, .slice a3 nk c3] 61)).cell? ((⟨w2.heap.size, 0, none⟩ : Addr).add i) = some z) := World.news_of_block (heap_alloc_new w2 _)
      have H1C : Hid (∀ z ∈ ([.string xk, .slice a3 nk c3] : List Value), z.oneCell' = true) := by
        intro z hz
        simp at hz
        rcases hz with rfl | rfl <;> rfl
      clear hown2 hb2 HOP
      go_wp2_with (at_builtin; refine wpList_append_lies _ rfl _ _ 41 rfl w.heap.size 61 iR (.agg #[.string ⟨#[]⟩, .slice none 0 0]) 2 40 Tryz.underlying41 HII.out hI0 hI1 hI2 rfl (by decide) _ _ _ rfl HRA.out ⟨w2.heap.size, 0, none⟩ 1 1 [.string xk, .slice a3 nk c3] rfl rfl HNW.out H1C.out (by omega) (by unfold maxLen; omega) (by omega) (by simp; omega) _ rfl ?_)
      intro g7 cap7 w7 hown7 hgrow7 _ _
      have hal : ∀ v n ys, w2.ownsRow w.heap.size 71 2 v n ys → w7.ownsRow w.heap.size 71 2 v n ys := fun v n ys hv => own_grown (hv.alloc _) HRA.out hgrow7 (by decide)
      have HFIN : Hid (Below w.heap.size w w7 ∧ w7.ownsRow w.heap.size 61 2 (.slice (some ⟨g7, 0, none⟩) (k + 1) cap7) (k + 1) (xs ++ [.string xk, .slice a3 nk c3]) ∧ RowsC w7 w.heap.size (xs ++ [.string xk, .slice a3 nk c3]) (rows.take (k + 1))) := by
        refine ⟨below_grown2 (HB2.out.alloc hwl2 _) HRA.out (Nat.le_refl _) (by simp; omega) hgrow7, hown7, ?_⟩
        rw [List.take_succ_eq_append_getElem hkr, HX.out]
        refine RowsC.snoc (row := rows[k]) ?_ (HR2.out.map hal)
        have := hal _ _ _ HO2.out
        rw [← HNK.out]
        exact this
      clear hown7 hgrow7 hal
      go_wp2
      go_roundw
      case rel => exact ⟨k + 1, _, by omega, by go_num, HFIN.out.1, HFIN.out.2.1, HFIN.out.2.2⟩
      case measure => simp [intOf] <;> omega
    · obtain rfl : k = n := by omega
      have hge : (k : Int) ≤ (k : Int) := Int.le_refl _
      go_wp2
      go_ret
      refine ⟨_, xs, rfl, HB.out, HO.out, ?_⟩
      have := HRC.out
      rw [List.take_of_length_le (by rw [HN.out]; omega)] at this
      exact this

set_option maxRecDepth 1000000 in
theorem asModel_any (w : World) (f s : Int) (a1 a2 : Option Addr) (n1 c1 n2 c2 : Nat) :
    Calls Tryz.prog 12 #[.agg #[.int .i64 f, .int .i64 s, .slice a1 n1 c1, .slice a2 n2 c2]] w fun e w' => e = .returned (.agg #[.int .i64 f, .int .i64 s, .slice a1 n1 c1, .slice a2 n2 c2]) ∧ Below w.heap.size w w' := by
  obtain ⟨W, hW⟩ : ∃ W, W = (w.alloc (.cells #[.int .i64 f, .int .i64 s, .slice a1 n1 c1, .slice a2 n2 c2] 25)).alloc (.cells #[.int .i64 0, .int .i64 0, .slice none 0 0, .slice none 0 0] 30) := ⟨_, rfl⟩
  have hbW : Below w.heap.size w W := by rw [hW]; exact ((Below.refl _ _).alloc (Nat.le_refl _) _).alloc (by simp) _
  have hs1 : (w.alloc (.cells #[.int .i64 f, .int .i64 s, .slice a1 n1 c1, .slice a2 n2 c2] 25)).heap.size = w.heap.size + 1 := by simp
  have hx : W.heap[w.heap.size]? = some (.cells #[.int .i64 f, .int .i64 s, .slice a1 n1 c1, .slice a2 n2 c2] 25 (0, 0)) := by
    rw [hW]
    exact (heap_alloc_old _ _ (by rw [hs1]; omega)).trans (heap_alloc_new _ _)
  have hy : W.heap[w.heap.size + 1]? = some (.cells #[.int .i64 0, .int .i64 0, .slice none 0 0, .slice none 0 0] 30 (0, 0)) := by
    rw [hW, ← hs1]
    exact heap_alloc_new _ _
  have x0 : W.cell? ⟨w.heap.size, 0, none⟩ = some (.int .i64 f) := cells_of hx 0
  have x1 : W.cell? ⟨w.heap.size, 1, none⟩ = some (.int .i64 s) := cells_of hx 1
  have x2 : W.cell? ⟨w.heap.size, 2, none⟩ = some (.slice a1 n1 c1) := cells_of hx 2
  have x3 : W.cell? ⟨w.heap.size, 3, none⟩ = some (.slice a2 n2 c2) := cells_of hx 3
  have y0 : W.cell? ⟨w.heap.size + 1, 0, none⟩ = some (.int .i64 0) := cells_of hy 0
  have y1 : W.cell? ⟨w.heap.size + 1, 1, none⟩ = some (.int .i64 0) := cells_of hy 1
  have y2 : W.cell? ⟨w.heap.size + 1, 2, none⟩ = some (.slice none 0 0) := cells_of hy 2
  have y3 : W.cell? ⟨w.heap.size + 1, 3, none⟩ = some (.slice none 0 0) := cells_of hy 3
  have pf : ∀ k, W.frozen? ⟨w.heap.size + 1, k, none⟩ = false := fun k => by simp [World.frozen?, hy]
  have HY := (show Hid _ from hy)
  have HB := (show Hid _ from hbW)
  have HW := (show Hid _ from hW)
  clear hx hy hbW hs1 hW
  go_enter Tryz.func12, Tryz.ntmps12
  go_upto_region 1 with fail
  rw [← HW.out]
  go_wp2
  obtain ⟨Z, hZ⟩ : ∃ Z, Z = ((((W.setCell ⟨w.heap.size + 1, 0, none⟩ (.int .i64 f)).setCell ⟨w.heap.size + 1, 1, none⟩ (.int .i64 s)).setCell ⟨w.heap.size + 1, 2, none⟩ (.slice a1 n1 c1)).setCell ⟨w.heap.size + 1, 3, none⟩ (.slice a2 n2 c2)) := ⟨_, rfl⟩
  rw [← hZ]
  have hz4 : Z.heap[w.heap.size + 1]? = some (.cells #[.int .i64 f, .int .i64 s, .slice a1 n1 c1, .slice a2 n2 c2] 30 (0, 0)) := by rw [hZ]; exact set4 HY.out _ _ _ _
  have hzb : Below w.heap.size w Z := by rw [hZ]; exact set4_below HB.out (by omega) _ _ _ _
  have z0 : Z.cell? ⟨w.heap.size + 1, 0, none⟩ = some (.int .i64 f) := cells_of hz4 0
  have z1 : Z.cell? ⟨w.heap.size + 1, 1, none⟩ = some (.int .i64 s) := cells_of hz4 1
  have z2 : Z.cell? ⟨w.heap.size + 1, 2, none⟩ = some (.slice a1 n1 c1) := cells_of hz4 2
  have z3 : Z.cell? ⟨w.heap.size + 1, 3, none⟩ = some (.slice a2 n2 c2) := cells_of hz4 3
  clear hZ hz4
  refine bodyPost_ret (v := .agg #[.int .i64 f, .int .i64 s, .slice a1 n1 c1, .slice a2 n2 c2]) (by simp [results, Tryz.results12, go_sem, z0, z1, z2, z3]) rfl ⟨rfl, hzb⟩
end Go.Proofs.YtijgolnbbaljlaaGreatDoor
/- The statements' closed fact on a block. -/
namespace Go.Proofs.YtijgolnbbaljlaaGreatDoor
open Go.RowKit Go.Maps PtMath

theorem chk_len {l : List (Int × Nat)} (h : l.length ≤ 120) : (chk l).length ≤ 10000 := by
  have h1 := length_rowBits (tickAt l) (bitAt l) l.length
  have h3 : (chk l).length = (BitMath.pack (rowBits (tickAt l) (bitAt l) l.length)).length + 4 := by rw [chk, chunkBytes, BitMath.sealOf, List.length_append, length_fourOf]
  rw [BitMath.length_pack] at h3
  omega
def naRows : List (List UInt8 × List (Int × Nat)) := [([110, 61, 97], [(3, 7)])]
theorem naRows_well : WellR 0 10 naRows := by
  refine ⟨by decide, by decide, List.pairwise_singleton _ _, fun r hr => ?_⟩
  simp [naRows] at hr
  subst hr
  exact ⟨naK_read, ptsC_of (by decide) (by decide), by decide⟩
theorem naRows_full : full naRows = naRows := by decide

set_option maxRecDepth 1000000 in
set_option maxHeartbeats 1000000 in
theorem blocked_any {B : Nat} {ea : Nat → Addr} (w : World) (E : EnvK B ea w) (hB : B ≤ w.heap.size) :
    Calls Tryz.prog 7 #[] w fun e w' => e = .returned (.bool true) ∧ Below w.heap.size w w' := by
  obtain ⟨W, hW⟩ : ∃ W, W = (w.alloc (.cells #[.int .i64 3, .int .u64 7] 71)).alloc (.cells #[.string ⟨#[110, 61, 97]⟩, .slice (some ⟨w.heap.size, 0, none⟩) 1 1] 61) := ⟨_, rfl⟩
  have hbW : Below w.heap.size w W := by rw [hW]; exact ((Below.refl _ _).alloc (Nat.le_refl _) _).alloc (by simp) _
  have hs1 : (w.alloc (.cells #[.int .i64 3, .int .u64 7] 71)).heap.size = w.heap.size + 1 := by simp
  have hx : W.heap[w.heap.size]? = some (.cells #[.int .i64 3, .int .u64 7] 71 (0, 0)) := by
    rw [hW]
    exact (heap_alloc_old _ _ (by rw [hs1]; omega)).trans (heap_alloc_new _ _)
  have hy : W.heap[w.heap.size + 1]? = some (.cells #[.string ⟨#[110, 61, 97]⟩, .slice (some ⟨w.heap.size, 0, none⟩) 1 1] 61 (0, 0)) := by
    rw [hW, ← hs1]
    exact heap_alloc_new _ _
  have hP : RowsP W (some ⟨w.heap.size + 1, 0, none⟩) naRows := by
    refine .inr ⟨_, 0, rfl, fun k hk => ?_⟩
    obtain rfl : k = 0 := by simp [naRows] at hk; omega
    refine ⟨cells_of hy 0, _, 1, cells_of hy 1, .inr ⟨w.heap.size, 0, rfl, fun j hj => ?_⟩⟩
    obtain rfl : j = 0 := by simp [naRows] at hj; omega
    exact ⟨cells_of hx 0, cells_of hx 1⟩
  have hmk := blMake_any W (E.below hbW hB) (Nat.le_trans hB hbW.size) 0 10 (some ⟨w.heap.size + 1, 0, none⟩) 1 naRows hP (fun r hr => by
    simp [naRows] at hr
    subst hr
    exact ⟨fun p hp => by simp at hp; subst hp; decide, by decide, by decide⟩) (by decide)
  have HMK : Hid (Calls Tryz.prog 15 #[.int .i64 0, .int .i64 10, .slice (some ⟨w.heap.size + 1, 0, none⟩) 1 1] W fun e w' => MakeOut ea W w' 0 10 naRows e) := hmk
  have HE := (show Hid _ from E)
  have HB := (show Hid _ from hbW)
  have HW := (show Hid _ from hW)
  clear hx hy hbW hs1 hW hP hmk E
  go_enter Tryz.func7, Tryz.ntmps7
  go_wp2_with fail
  rw [← HW.out]
  refine Calls.mono HMK.out ?_
  rintro e w1 ⟨v, hb1, hf1, ⟨hz, u1, u2, rfl, o1, o2⟩ | ⟨hz, rfl⟩⟩
  · have hv := hf1.none hz
    subst hv
    rw [naRows_full] at o1 o2
    obtain ⟨a1, c1, rfl⟩ := own_slice1 o1
    obtain ⟨a2, c2, rfl⟩ := own_slice1 o2
    have HB1 := (show Hid _ from HB.out.trans (hb1.mono HB.out.size))
    obtain ⟨W2, hW2⟩ : ∃ W2, W2 = w1.alloc (.cells #[.int .i64 0, .int .i64 10, .slice a1 1 c1, .slice a2 1 c2] 25) := ⟨_, rfl⟩
    have hbW2 : Below w1.heap.size w1 W2 := by rw [hW2]; exact (Below.refl _ _).alloc (Nat.le_refl _) _
    have hx2 : W2.heap[w1.heap.size]? = some (.cells #[.int .i64 0, .int .i64 10, .slice a1 1 c1, .slice a2 1 c2] 25 (0, 0)) := by rw [hW2]; exact heap_alloc_new _ _
    have HB2 := (show Hid _ from HB1.out.trans (hbW2.mono HB1.out.size))
    obtain ⟨hc, _, _⟩ := well_bk naRows_well (fun r hr => by simp [naRows] at hr; subst hr; exact ⟨by simp, fun p hp => by simp at hp; subst hp; decide⟩)
    have hck := blCheck_any W2 (HE.out.below HB2.out hB) (Nat.le_trans hB HB2.out.size) 0 10 _ _ _ _ (naRows.map Prod.fst) (naRows.map fun r => chk r.2) (own_bel3 (by simpa using o1) hbW2) (own_bel3 (by simpa using o2) hbW2) (fun x hx => by simp [naRows] at hx; subst hx; decide) (fun x hx => by
      simp [naRows] at hx
      subst hx
      exact chk_len (by decide)) (by decide) (by decide)
    rw [hc] at hck
    have HCK : Hid (Calls Tryz.prog 30 #[.agg #[.int .i64 0, .int .i64 10, .slice a1 1 c1, .slice a2 1 c2]] W2 fun e w' => ∃ v, e = .returned v ∧ Below W2.heap.size W2 w' ∧ FaultV ea w' v 0 _) := hck
    have x0 : W2.cell? ⟨w1.heap.size, 0, none⟩ = some (.int .i64 0) := cells_of hx2 0
    have x1 : W2.cell? ⟨w1.heap.size, 1, none⟩ = some (.int .i64 10) := cells_of hx2 1
    have x2 : W2.cell? ⟨w1.heap.size, 2, none⟩ = some (.slice a1 1 c1) := cells_of hx2 2
    have x3 : W2.cell? ⟨w1.heap.size, 3, none⟩ = some (.slice a2 1 c2) := cells_of hx2 3
    have HW2 := (show Hid _ from hW2)
    clear o1 o2 hf1 hb1 hz hW2 hbW2 hx2 hc hck
    dsimp only
    go_upto_region 2 with fail
    rw [show w1.alloc (.cells #[.int .i64 0, .int .i64 10, .slice a1 naRows.length c1, .slice a2 naRows.length c2] 25) = W2 from HW2.out.symm]
    go_wp2_with fail
    refine Calls.mono HCK.out ?_
    rintro e w3 ⟨v3, rfl, hb3, hf3⟩
    have hv := hf3.none rfl
    subst hv
    have HB3 := (show Hid _ from HB2.out.trans (hb3.mono HB2.out.size))
    clear hf3 hb3 HCK
    go_wp2
    go_ret
    exact ⟨rfl, HB3.out⟩
  · exact absurd (well_mk naRows_well).1 hz
end Go.Proofs.YtijgolnbbaljlaaGreatDoor
/- Blocks that were made: what they are and hold. -/
namespace Go.Proofs.YtijgolnbbaljlaaGreatDoor
open Go.RowKit Go.Maps PtMath
theorem ofR_up {l : List (List UInt8 × List (Int × Nat))} (h : (l.map Prod.fst).Pairwise (· < ·)) {k : Nat} (hk : k < l.length) : ofR l l[k].1 = l[k].2 :=
  ofR_at hk (fun j hj hjk e => by
    have := List.pairwise_iff_getElem.1 h j k (by simpa using hj) (by simpa using hk) hjk
    simp only [List.getElem_map] at this
    rw [e] at this
    exact List.lt_irrefl _ this) rfl
/-- The chunks of rows. -/
def chks (F : List (List UInt8 × List (Int × Nat))) : List (List UInt8) := F.map fun r => chk r.2
theorem chks_len (F : List (List UInt8 × List (Int × Nat))) : (chks F).length = F.length := by simp [chks]
/-- What a block made of rows is, and holds. -/
structure MadeB (f s : Int) (F : List (List UInt8 × List (Int × Nat))) : Prop where
  well : WellR f s F
  full : full F = F
  some : ∀ r, r ∈ F → r.2 ≠ [] ∧ BitsIn r.2
  bits : ∀ r, r ∈ F → PtsIn r.2
theorem made_of {f s : Int} {rows : List (List UInt8 × List (Int × Nat))} (h : mkC f s rows = 0) (hin : ∀ r, r ∈ rows → PtsIn r.2) : MadeB f s (full rows) :=
  ⟨(mk_well h).full, full_full fun _ hr => (full_mem hr).2, fun r hr => ⟨(full_mem hr).2, fun p hp => (hin r (full_mem hr).1 p hp).2.2⟩, fun r hr => hin r (full_mem hr).1⟩
theorem MadeB.bk {f s : Int} {F : List (List UInt8 × List (Int × Nat))} (h : MadeB f s F) : bkC f s (F.map Prod.fst) (chks F) = 0 ∧ bkA f s (F.map Prod.fst) (chks F) = -1 ∧ rowsOf (F.map Prod.fst) (chks F) = F := well_bk h.well h.some
theorem MadeB.chunks {f s : Int} {F : List (List UInt8 × List (Int × Nat))} (h : MadeB f s F) : ∀ x, x ∈ (chks F) → x.length ≤ 10000 := fun x hx => by
  obtain ⟨r, hr, rfl⟩ := List.mem_map.1 hx
  exact chk_len (ptsC_zero (h.well.each r hr).2.1).1

/-- A block that was made, as it lies. -/
structure MadeAt (w : World) (b : Nat) (F : List (List UInt8 × List (Int × Nat))) (v1 v2 : Value) : Prop where
  o1 : w.ownsRow b 9 1 v1 (F.map Prod.fst).length ((F.map Prod.fst).map encStr)
  o2 : w.ownsRow b 9 1 v2 (chks F).length ((chks F).map encStr)
theorem MadeAt.below {w z : World} {b : Nat} {F : List (List UInt8 × List (Int × Nat))} {v1 v2 : Value} (h : MadeAt w b F v1 v2) (hb : Below w.heap.size w z) : MadeAt z b F v1 v2 := ⟨own_bel3 h.o1 hb, own_bel3 h.o2 hb⟩
theorem MadeAt.names {w : World} {b : Nat} {F : List (List UInt8 × List (Int × Nat))} {v1 v2 : Value} (h : MadeAt w b F v1 v2) : ∃ a1 c1 a2 c2, v1 = .slice a1 F.length c1 ∧ v2 = .slice a2 F.length c2 ∧ ∀ k (hk : k < F.length), ∃ g, a1 = some ⟨g, 0, none⟩ ∧ w.cell? ⟨g, k, none⟩ = some (encStr F[k].1) := by
  obtain ⟨a1, c1, h1, hc⟩ := own_strs h.o1
  obtain ⟨a2, c2, h2⟩ := own_slice1 h.o2
  rw [List.length_map] at h1
  rw [chks_len] at h2
  refine ⟨a1, c1, a2, c2, h1, h2, fun k hk => ?_⟩
  obtain ⟨g, e, hg⟩ := hc k (by simpa using hk)
  exact ⟨g, e, by rw [hg]; simp⟩
theorem made_points {B : Nat} {ea : Nat → Addr} (w : World) (E : EnvK B ea w) (hB : B ≤ w.heap.size) {f s : Int} {F : List (List UInt8 × List (Int × Nat))} (hmd : MadeB f s F) (hFl : F.length ≤ 70) (hFn : ∀ r, r ∈ F → r.1.length ≤ 200) {b : Nat} {v1 v2 : Value} (h : MadeAt w b F v1 v2) (nm : ByteArray) (lo hi : Int) :
    Calls Tryz.prog 19 #[.agg #[.int .i64 f, .int .i64 s, v1, v2], .string nm, .int .i64 lo, .int .i64 hi] w fun e w' => ∃ x, e = .returned (.tuple #[x, .nilIface]) ∧ Below w.heap.size w w' ∧ w'.ownsRow w.heap.size 71 2 x (betweenL lo hi (ofR F nm.data.toList)).length (pairCells (betweenL lo hi (ofR F nm.data.toList))) := by
  obtain ⟨hz, _, hr⟩ := hmd.bk
  refine (blPoints_any w E hB f s b b v1 v2 (F.map Prod.fst) (chks F) h.o1 h.o2 (fun x hx => ?_) hmd.chunks (by rw [List.length_map]; omega) (by rw [chks_len]; omega) nm lo hi).mono ?_
  · obtain ⟨r, hr, rfl⟩ := List.mem_map.1 hx
    have := hFn r hr
    omega
  · rintro e w' ⟨x, v, rfl, hb, hf, _, ho⟩
    have hv := hf.none hz
    subst hv
    have := ho hz
    rw [hr] at this
    exact ⟨x, rfl, hb, this⟩
theorem made_same (w : World) {f s : Int} {F : List (List UInt8 × List (Int × Nat))} (hFl : F.length ≤ 70) {b b' : Nat} {v1 v2 u1 u2 : Value} (h : MadeAt w b F v1 v2) (k : MadeAt w b' F u1 u2) :
    Calls Tryz.prog 11 #[.agg #[.int .i64 f, .int .i64 s, v1, v2], .agg #[.int .i64 f, .int .i64 s, u1, u2]] w fun e w' => e = .returned (.bool true) ∧ Below w.heap.size w w' :=
  bkSame_any w f s b b' b b' v1 u1 v2 u2 (F.map Prod.fst) (chks F) h.o1 k.o1 h.o2 k.o2 (by rw [List.length_map]; omega) (by rw [chks_len]; omega)
end Go.Proofs.YtijgolnbbaljlaaGreatDoor
/- The document's MakeBlock by its contract. -/
namespace Go.Proofs.YtijgolnbbaljlaaGreatDoor
open Go.RowKit Go.Maps PtMath LabMath

/-- Whether a name stands wrongly behind another. -/
def NmB (b : Bool) (RC : Int) (p n : List UInt8) : Prop := b = true ↔ RC = 0 ∧ ¬ p < n
/-- What MakeBlock answers. -/
def MkOut (w w' : World) (f s : Int) (rows : List (List UInt8 × List (Int × Nat))) (e : Ending) : Prop :=
  Below w.heap.size w w' ∧ ((mkC f s rows = 0 ∧ ∃ u1 u2, e = .returned (.tuple #[.agg #[.int .i64 f, .int .i64 s, u1, u2], .agg #[.int .i64 0, .int .i64 (-1)]]) ∧ MadeAt w' w.heap.size (full rows) u1 u2) ∨
    (mkC f s rows ≠ 0 ∧ e = .returned (.tuple #[.agg #[.int .i64 0, .int .i64 0, .slice none 0 0, .slice none 0 0], .agg #[.int .i64 (mkC f s rows), .int .i64 (mkA f s rows)]])))
/-- A block on the way. -/
structure MkTo (w wr : World) (f s : Int) (rows : List (List UInt8 × List (Int × Nat))) (k : Nat) (u1 u2 : Value) : Prop where
  ok : ∀ j, j < k → rowAt f s rows j = 0
  r1 : wr.heap[w.heap.size]? = some (.cells #[.int .i64 0, .int .i64 0, .slice none 0 0, .slice none 0 0] 30 (0, 0))
  r2 : wr.heap[w.heap.size + 1]? = some (.cells #[.int .i64 0, .int .i64 0] 32 (0, 0))
  two : BlkA wr (w.heap.size + 3) (w.heap.size + 2) f s u1 u2 ((full (rows.take k)).map Prod.fst) (chks (full (rows.take k)))
  bel : Below w.heap.size w wr
  siz : w.heap.size + 3 ≤ wr.heap.size
theorem MkTo.below {w wr z : World} {f s : Int} {rows : List (List UInt8 × List (Int × Nat))} {k : Nat} {u1 u2 : Value} (h : MkTo w wr f s rows k u1 u2) (hb : Below wr.heap.size wr z) : MkTo w z f s rows k u1 u2 :=
  ⟨h.ok, (hb.block _ (blk_lt h.r1)).trans h.r1, (hb.block _ (blk_lt h.r2)).trans h.r2, h.two.below hb, h.bel.trans (hb.mono h.bel.size), Nat.le_trans h.siz hb.size⟩

/-- Behind a change above what was there when it was begun. -/
theorem MkTo.over {w w2 y z : World} {f s : Int} {rows : List (List UInt8 × List (Int × Nat))} {k : Nat} {u1 u2 : Value} (h : MkTo w y f s rows k u1 u2) (hs : w.heap.size + 3 ≤ w2.heap.size) (h2 : MkTo w w2 f s rows k u1 u2) (hb : Below w2.heap.size y z) : MkTo w z f s rows k u1 u2 := by
  have hl1 : ∀ g, u1.ownBlock = some g → g < w2.heap.size := fun g hg => (own_blk h2.two.own1 hg).2.1
  have hl2 : ∀ g, u2.ownBlock = some g → g < w2.heap.size := fun g hg => (own_blk h2.two.own2 hg).2.1
  refine ⟨h.ok, (hb.block _ (by omega)).trans h.r1, (hb.block _ (by omega)).trans h.r2, ⟨(hb.block _ (by omega)).trans h.two.blk, h.two.low, own_same h.two.own1 fun g hg => hb.block g (hl1 g hg), own_same h.two.own2 fun g hg => hb.block g (hl2 g hg), h.two.apart⟩, h.bel.trans (hb.mono (by omega)), Nat.le_trans h.siz hb.size⟩
/-- The blocks of both results, still as they were made. -/
structure ResZ (w z : World) : Prop where
  r1 : z.heap[w.heap.size]? = some (.cells #[.int .i64 0, .int .i64 0, .slice none 0 0, .slice none 0 0] 30 (0, 0))
  r2 : z.heap[w.heap.size + 1]? = some (.cells #[.int .i64 0, .int .i64 0] 32 (0, 0))
theorem ResZ.all {w z : World} (h : ResZ w z) : z.cell? ⟨w.heap.size, 0, none⟩ = some (.int .i64 0) ∧ z.cell? ⟨w.heap.size, 1, none⟩ = some (.int .i64 0) ∧ z.cell? ⟨w.heap.size, 2, none⟩ = some (.slice none 0 0) ∧ z.cell? ⟨w.heap.size, 3, none⟩ = some (.slice none 0 0) ∧ z.cell? ⟨w.heap.size + 1, 0, none⟩ = some (.int .i64 0) ∧ z.cell? ⟨w.heap.size + 1, 1, none⟩ = some (.int .i64 0) ∧ (∀ q, z.frozen? ⟨w.heap.size, q, none⟩ = false) ∧ ∀ q, z.frozen? ⟨w.heap.size + 1, q, none⟩ = false :=
  ⟨cells_of h.r1 0, cells_of h.r1 1, cells_of h.r1 2, cells_of h.r1 3, cells_of h.r2 0, cells_of h.r2 1, fun q => by simp [World.frozen?, h.r1], fun q => by simp [World.frozen?, h.r2]⟩
theorem ResZ.drew {w z : World} (h : ResZ w z) : ResZ w z.drew := ⟨h.r1, h.r2⟩
theorem ResZ.below {w z y : World} (h : ResZ w z) (hb : Below z.heap.size z y) : ResZ w y := ⟨(hb.block _ (blk_lt h.r1)).trans h.r1, (hb.block _ (blk_lt h.r2)).trans h.r2⟩
/-- Both results written. -/
structure ResO (w z : World) (C A : Int) : Prop where
  r1 : z.heap[w.heap.size]? = some (.cells #[.int .i64 0, .int .i64 0, .slice none 0 0, .slice none 0 0] 30 (0, 0))
  r2 : z.heap[w.heap.size + 1]? = some (.cells #[.int .i64 C, .int .i64 A] 32 (0, 0))
  bel : Below w.heap.size w z
theorem ResO.drew {w z : World} {C A : Int} (h : ResO w z C A) : ResO w z.drew C A := ⟨h.r1, h.r2, h.bel.drew⟩
theorem ResZ.set {w z : World} (h : ResZ w z) (hb : Below w.heap.size w z) (C A : Int) : ResO w ((((((z.setCell ⟨w.heap.size, 0, none⟩ (.int .i64 0)).setCell ⟨w.heap.size, 1, none⟩ (.int .i64 0)).setCell ⟨w.heap.size, 2, none⟩ (.slice none 0 0)).setCell ⟨w.heap.size, 3, none⟩ (.slice none 0 0)).setCell ⟨w.heap.size + 1, 0, none⟩ (.int .i64 C)).setCell ⟨w.heap.size + 1, 1, none⟩ (.int .i64 A)) C A := by
  obtain ⟨Z, hZ⟩ : ∃ Z, Z = ((((z.setCell ⟨w.heap.size, 0, none⟩ (.int .i64 0)).setCell ⟨w.heap.size, 1, none⟩ (.int .i64 0)).setCell ⟨w.heap.size, 2, none⟩ (.slice none 0 0)).setCell ⟨w.heap.size, 3, none⟩ (.slice none 0 0)) := ⟨_, rfl⟩
  have e1 : Z.heap[w.heap.size]? = some (.cells #[.int .i64 0, .int .i64 0, .slice none 0 0, .slice none 0 0] 30 (0, 0)) := by rw [hZ]; exact set4 h.r1 _ _ _ _
  have e2 : Z.heap[w.heap.size + 1]? = some (.cells #[.int .i64 0, .int .i64 0] 32 (0, 0)) := by
    rw [hZ, Below.heap_setCell _ _ _ _ (by show w.heap.size + 1 ≠ w.heap.size; omega), Below.heap_setCell _ _ _ _ (by show w.heap.size + 1 ≠ w.heap.size; omega), Below.heap_setCell _ _ _ _ (by show w.heap.size + 1 ≠ w.heap.size; omega), Below.heap_setCell _ _ _ _ (by show w.heap.size + 1 ≠ w.heap.size; omega)]
    exact h.r2
  have eb : Below w.heap.size w Z := by rw [hZ]; exact set4_below hb (Nat.le_refl _) _ _ _ _
  rw [← hZ]
  refine ⟨?_, set2 e2 _ _, (eb.setCell (p := ⟨w.heap.size + 1, 0, none⟩) (Nat.le_succ _) _).setCell (p := ⟨w.heap.size + 1, 1, none⟩) (Nat.le_succ _) _⟩
  rw [Below.heap_setCell _ _ _ _ (by show w.heap.size ≠ w.heap.size + 1; omega), Below.heap_setCell _ _ _ _ (by show w.heap.size ≠ w.heap.size + 1; omega)]
  exact e1
theorem ResZ.put {w z : World} (h : ResZ w z) (hb : Below w.heap.size w z) (v0 v1 v2 v3 p0 p1 : Value) : ∀ Z, Z = ((((((z.setCell ⟨w.heap.size, 0, none⟩ v0).setCell ⟨w.heap.size, 1, none⟩ v1).setCell ⟨w.heap.size, 2, none⟩ v2).setCell ⟨w.heap.size, 3, none⟩ v3).setCell ⟨w.heap.size + 1, 0, none⟩ p0).setCell ⟨w.heap.size + 1, 1, none⟩ p1) → Z.heap[w.heap.size]? = some (.cells #[v0, v1, v2, v3] 30 (0, 0)) ∧ Z.heap[w.heap.size + 1]? = some (.cells #[p0, p1] 32 (0, 0)) ∧ Below w.heap.size w Z ∧ ∀ base e sz v n xs, w.heap.size + 1 < base → z.ownsRow base e sz v n xs → Z.ownsRow base e sz v n xs := by
  intro X hX
  subst hX
  obtain ⟨Z, hZ⟩ : ∃ Z, Z = ((((z.setCell ⟨w.heap.size, 0, none⟩ v0).setCell ⟨w.heap.size, 1, none⟩ v1).setCell ⟨w.heap.size, 2, none⟩ v2).setCell ⟨w.heap.size, 3, none⟩ v3) := ⟨_, rfl⟩
  have e1 : Z.heap[w.heap.size]? = some (.cells #[v0, v1, v2, v3] 30 (0, 0)) := by rw [hZ]; exact set4 h.r1 _ _ _ _
  have e2 : Z.heap[w.heap.size + 1]? = some (.cells #[.int .i64 0, .int .i64 0] 32 (0, 0)) := by
    rw [hZ, Below.heap_setCell _ _ _ _ (by show w.heap.size + 1 ≠ w.heap.size; omega), Below.heap_setCell _ _ _ _ (by show w.heap.size + 1 ≠ w.heap.size; omega), Below.heap_setCell _ _ _ _ (by show w.heap.size + 1 ≠ w.heap.size; omega), Below.heap_setCell _ _ _ _ (by show w.heap.size + 1 ≠ w.heap.size; omega)]
    exact h.r2
  have eb : Below w.heap.size w Z := by rw [hZ]; exact set4_below hb (Nat.le_refl _) _ _ _ _
  rw [← hZ]
  refine ⟨?_, set2 e2 _ _, (eb.setCell (p := ⟨w.heap.size + 1, 0, none⟩) (Nat.le_succ _) _).setCell (p := ⟨w.heap.size + 1, 1, none⟩) (Nat.le_succ _) _, fun base e sz v n xs hl ho => ?_⟩
  · rw [Below.heap_setCell _ _ _ _ (by show w.heap.size ≠ w.heap.size + 1; omega), Below.heap_setCell _ _ _ _ (by show w.heap.size ≠ w.heap.size + 1; omega)]
    exact e1
  · have hl2 : w.heap.size < base := by omega
    rw [hZ]
    exact own_setc (own_setc (own_setc (own_setc (own_setc (own_setc ho hl2) hl2) hl2) hl2) hl) hl
theorem MkTo.res {w wr : World} {f s : Int} {rows : List (List UInt8 × List (Int × Nat))} {k : Nat} {u1 u2 : Value} (h : MkTo w wr f s rows k u1 u2) : ResZ w wr := ⟨h.r1, h.r2⟩

set_option maxRecDepth 1000000 in
set_option maxHeartbeats 8000000 in
theorem bkMake_any (w : World) (sb : Nat) (rows : List (List UInt8 × List (Int × Nat))) (f s : Int) (hR : SetR w sb rows) (hn : rows.length ≤ 1000) (hin : ∀ r, r ∈ rows → PtsIn r.2 ∧ r.1.length ≤ 1000 ∧ r.2.length ≤ 1000) :
    Calls Tryz.prog 17 #[.int .i64 f, .int .i64 s, .pointer (some ⟨sb, 0, none⟩)] w fun e w' => MkOut w w' f s rows e := by
  have HR := (show Hid _ from hR)
  have HIN : Hid (∀ r, r ∈ rows → PtsIn r.2 ∧ r.1.length ≤ 1000 ∧ r.2.length ≤ 1000) := hin
  obtain ⟨W, hW⟩ : ∃ W, W = (w.alloc (.cells #[.int .i64 0, .int .i64 0, .slice none 0 0, .slice none 0 0] 30)).alloc (.cells #[.int .i64 0, .int .i64 0] 32) := ⟨_, rfl⟩
  have hs1 : (w.alloc (.cells #[.int .i64 0, .int .i64 0, .slice none 0 0, .slice none 0 0] 30)).heap.size = w.heap.size + 1 := by simp
  have hbW : Below w.heap.size w W := by rw [hW]; exact ((Below.refl _ _).alloc (Nat.le_refl _) _).alloc (by simp) _
  have hr1 : W.heap[w.heap.size]? = some (.cells #[.int .i64 0, .int .i64 0, .slice none 0 0, .slice none 0 0] 30 (0, 0)) := by
    rw [hW]
    exact (heap_alloc_old _ _ (by rw [hs1]; omega)).trans (heap_alloc_new _ _)
  have hr2 : W.heap[w.heap.size + 1]? = some (.cells #[.int .i64 0, .int .i64 0] 32 (0, 0)) := by
    rw [hW, ← hs1]
    exact heap_alloc_new _ _
  have hsW : W.heap.size = w.heap.size + 2 := by rw [hW]; simp
  have HW := (show Hid _ from hW)
  have HBW := (show Hid _ from hbW)
  have HR1 := (show Hid _ from And.intro hr1 hr2)
  have HRZ : Hid (ResZ w W) := ⟨hr1, hr2⟩
  have HZ : Hid (∀ (Y : World) (C A : Int), ResO w Y C A → mkC f s rows = C ∧ mkA f s rows = A → C ≠ 0 → ∀ (a : Act), a.tmps[6]?.getD undef = .pointer (some ⟨w.heap.size, 0, none⟩) → a.tmps[7]?.getD undef = .pointer (some ⟨w.heap.size + 1, 0, none⟩) → a.defers = [] → bodyPost Tryz.prog Tryz.f17 (fun e w' => MkOut w w' f s rows e) Exit.ret a Y) := fun Y C A h hC hne a t6 t7 hd => by
    have z0 : Y.cell? ⟨w.heap.size, 0, none⟩ = some (.int .i64 0) := cells_of h.r1 0
    have z1 : Y.cell? ⟨w.heap.size, 1, none⟩ = some (.int .i64 0) := cells_of h.r1 1
    have z2 : Y.cell? ⟨w.heap.size, 2, none⟩ = some (.slice none 0 0) := cells_of h.r1 2
    have z3 : Y.cell? ⟨w.heap.size, 3, none⟩ = some (.slice none 0 0) := cells_of h.r1 3
    have v0 : Y.cell? ⟨w.heap.size + 1, 0, none⟩ = some (.int .i64 C) := cells_of h.r2 0
    have v1 : Y.cell? ⟨w.heap.size + 1, 1, none⟩ = some (.int .i64 A) := cells_of h.r2 1
    refine bodyPost_ret (v := .tuple #[.agg #[.int .i64 0, .int .i64 0, .slice none 0 0, .slice none 0 0], .agg #[.int .i64 C, .int .i64 A]]) (by simp [results, Tryz.results17, go_sem, z0, z1, z2, z3, v0, v1, t6, t7]) hd ⟨h.bel, .inr ⟨by rw [hC.1]; exact hne, by rw [hC.1, hC.2]⟩⟩
  have HEND : Hid (∀ (Y : World) (v1 v2 : Value), Y.heap[w.heap.size]? = some (.cells #[.int .i64 f, .int .i64 s, v1, v2] 30 (0, 0)) → Y.heap[w.heap.size + 1]? = some (.cells #[.int .i64 0, .int .i64 (-1)] 32 (0, 0)) → Below w.heap.size w Y → mkC f s rows = 0 → MadeAt Y w.heap.size (full rows) v1 v2 → ∀ (a : Act), a.tmps[6]?.getD undef = .pointer (some ⟨w.heap.size, 0, none⟩) → a.tmps[7]?.getD undef = .pointer (some ⟨w.heap.size + 1, 0, none⟩) → a.defers = [] → bodyPost Tryz.prog Tryz.f17 (fun e w' => MkOut w w' f s rows e) Exit.ret a Y) := fun Y v1 v2 h1 h2 hb hC hm a t6 t7 hd => by
    have z0 : Y.cell? ⟨w.heap.size, 0, none⟩ = some (.int .i64 f) := cells_of h1 0
    have z1 : Y.cell? ⟨w.heap.size, 1, none⟩ = some (.int .i64 s) := cells_of h1 1
    have z2 : Y.cell? ⟨w.heap.size, 2, none⟩ = some v1 := cells_of h1 2
    have z3 : Y.cell? ⟨w.heap.size, 3, none⟩ = some v2 := cells_of h1 3
    have y0 : Y.cell? ⟨w.heap.size + 1, 0, none⟩ = some (.int .i64 0) := cells_of h2 0
    have y1 : Y.cell? ⟨w.heap.size + 1, 1, none⟩ = some (.int .i64 (-1)) := cells_of h2 1
    refine bodyPost_ret (v := .tuple #[.agg #[.int .i64 f, .int .i64 s, v1, v2], .agg #[.int .i64 0, .int .i64 (-1)]]) (by simp [results, Tryz.results17, go_sem, z0, z1, z2, z3, y0, y1, t6, t7]) hd ⟨hb, .inl ⟨hC, v1, v2, rfl, hm⟩⟩
  have HBD := (show Hid _ from bkBounds_any W f s)
  have hE0 := bdE_nonneg f s
  have HBA : Hid (∀ (c : Int) (z : World), Calls Tryz.prog 33 #[.int .i64 c] z fun e w' => e = .returned (.agg #[.int .i64 c, .int .i64 (-1)]) ∧ Below z.heap.size z w') := fun c z => bare_any c z
  obtain ⟨n, hnn⟩ : ∃ n, n = rows.length := ⟨_, rfl⟩
  have HN := (show Hid _ from hnn.symm)
  obtain ⟨a1, c1, a2, c2, hsb, hnm, hpt⟩ := hR.ex
  rw [← hnn] at hn hsb
  have HNM : Hid (∀ i (hi : i < rows.length), ∃ g, a1 = some ⟨g, 0, none⟩ ∧ ∀ z, Below w.heap.size w z → z.cell? ⟨g, i, none⟩ = some (encStr rows[i].1)) := fun i hi => by
    obtain ⟨g, e, hc⟩ := hnm i hi
    exact ⟨g, e, fun z hz => (hz.cell (p := ⟨g, i, none⟩) (World.block_lt_of_cell? w ⟨g, i, none⟩ hc)).trans hc⟩
  have HPT : Hid (∀ i (hi : i < rows.length), ∃ g, a2 = some ⟨g, 0, none⟩ ∧ ∃ A C, ∀ z, Below w.heap.size w z → z.cell? ⟨g, i, none⟩ = some (.slice A rows[i].2.length C) ∧ PtsL z A rows[i].2) := fun i hi => by
    obtain ⟨g, e, A, C, hc, hp⟩ := hpt i hi
    exact ⟨g, e, A, C, fun z hz => ⟨(hz.cell (p := ⟨g, i, none⟩) (World.block_lt_of_cell? w ⟨g, i, none⟩ hc)).trans hc, hp.below hz⟩⟩
  have HSB : Hid (∀ z, Below w.heap.size w z → z.cell? ⟨sb, 0, none⟩ = some (.slice a1 n c1) ∧ z.cell? ⟨sb, 1, none⟩ = some (.slice a2 n c2)) := fun z hz => by
    have := (hz.block _ (blk_lt hsb)).trans hsb
    exact ⟨cells_of this 0, cells_of this 1⟩
  have x0 := (HSB.out W hbW).1
  have f1 : ∀ q, W.frozen? ⟨w.heap.size, q, none⟩ = false := fun q => by simp [World.frozen?, hr1]
  have f2 : ∀ q, W.frozen? ⟨w.heap.size + 1, q, none⟩ = false := fun q => by simp [World.frozen?, hr2]
  obtain ⟨ev, hev⟩ : ∃ ev, ev = bdE f s := ⟨_, rfl⟩
  rw [← hev] at HBD hE0
  have HEV := (show Hid _ from hev)
  clear hR hin hW hbW hr1 hr2 hs1 hnn hsb hnm hpt hev
  go_enter Tryz.func17, Tryz.ntmps17
  go_upto_region 1 with fail
  rw [← HW.out]
  go_wp2_with fail
  refine Calls.mono HBD.out ?_
  rintro e w1 ⟨rfl, hw1⟩
  have hw1' := hw1
  subst hw1'
  clear HBD hw1
  have HBAD : Hid (bdE f s ≠ 0 ∨ 60 < rows.length → mkC f s rows = 2 ∧ mkA f s rows = -1) := fun h => mk_bound h
  by_cases he : 0 < ev
  · have d1 : decide (0 < ev) = true := decide_eq_true he
    have HM : Hid (mkC f s rows = 2 ∧ mkA f s rows = -1) := HBAD.out (.inl (by rw [← HEV.out]; omega))
    clear HBAD x0 he hE0
    go_wp2_with fail
    refine Calls.mono (HBA.out 2 w1) ?_
    rintro e w2 ⟨rfl, hb2⟩
    have hz2 := HRZ.out.below hb2
    have HO2 := (show Hid _ from hz2.set (HBW.out.trans (hb2.mono HBW.out.size)) 2 (-1))
    obtain ⟨p0, p1, p2, p3, p4, p5, p6, p7⟩ := hz2.all
    clear hb2 hz2 f1 f2
    dsimp only
    go_wp2
    exact HZ.out _ 2 (-1) HO2.out HM.out (by decide) _ rfl rfl rfl
  have d1 : decide (0 < ev) = false := decide_eq_false he
  by_cases h60 : 60 < n
  · have d2 : decide ((60 : Int) < (n : Int)) = true := decide_eq_true (by omega)
    have HM : Hid (mkC f s rows = 2 ∧ mkA f s rows = -1) := HBAD.out (.inr (by rw [HN.out]; exact h60))
    clear HBAD he hE0 h60
    go_wp2_with fail
    refine Calls.mono (HBA.out 2 w1) ?_
    rintro e w2 ⟨rfl, hb2⟩
    have hz2 := HRZ.out.below hb2
    have HO2 := (show Hid _ from hz2.set (HBW.out.trans (hb2.mono HBW.out.size)) 2 (-1))
    obtain ⟨p0, p1, p2, p3, p4, p5, p6, p7⟩ := hz2.all
    clear hb2 hz2 f1 f2
    dsimp only
    go_wp2
    exact HZ.out _ 2 (-1) HO2.out HM.out (by decide) _ rfl rfl rfl
  have d2 : decide ((60 : Int) < (n : Int)) = false := decide_eq_false (by omega)
  have hBD : bdE f s = 0 := by rw [← HEV.out]; omega
  have HG : Hid (¬ (bdE f s ≠ 0 ∨ 60 < rows.length)) := by
    rw [HN.out]
    rintro (h | h)
    · exact h hBD
    · exact h60 h
  have hn60 : n ≤ 60 := by omega
  have HBD0 := (show Hid _ from hBD)
  clear HBAD he hE0 h60 hBD hn
  go_upto_region 5 with fail
  obtain ⟨W3, hW3⟩ : ∃ W3, W3 = w1.alloc (.cells #[.int .i64 f, .int .i64 s, .slice none 0 0, .slice none 0 0] 30) := ⟨_, rfl⟩
  have hb3 : Below w1.heap.size w1 W3 := by rw [hW3]; exact (Below.refl _ _).alloc (Nat.le_refl _) _
  have hx3 : W3.heap[w.heap.size + 2]? = some (.cells #[.int .i64 f, .int .i64 s, .slice none 0 0, .slice none 0 0] 30 (0, 0)) := by rw [hW3, ← hsW]; exact heap_alloc_new _ _
  have H0 : Hid (MkTo w W3 f s rows 0 (.slice none 0 0) (.slice none 0 0)) :=
    ⟨fun j h => absurd h (Nat.not_lt_zero _), (hb3.block _ (blk_lt HR1.out.1)).trans HR1.out.1, (hb3.block _ (blk_lt HR1.out.2)).trans HR1.out.2, ⟨hx3, Nat.lt_succ_self _, ⟨rfl, .inl ⟨rfl, rfl⟩⟩, ⟨rfl, .inl ⟨rfl, rfl⟩⟩, fun g e => by simp [Value.ownBlock] at e⟩, HBW.out.trans (hb3.mono HBW.out.size), blk_lt hx3⟩
  rw [← hW3]
  clear hb3 hx3 hW3 x0 f1 f2 d1 d2 hsW
  go_wp2_with fail
  go_loopw [10] (fun i wr => ∃ (k : Nat) (u1 u2 : Value), k ≤ n ∧ i = .int .i64 (k : Int) ∧ MkTo w wr f s rows k u1 u2) (fun i _ => n - (intOf i).toNat)
  case atStart => exact ⟨0, _, _, Nat.zero_le _, rfl, H0.out⟩
  case round =>
    obtain ⟨k, u1, u2, hk, rfl, hto⟩ := hrel
    have HTO := (show Hid _ from hto)
    have HBR := (show Hid _ from hto.bel)
    have hsz := hto.siz
    obtain ⟨y0, y1⟩ := HSB.out wr hto.bel
    clear hto
    by_cases hkn : k < n
    · have hkr : k < rows.length := by rw [HN.out]; exact hkn
      obtain ⟨g1, q1, hg1⟩ := HNM.out k hkr
      subst q1
      obtain ⟨g2, q2, A, C, hg2⟩ := HPT.out k hkr
      subst q2
      obtain ⟨nm, hnm⟩ : ∃ nm : ByteArray, nm = txt rows[k].1 := ⟨_, rfl⟩
      obtain ⟨hpin, hl1, hl2⟩ := HIN.out _ (List.getElem_mem hkr)
      have x4 : wr.cell? ⟨g1, k, none⟩ = some (.string nm) := by rw [hnm]; exact hg1 wr HBR.out
      have k0 : (0 : Int) ≤ (k : Int) := by omega
      have k1 : (k : Int) < (n : Int) := by omega
      have HLB := (show Hid _ from labels_c wr nm (by rw [hnm, txt_size]; omega))
      have hnmd : nm.data.toList = rows[k].1 := by rw [hnm]; rfl
      rw [hnmd] at HLB
      obtain ⟨RC, hRC⟩ : ∃ RC, RC = readC rows[k].1 := ⟨_, rfl⟩
      obtain ⟨RA, hRA⟩ : ∃ RA, RA = readA rows[k].1 := ⟨_, rfl⟩
      rw [← hRC, ← hRA] at HLB
      have hR0 : 0 ≤ RC := by rw [hRC]; exact readC_nonneg _
      have HRC := (show Hid _ from hRC)
      have HNMD := (show Hid _ from And.intro hnm hnmd)
      have HPI := (show Hid _ from And.intro hpin (And.intro hl1 hl2))
      clear hRC hRA hpin hl1 hl2 hnm hnmd
      go_wp2_with fail
      refine Calls.mono HLB.out ?_
      rintro e w2 ⟨hb2, x, rfl⟩
      have HT2 := (show Hid _ from HTO.out.below hb2)
      have hs2 := HT2.out.siz
      clear HLB hb2 y0 y1 x4
      dsimp only
      go_upto_region 9 with fail
      obtain ⟨W4, hW4⟩ : ∃ W4, W4 = w2.alloc (.cells #[.int .i64 RC, .int .i64 RA] 32) := ⟨_, rfl⟩
      have hb4 : Below w2.heap.size w2 W4 := by rw [hW4]; exact (Below.refl _ _).alloc (Nat.le_refl _) _
      have hf4 : W4.heap[w2.heap.size]? = some (.cells #[.int .i64 RC, .int .i64 RA] 32 (0, 0)) := by rw [hW4]; exact heap_alloc_new _ _
      rw [← hW4]
      clear hW4
      have HT4 := (show Hid _ from HT2.out.below hb4)
      have HF4 := (show Hid _ from hf4)
      obtain ⟨y0, y1⟩ := HSB.out W4 HT4.out.bel
      have x4 : W4.cell? ⟨g1, k, none⟩ = some (.string nm) := by rw [HNMD.out.1]; exact hg1 W4 HT4.out.bel
      have v4 : W4.cell? ⟨w2.heap.size, 0, none⟩ = some (.int .i64 RC) := cells_of hf4 0
      have HPV : Hid (0 < k → ∀ z, Below w.heap.size w z → z.cell? ⟨g1, k - 1, none⟩ = some (encStr (prev (rows.map Prod.fst) k))) := fun hk0 z hz => by
        obtain ⟨g, e, h⟩ := HNM.out (k - 1) (by omega)
        simp at e
        subst e
        rw [h z hz]
        have : prev (rows.map Prod.fst) k = rows[k - 1].1 := by
          unfold prev
          rw [if_neg (by omega)]
          exact (row_get (by omega)).1
        rw [this]
      have HNC : Hid (nameC (prev (rows.map Prod.fst) k) rows[k].1 = if RC ≠ 0 then RC else if prev (rows.map Prod.fst) k < rows[k].1 then 0 else 3) := by
        rw [HRC.out]
        rfl
      have HP0 : Hid (k = 0 → RC = 0 → prev (rows.map Prod.fst) k < rows[k].1) := fun h0 hr => by
        unfold prev
        rw [if_pos h0]
        exact lt_nil_of (by rw [← HRC.out]; exact hr)
      clear hf4 hb4
      go_cut [76] from 32 to 145 (fun s76 wz => ∃ (b : Bool) (q : Nat), s76 = .bool b ∧ wz = W4.drewN q ∧ NmB b RC (prev (rows.map Prod.fst) k) rows[k].1)
      case first =>
        by_cases hr : RC = 0
        · subst hr
          by_cases hk0 : k = 0
          · subst hk0
            have HB : Hid (NmB false 0 (prev (rows.map Prod.fst) 0) rows[0].1) := ⟨fun h => (by cases h), fun h => absurd (HP0.out rfl rfl) h.2⟩
            go_quiet (fail)
            go_wp2_with fail
            go_meet
            case rel => exact ⟨false, _, rfl, rfl, HB.out⟩
          · obtain ⟨j, rfl⟩ : ∃ j, k = j + 1 := ⟨k - 1, by omega⟩
            obtain ⟨pv, hpv⟩ : ∃ pv : ByteArray, pv = txt (prev (rows.map Prod.fst) (j + 1)) := ⟨_, rfl⟩
            have x5 : W4.cell? ⟨g1, j, none⟩ = some (.string pv) := by rw [hpv]; exact HPV.out (by omega) W4 HT4.out.bel
            have hlt := less_ba nm pv
            have heq := eq_ba nm pv
            rw [HNMD.out.2, show pv.data.toList = prev (rows.map Prod.fst) (j + 1) by rw [hpv]; rfl] at hlt heq
            have i1 : (0 : Int) ≤ (j : Int) + 1 - 1 := by omega
            have i2 : (j : Int) + 1 - 1 < (n : Int) := by omega
            have i3 : (0 : Int) < (j : Int) + 1 := by omega
            have HLT := (show Hid _ from hlt)
            have HEQ := (show Hid _ from heq)
            clear hlt heq hpv hk0
            by_cases h1 : prev (rows.map Prod.fst) (j + 1) < rows[j + 1].1
            · have hl : Op.bytesLess nm.toList pv.toList = false := by rw [HLT.out]; exact decide_eq_false (fun h => absurd (List.lt_trans h h1) (List.lt_irrefl _))
              have hl2 : (nm.toList == pv.toList) = false := by rw [HEQ.out]; exact decide_eq_false (fun h => by rw [h] at h1; exact List.lt_irrefl _ h1)
              have HB : Hid (NmB false 0 (prev (rows.map Prod.fst) (j + 1)) rows[j + 1].1) := ⟨fun h => (by cases h), fun h => absurd h1 h.2⟩
              clear h1 HLT HEQ
              go_quiet (fail)
              go_wp2_with fail
              go_meet
              case rel => exact ⟨false, _, rfl, rfl, HB.out⟩
            · have HB : Hid (NmB true 0 (prev (rows.map Prod.fst) (j + 1)) rows[j + 1].1) := ⟨fun _ => ⟨rfl, h1⟩, fun _ => rfl⟩
              by_cases h2 : rows[j + 1].1 < prev (rows.map Prod.fst) (j + 1)
              · have hl : Op.bytesLess nm.toList pv.toList = true := by rw [HLT.out]; exact decide_eq_true h2
                clear h1 h2 HLT HEQ
                go_quiet (fail)
                go_wp2_with fail
                go_meet
                case rel => exact ⟨true, _, rfl, rfl, HB.out⟩
              · have hl : Op.bytesLess nm.toList pv.toList = false := by rw [HLT.out]; exact decide_eq_false h2
                have hl2 : (nm.toList == pv.toList) = true := by rw [HEQ.out]; exact decide_eq_true (List.le_antisymm (List.not_lt.1 h1) (List.not_lt.1 h2))
                clear h1 h2 HLT HEQ
                go_quiet (fail)
                go_wp2_with fail
                go_meet
                case rel => exact ⟨true, _, rfl, rfl, HB.out⟩
        · have d3 : (RC == 0) = false := by simpa using hr
          have HB : Hid (NmB false RC (prev (rows.map Prod.fst) k) rows[k].1) := ⟨fun h => (by cases h), fun h => absurd h.1 hr⟩
          clear hr
          go_quiet (fail)
          go_wp2_with fail
          go_meet
          case rel => exact ⟨false, _, rfl, rfl, HB.out⟩
      case rest =>
        obtain ⟨b, q, rfl, hwc, hnb⟩ := hcut
        have HNB := (show Hid _ from hnb)
        have h4c : Below W4.heap.size W4 wc := by rw [hwc]; exact below_draws (Below.refl _ _) q
        have HTC := (show Hid _ from HT4.out.below h4c)
        have hfc := (h4c.block _ (blk_lt HF4.out)).trans HF4.out
        have HFC := (show Hid _ from hfc)
        have hrow : rowAt f s rows k = rowC f s (prev (rows.map Prod.fst) k) rows[k].1 rows[k].2 := by
          unfold rowAt
          rw [(row_get hkr).1, (row_get hkr).2]
        have HROW := (show Hid _ from hrow)
        have HAT : Hid (∀ C : Int, rowAt f s rows k = C → C ≠ 0 → mkC f s rows = C ∧ mkA f s rows = (k : Int)) := fun C hC hne => by
          obtain ⟨h1, h2⟩ := mk_at HG.out hkr HTO.out.ok (by rw [hC]; exact hne)
          exact ⟨h1.trans hC, h2⟩
        have v5 : wc.cell? ⟨w2.heap.size, 0, none⟩ = some (.int .i64 RC) := cells_of hfc 0
        have v6 : wc.drew.cell? ⟨w2.heap.size, 0, none⟩ = some (.int .i64 RC) := v5
        clear hnb hwc h4c hfc hrow y0 y1 x4 v4
        by_cases hr : RC = 0
        · subst hr
          have k3 : wc.cell? ⟨w2.heap.size, 1, none⟩ = some (.int .i64 RA) := cells_of HFC.out 1
          have kf : ∀ q, wc.frozen? ⟨w2.heap.size, q, none⟩ = false := fun q => by simp [World.frozen?, HFC.out]
          by_cases hb : b = true
          · have hn0 := HNB.out.1 hb
            subst hb
            have hnc : nameC (prev (rows.map Prod.fst) k) rows[k].1 = 3 := by rw [HNC.out, if_neg (fun h => h rfl), if_neg hn0.2]
            have HM := (show Hid _ from HAT.out 3 (by rw [HROW.out]; unfold rowC; rw [hnc, if_pos (by decide)]) (by decide))
            clear hn0 hnc
            go_wp2_with fail
            refine Calls.mono (HBA.out 3 wc) ?_
            rintro e w5 ⟨rfl, hb5⟩
            have HT5 := (show Hid _ from HTC.out.below hb5)
            have hf5 := (hb5.block _ (blk_lt HFC.out)).trans HFC.out
            have m0 : w5.cell? ⟨w2.heap.size, 0, none⟩ = some (.int .i64 0) := cells_of hf5 0
            have m1 : w5.cell? ⟨w2.heap.size, 1, none⟩ = some (.int .i64 RA) := cells_of hf5 1
            have mf : ∀ q, w5.frozen? ⟨w2.heap.size, q, none⟩ = false := fun q => by simp [World.frozen?, hf5]
            have HF5 := (show Hid _ from hf5)
            clear hb5 hf5 v5 v6 k3 kf
            dsimp only
            go_upto_region 11 with fail
            have HRN : Hid ((3 : Int) ≠ 0) := (by decide : (3 : Int) ≠ 0)
            obtain ⟨W6, hW6⟩ : ∃ W6, W6 = (w5.setCell ⟨w2.heap.size, 0, none⟩ (.int .i64 3)).setCell ⟨w2.heap.size, 1, none⟩ (.int .i64 (-1)) := ⟨_, rfl⟩
            have hx6 : W6.heap[w2.heap.size]? = some (.cells #[.int .i64 3, .int .i64 (-1)] 32 (0, 0)) := by rw [hW6]; exact set2 HF5.out _ _
            have hb6 : Below w2.heap.size w5 W6 := by rw [hW6]; exact ((Below.refl _ _).setCell (p := ⟨w2.heap.size, 0, none⟩) (Nat.le_refl _) _).setCell (p := ⟨w2.heap.size, 1, none⟩) (Nat.le_refl _) _
            rw [← hW6]
            have HT6 : Hid (MkTo w W6 f s rows k u1 u2) := HT5.out.over hs2 HT2.out hb6
            have HX6 := (show Hid _ from hx6)
            have n0 : W6.cell? ⟨w2.heap.size, 0, none⟩ = some (.int .i64 3) := cells_of hx6 0
            have n1 : W6.drew.cell? ⟨w2.heap.size, 0, none⟩ = some (.int .i64 3) := n0
            clear hW6 hx6 hb6 m0 m1 mf
            obtain ⟨p0, p1, p2, p3, p4, p5, p6, p7⟩ := HT6.out.res.all
            obtain ⟨o0, o1, o2, o3, o4, o5, o6, o7⟩ := HT6.out.res.drew.all
            have HO2 := (show Hid _ from HT6.out.res.set HT6.out.bel 3 k)
            go_wp2_with fail
            go_region
            all_goals (go_wp2; exact HZ.out _ 3 k HO2.out.drew HM.out HRN.out _ rfl rfl rfl)
          · have hbf : b = false := by simpa using hb
            subst hbf
            have hlt : prev (rows.map Prod.fst) k < rows[k].1 := by
              apply Decidable.not_not.1
              intro h
              exact hb (HNB.out.2 ⟨rfl, h⟩)
            have hnc : nameC (prev (rows.map Prod.fst) k) rows[k].1 = 0 := by rw [HNC.out, if_neg (fun h => h rfl), if_pos hlt]
            have HRW : Hid (rowAt f s rows k = if ptsC rows[k].2 ≠ 0 then ptsC rows[k].2 else if insB f s rows[k].2 = true then 0 else 2) := by
              show _ = _
              rw [HROW.out]
              unfold rowC
              rw [hnc, if_neg (fun h => h rfl)]
            obtain ⟨y0, y1⟩ := HSB.out wc HTC.out.bel
            obtain ⟨x6, hpl⟩ := hg2 wc HTC.out.bel
            obtain ⟨nk, hnk⟩ : ∃ nk, nk = rows[k].2.length := ⟨_, rfl⟩
            have HPF := (show Hid _ from pf_any wc A C rows[k].2 hpl HPI.out.1 HPI.out.2.2)
            obtain ⟨PC, hPC⟩ : ∃ PC, PC = ptsC rows[k].2 := ⟨_, rfl⟩
            rw [← hnk] at x6 HPF
            rw [← hPC] at HPF HRW
            have hP0 : 0 ≤ PC := by rw [hPC]; exact ptsC_nonneg _
            have HPC := (show Hid _ from And.intro hPC hnk)
            clear hb hlt hnc hpl hPC hnk
            go_wp2_with fail
            refine Calls.mono HPF.out ?_
            rintro e w5 ⟨PA, rfl, hb5⟩
            have HT5 := (show Hid _ from HTC.out.below hb5)
            have hf5 := (hb5.block _ (blk_lt HFC.out)).trans HFC.out
            have m0 : w5.cell? ⟨w2.heap.size, 0, none⟩ = some (.int .i64 0) := cells_of hf5 0
            have m1 : w5.cell? ⟨w2.heap.size, 1, none⟩ = some (.int .i64 RA) := cells_of hf5 1
            have mf : ∀ q, w5.frozen? ⟨w2.heap.size, q, none⟩ = false := fun q => by simp [World.frozen?, hf5]
            have HF5 := (show Hid _ from hf5)
            clear hb5 hf5 v5 v6 k3 kf HPF y0 y1 x6
            dsimp only
            go_upto_region 13 with fail
            obtain ⟨W6, hW6⟩ : ∃ W6, W6 = (w5.setCell ⟨w2.heap.size, 0, none⟩ (.int .i64 PC)).setCell ⟨w2.heap.size, 1, none⟩ (.int .i64 PA) := ⟨_, rfl⟩
            have hx6 : W6.heap[w2.heap.size]? = some (.cells #[.int .i64 PC, .int .i64 PA] 32 (0, 0)) := by rw [hW6]; exact set2 HF5.out _ _
            have hb6 : Below w2.heap.size w5 W6 := by rw [hW6]; exact ((Below.refl _ _).setCell (p := ⟨w2.heap.size, 0, none⟩) (Nat.le_refl _) _).setCell (p := ⟨w2.heap.size, 1, none⟩) (Nat.le_refl _) _
            rw [← hW6]
            have HT6 : Hid (MkTo w W6 f s rows k u1 u2) := HT5.out.over hs2 HT2.out hb6
            have HX6 := (show Hid _ from hx6)
            have n0 : W6.cell? ⟨w2.heap.size, 0, none⟩ = some (.int .i64 PC) := cells_of hx6 0
            have n1 : W6.drew.cell? ⟨w2.heap.size, 0, none⟩ = some (.int .i64 PC) := n0
            clear hW6 hx6 hb6 m0 m1 mf
            by_cases hp : 0 < PC
            · have hpos : decide (0 < PC) = true := decide_eq_true hp
              have HRN : Hid (PC ≠ 0) := fun h => (by omega)
              have HM := (show Hid _ from HAT.out PC (by rw [HRW.out, if_pos HRN.out]) HRN.out)
              clear hp
              obtain ⟨p0, p1, p2, p3, p4, p5, p6, p7⟩ := HT6.out.res.all
              obtain ⟨o0, o1, o2, o3, o4, o5, o6, o7⟩ := HT6.out.res.drew.all
              have HO2 := (show Hid _ from HT6.out.res.set HT6.out.bel PC k)
              go_wp2_with fail
              go_region
              all_goals (go_wp2; exact HZ.out _ PC k HO2.out.drew HM.out HRN.out _ rfl rfl rfl)
            · obtain rfl : PC = 0 := by omega
              clear hp
              obtain ⟨y0, y1⟩ := HSB.out W6 HT6.out.bel
              obtain ⟨x6, hpl⟩ := hg2 W6 HT6.out.bel
              rw [← HPC.out.2] at x6
              have HIS := (show Hid _ from bkInside_any W6 A C rows[k].2 f s HBD0.out hpl (by have := HPI.out.2.2; omega))
              rw [← HPC.out.2] at HIS
              obtain ⟨ib, hib⟩ : ∃ ib, ib = insB f s rows[k].2 := ⟨_, rfl⟩
              rw [← hib] at HIS
              have HIB := (show Hid _ from hib)
              clear hpl hib
              go_wp2_with fail
              refine Calls.mono HIS.out ?_
              rintro e w7 ⟨rfl, hw7⟩
              have hw7' := hw7
              subst hw7'
              clear hw7 HIS
              cases ib with
              | false =>
                have HRN : Hid ((2 : Int) ≠ 0) := (by decide : (2 : Int) ≠ 0)
                have HM := (show Hid _ from HAT.out 2 (by rw [HRW.out, if_neg (fun h => h rfl), if_neg (by rw [← HIB.out]; decide)]) (by decide))
                obtain ⟨p0, p1, p2, p3, p4, p5, p6, p7⟩ := HT6.out.res.all
                have HO2 := (show Hid _ from HT6.out.res.set HT6.out.bel 2 k)
                go_wp2
                exact HZ.out _ 2 k HO2.out HM.out HRN.out _ rfl rfl rfl
              | true =>
                have HOK : Hid (∀ j, j < k + 1 → rowAt f s rows j = 0) := fun j hj => by
                  rcases Nat.lt_or_ge j k with h | h
                  · exact HT6.out.ok j h
                  · obtain rfl : j = k := by omega
                    rw [HRW.out, if_neg (fun h => h rfl), if_pos HIB.out.symm]
                have HTK : Hid (full (rows.take (k + 1)) = if 0 < rows[k].2.length then full (rows.take k) ++ [rows[k]] else full (rows.take k)) := by
                  show _ = _
                  rw [List.take_succ_eq_append_getElem hkr, full_snoc]
                by_cases hz : 0 < nk
                · have d5 : decide ((0 : Int) < (nk : Int)) = true := decide_eq_true (by omega)
                  have x7 : w7.cell? ⟨g1, k, none⟩ = some (.string nm) := by rw [HNMD.out.1]; exact hg1 w7 HT6.out.bel
                  have xd7 : w7.drew.cell? ⟨g1, k, none⟩ = some (.string nm) := x7
                  have yd0 : w7.drew.cell? ⟨sb, 0, none⟩ = some (.slice (some ⟨g1, 0, none⟩) n c1) := y0
                  have htw := HT6.out.two
                  obtain ⟨nf, hnf⟩ : ∃ nf, nf = (full (rows.take k)).length := ⟨_, rfl⟩
                  have hfk : nf ≤ 60 := by
                    rw [hnf]
                    refine Nat.le_trans (List.length_filter_le ..) ?_
                    rw [List.length_take]
                    omega
                  obtain ⟨b1, e1, hu1⟩ := own_slice1 htw.own1
                  obtain ⟨b2, e2, hu2⟩ := own_slice1 htw.own2
                  rw [List.length_map, ← hnf] at hu1
                  rw [chks_len, ← hnf] at hu2
                  subst hu1 hu2
                  have hs6 := HT6.out.siz
                  have HO1 : Hid (w7.ownsRow (w.heap.size + 3) 9 1 (.slice b1 nf e1) nf (((full (rows.take k)).map Prod.fst).map encStr)) := by have := htw.own1; rw [List.length_map, ← hnf] at this; exact this
                  have HNF := (show Hid _ from hnf)
                  have s0 : w7.cell? ⟨w.heap.size + 2, 2, none⟩ = some (.slice b1 nf e1) := cells_of htw.blk 2
                  have sd0 : w7.drew.cell? ⟨w.heap.size + 2, 2, none⟩ = some (.slice b1 nf e1) := s0
                  have sa0 : (w7.drew.alloc (.cells #[.string nm] 9)).cell? ⟨w.heap.size + 2, 2, none⟩ = some (.slice b1 nf e1) := cells_of ((heap_alloc_old _ _ (blk_lt htw.blk)).trans htw.blk) 2
                  have sb0 : (w7.alloc (.cells #[.string nm] 9)).cell? ⟨w.heap.size + 2, 2, none⟩ = some (.slice b1 nf e1) := sa0
                  obtain ⟨iS, hI, hS0, hS1, hS2⟩ := info_parts Tryz.infoStr3
                  have HSS := (show Hid _ from hI)
                  clear hI htw hnf
                  go_upto_region 19 with fail
                  go_cut [10] from 32 to 145 (fun v10 wz => v10 = .int .i64 (k : Int) ∧ ∃ g8 cap8, Below (w.heap.size + 2) w7 wz ∧ w.heap.size + 3 ≤ wz.heap.size ∧ BlkA wz (w.heap.size + 3) (w.heap.size + 2) f s (.slice (some ⟨g8, 0, none⟩) (nf + 1) cap8) (.slice b2 nf e2) ((full (rows.take k)).map Prod.fst ++ [rows[k].1]) (chks (full (rows.take k))))
                  case first =>
                    go_region_law (refine step_app4 w7 (by rfl) _ _ 23 (by rfl) (w.heap.size + 3) 9 iS (.string ⟨#[]⟩) 16 Tryz.underlying23 HSS.out hS0 hS1 hS2 (by rfl) (.slice b1 nf e1) nf (((full (rows.take k)).map Prod.fst).map encStr) (by rfl) HO1.out (by repeat (first | exact Below.refl _ _ | with_reducible apply bel_alloc | with_reducible apply bel_drew)) _ _ _ _ (by rfl) (by exact heap_alloc_new _ _) (by rfl) (by omega) (by decide) hs6 ?_; intro g8 cap8 w8 hown8 hgr8 hby8; have h8 := HT6.out.two.first (x := rows[k].1) hs6 hby8 (by rw [List.length_map, ← HNF.out]; rw [HNMD.out.1] at hown8; exact hown8) hgr8; rw [List.length_map, ← HNF.out] at h8; have q0 : w8.cell? ⟨w.heap.size + 2, 2, none⟩ = some (.slice b1 nf e1) := cells_of h8.1 2; have z0 : w8.frozen? ⟨w.heap.size + 2, 2, none⟩ = false := (by simp [World.frozen?, h8.1]); have H8 := (show Hid _ from h8.2); have H8S : Hid (w.heap.size + 3 ≤ w8.heap.size) := (Nat.le_trans hs6 (Nat.le_trans hby8.size hgr8.size)); clear hown8 hgr8 hby8 h8)
                    all_goals (
                      have hb8 : Below (w.heap.size + 2) w7 (w8.setCell ⟨w.heap.size + 2, 2, none⟩ (.slice (some ⟨g8, 0, none⟩) (nf + 1) cap8)) := (H8.out.1.mono (Nat.le_succ _)).setCell (p := ⟨w.heap.size + 2, 2, none⟩) (Nat.le_refl _) _
                      have hs8 : w.heap.size + 3 ≤ (w8.setCell ⟨w.heap.size + 2, 2, none⟩ (.slice (some ⟨g8, 0, none⟩) (nf + 1) cap8)).heap.size := by rw [World.size_setCell]; exact H8S.out
                      have HF8 := (show Hid _ from And.intro hb8 (And.intro hs8 H8.out.2))
                      clear hb8 hs8 H8 H8S q0 z0
                      go_wp2_with fail
                      go_meet
                      case rel => exact ⟨rfl, g8, cap8, HF8.out⟩)
                  case rest =>
                    obtain ⟨rfl, g8, cap8, hb8, hs8, ht8⟩ := hcut
                    have HT8 := (show Hid _ from ht8)
                    have HB8 := (show Hid _ from hb8)
                    have HBW8 := (show Hid _ from HT6.out.bel.trans (hb8.mono (by omega)))
                    obtain ⟨y0, y1⟩ := HSB.out wc HBW8.out
                    obtain ⟨x6, hpl⟩ := hg2 wc HBW8.out
                    rw [← HPC.out.2] at x6
                    have yd1 : wc.drew.cell? ⟨sb, 1, none⟩ = some (.slice (some ⟨g2, 0, none⟩) n c2) := y1
                    have xd6 : wc.drew.cell? ⟨g2, k, none⟩ = some (.slice A nk C) := x6
                    obtain ⟨ck, hck⟩ : ∃ ck : ByteArray, ck = txt (chk rows[k].2) := ⟨_, rfl⟩
                    have HCO : Hid (∀ z, Below wc.heap.size wc z → Calls Tryz.prog 52 #[.slice A nk C] z fun e w' => e = .returned (.string ck) ∧ Below wc.heap.size wc w') := fun z hz => by
                      have := co_any z A C rows[k].2 (hpl.below hz) HPI.out.1 HPC.out.1.symm
                      rw [← HPC.out.2] at this
                      refine this.mono ?_
                      rintro e w' ⟨rfl, hb⟩
                      exact ⟨by rw [hck]; rfl, hz.trans (hb.mono hz.size)⟩
                    have HO2 : Hid (wc.ownsRow (w.heap.size + 3) 9 1 (.slice b2 nf e2) nf ((chks (full (rows.take k))).map encStr)) := by have := HT8.out.own2; rw [chks_len, ← HNF.out] at this; exact this
                    have t3 : wc.cell? ⟨w.heap.size + 2, 3, none⟩ = some (.slice b2 nf e2) := cells_of HT8.out.blk 3
                    have td3 : wc.drew.cell? ⟨w.heap.size + 2, 3, none⟩ = some (.slice b2 nf e2) := t3
                    have HTZ : Hid (∀ z, Below wc.heap.size wc z → z.cell? ⟨w.heap.size + 2, 3, none⟩ = some (.slice b2 nf e2)) := fun z hz => cells_of ((hz.block _ (blk_lt HT8.out.blk)).trans HT8.out.blk) 3
                    have HCK := (show Hid _ from hck)
                    clear x7 xd7 yd0 s0 sd0 sa0 sb0 ht8 hb8 hpl hck
                    go_wp2_with fail
                    have HSO : Hid (∀ w', Below wc.heap.size wc w' → w'.cell? ⟨w.heap.size + 2, 3, none⟩ = some (.slice b2 nf e2) ∧ w'.cell? ⟨sb, 1, none⟩ = some (.slice (some ⟨g2, 0, none⟩) n c2) ∧ w'.cell? ⟨g2, k, none⟩ = some (.slice A nk C)) := fun z hz => ⟨HTZ.out z hz, (HSB.out z (HBW8.out.trans (hz.mono HBW8.out.size))).2, by have := (hg2 z (HBW8.out.trans (hz.mono HBW8.out.size))).1; rw [← HPC.out.2] at this; exact this⟩
                    refine wp_region_S (S := fun w' => w'.cell? ⟨w.heap.size + 2, 3, none⟩ = some (.slice b2 nf e2) ∧ w'.cell? ⟨sb, 1, none⟩ = some (.slice (some ⟨g2, 0, none⟩) n c2) ∧ w'.cell? ⟨g2, k, none⟩ = some (.slice A nk C)) (by kernel_rfl) 13 ⟨td3, yd1, xd6⟩ (fun hHeld => ?_)
                    refine wpAnyS_take0 (i := 0) (v := .pointer (some ⟨w.heap.size + 2, 3, none⟩)) rfl (by kernel_rfl) (by kernel_rfl) (by kernel_rfl) (by kernel_rfl) (fun _ _ _ h => h) (Or.inl ⟨by rfl, ?_⟩) (fun _ => hHeld) ?_
                    · intro w _
                      go_simp
                    try simp only [Act.put]
                    refine wpAnyS_take (i := 1) (v := .slice b2 nf e2) rfl (by kernel_rfl) (by kernel_rfl) (by kernel_rfl) (by kernel_rfl) (by kernel_rfl) (by kernel_rfl) (fun _ _ _ h => h) (Or.inl ⟨by rfl, ?_⟩) hHeld ?_
                    · intro w hSw
                      obtain ⟨jh0, jh1, jh2⟩ := hSw
                      go_simp
                    try simp only [Act.put]
                    refine wpAnyS_take0 (i := 2) (v := .pointer (some ⟨sb, 0, none⟩)) rfl (by kernel_rfl) (by kernel_rfl) (by kernel_rfl) (by kernel_rfl) (fun _ _ _ h => h) (Or.inl ⟨by rfl, ?_⟩) (fun _ => hHeld) ?_
                    · intro w _
                      go_simp
                    try simp only [Act.put]
                    refine wpAnyS_take0 (i := 3) (v := .pointer (some ⟨sb, 0, none⟩)) rfl (by kernel_rfl) (by kernel_rfl) (by kernel_rfl) (by kernel_rfl) (fun _ _ _ h => h) (Or.inl ⟨by rfl, ?_⟩) (fun _ => hHeld) ?_
                    · intro w _
                      go_simp
                    try simp only [Act.put]
                    refine wpAnyS_take0 (i := 4) (v := .pointer (some ⟨sb, 1, none⟩)) rfl (by kernel_rfl) (by kernel_rfl) (by kernel_rfl) (by kernel_rfl) (fun _ _ _ h => h) (Or.inl ⟨by rfl, ?_⟩) (fun _ => hHeld) ?_
                    · intro w _
                      go_simp
                    try simp only [Act.put]
                    refine wpAnyS_take (i := 5) (v := .slice (some ⟨g2, 0, none⟩) n c2) rfl (by kernel_rfl) (by kernel_rfl) (by kernel_rfl) (by kernel_rfl) (by kernel_rfl) (by kernel_rfl) (fun _ _ _ h => h) (Or.inl ⟨by rfl, ?_⟩) hHeld ?_
                    · intro w hSw
                      obtain ⟨jh0, jh1, jh2⟩ := hSw
                      go_simp
                    try simp only [Act.put]
                    refine wpAnyS_take0 (i := 6) (v := .int .i64 (k : Int)) rfl (by kernel_rfl) (by kernel_rfl) (by kernel_rfl) (by kernel_rfl) (fun _ _ _ h => h) (Or.inl ⟨by rfl, ?_⟩) (fun _ => hHeld) ?_
                    · intro w _
                      go_simp
                    try simp only [Act.put]
                    refine wpAnyS_take0 (i := 7) (v := .pointer (some ⟨g2, k, none⟩)) rfl (by kernel_rfl) (by kernel_rfl) (by kernel_rfl) (by kernel_rfl) (fun _ _ _ h => h) (Or.inl ⟨by rfl, ?_⟩) (fun _ => hHeld) ?_
                    · intro w _
                      go_simp
                    try simp only [Act.put]
                    refine wpAnyS_take (i := 8) (v := .slice A nk C) rfl (by kernel_rfl) (by kernel_rfl) (by kernel_rfl) (by kernel_rfl) (by kernel_rfl) (by kernel_rfl) (fun _ _ _ h => h) (Or.inl ⟨by rfl, ?_⟩) hHeld ?_
                    · intro w hSw
                      obtain ⟨jh0, jh1, jh2⟩ := hSw
                      go_simp
                    try simp only [Act.put]
                    refine wpAnyS_ready (rs := [9]) (by kernel_rfl) (by simp) ?_
                    refine AllReadyS.cons rfl (fun K hK => ?_) AllReadyS.nil
                    go_simp
                    refine Calls.mono (HCO.out _ (by repeat (first | exact Below.refl _ _ | assumption | with_reducible apply bel_alloc | with_reducible apply bel_drew))) ?_
                    rintro e w10 ⟨rfl, hb10⟩
                    dsimp only
                    refine hK.out _ _ (HSO.out _ hb10) ?_
                    clear hK K
                    try simp only [Act.put]
                    refine wpAnyS_ready (rs := [10]) (by kernel_rfl) (by simp) ?_
                    refine AllReadyS.cons rfl (fun K hK => ?_) AllReadyS.nil
                    go_simp
                    refine hK.out _ _ (HSO.out _ (bel_alloc hb10 _)) ?_
                    clear hK K
                    try simp only [Act.put]
                    refine wpAnyS_ready (rs := [11]) (by kernel_rfl) (by simp) ?_
                    refine AllReadyS.cons rfl (fun K hK => ?_) AllReadyS.nil
                    refine step_app4 wc (by rfl) _ _ 23 (by rfl) (w.heap.size + 3) 9 iS (.string ⟨#[]⟩) 16 Tryz.underlying23 HSS.out hS0 hS1 hS2 (by rfl) (.slice b2 nf e2) nf ((chks (full (rows.take k))).map encStr) (by rfl) HO2.out (bel_alloc hb10 _) _ _ _ _ (by rfl) (by exact heap_alloc_new _ _) (by rfl) (by omega) (by decide) hs8 ?_
                    intro g9 cap9 w9 hown9 hgr9 hby9
                    have h9 := HT8.out.second (x := chk rows[k].2) hs8 hby9 (by rw [chks_len, ← HNF.out]; rw [HCK.out] at hown9; exact hown9) hgr9
                    rw [chks_len, ← HNF.out] at h9
                    have q0 : w9.cell? ⟨w.heap.size + 2, 3, none⟩ = some (.slice b2 nf e2) := cells_of h9.1 3
                    have z0 : w9.frozen? ⟨w.heap.size + 2, 3, none⟩ = false := by simp [World.frozen?, h9.1]
                    have hbw9 := HBW8.out.trans (h9.2.1.mono (by omega))
                    have H9S : Hid (w.heap.size + 3 ≤ w9.heap.size) := Nat.le_trans hs8 (Nat.le_trans hby9.size hgr9.size)
                    have HS9 : Hid (w9.cell? ⟨w.heap.size + 2, 3, none⟩ = some (.slice b2 nf e2) ∧ w9.cell? ⟨sb, 1, none⟩ = some (.slice (some ⟨g2, 0, none⟩) n c2) ∧ w9.cell? ⟨g2, k, none⟩ = some (.slice A nk C)) := ⟨q0, (HSB.out w9 hbw9).2, by have := (hg2 w9 hbw9).1; rw [← HPC.out.2] at this; exact this⟩
                    have HNX : Hid (MkTo w (w9.setCell ⟨w.heap.size + 2, 3, none⟩ (.slice (some ⟨g9, 0, none⟩) (nf + 1) cap9)) f s rows (k + 1) (.slice (some ⟨g8, 0, none⟩) (nf + 1) cap8) (.slice (some ⟨g9, 0, none⟩) (nf + 1) cap9)) := by
                      have hb9 : Below (w.heap.size + 2) w7 w9 := HB8.out.trans (h9.2.1.mono (Nat.le_succ _))
                      have e1 : full (rows.take (k + 1)) = full (rows.take k) ++ [rows[k]] := by rw [HTK.out, if_pos (by rw [← HPC.out.2]; exact hz)]
                      have e2 : (full (rows.take (k + 1))).map Prod.fst = (full (rows.take k)).map Prod.fst ++ [rows[k].1] := by rw [e1]; simp
                      have e3 : chks (full (rows.take (k + 1))) = chks (full (rows.take k)) ++ [chk rows[k].2] := by rw [e1]; simp [chks]
                      refine ⟨HOK.out, ?_, ?_, by rw [e2, e3]; exact h9.2.2, hbw9.setCell (p := ⟨w.heap.size + 2, 3, none⟩) (by show w.heap.size ≤ w.heap.size + 2; omega) _, by rw [World.size_setCell]; exact H9S.out⟩
                      · rw [Below.heap_setCell _ _ _ _ (by show w.heap.size ≠ w.heap.size + 2; omega), hb9.block _ (by omega)]
                        exact HT6.out.r1
                      · rw [Below.heap_setCell _ _ _ _ (by show w.heap.size + 1 ≠ w.heap.size + 2; omega), hb9.block _ (by omega)]
                        exact HT6.out.r2
                    clear hown9 hgr9 hby9 h9 hbw9
                    refine hK.out _ _ HS9.out ?_
                    clear hK K
                    try simp only [Act.put]
                    refine wpAnyS_take0 (i := 12) (v := .pointer (some ⟨w.heap.size + 2, 3, none⟩)) rfl (by kernel_rfl) (by kernel_rfl) (by kernel_rfl) (by kernel_rfl) (fun _ _ _ h => h) (Or.inl ⟨by rfl, ?_⟩) (fun _ => HS9.out) ?_
                    · intro w _
                      go_simp
                    try simp only [Act.put]
                    refine wpAnyS_ready (rs := [13]) (by kernel_rfl) (by simp) ?_
                    refine AllReadyS.last rfl (by kernel_rfl) (fun K hK => ?_) AllReadyS.nil
                    go_simp
                    refine hK.out _ _ ?_
                    clear hK K
                    refine wpAnyS_done (by kernel_rfl) ?_ _
                    clear HS9 q0 z0 HSO HCO
                    go_wp2
                    go_roundw
                    case rel => exact ⟨k + 1, _, _, by omega, by go_num, HNX.out⟩
                    case measure => simp [intOf] <;> omega
                · have d5 : decide ((0 : Int) < (nk : Int)) = false := decide_eq_false (by omega)
                  have HNX : Hid (MkTo w w7 f s rows (k + 1) u1 u2) := by
                    have := HT6.out
                    refine ⟨HOK.out, this.r1, this.r2, ?_, this.bel, this.siz⟩
                    rw [HTK.out, if_neg (by rw [← HPC.out.2]; exact hz)]
                    exact this.two
                  go_wp2
                  go_roundw
                  case rel => exact ⟨k + 1, u1, u2, by omega, by go_num, HNX.out⟩
                  case measure => simp [intOf] <;> omega
        · have d3 : (RC == 0) = false := by simpa using hr
          have hbf : b = false := by
            rw [← Bool.not_eq_true]
            intro h
            exact hr (HNB.out.1 h).1
          subst hbf
          have hpos : decide (0 < RC) = true := decide_eq_true (by omega)
          have HM := (show Hid _ from HAT.out RC (by rw [HROW.out]; unfold rowC; rw [HNC.out, if_pos hr, if_pos hr]) hr)
          have HRN : Hid (RC ≠ 0) := hr
          obtain ⟨p0, p1, p2, p3, p4, p5, p6, p7⟩ := HTC.out.res.all
          obtain ⟨o0, o1, o2, o3, o4, o5, o6, o7⟩ := HTC.out.res.drew.all
          have HO2 := (show Hid _ from HTC.out.res.set HTC.out.bel RC k)
          clear hr
          go_wp2_with fail
          go_region
          all_goals (go_wp2; exact HZ.out _ RC k HO2.out.drew HM.out HRN.out _ rfl rfl rfl)
    · obtain rfl : k = n := by omega
      have hge : (k : Int) ≤ (k : Int) := Int.le_refl _
      have hta : rows.take k = rows := by rw [← HN.out]; exact List.take_length
      have htwo := HTO.out.two
      rw [hta] at htwo
      have HMK : Hid (mkC f s rows = 0 ∧ mkA f s rows = -1) := mk_good HG.out fun j hj => HTO.out.ok j (by have := HN.out; omega)
      have HTW := (show Hid _ from htwo)
      obtain ⟨b1, b2, b3, b4⟩ : wr.cell? ⟨w.heap.size + 2, 0, none⟩ = some (.int .i64 f) ∧ wr.cell? ⟨w.heap.size + 2, 1, none⟩ = some (.int .i64 s) ∧ wr.cell? ⟨w.heap.size + 2, 2, none⟩ = some u1 ∧ wr.cell? ⟨w.heap.size + 2, 3, none⟩ = some u2 := ⟨cells_of htwo.blk 0, cells_of htwo.blk 1, cells_of htwo.blk 2, cells_of htwo.blk 3⟩
      obtain ⟨a5, e5, hu1⟩ := own_slice1 htwo.own1
      obtain ⟨a6, e6, hu2⟩ := own_slice1 htwo.own2
      obtain ⟨m5, hm5⟩ : ∃ m, m = ((full rows).map Prod.fst).length := ⟨_, rfl⟩
      obtain ⟨m6, hm6⟩ : ∃ m, m = (chks (full rows)).length := ⟨_, rfl⟩
      rw [← hm5] at hu1
      rw [← hm6] at hu2
      subst hu1 hu2
      have HFN : Hid (∀ z, Below wr.heap.size wr z → Calls Tryz.prog 53 #[] z fun e w' => e = .returned (.agg #[.int .i64 0, .int .i64 (-1)]) ∧ Below wr.heap.size wr w') := fun z hz => (fine_any z).mono (by rintro e w' ⟨rfl, hb⟩; exact ⟨rfl, hz.trans (hb.mono hz.size)⟩)
      have bd1 : wr.drew.cell? ⟨w.heap.size + 2, 0, none⟩ = some (.int .i64 f) := b1
      have bd2 : wr.drew.cell? ⟨w.heap.size + 2, 1, none⟩ = some (.int .i64 s) := b2
      have bd3 : wr.drew.cell? ⟨w.heap.size + 2, 2, none⟩ = some (.slice a5 m5 e5) := b3
      have bd4 : wr.drew.cell? ⟨w.heap.size + 2, 3, none⟩ = some (.slice a6 m6 e6) := b4
      have HFIN : Hid (∀ z, Below wr.heap.size wr z → MkTo w z f s rows k (.slice a5 m5 e5) (.slice a6 m6 e6)) := fun z hz => HTO.out.below hz
      clear htwo hta hm5 hm6
      go_wp2_with fail
      go_region_with (go_at_call 53; refine Calls.mono (HFN.out _ (by repeat (first | exact Below.refl _ _ | with_reducible apply bel_alloc | with_reducible apply bel_drew))) ?_; rintro e w9 ⟨rfl, hb9⟩; have ht9 := HFIN.out w9 hb9; have HT9 := (show Hid _ from ht9); obtain ⟨p0, p1, p2, p3, p4, p5, p6, p7⟩ := ht9.res.all; have r0 := ht9.two.blk; have c0 : w9.cell? ⟨w.heap.size + 2, 0, none⟩ = some (.int .i64 f) := cells_of r0 0; have c1' : w9.cell? ⟨w.heap.size + 2, 1, none⟩ = some (.int .i64 s) := cells_of r0 1; have c2' : w9.cell? ⟨w.heap.size + 2, 2, none⟩ = some (.slice a5 m5 e5) := cells_of r0 2; have c3' : w9.cell? ⟨w.heap.size + 2, 3, none⟩ = some (.slice a6 m6 e6) := cells_of r0 3; clear hb9 ht9 r0)
      all_goals (
        have hp := HT9.out.res.put HT9.out.bel (.int .i64 f) (.int .i64 s) (.slice a5 m5 e5) (.slice a6 m6 e6) (.int .i64 0) (.int .i64 (-1)) _ rfl
        have HP := (show Hid _ from hp)
        clear hp p0 p1 p2 p3 p4 p5 p6 p7 c0 c1' c2' c3'
        go_wp2
        obtain ⟨q1, q2, q3, q4⟩ := HP.out
        have ho1 := q4 _ _ _ _ _ _ (by omega) HT9.out.two.own1
        have ho2 := q4 _ _ _ _ _ _ (by omega) HT9.out.two.own2
        rw [show rows.take k = rows by rw [← HN.out]; exact List.take_length] at ho1 ho2
        refine HEND.out _ _ _ q1 q2 q3 HMK.out.1 ⟨own_mono2 ho1 (by omega), own_mono2 ho2 (by omega)⟩ _ rfl rfl rfl)
end Go.Proofs.YtijgolnbbaljlaaGreatDoor
/- The document's SetOf by its contract. -/
namespace Go.Proofs.YtijgolnbbaljlaaGreatDoor
open Go.RowKit Go.Maps PtMath LabMath

/-- What SetOf answers. -/
def SoOut (w w' : World) (f s : Int) (ss cs : List (List UInt8)) (e : Ending) : Prop :=
  Below w.heap.size w w' ∧ ((bkC f s ss cs = 0 ∧ ∃ sb, e = .returned (.tuple #[.pointer (some ⟨sb, 0, none⟩), .agg #[.int .i64 0, .int .i64 (-1)]]) ∧ SetR w' sb (rowsOf ss cs)) ∨
    (bkC f s ss cs ≠ 0 ∧ e = .returned (.tuple #[.pointer none, .agg #[.int .i64 (bkC f s ss cs), .int .i64 (bkA f s ss cs)]])))
theorem own_grw {Y z : World} {v : Value} {g : Nat} (G : Grw Y z v g) {base n base' sz m : Nat} {e e' : TypeId} {xs ys : List Value} {v' : Value} (ho : Y.ownsRow base e 1 v n xs) (h : Y.ownsRow base' e' sz v' m ys) (hne : e' ≠ e) : z.ownsRow base' e' sz v' m ys := own_same h fun g' hg' => by
  obtain ⟨_, q2, cur, hc⟩ := own_blk h hg'
  refine G.blk g' q2 fun e => ?_
  obtain ⟨_, _, cur2, hc2⟩ := own_blk ho e
  exact cells_ne hc hc2 hne rfl
/-- A set on the way. -/
structure SoTo (w wr : World) (f s : Int) (a1 a2 : Option Addr) (n c1 c2 : Nat) (ss cs : List (List UInt8)) (k : Nat) (vs vl : Value) (ls : List Value) : Prop where
  ok : ∀ j, j < k → serAt f s ss cs j = 0
  bb : wr.heap[w.heap.size]? = some (.cells #[.int .i64 f, .int .i64 s, .slice a1 n c1, .slice a2 n c2] 30 (0, 0))
  r2 : wr.heap[w.heap.size + 1]? = some (.cells #[.int .i64 0, .int .i64 0] 32 (0, 0))
  set : SetA wr (w.heap.size + 3) (w.heap.size + 2) vs vl (ss.take k) ls
  lsl : ls.length = k
  pts : ∀ i, i < k → ∃ v, ls[i]? = some v ∧ wr.ownsRow (w.heap.size + 3) 71 2 v (unP (cs.getD i [])).length (pairCells (unP (cs.getD i [])))
  bel : Below w.heap.size w wr
  siz : w.heap.size + 3 ≤ wr.heap.size
theorem SoTo.below {w wr z : World} {f s : Int} {a1 a2 : Option Addr} {n c1 c2 : Nat} {ss cs : List (List UInt8)} {k : Nat} {vs vl : Value} {ls : List Value} (h : SoTo w wr f s a1 a2 n c1 c2 ss cs k vs vl ls) (hb : Below wr.heap.size wr z) : SoTo w z f s a1 a2 n c1 c2 ss cs k vs vl ls :=
  ⟨h.ok, (hb.block _ (blk_lt h.bb)).trans h.bb, (hb.block _ (blk_lt h.r2)).trans h.r2, h.set.below hb, h.lsl, fun i hi => (h.pts i hi).imp fun _ hv => ⟨hv.1, own_bel3 hv.2 hb⟩, h.bel.trans (hb.mono h.bel.size), Nat.le_trans h.siz hb.size⟩
theorem SoTo.cells {w wr : World} {f s : Int} {a1 a2 : Option Addr} {n c1 c2 : Nat} {ss cs : List (List UInt8)} {k : Nat} {vs vl : Value} {ls : List Value} (h : SoTo w wr f s a1 a2 n c1 c2 ss cs k vs vl ls) : wr.cell? ⟨w.heap.size, 0, none⟩ = some (.int .i64 f) ∧ wr.cell? ⟨w.heap.size, 1, none⟩ = some (.int .i64 s) ∧ wr.cell? ⟨w.heap.size, 2, none⟩ = some (.slice a1 n c1) ∧ wr.cell? ⟨w.heap.size, 3, none⟩ = some (.slice a2 n c2) ∧ wr.cell? ⟨w.heap.size + 1, 0, none⟩ = some (.int .i64 0) ∧ wr.cell? ⟨w.heap.size + 1, 1, none⟩ = some (.int .i64 0) ∧ ∀ q, wr.frozen? ⟨w.heap.size + 1, q, none⟩ = false :=
  ⟨cells_of h.bb 0, cells_of h.bb 1, cells_of h.bb 2, cells_of h.bb 3, cells_of h.r2 0, cells_of h.r2 1, fun q => by simp [World.frozen?, h.r2]⟩
/-- A fault written. -/
structure FltO (w z : World) (C A : Int) : Prop where
  r2 : z.heap[w.heap.size + 1]? = some (.cells #[.int .i64 C, .int .i64 A] 32 (0, 0))
  bel : Below w.heap.size w z
theorem FltO.drew {w z : World} {C A : Int} (h : FltO w z C A) : FltO w z.drew C A := ⟨h.r2, h.bel.drew⟩
theorem flt_set {w z : World} (h : z.heap[w.heap.size + 1]? = some (.cells #[.int .i64 0, .int .i64 0] 32 (0, 0))) (hb : Below w.heap.size w z) (C A : Int) : FltO w ((z.setCell ⟨w.heap.size + 1, 0, none⟩ (.int .i64 C)).setCell ⟨w.heap.size + 1, 1, none⟩ (.int .i64 A)) C A :=
  ⟨set2 h _ _, (hb.setCell (p := ⟨w.heap.size + 1, 0, none⟩) (Nat.le_succ _) _).setCell (p := ⟨w.heap.size + 1, 1, none⟩) (Nat.le_succ _) _⟩

set_option maxRecDepth 1000000 in
set_option maxHeartbeats 8000000 in
theorem bkSetOf_any (w : World) (f s : Int) (b1 b2 : Nat) (v1 v2 : Value) (ss cs : List (List UInt8)) (h1 : w.ownsRow b1 9 1 v1 ss.length (ss.map encStr)) (h2 : w.ownsRow b2 9 1 v2 cs.length (cs.map encStr)) (hss : ∀ x, x ∈ ss → x.length ≤ 100000) (hcs : ∀ x, x ∈ cs → x.length ≤ 10000) (hn : ss.length ≤ 100000) (hm : cs.length ≤ 100000) :
    Calls Tryz.prog 20 #[.agg #[.int .i64 f, .int .i64 s, v1, v2]] w fun e w' => SoOut w w' f s ss cs e := by
  obtain ⟨a1, c1, rfl, hc1⟩ := own_strs h1
  obtain ⟨a2, c2, rfl, hc2⟩ := own_strs h2
  obtain ⟨n, hnn⟩ : ∃ n, n = ss.length := ⟨_, rfl⟩
  obtain ⟨m, hmm⟩ : ∃ m, m = cs.length := ⟨_, rfl⟩
  have HN := (show Hid _ from hnn.symm)
  have HMM := (show Hid _ from hmm.symm)
  rw [← hnn, ← hmm]
  rw [← hnn] at hn
  rw [← hmm] at hm
  obtain ⟨W, hW⟩ : ∃ W, W = (w.alloc (.cells #[.int .i64 f, .int .i64 s, .slice a1 n c1, .slice a2 m c2] 30)).alloc (.cells #[.int .i64 0, .int .i64 0] 32) := ⟨_, rfl⟩
  have hs1 : (w.alloc (.cells #[.int .i64 f, .int .i64 s, .slice a1 n c1, .slice a2 m c2] 30)).heap.size = w.heap.size + 1 := by simp
  have hbW : Below w.heap.size w W := by rw [hW]; exact ((Below.refl _ _).alloc (Nat.le_refl _) _).alloc (by simp) _
  have hr1 : W.heap[w.heap.size]? = some (.cells #[.int .i64 f, .int .i64 s, .slice a1 n c1, .slice a2 m c2] 30 (0, 0)) := by
    rw [hW]
    exact (heap_alloc_old _ _ (by rw [hs1]; omega)).trans (heap_alloc_new _ _)
  have hr2 : W.heap[w.heap.size + 1]? = some (.cells #[.int .i64 0, .int .i64 0] 32 (0, 0)) := by
    rw [hW, ← hs1]
    exact heap_alloc_new _ _
  have hsW : W.heap.size = w.heap.size + 2 := by rw [hW]; simp
  have HW := (show Hid _ from hW)
  have HBW := (show Hid _ from hbW)
  have HR1 := (show Hid _ from And.intro hr1 hr2)
  have HNM : Hid (∀ i (hi : i < ss.length), ∃ g, a1 = some ⟨g, 0, none⟩ ∧ ∀ z, Below w.heap.size w z → z.cell? ⟨g, i, none⟩ = some (encStr ss[i])) := fun i hi => by
    obtain ⟨g, e, hc⟩ := hc1 i hi
    exact ⟨g, e, fun z hz => (hz.cell (p := ⟨g, i, none⟩) (World.block_lt_of_cell? w ⟨g, i, none⟩ hc)).trans hc⟩
  have HCH : Hid (∀ i (hi : i < cs.length), ∃ g, a2 = some ⟨g, 0, none⟩ ∧ ∀ z, Below w.heap.size w z → z.cell? ⟨g, i, none⟩ = some (encStr cs[i])) := fun i hi => by
    obtain ⟨g, e, hc⟩ := hc2 i hi
    exact ⟨g, e, fun z hz => (hz.cell (p := ⟨g, i, none⟩) (World.block_lt_of_cell? w ⟨g, i, none⟩ hc)).trans hc⟩
  have HSZ := (show Hid _ from And.intro hss hcs)
  have HZ : Hid (∀ (Y : World) (C A : Int), FltO w Y C A → bkC f s ss cs = C ∧ bkA f s ss cs = A → C ≠ 0 → ∀ (a : Act), a.tmps[2]?.getD undef = .pointer none → a.tmps[3]?.getD undef = .pointer (some ⟨w.heap.size + 1, 0, none⟩) → a.defers = [] → bodyPost Tryz.prog Tryz.f20 (fun e w' => SoOut w w' f s ss cs e) Exit.ret a Y) := fun Y C A h hC hne a t2 t3 hd => by
    have v0 : Y.cell? ⟨w.heap.size + 1, 0, none⟩ = some (.int .i64 C) := cells_of h.r2 0
    have v1 : Y.cell? ⟨w.heap.size + 1, 1, none⟩ = some (.int .i64 A) := cells_of h.r2 1
    refine bodyPost_ret (v := .tuple #[.pointer none, .agg #[.int .i64 C, .int .i64 A]]) (by simp [results, Tryz.results20, go_sem, v0, v1, t2, t3]) hd ⟨h.bel, .inr ⟨by rw [hC.1]; exact hne, by rw [hC.1, hC.2]⟩⟩
  have HEND : Hid (∀ (z : World) (vs vl : Value) (ls : List Value), SoTo w z f s a1 a2 n c1 c2 ss cs n vs vl ls → bkC f s ss cs = 0 → ∀ (a : Act), a.tmps[2]?.getD undef = .pointer (some ⟨w.heap.size + 2, 0, none⟩) → a.tmps[3]?.getD undef = .pointer (some ⟨w.heap.size + 1, 0, none⟩) → a.defers = [] → bodyPost Tryz.prog Tryz.f20 (fun e w' => SoOut w w' f s ss cs e) Exit.ret a ((z.setCell ⟨w.heap.size + 1, 0, none⟩ (.int .i64 0)).setCell ⟨w.heap.size + 1, 1, none⟩ (.int .i64 (-1)))) := fun z vs vl ls h hC a t2 t3 hd => by
    have hf := flt_set h.r2 h.bel 0 (-1)
    have hl : cs.length = ss.length := (bk_zero hC).2.2.1
    have hset : SetR ((z.setCell ⟨w.heap.size + 1, 0, none⟩ (.int .i64 0)).setCell ⟨w.heap.size + 1, 1, none⟩ (.int .i64 (-1))) (w.heap.size + 2) (rowsOf ss cs) := by
      have hA : SetA ((z.setCell ⟨w.heap.size + 1, 0, none⟩ (.int .i64 0)).setCell ⟨w.heap.size + 1, 1, none⟩ (.int .i64 (-1))) (w.heap.size + 3) (w.heap.size + 2) vs vl ((rowsOf ss cs).map Prod.fst) ls := by
        rw [rowsOf_fst hl]
        have h0 := h.set
        rw [List.take_of_length_le (by omega)] at h0
        refine ⟨?_, h0.low, own_setc (own_setc h0.names (by omega)) (by omega), own_setc (own_setc h0.row (by omega)) (by omega)⟩
        rw [Below.heap_setCell _ _ _ _ (by show w.heap.size + 2 ≠ w.heap.size + 1; omega), Below.heap_setCell _ _ _ _ (by show w.heap.size + 2 ≠ w.heap.size + 1; omega)]
        exact h0.set
      refine hA.done (by rw [h.lsl, rowsOf_len hl]; omega) fun i hi => ?_
      rw [rowsOf_len hl] at hi
      obtain ⟨v, e1, e2⟩ := h.pts i (by omega)
      have e3 : (rowsOf ss cs)[i].2 = unP (cs.getD i []) := by
        have hi2 : i < cs.length := by omega
        simp [rowsOf, List.getD_eq_getElem?_getD, hi2]
      have e4 := own_setc (k := 1) (u := .int .i64 (-1)) (own_setc (k := 0) (tb := w.heap.size + 1) (u := .int .i64 0) e2 (by omega)) (by omega : w.heap.size + 1 < w.heap.size + 3)
      obtain ⟨A, C, hv, _, hp, _⟩ := own_pairs e4
      rw [e3]
      exact ⟨A, C, by rw [e1, hv], hp⟩
    obtain ⟨Y, hY⟩ : ∃ Y, Y = ((z.setCell ⟨w.heap.size + 1, 0, none⟩ (.int .i64 0)).setCell ⟨w.heap.size + 1, 1, none⟩ (.int .i64 (-1))) := ⟨_, rfl⟩
    rw [← hY] at hset hf ⊢
    have v0 : Y.cell? ⟨w.heap.size + 1, 0, none⟩ = some (.int .i64 0) := cells_of hf.r2 0
    have v1 : Y.cell? ⟨w.heap.size + 1, 1, none⟩ = some (.int .i64 (-1)) := cells_of hf.r2 1
    refine bodyPost_ret (v := .tuple #[.pointer (some ⟨w.heap.size + 2, 0, none⟩), .agg #[.int .i64 0, .int .i64 (-1)]]) (by simp [results, Tryz.results20, go_sem, v0, v1, t2, t3]) hd ⟨hf.bel, .inl ⟨hC, _, rfl, hset⟩⟩
  have HBD := (show Hid _ from bkBounds_any W f s)
  have hE0 := bdE_nonneg f s
  have HBA : Hid (∀ (c : Int) (z : World), Calls Tryz.prog 33 #[.int .i64 c] z fun e w' => e = .returned (.agg #[.int .i64 c, .int .i64 (-1)]) ∧ Below z.heap.size z w') := fun c z => bare_any c z
  have x0 : W.cell? ⟨w.heap.size, 0, none⟩ = some (.int .i64 f) := cells_of hr1 0
  have x1 : W.cell? ⟨w.heap.size, 1, none⟩ = some (.int .i64 s) := cells_of hr1 1
  have x2 : W.cell? ⟨w.heap.size, 2, none⟩ = some (.slice a1 n c1) := cells_of hr1 2
  have x3 : W.cell? ⟨w.heap.size, 3, none⟩ = some (.slice a2 m c2) := cells_of hr1 3
  obtain ⟨ev, hev⟩ : ∃ ev, ev = bdE f s := ⟨_, rfl⟩
  rw [← hev] at HBD hE0
  have HEV := (show Hid _ from hev)
  have HBND : Hid (bdE f s ≠ 0 ∨ 60 < ss.length → bkC f s ss cs = 2 ∧ bkA f s ss cs = -1) := fun h => bk_bound h
  have HSHP : Hid (¬ (bdE f s ≠ 0 ∨ 60 < ss.length) → cs.length ≠ ss.length → bkC f s ss cs = 3 ∧ bkA f s ss cs = -1) := fun h h' => bk_shape h h'
  have HFIN : Hid (∀ (c : Int) (z : World), Below W.heap.size W z → FltO w ((z.setCell ⟨w.heap.size + 1, 0, none⟩ (.int .i64 c)).setCell ⟨w.heap.size + 1, 1, none⟩ (.int .i64 (-1))) c (-1) ∧ z.cell? ⟨w.heap.size + 1, 0, none⟩ = some (.int .i64 0) ∧ z.cell? ⟨w.heap.size + 1, 1, none⟩ = some (.int .i64 0) ∧ ∀ q, z.frozen? ⟨w.heap.size + 1, q, none⟩ = false) := fun c z hz => by
    have := (hz.block _ (blk_lt hr2)).trans hr2
    exact ⟨flt_set this (hbW.trans (hz.mono hbW.size)) c (-1), cells_of this 0, cells_of this 1, fun q => by simp [World.frozen?, this]⟩
  have hev2 : ev = 0 ∨ ev = 2 := by rw [hev]; unfold bdE; split <;> simp
  clear h1 h2 hc1 hc2 hss hcs hW hbW hr1 hr2 hs1 hnn hmm hev
  go_enter Tryz.func20, Tryz.ntmps20
  go_upto_region 1 with fail
  rw [← HW.out]
  go_wp2_with fail
  refine Calls.mono HBD.out ?_
  rintro e w1 ⟨rfl, hw1⟩
  have hw1' := hw1
  subst hw1'
  clear HBD hw1 HW
  rcases hev2 with rfl | rfl
  · by_cases h60 : 60 < n
    · have d2 : decide ((60 : Int) < (n : Int)) = true := decide_eq_true (by omega)
      have HM : Hid (bkC f s ss cs = 2 ∧ bkA f s ss cs = -1) := HBND.out (.inr (by rw [HN.out]; exact h60))
      clear HBND HSHP h60
      go_wp2_with fail
      refine Calls.mono (HBA.out 2 w1) ?_
      rintro e w2 ⟨rfl, hb2⟩
      obtain ⟨hz, p0, p1, p2⟩ := HFIN.out 2 w2 hb2
      have HO2 := (show Hid _ from hz)
      clear hb2 hz
      dsimp only
      go_wp2
      exact HZ.out _ 2 (-1) HO2.out HM.out (by decide) _ rfl rfl rfl
    · have d2 : decide ((60 : Int) < (n : Int)) = false := decide_eq_false (by omega)
      have HG : Hid (¬ (bdE f s ≠ 0 ∨ 60 < ss.length)) := by
        rw [HN.out]
        rintro (h | h)
        · exact h HEV.out.symm
        · exact h60 h
      by_cases hnm : n = m
      · subst hnm
        have hn60 : n ≤ 60 := by omega
        have HBD0 : Hid (bdE f s = 0) := HEV.out.symm
        clear HBND HSHP h60 hm hn
        go_upto_region 9 with fail
        obtain ⟨W3, hW3⟩ : ∃ W3, W3 = w1.alloc (.cells #[.slice none 0 0, .slice none 0 0] 98) := ⟨_, rfl⟩
        have hb3 : Below w1.heap.size w1 W3 := by rw [hW3]; exact (Below.refl _ _).alloc (Nat.le_refl _) _
        have hx3 : W3.heap[w.heap.size + 2]? = some (.cells #[.slice none 0 0, .slice none 0 0] 98 (0, 0)) := by rw [hW3, ← hsW]; exact heap_alloc_new _ _
        have H0 : Hid (SoTo w W3 f s a1 a2 n c1 c2 ss cs 0 (.slice none 0 0) (.slice none 0 0) []) :=
          ⟨fun j h => absurd h (Nat.not_lt_zero _), (hb3.block _ (blk_lt HR1.out.1)).trans HR1.out.1, (hb3.block _ (blk_lt HR1.out.2)).trans HR1.out.2, ⟨hx3, Nat.lt_succ_self _, ⟨rfl, .inl ⟨rfl, rfl⟩⟩, ⟨rfl, .inl ⟨rfl, rfl⟩⟩⟩, rfl, fun i h => absurd h (Nat.not_lt_zero _), HBW.out.trans (hb3.mono HBW.out.size), blk_lt hx3⟩
        rw [← hW3]
        clear hb3 hx3 hW3 x0 x1 x2 x3 d2 hsW
        go_wp2_with fail
        go_loopw [6] (fun i wr => ∃ (k : Nat) (vs vl : Value) (ls : List Value), k ≤ n ∧ i = .int .i64 (k : Int) ∧ SoTo w wr f s a1 a2 n c1 c2 ss cs k vs vl ls) (fun i _ => n - (intOf i).toNat)
        case atStart => exact ⟨0, _, _, [], Nat.zero_le _, rfl, H0.out⟩
        case round =>
          obtain ⟨k, vs, vl, ls, hk, rfl, hto⟩ := hrel
          have HTO := (show Hid _ from hto)
          have hsz := hto.siz
          obtain ⟨y0, y1, y2, y3, y4, y5, y6⟩ := hto.cells
          clear hto
          by_cases hkn : k < n
          · have hks : k < ss.length := by rw [HN.out]; exact hkn
            have hkc : k < cs.length := by rw [HMM.out]; exact hkn
            obtain ⟨g1, q1, hg1⟩ := HNM.out k hks
            subst q1
            obtain ⟨g2, q2, hg2⟩ := HCH.out k hkc
            subst q2
            obtain ⟨nm, hnm⟩ : ∃ nm : ByteArray, nm = txt ss[k] := ⟨_, rfl⟩
            have x4 : wr.cell? ⟨g1, k, none⟩ = some (.string nm) := by rw [hnm]; exact hg1 wr HTO.out.bel
            have k0 : (0 : Int) ≤ (k : Int) := by omega
            have k1 : (k : Int) < (n : Int) := by omega
            have HLB := (show Hid _ from labels_c wr nm (by rw [hnm, txt_size]; exact HSZ.out.1 _ (List.getElem_mem hks)))
            have hnmd : nm.data.toList = ss[k] := by rw [hnm]; rfl
            rw [hnmd] at HLB
            obtain ⟨RC, hRC⟩ : ∃ RC, RC = readC ss[k] := ⟨_, rfl⟩
            obtain ⟨RA, hRA⟩ : ∃ RA, RA = readA ss[k] := ⟨_, rfl⟩
            rw [← hRC, ← hRA] at HLB
            have hR0 : 0 ≤ RC := by rw [hRC]; exact readC_nonneg _
            have HRC := (show Hid _ from hRC)
            have HNMD := (show Hid _ from And.intro hnm hnmd)
            have hgs : ss.getD k [] = ss[k] := by simp [List.getD_eq_getElem?_getD, hks]
            have hgc : cs.getD k [] = cs[k] := by simp [List.getD_eq_getElem?_getD, hkc]
            have HROW : Hid (serAt f s ss cs k = serC f s (prev ss k) ss[k] cs[k]) := by
              show _ = _
              unfold serAt
              rw [hgs, hgc]
            have HGC := (show Hid _ from hgc)
            have HNC : Hid (nameC (prev ss k) ss[k] = if RC ≠ 0 then RC else if prev ss k < ss[k] then 0 else 3) := by
              rw [hRC]
              rfl
            have HAT : Hid (∀ C : Int, serAt f s ss cs k = C → C ≠ 0 → bkC f s ss cs = C ∧ bkA f s ss cs = (k : Int)) := fun C hC hne => by
              obtain ⟨h1, h2⟩ := bk_at HG.out (by rw [HMM.out, HN.out]) hks HTO.out.ok (by rw [hC]; exact hne)
              exact ⟨h1.trans hC, h2⟩
            clear hRC hRA hnm hnmd hgs hgc
            go_wp2_with fail
            refine Calls.mono HLB.out ?_
            rintro e w2 ⟨hb2, x, rfl⟩
            have HT2 := (show Hid _ from HTO.out.below hb2)
            clear HLB hb2 y0 y1 y2 y3 y4 y5 y6 x4
            dsimp only
            go_upto_region 13 with fail
            obtain ⟨W4, hW4⟩ : ∃ W4, W4 = w2.alloc (.cells #[.int .i64 RC, .int .i64 RA] 32) := ⟨_, rfl⟩
            have hb4 : Below w2.heap.size w2 W4 := by rw [hW4]; exact (Below.refl _ _).alloc (Nat.le_refl _) _
            have hf4 : W4.heap[w2.heap.size]? = some (.cells #[.int .i64 RC, .int .i64 RA] 32 (0, 0)) := by rw [hW4]; exact heap_alloc_new _ _
            rw [← hW4]
            clear hW4
            have HT4 := (show Hid _ from HT2.out.below hb4)
            obtain ⟨y0, y1, y2, y3, y4, y5, y6⟩ := HT4.out.cells
            have v4 : W4.cell? ⟨w2.heap.size, 0, none⟩ = some (.int .i64 RC) := cells_of hf4 0
            have vd4 : W4.drew.cell? ⟨w2.heap.size, 0, none⟩ = some (.int .i64 RC) := v4
            have x4 : W4.cell? ⟨g1, k, none⟩ = some (.string nm) := by rw [HNMD.out.1]; exact hg1 W4 HT4.out.bel
            clear hb4 hf4
            by_cases hr : 0 < RC
            · have d3 : decide (0 < RC) = true := decide_eq_true hr
              have HRN : Hid (RC ≠ 0) := fun h => (by omega)
              have HM := (show Hid _ from HAT.out RC (by rw [HROW.out]; unfold serC; rw [HNC.out, if_pos HRN.out, if_pos HRN.out]) HRN.out)
              have HO2 := (show Hid _ from flt_set HT4.out.r2 HT4.out.bel RC k)
              have yd4 : W4.drew.cell? ⟨w.heap.size + 1, 0, none⟩ = some (.int .i64 0) := y4
              have yd5 : W4.drew.cell? ⟨w.heap.size + 1, 1, none⟩ = some (.int .i64 0) := y5
              have yd6 : ∀ q, W4.drew.frozen? ⟨w.heap.size + 1, q, none⟩ = false := y6
              clear hr
              go_wp2_with fail
              go_region
              all_goals (go_wp2; exact HZ.out _ RC k HO2.out.drew HM.out HRN.out _ rfl rfl rfl)
            · obtain rfl : RC = 0 := by omega
              clear hr
              have HP0 : Hid (k = 0 → prev ss k < ss[k]) := fun h0 => by
                unfold prev
                rw [if_pos h0]
                exact lt_nil_of HRC.out.symm
              have HPV : Hid (0 < k → ∀ z, Below w.heap.size w z → z.cell? ⟨g1, k - 1, none⟩ = some (encStr (prev ss k))) := fun hk0 z hz => by
                obtain ⟨g, e, h⟩ := HNM.out (k - 1) (by omega)
                simp at e
                subst e
                rw [h z hz]
                have : prev ss k = ss[k - 1] := by
                  unfold prev
                  rw [if_neg (by omega)]
                  simp [List.getD_eq_getElem?_getD, show k - 1 < ss.length by omega]
                rw [this]
              go_upto_region 15 with fail
              go_cut [80] from 42 to 139 (fun s80 wz => ∃ (b : Bool) (q : Nat), s80 = .bool b ∧ wz = W4.drewN q ∧ NmB b 0 (prev ss k) ss[k])
              case first =>
                by_cases hk0 : k = 0
                · subst hk0
                  have HB : Hid (NmB false 0 (prev ss 0) ss[0]) := ⟨fun h => (by cases h), fun h => absurd (HP0.out rfl) h.2⟩
                  go_quiet (fail)
                  go_wp2_with fail
                  go_meet
                  case rel => exact ⟨false, _, rfl, rfl, HB.out⟩
                · obtain ⟨j, rfl⟩ : ∃ j, k = j + 1 := ⟨k - 1, by omega⟩
                  obtain ⟨pv, hpv⟩ : ∃ pv : ByteArray, pv = txt (prev ss (j + 1)) := ⟨_, rfl⟩
                  have x5 : W4.cell? ⟨g1, j, none⟩ = some (.string pv) := by rw [hpv]; exact HPV.out (by omega) W4 HT4.out.bel
                  have hlt := less_ba nm pv
                  have heq := eq_ba nm pv
                  rw [HNMD.out.2, show pv.data.toList = prev ss (j + 1) by rw [hpv]; rfl] at hlt heq
                  have i1 : (0 : Int) ≤ (j : Int) + 1 - 1 := by omega
                  have i2 : (j : Int) + 1 - 1 < (n : Int) := by omega
                  have i3 : (0 : Int) < (j : Int) + 1 := by omega
                  have HLT := (show Hid _ from hlt)
                  have HEQ := (show Hid _ from heq)
                  clear hlt heq hpv hk0
                  by_cases h1 : prev ss (j + 1) < ss[j + 1]
                  · have hl : Op.bytesLess nm.toList pv.toList = false := by rw [HLT.out]; exact decide_eq_false (fun h => absurd (List.lt_trans h h1) (List.lt_irrefl _))
                    have hl2 : (nm.toList == pv.toList) = false := by rw [HEQ.out]; exact decide_eq_false (fun h => by rw [h] at h1; exact List.lt_irrefl _ h1)
                    have HB : Hid (NmB false 0 (prev ss (j + 1)) ss[j + 1]) := ⟨fun h => (by cases h), fun h => absurd h1 h.2⟩
                    clear h1 HLT HEQ
                    go_quiet (fail)
                    go_wp2_with fail
                    go_meet
                    case rel => exact ⟨false, _, rfl, rfl, HB.out⟩
                  · have HB : Hid (NmB true 0 (prev ss (j + 1)) ss[j + 1]) := ⟨fun _ => ⟨rfl, h1⟩, fun _ => rfl⟩
                    by_cases h2 : ss[j + 1] < prev ss (j + 1)
                    · have hl : Op.bytesLess nm.toList pv.toList = true := by rw [HLT.out]; exact decide_eq_true h2
                      clear h1 h2 HLT HEQ
                      go_quiet (fail)
                      go_wp2_with fail
                      go_meet
                      case rel => exact ⟨true, _, rfl, rfl, HB.out⟩
                    · have hl : Op.bytesLess nm.toList pv.toList = false := by rw [HLT.out]; exact decide_eq_false h2
                      have hl2 : (nm.toList == pv.toList) = true := by rw [HEQ.out]; exact decide_eq_true (List.le_antisymm (List.not_lt.1 h1) (List.not_lt.1 h2))
                      clear h1 h2 HLT HEQ
                      go_quiet (fail)
                      go_wp2_with fail
                      go_meet
                      case rel => exact ⟨true, _, rfl, rfl, HB.out⟩
              case rest =>
                obtain ⟨b, q, rfl, hwc, hnb⟩ := hcut
                have HNB := (show Hid _ from hnb)
                have h4c : Below W4.heap.size W4 wc := by rw [hwc]; exact below_draws (Below.refl _ _) q
                have HTC := (show Hid _ from HT4.out.below h4c)
                clear hnb hwc h4c y0 y1 y2 y3 y4 y5 y6 x4 v4 vd4
                obtain ⟨y0, y1, y2, y3, y4, y5, y6⟩ := HTC.out.cells
                by_cases hb : b = true
                · have hn0 := HNB.out.1 hb
                  subst hb
                  have hnc : nameC (prev ss k) ss[k] = 3 := by rw [HNC.out, if_neg (fun h => h rfl), if_neg hn0.2]
                  have HM := (show Hid _ from HAT.out 3 (by rw [HROW.out]; unfold serC; rw [hnc, if_pos (by decide)]) (by decide))
                  have HO2 := (show Hid _ from flt_set HTC.out.r2 HTC.out.bel 3 k)
                  clear hn0 hnc
                  go_wp2
                  exact HZ.out _ 3 k HO2.out HM.out (by decide) _ rfl rfl rfl
                · have hbf : b = false := by simpa using hb
                  subst hbf
                  have hlt : prev ss k < ss[k] := by
                    apply Decidable.not_not.1
                    intro h
                    exact hb (HNB.out.2 ⟨rfl, h⟩)
                  have hnc : nameC (prev ss k) ss[k] = 0 := by rw [HNC.out, if_neg (fun h => h rfl), if_pos hlt]
                  have HRW : Hid (serAt f s ss cs k = if unC cs[k] ≠ 0 then unC cs[k] else if unP cs[k] = [] then 5 else if insB f s (unP cs[k]) = true then 0 else 2) := by
                    show _ = _
                    rw [HROW.out]
                    unfold serC
                    rw [hnc, if_neg (fun h => h rfl)]
                  obtain ⟨ch, hch⟩ : ∃ ch : ByteArray, ch = txt cs[k] := ⟨_, rfl⟩
                  have x6 : wc.cell? ⟨g2, k, none⟩ = some (.string ch) := by rw [hch]; exact hg2 wc HTC.out.bel
                  have HUN := (show Hid _ from un_any wc ch (by rw [hch, txt_size]; exact HSZ.out.2 _ (List.getElem_mem hkc)))
                  rw [show ch.data.toList = cs[k] by rw [hch]; rfl] at HUN
                  clear hb hlt hnc hch
                  go_wp2_with fail
                  refine Calls.mono HUN.out ?_
                  rintro e w5 ⟨hb5, ⟨hz5, v5, rfl, ho5⟩ | ⟨hz5, rfl⟩⟩
                  · have HUZ : Hid (unC cs[k] = 0) := hz5
                    have hsp := unP_spec (unC_zero.1 hz5)
                    have hl5 := (ptsC_zero hsp.1).1
                    have HT5 := (show Hid _ from HTC.out.below hb5)
                    have HO5 : Hid (w5.ownsRow (w.heap.size + 3) 71 2 v5 (unP cs[k]).length (pairCells (unP cs[k]))) := own_mono2 ho5 HTC.out.siz
                    obtain ⟨a5, c5, rfl, _, hp5, _⟩ := own_pairs ho5
                    obtain ⟨n5, hn5⟩ : ∃ n5, n5 = (unP cs[k]).length := ⟨_, rfl⟩
                    have HIS := (show Hid _ from bkInside_any w5 a5 c5 (unP cs[k]) f s HBD0.out hp5 (by omega))
                    obtain ⟨ib, hib⟩ : ∃ ib, ib = insB f s (unP cs[k]) := ⟨_, rfl⟩
                    rw [← hib, ← hn5] at HIS
                    rw [← hn5] at HO5 hl5 ⊢
                    have HIB := (show Hid _ from And.intro hib hn5)
                    have HRW2 : Hid (serAt f s ss cs k = if unP cs[k] = [] then 5 else if ib = true then 0 else 2) := by
                      show _ = _
                      rw [HRW.out, hz5, if_neg (fun h => h rfl), hib]
                    clear y0 y1 y2 y3 y4 y5 y6 hb5 HUN x6 hz5 hsp ho5 hp5 hib hn5
                    obtain ⟨y0, y1, y2, y3, y4, y5, y6⟩ := HT5.out.cells
                    dsimp only
                    go_wp2_with fail
                    refine Calls.mono HIS.out ?_
                    rintro e w7 ⟨rfl, hw7⟩
                    have hw7' := hw7
                    subst hw7'
                    have HT7 := HT5
                    clear hw7 HIS
                    dsimp only
                    by_cases hz : n5 = 0
                    · have hnil : unP cs[k] = [] := List.eq_nil_of_length_eq_zero (by rw [← HIB.out.2]; exact hz)
                      have HM := (show Hid _ from HAT.out 5 (by rw [HRW2.out, if_pos hnil]) (by decide))
                      have HO2 := (show Hid _ from flt_set HT7.out.r2 HT7.out.bel 5 k)
                      subst hz
                      clear hnil
                      go_wp2
                      exact HZ.out _ 5 k HO2.out HM.out (by decide) _ rfl rfl rfl
                    · have hne : ¬ unP cs[k] = [] := fun h => hz (by rw [HIB.out.2, h]; rfl)
                      have d7 : ((n5 : Int) == 0) = false := by rw [beq_eq_false_iff_ne]; omega
                      cases ib with
                      | false =>
                        have HM := (show Hid _ from HAT.out 2 (by rw [HRW2.out, if_neg hne, if_neg (by decide)]) (by decide))
                        have HO2 := (show Hid _ from flt_set HT7.out.r2 HT7.out.bel 2 k)
                        clear hz hne
                        go_wp2
                        exact HZ.out _ 2 k HO2.out HM.out (by decide) _ rfl rfl rfl
                      | true =>
                        have HOK : Hid (∀ j, j < k + 1 → serAt f s ss cs j = 0) := fun j hj => by
                          rcases Nat.lt_or_ge j k with h | h
                          · exact HT7.out.ok j h
                          · obtain rfl : j = k := by omega
                            rw [HRW2.out, if_neg hne, if_pos rfl]
                        have hlk : (ss.take k).length = k := by rw [List.length_take]; omega
                        obtain ⟨b3, e3, hu1⟩ := own_slice1 HT7.out.set.names
                        obtain ⟨b4, e4, hu2⟩ := own_slice1 HT7.out.set.row
                        rw [hlk] at hu1
                        rw [HT7.out.lsl] at hu2
                        subst hu1 hu2
                        have HO1 : Hid (w7.ownsRow (w.heap.size + 3) 9 1 (.slice b3 k e3) k ((ss.take k).map encStr)) := by have := HT7.out.set.names; rw [hlk] at this; exact this
                        have HLK := (show Hid _ from hlk)
                        obtain ⟨iS, hI, hS0, hS1, hS2⟩ := info_parts Tryz.infoStr3
                        have HSS := (show Hid _ from hI)
                        clear hI
                        obtain ⟨iR, hI, hR0, hR1, hR2⟩ := info_parts Tryz.infoPts3
                        have HIR := (show Hid _ from hI)
                        clear hI hz hne hlk
                        have HSO : Hid (∀ w', Below w7.heap.size w7 w' → w'.cell? ⟨w.heap.size + 2, 0, none⟩ = some (.slice b3 k e3) ∧ w'.cell? ⟨w.heap.size, 2, none⟩ = some (.slice (some ⟨g1, 0, none⟩) n c1) ∧ w'.cell? ⟨g1, k, none⟩ = some (.string nm)) := fun z hz => by
                          have := HT7.out.below hz
                          exact ⟨cells_of this.set.set 0, this.cells.2.2.1, by rw [HNMD.out.1]; exact hg1 z this.bel⟩
                        have hsd := HSO.out w7.drew (bel_drew (Below.refl _ _))
                        clear y0 y1 y2 y3 y4 y5 y6
                        go_upto_region 25 with fail
                        refine wp_region_S (S := fun w' => w'.cell? ⟨w.heap.size + 2, 0, none⟩ = some (.slice b3 k e3) ∧ w'.cell? ⟨w.heap.size, 2, none⟩ = some (.slice (some ⟨g1, 0, none⟩) n c1) ∧ w'.cell? ⟨g1, k, none⟩ = some (.string nm)) (by kernel_rfl) 14 hsd (fun hHeld => ?_)
                        clear hsd
                        refine wpAnyS_take0 (i := 0) (v := .pointer (some ⟨w.heap.size + 2, 0, none⟩)) rfl (by kernel_rfl) (by kernel_rfl) (by kernel_rfl) (by kernel_rfl) (fun _ _ _ h => h) (Or.inl ⟨by rfl, ?_⟩) (fun _ => hHeld) ?_
                        · intro w _
                          go_simp
                        try simp only [Act.put]
                        refine wpAnyS_take0 (i := 1) (v := .pointer (some ⟨w.heap.size + 2, 0, none⟩)) rfl (by kernel_rfl) (by kernel_rfl) (by kernel_rfl) (by kernel_rfl) (fun _ _ _ h => h) (Or.inl ⟨by rfl, ?_⟩) (fun _ => hHeld) ?_
                        · intro w _
                          go_simp
                        try simp only [Act.put]
                        refine wpAnyS_take0 (i := 2) (v := .pointer (some ⟨w.heap.size + 2, 0, none⟩)) rfl (by kernel_rfl) (by kernel_rfl) (by kernel_rfl) (by kernel_rfl) (fun _ _ _ h => h) (Or.inl ⟨by rfl, ?_⟩) (fun _ => hHeld) ?_
                        · intro w _
                          go_simp
                        try simp only [Act.put]
                        refine wpAnyS_take0 (i := 3) (v := .pointer (some ⟨w.heap.size + 2, 0, none⟩)) rfl (by kernel_rfl) (by kernel_rfl) (by kernel_rfl) (by kernel_rfl) (fun _ _ _ h => h) (Or.inl ⟨by rfl, ?_⟩) (fun _ => hHeld) ?_
                        · intro w _
                          go_simp
                        try simp only [Act.put]
                        refine wpAnyS_take (i := 4) (v := .slice b3 k e3) rfl (by kernel_rfl) (by kernel_rfl) (by kernel_rfl) (by kernel_rfl) (by kernel_rfl) (by kernel_rfl) (fun _ _ _ h => h) (Or.inl ⟨by rfl, ?_⟩) hHeld ?_
                        · intro w hSw
                          obtain ⟨jh0, jh1, jh2⟩ := hSw
                          go_simp
                        try simp only [Act.put]
                        refine wpAnyS_take0 (i := 5) (v := .pointer (some ⟨w.heap.size, 2, none⟩)) rfl (by kernel_rfl) (by kernel_rfl) (by kernel_rfl) (by kernel_rfl) (fun _ _ _ h => h) (Or.inl ⟨by rfl, ?_⟩) (fun _ => hHeld) ?_
                        · intro w _
                          go_simp
                        try simp only [Act.put]
                        refine wpAnyS_take (i := 6) (v := .slice (some ⟨g1, 0, none⟩) n c1) rfl (by kernel_rfl) (by kernel_rfl) (by kernel_rfl) (by kernel_rfl) (by kernel_rfl) (by kernel_rfl) (fun _ _ _ h => h) (Or.inl ⟨by rfl, ?_⟩) hHeld ?_
                        · intro w hSw
                          obtain ⟨jh0, jh1, jh2⟩ := hSw
                          go_simp
                        try simp only [Act.put]
                        refine wpAnyS_take0 (i := 7) (v := .int .i64 (k : Int)) rfl (by kernel_rfl) (by kernel_rfl) (by kernel_rfl) (by kernel_rfl) (fun _ _ _ h => h) (Or.inl ⟨by rfl, ?_⟩) (fun _ => hHeld) ?_
                        · intro w _
                          go_simp
                        try simp only [Act.put]
                        refine wpAnyS_take0 (i := 8) (v := .pointer (some ⟨g1, k, none⟩)) rfl (by kernel_rfl) (by kernel_rfl) (by kernel_rfl) (by kernel_rfl) (fun _ _ _ h => h) (Or.inl ⟨by rfl, ?_⟩) (fun _ => hHeld) ?_
                        · intro w _
                          go_simp
                        try simp only [Act.put]
                        refine wpAnyS_take (i := 9) (v := .string nm) rfl (by kernel_rfl) (by kernel_rfl) (by kernel_rfl) (by kernel_rfl) (by kernel_rfl) (by kernel_rfl) (fun _ _ _ h => h) (Or.inl ⟨by rfl, ?_⟩) hHeld ?_
                        · intro w hSw
                          obtain ⟨jh0, jh1, jh2⟩ := hSw
                          go_simp
                        try simp only [Act.put]
                        refine wpAnyS_ready (rs := [10]) (by kernel_rfl) (by simp) ?_
                        refine AllReadyS.cons rfl (fun K hK => ?_) AllReadyS.nil
                        go_simp
                        refine hK.out _ _ (HSO.out _ (bel_alloc (bel_drew (Below.refl _ _)) _)) ?_
                        clear hK K
                        try simp only [Act.put]
                        refine wpAnyS_ready (rs := [11]) (by kernel_rfl) (by simp) ?_
                        refine AllReadyS.cons rfl (fun K hK => ?_) AllReadyS.nil
                        refine step_app4 w7 (by rfl) _ _ 23 (by rfl) (w.heap.size + 3) 9 iS (.string ⟨#[]⟩) 16 Tryz.underlying23 HSS.out hS0 hS1 hS2 (by rfl) (.slice b3 k e3) k ((ss.take k).map encStr) (by rfl) HO1.out (bel_alloc (bel_drew (Below.refl _ _)) _) _ _ _ _ (by rfl) (by exact heap_alloc_new _ _) (by rfl) (by omega) (by decide) HT7.out.siz ?_
                        intro g8 cap8 w8 hown8 hgr8 hby8
                        have h8 := HT7.out.set.name (x := ss[k]) HT7.out.siz hby8 (by rw [HLK.out]; rw [HNMD.out.1] at hown8; exact hown8) hgr8
                        rw [HLK.out] at h8
                        have q0 : w8.cell? ⟨w.heap.size + 2, 0, none⟩ = some (.slice b3 k e3) := cells_of h8.1 0
                        have z0 : w8.frozen? ⟨w.heap.size + 2, 0, none⟩ = false := by simp [World.frozen?, h8.1]
                        have hb8 : Below (w.heap.size + 2) w7 w8 := h8.2.1.mono (Nat.le_succ _)
                        have hbw8 := HT7.out.bel.trans (h8.2.1.mono (by omega))
                        have H8S : Hid (w.heap.size + 3 ≤ w8.heap.size) := Nat.le_trans HT7.out.siz (Nat.le_trans hby8.size hgr8.size)
                        have HPT8 : Hid (∀ v m ys, w7.ownsRow (w.heap.size + 3) 71 2 v m ys → w8.ownsRow (w.heap.size + 3) 71 2 v m ys) := fun v m ys hv => own_grw hgr8 (own_bel3 HO1.out hby8) (own_bel3 hv hby8) (by decide)
                        have HS8 : Hid (w8.cell? ⟨w.heap.size + 2, 0, none⟩ = some (.slice b3 k e3) ∧ w8.cell? ⟨w.heap.size, 2, none⟩ = some (.slice (some ⟨g1, 0, none⟩) n c1) ∧ w8.cell? ⟨g1, k, none⟩ = some (.string nm)) := ⟨q0, cells_of ((hb8.block _ (by omega)).trans HT7.out.bb) 2, by rw [HNMD.out.1]; exact hg1 w8 hbw8⟩
                        have H8 := (show Hid _ from And.intro h8.2.2 (And.intro hb8 hbw8))
                        clear hown8 hgr8 hby8 h8 hb8 hbw8
                        refine hK.out _ _ HS8.out ?_
                        clear hK K
                        try simp only [Act.put]
                        refine wpAnyS_take0 (i := 12) (v := .pointer (some ⟨w.heap.size + 2, 0, none⟩)) rfl (by kernel_rfl) (by kernel_rfl) (by kernel_rfl) (by kernel_rfl) (fun _ _ _ h => h) (Or.inl ⟨by rfl, ?_⟩) (fun _ => HS8.out) ?_
                        · intro w _
                          go_simp
                        try simp only [Act.put]
                        refine wpAnyS_take0 (i := 13) (v := .pointer (some ⟨w.heap.size + 2, 0, none⟩)) rfl (by kernel_rfl) (by kernel_rfl) (by kernel_rfl) (by kernel_rfl) (fun _ _ _ h => h) (Or.inl ⟨by rfl, ?_⟩) (fun _ => HS8.out) ?_
                        · intro w _
                          go_simp
                        try simp only [Act.put]
                        refine wpAnyS_ready (rs := [14]) (by kernel_rfl) (by simp) ?_
                        refine AllReadyS.last rfl (by kernel_rfl) (fun K hK => ?_) AllReadyS.nil
                        go_simp
                        refine hK.out _ _ ?_
                        clear hK K
                        refine wpAnyS_done (by kernel_rfl) ?_ _
                        clear HS8 q0 z0 HSO
                        obtain ⟨Z8, hZ8⟩ : ∃ Z8, Z8 = w8.setCell ⟨w.heap.size + 2, 0, none⟩ (.slice (some ⟨g8, 0, none⟩) (k + 1) cap8) := ⟨_, rfl⟩
                        obtain ⟨ht8, hb8, hbw8⟩ := H8.out
                        rw [← hZ8] at ht8 ⊢
                        have hbz8 : Below w.heap.size w Z8 := by rw [hZ8]; exact hbw8.setCell (p := ⟨w.heap.size + 2, 0, none⟩) (by show w.heap.size ≤ w.heap.size + 2; omega) _
                        have hsz8 : w.heap.size + 3 ≤ Z8.heap.size := by rw [hZ8, World.size_setCell]; exact H8S.out
                        have hbz7 : Below (w.heap.size + 2) w7 Z8 := by rw [hZ8]; exact hb8.setCell (p := ⟨w.heap.size + 2, 0, none⟩) (Nat.le_refl _) _
                        have HPZ8 : Hid (∀ v m ys, w7.ownsRow (w.heap.size + 3) 71 2 v m ys → Z8.ownsRow (w.heap.size + 3) 71 2 v m ys) := fun v m ys hv => by rw [hZ8]; exact own_setc (HPT8.out v m ys hv) (by omega)
                        have HT8 := (show Hid _ from ht8)
                        have HZ8 := (show Hid _ from And.intro hbz8 (And.intro hsz8 hbz7))
                        have HOL : Hid ((Z8.alloc (.cells #[.slice a5 n5 c5] 48)).ownsRow (w.heap.size + 3) 48 1 (.slice b4 k e4) k ls) := World.ownsRow.alloc (by have := ht8.row; rw [HT7.out.lsl] at this; exact this) _
                        have HNW : Hid (∀ i z, ([.slice a5 n5 c5] : List Value)[i]? = some z → (Z8.alloc (.cells #[.slice a5 n5 c5] 48)).cell? ((⟨Z8.heap.size, 0, none⟩ : Addr).add i) = some z) := World.news_of_block (heap_alloc_new _ _)
                        have H1R : Hid (∀ z ∈ ([.slice a5 n5 c5] : List Value), z.oneCell' = true) := by
                          intro z hz
                          simp at hz
                          subst hz
                          rfl
                        have s1 : Z8.cell? ⟨w.heap.size + 2, 1, none⟩ = some (.slice b4 k e4) := cells_of ht8.set 1
                        clear H8 H8S HPT8 hZ8 ht8 hb8 hbw8 hbz8 hbz7
                        go_wp2_with (at_builtin; refine wpList_append_lies _ rfl _ _ 96 rfl (w.heap.size + 3) 48 iR (.slice none 0 0) 1 24 Tryz.underlying96 HIR.out hR0 hR1 hR2 rfl (by decide) _ _ _ rfl HOL.out ⟨Z8.heap.size, 0, none⟩ 1 1 [.slice a5 n5 c5] rfl rfl HNW.out H1R.out (by omega) (by unfold maxLen; omega) (by omega) (by simp; omega) _ rfl ?_)
                        intro g9 cap9 w9 hown9 hg9 hat9 _
                        have G9 : Grw (Z8.alloc (.cells #[.slice a5 n5 c5] 48)) w9 (.slice b4 k e4) g9 := ⟨hg9.os, hg9.tape, hg9.output, hg9.size, fun q hq hne => hg9.block q hq (fun e => hne e.symm), by simpa using hat9⟩
                        have hby9 : Below Z8.heap.size Z8 (Z8.alloc (.cells #[.slice a5 n5 c5] 48)) := (Below.refl _ _).alloc (Nat.le_refl _) _
                        have h9 := HT8.out.list (x := .slice a5 n5 c5) hsz8 hby9 (by rw [HT7.out.lsl]; exact hown9) G9
                        rw [HT7.out.lsl] at h9
                        have q1 : w9.cell? ⟨w.heap.size + 2, 1, none⟩ = some (.slice b4 k e4) := cells_of h9.1 1
                        have z1 : w9.frozen? ⟨w.heap.size + 2, 1, none⟩ = false := by simp [World.frozen?, h9.1]
                        have HNX : Hid (SoTo w (w9.setCell ⟨w.heap.size + 2, 1, none⟩ (.slice (some ⟨g9, 0, none⟩) (k + 1) cap9)) f s (some ⟨g1, 0, none⟩) (some ⟨g2, 0, none⟩) n c1 c2 ss cs (k + 1) (.slice (some ⟨g8, 0, none⟩) (k + 1) cap8) (.slice (some ⟨g9, 0, none⟩) (k + 1) cap9) (ls ++ [.slice a5 n5 c5])) := by
                          obtain ⟨hbz8, _, hbz7⟩ := HZ8.out
                          have hb9 : Below (w.heap.size + 2) w7 w9 := hbz7.trans (h9.2.1.mono (Nat.le_succ _))
                          have hpz : ∀ v m ys, w7.ownsRow (w.heap.size + 3) 71 2 v m ys → (w9.setCell ⟨w.heap.size + 2, 1, none⟩ (.slice (some ⟨g9, 0, none⟩) (k + 1) cap9)).ownsRow (w.heap.size + 3) 71 2 v m ys := fun v m ys hv => own_setc (own_grw G9 HOL.out (own_bel3 (HPZ8.out v m ys hv) hby9) (by decide)) (by omega)
                          refine ⟨HOK.out, ?_, ?_, by rw [List.take_succ_eq_append_getElem hks]; exact h9.2.2, by simp [HT7.out.lsl], fun i hi => ?_, (hbz8.trans (h9.2.1.mono (by omega))).setCell (p := ⟨w.heap.size + 2, 1, none⟩) (by show w.heap.size ≤ w.heap.size + 2; omega) _, by rw [World.size_setCell]; exact Nat.le_trans hsz8 (Nat.le_trans hby9.size G9.size)⟩
                          · rw [Below.heap_setCell _ _ _ _ (by show w.heap.size ≠ w.heap.size + 2; omega), hb9.block _ (by omega)]
                            exact HT7.out.bb
                          · rw [Below.heap_setCell _ _ _ _ (by show w.heap.size + 1 ≠ w.heap.size + 2; omega), hb9.block _ (by omega)]
                            exact HT7.out.r2
                          · rcases Nat.lt_or_ge i k with h | h
                            · obtain ⟨v, h1, h2⟩ := HT7.out.pts i h
                              exact ⟨v, by rw [List.getElem?_append_left (by rw [HT7.out.lsl]; exact h)]; exact h1, hpz _ _ _ h2⟩
                            · obtain rfl : i = k := by omega
                              refine ⟨.slice a5 n5 c5, by rw [List.getElem?_append_right (by rw [HT7.out.lsl]; exact Nat.le_refl _), HT7.out.lsl]; simp, ?_⟩
                              rw [HGC.out, ← HIB.out.2]
                              exact hpz _ _ _ HO5.out
                        clear hown9 hg9 hat9 G9 hby9 h9
                        go_wp2
                        go_roundw
                        case rel => exact ⟨k + 1, _, _, _, by omega, by go_num, HNX.out⟩
                        case measure => simp [intOf] <;> omega
                  · have HT5 := (show Hid _ from HTC.out.below hb5)
                    clear y0 y1 y2 y3 y4 y5 y6 hb5 HUN x6
                    obtain ⟨y0, y1, y2, y3, y4, y5, y6⟩ := HT5.out.cells
                    obtain ⟨UC, hUC⟩ : ∃ UC, UC = unC cs[k] := ⟨_, rfl⟩
                    have hU0 : 0 ≤ UC := by rw [hUC]; exact unC_nonneg _
                    have HRN : Hid (UC ≠ 0) := by rw [hUC]; exact hz5
                    have d5 : (UC == 0) = false := by simpa using HRN.out
                    have d6 : decide (0 < UC) = true := decide_eq_true (by have := HRN.out; omega)
                    have HM := (show Hid _ from HAT.out UC (by rw [HRW.out, ← hUC, if_pos HRN.out]) HRN.out)
                    have HO2 := (show Hid _ from flt_set HT5.out.r2 HT5.out.bel UC k)
                    have HIS := (show Hid _ from bkInside_any w5 none 0 [] f s HBD0.out (.inl rfl) (by simp))
                    rw [← hUC]
                    clear hUC hz5
                    dsimp only
                    go_wp2_with fail
                    refine Calls.mono HIS.out ?_
                    rintro e w7 ⟨rfl, hw7⟩
                    have hw7' := hw7
                    subst hw7'
                    clear hw7 HIS
                    dsimp only
                    go_wp2
                    exact HZ.out _ UC k HO2.out HM.out HRN.out _ rfl rfl rfl
          · obtain rfl : k = n := by omega
            have hge : (k : Int) ≤ (k : Int) := Int.le_refl _
            have HMK : Hid (bkC f s ss cs = 0 ∧ bkA f s ss cs = -1) := bk_good HG.out (by rw [HMM.out, HN.out]) fun j hj => HTO.out.ok j (by have := HN.out; omega)
            have HFN : Hid (∀ z, Calls Tryz.prog 53 #[] z fun e w' => e = .returned (.agg #[.int .i64 0, .int .i64 (-1)]) ∧ Below z.heap.size z w') := fun z => fine_any z
            go_wp2_with fail
            refine Calls.mono (HFN.out _) ?_
            rintro e w9 ⟨rfl, hb9⟩
            have HT9 := (show Hid _ from HTO.out.below hb9)
            clear y0 y1 y2 y3 y4 y5 y6 hb9
            obtain ⟨y0, y1, y2, y3, y4, y5, y6⟩ := HT9.out.cells
            dsimp only
            go_wp2
            refine HEND.out w9 _ _ _ HT9.out HMK.out.1 _ rfl rfl rfl
      · have d3 : ((n : Int) == (m : Int)) = false := by rw [beq_eq_false_iff_ne]; omega
        have HM : Hid (bkC f s ss cs = 3 ∧ bkA f s ss cs = -1) := HSHP.out HG.out (by rw [HN.out, HMM.out]; exact fun h => hnm h.symm)
        clear HBND HSHP h60 hnm
        go_wp2_with fail
        refine Calls.mono (HBA.out 3 w1) ?_
        rintro e w2 ⟨rfl, hb2⟩
        obtain ⟨hz, p0, p1, p2⟩ := HFIN.out 3 w2 hb2
        have HO2 := (show Hid _ from hz)
        clear hb2 hz
        dsimp only
        go_wp2
        exact HZ.out _ 3 (-1) HO2.out HM.out (by decide) _ rfl rfl rfl
  · have HM : Hid (bkC f s ss cs = 2 ∧ bkA f s ss cs = -1) := HBND.out (.inl (by rw [← HEV.out]; decide))
    clear HBND HSHP
    go_wp2_with fail
    refine Calls.mono (HBA.out 2 w1) ?_
    rintro e w2 ⟨rfl, hb2⟩
    obtain ⟨hz, p0, p1, p2⟩ := HFIN.out 2 w2 hb2
    have HO2 := (show Hid _ from hz)
    clear hb2 hz
    dsimp only
    go_wp2
    exact HZ.out _ 2 (-1) HO2.out HM.out (by decide) _ rfl rfl rfl
end Go.Proofs.YtijgolnbbaljlaaGreatDoor
