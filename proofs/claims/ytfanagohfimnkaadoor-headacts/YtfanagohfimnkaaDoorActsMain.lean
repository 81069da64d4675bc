/- The statement HeadActs, walked. -/
import Derived.Test.YtfanagohfimnkaaDoorMdAddGroup
import Derived.Test.YtfanagohfimnkaaDoorActsIn
import Derived.Test.YtfanagohfimnkaaDoorHeadStGroup
import Derived.Deep.RegionHeld3
import Derived.Deep.CutBlock
import Derived.Deep.CutRange
namespace Go.Proofs.YtfanagohfimnkaaDoor
open Go.RowKit Go.Maps HeadMath LabMath PtMath

set_option maxRecDepth 1000000 in
set_option maxHeartbeats 4000000 in
theorem acts_main {Bd : Nat} {ea : Nat → Addr} (w : World) (E : Env Bd ea w) (hBd : Bd ≤ w.heap.size) (la : Option Addr) (n c : Nat) (K X : Nat → ByteArray) (T : Nat → Int) (U : Nat → Nat) (M : Nat → Int) (hP : ActsA w la n K X T U M) (hnI : (n : Int) ≤ 9223372036854775807) :
    Calls Tryd.prog 6 #[.slice la n c] w fun e w' => e = .returned (.bool true) ∧ Below w.heap.size w w' := by
  have HCH := (show Hid _ from headed_any w E.head hBd)
  have HE := (show Hid _ from E)
  have HP : Hid (ActsA w la n K X T U M) := hP
  clear E hP
  go_enter Tryd.func6, Tryd.ntmps6
  go_wp2_with fail
  refine Calls.mono HCH.out ?_
  rintro e w1 ⟨rfl, hb1⟩
  have HB1 : Hid (Below w.heap.size w w1) := hb1
  have HN := (show Hid _ from hf_new w w1 hb1.size)
  clear hb1 HCH
  dsimp only
  by_cases hbig : 100 < n
  · have d0 : decide ((100 : Int) < (n : Int)) = true := by simp; omega
    go_wp2
    go_ret
    exact ⟨rfl, HB1.out⟩
  have d0 : decide ((100 : Int) < (n : Int)) = false := by simp; omega
  go_wp2_with fail
  refine Calls.mono HN.out ?_
  rintro e w2 ⟨hb, F, rfl, h2, hb2, _⟩
  obtain ⟨W, hW⟩ : ∃ W, W = w2.alloc (.cells #[.slice none 0 0] 75) := ⟨_, rfl⟩
  have hbW : Below w2.heap.size w2 W := by rw [hW]; exact (Below.refl _ _).alloc (Nat.le_refl _) _
  have hB2 := HB1.out.trans (hb2.mono HB1.out.size)
  have HT : Hid (Two w W hb w2.heap.size [] F [w2.heap.size]) := by
    refine ⟨h2.same fun x hx => hbW.block x (h2.lt hx), mf_new hB2.size (by rw [hW]; exact heap_alloc_new _ _), fun x hx hg => ?_, hB2.trans (hbW.mono hB2.size)⟩
    simp at hg
    subst hg
    exact absurd (h2.lt hx) (by omega)
  have HW : Hid (∀ wx, wx = w2.alloc (.cells #[.slice none 0 0] 75) → wx = W) := fun wx hx => hx.trans hW.symm
  obtain ⟨mh, hmh⟩ : ∃ mh, mh = w2.heap.size := ⟨_, rfl⟩
  rw [← hmh] at HT
  have HMH := (show Hid _ from hmh)
  clear h2 HN hb2 hW hbW hB2 hmh
  dsimp only
  go_upto_region 8 with fail
  rw [HW.out _ rfl, ← HMH.out]
  clear HW HMH
  go_wp2_with fail
  go_loopw [6] (fun i wr => ∃ (k : Nat) (S : List Sr) (F G : List Nat), k ≤ n ∧ i = .int .i64 (k : Int) ∧ Two w wr hb mh S F G ∧ S.length ≤ k ∧ countS S ≤ k) (fun i _ => n - (intOf i).toNat)
  case atStart => exact ⟨0, [], _, _, Nat.zero_le _, rfl, HT.out, Nat.le_refl _, Nat.le_refl _⟩
  case round =>
    obtain ⟨k, S, F, G, hk, rfl, htw, hsl, hcl⟩ := hrel
    have HTW := (show Hid _ from htw)
    clear htw HT
    by_cases hkn : k < n
    · rcases HP.out with h0 | ⟨lb, lo, rfl, hcs⟩
      · omega
      obtain ⟨c0, c1, c2, c3, c4, hbt⟩ := hcs k hkn
      have hlb : lb < w.heap.size := World.block_lt_of_cell? w ⟨lb, _, none⟩ c0
      have hbw := HTW.out.bel
      have e0 : wr.cell? ⟨lb, lo + k * 5, none⟩ = some (.string (K k)) := (hbw.cell (p := ⟨lb, _, none⟩) hlb).trans c0
      have e1 : wr.cell? ⟨lb, lo + k * 5 + 1, none⟩ = some (.string (X k)) := (hbw.cell (p := ⟨lb, _, none⟩) hlb).trans c1
      have e2 : wr.cell? ⟨lb, lo + k * 5 + 2, none⟩ = some (.int .i64 (T k)) := (hbw.cell (p := ⟨lb, _, none⟩) hlb).trans c2
      have e3 : wr.cell? ⟨lb, lo + k * 5 + 3, none⟩ = some (.int .u64 (U k : Int)) := (hbw.cell (p := ⟨lb, _, none⟩) hlb).trans c3
      have e4 : wr.cell? ⟨lb, lo + k * 5 + 4, none⟩ = some (.int .i64 (M k)) := (hbw.cell (p := ⟨lb, _, none⟩) hlb).trans c4
      have hk0 : (0 : Int) ≤ (k : Int) := by omega
      have hk1 : (k : Int) < (n : Int) := by omega
      obtain ⟨kk, hkk⟩ : ∃ kk, kk = K k := ⟨_, rfl⟩
      obtain ⟨xk, hxk⟩ : ∃ xk, xk = X k := ⟨_, rfl⟩
      obtain ⟨tk, htk⟩ : ∃ tk, tk = T k := ⟨_, rfl⟩
      obtain ⟨uk, huk⟩ : ∃ uk, uk = U k := ⟨_, rfl⟩
      obtain ⟨mk, hmk⟩ : ∃ mk, mk = M k := ⟨_, rfl⟩
      rw [← hkk] at e0
      rw [← hxk] at e1
      rw [← htk] at e2
      rw [← huk] at e3
      rw [← hmk] at e4
      rw [← htk, ← huk, ← hmk] at hbt
      obtain ⟨ht0, ht1, hu0, hm0, hm1⟩ := hbt
      clear hcs c0 c1 c2 c3 c4 hbw hkk hxk htk huk hmk
      obtain ⟨WA, hWA⟩ : ∃ WA, WA = wr.alloc (.cells #[.string kk, .string xk, .int .i64 tk, .int .u64 (uk : Int), .int .i64 mk] 66) := ⟨_, rfl⟩
      have hbA : Below wr.heap.size wr WA := by rw [hWA]; exact (Below.refl _ _).alloc (Nat.le_refl _) _
      have hac : WA.heap[wr.heap.size]? = some (.cells #[.string kk, .string xk, .int .i64 tk, .int .u64 (uk : Int), .int .i64 mk] 66 (0, 0)) := by rw [hWA]; exact heap_alloc_new _ _
      have HWA : Hid (∀ wx, wx = wr.alloc (.cells #[.string kk, .string xk, .int .i64 tk, .int .u64 (uk : Int), .int .i64 mk] 66) → wx = WA) := fun wx hx => hx.trans hWA.symm
      have HTA := (show Hid _ from HTW.out.below hbA)
      have HFR : Hid ((∀ x, x ∈ F → x < wr.heap.size) ∧ ∀ x, x ∈ G → x < wr.heap.size) := ⟨fun x hx => HTW.out.hd.lt hx, fun x hx => HTW.out.md.lt hx⟩
      have a0 : WA.cell? ⟨wr.heap.size, 0, none⟩ = some (.string kk) := by simp [World.cell?, hac]
      have a1 : WA.cell? ⟨wr.heap.size, 1, none⟩ = some (.string xk) := by simp [World.cell?, hac]
      have a2 : WA.cell? ⟨wr.heap.size, 2, none⟩ = some (.int .i64 tk) := by simp [World.cell?, hac]
      have a3 : WA.cell? ⟨wr.heap.size, 3, none⟩ = some (.int .u64 (uk : Int)) := by simp [World.cell?, hac]
      have a4 : WA.cell? ⟨wr.heap.size, 4, none⟩ = some (.int .i64 mk) := by simp [World.cell?, hac]
      obtain ⟨ab, hab⟩ : ∃ ab, ab = wr.heap.size := ⟨_, rfl⟩
      have HAB := (show Hid _ from And.intro hab (And.intro hbA hac))
      clear hWA hbA hac
      go_upto_region 12 with fail
      rw [HWA.out _ rfl]
      clear HWA e0 e1 e2 e3 e4
      by_cases hx : 200 < xk.size
      · have d1 : decide ((200 : Int) < (xk.size : Int)) = true := by simp; omega
        go_wp2
        go_ret
        exact ⟨by rfl, HTA.out.bel⟩
      · have d1 : decide ((200 : Int) < (xk.size : Int)) = false := by simp; omega
        go_upto_block 2 with fail
        go_cut [6] from 41 to 174 (fun i wz => i = .int .i64 (k : Int) ∧ ∃ (S' : List Sr) (F' G' : List Nat), Two w wz hb mh S' F' G' ∧ S'.length ≤ k + 1 ∧ countS S' ≤ k + 1)
        case first =>
          have HNF : Hid (ab ∉ F ∧ ab ∉ G ∧ ab < WA.heap.size) := by
            refine ⟨fun h => ?_, fun h => ?_, ?_⟩
            · have := HFR.out.1 _ h; rw [HAB.out.1] at this; omega
            · have := HFR.out.2 _ h; rw [HAB.out.1] at this; omega
            · rw [HAB.out.1]; exact blk_lt HAB.out.2.2
          have HCE : Hid (∀ z : World, z.heap[ab]? = WA.heap[ab]? → z.cell? ⟨wr.heap.size, 1, none⟩ = some (.string xk) ∧ z.cell? ⟨wr.heap.size, 2, none⟩ = some (.int .i64 tk) ∧ z.cell? ⟨wr.heap.size, 3, none⟩ = some (.int .u64 (uk : Int))) := fun z hz => by
            rw [HAB.out.1] at hz
            exact ⟨(World.cell?_of_block (a := ⟨wr.heap.size, 1, none⟩) hz).trans a1, (World.cell?_of_block (a := ⟨wr.heap.size, 2, none⟩) hz).trans a2, (World.cell?_of_block (a := ⟨wr.heap.size, 3, none⟩) hz).trans a3⟩
          have HDR : Hid (Two w WA.drew hb mh S F G) := HTA.out.below ⟨rfl, rfl, rfl, Nat.le_refl _, fun _ _ => rfl⟩
          by_cases hadd : kk.toList = [97, 100, 100]
          · have HL2 : Hid ((addR S xk.data.toList tk uk).length ≤ k + 1 ∧ countS (addR S xk.data.toList tk uk) ≤ k + 1) := by
              have := addR_small S xk.data.toList tk uk HDR.out.hd.well.sorted
              exact ⟨by omega, by omega⟩
            have HA1 := (show Hid _ from add_first w WA.drew HE.out hBd hb mh ab S F G HDR.out (by omega) (by omega) xk (by omega) tk uk hu0 HNF.out)
            have HA2 : Hid (∀ w3 F' v, AddHalf ea w WA.drew w3 hb mh ab S (addR S xk.data.toList tk uk) F' G v (addC S xk.data.toList tk) (addA xk.data.toList) → Calls Tryd.prog 28 #[.pointer (some ⟨mh, 0, none⟩), .string xk, .agg #[.int .i64 tk, .int .u64 (uk : Int)]] w3 fun e w4 => e = .returned (.agg #[.int .i64 (addC S xk.data.toList tk), .int .i64 (addA xk.data.toList)]) ∧ ∃ G', AddBoth ea w WA.drew w4 hb mh ab (addR S xk.data.toList tk uk) F' G' v (addC S xk.data.toList tk) (addA xk.data.toList)) :=
              fun w3 F' v h3 => add_second w WA.drew w3 hb mh ab S F F' G v HDR.out (by omega) (by omega) xk (by omega) tk uk HNF.out.2 h3
            have HA3 : Hid (∀ w4 F' G' v, AddBoth ea w WA.drew w4 hb mh ab (addR S xk.data.toList tk uk) F' G' v (addC S xk.data.toList tk) (addA xk.data.toList) → Calls Tryd.prog 27 #[v, .agg #[.int .i64 (addC S xk.data.toList tk), .int .i64 (addA xk.data.toList)]] w4 fun e w5 => e = .returned (.bool true) ∧ Two w w5 hb mh (addR S xk.data.toList tk uk) F' G' ∧ w5.heap[ab]? = WA.heap[ab]?) :=
              fun w4 F' G' v h4 => add_third w WA.drew w4 HE.out hBd hb mh ab _ F' G' v _ _ HNF.out.2.2 h4
            obtain ⟨S2, hS2⟩ : ∃ S2, S2 = addR S xk.data.toList tk uk := ⟨_, rfl⟩
            obtain ⟨AC, hAC⟩ : ∃ AC, AC = addC S xk.data.toList tk := ⟨_, rfl⟩
            obtain ⟨AA, hAA⟩ : ∃ AA, AA = addA xk.data.toList := ⟨_, rfl⟩
            rw [← hS2, ← hAC, ← hAA] at HA1 HA2 HA3
            rw [← hS2] at HL2
            have hka : (kk.toList == [97, 100, 100]) = true := by rw [hadd]; rfl
            clear hS2 hAC hAA hadd
            go_wp2_with fail
            go_region_held3 (fun w' => w'.cell? ⟨wr.heap.size, 1, none⟩ = some (.string xk) ∧ w'.cell? ⟨wr.heap.size, 2, none⟩ = some (.int .i64 tk) ∧ w'.cell? ⟨wr.heap.size, 3, none⟩ = some (.int .u64 (uk : Int))) (go_keep) (first
              | (go_at_call 20; refine Calls.mono HA1.out ?_; rintro e w3 ⟨v, F', rfl, h3⟩; have H3 := (show Hid (AddHalf ea w WA.drew w3 hb mh ab S S2 F' G v AC AA) from h3); obtain ⟨q1, q2, q3⟩ := HCE.out w3 h3.blk; clear h3)
              | (go_at_call 28; refine Calls.mono (HA2.out _ _ _ H3.out) ?_; rintro e w4 ⟨rfl, G', h4⟩; have H4 := (show Hid (AddBoth ea w WA.drew w4 hb mh ab S2 F' G' v AC AA) from h4); obtain ⟨r1, r2, r3⟩ := HCE.out w4 h4.blk; clear h4)
              | (go_at_call 27; refine Calls.mono (HA3.out _ _ _ _ H4.out) ?_; rintro e w5 ⟨rfl, h5, z5⟩; have H5 := (show Hid (Two w w5 hb mh S2 F' G') from h5); obtain ⟨t1, t2, t3⟩ := HCE.out w5 z5; clear h5 z5))
            all_goals (go_wp2_with fail; go_meet; exact ⟨rfl, S2, F', G', H5.out, HL2.out⟩)
          · have hka : (kk.toList == [97, 100, 100]) = false := by simpa using hadd
            clear hadd
            by_cases hcu : kk.toList = [99, 117, 116]
            · have hkc : (kk.toList == [99, 117, 116]) = true := by rw [hcu]; rfl
              clear hcu
              have HL2 : Hid ((cutS tk S).length ≤ k + 1 ∧ countS (cutS tk S) ≤ k + 1) := by
                have h1 := count_cut tk S
                have h2 := length_cut tk S
                exact ⟨by omega, by omega⟩
              have HC1 := (show Hid _ from cut_first w WA HE.out hBd hb mh ab S F G HTA.out (by omega) (by omega) tk HNF.out)
              have HC2 : Hid (∀ w1 F' r v, CutHalf ea w WA w1 hb mh ab tk S F' G r v → Calls Tryd.prog 29 #[.pointer (some ⟨mh, 0, none⟩), .int .i64 tk] w1 fun e w2 => e = .returned (.pointer (some ⟨w1.heap.size, 0, none⟩)) ∧ ∃ G' vs vl, CutBoth ea w WA w2 hb mh ab w1.heap.size tk S F' G' r v vs vl) :=
                fun w1 F' r v h1 => cut_second w WA w1 hb mh ab S F F' G r v HTA.out (by omega) (by omega) tk HNF.out.2 h1
              clear HDR
              go_wp2_with fail
              refine Calls.mono HC1.out ?_
              rintro e w1 ⟨r, v, F', rfl, h1⟩
              have H1 := (show Hid (CutHalf ea w WA w1 hb mh ab tk S F' G r v) from h1)
              obtain ⟨q1, q2, q3⟩ := HCE.out w1 h1.blk
              clear h1 HC1
              dsimp only
              go_wp2_with fail
              refine Calls.mono (HC2.out _ _ _ _ H1.out) ?_
              obtain ⟨sb, hsb⟩ : ∃ sb, sb = w1.heap.size := ⟨_, rfl⟩
              rw [← hsb]
              rintro e w2 ⟨rfl, G', vs, vl, h2⟩
              obtain ⟨an, cn, hvs, hcn, hnm⟩ := h2.names
              obtain ⟨al, cl, hvl, hcl2, hpl⟩ := h2.ptss
              obtain ⟨ar, cr, hr, hrr⟩ := h2.at_
              have HNM := (show Hid _ from hnm)
              have HPL := (show Hid _ from hpl)
              have HRR := (show Hid _ from hrr)
              subst hvs hvl hr
              have H2 := (show Hid _ from h2)
              have z0 : w2.cell? ⟨sb, 0, none⟩ = some (.slice an (rowsS tk S).length cn) := cells_of h2.set 0
              have z1 : w2.cell? ⟨sb, 1, none⟩ = some (.slice al (rowsS tk S).length cl) := cells_of h2.set 1
              have hrows := h2.rows
              obtain ⟨R, hR⟩ : ∃ R, R = (rowsS tk S).length := ⟨_, rfl⟩
              have hRI : (R : Int) ≤ 100000 := by
                have : (rowsS tk S).length ≤ S.length := Nat.le_trans (List.length_filter_le _ _) (by simp)
                omega
              rw [← hR] at z0 z1 ⊢
              have HR := (show Hid _ from hR)
              rw [← hR] at H2
              clear h2 hsb H1 HC2 hnm hpl hrr q1 q2 q3 a0 a1 a2 a3 a4 hcn hcl2
              dsimp only
              rcases hrows with ⟨hr0, _, rfl⟩ | ⟨hr1, rfl⟩
              · have hR0 : R = 0 := by rw [hR, hr0]; rfl
                clear hR hr0
                subst hR0
                have HCO := (show Hid _ from coded2_v w2 (HE.out.below H2.out.two.bel hBd) (Nat.le_trans hBd H2.out.two.bel.size) (.iface 197 (.pointer (some (ea 4)))) 5 (.inr (.inl ⟨4, by omega, rfl, by omega, rfl⟩)) (by omega))
                go_wp2_with fail
                refine Calls.mono HCO.out ?_
                rintro e w3 ⟨rfl, hb3⟩
                have H3 := (show Hid _ from H2.out.two.below hb3)
                clear hb3 HCO H2
                dsimp only
                go_wp2
                go_roundw
                case rel => exact ⟨k + 1, cutS tk S, F', G', by omega, by go_num, H3.out, HL2.out⟩
                case measure => simp [intOf] <;> omega
              · have hR0 : R ≠ 0 := by
                  rw [hR]
                  intro h
                  exact hr1 (List.eq_nil_of_length_eq_zero h)
                have d2 : ((R : Int) == 0) = false := by rw [beq_eq_false_iff_ne]; omega
                clear hR hr1
                go_wp2_with fail
                go_loopw [11] (fun i wz => ∃ j : Nat, j ≤ R ∧ i = .int .i64 (j : Int) ∧ CutBoth ea w WA wz hb mh ab sb tk S F' G' (.slice ar R cr) .nilIface (.slice an R cn) (.slice al R cl)) (fun i _ => R - (intOf i).toNat)
                case atStart => exact ⟨0, Nat.zero_le _, rfl, H2.out⟩
                case round =>
                  obtain ⟨j, hj, rfl, hcb⟩ := hrel
                  have z0 : wr.cell? ⟨sb, 0, none⟩ = some (.slice an R cn) := cells_of hcb.set 0
                  have z1 : wr.cell? ⟨sb, 1, none⟩ = some (.slice al R cl) := cells_of hcb.set 1
                  have HCB := (show Hid _ from hcb)
                  by_cases hjR : j < R
                  · have hj' : j < (rowsS tk S).length := by rw [← HR.out]; exact hjR
                    obtain ⟨a1, b1, e1, hx1⟩ := hcb.at_
                    obtain ⟨a2, b2, e2, _, hx2⟩ := hcb.names
                    obtain ⟨a3, b3, e3, _, hx3⟩ := hcb.ptss
                    obtain ⟨g1, f1, c1, p1, q1, c2, y1⟩ := hx1 j hj'
                    obtain ⟨g2, f2, c3⟩ := hx2 j hj'
                    obtain ⟨g3, f3, p3, q3, c4, y3⟩ := hx3 j hj'
                    have i1 := (Value.slice.inj e1).1.trans f1
                    have i2 := (Value.slice.inj e2).1.trans f2
                    have i3 := (Value.slice.inj e3).1.trans f3
                    have hin := rows_in HTW.out.hd.well tk j hj'
                    have hln := rows_len tk j hj'
                    clear e1 e2 e3 hx1 hx2 hx3 f1 f2 f3 hcb HNM HPL HRR H2 a1 a2 a3
                    subst i1 i2 i3
                    obtain ⟨L, hL⟩ : ∃ L, L = ((rowsS tk S)[j]).2 := ⟨_, rfl⟩
                    obtain ⟨nb, hnb⟩ : ∃ nb, Value.string nb = encStr ((rowsS tk S)[j]).1 := ⟨_, rfl⟩
                    rw [← hL] at c2 c4 y1 y3 hin hln
                    rw [← hnb] at c1 c3
                    have HSP : Hid (∀ q, Calls Tryd.prog 30 #[.slice p1 L.length q1, .slice p3 L.length q3] (wr.drewN q) fun e w' => e = .returned (.bool true) ∧ ∃ q', w' = (wr.drewN q).drewN q') := fun q => same_two (wr.drewN q) p1 p3 q1 q3 L (y1.below (below_draws (Below.refl _ _) _)) (y3.below (below_draws (Below.refl _ _) _)) hin (by omega)
                    obtain ⟨ll, hll⟩ : ∃ ll, ll = L.length := ⟨_, rfl⟩
                    rw [← hll] at c2 c4 HSP
                    have hj0 : (0 : Int) ≤ (j : Int) := by omega
                    have hj1 : (j : Int) < (R : Int) := by omega
                    clear hL hnb y1 y3 hin hln hll hj'
                    go_wp2_with fail
                    go_quiet (first | (go_at_call 30; refine Calls.quiet_of (HSP.out _)))
                    go_wp2
                    go_roundw
                    case rel => exact ⟨j + 1, by omega, by go_num, HCB.out.below HNF.out.2.2 (below_draws (Below.refl _ _) _)⟩
                    case measure => simp [intOf] <;> omega
                  · have hje : j = R := by omega
                    subst hje
                    go_wp2_with fail
                    go_meet
                    exact ⟨rfl, cutS tk S, F', G', HCB.out.two, HL2.out⟩
            · have hkc : (kk.toList == [99, 117, 116]) = false := by simpa using hcu
              clear hcu
              have HP1 : Hid (∀ y, Calls Tryd.prog 26 #[.pointer (some ⟨hb, 0, none⟩), .string xk, .int .i64 tk, .int .i64 y] WA.drew fun e w1 => ∃ v, e = .returned v ∧ PtMid w WA.drew w1 hb mh S F G v (betweenL tk y (ptsOf S xk.data.toList))) := fun y => pt_first w WA.drew hb mh S F G HDR.out (by omega) xk (by omega) tk y
              have HP2 : Hid (∀ w1 v y, PtMid w WA.drew w1 hb mh S F G v (betweenL tk y (ptsOf S xk.data.toList)) → Calls Tryd.prog 31 #[.pointer (some ⟨mh, 0, none⟩), .string xk, .int .i64 tk, .int .i64 y] w1 fun e w2 => ∃ v', e = .returned v' ∧ PtEnd w WA.drew w2 hb mh S F G v v' (betweenL tk y (ptsOf S xk.data.toList))) := fun w1 v y h1 => pt_second w WA.drew w1 hb mh S F G v xk tk y h1 (by omega) (by omega)
              have HP3 : Hid (∀ w2 v v' y, PtEnd w WA.drew w2 hb mh S F G v v' (betweenL tk y (ptsOf S xk.data.toList)) → Calls Tryd.prog 30 #[v, v'] w2 fun e w3 => e = .returned (.bool true) ∧ Two w w3 hb mh S F G ∧ Below WA.drew.heap.size WA.drew w3) := fun w2 v v' y h2 => pt_third w WA.drew w2 hb mh S F G v v' xk.data.toList tk y h2 (by omega)
              obtain ⟨PL, hPL⟩ : ∃ PL : Int → List (Int × Nat), PL = fun y => betweenL tk y (ptsOf S xk.data.toList) := ⟨_, rfl⟩
              have HP1 : Hid (∀ y, Calls Tryd.prog 26 #[.pointer (some ⟨hb, 0, none⟩), .string xk, .int .i64 tk, .int .i64 y] WA.drew fun e w1 => ∃ v, e = .returned v ∧ PtMid w WA.drew w1 hb mh S F G v (PL y)) := by rw [hPL]; exact HP1
              have HP2 : Hid (∀ w1 v y, PtMid w WA.drew w1 hb mh S F G v (PL y) → Calls Tryd.prog 31 #[.pointer (some ⟨mh, 0, none⟩), .string xk, .int .i64 tk, .int .i64 y] w1 fun e w2 => ∃ v', e = .returned v' ∧ PtEnd w WA.drew w2 hb mh S F G v v' (PL y)) := by rw [hPL]; exact HP2
              have HP3 : Hid (∀ w2 v v' y, PtEnd w WA.drew w2 hb mh S F G v v' (PL y) → Calls Tryd.prog 30 #[v, v'] w2 fun e w3 => e = .returned (.bool true) ∧ Two w w3 hb mh S F G ∧ Below WA.drew.heap.size WA.drew w3) := by rw [hPL]; exact HP3
              clear hPL
              have HBK : Hid (∀ z : World, Below WA.drew.heap.size WA.drew z → z.heap[ab]? = WA.heap[ab]?) := fun z hz => hz.block ab HNF.out.2.2
              rcases (by omega : mk < 0 ∨ 1000 < mk ∨ (0 ≤ mk ∧ mk ≤ 1000 ∧ 1125899906842624 ≤ tk) ∨ (0 ≤ mk ∧ mk ≤ 1000 ∧ tk < 1125899906842624)) with h | h | ⟨h, h', h''⟩ | ⟨h, h', h''⟩
              · have d2 : decide (0 ≤ mk) = false := by simp; omega
                go_wp2_with fail
                go_region_held3 (fun w' => w'.cell? ⟨wr.heap.size, 1, none⟩ = some (.string xk) ∧ w'.cell? ⟨wr.heap.size, 2, none⟩ = some (.int .i64 tk)) (go_keep) (first
                  | (go_at_call 26; refine Calls.mono (HP1.out _) ?_; rintro e w3 ⟨v, rfl, h3⟩; have H3 := (show Hid _ from h3); obtain ⟨q1, q2, _⟩ := HCE.out w3 (HBK.out _ h3.bel); clear h3)
                  | (go_at_call 31; refine Calls.mono (HP2.out _ _ _ H3.out) ?_; rintro e w4 ⟨v', rfl, h4⟩; have H4 := (show Hid _ from h4); obtain ⟨r1, r2, _⟩ := HCE.out w4 (HBK.out _ h4.bel); clear h4)
                  | (go_at_call 30; refine Calls.mono (HP3.out _ _ _ _ H4.out) ?_; rintro e w5 ⟨rfl, h5, z5⟩; have H5 := (show Hid (Two w w5 hb mh S F G) from h5); obtain ⟨t1, t2, _⟩ := HCE.out w5 (HBK.out _ z5); clear h5 z5))
                all_goals (go_wp2_with fail; go_meet; exact ⟨rfl, S, F, G, H5.out, by omega, by omega⟩)
              · have d2 : decide (mk ≤ 1000) = false := by simp; omega
                have d3 : (0 : Int) ≤ mk := by omega
                go_wp2_with fail
                go_region_held3 (fun w' => w'.cell? ⟨wr.heap.size, 1, none⟩ = some (.string xk) ∧ w'.cell? ⟨wr.heap.size, 2, none⟩ = some (.int .i64 tk)) (go_keep) (first
                  | (go_at_call 26; refine Calls.mono (HP1.out _) ?_; rintro e w3 ⟨v, rfl, h3⟩; have H3 := (show Hid _ from h3); obtain ⟨q1, q2, _⟩ := HCE.out w3 (HBK.out _ h3.bel); clear h3)
                  | (go_at_call 31; refine Calls.mono (HP2.out _ _ _ H3.out) ?_; rintro e w4 ⟨v', rfl, h4⟩; have H4 := (show Hid _ from h4); obtain ⟨r1, r2, _⟩ := HCE.out w4 (HBK.out _ h4.bel); clear h4)
                  | (go_at_call 30; refine Calls.mono (HP3.out _ _ _ _ H4.out) ?_; rintro e w5 ⟨rfl, h5, z5⟩; have H5 := (show Hid (Two w w5 hb mh S F G) from h5); obtain ⟨t1, t2, _⟩ := HCE.out w5 (HBK.out _ z5); clear h5 z5))
                all_goals (go_wp2_with fail; go_meet; exact ⟨rfl, S, F, G, H5.out, by omega, by omega⟩)
              · have d2 : decide (tk < 1125899906842624) = false := by simp; omega
                go_wp2_with fail
                go_region_held3 (fun w' => w'.cell? ⟨wr.heap.size, 1, none⟩ = some (.string xk) ∧ w'.cell? ⟨wr.heap.size, 2, none⟩ = some (.int .i64 tk)) (go_keep) (first
                  | (go_at_call 26; refine Calls.mono (HP1.out _) ?_; rintro e w3 ⟨v, rfl, h3⟩; have H3 := (show Hid _ from h3); obtain ⟨q1, q2, _⟩ := HCE.out w3 (HBK.out _ h3.bel); clear h3)
                  | (go_at_call 31; refine Calls.mono (HP2.out _ _ _ H3.out) ?_; rintro e w4 ⟨v', rfl, h4⟩; have H4 := (show Hid _ from h4); obtain ⟨r1, r2, _⟩ := HCE.out w4 (HBK.out _ h4.bel); clear h4)
                  | (go_at_call 30; refine Calls.mono (HP3.out _ _ _ _ H4.out) ?_; rintro e w5 ⟨rfl, h5, z5⟩; have H5 := (show Hid (Two w w5 hb mh S F G) from h5); obtain ⟨t1, t2, _⟩ := HCE.out w5 (HBK.out _ z5); clear h5 z5))
                all_goals (go_wp2_with fail; go_meet; exact ⟨rfl, S, F, G, H5.out, by omega, by omega⟩)
              · have hw : wrap64 (tk + mk) = tk + mk := by unfold wrap64; omega
                go_wp2_with fail
                go_region_held3 (fun w' => w'.cell? ⟨wr.heap.size, 1, none⟩ = some (.string xk) ∧ w'.cell? ⟨wr.heap.size, 2, none⟩ = some (.int .i64 tk)) (go_keep) (first
                  | (go_at_call 26; refine Calls.mono (HP1.out _) ?_; rintro e w3 ⟨v, rfl, h3⟩; have H3 := (show Hid _ from h3); obtain ⟨q1, q2, _⟩ := HCE.out w3 (HBK.out _ h3.bel); clear h3)
                  | (go_at_call 31; refine Calls.mono (HP2.out _ _ _ H3.out) ?_; rintro e w4 ⟨v', rfl, h4⟩; have H4 := (show Hid _ from h4); obtain ⟨r1, r2, _⟩ := HCE.out w4 (HBK.out _ h4.bel); clear h4)
                  | (go_at_call 30; refine Calls.mono (HP3.out _ _ _ _ H4.out) ?_; rintro e w5 ⟨rfl, h5, z5⟩; have H5 := (show Hid (Two w w5 hb mh S F G) from h5); obtain ⟨t1, t2, _⟩ := HCE.out w5 (HBK.out _ z5); clear h5 z5))
                all_goals (go_wp2_with fail; go_meet; exact ⟨rfl, S, F, G, H5.out, by omega, by omega⟩)
        case rest =>
          obtain ⟨rfl, S', F', G', htw, hsl', hcl'⟩ := hcut
          have HT2 := (show Hid _ from htw)
          have HC1 := (show Hid _ from hf_count w wc hb S' F' htw.hd (by omega))
          clear htw HTA HFR a0 a1 a2 a3 a4
          apply_assumption
          go_wp2_with fail
          refine Calls.mono HC1.out ?_
          rintro e w5 ⟨rfl, hb5⟩
          have HT5 := (show Hid _ from HT2.out.below hb5)
          have HC2 := (show Hid _ from mf_count w w5 mh S' G' HT5.out.md (by omega) (by omega))
          clear hb5 HC1 HT2
          dsimp only
          go_wp2_with fail
          refine Calls.mono HC2.out ?_
          rintro e w6 ⟨rfl, rfl⟩
          have HS1 := (show Hid _ from hf_series w w6 hb S' F' HT5.out.hd (by omega))
          clear HC2
          dsimp only
          go_wp2_with fail
          refine Calls.mono HS1.out ?_
          rintro e w7 ⟨v1, rfl, hb7, ho7⟩
          have HT7 := (show Hid _ from HT5.out.below hb7)
          have HO7 := (show Hid _ from ho7)
          have HS2 := (show Hid _ from mf_series w w7 mh S' G' HT7.out.md (by omega))
          clear hb7 ho7 HS1 HT5
          dsimp only
          go_wp2_with fail
          refine Calls.mono HS2.out ?_
          rintro e w8 ⟨v2, rfl, hb8, ho8⟩
          have HT8 := (show Hid _ from HT7.out.below hb8)
          have HST := (show Hid _ from same_texts w8 _ _ v1 v2 (seriesS S') (own_same HO7.out fun g hg => hb8.block g (own_blk HO7.out hg).2.1) ho8 (Nat.le_trans (seriesS_len S') (by omega)))
          clear hb8 ho8 HS2 HT7 HO7
          dsimp only
          go_wp2_with fail
          refine Calls.mono HST.out ?_
          rintro e w9 ⟨rfl, q9, rfl⟩
          dsimp only
          go_wp2
          go_roundw
          case rel => exact ⟨k + 1, S', F', G', by omega, by go_num, HT8.out.below (below_draws (Below.refl _ _) _), hsl', hcl'⟩
          case measure => simp [intOf] <;> omega
    · have hge : (n : Int) ≤ (k : Int) := by omega
      go_wp2
      go_ret
      exact ⟨by rfl, HTW.out.bel⟩
end Go.Proofs.YtfanagohfimnkaaDoor
