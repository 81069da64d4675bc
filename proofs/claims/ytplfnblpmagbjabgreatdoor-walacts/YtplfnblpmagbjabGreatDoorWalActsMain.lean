/- The statement WalActs, walked. -/
import Derived.Test.YtplfnblpmagbjabGreatDoorWalRecGroup
import Derived.Test.YtplfnblpmagbjabGreatDoorLogActsIn
import Derived.Deep.RegionHeld3
import Derived.Deep.CutBlock
import Derived.Deep.CutRange
import Derived.BigQuiet
namespace Go.Proofs.YtplfnblpmagbjabGreatDoor
open Go.Shelf Go.RowKit LabMath WalMath

set_option maxRecDepth 1000000 in
set_option maxHeartbeats 4000000 in
theorem walacts_main {B : Nat} {ea : Nat → Addr} (w : World) (E0 : EnvW B ea w) (E1 : Env B ea w) (hB : B ≤ w.heap.size) (b : ByteArray) (la : Option Addr) (n c : Nat) (K X : Nat → ByteArray) (T : Nat → Int) (U : Nat → Nat) (M : Nat → Int) (hP : LogActsA w la n K X T U M) (hnI : (n : Int) ≤ 9223372036854775807) :
    Calls Tryz.prog 3 #[.string b, .slice la n c] w fun e w' => e = .returned (.bool true) ∧ Below w.heap.size w w' := by
  have HLG := (show Hid _ from logged_any w E0 hB)
  have HE := (show Hid _ from E0)
  have HE1 := (show Hid _ from E1)
  have HP : Hid (LogActsA w la n K X T U M) := hP
  clear E0 E1 hP
  go_enter Tryz.func3, Tryz.ntmps3
  go_wp2_with fail
  refine Calls.mono HLG.out ?_
  rintro e w1 ⟨rfl, hb1⟩
  have HB1 : Hid (Below w.heap.size w w1) := hb1
  clear hb1 HLG
  dsimp only
  by_cases hbig : 3000 < b.size
  · have d0 : decide ((3000 : Int) < (b.size : Int)) = true := by simp; omega
    go_wp2
    go_ret
    exact ⟨rfl, HB1.out⟩
  have d0 : decide ((3000 : Int) < (b.size : Int)) = false := by simp; omega
  by_cases hn60 : 60 < n
  · have d1 : decide ((60 : Int) < (n : Int)) = true := by simp; omega
    go_wp2
    go_ret
    exact ⟨rfl, HB1.out⟩
  have d1 : decide ((60 : Int) < (n : Int)) = false := by simp; omega
  have HN := (show Hid _ from dk_new w w1 HB1.out b (by omega))
  have hll : b.data.toList.length = b.size := Array.length_toList
  have HLL : Hid (b.data.toList.length ≤ 65536) := by show _ ≤ _; omega
  clear hll hbig
  go_wp2_with fail
  refine Calls.mono HN.out ?_
  rintro e w2 ⟨db, F, rfl, h2, hb2, _⟩
  obtain ⟨W, hW⟩ : ∃ W, W = w2.alloc (.cells #[.string b, .bool false, .int .i64 (-1)] 31) := ⟨_, rfl⟩
  have hbW : Below w2.heap.size w2 W := by rw [hW]; exact (Below.refl _ _).alloc (Nat.le_refl _) _
  have HT : Hid (TwoD w W db w2.heap.size ⟨b.data.toList, false, false, 0⟩ F (-1)) := by
    refine ⟨h2.below hbW, ?_, fun _ => rfl, fun hx => absurd (h2.mem hx).2 (Nat.lt_irrefl _), h2.bel.size, HLL.out⟩
    rw [hW]
    exact heap_alloc_new _ _
  have HW : Hid (∀ wx, wx = w2.alloc (.cells #[.string b, .bool false, .int .i64 (-1)] 31) → wx = W) := fun wx hx => hx.trans hW.symm
  obtain ⟨mb, hmb⟩ : ∃ mb, mb = w2.heap.size := ⟨_, rfl⟩
  rw [← hmb] at HT
  have HMB := (show Hid _ from hmb)
  clear h2 HN hb2 hW hbW hmb
  dsimp only
  go_upto_region 8 with fail
  rw [HW.out _ rfl, ← HMB.out]
  clear HW HMB
  go_wp2_with fail
  go_loopw [9] (fun i wr => ∃ (k : Nat) (d : Dk) (F : List Nat) (cut : Int), k ≤ n ∧ i = .int .i64 (k : Int) ∧ TwoD w wr db mb d F cut) (fun i _ => n - (intOf i).toNat)
  case atStart => exact ⟨0, _, _, _, Nat.zero_le _, rfl, HT.out⟩
  case round =>
    obtain ⟨k, d, F, cut, hk, rfl, htw⟩ := hrel
    have HTW := (show Hid _ from htw)
    clear htw HT
    by_cases hkn : k < n
    · rcases HP.out with h0 | ⟨lb, lo, rfl, hcs⟩
      · omega
      obtain ⟨c0, c1, c2, c3, c4, hbt⟩ := hcs k hkn
      have hlb : lb < w.heap.size := World.block_lt_of_cell? w ⟨lb, _, none⟩ c0
      have hbw := HTW.out.dk.bel
      have e0 : wr.cell? ⟨lb, lo + k * 5, none⟩ = some (.string (K k)) := (hbw.cell (p := ⟨lb, _, none⟩) hlb).trans c0
      have e1 : wr.cell? ⟨lb, lo + k * 5 + 1, none⟩ = some (.string (X k)) := (hbw.cell (p := ⟨lb, _, none⟩) hlb).trans c1
      have e2 : wr.cell? ⟨lb, lo + k * 5 + 2, none⟩ = some (.int .i64 (T k)) := (hbw.cell (p := ⟨lb, _, none⟩) hlb).trans c2
      have e3 : wr.cell? ⟨lb, lo + k * 5 + 3, none⟩ = some (.int .u64 (U k : Int)) := (hbw.cell (p := ⟨lb, _, none⟩) hlb).trans c3
      have e4 : wr.cell? ⟨lb, lo + k * 5 + 4, none⟩ = some (.int .i64 (M k)) := (hbw.cell (p := ⟨lb, _, none⟩) hlb).trans c4
      have hk0 : (0 : Int) ≤ (k : Int) := by omega
      have hk1 : (k : Int) < (n : Int) := by omega
      obtain ⟨kk, hkk⟩ : ∃ kk, kk = K k := ⟨_, rfl⟩
      obtain ⟨xk, hxk⟩ : ∃ xk, xk = X k := ⟨_, rfl⟩
      obtain ⟨tk, htk⟩ : ∃ tk, tk = T k := ⟨_, rfl⟩
      obtain ⟨uk, huk⟩ : ∃ uk, uk = U k := ⟨_, rfl⟩
      obtain ⟨mk, hmk⟩ : ∃ mk, mk = M k := ⟨_, rfl⟩
      rw [← hkk] at e0
      rw [← hxk] at e1
      rw [← htk] at e2
      rw [← huk] at e3
      rw [← hmk] at e4
      rw [← htk, ← huk, ← hmk] at hbt
      obtain ⟨ht0, ht1, hu0, hm0, hm1⟩ := hbt
      clear hcs c0 c1 c2 c3 c4 hbw hkk hxk htk huk hmk
      obtain ⟨WA, hWA⟩ : ∃ WA, WA = wr.alloc (.cells #[.string kk, .string xk, .int .i64 tk, .int .u64 (uk : Int), .int .i64 mk] 36) := ⟨_, rfl⟩
      have hbA : Below wr.heap.size wr WA := by rw [hWA]; exact (Below.refl _ _).alloc (Nat.le_refl _) _
      have hac : WA.heap[wr.heap.size]? = some (.cells #[.string kk, .string xk, .int .i64 tk, .int .u64 (uk : Int), .int .i64 mk] 36 (0, 0)) := by rw [hWA]; exact heap_alloc_new _ _
      have HWA : Hid (∀ wx, wx = wr.alloc (.cells #[.string kk, .string xk, .int .i64 tk, .int .u64 (uk : Int), .int .i64 mk] 36) → wx = WA) := fun wx hx => hx.trans hWA.symm
      have HTA := (show Hid _ from HTW.out.below hbA)
      have HNF : Hid (wr.heap.size ∉ F ∧ wr.heap.size ≠ mb ∧ wr.heap.size < WA.heap.size) :=
        ⟨fun h => absurd (HTW.out.dk.mem h).2 (Nat.lt_irrefl _), fun e => absurd (blk_lt HTW.out.md) (by omega), blk_lt hac⟩
      have a0 : WA.cell? ⟨wr.heap.size, 0, none⟩ = some (.string kk) := cells_of hac 0
      have a1 : WA.cell? ⟨wr.heap.size, 1, none⟩ = some (.string xk) := cells_of hac 1
      have a2 : WA.cell? ⟨wr.heap.size, 2, none⟩ = some (.int .i64 tk) := cells_of hac 2
      have a3 : WA.cell? ⟨wr.heap.size, 3, none⟩ = some (.int .u64 (uk : Int)) := cells_of hac 3
      have a4 : WA.cell? ⟨wr.heap.size, 4, none⟩ = some (.int .i64 mk) := cells_of hac 4
      clear hWA hbA hac
      go_upto_region 12 with fail
      rw [HWA.out _ rfl]
      clear HWA e0 e1 e2 e3 e4 HTW
      by_cases hx : 200 < xk.size
      · have d2 : decide ((200 : Int) < (xk.size : Int)) = true := by simp; omega
        go_wp2
        go_ret
        exact ⟨by rfl, HTA.out.dk.bel⟩
      · have d2 : decide ((200 : Int) < (xk.size : Int)) = false := by simp; omega
        go_upto_block 2 with fail
        go_cut [9] from 47 to 147 (fun i wz => i = .int .i64 (k : Int) ∧ ∃ (d' : Dk) (F' : List Nat) (cut' : Int), TwoD w wz db mb d' F' cut')
        case first =>
          have HCE : Hid (∀ z : World, z.heap[wr.heap.size]? = WA.heap[wr.heap.size]? → z.cell? ⟨wr.heap.size, 1, none⟩ = some (.string xk) ∧ z.cell? ⟨wr.heap.size, 2, none⟩ = some (.int .i64 tk) ∧ z.cell? ⟨wr.heap.size, 3, none⟩ = some (.int .u64 (uk : Int)) ∧ z.cell? ⟨wr.heap.size, 4, none⟩ = some (.int .i64 mk)) := fun z hz =>
            ⟨(World.cell?_of_block (a := ⟨wr.heap.size, 1, none⟩) hz).trans a1, (World.cell?_of_block (a := ⟨wr.heap.size, 2, none⟩) hz).trans a2, (World.cell?_of_block (a := ⟨wr.heap.size, 3, none⟩) hz).trans a3, (World.cell?_of_block (a := ⟨wr.heap.size, 4, none⟩) hz).trans a4⟩
          have HDR : Hid (TwoD w WA.drew db mb d F cut) := HTA.out.below ⟨rfl, rfl, rfl, Nat.le_refl _, fun _ _ => rfl⟩
          by_cases hadd : kk.toList = [97, 112, 112, 101, 110, 100]
          · have HA1 := (show Hid _ from ap_first w WA.drew HE.out hB db mb wr.heap.size d F cut HDR.out xk (by omega) tk uk hu0 ⟨HNF.out.1, HNF.out.2.2⟩)
            have HA2 : Hid (∀ w3 F' v, HalfD ea w WA.drew w3 db mb wr.heap.size d (appD d xk.data.toList tk uk) F' cut v (appC d xk.data.toList tk uk) (appA xk.data.toList tk) → Calls Tryz.prog 8 #[.pointer (some ⟨mb, 0, none⟩), .string xk, .agg #[.int .i64 tk, .int .u64 (uk : Int)]] w3 fun e w4 => e = .returned (.agg #[.int .i64 (appC d xk.data.toList tk uk), .int .i64 (appA xk.data.toList tk)]) ∧ ∃ cut', BothD ea w WA.drew w4 db mb wr.heap.size (appD d xk.data.toList tk uk) F' cut' v (appC d xk.data.toList tk uk) (appA xk.data.toList tk)) :=
              fun w3 F' v h3 => ap_second w WA.drew w3 db mb wr.heap.size d F F' cut v HDR.out xk (by omega) tk uk hu0 ⟨HNF.out.2.1, HNF.out.2.2⟩ h3
            have HA3 : Hid (∀ w4 F' cut' v, BothD ea w WA.drew w4 db mb wr.heap.size (appD d xk.data.toList tk uk) F' cut' v (appC d xk.data.toList tk uk) (appA xk.data.toList tk) → Calls Tryz.prog 6 #[v, .agg #[.int .i64 (appC d xk.data.toList tk uk), .int .i64 (appA xk.data.toList tk)]] w4 fun e w5 => e = .returned (.bool true) ∧ TwoD w w5 db mb (appD d xk.data.toList tk uk) F' cut' ∧ w5.heap[wr.heap.size]? = WA.heap[wr.heap.size]?) :=
              fun w4 F' cut' v h4 => ap_third w WA.drew w4 HE1.out hB db mb wr.heap.size _ F' cut' v _ _ HNF.out.2.2 h4
            obtain ⟨D2, hD2⟩ : ∃ D2, D2 = appD d xk.data.toList tk uk := ⟨_, rfl⟩
            obtain ⟨AC, hAC⟩ : ∃ AC, AC = appC d xk.data.toList tk uk := ⟨_, rfl⟩
            obtain ⟨AA, hAA⟩ : ∃ AA, AA = appA xk.data.toList tk := ⟨_, rfl⟩
            rw [← hD2, ← hAC, ← hAA] at HA1 HA2 HA3
            have hka : (kk.toList == [97, 112, 112, 101, 110, 100]) = true := by rw [hadd]; rfl
            clear hD2 hAC hAA hadd
            go_wp2_with fail
            go_region_held3 (fun w' => w'.cell? ⟨wr.heap.size, 1, none⟩ = some (.string xk) ∧ w'.cell? ⟨wr.heap.size, 2, none⟩ = some (.int .i64 tk) ∧ w'.cell? ⟨wr.heap.size, 3, none⟩ = some (.int .u64 (uk : Int))) (go_keep) (first
              | (go_at_call 7; refine Calls.mono HA1.out ?_; rintro e w3 ⟨v, F', rfl, h3⟩; have H3 := (show Hid (HalfD ea w WA.drew w3 db mb wr.heap.size d D2 F' cut v AC AA) from h3); obtain ⟨q1, q2, q3, _⟩ := HCE.out w3 h3.blk; clear h3)
              | (go_at_call 8; refine Calls.mono (HA2.out _ _ _ H3.out) ?_; rintro e w4 ⟨rfl, cut', h4⟩; have H4 := (show Hid (BothD ea w WA.drew w4 db mb wr.heap.size D2 F' cut' v AC AA) from h4); obtain ⟨r1, r2, r3, _⟩ := HCE.out w4 h4.blk; clear h4)
              | (go_at_call 6; refine Calls.mono (HA3.out _ _ _ _ H4.out) ?_; rintro e w5 ⟨rfl, h5, z5⟩; have H5 := (show Hid (TwoD w w5 db mb D2 F' cut') from h5); obtain ⟨t1, t2, t3, _⟩ := HCE.out w5 z5; clear h5 z5))
            all_goals (go_wp2_with fail; go_meet; exact ⟨rfl, D2, F', cut', H5.out⟩)
          · have hka : (kk.toList == [97, 112, 112, 101, 110, 100]) = false := by simpa using hadd
            clear hadd
            by_cases hcu : kk.toList = [99, 117, 116]
            · have hkc : (kk.toList == [99, 117, 116]) = true := by rw [hcu]; rfl
              clear hcu
              have HA1 := (show Hid _ from ct_first w WA.drew HE.out hB db mb wr.heap.size d F cut HDR.out mk hm1 ⟨HNF.out.1, HNF.out.2.2⟩)
              have HA2 : Hid (∀ w3 v, HalfD ea w WA.drew w3 db mb wr.heap.size d (cutD d mk) F cut v (cutC d mk) (-1) → Calls Tryz.prog 11 #[.pointer (some ⟨mb, 0, none⟩), .int .i64 mk] w3 fun e w4 => e = .returned (.int .i64 (cutC d mk)) ∧ ∃ cut', BothD ea w WA.drew w4 db mb wr.heap.size (cutD d mk) F cut' v (cutC d mk) (-1)) :=
                fun w3 v h3 => ct_second w WA.drew w3 db mb wr.heap.size d F cut v HDR.out mk ⟨HNF.out.2.1, HNF.out.2.2⟩ h3
              have HA3 : Hid (∀ w4 cut' v, BothD ea w WA.drew w4 db mb wr.heap.size (cutD d mk) F cut' v (cutC d mk) (-1) → Calls Tryz.prog 9 #[v, .int .i64 (cutC d mk)] w4 fun e w5 => e = .returned (.bool true) ∧ TwoD w w5 db mb (cutD d mk) F cut' ∧ w5.heap[wr.heap.size]? = WA.heap[wr.heap.size]?) :=
                fun w4 cut' v h4 => ct_third w WA.drew w4 HE1.out hB db mb wr.heap.size _ F cut' v _ (cutC_nonneg d mk) HNF.out.2.2 h4
              obtain ⟨D2, hD2⟩ : ∃ D2, D2 = cutD d mk := ⟨_, rfl⟩
              obtain ⟨AC, hAC⟩ : ∃ AC, AC = cutC d mk := ⟨_, rfl⟩
              rw [← hD2, ← hAC] at HA1 HA2 HA3
              clear hD2 hAC
              go_wp2_with fail
              go_region_held3 (fun w' => w'.cell? ⟨wr.heap.size, 4, none⟩ = some (.int .i64 mk)) (go_keep) (first
                | (go_at_call 10; refine Calls.mono HA1.out ?_; rintro e w3 ⟨v, rfl, h3⟩; have H3 := (show Hid (HalfD ea w WA.drew w3 db mb wr.heap.size d D2 F cut v AC (-1)) from h3); obtain ⟨_, _, _, q4⟩ := HCE.out w3 h3.blk; clear h3)
                | (go_at_call 11; refine Calls.mono (HA2.out _ _ H3.out) ?_; rintro e w4 ⟨rfl, cut', h4⟩; have H4 := (show Hid (BothD ea w WA.drew w4 db mb wr.heap.size D2 F cut' v AC (-1)) from h4); obtain ⟨_, _, _, r4⟩ := HCE.out w4 h4.blk; clear h4)
                | (go_at_call 9; refine Calls.mono (HA3.out _ _ _ H4.out) ?_; rintro e w5 ⟨rfl, h5, z5⟩; have H5 := (show Hid (TwoD w w5 db mb D2 F cut') from h5); obtain ⟨_, _, _, t4⟩ := HCE.out w5 z5; clear h5 z5))
              all_goals (go_wp2_with fail; go_meet; exact ⟨rfl, D2, F, cut', H5.out⟩)
            · have hkc : (kk.toList == [99, 117, 116]) = false := by simpa using hcu
              clear hcu
              clear HCE a1 a2 a3 a4
              have hmd := HTA.out.md
              by_cases hon : kk.toList = [111, 110]
              · have hko : (kk.toList == [111, 110]) = true := by rw [hon]; rfl
                have HO := (show Hid _ from dk_on w WA db d F HTA.out.dk)
                clear hon HDR hmd
                go_wp2_with fail
                refine Calls.mono HO.out ?_
                rintro e w3 ⟨rfl, h3, k3⟩
                have hm3 : w3.heap[mb]? = some (.cells #[.string (txt d.L), .bool d.off, .int .i64 cut] 31 (0, 0)) := (k3.block mb (blk_lt HTA.out.md) HTA.out.nin).trans HTA.out.md
                have y1 : w3.cell? ⟨mb, 1, none⟩ = some (.bool d.off) := cells_of hm3 1
                have y2 : w3.cell? ⟨mb, 2, none⟩ = some (.int .i64 cut) := cells_of hm3 2
                have f1 : w3.frozen? ⟨mb, 1, none⟩ = false := by simp [World.frozen?, hm3]
                have f2 : w3.frozen? ⟨mb, 2, none⟩ = false := by simp [World.frozen?, hm3]
                have HT3 : Hid (TwoD w ((w3.setCell ⟨mb, 1, none⟩ (.bool false)).setCell ⟨mb, 2, none⟩ (.int .i64 (-1))) db mb ⟨d.L, false, false, 0⟩ F (-1)) := by
                  have hm : MDAt w3 mb d.L d.off cut := hm3
                  exact TwoD.mdSet h3 HTA.out.nin HTA.out.low HTA.out.len rfl (((Kept.refl _ _).setCell (.inl (by simp)) _).setCell (.inl (by simp)) _) ((hm.setOff false).setCut (-1)) (fun _ => rfl)
                obtain ⟨oo, hoo⟩ : ∃ oo, oo = d.off := ⟨_, rfl⟩
                rw [← hoo] at y1
                clear h3 k3 hm3 HO hoo
                dsimp only
                go_wp2_with fail
                go_meet
                exact ⟨rfl, _, _, _, HT3.out⟩
              · have hko : (kk.toList == [111, 110]) = false := by simpa using hon
                clear hon
                by_cases hcl : kk.toList = [99, 108, 101, 97, 114]
                · have hkl : (kk.toList == [99, 108, 101, 97, 114]) = true := by rw [hcl]; rfl
                  clear hcl HDR
                  by_cases ho : d.off = true
                  · have HO := (show Hid _ from dk_clear_off w WA (HE.out.below HTA.out.dk.bel hB) db d F HTA.out.dk ho)
                    have y1 : WA.cell? ⟨mb, 1, none⟩ = some (.bool true) := by rw [← ho]; exact cells_of hmd 1
                    have HCO := (show Hid _ from coded2_v WA (HE1.out.below HTA.out.dk.bel hB) (Nat.le_trans hB HTA.out.dk.bel.size) (.iface 186 (.pointer (some (ea 9)))) 10 (.inr (.inl ⟨9, by omega, rfl, by omega, rfl⟩)) (by omega))
                    clear ho hmd
                    go_wp2_with fail
                    refine Calls.mono HO.out ?_
                    rintro e w3 ⟨rfl, hw3⟩
                    have hw3' := hw3.symm
                    subst hw3'
                    clear HO
                    dsimp only
                    go_wp2_with fail
                    refine Calls.mono HCO.out ?_
                    rintro e w4 ⟨rfl, hb4⟩
                    have HT4 := (show Hid _ from HTA.out.below hb4)
                    clear hb4 HCO
                    dsimp only
                    go_wp2_with fail
                    go_meet
                    exact ⟨rfl, _, _, _, HT4.out⟩
                  · have hof : d.off = false := by simpa using ho
                    have HO := (show Hid _ from dk_clear w WA db d F HTA.out.dk hof)
                    have HOF : Hid (d.off = false) := hof
                    clear ho hof hmd
                    go_wp2_with fail
                    refine Calls.mono HO.out ?_
                    rintro e w3 ⟨rfl, h3, k3⟩
                    have hm3 : w3.heap[mb]? = some (.cells #[.string (txt d.L), .bool false, .int .i64 cut] 31 (0, 0)) := by
                      have := HTA.out.md
                      unfold MDAt at this
                      rw [HOF.out] at this
                      exact (k3.block mb (blk_lt HTA.out.md) HTA.out.nin).trans this
                    have y0 : w3.cell? ⟨mb, 0, none⟩ = some (.string (txt d.L)) := cells_of hm3 0
                    have y1 : w3.cell? ⟨mb, 1, none⟩ = some (.bool false) := cells_of hm3 1
                    have f0 : w3.frozen? ⟨mb, 0, none⟩ = false := by simp [World.frozen?, hm3]
                    have HT3 : Hid (TwoD w (w3.setCell ⟨mb, 0, none⟩ (.string ⟨#[]⟩)) db mb ⟨[], false, d.waits, d.left⟩ F cut) := by
                      have hm : MDAt w3 mb d.L false cut := hm3
                      exact TwoD.mdSet h3 HTA.out.nin HTA.out.low (Nat.zero_le _) rfl ((Kept.refl _ _).setCell (.inl (by simp)) _) (hm.setB []) (fun _ => HTA.out.rel HOF.out)
                    obtain ⟨lt, hlt⟩ : ∃ lt, lt = txt d.L := ⟨_, rfl⟩
                    rw [← hlt] at y0
                    clear h3 k3 hm3 HO hlt
                    dsimp only
                    go_wp2_with fail
                    go_meet
                    exact ⟨rfl, _, _, _, HT3.out⟩
                · have hkl : (kk.toList == [99, 108, 101, 97, 114]) = false := by simpa using hcl
                  have HO := (show Hid _ from dk_recover w HE.out hB WA db d F HTA.out.dk (Nat.le_trans HTA.out.len (by decide)))
                  clear hcl HDR hmd
                  go_wp2_with fail
                  refine Calls.mono HO.out ?_
                  rintro e w3 ⟨L, xv, hR, rfl, h3, k3, hxo⟩
                  have hm3 : MDAt w3 mb d.L d.off cut := (k3.block mb (blk_lt HTA.out.md) HTA.out.nin).trans HTA.out.md
                  have HMR := (show Hid _ from md_recover w3 mb d.L d.off cut hm3 (Nat.le_trans HTA.out.len (by decide)))
                  obtain ⟨ax, cx, rfl, hcx, hex⟩ := own_ents hxo
                  have H3 := (show Hid _ from h3)
                  have HR := (show Hid _ from hR)
                  have HXO : Hid (w3.ownsRow WA.heap.size 59 3 (.slice ax L.length cx) L.length (entCells L)) := hxo
                  clear h3 k3 hR hxo hex hcx HO hm3
                  dsimp only
                  go_wp2_with fail
                  refine Calls.mono HMR.out ?_
                  rintro e w4 ⟨L2, yv, hR2, rfl, hm4, k4, hyo⟩
                  obtain rfl : L2 = L := reads_unique lab_is _ _ _ hR2 HR.out
                  obtain ⟨ay, cy, rfl, hcy, hey⟩ := own_ents hyo
                  have hmlt : mb < WA.heap.size := blk_lt HTA.out.md
                  obtain ⟨ax', cx', hxv, _, hex⟩ := own_ents (own_same HXO.out fun g hg => k4.block g (own_blk HXO.out hg).2.1 (by
                    have := (own_blk HXO.out hg).1
                    simp
                    omega))
                  obtain ⟨rfl, _, _⟩ := Value.slice.inj hxv
                  have hl2 : (recs L2).length ≤ 65536 := Nat.le_trans HR.out.pre.length_le HTA.out.len
                  have hl5 : L2.length ≤ 100000 := by
                    have h1 := recs_len L2
                    omega
                  have HSE : Hid (∀ ca cb, Calls Tryz.prog 16 #[.slice ax L2.length ca, .slice ay L2.length cb] w4 fun e w' => e = .returned (.bool true) ∧ ∃ q, w' = w4.drewN q) := fun ca cb => same_entries w4 ax ay ca cb L2 hex hey hl5
                  have HT4 : Hid (TwoD w w4 db mb ⟨recs L2, false, false, 0⟩ F (-1)) := TwoD.mdSet H3.out HTA.out.nin HTA.out.low hl2 rfl k4 hm4 (fun _ => rfl)
                  obtain ⟨ll, hll⟩ : ∃ ll, ll = L2.length := ⟨_, rfl⟩
                  rw [← hll] at HSE ⊢
                  clear hR2 hyo hm4 k4 hey hex HMR hcy hxv hll hl5 hl2 hmlt
                  dsimp only
                  go_wp2_with fail
                  refine Calls.mono (HSE.out _ _) ?_
                  rintro e w5 ⟨rfl, q5, hw5⟩
                  have HT5 : Hid (TwoD w w5 db mb ⟨recs L2, false, false, 0⟩ F (-1)) := by
                    rw [hw5]
                    exact HT4.out.below (below_draws (Below.refl _ _) _)
                  clear hw5 HSE
                  dsimp only
                  go_wp2_with fail
                  go_meet
                  exact ⟨rfl, _, _, _, HT5.out⟩
        case rest =>
          obtain ⟨rfl, d', F', cut', htw⟩ := hcut
          have HT2 := (show Hid _ from htw)
          have HBY : Hid (∀ q, Calls Tryz.prog 17 #[.pointer (some ⟨db, 0, none⟩)] (wc.drewN q) fun e w' => e = .returned (.string (txt d'.L)) ∧ w' = wc.drewN q) := fun q => dk_bytes w _ db d' F' (htw.below (below_draws (Below.refl _ _) q)).dk
          have HPW : Hid (∀ q, Calls Tryz.prog 18 #[.pointer (some ⟨db, 0, none⟩)] (wc.drewN q) fun e w' => e = .returned (.bool (!d'.off)) ∧ w' = wc.drewN q) := fun q => dk_power w _ db d' F' (htw.below (below_draws (Below.refl _ _) q)).dk
          have m0 : ∀ q, (wc.drewN q).cell? ⟨mb, 0, none⟩ = some (.string (txt d'.L)) := fun q => cells_of (htw.below (below_draws (Below.refl _ _) q)).md 0
          have m1 : ∀ q, (wc.drewN q).cell? ⟨mb, 1, none⟩ = some (.bool d'.off) := fun q => cells_of (htw.below (below_draws (Below.refl _ _) q)).md 1
          obtain ⟨o, ho⟩ : ∃ o, o = d'.off := ⟨_, rfl⟩
          obtain ⟨lt, hlt⟩ : ∃ lt, lt = txt d'.L := ⟨_, rfl⟩
          rw [← hlt] at HBY m0
          rw [← ho] at HPW m1
          clear htw HTA a0 a1 a2 a3 a4 ho hlt
          apply_assumption
          cases o
          all_goals (
            go_wp2_with fail
            go_quiet (first | (go_at_call 17; refine Calls.quiet_of_same (HBY.out _)) | (go_at_call 18; refine Calls.quiet_of_same (HPW.out _)))
            go_wp2
            go_roundw
            case rel => exact ⟨k + 1, d', F', cut', by omega, by go_num, HT2.out.below (below_draws (Below.refl _ _) _)⟩
            case measure => simp [intOf] <;> omega)
    · have hge : (n : Int) ≤ (k : Int) := by omega
      have HRD := (show Hid _ from read_any wr (HE.out.below HTW.out.dk.bel hB) (Nat.le_trans hB HTW.out.dk.bel.size) (txt d.L) (by rw [txt_size]; have := HTW.out.len; omega))
      have m0 : wr.cell? ⟨mb, 0, none⟩ = some (.string (txt d.L)) := cells_of HTW.out.md 0
      obtain ⟨lt, hlt⟩ : ∃ lt, lt = txt d.L := ⟨_, rfl⟩
      rw [← hlt] at HRD m0
      have HLT := (show Hid _ from hlt)
      have HLS : Hid (lt.size ≤ 100000) := by show _ ≤ _; rw [hlt, txt_size]; have := HTW.out.len; omega
      have HMB : Hid (mb < wr.heap.size) := blk_lt HTW.out.md
      clear hlt hkn
      go_wp2_with fail
      refine Calls.mono HRD.out ?_
      rintro e w3 ⟨⟨L, xv, hR, rfl, hxo⟩, hb3⟩
      obtain ⟨ax, cx, rfl, hcx, hex⟩ := own_ents hxo
      have m3 : w3.cell? ⟨mb, 0, none⟩ = some (.string lt) := (hb3.cell (p := ⟨mb, 0, none⟩) HMB.out).trans m0
      have HRL := (show Hid _ from readLog_any lt HLS.out w3)
      have HXO : Hid (w3.ownsRow wr.heap.size 59 3 (.slice ax L.length cx) L.length (entCells L)) := hxo
      have HR := (show Hid _ from hR)
      have HB3 : Hid (Below w.heap.size w w3) := HTW.out.dk.bel.trans (hb3.mono HTW.out.dk.bel.size)
      obtain ⟨rn, hrn⟩ : ∃ rn : Int, rn = ((recs L).length : Int) := ⟨_, rfl⟩
      rw [← hrn]
      have HRN := (show Hid _ from hrn)
      clear hrn hR hxo hb3 hex m0 HRD hcx
      dsimp only
      go_wp2_with fail
      refine Calls.mono HRL.out ?_
      rintro e w4 ⟨⟨L2, yv, hR2, rfl, hyo⟩, hb4⟩
      obtain rfl : L2 = L := reads_unique lab_is _ _ _ hR2 HR.out
      rw [← HRN.out]
      obtain ⟨ay, cy, rfl, hcy, hey⟩ := own_ents hyo
      obtain ⟨ax', cx', hxv, _, hex⟩ := own_ents (own_same HXO.out fun g hg => hb4.block g (own_blk HXO.out hg).2.1)
      obtain ⟨rfl, _, _⟩ := Value.slice.inj hxv
      have hl5 : L2.length ≤ 100000 := by
        have h1 := recs_len L2
        have h2 := HR.out.pre.length_le
        have h3 : lt.data.toList.length = lt.size := Array.length_toList
        have := HLS.out
        omega
      have HSE : Hid (∀ ca cb, Calls Tryz.prog 16 #[.slice ax L2.length ca, .slice ay L2.length cb] w4 fun e w' => e = .returned (.bool true) ∧ ∃ q, w' = w4.drewN q) := fun ca cb => same_entries w4 ax ay ca cb L2 hex hey hl5
      have HB4 : Hid (Below w.heap.size w w4) := HB3.out.trans (hb4.mono HB3.out.size)
      obtain ⟨ll, hll⟩ : ∃ ll, ll = L2.length := ⟨_, rfl⟩
      rw [← hll] at HSE ⊢
      clear hR2 hyo hb4 hey hex HRL hcy hxv hll m3 hl5
      dsimp only
      go_wp2_with fail
      refine Calls.mono (HSE.out _ _) ?_
      rintro e w5 ⟨rfl, q5, hw5⟩
      have HB5 : Hid (Below w.heap.size w w5) := by
        rw [hw5]
        exact below_draws HB4.out _
      clear hw5 HSE
      dsimp only
      go_wp2
      go_ret
      exact ⟨by rfl, HB5.out⟩
end Go.Proofs.YtplfnblpmagbjabGreatDoor
