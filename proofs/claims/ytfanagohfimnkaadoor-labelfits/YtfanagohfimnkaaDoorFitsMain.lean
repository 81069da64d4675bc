/- The statement LabelFits, walked. -/
import Derived.Test.YtfanagohfimnkaaDoorFitsMany
import Derived.Test.YtfanagohfimnkaaDoorLabFits3
import Derived.Test.YtfanagohfimnkaaDoorLongLab
import Derived.Test.YtfanagohfimnkaaDoorLabelled
import Derived.Deep.RegionHeld3
import Derived.Deep.CutRange
import Derived.Deep.DeepCutAuto
import Derived.Deep.QuietTactic
import Derived.BigQuiet
namespace Go.Proofs.YtfanagohfimnkaaDoor
open Go.RowKit LabMath SortMath

set_option maxRecDepth 1000000 in
set_option maxHeartbeats 8000000 in
theorem fits_main {Bd : Nat} {ea : Nat → Addr} (w : World) (E : Env Bd ea w) (hBd : Bd ≤ w.heap.size) (la : Option Addr) (n c : Nat) (N V : Nat → ByteArray) (hP : Labs w la n N V) (hnI : (n : Int) ≤ 9223372036854775807)
    (lm : Option Addr) (m cm : Nat) (K : Nat → Nat) (X Y : Nat → ByteArray) (hM : Mats w lm m K X Y) (hmI : (m : Int) ≤ 9223372036854775807) (ll : Option Addr) (q cq : Nat) (A : Nat → Option Addr) (L C : Nat → Nat) (NN VV : Nat → Nat → ByteArray) (hQ : Lists w ll q A L C NN VV) (hqI : (q : Int) ≤ 9223372036854775807) :
    Calls Tryd.prog 3 #[.slice la n c, .slice lm m cm, .slice ll q cq] w fun e w' => e = .returned (.bool true) ∧ Below w.heap.size w w' := by
  have HCH := (show Hid _ from labelled_any w E hBd)
  have HE := (show Hid _ from E)
  have HP : Hid (Labs w la n N V) := hP
  have HM : Hid (Mats w lm m K X Y) := hM
  have HQ : Hid (Lists w ll q A L C NN VV) := hQ
  clear E hP hM hQ
  go_enter Tryd.func3, Tryd.ntmps3
  go_wp2_with fail
  refine Calls.mono HCH.out ?_
  rintro e w1 ⟨rfl, hb1⟩
  have HB1 : Hid (Below w.heap.size w w1) := hb1
  have HLL := (show Hid _ from long_labels w1 la n c N V (HP.out.below hb1) hnI)
  clear hb1 HCH
  go_wp2_with fail
  refine Calls.mono HLL.out ?_
  rintro e w1' ⟨hw1', hlo⟩
  subst hw1'
  rcases hlo with rfl | ⟨rfl, hn20, hsz⟩
  · go_wp2
    go_ret
    exact ⟨rfl, HB1.out⟩
  have HSZ := (show Hid _ from hsz)
  clear hsz HLL
  by_cases h20 : 20 < m
  · have d2 : decide ((20 : Int) < (m : Int)) = true := by simp; omega
    go_wp2
    go_ret
    exact ⟨rfl, HB1.out⟩
  have d2 : decide ((20 : Int) < (m : Int)) = false := by simp; omega
  by_cases h70 : 70 < q
  · have d3 : decide ((70 : Int) < (q : Int)) = true := by simp; omega
    go_wp2
    go_ret
    exact ⟨rfl, HB1.out⟩
  have d3 : decide ((70 : Int) < (q : Int)) = false := by simp; omega
  go_wp2_with fail
  go_loopw [8] (fun i wr => ∃ k : Nat, k ≤ m ∧ i = .int .i64 k ∧ wr = w1' ∧ ∀ j, j < k → (X j).size ≤ 60 ∧ (Y j).size ≤ 60) (fun i _ => m - (intOf i).toNat)
  case atStart => exact ⟨0, Nat.zero_le _, rfl, rfl, fun j hj => absurd hj (by omega)⟩
  case round =>
    obtain ⟨k, hk, rfl, rfl, hxy⟩ := hrel
    have HXY := (show Hid _ from hxy)
    clear hxy
    by_cases hkm : k < m
    · obtain ⟨lb, lo, rfl, hcs⟩ := (HM.out.below HB1.out).at k hkm
      obtain ⟨c0, c1, c2, _⟩ := hcs k hkm
      clear hcs
      have hk0 : (0 : Int) ≤ (k : Int) := by omega
      have hk1 : (k : Int) < (m : Int) := by omega
      by_cases hx : 60 < (X k).size
      · have e1 : decide ((60 : Int) < ((X k).size : Int)) = true := by simp; omega
        go_wp2
        go_ret
        exact ⟨rfl, HB1.out⟩
      · have e1 : decide ((60 : Int) < ((X k).size : Int)) = false := by simp; omega
        by_cases hy : 60 < (Y k).size
        · have e2 : decide ((60 : Int) < ((Y k).size : Int)) = true := by simp; omega
          go_wp2
          go_ret
          exact ⟨rfl, HB1.out⟩
        · have e2 : decide ((60 : Int) < ((Y k).size : Int)) = false := by simp; omega
          go_wp2
          go_roundw
          case rel => exact ⟨k + 1, by omega, by go_num, by first | rfl | trivial, fun j hj => if h : j < k then HXY.out j h else (by have e := (show j = k by omega); rw [e]; exact ⟨by omega, by omega⟩)⟩
          case measure => simp [intOf] <;> omega
    · obtain rfl : k = m := by omega
      have HF := (show Hid _ from lFits_any wr (HE.out.below HB1.out hBd) (Nat.le_trans hBd HB1.out.size) la lm n c k cm N V K X Y (HP.out.below HB1.out) (HM.out.below HB1.out) (fun i hi => by have := HSZ.out i hi; omega) (fun i hi => by have := HXY.out i hi; omega) hnI hmI)
      go_wp2_with fail
      refine Calls.mono HF.out ?_
      rintro e w2 ⟨hb2, b, v, rfl, hout⟩
      have HB2 := (show Hid _ from HB1.out.trans (hb2.mono HB1.out.size))
      have HLF := (show Hid _ from lfault_f w2 la n c N V (HP.out.below HB2.out) (fun i hi => by have := HSZ.out i hi; omega) hnI)
      have HOUT := (show Hid _ from hout)
      clear hb2 hout HF
      go_wp2_with fail
      refine Calls.mono HLF.out ?_
      rintro e w3 ⟨rfl, hb3⟩
      have HB3 := (show Hid _ from HB2.out.trans (hb3.mono HB2.out.size))
      have HB23 := (show Hid _ from hb3)
      have hw3 : w.heap.size ≤ w3.heap.size := HB3.out.size
      clear hb3
      obtain ⟨F0, hF0⟩ : ∃ F0, F0 = (if 0 < fC N V n then fC N V n else mC K X k) := ⟨_, rfl⟩
      obtain ⟨F1, hF1⟩ : ∃ F1, F1 = (if 0 < fC N V n then fA N V n else mA K X k) := ⟨_, rfl⟩
      have HF0 := (show Hid _ from hF0)
      have HF1 := (show Hid _ from hF1)
      have hfc := (fC_cases N V n).1
      have hmc := (mC_cases K X k).1
      clear hF0 hF1
      go_upto_if 73 with fail
      go_cut [] (fun wx => Below w2.heap.size w2 wx ∧ wx.heap[w3.heap.size]? = some (.cells #[.int .i64 F0, .int .i64 F1] 36 (0, 0)))
      case first =>
        by_cases h0 : 0 < fC N V n
        · have hne : fC N V n ≠ 0 := by omega
          have HE0 : Hid (F0 = fC N V n ∧ F1 = fA N V n) := by rw [HF0.out, HF1.out, if_pos h0, if_pos h0]; exact ⟨rfl, rfl⟩
          go_wp2_with fail
          go_meet
          case rel => exact ⟨HB23.out.alloc HB23.out.size _, by rw [HE0.out.1, HE0.out.2]; exact heap_alloc_new _ _⟩
        · have hz : fC N V n = 0 := by omega
          have HE0 : Hid (F0 = mC K X k ∧ F1 = mA K X k) := by rw [HF0.out, HF1.out, if_neg h0, if_neg h0]; exact ⟨rfl, rfl⟩
          have hbB : Below w.heap.size w (w3.alloc (.cells #[.int .i64 (fC N V n), .int .i64 (fA N V n)] 36)) := HB3.out.alloc hw3 _
          have HMF := (show Hid _ from mfault_f _ lm k cm K X Y (HM.out.below hbB) (fun i hi => by have := HXY.out i hi; omega) hmI)
          have hn3 : (w3.alloc (.cells #[.int .i64 (fC N V n), .int .i64 (fA N V n)] 36)).heap[w3.heap.size]? = some (.cells #[.int .i64 (fC N V n), .int .i64 (fA N V n)] 36 (0, 0)) := heap_alloc_new _ _
          have HN3 := (show Hid _ from hn3)
          rw [hz] at HMF HN3
          have HBB : Hid (Below w2.heap.size w2 (w3.alloc (.cells #[.int .i64 0, .int .i64 (fA N V n)] 36))) := HB23.out.alloc HB23.out.size _
          clear hbB hn3
          go_wp2_with fail
          refine Calls.mono HMF.out ?_
          rintro e w4 ⟨rfl, hb4⟩
          have hn4 := (hb4.block _ (blk_lt HN3.out)).trans HN3.out
          have HB4 := (show Hid _ from HBB.out.trans (hb4.mono HBB.out.size))
          have c0 : w4.cell? ⟨w3.heap.size, 0, none⟩ = some (.int .i64 0) := by simp [World.cell?, hn4]
          have c1 : w4.cell? ⟨w3.heap.size, 1, none⟩ = some (.int .i64 (fA N V n)) := by simp [World.cell?, hn4]
          have f0 : w4.frozen? ⟨w3.heap.size, 0, none⟩ = false := by simp [World.frozen?, hn4]
          have f1 : w4.frozen? ⟨w3.heap.size, 1, none⟩ = false := by simp [World.frozen?, hn4]
          have HN4 := (show Hid _ from hn4)
          clear hn4 hb4
          go_wp2_with fail
          go_meet
          case rel => exact ⟨(HB4.out.setCell (by exact HB23.out.size) _).setCell (by exact HB23.out.size) _, (block_set (block_set HN4.out 0 _) 1 _).trans (by rw [HE0.out.1, HE0.out.2]; simp)⟩
      case rest =>
        obtain ⟨hbc, hnc⟩ := hcut
        have c0 : wc.cell? ⟨w3.heap.size, 0, none⟩ = some (.int .i64 F0) := by simp [World.cell?, hnc]
        have c1 : wc.cell? ⟨w3.heap.size, 1, none⟩ = some (.int .i64 F1) := by simp [World.cell?, hnc]
        have HBC : Hid (Below w.heap.size w wc) := HB2.out.trans (hbc.mono HB2.out.size)
        have HB2C := (show Hid _ from hbc)
        clear hbc hnc
        obtain ⟨G, hG⟩ : ∃ G, decide ((0 : Int) < F0) = G := ⟨_, rfl⟩
        go_upto_if 78 with fail
        have HG := (show Hid _ from hG)
        clear hG
        go_cut [] (fun wx => Below w.heap.size w wx)
        case first =>
          have HEC := (show Hid _ from HE.out.below HBC.out hBd)
          rcases HOUT.out with ⟨h0, rfl, hfv⟩ | ⟨h0, h1, rfl, hfv⟩ | ⟨h0, h1, rfl, rfl⟩
          · have hF : F0 = fC N V n := by rw [HF0.out, if_pos h0]
            have hF' : F1 = fA N V n := by rw [HF1.out, if_pos h0]
            have HFA := (show Hid _ from faulted_v wc HEC.out (Nat.le_trans hBd HBC.out.size) v F0 F1 (by rw [hF, hF']; exact hfv.below HB2C.out))
            have d5 : G = true := by rw [← HG.out, hF]; simpa using h0
            subst d5
            clear hF hF' hfv
            go_wp2_with fail
            refine Calls.mono HFA.out ?_
            rintro e w5 ⟨rfl, hb5⟩
            have HB5 := (show Hid _ from HBC.out.trans (hb5.mono HBC.out.size))
            clear hb5
            go_wp2_with fail
            go_meet
            case rel => exact HB5.out
          · have hF : F0 = mC K X k := by rw [HF0.out, if_neg (by omega)]
            have hF' : F1 = mA K X k := by rw [HF1.out, if_neg (by omega)]
            have HFA := (show Hid _ from faulted_v wc HEC.out (Nat.le_trans hBd HBC.out.size) v F0 F1 (by rw [hF, hF']; exact hfv.below HB2C.out))
            have d5 : G = true := by rw [← HG.out, hF]; simpa using h1
            subst d5
            clear hF hF' hfv
            go_wp2_with fail
            refine Calls.mono HFA.out ?_
            rintro e w5 ⟨rfl, hb5⟩
            have HB5 := (show Hid _ from HBC.out.trans (hb5.mono HBC.out.size))
            clear hb5
            go_wp2_with fail
            go_meet
            case rel => exact HB5.out
          · have hF : F0 = 0 := by rw [HF0.out, if_neg (by omega)]; exact h1
            have d5 : G = false := by rw [← HG.out, hF]; rfl
            subst d5
            have HFO := (show Hid _ from fits_of wc la lm n c k cm N V K X Y (HP.out.below HBC.out) (HM.out.below HBC.out) (by omega) (by omega))
            clear hF
            go_wp2_with fail
            refine Calls.mono HFO.out ?_
            rintro e w5 ⟨rfl, qq, rfl⟩
            go_wp2_with fail
            go_meet
            case rel => exact below_draws HBC.out qq
        case rest =>
          have HBX : Hid (Below w.heap.size w wc) := hcut
          apply_assumption
          exact fits_t8 w _ HE.out hBd la lm ll n c k cm q cq A L C NN VV HQ.out HBX.out (by omega) _ _ _ _ _ _ _ _ _ _ _ _ _ _ _ _ _ _ _ _ _ _ _ _ _ _ _ _ _ _ _ _ _ _ _ _ _ _ _ _ _ _ _ _ _ _ _ _ _ _ _ _ _ _ _ _ _ _ _ _ _ _ _ _ _ _ _ _ _ _ _ _ _ _ _ _ _ _ _ _ _ _ _ _ _ _ _ _ _ _ _ _ _ _ _ _ _ _ _ _ _ _ _ _ _ _ _ _ _ _ _ _ _ _ _ _ _ _ _ _ _ _ _ _ _ _ _ _ _ _ _ _ _ _ _ _ _ _ _ _ _ _ _ _ _ _ _ _ _ _ _ _ _ _ _ _ _ _ _ _ _ _ _ _ _ _ _ _ _ _ _ _ _ _ _ _ _ _ _ _ _ _ _ _ _ _ _ _ _ _ _ _ _ _ _ _ _ _ _ _ _ _ _ _ _ _ _ _ _ _ _ _ _ _ _ _ _ _ _ _ _ _ _ _ _ _ _ _
end Go.Proofs.YtfanagohfimnkaaDoor
