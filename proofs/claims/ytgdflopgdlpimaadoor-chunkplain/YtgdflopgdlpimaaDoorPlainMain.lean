/- ChunkPlain by its walk: what is encoded is decoded; a byte that is turned is seen; what is cut off is none. -/
import Derived.Test.YtgdflopgdlpimaaDoorChunkedFact
import Derived.Test.YtgdflopgdlpimaaDoorTurnAt
import Derived.Test.YtgdflopgdlpimaaDoorPtsOwn
import Derived.Test.YtgdflopgdlpimaaDoorErrAsGroup
import Derived.Deep.DeepCutAuto
namespace Go.Proofs.YtgdflopgdlpimaaDoor
open Go.RowKit

set_option maxRecDepth 1000000 in
set_option maxHeartbeats 4000000 in
theorem plain_main {Bd : Nat} {ea : Nat → Addr} (w : World) (E : Env Bd ea w) (hBd : Bd ≤ w.heap.size) (hF : Forms w) (hT : Tab w) (la : Option Addr) (n c : Nat) (T : Nat → Int) (B : Nat → Nat) (hP : Pts w la n T B) (hnn : (n : Int) ≤ 9223372036854775807) (at_ cut : Int) (by_ : Nat) (hby : by_ < 256) :
    Calls Tryd.prog 10 #[.slice la n c, .int .i64 at_, .int .u8 (by_ : Int), .int .i64 cut] w fun e w' => e = .returned (.bool true) ∧ Below w.heap.size w w' := by
  have HCH := (show Hid _ from chunked_any w E.ern hBd hF hT)
  have HE := (show Hid _ from E)
  have HF : Hid (Forms w) := hF
  have HT : Hid (Tab w) := hT
  have HP : Hid (Pts w la n T B) := hP
  have hFl := hF.lt
  have hTl := hT.lt
  clear E hF hT hP
  by_cases hn : 120 < n
  · have hnI : (120 : Int) < (n : Int) := by omega
    have hd : decide ((120 : Int) < (n : Int)) = true := by simp; omega
    go_enter Tryd.func10, Tryd.ntmps10
    go_wp2_with fail
    refine Calls.mono HCH.out ?_
    rintro e w1 ⟨rfl, hb1⟩
    have HB1 := (show Hid _ from hb1)
    clear hb1
    go_wp2
    go_ret
    exact ⟨rfl, HB1.out⟩
  · have hd : decide ((120 : Int) < (n : Int)) = false := by simp; omega
    obtain ⟨m, hm, hok, hbad⟩ := first_bad (ptOk T) n
    have HOK := (show Hid _ from hok)
    have HBAD := (show Hid _ from hbad)
    have hn120 : n ≤ 120 := by omega
    clear hok hbad hn
    go_enter Tryd.func10, Tryd.ntmps10
    go_wp2_with fail
    refine Calls.mono HCH.out ?_
    rintro e w1 ⟨rfl, hb1⟩
    have HB1 := (show Hid _ from hb1)
    have HOW := (show Hid _ from own_points2 w1 la n c T B (HP.out.below hb1) (by omega))
    clear hb1 HCH
    go_wp2_with fail
    refine Calls.mono HOW.out ?_
    rintro e w2 ⟨oa, oc, rfl, hP2, hb2⟩
    have HB2 : Hid (Below w.heap.size w w2) := HB1.out.trans (hb2.mono HB1.out.size)
    have HEN := (show Hid _ from encode_any w2 (HE.out.below HB2.out hBd).ern (HF.out.below HB2.out hFl) (HT.out.below HB2.out hTl) oa n oc T B hP2 hn120 m hm HOK.out HBAD.out)
    clear hb2 hP2 HOW
    go_wp2_with fail
    refine Calls.mono HEN.out ?_
    rintro e w3 ⟨hb3, ⟨hmn, rfl⟩ | ⟨hmn, pb, rfl, _⟩⟩
    · have HB3 : Hid (Below w.heap.size w w3) := HB2.out.trans (hb3.mono HB2.out.size)
      have hTB := pts_bounds HP.out
      obtain ⟨z, hz⟩ : ∃ z : ByteArray, z = ⟨(chunkBytes T B n).toArray⟩ := ⟨_, rfl⟩
      have hzd : z.data.toList = chunkBytes T B n := by rw [hz]
      have hzl : z.size = (chunkBytes T B n).length := by rw [← hzd]; exact Array.length_toList.symm
      have hzz : z.size ≤ 10000 ∧ 5 ≤ z.size := by
        have h1 := length_rowBits T B n
        have h2 : (rowBits T B n).length ≥ 8 := by simp only [rowBits, List.length_append, BitMath.length_bitsOf]; omega
        have h3 : (chunkBytes T B n).length = (BitMath.pack (rowBits T B n)).length + 4 := by rw [chunkBytes, BitMath.sealOf, List.length_append, length_fourOf]
        rw [BitMath.length_pack] at h3
        omega
      rw [← hz]
      have hok : ∀ i, i < n → ptOk T i = true := fun i hi => HOK.out i (by omega)
      have hde := decode_any w3 (HE.out.below HB3.out hBd).ern (Nat.le_trans hBd HB3.out.size) (HF.out.below HB3.out hFl) (HT.out.below HB3.out hTl) z hzz.1
      rw [hzd] at hde
      have HDE := (show Hid _ from hde)
      have HZD := (show Hid _ from hzd)
      have HZL := (show Hid _ from hzl)
      have HOKN := (show Hid _ from hok)
      have HTB := (show Hid _ from hTB)
      have hz5 : (5 : Int) ≤ (z.size : Int) := by omega
      have hz5n := hzz.2
      have hz4n := hzz.1
      have hdz : decide ((z.size : Int) < 5) = false := by simp; omega
      clear hb3 hde hz hzd hzl hzz hok hTB HEN
      go_wp2_with fail
      refine Calls.mono HDE.out ?_
      rintro e w4 ⟨hb4, ⟨n', T', B', v, hn', hok', hB', he, hown, rfl⟩ | ⟨hnot, _⟩⟩
      · obtain ⟨hnn', hTT, hBB⟩ := chunk_same T T' B B' n n' hn120 hn' HOKN.out hok' HTB.out.2 hB' he
        subst hnn'
        have hcc := ptCells_congr T T' B B' n hTT hBB
        rw [← hcc] at hown
        obtain ⟨va, vc, rfl, hPv⟩ := pts_own hown HTB.out.1 HTB.out.2
        have HB4 : Hid (Below w.heap.size w w4) := HB3.out.trans (hb4.mono HB3.out.size)
        have HSM := (show Hid _ from same_points w4 va la n vc c T B hPv (HP.out.below HB4.out) (by omega))
        clear hb4 hok' hB' he hown hcc hPv hTT hBB hn' HDE
        go_wp2_with fail
        refine Calls.mono HSM.out ?_
        rintro e w5 ⟨rfl, q5, hw5⟩
        have HB5 : Hid (Below w.heap.size w w5) := by rw [hw5]; exact below_drewN HB4.out q5
        clear hw5 HSM
        obtain ⟨G, hG⟩ : ∃ G : Bool, G = (decide (0 ≤ at_) && decide (at_ < (z.size : Int)) && ((by_ : Int) != 0)) := ⟨_, rfl⟩
        have HG := (show Hid _ from hG)
        clear hG
        go_upto_region 10 with fail
        go_cut [60] (fun g wx => g = .bool G ∧ wx = w5)
        case first =>
          by_cases h1 : 0 ≤ at_
          · have d1 : decide (0 ≤ at_) = true := decide_eq_true h1
            by_cases h2 : at_ < (z.size : Int)
            · have d2 : decide (at_ < (z.size : Int)) = true := decide_eq_true h2
              go_wp2_with fail
              go_meet
              exact ⟨by rw [HG.out, d1, d2]; simp, rfl⟩
            · have d2 : decide (at_ < (z.size : Int)) = false := decide_eq_false h2
              go_wp2_with fail
              go_meet
              exact ⟨by rw [HG.out, d1, d2]; rfl, rfl⟩
          · have d1 : decide (0 ≤ at_) = false := decide_eq_false h1
            go_wp2_with fail
            go_meet
            exact ⟨by rw [HG.out, d1]; rfl, rfl⟩
        case rest =>
          obtain ⟨rfl, hwc⟩ := hcut
          have hwc' := hwc.symm
          subst hwc'
          go_upto_if 60 with fail
          go_cut [8] (fun r wx => r = .bool false ∧ Below w.heap.size w wx)
          case first =>
            cases hGG : G with
            | false =>
              go_wp2_with fail
              go_meet
              exact ⟨rfl, HB5.out⟩
            | true =>
              have hG := HG.out
              rw [hGG] at hG
              simp only [Bool.true_eq, Bool.and_eq_true, decide_eq_true_eq, bne_iff_ne, ne_eq] at hG
              obtain ⟨⟨h1, h2⟩, h3⟩ := hG
              obtain ⟨i, rfl⟩ := Int.eq_ofNat_of_zero_le h1
              obtain ⟨cap, W6, hconv, hbW, hWs, hcap, hcell, hfro⟩ := conv_at w5 z
              have hlz : z.data.toList.length = z.size := Array.length_toList
              have hi : i < z.data.toList.length := by omega
              have hci := hcell i hi
              have hfi := hfro i (by omega)
              have hxl := (z.data.toList[i]).toNat_lt
              obtain ⟨x, hx⟩ : ∃ x, x = (z.data.toList[i]).toNat := ⟨_, rfl⟩
              rw [← hx] at hci hxl
              have hxx : x ^^^ by_ < 256 := Nat.xor_lt_two_pow (n := 8) (by omega) (by omega)
              obtain ⟨y, hy⟩ : ∃ y, y = UInt8.ofNat (x ^^^ by_) := ⟨_, rfl⟩
              have hyn : y.toNat = x ^^^ by_ := by rw [hy, UInt8.toNat_ofNat']; omega
              have hxor := u8_xor_nat x by_ (by omega) hby
              rw [← hyn] at hxor
              have hback := back_at W6 w5.heap.size cap i z.data.toList y hi hcell
              rw [hlz] at hback
              have hyne : y ≠ (chunkBytes T B n).getD i 0 := by
                rw [← HZD.out]
                intro e
                have e2 : (z.data.toList).getD i 0 = z.data.toList[i] := by rw [List.getD_eq_getElem?_getD, List.getElem?_eq_getElem hi]; rfl
                rw [e2] at e
                have e3 := congrArg UInt8.toNat e
                rw [hyn, ← hx] at e3
                exact xor_apart x by_ (by omega) e3
              have hnot := turned_not T B n i y (by rw [← HZD.out]; exact hi) hyne
              rw [← HZD.out] at hnot
              have hB7 : Below w.heap.size w (W6.setCell ⟨w5.heap.size, i, none⟩ (.int .u8 (y.toNat : Int))) := (HB5.out.trans (hbW.mono HB5.out.size)).setCell HB5.out.size _
              obtain ⟨W7, hW7⟩ : ∃ W7, W7 = W6.setCell ⟨w5.heap.size, i, none⟩ (.int .u8 (y.toNat : Int)) := ⟨_, rfl⟩
              obtain ⟨q, hq⟩ : ∃ q : ByteArray, q = ⟨(z.data.toList.set i y).toArray⟩ := ⟨_, rfl⟩
              have hqd : q.data.toList = z.data.toList.set i y := by rw [hq]
              have hqs : q.size ≤ 10000 := by
                have : q.size = q.data.toList.length := Array.length_toList.symm
                rw [this, hqd, List.length_set]
                omega
              rw [← hW7] at hB7
              have hde := decode_any W7 (HE.out.below hB7 hBd).ern (Nat.le_trans hBd hB7.size) (HF.out.below hB7 hFl) (HT.out.below hB7 hTl) q hqs
              rw [hqd] at hde
              rw [← hq] at hback
              have hback2 : (convert 84 9 (.slice (some ⟨w5.heap.size, 0, none⟩) z.size cap)).run Tryd.prog (W6.setCell ⟨w5.heap.size, i, none⟩ (.int .u8 (y.toNat : Int))) = .ok (.string q) W7 := by rw [hback, hW7]
              have HDE2 := (show Hid _ from hde)
              have HNOT : Hid (¬ IsChunk (z.data.toList.set i y)) := hnot
              have HB7 := (show Hid _ from hB7)
              clear hde hnot hB7 hbW hcell hfro hlz hi hyne hqd hqs hq hx hxx hy hyn hWs hW7 hback
              go_wp2_with fail
              refine Calls.mono HDE2.out ?_
              intro e w8 hdo
              obtain ⟨hb8, aE, rfl⟩ := dec_no hdo HNOT.out
              have HB8 : Hid (Below w.heap.size w w8) := HB7.out.trans (hb8.mono HB7.out.size)
              clear hb8 hdo HDE2 hback2 hconv hci hfi hxor
              go_wp2_with fail
              go_meet
              exact ⟨rfl, HB8.out⟩
          case rest =>
            obtain ⟨rfl, hb6⟩ := hcut
            have HB6 := (show Hid _ from hb6)
            clear hb6
            by_cases h1 : cut < 0
            · have d1 : decide (cut < 0) = true := decide_eq_true h1
              go_wp2
              go_ret
              exact ⟨rfl, HB6.out⟩
            · have d1 : decide (cut < 0) = false := decide_eq_false h1
              by_cases h2 : 4 < cut
              · have d2 : decide (4 < cut) = true := decide_eq_true h2
                go_wp2
                go_ret
                exact ⟨rfl, HB6.out⟩
              · have d2 : decide (4 < cut) = false := decide_eq_false h2
                obtain ⟨i, rfl⟩ := Int.eq_ofNat_of_zero_le (show 0 ≤ cut by omega)
                have hi4 : i ≤ 4 := by omega
                have hiz : (i : Int) ≤ (z.size : Int) := by omega
                have hi0 : (0 : Int) ≤ (i : Int) := by omega
                obtain ⟨q, hq⟩ : ∃ q, q = z.extract 0 i := ⟨_, rfl⟩
                have hqs : q.size = i := by rw [hq]; simp; omega
                have hde := decode_any wc (HE.out.below HB6.out hBd).ern (Nat.le_trans hBd HB6.out.size) (HF.out.below HB6.out hFl) (HT.out.below HB6.out hTl) q (by omega)
                have hql : q.data.toList.length < 5 := by
                  have : q.data.toList.length = q.size := Array.length_toList
                  omega
                have HDE2 := (show Hid _ from hde)
                have HQL := (show Hid _ from hql)
                clear hde hql hqs
                go_wp2_with fail
                rw [← hq]
                clear hq
                refine Calls.mono HDE2.out ?_
                rintro e w8 ⟨hb8, ⟨n', T', B', v, hn', hok', hB', he, hown, rfl⟩ | ⟨_, rfl⟩⟩
                · have h5 := (chunk_body _ ⟨n', T', B', hn', hok', hB', he⟩).1
                  exact absurd HQL.out (by omega)
                · rw [if_pos HQL.out]
                  have HB8 : Hid (Below w.heap.size w w8) := HB6.out.trans (hb8.mono HB6.out.size)
                  have HCD := (show Hid _ from coded_es w8 (HE.out.below HB8.out hBd) (Nat.le_trans hBd HB8.out.size) 0 (by omega) 1 rfl)
                  clear hb8 HDE2
                  go_wp2_with fail
                  refine Calls.mono HCD.out ?_
                  rintro e w9 ⟨rfl, hb9⟩
                  have HB9 : Hid (Below w.heap.size w w9) := HB8.out.trans (hb9.mono HB8.out.size)
                  clear hb9
                  go_wp2
                  go_ret
                  exact ⟨rfl, HB9.out⟩
      · exact absurd ⟨n, T, B, hn120, HOKN.out, HTB.out.2, rfl⟩ hnot
    · have HB3 : Hid (Below w.heap.size w w3) := HB2.out.trans (hb3.mono HB2.out.size)
      clear hb3 HEN
      go_wp2
      go_ret
      exact ⟨rfl, HB3.out⟩
end Go.Proofs.YtgdflopgdlpimaaDoor
