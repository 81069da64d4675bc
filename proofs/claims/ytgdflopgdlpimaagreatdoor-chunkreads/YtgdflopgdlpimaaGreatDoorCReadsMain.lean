/- ChunkReads by its walk: any bytes, sealed, or as they are. -/
import Derived.Test.YtgdflopgdlpimaaGreatDoorIsPackedGroup
import Derived.Test.YtgdflopgdlpimaaGreatDoorRefReadGroup
import Derived.Test.YtgdflopgdlpimaaGreatDoorErrAsGroup
import Derived.Deep.DeepCutAuto
namespace Go.Proofs.YtgdflopgdlpimaaGreatDoor
open Go.RowKit

set_option maxRecDepth 1000000 in
set_option maxHeartbeats 4000000 in
theorem creads_main {Bd : Nat} {ea : Nat → Addr} (w : World) (E : Env Bd ea w) (hBd : Bd ≤ w.heap.size) (hF : Forms w) (hT : Tab w) (s : ByteArray) (sl : Bool) :
    Calls Tryz.prog 4 #[.string s, .bool sl] w fun e w' => e = .returned (.bool true) ∧ Below w.heap.size w w' := by
  have HCH := (show Hid _ from chunked_any w E.ern hBd hF hT)
  have HE := (show Hid _ from E)
  have HF : Hid (Forms w) := hF
  have HT : Hid (Tab w) := hT
  have hFl := hF.lt
  have hTl := hT.lt
  clear E hF hT
  by_cases h200 : 200 < s.size
  · have d : decide ((200 : Int) < (s.size : Int)) = true := by simp; omega
    go_enter Tryz.func4, Tryz.ntmps4
    go_wp2_with fail
    refine Calls.mono HCH.out ?_
    rintro e w1 ⟨rfl, hb1⟩
    have HB1 := (show Hid _ from hb1)
    clear hb1
    go_wp2
    go_ret
    exact ⟨rfl, HB1.out⟩
  · have d : decide ((200 : Int) < (s.size : Int)) = false := by simp; omega
    obtain ⟨z, hz⟩ : ∃ z : ByteArray, z = if sl = true then ⟨(BitMath.sealOf s.data.toList).toArray⟩ else s := ⟨_, rfl⟩
    have hzs : z.size ≤ 10000 := by
      rw [hz]
      split
      · have hl : s.data.toList.length = s.size := Array.length_toList
        simp only [ByteArray.size, List.size_toArray]
        rw [BitMath.sealOf, List.length_append, length_fourOf, hl]
        omega
      · omega
    have HZ := (show Hid _ from hz)
    have HSE := (show Hid _ from fun w0 => seal_any s w0 (by omega))
    clear hz
    go_enter Tryz.func4, Tryz.ntmps4
    go_wp2_with fail
    refine Calls.mono HCH.out ?_
    rintro e w1 ⟨rfl, hb1⟩
    have HB1 := (show Hid _ from hb1)
    clear hb1 HCH
    go_upto_if 20 with fail
    go_cut [0] (fun s0 wx => s0 = .string z ∧ Below w.heap.size w wx)
    case first =>
      cases sl with
      | true =>
        go_wp2_with fail
        refine Calls.mono (HSE.out _) ?_
        rintro e w2 ⟨rfl, hb2⟩
        have HB2 : Hid (Below w.heap.size w w2) := HB1.out.trans (hb2.mono HB1.out.size)
        clear hb2
        go_wp2_with fail
        go_meet
        exact ⟨by rw [HZ.out]; rfl, HB2.out⟩
      | false =>
        go_wp2_with fail
        go_meet
        exact ⟨by rw [HZ.out]; rfl, HB1.out⟩
    case rest =>
      obtain ⟨rfl, hb2⟩ := hcut
      have HB2 := (show Hid _ from hb2)
      have HDE := (show Hid _ from decode_any wc (HE.out.below hb2 hBd).ern (Nat.le_trans hBd hb2.size) (HF.out.below hb2 hFl) (HT.out.below hb2 hTl) z hzs)
      clear hb2 HSE
      go_wp2_with fail
      refine Calls.mono HDE.out ?_
      rintro e w3 ⟨hb3, hdec⟩
      have HB3 : Hid (Below w.heap.size w w3) := HB2.out.trans (hb3.mono HB2.out.size)
      have HUN := (show Hid _ from unchunk_any z w3 hzs)
      clear hb3 HDE
      rcases hdec with ⟨n, T, B, v, hn, hok, hB, he, hown, rfl⟩ | ⟨hnot, rfl⟩
      · have hTb : ∀ i, i < n → -9223372036854775808 ≤ T i ∧ T i ≤ 9223372036854775807 := fun i hi => by
          have := ptOk_tick T i (hok i hi)
          omega
        obtain ⟨va, vc, rfl, hPv⟩ := pts_own hown hTb hB
        have HPV : Hid (Pts w3 va n T B) := hPv
        have HOK := (show Hid _ from hok)
        have HBB := (show Hid _ from hB)
        have HTB := (show Hid _ from hTb)
        have HEE := (show Hid _ from he)
        clear hok hB hTb hPv hown he
        go_wp2_with fail
        refine Calls.mono HUN.out ?_
        rintro e w4 ⟨hb4, ⟨n', T', B', v', hn', hok', hB', he', hown', rfl⟩ | ⟨c, hnot, _⟩⟩
        · obtain ⟨hnn, hTT, hBB⟩ := chunk_same T T' B B' n n' hn hn' HOK.out hok' HBB.out hB' (HEE.out.symm.trans he')
          subst hnn
          rw [← ptCells_congr T T' B B' n hTT hBB] at hown'
          obtain ⟨va', vc', rfl, hPv'⟩ := pts_own hown' HTB.out HBB.out
          have HB4 : Hid (Below w.heap.size w w4) := HB3.out.trans (hb4.mono HB3.out.size)
          have HPV4 : Hid (Pts w4 va n T B) := HPV.out.below hb4
          have HPV4' : Hid (Pts w4 va' n T B) := hPv'
          have HCD := (show Hid _ from coded_nil w4)
          clear hb4 hok' hB' he' hown' hTT hBB hn' hPv' HPV HUN
          go_wp2_with fail
          refine Calls.mono HCD.out ?_
          rintro e w5 ⟨rfl, hw5⟩
          have hw5' := hw5.symm
          subst hw5'
          have HSM := (show Hid _ from same_points w4 va va' n vc vc' T B HPV4.out HPV4'.out (by omega))
          clear HCD
          go_wp2_with fail
          refine Calls.mono HSM.out ?_
          rintro e w6 ⟨rfl, q, hw6⟩
          have hbq : Below w4.heap.size w4 w6 := by rw [hw6]; exact below_drewN (Below.refl _ _) q
          have HB6 : Hid (Below w.heap.size w w6) := HB4.out.trans (hbq.mono HB4.out.size)
          have HEN := (show Hid _ from encode_any w6 (HE.out.below HB6.out hBd).ern (HF.out.below HB6.out hFl) (HT.out.below HB6.out hTl) va n vc T B (HPV4.out.below hbq) hn n (Nat.le_refl _) HOK.out (fun h => absurd h (by omega)))
          clear hw6 hbq HSM HPV4 HPV4'
          have hzz : (⟨(chunkBytes T B n).toArray⟩ : ByteArray) = z := by
            rw [← HEE.out]
          go_wp2_with fail
          refine Calls.mono HEN.out ?_
          rintro e w7 ⟨hb7, ⟨_, rfl⟩ | ⟨hlt, _⟩⟩
          · rw [hzz]
            have HB7 : Hid (Below w.heap.size w w7) := HB6.out.trans (hb7.mono HB6.out.size)
            clear hb7 hzz
            go_wp2
            go_ret
            exact ⟨by simp, HB7.out⟩
          · omega
        · exact absurd ⟨n, T, B, hn, HOK.out, HBB.out, HEE.out⟩ hnot
      · have HNOT : Hid (¬ IsChunk z.data.toList) := hnot
        obtain ⟨m, hm, hme⟩ : ∃ m : Nat, m < 11 ∧ m + 1 = (if z.data.toList.length < 5 then 1 else if BitMath.sealOf (z.data.toList.take (z.data.toList.length - 4)) = z.data.toList then 1 else 9) ∧ ea m = (if z.data.toList.length < 5 then ea 0 else if BitMath.sealOf (z.data.toList.take (z.data.toList.length - 4)) = z.data.toList then ea 0 else ea 8) := by
          by_cases h5 : z.data.toList.length < 5
          · exact ⟨0, by omega, by rw [if_pos h5], by rw [if_pos h5]⟩
          · by_cases hs : BitMath.sealOf (z.data.toList.take (z.data.toList.length - 4)) = z.data.toList
            · exact ⟨0, by omega, by rw [if_neg h5, if_pos hs], by rw [if_neg h5, if_pos hs]⟩
            · exact ⟨8, by omega, by rw [if_neg h5, if_neg hs], by rw [if_neg h5, if_neg hs]⟩
        rw [← hme.2]
        have HME := (show Hid _ from hme.1)
        clear hnot hme
        go_wp2_with fail
        refine Calls.mono HUN.out ?_
        rintro e w4 ⟨hb4, ⟨n', T', B', v', hn', hok', hB', he', hown', rfl⟩ | ⟨c, _, hc, rfl⟩⟩
        · exact absurd ⟨n', T', B', hn', hok', hB', he'⟩ HNOT.out
        · have hcm : c = m + 1 := hc.trans HME.out.symm
          have HB4 : Hid (Below w.heap.size w w4) := HB3.out.trans (hb4.mono HB3.out.size)
          have HCD := (show Hid _ from coded_es w4 (HE.out.below HB4.out hBd) (Nat.le_trans hBd HB4.out.size) m hm (c : Int) (by omega))
          have hc0 : (0 : Int) < (c : Int) := by omega
          clear hb4 hc HUN hcm HME
          go_wp2_with fail
          refine Calls.mono HCD.out ?_
          rintro e w5 ⟨rfl, hb5⟩
          have HB5 : Hid (Below w.heap.size w w5) := HB4.out.trans (hb5.mono HB4.out.size)
          have HSM := (show Hid _ from same_points w5 none none 0 0 0 (fun _ => 0) (fun _ => 0) (.inl rfl) (.inl rfl) (by omega))
          clear hb5 HCD
          go_wp2_with fail
          refine Calls.mono HSM.out ?_
          rintro e w6 ⟨rfl, q, hw6⟩
          have HB6 : Hid (Below w.heap.size w w6) := by rw [hw6]; exact below_drewN HB5.out q
          clear hw6 HSM
          go_wp2
          go_ret
          exact ⟨rfl, HB6.out⟩
end Go.Proofs.YtgdflopgdlpimaaGreatDoor
