/- label's Fits by its contract. -/
import Derived.Test.YtfanagohfimnkaaDoorLabFits2
import Derived.Deep.RegionHeld3
namespace Go.Proofs.YtfanagohfimnkaaDoor
open Go.RowKit LabMath

set_option maxRecDepth 1000000 in
set_option maxHeartbeats 2000000 in
theorem lFits_any {B : Nat} {ea : Nat → Addr} (w : World) (E : Env B ea w) (hB : B ≤ w.heap.size) (la lm : Option Addr) (n c m cm : Nat) (N V : Nat → ByteArray) (K : Nat → Nat) (X Y : Nat → ByteArray) (hL : Labs w la n N V) (hM : Mats w lm m K X Y)
    (hsz : ∀ i, i < n → (N i).size ≤ 1000000 ∧ (V i).size ≤ 1000000) (hsx : ∀ i, i < m → (X i).size ≤ 1000000) (hn : (n : Int) ≤ 9223372036854775807) (hm : (m : Int) ≤ 9223372036854775807) :
    Calls Tryd.prog 9 #[.slice la n c, .slice lm m cm] w fun e w' => LFitsOut ea w w' N V n K X Y m e := by
  have HCK : Hid _ := lcheck_f w E la n c N V hL hsz hn
  have HE := (show Hid _ from E)
  have HL : Hid (Labs w la n N V) := hL
  have HM : Hid (Mats w lm m K X Y) := hM
  have HSX := (show Hid _ from hsx)
  have hC0 := (fC_cases N V n).1
  have HCZ := (show Hid _ from (fC_cases N V n).2)
  have hM0 := (mC_cases K X m).1
  have HMZ := (show Hid _ from (mC_cases K X m).2)
  have HMF := (show Hid _ from fun (w0 : World) (h0 : Below w.heap.size w w0) => cm_f w0 (E.below h0 hB) lm m cm K X Y (by
    rcases hM with h | ⟨b, o, h, hc⟩
    · exact .inl h
    · refine .inr ⟨b, o, h, fun k hk => ?_⟩
      obtain ⟨q0, q1, q2, q3⟩ := hc k hk
      have hl : b < w.heap.size := World.block_lt_of_cell? w ⟨b, _, none⟩ q0
      exact ⟨(h0.cell (p := ⟨b, _, none⟩) hl).trans q0, (h0.cell (p := ⟨b, _, none⟩) hl).trans q1, (h0.cell (p := ⟨b, _, none⟩) hl).trans q2, q3⟩) hsx hm)
  unfold LFitsOut
  obtain ⟨C, hC⟩ : ∃ C, fC N V n = C := ⟨_, rfl⟩
  obtain ⟨A, hA⟩ : ∃ A, fA N V n = A := ⟨_, rfl⟩
  obtain ⟨C2, hC2⟩ : ∃ C2, mC K X m = C2 := ⟨_, rfl⟩
  obtain ⟨A2, hA2⟩ : ∃ A2, mA K X m = A2 := ⟨_, rfl⟩
  rw [hC] at HCK hC0 HCZ ⊢
  rw [hA] at HCK ⊢
  rw [hC2] at HMF hM0 HMZ ⊢
  rw [hA2] at HMF ⊢
  clear hC hA hC2 hA2 hL hM hsz hsx E
  go_enter Tryd.func9, Tryd.ntmps9
  go_wp2_with fail
  refine Calls.mono HCK.out ?_
  rintro e w1 ⟨v, rfl, hb1, hfv⟩
  have HB1 := (show Hid _ from hb1)
  have HFV := (show Hid _ from hfv)
  by_cases hCp : 0 < C
  · rcases hfv.some hCp with ⟨q, rfl⟩ | ⟨q, rfl⟩ <;>
    · clear hb1 hfv
      go_wp2
      go_ret2
      exact ⟨HB1.out, _, _, rfl, .inl ⟨hCp, rfl, HFV.out⟩⟩
  · have hCe : C = 0 := by omega
    have hv := hfv.none hCe
    subst hv
    have HM2 := (show Hid _ from HMF.out w1 hb1)
    clear hb1 hfv HFV
    go_wp2_with fail
    refine Calls.mono HM2.out ?_
    rintro e w2 ⟨v, rfl, hb2, hfv⟩
    have HB2 := (show Hid _ from HB1.out.trans (hb2.mono HB1.out.size))
    have HFV := (show Hid _ from hfv)
    clear HM2
    by_cases hMp : 0 < C2
    · rcases hfv.some hMp with ⟨q, rfl⟩ | ⟨q, rfl⟩ <;>
      · clear hb2 hfv
        go_wp2
        go_ret2
        exact ⟨HB2.out, _, _, rfl, .inr (.inl ⟨hCe, hMp, rfl, HFV.out⟩)⟩
    · have hMe : C2 = 0 := by omega
      have hv := hfv.none hMe
      subst hv
      clear hb2 hfv HFV
      have hz := HCZ.out hCe
      have hy := HMZ.out hMe
      have HVS : Hid (∀ x, valF N V x n = valTo N V x n) := fun x => val_same N V n x hz.2.2.2
      have HOKM : Hid (∀ i, i < m → kindOk (K i) = true) := fun i hi => by
        have := hy.2 i hi
        unfold matOk at this
        rw [Bool.and_eq_true] at this
        exact this.1
      have hn6 : n ≤ 6 := hz.2.1
      have hm6 : m ≤ 6 := hy.1
      clear hz hy HCZ HMZ
      go_wp2_with fail
      go_loopw [9, 22, 23] (fun _ i _ wr => ∃ k : Nat, k ≤ m ∧ i = .int .i64 k ∧ Below w.heap.size w wr ∧ fitsTo N V n K X Y k = true) (fun _ i _ _ => m - (intOf i).toNat)
      case atStart => exact ⟨0, Nat.zero_le _, rfl, HB2.out, rfl⟩
      case round =>
        obtain ⟨k, hk, rfl, hbr, hft⟩ := hrel
        have HBR := (show Hid _ from hbr)
        have HFT := (show Hid _ from hft)
        have hwl := hbr.size
        by_cases hkn : k < m
        · obtain ⟨lb, lo, rfl, hcs⟩ := HM.out.at k hkn
          obtain ⟨c0, c1, c2, hk256⟩ := hcs k hkn
          have hlb : lb < w.heap.size := World.block_lt_of_cell? w ⟨lb, _, none⟩ c0
          have hk0 : (0 : Int) ≤ (k : Int) := by omega
          have hk1 : (k : Int) < (m : Int) := by omega
          have e0 : wr.cell? ⟨lb, lo + k * 3, none⟩ = some (.int .u8 (K k : Int)) := (hbr.cell (p := ⟨lb, _, none⟩) hlb).trans c0
          have e1 : wr.cell? ⟨lb, lo + k * 3 + 1, none⟩ = some (.string (X k)) := (hbr.cell (p := ⟨lb, _, none⟩) hlb).trans c1
          have e2 : wr.cell? ⟨lb, lo + k * 3 + 2, none⟩ = some (.string (Y k)) := (hbr.cell (p := ⟨lb, _, none⟩) hlb).trans c2
          obtain ⟨W, hW⟩ : ∃ W, W = wr.alloc (.cells #[.int .u8 (K k : Int), .string (X k), .string (Y k)] 30) := ⟨_, rfl⟩
          have hWb : Below wr.heap.size wr W := by rw [hW]; exact (Below.refl _ _).alloc (Nat.le_refl _) _
          have hWk : W.heap[wr.heap.size]? = some (.cells #[.int .u8 (K k : Int), .string (X k), .string (Y k)] 30 (0, 0)) := by rw [hW]; exact heap_alloc_new _ _
          have hWl : wr.heap.size < W.heap.size := by rw [hW]; simp
          have HWW : Hid (Below w.heap.size w W) := hbr.trans (hWb.mono hwl)
          have k0 : W.cell? ⟨wr.heap.size, 0, none⟩ = some (.int .u8 (K k : Int)) := by simp [World.cell?, hWk]
          have k1 : W.cell? ⟨wr.heap.size, 1, none⟩ = some (.string (X k)) := by simp [World.cell?, hWk]
          have k2 : W.cell? ⟨wr.heap.size, 2, none⟩ = some (.string (Y k)) := by simp [World.cell?, hWk]
          have HS : Hid (∀ w0, Below W.heap.size W w0 → w0.cell? ⟨wr.heap.size, 0, none⟩ = some (.int .u8 (K k : Int)) ∧ w0.cell? ⟨wr.heap.size, 1, none⟩ = some (.string (X k)) ∧ w0.cell? ⟨wr.heap.size, 2, none⟩ = some (.string (Y k))) := fun w0 h => ⟨(h.cell (p := ⟨wr.heap.size, 0, none⟩) hWl).trans (by simp [World.cell?, hWk]), (h.cell (p := ⟨wr.heap.size, 1, none⟩) hWl).trans (by simp [World.cell?, hWk]), (h.cell (p := ⟨wr.heap.size, 2, none⟩) hWl).trans (by simp [World.cell?, hWk])⟩
          have HVO : Hid (∀ w0, Below W.heap.size W w0 → Calls Tryd.prog 39 #[.slice la n c, .string (X k)] w0 fun e w' => e = .returned (.string (valTo N V (X k) n)) ∧ (w'.cell? ⟨wr.heap.size, 0, none⟩ = some (.int .u8 (K k : Int)) ∧ w'.cell? ⟨wr.heap.size, 1, none⟩ = some (.string (X k)) ∧ w'.cell? ⟨wr.heap.size, 2, none⟩ = some (.string (Y k))) ∧ Below W.heap.size W w') := fun w0 h => by
            have hw0 : Below w.heap.size w w0 := HWW.out.trans (h.mono HWW.out.size)
            have hc := valueOf_any w0 la n c N V (HL.out.below hw0) (by omega) (X k)
            rw [HVS.out] at hc
            refine hc.mono ?_
            rintro e w' ⟨rfl, hb⟩
            have h2 := h.trans (hb.mono h.size)
            exact ⟨rfl, HS.out w' h2, h2⟩
          have HFI : Hid (∀ w0, Below W.heap.size W w0 → Calls Tryd.prog 38 #[.string (valTo N V (X k) n), .agg #[.int .u8 (K k : Int), .string (X k), .string (Y k)]] w0 fun e w' => e = .returned (.bool (fitB (K k) (valTo N V (X k) n) (Y k))) ∧ (w'.cell? ⟨wr.heap.size, 0, none⟩ = some (.int .u8 (K k : Int)) ∧ w'.cell? ⟨wr.heap.size, 1, none⟩ = some (.string (X k)) ∧ w'.cell? ⟨wr.heap.size, 2, none⟩ = some (.string (Y k))) ∧ Below W.heap.size W w') := fun w0 h => by
            refine (lfits_any (valTo N V (X k) n) (K k) (X k) (Y k) w0 (HOKM.out k hkn)).mono ?_
            rintro e w' ⟨rfl, hb⟩
            have h2 := h.trans (hb.mono h.size)
            exact ⟨rfl, HS.out w' h2, h2⟩
          have HW := (show Hid _ from hW)
          have HC0 : Hid (Below W.heap.size W W) := Below.refl _ _
          have hst : fitsTo N V n K X Y (k + 1) = (fitsTo N V n K X Y k && fitB (K k) (valTo N V (X k) n) (Y k)) := rfl
          rw [hft, Bool.true_and] at hst
          have HST := (show Hid _ from hst)
          have HNO : Hid (fitB (K k) (valTo N V (X k) n) (Y k) = false → fitsTo N V n K X Y m = false) := fun h => fits_no N V n K X Y k h m hkn
          generalize fitB (K k) (valTo N V (X k) n) (Y k) = bf at *
          generalize valTo N V (X k) n = vv at *
          generalize K k = kk at *
          generalize X k = xx at *
          generalize Y k = yy at *
          clear hcs c0 c1 c2 hbr hft hW hWb hWk hWl hst
          go_wp2_with fail
          rw [← HW.out]
          go_region_held3 (fun w' => w'.cell? ⟨wr.heap.size, 0, none⟩ = some (.int .u8 (kk : Int)) ∧ w'.cell? ⟨wr.heap.size, 1, none⟩ = some (.string xx) ∧ w'.cell? ⟨wr.heap.size, 2, none⟩ = some (.string yy)) (go_keep) ((first | (go_at_call 39; refine Calls.mono (HVO.out _ (by first | exact HC0.out | exact HC0.out.trans ⟨rfl, rfl, rfl, Nat.le_refl _, fun _ _ => rfl⟩)) ?_; rintro e w7 ⟨rfl, ⟨k0, k1, k2⟩, hc7⟩; have HC7 := (show Hid _ from hc7); clear hc7 HVO) | (go_at_call 38; refine Calls.mono (HFI.out _ (by first | exact HC7.out | exact HC7.out.trans ⟨rfl, rfl, rfl, Nat.le_refl _, fun _ _ => rfl⟩)) ?_; rintro e w8 ⟨rfl, ⟨k0, k1, k2⟩, hc8⟩; have HC8 := (show Hid _ from hc8); clear hc8 HFI)))
          have HB8 : Hid (Below w.heap.size w w8) := HWW.out.trans (HC8.out.mono HWW.out.size)
          cases bf with
          | true =>
            go_wp2
            go_roundw
            case rel => exact ⟨k + 1, by omega, by go_num, HB8.out, HST.out⟩
            case measure => simp [intOf] <;> omega
          | false =>
            have hno := HNO.out rfl
            have HNN := (show Hid _ from hno)
            clear hno
            go_wp2
            go_ret2
            exact ⟨HB8.out, by rw [HNN.out]; rfl⟩
        · have hge : (m : Int) ≤ (k : Int) := by omega
          have hkm : k = m := by omega
          have HFM : Hid (fitsTo N V n K X Y m = true) := by rw [← hkm]; exact hft
          clear hbr hft HFT hkm
          go_wp2
          go_ret2
          exact ⟨HBR.out, _, _, rfl, .inr (.inr ⟨hCe, hMe, by rw [HFM.out], rfl⟩)⟩
end Go.Proofs.YtfanagohfimnkaaDoor
