/- The statement LabelTexts, walked. -/
import Derived.Test.YtfgbphoiliiifabDoorLabBoth
import Derived.Test.YtfgbphoiliiifabDoorLongLab
import Derived.Deep.RegionHeld3
import Derived.Deep.QuietTactic
import Derived.BigQuiet
namespace Go.Proofs.YtfgbphoiliiifabDoor
open Go.RowKit LabMath

theorem below_drew1 {b : Nat} {w w' : World} (h : Below b w w') : Below b w w'.drew := h.trans ⟨rfl, rfl, rfl, Nat.le_refl _, fun _ _ => rfl⟩

set_option maxRecDepth 1000000 in
set_option maxHeartbeats 8000000 in
theorem texts_main {Bd : Nat} {ea : Nat → Addr} (w : World) (E : Env Bd ea w) (hBd : Bd ≤ w.heap.size) (la : Option Addr) (n c : Nat) (N V : Nat → ByteArray) (hP : Labs w la n N V) (hnI : (n : Int) ≤ 9223372036854775807) (s : ByteArray) :
    Calls Tryd.prog 4 #[.slice la n c, .string s] w fun e w' => e = .returned (.bool true) ∧ Below w.heap.size w w' := by
  have HCH := (show Hid _ from labelled_any w E hBd)
  have HE := (show Hid _ from E)
  have HP : Hid (Labs w la n N V) := hP
  clear E hP
  go_enter Tryd.func4, Tryd.ntmps4
  go_wp2_with fail
  refine Calls.mono HCH.out ?_
  rintro e w1 ⟨rfl, hb1⟩
  have HB1 : Hid (Below w.heap.size w w1) := hb1
  have HLL := (show Hid _ from long_labels w1 la n c N V (HP.out.below hb1) hnI)
  clear hb1 HCH
  go_wp2_with fail
  refine Calls.mono HLL.out ?_
  rintro e w1' ⟨hw1', hlo⟩
  subst hw1'
  rcases hlo with rfl | ⟨rfl, hn20, hsz⟩
  · go_wp2
    go_ret
    exact ⟨rfl, HB1.out⟩
  · by_cases h300 : 300 < s.size
    · have d3 : decide ((300 : Int) < (s.size : Int)) = true := by simp; omega
      clear hsz
      go_wp2
      go_ret
      exact ⟨rfl, HB1.out⟩
    · have d3 : decide ((300 : Int) < (s.size : Int)) = false := by simp; omega
      have HSZ := (show Hid _ from hsz)
      have HAP := (show Hid _ from HP.out.below HB1.out)
      clear hsz HLL
      go_wp2_with (at_builtin; refine wpList_append_labs rfl _ _ rfl rfl la n c N V rfl HAP.out (by omega) ?_)
      intro oa oc w2 hL2 hb2
      have HB2 : Hid (Below w.heap.size w w2) := HB1.out.trans (hb2.mono HB1.out.size)
      have HTX := (show Hid _ from ltext_f w2 (HE.out.below HB2.out hBd) oa n oc N V hL2 (fun i hi => by have := HSZ.out i hi; omega) hnI)
      clear hL2 hb2 HAP
      go_wp2_with fail
      refine Calls.mono HTX.out ?_
      rintro e w3 ⟨t, v, rfl, hb3, hfv, ht0, ht1⟩
      have HB3 : Hid (Below w.heap.size w w3) := HB2.out.trans (hb3.mono HB2.out.size)
      have HFV : Hid (FaultV ea w3 v (fC N V n) (fA N V n)) := hfv
      have HT0 := (show Hid _ from ht0)
      have HT1 := (show Hid _ from ht1)
      have HLF := (show Hid _ from lfault_f w3 la n c N V (HP.out.below HB3.out) (fun i hi => by have := HSZ.out i hi; omega) hnI)
      have HCK0 := (show Hid _ from fun (w0 : World) (h0 : Below w.heap.size w w0) => lcheck_f w0 (HE.out.below h0 hBd) la n c N V (HP.out.below h0) (fun i hi => by have := HSZ.out i hi; omega) hnI)
      have HC0 : Hid (fC N V n = 0 → 1 ≤ n ∧ n ≤ 6 ∧ GoodL (textTo N V n).data.toList (labsOf N V n) ∧ (textTo N V n).size ≤ 1000) := fun h => by
        obtain ⟨q1, q2, _, q4⟩ := (fC_cases N V n).2 h
        refine ⟨q1, q2, (text_good N V n h).1, ?_⟩
        have := textTo_size N V n 12 (fun i hi => lab_size N V i (q4 i hi)) n (Nat.le_refl _)
        omega
      have hCp := (fC_cases N V n).1
      generalize fC N V n = C at *
      generalize fA N V n = A at *
      clear hb3 hfv ht0 ht1 HTX
      go_wp2_with fail
      refine Calls.mono HLF.out ?_
      rintro e w4 ⟨rfl, hb4⟩
      have HB4 : Hid (Below w.heap.size w w4) := HB3.out.trans (hb4.mono HB3.out.size)
      have hb34 := hb4
      clear hb4 HLF
      go_wp2_with fail
      obtain ⟨W5, hW5⟩ : ∃ W5, W5 = w4.alloc (.cells #[.int .i64 C, .int .i64 A] 39) := ⟨_, rfl⟩
      rw [← hW5]
      have hb5 : Below w4.heap.size w4 W5 := by rw [hW5]; exact (Below.refl _ _).alloc (Nat.le_refl _) _
      have hblk : W5.heap[w4.heap.size]? = some (.cells #[.int .i64 C, .int .i64 A] 39 (0, 0)) := by rw [hW5]; exact heap_alloc_new _ _
      have h5l : w4.heap.size < W5.heap.size := by rw [hW5]; simp
      have k0 : W5.cell? ⟨w4.heap.size, 0, none⟩ = some (.int .i64 C) := by simp [World.cell?, hblk]
      have k1 : W5.cell? ⟨w4.heap.size, 1, none⟩ = some (.int .i64 A) := by simp [World.cell?, hblk]
      have HB5 : Hid (Below w.heap.size w W5) := HB4.out.trans (hb5.mono HB4.out.size)
      have HB35 : Hid (Below w3.heap.size w3 W5) := hb34.trans (hb5.mono hb34.size)
      have HS : Hid (∀ w0, Below W5.heap.size W5 w0 → w0.cell? ⟨w4.heap.size, 0, none⟩ = some (.int .i64 C) ∧ w0.cell? ⟨w4.heap.size, 1, none⟩ = some (.int .i64 A)) := fun w0 h => ⟨(h.cell (p := ⟨w4.heap.size, 0, none⟩) h5l).trans (by simp [World.cell?, hblk]), (h.cell (p := ⟨w4.heap.size, 1, none⟩) h5l).trans (by simp [World.cell?, hblk])⟩
      have HCK6 : Hid (∀ w0, Below W5.heap.size W5 w0 → Calls Tryd.prog 15 #[.slice la n c] w0 fun e w' => ∃ v, e = .returned v ∧ (w'.cell? ⟨w4.heap.size, 0, none⟩ = some (.int .i64 C) ∧ w'.cell? ⟨w4.heap.size, 1, none⟩ = some (.int .i64 A)) ∧ Below W5.heap.size W5 w' ∧ FaultV ea w' v C A) := fun w0 h => by
        have hw0 : Below w.heap.size w w0 := HB5.out.trans (h.mono HB5.out.size)
        refine (HCK0.out w0 hw0).mono ?_
        rintro e w' ⟨v, rfl, hb, hf⟩
        have h2 := h.trans (hb.mono h.size)
        exact ⟨v, rfl, HS.out w' h2, h2, hf⟩
      have HFA6 : Hid (∀ w0 v, Below W5.heap.size W5 w0 → FaultV ea w0 v C A → Calls Tryd.prog 14 #[v, .agg #[.int .i64 C, .int .i64 A]] w0 fun e w' => e = .returned (.bool true) ∧ (w'.cell? ⟨w4.heap.size, 0, none⟩ = some (.int .i64 C) ∧ w'.cell? ⟨w4.heap.size, 1, none⟩ = some (.int .i64 A)) ∧ Below W5.heap.size W5 w') := fun w0 v h hf => by
        have hw0 : Below w.heap.size w w0 := HB5.out.trans (h.mono HB5.out.size)
        refine (faulted_v w0 (HE.out.below hw0 hBd) (Nat.le_trans hBd hw0.size) v C A hf).mono ?_
        rintro e w' ⟨rfl, hb⟩
        have h2 := h.trans (hb.mono h.size)
        exact ⟨rfl, HS.out w' h2, h2⟩
      have HFA9 := HFA6
      have HC50 : Hid (Below W5.heap.size W5 W5) := Below.refl _ _
      clear hb5 hblk hW5 h5l hb34 HCK0
      go_region_held3 (fun w' => w'.cell? ⟨w4.heap.size, 0, none⟩ = some (.int .i64 C) ∧ w'.cell? ⟨w4.heap.size, 1, none⟩ = some (.int .i64 A)) (go_keep) ((first | (go_at_call 15; refine Calls.mono (HCK6.out _ (by first | exact HC50.out | exact below_drew1 HC50.out)) ?_; rintro e w7 ⟨v7, rfl, ⟨k0, k1⟩, hc7, hf7⟩; have HC7 := (show Hid _ from hc7); have HF7 := (show Hid _ from hf7); clear hc7 hf7 HCK6) | (go_at_call 14; refine Calls.mono (HFA6.out _ _ (by first | exact HC7.out | exact below_drew1 HC7.out) (by exact HF7.out)) ?_; rintro e w8 ⟨rfl, ⟨k0, k1⟩, hc8⟩; have HC8 := (show Hid _ from hc8); clear hc8 HFA6)))
      have HB8 : Hid (Below w.heap.size w w8) := HB5.out.trans (HC8.out.mono HB5.out.size)
      have HB38 : Hid (Below w3.heap.size w3 w8) := HB35.out.trans (HC8.out.mono HB35.out.size)
      by_cases hC : 0 < C
      · have dC : decide (0 < C) = true := decide_eq_true hC
        have ht := HT1.out hC
        subst ht
        have HF9 := (show Hid _ from HFA9.out w8 v HC8.out (HFV.out.below HB38.out))
        go_wp2_with fail
        refine Calls.mono HF9.out ?_
        rintro e w9 ⟨rfl, _, hc9⟩
        have HB9 : Hid (Below w.heap.size w w9) := HB5.out.trans (hc9.mono HB5.out.size)
        clear hc9 HF9
        have HRB : Hid (Below w.heap.size w w9) := HB9.out
        have hrl := HRB.out.size
        rcases bad_or_good s.data.toList with ⟨C2, A2, hbad, hC2⟩ | ⟨out, hgood⟩
        · have HRD := (show Hid _ from lread_bad w9 (HE.out.below HRB.out hBd) s (by omega) C2 A2 hbad)
          have HLO := (show Hid _ from fun w0 => lof_bad w0 s (by omega) C2 A2 hbad)
          have d2 : decide (0 < C2) = true := decide_eq_true hC2
          clear hbad
          go_wp2_with fail
          refine Calls.mono HRD.out ?_
          rintro e wb ⟨v2, rfl, hbb, hfv2⟩
          have HBb : Hid (Below w.heap.size w wb) := HRB.out.trans (hbb.mono hrl)
          have HFV2 : Hid (FaultV ea wb v2 C2 A2) := hfv2
          clear hbb hfv2 HRD
          go_wp2_with fail
          refine Calls.mono (HLO.out _) ?_
          rintro e wc ⟨rfl, hbc⟩
          have hcl := hbc.size
          obtain ⟨Wd, hWd⟩ : ∃ Wd, Wd = wc.alloc (.cells #[.int .i64 C2, .int .i64 A2] 39) := ⟨_, rfl⟩
          have hbd : Below wc.heap.size wc Wd := by rw [hWd]; exact (Below.refl _ _).alloc (Nat.le_refl _) _
          have hblk : Wd.heap[wc.heap.size]? = some (.cells #[.int .i64 C2, .int .i64 A2] 39 (0, 0)) := by rw [hWd]; exact heap_alloc_new _ _
          have hdl : wc.heap.size < Wd.heap.size := by rw [hWd]; simp
          have hbbd : Below wb.heap.size wb Wd := hbc.trans (hbd.mono hcl)
          have HBd : Hid (Below w.heap.size w Wd) := HBb.out.trans (hbbd.mono HBb.out.size)
          have HFA := (show Hid _ from faulted_v Wd (HE.out.below HBd.out hBd) (Nat.le_trans hBd HBd.out.size) v2 C2 A2 (HFV2.out.below hbbd))
          have HWD : Hid (∀ wx, wx = wc.alloc (.cells #[.int .i64 C2, .int .i64 A2] 39) → wx = Wd) := fun wx h => h.trans hWd.symm
          have m0 : Wd.cell? ⟨wc.heap.size, 0, none⟩ = some (.int .i64 C2) := by simp [World.cell?, hblk]
          have m1 : Wd.cell? ⟨wc.heap.size, 1, none⟩ = some (.int .i64 A2) := by simp [World.cell?, hblk]
          have HBLK := (show Hid _ from And.intro hblk hdl)
          clear hbc hcl hWd hbd hblk hbbd HFV2 HLO hdl
          go_wp2_with fail
          rw [HWD.out _ rfl]
          refine Calls.mono HFA.out ?_
          rintro e we ⟨rfl, hbe⟩
          have n0 : we.cell? ⟨wc.heap.size, 0, none⟩ = some (.int .i64 C2) := (hbe.cell (p := ⟨wc.heap.size, 0, none⟩) HBLK.out.2).trans m0
          have HBe : Hid (Below w.heap.size w we) := HBd.out.trans (hbe.mono HBd.out.size)
          clear hbe HFA m0 m1 HBLK HWD
          go_wp2_with fail
          refine wp_loop_rounds 1 ?_
          rw [rounds_succ]
          go_wp2
          go_ret
          exact ⟨rfl, HBe.out⟩
        · have hz := hgood.2
          have hgs := good_size out hz
          obtain ⟨k2, hk2⟩ : ∃ k2, out.length = k2 := ⟨_, rfl⟩
          have HRD := (show Hid _ from lread_good w9 (HE.out.below HRB.out hBd) s (by omega) out hgood)
          have HLO := (show Hid _ from fun w0 => lof_good w0 s (by omega) out hgood)
          have HTXT : Hid (textTo (nameAt out) (valueAt out) out.length = s) := good_text _ out hgood
          have HTX2 := (show Hid _ from fun (w0 : World) (hw0 : Below w.heap.size w w0) (x : Option Addr) (cx : Nat) (hL : Labs w0 x out.length (nameAt out) (valueAt out)) => ltext_f w0 (HE.out.below hw0 hBd) x out.length cx _ _ hL (fun i hi => by have := hgs.2.2 i hi; omega) (by omega))
          rw [hk2] at HRD HLO HTXT HTX2 hz hgs
          have HZ := (show Hid _ from hz)
          generalize nameAt out = No at *
          generalize valueAt out = Vo at *
          clear hgood hz hk2
          go_wp2_with fail
          refine Calls.mono HRD.out ?_
          rintro e wb ⟨x, cx, rfl, hbb, hLx⟩
          have HBb : Hid (Below w.heap.size w wb) := HRB.out.trans (hbb.mono hrl)
          have HLX : Hid (Labs wb x k2 No Vo) := hLx
          clear hbb hLx HRD
          go_wp2_with fail
          refine Calls.mono (HLO.out _) ?_
          rintro e wc ⟨y, cy, rfl, hbc, hLy⟩
          have hcl := hbc.size
          obtain ⟨Wd, hWd⟩ : ∃ Wd, Wd = wc.alloc (.cells #[.int .i64 0, .int .i64 (-1)] 39) := ⟨_, rfl⟩
          have hbd : Below wc.heap.size wc Wd := by rw [hWd]; exact (Below.refl _ _).alloc (Nat.le_refl _) _
          have hblk : Wd.heap[wc.heap.size]? = some (.cells #[.int .i64 0, .int .i64 (-1)] 39 (0, 0)) := by rw [hWd]; exact heap_alloc_new _ _
          have hdl : wc.heap.size < Wd.heap.size := by rw [hWd]; simp
          have hbbd : Below wb.heap.size wb Wd := hbc.trans (hbd.mono hcl)
          have HBd : Hid (Below w.heap.size w Wd) := HBb.out.trans (hbbd.mono HBb.out.size)
          have HFA := (show Hid _ from faulted_nil Wd (-1))
          have HWD : Hid (∀ wx, wx = wc.alloc (.cells #[.int .i64 0, .int .i64 (-1)] 39) → wx = Wd) := fun wx h => h.trans hWd.symm
          have m0 : Wd.cell? ⟨wc.heap.size, 0, none⟩ = some (.int .i64 0) := by simp [World.cell?, hblk]
          have m1 : Wd.cell? ⟨wc.heap.size, 1, none⟩ = some (.int .i64 (-1)) := by simp [World.cell?, hblk]
          have HXD : Hid (Labs Wd x k2 No Vo) := HLX.out.below hbbd
          have HYD : Hid (Labs Wd y k2 No Vo) := hLy.below hbd
          have HBLK := (show Hid _ from And.intro hblk hdl)
          clear hbc hcl hWd hbd hblk hbbd HLX hLy HLO hdl
          go_wp2_with fail
          rw [HWD.out _ rfl]
          refine Calls.mono HFA.out ?_
          rintro e we ⟨rfl, hbe⟩
          have n0 : we.cell? ⟨wc.heap.size, 0, none⟩ = some (.int .i64 0) := (hbe.cell (p := ⟨wc.heap.size, 0, none⟩) HBLK.out.2).trans m0
          have HBe : Hid (Below w.heap.size w we) := HBd.out.trans (hbe.mono HBd.out.size)
          have HXE : Hid (Labs we x k2 No Vo) := HXD.out.below hbe
          have HYE : Hid (Labs we y k2 No Vo) := HYD.out.below hbe
          clear hbe HFA m0 m1 HBLK HWD HXD HYD
          go_wp2_with fail
          go_loopw [15, 100, 101] (fun i _ _ wr => ∃ k q : Nat, k ≤ k2 ∧ i = .int .i64 k ∧ wr = we.drewN q) (fun i _ _ _ => k2 - (intOf i).toNat)
          case atStart => exact ⟨0, 0, Nat.zero_le _, rfl, rfl⟩
          case round =>
            obtain ⟨k, q, hk, rfl, rfl⟩ := hrel
            by_cases hkn : k < k2
            · obtain ⟨xb, xo, rfl, hcx⟩ := HXE.out.at k hkn
              obtain ⟨yb, yo, rfl, hcy⟩ := HYE.out.at k hkn
              obtain ⟨x0, x1⟩ := hcx k hkn
              obtain ⟨y0, y1⟩ := hcy k hkn
              have hk0 : (0 : Int) ≤ (k : Int) := by omega
              have hk1 : (k : Int) < (k2 : Int) := by omega
              clear hcx hcy
              generalize No k = tn at *
              generalize Vo k = tv at *
              go_wp2_with fail
              go_quiet (fail)
              go_wp2
              go_roundw
              case rel => exact ⟨k + 1, _, by omega, by go_num, by first | rfl | (rw [World.drewN_drewN])⟩
              case measure => simp [intOf] <;> omega
            · have hge : (k2 : Int) ≤ (k : Int) := by omega
              have n0' : (we.drewN q).cell? ⟨wc.heap.size, 0, none⟩ = some (.int .i64 0) := n0
              have HBq : Hid (Below w.heap.size w (we.drewN q)) := below_draws HBe.out q
              have HTX := (show Hid _ from HTX2.out (we.drewN q) HBq.out x cx (HXE.out))
              clear n0 hkn
              go_wp2_with fail
              refine Calls.mono HTX.out ?_
              rintro e wf ⟨t, v, rfl, hbf, hfv, ht, _⟩
              have hv := hfv.none HZ.out
              subst hv
              have ht' := ht HZ.out
              rw [HTXT.out] at ht'
              have HBf : Hid (Below w.heap.size w wf) := HBq.out.trans (hbf.mono HBq.out.size)
              clear ht hbf hfv HTX
              subst ht'
              go_wp2
              go_ret
              refine ⟨?_, HBf.out⟩
              simp
      · have dC : decide (0 < C) = false := decide_eq_false hC
        have hC0 : C = 0 := by omega
        have ht := HT0.out hC0
        have hv := HFV.out.none hC0
        obtain ⟨hn1, hn6, hgd, htz⟩ := HC0.out hC0
        subst hv
        have HTT := (show Hid _ from ht)
        have HLX := (show Hid _ from fun (w0 : World) (h0 : Below w.heap.size w w0) => labels_text w0 la n c N V (HP.out.below h0) (fun i hi => by have := HSZ.out i hi; omega) (by omega))
        have HR9 := (show Hid _ from lread_good w8 (HE.out.below HB8.out hBd) (textTo N V n) htz (labsOf N V n) hgd)
        rw [length_labsOf] at HR9
        rw [← HTT.out] at HR9 HLX
        clear ht hgd htz HT0 HT1 HC0 HTT
        go_wp2_with fail
        refine Calls.mono HR9.out ?_
        rintro e w9 ⟨x9, c9, rfl, hb9, _⟩
        have HB9 : Hid (Below w.heap.size w w9) := HB8.out.trans (hb9.mono HB8.out.size)
        clear hb9 HR9
        have HL9 := (show Hid _ from HLX.out w9 HB9.out)
        go_wp2_with fail
        refine Calls.mono HL9.out ?_
        rintro e w10 ⟨rfl, q10, hq10⟩
        have HB10 : Hid (Below w.heap.size w w10) := by rw [hq10]; exact below_draws HB9.out q10
        clear hq10 HL9 HLX
        have HRB : Hid (Below w.heap.size w w10) := HB10.out
        have hrl := HRB.out.size
        rcases bad_or_good s.data.toList with ⟨C2, A2, hbad, hC2⟩ | ⟨out, hgood⟩
        · have HRD := (show Hid _ from lread_bad w10 (HE.out.below HRB.out hBd) s (by omega) C2 A2 hbad)
          have HLO := (show Hid _ from fun w0 => lof_bad w0 s (by omega) C2 A2 hbad)
          have d2 : decide (0 < C2) = true := decide_eq_true hC2
          clear hbad
          go_wp2_with fail
          refine Calls.mono HRD.out ?_
          rintro e wb ⟨v2, rfl, hbb, hfv2⟩
          have HBb : Hid (Below w.heap.size w wb) := HRB.out.trans (hbb.mono hrl)
          have HFV2 : Hid (FaultV ea wb v2 C2 A2) := hfv2
          clear hbb hfv2 HRD
          go_wp2_with fail
          refine Calls.mono (HLO.out _) ?_
          rintro e wc ⟨rfl, hbc⟩
          have hcl := hbc.size
          obtain ⟨Wd, hWd⟩ : ∃ Wd, Wd = wc.alloc (.cells #[.int .i64 C2, .int .i64 A2] 39) := ⟨_, rfl⟩
          have hbd : Below wc.heap.size wc Wd := by rw [hWd]; exact (Below.refl _ _).alloc (Nat.le_refl _) _
          have hblk : Wd.heap[wc.heap.size]? = some (.cells #[.int .i64 C2, .int .i64 A2] 39 (0, 0)) := by rw [hWd]; exact heap_alloc_new _ _
          have hdl : wc.heap.size < Wd.heap.size := by rw [hWd]; simp
          have hbbd : Below wb.heap.size wb Wd := hbc.trans (hbd.mono hcl)
          have HBd : Hid (Below w.heap.size w Wd) := HBb.out.trans (hbbd.mono HBb.out.size)
          have HFA := (show Hid _ from faulted_v Wd (HE.out.below HBd.out hBd) (Nat.le_trans hBd HBd.out.size) v2 C2 A2 (HFV2.out.below hbbd))
          have HWD : Hid (∀ wx, wx = wc.alloc (.cells #[.int .i64 C2, .int .i64 A2] 39) → wx = Wd) := fun wx h => h.trans hWd.symm
          have m0 : Wd.cell? ⟨wc.heap.size, 0, none⟩ = some (.int .i64 C2) := by simp [World.cell?, hblk]
          have m1 : Wd.cell? ⟨wc.heap.size, 1, none⟩ = some (.int .i64 A2) := by simp [World.cell?, hblk]
          have HBLK := (show Hid _ from And.intro hblk hdl)
          clear hbc hcl hWd hbd hblk hbbd HFV2 HLO hdl
          go_wp2_with fail
          rw [HWD.out _ rfl]
          refine Calls.mono HFA.out ?_
          rintro e we ⟨rfl, hbe⟩
          have n0 : we.cell? ⟨wc.heap.size, 0, none⟩ = some (.int .i64 C2) := (hbe.cell (p := ⟨wc.heap.size, 0, none⟩) HBLK.out.2).trans m0
          have HBe : Hid (Below w.heap.size w we) := HBd.out.trans (hbe.mono HBd.out.size)
          clear hbe HFA m0 m1 HBLK HWD
          go_wp2_with fail
          refine wp_loop_rounds 1 ?_
          rw [rounds_succ]
          go_wp2
          go_ret
          exact ⟨rfl, HBe.out⟩
        · have hz := hgood.2
          have hgs := good_size out hz
          obtain ⟨k2, hk2⟩ : ∃ k2, out.length = k2 := ⟨_, rfl⟩
          have HRD := (show Hid _ from lread_good w10 (HE.out.below HRB.out hBd) s (by omega) out hgood)
          have HLO := (show Hid _ from fun w0 => lof_good w0 s (by omega) out hgood)
          have HTXT : Hid (textTo (nameAt out) (valueAt out) out.length = s) := good_text _ out hgood
          have HTX2 := (show Hid _ from fun (w0 : World) (hw0 : Below w.heap.size w w0) (x : Option Addr) (cx : Nat) (hL : Labs w0 x out.length (nameAt out) (valueAt out)) => ltext_f w0 (HE.out.below hw0 hBd) x out.length cx _ _ hL (fun i hi => by have := hgs.2.2 i hi; omega) (by omega))
          rw [hk2] at HRD HLO HTXT HTX2 hz hgs
          have HZ := (show Hid _ from hz)
          generalize nameAt out = No at *
          generalize valueAt out = Vo at *
          clear hgood hz hk2
          go_wp2_with fail
          refine Calls.mono HRD.out ?_
          rintro e wb ⟨x, cx, rfl, hbb, hLx⟩
          have HBb : Hid (Below w.heap.size w wb) := HRB.out.trans (hbb.mono hrl)
          have HLX : Hid (Labs wb x k2 No Vo) := hLx
          clear hbb hLx HRD
          go_wp2_with fail
          refine Calls.mono (HLO.out _) ?_
          rintro e wc ⟨y, cy, rfl, hbc, hLy⟩
          have hcl := hbc.size
          obtain ⟨Wd, hWd⟩ : ∃ Wd, Wd = wc.alloc (.cells #[.int .i64 0, .int .i64 (-1)] 39) := ⟨_, rfl⟩
          have hbd : Below wc.heap.size wc Wd := by rw [hWd]; exact (Below.refl _ _).alloc (Nat.le_refl _) _
          have hblk : Wd.heap[wc.heap.size]? = some (.cells #[.int .i64 0, .int .i64 (-1)] 39 (0, 0)) := by rw [hWd]; exact heap_alloc_new _ _
          have hdl : wc.heap.size < Wd.heap.size := by rw [hWd]; simp
          have hbbd : Below wb.heap.size wb Wd := hbc.trans (hbd.mono hcl)
          have HBd : Hid (Below w.heap.size w Wd) := HBb.out.trans (hbbd.mono HBb.out.size)
          have HFA := (show Hid _ from faulted_nil Wd (-1))
          have HWD : Hid (∀ wx, wx = wc.alloc (.cells #[.int .i64 0, .int .i64 (-1)] 39) → wx = Wd) := fun wx h => h.trans hWd.symm
          have m0 : Wd.cell? ⟨wc.heap.size, 0, none⟩ = some (.int .i64 0) := by simp [World.cell?, hblk]
          have m1 : Wd.cell? ⟨wc.heap.size, 1, none⟩ = some (.int .i64 (-1)) := by simp [World.cell?, hblk]
          have HXD : Hid (Labs Wd x k2 No Vo) := HLX.out.below hbbd
          have HYD : Hid (Labs Wd y k2 No Vo) := hLy.below hbd
          have HBLK := (show Hid _ from And.intro hblk hdl)
          clear hbc hcl hWd hbd hblk hbbd HLX hLy HLO hdl
          go_wp2_with fail
          rw [HWD.out _ rfl]
          refine Calls.mono HFA.out ?_
          rintro e we ⟨rfl, hbe⟩
          have n0 : we.cell? ⟨wc.heap.size, 0, none⟩ = some (.int .i64 0) := (hbe.cell (p := ⟨wc.heap.size, 0, none⟩) HBLK.out.2).trans m0
          have HBe : Hid (Below w.heap.size w we) := HBd.out.trans (hbe.mono HBd.out.size)
          have HXE : Hid (Labs we x k2 No Vo) := HXD.out.below hbe
          have HYE : Hid (Labs we y k2 No Vo) := HYD.out.below hbe
          clear hbe HFA m0 m1 HBLK HWD HXD HYD
          go_wp2_with fail
          go_loopw [15, 100, 101] (fun i _ _ wr => ∃ k q : Nat, k ≤ k2 ∧ i = .int .i64 k ∧ wr = we.drewN q) (fun i _ _ _ => k2 - (intOf i).toNat)
          case atStart => exact ⟨0, 0, Nat.zero_le _, rfl, rfl⟩
          case round =>
            obtain ⟨k, q, hk, rfl, rfl⟩ := hrel
            by_cases hkn : k < k2
            · obtain ⟨xb, xo, rfl, hcx⟩ := HXE.out.at k hkn
              obtain ⟨yb, yo, rfl, hcy⟩ := HYE.out.at k hkn
              obtain ⟨x0, x1⟩ := hcx k hkn
              obtain ⟨y0, y1⟩ := hcy k hkn
              have hk0 : (0 : Int) ≤ (k : Int) := by omega
              have hk1 : (k : Int) < (k2 : Int) := by omega
              clear hcx hcy
              generalize No k = tn at *
              generalize Vo k = tv at *
              go_wp2_with fail
              go_quiet (fail)
              go_wp2
              go_roundw
              case rel => exact ⟨k + 1, _, by omega, by go_num, by first | rfl | (rw [World.drewN_drewN])⟩
              case measure => simp [intOf] <;> omega
            · have hge : (k2 : Int) ≤ (k : Int) := by omega
              have n0' : (we.drewN q).cell? ⟨wc.heap.size, 0, none⟩ = some (.int .i64 0) := n0
              have HBq : Hid (Below w.heap.size w (we.drewN q)) := below_draws HBe.out q
              have HTX := (show Hid _ from HTX2.out (we.drewN q) HBq.out x cx (HXE.out))
              clear n0 hkn
              go_wp2_with fail
              refine Calls.mono HTX.out ?_
              rintro e wf ⟨t, v, rfl, hbf, hfv, ht, _⟩
              have hv := hfv.none HZ.out
              subst hv
              have ht' := ht HZ.out
              rw [HTXT.out] at ht'
              have HBf : Hid (Below w.heap.size w wf) := HBq.out.trans (hbf.mono HBq.out.size)
              clear ht hbf hfv HTX
              subst ht'
              go_wp2
              go_ret
              refine ⟨?_, HBf.out⟩
              simp
end Go.Proofs.YtfgbphoiliiifabDoor
