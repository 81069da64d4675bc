/- slices' insertion sort by its contract. -/
import Derived.Test.YtfanagohfimnkaaDoorSortSwap
namespace Go.Proofs.YtfanagohfimnkaaDoor
open Go.RowKit SortMath

set_option maxRecDepth 1000000 in
set_option maxHeartbeats 4000000 in
theorem ins_any (p : SP) (hn : p.n ≤ 100) (D0 : Nat → Nat) (a b : Nat) (w : World) (h : At p D0 w) (h1 : a ≤ b) (h2 : b ≤ p.n) (hN : ∀ k, k < p.n → D0 k < p.n) (hI : ∀ i j, a ≤ i → i < j → j < b → D0 i < D0 j) :
    Calls Tryd.prog 80 #[rowV p, .int .i64 (a : Int), .int .i64 (b : Int), cmpF p] w fun e w' => e = .returned (.tuple #[]) ∧ ∃ D', At p D' w' ∧ Sub D' D0 a b ∧ Srt (ltX p.X) D' a b := by
  have H : Hid (At p D0 w) := h
  have HI := (show Hid _ from hI)
  have HN := (show Hid _ from hN)
  have HS : Hid (SW (ltX p.X)) := swX p.X
  clear h hI hN
  unfold rowV cmpF
  go_enter Tryd.func80, Tryd.ntmps80
  go_wp2_with fail
  go_loopw [8, 9, 12] (fun i _ _ wr => ∃ (x : Nat) (D : Nat → Nat), a + 1 ≤ x ∧ (x ≤ b ∨ x = a + 1) ∧ i = .int .i64 x ∧ At p D wr ∧ Sub D D0 a x ∧ Srt (ltX p.X) D a x ∧ x ≤ b + 1) (fun i _ _ _ => b + 1 - (intOf i).toNat)
  case atStart => exact ⟨a + 1, D0, Nat.le_refl _, .inr rfl, by go_num, H.out, Sub.refl _ _ _, fun i j g1 g2 g3 => by omega, by omega⟩
  case round =>
    obtain ⟨x, D, hx1, hx2, rfl, hat, hsub, hsrt, hx3⟩ := hrel
    have HAT := (show Hid _ from hat)
    have HSUB : Hid (Sub D D0 a x) := hsub
    have HSRT : Hid (Srt (ltX p.X) D a x) := hsrt
    clear hat hsub hsrt H
    by_cases hlt : x < b
    · have hltI : (x : Int) < (b : Int) := by omega
      have HX : Hid (Cross D a x (x + 1)) := fun i j g1 g2 g3 g4 => by
        obtain ⟨k, k1, k2, ek⟩ := HSUB.out.2 i g1 g2
        have : j = x := by omega
        rw [this, ek, HSUB.out.1 x (.inr (Nat.le_refl _))]
        exact HI.out k x k1 k2 hlt
      have HN2 : Hid (∀ k, k < p.n → D k < p.n) := HSUB.out.less (by omega) HN.out
      go_wp2_with fail
      go_loopw [9, 18, 19] (fun j _ _ wr => ∃ y : Nat, a ≤ y ∧ y ≤ x ∧ j = .int .i64 y ∧ At p (shr D y x) wr ∧ ∀ h, y ≤ h → h < x → ltX p.X (D x) (D h) = true) (fun j _ _ _ => (intOf j).toNat)
      case atStart => exact ⟨x, by omega, Nat.le_refl _, rfl, by rw [shr_zero]; exact HAT.out, fun h g1 g2 => by omega⟩
      case round =>
        obtain ⟨y, hy1, hy2, rfl, haty, p2⟩ := hrel
        have HATY := (show Hid _ from haty)
        have HP2 := (show Hid _ from p2)
        clear haty p2
        have HFIN : Hid ((∀ h, a ≤ h → h < y → ltX p.X (D x) (D h) = false) → Sub (shr D y x) D0 a (x + 1) ∧ Srt (ltX p.X) (shr D y x) a (x + 1)) := fun g => by
          have k := shr_fin HSRT.out HX.out hy1 hy2 g HP2.out
          exact ⟨k.1.trans (HSUB.out.wide (Nat.le_refl _) (by omega)), k.2⟩
        by_cases hya : a < y
        · obtain ⟨z, rfl⟩ : ∃ z, y = z + 1 := ⟨y - 1, by omega⟩
          have j0 : (a : Int) < (z : Int) + 1 := by omega
          have dj : decide ((a : Int) < (z : Int) + 1) = true := decide_eq_true j0
          have j1 : (0 : Int) ≤ (z : Int) + 1 := by omega
          have j2 : (z : Int) + 1 < (p.n : Int) := by omega
          have j3 : (0 : Int) ≤ (z : Int) + 1 - 1 := by omega
          have j4 : (z : Int) + 1 - 1 < (p.n : Int) := by omega
          have ex : shr D (z + 1) x (z + 1) = D x := by unfold shr; rw [if_neg (by omega), if_pos rfl]
          have ez : shr D (z + 1) x z = D z := by unfold shr; rw [if_neg (by omega), if_neg (by omega)]
          have c1 := HATY.out.cell (i := z + 1) (by omega)
          have c2 := HATY.out.cell (i := z) (by omega)
          have hsw := HATY.out.drewN
          rw [ex] at c1
          rw [ez] at c2
          have f1 : ∀ q, (wr.drewN q).frozen? ⟨p.g, z + 1, none⟩ = false := fun q => (HATY.out.drewN q).free (z + 1)
          have f2 : ∀ q, (wr.drewN q).frozen? ⟨p.g, z, none⟩ = false := fun q => (HATY.out.drewN q).free z
          have HSW : Hid (∀ q, At p (shr D z x) (((wr.drewN q).setCell ⟨p.g, z + 1, none⟩ (.int .i64 (D z : Int))).setCell ⟨p.g, z, none⟩ (.int .i64 (D x : Int)))) := fun q => by
            have k := (HATY.out.drewN q).swap (i := z + 1) (j := z) (by omega) (by omega) (by omega)
            rw [shr_step D z x hy2, ex, ez] at k
            exact k
          have HC : Hid (∀ q', Calls Tryd.prog 45 #[.int .i64 (D x : Int), .int .i64 (D z : Int), .pointer (some ⟨p.tb, 0, none⟩)] (wr.drewN q') fun e w' => e = .returned (.int .i64 (cmpV p.X (D x) (D z))) ∧ ∃ q, w' = (wr.drewN q').drewN q) := fun q' => order1_any p _ (D x) (D z) _ (HATY.out.drewN q') (HN2.out x (by omega)) (HN2.out z (by omega))
          have hcv := cmpV_less p.X (D x) (D z)
          have HCV : Hid (∀ t, decide (cmpV p.X (D x) (D z) < 0) = t → ltX p.X (D x) (D z) = t) := fun t ht => by rw [← hcv]; exact ht
          generalize cmpV p.X (D x) (D z) = cv at *
          obtain ⟨dx, hdx⟩ : ∃ dx, D x = dx := ⟨_, rfl⟩
          obtain ⟨dz, hdz⟩ : ∃ dz, D z = dz := ⟨_, rfl⟩
          rw [hdx] at c1 HC HSW
          rw [hdz] at c2 HC HSW
          clear hcv hdx hdz ex ez hsw
          cases ht : decide (cv < 0) with
          | true =>
            go_wp2_with fail
            go_quiet (first | (go_at_call 45; refine Calls.quiet_of (HC.out _)))
            have f1' := f1 nq
            have f2' := f2 nq
            go_wp2_with fail
            go_region
            all_goals
              go_wp2
              refine ⟨⟨z, by omega, by omega, by go_num, (HSW.out nq).drew, fun h g1 g2 => ?_⟩, ?_⟩
              · rcases Nat.lt_or_ge h (z + 1) with g | g
                · have : h = z := by omega
                  rw [this]
                  exact HCV.out _ ht
                · exact HP2.out h g g2
              · simp [intOf]
          | false =>
            go_wp2_with fail
            go_quiet (first | (go_at_call 45; refine Calls.quiet_of (HC.out _)))
            have HF2 := (show Hid _ from HFIN.out (fun h g1 g2 => by
              have hz0 := HCV.out _ ht
              cases hh : ltX p.X (D x) (D h) with
              | false => rfl
              | true =>
                rcases Nat.lt_or_ge h z with g | g
                · rw [lt_kl HS.out hh (HSRT.out h z g1 g (by omega))] at hz0
                  cases hz0
                · have : h = z := by omega
                  rw [this, hz0] at hh
                  cases hh))
            go_wp2
            go_roundw
            case rel => exact ⟨x + 1, _, by omega, .inl (by omega), by go_num, HATY.out.drewN _, HF2.out.1, HF2.out.2, by omega⟩
            case measure => simp [intOf] <;> omega
        · have hye : y = a := by omega
          have dj : decide ((a : Int) < (y : Int)) = false := by simp; omega
          have HF2 := (show Hid _ from HFIN.out (fun h g1 g2 => by omega))
          clear HFIN
          go_wp2_with fail
          go_quiet (fail)
          go_wp2
          go_roundw
          case rel => exact ⟨x + 1, _, by omega, .inl (by omega), by go_num, HATY.out.drewN _, HF2.out.1, HF2.out.2, by omega⟩
          case measure => simp [intOf] <;> omega
    · have hltI : decide ((x : Int) < (b : Int)) = false := by simp; omega
      go_wp2
      go_end0
      refine ⟨rfl, D, HAT.out, ?_⟩
      have hbx : b ≤ x := by omega
      rcases hx2 with g | g
      · have : x = b := by omega
        rw [← this]
        exact ⟨HSUB.out, HSRT.out⟩
      · refine ⟨?_, fun i j g1 g2 g3 => by omega⟩
        by_cases hab : a < b
        · have : x = b := by omega
          rw [← this]
          exact HSUB.out
        · have hba : b = a := by omega
          rw [hba]
          refine ⟨fun i _ => ?_, fun i g1 g2 => by omega⟩
          by_cases hi : a ≤ i ∧ i < x
          · obtain ⟨j, j1, j2, ej⟩ := HSUB.out.2 i hi.1 hi.2
            have e1 : i = a := by omega
            have e2 : j = a := by omega
            rw [ej, e1, e2]
          · exact HSUB.out.1 i (by omega)
end Go.Proofs.YtfanagohfimnkaaDoor
