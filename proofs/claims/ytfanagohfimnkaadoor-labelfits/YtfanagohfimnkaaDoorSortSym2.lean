/- slices' symMerge where the right side is one alone, by its contract. -/
import Derived.Test.YtfanagohfimnkaaDoorSortSym1
namespace Go.Proofs.YtfanagohfimnkaaDoor
open Go.RowKit SortMath

set_option maxRecDepth 1000000 in
set_option maxHeartbeats 4000000 in
theorem sym_right (p : SP) (hn : p.n ≤ 100) (D : Nat → Nat) (a m b : Nat) (w : World) (h : At p D w) (h1 : a + 1 < m) (h2 : m + 1 = b) (h3 : b ≤ p.n) (hN : ∀ k, k < p.n → D k < p.n) (hL : Srt (ltX p.X) D a m) (hX : Cross D a m b) :
    Calls Tryd.prog 81 #[rowV p, .int .i64 (a : Int), .int .i64 (m : Int), .int .i64 (b : Int), cmpF p] w fun e w' => MergeOut p D a b e w' := by
  have H : Hid (At p D w) := h
  have HR := (show Hid _ from hL)
  have HX := (show Hid _ from hX)
  have HN := (show Hid _ from hN)
  have d0 : ((m : Int) - (a : Int) == 1) = false := by rw [beq_eq_false_iff_ne]; omega
  have d1 : ((b : Int) - (m : Int) == 1) = true := by rw [beq_iff_eq]; omega
  have hS := swX p.X
  have HS := (show Hid _ from hS)
  clear h hL hX hN hS
  unfold rowV cmpF
  go_enter Tryd.func81, Tryd.ntmps81
  go_wp2_with fail
  go_loopw [14, 15, 16] (fun i j _ wr => ∃ (x y : Nat), a ≤ x ∧ x ≤ y ∧ y ≤ m ∧ i = .int .i64 x ∧ j = .int .i64 y ∧ At p D wr ∧ (∀ h, a ≤ h → h < x → ltX p.X (D m) (D h) = false) ∧ (∀ h, y ≤ h → h < m → ltX p.X (D m) (D h) = true)) (fun i j _ _ => (intOf j).toNat - (intOf i).toNat)
  case atStart => exact ⟨a, m, Nat.le_refl _, by omega, Nat.le_refl _, rfl, rfl, H.out, fun h _ _ => by omega, fun h _ _ => by omega⟩
  case round =>
    obtain ⟨x, y, hx, hxy, hyb, rfl, rfl, hatr, p1, p2⟩ := hrel
    have HATR : Hid (At p D wr) := hatr
    clear hatr
    by_cases hlt : x < y
    · have hltI : (x : Int) < (y : Int) := by omega
      obtain ⟨z, hz⟩ : ∃ z, z = (x + y) / 2 := ⟨_, rfl⟩
      have hz1 : x ≤ z := by omega
      have hz2 : z < y := by omega
      have c1 := HATR.out.cell (i := z) (by omega)
      have c2 := HATR.out.cell (i := m) (by omega)
      have HC : Hid (∀ q', Calls Tryd.prog 45 #[.int .i64 (D m : Int), .int .i64 (D z : Int), .pointer (some ⟨p.tb, 0, none⟩)] (wr.drewN q') fun e w' => e = .returned (.int .i64 (cmpV p.X (D m) (D z))) ∧ ∃ q, w' = (wr.drewN q').drewN q) := fun q' => order1_any p D (D m) (D z) _ (HATR.out.drewN q') (HN.out m (by omega)) (HN.out z (by omega))
      have hcv := cmpV_less p.X (D m) (D z)
      have i1 : (0 : Int) ≤ (z : Int) := by omega
      have i2 : (z : Int) < (p.n : Int) := by omega
      have i3 : (0 : Int) ≤ (m : Int) := by omega
      have i4 : (m : Int) < (p.n : Int) := by omega
      have HZ : Hid (((x : Int) + (y : Int)) / 2 = (z : Int)) := by show _ = _; omega
      have HP1 := (show Hid _ from p1)
      have HP2 := (show Hid _ from p2)
      have HMONO : Hid (∀ h h', a ≤ h → h < h' → h' < m → ltX p.X (D m) (D h) = true → ltX p.X (D m) (D h') = true) := fun h h' g1 g2 g3 g4 => lt_kl HS.out g4 (HR.out h h' g1 g2 g3)
      have HCV : Hid (∀ t, decide (cmpV p.X (D m) (D z) < 0) = t → ltX p.X (D m) (D z) = t) := fun t ht => by rw [← hcv]; exact ht
      generalize cmpV p.X (D m) (D z) = cv at *
      obtain ⟨dz, hdz⟩ : ∃ dz, D z = dz := ⟨_, rfl⟩
      obtain ⟨dm, hdm⟩ : ∃ dm, D m = dm := ⟨_, rfl⟩
      rw [hdz] at c1 HC
      rw [hdm] at c2 HC
      clear hcv p1 p2 hdz hdm hz
      go_wp2_with fail
      rw [HZ.out]
      cases ht : decide (cv < 0) with
      | true =>
        go_quiet (first | (go_at_call 45; refine Calls.quiet_of (HC.out _)))
        go_wp2
        go_roundw
        case rel =>
          refine ⟨x, z, hx, by omega, by omega, rfl, rfl, HATR.out.drewN _, HP1.out, fun h g1 g2 => ?_⟩
          have hz0 := HCV.out _ ht
          rcases Nat.lt_or_ge z h with g | g
          · exact HMONO.out z h (by omega) g g2 hz0
          · have : h = z := by omega
            rw [this]
            exact hz0
        case measure => simp [intOf] <;> omega
      | false =>
        go_quiet (first | (go_at_call 45; refine Calls.quiet_of (HC.out _)))
        go_wp2
        go_roundw
        case rel =>
          refine ⟨z + 1, y, by omega, by omega, hyb, by go_num, rfl, HATR.out.drewN _, fun h g1 g2 => ?_, HP2.out⟩
          have hz0 := HCV.out _ ht
          cases hh : ltX p.X (D m) (D h) with
          | false => rfl
          | true =>
            rcases Nat.lt_or_ge h z with g | g
            · rw [HMONO.out h z g1 g (by omega) hh] at hz0
              cases hz0
            · have : h = z := by omega
              rw [this, hz0] at hh
              cases hh
        case measure => simp [intOf] <;> omega
    · have hxe : x = y := by omega
      subst hxe
      have HFIN : Hid (Sub (shr D x m) D a b ∧ Srt (ltX p.X) (shr D x m) a b) := by
        subst h2
        exact shr_fin HR.out HX.out hx hyb p1 p2
      have HAT : Hid (At p D wr) := HATR.out
      clear p1 p2 H HATR
      go_wp2_with fail
      go_loopw [17, 108, 109] (fun k _ _ wr => ∃ z : Nat, x ≤ z ∧ z ≤ m ∧ k = .int .i64 z ∧ At p (shr D z m) wr) (fun k _ _ _ => (intOf k).toNat)
      case atStart => exact ⟨m, hyb, Nat.le_refl _, rfl, by rw [shr_zero]; exact HAT.out⟩
      case round =>
        obtain ⟨z, hz1, hz2, rfl, hat⟩ := hrel
        by_cases hlt2 : x < z
        · obtain ⟨y, rfl⟩ : ∃ y, z = y + 1 := ⟨z - 1, by omega⟩
          have j0 : (x : Int) < (y : Int) + 1 := by omega
          have j1 : (0 : Int) ≤ (y : Int) + 1 := by omega
          have j2 : (y : Int) + 1 < (p.n : Int) := by omega
          have j3 : (0 : Int) ≤ (y : Int) + 1 - 1 := by omega
          have j4 : (y : Int) + 1 - 1 < (p.n : Int) := by omega
          have c1 := hat.cell (i := y + 1) (by omega)
          have c2 := hat.cell (i := y) (by omega)
          have f1 := hat.free (y + 1)
          have f2 := hat.free y
          have hsw := hat.swap (i := y + 1) (j := y) (by omega) (by omega) (by omega)
          rw [shr_step D y m hz2] at hsw
          have HSW := (show Hid _ from hsw)
          obtain ⟨u, hu⟩ : ∃ u, shr D (y + 1) m (y + 1) = u := ⟨_, rfl⟩
          obtain ⟨v, hv⟩ : ∃ v, shr D (y + 1) m y = v := ⟨_, rfl⟩
          rw [hu] at c1 HSW
          rw [hv] at c2 HSW
          clear hat hsw hu hv HAT
          go_wp2_with fail
          go_region
          all_goals (go_wp2; refine ⟨⟨y, by omega, by omega, by go_num, HSW.out.drew⟩, ?_⟩; simp [intOf] <;> omega)
        · have hze : z = x := by omega
          have j0 : decide ((x : Int) < (z : Int)) = false := by simp; omega
          subst hze
          have HAT2 := (show Hid _ from hat)
          clear hat HAT
          go_wp2
          exact bodyPost_ret (v := .tuple #[]) (results_none rfl _ _ _) rfl ⟨rfl, _, HAT2.out, HFIN.out.1, HFIN.out.2⟩
end Go.Proofs.YtfanagohfimnkaaDoor
