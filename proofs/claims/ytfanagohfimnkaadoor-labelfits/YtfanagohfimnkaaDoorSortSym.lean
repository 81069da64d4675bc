/- slices' symMerge by its contract. -/
import Derived.Test.YtfanagohfimnkaaDoorSortSym2
import Derived.Deep.CutRange
namespace Go.Proofs.YtfanagohfimnkaaDoor
open Go.RowKit SortMath

/-- Where the search for a cut begins and ends. -/
def Seek (a m b mid lo hi : Nat) : Prop := (mid < m ∧ lo = mid + m - b ∧ hi = mid) ∨ (m ≤ mid ∧ lo = a ∧ hi = m)

set_option maxRecDepth 1000000 in
set_option maxHeartbeats 8000000 in
theorem sym_any (p : SP) (hn : p.n ≤ 100) : ∀ (d : Nat) (D : Nat → Nat) (a m b : Nat) (w : World), b - a ≤ d → At p D w → a < m → m < b → b ≤ p.n → (∀ k, k < p.n → D k < p.n) → Srt (ltX p.X) D a m → Srt (ltX p.X) D m b → Cross D a m b →
    Calls Tryd.prog 81 #[rowV p, .int .i64 (a : Int), .int .i64 (m : Int), .int .i64 (b : Int), cmpF p] w fun e w' => MergeOut p D a b e w' := by
  intro d
  induction d with
  | zero => intro D a m b w hd _ h1 h2; omega
  | succ d ih =>
    intro D a m b w hd h h1 h2 h3 hN hL hR hX
    by_cases hl : a + 1 = m
    · exact sym_left p hn D a m b w h hl h2 h3 hN hR hX
    by_cases hr : m + 1 = b
    · exact sym_right p hn D a m b w h (by omega) hr h3 hN hL hX
    have IH : Hid _ := ih
    have H : Hid (At p D w) := h
    have HLR : Hid (Srt (ltX p.X) D a m ∧ Srt (ltX p.X) D m b ∧ Cross D a m b) := ⟨hL, hR, hX⟩
    have HN := (show Hid _ from hN)
    have d0 : ((m : Int) - (a : Int) == 1) = false := by rw [beq_eq_false_iff_ne]; omega
    have d1 : ((b : Int) - (m : Int) == 1) = false := by rw [beq_eq_false_iff_ne]; omega
    have HS : Hid (SW (ltX p.X)) := swX p.X
    obtain ⟨mid, hmid⟩ : ∃ mid, mid = (a + b) / 2 := ⟨_, rfl⟩
    have HMID : Hid (((a : Int) + (b : Int)) / 2 = (mid : Int)) := by show _ = _; omega
    have hm1 : a < mid := by omega
    have hm2 : mid < b := by omega
    have hm3 : 2 * mid ≤ a + b := by omega
    have hm4 : a + b ≤ 2 * mid + 1 := by omega
    obtain ⟨lo, hi, hseek⟩ : ∃ lo hi, Seek a m b mid lo hi := by
      by_cases hmm : mid < m
      · exact ⟨mid + m - b, mid, .inl ⟨hmm, rfl, rfl⟩⟩
      · exact ⟨a, m, .inr ⟨by omega, rfl, rfl⟩⟩
    have hlo : a ≤ lo ∧ lo ≤ hi ∧ hi ≤ m ∧ hi ≤ mid ∧ mid + m - lo ≤ b ∧ m ≤ mid + m - hi := by
      rcases hseek with ⟨q1, q2, q3⟩ | ⟨q1, q2, q3⟩ <;> omega
    clear ih h hL hR hX hN hmid
    unfold rowV cmpF
    go_enter Tryd.func81, Tryd.ntmps81
    go_upto_if 140 with fail
    rw [HMID.out]
    go_cut [20, 21] from 140 to 146 (fun s r wx => s = .int .i64 (lo : Int) ∧ r = .int .i64 (hi : Int) ∧ wx = w)
    case first =>
      rcases hseek with ⟨q1, q2, q3⟩ | ⟨q1, q2, q3⟩
      · have dm : decide ((mid : Int) < (m : Int)) = true := by simp; omega
        go_wp2_with fail
        go_meet
        exact ⟨by rw [show (lo : Int) = (mid : Int) + (m : Int) - (b : Int) by omega], by rw [q3], rfl⟩
      · have dm : decide ((mid : Int) < (m : Int)) = false := by simp; omega
        go_wp2_with fail
        go_meet
        exact ⟨by rw [q2], by rw [q3], rfl⟩
    case rest =>
      obtain ⟨e20, e21, e22⟩ := hcut
      subst e20 e21 e22
      obtain ⟨P1, hP1⟩ : ∃ P1, P1 = mid + m - 1 := ⟨_, rfl⟩
      have HP : Hid ((mid : Int) + (m : Int) - 1 = (P1 : Int)) := by show _ = _; omega
      have hin : ∀ c, lo ≤ c → c < hi → a ≤ c ∧ c < m ∧ m ≤ P1 - c ∧ P1 - c < b ∧ c ≤ P1 := fun c g1 g2 => by omega
      have HPP := (show Hid _ from hP1)
      clear hP1
      go_wp2_with fail
      rw [HP.out]
      go_loopw [20, 21, 23] (fun i j _ wr => ∃ (x y : Nat), lo ≤ x ∧ x ≤ y ∧ y ≤ hi ∧ i = .int .i64 x ∧ j = .int .i64 y ∧ At p D wr ∧ (∀ c, lo ≤ c → c < x → ltX p.X (D (P1 - c)) (D c) = false) ∧ (∀ c, y ≤ c → c < hi → ltX p.X (D (P1 - c)) (D c) = true)) (fun i j _ _ => (intOf j).toNat - (intOf i).toNat)
      case atStart => exact ⟨lo, hi, Nat.le_refl _, by omega, Nat.le_refl _, rfl, rfl, H.out, fun h _ _ => by omega, fun h _ _ => by omega⟩
      case round =>
        obtain ⟨x, y, hx, hxy, hyb, rfl, rfl, hatr, p1, p2⟩ := hrel
        have HATR : Hid (At p D wr) := hatr
        clear hatr
        by_cases hlt : x < y
        · have hltI : (x : Int) < (y : Int) := by omega
          obtain ⟨z, hz⟩ : ∃ z, z = (x + y) / 2 := ⟨_, rfl⟩
          have hz1 : x ≤ z := by omega
          have hz2 : z < y := by omega
          have hzi := hin z (by omega) (by omega)
          have c1 := HATR.out.cell (i := P1 - z) (by omega)
          have c2 := HATR.out.cell (i := z) (by omega)
          have HC : Hid (∀ q', Calls Tryd.prog 45 #[.int .i64 (D (P1 - z) : Int), .int .i64 (D z : Int), .pointer (some ⟨p.tb, 0, none⟩)] (wr.drewN q') fun e w' => e = .returned (.int .i64 (cmpV p.X (D (P1 - z)) (D z))) ∧ ∃ q, w' = (wr.drewN q').drewN q) := fun q' => order1_any p D (D (P1 - z)) (D z) _ (HATR.out.drewN q') (HN.out (P1 - z) (by omega)) (HN.out z (by omega))
          have hcv := cmpV_less p.X (D (P1 - z)) (D z)
          have i1 : (0 : Int) ≤ (z : Int) := by omega
          have i2 : (z : Int) < (p.n : Int) := by omega
          have i3 : (0 : Int) ≤ (P1 : Int) - (z : Int) := by omega
          have i4 : (P1 : Int) - (z : Int) < (p.n : Int) := by omega
          have HZ : Hid (((x : Int) + (y : Int)) / 2 = (z : Int)) := by show _ = _; omega
          have HP1 := (show Hid _ from p1)
          have HP2 := (show Hid _ from p2)
          have HMONO : Hid (∀ h h', lo ≤ h → h < h' → h' < hi → ltX p.X (D (P1 - h)) (D h) = true → ltX p.X (D (P1 - h')) (D h') = true) := fun h h' g1 g2 g3 g4 => by
            have k1 := hin h g1 (by omega)
            have k2 := hin h' (by omega) g3
            exact lt_kl HS.out (kl_lt HS.out (HLR.out.2.1 (P1 - h') (P1 - h) (by omega) (by omega) (by omega)) g4) (HLR.out.1 h h' (by omega) g2 (by omega))
          have HCV : Hid (∀ t, decide (cmpV p.X (D (P1 - z)) (D z) < 0) = t → ltX p.X (D (P1 - z)) (D z) = t) := fun t ht => by rw [← hcv]; exact ht
          generalize cmpV p.X (D (P1 - z)) (D z) = cv at *
          obtain ⟨dz, hdz⟩ : ∃ dz, D z = dz := ⟨_, rfl⟩
          obtain ⟨dp, hdp⟩ : ∃ dp, D (P1 - z) = dp := ⟨_, rfl⟩
          rw [hdz] at c2 HC
          rw [hdp] at c1 HC
          obtain ⟨u, hu⟩ : ∃ u, u = P1 - z := ⟨_, rfl⟩
          rw [← hu] at c1
          have hui : (P1 : Int) - (z : Int) = (u : Int) := by omega
          have i5 : (0 : Int) ≤ (u : Int) := by omega
          have i6 : (u : Int) < (p.n : Int) := by omega
          clear hu i3 i4
          clear hcv p1 p2 hdz hdp hz hin
          go_wp2_with fail
          rw [HZ.out]
          cases ht : decide (cv < 0) with
          | true =>
            go_quiet (first | (go_at_call 45; refine Calls.quiet_of (HC.out _)))
            go_wp2
            go_roundw
            case rel =>
              refine ⟨x, z, hx, by omega, by omega, rfl, rfl, HATR.out.drewN _, HP1.out, fun h g1 g2 => ?_⟩
              have hz0 := HCV.out _ ht
              rcases Nat.lt_or_ge z h with g | g
              · exact HMONO.out z h (by omega) g g2 hz0
              · have : h = z := by omega
                rw [this]
                exact hz0
            case measure => simp [intOf] <;> omega
          | false =>
            go_quiet (first | (go_at_call 45; refine Calls.quiet_of (HC.out _)))
            go_wp2
            go_roundw
            case rel =>
              refine ⟨z + 1, y, by omega, by omega, hyb, by go_num, rfl, HATR.out.drewN _, fun h g1 g2 => ?_, HP2.out⟩
              have hz0 := HCV.out _ ht
              cases hh : ltX p.X (D (P1 - h)) (D h) with
              | false => rfl
              | true =>
                rcases Nat.lt_or_ge h z with g | g
                · rw [HMONO.out h z g1 g (by omega) hh] at hz0
                  cases hz0
                · have : h = z := by omega
                  rw [this, hz0] at hh
                  cases hh
            case measure => simp [intOf] <;> omega
        · have hxe : x = y := by omega
          subst hxe
          have hP1 := HPP.out
          obtain ⟨E, hE⟩ : ∃ E, E = mid + m - x := ⟨_, rfl⟩
          have HE : Hid ((mid : Int) + (m : Int) - (x : Int) = (E : Int)) := by show _ = _; omega
          have q1 : a ≤ x := by omega
          have q2 : x ≤ mid := by omega
          have q3 : x ≤ m := by omega
          have q4 : m ≤ E := by omega
          have q5 : E ≤ b := by omega
          have q6 : mid ≤ E := by omega
          have hc1 : x < m → m < mid + m - x → ltX p.X (D (mid + m - x - 1)) (D x) = true := fun g1 g2 => by
            have := p2 x (Nat.le_refl _) (by rcases hseek with ⟨r1, r2, r3⟩ | ⟨r1, r2, r3⟩ <;> omega)
            rw [show mid + m - x - 1 = P1 - x by omega]
            exact this
          have hc2 : a < x → mid + m - x < b → ltX p.X (D (mid + m - x)) (D (x - 1)) = false := fun g1 g2 => by
            have := p1 (x - 1) (by rcases hseek with ⟨r1, r2, r3⟩ | ⟨r1, r2, r3⟩ <;> omega) (by omega)
            rw [show mid + m - x = P1 - (x - 1) by omega]
            exact this
          have HH : Hid (∀ i j, a ≤ i → i < mid → mid ≤ j → j < b → kl (ltX p.X) (rot D x m E i) (rot D x m E j)) := by
            rw [hE]
            exact halves HS.out HLR.out.1 HLR.out.2.1 HLR.out.2.2 q1 q2 q3 (by omega) (by omega) hc1 hc2
          have HPT := (show Hid _ from rot_parts HLR.out.1 HLR.out.2.1 HLR.out.2.2 q1 q2 q3 (by omega) (by omega : mid + m - x ≤ b))
          rw [← hE] at HPT
          have HSB : Hid (Sub (rot D x m E) D a b) := (rot_sub D x m E q3 q4).wide q1 q5
          have HN1 : Hid (∀ k, k < p.n → rot D x m E k < p.n) := HSB.out.less h3 HN.out
          have HSAME : Hid (x = m ∨ m = E → rot D x m E = D) := fun g => rot_same D x m E q4 g
          have HRO : Hid (∀ w0, At p D w0 → x < m → m < E → Calls Tryd.prog 99 #[.slice (some ⟨p.g, 0, none⟩) p.n p.cap, .int .i64 (x : Int), .int .i64 (m : Int), .int .i64 (E : Int), .func (.func 45) #[] #[.pointer (some ⟨p.tb, 0, none⟩)]] w0 fun e w' => e = .returned (.tuple #[]) ∧ At p (rot D x m E) w') := fun w0 h0 g1 g2 => rotate_any p hn D x m E _ w0 h0 g1 g2 (by omega)
          have HIH : Hid (∀ (D : Nat → Nat) (a m b : Nat) (w : World), b - a ≤ d → At p D w → a < m → m < b → b ≤ p.n → (∀ k, k < p.n → D k < p.n) → Srt (ltX p.X) D a m → Srt (ltX p.X) D m b → Cross D a m b → Calls Tryd.prog 81 #[.slice (some ⟨p.g, 0, none⟩) p.n p.cap, .int .i64 (a : Int), .int .i64 (m : Int), .int .i64 (b : Int), .func (.func 45) #[] #[.pointer (some ⟨p.tb, 0, none⟩)]] w fun e w' => MergeOut p D a b e w') := IH.out
          have HAT : Hid (At p D wr) := HATR.out
          clear p1 p2 H HATR hc1 hc2 hE hin HLR HN HS IH hP1
          go_upto_region 39 with fail
          rw [HE.out]
          go_cut [185] from 178 to 185 (fun g wx => g = .bool (decide (x < m) && decide (m < E)) ∧ At p D wx)
          case first =>
            by_cases gA : x < m
            · have eA : decide ((x : Int) < (m : Int)) = true := by simp; omega
              have eA' : decide (x < m) = true := decide_eq_true gA
              by_cases gB : m < E
              · have eB : decide ((m : Int) < (E : Int)) = true := by simp; omega
                have eB' : decide (m < E) = true := decide_eq_true gB
                go_wp2_with fail
                go_meet
                exact ⟨by rw [eA', eB']; rfl, HAT.out⟩
              · have eB : decide ((m : Int) < (E : Int)) = false := by simp; omega
                have eB' : decide (m < E) = false := decide_eq_false gB
                go_wp2_with fail
                go_meet
                exact ⟨by rw [eA', eB']; rfl, HAT.out⟩
            · have eA : decide ((x : Int) < (m : Int)) = false := by simp; omega
              have eA' : decide (x < m) = false := decide_eq_false gA
              go_wp2_with fail
              go_meet
              exact ⟨by rw [eA']; rfl, HAT.out⟩
          case rest =>
            obtain ⟨e1, hat1⟩ := hcut
            subst e1
            have HAT1 := (show Hid _ from hat1)
            clear hat1 HAT
            go_upto_if 185 with fail
            go_cut [191] from 185 to 191 (fun _ wx => At p (rot D x m E) wx)
            case first =>
              by_cases gAB : x < m ∧ m < E
              · have eAB : (decide (x < m) && decide (m < E)) = true := by simp; omega
                go_wp2_with fail
                refine Calls.mono (HRO.out _ HAT1.out gAB.1 gAB.2) ?_
                rintro e w1 ⟨rfl, hatx⟩
                have HATX := (show Hid _ from hatx)
                clear hatx
                go_wp2_with fail
                go_meet
                exact HATX.out
              · have eAB : (decide (x < m) && decide (m < E)) = false := by simp; omega
                have hsame := HSAME.out (by omega)
                go_wp2_with fail
                go_meet
                rw [hsame]
                exact HAT1.out
            case rest =>
              have HAT2 := (show Hid _ from hcut)
              clear hcut HAT1 HRO HSAME
              go_upto_region 41 with fail
              go_cut [199] from 192 to 199 (fun g wx => g = .bool (decide (a < x) && decide (x < mid)) ∧ At p (rot D x m E) wx)
              case first =>
                by_cases gA : a < x
                · have eA : decide ((a : Int) < (x : Int)) = true := by simp; omega
                  have eA' : decide (a < x) = true := decide_eq_true gA
                  by_cases gB : x < mid
                  · have eB : decide ((x : Int) < (mid : Int)) = true := by simp; omega
                    have eB' : decide (x < mid) = true := decide_eq_true gB
                    go_wp2_with fail
                    go_meet
                    exact ⟨by rw [eA', eB']; rfl, HAT2.out⟩
                  · have eB : decide ((x : Int) < (mid : Int)) = false := by simp; omega
                    have eB' : decide (x < mid) = false := decide_eq_false gB
                    go_wp2_with fail
                    go_meet
                    exact ⟨by rw [eA', eB']; rfl, HAT2.out⟩
                · have eA : decide ((a : Int) < (x : Int)) = false := by simp; omega
                  have eA' : decide (a < x) = false := decide_eq_false gA
                  go_wp2_with fail
                  go_meet
                  exact ⟨by rw [eA']; rfl, HAT2.out⟩
              case rest =>
                obtain ⟨e1, hat1⟩ := hcut
                subst e1
                have HAT3 := (show Hid _ from hat1)
                clear hat1 HAT2
                go_upto_if 199 with fail
                go_cut [205] from 199 to 205 (fun _ wx => ∃ D2, At p D2 wx ∧ Sub D2 (rot D x m E) a mid ∧ Srt (ltX p.X) D2 a mid)
                case first =>
                  by_cases gAB : a < x ∧ x < mid
                  · have eAB : (decide (a < x) && decide (x < mid)) = true := by simp; omega
                    go_wp2_with fail
                    refine Calls.mono (HIH.out _ a x mid _ (by omega) HAT3.out gAB.1 gAB.2 (by omega) HN1.out HPT.out.1 HPT.out.2.1 HPT.out.2.2.1) ?_
                    rintro e w1 ⟨rfl, hmo⟩
                    have HMO := (show Hid _ from hmo)
                    clear hmo
                    go_wp2_with fail
                    go_meet
                    exact HMO.out
                  · have eAB : (decide (a < x) && decide (x < mid)) = false := by simp; omega
                    go_wp2_with fail
                    go_meet
                    refine ⟨_, HAT3.out, Sub.refl _ _ _, ?_⟩
                    have : a = x ∨ x = mid := by omega
                    rcases this with e | e
                    · rw [e]; exact HPT.out.2.1
                    · rw [← e]; exact HPT.out.1
                case rest =>
                  obtain ⟨D2, hat2, hsub2, hsrt2⟩ := hcut
                  have HAT4 := (show Hid _ from hat2)
                  have HD2 : Hid (Sub D2 (rot D x m E) a mid ∧ Srt (ltX p.X) D2 a mid) := ⟨hsub2, hsrt2⟩
                  clear hat2 hsub2 hsrt2 HAT3
                  go_upto_region 43 with fail
                  go_cut [213] from 206 to 213 (fun g wx => g = .bool (decide (mid < E) && decide (E < b)) ∧ At p D2 wx)
                  case first =>
                    by_cases gA : mid < E
                    · have eA : decide ((mid : Int) < (E : Int)) = true := by simp; omega
                      have eA' : decide (mid < E) = true := decide_eq_true gA
                      by_cases gB : E < b
                      · have eB : decide ((E : Int) < (b : Int)) = true := by simp; omega
                        have eB' : decide (E < b) = true := decide_eq_true gB
                        go_wp2_with fail
                        go_meet
                        exact ⟨by rw [eA', eB']; rfl, HAT4.out⟩
                      · have eB : decide ((E : Int) < (b : Int)) = false := by simp; omega
                        have eB' : decide (E < b) = false := decide_eq_false gB
                        go_wp2_with fail
                        go_meet
                        exact ⟨by rw [eA', eB']; rfl, HAT4.out⟩
                    · have eA : decide ((mid : Int) < (E : Int)) = false := by simp; omega
                      have eA' : decide (mid < E) = false := decide_eq_false gA
                      go_wp2_with fail
                      go_meet
                      exact ⟨by rw [eA']; rfl, HAT4.out⟩
                  case rest =>
                    obtain ⟨e1, hat1⟩ := hcut
                    subst e1
                    have HAT5 := (show Hid _ from hat1)
                    clear hat1 HAT4
                    have HEQ : Hid (∀ k, mid ≤ k → D2 k = rot D x m E k) := fun k hk => HD2.out.1.1 k (.inr hk)
                    have HFIN : Hid (∀ D3, Sub D3 D2 mid b → Srt (ltX p.X) D3 mid b → Sub D3 D a b ∧ Srt (ltX p.X) D3 a b) := fun D3 g1 g2 => by
                      refine ⟨((g1.wide (by omega) (Nat.le_refl _)).trans (HD2.out.1.wide (Nat.le_refl _) (by omega))).trans HSB.out, ?_⟩
                      refine srt_two (D := rot D x m E) (mid := mid) ?_ g2 (fun i gi gj => ?_) (fun i gi gj => ?_) HH.out
                      · intro i j gi gij gj
                        rw [g1.1 i (.inl (by omega)), g1.1 j (.inl gj)]
                        exact HD2.out.2 i j gi gij gj
                      · rw [g1.1 i (.inl gj)]
                        exact HD2.out.1.2 i gi gj
                      · obtain ⟨j, j1, j2, ej⟩ := g1.2 i gi gj
                        exact ⟨j, j1, j2, by rw [ej, HEQ.out j j1]⟩
                    by_cases gAB : mid < E ∧ E < b
                    · have eAB : (decide (mid < E) && decide (E < b)) = true := by simp; omega
                      have HC3 := (show Hid _ from HIH.out D2 mid E b _ (by omega) HAT5.out gAB.1 gAB.2 h3 (fun k hk => HD2.out.1.less (by omega) HN1.out k hk)
                        (fun i j gi gij gj => by rw [HEQ.out i gi, HEQ.out j (by omega)]; exact HPT.out.2.2.2.1 i j gi gij gj)
                        (fun i j gi gij gj => by rw [HEQ.out i (by omega), HEQ.out j (by omega)]; exact HPT.out.2.2.2.2.1 i j gi gij gj)
                        (fun i j gi gij gj gk => by rw [HEQ.out i gi, HEQ.out j (by omega)]; exact HPT.out.2.2.2.2.2 i j gi gij gj gk))
                      go_wp2_with fail
                      refine Calls.mono HC3.out ?_
                      rintro e w1 ⟨rfl, D3, hat3, hsub3, hsrt3⟩
                      have HAT6 := (show Hid _ from hat3)
                      have HD3 := (show Hid _ from HFIN.out D3 hsub3 hsrt3)
                      clear hat3 hsub3 hsrt3
                      go_wp2
                      go_end0
                      exact ⟨rfl, D3, HAT6.out, HD3.out.1, HD3.out.2⟩
                    · have eAB : (decide (mid < E) && decide (E < b)) = false := by simp; omega
                      have HD3 := (show Hid _ from HFIN.out D2 (Sub.refl _ _ _) (by
                        have : mid = E ∨ E = b := by omega
                        rcases this with e | e
                        · intro i j gi gij gj
                          rw [HEQ.out i gi, HEQ.out j (by omega)]
                          exact HPT.out.2.2.2.2.1 i j (by omega) gij gj
                        · intro i j gi gij gj
                          rw [HEQ.out i gi, HEQ.out j (by omega)]
                          exact HPT.out.2.2.2.1 i j gi gij (by omega)))
                      go_wp2
                      go_end0
                      exact ⟨rfl, D2, HAT5.out, HD3.out.1, HD3.out.2⟩
end Go.Proofs.YtfanagohfimnkaaDoor
