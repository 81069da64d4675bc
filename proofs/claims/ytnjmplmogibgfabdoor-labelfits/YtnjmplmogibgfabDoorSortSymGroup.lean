/- slices' symMerge by its contract. -/
import Derived.Test.YtnjmplmogibgfabDoorSortAtGroup
import Derived.Deep.CutRange
namespace Go.Proofs.YtnjmplmogibgfabDoor
open Go.RowKit SortMath

/-- Where the search for a cut begins and ends. -/
def Seek (a m b mid lo hi : Nat) : Prop := (mid < m ∧ lo = mid + m - b ∧ hi = mid) ∨ (m ≤ mid ∧ lo = a ∧ hi = m)

set_option maxRecDepth 1000000 in
set_option maxHeartbeats 8000000 in
theorem sym_any (p : SP) (hn : p.n ≤ 100) : ∀ (d : Nat) (D : Nat → Nat) (a m b : Nat) (w : World), b - a ≤ d → At p D w → a < m → m < b → b ≤ p.n → (∀ k, k < p.n → D k < p.n) → Srt (ltX p.X) D a m → Srt (ltX p.X) D m b → Cross D a m b →
    Calls Tryd.prog 157 #[rowV p, .int .i64 (a : Int), .int .i64 (m : Int), .int .i64 (b : Int), cmpF p] w fun e w' => MergeOut p D a b e w' := by
  intro d
  induction d with
  | zero => intro D a m b w hd _ h1 h2; omega
  | succ d ih =>
    intro D a m b w hd h h1 h2 h3 hN hL hR hX
    by_cases hl : a + 1 = m
    · exact sym_left p hn D a m b w h hl h2 h3 hN hR hX
    by_cases hr : m + 1 = b
    · exact sym_right p hn D a m b w h (by omega) hr h3 hN hL hX
    have IH : Hid _ := ih
    have H : Hid (At p D w) := h
    have HLR : Hid (Srt (ltX p.X) D a m ∧ Srt (ltX p.X) D m b ∧ Cross D a m b) := ⟨hL, hR, hX⟩
    have HN := (show Hid _ from hN)
    have d0 : ((m : Int) - (a : Int) == 1) = false := by rw [beq_eq_false_iff_ne]; omega
    have d1 : ((b : Int) - (m : Int) == 1) = false := by rw [beq_eq_false_iff_ne]; omega
    have HS : Hid (SW (ltX p.X)) := swX p.X
    obtain ⟨mid, hmid⟩ : ∃ mid, mid = (a + b) / 2 := ⟨_, rfl⟩
    have HMID : Hid (((a : Int) + (b : Int)) / 2 = (mid : Int)) := by show _ = _; omega
    have hm1 : a < mid := by omega
    have hm2 : mid < b := by omega
    have hm3 : 2 * mid ≤ a + b := by omega
    have hm4 : a + b ≤ 2 * mid + 1 := by omega
    obtain ⟨lo, hi, hseek⟩ : ∃ lo hi, Seek a m b mid lo hi := by
      by_cases hmm : mid < m
      · exact ⟨mid + m - b, mid, .inl ⟨hmm, rfl, rfl⟩⟩
      · exact ⟨a, m, .inr ⟨by omega, rfl, rfl⟩⟩
    have hlo : a ≤ lo ∧ lo ≤ hi ∧ hi ≤ m ∧ hi ≤ mid ∧ mid + m - lo ≤ b ∧ m ≤ mid + m - hi := by
      rcases hseek with ⟨q1, q2, q3⟩ | ⟨q1, q2, q3⟩ <;> omega
    clear ih h hL hR hX hN hmid
    unfold rowV cmpF
    go_enter Tryd.func157, Tryd.ntmps157
    go_upto_if 140 with fail
    rw [HMID.out]
    go_cut [20, 21] from 140 to 146 (fun s r wx => s = .int .i64 (lo : Int) ∧ r = .int .i64 (hi : Int) ∧ wx = w)
    case first =>
      rcases hseek with ⟨q1, q2, q3⟩ | ⟨q1, q2, q3⟩
      · have dm : decide ((mid : Int) < (m : Int)) = true := by simp; omega
        go_wp2_with fail
        go_meet
        exact ⟨by rw [show (lo : Int) = (mid : Int) + (m : Int) - (b : Int) by omega], by rw [q3], rfl⟩
      · have dm : decide ((mid : Int) < (m : Int)) = false := by simp; omega
        go_wp2_with fail
        go_meet
        exact ⟨by rw [q2], by rw [q3], rfl⟩
    case rest =>
      obtain ⟨e20, e21, e22⟩ := hcut
      subst e20 e21 e22
      obtain ⟨P1, hP1⟩ : ∃ P1, P1 = mid + m - 1 := ⟨_, rfl⟩
      have HP : Hid ((mid : Int) + (m : Int) - 1 = (P1 : Int)) := by show _ = _; omega
      have hin : ∀ c, lo ≤ c → c < hi → a ≤ c ∧ c < m ∧ m ≤ P1 - c ∧ P1 - c < b ∧ c ≤ P1 := fun c g1 g2 => by omega
      have HPP := (show Hid _ from hP1)
      clear hP1
      go_wp2_with fail
      rw [HP.out]
      go_loopw [20, 21, 23] (fun i j _ wr => ∃ (x y : Nat), lo ≤ x ∧ x ≤ y ∧ y ≤ hi ∧ i = .int .i64 x ∧ j = .int .i64 y ∧ At p D wr ∧ (∀ c, lo ≤ c → c < x → ltX p.X (D (P1 - c)) (D c) = false) ∧ (∀ c, y ≤ c → c < hi → ltX p.X (D (P1 - c)) (D c) = true)) (fun i j _ _ => (intOf j).toNat - (intOf i).toNat)
      case atStart => exact ⟨lo, hi, Nat.le_refl _, by omega, Nat.le_refl _, rfl, rfl, H.out, fun h _ _ => by omega, fun h _ _ => by omega⟩
      case round =>
        obtain ⟨x, y, hx, hxy, hyb, rfl, rfl, hatr, p1, p2⟩ := hrel
        have HATR : Hid (At p D wr) := hatr
        clear hatr
        by_cases hlt : x < y
        · have hltI : (x : Int) < (y : Int) := by omega
          obtain ⟨z, hz⟩ : ∃ z, z = (x + y) / 2 := ⟨_, rfl⟩
          have hz1 : x ≤ z := by omega
          have hz2 : z < y := by omega
          have hzi := hin z (by omega) (by omega)
          have c1 := HATR.out.cell (i := P1 - z) (by omega)
          have c2 := HATR.out.cell (i := z) (by omega)
          have HC : Hid (∀ q', Calls Tryd.prog 80 #[.int .i64 (D (P1 - z) : Int), .int .i64 (D z : Int), .pointer (some ⟨p.tb, 0, none⟩)] (wr.drewN q') fun e w' => e = .returned (.int .i64 (cmpV p.X (D (P1 - z)) (D z))) ∧ ∃ q, w' = (wr.drewN q').drewN q) := fun q' => order1_any p D (D (P1 - z)) (D z) _ (HATR.out.drewN q') (HN.out (P1 - z) (by omega)) (HN.out z (by omega))
          have hcv := cmpV_less p.X (D (P1 - z)) (D z)
          have i1 : (0 : Int) ≤ (z : Int) := by omega
          have i2 : (z : Int) < (p.n : Int) := by omega
          have i3 : (0 : Int) ≤ (P1 : Int) - (z : Int) := by omega
          have i4 : (P1 : Int) - (z : Int) < (p.n : Int) := by omega
          have HZ : Hid (((x : Int) + (y : Int)) / 2 = (z : Int)) := by show _ = _; omega
          have HP1 := (show Hid _ from p1)
          have HP2 := (show Hid _ from p2)
          have HMONO : Hid (∀ h h', lo ≤ h → h < h' → h' < hi → ltX p.X (D (P1 - h)) (D h) = true → ltX p.X (D (P1 - h')) (D h') = true) := fun h h' g1 g2 g3 g4 => by
            have k1 := hin h g1 (by omega)
            have k2 := hin h' (by omega) g3
            exact lt_kl HS.out (kl_lt HS.out (HLR.out.2.1 (P1 - h') (P1 - h) (by omega) (by omega) (by omega)) g4) (HLR.out.1 h h' (by omega) g2 (by omega))
          have HCV : Hid (∀ t, decide (cmpV p.X (D (P1 - z)) (D z) < 0) = t → ltX p.X (D (P1 - z)) (D z) = t) := fun t ht => by rw [← hcv]; exact ht
          generalize cmpV p.X (D (P1 - z)) (D z) = cv at *
          obtain ⟨dz, hdz⟩ : ∃ dz, D z = dz := ⟨_, rfl⟩
          obtain ⟨dp, hdp⟩ : ∃ dp, D (P1 - z) = dp := ⟨_, rfl⟩
          rw [hdz] at c2 HC
          rw [hdp] at c1 HC
          obtain ⟨u, hu⟩ : ∃ u, u = P1 - z := ⟨_, rfl⟩
          rw [← hu] at c1
          have hui : (P1 : Int) - (z : Int) = (u : Int) := by omega
          have i5 : (0 : Int) ≤ (u : Int) := by omega
          have i6 : (u : Int) < (p.n : Int) := by omega
          clear hu i3 i4
          clear hcv p1 p2 hdz hdp hz hin
          go_wp2_with fail
          rw [HZ.out]
          cases ht : decide (cv < 0) with
          | true =>
            go_quiet (first | (go_at_call 80; refine Calls.quiet_of (HC.out _)))
            go_wp2
            go_roundw
            case rel =>
              refine ⟨x, z, hx, by omega, by omega, rfl, rfl, HATR.out.drewN _, HP1.out, fun h g1 g2 => ?_⟩
              have hz0 := HCV.out _ ht
              rcases Nat.lt_or_ge z h with g | g
              · exact HMONO.out z h (by omega) g g2 hz0
              · have : h = z := by omega
                rw [this]
                exact hz0
            case measure => simp [intOf] <;> omega
          | false =>
            go_quiet (first | (go_at_call 80; refine Calls.quiet_of (HC.out _)))
            go_wp2
            go_roundw
            case rel =>
              refine ⟨z + 1, y, by omega, by omega, hyb, by go_num, rfl, HATR.out.drewN _, fun h g1 g2 => ?_, HP2.out⟩
              have hz0 := HCV.out _ ht
              cases hh : ltX p.X (D (P1 - h)) (D h) with
              | false => rfl
              | true =>
                rcases Nat.lt_or_ge h z with g | g
                · rw [HMONO.out h z g1 g (by omega) hh] at hz0
                  cases hz0
                · have : h = z := by omega
                  rw [this, hz0] at hh
                  cases hh
            case measure => simp [intOf] <;> omega
        · have hxe : x = y := by omega
          subst hxe
          have hP1 := HPP.out
          obtain ⟨E, hE⟩ : ∃ E, E = mid + m - x := ⟨_, rfl⟩
          have HE : Hid ((mid : Int) + (m : Int) - (x : Int) = (E : Int)) := by show _ = _; omega
          have q1 : a ≤ x := by omega
          have q2 : x ≤ mid := by omega
          have q3 : x ≤ m := by omega
          have q4 : m ≤ E := by omega
          have q5 : E ≤ b := by omega
          have q6 : mid ≤ E := by omega
          have hc1 : x < m → m < mid + m - x → ltX p.X (D (mid + m - x - 1)) (D x) = true := fun g1 g2 => by
            have := p2 x (Nat.le_refl _) (by rcases hseek with ⟨r1, r2, r3⟩ | ⟨r1, r2, r3⟩ <;> omega)
            rw [show mid + m - x - 1 = P1 - x by omega]
            exact this
          have hc2 : a < x → mid + m - x < b → ltX p.X (D (mid + m - x)) (D (x - 1)) = false := fun g1 g2 => by
            have := p1 (x - 1) (by rcases hseek with ⟨r1, r2, r3⟩ | ⟨r1, r2, r3⟩ <;> omega) (by omega)
            rw [show mid + m - x = P1 - (x - 1) by omega]
            exact this
          have HH : Hid (∀ i j, a ≤ i → i < mid → mid ≤ j → j < b → kl (ltX p.X) (rot D x m E i) (rot D x m E j)) := by
            rw [hE]
            exact halves HS.out HLR.out.1 HLR.out.2.1 HLR.out.2.2 q1 q2 q3 (by omega) (by omega) hc1 hc2
          have HPT := (show Hid _ from rot_parts HLR.out.1 HLR.out.2.1 HLR.out.2.2 q1 q2 q3 (by omega) (by omega : mid + m - x ≤ b))
          rw [← hE] at HPT
          have HSB : Hid (Sub (rot D x m E) D a b) := (rot_sub D x m E q3 q4).wide q1 q5
          have HN1 : Hid (∀ k, k < p.n → rot D x m E k < p.n) := HSB.out.less h3 HN.out
          have HSAME : Hid (x = m ∨ m = E → rot D x m E = D) := fun g => rot_same D x m E q4 g
          have HRO : Hid (∀ w0, At p D w0 → x < m → m < E → Calls Tryd.prog 188 #[.slice (some ⟨p.g, 0, none⟩) p.n p.cap, .int .i64 (x : Int), .int .i64 (m : Int), .int .i64 (E : Int), .func (.func 80) #[] #[.pointer (some ⟨p.tb, 0, none⟩)]] w0 fun e w' => e = .returned (.tuple #[]) ∧ At p (rot D x m E) w') := fun w0 h0 g1 g2 => rotate_any p hn D x m E _ w0 h0 g1 g2 (by omega)
          have HIH : Hid (∀ (D : Nat → Nat) (a m b : Nat) (w : World), b - a ≤ d → At p D w → a < m → m < b → b ≤ p.n → (∀ k, k < p.n → D k < p.n) → Srt (ltX p.X) D a m → Srt (ltX p.X) D m b → Cross D a m b → Calls Tryd.prog 157 #[.slice (some ⟨p.g, 0, none⟩) p.n p.cap, .int .i64 (a : Int), .int .i64 (m : Int), .int .i64 (b : Int), .func (.func 80) #[] #[.pointer (some ⟨p.tb, 0, none⟩)]] w fun e w' => MergeOut p D a b e w') := IH.out
          have HAT : Hid (At p D wr) := HATR.out
          clear p1 p2 H HATR hc1 hc2 hE hin HLR HN HS IH hP1
          go_upto_region 39 with fail
          rw [HE.out]
          go_cut [185] from 178 to 185 (fun g wx => g = .bool (decide (x < m) && decide (m < E)) ∧ At p D wx)
          case first =>
            by_cases gA : x < m
            · have eA : decide ((x : Int) < (m : Int)) = true := by simp; omega
              have eA' : decide (x < m) = true := decide_eq_true gA
              by_cases gB : m < E
              · have eB : decide ((m : Int) < (E : Int)) = true := by simp; omega
                have eB' : decide (m < E) = true := decide_eq_true gB
                go_wp2_with fail
                go_meet
                exact ⟨by rw [eA', eB']; rfl, HAT.out⟩
              · have eB : decide ((m : Int) < (E : Int)) = false := by simp; omega
                have eB' : decide (m < E) = false := decide_eq_false gB
                go_wp2_with fail
                go_meet
                exact ⟨by rw [eA', eB']; rfl, HAT.out⟩
            · have eA : decide ((x : Int) < (m : Int)) = false := by simp; omega
              have eA' : decide (x < m) = false := decide_eq_false gA
              go_wp2_with fail
              go_meet
              exact ⟨by rw [eA']; rfl, HAT.out⟩
          case rest =>
            obtain ⟨e1, hat1⟩ := hcut
            subst e1
            have HAT1 := (show Hid _ from hat1)
            clear hat1 HAT
            go_upto_if 185 with fail
            go_cut [191] from 185 to 191 (fun _ wx => At p (rot D x m E) wx)
            case first =>
              by_cases gAB : x < m ∧ m < E
              · have eAB : (decide (x < m) && decide (m < E)) = true := by simp; omega
                go_wp2_with fail
                refine Calls.mono (HRO.out _ HAT1.out gAB.1 gAB.2) ?_
                rintro e w1 ⟨rfl, hatx⟩
                have HATX := (show Hid _ from hatx)
                clear hatx
                go_wp2_with fail
                go_meet
                exact HATX.out
              · have eAB : (decide (x < m) && decide (m < E)) = false := by simp; omega
                have hsame := HSAME.out (by omega)
                go_wp2_with fail
                go_meet
                rw [hsame]
                exact HAT1.out
            case rest =>
              have HAT2 := (show Hid _ from hcut)
              clear hcut HAT1 HRO HSAME
              go_upto_region 41 with fail
              go_cut [199] from 192 to 199 (fun g wx => g = .bool (decide (a < x) && decide (x < mid)) ∧ At p (rot D x m E) wx)
              case first =>
                by_cases gA : a < x
                · have eA : decide ((a : Int) < (x : Int)) = true := by simp; omega
                  have eA' : decide (a < x) = true := decide_eq_true gA
                  by_cases gB : x < mid
                  · have eB : decide ((x : Int) < (mid : Int)) = true := by simp; omega
                    have eB' : decide (x < mid) = true := decide_eq_true gB
                    go_wp2_with fail
                    go_meet
                    exact ⟨by rw [eA', eB']; rfl, HAT2.out⟩
                  · have eB : decide ((x : Int) < (mid : Int)) = false := by simp; omega
                    have eB' : decide (x < mid) = false := decide_eq_false gB
                    go_wp2_with fail
                    go_meet
                    exact ⟨by rw [eA', eB']; rfl, HAT2.out⟩
                · have eA : decide ((a : Int) < (x : Int)) = false := by simp; omega
                  have eA' : decide (a < x) = false := decide_eq_false gA
                  go_wp2_with fail
                  go_meet
                  exact ⟨by rw [eA']; rfl, HAT2.out⟩
              case rest =>
                obtain ⟨e1, hat1⟩ := hcut
                subst e1
                have HAT3 := (show Hid _ from hat1)
                clear hat1 HAT2
                go_upto_if 199 with fail
                go_cut [205] from 199 to 205 (fun _ wx => ∃ D2, At p D2 wx ∧ Sub D2 (rot D x m E) a mid ∧ Srt (ltX p.X) D2 a mid)
                case first =>
                  by_cases gAB : a < x ∧ x < mid
                  · have eAB : (decide (a < x) && decide (x < mid)) = true := by simp; omega
                    go_wp2_with fail
                    refine Calls.mono (HIH.out _ a x mid _ (by omega) HAT3.out gAB.1 gAB.2 (by omega) HN1.out HPT.out.1 HPT.out.2.1 HPT.out.2.2.1) ?_
                    rintro e w1 ⟨rfl, hmo⟩
                    have HMO := (show Hid _ from hmo)
                    clear hmo
                    go_wp2_with fail
                    go_meet
                    exact HMO.out
                  · have eAB : (decide (a < x) && decide (x < mid)) = false := by simp; omega
                    go_wp2_with fail
                    go_meet
                    refine ⟨_, HAT3.out, Sub.refl _ _ _, ?_⟩
                    have : a = x ∨ x = mid := by omega
                    rcases this with e | e
                    · rw [e]; exact HPT.out.2.1
                    · rw [← e]; exact HPT.out.1
                case rest =>
                  obtain ⟨D2, hat2, hsub2, hsrt2⟩ := hcut
                  have HAT4 := (show Hid _ from hat2)
                  have HD2 : Hid (Sub D2 (rot D x m E) a mid ∧ Srt (ltX p.X) D2 a mid) := ⟨hsub2, hsrt2⟩
                  clear hat2 hsub2 hsrt2 HAT3
                  go_upto_region 43 with fail
                  go_cut [213] from 206 to 213 (fun g wx => g = .bool (decide (mid < E) && decide (E < b)) ∧ At p D2 wx)
                  case first =>
                    by_cases gA : mid < E
                    · have eA : decide ((mid : Int) < (E : Int)) = true := by simp; omega
                      have eA' : decide (mid < E) = true := decide_eq_true gA
                      by_cases gB : E < b
                      · have eB : decide ((E : Int) < (b : Int)) = true := by simp; omega
                        have eB' : decide (E < b) = true := decide_eq_true gB
                        go_wp2_with fail
                        go_meet
                        exact ⟨by rw [eA', eB']; rfl, HAT4.out⟩
                      · have eB : decide ((E : Int) < (b : Int)) = false := by simp; omega
                        have eB' : decide (E < b) = false := decide_eq_false gB
                        go_wp2_with fail
                        go_meet
                        exact ⟨by rw [eA', eB']; rfl, HAT4.out⟩
                    · have eA : decide ((mid : Int) < (E : Int)) = false := by simp; omega
                      have eA' : decide (mid < E) = false := decide_eq_false gA
                      go_wp2_with fail
                      go_meet
                      exact ⟨by rw [eA']; rfl, HAT4.out⟩
                  case rest =>
                    obtain ⟨e1, hat1⟩ := hcut
                    subst e1
                    have HAT5 := (show Hid _ from hat1)
                    clear hat1 HAT4
                    have HEQ : Hid (∀ k, mid ≤ k → D2 k = rot D x m E k) := fun k hk => HD2.out.1.1 k (.inr hk)
                    have HFIN : Hid (∀ D3, Sub D3 D2 mid b → Srt (ltX p.X) D3 mid b → Sub D3 D a b ∧ Srt (ltX p.X) D3 a b) := fun D3 g1 g2 => by
                      refine ⟨((g1.wide (by omega) (Nat.le_refl _)).trans (HD2.out.1.wide (Nat.le_refl _) (by omega))).trans HSB.out, ?_⟩
                      refine srt_two (D := rot D x m E) (mid := mid) ?_ g2 (fun i gi gj => ?_) (fun i gi gj => ?_) HH.out
                      · intro i j gi gij gj
                        rw [g1.1 i (.inl (by omega)), g1.1 j (.inl gj)]
                        exact HD2.out.2 i j gi gij gj
                      · rw [g1.1 i (.inl gj)]
                        exact HD2.out.1.2 i gi gj
                      · obtain ⟨j, j1, j2, ej⟩ := g1.2 i gi gj
                        exact ⟨j, j1, j2, by rw [ej, HEQ.out j j1]⟩
                    by_cases gAB : mid < E ∧ E < b
                    · have eAB : (decide (mid < E) && decide (E < b)) = true := by simp; omega
                      have HC3 := (show Hid _ from HIH.out D2 mid E b _ (by omega) HAT5.out gAB.1 gAB.2 h3 (fun k hk => HD2.out.1.less (by omega) HN1.out k hk)
                        (fun i j gi gij gj => by rw [HEQ.out i gi, HEQ.out j (by omega)]; exact HPT.out.2.2.2.1 i j gi gij gj)
                        (fun i j gi gij gj => by rw [HEQ.out i (by omega), HEQ.out j (by omega)]; exact HPT.out.2.2.2.2.1 i j gi gij gj)
                        (fun i j gi gij gj gk => by rw [HEQ.out i gi, HEQ.out j (by omega)]; exact HPT.out.2.2.2.2.2 i j gi gij gj gk))
                      go_wp2_with fail
                      refine Calls.mono HC3.out ?_
                      rintro e w1 ⟨rfl, D3, hat3, hsub3, hsrt3⟩
                      have HAT6 := (show Hid _ from hat3)
                      have HD3 := (show Hid _ from HFIN.out D3 hsub3 hsrt3)
                      clear hat3 hsub3 hsrt3
                      go_wp2
                      go_end0
                      exact ⟨rfl, D3, HAT6.out, HD3.out.1, HD3.out.2⟩
                    · have eAB : (decide (mid < E) && decide (E < b)) = false := by simp; omega
                      have HD3 := (show Hid _ from HFIN.out D2 (Sub.refl _ _ _) (by
                        have : mid = E ∨ E = b := by omega
                        rcases this with e | e
                        · intro i j gi gij gj
                          rw [HEQ.out i gi, HEQ.out j (by omega)]
                          exact HPT.out.2.2.2.2.1 i j (by omega) gij gj
                        · intro i j gi gij gj
                          rw [HEQ.out i gi, HEQ.out j (by omega)]
                          exact HPT.out.2.2.2.1 i j gi gij (by omega)))
                      go_wp2
                      go_end0
                      exact ⟨rfl, D2, HAT5.out, HD3.out.1, HD3.out.2⟩
end Go.Proofs.YtnjmplmogibgfabDoor
/- slices' stable sort of at most sixty numbers, by its contract. -/
namespace Go.Proofs.YtnjmplmogibgfabDoor
open Go.RowKit SortMath

/-- Blocks of twenty that are sorted, up to the t-th; behind them the numbers as they stood. -/
structure Ph (lt : Nat → Nat → Bool) (t : Nat) (D : Nat → Nat) : Prop where
  far : ∀ k, 20 * t ≤ k → D k = k
  loc : ∀ k, k < 20 * t → D k / 20 = k / 20
  srt : ∀ i j, i < j → j < 20 * t → i / 20 = j / 20 → kl lt (D i) (D j)
/-- Blocks of s that are sorted. -/
structure SB (lt : Nat → Nat → Bool) (s n : Nat) (D : Nat → Nat) : Prop where
  loc : ∀ k, k < n → D k / s = k / s ∧ D k < n
  srt : ∀ i j, i < j → j < n → i / s = j / s → kl lt (D i) (D j)
variable {lt : Nat → Nat → Bool}
theorem ph_step {t : Nat} {D E : Nat → Nat} (h : Ph lt t D) (hs : Sub E D (20 * t) (20 * t + 20)) (hr : Srt lt E (20 * t) (20 * t + 20)) : Ph lt (t + 1) E := by
  refine ⟨fun k hk => ?_, fun k hk => ?_, fun i j hij hj he => ?_⟩
  · rw [hs.1 k (by omega), h.far k (by omega)]
  · by_cases hk2 : k < 20 * t
    · rw [hs.1 k (by omega)]; exact h.loc k hk2
    · obtain ⟨j, j1, j2, ej⟩ := hs.2 k (by omega) (by omega)
      rw [ej, h.far j (by omega)]
      omega
  · by_cases hi : 20 * t ≤ i
    · exact hr i j hi hij (by omega)
    · have hj2 : j < 20 * t := by omega
      rw [hs.1 i (by omega), hs.1 j (by omega)]
      exact h.srt i j hij hj2 he
theorem ph_end {t n : Nat} {D E : Nat → Nat} (h : Ph lt t D) (hn : 20 * t ≤ n) (hn2 : n < 20 * t + 20) (hs : Sub E D (20 * t) n) (hr : Srt lt E (20 * t) n) : SB lt 20 n E := by
  have key : ∀ k, k < n → E k / 20 = k / 20 ∧ E k < n := fun k hk => by
    by_cases hk2 : k < 20 * t
    · rw [hs.1 k (by omega)]
      have := h.loc k hk2
      omega
    · obtain ⟨j, j1, j2, ej⟩ := hs.2 k (by omega) hk
      rw [ej, h.far j (by omega)]
      omega
  refine ⟨key, fun i j hij hj he => ?_⟩
  by_cases hi : 20 * t ≤ i
  · exact hr i j hi hij hj
  · have hj2 : j < 20 * t := by omega
    rw [hs.1 i (by omega), hs.1 j (by omega)]
    exact h.srt i j hij hj2 he
/-- Two neighbours are merged. -/
theorem sb_pair {n : Nat} {D : Nat → Nat} (s a b : Nat) (hs : s = 20 ∨ s = 40) (h : SB lt s n D) (ha : a = 0) (hb : s < b) (hb2 : b ≤ n) (hb3 : b ≤ 2 * s) : Srt lt D a (a + s) ∧ Srt lt D (a + s) b ∧ Cross D a (a + s) b := by
  subst ha
  rcases hs with rfl | rfl
  · refine ⟨fun i j g1 g2 g3 => h.srt i j g2 (by omega) (by omega), fun i j g1 g2 g3 => h.srt i j g2 (by omega) (by omega), fun i j g1 g2 g3 g4 => ?_⟩
    have q1 := (h.loc i (by omega)).1
    have q2 := (h.loc j (by omega)).1
    omega
  · refine ⟨fun i j g1 g2 g3 => h.srt i j g2 (by omega) (by omega), fun i j g1 g2 g3 => h.srt i j g2 (by omega) (by omega), fun i j g1 g2 g3 g4 => ?_⟩
    have q1 := (h.loc i (by omega)).1
    have q2 := (h.loc j (by omega)).1
    omega
theorem sb_next {n : Nat} {D E : Nat → Nat} (s b : Nat) (hs : s = 20 ∨ s = 40) (hn : n ≤ 60) (h : SB lt s n D) (hb : b = n ∧ n ≤ 2 * s ∨ b = 40 ∧ s = 20) (hb2 : b ≤ n) (g1 : Sub E D 0 b) (g2 : Srt lt E 0 b) : SB lt (2 * s) n E := by
  have hlt : ∀ k, k < n → E k < n := g1.less hb2 (fun k hk => (h.loc k hk).2)
  rcases hs with rfl | rfl
  · refine ⟨fun k hk => ⟨?_, hlt k hk⟩, fun i j hij hj he => ?_⟩
    · by_cases hk2 : k < b
      · obtain ⟨j, _, j2, ej⟩ := g1.2 k (by omega) hk2
        have := (h.loc j (by omega)).1
        rw [ej]
        omega
      · rw [g1.1 k (by omega)]
        have := (h.loc k hk).1
        omega
    · by_cases hj2 : j < b
      · exact g2 i j (by omega) hij hj2
      · rw [g1.1 i (by omega), g1.1 j (by omega)]
        exact h.srt i j hij hj (by omega)
  · refine ⟨fun k hk => ⟨?_, hlt k hk⟩, fun i j hij hj he => ?_⟩
    · have := hlt k hk
      omega
    · exact g2 i j (by omega) hij (by omega)

set_option maxRecDepth 1000000 in
set_option maxHeartbeats 800000 in
theorem stable_any (p : SP) (hn : p.n ≤ 60) (w : World) (h : At p (fun k => k) w) :
    Calls Tryd.prog 121 #[rowV p, .int .i64 (p.n : Int), cmpF p] w fun e w' => e = .returned (.tuple #[]) ∧ ∃ D', At p D' w' ∧ (∀ k, k < p.n → D' k < p.n) ∧ Srt (ltX p.X) D' 0 p.n := by
  have H : Hid (At p (fun k => k) w) := h
  have HINS : Hid (∀ (D : Nat → Nat) (a b : Nat) (w0 : World), At p D w0 → a ≤ b → b ≤ p.n → (∀ k, k < p.n → D k < p.n) → (∀ i j, a ≤ i → i < j → j < b → D i < D j) → Calls Tryd.prog 156 #[.slice (some ⟨p.g, 0, none⟩) p.n p.cap, .int .i64 (a : Int), .int .i64 (b : Int), .func (.func 80) #[] #[.pointer (some ⟨p.tb, 0, none⟩)]] w0 fun e w' => e = .returned (.tuple #[]) ∧ ∃ D', At p D' w' ∧ Sub D' D a b ∧ Srt (ltX p.X) D' a b) := fun D a b w0 => ins_any p (by omega) D a b w0
  have HSYM : Hid (∀ (D : Nat → Nat) (a m b : Nat) (w0 : World), At p D w0 → a < m → m < b → b ≤ p.n → (∀ k, k < p.n → D k < p.n) → Srt (ltX p.X) D a m → Srt (ltX p.X) D m b → Cross D a m b → Calls Tryd.prog 157 #[.slice (some ⟨p.g, 0, none⟩) p.n p.cap, .int .i64 (a : Int), .int .i64 (m : Int), .int .i64 (b : Int), .func (.func 80) #[] #[.pointer (some ⟨p.tb, 0, none⟩)]] w0 fun e w' => MergeOut p D a b e w') := fun D a m b w0 => sym_any p (by omega) (b - a) D a m b w0 (Nat.le_refl _)
  clear h
  unfold rowV cmpF
  go_enter Tryd.func121, Tryd.ntmps121
  go_wp2_with fail
  go_loopw [7, 8, 11] (fun i j _ wr => ∃ (t : Nat) (D : Nat → Nat), 20 * t ≤ p.n ∧ i = .int .i64 ((20 * t : Nat) : Int) ∧ j = .int .i64 ((20 * t + 20 : Nat) : Int) ∧ At p D wr ∧ Ph (ltX p.X) t D) (fun _ j _ _ => p.n + 20 - (intOf j).toNat)
  case atStart => exact ⟨0, fun k => k, by omega, rfl, rfl, H.out, ⟨fun k _ => rfl, fun k hk => by omega, fun i j _ hj => by omega⟩⟩
  case round =>
    obtain ⟨t, D, ht, rfl, rfl, hat, hph⟩ := hrel
    have HAT := (show Hid _ from hat)
    have HPH := (show Hid _ from hph)
    have HNN : Hid (∀ k, k < p.n → D k < p.n) := fun k hk => by
      by_cases hk2 : k < 20 * t
      · have := hph.loc k hk2; omega
      · rw [hph.far k (by omega)]; exact hk
    have HINC : Hid (∀ b i j, 20 * t ≤ i → i < j → j < b → D i < D j) := fun b i j g1 g2 g3 => by rw [hph.far i g1, hph.far j (by omega)]; exact g2
    clear hat hph H
    by_cases hle : 20 * t + 20 ≤ p.n
    · have hleI : ((20 * t + 20 : Nat) : Int) ≤ (p.n : Int) := by omega
      have dle : decide (((20 * t + 20 : Nat) : Int) ≤ (p.n : Int)) = true := decide_eq_true hleI
      have HC := (show Hid _ from HINS.out D (20 * t) (20 * t + 20) wr HAT.out (by omega) hle HNN.out (HINC.out _))
      obtain ⟨A, hA⟩ : ∃ A : Nat, A = 20 * t := ⟨_, rfl⟩
      obtain ⟨B, hB⟩ : ∃ B : Nat, B = 20 * t + 20 := ⟨_, rfl⟩
      have HEND : Hid (∀ E, Sub E D A B → Srt (ltX p.X) E A B → Ph (ltX p.X) (t + 1) E) := fun E g1 g2 => by rw [hA, hB] at g1 g2; exact ph_step HPH.out g1 g2
      have HAB : Hid (A = 20 * t ∧ B = 20 * t + 20) := ⟨hA, hB⟩
      rw [← hB, ← hA] at HC
      rw [← hB] at hleI dle hle ⊢
      rw [← hA]
      clear hA hB HINC
      go_wp2_with fail
      refine Calls.mono HC.out ?_
      rintro e w1 ⟨rfl, E, hat1, hsub1, hsrt1⟩
      have HAT1 := (show Hid _ from hat1)
      have HPH1 := (show Hid _ from HEND.out E hsub1 hsrt1)
      clear hat1 hsub1 hsrt1 HC
      go_wp2
      go_roundw
      case rel =>
        have hab := HAB.out
        exact ⟨t + 1, E, by omega, by rw [hab.2]; rfl, by rw [hab.2]; go_num, HAT1.out, HPH1.out⟩
      case measure => have hab := HAB.out; simp [intOf] <;> omega
    · have dle : decide (((20 * t + 20 : Nat) : Int) ≤ (p.n : Int)) = false := by simp; omega
      have HC := (show Hid _ from HINS.out D (20 * t) p.n wr HAT.out ht (Nat.le_refl _) HNN.out (HINC.out _))
      obtain ⟨A, hA⟩ : ∃ A : Nat, A = 20 * t := ⟨_, rfl⟩
      obtain ⟨B, hB⟩ : ∃ B : Nat, B = 20 * t + 20 := ⟨_, rfl⟩
      have HEND : Hid (∀ E, Sub E D A p.n → Srt (ltX p.X) E A p.n → SB (ltX p.X) 20 p.n E) := fun E g1 g2 => by rw [hA] at g1 g2; exact ph_end HPH.out ht (by omega) g1 g2
      rw [← hA] at HC
      have hgt : (p.n : Int) < (B : Int) := by omega
      have dle : decide ((B : Int) ≤ (p.n : Int)) = false := by simp; omega
      have dle2 : decide (B ≤ p.n) = false := by simp; omega
      rw [← hB]
      rw [← hA]
      clear hA hB HINC hle
      go_wp2_with fail
      refine Calls.mono HC.out ?_
      rintro e w1 ⟨rfl, E, hat1, hsub1, hsrt1⟩
      have HAT1 := (show Hid _ from hat1)
      have HSB1 := (show Hid _ from HEND.out E hsub1 hsrt1)
      clear hat1 hsub1 hsrt1 HC HAT HPH HNN HEND dle
      go_wp2_with fail
      go_loopw [6, 7, 8] (fun bs _ _ wr => ∃ (s : Nat) (D : Nat → Nat), (s = 20 ∨ s = 40 ∨ s = 80) ∧ bs = .int .i64 (s : Int) ∧ At p D wr ∧ SB (ltX p.X) s p.n D) (fun bs _ _ _ => 100 - (intOf bs).toNat)
      case atStart => exact ⟨20, E, .inl rfl, rfl, HAT1.out, HSB1.out⟩
      case round =>
        obtain ⟨s, F, hs, rfl, hatF, hsbF⟩ := hrel
        have HATF := (show Hid _ from hatF)
        have HSBF := (show Hid _ from hsbF)
        clear hatF hsbF HAT1 HSB1
        by_cases hlt : s < p.n
        · have dlt : decide ((s : Int) < (p.n : Int)) = true := by simp; omega
          have hs2 : s = 20 ∨ s = 40 := by omega
          have HNF : Hid (∀ k, k < p.n → F k < p.n) := fun k hk => (HSBF.out.loc k hk).2
          have HNEXT : Hid (∀ (b : Nat) (G : Nat → Nat), (b = p.n ∧ p.n ≤ 2 * s ∨ b = 40 ∧ s = 20) → b ≤ p.n → SortMath.Sub G F 0 b → Srt (ltX p.X) G 0 b → SB (ltX p.X) (2 * s) p.n G) := fun b G g1 g2 g3 g4 => sb_next s b hs2 hn HSBF.out g1 g2 g3 g4
          have HPAIR : Hid (∀ b, s < b → b ≤ p.n → b ≤ 2 * s → Srt (ltX p.X) F 0 s ∧ Srt (ltX p.X) F s b ∧ Cross F 0 s b) := fun b g1 g2 g3 => by
            have := sb_pair s 0 b hs2 HSBF.out rfl g1 g2 g3
            rw [Nat.zero_add] at this
            exact this
          by_cases hb : 2 * s ≤ p.n
          · have hs20 : s = 20 := by omega
            subst hs20
            have q := HPAIR.out 40 (by omega) (by omega) (by omega)
            have HC := (show Hid _ from HSYM.out F 0 20 40 wr HATF.out (by omega) (by omega) (by omega) HNF.out q.1 q.2.1 q.2.2)
            have b0 : (40 : Int) ≤ (p.n : Int) := by omega
            have b1 : (p.n : Int) < 80 := by omega
            have b2 : (p.n : Int) ≤ 60 := by omega
            have b3 : (20 : Int) < (p.n : Int) := by omega
            clear q hs hs2 hlt hb
            go_wp2_with fail
            refine wp_loop_rounds 2 ?_
            rw [rounds_succ]
            go_wp2_with fail
            refine Calls.mono HC.out ?_
            rintro e w2 ⟨rfl, G, hatG, hsubG, hsrtG⟩
            have HATG := (show Hid _ from hatG)
            have HSBG := (show Hid _ from HNEXT.out 40 G (by first | exact .inr ⟨rfl, trivial⟩ | exact .inr ⟨rfl, rfl⟩ | simp) (by omega) hsubG hsrtG)
            clear hatG hsubG hsrtG HC
            go_wp2_with fail
            rw [rounds_succ]
            go_wp2
            go_roundw
            case rel => exact ⟨40, G, .inr (.inl rfl), rfl, HATG.out, HSBG.out⟩
            case measure => simp [intOf]
          · have q := HPAIR.out p.n hlt (Nat.le_refl _) (by omega)
            have HC := (show Hid _ from HSYM.out F 0 s p.n wr HATF.out (by omega) hlt (Nat.le_refl _) HNF.out q.1 q.2.1 q.2.2)
            have b0 : (p.n : Int) < 2 * (s : Int) := by omega
            have b1 : (s : Int) < (p.n : Int) := by omega
            have b4 : ¬ 2 * (s : Int) ≤ (p.n : Int) := by omega
            have b5 : decide (2 * (s : Int) ≤ (p.n : Int)) = false := by simp; omega
            have HQ : Hid (p.n ≤ 2 * s) := by show p.n ≤ 2 * s; omega
            clear q hb
            go_wp2_with fail
            refine wp_loop_rounds 1 ?_
            rw [rounds_succ]
            go_wp2_with fail
            refine Calls.mono HC.out ?_
            rintro e w2 ⟨rfl, G, hatG, hsubG, hsrtG⟩
            have HATG := (show Hid _ from hatG)
            have HSBG := (show Hid _ from HNEXT.out p.n G (.inl ⟨rfl, HQ.out⟩) (Nat.le_refl _) hsubG hsrtG)
            clear hatG hsubG hsrtG HC
            go_wp2
            go_roundw
            case rel => exact ⟨2 * s, G, by omega, by go_num, HATG.out, HSBG.out⟩
            case measure => simp [intOf] <;> omega
        · have dlt : decide ((s : Int) < (p.n : Int)) = false := by simp; omega
          have HF : Hid (Srt (ltX p.X) F 0 p.n) := fun i j _ gij gj => HSBF.out.srt i j gij gj (by rw [Nat.div_eq_of_lt (by omega), Nat.div_eq_of_lt (by omega)])
          go_wp2
          go_end0
          exact ⟨rfl, F, HATF.out, fun k hk => (HSBF.out.loc k hk).2, HF.out⟩
end Go.Proofs.YtnjmplmogibgfabDoor
