/- The statement HeadMany, walked. -/
import Derived.Test.YtfanagohfimnkaaDoorHeadFact
namespace Go.Proofs.YtfanagohfimnkaaDoor
open Go.RowKit Go.Maps HeadMath LabMath PtMath

/-- So many series with one point each. -/
structure ManyS (S : List Sr) (k : Nat) (t : Int) (u : Nat) : Prop where
  len : S.length = k
  lin : ∀ l, l ∈ S → l.pts = [(t, u)] ∧ l.last = t ∧ ∃ i, i < k ∧ l.key = numK i
  kn : ∀ i, i < k → known S (numK i) = true
  cnt : countS S = k
theorem ManyS.none {S : List Sr} {k : Nat} {t : Int} {u : Nat} (h : ManyS S k t u) {x : List UInt8} (hx : ∀ i, i < k → numK i ≠ x) : known S x = false := by
  cases e : known S x with
  | false => rfl
  | true =>
    obtain ⟨l, hl, hlx⟩ := known_iff.1 e
    obtain ⟨_, _, i, hi, hk⟩ := h.lin l hl
    exact absurd (hk.symm.trans hlx) (hx i hi)
theorem ManyS.next {S : List Sr} {k : Nat} {t : Int} {u : Nat} (h : ManyS S k t u) (hS : S.Pairwise fun a b => a.key < b.key) (hk : k < 60) : ManyS (addS S (numK k) (t, u)) (k + 1) t u := by
  have hn : known S (numK k) = false := h.none fun i hi e => by have := numK_inj i (by omega) k hk e; omega
  refine ⟨by rw [length_addS _ _ _ hS, hn, h.len]; rfl, fun l hl => ?_, fun i hi => ?_, by rw [count_addS, h.cnt]⟩
  · rcases (mem_addS hS).1 hl with ⟨h1, _⟩ | ⟨m, hm, e, rfl⟩ | ⟨_, rfl⟩
    · obtain ⟨a, b, i, hi, e⟩ := h.lin l h1
      exact ⟨a, b, i, by omega, e⟩
    · rw [known_iff.2 ⟨m, hm, e⟩] at hn; cases hn
    · exact ⟨rfl, rfl, k, by omega, rfl⟩
  · rcases Nat.lt_or_ge i k with h1 | h1
    · obtain ⟨l, hl, e⟩ := known_iff.1 (h.kn i h1)
      exact known_iff.2 ⟨l, (mem_addS hS).2 (.inl ⟨hl, fun e2 => by have := numK_inj i (by omega) k hk (e.symm.trans e2); omega⟩), e⟩
    · obtain rfl : i = k := by omega
      exact known_iff.2 ⟨_, (mem_addS hS).2 (.inr (.inr ⟨hn, rfl⟩)), rfl⟩
theorem ManyS.fine {S : List Sr} {k : Nat} {t : Int} {u : Nat} (h : ManyS S k t u) (hk : k < 60) (h1 : -1099511627776 ≤ t) (h2 : t ≤ 1099511627776) : addC S (numK k) t = 0 := by
  have hn : known S (numK k) = false := h.none fun i hi e => by have := numK_inj i (by omega) k hk e; omega
  exact addC_fine (numK_read k hk) h1 h2 (oldB_none hn t) (.inr (by rw [h.len]; exact hk))
theorem addC_full {S : List Sr} {k : List UInt8} {t : Int} (h1 : readC k = 0) (h2 : -1099511627776 ≤ t) (h3 : t ≤ 1099511627776) (h4 : known S k = false) (h5 : 60 ≤ S.length) : addC S k t = 7 := by
  unfold addC
  rw [if_neg (by omega), if_neg (by omega), oldB_none h4, if_neg (by decide), if_pos ⟨h4, h5⟩]
theorem addC_old {S : List Sr} {k : List UInt8} {t : Int} (h1 : readC k = 0) (h2 : -1099511627776 ≤ t) (h3 : t ≤ 1099511627776) (h4 : oldB S k t = true) : addC S k t = 8 := by
  unfold addC
  rw [if_neg (by omega), if_neg (by omega), if_pos h4]
theorem addA_none {k : List UInt8} (h1 : readC k = 0) : addA k = -1 := by
  unfold addA
  rw [if_neg (by omega)]
/-- All of them cut. -/
theorem ManyS.cut {S : List Sr} {t : Int} {u : Nat} (h : ManyS S 60 t u) : (rowsS (t + 1) S).length = 60 ∧ countS (cutS (t + 1) S) = 0 ∧ seriesS (cutS (t + 1) S) = [] := by
  have hg : goneP (t + 1) [(t, u)] = [(t, u)] := by
    unfold goneP
    rw [List.filter_cons, if_pos (by simp; omega)]
    rfl
  have hl : leftP (t + 1) [(t, u)] = [] := by
    unfold leftP
    rw [List.filter_cons, if_neg (by simp; omega)]
    rfl
  have e1 : rowsS (t + 1) S = S.map fun l => (l.key, [(t, u)]) := by
    unfold rowsS
    have : (S.map fun l => (l.key, goneP (t + 1) l.pts)) = S.map fun l => (l.key, [(t, u)]) := List.map_congr_left fun l hl' => by rw [(h.lin l hl').1, hg]
    rw [this]
    refine List.filter_eq_self.2 fun x hx => ?_
    obtain ⟨l, _, rfl⟩ := List.mem_map.1 hx
    rfl
  have e2 : ∀ l, l ∈ cutS (t + 1) S → l.pts = [] := fun l hl' => by
    obtain ⟨m, hm, rfl⟩ := List.mem_map.1 hl'
    show leftP (t + 1) m.pts = []
    rw [(h.lin m hm).1, hl]
  refine ⟨by rw [e1, List.length_map, h.len], ?_, ?_⟩
  · have := count_cut (t + 1) S
    rw [e1, h.cnt, List.map_map] at this
    have hsum : ∀ T : List Sr, (T.map ((fun x : List UInt8 × List (Int × Nat) => x.2.length) ∘ fun l => (l.key, [(t, u)]))).sum = T.length := by
      intro T
      induction T with
      | nil => rfl
      | cons a r ih =>
        rw [List.map_cons, List.sum_cons, ih, List.length_cons]
        show 1 + r.length = r.length + 1
        omega
    rw [hsum, h.len] at this
    omega
  · cases e : seriesS (cutS (t + 1) S) with
    | nil => rfl
    | cons a r =>
      obtain ⟨l, hl', _, hp⟩ := mem_seriesS.1 (show a ∈ seriesS (cutS (t + 1) S) by rw [e]; exact List.mem_cons_self ..)
      exact absurd (e2 l hl') hp
theorem ManyS.cut_old {S : List Sr} {t : Int} {u : Nat} (h : ManyS S 60 t u) (hS : S.Pairwise fun a b => a.key < b.key) (y : Int) : oldB (cutS (t + 1) S) (numK 7) y = decide (y ≤ t) := by
  obtain ⟨l, hl, e⟩ := known_iff.1 (h.kn 7 (by omega))
  have hm : (⟨l.key, leftP (t + 1) l.pts, l.last⟩ : Sr) ∈ cutS (t + 1) S := List.mem_map.2 ⟨l, hl, rfl⟩
  have hp : (cutS (t + 1) S).Pairwise fun a b => a.key < b.key := List.pairwise_map.2 hS
  rw [oldB_some hp hm e]
  show decide (y ≤ l.last) = _
  rw [(h.lin l hl).2.1]

set_option maxRecDepth 1000000 in
set_option maxHeartbeats 4000000 in
theorem many_main {Bd : Nat} {ea : Nat → Addr} (w : World) (E : Env Bd ea w) (hBd : Bd ≤ w.heap.size) (t : Int) (u : Nat) (hu : u < 18446744073709551616) :
    Calls Tryd.prog 4 #[.int .i64 t, .int .u64 (u : Int)] w fun e w' => e = .returned (.bool true) ∧ Below w.heap.size w w' := by
  have HCH := (show Hid _ from headed_any w E.head hBd)
  have HE := (show Hid _ from E)
  clear E
  go_enter Tryd.func4, Tryd.ntmps4
  go_wp2_with fail
  refine Calls.mono HCH.out ?_
  rintro e w1 ⟨rfl, hb1⟩
  have HB1 : Hid (Below w.heap.size w w1) := hb1
  have HN := (show Hid _ from hd_new w w1 hb1)
  clear hb1 HCH
  dsimp only
  by_cases hlo : t < 0
  · have d0 : decide (t < 0) = true := decide_eq_true hlo
    go_wp2
    go_ret
    exact ⟨rfl, HB1.out⟩
  have d0 : decide (t < 0) = false := decide_eq_false hlo
  by_cases hhi : 1073741824 < t
  · have d1 : decide (1073741824 < t) = true := decide_eq_true hhi
    go_wp2
    go_ret
    exact ⟨rfl, HB1.out⟩
  have d1 : decide (1073741824 < t) = false := decide_eq_false hhi
  go_wp2_with fail
  refine Calls.mono HN.out ?_
  rintro e w2 ⟨hb, rfl, h2, _⟩
  have H2 : Hid (HdSt w w2 hb []) := h2
  clear h2 HN
  dsimp only
  go_wp2_with fail
  go_loopw [7] (fun i wr => ∃ (k : Nat) (S : List Sr), k ≤ 60 ∧ i = .int .i64 (k : Int) ∧ HdSt w wr hb S ∧ ManyS S k t u) (fun i _ => 60 - (intOf i).toNat)
  case atStart => exact ⟨0, [], Nat.zero_le _, rfl, H2.out, ⟨rfl, fun _ h => (nomatch h), fun i hi => absurd hi (by omega), rfl⟩⟩
  case round =>
    obtain ⟨k, S, hk, rfl, hst, hms⟩ := hrel
    have HST := (show Hid _ from hst)
    have HMS := (show Hid _ from hms)
    clear hst hms H2
    by_cases hk60 : k < 60
    · have HD := (show Hid _ from decimal_any k hk60 wr)
      have hkI : (k : Int) < 60 := by omega
      go_wp2_with fail
      refine Calls.mono HD.out ?_
      rintro e w3 ⟨rfl, hb3⟩
      have h3 := HST.out.below hb3
      have HT : Hid ((⟨#[110, 61]⟩ : ByteArray) ++ ⟨(dec2 k).toArray⟩ = ⟨(numK k).toArray⟩) := by
        show _ = _
        apply ByteArray.ext
        rw [ByteArray.data_append]
        simp [numK]
      have hdl : (dec2 k).length ≤ 2 := by unfold dec2; split <;> simp
      have HA := (show Hid _ from hd_add w HE.out.head hBd w3 hb S h3 (by rw [HMS.out.len]; omega) (by rw [HMS.out.cnt]; omega) ⟨(numK k).toArray⟩ (by show (numK k).toArray.size ≤ 1000; rw [List.size_toArray, numK, List.length_append]; show 2 + _ ≤ _; omega) t u hu)
      obtain ⟨dk, hdk⟩ : ∃ dk : ByteArray, dk = ⟨(dec2 k).toArray⟩ := ⟨_, rfl⟩
      obtain ⟨nk, hnk⟩ : ∃ nk : ByteArray, nk = ⟨(numK k).toArray⟩ := ⟨_, rfl⟩
      rw [← hdk, ← hnk] at HT
      rw [← hnk] at HA
      have hnl : nk.data.toList = numK k := by rw [hnk]
      rw [hnl] at HA
      have hadd : ∀ w, (Op.stringOp .add ⟨#[110, 61]⟩ dk).run Tryd.prog w = .ok (.string nk) w := fun w => by
        rw [← HT.out]
        refine run_string_add_sum w _ _ ?_
        rw [hdk]
        have : (⟨(dec2 k).toArray⟩ : ByteArray).size = (dec2 k).length := by simp [ByteArray.size]
        rw [this]
        show 2 + _ ≤ _
        omega
      rw [← hdk]
      clear hb3 h3 hdk hnk hnl hdl HD
      dsimp only
      go_wp2_with fail
      refine Calls.mono HA.out ?_
      rintro e w4 ⟨v, rfl, hf, _, hz⟩
      have h0 := HMS.out.fine hk60 (by omega) (by omega)
      have hv := hf.none h0
      subst hv
      have H4 := (show Hid _ from And.intro (hz h0) (HMS.out.next HST.out.well.sorted hk60))
      clear hf hz h0 HA
      dsimp only
      go_wp2
      go_roundw
      case rel => exact ⟨k + 1, _, by omega, by go_num, H4.out.1, H4.out.2⟩
      case measure => simp [intOf] <;> omega
    · obtain rfl : k = 60 := by omega
      have hS := HST.out.well.sorted
      have hmore : known S moreK = false := HMS.out.none moreK_ne
      have hl60 := HMS.out.len
      have hfull : addC S moreK (t + 1) = 7 := addC_full moreK_read (by omega) (by omega) hmore (by omega)
      obtain ⟨hrl, hcc, hse⟩ := HMS.out.cut
      have hmore2 : known (cutS (t + 1) S) moreK = false := by rw [known_cut]; exact hmore
      have hfull2 : addC (cutS (t + 1) S) moreK (t + 1) = 7 := addC_full moreK_read (by omega) (by omega) hmore2 (by rw [length_cut]; omega)
      have hold : addC (cutS (t + 1) S) (numK 7) t = 8 := addC_old (numK_read 7 (by omega)) (by omega) (by omega) (by rw [HMS.out.cut_old hS]; simp)
      have hkn7 : known (cutS (t + 1) S) (numK 7) = true := by rw [known_cut]; exact HMS.out.kn 7 (by omega)
      have hfine : addC (cutS (t + 1) S) (numK 7) (t + 1) = 0 := addC_fine (numK_read 7 (by omega)) (by omega) (by omega) (by rw [HMS.out.cut_old hS]; exact decide_eq_false (by omega)) (.inl hkn7)
      have HF := (show Hid _ from And.intro hfull (And.intro hrl (And.intro hcc (And.intro hse (And.intro hfull2 (And.intro hold hfine))))))
      have HL : Hid ((cutS (t + 1) S).length ≤ 900 ∧ countS (cutS (t + 1) S) ≤ 900) := by rw [length_cut, hcc]; exact ⟨by omega, by omega⟩
      have HA := (show Hid _ from hd_add w HE.out.head hBd wr hb S HST.out (by omega) (by rw [HMS.out.cnt]; omega) ⟨#[110, 61, 109, 111, 114, 101]⟩ (by decide) (t + 1) 0 (by omega))
      have hl1 : S.length ≤ 1000 := by omega
      clear hS hmore hl60 hfull hrl hcc hse hmore2 hfull2 hold hkn7 hfine
      go_wp2_with fail
      refine Calls.mono HA.out ?_
      rintro e w3 ⟨v, rfl, hf, hp, _⟩
      have h7 : addC S moreK (t + 1) = 7 := HF.out.1
      have hf' : FaultV ea w3 v (addC S moreK (t + 1)) (addA moreK) := hf
      rw [h7, addA_none moreK_read] at hf'
      obtain ⟨h3, _⟩ := hp (by show 0 < addC S moreK (t + 1); rw [h7]; decide)
      have HC3 := (show Hid _ from coded2_v w3 (HE.out.below h3.bel hBd) (Nat.le_trans hBd h3.bel.size) v 7 hf' (by decide))
      have H3 := (show Hid _ from h3)
      clear hf hp h7 hf' h3 HA
      dsimp only
      go_wp2_with fail
      refine Calls.mono HC3.out ?_
      rintro e w4 ⟨rfl, hb4⟩
      have h4 := H3.out.below hb4
      have HCU := (show Hid _ from hd_cut w HE.out.head hBd w4 hb S h4 hl1 (by rw [HMS.out.cnt]; omega) (t + 1))
      clear hb4 h4 HC3
      dsimp only
      go_wp2_with fail
      refine Calls.mono HCU.out ?_
      rintro e w5 ⟨h5, ⟨hz, _⟩ | ⟨_, r, xs, rfl, hrow, _⟩⟩
      · have := HF.out.2.1
        rw [hz] at this
        cases this
      obtain ⟨ar, cr, hr⟩ : ∃ ar cr, r = .slice ar 60 cr := by
        rw [HF.out.2.1] at hrow
        rcases hrow.2 with ⟨_, h⟩ | ⟨g, cap, cur, h, _⟩
        · cases h
        · exact ⟨_, _, h⟩
      subst hr
      have HCN := (show Hid _ from hd_count w w5 hb _ h5 (by have := HL.out.2; omega))
      rw [HF.out.2.2.1] at HCN
      have H5 := (show Hid _ from h5)
      clear hrow h5 HCU
      dsimp only
      go_wp2_with fail
      refine Calls.mono HCN.out ?_
      rintro e w6 ⟨rfl, hb6⟩
      have h6 := H5.out.below hb6
      have HSE := (show Hid _ from hd_series w w6 hb _ h6 (by have := HL.out.1; omega))
      rw [HF.out.2.2.2.1] at HSE
      have H6 := (show Hid _ from h6)
      clear hb6 h6 HCN
      dsimp only
      go_wp2_with fail
      refine Calls.mono HSE.out ?_
      rintro e w7 ⟨v7, rfl, hb7, hown7⟩
      obtain ⟨a7, c7, hv7⟩ : ∃ a7 c7, v7 = .slice a7 0 c7 := by
        rcases hown7.2 with ⟨h, _⟩ | ⟨g, cap, cur, h, _⟩
        · exact ⟨_, _, h⟩
        · exact ⟨_, _, h⟩
      subst hv7
      have h7 := H6.out.below hb7
      have HA7 := (show Hid _ from hd_add w HE.out.head hBd w7 hb _ h7 HL.out.1 HL.out.2 ⟨#[110, 61, 109, 111, 114, 101]⟩ (by decide) (t + 1) 0 (by omega))
      clear hb7 h7 hown7 HSE
      dsimp only
      go_wp2_with fail
      refine Calls.mono HA7.out ?_
      rintro e w8 ⟨v8, rfl, hf, hp, _⟩
      have h7 : addC (cutS (t + 1) S) moreK (t + 1) = 7 := HF.out.2.2.2.2.1
      have hf' : FaultV ea w8 v8 (addC (cutS (t + 1) S) moreK (t + 1)) (addA moreK) := hf
      rw [h7, addA_none moreK_read] at hf'
      obtain ⟨h8, _⟩ := hp (by show 0 < addC (cutS (t + 1) S) moreK (t + 1); rw [h7]; decide)
      have HC8 := (show Hid _ from coded2_v w8 (HE.out.below h8.bel hBd) (Nat.le_trans hBd h8.bel.size) v8 7 hf' (by decide))
      have H8 := (show Hid _ from h8)
      clear hf hp h7 hf' h8 HA7
      dsimp only
      go_wp2_with fail
      refine Calls.mono HC8.out ?_
      rintro e w9 ⟨rfl, hb9⟩
      have h9 := H8.out.below hb9
      have HA9 := (show Hid _ from hd_add w HE.out.head hBd w9 hb _ h9 HL.out.1 HL.out.2 ⟨#[110, 61, 55]⟩ (by decide) t 0 (by omega))
      clear hb9 h9 HC8
      dsimp only
      go_wp2_with fail
      refine Calls.mono HA9.out ?_
      rintro e w10 ⟨v10, rfl, hf, hp, _⟩
      have h7 : addC (cutS (t + 1) S) (numK 7) t = 8 := HF.out.2.2.2.2.2.1
      have hf' : FaultV ea w10 v10 (addC (cutS (t + 1) S) (numK 7) t) (addA (numK 7)) := hf
      rw [h7, addA_none (numK_read 7 (by omega))] at hf'
      obtain ⟨h10, _⟩ := hp (by show 0 < addC (cutS (t + 1) S) (numK 7) t; rw [h7]; decide)
      have HC10 := (show Hid _ from coded2_v w10 (HE.out.below h10.bel hBd) (Nat.le_trans hBd h10.bel.size) v10 8 hf' (by decide))
      have H10 := (show Hid _ from h10)
      clear hf hp h7 hf' h10 HA9
      dsimp only
      go_wp2_with fail
      refine Calls.mono HC10.out ?_
      rintro e w11 ⟨rfl, hb11⟩
      have h11 := H10.out.below hb11
      have HA11 := (show Hid _ from hd_add w HE.out.head hBd w11 hb _ h11 HL.out.1 HL.out.2 ⟨#[110, 61, 55]⟩ (by decide) (t + 1) 0 (by omega))
      clear hb11 h11 HC10
      dsimp only
      go_wp2_with fail
      refine Calls.mono HA11.out ?_
      rintro e w12 ⟨v12, rfl, hf, _, hz⟩
      have h0 : addC (cutS (t + 1) S) (numK 7) (t + 1) = 0 := HF.out.2.2.2.2.2.2
      have hv := hf.none h0
      subst hv
      have h12 := hz h0
      have hc1 : countS (addS (cutS (t + 1) S) (⟨#[110, 61, 55]⟩ : ByteArray).data.toList (t + 1, 0)) = 1 := by rw [count_addS, HF.out.2.2.1]
      have hcc := hd_count w w12 hb _ h12 (by rw [hc1]; omega)
      rw [hc1] at hcc
      have HCN := (show Hid _ from hcc)
      have HB12 := (show Hid _ from h12.bel)
      clear hf hz h0 h12 hc1 hcc HA11
      dsimp only
      go_wp2_with fail
      refine Calls.mono HCN.out ?_
      rintro e w13 ⟨rfl, hb13⟩
      have HB13 := (show Hid _ from HB12.out.trans (hb13.mono HB12.out.size))
      clear hb13
      dsimp only
      go_wp2
      go_ret
      exact ⟨rfl, HB13.out⟩
end Go.Proofs.YtfanagohfimnkaaDoor
