/- ChunkMerges by its walk: points between any ticks; any two lists as one. -/
import Derived.Test.YtgdflopgdlpimaaDoorChunkedFact
import Derived.Test.YtgdflopgdlpimaaDoorPtsOwnGroup
import Derived.Test.YtgdflopgdlpimaaDoorPtListGroup
namespace Go.Proofs.YtgdflopgdlpimaaDoor
open Go.RowKit PtMath

set_option maxRecDepth 1000000 in
theorem merges_long {Bd : Nat} {ea : Nat → Addr} (w : World) (E : Ern Bd ea w) (hBd : Bd ≤ w.heap.size) (hF : Forms w) (hT : Tab w) (la lb : Option Addr) (n ca m cb : Nat) (hnn : (n : Int) ≤ 9223372036854775807) (hmm : (m : Int) ≤ 9223372036854775807) (x y : Int) (h : 100 < n ∨ 100 < m) :
    Calls Tryd.prog 11 #[.slice la n ca, .slice lb m cb, .int .i64 x, .int .i64 y] w fun e w' => e = .returned (.bool true) ∧ Below w.heap.size w w' := by
  have HCH := (show Hid _ from chunked_any w E hBd hF hT)
  by_cases h1 : 100 < n
  · have d1 : decide ((100 : Int) < (n : Int)) = true := by simp; omega
    go_enter Tryd.func11, Tryd.ntmps11
    go_wp2_with fail
    refine Calls.mono HCH.out ?_
    rintro e w1 ⟨rfl, hb1⟩
    have HB1 := (show Hid _ from hb1)
    clear hb1
    go_wp2
    go_ret
    exact ⟨rfl, HB1.out⟩
  · have d1 : decide ((100 : Int) < (n : Int)) = false := by simp; omega
    have d2 : decide ((100 : Int) < (m : Int)) = true := by simp; omega
    go_enter Tryd.func11, Tryd.ntmps11
    go_wp2_with fail
    refine Calls.mono HCH.out ?_
    rintro e w1 ⟨rfl, hb1⟩
    have HB1 := (show Hid _ from hb1)
    clear hb1
    go_wp2
    go_ret
    exact ⟨rfl, HB1.out⟩
theorem same_list (w : World) (a b : Option Addr) (ca cb : Nat) (l : List (Int × Nat)) (ha : PtsL w a l) (hb : PtsL w b l) (hin : PtsIn l) (hn : l.length ≤ 1000) :
    Calls Tryd.prog 47 #[.slice a l.length ca, .slice b l.length cb] w fun e w' => e = .returned (.bool true) ∧ Below w.heap.size w w' := by
  refine (same_points w a b l.length ca cb (tickAt l) (bitAt l) (pts_of_list ha hin) (pts_of_list hb hin) (by omega)).mono ?_
  rintro e w' ⟨rfl, q, rfl⟩
  exact ⟨rfl, below_drewN (Below.refl _ _) q⟩
theorem own_list_at {w w0 : World} {v : Value} {l : List (Int × Nat)} {base : Nat} (h : w.ownsRow base 92 2 v l.length (pairCells l)) (hb : Below w.heap.size w w0) : ∃ a c, v = .slice a l.length c ∧ l.length ≤ c ∧ PtsL w0 a l := by
  obtain ⟨a, c, rfl, hc, hP, _⟩ := own_pairs h
  exact ⟨a, c, rfl, hc, hP.below hb⟩
theorem slice_of_own {w : World} {base : Nat} {v : Value} {l : List (Int × Nat)} (h : w.ownsRow base 92 2 v l.length (pairCells l)) : ∃ a c, v = .slice a l.length c ∧ l.length ≤ c ∧ PtsL w a l := by
  obtain ⟨a, c, rfl, hc, hP, _⟩ := own_pairs h
  exact ⟨a, c, rfl, hc, hP⟩
theorem betweenL_mem (x y : Int) (l : List (Int × Nat)) : ∀ p, p ∈ betweenL x y l → p ∈ l := fun _ hp => (List.mem_filter.1 hp).1

/-- Points' fault, as the walk is told of it. -/
theorem fault_of (w : World) (la : Option Addr) (n c : Nat) (T : Nat → Int) (B : Nat → Nat) (hP : Pts w la n T B) (hn : n ≤ 100) :
    ∃ C A : Int, (0 ≤ C ∧ C ≤ 8) ∧ (C = 0 → ∀ i, i < n → ptOk T i = true) ∧ ∀ w0, Below w.heap.size w w0 → Calls Tryd.prog 52 #[.slice la n c] w0 fun e w' => e = .returned (.agg #[.int .i64 C, .int .i64 A]) ∧ Below w0.heap.size w0 w' := by
  obtain ⟨m, hm, hok, hbad⟩ := first_bad (ptOk T) n
  refine ⟨_, _, ?_, ?_, fun w0 hb => points_fault w0 la n c T B (hP.below hb) (by omega) m hm hok hbad _ _ rfl rfl⟩
  · split
    · split <;> omega
    · omega
  · intro h i hi
    split at h
    · split at h <;> omega
    · exact hok i (by omega)
theorem rising_of (T : Nat → Int) (B : Nat → Nat) (n : Nat) (h : ∀ i, i < n → ptOk T i = true) : Rising (listOf T B n) := by
  have hstep : ∀ j, j < n → ∀ i, i < j → T i < T j := by
    intro j
    induction j with
    | zero => intro _ i hi; omega
    | succ j ih =>
      intro hj i hi
      have h1 := h (j + 1) hj
      unfold ptOk at h1
      simp at h1
      rcases Nat.lt_or_ge i j with h2 | h2
      · have := ih (by omega) i h2
        omega
      · have : i = j := by omega
        subst this
        exact h1.2
  unfold Rising listOf
  rw [List.pairwise_map]
  refine List.Pairwise.imp_of_mem ?_ List.pairwise_lt_range
  intro i j hi hj hij
  exact hstep j (by simpa using hj) i hij
theorem rising_at {l : List (Int × Nat)} (h : Rising l) (i : Nat) (hi : i + 1 < l.length) : tickAt l i < tickAt l (i + 1) := by
  have h1 := List.pairwise_iff_getElem.1 h i (i + 1) (by omega) hi (by omega)
  unfold tickAt
  rw [List.getD_eq_getElem?_getD, List.getD_eq_getElem?_getD, List.getElem?_eq_getElem (by omega), List.getElem?_eq_getElem hi]
  exact h1

theorem mergeL_len (a b : List (Int × Nat)) : (mergeL a b).length ≤ a.length + b.length := by
  fun_induction mergeL a b with
  | case1 b => simp
  | case2 a h => simp
  | case3 p a q b h ih => simp at ih ⊢; omega
  | case4 p a q b h h' ih => simp at ih ⊢; omega
  | case5 p a q b h h' ih => simp at ih ⊢; omega
theorem Tryd.fieldF (a b : Value) (w : World) : (Instr.field 89 (.agg #[a, b]) 0).run Tryd.prog w = .ok a w := by kernel_rfl

set_option maxRecDepth 1000000 in
set_option maxHeartbeats 4000000 in
theorem merges_main {Bd : Nat} {ea : Nat → Addr} (w : World) (E : Ern Bd ea w) (hBd : Bd ≤ w.heap.size) (hF : Forms w) (hT : Tab w) (la lb : Option Addr) (n ca m cb : Nat) (T T' : Nat → Int) (B B' : Nat → Nat) (hP : Pts w la n T B) (hP' : Pts w lb m T' B') (hnn : (n : Int) ≤ 9223372036854775807) (hmm : (m : Int) ≤ 9223372036854775807) (hca : n ≤ ca) (hcb : m ≤ cb) (x y : Int) :
    Calls Tryd.prog 11 #[.slice la n ca, .slice lb m cb, .int .i64 x, .int .i64 y] w fun e w' => e = .returned (.bool true) ∧ Below w.heap.size w w' := by
  by_cases hlong : 100 < n ∨ 100 < m
  · exact merges_long w E hBd hF hT la lb n ca m cb hnn hmm x y hlong
  have HCH := (show Hid _ from chunked_any w E hBd hF hT)
  clear E hBd hF hT
  obtain ⟨C, A, hC0, hC1, hpf⟩ := fault_of w la n ca T B hP (by omega)
  obtain ⟨C', A', hC0', hC1', hpf'⟩ := fault_of w lb m cb T' B' hP' (by omega)
  have hris := fun h => rising_of T B n (hC1 h)
  have hris' := fun h => rising_of T' B' m (hC1' h)
  obtain ⟨hPa, hIa, hLa⟩ := ptsL_of hP
  obtain ⟨hPb, hIb, hLb⟩ := ptsL_of hP'
  generalize listOf T B n = l at *
  generalize listOf T' B' m = r at *
  clear hC1 hC1' hP hP'
  have hbl := betweenL_len x y l
  have HIN : Hid (PtsIn (betweenL x y l)) := ptsIn_sub hIa (betweenL_mem x y l)
  have HINM : Hid (PtsIn (mergeL l r)) := fun p hp => by
    rcases mem_mergeL l r p hp with h | h
    · exact hIa p h
    · exact hIb p h
  have hml : (mergeL l r).length ≤ n + m := by
    have := mergeL_len l r
    omega
  have hff := Tryd.fieldF
  have HPA : Hid (PtsL w la l) := hPa
  have HPB : Hid (PtsL w lb r) := hPb
  have HLA := (show Hid _ from hLa)
  have HLB := (show Hid _ from hLb)
  have HPF := (show Hid _ from hpf)
  have HPF' := (show Hid _ from hpf')
  have HRIS := (show Hid _ from hris)
  have HRIS' := (show Hid _ from hris')
  have d1 : decide ((100 : Int) < (n : Int)) = false := by simp; omega
  have d2 : decide ((100 : Int) < (m : Int)) = false := by simp; omega
  have hn1 : n ≤ 100 := by omega
  have hm1 : m ≤ 100 := by omega
  have hbl2 : (betweenL x y l).length ≤ 100 := by omega
  clear hPa hPb hLa hLb hIa hIb hpf hpf' hris hris' hlong hbl
  go_enter Tryd.func11, Tryd.ntmps11
  go_wp2_with fail
  refine Calls.mono HCH.out ?_
  rintro e w1 ⟨rfl, hb1⟩
  have HB1 := (show Hid _ from hb1)
  have how := own_points w1 la ca l (HPA.out.below hb1) (by rw [HLA.out]; omega)
  rw [HLA.out] at how
  have HOW := (show Hid _ from how)
  clear hb1 HCH how
  go_wp2_with fail
  refine Calls.mono HOW.out ?_
  rintro e w2 ⟨v2, rfl, hown2, hb2⟩
  rw [← HLA.out] at hown2
  obtain ⟨a2, c2, rfl, hc2, hP2⟩ := slice_of_own hown2
  have HB2 : Hid (Below w.heap.size w w2) := HB1.out.trans (hb2.mono HB1.out.size)
  have HBT := (show Hid _ from cbetween_any w2 a2 c2 l x y hP2 (by rw [HLA.out]; omega))
  clear hb2 hown2 hP2 HOW
  rw [HLA.out] at HBT hc2 ⊢
  go_wp2_with fail
  refine Calls.mono HBT.out ?_
  rintro e w3 ⟨v3, rfl, hown3, hb3⟩
  obtain ⟨a3, c3, rfl, hc3, hP3⟩ := slice_of_own hown3
  have HB3 : Hid (Below w.heap.size w w3) := HB2.out.trans (hb3.mono HB2.out.size)
  have HP3 : Hid (PtsL w3 a3 (betweenL x y l)) := hP3
  have hbo := between_any w3 la ca l x y (HPA.out.below HB3.out) (by rw [HLA.out]; omega)
  rw [HLA.out] at hbo
  have HBO := (show Hid _ from hbo)
  clear hb3 hown3 hP3 HBT hbo
  go_wp2_with fail
  refine Calls.mono HBO.out ?_
  rintro e w4 ⟨v4, rfl, hown4, hb4⟩
  obtain ⟨a4, c4, rfl, hc4, hP4⟩ := slice_of_own hown4
  have HB4 : Hid (Below w.heap.size w w4) := HB3.out.trans (hb4.mono HB3.out.size)
  have HSM := (show Hid _ from same_list w4 a3 a4 c3 c4 (betweenL x y l) (HP3.out.below hb4) hP4 HIN.out (by omega))
  clear hb4 hown4 hP4 HBO HP3
  go_wp2_with fail
  refine Calls.mono HSM.out ?_
  rintro e w5 ⟨rfl, hb5⟩
  have HB5 : Hid (Below w.heap.size w w5) := HB4.out.trans (hb5.mono HB4.out.size)
  have how := own_points w5 la ca l (HPA.out.below HB5.out) (by rw [HLA.out]; omega)
  rw [HLA.out] at how
  have HOW := (show Hid _ from how)
  clear hb5 HSM how
  go_wp2_with fail
  refine Calls.mono HOW.out ?_
  rintro e w6 ⟨v6, rfl, hown6, hb6⟩
  rw [← HLA.out] at hown6
  obtain ⟨a6, c6, rfl, hc6, hP6⟩ := slice_of_own hown6
  rw [HLA.out] at hc6 ⊢
  have HB6 : Hid (Below w.heap.size w w6) := HB5.out.trans (hb6.mono HB5.out.size)
  have HP6 : Hid (PtsL w6 a6 l) := hP6
  have how := own_points w6 lb cb r (HPB.out.below HB6.out) (by rw [HLB.out]; omega)
  rw [HLB.out] at how
  have HOW7 := (show Hid _ from how)
  clear hb6 hown6 hP6 HOW how
  go_wp2_with fail
  refine Calls.mono HOW7.out ?_
  rintro e w7 ⟨v7, rfl, hown7, hb7⟩
  rw [← HLB.out] at hown7
  obtain ⟨a7, c7, rfl, hc7, hP7⟩ := slice_of_own hown7
  rw [HLB.out] at hc7 ⊢
  have HB7 : Hid (Below w.heap.size w w7) := HB6.out.trans (hb7.mono HB6.out.size)
  have hmg := cmerge_any w7 a6 a7 c6 c7 l r (HP6.out.below hb7) hP7 (by rw [HLA.out]; omega) (by rw [HLB.out]; omega) (by rw [HLA.out]; exact hc6) (by rw [HLB.out]; exact hc7)
  rw [HLA.out, HLB.out] at hmg
  have HMG := (show Hid _ from hmg)
  clear hb7 hown7 hP7 HOW7 HP6 hmg
  go_wp2_with fail
  refine Calls.mono HMG.out ?_
  rintro e w8 ⟨v8, rfl, hout8⟩
  have hb8 := hout8.bel
  obtain ⟨a8, c8, rfl, hc8, hP8⟩ := slice_of_own hout8.own
  have HB8 : Hid (Below w.heap.size w w8) := HB7.out.trans (hb8.mono HB7.out.size)
  have HP8 : Hid (PtsL w8 a8 (mergeL l r)) := hP8
  have hmo := merge_any w8 la lb ca cb l r (HPA.out.below HB8.out) (HPB.out.below HB8.out) (by rw [HLA.out]; omega) (by rw [HLB.out]; omega) (by rw [HLA.out]; exact hca) (by rw [HLB.out]; exact hcb)
  rw [HLA.out, HLB.out] at hmo
  have HMO := (show Hid _ from hmo)
  clear hb8 hout8 hP8 HMG hmo
  go_wp2_with fail
  refine Calls.mono HMO.out ?_
  rintro e w9 ⟨v9, rfl, hout9⟩
  have hb9 := hout9.bel
  obtain ⟨a9, c9, rfl, hc9, hP9⟩ := slice_of_own hout9.own
  have HB9 : Hid (Below w.heap.size w w9) := HB8.out.trans (hb9.mono HB8.out.size)
  have HP9 : Hid (PtsL w9 a8 (mergeL l r)) := HP8.out.below hb9
  have HSM := (show Hid _ from same_list w9 a8 a9 c8 c9 (mergeL l r) HP9.out hP9 HINM.out (by omega))
  clear hb9 hout9 hP9 HMO HP8
  go_wp2_with fail
  refine Calls.mono HSM.out ?_
  rintro e w10 ⟨rfl, hb10⟩
  have HB10 : Hid (Below w.heap.size w w10) := HB9.out.trans (hb10.mono HB9.out.size)
  have HP10 : Hid (PtsL w10 a8 (mergeL l r)) := HP9.out.below hb10
  have HPF1 := (show Hid _ from HPF.out w10 HB10.out)
  clear hb10 HSM HP9
  go_wp2_with fail
  refine Calls.mono HPF1.out ?_
  rintro e w11 ⟨rfl, hb11⟩
  have HB11 : Hid (Below w.heap.size w w11) := HB10.out.trans (hb11.mono HB10.out.size)
  have HP11 : Hid (PtsL w11 a8 (mergeL l r)) := HP10.out.below hb11
  have HPF2 := (show Hid _ from HPF'.out w11 HB11.out)
  clear hb11 HPF1 HP10
  by_cases hC : 0 < C
  · have dC : decide (0 < C) = true := decide_eq_true hC
    go_wp2
    go_ret
    exact ⟨rfl, HB11.out⟩
  · have dC : decide (0 < C) = false := decide_eq_false hC
    go_wp2_with fail
    refine Calls.mono HPF2.out ?_
    rintro e w12 ⟨rfl, hb12⟩
    have HB12 : Hid (Below w.heap.size w w12) := HB11.out.trans (hb12.mono HB11.out.size)
    have HP12 : Hid (PtsL w12 a8 (mergeL l r)) := HP11.out.below hb12
    clear hb12 HPF2 HP11
    by_cases hC' : 0 < C'
    · have dC' : decide (0 < C') = true := decide_eq_true hC'
      go_wp2
      go_ret
      exact ⟨rfl, HB12.out⟩
    · have dC' : decide (0 < C') = false := decide_eq_false hC'
      have hra := HRIS.out (by omega)
      have hrb := HRIS'.out (by omega)
      have hrm := mergeL_rising l r hra hrb
      have hag := merge_again_right l r hra hrb
      have hal := merge_again_left l r hra hrb
      have HRM := (show Hid _ from hrm)
      have HAG := (show Hid _ from hag)
      have HAL := (show Hid _ from hal)
      generalize hM : mergeL l r = M at *
      clear hra hrb hrm hag hal HRIS HRIS' hM
      obtain ⟨K, hK⟩ : ∃ K, M.length = K := ⟨_, rfl⟩
      rw [hK] at hml hc8 ⊢
      have HK := (show Hid _ from hK)
      clear hK
      go_wp2_with fail
      go_loopw [11] (fun i wr => ∃ k q : Nat, 1 ≤ k ∧ i = .int .i64 k ∧ wr = w12.drewN q) (fun i _ => K - (intOf i).toNat)
      case atStart => exact ⟨1, 0, Nat.le_refl _, rfl, rfl⟩
      case round =>
        obtain ⟨k, q, hk, rfl, rfl⟩ := hrel
        by_cases hlt : k < K
        · obtain ⟨j, rfl⟩ : ∃ j, k = j + 1 := ⟨k - 1, by omega⟩
          have hpts := pts_of_list HP12.out HINM.out
          rw [HK.out] at hpts
          obtain ⟨b, o, rfl, hc⟩ := hpts.at (j + 1) hlt
          have e1 := (hc (j + 1) hlt).1
          have e0 := (hc j (by omega)).1
          have hr1 := rising_at HRM.out j (by rw [HK.out]; exact hlt)
          have hdec : decide (tickAt M (j + 1) ≤ tickAt M j) = false := by simp; omega
          have i1 : (0 : Int) ≤ (j : Int) + 1 - 1 := by omega
          have i2 : (j : Int) + 1 - 1 < (K : Int) := by omega
          have i3 : (0 : Int) ≤ (j : Int) + 1 := by omega
          have i4 : (j : Int) + 1 < (K : Int) := by omega
          clear hc hpts hr1
          generalize tickAt M (j + 1) = t1 at *
          generalize tickAt M j = t0 at *
          go_wp2_with fail
          go_quiet (fail)
          go_wp2
          go_roundw
          case rel => exact ⟨j + 2, _, by omega, by go_num, by first | rfl | (rw [World.drewN_drewN])⟩
          case measure => simp [intOf] <;> omega
        · have hge : (K : Int) ≤ (k : Int) := by omega
          obtain ⟨W, hW⟩ : ∃ W, W = w12.drewN q := ⟨_, rfl⟩
          rw [← hW]
          have hbW : Below w12.heap.size w12 W := by rw [hW]; exact below_drewN (Below.refl _ _) q
          have HBW : Hid (Below w.heap.size w W) := HB12.out.trans (hbW.mono HB12.out.size)
          have HPW : Hid (PtsL W a8 M) := HP12.out.below hbW
          have hm1' := cmerge_any W a8 lb c8 cb M r HPW.out (HPB.out.below HBW.out) (by rw [HK.out]; omega) (by rw [HLB.out]; omega) (by rw [HK.out]; exact hc8) (by rw [HLB.out]; exact hcb)
          rw [HK.out, HLB.out, HAG.out] at hm1'
          have HM1 := (show Hid _ from hm1')
          clear hbW hW hm1' HP12
          go_wp2_with fail
          refine Calls.mono HM1.out ?_
          rintro e w13 ⟨v13, rfl, hout13⟩
          have hb13 := hout13.bel
          obtain ⟨a13, c13, rfl, hc13, hP13⟩ := slice_of_own hout13.own
          have HB13 : Hid (Below w.heap.size w w13) := HBW.out.trans (hb13.mono HBW.out.size)
          have HP13 : Hid (PtsL w13 a8 M) := HPW.out.below hb13
          have hsm := same_list w13 a13 a8 c13 c8 M hP13 HP13.out HINM.out (by rw [HK.out]; omega)
          rw [HK.out] at hsm ⊢
          have HSM1 := (show Hid _ from hsm)
          clear hb13 hout13 hP13 HM1 hsm HPW hc13
          go_wp2_with fail
          refine Calls.mono HSM1.out ?_
          rintro e w14 ⟨rfl, hb14⟩
          have HB14 : Hid (Below w.heap.size w w14) := HB13.out.trans (hb14.mono HB13.out.size)
          have HP14 : Hid (PtsL w14 a8 M) := HP13.out.below hb14
          have hm2 := cmerge_any w14 la a8 ca c8 l M (HPA.out.below HB14.out) HP14.out (by rw [HLA.out]; omega) (by rw [HK.out]; omega) (by rw [HLA.out]; exact hca) (by rw [HK.out]; exact hc8)
          rw [HK.out, HLA.out, HAL.out] at hm2
          have HM2 := (show Hid _ from hm2)
          clear hb14 hm2 HSM1 HP13
          go_wp2_with fail
          refine Calls.mono HM2.out ?_
          rintro e w15 ⟨v15, rfl, hout15⟩
          have hb15 := hout15.bel
          obtain ⟨a15, c15, rfl, hc15, hP15⟩ := slice_of_own hout15.own
          have HB15 : Hid (Below w.heap.size w w15) := HB14.out.trans (hb15.mono HB14.out.size)
          have HP15 : Hid (PtsL w15 a8 M) := HP14.out.below hb15
          have hsm := same_list w15 a15 a8 c15 c8 M hP15 HP15.out HINM.out (by rw [HK.out]; omega)
          rw [HK.out] at hsm ⊢
          have HSM2 := (show Hid _ from hsm)
          clear hb15 hout15 hP15 HM2 hsm HP14 hc15
          go_wp2_with fail
          refine Calls.mono HSM2.out ?_
          rintro e w16 ⟨rfl, hb16⟩
          have HB16 : Hid (Below w.heap.size w w16) := HB15.out.trans (hb16.mono HB15.out.size)
          clear hb16
          go_wp2
          go_ret
          exact ⟨rfl, HB16.out⟩
end Go.Proofs.YtgdflopgdlpimaaDoor
