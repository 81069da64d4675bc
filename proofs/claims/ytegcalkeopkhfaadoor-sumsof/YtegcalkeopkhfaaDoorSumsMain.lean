/- SumsOf by its walk: sums of any points, step by step, and of two lists. -/
import Derived.Test.YtegcalkeopkhfaaDoorSmFact
namespace Go.Proofs.YtegcalkeopkhfaaDoor
open Go.RowKit PtMath SmMath

set_option maxRecDepth 1000000 in
theorem sums_long (w : World) (la : Option Addr) (n c : Nat) (f st m cut : Int) (hnn : (n : Int) ≤ 9223372036854775807) (h : 100 < n ∨ cut < 0 ∨ (n : Int) < cut) :
    Calls Tryd.prog 3 #[.slice la n c, .int .i64 f, .int .i64 st, .int .i64 m, .int .i64 cut] w fun e w' => e = .returned (.bool true) ∧ Below w.heap.size w w' := by
  have HSU := (show Hid _ from summed_any w)
  by_cases h1 : 100 < n
  · have d1 : decide ((100 : Int) < (n : Int)) = true := by simp; omega
    clear h
    go_enter Tryd.func3, Tryd.ntmps3
    go_wp2_with fail
    refine Calls.mono HSU.out ?_
    rintro e w1 ⟨rfl, hb1⟩
    have HB1 := (show Hid _ from hb1)
    clear hb1
    go_wp2
    go_ret
    exact ⟨rfl, HB1.out⟩
  have d1 : decide ((100 : Int) < (n : Int)) = false := by simp; omega
  by_cases h2 : cut < 0
  · clear h
    go_enter Tryd.func3, Tryd.ntmps3
    go_wp2_with fail
    refine Calls.mono HSU.out ?_
    rintro e w1 ⟨rfl, hb1⟩
    have HB1 := (show Hid _ from hb1)
    clear hb1
    go_wp2
    go_ret
    exact ⟨rfl, HB1.out⟩
  · have h3 : (n : Int) < cut := by omega
    clear h
    go_enter Tryd.func3, Tryd.ntmps3
    go_wp2_with fail
    refine Calls.mono HSU.out ?_
    rintro e w1 ⟨rfl, hb1⟩
    have HB1 := (show Hid _ from hb1)
    clear hb1
    go_wp2
    go_ret
    exact ⟨rfl, HB1.out⟩

set_option maxRecDepth 1000000 in
set_option maxHeartbeats 4000000 in
theorem sums_main {Bd : Nat} {ea : Nat → Addr} (w : World) (E : Env Bd ea w) (hBd : Bd ≤ w.heap.size) (la : Option Addr) (n c : Nat) (T : Nat → Int) (B : Nat → Nat) (hP : Pts w la n T B) (hnn : (n : Int) ≤ 9223372036854775807) (hca : n ≤ c) (f st m cut : Int) :
    Calls Tryd.prog 3 #[.slice la n c, .int .i64 f, .int .i64 st, .int .i64 m, .int .i64 cut] w fun e w' => e = .returned (.bool true) ∧ Below w.heap.size w w' := by
  by_cases hlong : 100 < n ∨ cut < 0 ∨ (n : Int) < cut
  · exact sums_long w la n c f st m cut hnn hlong
  obtain ⟨k, rfl⟩ := Int.eq_ofNat_of_zero_le (show 0 ≤ cut by omega)
  have hkn : k ≤ n := by omega
  have hn1 : n ≤ 100 := by omega
  obtain ⟨hPa, hIa, hLa⟩ := ptsL_of hP
  generalize listOf T B n = l at *
  have HSU := (show Hid _ from summed_any w)
  have HE := (show Hid _ from E)
  have HPA : Hid (PtsL w la l) := hPa
  have HI : Hid (PtsIn l) := hIa
  have HLA := (show Hid _ from hLa)
  have d1 : decide ((100 : Int) < (n : Int)) = false := by simp; omega
  have d2 : ¬((k : Int) < 0) := by omega
  have d3 : ¬((n : Int) < (k : Int)) := by omega
  clear hPa hIa hLa hP E hlong
  go_enter Tryd.func3, Tryd.ntmps3
  go_wp2_with fail
  refine Calls.mono HSU.out ?_
  rintro e w1 ⟨rfl, hb1⟩
  have HB1 := (show Hid _ from hb1)
  have how := own_points w1 la c l (HPA.out.below hb1) (by rw [HLA.out]; omega)
  rw [HLA.out] at how
  have HOW := (show Hid _ from how)
  clear hb1 HSU how
  go_wp2_with fail
  refine Calls.mono HOW.out ?_
  rintro e w2 ⟨v2, rfl, hown2, hb2⟩
  rw [← HLA.out] at hown2
  obtain ⟨a2, c2, rfl, hc2, hP2, _⟩ := own_pairs hown2
  rw [HLA.out] at hc2 ⊢
  have HB2 : Hid (Below w.heap.size w w2) := HB1.out.trans (hb2.mono HB1.out.size)
  have hof := smOf_any w2 a2 c2 l hP2 HI.out (by rw [HLA.out]; omega)
  rw [HLA.out] at hof
  have HOF := (show Hid _ from hof)
  clear hb2 hown2 hP2 HOW hof
  go_wp2_with fail
  refine Calls.mono HOF.out ?_
  rintro e w3 ⟨rfl, hb3⟩
  have HB3 : Hid (Below w.heap.size w w3) := HB2.out.trans (hb3.mono HB2.out.size)
  clear hb3 HOF
  obtain ⟨S, hS⟩ : ∃ S, ofM l = S := ⟨_, rfl⟩
  rw [hS]
  have HS : Hid (ofM l = S) := hS
  clear hS
  obtain ⟨q1, q2, q3, q4, q5⟩ := S
  unfold smV
  simp only
  obtain ⟨W, hW⟩ : ∃ W, W = w3.alloc (.cells #[.int .i64 q1, .int .u64 q2, .int .u64 q3, .int .u64 q4, .int .u64 q5] 26) := ⟨_, rfl⟩
  have hbW : Below w3.heap.size w3 W := by rw [hW]; exact (Below.refl _ _).alloc (Nat.le_refl _) _
  have HBW : Hid (Below w.heap.size w W) := HB3.out.trans (hbW.mono HB3.out.size)
  have hkW : W.heap[w3.heap.size]? = some (.cells #[.int .i64 q1, .int .u64 q2, .int .u64 q3, .int .u64 q4, .int .u64 q5] 26 (0, 0)) := by rw [hW]; exact heap_alloc_new _ _
  have HHD : Hid (∀ z, Below W.heap.size W z → z.cell? ⟨w3.heap.size, 0, none⟩ = some (.int .i64 q1) ∧ z.cell? ⟨w3.heap.size, 1, none⟩ = some (.int .u64 q2) ∧ z.cell? ⟨w3.heap.size, 2, none⟩ = some (.int .u64 q3) ∧ z.cell? ⟨w3.heap.size, 3, none⟩ = some (.int .u64 q4) ∧ z.cell? ⟨w3.heap.size, 4, none⟩ = some (.int .u64 q5)) := fun z hz => by
    have h1 := (hz.block _ (lt_of_block hkW)).trans hkW
    exact ⟨cells_of h1 0, cells_of h1 1, cells_of h1 2, cells_of h1 3, cells_of h1 4⟩
  have HSUM : Hid (∀ w0, Below W.heap.size W w0 → Calls Tryd.prog 8 #[.slice la n c] w0 fun e z => e = .returned (.agg #[.int .i64 q1, .int .u64 q2, .int .u64 q3, .int .u64 q4, .int .u64 q5]) ∧ (z.cell? ⟨w3.heap.size, 0, none⟩ = some (.int .i64 q1) ∧ z.cell? ⟨w3.heap.size, 1, none⟩ = some (.int .u64 q2) ∧ z.cell? ⟨w3.heap.size, 2, none⟩ = some (.int .u64 q3) ∧ z.cell? ⟨w3.heap.size, 3, none⟩ = some (.int .u64 q4) ∧ z.cell? ⟨w3.heap.size, 4, none⟩ = some (.int .u64 q5)) ∧ Below W.heap.size W z) := fun w0 h => by
    have h1 := mSumOf_any w0 la c l (HPA.out.below (HBW.out.trans (h.mono HBW.out.size))) HI.out (by rw [HLA.out]; omega)
    rw [HLA.out, HS.out] at h1
    refine h1.mono ?_
    rintro e z ⟨rfl, hb⟩
    have h2 := h.trans (hb.mono h.size)
    exact ⟨rfl, HHD.out z h2, h2⟩
  have HSAM : Hid (∀ w0, Below W.heap.size W w0 → Calls Tryd.prog 7 #[.agg #[.int .i64 q1, .int .u64 q2, .int .u64 q3, .int .u64 q4, .int .u64 q5], .agg #[.int .i64 q1, .int .u64 q2, .int .u64 q3, .int .u64 q4, .int .u64 q5]] w0 fun e z => e = .returned (.bool true) ∧ (z.cell? ⟨w3.heap.size, 0, none⟩ = some (.int .i64 q1) ∧ z.cell? ⟨w3.heap.size, 1, none⟩ = some (.int .u64 q2) ∧ z.cell? ⟨w3.heap.size, 2, none⟩ = some (.int .u64 q3) ∧ z.cell? ⟨w3.heap.size, 3, none⟩ = some (.int .u64 q4) ∧ z.cell? ⟨w3.heap.size, 4, none⟩ = some (.int .u64 q5)) ∧ Below W.heap.size W z) := fun w0 h => by
    refine (sameSum_any w0 ⟨q1, q2, q3, q4, q5⟩).mono ?_
    rintro e z ⟨rfl, hb⟩
    have h2 := h.trans (hb.mono h.size)
    exact ⟨rfl, HHD.out z h2, h2⟩
  have hofa : ∀ L : List (Int × Nat), (∀ p, p ∈ L → p ∈ l) → L.length ≤ 100 → ∀ w0 xa cc, Below W.heap.size W w0 → PtsL w xa L → Calls Tryd.prog 5 #[.slice xa L.length cc] w0 fun e z => e = .returned (smV (ofM L)) ∧ (z.cell? ⟨w3.heap.size, 0, none⟩ = some (.int .i64 q1) ∧ z.cell? ⟨w3.heap.size, 1, none⟩ = some (.int .u64 q2) ∧ z.cell? ⟨w3.heap.size, 2, none⟩ = some (.int .u64 q3) ∧ z.cell? ⟨w3.heap.size, 3, none⟩ = some (.int .u64 q4) ∧ z.cell? ⟨w3.heap.size, 4, none⟩ = some (.int .u64 q5)) ∧ Below W.heap.size W z := fun L hL hl w0 xa cc h hP' => by
    refine (smOf_any w0 xa cc L (hP'.below (HBW.out.trans (h.mono HBW.out.size))) (fun p hp => HI.out p (hL p hp)) (by omega)).mono ?_
    rintro e z ⟨rfl, hb⟩
    have h2 := h.trans (hb.mono h.size)
    exact ⟨rfl, HHD.out z h2, h2⟩
  have hof1 := hofa (l.take k) (fun p hp => List.mem_of_mem_take hp) (by rw [List.length_take]; omega)
  have hof2 := hofa (l.drop k) (fun p hp => List.mem_of_mem_drop hp) (by rw [List.length_drop, HLA.out]; omega)
  have hadd : ∀ w0, Calls Tryd.prog 9 #[smV (ofM (l.take k)), smV (ofM (l.drop k))] w0 fun e z => e = .returned (smV ⟨q1, q2, q3, q4, q5⟩) ∧ Below w0.heap.size w0 z := fun w0 => by
    have h1 := smAdd_any w0 (ofM (l.take k)) (ofM (l.drop k)) (by rw [ofM_c, ofM_c, List.length_take, List.length_drop, HLA.out]; omega) (in_of fun p hp => HI.out p (List.mem_of_mem_take hp)) (in_of fun p hp => HI.out p (List.mem_of_mem_drop hp))
    rw [← ofM_append, List.take_append_drop, HS.out] at h1
    exact h1
  rw [show (l.take k).length = k by rw [List.length_take, HLA.out]; omega] at hof1
  rw [show (l.drop k).length = n - k by rw [List.length_drop, HLA.out]] at hof2
  generalize ofM (l.take k) = SA at hof1 hadd
  generalize ofM (l.drop k) = SB at hof2 hadd
  obtain ⟨a1, a2', a3, a4, a5⟩ := SA
  obtain ⟨b1, b2, b3, b4, b5⟩ := SB
  have HOF1 : Hid (∀ w0 xa y cc, Below W.heap.size W w0 → (y = k ∧ PtsL w xa (l.take k)) → Calls Tryd.prog 5 #[.slice xa y cc] w0 fun e z => e = .returned (.agg #[.int .i64 a1, .int .u64 a2', .int .u64 a3, .int .u64 a4, .int .u64 a5]) ∧ (z.cell? ⟨w3.heap.size, 0, none⟩ = some (.int .i64 q1) ∧ z.cell? ⟨w3.heap.size, 1, none⟩ = some (.int .u64 q2) ∧ z.cell? ⟨w3.heap.size, 2, none⟩ = some (.int .u64 q3) ∧ z.cell? ⟨w3.heap.size, 3, none⟩ = some (.int .u64 q4) ∧ z.cell? ⟨w3.heap.size, 4, none⟩ = some (.int .u64 q5)) ∧ Below W.heap.size W z) := fun w0 xa y cc h hy => by
    rw [hy.1]
    exact hof1 w0 xa cc h hy.2
  have HOF2 : Hid (∀ w0 xa y cc, Below W.heap.size W w0 → (y = n - k ∧ PtsL w xa (l.drop k)) → Calls Tryd.prog 5 #[.slice xa y cc] w0 fun e z => e = .returned (.agg #[.int .i64 b1, .int .u64 b2, .int .u64 b3, .int .u64 b4, .int .u64 b5]) ∧ (z.cell? ⟨w3.heap.size, 0, none⟩ = some (.int .i64 q1) ∧ z.cell? ⟨w3.heap.size, 1, none⟩ = some (.int .u64 q2) ∧ z.cell? ⟨w3.heap.size, 2, none⟩ = some (.int .u64 q3) ∧ z.cell? ⟨w3.heap.size, 3, none⟩ = some (.int .u64 q4) ∧ z.cell? ⟨w3.heap.size, 4, none⟩ = some (.int .u64 q5)) ∧ Below W.heap.size W z) := fun w0 xa y cc h hy => by
    rw [hy.1]
    exact hof2 w0 xa cc h hy.2
  have HADD : Hid (∀ w0, Below W.heap.size W w0 → Calls Tryd.prog 9 #[.agg #[.int .i64 a1, .int .u64 a2', .int .u64 a3, .int .u64 a4, .int .u64 a5], .agg #[.int .i64 b1, .int .u64 b2, .int .u64 b3, .int .u64 b4, .int .u64 b5]] w0 fun e z => e = .returned (.agg #[.int .i64 q1, .int .u64 q2, .int .u64 q3, .int .u64 q4, .int .u64 q5]) ∧ (z.cell? ⟨w3.heap.size, 0, none⟩ = some (.int .i64 q1) ∧ z.cell? ⟨w3.heap.size, 1, none⟩ = some (.int .u64 q2) ∧ z.cell? ⟨w3.heap.size, 2, none⟩ = some (.int .u64 q3) ∧ z.cell? ⟨w3.heap.size, 3, none⟩ = some (.int .u64 q4) ∧ z.cell? ⟨w3.heap.size, 4, none⟩ = some (.int .u64 q5)) ∧ Below W.heap.size W z) := fun w0 h => by
    refine (hadd w0).mono ?_
    rintro e z ⟨rfl, hb⟩
    have h2 := h.trans (hb.mono h.size)
    exact ⟨rfl, HHD.out z h2, h2⟩
  have HC0 : Hid (Below W.heap.size W W) := Below.refl _ _
  obtain ⟨k0, k1, k2, k3, k4⟩ := HHD.out W HC0.out
  have i1 : (k : Int) ≤ (n : Int) := by omega
  have i2 : (0 : Int) ≤ (k : Int) := by omega
  have i3 : (n : Int) ≤ (c : Int) := by omega
  have i4 : (k : Int) ≤ (c : Int) := by omega
  clear hbW hkW hofa hof1 hof2 hadd
  go_upto_region 5 with fail
  rw [← hW]
  clear hW
  go_cut [56] from 39 to 56 (fun v wz => v = .bool false ∧ Below W.heap.size W wz)
  case first =>
    have HTOK : Hid True := trivial
    rcases HPA.out with hnil | ⟨b, o, rfl, hcell⟩
    · obtain rfl : n = 0 := by rw [← HLA.out, hnil]; rfl
      obtain rfl : k = 0 := by omega
      have HX0 : Hid (l.take 0 = []) := rfl
      have HXD : Hid (l.drop 0 = []) := hnil
      have HX1 : Hid (∀ xa, PtsL w xa (l.take 0)) := fun _ => .inl rfl
      have HX2 : Hid (∀ xa, PtsL w xa (l.drop 0)) := fun _ => .inl hnil
      clear hnil
      by_cases hc0 : c = 0
      · subst hc0
        rcases la with _ | ⟨b, o, sp⟩
        · go_region_held3 (fun z => z.cell? ⟨w3.heap.size, 0, none⟩ = some (.int .i64 q1) ∧ z.cell? ⟨w3.heap.size, 1, none⟩ = some (.int .u64 q2) ∧ z.cell? ⟨w3.heap.size, 2, none⟩ = some (.int .u64 q3) ∧ z.cell? ⟨w3.heap.size, 3, none⟩ = some (.int .u64 q4) ∧ z.cell? ⟨w3.heap.size, 4, none⟩ = some (.int .u64 q5)) (go_keep) ((first | (go_at_call 8; refine Calls.mono (HSUM.out _ (by first | exact HC0.out | exact (HC0.out).drew)) ?_; rintro e w5 ⟨rfl, ⟨k0, k1, k2, k3, k4⟩, hc5⟩; have HC5 := (show Hid _ from hc5); clear hc5) | (go_at_call 7; refine Calls.mono (HSAM.out _ HC5.out) ?_; rintro e w6 ⟨rfl, ⟨k0, k1, k2, k3, k4⟩, hc6⟩; have HC6 := (show Hid _ from hc6); clear hc6) | (go_at_call 5; clear HTOK; refine Calls.mono (HOF1.out _ _ _ _ HC6.out ⟨rfl, by first | exact HX1.out _ | exact .inl HX0.out⟩) ?_; rintro e w7 ⟨rfl, ⟨k0, k1, k2, k3, k4⟩, hc7⟩; have HC7 := (show Hid _ from hc7); clear hc7) | (go_at_call 5; refine Calls.mono (HOF2.out _ _ _ _ HC7.out ⟨by first | rfl | omega, by first | exact HX2.out _ | exact .inl HX0.out⟩) ?_; rintro e w9 ⟨rfl, ⟨k0, k1, k2, k3, k4⟩, hc9⟩; have HC9 := (show Hid _ from hc9); clear hc9) | (go_at_call 9; refine Calls.mono (HADD.out _ HC9.out) ?_; rintro e w8 ⟨rfl, ⟨k0, k1, k2, k3, k4⟩, hc8⟩; have HC8 := (show Hid _ from hc8); clear hc8)))
          go_wp2_with fail
          go_meet
          exact ⟨by simp, HC8.out⟩
        · go_region_held3 (fun z => z.cell? ⟨w3.heap.size, 0, none⟩ = some (.int .i64 q1) ∧ z.cell? ⟨w3.heap.size, 1, none⟩ = some (.int .u64 q2) ∧ z.cell? ⟨w3.heap.size, 2, none⟩ = some (.int .u64 q3) ∧ z.cell? ⟨w3.heap.size, 3, none⟩ = some (.int .u64 q4) ∧ z.cell? ⟨w3.heap.size, 4, none⟩ = some (.int .u64 q5)) (go_keep) ((first | (go_at_call 8; refine Calls.mono (HSUM.out _ (by first | exact HC0.out | exact (HC0.out).drew)) ?_; rintro e w5 ⟨rfl, ⟨k0, k1, k2, k3, k4⟩, hc5⟩; have HC5 := (show Hid _ from hc5); clear hc5) | (go_at_call 7; refine Calls.mono (HSAM.out _ HC5.out) ?_; rintro e w6 ⟨rfl, ⟨k0, k1, k2, k3, k4⟩, hc6⟩; have HC6 := (show Hid _ from hc6); clear hc6) | (go_at_call 5; clear HTOK; refine Calls.mono (HOF1.out _ _ _ _ HC6.out ⟨rfl, by first | exact HX1.out _ | exact .inl HX0.out⟩) ?_; rintro e w7 ⟨rfl, ⟨k0, k1, k2, k3, k4⟩, hc7⟩; have HC7 := (show Hid _ from hc7); clear hc7) | (go_at_call 5; refine Calls.mono (HOF2.out _ _ _ _ HC7.out ⟨by first | rfl | omega, by first | exact HX2.out _ | exact .inl HX0.out⟩) ?_; rintro e w9 ⟨rfl, ⟨k0, k1, k2, k3, k4⟩, hc9⟩; have HC9 := (show Hid _ from hc9); clear hc9) | (go_at_call 9; refine Calls.mono (HADD.out _ HC9.out) ?_; rintro e w8 ⟨rfl, ⟨k0, k1, k2, k3, k4⟩, hc8⟩; have HC8 := (show Hid _ from hc8); clear hc8)))
          go_wp2_with fail
          go_meet
          exact ⟨by simp, HC8.out⟩
      · have hc1 : ¬((c : Int) = 0) := by omega
        have hc2 : (0 : Int) < (c : Int) := by omega
        rcases la with _ | ⟨b, o, sp⟩
        · go_region_held3 (fun z => z.cell? ⟨w3.heap.size, 0, none⟩ = some (.int .i64 q1) ∧ z.cell? ⟨w3.heap.size, 1, none⟩ = some (.int .u64 q2) ∧ z.cell? ⟨w3.heap.size, 2, none⟩ = some (.int .u64 q3) ∧ z.cell? ⟨w3.heap.size, 3, none⟩ = some (.int .u64 q4) ∧ z.cell? ⟨w3.heap.size, 4, none⟩ = some (.int .u64 q5)) (go_keep) ((first | (go_at_call 8; refine Calls.mono (HSUM.out _ (by first | exact HC0.out | exact (HC0.out).drew)) ?_; rintro e w5 ⟨rfl, ⟨k0, k1, k2, k3, k4⟩, hc5⟩; have HC5 := (show Hid _ from hc5); clear hc5) | (go_at_call 7; refine Calls.mono (HSAM.out _ HC5.out) ?_; rintro e w6 ⟨rfl, ⟨k0, k1, k2, k3, k4⟩, hc6⟩; have HC6 := (show Hid _ from hc6); clear hc6) | (go_at_call 5; clear HTOK; refine Calls.mono (HOF1.out _ _ _ _ HC6.out ⟨rfl, by first | exact HX1.out _ | exact .inl HX0.out⟩) ?_; rintro e w7 ⟨rfl, ⟨k0, k1, k2, k3, k4⟩, hc7⟩; have HC7 := (show Hid _ from hc7); clear hc7) | (go_at_call 5; refine Calls.mono (HOF2.out _ _ _ _ HC7.out ⟨by first | rfl | omega, by first | exact HX2.out _ | exact .inl HX0.out⟩) ?_; rintro e w9 ⟨rfl, ⟨k0, k1, k2, k3, k4⟩, hc9⟩; have HC9 := (show Hid _ from hc9); clear hc9) | (go_at_call 9; refine Calls.mono (HADD.out _ HC9.out) ?_; rintro e w8 ⟨rfl, ⟨k0, k1, k2, k3, k4⟩, hc8⟩; have HC8 := (show Hid _ from hc8); clear hc8)))
          go_wp2_with fail
          go_meet
          exact ⟨by simp, HC8.out⟩
        · go_region_held3 (fun z => z.cell? ⟨w3.heap.size, 0, none⟩ = some (.int .i64 q1) ∧ z.cell? ⟨w3.heap.size, 1, none⟩ = some (.int .u64 q2) ∧ z.cell? ⟨w3.heap.size, 2, none⟩ = some (.int .u64 q3) ∧ z.cell? ⟨w3.heap.size, 3, none⟩ = some (.int .u64 q4) ∧ z.cell? ⟨w3.heap.size, 4, none⟩ = some (.int .u64 q5)) (go_keep) ((first | (go_at_call 8; refine Calls.mono (HSUM.out _ (by first | exact HC0.out | exact (HC0.out).drew)) ?_; rintro e w5 ⟨rfl, ⟨k0, k1, k2, k3, k4⟩, hc5⟩; have HC5 := (show Hid _ from hc5); clear hc5) | (go_at_call 7; refine Calls.mono (HSAM.out _ HC5.out) ?_; rintro e w6 ⟨rfl, ⟨k0, k1, k2, k3, k4⟩, hc6⟩; have HC6 := (show Hid _ from hc6); clear hc6) | (go_at_call 5; clear HTOK; refine Calls.mono (HOF1.out _ _ _ _ HC6.out ⟨rfl, by first | exact HX1.out _ | exact .inl HX0.out⟩) ?_; rintro e w7 ⟨rfl, ⟨k0, k1, k2, k3, k4⟩, hc7⟩; have HC7 := (show Hid _ from hc7); clear hc7) | (go_at_call 5; refine Calls.mono (HOF2.out _ _ _ _ HC7.out ⟨by first | rfl | omega, by first | exact HX2.out _ | exact .inl HX0.out⟩) ?_; rintro e w9 ⟨rfl, ⟨k0, k1, k2, k3, k4⟩, hc9⟩; have HC9 := (show Hid _ from hc9); clear hc9) | (go_at_call 9; refine Calls.mono (HADD.out _ HC9.out) ?_; rintro e w8 ⟨rfl, ⟨k0, k1, k2, k3, k4⟩, hc8⟩; have HC8 := (show Hid _ from hc8); clear hc8)))
          go_wp2_with fail
          go_meet
          exact ⟨by simp, HC8.out⟩
    · by_cases hkc : k = c
      · have HX1 : Hid (PtsL w (some ⟨b, o, none⟩) (l.take k)) := (.inr ⟨b, o, rfl, fun j hj => by
          rw [List.length_take] at hj
          simp only [List.getElem_take]
          exact hcell j (by omega)⟩ : PtsL w (some ⟨b, o, none⟩) (l.take k))
        have HX2 : Hid (∀ xa, PtsL w xa (l.drop k)) := fun _ => .inl (List.drop_eq_nil_iff.2 (by rw [HLA.out]; omega))
        have hkn' : n = k := by omega
        subst hkc
        subst hkn'
        clear hcell
        go_region_held3 (fun z => z.cell? ⟨w3.heap.size, 0, none⟩ = some (.int .i64 q1) ∧ z.cell? ⟨w3.heap.size, 1, none⟩ = some (.int .u64 q2) ∧ z.cell? ⟨w3.heap.size, 2, none⟩ = some (.int .u64 q3) ∧ z.cell? ⟨w3.heap.size, 3, none⟩ = some (.int .u64 q4) ∧ z.cell? ⟨w3.heap.size, 4, none⟩ = some (.int .u64 q5)) (go_keep) ((first | (go_at_call 8; refine Calls.mono (HSUM.out _ (by first | exact HC0.out | exact (HC0.out).drew)) ?_; rintro e w5 ⟨rfl, ⟨k0, k1, k2, k3, k4⟩, hc5⟩; have HC5 := (show Hid _ from hc5); clear hc5) | (go_at_call 7; refine Calls.mono (HSAM.out _ HC5.out) ?_; rintro e w6 ⟨rfl, ⟨k0, k1, k2, k3, k4⟩, hc6⟩; have HC6 := (show Hid _ from hc6); clear hc6) | (go_at_call 5; clear HTOK; refine Calls.mono (HOF1.out _ _ _ _ HC6.out ⟨rfl, by first | exact HX1.out | exact .inl HX0.out⟩) ?_; rintro e w7 ⟨rfl, ⟨k0, k1, k2, k3, k4⟩, hc7⟩; have HC7 := (show Hid _ from hc7); clear hc7) | (go_at_call 5; refine Calls.mono (HOF2.out _ _ _ _ HC7.out ⟨by first | rfl | omega, by first | exact HX2.out _ | exact .inl HX0.out⟩) ?_; rintro e w9 ⟨rfl, ⟨k0, k1, k2, k3, k4⟩, hc9⟩; have HC9 := (show Hid _ from hc9); clear hc9) | (go_at_call 9; refine Calls.mono (HADD.out _ HC9.out) ?_; rintro e w8 ⟨rfl, ⟨k0, k1, k2, k3, k4⟩, hc8⟩; have HC8 := (show Hid _ from hc8); clear hc8)))
        go_wp2_with fail
        go_meet
        exact ⟨by simp, HC8.out⟩
      · have hkc' : ¬((k : Int) = (c : Int)) := by omega
        have hkc2 : (k : Int) < (c : Int) := by omega
        have HX1 : Hid (PtsL w (some ⟨b, o, none⟩) (l.take k)) := (.inr ⟨b, o, rfl, fun j hj => by
          rw [List.length_take] at hj
          simp only [List.getElem_take]
          exact hcell j (by omega)⟩ : PtsL w (some ⟨b, o, none⟩) (l.take k))
        have HX2 : Hid (PtsL w (some ⟨b, o + k * 2, none⟩) (l.drop k)) := (.inr ⟨b, o + k * 2, rfl, fun j hj => by
          rw [List.length_drop] at hj
          simp only [List.getElem_drop]
          rw [show o + k * 2 + j * 2 = o + (k + j) * 2 by omega]
          exact hcell (k + j) (by omega)⟩ : PtsL w (some ⟨b, o + k * 2, none⟩) (l.drop k))
        clear hcell
        go_region_held3 (fun z => z.cell? ⟨w3.heap.size, 0, none⟩ = some (.int .i64 q1) ∧ z.cell? ⟨w3.heap.size, 1, none⟩ = some (.int .u64 q2) ∧ z.cell? ⟨w3.heap.size, 2, none⟩ = some (.int .u64 q3) ∧ z.cell? ⟨w3.heap.size, 3, none⟩ = some (.int .u64 q4) ∧ z.cell? ⟨w3.heap.size, 4, none⟩ = some (.int .u64 q5)) (go_keep) ((first | (go_at_call 8; refine Calls.mono (HSUM.out _ (by first | exact HC0.out | exact (HC0.out).drew)) ?_; rintro e w5 ⟨rfl, ⟨k0, k1, k2, k3, k4⟩, hc5⟩; have HC5 := (show Hid _ from hc5); clear hc5) | (go_at_call 7; refine Calls.mono (HSAM.out _ HC5.out) ?_; rintro e w6 ⟨rfl, ⟨k0, k1, k2, k3, k4⟩, hc6⟩; have HC6 := (show Hid _ from hc6); clear hc6) | (go_at_call 5; clear HTOK; refine Calls.mono (HOF1.out _ _ _ _ HC6.out ⟨rfl, by first | exact HX1.out | exact .inl HX0.out⟩) ?_; rintro e w7 ⟨rfl, ⟨k0, k1, k2, k3, k4⟩, hc7⟩; have HC7 := (show Hid _ from hc7); clear hc7) | (go_at_call 5; refine Calls.mono (HOF2.out _ _ _ _ HC7.out ⟨by first | rfl | omega, by first | exact HX2.out | exact .inl HX0.out⟩) ?_; rintro e w9 ⟨rfl, ⟨k0, k1, k2, k3, k4⟩, hc9⟩; have HC9 := (show Hid _ from hc9); clear hc9) | (go_at_call 9; refine Calls.mono (HADD.out _ HC9.out) ?_; rintro e w8 ⟨rfl, ⟨k0, k1, k2, k3, k4⟩, hc8⟩; have HC8 := (show Hid _ from hc8); clear hc8)))
        go_wp2_with fail
        go_meet
        exact ⟨by simp, HC8.out⟩
  case rest =>
    obtain ⟨rfl, hbc⟩ := hcut
    have HBC : Hid (Below w.heap.size w wc) := HBW.out.trans (hbc.mono HBW.out.size)
    have how := own_points wc la c l (HPA.out.below HBC.out) (by rw [HLA.out]; omega)
    rw [HLA.out] at how
    have HOW := (show Hid _ from how)
    clear hbc how HHD HSUM HSAM HOF1 HOF2 HADD HC0 k0 k1 k2 k3 k4 HBW HS hc2
    go_wp2_with fail
    refine Calls.mono HOW.out ?_
    rintro e w7 ⟨v7, rfl, hown7, hb7⟩
    rw [← HLA.out] at hown7
    obtain ⟨a7, c7, rfl, hc7, hP7, _⟩ := own_pairs hown7
    rw [HLA.out] at hc7 ⊢
    have HB7 : Hid (Below w.heap.size w w7) := HBC.out.trans (hb7.mono HBC.out.size)
    by_cases hbad : st < 1 ∨ 100000 < st ∨ m < 0 ∨ 120 < m ∨ f < -1099511627776 ∨ 1099511627776 < f
    · have HBAD := (show Hid _ from smSteps_bad w7 a7 c7 n f st m (ea 1) (HE.out.below HB7.out hBd).c1 hbad)
      clear hb7 hown7 hP7 HOW
      by_cases h1 : st < 1
      · clear hbad
        go_wp2_with fail
        refine Calls.mono HBAD.out ?_
        rintro e w8 ⟨rfl, hb8⟩
        have HB8 : Hid (Below w.heap.size w w8) := HB7.out.trans (hb8.mono HB7.out.size)
        have HCO := (show Hid _ from coded3_es w8 (HE.out.below HB8.out hBd) (Nat.le_trans hBd HB8.out.size) 1 (by omega) 2 (by omega))
        clear hb8
        go_wp2_with fail
        refine Calls.mono HCO.out ?_
        rintro e w9 ⟨rfl, hb9⟩
        have HB9 : Hid (Below w.heap.size w w9) := HB8.out.trans (hb9.mono HB8.out.size)
        clear hb9
        go_wp2
        go_ret
        exact ⟨rfl, HB9.out⟩
      by_cases h2 : 100000 < st
      · clear hbad
        go_wp2_with fail
        refine Calls.mono HBAD.out ?_
        rintro e w8 ⟨rfl, hb8⟩
        have HB8 : Hid (Below w.heap.size w w8) := HB7.out.trans (hb8.mono HB7.out.size)
        have HCO := (show Hid _ from coded3_es w8 (HE.out.below HB8.out hBd) (Nat.le_trans hBd HB8.out.size) 1 (by omega) 2 (by omega))
        clear hb8
        go_wp2_with fail
        refine Calls.mono HCO.out ?_
        rintro e w9 ⟨rfl, hb9⟩
        have HB9 : Hid (Below w.heap.size w w9) := HB8.out.trans (hb9.mono HB8.out.size)
        clear hb9
        go_wp2
        go_ret
        exact ⟨rfl, HB9.out⟩
      by_cases h3 : m < 0
      · clear hbad
        go_wp2_with fail
        refine Calls.mono HBAD.out ?_
        rintro e w8 ⟨rfl, hb8⟩
        have HB8 : Hid (Below w.heap.size w w8) := HB7.out.trans (hb8.mono HB7.out.size)
        have HCO := (show Hid _ from coded3_es w8 (HE.out.below HB8.out hBd) (Nat.le_trans hBd HB8.out.size) 1 (by omega) 2 (by omega))
        clear hb8
        go_wp2_with fail
        refine Calls.mono HCO.out ?_
        rintro e w9 ⟨rfl, hb9⟩
        have HB9 : Hid (Below w.heap.size w w9) := HB8.out.trans (hb9.mono HB8.out.size)
        clear hb9
        go_wp2
        go_ret
        exact ⟨rfl, HB9.out⟩
      by_cases h4 : 120 < m
      · clear hbad
        go_wp2_with fail
        refine Calls.mono HBAD.out ?_
        rintro e w8 ⟨rfl, hb8⟩
        have HB8 : Hid (Below w.heap.size w w8) := HB7.out.trans (hb8.mono HB7.out.size)
        have HCO := (show Hid _ from coded3_es w8 (HE.out.below HB8.out hBd) (Nat.le_trans hBd HB8.out.size) 1 (by omega) 2 (by omega))
        clear hb8
        go_wp2_with fail
        refine Calls.mono HCO.out ?_
        rintro e w9 ⟨rfl, hb9⟩
        have HB9 : Hid (Below w.heap.size w w9) := HB8.out.trans (hb9.mono HB8.out.size)
        clear hb9
        go_wp2
        go_ret
        exact ⟨rfl, HB9.out⟩
      by_cases h5 : f < -1099511627776
      · clear hbad
        go_wp2_with fail
        refine Calls.mono HBAD.out ?_
        rintro e w8 ⟨rfl, hb8⟩
        have HB8 : Hid (Below w.heap.size w w8) := HB7.out.trans (hb8.mono HB7.out.size)
        have HCO := (show Hid _ from coded3_es w8 (HE.out.below HB8.out hBd) (Nat.le_trans hBd HB8.out.size) 1 (by omega) 2 (by omega))
        clear hb8
        go_wp2_with fail
        refine Calls.mono HCO.out ?_
        rintro e w9 ⟨rfl, hb9⟩
        have HB9 : Hid (Below w.heap.size w w9) := HB8.out.trans (hb9.mono HB8.out.size)
        clear hb9
        go_wp2
        go_ret
        exact ⟨rfl, HB9.out⟩
      by_cases h6 : 1099511627776 < f
      · clear hbad
        go_wp2_with fail
        refine Calls.mono HBAD.out ?_
        rintro e w8 ⟨rfl, hb8⟩
        have HB8 : Hid (Below w.heap.size w w8) := HB7.out.trans (hb8.mono HB7.out.size)
        have HCO := (show Hid _ from coded3_es w8 (HE.out.below HB8.out hBd) (Nat.le_trans hBd HB8.out.size) 1 (by omega) 2 (by omega))
        clear hb8
        go_wp2_with fail
        refine Calls.mono HCO.out ?_
        rintro e w9 ⟨rfl, hb9⟩
        have HB9 : Hid (Below w.heap.size w w9) := HB8.out.trans (hb9.mono HB8.out.size)
        clear hb9
        go_wp2
        go_ret
        exact ⟨rfl, HB9.out⟩
      omega
    · obtain ⟨j, rfl⟩ := Int.eq_ofNat_of_zero_le (show 0 ≤ m by omega)
      have hok := smSteps_ok w7 a7 c7 l f st j hP7 HI.out (by rw [HLA.out]; omega) (by omega) (by omega) (by omega) (by omega) (by omega)
      rw [HLA.out] at hok
      have HOK := (show Hid _ from hok)
      have e1 : ¬(st < 1) := by omega
      have e2 : ¬(100000 < st) := by omega
      have e3 : ¬((j : Int) < 0) := by omega
      have e4 : ¬(120 < (j : Int)) := by omega
      have e5 : ¬(f < -1099511627776) := by omega
      have e6 : ¬(1099511627776 < f) := by omega
      have hj : j ≤ 120 := by omega
      have hst1 : 1 ≤ st := by omega
      have hst2 : st ≤ 100000 := by omega
      clear hb7 hown7 hP7 HOW hok hbad
      go_wp2_with fail
      refine Calls.mono HOK.out ?_
      rintro e w8 ⟨g, rfl, hsm, hb8⟩
      have HB8 : Hid (Below w.heap.size w w8) := HB7.out.trans (hb8.mono HB7.out.size)
      have HSM := (show Hid _ from hsm)
      clear hb8 hsm HOK
      go_wp2_with fail
      go_loopw [15, 16] (fun ii _ wr => ∃ i : Nat, i ≤ j ∧ ii = .int .i64 i ∧ Below w8.heap.size w8 wr) (fun ii _ _ => j - (intOf ii).toNat)
      case atStart => exact ⟨0, Nat.zero_le _, rfl, Below.refl _ _⟩
      case round =>
        obtain ⟨i, hi, rfl, hbr⟩ := hrel
        have HBR := (show Hid _ from hbr)
        by_cases hlt : i < j
        · have hm0 : (0 : Int) ≤ (i : Int) * st := Int.mul_nonneg (by omega) (by omega)
          have hm1 := mul_lt_step hst1 hlt
          have hm2 : (j : Int) * st ≤ 120 * st := Int.mul_le_mul_of_nonneg_right (by omega) (by omega)
          have hm3 : (i : Int) * st ≤ 12000000 := by omega
          have hSr := HSM.out.below hbr
          obtain ⟨S, hS⟩ : ∃ S, stepM l f st i = S := ⟨_, rfl⟩
          have hat := (hSr.at i hlt).1
          rw [hS] at hat
          obtain ⟨r1, r2, r3, r4, r5⟩ := S
          have HHD : Hid (∀ z, Below wr.heap.size wr z → z.cell? ⟨g, i * 5, none⟩ = some (.int .i64 r1) ∧ z.cell? ⟨g, i * 5 + 1, none⟩ = some (.int .u64 r2) ∧ z.cell? ⟨g, i * 5 + 2, none⟩ = some (.int .u64 r3) ∧ z.cell? ⟨g, i * 5 + 3, none⟩ = some (.int .u64 r4) ∧ z.cell? ⟨g, i * 5 + 4, none⟩ = some (.int .u64 r5)) := fun z hz => by
            have := ((hSr.below hz).at i hlt).1
            rw [hS] at this
            exact this
          have HBE : Hid (∀ w0, Below wr.heap.size wr w0 → Calls Tryd.prog 12 #[.slice la n c, .int .i64 (f + (i : Int) * st), .int .i64 (IntKind.i64.wrap (IntKind.i64.wrap (f + (i : Int) * st + st) - 1))] w0 fun e z => ∃ va vc y, e = .returned (.slice va y vc) ∧ (z.cell? ⟨g, i * 5, none⟩ = some (.int .i64 r1) ∧ z.cell? ⟨g, i * 5 + 1, none⟩ = some (.int .u64 r2) ∧ z.cell? ⟨g, i * 5 + 2, none⟩ = some (.int .u64 r3) ∧ z.cell? ⟨g, i * 5 + 3, none⟩ = some (.int .u64 r4) ∧ z.cell? ⟨g, i * 5 + 4, none⟩ = some (.int .u64 r5)) ∧ Below wr.heap.size wr z ∧ y = (betweenL (f + i * st) (f + i * st + st - 1) l).length ∧ PtsL z va (betweenL (f + i * st) (f + i * st + st - 1) l)) := fun w0 h => by
            rw [IntWalk.i64_in (f + (i : Int) * st + st) (by omega), IntWalk.i64_in _ (by omega)]
            have h1 := between_any w0 la c l (f + i * st) (f + i * st + st - 1) (HPA.out.below (HB8.out.trans ((HBR.out.trans (h.mono HBR.out.size)).mono HB8.out.size))) (by rw [HLA.out]; omega)
            rw [HLA.out] at h1
            refine h1.mono ?_
            rintro e z ⟨v, rfl, hown, hb⟩
            obtain ⟨va, vc, rfl, _, hPv, _⟩ := own_pairs hown
            have h2 := h.trans (hb.mono h.size)
            exact ⟨va, vc, _, rfl, HHD.out z h2, h2, rfl, hPv⟩
          have HSUM : Hid (∀ w0 va vc y, Below wr.heap.size wr w0 → y = (betweenL (f + i * st) (f + i * st + st - 1) l).length → PtsL w0 va (betweenL (f + i * st) (f + i * st + st - 1) l) → Calls Tryd.prog 8 #[.slice va y vc] w0 fun e z => e = .returned (.agg #[.int .i64 r1, .int .u64 r2, .int .u64 r3, .int .u64 r4, .int .u64 r5]) ∧ (z.cell? ⟨g, i * 5, none⟩ = some (.int .i64 r1) ∧ z.cell? ⟨g, i * 5 + 1, none⟩ = some (.int .u64 r2) ∧ z.cell? ⟨g, i * 5 + 2, none⟩ = some (.int .u64 r3) ∧ z.cell? ⟨g, i * 5 + 3, none⟩ = some (.int .u64 r4) ∧ z.cell? ⟨g, i * 5 + 4, none⟩ = some (.int .u64 r5)) ∧ Below wr.heap.size wr z) := fun w0 va vc y h hy hP' => by
            rw [hy]
            have h1 := mSumOf_any w0 va vc _ hP' (fun p hp => HI.out p (List.mem_filter.1 hp).1) (by have := betweenL_len (f + i * st) (f + i * st + st - 1) l; have := HLA.out; omega)
            have hS0 : ofM (betweenL (f + i * st) (f + i * st + st - 1) l) = ⟨r1, r2, r3, r4, r5⟩ := hS
            rw [hS0] at h1
            refine h1.mono ?_
            rintro e z ⟨rfl, hb⟩
            have h2 := h.trans (hb.mono h.size)
            exact ⟨rfl, HHD.out z h2, h2⟩
          have HSAM : Hid (∀ w0, Below wr.heap.size wr w0 → Calls Tryd.prog 7 #[.agg #[.int .i64 r1, .int .u64 r2, .int .u64 r3, .int .u64 r4, .int .u64 r5], .agg #[.int .i64 r1, .int .u64 r2, .int .u64 r3, .int .u64 r4, .int .u64 r5]] w0 fun e z => e = .returned (.bool true) ∧ (z.cell? ⟨g, i * 5, none⟩ = some (.int .i64 r1) ∧ z.cell? ⟨g, i * 5 + 1, none⟩ = some (.int .u64 r2) ∧ z.cell? ⟨g, i * 5 + 2, none⟩ = some (.int .u64 r3) ∧ z.cell? ⟨g, i * 5 + 3, none⟩ = some (.int .u64 r4) ∧ z.cell? ⟨g, i * 5 + 4, none⟩ = some (.int .u64 r5)) ∧ Below wr.heap.size wr z) := fun w0 h => by
            refine (sameSum_any w0 ⟨r1, r2, r3, r4, r5⟩).mono ?_
            rintro e z ⟨rfl, hb⟩
            have h2 := h.trans (hb.mono h.size)
            exact ⟨rfl, HHD.out z h2, h2⟩
          have HC0 : Hid (Below wr.heap.size wr wr) := Below.refl _ _
          obtain ⟨k0, k1, k2, k3, k4⟩ := hat
          have hiI : (i : Int) < (j : Int) := by omega
          have hi0 : (0 : Int) ≤ (i : Int) := by omega
          clear hSr hS hbr hm1 hm2
          go_wp2_with fail
          go_region_held3 (fun z => z.cell? ⟨g, i * 5, none⟩ = some (.int .i64 r1) ∧ z.cell? ⟨g, i * 5 + 1, none⟩ = some (.int .u64 r2) ∧ z.cell? ⟨g, i * 5 + 2, none⟩ = some (.int .u64 r3) ∧ z.cell? ⟨g, i * 5 + 3, none⟩ = some (.int .u64 r4) ∧ z.cell? ⟨g, i * 5 + 4, none⟩ = some (.int .u64 r5)) (go_keep) ((first | (go_at_call 12; refine Calls.mono (HBE.out _ (by first | exact HC0.out | exact (HC0.out).drew)) ?_; rintro e w10 ⟨va, vc, y, rfl, ⟨k0, k1, k2, k3, k4⟩, hc5, hy, hpv⟩; have HC5 := (show Hid _ from hc5); have HY := (show Hid _ from hy); have HPV : Hid (PtsL _ _ _) := hpv; clear hc5 hy hpv) | (go_at_call 8; refine Calls.mono (HSUM.out _ _ _ _ HC5.out HY.out HPV.out) ?_; rintro e w11 ⟨rfl, ⟨k0, k1, k2, k3, k4⟩, hc6⟩; have HC6 := (show Hid _ from hc6); clear hc6) | (go_at_call 7; refine Calls.mono (HSAM.out _ HC6.out) ?_; rintro e w12 ⟨rfl, ⟨k0, k1, k2, k3, k4⟩, hc7⟩; have HC7 := (show Hid _ from hc7); clear hc7)))
          go_wp2_with fail
          go_roundw
          case rel => exact ⟨i + 1, by omega, by go_num, HBR.out.trans (HC7.out.mono HBR.out.size)⟩
          case measure => simp [intOf] <;> omega
        · have hge : (j : Int) ≤ (i : Int) := by omega
          clear hbr
          go_wp2
          go_ret
          exact ⟨rfl, HB8.out.trans (HBR.out.mono HB8.out.size)⟩
end Go.Proofs.YtegcalkeopkhfaaDoor
