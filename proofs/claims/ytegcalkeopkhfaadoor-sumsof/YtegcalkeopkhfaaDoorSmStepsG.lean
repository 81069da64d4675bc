/- sums.Steps within its bounds. -/
import Derived.Test.YtegcalkeopkhfaaDoorSmSteps
namespace Go.Proofs.YtegcalkeopkhfaaDoor
open Go.RowKit PtMath SmMath

set_option maxRecDepth 1000000 in
set_option maxHeartbeats 4000000 in
theorem smSteps_ok (w : World) (la : Option Addr) (c : Nat) (l : List (Int × Nat)) (f st : Int) (n : Nat) (hP : PtsL w la l) (hI : PtsIn l) (hn : l.length ≤ 1000) (hs1 : 1 ≤ st) (hs2 : st ≤ 100000) (hn2 : n ≤ 120) (hf1 : -1099511627776 ≤ f) (hf2 : f ≤ 1099511627776) :
    Calls Tryd.prog 10 #[.slice la l.length c, .int .i64 f, .int .i64 st, .int .i64 n] w fun e w' => ∃ g, e = .returned (.tuple #[.slice (some ⟨g, 0, none⟩) n n, .nilIface]) ∧ SmsAt w' g n (stepM l f st) ∧ Below w.heap.size w w' := by
  have HP : Hid (PtsL w la l) := hP
  have HI : Hid (PtsIn l) := hI
  clear hP hI
  obtain ⟨m, hnn⟩ : ∃ m, l.length = m := ⟨_, rfl⟩
  rw [hnn]
  have hn' : m ≤ 1000 := by omega
  have HN := (show Hid _ from hnn)
  clear hnn hn
  have hE0 : (0 : Int) ≤ (n : Int) * st := Int.mul_nonneg (by omega) (by omega)
  have hE1 : (n : Int) * st ≤ 12000000 := by
    have h1 : (n : Int) * st ≤ 120 * st := Int.mul_le_mul_of_nonneg_right (by omega) (by omega)
    omega
  have d1 : ¬(st < 1) := by omega
  have d2 : ¬(100000 < st) := by omega
  have d3 : ¬((n : Int) < 0) := by omega
  have d4 : ¬(120 < (n : Int)) := by omega
  have d5 : ¬(f < -1099511627776) := by omega
  have d6 : ¬(1099511627776 < f) := by omega
  obtain ⟨i0, hi, hz0, hz1, hz2⟩ := info_parts Tryd.infoSum
  go_enter Tryd.func10, Tryd.ntmps10
  go_wp2_with (at_make; refine wpList_make_full _ rfl _ _ 33 rfl w.heap.size 26 i0 (.agg #[.int .i64 0, .int .u64 0, .int .u64 0, .int .u64 0, .int .u64 0]) 5 Tryd.underlying33 hi hz0 hz1 _ _ _ _ n rfl rfl rfl rfl ?b2 ?b3 (by omega) ?_)
  case b2 => omega
  case b3 => unfold maxLen; omega
  intro w0 hown hgrow
  have hb0 : Below w.heap.size w w0 := ⟨hgrow.os, hgrow.tape, hgrow.output, hgrow.size, fun j hj => hgrow.block j hj (by simp)⟩
  have hs0 : SmsAt w0 w.heap.size n (stepM (l.take 0) f st) := by
    rcases hown.2 with ⟨h, _⟩ | ⟨g, cap, cur, h, _, hh, _, _, hs, ht⟩
    · cases h
    · simp at h
      obtain ⟨rfl, rfl⟩ := h
      exact sums_made hh hs ht
  have HB0 := (show Hid _ from hb0)
  have HS0 := (show Hid _ from hs0)
  clear hown hgrow hb0 hs0 hi hz0 hz1 hz2
  go_wp2_with fail
  go_loopw [13, 14, 47] (fun _ _ ii wr => ∃ k : Nat, k ≤ m ∧ ii = .int .i64 k ∧ SmsAt wr w.heap.size n (stepM (l.take k) f st) ∧ Below w.heap.size w wr) (fun _ _ ii _ => m - (intOf ii).toNat)
  case atStart => exact ⟨0, Nat.zero_le _, rfl, HS0.out, HB0.out⟩
  case round =>
    obtain ⟨k, hk, rfl, hsm, hbr⟩ := hrel
    by_cases hlt : k < m
    · have hkl : k < l.length := by have := HN.out; omega
      have hst : l.take (k + 1) = l.take k ++ [l[k]] := List.take_succ_eq_append_getElem hkl
      have hIk : ∀ j, In (stepM (l.take k) f st j) := fun j => in_of (fun p hp => HI.out p (List.mem_of_mem_take (List.mem_filter.1 hp).1))
      have hIp := (HI.out l[k] (List.getElem_mem hkl)).2.2
      have hck : ∀ j, (stepM (l.take k) f st j).c ≤ 1000 := fun j => by
        unfold stepM
        rw [ofM_c]
        have h1 := betweenL_len (f + j * st) (f + j * st + st - 1) (l.take k)
        have h2 := List.length_take_le k l
        have := HN.out
        omega
      have hno := fun j => stepM_no (l.take k) l[k] f st j
      have hyes := fun j => stepM_yes (l.take k) l[k] f st j
      rw [← hst] at hno hyes
      rcases HP.out with h | ⟨b, o, rfl, hc⟩
      · rw [h] at hkl; simp at hkl
      · obtain ⟨c0, c1⟩ := hc k hkl
        have hbl := World.block_lt_of_cell? w ⟨b, _, none⟩ c0
        rw [← hbr.cell (p := ⟨b, o + k * 2, none⟩) hbl] at c0
        rw [← hbr.cell (p := ⟨b, o + k * 2 + 1, none⟩) hbl] at c1
        have htb := (HI.out l[k] (List.getElem_mem hkl))
        generalize l[k] = p at *
        obtain ⟨t, u⟩ := p
        simp only at c0 c1 hIp hno hyes htb
        have hkI : (k : Int) < (m : Int) := by omega
        have hk0 : (0 : Int) ≤ (k : Int) := by omega
        have hwl := hbr.size
        obtain ⟨W0, hW0⟩ : ∃ W0, W0 = wr.alloc (.cells #[.int .i64 t, .int .u64 (u : Int)] 42) := ⟨_, rfl⟩
        have hbW : Below wr.heap.size wr W0 := by rw [hW0]; exact (Below.refl _ _).alloc (Nat.le_refl _) _
        have HBW : Hid (Below w.heap.size w W0) := hbr.trans (hbW.mono hwl)
        have HSM : Hid (SmsAt W0 w.heap.size n (stepM (l.take k) f st)) := hsm.below hbW
        have hs0 : W0.heap.size = wr.heap.size + 1 := by rw [hW0]; simp
        have hkp : W0.heap[wr.heap.size]? = some (.cells #[.int .i64 t, .int .u64 (u : Int)] 42 (0, 0)) := by rw [hW0]; exact heap_alloc_new _ _
        by_cases hin : f ≤ t ∧ t < f + n * st
        · obtain ⟨i, hil, hqo, hya, hoth⟩ := stretch_is hs1 hin.1 hin.2
          have HOTH : Hid (∀ j, j ≠ i → stepM (l.take (k + 1)) f st j = stepM (l.take k) f st j) := fun j hj => hno j (hoth j hj)
          have hyi := hyes i hya
          have HADD : Hid (∀ w0, Calls Tryd.prog 9 #[smV (stepM (l.take k) f st i), smV (oneM u)] w0 fun e w' => e = .returned (smV (stepM (l.take (k + 1)) f st i)) ∧ Below w0.heap.size w0 w') := fun w0 => by
            rw [hyi]
            exact smAdd_any w0 _ _ (by have := hck i; simp [oneM]; omega) (hIk i) ⟨hIp, hIp, hIp, hIp⟩
          have HONE := (show Hid _ from fun w0 => smOne_any w0 t u)
          obtain ⟨S, hS⟩ : ∃ S, stepM (l.take k) f st i = S := ⟨_, rfl⟩
          obtain ⟨S', hS'⟩ : ∃ S', stepM (l.take (k + 1)) f st i = S' := ⟨_, rfl⟩
          rw [hS, hS'] at HADD
          obtain ⟨q1, q2, q3, q4, q5⟩ := S
          obtain ⟨r1, r2, r3, r4, r5⟩ := S'
          have HAD : Hid (∀ w0, Calls Tryd.prog 9 #[.agg #[.int .i64 q1, .int .u64 q2, .int .u64 q3, .int .u64 q4, .int .u64 q5], .agg #[.int .i64 1, .int .u64 u, .int .u64 u, .int .u64 u, .int .u64 u]] w0 fun e w' => e = .returned (.agg #[.int .i64 r1, .int .u64 r2, .int .u64 r3, .int .u64 r4, .int .u64 r5]) ∧ Below w0.heap.size w0 w') := HADD
          have HON : Hid (∀ w0, Calls Tryd.prog 13 #[.agg #[.int .i64 t, .int .u64 (u : Int)]] w0 fun e w' => e = .returned (.agg #[.int .i64 1, .int .u64 u, .int .u64 u, .int .u64 u, .int .u64 u]) ∧ Below w0.heap.size w0 w') := HONE
          have HQ := (show Hid _ from hS)
          have HR := (show Hid _ from hS')
          have HSO : Hid (∀ z, Below W0.heap.size W0 z → (z.cell? ⟨w.heap.size, i * 5, none⟩ = some (.int .i64 q1) ∧ z.cell? ⟨w.heap.size, i * 5 + 1, none⟩ = some (.int .u64 q2) ∧ z.cell? ⟨w.heap.size, i * 5 + 2, none⟩ = some (.int .u64 q3) ∧ z.cell? ⟨w.heap.size, i * 5 + 3, none⟩ = some (.int .u64 q4) ∧ z.cell? ⟨w.heap.size, i * 5 + 4, none⟩ = some (.int .u64 q5)) ∧ z.cell? ⟨wr.heap.size, 0, none⟩ = some (.int .i64 t) ∧ z.cell? ⟨wr.heap.size, 1, none⟩ = some (.int .u64 (u : Int))) := fun z hz => by
            have h1 := (HSM.out.below hz).at i hil
            rw [hS] at h1
            have h2 := (hz.block _ (by omega)).trans hkp
            exact ⟨h1.1, cells_of h2 0, cells_of h2 1⟩
          have hqt : Int.tdiv (t - f) st = (i : Int) := by rw [Int.tdiv_eq_ediv_of_nonneg (by omega)]; exact hqo
          have hsz : (st == 0) = false := by simp; omega
          have g1 : ¬(t < f) := by omega
          have g2 : ¬(f + n * st ≤ t) := by omega
          have hiI : (i : Int) < (n : Int) := by omega
          have hi0 : (0 : Int) ≤ (i : Int) := by omega
          have b1 : (0 : Int) ≤ t - f := by omega
          have b2 : t - f ≤ 12000000 := by omega
          have HSL := (show Hid _ from hs0)
          clear hc hst hbr hsm hIk hck hno hyes HADD HONE hS hS' hyi hya hoth hqo hbW hs0 hkp htb hin
          go_wp2_with fail
          rw [← hW0]
          clear hW0
          refine wp_region_S (S := fun z => (z.cell? ⟨w.heap.size, i * 5, none⟩ = some (.int .i64 q1) ∧ z.cell? ⟨w.heap.size, i * 5 + 1, none⟩ = some (.int .u64 q2) ∧ z.cell? ⟨w.heap.size, i * 5 + 2, none⟩ = some (.int .u64 q3) ∧ z.cell? ⟨w.heap.size, i * 5 + 3, none⟩ = some (.int .u64 q4) ∧ z.cell? ⟨w.heap.size, i * 5 + 4, none⟩ = some (.int .u64 q5)) ∧ z.cell? ⟨wr.heap.size, 0, none⟩ = some (.int .i64 t) ∧ z.cell? ⟨wr.heap.size, 1, none⟩ = some (.int .u64 (u : Int))) (by kernel_rfl) 10 (HSO.out _ ((Below.refl _ _).drew)) (fun hHeld => ?_)
          refine wpAnyS_take0 (i := 0) (v := .slice (some ⟨w.heap.size, 0, none⟩) n n) rfl (by kernel_rfl) (by kernel_rfl) (by kernel_rfl) (by kernel_rfl) (fun _ _ _ h => h) (Or.inl ⟨by rfl, ?_⟩) (fun _ => hHeld) ?_
          · intro w _
            go_simp
          try simp only [Act.put]
          refine wpAnyS_take0 (i := 1) (v := .int .i64 (i : Int)) rfl (by kernel_rfl) (by kernel_rfl) (by kernel_rfl) (by kernel_rfl) (fun _ _ _ h => h) (Or.inl ⟨by rfl, ?_⟩) (fun _ => hHeld) ?_
          · intro w _
            go_simp
          try simp only [Act.put]
          refine wpAnyS_take0 (i := 2) (v := .slice (some ⟨w.heap.size, 0, none⟩) n n) rfl (by kernel_rfl) (by kernel_rfl) (by kernel_rfl) (by kernel_rfl) (fun _ _ _ h => h) (Or.inl ⟨by rfl, ?_⟩) (fun _ => hHeld) ?_
          · intro w _
            go_simp
          try simp only [Act.put]
          refine wpAnyS_take0 (i := 3) (v := .int .i64 (i : Int)) rfl (by kernel_rfl) (by kernel_rfl) (by kernel_rfl) (by kernel_rfl) (fun _ _ _ h => h) (Or.inl ⟨by rfl, ?_⟩) (fun _ => hHeld) ?_
          · intro w _
            go_simp
          try simp only [Act.put]
          refine wpAnyS_take0 (i := 4) (v := .pointer (some ⟨w.heap.size, i * 5, none⟩)) rfl (by kernel_rfl) (by kernel_rfl) (by kernel_rfl) (by kernel_rfl) (fun _ _ _ h => h) (Or.inl ⟨by rfl, ?_⟩) (fun _ => hHeld) ?_
          · intro w _
            go_simp
          try simp only [Act.put]
          refine wpAnyS_take (i := 5) (v := .agg #[.int .i64 q1, .int .u64 q2, .int .u64 q3, .int .u64 q4, .int .u64 q5]) rfl (by kernel_rfl) (by kernel_rfl) (by kernel_rfl) (by kernel_rfl) (by kernel_rfl) (by kernel_rfl) (fun _ _ _ h => h) (Or.inl ⟨by rfl, ?_⟩) hHeld ?_
          · intro w hSw
            obtain ⟨⟨j0, j1, j2, j3, j4⟩, j5, j6⟩ := hSw
            go_simp
          try simp only [Act.put]
          refine wpAnyS_take (i := 6) (v := .agg #[.int .i64 t, .int .u64 (u : Int)]) rfl (by kernel_rfl) (by kernel_rfl) (by kernel_rfl) (by kernel_rfl) (by kernel_rfl) (by kernel_rfl) (fun _ _ _ h => h) (Or.inl ⟨by rfl, ?_⟩) hHeld ?_
          · intro w hSw
            obtain ⟨⟨j0, j1, j2, j3, j4⟩, j5, j6⟩ := hSw
            go_simp
          try simp only [Act.put]
          refine wpAnyS_ready (rs := [7]) (by kernel_rfl) (by simp) ?_
          refine AllReadyS.cons rfl (fun K hK => ?_) AllReadyS.nil
          go_simp
          refine Calls.mono (HON.out _) ?_
          rintro e w1 ⟨rfl, hb1⟩
          dsimp only
          have hb1' : Below W0.heap.size W0 w1 := ((Below.refl _ _).drew).trans (hb1.mono (by simp))
          refine hK.out _ _ (HSO.out _ hb1') ?_
          clear hK K
          try simp only [Act.put]
          refine wpAnyS_ready (rs := [8]) (by kernel_rfl) (by simp) ?_
          refine AllReadyS.cons rfl (fun K hK => ?_) AllReadyS.nil
          go_simp
          refine Calls.mono (HAD.out _) ?_
          rintro e w2 ⟨rfl, hb2⟩
          dsimp only
          have hb2' : Below W0.heap.size W0 w2 := hb1'.trans (hb2.mono hb1'.size)
          refine hK.out _ _ (HSO.out _ hb2') ?_
          clear hK K
          try simp only [Act.put]
          refine wpAnyS_take0 (i := 9) (v := .pointer (some ⟨w.heap.size, i * 5, none⟩)) rfl (by kernel_rfl) (by kernel_rfl) (by kernel_rfl) (by kernel_rfl) (fun _ _ _ h => h) (Or.inl ⟨by rfl, ?_⟩) (fun _ => HSO.out _ hb2') ?_
          · intro w _
            go_simp
          try simp only [Act.put]
          have hsm2 : SmsAt w2 w.heap.size n (stepM (l.take k) f st) := HSM.out.below hb2'
          obtain ⟨⟨z0, z1, z2, z3, z4⟩, fz⟩ := hsm2.at i hil
          rw [HQ.out] at z0 z1 z2 z3 z4
          simp only at z0 z1 z2 z3 z4
          have f0 := fz (i * 5)
          have f1 := fz (i * 5 + 1)
          have f2 := fz (i * 5 + 2)
          have f3 := fz (i * 5 + 3)
          have f4 := fz (i * 5 + 4)
          have hnx := hsm2.set i hil (stepM (l.take (k + 1)) f st) HOTH.out
          rw [HR.out] at hnx
          have HNX := (show Hid _ from hnx)
          have HB2 := (show Hid _ from hb2')
          clear hb1 hb1' hb2 hb2' hsm2 fz hnx
          refine wpAnyS_ready (rs := [10]) (by kernel_rfl) (by simp) ?_
          refine AllReadyS.last rfl (by kernel_rfl) (fun K hK => ?_) AllReadyS.nil
          go_simp
          refine hK.out _ _ ?_
          clear hK K
          refine wpAnyS_done (by kernel_rfl) ?_ _
          go_wp2
          go_roundw
          case rel => exact ⟨k + 1, by omega, by go_num, HNX.out, (((((HBW.out.trans (HB2.out.mono HBW.out.size)).setCell (p := ⟨w.heap.size, _, none⟩) (Nat.le_refl _) _).setCell (p := ⟨w.heap.size, _, none⟩) (Nat.le_refl _) _).setCell (p := ⟨w.heap.size, _, none⟩) (Nat.le_refl _) _).setCell (p := ⟨w.heap.size, _, none⟩) (Nat.le_refl _) _).setCell (p := ⟨w.heap.size, _, none⟩) (Nat.le_refl _) _⟩
          case measure => simp [intOf] <;> omega
        · have HNO : Hid (SmsAt W0 w.heap.size n (stepM (l.take (k + 1)) f st)) := by
            have e : stepM (l.take (k + 1)) f st = fun j => if j < n then stepM (l.take k) f st j else stepM (l.take (k + 1)) f st j := by
              funext j
              split
              · rename_i hj
                refine hno j fun h => hin ?_
                have h1 := mul_lt_step hs1 hj
                have h2 : (0 : Int) ≤ (j : Int) * st := Int.mul_nonneg (by omega) (by omega)
                omega
              · rfl
            obtain ⟨cur, e1, e2, e3⟩ := HSM.out.all
            refine ⟨cur, e1, e2, fun j hj => ?_⟩
            rw [e]
            simp only [hj, if_true]
            exact e3 j hj
          clear hc hst hbr hsm hIk hck hno hyes hbW hs0 hkp
          by_cases g1 : t < f
          · clear hin
            go_wp2_with fail
            rw [← hW0]
            go_roundw
            case rel => exact ⟨k + 1, by omega, by go_num, HNO.out, HBW.out⟩
            case measure => simp [intOf] <;> omega
          · have g2 : f + n * st ≤ t := by omega
            clear hin
            go_wp2_with fail
            rw [← hW0]
            go_roundw
            case rel => exact ⟨k + 1, by omega, by go_num, HNO.out, HBW.out⟩
            case measure => simp [intOf] <;> omega
    · have hke : k = m := by omega
      subst hke
      have ht : l.take k = l := List.take_of_length_le (by have := HN.out; omega)
      rw [ht] at hsm
      have HSM := (show Hid _ from hsm)
      have HBR := (show Hid _ from hbr)
      clear hsm hbr
      go_wp2
      go_ret2
      exact ⟨_, rfl, HSM.out, HBR.out⟩
end Go.Proofs.YtegcalkeopkhfaaDoor
