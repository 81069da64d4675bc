/- The document's SumOf; the statements' sameSum and summed. -/
import Derived.Test.YtegcalkeopkhfaaSmOf
namespace Go.Proofs.Ytegcalkeopkhfaa
open Go.RowKit PtMath SmMath

theorem sameSum_any (w : World) (a : Sm) :
    Calls Try.prog 7 #[smV a, smV a] w fun e w' => e = .returned (.bool true) ∧ Below w.heap.size w w' := by
  obtain ⟨c, l, m, t, s⟩ := a
  unfold smV
  simp only
  go_enter Try.func7, Try.ntmps7
  go_wp2
  go_ret
  exact ⟨by simp, ((Below.refl _ _).alloc (Nat.le_refl _) _).alloc (by simp) _⟩

/-- The document's sum on the way: all points' count, the rest of those that were seen. -/
def docM (n : Nat) (a : Sm) : Sm := ⟨n, a.l, a.m, a.t, a.s⟩
/-- One more point. -/
theorem doc_step (l : List (Int × Nat)) (p : Int × Nat) (h : PtsIn (l ++ [p])) : (ofM (l ++ [p])).l = (if l.length = 0 ∨ p.2 < (ofM l).l then p.2 else (ofM l).l) ∧ (ofM (l ++ [p])).m = (if (ofM l).m < p.2 then p.2 else (ofM l).m) ∧ (ofM (l ++ [p])).t = p.2 ∧ (ofM (l ++ [p])).s = ((ofM l).s + p.2) % 18446744073709551616 := by
  rw [ofM_snoc]
  have hp := (h p (by simp)).2.2
  by_cases h0 : l.length = 0
  · have := List.eq_nil_of_length_eq_zero h0
    subst this
    simp [ofM, addM, oneM, zeroM]
    omega
  · have hc : ¬((ofM l).c = 0) := by rw [ofM_c]; exact h0
    have e : addM (ofM l) (oneM p.2) = ⟨(ofM l).c + 1, if p.2 < (ofM l).l then p.2 else (ofM l).l, if (ofM l).m < p.2 then p.2 else (ofM l).m, p.2, ((ofM l).s + p.2) % 18446744073709551616⟩ := by
      unfold addM
      rw [if_neg hc, if_neg (by simp [oneM])]
      rfl
    rw [e]
    exact ⟨by simp only [h0, false_or], rfl, rfl, rfl⟩

set_option maxRecDepth 1000000 in
set_option maxHeartbeats 2000000 in
theorem mSumOf_any (w : World) (la : Option Addr) (c : Nat) (l : List (Int × Nat)) (hP : PtsL w la l) (hI : PtsIn l) (hn : l.length ≤ 1000) :
    Calls Try.prog 9 #[.slice la l.length c] w fun e w' => e = .returned (smV (ofM l)) ∧ Below w.heap.size w w' := by
  have HP : Hid (PtsL w la l) := hP
  have HI : Hid (PtsIn l) := hI
  clear hP hI
  obtain ⟨n, hnn⟩ : ∃ n, l.length = n := ⟨_, rfl⟩
  rw [hnn]
  have hn' : n ≤ 1000 := by omega
  have HN := (show Hid _ from hnn)
  clear hnn hn
  go_enter Try.func9, Try.ntmps9
  go_wp2_with fail
  go_loopw [4, 5] (fun i _ wr => ∃ k : Nat, k ≤ n ∧ i = .int .i64 k ∧ wr.heap[w.heap.size]? = some (.cells #[.int .i64 0, .int .u64 0, .int .u64 0, .int .u64 0, .int .u64 0] 34 (0, 0)) ∧ wr.heap[w.heap.size + 1]? = some (.cells #[.int .i64 n, .int .u64 (ofM (l.take k)).l, .int .u64 (ofM (l.take k)).m, .int .u64 (ofM (l.take k)).t, .int .u64 (ofM (l.take k)).s] 34 (0, 0)) ∧ Below w.heap.size w wr) (fun i _ _ => n - (intOf i).toNat)
  case atStart =>
    refine ⟨0, Nat.zero_le _, rfl, ?_, ?_, ((Below.refl _ _).alloc (Nat.le_refl _) _).alloc (by simp) _⟩
    · rw [Below.heap_alloc _ _ _ (by simp)]
      exact heap_alloc_new _ _
    · have := heap_alloc_new (w.alloc (.cells #[.int .i64 0, .int .u64 0, .int .u64 0, .int .u64 0, .int .u64 0] 34)) (.cells #[.int .i64 n, .int .u64 0, .int .u64 0, .int .u64 0, .int .u64 0] 34)
      rw [show (w.alloc (.cells #[.int .i64 0, .int .u64 0, .int .u64 0, .int .u64 0, .int .u64 0] 34)).heap.size = w.heap.size + 1 by simp] at this
      exact this
  case round =>
    obtain ⟨k, hk, rfl, h0, h1, hbr⟩ := hrel
    by_cases hlt : k < n
    · have hkl : k < l.length := by have := HN.out; omega
      have hst : l.take (k + 1) = l.take k ++ [l[k]] := List.take_succ_eq_append_getElem hkl
      have hds := doc_step (l.take k) l[k] (by rw [← hst]; exact fun p hp => HI.out p (List.mem_of_mem_take hp))
      rw [← hst] at hds
      have htl : (l.take k).length = k := by rw [List.length_take]; omega
      rw [htl] at hds
      rcases HP.out with h | ⟨b, o, rfl, hc⟩
      · rw [h] at hkl; simp at hkl
      · obtain ⟨_, c1⟩ := hc k hkl
        have hbl := World.block_lt_of_cell? w ⟨b, _, none⟩ c1
        rw [← hbr.cell (p := ⟨b, o + k * 2 + 1, none⟩) hbl] at c1
        generalize l[k].2 = u at *
        have hkI : (k : Int) < (n : Int) := by omega
        have hk0 : (0 : Int) ≤ (k : Int) := by omega
        have hwl := hbr.size
        have hs1 : w.heap.size + 1 < wr.heap.size := lt_of_block h1
        obtain ⟨S', hS'⟩ : ∃ S', ofM (l.take (k + 1)) = S' := ⟨_, rfl⟩
        rw [hS'] at hds
        generalize ofM (l.take k) = S at *
        obtain ⟨q1, q2, q3, q4, q5⟩ := S
        obtain ⟨r1, r2, r3, r4, r5⟩ := S'
        have HS' : Hid (ofM (l.take (k + 1)) = ⟨r1, r2, r3, r4, r5⟩) := hS'
        simp only at h1 hds
        obtain ⟨d2, d3, d4, d5⟩ := hds
        have hw : IntKind.u64.wrap ((q5 : Int) + (u : Int)) = (r5 : Int) := by
          show ((q5 : Int) + (u : Int)) % 18446744073709551616 = _
          omega
        have e0 := cells_of h1 0
        have e1 := cells_of h1 1
        have e2 := cells_of h1 2
        have e3 := cells_of h1 3
        have e4 := cells_of h1 4
        simp at e0 e1 e2 e3 e4
        have f1 := frozen_of h1 1
        have f2 := frozen_of h1 2
        have f3 := frozen_of h1 3
        have f4 := frozen_of h1 4
        have HH0 := (show Hid _ from h0)
        have HH1 := (show Hid _ from h1)
        have HBR := (show Hid _ from hbr)
        have HD2 := (show Hid _ from d2)
        have HD3 := (show Hid _ from d3)
        clear hc hst hbr h0 h1 hS' d2 d3 d5
        subst d4
        have HBL : Hid (∀ Z : World, Below w.heap.size w Z → ∀ j v, Below w.heap.size w (Z.setCell ⟨w.heap.size + 1, j, none⟩ v)) := fun Z h j v => h.setCell (p := ⟨w.heap.size + 1, j, none⟩) (by show w.heap.size ≤ w.heap.size + 1; omega) v
        have HOT : Hid (∀ (Z : World) j v, (Z.setCell ⟨w.heap.size + 1, j, none⟩ v).heap[w.heap.size]? = Z.heap[w.heap.size]?) := fun Z j v => Below.heap_setCell _ _ _ _ (by show w.heap.size ≠ w.heap.size + 1; omega)
        by_cases hz : k = 0
        · have hb : k = 0 ∨ r4 < q2 := .inl hz
          by_cases hm : q3 < r4
          · have dm : decide ((q3 : Int) < (r4 : Int)) = true := by simp; omega
            have HX : Hid (((((wr.setCell ⟨w.heap.size + 1, 1, none⟩ (.int .u64 r4)).setCell ⟨w.heap.size + 1, 2, none⟩ (.int .u64 r4)).setCell ⟨w.heap.size + 1, 3, none⟩ (.int .u64 r4)).setCell ⟨w.heap.size + 1, 4, none⟩ (.int .u64 r5)).heap[w.heap.size + 1]? = some (.cells #[.int .i64 n, .int .u64 r4, .int .u64 r4, .int .u64 r4, .int .u64 r5] 34 (0, 0))) := heap_set (heap_set (heap_set (heap_set HH1.out 1 _) 2 _) 3 _) 4 _
            have HE : Hid (ofM (l.take (k + 1)) = ⟨r1, r4, r4, r4, r5⟩) := by rw [HS'.out, HD2.out, HD3.out, if_pos hb, if_pos hm]; exact rfl
            subst hz
            clear HD2 HD3 hb
            go_wp2_with fail
            exact ⟨⟨1, by omega, rfl, by rw [HOT.out, HOT.out, HOT.out, HOT.out]; exact HH0.out, by rw [HE.out]; exact HX.out, HBL.out _ (HBL.out _ (HBL.out _ (HBL.out _ HBR.out _ _) _ _) _ _) _ _⟩, by simp [intOf]; omega⟩
          · have dm : decide ((q3 : Int) < (r4 : Int)) = false := by simp; omega
            have HX : Hid ((((wr.setCell ⟨w.heap.size + 1, 1, none⟩ (.int .u64 r4)).setCell ⟨w.heap.size + 1, 3, none⟩ (.int .u64 r4)).setCell ⟨w.heap.size + 1, 4, none⟩ (.int .u64 r5)).heap[w.heap.size + 1]? = some (.cells #[.int .i64 n, .int .u64 r4, .int .u64 q3, .int .u64 r4, .int .u64 r5] 34 (0, 0))) := heap_set (heap_set (heap_set HH1.out 1 _) 3 _) 4 _
            have HE : Hid (ofM (l.take (k + 1)) = ⟨r1, r4, q3, r4, r5⟩) := by rw [HS'.out, HD2.out, HD3.out, if_pos hb, if_neg hm]; exact rfl
            subst hz
            clear HD2 HD3 hb
            go_wp2_with fail
            exact ⟨⟨1, by omega, rfl, by rw [HOT.out, HOT.out, HOT.out]; exact HH0.out, by rw [HE.out]; exact HX.out, HBL.out _ (HBL.out _ (HBL.out _ HBR.out _ _) _ _) _ _⟩, by simp [intOf]; omega⟩
        · have hkz : ((k : Int) == 0) = false := by simp; omega
          by_cases hl : r4 < q2
          · have hb : k = 0 ∨ r4 < q2 := .inr hl
            have dl : decide ((r4 : Int) < (q2 : Int)) = true := by simp; omega
            by_cases hm : q3 < r4
            · have dm : decide ((q3 : Int) < (r4 : Int)) = true := by simp; omega
              have HX : Hid (((((wr.setCell ⟨w.heap.size + 1, 1, none⟩ (.int .u64 r4)).setCell ⟨w.heap.size + 1, 2, none⟩ (.int .u64 r4)).setCell ⟨w.heap.size + 1, 3, none⟩ (.int .u64 r4)).setCell ⟨w.heap.size + 1, 4, none⟩ (.int .u64 r5)).heap[w.heap.size + 1]? = some (.cells #[.int .i64 n, .int .u64 r4, .int .u64 r4, .int .u64 r4, .int .u64 r5] 34 (0, 0))) := heap_set (heap_set (heap_set (heap_set HH1.out 1 _) 2 _) 3 _) 4 _
              have HE : Hid (ofM (l.take (k + 1)) = ⟨r1, r4, r4, r4, r5⟩) := by rw [HS'.out, HD2.out, HD3.out, if_pos hb, if_pos hm]; exact rfl
              clear HD2 HD3 hb
              go_wp2_with fail
              exact ⟨⟨k + 1, by omega, by go_num, by rw [HOT.out, HOT.out, HOT.out, HOT.out]; exact HH0.out, by rw [HE.out]; exact HX.out, HBL.out _ (HBL.out _ (HBL.out _ (HBL.out _ HBR.out _ _) _ _) _ _) _ _⟩, by simp [intOf]; omega⟩
            · have dm : decide ((q3 : Int) < (r4 : Int)) = false := by simp; omega
              have HX : Hid ((((wr.setCell ⟨w.heap.size + 1, 1, none⟩ (.int .u64 r4)).setCell ⟨w.heap.size + 1, 3, none⟩ (.int .u64 r4)).setCell ⟨w.heap.size + 1, 4, none⟩ (.int .u64 r5)).heap[w.heap.size + 1]? = some (.cells #[.int .i64 n, .int .u64 r4, .int .u64 q3, .int .u64 r4, .int .u64 r5] 34 (0, 0))) := heap_set (heap_set (heap_set HH1.out 1 _) 3 _) 4 _
              have HE : Hid (ofM (l.take (k + 1)) = ⟨r1, r4, q3, r4, r5⟩) := by rw [HS'.out, HD2.out, HD3.out, if_pos hb, if_neg hm]; exact rfl
              clear HD2 HD3 hb
              go_wp2_with fail
              exact ⟨⟨k + 1, by omega, by go_num, by rw [HOT.out, HOT.out, HOT.out]; exact HH0.out, by rw [HE.out]; exact HX.out, HBL.out _ (HBL.out _ (HBL.out _ HBR.out _ _) _ _) _ _⟩, by simp [intOf]; omega⟩
          · have hb : ¬(k = 0 ∨ r4 < q2) := by omega
            have dl : decide ((r4 : Int) < (q2 : Int)) = false := by simp; omega
            by_cases hm : q3 < r4
            · have dm : decide ((q3 : Int) < (r4 : Int)) = true := by simp; omega
              have HX : Hid ((((wr.setCell ⟨w.heap.size + 1, 2, none⟩ (.int .u64 r4)).setCell ⟨w.heap.size + 1, 3, none⟩ (.int .u64 r4)).setCell ⟨w.heap.size + 1, 4, none⟩ (.int .u64 r5)).heap[w.heap.size + 1]? = some (.cells #[.int .i64 n, .int .u64 q2, .int .u64 r4, .int .u64 r4, .int .u64 r5] 34 (0, 0))) := heap_set (heap_set (heap_set HH1.out 2 _) 3 _) 4 _
              have HE : Hid (ofM (l.take (k + 1)) = ⟨r1, q2, r4, r4, r5⟩) := by rw [HS'.out, HD2.out, HD3.out, if_neg hb, if_pos hm]; exact rfl
              clear HD2 HD3 hb
              go_wp2_with fail
              exact ⟨⟨k + 1, by omega, by go_num, by rw [HOT.out, HOT.out, HOT.out]; exact HH0.out, by rw [HE.out]; exact HX.out, HBL.out _ (HBL.out _ (HBL.out _ HBR.out _ _) _ _) _ _⟩, by simp [intOf]; omega⟩
            · have dm : decide ((q3 : Int) < (r4 : Int)) = false := by simp; omega
              have HX : Hid (((wr.setCell ⟨w.heap.size + 1, 3, none⟩ (.int .u64 r4)).setCell ⟨w.heap.size + 1, 4, none⟩ (.int .u64 r5)).heap[w.heap.size + 1]? = some (.cells #[.int .i64 n, .int .u64 q2, .int .u64 q3, .int .u64 r4, .int .u64 r5] 34 (0, 0))) := heap_set (heap_set HH1.out 3 _) 4 _
              have HE : Hid (ofM (l.take (k + 1)) = ⟨r1, q2, q3, r4, r5⟩) := by rw [HS'.out, HD2.out, HD3.out, if_neg hb, if_neg hm]; exact rfl
              clear HD2 HD3 hb
              go_wp2_with fail
              exact ⟨⟨k + 1, by omega, by go_num, by rw [HOT.out, HOT.out]; exact HH0.out, by rw [HE.out]; exact HX.out, HBL.out _ (HBL.out _ HBR.out _ _) _ _⟩, by simp [intOf]; omega⟩
    · have hke : k = n := by omega
      subst hke
      have ht : l.take k = l := List.take_of_length_le (by have := HN.out; omega)
      rw [ht] at h1
      have hcl : (ofM l).c = k := by rw [ofM_c]; exact HN.out
      obtain ⟨S, hS⟩ : ∃ S, ofM l = S := ⟨_, rfl⟩
      rw [hS] at h1 hcl
      have HS := (show Hid _ from hS)
      clear hS
      obtain ⟨q1, q2, q3, q4, q5⟩ := S
      simp only at h1 hcl
      subst hcl
      have e0 := cells_of h1 0
      have e1 := cells_of h1 1
      have e2 := cells_of h1 2
      have e3 := cells_of h1 3
      have e4 := cells_of h1 4
      simp at e0 e1 e2 e3 e4
      have f0 := frozen_of h0 0
      have f1 := frozen_of h0 1
      have f2 := frozen_of h0 2
      have f3 := frozen_of h0 3
      have f4 := frozen_of h0 4
      have g0 := cells_of h0 0
      have g1 := cells_of h0 1
      have g2 := cells_of h0 2
      have g3 := cells_of h0 3
      have g4 := cells_of h0 4
      simp at g0 g1 g2 g3 g4
      have HS5 := (show Hid _ from set5 h0 (.int .i64 q1) (.int .u64 q2) (.int .u64 q3) (.int .u64 q4) (.int .u64 q5))
      have HBR := (show Hid _ from hbr)
      clear h0 h1 hbr
      go_wp2
      have y0 := cells_of HS5.out 0
      have y1 := cells_of HS5.out 1
      have y2 := cells_of HS5.out 2
      have y3 := cells_of HS5.out 3
      have y4 := cells_of HS5.out 4
      simp at y0 y1 y2 y3 y4
      exact bodyPost_ret (v := .agg #[.int .i64 q1, .int .u64 q2, .int .u64 q3, .int .u64 q4, .int .u64 q5]) (by simp [results, Try.results9, go_sem, y0, y1, y2, y3, y4]) rfl ⟨by rw [HS.out]; rfl, bel5 HBR.out (Nat.le_refl _) _ _ _ _ _⟩
end Go.Proofs.Ytegcalkeopkhfaa
