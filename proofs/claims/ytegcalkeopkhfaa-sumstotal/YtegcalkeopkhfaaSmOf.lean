/- sums.Of by its contract. -/
import Derived.Test.YtegcalkeopkhfaaSmMath
import Derived.Test.YtegcalkeopkhfaaLaw1
import Derived.Test.YtegcalkeopkhfaaRegStore
namespace Go.Proofs.Ytegcalkeopkhfaa
open Go.RowKit PtMath SmMath

theorem set5 {w : World} {b : Nat} {p q r s t : Value} {T : TypeId} {f : Nat × Nat} (h : w.heap[b]? = some (.cells #[p, q, r, s, t] T f)) (p' q' r' s' t' : Value) :
    (((((w.setCell ⟨b, 0, none⟩ p').setCell ⟨b, 1, none⟩ q').setCell ⟨b, 2, none⟩ r').setCell ⟨b, 3, none⟩ s').setCell ⟨b, 4, none⟩ t').heap[b]? = some (.cells #[p', q', r', s', t'] T f) :=
  heap_set (heap_set (heap_set (heap_set (heap_set h 0 p') 1 q') 2 r') 3 s') 4 t'
theorem bel5 {w z : World} {n b : Nat} (h : Below n w z) (hb : n ≤ b) (p q r s t : Value) : Below n w (((((z.setCell ⟨b, 0, none⟩ p).setCell ⟨b, 1, none⟩ q).setCell ⟨b, 2, none⟩ r).setCell ⟨b, 3, none⟩ s).setCell ⟨b, 4, none⟩ t) :=
  ((((h.setCell (p := ⟨b, 0, none⟩) hb _).setCell (p := ⟨b, 1, none⟩) hb _).setCell (p := ⟨b, 2, none⟩) hb _).setCell (p := ⟨b, 3, none⟩) hb _).setCell (p := ⟨b, 4, none⟩) hb _
theorem oth5 {z : World} {b c : Nat} (h : c ≠ b) (p q r s t : Value) : (((((z.setCell ⟨b, 0, none⟩ p).setCell ⟨b, 1, none⟩ q).setCell ⟨b, 2, none⟩ r).setCell ⟨b, 3, none⟩ s).setCell ⟨b, 4, none⟩ t).heap[c]? = z.heap[c]? := by
  rw [Below.heap_setCell _ _ _ _ (by exact h), Below.heap_setCell _ _ _ _ (by exact h), Below.heap_setCell _ _ _ _ (by exact h), Below.heap_setCell _ _ _ _ (by exact h), Below.heap_setCell _ _ _ _ (by exact h)]

set_option maxRecDepth 1000000 in
set_option maxHeartbeats 2000000 in
theorem smOf_any (w : World) (la : Option Addr) (c : Nat) (l : List (Int × Nat)) (hP : PtsL w la l) (hI : PtsIn l) (hn : l.length ≤ 1000) :
    Calls Try.prog 5 #[.slice la l.length c] w fun e w' => e = .returned (smV (ofM l)) ∧ Below w.heap.size w w' := by
  have HP : Hid (PtsL w la l) := hP
  have HI : Hid (PtsIn l) := hI
  clear hP hI
  obtain ⟨n, hnn⟩ : ∃ n, l.length = n := ⟨_, rfl⟩
  rw [hnn]
  have hn' : n ≤ 1000 := by omega
  have HN := (show Hid _ from hnn)
  clear hnn hn
  go_enter Try.func5, Try.ntmps5
  go_wp2_with fail
  go_loopw [5, 8] (fun _ i wr => ∃ k : Nat, k ≤ n ∧ i = .int .i64 k ∧ wr.heap[w.heap.size]? = some (.cells #[.int .i64 0, .int .u64 0, .int .u64 0, .int .u64 0, .int .u64 0] 27 (0, 0)) ∧ wr.heap[w.heap.size + 1]? = some (.cells #[.int .i64 (ofM (l.take k)).c, .int .u64 (ofM (l.take k)).l, .int .u64 (ofM (l.take k)).m, .int .u64 (ofM (l.take k)).t, .int .u64 (ofM (l.take k)).s] 27 (0, 0)) ∧ Below w.heap.size w wr) (fun _ i _ => n - (intOf i).toNat)
  case atStart =>
    refine ⟨0, Nat.zero_le _, rfl, ?_, ?_, ((Below.refl _ _).alloc (Nat.le_refl _) _).alloc (by simp) _⟩
    · rw [Below.heap_alloc _ _ _ (by simp)]
      exact heap_alloc_new _ _
    · have := heap_alloc_new (w.alloc (.cells #[.int .i64 0, .int .u64 0, .int .u64 0, .int .u64 0, .int .u64 0] 27)) (.cells #[.int .i64 0, .int .u64 0, .int .u64 0, .int .u64 0, .int .u64 0] 27)
      rw [show (w.alloc (.cells #[.int .i64 0, .int .u64 0, .int .u64 0, .int .u64 0, .int .u64 0] 27)).heap.size = w.heap.size + 1 by simp] at this
      exact this
  case round =>
    obtain ⟨k, hk, rfl, h0, h1, hbr⟩ := hrel
    by_cases hlt : k < n
    · have hkl : k < l.length := by have := HN.out; omega
      have hst : l.take (k + 1) = l.take k ++ [l[k]] := List.take_succ_eq_append_getElem hkl
      have hIk : In (ofM (l.take k)) := in_of (fun p hp => HI.out p (List.mem_of_mem_take hp))
      have hIp := (HI.out l[k] (List.getElem_mem hkl)).2.2
      have hck : (ofM (l.take k)).c = k := by rw [ofM_c, List.length_take]; omega
      have hsn : ofM (l.take (k + 1)) = addM (ofM (l.take k)) (oneM l[k].2) := by rw [hst, ofM_snoc]
      rcases HP.out with h | ⟨b, o, rfl, hc⟩
      · rw [h] at hkl; simp at hkl
      · obtain ⟨c0, c1⟩ := hc k hkl
        have hbl := World.block_lt_of_cell? w ⟨b, _, none⟩ c0
        rw [← hbr.cell (p := ⟨b, o + k * 2, none⟩) hbl] at c0
        rw [← hbr.cell (p := ⟨b, o + k * 2 + 1, none⟩) hbl] at c1
        generalize l[k] = p at *
        obtain ⟨t, u⟩ := p
        simp only at c0 c1 hIp hsn
        have hkI : (k : Int) < (n : Int) := by omega
        have hk0 : (0 : Int) ≤ (k : Int) := by omega
        have hwl := hbr.size
        have hs1 : w.heap.size + 1 < wr.heap.size := lt_of_block h1
        have HADD : Hid (∀ w0, Calls Try.prog 6 #[smV (ofM (l.take k)), smV (oneM u)] w0 fun e w' => e = .returned (smV (ofM (l.take (k + 1)))) ∧ Below w0.heap.size w0 w') := fun w0 => by
          rw [hsn]
          exact smAdd_any w0 _ _ (by rw [hck]; simp [oneM]; omega) hIk ⟨hIp, hIp, hIp, hIp⟩
        have HONE := (show Hid _ from fun w0 => smOne_any w0 t u)
        obtain ⟨S', hS'⟩ : ∃ S', ofM (l.take (k + 1)) = S' := ⟨_, rfl⟩
        rw [hS'] at HADD
        generalize ofM (l.take k) = S at *
        obtain ⟨q1, q2, q3, q4, q5⟩ := S
        obtain ⟨r1, r2, r3, r4, r5⟩ := S'
        have HS' : Hid (ofM (l.take (k + 1)) = ⟨r1, r2, r3, r4, r5⟩) := hS'
        have HAD : Hid (∀ w0, Calls Try.prog 6 #[.agg #[.int .i64 q1, .int .u64 q2, .int .u64 q3, .int .u64 q4, .int .u64 q5], .agg #[.int .i64 1, .int .u64 u, .int .u64 u, .int .u64 u, .int .u64 u]] w0 fun e w' => e = .returned (.agg #[.int .i64 r1, .int .u64 r2, .int .u64 r3, .int .u64 r4, .int .u64 r5]) ∧ Below w0.heap.size w0 w') := HADD
        have HON : Hid (∀ w0, Calls Try.prog 10 #[.agg #[.int .i64 t, .int .u64 (u : Int)]] w0 fun e w' => e = .returned (.agg #[.int .i64 1, .int .u64 u, .int .u64 u, .int .u64 u, .int .u64 u]) ∧ Below w0.heap.size w0 w') := HONE
        clear HADD HONE
        simp only at h1
        have e0 := cells_of h1 0
        have e1 := cells_of h1 1
        have e2 := cells_of h1 2
        have e3 := cells_of h1 3
        have e4 := cells_of h1 4
        simp at e0 e1 e2 e3 e4
        have HH0 := (show Hid _ from h0)
        have HH1 := (show Hid _ from h1)
        have HBR := (show Hid _ from hbr)
        clear hc hst hbr h0 h1 hsn hIk hck hS'
        obtain ⟨W0, hW0⟩ : ∃ W0, W0 = wr.alloc (.cells #[.int .i64 t, .int .u64 (u : Int)] 38) := ⟨_, rfl⟩
        have hs0 : W0.heap.size = wr.heap.size + 1 := by rw [hW0]; simp
        have hk1 : W0.heap[w.heap.size + 1]? = some (.cells #[.int .i64 q1, .int .u64 q2, .int .u64 q3, .int .u64 q4, .int .u64 q5] 27 (0, 0)) := by rw [hW0, Below.heap_alloc _ _ _ hs1]; exact HH1.out
        have hkp : W0.heap[wr.heap.size]? = some (.cells #[.int .i64 t, .int .u64 (u : Int)] 38 (0, 0)) := by rw [hW0]; exact heap_alloc_new _ _
        have HSO : Hid (∀ z, Below W0.heap.size W0 z → (z.cell? ⟨w.heap.size + 1, 0, none⟩ = some (.int .i64 q1) ∧ z.cell? ⟨w.heap.size + 1, 1, none⟩ = some (.int .u64 q2) ∧ z.cell? ⟨w.heap.size + 1, 2, none⟩ = some (.int .u64 q3) ∧ z.cell? ⟨w.heap.size + 1, 3, none⟩ = some (.int .u64 q4) ∧ z.cell? ⟨w.heap.size + 1, 4, none⟩ = some (.int .u64 q5)) ∧ z.cell? ⟨wr.heap.size, 0, none⟩ = some (.int .i64 t) ∧ z.cell? ⟨wr.heap.size, 1, none⟩ = some (.int .u64 (u : Int))) := fun z hz => by
          have h1 := (hz.block _ (by omega)).trans hk1
          have h2 := (hz.block _ (by omega)).trans hkp
          exact ⟨⟨cells_of h1 0, cells_of h1 1, cells_of h1 2, cells_of h1 3, cells_of h1 4⟩, cells_of h2 0, cells_of h2 1⟩
        have HK1 := (show Hid _ from hk1)
        clear hs0 hk1 hkp
        go_wp2_with fail
        rw [← hW0]
        have HW0 := (show Hid _ from hW0)
        clear hW0
        refine wp_region_S (S := fun z => (z.cell? ⟨w.heap.size + 1, 0, none⟩ = some (.int .i64 q1) ∧ z.cell? ⟨w.heap.size + 1, 1, none⟩ = some (.int .u64 q2) ∧ z.cell? ⟨w.heap.size + 1, 2, none⟩ = some (.int .u64 q3) ∧ z.cell? ⟨w.heap.size + 1, 3, none⟩ = some (.int .u64 q4) ∧ z.cell? ⟨w.heap.size + 1, 4, none⟩ = some (.int .u64 q5)) ∧ z.cell? ⟨wr.heap.size, 0, none⟩ = some (.int .i64 t) ∧ z.cell? ⟨wr.heap.size, 1, none⟩ = some (.int .u64 (u : Int))) (by kernel_rfl) 4 (HSO.out _ ((Below.refl _ _).drew)) (fun hHeld => ?_)
        refine wpAnyS_take (i := 0) (v := .agg #[.int .i64 q1, .int .u64 q2, .int .u64 q3, .int .u64 q4, .int .u64 q5]) rfl (by kernel_rfl) (by kernel_rfl) (by kernel_rfl) (by kernel_rfl) (by kernel_rfl) (by kernel_rfl) (fun _ _ _ h => h) (Or.inl ⟨by rfl, ?_⟩) hHeld ?_
        · intro w hSw
          obtain ⟨⟨j0, j1, j2, j3, j4⟩, j5, j6⟩ := hSw
          go_simp
        try simp only [Act.put]
        refine wpAnyS_take (i := 1) (v := .agg #[.int .i64 t, .int .u64 (u : Int)]) rfl (by kernel_rfl) (by kernel_rfl) (by kernel_rfl) (by kernel_rfl) (by kernel_rfl) (by kernel_rfl) (fun _ _ _ h => h) (Or.inl ⟨by rfl, ?_⟩) hHeld ?_
        · intro w hSw
          obtain ⟨⟨j0, j1, j2, j3, j4⟩, j5, j6⟩ := hSw
          go_simp
        try simp only [Act.put]
        refine wpAnyS_ready (rs := [2]) (by kernel_rfl) (by simp) ?_
        refine AllReadyS.cons rfl (fun K hK => ?_) AllReadyS.nil
        go_simp
        refine Calls.mono (HON.out _) ?_
        rintro e w1 ⟨rfl, hb1⟩
        dsimp only
        have hb1' : Below W0.heap.size W0 w1 := ((Below.refl _ _).drew).trans (hb1.mono (by simp))
        refine hK.out _ _ (HSO.out _ hb1') ?_
        clear hK K
        try simp only [Act.put]
        refine wpAnyS_ready (rs := [3]) (by kernel_rfl) (by simp) ?_
        refine AllReadyS.cons rfl (fun K hK => ?_) AllReadyS.nil
        go_simp
        refine Calls.mono (HAD.out _) ?_
        rintro e w2 ⟨rfl, hb2⟩
        dsimp only
        have hb2' : Below W0.heap.size W0 w2 := hb1'.trans (hb2.mono hb1'.size)
        refine hK.out _ _ (HSO.out _ hb2') ?_
        clear hK K
        try simp only [Act.put]
        have hkk := (hb2'.block _ (lt_of_block HK1.out)).trans HK1.out
        have z0 := cells_of hkk 0
        have z1 := cells_of hkk 1
        have z2 := cells_of hkk 2
        have z3 := cells_of hkk 3
        have z4 := cells_of hkk 4
        simp at z0 z1 z2 z3 z4
        have f0 := frozen_of hkk 0
        have f1 := frozen_of hkk 1
        have f2 := frozen_of hkk 2
        have f3 := frozen_of hkk 3
        have f4 := frozen_of hkk 4
        have HS5 := (show Hid _ from set5 hkk (.int .i64 r1) (.int .u64 r2) (.int .u64 r3) (.int .u64 r4) (.int .u64 r5))
        have HB2 := (show Hid _ from hb2')
        clear hkk hb2 hb2' hb1 hb1'
        refine wpAnyS_ready (rs := [4]) (by kernel_rfl) (by simp) ?_
        refine AllReadyS.last rfl (by kernel_rfl) (fun K hK => ?_) AllReadyS.nil
        go_simp
        refine hK.out _ _ ?_
        clear hK K
        refine wpAnyS_done (by kernel_rfl) ?_ _
        go_wp2
        go_roundw
        case rel =>
          have hbW : Below w.heap.size w W0 := by rw [HW0.out]; exact HBR.out.alloc hwl _
          refine ⟨k + 1, by omega, by go_num, ?_, by rw [HS'.out]; exact HS5.out, bel5 (hbW.trans (HB2.out.mono hbW.size)) (by omega) _ _ _ _ _⟩
          rw [oth5 (by omega), HB2.out.block _ (by rw [HW0.out]; simp; omega), HW0.out, Below.heap_alloc _ _ _ (by omega)]
          exact HH0.out
        case measure => simp [intOf] <;> omega
    · have hke : k = n := by omega
      subst hke
      have ht : l.take k = l := List.take_of_length_le (by have := HN.out; omega)
      rw [ht] at h1
      obtain ⟨S, hS⟩ : ∃ S, ofM l = S := ⟨_, rfl⟩
      rw [hS] at h1
      have HS := (show Hid _ from hS)
      clear hS
      obtain ⟨q1, q2, q3, q4, q5⟩ := S
      simp only at h1
      have e0 := cells_of h1 0
      have e1 := cells_of h1 1
      have e2 := cells_of h1 2
      have e3 := cells_of h1 3
      have e4 := cells_of h1 4
      simp at e0 e1 e2 e3 e4
      have f0 := frozen_of h0 0
      have f1 := frozen_of h0 1
      have f2 := frozen_of h0 2
      have f3 := frozen_of h0 3
      have f4 := frozen_of h0 4
      have g0 := cells_of h0 0
      have g1 := cells_of h0 1
      have g2 := cells_of h0 2
      have g3 := cells_of h0 3
      have g4 := cells_of h0 4
      simp at g0 g1 g2 g3 g4
      have HS5 := (show Hid _ from set5 h0 (.int .i64 q1) (.int .u64 q2) (.int .u64 q3) (.int .u64 q4) (.int .u64 q5))
      have HBR := (show Hid _ from hbr)
      clear h0 h1 hbr
      go_wp2
      have y0 := cells_of HS5.out 0
      have y1 := cells_of HS5.out 1
      have y2 := cells_of HS5.out 2
      have y3 := cells_of HS5.out 3
      have y4 := cells_of HS5.out 4
      simp at y0 y1 y2 y3 y4
      exact bodyPost_ret (v := .agg #[.int .i64 q1, .int .u64 q2, .int .u64 q3, .int .u64 q4, .int .u64 q5]) (by simp [results, Try.results5, go_sem, y0, y1, y2, y3, y4]) rfl ⟨by rw [HS.out]; rfl, bel5 HBR.out (Nat.le_refl _) _ _ _ _ _⟩
end Go.Proofs.Ytegcalkeopkhfaa
