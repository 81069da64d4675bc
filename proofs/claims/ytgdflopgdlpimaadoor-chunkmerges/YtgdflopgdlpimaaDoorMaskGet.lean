/- A reader by the bits that it has left; package mask's getWindow, getForm and a form's get by contracts. -/
import Derived.Test.YtgdflopgdlpimaaDoorMaskWinGroup
import Derived.Test.YtgdflopgdlpimaaDoorWaveGet2
namespace Go.Proofs.YtgdflopgdlpimaaDoor
open Go.RowKit

/-- A reader at block x that has the bits D left. -/
structure RdAt (w : World) (x : Nat) (D : List Bool) : Prop where
  ex : ∃ g cap l i N, IsReader w x g cap l i N ∧ BitMath.restB l i N = D
theorem RdAt.lt {w : World} {x : Nat} {D : List Bool} (h : RdAt w x D) : x < w.heap.size := by
  obtain ⟨⟨g, cap, l, i, N, h, _⟩⟩ := h
  exact h.lt
theorem RdAt.keptBy {w w' : World} {x : Nat} {D : List Bool} {S : List Nat} (h : RdAt w x D) (hk : Kept S w w') (hS : ∀ b, b ∈ S → x < b) : RdAt w' x D := by
  obtain ⟨⟨g, cap, l, i, N, h, hD⟩⟩ := h
  have hx : x ∉ S := fun hm => by have := hS x hm; omega
  have hg : g ∉ S := fun hm => by have := hS g hm; have := h.hg; omega
  exact ⟨⟨g, cap, l, i, N, ⟨(hk.block x h.lt hx).trans h.hb, fun j hj => hk.cell (h.hc j hj) hg, h.hcap, h.hg, h.hi, h.hn, h.hl⟩, hD⟩⟩
theorem RdAt.below {w w' : World} {x : Nat} {D : List Bool} (h : RdAt w x D) (hb : Below w.heap.size w w') : RdAt w' x D :=
  h.keptBy (S := []) (Kept.of_below hb) (fun b hb => by cases hb)
theorem RdAt.drewN {w : World} {x : Nat} {D : List Bool} (h : RdAt w x D) (q : Nat) : RdAt (w.drewN q) x D := h.below (below_draw w q)
theorem RdAt.len {w : World} {x : Nat} {D : List Bool} (h : RdAt w x D) : D.length ≤ 1048576 := by
  obtain ⟨⟨g, cap, l, i, N, h, rfl⟩⟩ := h
  rw [BitMath.length_restB l i N h.hn]
  have := h.hn
  have := h.hl
  omega

theorem rd_ok (w : World) (x : Nat) (D : List Bool) (h : RdAt w x D) (n : Nat) (h64 : n ≤ 64) (hn : n ≤ D.length) :
    Calls Tryd.prog 25 #[.pointer (some ⟨x, 0, none⟩), .int .i64 (n : Int)] w fun e w' => e = .returned (.tuple #[.int .u64 ((BitMath.valB (D.take n) : Nat) : Int), .nilIface]) ∧ RdAt w' x (D.drop n) ∧ Kept [x] w w' ∧ w'.heap.size = w.heap.size := by
  obtain ⟨⟨g, cap, l, i, N, h, rfl⟩⟩ := h
  have hl := BitMath.length_restB l i N h.hn
  have hi := h.hi
  refine (get_ok w x g cap l i N h n (by omega) (by omega)).mono ?_
  rintro e w' ⟨rfl, hr, hk, hs⟩
  refine ⟨by rw [BitMath.readB_rest l i n N (by omega)], ⟨⟨g, cap, l, i + n, N, hr, ?_⟩⟩, hk, hs⟩
  rw [BitMath.restB_drop]
theorem rd_none (w : World) (x : Nat) (D : List Bool) (h : RdAt w x D) (n : Nat) (a : Addr) (hE : w.cell? ⟨4, 0, none⟩ = some (.iface 97 (.pointer (some a)))) (h64 : n ≤ 64) (hn : D.length < n) :
    Calls Tryd.prog 25 #[.pointer (some ⟨x, 0, none⟩), .int .i64 (n : Int)] w fun e w' => e = .returned (.tuple #[.int .u64 0, .iface 97 (.pointer (some a))]) ∧ ∃ q, w' = w.drewN q := by
  obtain ⟨⟨g, cap, l, i, N, h, rfl⟩⟩ := h
  have hl := BitMath.length_restB l i N h.hn
  have hi := h.hi
  exact get_none w x g cap l i N h (n : Int) a hE (by omega) (by omega) (by omega)
theorem rd_left (w : World) (x : Nat) (D : List Bool) (h : RdAt w x D) :
    Calls Tryd.prog 27 #[.pointer (some ⟨x, 0, none⟩)] w fun e w' => e = .returned (.int .i64 (D.length : Int)) ∧ ∃ q, w' = w.drewN q := by
  obtain ⟨⟨g, cap, l, i, N, h, rfl⟩⟩ := h
  have hl := BitMath.length_restB l i N h.hn
  have hi := h.hi
  refine (left_any w x g cap l i N h).mono ?_
  rintro e w' ⟨rfl, hw⟩
  exact ⟨by rw [show ((N : Int) - (i : Int)) = ((BitMath.restB l i N).length : Int) by omega], hw⟩

set_option maxRecDepth 1000000 in
set_option maxHeartbeats 2000000 in
theorem getWindow_any (w : World) (x : Nat) (D : List Bool) (h : RdAt w x D) (aN aT : Addr) (hN : w.cell? ⟨4, 0, none⟩ = some (.iface 97 (.pointer (some aN)))) (hT : w.cell? ⟨0, 0, none⟩ = some (.iface 97 (.pointer (some aT)))) (hxN : 4 < x) (_hxT : 0 < x) :
    Calls Tryd.prog 103 #[.pointer (some ⟨x, 0, none⟩)] w fun e w' => Kept [x] w w' ∧
      ((11 ≤ D.length ∧ BitMath.valB (D.take 5) + BitMath.fixW (BitMath.valB ((D.drop 5).take 6)) ≤ 64 ∧ e = .returned (.tuple #[winV (BitMath.valB (D.take 5)) (BitMath.fixW (BitMath.valB ((D.drop 5).take 6))), .nilIface]) ∧ RdAt w' x (D.drop 11)) ∨
       (D.length < 11 ∧ e = .returned (.tuple #[winV 0 0, .iface 97 (.pointer (some aN))])) ∨
       (11 ≤ D.length ∧ 64 < BitMath.valB (D.take 5) + BitMath.fixW (BitMath.valB ((D.drop 5).take 6)) ∧ e = .returned (.tuple #[winV 0 0, .iface 97 (.pointer (some aT))]))) := by
  have hxl := h.lt
  obtain ⟨wa, hwa⟩ : ∃ wa, wa = w.alloc (.cells #[.int .i64 0, .int .i64 0] 121) := ⟨_, rfl⟩
  have hka : Kept [] w wa := by rw [hwa]; exact (Kept.refl _ _).alloc _
  have hsa : wa.heap.size = w.heap.size + 1 := by rw [hwa]; simp
  have hra : RdAt wa x D := h.keptBy hka (fun b hb => by cases hb)
  have hblk : wa.heap[w.heap.size]? = some (.cells #[.int .i64 0, .int .i64 0] 121 (0, 0)) := by rw [hwa]; exact heap_alloc_new _ _
  have hNa := hka.cell hN (by simp)
  have hTa := hka.cell hT (by simp)
  have HWA := (show Hid _ from hwa)
  have HKA := (show Hid _ from hka)
  have HBLK := (show Hid _ from hblk)
  unfold winV
  by_cases h5 : 5 ≤ D.length
  · have hg1 := rd_ok wa x D hra 5 (by omega) h5
    have hlt5 : BitMath.valB (D.take 5) < 2 ^ 5 := by
      have := BitMath.valB_lt (D.take 5)
      rwa [List.length_take, Nat.min_eq_left h5] at this
    by_cases h11 : 11 ≤ D.length
    · have hg2 := fun w0 (hr0 : RdAt w0 x (D.drop 5)) => rd_ok w0 x (D.drop 5) hr0 6 (by omega) (by rw [List.length_drop]; omega)
      have hlt6 : BitMath.valB ((D.drop 5).take 6) < 2 ^ 6 := by
        have := BitMath.valB_lt ((D.drop 5).take 6)
        rwa [List.length_take, List.length_drop, Nat.min_eq_left (by omega)] at this
      generalize hA : BitMath.valB (D.take 5) = A at *
      generalize hB : BitMath.valB ((D.drop 5).take 6) = B at *
      obtain ⟨F, hF⟩ : ∃ F, BitMath.fixW B = F := ⟨_, rfl⟩
      have HF : Hid ((B = 0 ∧ F = 64) ∨ (B ≠ 0 ∧ F = B)) := (by rw [← hF]; unfold BitMath.fixW; by_cases hB0 : B = 0 <;> simp [hB0] : (B = 0 ∧ F = 64) ∨ (B ≠ 0 ∧ F = B))
      rw [hF]
      have HG1 := (show Hid _ from hg1)
      have HG2 := (show Hid _ from hg2)
      have hz0 : w.heap.size ≠ 0 := by omega
      have hz1 : (0 : Nat) ≠ w.heap.size := by omega
      have hAI : (A : Int) < 32 := by omega
      have hBI : (B : Int) < 64 := by omega
      clear hg1 hg2 hF hA hB hN hT h hwa hka hra hblk hlt5 hlt6
      go_enter Tryd.func103, Tryd.ntmps103
      go_wp2_with fail
      rw [← HWA.out]
      refine Calls.mono HG1.out ?_
      rintro e w1 ⟨rfl, hr1, hk1, hs1⟩
      have HR1 := (show Hid _ from hr1)
      have HK1 := (show Hid _ from hk1)
      clear hr1 hk1
      go_wp2_with fail
      refine Calls.mono (HG2.out _ HR1.out) ?_
      rintro e w2 ⟨rfl, hr2, hk2, hs2⟩
      have hblk2 : w2.heap[w.heap.size]? = some (.cells #[.int .i64 0, .int .i64 0] 121 (0, 0)) := (hk2.block _ (by omega) (by simp; omega)).trans ((HK1.out.block _ (by omega) (by simp; omega)).trans HBLK.out)
      have z0 : w2.cell? ⟨w.heap.size, 0, none⟩ = some (.int .i64 0) := cells_of hblk2 0
      have z1 : w2.cell? ⟨w.heap.size, 1, none⟩ = some (.int .i64 0) := cells_of hblk2 1
      have y0 : w2.frozen? ⟨w.heap.size, 0, none⟩ = false := frozen_of hblk2 0
      have y1 : w2.frozen? ⟨w.heap.size, 1, none⟩ = false := frozen_of hblk2 1
      have hT2 := hk2.cell (HK1.out.cell hTa (by simp; omega)) (by simp; omega)
      have HR2 := (show Hid _ from hr2)
      have hkk : Kept [x] w w2 := ((HKA.out.none).trans HK1.out (fun z hz => .inl hz)).trans hk2 (fun z hz => .inl hz)
      have HKK := (show Hid _ from hkk)
      clear hr2 hk2 hblk2 hkk HG1 HG2 HR1 HK1 hNa hTa
      rcases HF.out with ⟨hB0, hF⟩ | ⟨hB0, hF⟩
      · subst hF
        subst hB0
        by_cases hsum : A + 64 ≤ 64
        · have hd : decide ((64 : Int) < (A : Int) + 64) = false := by simp; omega
          have hdN : decide (64 < A + 64) = false := by simp; omega
          go_wp2_with fail
          exact bodyPost_ret (v := .tuple #[.agg #[.int .i64 (A : Int), .int .i64 64], .nilIface]) (by simp [results, Tryd.results103, go_sem, z0, z1]) rfl ⟨(HKK.out.setCell (.inr (by simp)) _).setCell (.inr (by simp)) _, .inl ⟨h11, hsum, rfl, by
            have := HR2.out
            rw [List.drop_drop] at this
            exact this.keptBy (((Kept.refl [w.heap.size] _).setCell (.inl (by simp)) _).setCell (.inl (by simp)) _) (fun b hb => by simp at hb; subst hb; omega)⟩⟩
        · have hd : decide ((64 : Int) < (A : Int) + 64) = true := by simp; omega
          have hdN : decide (64 < A + 64) = true := by simp; omega
          go_wp2_with fail
          go_region
          all_goals
            go_wp2
            exact bodyPost_ret (v := .tuple #[.agg #[.int .i64 0, .int .i64 0], .iface 97 (.pointer (some aT))]) (by simp [results, Tryd.results103, go_sem, z0, z1]) rfl ⟨((HKK.out.draws 1).setCell (.inr (by simp)) _).setCell (.inr (by simp)) _, .inr (.inr ⟨h11, by omega, rfl⟩)⟩
      · subst hF
        have hb0 : ((F : Int) == 0) = false := by rw [beq_eq_false_iff_ne]; omega
        by_cases hsum : A + F ≤ 64
        · have hd : decide ((64 : Int) < (A : Int) + (F : Int)) = false := by simp; omega
          have hdN : decide (64 < A + F) = false := by simp; omega
          go_wp2_with fail
          exact bodyPost_ret (v := .tuple #[.agg #[.int .i64 (A : Int), .int .i64 (F : Int)], .nilIface]) (by simp [results, Tryd.results103, go_sem, z0, z1]) rfl ⟨(HKK.out.setCell (.inr (by simp)) _).setCell (.inr (by simp)) _, .inl ⟨h11, hsum, rfl, by
            have := HR2.out
            rw [List.drop_drop] at this
            exact this.keptBy (((Kept.refl [w.heap.size] _).setCell (.inl (by simp)) _).setCell (.inl (by simp)) _) (fun b hb => by simp at hb; subst hb; omega)⟩⟩
        · have hd : decide ((64 : Int) < (A : Int) + (F : Int)) = true := by simp; omega
          have hdN : decide (64 < A + F) = true := by simp; omega
          go_wp2_with fail
          go_region
          all_goals
            go_wp2
            exact bodyPost_ret (v := .tuple #[.agg #[.int .i64 0, .int .i64 0], .iface 97 (.pointer (some aT))]) (by simp [results, Tryd.results103, go_sem, z0, z1]) rfl ⟨((HKK.out.draws 1).setCell (.inr (by simp)) _).setCell (.inr (by simp)) _, .inr (.inr ⟨h11, by omega, rfl⟩)⟩
    · have hg2 := fun w0 (hr0 : RdAt w0 x (D.drop 5)) hE => rd_none w0 x (D.drop 5) hr0 6 aN hE (by omega) (by rw [List.length_drop]; omega)
      generalize hA : BitMath.valB (D.take 5) = A at *
      have HG1 := (show Hid _ from hg1)
      have HG2 := (show Hid _ from hg2)
      clear hg1 hg2 hA hN hT h hwa hka hra hblk hlt5
      go_enter Tryd.func103, Tryd.ntmps103
      go_wp2_with fail
      rw [← HWA.out]
      refine Calls.mono HG1.out ?_
      rintro e w1 ⟨rfl, hr1, hk1, hs1⟩
      have HR1 := (show Hid _ from hr1)
      have HK1 := (show Hid _ from hk1)
      have hN1 := hk1.cell hNa (by simp; omega)
      have HN1 := (show Hid _ from hN1)
      clear hr1 hk1 hN1 hNa hTa
      go_wp2_with fail
      refine Calls.mono (HG2.out _ HR1.out HN1.out) ?_
      rintro e w2 ⟨rfl, q, hw2⟩
      have hblk2 : w2.heap[w.heap.size]? = some (.cells #[.int .i64 0, .int .i64 0] 121 (0, 0)) := by rw [hw2]; exact (HK1.out.block _ (by omega) (by simp; omega)).trans HBLK.out
      have z0 : w2.cell? ⟨w.heap.size, 0, none⟩ = some (.int .i64 0) := cells_of hblk2 0
      have z1 : w2.cell? ⟨w.heap.size, 1, none⟩ = some (.int .i64 0) := cells_of hblk2 1
      have y0 : w2.frozen? ⟨w.heap.size, 0, none⟩ = false := frozen_of hblk2 0
      have y1 : w2.frozen? ⟨w.heap.size, 1, none⟩ = false := frozen_of hblk2 1
      have hkk : Kept [x] w w2 := by rw [hw2]; exact ((HKA.out.none).trans HK1.out (fun z hz => .inl hz)).draws q
      have HKK := (show Hid _ from hkk)
      clear hblk2 hkk HG1 HG2 HR1 HK1 hw2
      go_wp2
      exact bodyPost_ret (v := .tuple #[.agg #[.int .i64 0, .int .i64 0], .iface 97 (.pointer (some aN))]) (by simp [results, Tryd.results103, go_sem, z0, z1]) rfl ⟨(HKK.out.setCell (.inr (by simp)) _).setCell (.inr (by simp)) _, .inr (.inl ⟨by omega, rfl⟩)⟩
  · have hg1 := rd_none wa x D hra 5 aN hNa (by omega) (by omega)
    have HG1 := (show Hid _ from hg1)
    clear hg1 hN hT h hwa hka hra hblk hNa hTa
    go_enter Tryd.func103, Tryd.ntmps103
    go_wp2_with fail
    rw [← HWA.out]
    refine Calls.mono HG1.out ?_
    rintro e w2 ⟨rfl, q, hw2⟩
    have hblk2 : w2.heap[w.heap.size]? = some (.cells #[.int .i64 0, .int .i64 0] 121 (0, 0)) := by rw [hw2]; exact HBLK.out
    have z0 : w2.cell? ⟨w.heap.size, 0, none⟩ = some (.int .i64 0) := cells_of hblk2 0
    have z1 : w2.cell? ⟨w.heap.size, 1, none⟩ = some (.int .i64 0) := cells_of hblk2 1
    have y0 : w2.frozen? ⟨w.heap.size, 0, none⟩ = false := frozen_of hblk2 0
    have y1 : w2.frozen? ⟨w.heap.size, 1, none⟩ = false := frozen_of hblk2 1
    have hkk : Kept [x] w w2 := by rw [hw2]; exact (HKA.out.none).draws q
    have HKK := (show Hid _ from hkk)
    clear hblk2 hkk HG1 hw2
    go_wp2
    exact bodyPost_ret (v := .tuple #[.agg #[.int .i64 0, .int .i64 0], .iface 97 (.pointer (some aN))]) (by simp [results, Tryd.results103, go_sem, z0, z1]) rfl ⟨(HKK.out.setCell (.inr (by simp)) _).setCell (.inr (by simp)) _, .inr (.inl ⟨by omega, rfl⟩)⟩
end Go.Proofs.YtgdflopgdlpimaaDoor
