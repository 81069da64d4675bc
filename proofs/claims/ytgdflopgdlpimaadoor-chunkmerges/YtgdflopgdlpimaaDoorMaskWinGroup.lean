/- Package mask's windows and forms by contracts: tail, windowOf, holds, formOf. -/
import Derived.Test.YtgdflopgdlpimaaDoorMaskZ
import Derived.Test.YtgdflopgdlpimaaDoorLaw1
import Derived.Deep.QuietTactic
import Derived.BigQuiet
import Derived.Test.YtgdflopgdlpimaaDoorWavePut
namespace BitMath
/-- How many bits a window leaves behind it, and its width, as the program has them: no window is 0 and 0. -/
def WinOK (w : Bool × Nat × Nat) : Prop := (w.1 = false → w = (false, 0, 0)) ∧ w.2.1 ≤ 31 ∧ w.2.1 + w.2.2 ≤ 63
theorem wide_le {w : Bool × Nat × Nat} (h : WinOK w) : w.2.1 + wideW w ≤ 64 := by
  unfold wideW
  obtain ⟨h0, h1, h2⟩ := h
  cases hw : w.1 with
  | true => simp; omega
  | false => have := h0 hw; rw [this]; simp
/-- The way of a change. -/
def wayOf (w : Bool × Nat × Nat) (x : Nat) : Nat := if x = 0 then 0 else if mFits w x = true then 1 else 2
theorem winOK_next {w : Bool × Nat × Nat} (h : WinOK w) (x : Nat) (hx : x < 18446744073709551616) : WinOK (mNext w x) := by
  unfold mNext
  split
  · exact h
  · rename_i h0
    split
    · exact h
    · exact ⟨fun h => (by cases h), lead_le x, lead_tail x hx h0⟩
/-- The program's test for a window that holds a change. -/
theorem fits_iff {w : Bool × Nat × Nat} (h : WinOK w) (x : Nat) (hx : x < 18446744073709551616) (h0 : x ≠ 0) : mFits w x = true ↔ w.2.1 ≤ mLead x ∧ 64 - w.2.1 - wideW w ≤ mTail x := by
  obtain ⟨h1, h2, h3⟩ := h
  have h4 := lead_tail x hx h0
  unfold mFits wideW
  cases hw : w.1 with
  | true => simp; intro _; omega
  | false => have := h1 hw; rw [this]; simp; omega
end BitMath
namespace Go.Proofs.YtgdflopgdlpimaaDoor
open Go.RowKit

/-- A window, a form, as values. -/
def winV (L W : Nat) : Value := .agg #[.int .i64 (L : Int), .int .i64 (W : Int)]
def formV (y L W : Nat) : Value := .agg #[.int .i64 (y : Int), .int .i64 (L : Int), .int .i64 (W : Int)]

theorem mtail_any (L W : Nat) (w : World) (h : L + W ≤ 64) :
    Calls Tryd.prog 102 #[winV L W] w fun e w' => e = .returned (.int .i64 ((64 - L - W : Nat) : Int)) ∧ Below w.heap.size w w' := by
  have HE : Hid ((64 : Int) - (L : Int) - (W : Int) = ((64 - L - W : Nat) : Int)) := (by omega : (64 : Int) - (L : Int) - (W : Int) = ((64 - L - W : Nat) : Int))
  have hL : (L : Int) ≤ 64 := by omega
  have hW : (W : Int) ≤ 64 := by omega
  unfold winV
  go_enter Tryd.func102, Tryd.ntmps102
  go_wp2
  go_ret
  exact ⟨congrArg (fun i => Ending.returned (Value.int .i64 i)) HE.out, (Below.refl _ _).alloc (Nat.le_refl _) _⟩

set_option maxRecDepth 100000 in
theorem windowOf_any (x : Nat) (w : World) (hx : x < 18446744073709551616) (h0 : x ≠ 0) (hT : Tab w) :
    Calls Tryd.prog 100 #[.int .u64 (x : Int)] w fun e w' => e = .returned (winV (BitMath.mLead x) (64 - BitMath.mLead x - BitMath.mTail x)) ∧ Below w.heap.size w w' := by
  have hlt := BitMath.lead_tail x hx h0
  have hl := BitMath.lead_le x
  obtain ⟨z, hz⟩ : ∃ z, BitMath.lz (BitMath.bitsOf x 64) = z := ⟨_, rfl⟩
  obtain ⟨L, hL⟩ : ∃ L, BitMath.mLead x = L := ⟨_, rfl⟩
  obtain ⟨T, hT0⟩ : ∃ T, BitMath.mTail x = T := ⟨_, rfl⟩
  have hzL : L = min z 31 := by rw [← hL, ← hz]; rfl
  have hmin : (if (31 : Int) < (z : Int) then (31 : Int) else (z : Int)) = (L : Int) := by split <;> omega
  have HM : Hid (min (z : Int) 31 = (L : Int)) := (by omega : min (z : Int) 31 = (L : Int))
  have H1 := (show Hid _ from fun w0 => lead_any x w0 hx)
  have H2 := (show Hid _ from fun w0 h => tail_zeros x w0 hx h0 h)
  rw [hz] at H1
  rw [hT0] at H2
  rw [hL, hT0] at hlt
  rw [hL] at hl
  rw [hL, hT0]
  have HTB : Hid (Tab (w.alloc (.cells #[.int .i64 0, .int .i64 0] 121))) := hT.below ((Below.refl _ _).alloc (Nat.le_refl _) _) hT.lt
  clear hL hT0 hz hzL hx h0 hT
  unfold winV
  have hLI : (L : Int) ≤ 31 := by omega
  have hTI : (T : Int) ≤ 63 := by omega
  have HE : Hid ((64 : Int) - (L : Int) - (T : Int) = ((64 - L - T : Nat) : Int)) := (by omega : (64 : Int) - (L : Int) - (T : Int) = ((64 - L - T : Nat) : Int))
  go_enter Tryd.func100, Tryd.ntmps100
  go_wp2_with fail
  refine Calls.mono (H1.out _) ?_
  rintro e w1 ⟨rfl, hw1⟩
  have hw1' := hw1.symm
  subst hw1'
  go_wp2_with fail
  refine Calls.mono (H2.out _ HTB.out) ?_
  rintro e w2 ⟨rfl, hw2⟩
  have hw2' := hw2.symm
  subst hw2'
  go_wp2
  refine bodyPost_ret (v := .agg #[.int .i64 (L : Int), .int .i64 ((64 : Int) - (L : Int) - (T : Int))]) (by simp [results, Tryd.results100, go_sem]; exact HM.out) rfl ⟨by rw [HE.out], (Below.refl _ _).alloc (Nat.le_refl _) _⟩

theorem below_draws (w w' : World) (q : Nat) : Below w.heap.size w' (w'.drewN q) := ⟨rfl, rfl, rfl, Nat.le_refl _, fun _ _ => rfl⟩
theorem bcells {W w1 : World} (hb : Below W.heap.size W w1) : ∀ b o, b < W.heap.size → w1.cell? ⟨b, o, none⟩ = W.cell? ⟨b, o, none⟩ := fun b o h => hb.cell (p := ⟨b, o, none⟩) h

/-- Two windows that lie in two blocks, and memory that grew. -/
structure Wins (w w' : World) (b c : Nat) (v0 v1 v2 v3 : Value) : Prop where
  c0 : w'.cell? ⟨b, 0, none⟩ = some v0
  c1 : w'.cell? ⟨b, 1, none⟩ = some v1
  c2 : w'.cell? ⟨c, 0, none⟩ = some v2
  c3 : w'.cell? ⟨c, 1, none⟩ = some v3
  bel : Below w.heap.size w w'
theorem Wins.drew {w w' : World} {b c : Nat} {v0 v1 v2 v3 : Value} (h : Wins w w' b c v0 v1 v2 v3) : Wins w w'.drew b c v0 v1 v2 v3 := ⟨h.c0, h.c1, h.c2, h.c3, h.bel.drew⟩
theorem mtail_wins (L W : Nat) (w w0 : World) (b c : Nat) (v0 v1 v2 v3 : Value) (h : L + W ≤ 64) (hW : Wins w w0 b c v0 v1 v2 v3) :
    Calls Tryd.prog 102 #[winV L W] w0 fun e w' => e = .returned (.int .i64 ((64 - L - W : Nat) : Int)) ∧ w'.cell? ⟨b, 0, none⟩ = some v0 ∧ w'.cell? ⟨b, 1, none⟩ = some v1 ∧ w'.cell? ⟨c, 0, none⟩ = some v2 ∧ w'.cell? ⟨c, 1, none⟩ = some v3 ∧ Wins w w' b c v0 v1 v2 v3 := by
  refine (mtail_any L W w0 h).mono ?_
  rintro e w' ⟨rfl, hb⟩
  have c0 := (hb.cell (p := ⟨b, 0, none⟩) (lt_of_cell hW.c0)).trans hW.c0
  have c1 := (hb.cell (p := ⟨b, 1, none⟩) (lt_of_cell hW.c1)).trans hW.c1
  have c2 := (hb.cell (p := ⟨c, 0, none⟩) (lt_of_cell hW.c2)).trans hW.c2
  have c3 := (hb.cell (p := ⟨c, 1, none⟩) (lt_of_cell hW.c3)).trans hW.c3
  exact ⟨rfl, c0, c1, c2, c3, c0, c1, c2, c3, hW.bel.trans (hb.mono hW.bel.size)⟩
theorem wins_new (w : World) (a b c d : Value) (t : TypeId) : Wins w ((w.alloc (.cells #[a, b] t)).alloc (.cells #[c, d] t)) w.heap.size (w.heap.size + 1) a b c d := by
  refine ⟨?_, ?_, ?_, ?_, ((Below.refl _ _).alloc (Nat.le_refl _) _).alloc (by simp) _⟩ <;> simp [go_sem]

set_option maxRecDepth 100000 in
set_option maxHeartbeats 1000000 in
theorem mholds_any (L W l q : Nat) (w : World) (h : L + W ≤ 64) (h' : l + q ≤ 64) :
    Calls Tryd.prog 101 #[winV L W, winV l q] w fun e w' => e = .returned (.bool (decide (L ≤ l ∧ 64 - L - W ≤ 64 - l - q))) ∧ Below w.heap.size w w' := by
  have HW : Hid (Wins w ((w.alloc (.cells #[.int .i64 (L : Int), .int .i64 (W : Int)] 121)).alloc (.cells #[.int .i64 (l : Int), .int .i64 (q : Int)] 121)) w.heap.size (w.heap.size + 1) (.int .i64 (L : Int)) (.int .i64 (W : Int)) (.int .i64 (l : Int)) (.int .i64 (q : Int))) := wins_new w _ _ _ _ _
  by_cases hl : L ≤ l
  · have e1 : decide (L ≤ l) = true := decide_eq_true hl
    have e2 : decide ((L : Int) ≤ (l : Int)) = true := decide_eq_true (by omega)
    have HE : Hid (decide (L ≤ l ∧ 64 - L - W ≤ 64 - l - q) = decide (64 - L - W ≤ 64 - l - q)) := (by simp [hl] : decide (L ≤ l ∧ 64 - L - W ≤ 64 - l - q) = decide (64 - L - W ≤ 64 - l - q))
    rw [HE.out]
    have HA := (show Hid _ from fun w0 => mtail_wins l q w w0 w.heap.size (w.heap.size + 1) (.int .i64 (L : Int)) (.int .i64 (W : Int)) (.int .i64 (l : Int)) (.int .i64 (q : Int)) h')
    have HB := (show Hid _ from fun w0 => mtail_wins L W w w0 w.heap.size (w.heap.size + 1) (.int .i64 (L : Int)) (.int .i64 (W : Int)) (.int .i64 (l : Int)) (.int .i64 (q : Int)) h)
    unfold winV at HA HB ⊢
    generalize 64 - L - W = A at *
    generalize 64 - l - q = B at *
    clear HE h h' hl
    go_enter Tryd.func101, Tryd.ntmps101
    go_wp2_with fail
    go_region_held3 (fun w' => w'.cell? ⟨w.heap.size, 0, none⟩ = some (.int .i64 (L : Int)) ∧ w'.cell? ⟨w.heap.size, 1, none⟩ = some (.int .i64 (W : Int)) ∧ w'.cell? ⟨w.heap.size + 1, 0, none⟩ = some (.int .i64 (l : Int)) ∧ w'.cell? ⟨w.heap.size + 1, 1, none⟩ = some (.int .i64 (q : Int))) (go_keep) ((go_at_call 102; first | (refine Calls.mono (HA.out _ (by first | exact HW.out | exact HW.out.drew)) ?_; rintro e w1 ⟨rfl, k0, k1, k2, k3, hw1⟩; have HW1 := (show Hid _ from hw1); clear hw1 HA HW) | (refine Calls.mono (HB.out _ (by first | exact HW1.out | exact HW1.out.drew)) ?_; rintro e w2 ⟨rfl, k0, k1, k2, k3, hw2⟩; have HW2 := (show Hid _ from hw2); clear hw2 HB HW1)))
    go_wp2
    go_ret
    exact ⟨rfl, HW2.out.bel⟩
  · have e1 : decide (L ≤ l) = false := decide_eq_false hl
    have e2 : decide ((L : Int) ≤ (l : Int)) = false := decide_eq_false (by omega)
    have HE : Hid (decide (L ≤ l ∧ 64 - L - W ≤ 64 - l - q) = false) := (by simp [hl] : decide (L ≤ l ∧ 64 - L - W ≤ 64 - l - q) = false)
    rw [HE.out]
    unfold winV
    clear HE h h' hl
    go_enter Tryd.func101, Tryd.ntmps101
    go_wp2_with fail
    go_quiet (fail)
    go_wp2
    go_ret
    exact ⟨rfl, HW.out.bel.trans (below_draws _ _ _)⟩

set_option maxRecDepth 100000 in
set_option maxHeartbeats 1000000 in
theorem mformOf_any (u : Bool × Nat × Nat) (x : Nat) (w : World) (hu : BitMath.WinOK u) (hx : x < 18446744073709551616) (hT : Tab w) :
    Calls Tryd.prog 90 #[winV u.2.1 (BitMath.wideW u), .int .u64 (x : Int)] w fun e w' => e = .returned (formV (BitMath.wayOf u x) (BitMath.mNext u x).2.1 (BitMath.wideW (BitMath.mNext u x))) ∧ Below w.heap.size w w' := by
  have hwl := BitMath.wide_le hu
  obtain ⟨L, hL⟩ : ∃ L, u.2.1 = L := ⟨_, rfl⟩
  obtain ⟨W, hW⟩ : ∃ W, BitMath.wideW u = W := ⟨_, rfl⟩
  by_cases h0 : x = 0
  · have e1 : BitMath.wayOf u x = 0 := by unfold BitMath.wayOf; rw [if_pos h0]
    have e2 : BitMath.mNext u x = u := by unfold BitMath.mNext; rw [if_pos h0]
    rw [e1, e2, hL, hW]
    clear hwl hL hW hu hT hx e1 e2
    subst h0
    unfold winV formV
    go_enter Tryd.func90, Tryd.ntmps90
    go_wp2
    exact bodyPost_ret (v := .agg #[.int .i64 0, .int .i64 (L : Int), .int .i64 (W : Int)]) (by simp [results, Tryd.results90, go_sem]) rfl ⟨rfl, ((Below.refl _ _).alloc (Nat.le_refl _) _).alloc (by simp) _⟩
  · have hfit := BitMath.fits_iff hu x hx h0
    have hlt := BitMath.lead_tail x hx h0
    have hx0 : ((x : Int) == 0) = false := by rw [beq_eq_false_iff_ne]; omega
    obtain ⟨l, hl⟩ : ∃ l, BitMath.mLead x = l := ⟨_, rfl⟩
    obtain ⟨q, hq⟩ : ∃ q, 64 - BitMath.mLead x - BitMath.mTail x = q := ⟨_, rfl⟩
    have hlq : l + q ≤ 64 := by omega
    have HWO := (show Hid _ from fun w0 h => windowOf_any x w0 hx h0 h)
    have HHO := (show Hid _ from fun w0 => mholds_any L W l q w0 (by omega) hlq)
    rw [hq, hl] at HWO
    have hdec : decide (L ≤ l ∧ 64 - L - W ≤ 64 - l - q) = decide (BitMath.mFits u x = true) := by
      rw [decide_eq_decide, hfit, hL, hW, hl]
      have : BitMath.mTail x = 64 - l - q := by omega
      rw [this]
    rw [hdec] at HHO
    have HTB : Hid (∀ C D, Tab ((w.alloc (.cells C 121)).alloc (.cells D 123))) := fun C D => hT.below (((Below.refl _ _).alloc (Nat.le_refl _) _).alloc (by simp) _) hT.lt
    cases hf : BitMath.mFits u x with
    | true =>
      have e1 : BitMath.wayOf u x = 1 := by unfold BitMath.wayOf; rw [if_neg h0, if_pos hf]
      have e2 : BitMath.mNext u x = u := by unfold BitMath.mNext; rw [if_neg h0, if_pos hf]
      rw [e1, e2, hL, hW]
      rw [hf, decide_eq_true rfl] at HHO
      clear hwl hL hW hu hT hx e1 e2 hfit hlt hl hq hlq hdec hf
      unfold winV at HWO HHO ⊢
      unfold formV
      go_enter Tryd.func90, Tryd.ntmps90
      go_wp2_with fail
      refine Calls.mono (HWO.out _ (HTB.out _ _)) ?_
      rintro e w1 ⟨rfl, hb1⟩
      have hbb : Below w.heap.size w w1 := (((Below.refl _ _).alloc (Nat.le_refl _) _).alloc (by simp) _).trans (hb1.mono (by simp; omega))
      have hs1 : w.heap.size + 1 < w1.heap.size := by have := hb1.size; simp at this; omega
      have hk0 : w1.heap[w.heap.size]? = some (.cells #[.int .i64 (L : Int), .int .i64 (W : Int)] 121 (0, 0)) := by
        rw [hb1.block _ (by simp; omega), Below.heap_alloc _ _ _ (by simp)]
        exact heap_alloc_new _ _
      have hk1 : w1.heap[w.heap.size + 1]? = some (.cells #[.int .i64 0, .int .i64 0, .int .i64 0] 123 (0, 0)) := by
        rw [hb1.block _ (by simp)]
        have := heap_alloc_new (w.alloc (.cells #[.int .i64 (L : Int), .int .i64 (W : Int)] 121)) (.cells #[.int .i64 0, .int .i64 0, .int .i64 0] 123)
        simpa using this
      have c0 : ∀ o : Obj, (w1.alloc o).cell? ⟨w.heap.size, 0, none⟩ = some (.int .i64 (L : Int)) := fun o => by rw [World.cell?_alloc_lt _ _ ⟨w.heap.size, 0, none⟩ (by show w.heap.size < w1.heap.size; omega)]; exact cells_of hk0 0
      have c1 : ∀ o : Obj, (w1.alloc o).cell? ⟨w.heap.size, 1, none⟩ = some (.int .i64 (W : Int)) := fun o => by rw [World.cell?_alloc_lt _ _ ⟨w.heap.size, 1, none⟩ (by show w.heap.size < w1.heap.size; omega)]; exact cells_of hk0 1
      have HBB := (show Hid _ from hbb)
      have HK0 := (show Hid _ from hk0)
      have HK1 := (show Hid _ from hk1)
      clear hb1 hbb hk0 hk1 HWO HTB
      go_wp2_with fail
      refine Calls.mono (HHO.out _) ?_
      rintro e w2 ⟨rfl, hb2⟩
      obtain ⟨hnew, hb3⟩ : w2.heap[w1.heap.size]? = some (.cells #[.int .i64 (l : Int), .int .i64 (q : Int)] 121 (0, 0)) ∧ Below w1.heap.size w1 w2 := by
        refine ⟨?_, ((Below.refl _ _).alloc (Nat.le_refl _) _).trans (hb2.mono (by simp))⟩
        rw [hb2.block w1.heap.size (by simp)]
        exact heap_alloc_new _ _
      have hk0 := (hb3.block w.heap.size (by omega)).trans HK0.out
      have hk1 := (hb3.block (w.heap.size + 1) (by omega)).trans HK1.out
      have hb4 := HBB.out.trans (hb3.mono HBB.out.size)
      clear c0 c1 hb2 hb3 HHO HBB HK0 HK1
      have c0 : w2.cell? ⟨w.heap.size, 0, none⟩ = some (.int .i64 (L : Int)) := cells_of hk0 0
      have c1 : w2.cell? ⟨w.heap.size, 1, none⟩ = some (.int .i64 (W : Int)) := cells_of hk0 1
      have d0 : w2.cell? ⟨w1.heap.size, 0, none⟩ = some (.int .i64 (l : Int)) := cells_of hnew 0
      have d1 : w2.cell? ⟨w1.heap.size, 1, none⟩ = some (.int .i64 (q : Int)) := cells_of hnew 1
      have z0 : w2.cell? ⟨w.heap.size + 1, 0, none⟩ = some (.int .i64 0) := cells_of hk1 0
      have z1 : w2.cell? ⟨w.heap.size + 1, 1, none⟩ = some (.int .i64 0) := cells_of hk1 1
      have z2 : w2.cell? ⟨w.heap.size + 1, 2, none⟩ = some (.int .i64 0) := cells_of hk1 2
      have y0 : w2.frozen? ⟨w.heap.size + 1, 0, none⟩ = false := frozen_of hk1 0
      have y1 : w2.frozen? ⟨w.heap.size + 1, 1, none⟩ = false := frozen_of hk1 1
      have y2 : w2.frozen? ⟨w.heap.size + 1, 2, none⟩ = false := frozen_of hk1 2
      have HB4 := (show Hid _ from hb4)
      clear hk0 hk1 hnew hb4
      go_wp2
      exact bodyPost_ret (v := .agg #[.int .i64 1, .int .i64 (L : Int), .int .i64 (W : Int)]) (by simp [results, Tryd.results90, go_sem, z0, z1, z2]) rfl ⟨rfl, ((HB4.out.setCell (by simp) _).setCell (by simp) _).setCell (by simp) _⟩
    | false =>
      have e1 : BitMath.wayOf u x = 2 := by unfold BitMath.wayOf; rw [if_neg h0, if_neg (by rw [hf]; decide)]
      have e2 : BitMath.mNext u x = (true, BitMath.mLead x, BitMath.mTail x) := by unfold BitMath.mNext; rw [if_neg h0, if_neg (by rw [hf]; decide)]
      have hqW : BitMath.wideW (true, BitMath.mLead x, BitMath.mTail x) = q := by unfold BitMath.wideW; simp; exact hq
      rw [e1, e2, hL, hW, hqW]
      show Calls _ _ _ _ fun e w' => e = .returned (formV 2 (BitMath.mLead x) q) ∧ _
      rw [hl]
      rw [hf, decide_eq_false (by decide)] at HHO
      clear hwl hL hW hu hT hx e1 e2 hfit hlt hl hq hlq hdec hqW hf
      unfold winV at HWO HHO ⊢
      unfold formV
      go_enter Tryd.func90, Tryd.ntmps90
      go_wp2_with fail
      refine Calls.mono (HWO.out _ (HTB.out _ _)) ?_
      rintro e w1 ⟨rfl, hb1⟩
      have hbb : Below w.heap.size w w1 := (((Below.refl _ _).alloc (Nat.le_refl _) _).alloc (by simp) _).trans (hb1.mono (by simp; omega))
      have hs1 : w.heap.size + 1 < w1.heap.size := by have := hb1.size; simp at this; omega
      have hk0 : w1.heap[w.heap.size]? = some (.cells #[.int .i64 (L : Int), .int .i64 (W : Int)] 121 (0, 0)) := by
        rw [hb1.block _ (by simp; omega), Below.heap_alloc _ _ _ (by simp)]
        exact heap_alloc_new _ _
      have hk1 : w1.heap[w.heap.size + 1]? = some (.cells #[.int .i64 0, .int .i64 0, .int .i64 0] 123 (0, 0)) := by
        rw [hb1.block _ (by simp)]
        have := heap_alloc_new (w.alloc (.cells #[.int .i64 (L : Int), .int .i64 (W : Int)] 121)) (.cells #[.int .i64 0, .int .i64 0, .int .i64 0] 123)
        simpa using this
      have c0 : ∀ o : Obj, (w1.alloc o).cell? ⟨w.heap.size, 0, none⟩ = some (.int .i64 (L : Int)) := fun o => by rw [World.cell?_alloc_lt _ _ ⟨w.heap.size, 0, none⟩ (by show w.heap.size < w1.heap.size; omega)]; exact cells_of hk0 0
      have c1 : ∀ o : Obj, (w1.alloc o).cell? ⟨w.heap.size, 1, none⟩ = some (.int .i64 (W : Int)) := fun o => by rw [World.cell?_alloc_lt _ _ ⟨w.heap.size, 1, none⟩ (by show w.heap.size < w1.heap.size; omega)]; exact cells_of hk0 1
      have HBB := (show Hid _ from hbb)
      have HK0 := (show Hid _ from hk0)
      have HK1 := (show Hid _ from hk1)
      clear hb1 hbb hk0 hk1 HWO HTB
      go_wp2_with fail
      refine Calls.mono (HHO.out _) ?_
      rintro e w2 ⟨rfl, hb2⟩
      obtain ⟨hnew, hb3⟩ : w2.heap[w1.heap.size]? = some (.cells #[.int .i64 (l : Int), .int .i64 (q : Int)] 121 (0, 0)) ∧ Below w1.heap.size w1 w2 := by
        refine ⟨?_, ((Below.refl _ _).alloc (Nat.le_refl _) _).trans (hb2.mono (by simp))⟩
        rw [hb2.block w1.heap.size (by simp)]
        exact heap_alloc_new _ _
      have hk0 := (hb3.block w.heap.size (by omega)).trans HK0.out
      have hk1 := (hb3.block (w.heap.size + 1) (by omega)).trans HK1.out
      have hb4 := HBB.out.trans (hb3.mono HBB.out.size)
      clear c0 c1 hb2 hb3 HHO HBB HK0 HK1
      have c0 : w2.cell? ⟨w.heap.size, 0, none⟩ = some (.int .i64 (L : Int)) := cells_of hk0 0
      have c1 : w2.cell? ⟨w.heap.size, 1, none⟩ = some (.int .i64 (W : Int)) := cells_of hk0 1
      have d0 : w2.cell? ⟨w1.heap.size, 0, none⟩ = some (.int .i64 (l : Int)) := cells_of hnew 0
      have d1 : w2.cell? ⟨w1.heap.size, 1, none⟩ = some (.int .i64 (q : Int)) := cells_of hnew 1
      have z0 : w2.cell? ⟨w.heap.size + 1, 0, none⟩ = some (.int .i64 0) := cells_of hk1 0
      have z1 : w2.cell? ⟨w.heap.size + 1, 1, none⟩ = some (.int .i64 0) := cells_of hk1 1
      have z2 : w2.cell? ⟨w.heap.size + 1, 2, none⟩ = some (.int .i64 0) := cells_of hk1 2
      have y0 : w2.frozen? ⟨w.heap.size + 1, 0, none⟩ = false := frozen_of hk1 0
      have y1 : w2.frozen? ⟨w.heap.size + 1, 1, none⟩ = false := frozen_of hk1 1
      have y2 : w2.frozen? ⟨w.heap.size + 1, 2, none⟩ = false := frozen_of hk1 2
      have HB4 := (show Hid _ from hb4)
      clear hk0 hk1 hnew hb4
      go_wp2
      exact bodyPost_ret (v := .agg #[.int .i64 2, .int .i64 (l : Int), .int .i64 (q : Int)]) (by simp [results, Tryd.results90, go_sem, z0, z1, z2]) rfl ⟨rfl, ((HB4.out.setCell (by simp) _).setCell (by simp) _).setCell (by simp) _⟩
end Go.Proofs.YtgdflopgdlpimaaDoor
/- Package mask's parts of a form by their contract. -/
namespace BitMath
/-- The parts of a form: numbers, each with how many bits of it are put. -/
def partsOf (y L W x : Nat) : List (Nat × Nat) :=
  if y = 0 then [(0, 1)] else if y = 1 then [(2, 2), (x / 2 ^ (64 - L - W), W)] else [(3, 2), (L, 5), (W, 6), (x / 2 ^ (64 - L - W), W)]
def bitsP (l : List (Nat × Nat)) : List Bool := l.flatMap fun p => bitsOf p.1 p.2
end BitMath
namespace Go.Proofs.YtgdflopgdlpimaaDoor
open Go.RowKit

/-- The cells of parts. -/
def partCells (l : List (Nat × Nat)) : List Value := l.flatMap fun p => [.int .u64 (p.1 : Int), .int .i64 (p.2 : Int)]

/-- A form that lies in a block, and memory that grew. -/
structure FormAt (w w' : World) (b : Nat) (v0 v1 v2 : Value) : Prop where
  c0 : w'.cell? ⟨b, 0, none⟩ = some v0
  c1 : w'.cell? ⟨b, 1, none⟩ = some v1
  c2 : w'.cell? ⟨b, 2, none⟩ = some v2
  bel : Below w.heap.size w w'
theorem FormAt.drew {w w' : World} {b : Nat} {v0 v1 v2 : Value} (h : FormAt w w' b v0 v1 v2) : FormAt w w'.drew b v0 v1 v2 := ⟨h.c0, h.c1, h.c2, h.bel.drew⟩
theorem FormAt.alloc {w w' : World} {b : Nat} {v0 v1 v2 : Value} (h : FormAt w w' b v0 v1 v2) (o : Obj) : FormAt w (w'.alloc o) b v0 v1 v2 :=
  ⟨(World.cell?_alloc_lt _ _ ⟨b, 0, none⟩ (lt_of_cell h.c0)).trans h.c0, (World.cell?_alloc_lt _ _ ⟨b, 1, none⟩ (lt_of_cell h.c1)).trans h.c1, (World.cell?_alloc_lt _ _ ⟨b, 2, none⟩ (lt_of_cell h.c2)).trans h.c2, h.bel.alloc h.bel.size _⟩
theorem bcellf {W w1 : World} (hb : Below W.heap.size W w1) : (∀ b o, b < W.heap.size → w1.cell? ⟨b, o, none⟩ = W.cell? ⟨b, o, none⟩) ∧ (∀ b o, b < W.heap.size → w1.frozen? ⟨b, o, none⟩ = W.frozen? ⟨b, o, none⟩) :=
  ⟨fun b o h => hb.cell (p := ⟨b, o, none⟩) h, fun b o h => hb.frozen (p := ⟨b, o, none⟩) h⟩
theorem mtail_form (L W : Nat) (w w0 : World) (b : Nat) (v0 v1 v2 : Value) (h : L + W ≤ 64) (hW : FormAt w w0 b v0 v1 v2) :
    Calls Tryd.prog 102 #[winV L W] w0 fun e w' => e = .returned (.int .i64 ((64 - L - W : Nat) : Int)) ∧ w'.cell? ⟨b, 0, none⟩ = some v0 ∧ w'.cell? ⟨b, 1, none⟩ = some v1 ∧ w'.cell? ⟨b, 2, none⟩ = some v2 ∧ FormAt w w' b v0 v1 v2 ∧ Below w0.heap.size w0 w' := by
  refine (mtail_any L W w0 h).mono ?_
  rintro e w' ⟨rfl, hb⟩
  have c0 := (hb.cell (p := ⟨b, 0, none⟩) (lt_of_cell hW.c0)).trans hW.c0
  have c1 := (hb.cell (p := ⟨b, 1, none⟩) (lt_of_cell hW.c1)).trans hW.c1
  have c2 := (hb.cell (p := ⟨b, 2, none⟩) (lt_of_cell hW.c2)).trans hW.c2
  exact ⟨rfl, c0, c1, c2, ⟨c0, c1, c2, hW.bel.trans (hb.mono hW.bel.size)⟩, hb⟩
theorem form_new (w : World) (a b c : Value) (t : TypeId) : FormAt w (w.alloc (.cells #[a, b, c] t)) w.heap.size a b c := by
  refine ⟨?_, ?_, ?_, (Below.refl _ _).alloc (Nat.le_refl _) _⟩ <;> simp [go_sem]

theorem undrew {W w1 : World} (h : Below W.drew.heap.size W.drew w1) : Below W.heap.size W w1 := ⟨h.os, h.tape, h.output, h.size, h.block⟩
/-- A form and a part that lie in two blocks. -/
structure PartAt (w w' : World) (b p : Nat) (v0 v1 v2 a c : Value) : Prop where
  form : w'.heap[b]? = some (.cells #[v0, v1, v2] 123 (0, 0))
  part : w'.heap[p]? = some (.cells #[a, c] 151 (0, 0))
  bel : Below w.heap.size w w'
theorem part_late {w w1 : World} {v0 v1 v2 a c : Value} (h : Below (w.alloc (.cells #[v0, v1, v2] 123)).heap.size (w.alloc (.cells #[v0, v1, v2] 123)) w1) :
    PartAt w (w1.alloc (.cells #[a, c] 151)) w.heap.size w1.heap.size v0 v1 v2 a c := by
  have hs := h.size
  simp at hs
  have hb : Below w.heap.size w w1 := ((Below.refl _ _).alloc (Nat.le_refl _) _).trans (h.mono (by simp))
  refine ⟨?_, heap_alloc_new _ _, hb.alloc hb.size _⟩
  rw [Below.heap_alloc _ _ _ (by omega), h.block _ (by simp)]
  exact heap_alloc_new _ _
theorem part_early {w w1 : World} {v0 v1 v2 a c x y : Value} (h : Below ((w.alloc (.cells #[v0, v1, v2] 123)).alloc (.cells #[x, y] 151)).heap.size ((w.alloc (.cells #[v0, v1, v2] 123)).alloc (.cells #[x, y] 151)) w1) :
    PartAt w ((w1.setCell ⟨w.heap.size + 1, 0, none⟩ a).setCell ⟨w.heap.size + 1, 1, none⟩ c) w.heap.size (w.heap.size + 1) v0 v1 v2 a c := by
  have hs := h.size
  simp at hs
  have hb : Below w.heap.size w w1 := (((Below.refl _ _).alloc (Nat.le_refl _) _).alloc (by simp) _).trans (h.mono (by simp; omega))
  refine ⟨?_, ?_, (hb.setCell (by simp) _).setCell (by simp) _⟩
  · rw [Below.heap_setCell _ _ _ _ (by simp), Below.heap_setCell _ _ _ _ (by simp), h.block _ (by simp; omega), Below.heap_alloc _ _ _ (by simp)]
    exact heap_alloc_new _ _
  · have hp : w1.heap[w.heap.size + 1]? = some (.cells #[x, y] 151 (0, 0)) := by
      rw [h.block _ (by simp)]
      have := heap_alloc_new (w.alloc (.cells #[v0, v1, v2] 123)) (.cells #[x, y] 151)
      simpa using this
    rw [heap_set (heap_set hp 0 a) 1 c]
    rfl

set_option maxRecDepth 100000 in
set_option maxHeartbeats 1000000 in
theorem parts_any (y L W x : Nat) (w : World) (hy : y ≤ 2) (h : L + W ≤ 64) :
    Calls Tryd.prog 91 #[formV y L W, .int .u64 (x : Int)] w fun e w' => ∃ g, e = .returned (.slice (some ⟨g, 0, none⟩) (BitMath.partsOf y L W x).length (BitMath.partsOf y L W x).length) ∧
      w.heap.size ≤ g ∧ w'.heap[g]? = some (.cells (partCells (BitMath.partsOf y L W x)).toArray 151 (0, 0)) ∧ Below w.heap.size w w' := by
  have HW : Hid (FormAt w (w.alloc (.cells #[.int .i64 (y : Int), .int .i64 (L : Int), .int .i64 (W : Int)] 123)) w.heap.size (.int .i64 (y : Int)) (.int .i64 (L : Int)) (.int .i64 (W : Int))) := form_new w _ _ _ _
  have HA := (show Hid _ from fun w0 => mtail_form L W w w0 w.heap.size (.int .i64 (y : Int)) (.int .i64 (L : Int)) (.int .i64 (W : Int)) h)
  obtain ⟨T, hT⟩ : ∃ T, 64 - L - W = T := ⟨_, rfl⟩
  have hT64 : T ≤ 64 := by omega
  rw [hT] at HA
  unfold winV at HA
  unfold formV
  have h0T : (0 : Int) ≤ (T : Int) := by omega
  have h1T : (T : Int) ≤ 64 := by omega
  have HX : Hid ((x : Int) / 2 ^ T = ((x / 2 ^ T : Nat) : Int)) := (by simp : (x : Int) / 2 ^ T = ((x / 2 ^ T : Nat) : Int))
  rcases (by omega : y = 0 ∨ y = 1 ∨ y = 2) with rfl | rfl | rfl
  · have hpo : BitMath.partsOf 0 L W x = [(0, 1)] := by unfold BitMath.partsOf; rw [hT]; rfl
    rw [hpo]
    have hL64 : (L : Int) ≤ 64 := by omega
    have hW64 : (W : Int) ≤ 64 := by omega
    clear hT h hy hpo
    go_enter Tryd.func91, Tryd.ntmps91
    go_wp2_with fail
    go_region_held3 (fun w' => w'.cell? ⟨w.heap.size, 0, none⟩ = some (.int .i64 0) ∧ w'.cell? ⟨w.heap.size, 1, none⟩ = some (.int .i64 (L : Int)) ∧ w'.cell? ⟨w.heap.size, 2, none⟩ = some (.int .i64 (W : Int))) (go_keep) ((go_at_call 102; refine Calls.mono (HA.out _ (by first | exact HW.out | exact HW.out.drew | exact (HW.out.alloc _).drew | exact HW.out.alloc _)) ?_; rintro e w1 ⟨rfl, k0, k1, k2, hw1, hb1⟩; obtain ⟨hc1, hf1⟩ := bcellf hb1; have HB1 := (show Hid _ from hb1); clear hw1 HA HW hb1))
    · obtain ⟨wz, hwz⟩ : ∃ wz, wz = w1.alloc (.cells #[.int .u64 ((x : Int) / 2 ^ T), .int .i64 (W : Int)] 151) := ⟨_, rfl⟩
      have hP : PartAt w wz w.heap.size w1.heap.size (.int .i64 0) (.int .i64 (L : Int)) (.int .i64 (W : Int)) (.int .u64 ((x : Int) / 2 ^ T)) (.int .i64 (W : Int)) := by rw [hwz]; exact part_late (undrew HB1.out)
      rw [← hwz]
      have c0 : wz.cell? ⟨w.heap.size, 0, none⟩ = some (.int .i64 0) := cells_of hP.form 0
      have c1 : wz.cell? ⟨w.heap.size, 1, none⟩ = some (.int .i64 (L : Int)) := cells_of hP.form 1
      have c2 : wz.cell? ⟨w.heap.size, 2, none⟩ = some (.int .i64 (W : Int)) := cells_of hP.form 2
      have d0 : wz.cell? ⟨w1.heap.size, 0, none⟩ = some (.int .u64 ((x : Int) / 2 ^ T)) := cells_of hP.part 0
      have d1 : wz.cell? ⟨w1.heap.size, 1, none⟩ = some (.int .i64 (W : Int)) := cells_of hP.part 1
      have HP := (show Hid _ from hP)
      clear hP hwz k0 k1 k2 hc1 hf1 HB1
      go_wp2
      go_ret
      refine ⟨wz.heap.size, rfl, HP.out.bel.size, ?_, HP.out.bel.alloc HP.out.bel.size _⟩
      rw [heap_alloc_new]
      first | rfl | (rw [HX.out]; rfl)
    · obtain ⟨wz, hwz⟩ : ∃ wz, wz = (w1.setCell ⟨w.heap.size + 1, 0, none⟩ (.int .u64 ((x : Int) / 2 ^ T))).setCell ⟨w.heap.size + 1, 1, none⟩ (.int .i64 (W : Int)) := ⟨_, rfl⟩
      have hP : PartAt w wz w.heap.size (w.heap.size + 1) (.int .i64 0) (.int .i64 (L : Int)) (.int .i64 (W : Int)) (.int .u64 ((x : Int) / 2 ^ T)) (.int .i64 (W : Int)) := by rw [hwz]; exact part_early (undrew HB1.out)
      rw [← hwz]
      have c0 : wz.cell? ⟨w.heap.size, 0, none⟩ = some (.int .i64 0) := cells_of hP.form 0
      have c1 : wz.cell? ⟨w.heap.size, 1, none⟩ = some (.int .i64 (L : Int)) := cells_of hP.form 1
      have c2 : wz.cell? ⟨w.heap.size, 2, none⟩ = some (.int .i64 (W : Int)) := cells_of hP.form 2
      have d0 : wz.cell? ⟨(w.heap.size + 1), 0, none⟩ = some (.int .u64 ((x : Int) / 2 ^ T)) := cells_of hP.part 0
      have d1 : wz.cell? ⟨(w.heap.size + 1), 1, none⟩ = some (.int .i64 (W : Int)) := cells_of hP.part 1
      have HP := (show Hid _ from hP)
      clear hP hwz k0 k1 k2 hc1 hf1 HB1
      go_wp2
      go_ret
      refine ⟨wz.heap.size, rfl, HP.out.bel.size, ?_, HP.out.bel.alloc HP.out.bel.size _⟩
      rw [heap_alloc_new]
      first | rfl | (rw [HX.out]; rfl)
  · have hpo : BitMath.partsOf 1 L W x = [(2, 2), (x / 2 ^ T, W)] := by unfold BitMath.partsOf; rw [hT]; rfl
    rw [hpo]
    have hL64 : (L : Int) ≤ 64 := by omega
    have hW64 : (W : Int) ≤ 64 := by omega
    clear hT h hy hpo
    go_enter Tryd.func91, Tryd.ntmps91
    go_wp2_with fail
    go_region_held3 (fun w' => w'.cell? ⟨w.heap.size, 0, none⟩ = some (.int .i64 1) ∧ w'.cell? ⟨w.heap.size, 1, none⟩ = some (.int .i64 (L : Int)) ∧ w'.cell? ⟨w.heap.size, 2, none⟩ = some (.int .i64 (W : Int))) (go_keep) ((go_at_call 102; refine Calls.mono (HA.out _ (by first | exact HW.out | exact HW.out.drew | exact (HW.out.alloc _).drew | exact HW.out.alloc _)) ?_; rintro e w1 ⟨rfl, k0, k1, k2, hw1, hb1⟩; obtain ⟨hc1, hf1⟩ := bcellf hb1; have HB1 := (show Hid _ from hb1); clear hw1 HA HW hb1))
    · obtain ⟨wz, hwz⟩ : ∃ wz, wz = w1.alloc (.cells #[.int .u64 ((x : Int) / 2 ^ T), .int .i64 (W : Int)] 151) := ⟨_, rfl⟩
      have hP : PartAt w wz w.heap.size w1.heap.size (.int .i64 1) (.int .i64 (L : Int)) (.int .i64 (W : Int)) (.int .u64 ((x : Int) / 2 ^ T)) (.int .i64 (W : Int)) := by rw [hwz]; exact part_late (undrew HB1.out)
      rw [← hwz]
      have c0 : wz.cell? ⟨w.heap.size, 0, none⟩ = some (.int .i64 1) := cells_of hP.form 0
      have c1 : wz.cell? ⟨w.heap.size, 1, none⟩ = some (.int .i64 (L : Int)) := cells_of hP.form 1
      have c2 : wz.cell? ⟨w.heap.size, 2, none⟩ = some (.int .i64 (W : Int)) := cells_of hP.form 2
      have d0 : wz.cell? ⟨w1.heap.size, 0, none⟩ = some (.int .u64 ((x : Int) / 2 ^ T)) := cells_of hP.part 0
      have d1 : wz.cell? ⟨w1.heap.size, 1, none⟩ = some (.int .i64 (W : Int)) := cells_of hP.part 1
      have HP := (show Hid _ from hP)
      clear hP hwz k0 k1 k2 hc1 hf1 HB1
      go_wp2
      go_ret
      refine ⟨wz.heap.size, rfl, HP.out.bel.size, ?_, HP.out.bel.alloc HP.out.bel.size _⟩
      rw [heap_alloc_new]
      first | rfl | (rw [HX.out]; rfl)
    · obtain ⟨wz, hwz⟩ : ∃ wz, wz = (w1.setCell ⟨w.heap.size + 1, 0, none⟩ (.int .u64 ((x : Int) / 2 ^ T))).setCell ⟨w.heap.size + 1, 1, none⟩ (.int .i64 (W : Int)) := ⟨_, rfl⟩
      have hP : PartAt w wz w.heap.size (w.heap.size + 1) (.int .i64 1) (.int .i64 (L : Int)) (.int .i64 (W : Int)) (.int .u64 ((x : Int) / 2 ^ T)) (.int .i64 (W : Int)) := by rw [hwz]; exact part_early (undrew HB1.out)
      rw [← hwz]
      have c0 : wz.cell? ⟨w.heap.size, 0, none⟩ = some (.int .i64 1) := cells_of hP.form 0
      have c1 : wz.cell? ⟨w.heap.size, 1, none⟩ = some (.int .i64 (L : Int)) := cells_of hP.form 1
      have c2 : wz.cell? ⟨w.heap.size, 2, none⟩ = some (.int .i64 (W : Int)) := cells_of hP.form 2
      have d0 : wz.cell? ⟨(w.heap.size + 1), 0, none⟩ = some (.int .u64 ((x : Int) / 2 ^ T)) := cells_of hP.part 0
      have d1 : wz.cell? ⟨(w.heap.size + 1), 1, none⟩ = some (.int .i64 (W : Int)) := cells_of hP.part 1
      have HP := (show Hid _ from hP)
      clear hP hwz k0 k1 k2 hc1 hf1 HB1
      go_wp2
      go_ret
      refine ⟨wz.heap.size, rfl, HP.out.bel.size, ?_, HP.out.bel.alloc HP.out.bel.size _⟩
      rw [heap_alloc_new]
      first | rfl | (rw [HX.out]; rfl)
  · have hpo : BitMath.partsOf 2 L W x = [(3, 2), (L, 5), (W, 6), (x / 2 ^ T, W)] := by unfold BitMath.partsOf; rw [hT]; rfl
    rw [hpo]
    have hL64 : (L : Int) ≤ 64 := by omega
    have hW64 : (W : Int) ≤ 64 := by omega
    clear hT h hy hpo
    go_enter Tryd.func91, Tryd.ntmps91
    go_wp2_with fail
    go_region_held3 (fun w' => w'.cell? ⟨w.heap.size, 0, none⟩ = some (.int .i64 2) ∧ w'.cell? ⟨w.heap.size, 1, none⟩ = some (.int .i64 (L : Int)) ∧ w'.cell? ⟨w.heap.size, 2, none⟩ = some (.int .i64 (W : Int))) (go_keep) ((go_at_call 102; refine Calls.mono (HA.out _ (by first | exact HW.out | exact HW.out.drew | exact (HW.out.alloc _).drew | exact HW.out.alloc _)) ?_; rintro e w1 ⟨rfl, k0, k1, k2, hw1, hb1⟩; obtain ⟨hc1, hf1⟩ := bcellf hb1; have HB1 := (show Hid _ from hb1); clear hw1 HA HW hb1))
    · obtain ⟨wz, hwz⟩ : ∃ wz, wz = w1.alloc (.cells #[.int .u64 ((x : Int) / 2 ^ T), .int .i64 (W : Int)] 151) := ⟨_, rfl⟩
      have hP : PartAt w wz w.heap.size w1.heap.size (.int .i64 2) (.int .i64 (L : Int)) (.int .i64 (W : Int)) (.int .u64 ((x : Int) / 2 ^ T)) (.int .i64 (W : Int)) := by rw [hwz]; exact part_late (undrew HB1.out)
      rw [← hwz]
      have c0 : wz.cell? ⟨w.heap.size, 0, none⟩ = some (.int .i64 2) := cells_of hP.form 0
      have c1 : wz.cell? ⟨w.heap.size, 1, none⟩ = some (.int .i64 (L : Int)) := cells_of hP.form 1
      have c2 : wz.cell? ⟨w.heap.size, 2, none⟩ = some (.int .i64 (W : Int)) := cells_of hP.form 2
      have d0 : wz.cell? ⟨w1.heap.size, 0, none⟩ = some (.int .u64 ((x : Int) / 2 ^ T)) := cells_of hP.part 0
      have d1 : wz.cell? ⟨w1.heap.size, 1, none⟩ = some (.int .i64 (W : Int)) := cells_of hP.part 1
      have HP := (show Hid _ from hP)
      clear hP hwz k0 k1 k2 hc1 hf1 HB1
      go_wp2
      go_ret
      refine ⟨wz.heap.size, rfl, HP.out.bel.size, ?_, HP.out.bel.alloc HP.out.bel.size _⟩
      rw [heap_alloc_new]
      first | rfl | (rw [HX.out]; rfl)
    · obtain ⟨wz, hwz⟩ : ∃ wz, wz = (w1.setCell ⟨w.heap.size + 1, 0, none⟩ (.int .u64 ((x : Int) / 2 ^ T))).setCell ⟨w.heap.size + 1, 1, none⟩ (.int .i64 (W : Int)) := ⟨_, rfl⟩
      have hP : PartAt w wz w.heap.size (w.heap.size + 1) (.int .i64 2) (.int .i64 (L : Int)) (.int .i64 (W : Int)) (.int .u64 ((x : Int) / 2 ^ T)) (.int .i64 (W : Int)) := by rw [hwz]; exact part_early (undrew HB1.out)
      rw [← hwz]
      have c0 : wz.cell? ⟨w.heap.size, 0, none⟩ = some (.int .i64 2) := cells_of hP.form 0
      have c1 : wz.cell? ⟨w.heap.size, 1, none⟩ = some (.int .i64 (L : Int)) := cells_of hP.form 1
      have c2 : wz.cell? ⟨w.heap.size, 2, none⟩ = some (.int .i64 (W : Int)) := cells_of hP.form 2
      have d0 : wz.cell? ⟨(w.heap.size + 1), 0, none⟩ = some (.int .u64 ((x : Int) / 2 ^ T)) := cells_of hP.part 0
      have d1 : wz.cell? ⟨(w.heap.size + 1), 1, none⟩ = some (.int .i64 (W : Int)) := cells_of hP.part 1
      have HP := (show Hid _ from hP)
      clear hP hwz k0 k1 k2 hc1 hf1 HB1
      go_wp2
      go_ret
      refine ⟨wz.heap.size, rfl, HP.out.bel.size, ?_, HP.out.bel.alloc HP.out.bel.size _⟩
      rw [heap_alloc_new]
      first | rfl | (rw [HX.out]; rfl)
end Go.Proofs.YtgdflopgdlpimaaDoor
/- Package mask's forms by contracts: size, put. -/
namespace BitMath
theorem bitsP_snoc (l : List (Nat × Nat)) (p : Nat × Nat) : bitsP (l ++ [p]) = bitsP l ++ bitsOf p.1 p.2 := by simp [bitsP]
theorem bitsP_append (a b : List (Nat × Nat)) : bitsP (a ++ b) = bitsP a ++ bitsP b := by simp [bitsP]
/-- The bits between are those of the value, shifted. -/
theorem mid_bits (x L T : Nat) (_h : L + T ≤ 64) : ((bitsOf x 64).drop L).take (64 - T - L) = bitsOf (x / 2 ^ T) (64 - L - T) := by
  have hl := length_bitsOf x 64
  apply List.ext_getElem?
  intro i
  by_cases hi : i < 64 - T - L
  · rw [List.getElem?_take_of_lt hi, List.getElem?_drop, List.getElem?_eq_getElem (by omega), List.getElem?_eq_getElem (by rw [length_bitsOf]; omega), getElem_bitsOf, getElem_bitsOf, Nat.testBit_div_two_pow]
    congr 2
    omega
  · rw [List.getElem?_eq_none (by rw [List.length_take]; omega), List.getElem?_eq_none (by rw [length_bitsOf]; omega)]
theorem mBits_parts {u : Bool × Nat × Nat} (hu : WinOK u) (x : Nat) (hx : x < 18446744073709551616) : mBits u x = bitsP (partsOf (wayOf u x) (mNext u x).2.1 (wideW (mNext u x)) x) := by
  unfold mBits wayOf mNext partsOf bitsP
  by_cases h0 : x = 0
  · simp only [if_pos h0]
    rfl
  · simp only [if_neg h0]
    have hlt := lead_tail x hx h0
    by_cases hf : mFits u x = true
    · simp only [if_pos hf]
      have h1 : u.1 = true := by
        unfold mFits at hf
        simp at hf
        exact hf.1
      have hw : wideW u = 64 - u.2.1 - u.2.2 := by unfold wideW; rw [if_pos h1]
      have hle := hu.2.2
      rw [hw, mid_bits x u.2.1 u.2.2 (by omega), if_neg (by decide), if_pos trivial]
      have e : 64 - u.2.1 - (64 - u.2.1 - u.2.2) = u.2.2 := by omega
      rw [e]
      simp [bitsOf]
      decide
    · simp only [if_neg hf]
      have hw : wideW (true, mLead x, mTail x) = 64 - mLead x - mTail x := by unfold wideW; simp
      rw [hw, mid_bits x (mLead x) (mTail x) (by omega), if_neg (by decide), if_neg (by decide)]
      have e : 64 - mLead x - (64 - mLead x - mTail x) = mTail x := by omega
      show _ = List.flatMap _ [(3, 2), (mLead x, 5), (64 - mLead x - mTail x, 6), (x / 2 ^ (64 - mLead x - (64 - mLead x - mTail x)), 64 - mLead x - mTail x)]
      rw [e]
      simp [bitsOf]
      decide
def sumP (l : List (Nat × Nat)) : Nat := (bitsP l).length
theorem sumP_snoc (l : List (Nat × Nat)) (p : Nat × Nat) : sumP (l ++ [p]) = sumP l + p.2 := by unfold sumP; rw [bitsP_snoc, List.length_append, length_bitsOf]
end BitMath
namespace BitMath
theorem sumP_parts (y L W x : Nat) : sumP (partsOf y L W x) = sumP (partsOf y L W 0) := by
  unfold partsOf sumP bitsP
  split
  · rfl
  · split <;> simp [length_bitsOf]
theorem parts_ok (y L W x : Nat) (h : L + W ≤ 64) (hx : x < 18446744073709551616) : (partsOf y L W x).length ≤ 4 ∧ ∀ p, p ∈ partsOf y L W x → p.1 < 18446744073709551616 ∧ p.2 ≤ 64 := by
  have hd : x / 2 ^ (64 - L - W) < 18446744073709551616 := Nat.lt_of_le_of_lt (Nat.div_le_self _ _) hx
  unfold partsOf
  split
  · simp
  · split
    · simp; omega
    · simp; omega
theorem sumP_take (l : List (Nat × Nat)) (k : Nat) (hk : k < l.length) : sumP (l.take (k + 1)) = sumP (l.take k) + l[k].2 := by
  rw [List.take_succ_eq_append_getElem hk, sumP_snoc]
theorem bitsP_take (l : List (Nat × Nat)) (k : Nat) (hk : k < l.length) : bitsP (l.take (k + 1)) = bitsP (l.take k) ++ bitsOf l[k].1 l[k].2 := by
  rw [List.take_succ_eq_append_getElem hk, bitsP_snoc]
theorem sumP_le (l : List (Nat × Nat)) (h : ∀ p, p ∈ l → p.2 ≤ 64) : sumP l ≤ 64 * l.length := by
  induction l with
  | nil => exact Nat.le_refl _
  | cons a r ih =>
    have h1 := ih (fun p hp => h p (List.mem_cons_of_mem _ hp))
    have h2 := h a (List.mem_cons_self ..)
    have e : sumP (a :: r) = a.2 + sumP r := by simp [sumP, bitsP, length_bitsOf]
    rw [e, List.length_cons]
    omega
end BitMath
namespace Go.Proofs.YtgdflopgdlpimaaDoor
open Go.RowKit

theorem partCells_at : ∀ (l : List (Nat × Nat)) (k : Nat) (hk : k < l.length), (partCells l)[k * 2]? = some (.int .u64 (l[k].1 : Int)) ∧ (partCells l)[k * 2 + 1]? = some (.int .i64 (l[k].2 : Int))
  | [], k, hk => by simp at hk
  | a :: r, 0, _ => by simp [partCells]
  | a :: r, k + 1, hk => by
    have ih := partCells_at r k (by simpa using hk)
    have e : partCells (a :: r) = .int .u64 (a.1 : Int) :: .int .i64 (a.2 : Int) :: partCells r := by simp [partCells]
    rw [e, show (k + 1) * 2 = k * 2 + 1 + 1 by omega]
    simp only [List.getElem?_cons_succ, List.getElem_cons_succ]
    exact ih

set_option maxRecDepth 100000 in
set_option maxHeartbeats 1000000 in
theorem mfsize_any (y L W : Nat) (w : World) (hy : y ≤ 2) (h : L + W ≤ 64) :
    Calls Tryd.prog 71 #[formV y L W] w fun e w' => e = .returned (.int .i64 ((BitMath.sumP (BitMath.partsOf y L W 0) : Nat) : Int)) ∧ Below w.heap.size w w' := by
  have HP := (show Hid _ from fun w0 => parts_any y L W 0 w0 hy h)
  obtain ⟨hl4, hpp⟩ := BitMath.parts_ok y L W 0 h (by decide)
  generalize BitMath.partsOf y L W 0 = l at *
  unfold formV at HP ⊢
  have HPP := (show Hid _ from hpp)
  clear hpp
  go_enter Tryd.func71, Tryd.ntmps71
  go_wp2_with fail
  refine Calls.mono (HP.out _) ?_
  rintro e w1 ⟨g, rfl, hg, hblk, hb1⟩
  have hb : Below w.heap.size w w1 := ((Below.refl _ _).alloc (Nat.le_refl _) _).trans (hb1.mono (by simp))
  have hg1 : g < w1.heap.size := lt_of_block hblk
  have HB := (show Hid _ from hb)
  have HBLK := (show Hid _ from hblk)
  clear hb1 hb hblk HP
  go_wp2_with fail
  go_loopw [3, 5, 9] (fun s _ i wr => ∃ k : Nat, k ≤ l.length ∧ i = .int .i64 k ∧ s = .int .i64 ((BitMath.sumP (l.take k) : Nat) : Int) ∧ Below w1.heap.size w1 wr) (fun _ _ i _ => l.length - (intOf i).toNat)
  case atStart => exact ⟨0, Nat.zero_le _, rfl, rfl, Below.refl _ _⟩
  case round =>
    obtain ⟨k, hk, rfl, rfl, hbr⟩ := hrel
    by_cases hlt : k < l.length
    · have hblk := (hbr.block g hg1).trans HBLK.out
      obtain ⟨p0, p1⟩ := partCells_at l k hlt
      have q0 : wr.cell? ⟨g, k * 2, none⟩ = some (.int .u64 (l[k].1 : Int)) := by rw [cells_of hblk, List.getElem?_toArray]; exact p0
      have q1 : wr.cell? ⟨g, k * 2 + 1, none⟩ = some (.int .i64 (l[k].2 : Int)) := by rw [cells_of hblk, List.getElem?_toArray]; exact p1
      have HS := (show Hid _ from BitMath.sumP_take l k hlt)
      have hb2 := (HPP.out l[k] (List.getElem_mem hlt)).2
      have hsl : BitMath.sumP (l.take k) ≤ 256 := by
        have h1 := BitMath.sumP_le (l.take k) (fun p hp => (HPP.out p (List.mem_of_mem_take hp)).2)
        have h2 : (l.take k).length ≤ 4 := Nat.le_trans (List.length_take_le _ _) (by omega)
        omega
      generalize hc1 : l[k].1 = c1 at *
      generalize hc2 : l[k].2 = c2 at *
      generalize hS : BitMath.sumP (l.take k) = S at *
      have hSI : (S : Int) ≤ 256 := by omega
      have hcI : (c2 : Int) ≤ 64 := by omega
      have hkI : (k : Int) < (l.length : Int) := by omega
      have HBR := (show Hid _ from hbr)
      clear hblk p0 p1 hbr hb2 hsl hc1 hc2 hS
      go_wp2
      go_roundw
      case rel => exact ⟨k + 1, by omega, by go_num, by rw [HS.out]; go_num, HBR.out.alloc HBR.out.size _⟩
      case measure => simp [intOf]; omega
    · have : k = l.length := by omega
      subst this
      have HBR := (show Hid _ from hbr)
      clear hbr
      simp only [List.take_length]
      go_wp2
      go_ret
      exact ⟨rfl, HB.out.trans (HBR.out.mono HB.out.size)⟩

set_option maxRecDepth 100000 in
set_option maxHeartbeats 1000000 in
theorem mfput_any (y L W x : Nat) (w : World) (hy : y ≤ 2) (h : L + W ≤ 64) (hx : x < 18446744073709551616) (r : Nat) (v : Value) (bs : List Bool) (hr : IsRow w r v bs) (hsz : bs.length + BitMath.sumP (BitMath.partsOf y L W x) ≤ 1048576) :
    Calls Tryd.prog 70 #[formV y L W, .pointer (some ⟨r, 0, none⟩), .int .u64 (x : Int)] w fun e w' => e = .returned .nilIface ∧ ∃ v', IsRow w' r v' (bs ++ BitMath.bitsP (BitMath.partsOf y L W x)) ∧ Kept (r :: v.ownBlock.toList) w w' ∧ Grew w v v' := by
  have HP := (show Hid _ from fun w0 => parts_any y L W x w0 hy h)
  obtain ⟨hl4, hpp⟩ := BitMath.parts_ok y L W x h hx
  generalize BitMath.partsOf y L W x = l at *
  unfold formV at HP ⊢
  have HPP := (show Hid _ from hpp)
  have HR := (show Hid _ from hr)
  have HSZ := (show Hid _ from hsz)
  clear hpp hr hsz hx
  go_enter Tryd.func70, Tryd.ntmps70
  go_wp2_with fail
  refine Calls.mono (HP.out _) ?_
  rintro e w1 ⟨g, rfl, hg, hblk, hb1⟩
  have hb : Below w.heap.size w w1 := ((Below.refl _ _).alloc (Nat.le_refl _) _).trans (hb1.mono (by simp))
  have hg1 : g < w1.heap.size := lt_of_block hblk
  have hgw : w.heap.size < g := by simp at hg; omega
  have hgS : g ∉ r :: v.ownBlock.toList := fun hm => by have := HR.out.own_lt g hm; omega
  have HB := (show Hid _ from hb)
  have HBLK := (show Hid _ from hblk)
  have HGS : Hid (g ∉ r :: v.ownBlock.toList) := hgS
  clear hb1 hb hblk HP hgS hg
  go_wp2_with fail
  go_loopw [8, 9, 14] (fun _ _ i wr => ∃ (k : Nat) (vr : Value), k ≤ l.length ∧ i = .int .i64 k ∧ IsRow wr r vr (bs ++ BitMath.bitsP (l.take k)) ∧ Kept (r :: v.ownBlock.toList) w1 wr ∧ Grew w1 v vr) (fun _ _ i _ => l.length - (intOf i).toNat)
  case atStart => exact ⟨0, v, Nat.zero_le _, rfl, by rw [List.take_zero]; simp [BitMath.bitsP]; exact HR.out.below HB.out, Kept.refl _ _, .inl rfl⟩
  case round =>
    obtain ⟨k, vr, hk, rfl, hrow, hkr, hgr⟩ := hrel
    by_cases hlt : k < l.length
    · have hblk := (hkr.block g hg1 HGS.out).trans HBLK.out
      obtain ⟨p0, p1⟩ := partCells_at l k hlt
      have q0 : wr.cell? ⟨g, k * 2, none⟩ = some (.int .u64 (l[k].1 : Int)) := by rw [cells_of hblk, List.getElem?_toArray]; exact p0
      have q1 : wr.cell? ⟨g, k * 2 + 1, none⟩ = some (.int .i64 (l[k].2 : Int)) := by rw [cells_of hblk, List.getElem?_toArray]; exact p1
      have HS := (show Hid _ from BitMath.bitsP_take l k hlt)
      obtain ⟨hb1, hb2⟩ := HPP.out l[k] (List.getElem_mem hlt)
      have hlen : (bs ++ BitMath.bitsP (l.take k)).length + l[k].2 ≤ 1048576 := by
        have h1 := HSZ.out
        have h2 : BitMath.sumP (l.take (k + 1)) ≤ BitMath.sumP l := by
          have e : BitMath.bitsP l = BitMath.bitsP (l.take (k + 1)) ++ BitMath.bitsP (l.drop (k + 1)) := by
            rw [← BitMath.bitsP_append, List.take_append_drop]
          unfold BitMath.sumP
          rw [e, List.length_append]
          omega
        rw [BitMath.sumP_take l k hlt] at h2
        rw [List.length_append]
        unfold BitMath.sumP at h1 h2
        omega
      have hput := fun w0 hr0 => put_grow w0 r vr (bs ++ BitMath.bitsP (l.take k)) hr0 l[k].1 l[k].2 (by omega) (by omega) hlen
      generalize hc1 : l[k].1 = c1 at *
      generalize hc2 : l[k].2 = c2 at *
      have HPUT := (show Hid _ from hput)
      have hkI : (k : Int) < (l.length : Int) := by omega
      have HKR := (show Hid _ from hkr)
      have HGR : Hid (Grew w1 v vr) := hgr
      have HROW := (show Hid _ from hrow)
      clear hblk p0 p1 hkr hb2 hb1 hlen hput hc1 hc2 hgr hrow
      go_wp2_with fail
      refine Calls.mono (HPUT.out _ (HROW.out.below ((Below.refl _ _).alloc (Nat.le_refl _) _))) ?_
      rintro e w3 ⟨rfl, v3, hr3, hk3, hg3⟩
      have hk4 : Kept (r :: v.ownBlock.toList) w1 w3 := (HKR.out.alloc _).trans hk3 (fun z hz => Grew.mem HGR.out z hz)
      have hg4 : Grew w1 v v3 := Grew.trans HGR.out hg3 (by have := HKR.out.size; simp; omega)
      have HK4 := (show Hid _ from hk4)
      have HG4 : Hid (Grew w1 v v3) := hg4
      have hr4 : IsRow w3 r v3 (bs ++ BitMath.bitsP (l.take (k + 1))) := by rw [HS.out, ← List.append_assoc]; exact hr3
      have HR4 := (show Hid _ from hr4)
      clear hk3 hk4 hg3 hg4 hr3 hr4 q0 q1
      go_wp2
      go_roundw
      case rel => exact ⟨k + 1, v3, by omega, by go_num, HR4.out, HK4.out, HG4.out⟩
      case measure => simp [intOf]; omega
    · have : k = l.length := by omega
      subst this
      have HKR := (show Hid _ from hkr)
      have HGR : Hid (Grew w1 v vr) := hgr
      have HROW := (show Hid _ from hrow)
      clear hkr hgr hrow
      go_wp2
      go_ret
      exact ⟨rfl, vr, by rw [List.take_length] at HROW; exact HROW.out, (Kept.of_below HB.out).trans HKR.out (fun z hz => .inl hz), Grew.trans (w := w) (v1 := v) (.inl rfl) HGR.out HB.out.size⟩
end Go.Proofs.YtgdflopgdlpimaaDoor
/- Plain mathematics of masks, fourth part: what is read, form by form. -/
namespace BitMath

theorem bitsOf_val (l : List Bool) : bitsOf (valB l) l.length = l := by
  apply List.ext_getElem?
  intro i
  by_cases hi : i < l.length
  · rw [List.getElem?_eq_getElem (by rw [length_bitsOf]; exact hi), getElem_bitsOf, testBit_valB, decide_eq_true (by omega), Bool.true_and, List.getD_eq_getElem?_getD, show l.length - 1 - (l.length - 1 - i) = i by omega, List.getElem?_eq_getElem hi]
    rfl
  · rw [List.getElem?_eq_none (by rw [length_bitsOf]; omega), List.getElem?_eq_none (by omega)]
theorem mul_lt64 (y t W : Nat) (hy : y < 2 ^ W) (ht : W + t ≤ 64) : y * 2 ^ t < 18446744073709551616 := by
  have h1 : y * 2 ^ t < 2 ^ W * 2 ^ t := Nat.mul_lt_mul_of_pos_right hy (Nat.two_pow_pos t)
  rw [← Nat.pow_add] at h1
  exact Nat.lt_of_lt_of_le h1 (Nat.pow_le_pow_right (by omega) ht)
/-- Bits that lie between L and T leave that many zeros. -/
theorem zeros_of (y L T W : Nat) (hy : y < 2 ^ W) (h : L + W + T = 64) (h0 : y * 2 ^ T ≠ 0) : L ≤ lz (bitsOf (y * 2 ^ T) 64) ∧ T ≤ mTail (y * 2 ^ T) := by
  have hx := mul_lt64 y T W hy (by omega)
  have hl := length_bitsOf (y * 2 ^ T) 64
  refine ⟨?_, ?_⟩
  · have h1 := lz_len (y * 2 ^ T) hx 64 (Nat.le_refl _) hx
    have h2 := Go.Lib.bitLen_le (y * 2 ^ T) (W + T) (by omega) (by
      rw [Nat.pow_add]
      exact Nat.mul_lt_mul_of_pos_right hy (Nat.two_pow_pos T))
    omega
  · rcases Nat.lt_or_ge (mTail (y * 2 ^ T)) T with h1 | h1
    · exfalso
      have h2 := lead_tail (y * 2 ^ T) hx h0
      apply lz_end (bitsOf (y * 2 ^ T) 64).reverse
      show (bitsOf (y * 2 ^ T) 64).reverse[mTail (y * 2 ^ T)]? = some false
      generalize mTail (y * 2 ^ T) = c at *
      rw [List.getElem?_reverse (by omega), hl, List.getElem?_eq_getElem (by omega), getElem_bitsOf, show 64 - 1 - (64 - 1 - c) = c by omega, Nat.mul_comm, Nat.testBit_two_pow_mul]
      simp
      intro h3
      omega
    · exact h1
theorem take_two (D : List Bool) (a b : Bool) (n : Nat) (h0 : D[0]? = some a) (h1 : D[1]? = some b) : D.take (2 + n) = [a, b] ++ (D.drop 2).take n := by
  cases D with
  | nil => cases h0
  | cons c r =>
    cases r with
    | nil => cases h1
    | cons d s =>
      simp at h0 h1
      subst h0
      subst h1
      rw [Nat.add_comm]
      rfl
theorem getD_of (D : List Bool) (i : Nat) (b : Bool) (h : D[i]? = some b) : D.getD i false = b := by rw [List.getD_eq_getElem?_getD, h]; rfl
theorem len_of (D : List Bool) (i : Nat) (b : Bool) (h : D[i]? = some b) : i < D.length := by
  rcases Nat.lt_or_ge i D.length with h1 | h1
  · exact h1
  · rw [List.getElem?_eq_none h1] at h; cases h

theorem step_short (u : Bool × Nat × Nat) (p : Nat) (D : List Bool) (h : D.length = 0 ∨ (D[0]? = some true ∧ D.length ≤ 1) ∨ (D[0]? = some true ∧ D[1]? = some true ∧ D.length < 13)) : readStep u p D = (5, 0, 0) := by
  unfold readStep
  rcases h with h | ⟨h0, h⟩ | ⟨h0, h1, h⟩
  · rw [if_pos h]
  · have := len_of D 0 _ h0
    rw [if_neg (by omega), if_neg (by rw [getD_of D 0 _ h0]; decide), if_pos h]
  · have := len_of D 1 _ h1
    rw [if_neg (by omega), if_neg (by rw [getD_of D 0 _ h0]; decide), if_neg (by omega), if_pos ⟨getD_of D 1 _ h1, h⟩]
theorem step_zero (u : Bool × Nat × Nat) (p : Nat) (D : List Bool) (h : D[0]? = some false) : readStep u p D = (0, p ^^^ 0, 1) := by
  have := len_of D 0 _ h
  unfold readStep
  rw [if_neg (by omega), if_pos (getD_of D 0 _ h), Nat.xor_zero]

/-- The window ahead, used again: its value. -/
theorem step_old (u : Bool × Nat × Nat) (D : List Bool) (hu : WinOK u) (h0 : D[0]? = some true) (h1 : D[1]? = some false) :
    ((D.drop 2).length < wideW u → ∀ p, readStep u p D = (5, 0, 0)) ∧
    (wideW u ≤ (D.drop 2).length → ∀ X, X = valB ((D.drop 2).take (wideW u)) * 2 ^ (64 - u.2.1 - wideW u) → X < 18446744073709551616 →
      (X = 0 → ∀ p, readStep u p D = (1, 0, 0)) ∧ (X ≠ 0 → mFits u X = true ∧ ∀ p, readStep u p D = (0, p ^^^ X, 2 + wideW u))) := by
  have hl1 := len_of D 1 _ h1
  have hw := wide_le hu
  have hd : (D.drop 2).length = D.length - 2 := List.length_drop
  have hh : headR u D = (u.2.1, wideW u, 2) := by unfold headR; rw [getD_of D 1 _ h1]; rfl
  have hn13 : ¬ (D.getD 1 false = true ∧ D.length < 13) := by rw [getD_of D 1 _ h1]; simp
  refine ⟨fun h p => ?_, fun h X hX hXl => ⟨fun hX0 p => ?_, fun hX0 => ?_⟩⟩
  · unfold readStep
    rw [if_neg (by omega), if_neg (by rw [getD_of D 0 _ h0]; decide), if_neg (by omega), if_neg hn13, hh]
    simp only
    rw [if_neg (by omega), if_pos (by omega)]
  · unfold readStep
    rw [if_neg (by omega), if_neg (by rw [getD_of D 0 _ h0]; decide), if_neg (by omega), if_neg hn13, hh]
    simp only
    rw [← hX]
    by_cases hW : wideW u = 0
    · rw [if_pos (.inl hW)]
    · rw [if_neg (by omega), if_neg (by omega), if_pos (.inl hX0)]
  · have hW : wideW u ≠ 0 := by
      intro hW
      rw [hW] at hX
      simp [valB] at hX
      exact hX0 hX
    have hu1 : u.1 = true := by
      cases h : u.1 with
      | true => rfl
      | false => exfalso; apply hW; unfold wideW; rw [h]; rfl
    have hwd : wideW u = 64 - u.2.1 - u.2.2 := by unfold wideW; rw [if_pos hu1]
    have hT : 64 - u.2.1 - wideW u = u.2.2 := by have := hu.2.2; omega
    have hbl : ((D.drop 2).take (wideW u)).length = wideW u := by rw [List.length_take, Nat.min_eq_left h]
    have hy := valB_lt ((D.drop 2).take (wideW u))
    rw [hbl] at hy
    rw [hT] at hX
    have hz := zeros_of _ u.2.1 u.2.2 (wideW u) hy (by have := hu.2.2; omega) (by rw [← hX]; exact hX0)
    rw [← hX] at hz
    have hfit : mFits u X = true := by
      unfold mFits mLead
      have := hu.2.1
      rw [hu1, decide_eq_true (by omega : u.2.1 ≤ min (lz (bitsOf X 64)) 31), decide_eq_true hz.2]
      rfl
    refine ⟨hfit, fun p => ?_⟩
    have hmb : mBits u X = D.take (2 + wideW u) := by
      rw [take_two D true false _ h0 h1]
      unfold mBits
      rw [if_neg hX0, if_pos hfit, mid_bits X u.2.1 u.2.2 (by have := hu.2.2; omega), ← hwd]
      have hdv : X / 2 ^ u.2.2 = valB ((D.drop 2).take (wideW u)) := by rw [hX]; exact Nat.mul_div_cancel _ (Nat.two_pow_pos _)
      rw [hdv]
      have hb := bitsOf_val ((D.drop 2).take (wideW u))
      rw [hbl] at hb
      rw [hb]
    unfold readStep
    rw [if_neg (by omega), if_neg (by rw [getD_of D 0 _ h0]; decide), if_neg (by omega), if_neg hn13, hh]
    simp only
    rw [hT, ← hX, if_neg (by omega), if_neg (by omega), if_neg (by
      intro hc
      rcases hc with hc | hc
      · exact hX0 hc
      · exact hc hmb)]

/-- A window anew. -/
theorem step_new (u : Bool × Nat × Nat) (D : List Bool) (A F : Nat) (h0 : D[0]? = some true) (h1 : D[1]? = some true) (h13 : 13 ≤ D.length) (hA : A = valB ((D.drop 2).take 5)) (hF : F = fixW (valB ((D.drop 7).take 6))) :
    (64 < A + F → ∀ p, readStep u p D = (1, 0, 0)) ∧
    (A + F ≤ 64 → (D.drop 13).length < F → ∀ p, readStep u p D = (5, 0, 0)) ∧
    (A + F ≤ 64 → F ≤ (D.drop 13).length → ∀ X, X = valB ((D.drop 13).take F) * 2 ^ (64 - A - F) → X < 18446744073709551616 →
      ((wayOf u X = 2 ∧ (mNext u X).2.1 = A ∧ wideW (mNext u X) = F) → ∀ p, readStep u p D = (0, p ^^^ X, 13 + F)) ∧
      (¬ (wayOf u X = 2 ∧ (mNext u X).2.1 = A ∧ wideW (mNext u X) = F) → ∀ p, readStep u p D = (1, 0, 0))) := by
  have hd : (D.drop 13).length = D.length - 13 := List.length_drop
  have hF0 : F ≠ 0 := by rw [hF]; unfold fixW; split <;> omega
  have hh : headR u D = (A, F, 13) := by unfold headR; rw [getD_of D 1 _ h1, ← hA, ← hF]; rfl
  have hn13 : ¬ (D.getD 1 false = true ∧ D.length < 13) := by omega
  refine ⟨fun h p => ?_, fun h h2 p => ?_, fun h h2 X hX hXl => ⟨fun hw p => ?_, fun hw p => ?_⟩⟩
  · unfold readStep
    rw [if_neg (by omega), if_neg (by rw [getD_of D 0 _ h0]; decide), if_neg (by omega), if_neg hn13, hh]
    simp only
    rw [if_pos (.inr h)]
  · unfold readStep
    rw [if_neg (by omega), if_neg (by rw [getD_of D 0 _ h0]; decide), if_neg (by omega), if_neg hn13, hh]
    simp only
    rw [if_neg (by omega), if_pos (by omega)]
  · obtain ⟨hw1, hw2, hw3⟩ := hw
    have hX0 : X ≠ 0 := by intro hc; unfold wayOf at hw1; rw [if_pos hc] at hw1; omega
    have hnf : ¬ mFits u X = true := by intro hc; unfold wayOf at hw1; rw [if_neg hX0, if_pos hc] at hw1; omega
    have hnx : mNext u X = (true, mLead X, mTail X) := by unfold mNext; rw [if_neg hX0, if_neg hnf]
    rw [hnx] at hw2 hw3
    have hw2' : mLead X = A := hw2
    have hw3' : 64 - mLead X - mTail X = F := by unfold wideW at hw3; simpa using hw3
    have hlt := lead_tail X hXl hX0
    have hT : 64 - A - F = mTail X := by omega
    have hbl : ((D.drop 13).take F).length = F := by rw [List.length_take, Nat.min_eq_left h2]
    have hb13 := bitsOf_val ((D.drop 13).take F)
    rw [hbl] at hb13
    have hb5 : bitsOf A 5 = (D.drop 2).take 5 := by
      have := bitsOf_val ((D.drop 2).take 5)
      rw [← hA, List.length_take, List.length_drop, Nat.min_eq_left (by omega)] at this
      exact this
    have hb6 : bitsOf F 6 = (D.drop 7).take 6 := by
      have := bitsOf_val ((D.drop 7).take 6)
      rw [List.length_take, List.length_drop, Nat.min_eq_left (by omega)] at this
      rw [hF]
      unfold fixW
      split
      · rename_i hz
        rw [hz] at this
        rw [← this]
        decide
      · exact this
    have hdv : X / 2 ^ mTail X = valB ((D.drop 13).take F) := Nat.div_eq_of_eq_mul_left (Nat.two_pow_pos _) (by rw [← hT]; exact hX)
    have hmb : mBits u X = D.take (13 + F) := by
      rw [show 13 + F = 2 + (5 + (6 + F)) by omega, take_two D true true _ h0 h1]
      unfold mBits
      rw [if_neg hX0, if_neg hnf, mid_bits X (mLead X) (mTail X) (by omega), hw3', hw2', hdv, hb13, hb5, hb6]
      have e1 : (D.drop 2).take (5 + (6 + F)) = (D.drop 2).take 5 ++ ((D.drop 7).take 6 ++ (D.drop 13).take F) := by
        rw [List.take_add, List.drop_drop, List.take_add, List.drop_drop]
      rw [e1]
      simp [List.append_assoc]
    unfold readStep
    rw [if_neg (by omega), if_neg (by rw [getD_of D 0 _ h0]; decide), if_neg (by omega), if_neg hn13, hh]
    simp only
    rw [← hX, if_neg (by omega), if_neg (by omega), if_neg (by
      intro hc
      rcases hc with hc | hc
      · exact hX0 hc
      · exact hc hmb)]
  · unfold readStep
    rw [if_neg (by omega), if_neg (by rw [getD_of D 0 _ h0]; decide), if_neg (by omega), if_neg hn13, hh]
    simp only
    rw [← hX, if_neg (by omega), if_neg (by omega), if_pos]
    by_cases hX0 : X = 0
    · exact .inl hX0
    · refine .inr (fun hmb => hw ?_)
      have hn := head_new u X hXl D (13 + F) (by omega) hX0 (getD_of D 1 _ h1) hmb
      rw [← hA, ← hF] at hn
      have hnf : ¬ mFits u X = true := by
        intro hc
        have h3 : (mBits u X).getD 1 false = true := by rw [hmb, getD_take _ _ _ (by omega)]; exact getD_of D 1 _ h1
        unfold mBits at h3
        rw [if_neg hX0, if_pos hc] at h3
        simp at h3
      exact ⟨by unfold wayOf; rw [if_neg hX0, if_neg hnf], by rw [hn.1], hn.2⟩
end BitMath
