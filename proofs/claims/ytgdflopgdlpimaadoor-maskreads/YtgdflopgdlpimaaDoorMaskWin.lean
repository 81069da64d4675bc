/- Package mask's windows and forms by contracts: tail, windowOf, holds, formOf. -/
import Derived.Test.YtgdflopgdlpimaaDoorMaskZ
import Derived.Test.YtgdflopgdlpimaaDoorLaw1
import Derived.Deep.QuietTactic
import Derived.BigQuiet
namespace BitMath
/-- How many bits a window leaves behind it, and its width, as the program has them: no window is 0 and 0. -/
def WinOK (w : Bool × Nat × Nat) : Prop := (w.1 = false → w = (false, 0, 0)) ∧ w.2.1 ≤ 31 ∧ w.2.1 + w.2.2 ≤ 63
theorem wide_le {w : Bool × Nat × Nat} (h : WinOK w) : w.2.1 + wideW w ≤ 64 := by
  unfold wideW
  obtain ⟨h0, h1, h2⟩ := h
  cases hw : w.1 with
  | true => simp; omega
  | false => have := h0 hw; rw [this]; simp
/-- The way of a change. -/
def wayOf (w : Bool × Nat × Nat) (x : Nat) : Nat := if x = 0 then 0 else if mFits w x = true then 1 else 2
theorem winOK_next {w : Bool × Nat × Nat} (h : WinOK w) (x : Nat) (hx : x < 18446744073709551616) : WinOK (mNext w x) := by
  unfold mNext
  split
  · exact h
  · rename_i h0
    split
    · exact h
    · exact ⟨fun h => (by cases h), lead_le x, lead_tail x hx h0⟩
/-- The program's test for a window that holds a change. -/
theorem fits_iff {w : Bool × Nat × Nat} (h : WinOK w) (x : Nat) (hx : x < 18446744073709551616) (h0 : x ≠ 0) : mFits w x = true ↔ w.2.1 ≤ mLead x ∧ 64 - w.2.1 - wideW w ≤ mTail x := by
  obtain ⟨h1, h2, h3⟩ := h
  have h4 := lead_tail x hx h0
  unfold mFits wideW
  cases hw : w.1 with
  | true => simp; intro _; omega
  | false => have := h1 hw; rw [this]; simp; omega
end BitMath
namespace Go.Proofs.YtgdflopgdlpimaaDoor
open Go.RowKit

/-- A window, a form, as values. -/
def winV (L W : Nat) : Value := .agg #[.int .i64 (L : Int), .int .i64 (W : Int)]
def formV (y L W : Nat) : Value := .agg #[.int .i64 (y : Int), .int .i64 (L : Int), .int .i64 (W : Int)]

theorem mtail_any (L W : Nat) (w : World) (h : L + W ≤ 64) :
    Calls Tryd.prog 102 #[winV L W] w fun e w' => e = .returned (.int .i64 ((64 - L - W : Nat) : Int)) ∧ Below w.heap.size w w' := by
  have HE : Hid ((64 : Int) - (L : Int) - (W : Int) = ((64 - L - W : Nat) : Int)) := (by omega : (64 : Int) - (L : Int) - (W : Int) = ((64 - L - W : Nat) : Int))
  have hL : (L : Int) ≤ 64 := by omega
  have hW : (W : Int) ≤ 64 := by omega
  unfold winV
  go_enter Tryd.func102, Tryd.ntmps102
  go_wp2
  go_ret
  exact ⟨congrArg (fun i => Ending.returned (Value.int .i64 i)) HE.out, (Below.refl _ _).alloc (Nat.le_refl _) _⟩

set_option maxRecDepth 100000 in
theorem windowOf_any (x : Nat) (w : World) (hx : x < 18446744073709551616) (h0 : x ≠ 0) (hT : Tab w) :
    Calls Tryd.prog 100 #[.int .u64 (x : Int)] w fun e w' => e = .returned (winV (BitMath.mLead x) (64 - BitMath.mLead x - BitMath.mTail x)) ∧ Below w.heap.size w w' := by
  have hlt := BitMath.lead_tail x hx h0
  have hl := BitMath.lead_le x
  obtain ⟨z, hz⟩ : ∃ z, BitMath.lz (BitMath.bitsOf x 64) = z := ⟨_, rfl⟩
  obtain ⟨L, hL⟩ : ∃ L, BitMath.mLead x = L := ⟨_, rfl⟩
  obtain ⟨T, hT0⟩ : ∃ T, BitMath.mTail x = T := ⟨_, rfl⟩
  have hzL : L = min z 31 := by rw [← hL, ← hz]; rfl
  have hmin : (if (31 : Int) < (z : Int) then (31 : Int) else (z : Int)) = (L : Int) := by split <;> omega
  have HM : Hid (min (z : Int) 31 = (L : Int)) := (by omega : min (z : Int) 31 = (L : Int))
  have H1 := (show Hid _ from fun w0 => lead_any x w0 hx)
  have H2 := (show Hid _ from fun w0 h => tail_zeros x w0 hx h0 h)
  rw [hz] at H1
  rw [hT0] at H2
  rw [hL, hT0] at hlt
  rw [hL] at hl
  rw [hL, hT0]
  have HTB : Hid (Tab (w.alloc (.cells #[.int .i64 0, .int .i64 0] 121))) := hT.below ((Below.refl _ _).alloc (Nat.le_refl _) _) hT.lt
  clear hL hT0 hz hzL hx h0 hT
  unfold winV
  have hLI : (L : Int) ≤ 31 := by omega
  have hTI : (T : Int) ≤ 63 := by omega
  have HE : Hid ((64 : Int) - (L : Int) - (T : Int) = ((64 - L - T : Nat) : Int)) := (by omega : (64 : Int) - (L : Int) - (T : Int) = ((64 - L - T : Nat) : Int))
  go_enter Tryd.func100, Tryd.ntmps100
  go_wp2_with fail
  refine Calls.mono (H1.out _) ?_
  rintro e w1 ⟨rfl, hw1⟩
  have hw1' := hw1.symm
  subst hw1'
  go_wp2_with fail
  refine Calls.mono (H2.out _ HTB.out) ?_
  rintro e w2 ⟨rfl, hw2⟩
  have hw2' := hw2.symm
  subst hw2'
  go_wp2
  refine bodyPost_ret (v := .agg #[.int .i64 (L : Int), .int .i64 ((64 : Int) - (L : Int) - (T : Int))]) (by simp [results, Tryd.results100, go_sem]; exact HM.out) rfl ⟨by rw [HE.out], (Below.refl _ _).alloc (Nat.le_refl _) _⟩

theorem below_draws (w w' : World) (q : Nat) : Below w.heap.size w' (w'.drewN q) := ⟨rfl, rfl, rfl, Nat.le_refl _, fun _ _ => rfl⟩
theorem bcells {W w1 : World} (hb : Below W.heap.size W w1) : ∀ b o, b < W.heap.size → w1.cell? ⟨b, o, none⟩ = W.cell? ⟨b, o, none⟩ := fun b o h => hb.cell (p := ⟨b, o, none⟩) h

/-- Two windows that lie in two blocks, and memory that grew. -/
structure Wins (w w' : World) (b c : Nat) (v0 v1 v2 v3 : Value) : Prop where
  c0 : w'.cell? ⟨b, 0, none⟩ = some v0
  c1 : w'.cell? ⟨b, 1, none⟩ = some v1
  c2 : w'.cell? ⟨c, 0, none⟩ = some v2
  c3 : w'.cell? ⟨c, 1, none⟩ = some v3
  bel : Below w.heap.size w w'
theorem Wins.drew {w w' : World} {b c : Nat} {v0 v1 v2 v3 : Value} (h : Wins w w' b c v0 v1 v2 v3) : Wins w w'.drew b c v0 v1 v2 v3 := ⟨h.c0, h.c1, h.c2, h.c3, h.bel.drew⟩
theorem mtail_wins (L W : Nat) (w w0 : World) (b c : Nat) (v0 v1 v2 v3 : Value) (h : L + W ≤ 64) (hW : Wins w w0 b c v0 v1 v2 v3) :
    Calls Tryd.prog 102 #[winV L W] w0 fun e w' => e = .returned (.int .i64 ((64 - L - W : Nat) : Int)) ∧ w'.cell? ⟨b, 0, none⟩ = some v0 ∧ w'.cell? ⟨b, 1, none⟩ = some v1 ∧ w'.cell? ⟨c, 0, none⟩ = some v2 ∧ w'.cell? ⟨c, 1, none⟩ = some v3 ∧ Wins w w' b c v0 v1 v2 v3 := by
  refine (mtail_any L W w0 h).mono ?_
  rintro e w' ⟨rfl, hb⟩
  have c0 := (hb.cell (p := ⟨b, 0, none⟩) (lt_of_cell hW.c0)).trans hW.c0
  have c1 := (hb.cell (p := ⟨b, 1, none⟩) (lt_of_cell hW.c1)).trans hW.c1
  have c2 := (hb.cell (p := ⟨c, 0, none⟩) (lt_of_cell hW.c2)).trans hW.c2
  have c3 := (hb.cell (p := ⟨c, 1, none⟩) (lt_of_cell hW.c3)).trans hW.c3
  exact ⟨rfl, c0, c1, c2, c3, c0, c1, c2, c3, hW.bel.trans (hb.mono hW.bel.size)⟩
theorem wins_new (w : World) (a b c d : Value) (t : TypeId) : Wins w ((w.alloc (.cells #[a, b] t)).alloc (.cells #[c, d] t)) w.heap.size (w.heap.size + 1) a b c d := by
  refine ⟨?_, ?_, ?_, ?_, ((Below.refl _ _).alloc (Nat.le_refl _) _).alloc (by simp) _⟩ <;> simp [go_sem]

set_option maxRecDepth 100000 in
set_option maxHeartbeats 1000000 in
theorem mholds_any (L W l q : Nat) (w : World) (h : L + W ≤ 64) (h' : l + q ≤ 64) :
    Calls Tryd.prog 101 #[winV L W, winV l q] w fun e w' => e = .returned (.bool (decide (L ≤ l ∧ 64 - L - W ≤ 64 - l - q))) ∧ Below w.heap.size w w' := by
  have HW : Hid (Wins w ((w.alloc (.cells #[.int .i64 (L : Int), .int .i64 (W : Int)] 121)).alloc (.cells #[.int .i64 (l : Int), .int .i64 (q : Int)] 121)) w.heap.size (w.heap.size + 1) (.int .i64 (L : Int)) (.int .i64 (W : Int)) (.int .i64 (l : Int)) (.int .i64 (q : Int))) := wins_new w _ _ _ _ _
  by_cases hl : L ≤ l
  · have e1 : decide (L ≤ l) = true := decide_eq_true hl
    have e2 : decide ((L : Int) ≤ (l : Int)) = true := decide_eq_true (by omega)
    have HE : Hid (decide (L ≤ l ∧ 64 - L - W ≤ 64 - l - q) = decide (64 - L - W ≤ 64 - l - q)) := (by simp [hl] : decide (L ≤ l ∧ 64 - L - W ≤ 64 - l - q) = decide (64 - L - W ≤ 64 - l - q))
    rw [HE.out]
    have HA := (show Hid _ from fun w0 => mtail_wins l q w w0 w.heap.size (w.heap.size + 1) (.int .i64 (L : Int)) (.int .i64 (W : Int)) (.int .i64 (l : Int)) (.int .i64 (q : Int)) h')
    have HB := (show Hid _ from fun w0 => mtail_wins L W w w0 w.heap.size (w.heap.size + 1) (.int .i64 (L : Int)) (.int .i64 (W : Int)) (.int .i64 (l : Int)) (.int .i64 (q : Int)) h)
    unfold winV at HA HB ⊢
    generalize 64 - L - W = A at *
    generalize 64 - l - q = B at *
    clear HE h h' hl
    go_enter Tryd.func101, Tryd.ntmps101
    go_wp2_with fail
    go_region_held3 (fun w' => w'.cell? ⟨w.heap.size, 0, none⟩ = some (.int .i64 (L : Int)) ∧ w'.cell? ⟨w.heap.size, 1, none⟩ = some (.int .i64 (W : Int)) ∧ w'.cell? ⟨w.heap.size + 1, 0, none⟩ = some (.int .i64 (l : Int)) ∧ w'.cell? ⟨w.heap.size + 1, 1, none⟩ = some (.int .i64 (q : Int))) (go_keep) ((go_at_call 102; first | (refine Calls.mono (HA.out _ (by first | exact HW.out | exact HW.out.drew)) ?_; rintro e w1 ⟨rfl, k0, k1, k2, k3, hw1⟩; have HW1 := (show Hid _ from hw1); clear hw1 HA HW) | (refine Calls.mono (HB.out _ (by first | exact HW1.out | exact HW1.out.drew)) ?_; rintro e w2 ⟨rfl, k0, k1, k2, k3, hw2⟩; have HW2 := (show Hid _ from hw2); clear hw2 HB HW1)))
    go_wp2
    go_ret
    exact ⟨rfl, HW2.out.bel⟩
  · have e1 : decide (L ≤ l) = false := decide_eq_false hl
    have e2 : decide ((L : Int) ≤ (l : Int)) = false := decide_eq_false (by omega)
    have HE : Hid (decide (L ≤ l ∧ 64 - L - W ≤ 64 - l - q) = false) := (by simp [hl] : decide (L ≤ l ∧ 64 - L - W ≤ 64 - l - q) = false)
    rw [HE.out]
    unfold winV
    clear HE h h' hl
    go_enter Tryd.func101, Tryd.ntmps101
    go_wp2_with fail
    go_quiet (fail)
    go_wp2
    go_ret
    exact ⟨rfl, HW.out.bel.trans (below_draws _ _ _)⟩

set_option maxRecDepth 100000 in
set_option maxHeartbeats 1000000 in
theorem mformOf_any (u : Bool × Nat × Nat) (x : Nat) (w : World) (hu : BitMath.WinOK u) (hx : x < 18446744073709551616) (hT : Tab w) :
    Calls Tryd.prog 90 #[winV u.2.1 (BitMath.wideW u), .int .u64 (x : Int)] w fun e w' => e = .returned (formV (BitMath.wayOf u x) (BitMath.mNext u x).2.1 (BitMath.wideW (BitMath.mNext u x))) ∧ Below w.heap.size w w' := by
  have hwl := BitMath.wide_le hu
  obtain ⟨L, hL⟩ : ∃ L, u.2.1 = L := ⟨_, rfl⟩
  obtain ⟨W, hW⟩ : ∃ W, BitMath.wideW u = W := ⟨_, rfl⟩
  by_cases h0 : x = 0
  · have e1 : BitMath.wayOf u x = 0 := by unfold BitMath.wayOf; rw [if_pos h0]
    have e2 : BitMath.mNext u x = u := by unfold BitMath.mNext; rw [if_pos h0]
    rw [e1, e2, hL, hW]
    clear hwl hL hW hu hT hx e1 e2
    subst h0
    unfold winV formV
    go_enter Tryd.func90, Tryd.ntmps90
    go_wp2
    exact bodyPost_ret (v := .agg #[.int .i64 0, .int .i64 (L : Int), .int .i64 (W : Int)]) (by simp [results, Tryd.results90, go_sem]) rfl ⟨rfl, ((Below.refl _ _).alloc (Nat.le_refl _) _).alloc (by simp) _⟩
  · have hfit := BitMath.fits_iff hu x hx h0
    have hlt := BitMath.lead_tail x hx h0
    have hx0 : ((x : Int) == 0) = false := by rw [beq_eq_false_iff_ne]; omega
    obtain ⟨l, hl⟩ : ∃ l, BitMath.mLead x = l := ⟨_, rfl⟩
    obtain ⟨q, hq⟩ : ∃ q, 64 - BitMath.mLead x - BitMath.mTail x = q := ⟨_, rfl⟩
    have hlq : l + q ≤ 64 := by omega
    have HWO := (show Hid _ from fun w0 h => windowOf_any x w0 hx h0 h)
    have HHO := (show Hid _ from fun w0 => mholds_any L W l q w0 (by omega) hlq)
    rw [hq, hl] at HWO
    have hdec : decide (L ≤ l ∧ 64 - L - W ≤ 64 - l - q) = decide (BitMath.mFits u x = true) := by
      rw [decide_eq_decide, hfit, hL, hW, hl]
      have : BitMath.mTail x = 64 - l - q := by omega
      rw [this]
    rw [hdec] at HHO
    have HTB : Hid (∀ C D, Tab ((w.alloc (.cells C 121)).alloc (.cells D 123))) := fun C D => hT.below (((Below.refl _ _).alloc (Nat.le_refl _) _).alloc (by simp) _) hT.lt
    cases hf : BitMath.mFits u x with
    | true =>
      have e1 : BitMath.wayOf u x = 1 := by unfold BitMath.wayOf; rw [if_neg h0, if_pos hf]
      have e2 : BitMath.mNext u x = u := by unfold BitMath.mNext; rw [if_neg h0, if_pos hf]
      rw [e1, e2, hL, hW]
      rw [hf, decide_eq_true rfl] at HHO
      clear hwl hL hW hu hT hx e1 e2 hfit hlt hl hq hlq hdec hf
      unfold winV at HWO HHO ⊢
      unfold formV
      go_enter Tryd.func90, Tryd.ntmps90
      go_wp2_with fail
      refine Calls.mono (HWO.out _ (HTB.out _ _)) ?_
      rintro e w1 ⟨rfl, hb1⟩
      have hbb : Below w.heap.size w w1 := (((Below.refl _ _).alloc (Nat.le_refl _) _).alloc (by simp) _).trans (hb1.mono (by simp; omega))
      have hs1 : w.heap.size + 1 < w1.heap.size := by have := hb1.size; simp at this; omega
      have hk0 : w1.heap[w.heap.size]? = some (.cells #[.int .i64 (L : Int), .int .i64 (W : Int)] 121 (0, 0)) := by
        rw [hb1.block _ (by simp; omega), Below.heap_alloc _ _ _ (by simp)]
        exact heap_alloc_new _ _
      have hk1 : w1.heap[w.heap.size + 1]? = some (.cells #[.int .i64 0, .int .i64 0, .int .i64 0] 123 (0, 0)) := by
        rw [hb1.block _ (by simp)]
        have := heap_alloc_new (w.alloc (.cells #[.int .i64 (L : Int), .int .i64 (W : Int)] 121)) (.cells #[.int .i64 0, .int .i64 0, .int .i64 0] 123)
        simpa using this
      have c0 : ∀ o : Obj, (w1.alloc o).cell? ⟨w.heap.size, 0, none⟩ = some (.int .i64 (L : Int)) := fun o => by rw [World.cell?_alloc_lt _ _ ⟨w.heap.size, 0, none⟩ (by show w.heap.size < w1.heap.size; omega)]; exact cells_of hk0 0
      have c1 : ∀ o : Obj, (w1.alloc o).cell? ⟨w.heap.size, 1, none⟩ = some (.int .i64 (W : Int)) := fun o => by rw [World.cell?_alloc_lt _ _ ⟨w.heap.size, 1, none⟩ (by show w.heap.size < w1.heap.size; omega)]; exact cells_of hk0 1
      have HBB := (show Hid _ from hbb)
      have HK0 := (show Hid _ from hk0)
      have HK1 := (show Hid _ from hk1)
      clear hb1 hbb hk0 hk1 HWO HTB
      go_wp2_with fail
      refine Calls.mono (HHO.out _) ?_
      rintro e w2 ⟨rfl, hb2⟩
      obtain ⟨hnew, hb3⟩ : w2.heap[w1.heap.size]? = some (.cells #[.int .i64 (l : Int), .int .i64 (q : Int)] 121 (0, 0)) ∧ Below w1.heap.size w1 w2 := by
        refine ⟨?_, ((Below.refl _ _).alloc (Nat.le_refl _) _).trans (hb2.mono (by simp))⟩
        rw [hb2.block w1.heap.size (by simp)]
        exact heap_alloc_new _ _
      have hk0 := (hb3.block w.heap.size (by omega)).trans HK0.out
      have hk1 := (hb3.block (w.heap.size + 1) (by omega)).trans HK1.out
      have hb4 := HBB.out.trans (hb3.mono HBB.out.size)
      clear c0 c1 hb2 hb3 HHO HBB HK0 HK1
      have c0 : w2.cell? ⟨w.heap.size, 0, none⟩ = some (.int .i64 (L : Int)) := cells_of hk0 0
      have c1 : w2.cell? ⟨w.heap.size, 1, none⟩ = some (.int .i64 (W : Int)) := cells_of hk0 1
      have d0 : w2.cell? ⟨w1.heap.size, 0, none⟩ = some (.int .i64 (l : Int)) := cells_of hnew 0
      have d1 : w2.cell? ⟨w1.heap.size, 1, none⟩ = some (.int .i64 (q : Int)) := cells_of hnew 1
      have z0 : w2.cell? ⟨w.heap.size + 1, 0, none⟩ = some (.int .i64 0) := cells_of hk1 0
      have z1 : w2.cell? ⟨w.heap.size + 1, 1, none⟩ = some (.int .i64 0) := cells_of hk1 1
      have z2 : w2.cell? ⟨w.heap.size + 1, 2, none⟩ = some (.int .i64 0) := cells_of hk1 2
      have y0 : w2.frozen? ⟨w.heap.size + 1, 0, none⟩ = false := frozen_of hk1 0
      have y1 : w2.frozen? ⟨w.heap.size + 1, 1, none⟩ = false := frozen_of hk1 1
      have y2 : w2.frozen? ⟨w.heap.size + 1, 2, none⟩ = false := frozen_of hk1 2
      have HB4 := (show Hid _ from hb4)
      clear hk0 hk1 hnew hb4
      go_wp2
      exact bodyPost_ret (v := .agg #[.int .i64 1, .int .i64 (L : Int), .int .i64 (W : Int)]) (by simp [results, Tryd.results90, go_sem, z0, z1, z2]) rfl ⟨rfl, ((HB4.out.setCell (by simp) _).setCell (by simp) _).setCell (by simp) _⟩
    | false =>
      have e1 : BitMath.wayOf u x = 2 := by unfold BitMath.wayOf; rw [if_neg h0, if_neg (by rw [hf]; decide)]
      have e2 : BitMath.mNext u x = (true, BitMath.mLead x, BitMath.mTail x) := by unfold BitMath.mNext; rw [if_neg h0, if_neg (by rw [hf]; decide)]
      have hqW : BitMath.wideW (true, BitMath.mLead x, BitMath.mTail x) = q := by unfold BitMath.wideW; simp; exact hq
      rw [e1, e2, hL, hW, hqW]
      show Calls _ _ _ _ fun e w' => e = .returned (formV 2 (BitMath.mLead x) q) ∧ _
      rw [hl]
      rw [hf, decide_eq_false (by decide)] at HHO
      clear hwl hL hW hu hT hx e1 e2 hfit hlt hl hq hlq hdec hqW hf
      unfold winV at HWO HHO ⊢
      unfold formV
      go_enter Tryd.func90, Tryd.ntmps90
      go_wp2_with fail
      refine Calls.mono (HWO.out _ (HTB.out _ _)) ?_
      rintro e w1 ⟨rfl, hb1⟩
      have hbb : Below w.heap.size w w1 := (((Below.refl _ _).alloc (Nat.le_refl _) _).alloc (by simp) _).trans (hb1.mono (by simp; omega))
      have hs1 : w.heap.size + 1 < w1.heap.size := by have := hb1.size; simp at this; omega
      have hk0 : w1.heap[w.heap.size]? = some (.cells #[.int .i64 (L : Int), .int .i64 (W : Int)] 121 (0, 0)) := by
        rw [hb1.block _ (by simp; omega), Below.heap_alloc _ _ _ (by simp)]
        exact heap_alloc_new _ _
      have hk1 : w1.heap[w.heap.size + 1]? = some (.cells #[.int .i64 0, .int .i64 0, .int .i64 0] 123 (0, 0)) := by
        rw [hb1.block _ (by simp)]
        have := heap_alloc_new (w.alloc (.cells #[.int .i64 (L : Int), .int .i64 (W : Int)] 121)) (.cells #[.int .i64 0, .int .i64 0, .int .i64 0] 123)
        simpa using this
      have c0 : ∀ o : Obj, (w1.alloc o).cell? ⟨w.heap.size, 0, none⟩ = some (.int .i64 (L : Int)) := fun o => by rw [World.cell?_alloc_lt _ _ ⟨w.heap.size, 0, none⟩ (by show w.heap.size < w1.heap.size; omega)]; exact cells_of hk0 0
      have c1 : ∀ o : Obj, (w1.alloc o).cell? ⟨w.heap.size, 1, none⟩ = some (.int .i64 (W : Int)) := fun o => by rw [World.cell?_alloc_lt _ _ ⟨w.heap.size, 1, none⟩ (by show w.heap.size < w1.heap.size; omega)]; exact cells_of hk0 1
      have HBB := (show Hid _ from hbb)
      have HK0 := (show Hid _ from hk0)
      have HK1 := (show Hid _ from hk1)
      clear hb1 hbb hk0 hk1 HWO HTB
      go_wp2_with fail
      refine Calls.mono (HHO.out _) ?_
      rintro e w2 ⟨rfl, hb2⟩
      obtain ⟨hnew, hb3⟩ : w2.heap[w1.heap.size]? = some (.cells #[.int .i64 (l : Int), .int .i64 (q : Int)] 121 (0, 0)) ∧ Below w1.heap.size w1 w2 := by
        refine ⟨?_, ((Below.refl _ _).alloc (Nat.le_refl _) _).trans (hb2.mono (by simp))⟩
        rw [hb2.block w1.heap.size (by simp)]
        exact heap_alloc_new _ _
      have hk0 := (hb3.block w.heap.size (by omega)).trans HK0.out
      have hk1 := (hb3.block (w.heap.size + 1) (by omega)).trans HK1.out
      have hb4 := HBB.out.trans (hb3.mono HBB.out.size)
      clear c0 c1 hb2 hb3 HHO HBB HK0 HK1
      have c0 : w2.cell? ⟨w.heap.size, 0, none⟩ = some (.int .i64 (L : Int)) := cells_of hk0 0
      have c1 : w2.cell? ⟨w.heap.size, 1, none⟩ = some (.int .i64 (W : Int)) := cells_of hk0 1
      have d0 : w2.cell? ⟨w1.heap.size, 0, none⟩ = some (.int .i64 (l : Int)) := cells_of hnew 0
      have d1 : w2.cell? ⟨w1.heap.size, 1, none⟩ = some (.int .i64 (q : Int)) := cells_of hnew 1
      have z0 : w2.cell? ⟨w.heap.size + 1, 0, none⟩ = some (.int .i64 0) := cells_of hk1 0
      have z1 : w2.cell? ⟨w.heap.size + 1, 1, none⟩ = some (.int .i64 0) := cells_of hk1 1
      have z2 : w2.cell? ⟨w.heap.size + 1, 2, none⟩ = some (.int .i64 0) := cells_of hk1 2
      have y0 : w2.frozen? ⟨w.heap.size + 1, 0, none⟩ = false := frozen_of hk1 0
      have y1 : w2.frozen? ⟨w.heap.size + 1, 1, none⟩ = false := frozen_of hk1 1
      have y2 : w2.frozen? ⟨w.heap.size + 1, 2, none⟩ = false := frozen_of hk1 2
      have HB4 := (show Hid _ from hb4)
      clear hk0 hk1 hnew hb4
      go_wp2
      exact bodyPost_ret (v := .agg #[.int .i64 2, .int .i64 (l : Int), .int .i64 (q : Int)]) (by simp [results, Tryd.results90, go_sem, z0, z1, z2]) rfl ⟨rfl, ((HB4.out.setCell (by simp) _).setCell (by simp) _).setCell (by simp) _⟩
end Go.Proofs.YtgdflopgdlpimaaDoor
