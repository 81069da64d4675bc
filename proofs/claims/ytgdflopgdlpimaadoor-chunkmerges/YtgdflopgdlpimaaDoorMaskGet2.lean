/- Package mask's getForm and a form's get by contracts. -/
import Derived.Test.YtgdflopgdlpimaaDoorMaskGet
namespace Go.Proofs.YtgdflopgdlpimaaDoor
open Go.RowKit

theorem mfget_same (L W : Nat) (w : World) (p : Option Addr) :
    Calls Tryd.prog 93 #[formV 0 L W, .pointer p] w fun e w' => e = .returned (.tuple #[.int .u64 0, .nilIface]) ∧ Below w.heap.size w w' := by
  unfold formV
  go_enter Tryd.func93, Tryd.ntmps93
  go_wp2
  go_ret2
  exact ⟨rfl, (Below.refl _ _).alloc (Nat.le_refl _) _⟩

set_option maxRecDepth 1000000 in
set_option maxHeartbeats 2000000 in
theorem mfget_any (y L W : Nat) (w : World) (x : Nat) (D : List Bool) (h : RdAt w x D) (aN : Addr) (hN : w.cell? ⟨4, 0, none⟩ = some (.iface 97 (.pointer (some aN)))) (hy : 1 ≤ y) (hLW : L + W ≤ 64) :
    Calls Tryd.prog 93 #[formV y L W, .pointer (some ⟨x, 0, none⟩)] w fun e w' => Kept [x] w w' ∧
      ((W ≤ D.length ∧ e = .returned (.tuple #[.int .u64 ((BitMath.valB (D.take W) * 2 ^ (64 - L - W) % 18446744073709551616 : Nat) : Int), .nilIface]) ∧ RdAt w' x (D.drop W)) ∨
       (D.length < W ∧ e = .returned (.tuple #[.int .u64 0, .iface 97 (.pointer (some aN))]))) := by
  have hxl := h.lt
  have hy0 : ((y : Int) == 0) = false := by rw [beq_eq_false_iff_ne]; omega
  obtain ⟨wa, hwa⟩ : ∃ wa, wa = w.alloc (.cells #[.int .i64 (y : Int), .int .i64 (L : Int), .int .i64 (W : Int)] 123) := ⟨_, rfl⟩
  have hka : Kept [] w wa := by rw [hwa]; exact (Kept.refl _ _).alloc _
  have hsa : wa.heap.size = w.heap.size + 1 := by rw [hwa]; simp
  have hra : RdAt wa x D := h.keptBy hka (fun b hb => by cases hb)
  have hblk : wa.heap[w.heap.size]? = some (.cells #[.int .i64 (y : Int), .int .i64 (L : Int), .int .i64 (W : Int)] 123 (0, 0)) := by rw [hwa]; exact heap_alloc_new _ _
  have hNa := hka.cell hN (by simp)
  have HWA := (show Hid _ from hwa)
  have HKA := (show Hid _ from hka)
  have HBLK := (show Hid _ from hblk)
  have HTL := (show Hid _ from fun w0 => mtail_any L W w0 hLW)
  unfold formV
  unfold winV at HTL
  by_cases hW : W ≤ D.length
  · have hg1 := rd_ok wa x D hra W (by omega) hW
    have hlt : BitMath.valB (D.take W) < 18446744073709551616 := by
      have := BitMath.valB_lt (D.take W)
      rw [List.length_take, Nat.min_eq_left hW] at this
      exact Nat.lt_of_lt_of_le this (Nat.pow_le_pow_right (by omega) (by omega : W ≤ 64))
    generalize hA : BitMath.valB (D.take W) = A at *
    obtain ⟨T, hT⟩ : ∃ T, 64 - L - W = T := ⟨_, rfl⟩
    rw [hT] at HTL ⊢
    have hTI : (T : Int) ≤ 64 := by omega
    have hT0 : (0 : Int) ≤ (T : Int) := by omega
    have HG1 := (show Hid _ from hg1)
    have HSH : Hid (IntKind.u64.wrap ((A : Int) * 2 ^ T) = ((A * 2 ^ T % 18446744073709551616 : Nat) : Int)) := (by
      rw [IntKind.wrap_u64]
      simp : IntKind.u64.wrap ((A : Int) * 2 ^ T) = ((A * 2 ^ T % 18446744073709551616 : Nat) : Int))
    clear hg1 hA hN h hwa hka hra hblk hNa hlt hT
    go_enter Tryd.func93, Tryd.ntmps93
    go_wp2_with fail
    rw [← HWA.out]
    refine Calls.mono HG1.out ?_
    rintro e w1 ⟨rfl, hr1, hk1, hs1⟩
    have hblk1 := (hk1.block w.heap.size (by omega) (by simp; omega)).trans HBLK.out
    have c1 : w1.cell? ⟨w.heap.size, 1, none⟩ = some (.int .i64 (L : Int)) := cells_of hblk1 1
    have c2 : w1.cell? ⟨w.heap.size, 2, none⟩ = some (.int .i64 (W : Int)) := cells_of hblk1 2
    have HR1 := (show Hid _ from hr1)
    have hkk : Kept [x] w w1 := (HKA.out.none).trans hk1 (fun z hz => .inl hz)
    have HKK := (show Hid _ from hkk)
    clear hr1 hk1 hblk1 hkk
    go_wp2_with fail
    refine Calls.mono (HTL.out _) ?_
    rintro e w2 ⟨rfl, hb2⟩
    have HB2 := (show Hid _ from hb2)
    clear hb2 c1 c2
    go_wp2
    go_ret2
    refine ⟨HKK.out.trans (Kept.of_below (S := []) HB2.out) (fun z hz => by cases hz), .inl ⟨hW, ?_, HR1.out.below HB2.out⟩⟩
    exact congrArg (fun i => Ending.returned (Value.tuple #[Value.int .u64 i, .nilIface])) HSH.out
  · have hg1 := rd_none wa x D hra W aN hNa (by omega) (by omega)
    have HG1 := (show Hid _ from hg1)
    clear hg1 hN h hwa hka hra hblk hNa HTL
    go_enter Tryd.func93, Tryd.ntmps93
    go_wp2_with fail
    rw [← HWA.out]
    refine Calls.mono HG1.out ?_
    rintro e w1 ⟨rfl, q, hw1⟩
    have hkk : Kept [x] w w1 := by rw [hw1]; exact (HKA.out.none).draws q
    have HKK := (show Hid _ from hkk)
    clear hkk hw1
    go_wp2
    go_ret2
    exact ⟨HKK.out, .inr ⟨by omega, rfl⟩⟩

/-- Two blocks that a call makes first, behind what changes the reader alone. -/
structure FAt (w w' : World) (x : Nat) (L W : Nat) : Prop where
  win : w'.heap[w.heap.size]? = some (.cells #[.int .i64 (L : Int), .int .i64 (W : Int)] 121 (0, 0))
  res : w'.heap[w.heap.size + 1]? = some (.cells #[.int .i64 0, .int .i64 0, .int .i64 0] 123 (0, 0))
  kept : Kept [x] w w'
theorem FAt.step {w a b : World} {x L W : Nat} (h : FAt w a x L W) (hx : x < w.heap.size) (hk : Kept [x] a b) : FAt w b x L W :=
  ⟨(hk.block _ (lt_of_block h.win) (by simp; omega)).trans h.win, (hk.block _ (lt_of_block h.res) (by simp; omega)).trans h.res, h.kept.trans hk (fun z hz => .inl hz)⟩
theorem FAt.set {w a : World} {x L W : Nat} (h : FAt w a x L W) (u v t : Value) : Kept [x] w (((a.setCell ⟨w.heap.size + 1, 0, none⟩ u).setCell ⟨w.heap.size + 1, 1, none⟩ v).setCell ⟨w.heap.size + 1, 2, none⟩ t) :=
  ((h.kept.setCell (.inr (by simp)) _).setCell (.inr (by simp)) _).setCell (.inr (by simp)) _
theorem RdAt.set3 {a : World} {x b : Nat} {D : List Bool} (h : RdAt a x D) (hb : x < b) (u v t : Value) : RdAt (((a.setCell ⟨b, 0, none⟩ u).setCell ⟨b, 1, none⟩ v).setCell ⟨b, 2, none⟩ t) x D :=
  h.keptBy ((((Kept.refl [b] _).setCell (.inl (by simp)) _).setCell (.inl (by simp)) _).setCell (.inl (by simp)) _) (fun z hz => by simp at hz; subst hz; omega)

theorem set3_cells {a : World} {b : Nat} {p q r : Value} {t : TypeId} (h : a.heap[b]? = some (.cells #[p, q, r] t (0, 0))) (u v s : Value) (o : Obj) :
    ((((a.setCell ⟨b, 0, none⟩ u).setCell ⟨b, 1, none⟩ v).setCell ⟨b, 2, none⟩ s).alloc o).cell? ⟨b, 0, none⟩ = some u ∧ ((((a.setCell ⟨b, 0, none⟩ u).setCell ⟨b, 1, none⟩ v).setCell ⟨b, 2, none⟩ s).alloc o).cell? ⟨b, 1, none⟩ = some v ∧
    ((((a.setCell ⟨b, 0, none⟩ u).setCell ⟨b, 1, none⟩ v).setCell ⟨b, 2, none⟩ s).alloc o).cell? ⟨b, 2, none⟩ = some s := by
  have h3 : ((((a.setCell ⟨b, 0, none⟩ u).setCell ⟨b, 1, none⟩ v).setCell ⟨b, 2, none⟩ s).alloc o).heap[b]? = some (.cells #[u, v, s] t (0, 0)) := by
    rw [Below.heap_alloc _ _ _ (by simp; exact lt_of_block h), heap_set (heap_set (heap_set h 0 u) 1 v) 2 s]
    rfl
  exact ⟨cells_of h3 0, cells_of h3 1, cells_of h3 2⟩

/-- What getForm answers of the bits D. -/
def FormOut (w w' : World) (x L W : Nat) (D : List Bool) (aN aT : Addr) (e : Ending) : Prop :=
  Kept [x] w w' ∧
    ((D[0]? = some false ∧ e = .returned (.tuple #[formV 0 L W, .nilIface]) ∧ RdAt w' x (D.drop 1)) ∨
     (D[0]? = some true ∧ D[1]? = some false ∧ e = .returned (.tuple #[formV 1 L W, .nilIface]) ∧ RdAt w' x (D.drop 2)) ∨
     (D[0]? = some true ∧ D[1]? = some true ∧ 13 ≤ D.length ∧ BitMath.valB ((D.drop 2).take 5) + BitMath.fixW (BitMath.valB ((D.drop 7).take 6)) ≤ 64 ∧ e = .returned (.tuple #[formV 2 (BitMath.valB ((D.drop 2).take 5)) (BitMath.fixW (BitMath.valB ((D.drop 7).take 6))), .nilIface]) ∧ RdAt w' x (D.drop 13)) ∨
     ((D.length = 0 ∨ (D[0]? = some true ∧ D.length ≤ 1) ∨ (D[0]? = some true ∧ D[1]? = some true ∧ D.length < 13)) ∧ e = .returned (.tuple #[formV 0 0 0, .iface 97 (.pointer (some aN))])) ∨
     (D[0]? = some true ∧ D[1]? = some true ∧ 13 ≤ D.length ∧ 64 < BitMath.valB ((D.drop 2).take 5) + BitMath.fixW (BitMath.valB ((D.drop 7).take 6)) ∧ e = .returned (.tuple #[formV 0 0 0, .iface 97 (.pointer (some aT))])))

set_option maxRecDepth 1000000 in
set_option maxHeartbeats 2000000 in
theorem mgetForm_any (L W : Nat) (w : World) (x : Nat) (D : List Bool) (h : RdAt w x D) (aN aT : Addr) (hN : w.cell? ⟨4, 0, none⟩ = some (.iface 97 (.pointer (some aN)))) (hT : w.cell? ⟨0, 0, none⟩ = some (.iface 97 (.pointer (some aT)))) (hxN : 4 < x) (hxT : 0 < x) :
    Calls Tryd.prog 92 #[.pointer (some ⟨x, 0, none⟩), winV L W] w fun e w' => FormOut w w' x L W D aN aT e := by
  have hxl := h.lt
  obtain ⟨wa, hwa⟩ : ∃ wa, wa = (w.alloc (.cells #[.int .i64 (L : Int), .int .i64 (W : Int)] 121)).alloc (.cells #[.int .i64 0, .int .i64 0, .int .i64 0] 123) := ⟨_, rfl⟩
  have hka : Kept [] w wa := by rw [hwa]; exact ((Kept.refl _ _).alloc _).alloc _
  have hra : RdAt wa x D := h.keptBy hka (fun b hb => by cases hb)
  have hfa : FAt w wa x L W := by
    refine ⟨?_, ?_, hka.none⟩
    · rw [hwa, Below.heap_alloc _ _ _ (by simp)]
      exact heap_alloc_new _ _
    · rw [hwa]
      have := heap_alloc_new (w.alloc (.cells #[.int .i64 (L : Int), .int .i64 (W : Int)] 121)) (.cells #[.int .i64 0, .int .i64 0, .int .i64 0] 123)
      simpa using this
  have hNa := hka.cell hN (by simp)
  have hTa := hka.cell hT (by simp)
  have HWA := (show Hid _ from hwa)
  have HFA := (show Hid _ from hfa)
  have HNA := (show Hid _ from hNa)
  have HTA := (show Hid _ from hTa)
  unfold winV
  clear hN hT h hwa hka hfa hNa hTa
  by_cases h1 : 1 ≤ D.length
  · obtain ⟨b0, hb0⟩ : ∃ b, D[0]? = some b := ⟨D[0], List.getElem?_eq_getElem (by omega)⟩
    have hg1 := rd_ok wa x D hra 1 (by omega) h1
    have ht1 : D.take 1 = [b0] := by
      rw [List.take_succ_eq_append_getElem (by omega)]
      rw [List.getElem?_eq_getElem (by omega)] at hb0
      simp at hb0
      simp [hb0]
    rw [ht1, BitMath.valB_one] at hg1
    have HG1 := (show Hid _ from hg1)
    have HB0 := (show Hid _ from hb0)
    clear hg1 ht1 hb0 hra
    cases b0 with
    | false =>
      go_enter Tryd.func92, Tryd.ntmps92
      go_wp2_with fail
      rw [← HWA.out]
      refine Calls.mono HG1.out ?_
      rintro e w1 ⟨rfl, hr1, hk1, hs1⟩
      have hf := HFA.out.step hxl hk1
      have c0 : w1.cell? ⟨w.heap.size, 0, none⟩ = some (.int .i64 (L : Int)) := cells_of hf.win 0
      have c1 : w1.cell? ⟨w.heap.size, 1, none⟩ = some (.int .i64 (W : Int)) := cells_of hf.win 1
      have z0 : w1.cell? ⟨w.heap.size + 1, 0, none⟩ = some (.int .i64 0) := cells_of hf.res 0
      have z1 : w1.cell? ⟨w.heap.size + 1, 1, none⟩ = some (.int .i64 0) := cells_of hf.res 1
      have z2 : w1.cell? ⟨w.heap.size + 1, 2, none⟩ = some (.int .i64 0) := cells_of hf.res 2
      have y0 : w1.frozen? ⟨w.heap.size + 1, 0, none⟩ = false := frozen_of hf.res 0
      have y1 : w1.frozen? ⟨w.heap.size + 1, 1, none⟩ = false := frozen_of hf.res 1
      have y2 : w1.frozen? ⟨w.heap.size + 1, 2, none⟩ = false := frozen_of hf.res 2
      have HF := (show Hid _ from hf)
      clear hf
      have HR1 := (show Hid _ from hr1)
      clear hr1 hk1
      go_wp2
      exact bodyPost_ret (v := .tuple #[.agg #[.int .i64 0, .int .i64 (L : Int), .int .i64 (W : Int)], .nilIface]) (by simp [results, Tryd.results92, go_sem, z0, z1, z2]) rfl ⟨HF.out.set _ _ _, .inl ⟨HB0.out, rfl, HR1.out.set3 (by omega) _ _ _⟩⟩
    | true =>
      by_cases h2 : 2 ≤ D.length
      · obtain ⟨b1, hb1⟩ : ∃ b, D[1]? = some b := ⟨D[1], List.getElem?_eq_getElem (by omega)⟩
        have hg2 := fun w0 (hr0 : RdAt w0 x (D.drop 1)) => rd_ok w0 x (D.drop 1) hr0 1 (by omega) (by rw [List.length_drop]; omega)
        have ht1 : (D.drop 1).take 1 = [b1] := by
          rw [List.take_succ_eq_append_getElem (by rw [List.length_drop]; omega)]
          rw [List.getElem?_eq_getElem (by omega)] at hb1
          simp at hb1
          simp [hb1]
        rw [ht1, BitMath.valB_one] at hg2
        have HG2 := (show Hid _ from hg2)
        have HB1 := (show Hid _ from hb1)
        clear hg2 ht1 hb1
        cases b1 with
        | false =>
          go_enter Tryd.func92, Tryd.ntmps92
          go_wp2_with fail
          rw [← HWA.out]
          refine Calls.mono HG1.out ?_
          rintro e w1 ⟨rfl, hr1, hk1, hs1⟩
          have HF1 := (show Hid _ from HFA.out.step hxl hk1)
          have HR1 := (show Hid _ from hr1)
          have HK1 := (show Hid _ from hk1)
          clear hr1 hk1
          go_wp2_with fail
          refine Calls.mono (HG2.out _ HR1.out) ?_
          rintro e w2 ⟨rfl, hr2, hk2, hs2⟩
          have hf := HF1.out.step hxl hk2
          have c0 : w2.cell? ⟨w.heap.size, 0, none⟩ = some (.int .i64 (L : Int)) := cells_of hf.win 0
          have c1 : w2.cell? ⟨w.heap.size, 1, none⟩ = some (.int .i64 (W : Int)) := cells_of hf.win 1
          have z0 : w2.cell? ⟨w.heap.size + 1, 0, none⟩ = some (.int .i64 0) := cells_of hf.res 0
          have z1 : w2.cell? ⟨w.heap.size + 1, 1, none⟩ = some (.int .i64 0) := cells_of hf.res 1
          have z2 : w2.cell? ⟨w.heap.size + 1, 2, none⟩ = some (.int .i64 0) := cells_of hf.res 2
          have y0 : w2.frozen? ⟨w.heap.size + 1, 0, none⟩ = false := frozen_of hf.res 0
          have y1 : w2.frozen? ⟨w.heap.size + 1, 1, none⟩ = false := frozen_of hf.res 1
          have y2 : w2.frozen? ⟨w.heap.size + 1, 2, none⟩ = false := frozen_of hf.res 2
          have HF := (show Hid _ from hf)
          clear hf
          have HR2 := (show Hid _ from hr2)
          clear hr2 hk2
          go_wp2
          exact bodyPost_ret (v := .tuple #[.agg #[.int .i64 1, .int .i64 (L : Int), .int .i64 (W : Int)], .nilIface]) (by simp [results, Tryd.results92, go_sem, z0, z1, z2]) rfl ⟨HF.out.set _ _ _, .inr (.inl ⟨HB0.out, HB1.out, rfl, by have := HR2.out; rw [List.drop_drop] at this; exact this.set3 (by omega) _ _ _⟩)⟩
        | true =>
          have hgw := fun w0 (hr0 : RdAt w0 x (D.drop 2)) hN0 hT0 => getWindow_any w0 x (D.drop 2) hr0 aN aT hN0 hT0 hxN hxT
          simp only [List.drop_drop, Nat.reduceAdd, List.length_drop] at hgw
          unfold FormOut
          obtain ⟨A, hA⟩ : ∃ A, BitMath.valB ((D.drop 2).take 5) = A := ⟨_, rfl⟩
          obtain ⟨F, hF⟩ : ∃ F, BitMath.fixW (BitMath.valB ((D.drop 7).take 6)) = F := ⟨_, rfl⟩
          simp only [hA, hF] at hgw ⊢
          unfold winV at hgw
          have HGW := (show Hid _ from hgw)
          clear hgw hA hF
          go_enter Tryd.func92, Tryd.ntmps92
          go_wp2_with fail
          rw [← HWA.out]
          refine Calls.mono HG1.out ?_
          rintro e w1 ⟨rfl, hr1, hk1, hs1⟩
          have HF1 := (show Hid _ from HFA.out.step hxl hk1)
          have HR1 := (show Hid _ from hr1)
          have HK1 := (show Hid _ from hk1)
          clear hr1 hk1
          go_wp2_with fail
          refine Calls.mono (HG2.out _ HR1.out) ?_
          rintro e w2 ⟨rfl, hr2, hk2, hs2⟩
          have HF2 := (show Hid _ from HF1.out.step hxl hk2)
          have HR2 := (show Hid _ from hr2)
          have HK2 := (show Hid _ from hk2)
          clear hr2 hk2
          go_wp2_with fail
          refine Calls.mono (HGW.out _ (by have := HR2.out; rw [List.drop_drop] at this; exact this) (HK2.out.cell (HK1.out.cell HNA.out (by simp; omega)) (by simp; omega)) (HK2.out.cell (HK1.out.cell HTA.out (by simp; omega)) (by simp; omega))) ?_
          rintro e w3 ⟨hk3, hout⟩
          have hf := HF2.out.step hxl hk3
          clear HF1 HF2 HR1 HR2 HK1 HK2 HGW HG1 HG2 HNA HTA
          rcases hout with ⟨hl3, hs3, rfl, hr3⟩ | ⟨hl3, rfl⟩ | ⟨hl3, hs3, rfl⟩
          · have HR3 := (show Hid _ from hr3)
            clear hr3
            have z0 : w3.cell? ⟨w.heap.size + 1, 0, none⟩ = some (.int .i64 0) := cells_of hf.res 0
            have z1 : w3.cell? ⟨w.heap.size + 1, 1, none⟩ = some (.int .i64 0) := cells_of hf.res 1
            have z2 : w3.cell? ⟨w.heap.size + 1, 2, none⟩ = some (.int .i64 0) := cells_of hf.res 2
            have y0 : w3.frozen? ⟨w.heap.size + 1, 0, none⟩ = false := frozen_of hf.res 0
            have y1 : w3.frozen? ⟨w.heap.size + 1, 1, none⟩ = false := frozen_of hf.res 1
            have y2 : w3.frozen? ⟨w.heap.size + 1, 2, none⟩ = false := frozen_of hf.res 2
            have hlt3 : w.heap.size + 1 < w3.heap.size := lt_of_block hf.res
            have hne3 : w.heap.size + 1 ≠ w3.heap.size := by omega
            have hne4 : w3.heap.size ≠ w.heap.size + 1 := by omega
            have HF := (show Hid _ from hf)
            clear hf hk3
            go_wp2_with fail
            obtain ⟨f0, f1, f2⟩ := set3_cells HF.out.res (.int .i64 2) (.int .i64 (A : Int)) (.int .i64 (F : Int)) (.cells #[.int .i64 (A : Int), .int .i64 (F : Int)] 121)
            refine bodyPost_ret (v := .tuple #[.agg #[.int .i64 2, .int .i64 (A : Int), .int .i64 (F : Int)], .nilIface]) (by simp [results, Tryd.results92, go_sem, f0, f1, f2]) rfl ⟨(HF.out.set _ _ _).alloc _, .inr (.inr (.inl ⟨HB0.out, HB1.out, by omega, hs3, rfl, (HR3.out.set3 (by omega) _ _ _).below ((Below.refl _ _).alloc (Nat.le_refl _) _)⟩))⟩
          · have z0 : w3.cell? ⟨w.heap.size + 1, 0, none⟩ = some (.int .i64 0) := cells_of hf.res 0
            have z1 : w3.cell? ⟨w.heap.size + 1, 1, none⟩ = some (.int .i64 0) := cells_of hf.res 1
            have z2 : w3.cell? ⟨w.heap.size + 1, 2, none⟩ = some (.int .i64 0) := cells_of hf.res 2
            have y0 : w3.frozen? ⟨w.heap.size + 1, 0, none⟩ = false := frozen_of hf.res 0
            have y1 : w3.frozen? ⟨w.heap.size + 1, 1, none⟩ = false := frozen_of hf.res 1
            have y2 : w3.frozen? ⟨w.heap.size + 1, 2, none⟩ = false := frozen_of hf.res 2
            have hlt3 : w.heap.size + 1 < w3.heap.size := lt_of_block hf.res
            have hne3 : w.heap.size + 1 ≠ w3.heap.size := by omega
            have hne4 : w3.heap.size ≠ w.heap.size + 1 := by omega
            have HF := (show Hid _ from hf)
            clear hf hk3
            go_wp2_with fail
            obtain ⟨f0, f1, f2⟩ := set3_cells HF.out.res (.int .i64 0) (.int .i64 0) (.int .i64 0) (.cells #[.int .i64 0, .int .i64 0] 121)
            refine bodyPost_ret (v := .tuple #[.agg #[.int .i64 0, .int .i64 0, .int .i64 0], .iface 97 (.pointer (some aN))]) (by simp [results, Tryd.results92, go_sem, f0, f1, f2]) rfl ⟨(HF.out.set _ _ _).alloc _, .inr (.inr (.inr (.inl ⟨.inr (.inr ⟨HB0.out, HB1.out, by omega⟩), rfl⟩)))⟩
          · have z0 : w3.cell? ⟨w.heap.size + 1, 0, none⟩ = some (.int .i64 0) := cells_of hf.res 0
            have z1 : w3.cell? ⟨w.heap.size + 1, 1, none⟩ = some (.int .i64 0) := cells_of hf.res 1
            have z2 : w3.cell? ⟨w.heap.size + 1, 2, none⟩ = some (.int .i64 0) := cells_of hf.res 2
            have y0 : w3.frozen? ⟨w.heap.size + 1, 0, none⟩ = false := frozen_of hf.res 0
            have y1 : w3.frozen? ⟨w.heap.size + 1, 1, none⟩ = false := frozen_of hf.res 1
            have y2 : w3.frozen? ⟨w.heap.size + 1, 2, none⟩ = false := frozen_of hf.res 2
            have hlt3 : w.heap.size + 1 < w3.heap.size := lt_of_block hf.res
            have hne3 : w.heap.size + 1 ≠ w3.heap.size := by omega
            have hne4 : w3.heap.size ≠ w.heap.size + 1 := by omega
            have HF := (show Hid _ from hf)
            clear hf hk3
            go_wp2_with fail
            obtain ⟨f0, f1, f2⟩ := set3_cells HF.out.res (.int .i64 0) (.int .i64 0) (.int .i64 0) (.cells #[.int .i64 0, .int .i64 0] 121)
            refine bodyPost_ret (v := .tuple #[.agg #[.int .i64 0, .int .i64 0, .int .i64 0], .iface 97 (.pointer (some aT))]) (by simp [results, Tryd.results92, go_sem, f0, f1, f2]) rfl ⟨(HF.out.set _ _ _).alloc _, .inr (.inr (.inr (.inr ⟨HB0.out, HB1.out, by omega, hs3, rfl⟩)))⟩
      · have hg2 := fun w0 (hr0 : RdAt w0 x (D.drop 1)) hE => rd_none w0 x (D.drop 1) hr0 1 aN hE (by omega) (by rw [List.length_drop]; omega)
        have HG2 := (show Hid _ from hg2)
        clear hg2
        go_enter Tryd.func92, Tryd.ntmps92
        go_wp2_with fail
        rw [← HWA.out]
        refine Calls.mono HG1.out ?_
        rintro e w1 ⟨rfl, hr1, hk1, hs1⟩
        have HF1 := (show Hid _ from HFA.out.step hxl hk1)
        have HR1 := (show Hid _ from hr1)
        have HK1 := (show Hid _ from hk1)
        clear hr1 hk1
        go_wp2_with fail
        refine Calls.mono (HG2.out _ HR1.out (HK1.out.cell HNA.out (by simp; omega))) ?_
        rintro e w2 ⟨rfl, q, hw2⟩
        have hf := HF1.out.step hxl (show Kept [x] w1 w2 by rw [hw2]; exact (Kept.refl _ _).draws q)
        have c0 : w2.cell? ⟨w.heap.size, 0, none⟩ = some (.int .i64 (L : Int)) := cells_of hf.win 0
        have c1 : w2.cell? ⟨w.heap.size, 1, none⟩ = some (.int .i64 (W : Int)) := cells_of hf.win 1
        have z0 : w2.cell? ⟨w.heap.size + 1, 0, none⟩ = some (.int .i64 0) := cells_of hf.res 0
        have z1 : w2.cell? ⟨w.heap.size + 1, 1, none⟩ = some (.int .i64 0) := cells_of hf.res 1
        have z2 : w2.cell? ⟨w.heap.size + 1, 2, none⟩ = some (.int .i64 0) := cells_of hf.res 2
        have y0 : w2.frozen? ⟨w.heap.size + 1, 0, none⟩ = false := frozen_of hf.res 0
        have y1 : w2.frozen? ⟨w.heap.size + 1, 1, none⟩ = false := frozen_of hf.res 1
        have y2 : w2.frozen? ⟨w.heap.size + 1, 2, none⟩ = false := frozen_of hf.res 2
        have HF := (show Hid _ from hf)
        clear hf
        clear hw2
        go_wp2
        exact bodyPost_ret (v := .tuple #[.agg #[.int .i64 0, .int .i64 0, .int .i64 0], .iface 97 (.pointer (some aN))]) (by simp [results, Tryd.results92, go_sem, z0, z1, z2]) rfl ⟨HF.out.set _ _ _, .inr (.inr (.inr (.inl ⟨.inr (.inl ⟨HB0.out, by omega⟩), rfl⟩)))⟩
  · have hg1 := rd_none wa x D hra 1 aN HNA.out (by omega) (by omega)
    have HG1 := (show Hid _ from hg1)
    clear hg1 hra
    go_enter Tryd.func92, Tryd.ntmps92
    go_wp2_with fail
    rw [← HWA.out]
    refine Calls.mono HG1.out ?_
    rintro e w2 ⟨rfl, q, hw2⟩
    have hf := HFA.out.step hxl (show Kept [x] wa w2 by rw [hw2]; exact (Kept.refl _ _).draws q)
    have c0 : w2.cell? ⟨w.heap.size, 0, none⟩ = some (.int .i64 (L : Int)) := cells_of hf.win 0
    have c1 : w2.cell? ⟨w.heap.size, 1, none⟩ = some (.int .i64 (W : Int)) := cells_of hf.win 1
    have z0 : w2.cell? ⟨w.heap.size + 1, 0, none⟩ = some (.int .i64 0) := cells_of hf.res 0
    have z1 : w2.cell? ⟨w.heap.size + 1, 1, none⟩ = some (.int .i64 0) := cells_of hf.res 1
    have z2 : w2.cell? ⟨w.heap.size + 1, 2, none⟩ = some (.int .i64 0) := cells_of hf.res 2
    have y0 : w2.frozen? ⟨w.heap.size + 1, 0, none⟩ = false := frozen_of hf.res 0
    have y1 : w2.frozen? ⟨w.heap.size + 1, 1, none⟩ = false := frozen_of hf.res 1
    have y2 : w2.frozen? ⟨w.heap.size + 1, 2, none⟩ = false := frozen_of hf.res 2
    have HF := (show Hid _ from hf)
    clear hf
    clear hw2
    go_wp2
    exact bodyPost_ret (v := .tuple #[.agg #[.int .i64 0, .int .i64 0, .int .i64 0], .iface 97 (.pointer (some aN))]) (by simp [results, Tryd.results92, go_sem, z0, z1, z2]) rfl ⟨HF.out.set _ _ _, .inr (.inr (.inr (.inl ⟨.inl (by omega), rfl⟩)))⟩
end Go.Proofs.YtgdflopgdlpimaaDoor
