/- Package wave's Get by its contract, second part. -/
import Derived.Test.YtgdflopgdlpimaaDoorWaveGet
import Derived.Test.YtgdflopgdlpimaaDoorRefUnwave
namespace Go.Proofs.YtgdflopgdlpimaaDoor
open Go.RowKit

theorem num_small (k v : Nat) (hk : k ≤ 3) : BitMath.numOf k v = (v : Int) - BitMath.biasOf k := by
  unfold BitMath.numOf
  rw [if_neg (by omega)]
theorem read_lt (l : List UInt8) (i n N : Nat) (hN : N ≤ 8 * l.length) (h : i + n ≤ N) : BitMath.valB (BitMath.readB l i n) < 2 ^ n := by
  have := BitMath.valB_lt (BitMath.readB l i n)
  rwa [BitMath.length_readB l i n (by omega)] at this

set_option maxRecDepth 1000000 in
set_option maxHeartbeats 2000000 in
theorem fget_at (k : Nat) (hk : k ≤ 4) (w : World) (x g cap : Nat) (l : List UInt8) (i N : Nat) (h : IsReader w x g cap l i N) (a : Addr) (hE : w.cell? ⟨4, 0, none⟩ = some (.iface 97 (.pointer (some a)))) (_hxE : x ≠ 4) :
    Calls Tryd.prog 62 #[formVal k, .pointer (some ⟨x, 0, none⟩)] w fun e w' => Kept [x] w w' ∧
      ((i + BitMath.wideOf k ≤ N ∧ e = .returned (.tuple #[.int .i64 (BitMath.numOf k (BitMath.valB (BitMath.readB l i (BitMath.wideOf k)))), .nilIface]) ∧ IsReader w' x g cap l (i + BitMath.wideOf k) N) ∨
       (N < i + BitMath.wideOf k ∧ e = .returned (.tuple #[.int .i64 0, .iface 97 (.pointer (some a))]) ∧ IsReader w' x g cap l i N)) := by
  have hxl := h.lt
  have hN8 := h.hn
  match k, hk with
  | 0, _ =>
    obtain ⟨wa, hwa⟩ : ∃ wa, wa = w.alloc (.cells #[.int .u64 0, .int .i64 1, .int .i64 0, .int .i64 0] 106) := ⟨_, rfl⟩
    have hka : Kept [] w wa := by rw [hwa]; exact (Kept.refl _ _).alloc _
    have hblk : wa.heap[w.heap.size]? = some (.cells #[.int .u64 0, .int .i64 1, .int .i64 0, .int .i64 0] 106 (0, 0)) := by rw [hwa]; exact heap_alloc_new _ _
    have hsa : wa.heap.size = w.heap.size + 1 := by rw [hwa]; simp
    have hra := h.kept hka
    have hEa := hka.cell hE (by simp)
    have HKA := (show Hid _ from hka)
    have HBLK := (show Hid _ from hblk)
    have H2 : Hid (∀ (w' : World), w' = w.alloc (.cells #[.int .u64 0, .int .i64 1, .int .i64 0, .int .i64 0] 106) → w' = wa) := fun w' h => h.trans hwa.symm
    have z2 : wa.cell? ⟨w.heap.size, 2, none⟩ = some (.int .i64 0) := cells_of hblk 2
    unfold formVal
    by_cases hfit : i + 0 ≤ N
    · have hvl : BitMath.valB (BitMath.readB l i 0) < 1 := read_lt l i 0 N hN8 hfit
      have hget : Calls Tryd.prog 25 #[.pointer (some ⟨x, 0, none⟩), .int .i64 0] wa fun e w' => e = .returned (.tuple #[.int .u64 (BitMath.valB (BitMath.readB l i 0) : Int), .nilIface]) ∧ IsReader w' x g cap l (i + 0) N ∧ Kept [x] wa w' ∧ w'.heap.size = wa.heap.size := get_ok wa x g cap l i N hra 0 (by decide) hfit
      obtain ⟨v, hv⟩ : ∃ v, v = BitMath.valB (BitMath.readB l i 0) := ⟨_, rfl⟩
      rw [← hv] at hget hvl
      have hnum : BitMath.numOf 0 (BitMath.valB (BitMath.readB l i (BitMath.wideOf 0))) = BitMath.numOf 0 v := by rw [hv]; rfl
      have HNUM := (show Hid _ from hnum.trans (num_small 0 v (by omega)))
      have HGET := (show Hid _ from hget)
      have HFIT := (show Hid _ from hfit)
      have hvI : (v : Int) ≤ 0 := by omega
      have hw64 : wrap64 (v : Int) = (v : Int) := by unfold wrap64; omega
      clear hwa hka hblk hra hEa hE h hget hv hnum hfit hN8 hvl
      go_enter Tryd.func62, Tryd.ntmps62
      go_wp2_with fail
      have hww := H2.out _ rfl
      rw [hww]
      clear hww
      refine Calls.mono HGET.out ?_
      rintro e w1 ⟨rfl, hr1, hk1, hs1⟩
      have hblk1 : w1.heap[w.heap.size]? = some (.cells #[.int .u64 0, .int .i64 1, .int .i64 0, .int .i64 0] 106 (0, 0)) := (hk1.block _ (by omega) (by simp; omega)).trans HBLK.out
      have z3 : w1.cell? ⟨w.heap.size, 3, none⟩ = some (.int .i64 0) := cells_of hblk1 3
      have HK1 := (show Hid _ from HKA.out.none.trans hk1 (fun y hy => .inl hy))
      have HR1 := (show Hid _ from hr1)
      clear z2 hblk1 hk1 hr1
      go_wp2
      go_ret2
      exact ⟨HK1.out, .inl ⟨HFIT.out, congrArg (fun n => Ending.returned (.tuple #[.int .i64 n, .nilIface])) (by rw [HNUM.out]; simp [BitMath.biasOf]), HR1.out⟩⟩
    · have hget := get_none wa x g cap l i N hra 0 a hEa (by decide) (by decide) (by have := hra.hi; omega)
      have HGET := (show Hid _ from hget)
      have HFIT : Hid (N < i + 0) := (by omega : N < i + 0)
      have HRA := (show Hid _ from hra)
      clear hwa hka hblk hra hEa hE h hget hfit hN8
      go_enter Tryd.func62, Tryd.ntmps62
      go_wp2_with fail
      have hww := H2.out _ rfl
      rw [hww]
      clear hww
      refine Calls.mono HGET.out ?_
      rintro e w1 ⟨rfl, q, rfl⟩
      clear z2
      go_wp2
      go_ret2
      exact ⟨(HKA.out.none).draws q, .inr ⟨HFIT.out, rfl, HRA.out.drewN q⟩⟩
  | 1, _ =>
    obtain ⟨wa, hwa⟩ : ∃ wa, wa = w.alloc (.cells #[.int .u64 2, .int .i64 2, .int .i64 7, .int .i64 63] 106) := ⟨_, rfl⟩
    have hka : Kept [] w wa := by rw [hwa]; exact (Kept.refl _ _).alloc _
    have hblk : wa.heap[w.heap.size]? = some (.cells #[.int .u64 2, .int .i64 2, .int .i64 7, .int .i64 63] 106 (0, 0)) := by rw [hwa]; exact heap_alloc_new _ _
    have hsa : wa.heap.size = w.heap.size + 1 := by rw [hwa]; simp
    have hra := h.kept hka
    have hEa := hka.cell hE (by simp)
    have HKA := (show Hid _ from hka)
    have HBLK := (show Hid _ from hblk)
    have H2 : Hid (∀ (w' : World), w' = w.alloc (.cells #[.int .u64 2, .int .i64 2, .int .i64 7, .int .i64 63] 106) → w' = wa) := fun w' h => h.trans hwa.symm
    have z2 : wa.cell? ⟨w.heap.size, 2, none⟩ = some (.int .i64 7) := cells_of hblk 2
    unfold formVal
    by_cases hfit : i + 7 ≤ N
    · have hvl : BitMath.valB (BitMath.readB l i 7) < 128 := read_lt l i 7 N hN8 hfit
      have hget : Calls Tryd.prog 25 #[.pointer (some ⟨x, 0, none⟩), .int .i64 7] wa fun e w' => e = .returned (.tuple #[.int .u64 (BitMath.valB (BitMath.readB l i 7) : Int), .nilIface]) ∧ IsReader w' x g cap l (i + 7) N ∧ Kept [x] wa w' ∧ w'.heap.size = wa.heap.size := get_ok wa x g cap l i N hra 7 (by decide) hfit
      obtain ⟨v, hv⟩ : ∃ v, v = BitMath.valB (BitMath.readB l i 7) := ⟨_, rfl⟩
      rw [← hv] at hget hvl
      have hnum : BitMath.numOf 1 (BitMath.valB (BitMath.readB l i (BitMath.wideOf 1))) = BitMath.numOf 1 v := by rw [hv]; rfl
      have HNUM := (show Hid _ from hnum.trans (num_small 1 v (by omega)))
      have HGET := (show Hid _ from hget)
      have HFIT := (show Hid _ from hfit)
      have hvI : (v : Int) ≤ 127 := by omega
      have hw64 : wrap64 (v : Int) = (v : Int) := by unfold wrap64; omega
      clear hwa hka hblk hra hEa hE h hget hv hnum hfit hN8 hvl
      go_enter Tryd.func62, Tryd.ntmps62
      go_wp2_with fail
      have hww := H2.out _ rfl
      rw [hww]
      clear hww
      refine Calls.mono HGET.out ?_
      rintro e w1 ⟨rfl, hr1, hk1, hs1⟩
      have hblk1 : w1.heap[w.heap.size]? = some (.cells #[.int .u64 2, .int .i64 2, .int .i64 7, .int .i64 63] 106 (0, 0)) := (hk1.block _ (by omega) (by simp; omega)).trans HBLK.out
      have z3 : w1.cell? ⟨w.heap.size, 3, none⟩ = some (.int .i64 63) := cells_of hblk1 3
      have HK1 := (show Hid _ from HKA.out.none.trans hk1 (fun y hy => .inl hy))
      have HR1 := (show Hid _ from hr1)
      clear z2 hblk1 hk1 hr1
      go_wp2
      go_ret2
      exact ⟨HK1.out, .inl ⟨HFIT.out, congrArg (fun n => Ending.returned (.tuple #[.int .i64 n, .nilIface])) (by rw [HNUM.out]; rfl), HR1.out⟩⟩
    · have hget := get_none wa x g cap l i N hra 7 a hEa (by decide) (by decide) (by have := hra.hi; omega)
      have HGET := (show Hid _ from hget)
      have HFIT : Hid (N < i + 7) := (by omega : N < i + 7)
      have HRA := (show Hid _ from hra)
      clear hwa hka hblk hra hEa hE h hget hfit hN8
      go_enter Tryd.func62, Tryd.ntmps62
      go_wp2_with fail
      have hww := H2.out _ rfl
      rw [hww]
      clear hww
      refine Calls.mono HGET.out ?_
      rintro e w1 ⟨rfl, q, rfl⟩
      clear z2
      go_wp2
      go_ret2
      exact ⟨(HKA.out.none).draws q, .inr ⟨HFIT.out, rfl, HRA.out.drewN q⟩⟩
  | 2, _ =>
    obtain ⟨wa, hwa⟩ : ∃ wa, wa = w.alloc (.cells #[.int .u64 6, .int .i64 3, .int .i64 9, .int .i64 255] 106) := ⟨_, rfl⟩
    have hka : Kept [] w wa := by rw [hwa]; exact (Kept.refl _ _).alloc _
    have hblk : wa.heap[w.heap.size]? = some (.cells #[.int .u64 6, .int .i64 3, .int .i64 9, .int .i64 255] 106 (0, 0)) := by rw [hwa]; exact heap_alloc_new _ _
    have hsa : wa.heap.size = w.heap.size + 1 := by rw [hwa]; simp
    have hra := h.kept hka
    have hEa := hka.cell hE (by simp)
    have HKA := (show Hid _ from hka)
    have HBLK := (show Hid _ from hblk)
    have H2 : Hid (∀ (w' : World), w' = w.alloc (.cells #[.int .u64 6, .int .i64 3, .int .i64 9, .int .i64 255] 106) → w' = wa) := fun w' h => h.trans hwa.symm
    have z2 : wa.cell? ⟨w.heap.size, 2, none⟩ = some (.int .i64 9) := cells_of hblk 2
    unfold formVal
    by_cases hfit : i + 9 ≤ N
    · have hvl : BitMath.valB (BitMath.readB l i 9) < 512 := read_lt l i 9 N hN8 hfit
      have hget : Calls Tryd.prog 25 #[.pointer (some ⟨x, 0, none⟩), .int .i64 9] wa fun e w' => e = .returned (.tuple #[.int .u64 (BitMath.valB (BitMath.readB l i 9) : Int), .nilIface]) ∧ IsReader w' x g cap l (i + 9) N ∧ Kept [x] wa w' ∧ w'.heap.size = wa.heap.size := get_ok wa x g cap l i N hra 9 (by decide) hfit
      obtain ⟨v, hv⟩ : ∃ v, v = BitMath.valB (BitMath.readB l i 9) := ⟨_, rfl⟩
      rw [← hv] at hget hvl
      have hnum : BitMath.numOf 2 (BitMath.valB (BitMath.readB l i (BitMath.wideOf 2))) = BitMath.numOf 2 v := by rw [hv]; rfl
      have HNUM := (show Hid _ from hnum.trans (num_small 2 v (by omega)))
      have HGET := (show Hid _ from hget)
      have HFIT := (show Hid _ from hfit)
      have hvI : (v : Int) ≤ 511 := by omega
      have hw64 : wrap64 (v : Int) = (v : Int) := by unfold wrap64; omega
      clear hwa hka hblk hra hEa hE h hget hv hnum hfit hN8 hvl
      go_enter Tryd.func62, Tryd.ntmps62
      go_wp2_with fail
      have hww := H2.out _ rfl
      rw [hww]
      clear hww
      refine Calls.mono HGET.out ?_
      rintro e w1 ⟨rfl, hr1, hk1, hs1⟩
      have hblk1 : w1.heap[w.heap.size]? = some (.cells #[.int .u64 6, .int .i64 3, .int .i64 9, .int .i64 255] 106 (0, 0)) := (hk1.block _ (by omega) (by simp; omega)).trans HBLK.out
      have z3 : w1.cell? ⟨w.heap.size, 3, none⟩ = some (.int .i64 255) := cells_of hblk1 3
      have HK1 := (show Hid _ from HKA.out.none.trans hk1 (fun y hy => .inl hy))
      have HR1 := (show Hid _ from hr1)
      clear z2 hblk1 hk1 hr1
      go_wp2
      go_ret2
      exact ⟨HK1.out, .inl ⟨HFIT.out, congrArg (fun n => Ending.returned (.tuple #[.int .i64 n, .nilIface])) (by rw [HNUM.out]; rfl), HR1.out⟩⟩
    · have hget := get_none wa x g cap l i N hra 9 a hEa (by decide) (by decide) (by have := hra.hi; omega)
      have HGET := (show Hid _ from hget)
      have HFIT : Hid (N < i + 9) := (by omega : N < i + 9)
      have HRA := (show Hid _ from hra)
      clear hwa hka hblk hra hEa hE h hget hfit hN8
      go_enter Tryd.func62, Tryd.ntmps62
      go_wp2_with fail
      have hww := H2.out _ rfl
      rw [hww]
      clear hww
      refine Calls.mono HGET.out ?_
      rintro e w1 ⟨rfl, q, rfl⟩
      clear z2
      go_wp2
      go_ret2
      exact ⟨(HKA.out.none).draws q, .inr ⟨HFIT.out, rfl, HRA.out.drewN q⟩⟩
  | 3, _ =>
    obtain ⟨wa, hwa⟩ : ∃ wa, wa = w.alloc (.cells #[.int .u64 14, .int .i64 4, .int .i64 12, .int .i64 2047] 106) := ⟨_, rfl⟩
    have hka : Kept [] w wa := by rw [hwa]; exact (Kept.refl _ _).alloc _
    have hblk : wa.heap[w.heap.size]? = some (.cells #[.int .u64 14, .int .i64 4, .int .i64 12, .int .i64 2047] 106 (0, 0)) := by rw [hwa]; exact heap_alloc_new _ _
    have hsa : wa.heap.size = w.heap.size + 1 := by rw [hwa]; simp
    have hra := h.kept hka
    have hEa := hka.cell hE (by simp)
    have HKA := (show Hid _ from hka)
    have HBLK := (show Hid _ from hblk)
    have H2 : Hid (∀ (w' : World), w' = w.alloc (.cells #[.int .u64 14, .int .i64 4, .int .i64 12, .int .i64 2047] 106) → w' = wa) := fun w' h => h.trans hwa.symm
    have z2 : wa.cell? ⟨w.heap.size, 2, none⟩ = some (.int .i64 12) := cells_of hblk 2
    unfold formVal
    by_cases hfit : i + 12 ≤ N
    · have hvl : BitMath.valB (BitMath.readB l i 12) < 4096 := read_lt l i 12 N hN8 hfit
      have hget : Calls Tryd.prog 25 #[.pointer (some ⟨x, 0, none⟩), .int .i64 12] wa fun e w' => e = .returned (.tuple #[.int .u64 (BitMath.valB (BitMath.readB l i 12) : Int), .nilIface]) ∧ IsReader w' x g cap l (i + 12) N ∧ Kept [x] wa w' ∧ w'.heap.size = wa.heap.size := get_ok wa x g cap l i N hra 12 (by decide) hfit
      obtain ⟨v, hv⟩ : ∃ v, v = BitMath.valB (BitMath.readB l i 12) := ⟨_, rfl⟩
      rw [← hv] at hget hvl
      have hnum : BitMath.numOf 3 (BitMath.valB (BitMath.readB l i (BitMath.wideOf 3))) = BitMath.numOf 3 v := by rw [hv]; rfl
      have HNUM := (show Hid _ from hnum.trans (num_small 3 v (by omega)))
      have HGET := (show Hid _ from hget)
      have HFIT := (show Hid _ from hfit)
      have hvI : (v : Int) ≤ 4095 := by omega
      have hw64 : wrap64 (v : Int) = (v : Int) := by unfold wrap64; omega
      clear hwa hka hblk hra hEa hE h hget hv hnum hfit hN8 hvl
      go_enter Tryd.func62, Tryd.ntmps62
      go_wp2_with fail
      have hww := H2.out _ rfl
      rw [hww]
      clear hww
      refine Calls.mono HGET.out ?_
      rintro e w1 ⟨rfl, hr1, hk1, hs1⟩
      have hblk1 : w1.heap[w.heap.size]? = some (.cells #[.int .u64 14, .int .i64 4, .int .i64 12, .int .i64 2047] 106 (0, 0)) := (hk1.block _ (by omega) (by simp; omega)).trans HBLK.out
      have z3 : w1.cell? ⟨w.heap.size, 3, none⟩ = some (.int .i64 2047) := cells_of hblk1 3
      have HK1 := (show Hid _ from HKA.out.none.trans hk1 (fun y hy => .inl hy))
      have HR1 := (show Hid _ from hr1)
      clear z2 hblk1 hk1 hr1
      go_wp2
      go_ret2
      exact ⟨HK1.out, .inl ⟨HFIT.out, congrArg (fun n => Ending.returned (.tuple #[.int .i64 n, .nilIface])) (by rw [HNUM.out]; rfl), HR1.out⟩⟩
    · have hget := get_none wa x g cap l i N hra 12 a hEa (by decide) (by decide) (by have := hra.hi; omega)
      have HGET := (show Hid _ from hget)
      have HFIT : Hid (N < i + 12) := (by omega : N < i + 12)
      have HRA := (show Hid _ from hra)
      clear hwa hka hblk hra hEa hE h hget hfit hN8
      go_enter Tryd.func62, Tryd.ntmps62
      go_wp2_with fail
      have hww := H2.out _ rfl
      rw [hww]
      clear hww
      refine Calls.mono HGET.out ?_
      rintro e w1 ⟨rfl, q, rfl⟩
      clear z2
      go_wp2
      go_ret2
      exact ⟨(HKA.out.none).draws q, .inr ⟨HFIT.out, rfl, HRA.out.drewN q⟩⟩
  | 4, _ =>
    obtain ⟨wa, hwa⟩ : ∃ wa, wa = w.alloc (.cells #[.int .u64 15, .int .i64 4, .int .i64 64, .int .i64 0] 106) := ⟨_, rfl⟩
    have hka : Kept [] w wa := by rw [hwa]; exact (Kept.refl _ _).alloc _
    have hblk : wa.heap[w.heap.size]? = some (.cells #[.int .u64 15, .int .i64 4, .int .i64 64, .int .i64 0] 106 (0, 0)) := by rw [hwa]; exact heap_alloc_new _ _
    have hsa : wa.heap.size = w.heap.size + 1 := by rw [hwa]; simp
    have hra := h.kept hka
    have hEa := hka.cell hE (by simp)
    have HKA := (show Hid _ from hka)
    have HBLK := (show Hid _ from hblk)
    have H2 : Hid (∀ (w' : World), w' = w.alloc (.cells #[.int .u64 15, .int .i64 4, .int .i64 64, .int .i64 0] 106) → w' = wa) := fun w' h => h.trans hwa.symm
    have z2 : wa.cell? ⟨w.heap.size, 2, none⟩ = some (.int .i64 64) := cells_of hblk 2
    unfold formVal
    by_cases hfit : i + 64 ≤ N
    · have hvl : BitMath.valB (BitMath.readB l i 64) < 18446744073709551616 := read_lt l i 64 N hN8 hfit
      have hget : Calls Tryd.prog 25 #[.pointer (some ⟨x, 0, none⟩), .int .i64 64] wa fun e w' => e = .returned (.tuple #[.int .u64 (BitMath.valB (BitMath.readB l i 64) : Int), .nilIface]) ∧ IsReader w' x g cap l (i + 64) N ∧ Kept [x] wa w' ∧ w'.heap.size = wa.heap.size := get_ok wa x g cap l i N hra 64 (by decide) hfit
      obtain ⟨v, hv⟩ : ∃ v, v = BitMath.valB (BitMath.readB l i 64) := ⟨_, rfl⟩
      rw [← hv] at hget hvl
      have hnum : BitMath.numOf 4 (BitMath.valB (BitMath.readB l i (BitMath.wideOf 4))) = BitMath.numOf 4 v := by rw [hv]; rfl
      have HNUM := (show Hid _ from hnum.trans (num_four v (by omega)))
      have HGET := (show Hid _ from hget)
      have HFIT := (show Hid _ from hfit)
      have hvI : (v : Int) ≤ 18446744073709551615 := by omega
      skip
      clear hwa hka hblk hra hEa hE h hget hv hnum hfit hN8 hvl
      go_enter Tryd.func62, Tryd.ntmps62
      go_wp2_with fail
      have hww := H2.out _ rfl
      rw [hww]
      clear hww
      refine Calls.mono HGET.out ?_
      rintro e w1 ⟨rfl, hr1, hk1, hs1⟩
      have hblk1 : w1.heap[w.heap.size]? = some (.cells #[.int .u64 15, .int .i64 4, .int .i64 64, .int .i64 0] 106 (0, 0)) := (hk1.block _ (by omega) (by simp; omega)).trans HBLK.out
      have z3 : w1.cell? ⟨w.heap.size, 3, none⟩ = some (.int .i64 0) := cells_of hblk1 3
      have HK1 := (show Hid _ from HKA.out.none.trans hk1 (fun y hy => .inl hy))
      have HR1 := (show Hid _ from hr1)
      clear z2 hblk1 hk1 hr1
      go_wp2
      go_ret2
      exact ⟨HK1.out, .inl ⟨HFIT.out, congrArg (fun n => Ending.returned (.tuple #[.int .i64 n, .nilIface])) (by rw [HNUM.out]; unfold wrap64; omega), HR1.out⟩⟩
    · have hget := get_none wa x g cap l i N hra 64 a hEa (by decide) (by decide) (by have := hra.hi; omega)
      have HGET := (show Hid _ from hget)
      have HFIT : Hid (N < i + 64) := (by omega : N < i + 64)
      have HRA := (show Hid _ from hra)
      clear hwa hka hblk hra hEa hE h hget hfit hN8
      go_enter Tryd.func62, Tryd.ntmps62
      go_wp2_with fail
      have hww := H2.out _ rfl
      rw [hww]
      clear hww
      refine Calls.mono HGET.out ?_
      rintro e w1 ⟨rfl, q, rfl⟩
      clear z2
      go_wp2
      go_ret2
      exact ⟨(HKA.out.none).draws q, .inr ⟨HFIT.out, rfl, HRA.out.drewN q⟩⟩
end Go.Proofs.YtgdflopgdlpimaaDoor
