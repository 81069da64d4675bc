/- Package wave's Get by its contract. -/
import Derived.Test.YtlbdjkeaohdjkabDoorWaveForm
import Derived.Test.YtlbdjkeaohdjkabDoorRead1Group
import Derived.Test.YtlbdjkeaohdjkabDoorPutGroup
namespace Go.Proofs.YtlbdjkeaohdjkabDoor
open Go.RowKit

/-- What reading leaves: the reader's own block may change, nothing else. -/
theorem Kept.draws {S : List Nat} {a w : World} (h : Kept S a w) (q : Nat) : Kept S a (w.drewN q) := ⟨h.os, h.tape, h.output, h.size, h.block⟩
theorem IsReader.kept {w w' : World} {x g cap : Nat} {l : List UInt8} {i n : Nat} (h : IsReader w x g cap l i n) (k : Kept [] w w') : IsReader w' x g cap l i n :=
  ⟨(k.block x h.lt (by simp)).trans h.hb, fun j hj => by
    have hg : g < w.heap.size := Nat.lt_trans h.hg h.lt
    have hb := k.block g hg (by simp)
    have := h.hc j hj
    simp only [World.cell?, hb] at this ⊢
    exact this, h.hcap, h.hg, h.hi, h.hn, h.hl⟩
theorem Kept.cell {S : List Nat} {w w' : World} (k : Kept S w w') {b o : Nat} {v : Value} (h : w.cell? ⟨b, o, none⟩ = some v) (hb : b ∉ S) : w'.cell? ⟨b, o, none⟩ = some v := by
  have hl := lt_of_cell h
  have e := k.block b hl hb
  simp only [World.cell?, e] at h ⊢
  exact h
theorem Forms.kept {S : List Nat} {w w' : World} (h : Forms w) (k : Kept S w w') (hS : 7 ∉ S) : Forms w' := fun i hi => by
  have e := k.block 7 h.lt hS
  have := h i hi
  simp only [World.cell?, e] at this ⊢
  exact this
theorem Kept.none {S : List Nat} {w w' : World} (h : Kept [] w w') : Kept S w w' := ⟨h.os, h.tape, h.output, h.size, fun k hk _ => h.block k hk (by simp)⟩

theorem bit_read (l : List UInt8) (i k N : Nat) (hN : N ≤ 8 * l.length) (h : i + k + 1 ≤ N) (b : Bool) (hb : (BitMath.restB l i N)[k]? = some b) : BitMath.valB (BitMath.readB l (i + k) 1) = b.toNat := by
  rw [BitMath.readB_rest l (i + k) 1 N h, BitMath.restB_drop]
  have hl := BitMath.length_restB l i N hN
  have hk : k < (BitMath.restB l i N).length := by omega
  rw [List.drop_eq_getElem_cons hk, List.take_succ_cons, List.take_zero, BitMath.valB_one]
  rw [List.getElem?_eq_getElem hk] at hb
  rw [Option.some.inj hb]

/-- Behind the result's four cells. -/
theorem stored_kept {w wa wr : World} {x : Nat} (hka : Kept [] w wa) (hkr : Kept [x] wa wr) (a b c d : Value) : Kept [x] w ((((wr.setCell ⟨w.heap.size, 0, none⟩ a).setCell ⟨w.heap.size, 1, none⟩ b).setCell ⟨w.heap.size, 2, none⟩ c).setCell ⟨w.heap.size, 3, none⟩ d) := by
  have h : Kept [x] w wr := hka.none.trans hkr (fun y hy => .inl hy)
  exact (((h.setCell (.inr (Nat.le_refl _)) _).setCell (.inr (Nat.le_refl _)) _).setCell (.inr (Nat.le_refl _)) _).setCell (.inr (Nat.le_refl _)) _
theorem reader_set {w : World} {x g cap : Nat} {l : List UInt8} {i n : Nat} (h : IsReader w x g cap l i n) (b o : Nat) (hx : x ≠ b) (hg : g ≠ b) (v : Value) : IsReader (w.setCell ⟨b, o, none⟩ v) x g cap l i n := by
  refine ⟨?_, fun j hj => ?_, h.hcap, h.hg, h.hi, h.hn, h.hl⟩
  · rw [Below.heap_setCell _ _ _ _ (by simpa using hx)]
    exact h.hb
  · rw [World.cell?_setCell_other _ _ _ _ (by intro e; exact hg (congrArg Addr.block e).symm)]
    exact h.hc j hj
theorem stored_read {wr : World} {x g cap : Nat} {l : List UInt8} {i n r : Nat} (h : IsReader wr x g cap l i n) (hx : x < r) (_hy : 0 < r) (a b c d : Value) : IsReader ((((wr.setCell ⟨r, 0, none⟩ a).setCell ⟨r, 1, none⟩ b).setCell ⟨r, 2, none⟩ c).setCell ⟨r, 3, none⟩ d) x g cap l i n := by
  have hg := h.hg
  exact reader_set (reader_set (reader_set (reader_set h r 0 (by omega) (by omega) _) r 1 (by omega) (by omega) _) r 2 (by omega) (by omega) _) r 3 (by omega) (by omega) _

/-- The zero value of a form. -/
def noForm : Value := .agg #[.int .u64 0, .int .i64 0, .int .i64 0, .int .i64 0]

set_option maxRecDepth 1000000 in
set_option maxHeartbeats 4000000 in
theorem getForm_any (w : World) (x g cap : Nat) (l : List UInt8) (i N : Nat) (h : IsReader w x g cap l i N) (hF : Forms w) (a : Addr) (hE : w.cell? ⟨0, 0, none⟩ = some (.iface 264 (.pointer (some a)))) (hxF : x ≠ 7) (hxE : x ≠ 0) :
    Calls Tryd.prog 164 #[.pointer (some ⟨x, 0, none⟩)] w fun e w' => Kept [x] w w' ∧ 
      ((e = .returned (.tuple #[formVal (BitMath.onesOf (BitMath.restB l i N) 4), .nilIface]) ∧ (BitMath.headOf (BitMath.onesOf (BitMath.restB l i N) 4)).length ≤ (BitMath.restB l i N).length ∧ IsReader w' x g cap l (i + (BitMath.headOf (BitMath.onesOf (BitMath.restB l i N) 4)).length) N) ∨
       (e = .returned (.tuple #[noForm, .iface 264 (.pointer (some a))]) ∧ (BitMath.restB l i N).length < (BitMath.headOf (BitMath.onesOf (BitMath.restB l i N) 4)).length ∧ ∃ j, i ≤ j ∧ IsReader w' x g cap l j N)) := by
  have HF : Hid (Forms w) := hF
  have HX := (show Hid _ from h)
  have HE := (show Hid _ from hE)
  have hxl := h.lt
  have hlD := BitMath.length_restB l i N h.hn
  have hiN := h.hi
  generalize hD : BitMath.restB l i N = D at *
  have HD := (show Hid _ from hD)
  have HLD := (show Hid _ from hlD)
  have hN8 := h.hn
  have HN8 := (show Hid _ from hN8)
  clear hF h hE hD hlD hN8
  go_enter Tryd.func164, Tryd.ntmps164
  go_wp2_with fail
  generalize hw0 : w.alloc (.cells #[.int .u64 0, .int .i64 0, .int .i64 0, .int .i64 0] 103) = wa
  have hka : Kept [] w wa := by rw [← hw0]; exact (Kept.refl _ _).alloc _
  have hwa : wa.heap[w.heap.size]? = some (.cells #[.int .u64 0, .int .i64 0, .int .i64 0, .int .i64 0] 103 (0, 0)) := by rw [← hw0]; exact heap_alloc_new _ _
  have hsa : wa.heap.size = w.heap.size + 1 := by rw [← hw0]; simp
  have HWA := (show Hid _ from hwa)
  have HKA := (show Hid _ from hka)
  have HXA := (show Hid _ from HX.out.kept hka)
  clear hw0 hwa hka
  go_loopw [4, 5, 6] (fun c _ _ wr => ∃ k : Nat, k ≤ 4 ∧ c = .int .i64 k ∧ (∀ j, j < k → D[j]? = some true) ∧ IsReader wr x g cap l (i + k) N ∧ Kept [x] wa wr) (fun c _ _ _ => 4 - (intOf c).toNat)
  case atStart => exact ⟨0, Nat.zero_le _, rfl, fun j hj => absurd hj (by omega), HXA.out, Kept.refl _ _⟩
  case round =>
    obtain ⟨k, hk, rfl, hones, hrd, hkr⟩ := hrel
    have hsr := hkr.size
    have hFr := (HF.out.kept HKA.out (by simp)).kept hkr (by simp; omega)
    have hEr : wr.cell? ⟨0, 0, none⟩ = some (.iface 264 (.pointer (some a))) := hkr.cell (HKA.out.cell HE.out (by simp)) (by simp; omega)
    have HO := (show Hid _ from hones)
    have HKR := (show Hid _ from hkr)
    have HRD := (show Hid _ from hrd)
    have HFR : Hid (Forms wr) := hFr
    clear hones hkr hrd hFr HX HXA
    by_cases hk4 : k = 4
    · subst hk4
      have hon : BitMath.onesOf D 4 = 4 := BitMath.onesOf_eq 4 D 4 (Nat.le_refl _) HO.out (fun h => absurd h (by omega))
      have hDl : 4 ≤ D.length := by
        have := HO.out 3 (by omega)
        rcases Nat.lt_or_ge 3 D.length with h | h
        · omega
        · rw [List.getElem?_eq_none h] at this; cases this
      have HON := (show Hid _ from hon)
      have HDL := (show Hid _ from hDl)
      have hFr := HFR.out
      have f0 : wr.cell? ⟨7, 16, none⟩ = some (.int .u64 15) := hFr 16 (by omega)
      have f1 : wr.cell? ⟨7, 17, none⟩ = some (.int .i64 4) := hFr 17 (by omega)
      have f2 : wr.cell? ⟨7, 18, none⟩ = some (.int .i64 64) := hFr 18 (by omega)
      have f3 : wr.cell? ⟨7, 19, none⟩ = some (.int .i64 0) := hFr 19 (by omega)
      clear hFr hEr hon hDl
      have hblk : wr.heap[w.heap.size]? = some (.cells #[.int .u64 0, .int .i64 0, .int .i64 0, .int .i64 0] 103 (0, 0)) := (HKR.out.block _ (by omega) (by simp; omega)).trans HWA.out
      have z0 := cells_of hblk 0
      have z1 := cells_of hblk 1
      have z2 := cells_of hblk 2
      have z3 := cells_of hblk 3
      have y0 := frozen_of hblk 0
      have y1 := frozen_of hblk 1
      have y2 := frozen_of hblk 2
      have y3 := frozen_of hblk 3
      simp only [List.getElem?_toArray] at z0 z1 z2 z3
      clear hblk
      go_wp2
      refine bodyPost_ret (v := .tuple #[formVal 4, .nilIface]) (by simp [results, Tryd.results164, go_sem, formVal, z0, z1, z2, z3]) rfl ⟨?_, .inl ⟨by rw [HON.out], by rw [HON.out]; exact HDL.out, ?_⟩⟩
      · exact stored_kept HKA.out HKR.out _ _ _ _
      · rw [HON.out]
        exact stored_read HRD.out (by omega) (by omega) _ _ _ _
    · have hk3 : k < 4 := by omega
      by_cases hmore : i + k + 1 ≤ N
      · have hkD : k < D.length := by have := HLD.out; omega
        obtain ⟨b, hb⟩ : ∃ b, D[k]? = some b := ⟨D[k], List.getElem?_eq_getElem hkD⟩
        have hval := bit_read l i k N HN8.out hmore b (by rw [HD.out]; exact hb)
        have hget := get_ok wr x g cap l (i + k) N HRD.out 1 (by decide) hmore
        rw [hval] at hget
        have HGET := (show Hid _ from hget)
        have hkI : (k : Int) < 4 := by omega
        clear hget hval hEr
        cases b with
        | true =>
          have HB := (show Hid _ from hb)
          clear hb
          go_wp2_with fail
          refine Calls.mono HGET.out ?_
          rintro e w1 ⟨rfl, hr1, hk1, hs1⟩
          have HR1 := (show Hid _ from hr1)
          have HK1 := (show Hid _ from HKR.out.trans hk1 (fun y hy => .inl hy))
          clear hr1 hk1 hs1
          go_wp2
          go_roundw
          case rel =>
            refine ⟨k + 1, by omega, by go_num, fun j hj => ?_, HR1.out, HK1.out⟩
            rcases Nat.lt_or_ge j k with h | h
            · exact HO.out j h
            · have : j = k := by omega
              subst this
              exact HB.out
          case measure => simp [intOf]; omega
        | false =>
          have hon : BitMath.onesOf D 4 = k := BitMath.onesOf_eq 4 D k (by omega) HO.out (fun _ => by rw [List.getD_eq_getElem?_getD, hb]; rfl)
          have hhl : (BitMath.headOf k).length = k + 1 := by rw [BitMath.length_headOf, if_pos (by omega)]
          have HON := (show Hid _ from hon)
          have HHL := (show Hid _ from hhl)
          have HKD : Hid (k < D.length) := hkD
          clear hon hhl hb hkD
          go_wp2_with fail
          refine Calls.mono HGET.out ?_
          rintro e w1 ⟨rfl, hr1, hk1, hs1⟩
          have HR1 := (show Hid _ from hr1)
          have HK1 := (show Hid _ from HKR.out.trans hk1 (fun y hy => .inl hy))
          have hF1 := HFR.out.kept hk1 (by simp; omega)
          have hs2 : wa.heap.size ≤ w1.heap.size := by omega
          clear hr1 hk1 HGET
          rcases (by omega : k = 0 ∨ k = 1 ∨ k = 2 ∨ k = 3) with rfl | rfl | rfl | rfl
          · have f0 : w1.cell? ⟨7, 0, none⟩ = some (.int .u64 0) := hF1 0 (by omega)
            have f1 : w1.cell? ⟨7, 1, none⟩ = some (.int .i64 1) := hF1 1 (by omega)
            have f2 : w1.cell? ⟨7, 2, none⟩ = some (.int .i64 0) := hF1 2 (by omega)
            have f3 : w1.cell? ⟨7, 3, none⟩ = some (.int .i64 0) := hF1 3 (by omega)
            clear hF1
            have hblk : w1.heap[w.heap.size]? = some (.cells #[.int .u64 0, .int .i64 0, .int .i64 0, .int .i64 0] 103 (0, 0)) := (HK1.out.block _ (by omega) (by simp; omega)).trans HWA.out
            have z0 := cells_of hblk 0
            have z1 := cells_of hblk 1
            have z2 := cells_of hblk 2
            have z3 := cells_of hblk 3
            have y0 := frozen_of hblk 0
            have y1 := frozen_of hblk 1
            have y2 := frozen_of hblk 2
            have y3 := frozen_of hblk 3
            simp only [List.getElem?_toArray] at z0 z1 z2 z3
            clear hblk
            go_wp2
            refine bodyPost_ret (v := .tuple #[formVal 0, .nilIface]) (by simp [results, Tryd.results164, go_sem, formVal, z0, z1, z2, z3]) rfl ⟨?_, .inl ⟨by rw [HON.out], by rw [HON.out]; exact HKD.out, ?_⟩⟩
            · exact stored_kept HKA.out HK1.out _ _ _ _
            · rw [HON.out]
              exact stored_read HR1.out (by omega) (by omega) _ _ _ _
          · have f0 : w1.cell? ⟨7, 4, none⟩ = some (.int .u64 2) := hF1 4 (by omega)
            have f1 : w1.cell? ⟨7, 5, none⟩ = some (.int .i64 2) := hF1 5 (by omega)
            have f2 : w1.cell? ⟨7, 6, none⟩ = some (.int .i64 7) := hF1 6 (by omega)
            have f3 : w1.cell? ⟨7, 7, none⟩ = some (.int .i64 63) := hF1 7 (by omega)
            clear hF1
            have hblk : w1.heap[w.heap.size]? = some (.cells #[.int .u64 0, .int .i64 0, .int .i64 0, .int .i64 0] 103 (0, 0)) := (HK1.out.block _ (by omega) (by simp; omega)).trans HWA.out
            have z0 := cells_of hblk 0
            have z1 := cells_of hblk 1
            have z2 := cells_of hblk 2
            have z3 := cells_of hblk 3
            have y0 := frozen_of hblk 0
            have y1 := frozen_of hblk 1
            have y2 := frozen_of hblk 2
            have y3 := frozen_of hblk 3
            simp only [List.getElem?_toArray] at z0 z1 z2 z3
            clear hblk
            go_wp2
            refine bodyPost_ret (v := .tuple #[formVal 1, .nilIface]) (by simp [results, Tryd.results164, go_sem, formVal, z0, z1, z2, z3]) rfl ⟨?_, .inl ⟨by rw [HON.out], by rw [HON.out]; exact HKD.out, ?_⟩⟩
            · exact stored_kept HKA.out HK1.out _ _ _ _
            · rw [HON.out]
              exact stored_read HR1.out (by omega) (by omega) _ _ _ _
          · have f0 : w1.cell? ⟨7, 8, none⟩ = some (.int .u64 6) := hF1 8 (by omega)
            have f1 : w1.cell? ⟨7, 9, none⟩ = some (.int .i64 3) := hF1 9 (by omega)
            have f2 : w1.cell? ⟨7, 10, none⟩ = some (.int .i64 9) := hF1 10 (by omega)
            have f3 : w1.cell? ⟨7, 11, none⟩ = some (.int .i64 255) := hF1 11 (by omega)
            clear hF1
            have hblk : w1.heap[w.heap.size]? = some (.cells #[.int .u64 0, .int .i64 0, .int .i64 0, .int .i64 0] 103 (0, 0)) := (HK1.out.block _ (by omega) (by simp; omega)).trans HWA.out
            have z0 := cells_of hblk 0
            have z1 := cells_of hblk 1
            have z2 := cells_of hblk 2
            have z3 := cells_of hblk 3
            have y0 := frozen_of hblk 0
            have y1 := frozen_of hblk 1
            have y2 := frozen_of hblk 2
            have y3 := frozen_of hblk 3
            simp only [List.getElem?_toArray] at z0 z1 z2 z3
            clear hblk
            go_wp2
            refine bodyPost_ret (v := .tuple #[formVal 2, .nilIface]) (by simp [results, Tryd.results164, go_sem, formVal, z0, z1, z2, z3]) rfl ⟨?_, .inl ⟨by rw [HON.out], by rw [HON.out]; exact HKD.out, ?_⟩⟩
            · exact stored_kept HKA.out HK1.out _ _ _ _
            · rw [HON.out]
              exact stored_read HR1.out (by omega) (by omega) _ _ _ _
          · have f0 : w1.cell? ⟨7, 12, none⟩ = some (.int .u64 14) := hF1 12 (by omega)
            have f1 : w1.cell? ⟨7, 13, none⟩ = some (.int .i64 4) := hF1 13 (by omega)
            have f2 : w1.cell? ⟨7, 14, none⟩ = some (.int .i64 12) := hF1 14 (by omega)
            have f3 : w1.cell? ⟨7, 15, none⟩ = some (.int .i64 2047) := hF1 15 (by omega)
            clear hF1
            have hblk : w1.heap[w.heap.size]? = some (.cells #[.int .u64 0, .int .i64 0, .int .i64 0, .int .i64 0] 103 (0, 0)) := (HK1.out.block _ (by omega) (by simp; omega)).trans HWA.out
            have z0 := cells_of hblk 0
            have z1 := cells_of hblk 1
            have z2 := cells_of hblk 2
            have z3 := cells_of hblk 3
            have y0 := frozen_of hblk 0
            have y1 := frozen_of hblk 1
            have y2 := frozen_of hblk 2
            have y3 := frozen_of hblk 3
            simp only [List.getElem?_toArray] at z0 z1 z2 z3
            clear hblk
            go_wp2
            refine bodyPost_ret (v := .tuple #[formVal 3, .nilIface]) (by simp [results, Tryd.results164, go_sem, formVal, z0, z1, z2, z3]) rfl ⟨?_, .inl ⟨by rw [HON.out], by rw [HON.out]; exact HKD.out, ?_⟩⟩
            · exact stored_kept HKA.out HK1.out _ _ _ _
            · rw [HON.out]
              exact stored_read HR1.out (by omega) (by omega) _ _ _ _
      · have hget := get_none wr x g cap l (i + k) N HRD.out 1 a hEr (by decide) (by decide) (by omega)
        have HGET := (show Hid _ from hget)
        have hkI : (k : Int) < 4 := by omega
        have hon : D.length < (BitMath.headOf (BitMath.onesOf D 4)).length := by
          have hDk : D.length = k := by have := HLD.out; have := HRD.out.hi; omega
          have : BitMath.onesOf D 4 = k := BitMath.onesOf_eq 4 D k (by omega) HO.out (fun _ => by rw [List.getD_eq_getElem?_getD, List.getElem?_eq_none (by omega)]; rfl)
          rw [this, BitMath.length_headOf, if_pos (by omega)]
          omega
        have HON := (show Hid _ from hon)
        clear hget hon hEr
        go_wp2_with fail
        refine Calls.mono HGET.out ?_
        rintro e w1 ⟨rfl, q, rfl⟩
        have hblk : (wr.drewN q).heap[w.heap.size]? = some (.cells #[.int .u64 0, .int .i64 0, .int .i64 0, .int .i64 0] 103 (0, 0)) := ((HKR.out.draws q).block _ (by omega) (by simp; omega)).trans HWA.out
        have z0 := cells_of hblk 0
        have z1 := cells_of hblk 1
        have z2 := cells_of hblk 2
        have z3 := cells_of hblk 3
        have y0 := frozen_of hblk 0
        have y1 := frozen_of hblk 1
        have y2 := frozen_of hblk 2
        have y3 := frozen_of hblk 3
        simp only [List.getElem?_toArray] at z0 z1 z2 z3
        clear hblk
        go_wp2
        refine bodyPost_ret (v := .tuple #[noForm, .iface 264 (.pointer (some a))]) (by simp [results, Tryd.results164, go_sem, noForm, z0, z1, z2, z3]) rfl ⟨?_, .inr ⟨rfl, HON.out, i + k, by omega, ?_⟩⟩
        · exact stored_kept HKA.out (HKR.out.draws q) _ _ _ _
        · exact stored_read (HRD.out.drewN q) (by omega) (by omega) _ _ _ _
end Go.Proofs.YtlbdjkeaohdjkabDoor
