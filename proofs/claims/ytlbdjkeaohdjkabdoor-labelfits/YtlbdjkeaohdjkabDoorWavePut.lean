/- Package wave's Size and Put by contracts; the statements' helper waved. -/
import Derived.Test.YtlbdjkeaohdjkabDoorWaveForm
import Derived.Test.YtlbdjkeaohdjkabDoorPutGroup
namespace Go.Proofs.YtlbdjkeaohdjkabDoor
open Go.RowKit

/-- What becomes of a row's own block. -/
def Grew (w : World) (v v' : Value) : Prop := v'.ownBlock = v.ownBlock ∨ ∃ g, v'.ownBlock = some g ∧ w.heap.size ≤ g
theorem Grew.trans {w w1 : World} {v v1 v2 : Value} (h : Grew w v v1) (k : Grew w1 v1 v2) (hs : w.heap.size ≤ w1.heap.size) : Grew w v v2 := by
  rcases k with k | ⟨g, k, hg⟩
  · rcases h with h | ⟨g, h, hg⟩
    · exact .inl (k.trans h)
    · exact .inr ⟨g, k.trans h, hg⟩
  · exact .inr ⟨g, k, Nat.le_trans hs hg⟩
theorem Grew.mem {w : World} {v v' : Value} (h : Grew w v v') {r : Nat} : ∀ x, x ∈ r :: v'.ownBlock.toList → x ∈ r :: v.ownBlock.toList ∨ w.heap.size ≤ x := by
  intro x hx
  rcases List.mem_cons.1 hx with h1 | h1
  · exact .inl (by rw [h1]; simp)
  · rcases h with h | ⟨g, h, hg⟩
    · rw [h] at h1
      exact .inl (List.mem_cons.2 (.inr h1))
    · rw [h] at h1
      simp at h1
      subst h1
      exact .inr hg
theorem IsRow.own_lt {w : World} {r : Nat} {v : Value} {bs : List Bool} (h : IsRow w r v bs) : ∀ x, x ∈ r :: v.ownBlock.toList → x < w.heap.size := by
  intro x hx
  rcases List.mem_cons.1 hx with h1 | h1
  · rw [h1]; exact h.lt
  · rcases h.own.2 with ⟨rfl, _⟩ | ⟨g, cap, cur, rfl, hg, hh, _⟩
    · simp [Value.ownBlock] at h1
    · simp [Value.ownBlock] at h1
      subst h1
      exact lt_of_block hh

theorem wsize_any (n : Int) (w : World) (hF : Forms w) (h0 : -9223372036854775808 ≤ n) (h1 : n ≤ 9223372036854775807) :
    Calls Tryd.prog 11 #[.int .i64 n] w fun e w' => e = .returned (.int .i64 ((BitMath.waveOf n).length : Int)) ∧ Below w.heap.size w w' := by
  have HFO := (show Hid _ from formOf_any n w hF h0 h1)
  have HSZ := (show Hid _ from fun w0 => size_at (BitMath.formOf n) (BitMath.formOf_le n) w0)
  have HL := (show Hid _ from BitMath.length_waveOf n)
  clear hF
  go_enter Tryd.func11, Tryd.ntmps11
  go_wp2_with fail
  refine Calls.mono HFO.out ?_
  rintro e w1 ⟨rfl, hb1⟩
  go_wp2_with fail
  refine Calls.mono (HSZ.out _) ?_
  rintro e w2 ⟨rfl, hb2⟩
  go_wp2
  go_ret
  exact ⟨by rw [HL.out]; rfl, hb1.trans (hb2.mono hb1.size)⟩

/-- The mark of a form, as Put is handed it. -/
def markOf : Nat → Nat
  | 0 => 0
  | 1 => 2
  | 2 => 6
  | 3 => 14
  | _ => 15
theorem mark_bits (k : Nat) (hk : k ≤ 4) : BitMath.bitsOf (markOf k) (BitMath.headOf k).length = BitMath.headOf k := by
  match k, hk with
  | 0, _ => rfl
  | 1, _ => rfl
  | 2, _ => rfl
  | 3, _ => rfl
  | 4, _ => rfl

set_option maxRecDepth 1000000 in
set_option maxHeartbeats 1000000 in
theorem fput_at (k : Nat) (hk : k ≤ 4) (n : Int) (hf : BitMath.formOf n = k) (w : World) (r : Nat) (v : Value) (bs : List Bool) (h : IsRow w r v bs) (hsz : bs.length + (BitMath.waveOf n).length ≤ 1048576) (h0 : -9223372036854775808 ≤ n) (h1 : n ≤ 9223372036854775807) :
    Calls Tryd.prog 148 #[formVal k, .pointer (some ⟨r, 0, none⟩), .int .i64 n] w fun e w' => e = .returned .nilIface ∧ ∃ v', IsRow w' r v' (bs ++ BitMath.waveOf n) ∧ Kept (r :: v.ownBlock.toList) w w' ∧ Grew w v v' := by
  have hw := wave_form n k hf
  have hlen : (BitMath.waveOf n).length = (BitMath.headOf k).length + BitMath.wideOf k := by rw [BitMath.length_waveOf, hf]
  have hu := BitMath.u64_lt (n + BitMath.biasOf k)
  match k, hk with
  | 0, _ =>
    have hlen' : (BitMath.waveOf n).length = 1 + 0 := hlen
    have e0 : n + BitMath.biasOf 0 = n := by simp [BitMath.biasOf]
    rw [e0] at hw hu
    have hc : IntKind.u64.wrap (n) = (BitMath.u64 (n) : Int) := by
      rw [IntKind.wrap_u64]
      unfold BitMath.u64
      omega
    obtain ⟨u, hu0⟩ : ∃ u, u = BitMath.u64 (n) := ⟨_, rfl⟩
    rw [← hu0] at hc hw hu
    obtain ⟨wa, hwa⟩ : ∃ wa, wa = w.alloc (.cells #[.int .u64 0, .int .i64 1, .int .i64 0, .int .i64 0] 103) := ⟨_, rfl⟩
    have hrow : IsRow wa r v bs := by rw [hwa]; exact h.below ((Below.refl _ _).alloc (Nat.le_refl _) _)
    have hblk : wa.heap[w.heap.size]? = some (.cells #[.int .u64 0, .int .i64 1, .int .i64 0, .int .i64 0] 103 (0, 0)) := by rw [hwa]; exact heap_alloc_new _ _
    have hkeep : Kept (r :: v.ownBlock.toList) w wa := by rw [hwa]; exact (Kept.refl _ _).alloc _
    have hsa : wa.heap.size = w.heap.size + 1 := by rw [hwa]; simp
    have hp1 := put_grow wa r v bs hrow 0 1 (by decide) (by decide) (by omega)
    have HP1 := (show Hid _ from hp1)
    have HROW := (show Hid _ from hrow)
    have HOWN := (show Hid _ from h.own_lt)
    have HBLK := (show Hid _ from hblk)
    have HKEEP := (show Hid _ from hkeep)
    have H2 : Hid (∀ (w' : World), w' = w.alloc (.cells #[.int .u64 0, .int .i64 1, .int .i64 0, .int .i64 0] 103) → w' = wa) := fun w' h => h.trans hwa.symm
    have HW := (show Hid _ from hw)
    have HLEN := (show Hid _ from hlen')
    have HSZ := (show Hid _ from hsz)
    have HUU := (show Hid _ from hu)
    have HHH := (show Hid _ from h)
    clear hp1 hrow hblk hkeep hwa hw hlen hlen' hsz hu hu0 e0 h hf
    unfold formVal
    go_enter Tryd.func148, Tryd.ntmps148
    go_wp2_with fail
    have hww := H2.out _ rfl
    rw [hww]
    clear hww
    have HP1' : Hid (Calls Tryd.prog 83 #[.pointer (some ⟨r, 0, none⟩), .int .u64 0, .int .i64 1] wa fun e w' => e = .returned .nilIface ∧ ∃ v', IsRow w' r v' (bs ++ BitMath.bitsOf 0 1) ∧ Kept (r :: v.ownBlock.toList) wa w' ∧ Grew wa v v') := HP1.out
    clear HP1
    refine Calls.mono HP1'.out ?_
    rintro e w1 ⟨rfl, v1, hr1, hk1, hg1⟩
    have hblk1 : w1.heap[w.heap.size]? = some (.cells #[.int .u64 0, .int .i64 1, .int .i64 0, .int .i64 0] 103 (0, 0)) := by
      rw [hk1.block _ (by omega) (fun hm => by have := HOWN.out _ hm; omega)]
      exact HBLK.out
    have z2 : w1.cell? ⟨w.heap.size, 2, none⟩ = some (.int .i64 0) := cells_of hblk1 2
    have z3 : w1.cell? ⟨w.heap.size, 3, none⟩ = some (.int .i64 0) := cells_of hblk1 3
    have hp2 := put_grow w1 r v1 (bs ++ BitMath.bitsOf 0 1) hr1 u 0 (by have := HUU.out; omega) (by decide) (by rw [List.length_append, BitMath.length_bitsOf]; have := HSZ.out; have := HLEN.out; omega)
    have HP2 := (show Hid _ from hp2)
    have HK1 := (show Hid _ from hk1)
    have HG1 : Hid (Grew wa v v1) := hg1
    clear hp2 hr1 hk1 hg1 hblk1
    go_wp2_with fail
    refine Calls.mono HP2.out ?_
    rintro e w2 ⟨rfl, v2, hr2, hk2, hg2⟩
    clear z2 z3
    go_wp2
    go_ret
    refine ⟨rfl, v2, ?_, ?_, ?_⟩
    · rw [HW.out]
      have := hr2
      rw [List.append_assoc] at this
      exact this
    · refine HKEEP.out.trans (HK1.out.trans hk2 (HG1.out.mem)) (fun x hx => .inl hx)
    · have := HG1.out.trans hg2 HK1.out.size
      rcases this with t | ⟨g, t, hg⟩
      · exact .inl t
      · exact .inr ⟨g, t, by omega⟩
  | 1, _ =>
    have hlen' : (BitMath.waveOf n).length = 2 + 7 := hlen
    have e0 : n + BitMath.biasOf 1 = n + 63 := by simp [BitMath.biasOf]
    rw [e0] at hw hu
    have hc : IntKind.u64.wrap (wrap64 (n + 63)) = (BitMath.u64 (n + 63) : Int) := by
      rw [IntKind.wrap_u64]
      unfold BitMath.u64 wrap64
      omega
    obtain ⟨u, hu0⟩ : ∃ u, u = BitMath.u64 (n + 63) := ⟨_, rfl⟩
    rw [← hu0] at hc hw hu
    obtain ⟨wa, hwa⟩ : ∃ wa, wa = w.alloc (.cells #[.int .u64 2, .int .i64 2, .int .i64 7, .int .i64 63] 103) := ⟨_, rfl⟩
    have hrow : IsRow wa r v bs := by rw [hwa]; exact h.below ((Below.refl _ _).alloc (Nat.le_refl _) _)
    have hblk : wa.heap[w.heap.size]? = some (.cells #[.int .u64 2, .int .i64 2, .int .i64 7, .int .i64 63] 103 (0, 0)) := by rw [hwa]; exact heap_alloc_new _ _
    have hkeep : Kept (r :: v.ownBlock.toList) w wa := by rw [hwa]; exact (Kept.refl _ _).alloc _
    have hsa : wa.heap.size = w.heap.size + 1 := by rw [hwa]; simp
    have hp1 := put_grow wa r v bs hrow 2 2 (by decide) (by decide) (by omega)
    have HP1 := (show Hid _ from hp1)
    have HROW := (show Hid _ from hrow)
    have HOWN := (show Hid _ from h.own_lt)
    have HBLK := (show Hid _ from hblk)
    have HKEEP := (show Hid _ from hkeep)
    have H2 : Hid (∀ (w' : World), w' = w.alloc (.cells #[.int .u64 2, .int .i64 2, .int .i64 7, .int .i64 63] 103) → w' = wa) := fun w' h => h.trans hwa.symm
    have HW := (show Hid _ from hw)
    have HLEN := (show Hid _ from hlen')
    have HSZ := (show Hid _ from hsz)
    have HUU := (show Hid _ from hu)
    have HHH := (show Hid _ from h)
    clear hp1 hrow hblk hkeep hwa hw hlen hlen' hsz hu hu0 e0 h hf
    unfold formVal
    go_enter Tryd.func148, Tryd.ntmps148
    go_wp2_with fail
    have hww := H2.out _ rfl
    rw [hww]
    clear hww
    have HP1' : Hid (Calls Tryd.prog 83 #[.pointer (some ⟨r, 0, none⟩), .int .u64 2, .int .i64 2] wa fun e w' => e = .returned .nilIface ∧ ∃ v', IsRow w' r v' (bs ++ BitMath.bitsOf 2 2) ∧ Kept (r :: v.ownBlock.toList) wa w' ∧ Grew wa v v') := HP1.out
    clear HP1
    refine Calls.mono HP1'.out ?_
    rintro e w1 ⟨rfl, v1, hr1, hk1, hg1⟩
    have hblk1 : w1.heap[w.heap.size]? = some (.cells #[.int .u64 2, .int .i64 2, .int .i64 7, .int .i64 63] 103 (0, 0)) := by
      rw [hk1.block _ (by omega) (fun hm => by have := HOWN.out _ hm; omega)]
      exact HBLK.out
    have z2 : w1.cell? ⟨w.heap.size, 2, none⟩ = some (.int .i64 7) := cells_of hblk1 2
    have z3 : w1.cell? ⟨w.heap.size, 3, none⟩ = some (.int .i64 63) := cells_of hblk1 3
    have hp2 := put_grow w1 r v1 (bs ++ BitMath.bitsOf 2 2) hr1 u 7 (by have := HUU.out; omega) (by decide) (by rw [List.length_append, BitMath.length_bitsOf]; have := HSZ.out; have := HLEN.out; omega)
    have HP2 := (show Hid _ from hp2)
    have HK1 := (show Hid _ from hk1)
    have HG1 : Hid (Grew wa v v1) := hg1
    clear hp2 hr1 hk1 hg1 hblk1
    go_wp2_with fail
    refine Calls.mono HP2.out ?_
    rintro e w2 ⟨rfl, v2, hr2, hk2, hg2⟩
    clear z2 z3
    go_wp2
    go_ret
    refine ⟨rfl, v2, ?_, ?_, ?_⟩
    · rw [HW.out]
      have := hr2
      rw [List.append_assoc] at this
      exact this
    · refine HKEEP.out.trans (HK1.out.trans hk2 (HG1.out.mem)) (fun x hx => .inl hx)
    · have := HG1.out.trans hg2 HK1.out.size
      rcases this with t | ⟨g, t, hg⟩
      · exact .inl t
      · exact .inr ⟨g, t, by omega⟩
  | 2, _ =>
    have hlen' : (BitMath.waveOf n).length = 3 + 9 := hlen
    have e0 : n + BitMath.biasOf 2 = n + 255 := by simp [BitMath.biasOf]
    rw [e0] at hw hu
    have hc : IntKind.u64.wrap (wrap64 (n + 255)) = (BitMath.u64 (n + 255) : Int) := by
      rw [IntKind.wrap_u64]
      unfold BitMath.u64 wrap64
      omega
    obtain ⟨u, hu0⟩ : ∃ u, u = BitMath.u64 (n + 255) := ⟨_, rfl⟩
    rw [← hu0] at hc hw hu
    obtain ⟨wa, hwa⟩ : ∃ wa, wa = w.alloc (.cells #[.int .u64 6, .int .i64 3, .int .i64 9, .int .i64 255] 103) := ⟨_, rfl⟩
    have hrow : IsRow wa r v bs := by rw [hwa]; exact h.below ((Below.refl _ _).alloc (Nat.le_refl _) _)
    have hblk : wa.heap[w.heap.size]? = some (.cells #[.int .u64 6, .int .i64 3, .int .i64 9, .int .i64 255] 103 (0, 0)) := by rw [hwa]; exact heap_alloc_new _ _
    have hkeep : Kept (r :: v.ownBlock.toList) w wa := by rw [hwa]; exact (Kept.refl _ _).alloc _
    have hsa : wa.heap.size = w.heap.size + 1 := by rw [hwa]; simp
    have hp1 := put_grow wa r v bs hrow 6 3 (by decide) (by decide) (by omega)
    have HP1 := (show Hid _ from hp1)
    have HROW := (show Hid _ from hrow)
    have HOWN := (show Hid _ from h.own_lt)
    have HBLK := (show Hid _ from hblk)
    have HKEEP := (show Hid _ from hkeep)
    have H2 : Hid (∀ (w' : World), w' = w.alloc (.cells #[.int .u64 6, .int .i64 3, .int .i64 9, .int .i64 255] 103) → w' = wa) := fun w' h => h.trans hwa.symm
    have HW := (show Hid _ from hw)
    have HLEN := (show Hid _ from hlen')
    have HSZ := (show Hid _ from hsz)
    have HUU := (show Hid _ from hu)
    have HHH := (show Hid _ from h)
    clear hp1 hrow hblk hkeep hwa hw hlen hlen' hsz hu hu0 e0 h hf
    unfold formVal
    go_enter Tryd.func148, Tryd.ntmps148
    go_wp2_with fail
    have hww := H2.out _ rfl
    rw [hww]
    clear hww
    have HP1' : Hid (Calls Tryd.prog 83 #[.pointer (some ⟨r, 0, none⟩), .int .u64 6, .int .i64 3] wa fun e w' => e = .returned .nilIface ∧ ∃ v', IsRow w' r v' (bs ++ BitMath.bitsOf 6 3) ∧ Kept (r :: v.ownBlock.toList) wa w' ∧ Grew wa v v') := HP1.out
    clear HP1
    refine Calls.mono HP1'.out ?_
    rintro e w1 ⟨rfl, v1, hr1, hk1, hg1⟩
    have hblk1 : w1.heap[w.heap.size]? = some (.cells #[.int .u64 6, .int .i64 3, .int .i64 9, .int .i64 255] 103 (0, 0)) := by
      rw [hk1.block _ (by omega) (fun hm => by have := HOWN.out _ hm; omega)]
      exact HBLK.out
    have z2 : w1.cell? ⟨w.heap.size, 2, none⟩ = some (.int .i64 9) := cells_of hblk1 2
    have z3 : w1.cell? ⟨w.heap.size, 3, none⟩ = some (.int .i64 255) := cells_of hblk1 3
    have hp2 := put_grow w1 r v1 (bs ++ BitMath.bitsOf 6 3) hr1 u 9 (by have := HUU.out; omega) (by decide) (by rw [List.length_append, BitMath.length_bitsOf]; have := HSZ.out; have := HLEN.out; omega)
    have HP2 := (show Hid _ from hp2)
    have HK1 := (show Hid _ from hk1)
    have HG1 : Hid (Grew wa v v1) := hg1
    clear hp2 hr1 hk1 hg1 hblk1
    go_wp2_with fail
    refine Calls.mono HP2.out ?_
    rintro e w2 ⟨rfl, v2, hr2, hk2, hg2⟩
    clear z2 z3
    go_wp2
    go_ret
    refine ⟨rfl, v2, ?_, ?_, ?_⟩
    · rw [HW.out]
      have := hr2
      rw [List.append_assoc] at this
      exact this
    · refine HKEEP.out.trans (HK1.out.trans hk2 (HG1.out.mem)) (fun x hx => .inl hx)
    · have := HG1.out.trans hg2 HK1.out.size
      rcases this with t | ⟨g, t, hg⟩
      · exact .inl t
      · exact .inr ⟨g, t, by omega⟩
  | 3, _ =>
    have hlen' : (BitMath.waveOf n).length = 4 + 12 := hlen
    have e0 : n + BitMath.biasOf 3 = n + 2047 := by simp [BitMath.biasOf]
    rw [e0] at hw hu
    have hc : IntKind.u64.wrap (wrap64 (n + 2047)) = (BitMath.u64 (n + 2047) : Int) := by
      rw [IntKind.wrap_u64]
      unfold BitMath.u64 wrap64
      omega
    obtain ⟨u, hu0⟩ : ∃ u, u = BitMath.u64 (n + 2047) := ⟨_, rfl⟩
    rw [← hu0] at hc hw hu
    obtain ⟨wa, hwa⟩ : ∃ wa, wa = w.alloc (.cells #[.int .u64 14, .int .i64 4, .int .i64 12, .int .i64 2047] 103) := ⟨_, rfl⟩
    have hrow : IsRow wa r v bs := by rw [hwa]; exact h.below ((Below.refl _ _).alloc (Nat.le_refl _) _)
    have hblk : wa.heap[w.heap.size]? = some (.cells #[.int .u64 14, .int .i64 4, .int .i64 12, .int .i64 2047] 103 (0, 0)) := by rw [hwa]; exact heap_alloc_new _ _
    have hkeep : Kept (r :: v.ownBlock.toList) w wa := by rw [hwa]; exact (Kept.refl _ _).alloc _
    have hsa : wa.heap.size = w.heap.size + 1 := by rw [hwa]; simp
    have hp1 := put_grow wa r v bs hrow 14 4 (by decide) (by decide) (by omega)
    have HP1 := (show Hid _ from hp1)
    have HROW := (show Hid _ from hrow)
    have HOWN := (show Hid _ from h.own_lt)
    have HBLK := (show Hid _ from hblk)
    have HKEEP := (show Hid _ from hkeep)
    have H2 : Hid (∀ (w' : World), w' = w.alloc (.cells #[.int .u64 14, .int .i64 4, .int .i64 12, .int .i64 2047] 103) → w' = wa) := fun w' h => h.trans hwa.symm
    have HW := (show Hid _ from hw)
    have HLEN := (show Hid _ from hlen')
    have HSZ := (show Hid _ from hsz)
    have HUU := (show Hid _ from hu)
    have HHH := (show Hid _ from h)
    clear hp1 hrow hblk hkeep hwa hw hlen hlen' hsz hu hu0 e0 h hf
    unfold formVal
    go_enter Tryd.func148, Tryd.ntmps148
    go_wp2_with fail
    have hww := H2.out _ rfl
    rw [hww]
    clear hww
    have HP1' : Hid (Calls Tryd.prog 83 #[.pointer (some ⟨r, 0, none⟩), .int .u64 14, .int .i64 4] wa fun e w' => e = .returned .nilIface ∧ ∃ v', IsRow w' r v' (bs ++ BitMath.bitsOf 14 4) ∧ Kept (r :: v.ownBlock.toList) wa w' ∧ Grew wa v v') := HP1.out
    clear HP1
    refine Calls.mono HP1'.out ?_
    rintro e w1 ⟨rfl, v1, hr1, hk1, hg1⟩
    have hblk1 : w1.heap[w.heap.size]? = some (.cells #[.int .u64 14, .int .i64 4, .int .i64 12, .int .i64 2047] 103 (0, 0)) := by
      rw [hk1.block _ (by omega) (fun hm => by have := HOWN.out _ hm; omega)]
      exact HBLK.out
    have z2 : w1.cell? ⟨w.heap.size, 2, none⟩ = some (.int .i64 12) := cells_of hblk1 2
    have z3 : w1.cell? ⟨w.heap.size, 3, none⟩ = some (.int .i64 2047) := cells_of hblk1 3
    have hp2 := put_grow w1 r v1 (bs ++ BitMath.bitsOf 14 4) hr1 u 12 (by have := HUU.out; omega) (by decide) (by rw [List.length_append, BitMath.length_bitsOf]; have := HSZ.out; have := HLEN.out; omega)
    have HP2 := (show Hid _ from hp2)
    have HK1 := (show Hid _ from hk1)
    have HG1 : Hid (Grew wa v v1) := hg1
    clear hp2 hr1 hk1 hg1 hblk1
    go_wp2_with fail
    refine Calls.mono HP2.out ?_
    rintro e w2 ⟨rfl, v2, hr2, hk2, hg2⟩
    clear z2 z3
    go_wp2
    go_ret
    refine ⟨rfl, v2, ?_, ?_, ?_⟩
    · rw [HW.out]
      have := hr2
      rw [List.append_assoc] at this
      exact this
    · refine HKEEP.out.trans (HK1.out.trans hk2 (HG1.out.mem)) (fun x hx => .inl hx)
    · have := HG1.out.trans hg2 HK1.out.size
      rcases this with t | ⟨g, t, hg⟩
      · exact .inl t
      · exact .inr ⟨g, t, by omega⟩
  | 4, _ =>
    have hlen' : (BitMath.waveOf n).length = 4 + 64 := hlen
    have e0 : n + BitMath.biasOf 4 = n := by simp [BitMath.biasOf]
    rw [e0] at hw hu
    have hc : IntKind.u64.wrap (n) = (BitMath.u64 (n) : Int) := by
      rw [IntKind.wrap_u64]
      unfold BitMath.u64
      omega
    obtain ⟨u, hu0⟩ : ∃ u, u = BitMath.u64 (n) := ⟨_, rfl⟩
    rw [← hu0] at hc hw hu
    obtain ⟨wa, hwa⟩ : ∃ wa, wa = w.alloc (.cells #[.int .u64 15, .int .i64 4, .int .i64 64, .int .i64 0] 103) := ⟨_, rfl⟩
    have hrow : IsRow wa r v bs := by rw [hwa]; exact h.below ((Below.refl _ _).alloc (Nat.le_refl _) _)
    have hblk : wa.heap[w.heap.size]? = some (.cells #[.int .u64 15, .int .i64 4, .int .i64 64, .int .i64 0] 103 (0, 0)) := by rw [hwa]; exact heap_alloc_new _ _
    have hkeep : Kept (r :: v.ownBlock.toList) w wa := by rw [hwa]; exact (Kept.refl _ _).alloc _
    have hsa : wa.heap.size = w.heap.size + 1 := by rw [hwa]; simp
    have hp1 := put_grow wa r v bs hrow 15 4 (by decide) (by decide) (by omega)
    have HP1 := (show Hid _ from hp1)
    have HROW := (show Hid _ from hrow)
    have HOWN := (show Hid _ from h.own_lt)
    have HBLK := (show Hid _ from hblk)
    have HKEEP := (show Hid _ from hkeep)
    have H2 : Hid (∀ (w' : World), w' = w.alloc (.cells #[.int .u64 15, .int .i64 4, .int .i64 64, .int .i64 0] 103) → w' = wa) := fun w' h => h.trans hwa.symm
    have HW := (show Hid _ from hw)
    have HLEN := (show Hid _ from hlen')
    have HSZ := (show Hid _ from hsz)
    have HUU := (show Hid _ from hu)
    have HHH := (show Hid _ from h)
    clear hp1 hrow hblk hkeep hwa hw hlen hlen' hsz hu hu0 e0 h hf
    unfold formVal
    go_enter Tryd.func148, Tryd.ntmps148
    go_wp2_with fail
    have hww := H2.out _ rfl
    rw [hww]
    clear hww
    have HP1' : Hid (Calls Tryd.prog 83 #[.pointer (some ⟨r, 0, none⟩), .int .u64 15, .int .i64 4] wa fun e w' => e = .returned .nilIface ∧ ∃ v', IsRow w' r v' (bs ++ BitMath.bitsOf 15 4) ∧ Kept (r :: v.ownBlock.toList) wa w' ∧ Grew wa v v') := HP1.out
    clear HP1
    refine Calls.mono HP1'.out ?_
    rintro e w1 ⟨rfl, v1, hr1, hk1, hg1⟩
    have hblk1 : w1.heap[w.heap.size]? = some (.cells #[.int .u64 15, .int .i64 4, .int .i64 64, .int .i64 0] 103 (0, 0)) := by
      rw [hk1.block _ (by omega) (fun hm => by have := HOWN.out _ hm; omega)]
      exact HBLK.out
    have z2 : w1.cell? ⟨w.heap.size, 2, none⟩ = some (.int .i64 64) := cells_of hblk1 2
    have z3 : w1.cell? ⟨w.heap.size, 3, none⟩ = some (.int .i64 0) := cells_of hblk1 3
    have hp2 := put_grow w1 r v1 (bs ++ BitMath.bitsOf 15 4) hr1 u 64 (by have := HUU.out; omega) (by decide) (by rw [List.length_append, BitMath.length_bitsOf]; have := HSZ.out; have := HLEN.out; omega)
    have HP2 := (show Hid _ from hp2)
    have HK1 := (show Hid _ from hk1)
    have HG1 : Hid (Grew wa v v1) := hg1
    clear hp2 hr1 hk1 hg1 hblk1
    go_wp2_with fail
    refine Calls.mono HP2.out ?_
    rintro e w2 ⟨rfl, v2, hr2, hk2, hg2⟩
    clear z2 z3
    go_wp2
    go_ret
    refine ⟨rfl, v2, ?_, ?_, ?_⟩
    · rw [HW.out]
      have := hr2
      rw [List.append_assoc] at this
      exact this
    · refine HKEEP.out.trans (HK1.out.trans hk2 (HG1.out.mem)) (fun x hx => .inl hx)
    · have := HG1.out.trans hg2 HK1.out.size
      rcases this with t | ⟨g, t, hg⟩
      · exact .inl t
      · exact .inr ⟨g, t, by omega⟩
end Go.Proofs.YtlbdjkeaohdjkabDoor
