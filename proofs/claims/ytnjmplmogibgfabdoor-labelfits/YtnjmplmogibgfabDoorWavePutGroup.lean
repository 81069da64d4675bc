/- Package wave's Size and Put by contracts; the statements' helper waved. -/
import Derived.Test.YtnjmplmogibgfabDoorRefLabOfGroup
import Derived.Test.YtnjmplmogibgfabDoorPutGroup
import Derived.Test.YtnjmplmogibgfabDoorRead1Group
import Derived.Test.YtnjmplmogibgfabDoorBitMathGroup
import Derived.Test.YtnjmplmogibgfabDoorSlicesIn
import Derived.Test.YtnjmplmogibgfabDoorRows1Group
import Derived.Test.YtnjmplmogibgfabDoorRefReadGroup
namespace Go.Proofs.YtnjmplmogibgfabDoor
open Go.RowKit

/-- What becomes of a row's own block. -/
def Grew (w : World) (v v' : Value) : Prop := v'.ownBlock = v.ownBlock ∨ ∃ g, v'.ownBlock = some g ∧ w.heap.size ≤ g
theorem Grew.trans {w w1 : World} {v v1 v2 : Value} (h : Grew w v v1) (k : Grew w1 v1 v2) (hs : w.heap.size ≤ w1.heap.size) : Grew w v v2 := by
  rcases k with k | ⟨g, k, hg⟩
  · rcases h with h | ⟨g, h, hg⟩
    · exact .inl (k.trans h)
    · exact .inr ⟨g, k.trans h, hg⟩
  · exact .inr ⟨g, k, Nat.le_trans hs hg⟩
theorem Grew.mem {w : World} {v v' : Value} (h : Grew w v v') {r : Nat} : ∀ x, x ∈ r :: v'.ownBlock.toList → x ∈ r :: v.ownBlock.toList ∨ w.heap.size ≤ x := by
  intro x hx
  rcases List.mem_cons.1 hx with h1 | h1
  · exact .inl (by rw [h1]; simp)
  · rcases h with h | ⟨g, h, hg⟩
    · rw [h] at h1
      exact .inl (List.mem_cons.2 (.inr h1))
    · rw [h] at h1
      simp at h1
      subst h1
      exact .inr hg
theorem IsRow.own_lt {w : World} {r : Nat} {v : Value} {bs : List Bool} (h : IsRow w r v bs) : ∀ x, x ∈ r :: v.ownBlock.toList → x < w.heap.size := by
  intro x hx
  rcases List.mem_cons.1 hx with h1 | h1
  · rw [h1]; exact h.lt
  · rcases h.own.2 with ⟨rfl, _⟩ | ⟨g, cap, cur, rfl, hg, hh, _⟩
    · simp [Value.ownBlock] at h1
    · simp [Value.ownBlock] at h1
      subst h1
      exact lt_of_block hh

theorem wsize_any (n : Int) (w : World) (hF : Forms w) (h0 : -9223372036854775808 ≤ n) (h1 : n ≤ 9223372036854775807) :
    Calls Tryd.prog 13 #[.int .i64 n] w fun e w' => e = .returned (.int .i64 ((BitMath.waveOf n).length : Int)) ∧ Below w.heap.size w w' := by
  have HFO := (show Hid _ from formOf_any n w hF h0 h1)
  have HSZ := (show Hid _ from fun w0 => size_at (BitMath.formOf n) (BitMath.formOf_le n) w0)
  have HL := (show Hid _ from BitMath.length_waveOf n)
  clear hF
  go_enter Tryd.func13, Tryd.ntmps13
  go_wp2_with fail
  refine Calls.mono HFO.out ?_
  rintro e w1 ⟨rfl, hb1⟩
  go_wp2_with fail
  refine Calls.mono (HSZ.out _) ?_
  rintro e w2 ⟨rfl, hb2⟩
  go_wp2
  go_ret
  exact ⟨by rw [HL.out]; rfl, hb1.trans (hb2.mono hb1.size)⟩

/-- The mark of a form, as Put is handed it. -/
def markOf : Nat → Nat
  | 0 => 0
  | 1 => 2
  | 2 => 6
  | 3 => 14
  | _ => 15
theorem mark_bits (k : Nat) (hk : k ≤ 4) : BitMath.bitsOf (markOf k) (BitMath.headOf k).length = BitMath.headOf k := by
  match k, hk with
  | 0, _ => rfl
  | 1, _ => rfl
  | 2, _ => rfl
  | 3, _ => rfl
  | 4, _ => rfl

set_option maxRecDepth 1000000 in
set_option maxHeartbeats 1000000 in
theorem fput_at (k : Nat) (hk : k ≤ 4) (n : Int) (hf : BitMath.formOf n = k) (w : World) (r : Nat) (v : Value) (bs : List Bool) (h : IsRow w r v bs) (hsz : bs.length + (BitMath.waveOf n).length ≤ 1048576) (h0 : -9223372036854775808 ≤ n) (h1 : n ≤ 9223372036854775807) :
    Calls Tryd.prog 179 #[formVal k, .pointer (some ⟨r, 0, none⟩), .int .i64 n] w fun e w' => e = .returned .nilIface ∧ ∃ v', IsRow w' r v' (bs ++ BitMath.waveOf n) ∧ Kept (r :: v.ownBlock.toList) w w' ∧ Grew w v v' := by
  have hw := wave_form n k hf
  have hlen : (BitMath.waveOf n).length = (BitMath.headOf k).length + BitMath.wideOf k := by rw [BitMath.length_waveOf, hf]
  have hu := BitMath.u64_lt (n + BitMath.biasOf k)
  match k, hk with
  | 0, _ =>
    have hlen' : (BitMath.waveOf n).length = 1 + 0 := hlen
    have e0 : n + BitMath.biasOf 0 = n := by simp [BitMath.biasOf]
    rw [e0] at hw hu
    have hc : IntKind.u64.wrap (n) = (BitMath.u64 (n) : Int) := by
      rw [IntKind.wrap_u64]
      unfold BitMath.u64
      omega
    obtain ⟨u, hu0⟩ : ∃ u, u = BitMath.u64 (n) := ⟨_, rfl⟩
    rw [← hu0] at hc hw hu
    obtain ⟨wa, hwa⟩ : ∃ wa, wa = w.alloc (.cells #[.int .u64 0, .int .i64 1, .int .i64 0, .int .i64 0] 122) := ⟨_, rfl⟩
    have hrow : IsRow wa r v bs := by rw [hwa]; exact h.below ((Below.refl _ _).alloc (Nat.le_refl _) _)
    have hblk : wa.heap[w.heap.size]? = some (.cells #[.int .u64 0, .int .i64 1, .int .i64 0, .int .i64 0] 122 (0, 0)) := by rw [hwa]; exact heap_alloc_new _ _
    have hkeep : Kept (r :: v.ownBlock.toList) w wa := by rw [hwa]; exact (Kept.refl _ _).alloc _
    have hsa : wa.heap.size = w.heap.size + 1 := by rw [hwa]; simp
    have hp1 := put_grow wa r v bs hrow 0 1 (by decide) (by decide) (by omega)
    have HP1 := (show Hid _ from hp1)
    have HROW := (show Hid _ from hrow)
    have HOWN := (show Hid _ from h.own_lt)
    have HBLK := (show Hid _ from hblk)
    have HKEEP := (show Hid _ from hkeep)
    have H2 : Hid (∀ (w' : World), w' = w.alloc (.cells #[.int .u64 0, .int .i64 1, .int .i64 0, .int .i64 0] 122) → w' = wa) := fun w' h => h.trans hwa.symm
    have HW := (show Hid _ from hw)
    have HLEN := (show Hid _ from hlen')
    have HSZ := (show Hid _ from hsz)
    have HUU := (show Hid _ from hu)
    have HHH := (show Hid _ from h)
    clear hp1 hrow hblk hkeep hwa hw hlen hlen' hsz hu hu0 e0 h hf
    unfold formVal
    go_enter Tryd.func179, Tryd.ntmps179
    go_wp2_with fail
    have hww := H2.out _ rfl
    rw [hww]
    clear hww
    have HP1' : Hid (Calls Tryd.prog 104 #[.pointer (some ⟨r, 0, none⟩), .int .u64 0, .int .i64 1] wa fun e w' => e = .returned .nilIface ∧ ∃ v', IsRow w' r v' (bs ++ BitMath.bitsOf 0 1) ∧ Kept (r :: v.ownBlock.toList) wa w' ∧ Grew wa v v') := HP1.out
    clear HP1
    refine Calls.mono HP1'.out ?_
    rintro e w1 ⟨rfl, v1, hr1, hk1, hg1⟩
    have hblk1 : w1.heap[w.heap.size]? = some (.cells #[.int .u64 0, .int .i64 1, .int .i64 0, .int .i64 0] 122 (0, 0)) := by
      rw [hk1.block _ (by omega) (fun hm => by have := HOWN.out _ hm; omega)]
      exact HBLK.out
    have z2 : w1.cell? ⟨w.heap.size, 2, none⟩ = some (.int .i64 0) := cells_of hblk1 2
    have z3 : w1.cell? ⟨w.heap.size, 3, none⟩ = some (.int .i64 0) := cells_of hblk1 3
    have hp2 := put_grow w1 r v1 (bs ++ BitMath.bitsOf 0 1) hr1 u 0 (by have := HUU.out; omega) (by decide) (by rw [List.length_append, BitMath.length_bitsOf]; have := HSZ.out; have := HLEN.out; omega)
    have HP2 := (show Hid _ from hp2)
    have HK1 := (show Hid _ from hk1)
    have HG1 : Hid (Grew wa v v1) := hg1
    clear hp2 hr1 hk1 hg1 hblk1
    go_wp2_with fail
    refine Calls.mono HP2.out ?_
    rintro e w2 ⟨rfl, v2, hr2, hk2, hg2⟩
    clear z2 z3
    go_wp2
    go_ret
    refine ⟨rfl, v2, ?_, ?_, ?_⟩
    · rw [HW.out]
      have := hr2
      rw [List.append_assoc] at this
      exact this
    · refine HKEEP.out.trans (HK1.out.trans hk2 (HG1.out.mem)) (fun x hx => .inl hx)
    · have := HG1.out.trans hg2 HK1.out.size
      rcases this with t | ⟨g, t, hg⟩
      · exact .inl t
      · exact .inr ⟨g, t, by omega⟩
  | 1, _ =>
    have hlen' : (BitMath.waveOf n).length = 2 + 7 := hlen
    have e0 : n + BitMath.biasOf 1 = n + 63 := by simp [BitMath.biasOf]
    rw [e0] at hw hu
    have hc : IntKind.u64.wrap (wrap64 (n + 63)) = (BitMath.u64 (n + 63) : Int) := by
      rw [IntKind.wrap_u64]
      unfold BitMath.u64 wrap64
      omega
    obtain ⟨u, hu0⟩ : ∃ u, u = BitMath.u64 (n + 63) := ⟨_, rfl⟩
    rw [← hu0] at hc hw hu
    obtain ⟨wa, hwa⟩ : ∃ wa, wa = w.alloc (.cells #[.int .u64 2, .int .i64 2, .int .i64 7, .int .i64 63] 122) := ⟨_, rfl⟩
    have hrow : IsRow wa r v bs := by rw [hwa]; exact h.below ((Below.refl _ _).alloc (Nat.le_refl _) _)
    have hblk : wa.heap[w.heap.size]? = some (.cells #[.int .u64 2, .int .i64 2, .int .i64 7, .int .i64 63] 122 (0, 0)) := by rw [hwa]; exact heap_alloc_new _ _
    have hkeep : Kept (r :: v.ownBlock.toList) w wa := by rw [hwa]; exact (Kept.refl _ _).alloc _
    have hsa : wa.heap.size = w.heap.size + 1 := by rw [hwa]; simp
    have hp1 := put_grow wa r v bs hrow 2 2 (by decide) (by decide) (by omega)
    have HP1 := (show Hid _ from hp1)
    have HROW := (show Hid _ from hrow)
    have HOWN := (show Hid _ from h.own_lt)
    have HBLK := (show Hid _ from hblk)
    have HKEEP := (show Hid _ from hkeep)
    have H2 : Hid (∀ (w' : World), w' = w.alloc (.cells #[.int .u64 2, .int .i64 2, .int .i64 7, .int .i64 63] 122) → w' = wa) := fun w' h => h.trans hwa.symm
    have HW := (show Hid _ from hw)
    have HLEN := (show Hid _ from hlen')
    have HSZ := (show Hid _ from hsz)
    have HUU := (show Hid _ from hu)
    have HHH := (show Hid _ from h)
    clear hp1 hrow hblk hkeep hwa hw hlen hlen' hsz hu hu0 e0 h hf
    unfold formVal
    go_enter Tryd.func179, Tryd.ntmps179
    go_wp2_with fail
    have hww := H2.out _ rfl
    rw [hww]
    clear hww
    have HP1' : Hid (Calls Tryd.prog 104 #[.pointer (some ⟨r, 0, none⟩), .int .u64 2, .int .i64 2] wa fun e w' => e = .returned .nilIface ∧ ∃ v', IsRow w' r v' (bs ++ BitMath.bitsOf 2 2) ∧ Kept (r :: v.ownBlock.toList) wa w' ∧ Grew wa v v') := HP1.out
    clear HP1
    refine Calls.mono HP1'.out ?_
    rintro e w1 ⟨rfl, v1, hr1, hk1, hg1⟩
    have hblk1 : w1.heap[w.heap.size]? = some (.cells #[.int .u64 2, .int .i64 2, .int .i64 7, .int .i64 63] 122 (0, 0)) := by
      rw [hk1.block _ (by omega) (fun hm => by have := HOWN.out _ hm; omega)]
      exact HBLK.out
    have z2 : w1.cell? ⟨w.heap.size, 2, none⟩ = some (.int .i64 7) := cells_of hblk1 2
    have z3 : w1.cell? ⟨w.heap.size, 3, none⟩ = some (.int .i64 63) := cells_of hblk1 3
    have hp2 := put_grow w1 r v1 (bs ++ BitMath.bitsOf 2 2) hr1 u 7 (by have := HUU.out; omega) (by decide) (by rw [List.length_append, BitMath.length_bitsOf]; have := HSZ.out; have := HLEN.out; omega)
    have HP2 := (show Hid _ from hp2)
    have HK1 := (show Hid _ from hk1)
    have HG1 : Hid (Grew wa v v1) := hg1
    clear hp2 hr1 hk1 hg1 hblk1
    go_wp2_with fail
    refine Calls.mono HP2.out ?_
    rintro e w2 ⟨rfl, v2, hr2, hk2, hg2⟩
    clear z2 z3
    go_wp2
    go_ret
    refine ⟨rfl, v2, ?_, ?_, ?_⟩
    · rw [HW.out]
      have := hr2
      rw [List.append_assoc] at this
      exact this
    · refine HKEEP.out.trans (HK1.out.trans hk2 (HG1.out.mem)) (fun x hx => .inl hx)
    · have := HG1.out.trans hg2 HK1.out.size
      rcases this with t | ⟨g, t, hg⟩
      · exact .inl t
      · exact .inr ⟨g, t, by omega⟩
  | 2, _ =>
    have hlen' : (BitMath.waveOf n).length = 3 + 9 := hlen
    have e0 : n + BitMath.biasOf 2 = n + 255 := by simp [BitMath.biasOf]
    rw [e0] at hw hu
    have hc : IntKind.u64.wrap (wrap64 (n + 255)) = (BitMath.u64 (n + 255) : Int) := by
      rw [IntKind.wrap_u64]
      unfold BitMath.u64 wrap64
      omega
    obtain ⟨u, hu0⟩ : ∃ u, u = BitMath.u64 (n + 255) := ⟨_, rfl⟩
    rw [← hu0] at hc hw hu
    obtain ⟨wa, hwa⟩ : ∃ wa, wa = w.alloc (.cells #[.int .u64 6, .int .i64 3, .int .i64 9, .int .i64 255] 122) := ⟨_, rfl⟩
    have hrow : IsRow wa r v bs := by rw [hwa]; exact h.below ((Below.refl _ _).alloc (Nat.le_refl _) _)
    have hblk : wa.heap[w.heap.size]? = some (.cells #[.int .u64 6, .int .i64 3, .int .i64 9, .int .i64 255] 122 (0, 0)) := by rw [hwa]; exact heap_alloc_new _ _
    have hkeep : Kept (r :: v.ownBlock.toList) w wa := by rw [hwa]; exact (Kept.refl _ _).alloc _
    have hsa : wa.heap.size = w.heap.size + 1 := by rw [hwa]; simp
    have hp1 := put_grow wa r v bs hrow 6 3 (by decide) (by decide) (by omega)
    have HP1 := (show Hid _ from hp1)
    have HROW := (show Hid _ from hrow)
    have HOWN := (show Hid _ from h.own_lt)
    have HBLK := (show Hid _ from hblk)
    have HKEEP := (show Hid _ from hkeep)
    have H2 : Hid (∀ (w' : World), w' = w.alloc (.cells #[.int .u64 6, .int .i64 3, .int .i64 9, .int .i64 255] 122) → w' = wa) := fun w' h => h.trans hwa.symm
    have HW := (show Hid _ from hw)
    have HLEN := (show Hid _ from hlen')
    have HSZ := (show Hid _ from hsz)
    have HUU := (show Hid _ from hu)
    have HHH := (show Hid _ from h)
    clear hp1 hrow hblk hkeep hwa hw hlen hlen' hsz hu hu0 e0 h hf
    unfold formVal
    go_enter Tryd.func179, Tryd.ntmps179
    go_wp2_with fail
    have hww := H2.out _ rfl
    rw [hww]
    clear hww
    have HP1' : Hid (Calls Tryd.prog 104 #[.pointer (some ⟨r, 0, none⟩), .int .u64 6, .int .i64 3] wa fun e w' => e = .returned .nilIface ∧ ∃ v', IsRow w' r v' (bs ++ BitMath.bitsOf 6 3) ∧ Kept (r :: v.ownBlock.toList) wa w' ∧ Grew wa v v') := HP1.out
    clear HP1
    refine Calls.mono HP1'.out ?_
    rintro e w1 ⟨rfl, v1, hr1, hk1, hg1⟩
    have hblk1 : w1.heap[w.heap.size]? = some (.cells #[.int .u64 6, .int .i64 3, .int .i64 9, .int .i64 255] 122 (0, 0)) := by
      rw [hk1.block _ (by omega) (fun hm => by have := HOWN.out _ hm; omega)]
      exact HBLK.out
    have z2 : w1.cell? ⟨w.heap.size, 2, none⟩ = some (.int .i64 9) := cells_of hblk1 2
    have z3 : w1.cell? ⟨w.heap.size, 3, none⟩ = some (.int .i64 255) := cells_of hblk1 3
    have hp2 := put_grow w1 r v1 (bs ++ BitMath.bitsOf 6 3) hr1 u 9 (by have := HUU.out; omega) (by decide) (by rw [List.length_append, BitMath.length_bitsOf]; have := HSZ.out; have := HLEN.out; omega)
    have HP2 := (show Hid _ from hp2)
    have HK1 := (show Hid _ from hk1)
    have HG1 : Hid (Grew wa v v1) := hg1
    clear hp2 hr1 hk1 hg1 hblk1
    go_wp2_with fail
    refine Calls.mono HP2.out ?_
    rintro e w2 ⟨rfl, v2, hr2, hk2, hg2⟩
    clear z2 z3
    go_wp2
    go_ret
    refine ⟨rfl, v2, ?_, ?_, ?_⟩
    · rw [HW.out]
      have := hr2
      rw [List.append_assoc] at this
      exact this
    · refine HKEEP.out.trans (HK1.out.trans hk2 (HG1.out.mem)) (fun x hx => .inl hx)
    · have := HG1.out.trans hg2 HK1.out.size
      rcases this with t | ⟨g, t, hg⟩
      · exact .inl t
      · exact .inr ⟨g, t, by omega⟩
  | 3, _ =>
    have hlen' : (BitMath.waveOf n).length = 4 + 12 := hlen
    have e0 : n + BitMath.biasOf 3 = n + 2047 := by simp [BitMath.biasOf]
    rw [e0] at hw hu
    have hc : IntKind.u64.wrap (wrap64 (n + 2047)) = (BitMath.u64 (n + 2047) : Int) := by
      rw [IntKind.wrap_u64]
      unfold BitMath.u64 wrap64
      omega
    obtain ⟨u, hu0⟩ : ∃ u, u = BitMath.u64 (n + 2047) := ⟨_, rfl⟩
    rw [← hu0] at hc hw hu
    obtain ⟨wa, hwa⟩ : ∃ wa, wa = w.alloc (.cells #[.int .u64 14, .int .i64 4, .int .i64 12, .int .i64 2047] 122) := ⟨_, rfl⟩
    have hrow : IsRow wa r v bs := by rw [hwa]; exact h.below ((Below.refl _ _).alloc (Nat.le_refl _) _)
    have hblk : wa.heap[w.heap.size]? = some (.cells #[.int .u64 14, .int .i64 4, .int .i64 12, .int .i64 2047] 122 (0, 0)) := by rw [hwa]; exact heap_alloc_new _ _
    have hkeep : Kept (r :: v.ownBlock.toList) w wa := by rw [hwa]; exact (Kept.refl _ _).alloc _
    have hsa : wa.heap.size = w.heap.size + 1 := by rw [hwa]; simp
    have hp1 := put_grow wa r v bs hrow 14 4 (by decide) (by decide) (by omega)
    have HP1 := (show Hid _ from hp1)
    have HROW := (show Hid _ from hrow)
    have HOWN := (show Hid _ from h.own_lt)
    have HBLK := (show Hid _ from hblk)
    have HKEEP := (show Hid _ from hkeep)
    have H2 : Hid (∀ (w' : World), w' = w.alloc (.cells #[.int .u64 14, .int .i64 4, .int .i64 12, .int .i64 2047] 122) → w' = wa) := fun w' h => h.trans hwa.symm
    have HW := (show Hid _ from hw)
    have HLEN := (show Hid _ from hlen')
    have HSZ := (show Hid _ from hsz)
    have HUU := (show Hid _ from hu)
    have HHH := (show Hid _ from h)
    clear hp1 hrow hblk hkeep hwa hw hlen hlen' hsz hu hu0 e0 h hf
    unfold formVal
    go_enter Tryd.func179, Tryd.ntmps179
    go_wp2_with fail
    have hww := H2.out _ rfl
    rw [hww]
    clear hww
    have HP1' : Hid (Calls Tryd.prog 104 #[.pointer (some ⟨r, 0, none⟩), .int .u64 14, .int .i64 4] wa fun e w' => e = .returned .nilIface ∧ ∃ v', IsRow w' r v' (bs ++ BitMath.bitsOf 14 4) ∧ Kept (r :: v.ownBlock.toList) wa w' ∧ Grew wa v v') := HP1.out
    clear HP1
    refine Calls.mono HP1'.out ?_
    rintro e w1 ⟨rfl, v1, hr1, hk1, hg1⟩
    have hblk1 : w1.heap[w.heap.size]? = some (.cells #[.int .u64 14, .int .i64 4, .int .i64 12, .int .i64 2047] 122 (0, 0)) := by
      rw [hk1.block _ (by omega) (fun hm => by have := HOWN.out _ hm; omega)]
      exact HBLK.out
    have z2 : w1.cell? ⟨w.heap.size, 2, none⟩ = some (.int .i64 12) := cells_of hblk1 2
    have z3 : w1.cell? ⟨w.heap.size, 3, none⟩ = some (.int .i64 2047) := cells_of hblk1 3
    have hp2 := put_grow w1 r v1 (bs ++ BitMath.bitsOf 14 4) hr1 u 12 (by have := HUU.out; omega) (by decide) (by rw [List.length_append, BitMath.length_bitsOf]; have := HSZ.out; have := HLEN.out; omega)
    have HP2 := (show Hid _ from hp2)
    have HK1 := (show Hid _ from hk1)
    have HG1 : Hid (Grew wa v v1) := hg1
    clear hp2 hr1 hk1 hg1 hblk1
    go_wp2_with fail
    refine Calls.mono HP2.out ?_
    rintro e w2 ⟨rfl, v2, hr2, hk2, hg2⟩
    clear z2 z3
    go_wp2
    go_ret
    refine ⟨rfl, v2, ?_, ?_, ?_⟩
    · rw [HW.out]
      have := hr2
      rw [List.append_assoc] at this
      exact this
    · refine HKEEP.out.trans (HK1.out.trans hk2 (HG1.out.mem)) (fun x hx => .inl hx)
    · have := HG1.out.trans hg2 HK1.out.size
      rcases this with t | ⟨g, t, hg⟩
      · exact .inl t
      · exact .inr ⟨g, t, by omega⟩
  | 4, _ =>
    have hlen' : (BitMath.waveOf n).length = 4 + 64 := hlen
    have e0 : n + BitMath.biasOf 4 = n := by simp [BitMath.biasOf]
    rw [e0] at hw hu
    have hc : IntKind.u64.wrap (n) = (BitMath.u64 (n) : Int) := by
      rw [IntKind.wrap_u64]
      unfold BitMath.u64
      omega
    obtain ⟨u, hu0⟩ : ∃ u, u = BitMath.u64 (n) := ⟨_, rfl⟩
    rw [← hu0] at hc hw hu
    obtain ⟨wa, hwa⟩ : ∃ wa, wa = w.alloc (.cells #[.int .u64 15, .int .i64 4, .int .i64 64, .int .i64 0] 122) := ⟨_, rfl⟩
    have hrow : IsRow wa r v bs := by rw [hwa]; exact h.below ((Below.refl _ _).alloc (Nat.le_refl _) _)
    have hblk : wa.heap[w.heap.size]? = some (.cells #[.int .u64 15, .int .i64 4, .int .i64 64, .int .i64 0] 122 (0, 0)) := by rw [hwa]; exact heap_alloc_new _ _
    have hkeep : Kept (r :: v.ownBlock.toList) w wa := by rw [hwa]; exact (Kept.refl _ _).alloc _
    have hsa : wa.heap.size = w.heap.size + 1 := by rw [hwa]; simp
    have hp1 := put_grow wa r v bs hrow 15 4 (by decide) (by decide) (by omega)
    have HP1 := (show Hid _ from hp1)
    have HROW := (show Hid _ from hrow)
    have HOWN := (show Hid _ from h.own_lt)
    have HBLK := (show Hid _ from hblk)
    have HKEEP := (show Hid _ from hkeep)
    have H2 : Hid (∀ (w' : World), w' = w.alloc (.cells #[.int .u64 15, .int .i64 4, .int .i64 64, .int .i64 0] 122) → w' = wa) := fun w' h => h.trans hwa.symm
    have HW := (show Hid _ from hw)
    have HLEN := (show Hid _ from hlen')
    have HSZ := (show Hid _ from hsz)
    have HUU := (show Hid _ from hu)
    have HHH := (show Hid _ from h)
    clear hp1 hrow hblk hkeep hwa hw hlen hlen' hsz hu hu0 e0 h hf
    unfold formVal
    go_enter Tryd.func179, Tryd.ntmps179
    go_wp2_with fail
    have hww := H2.out _ rfl
    rw [hww]
    clear hww
    have HP1' : Hid (Calls Tryd.prog 104 #[.pointer (some ⟨r, 0, none⟩), .int .u64 15, .int .i64 4] wa fun e w' => e = .returned .nilIface ∧ ∃ v', IsRow w' r v' (bs ++ BitMath.bitsOf 15 4) ∧ Kept (r :: v.ownBlock.toList) wa w' ∧ Grew wa v v') := HP1.out
    clear HP1
    refine Calls.mono HP1'.out ?_
    rintro e w1 ⟨rfl, v1, hr1, hk1, hg1⟩
    have hblk1 : w1.heap[w.heap.size]? = some (.cells #[.int .u64 15, .int .i64 4, .int .i64 64, .int .i64 0] 122 (0, 0)) := by
      rw [hk1.block _ (by omega) (fun hm => by have := HOWN.out _ hm; omega)]
      exact HBLK.out
    have z2 : w1.cell? ⟨w.heap.size, 2, none⟩ = some (.int .i64 64) := cells_of hblk1 2
    have z3 : w1.cell? ⟨w.heap.size, 3, none⟩ = some (.int .i64 0) := cells_of hblk1 3
    have hp2 := put_grow w1 r v1 (bs ++ BitMath.bitsOf 15 4) hr1 u 64 (by have := HUU.out; omega) (by decide) (by rw [List.length_append, BitMath.length_bitsOf]; have := HSZ.out; have := HLEN.out; omega)
    have HP2 := (show Hid _ from hp2)
    have HK1 := (show Hid _ from hk1)
    have HG1 : Hid (Grew wa v v1) := hg1
    clear hp2 hr1 hk1 hg1 hblk1
    go_wp2_with fail
    refine Calls.mono HP2.out ?_
    rintro e w2 ⟨rfl, v2, hr2, hk2, hg2⟩
    clear z2 z3
    go_wp2
    go_ret
    refine ⟨rfl, v2, ?_, ?_, ?_⟩
    · rw [HW.out]
      have := hr2
      rw [List.append_assoc] at this
      exact this
    · refine HKEEP.out.trans (HK1.out.trans hk2 (HG1.out.mem)) (fun x hx => .inl hx)
    · have := HG1.out.trans hg2 HK1.out.size
      rcases this with t | ⟨g, t, hg⟩
      · exact .inl t
      · exact .inr ⟨g, t, by omega⟩
end Go.Proofs.YtnjmplmogibgfabDoor
/- Package wave's Put by contracts; the statements' helper waved. -/
namespace Go.Proofs.YtnjmplmogibgfabDoor
open Go.RowKit

/-- A variable that holds a struct, behind what makes memory. -/
theorem form_var {w1 w2 : World} {C : Array Value} {t : TypeId} (h : Below (w1.alloc (.cells C t)).heap.size (w1.alloc (.cells C t)) w2) : w2.heap[w1.heap.size]? = some (.cells C t (0, 0)) ∧ Below w1.heap.size w1 w2 := by
  have hb : Below w1.heap.size w1 (w1.alloc (.cells C t)) := (Below.refl _ _).alloc (Nat.le_refl _) _
  refine ⟨?_, hb.trans (h.mono (by simp))⟩
  rw [h.block w1.heap.size (by simp)]
  exact heap_alloc_new _ _

theorem wput_nil (n : Int) (w : World) (a : Addr) (hE : w.cell? ⟨3, 0, none⟩ = some (.iface 321 (.pointer (some a)))) :
    Calls Tryd.prog 139 #[.pointer none, .int .i64 n] w fun e w' => e = .returned (.iface 321 (.pointer (some a))) ∧ w' = w := by
  go_enter Tryd.func139, Tryd.ntmps139
  go_wp2
  go_ret
  exact ⟨rfl, rfl⟩

set_option maxRecDepth 1000000 in
set_option maxHeartbeats 2000000 in
theorem wput_ok (n : Int) (w : World) (hF : Forms w) (r : Nat) (v : Value) (bs : List Bool) (h : IsRow w r v bs) (hsz : bs.length + (BitMath.waveOf n).length ≤ 1048576) (h0 : -9223372036854775808 ≤ n) (h1 : n ≤ 9223372036854775807) :
    Calls Tryd.prog 139 #[.pointer (some ⟨r, 0, none⟩), .int .i64 n] w fun e w' => e = .returned .nilIface ∧ ∃ v', IsRow w' r v' (bs ++ BitMath.waveOf n) ∧ Kept (r :: v.ownBlock.toList) w w' ∧ Grew w v v' := by
  have hfo := formOf_any n w hF h0 h1
  have hlen := BitMath.length_waveOf n
  have hfl := BitMath.formOf_le n
  have HROW := (show Hid _ from h)
  clear h hF
  rcases (by omega : BitMath.formOf n = 0 ∨ BitMath.formOf n = 1 ∨ BitMath.formOf n = 2 ∨ BitMath.formOf n = 3 ∨ BitMath.formOf n = 4) with hf | hf | hf | hf | hf
  · rw [hf] at hfo hlen
    unfold formVal at hfo
    have hlen' : (BitMath.waveOf n).length = 1 + 0 := hlen
    have HFO := (show Hid _ from hfo)
    have HSZ : Hid (∀ w0, Calls Tryd.prog 63 #[formVal 0] w0 fun e w' => e = .returned (.int .i64 1) ∧ Below w0.heap.size w0 w') := fun w0 => size_at 0 (by omega) w0
    have HRM := (show Hid _ from fun w0 hr0 => room_any w0 r v bs hr0 (by omega))
    have HFP := (show Hid _ from fun w0 hr0 => fput_at 0 (by omega) n hf w0 r v bs hr0 hsz h0 h1)
    have hrm : decide ((1048576 : Int) - (bs.length : Int) < 1) = false := by simp; omega
    clear hfo hlen hlen' hfl hf hsz
    go_enter Tryd.func139, Tryd.ntmps139
    go_wp2_with fail
    refine Calls.mono HFO.out ?_
    rintro e w1 ⟨rfl, hb1⟩
    go_wp2_with fail
    refine Calls.mono (HSZ.out _) ?_
    rintro e w2 ⟨rfl, hb2⟩
    obtain ⟨hblk, hb3⟩ := form_var hb2
    have hb4 := hb1.trans (hb3.mono hb1.size)
    have hrow2 := HROW.out.below hb4
    have z0 : w2.cell? ⟨w1.heap.size, 0, none⟩ = some (.int .u64 0) := cells_of hblk 0
    have z1 : w2.cell? ⟨w1.heap.size, 1, none⟩ = some (.int .i64 1) := cells_of hblk 1
    have z2 : w2.cell? ⟨w1.heap.size, 2, none⟩ = some (.int .i64 0) := cells_of hblk 2
    have z3 : w2.cell? ⟨w1.heap.size, 3, none⟩ = some (.int .i64 0) := cells_of hblk 3
    have HRM2 := (show Hid _ from HRM.out w2 hrow2)
    have HFP2 := (show Hid _ from HFP.out w2 hrow2)
    have HB4 := (show Hid _ from hb4)
    clear hb1 hb2 hb3 hb4 hblk hrow2 HRM HFP HFO HSZ
    go_wp2_with fail
    refine Calls.mono HRM2.out ?_
    rintro e w3 ⟨rfl, hw3⟩
    have hw3' := hw3.symm
    subst hw3'
    go_wp2_with fail
    refine Calls.mono HFP2.out ?_
    rintro e w4 ⟨rfl, v4, hr4, hk4, hg4⟩
    clear z0 z1 z2 z3
    go_wp2
    go_ret
    refine ⟨rfl, v4, hr4, (Kept.of_below HB4.out).trans hk4 (fun x hx => .inl hx), ?_⟩
    rcases hg4 with t | ⟨g, t, hg⟩
    · exact .inl t
    · exact .inr ⟨g, t, Nat.le_trans HB4.out.size hg⟩
  · rw [hf] at hfo hlen
    unfold formVal at hfo
    have hlen' : (BitMath.waveOf n).length = 2 + 7 := hlen
    have HFO := (show Hid _ from hfo)
    have HSZ : Hid (∀ w0, Calls Tryd.prog 63 #[formVal 1] w0 fun e w' => e = .returned (.int .i64 9) ∧ Below w0.heap.size w0 w') := fun w0 => size_at 1 (by omega) w0
    have HRM := (show Hid _ from fun w0 hr0 => room_any w0 r v bs hr0 (by omega))
    have HFP := (show Hid _ from fun w0 hr0 => fput_at 1 (by omega) n hf w0 r v bs hr0 hsz h0 h1)
    have hrm : decide ((1048576 : Int) - (bs.length : Int) < 9) = false := by simp; omega
    clear hfo hlen hlen' hfl hf hsz
    go_enter Tryd.func139, Tryd.ntmps139
    go_wp2_with fail
    refine Calls.mono HFO.out ?_
    rintro e w1 ⟨rfl, hb1⟩
    go_wp2_with fail
    refine Calls.mono (HSZ.out _) ?_
    rintro e w2 ⟨rfl, hb2⟩
    obtain ⟨hblk, hb3⟩ := form_var hb2
    have hb4 := hb1.trans (hb3.mono hb1.size)
    have hrow2 := HROW.out.below hb4
    have z0 : w2.cell? ⟨w1.heap.size, 0, none⟩ = some (.int .u64 2) := cells_of hblk 0
    have z1 : w2.cell? ⟨w1.heap.size, 1, none⟩ = some (.int .i64 2) := cells_of hblk 1
    have z2 : w2.cell? ⟨w1.heap.size, 2, none⟩ = some (.int .i64 7) := cells_of hblk 2
    have z3 : w2.cell? ⟨w1.heap.size, 3, none⟩ = some (.int .i64 63) := cells_of hblk 3
    have HRM2 := (show Hid _ from HRM.out w2 hrow2)
    have HFP2 := (show Hid _ from HFP.out w2 hrow2)
    have HB4 := (show Hid _ from hb4)
    clear hb1 hb2 hb3 hb4 hblk hrow2 HRM HFP HFO HSZ
    go_wp2_with fail
    refine Calls.mono HRM2.out ?_
    rintro e w3 ⟨rfl, hw3⟩
    have hw3' := hw3.symm
    subst hw3'
    go_wp2_with fail
    refine Calls.mono HFP2.out ?_
    rintro e w4 ⟨rfl, v4, hr4, hk4, hg4⟩
    clear z0 z1 z2 z3
    go_wp2
    go_ret
    refine ⟨rfl, v4, hr4, (Kept.of_below HB4.out).trans hk4 (fun x hx => .inl hx), ?_⟩
    rcases hg4 with t | ⟨g, t, hg⟩
    · exact .inl t
    · exact .inr ⟨g, t, Nat.le_trans HB4.out.size hg⟩
  · rw [hf] at hfo hlen
    unfold formVal at hfo
    have hlen' : (BitMath.waveOf n).length = 3 + 9 := hlen
    have HFO := (show Hid _ from hfo)
    have HSZ : Hid (∀ w0, Calls Tryd.prog 63 #[formVal 2] w0 fun e w' => e = .returned (.int .i64 12) ∧ Below w0.heap.size w0 w') := fun w0 => size_at 2 (by omega) w0
    have HRM := (show Hid _ from fun w0 hr0 => room_any w0 r v bs hr0 (by omega))
    have HFP := (show Hid _ from fun w0 hr0 => fput_at 2 (by omega) n hf w0 r v bs hr0 hsz h0 h1)
    have hrm : decide ((1048576 : Int) - (bs.length : Int) < 12) = false := by simp; omega
    clear hfo hlen hlen' hfl hf hsz
    go_enter Tryd.func139, Tryd.ntmps139
    go_wp2_with fail
    refine Calls.mono HFO.out ?_
    rintro e w1 ⟨rfl, hb1⟩
    go_wp2_with fail
    refine Calls.mono (HSZ.out _) ?_
    rintro e w2 ⟨rfl, hb2⟩
    obtain ⟨hblk, hb3⟩ := form_var hb2
    have hb4 := hb1.trans (hb3.mono hb1.size)
    have hrow2 := HROW.out.below hb4
    have z0 : w2.cell? ⟨w1.heap.size, 0, none⟩ = some (.int .u64 6) := cells_of hblk 0
    have z1 : w2.cell? ⟨w1.heap.size, 1, none⟩ = some (.int .i64 3) := cells_of hblk 1
    have z2 : w2.cell? ⟨w1.heap.size, 2, none⟩ = some (.int .i64 9) := cells_of hblk 2
    have z3 : w2.cell? ⟨w1.heap.size, 3, none⟩ = some (.int .i64 255) := cells_of hblk 3
    have HRM2 := (show Hid _ from HRM.out w2 hrow2)
    have HFP2 := (show Hid _ from HFP.out w2 hrow2)
    have HB4 := (show Hid _ from hb4)
    clear hb1 hb2 hb3 hb4 hblk hrow2 HRM HFP HFO HSZ
    go_wp2_with fail
    refine Calls.mono HRM2.out ?_
    rintro e w3 ⟨rfl, hw3⟩
    have hw3' := hw3.symm
    subst hw3'
    go_wp2_with fail
    refine Calls.mono HFP2.out ?_
    rintro e w4 ⟨rfl, v4, hr4, hk4, hg4⟩
    clear z0 z1 z2 z3
    go_wp2
    go_ret
    refine ⟨rfl, v4, hr4, (Kept.of_below HB4.out).trans hk4 (fun x hx => .inl hx), ?_⟩
    rcases hg4 with t | ⟨g, t, hg⟩
    · exact .inl t
    · exact .inr ⟨g, t, Nat.le_trans HB4.out.size hg⟩
  · rw [hf] at hfo hlen
    unfold formVal at hfo
    have hlen' : (BitMath.waveOf n).length = 4 + 12 := hlen
    have HFO := (show Hid _ from hfo)
    have HSZ : Hid (∀ w0, Calls Tryd.prog 63 #[formVal 3] w0 fun e w' => e = .returned (.int .i64 16) ∧ Below w0.heap.size w0 w') := fun w0 => size_at 3 (by omega) w0
    have HRM := (show Hid _ from fun w0 hr0 => room_any w0 r v bs hr0 (by omega))
    have HFP := (show Hid _ from fun w0 hr0 => fput_at 3 (by omega) n hf w0 r v bs hr0 hsz h0 h1)
    have hrm : decide ((1048576 : Int) - (bs.length : Int) < 16) = false := by simp; omega
    clear hfo hlen hlen' hfl hf hsz
    go_enter Tryd.func139, Tryd.ntmps139
    go_wp2_with fail
    refine Calls.mono HFO.out ?_
    rintro e w1 ⟨rfl, hb1⟩
    go_wp2_with fail
    refine Calls.mono (HSZ.out _) ?_
    rintro e w2 ⟨rfl, hb2⟩
    obtain ⟨hblk, hb3⟩ := form_var hb2
    have hb4 := hb1.trans (hb3.mono hb1.size)
    have hrow2 := HROW.out.below hb4
    have z0 : w2.cell? ⟨w1.heap.size, 0, none⟩ = some (.int .u64 14) := cells_of hblk 0
    have z1 : w2.cell? ⟨w1.heap.size, 1, none⟩ = some (.int .i64 4) := cells_of hblk 1
    have z2 : w2.cell? ⟨w1.heap.size, 2, none⟩ = some (.int .i64 12) := cells_of hblk 2
    have z3 : w2.cell? ⟨w1.heap.size, 3, none⟩ = some (.int .i64 2047) := cells_of hblk 3
    have HRM2 := (show Hid _ from HRM.out w2 hrow2)
    have HFP2 := (show Hid _ from HFP.out w2 hrow2)
    have HB4 := (show Hid _ from hb4)
    clear hb1 hb2 hb3 hb4 hblk hrow2 HRM HFP HFO HSZ
    go_wp2_with fail
    refine Calls.mono HRM2.out ?_
    rintro e w3 ⟨rfl, hw3⟩
    have hw3' := hw3.symm
    subst hw3'
    go_wp2_with fail
    refine Calls.mono HFP2.out ?_
    rintro e w4 ⟨rfl, v4, hr4, hk4, hg4⟩
    clear z0 z1 z2 z3
    go_wp2
    go_ret
    refine ⟨rfl, v4, hr4, (Kept.of_below HB4.out).trans hk4 (fun x hx => .inl hx), ?_⟩
    rcases hg4 with t | ⟨g, t, hg⟩
    · exact .inl t
    · exact .inr ⟨g, t, Nat.le_trans HB4.out.size hg⟩
  · rw [hf] at hfo hlen
    unfold formVal at hfo
    have hlen' : (BitMath.waveOf n).length = 4 + 64 := hlen
    have HFO := (show Hid _ from hfo)
    have HSZ : Hid (∀ w0, Calls Tryd.prog 63 #[formVal 4] w0 fun e w' => e = .returned (.int .i64 68) ∧ Below w0.heap.size w0 w') := fun w0 => size_at 4 (by omega) w0
    have HRM := (show Hid _ from fun w0 hr0 => room_any w0 r v bs hr0 (by omega))
    have HFP := (show Hid _ from fun w0 hr0 => fput_at 4 (by omega) n hf w0 r v bs hr0 hsz h0 h1)
    have hrm : decide ((1048576 : Int) - (bs.length : Int) < 68) = false := by simp; omega
    clear hfo hlen hlen' hfl hf hsz
    go_enter Tryd.func139, Tryd.ntmps139
    go_wp2_with fail
    refine Calls.mono HFO.out ?_
    rintro e w1 ⟨rfl, hb1⟩
    go_wp2_with fail
    refine Calls.mono (HSZ.out _) ?_
    rintro e w2 ⟨rfl, hb2⟩
    obtain ⟨hblk, hb3⟩ := form_var hb2
    have hb4 := hb1.trans (hb3.mono hb1.size)
    have hrow2 := HROW.out.below hb4
    have z0 : w2.cell? ⟨w1.heap.size, 0, none⟩ = some (.int .u64 15) := cells_of hblk 0
    have z1 : w2.cell? ⟨w1.heap.size, 1, none⟩ = some (.int .i64 4) := cells_of hblk 1
    have z2 : w2.cell? ⟨w1.heap.size, 2, none⟩ = some (.int .i64 64) := cells_of hblk 2
    have z3 : w2.cell? ⟨w1.heap.size, 3, none⟩ = some (.int .i64 0) := cells_of hblk 3
    have HRM2 := (show Hid _ from HRM.out w2 hrow2)
    have HFP2 := (show Hid _ from HFP.out w2 hrow2)
    have HB4 := (show Hid _ from hb4)
    clear hb1 hb2 hb3 hb4 hblk hrow2 HRM HFP HFO HSZ
    go_wp2_with fail
    refine Calls.mono HRM2.out ?_
    rintro e w3 ⟨rfl, hw3⟩
    have hw3' := hw3.symm
    subst hw3'
    go_wp2_with fail
    refine Calls.mono HFP2.out ?_
    rintro e w4 ⟨rfl, v4, hr4, hk4, hg4⟩
    clear z0 z1 z2 z3
    go_wp2
    go_ret
    refine ⟨rfl, v4, hr4, (Kept.of_below HB4.out).trans hk4 (fun x hx => .inl hx), ?_⟩
    rcases hg4 with t | ⟨g, t, hg⟩
    · exact .inl t
    · exact .inr ⟨g, t, Nat.le_trans HB4.out.size hg⟩

end Go.Proofs.YtnjmplmogibgfabDoor
/- Package wave's Get by its contract. -/
namespace Go.Proofs.YtnjmplmogibgfabDoor
open Go.RowKit

/-- What reading leaves: the reader's own block may change, nothing else. -/
theorem Kept.draws {S : List Nat} {a w : World} (h : Kept S a w) (q : Nat) : Kept S a (w.drewN q) := ⟨h.os, h.tape, h.output, h.size, h.block⟩
theorem IsReader.kept {w w' : World} {x g cap : Nat} {l : List UInt8} {i n : Nat} (h : IsReader w x g cap l i n) (k : Kept [] w w') : IsReader w' x g cap l i n :=
  ⟨(k.block x h.lt (by simp)).trans h.hb, fun j hj => by
    have hg : g < w.heap.size := Nat.lt_trans h.hg h.lt
    have hb := k.block g hg (by simp)
    have := h.hc j hj
    simp only [World.cell?, hb] at this ⊢
    exact this, h.hcap, h.hg, h.hi, h.hn, h.hl⟩
theorem Kept.cell {S : List Nat} {w w' : World} (k : Kept S w w') {b o : Nat} {v : Value} (h : w.cell? ⟨b, o, none⟩ = some v) (hb : b ∉ S) : w'.cell? ⟨b, o, none⟩ = some v := by
  have hl := lt_of_cell h
  have e := k.block b hl hb
  simp only [World.cell?, e] at h ⊢
  exact h
theorem Forms.kept {S : List Nat} {w w' : World} (h : Forms w) (k : Kept S w w') (hS : 9 ∉ S) : Forms w' := fun i hi => by
  have e := k.block 9 h.lt hS
  have := h i hi
  simp only [World.cell?, e] at this ⊢
  exact this
theorem Kept.none {S : List Nat} {w w' : World} (h : Kept [] w w') : Kept S w w' := ⟨h.os, h.tape, h.output, h.size, fun k hk _ => h.block k hk (by simp)⟩

theorem bit_read (l : List UInt8) (i k N : Nat) (hN : N ≤ 8 * l.length) (h : i + k + 1 ≤ N) (b : Bool) (hb : (BitMath.restB l i N)[k]? = some b) : BitMath.valB (BitMath.readB l (i + k) 1) = b.toNat := by
  rw [BitMath.readB_rest l (i + k) 1 N h, BitMath.restB_drop]
  have hl := BitMath.length_restB l i N hN
  have hk : k < (BitMath.restB l i N).length := by omega
  rw [List.drop_eq_getElem_cons hk, List.take_succ_cons, List.take_zero, BitMath.valB_one]
  rw [List.getElem?_eq_getElem hk] at hb
  rw [Option.some.inj hb]

/-- Behind the result's four cells. -/
theorem stored_kept {w wa wr : World} {x : Nat} (hka : Kept [] w wa) (hkr : Kept [x] wa wr) (a b c d : Value) : Kept [x] w ((((wr.setCell ⟨w.heap.size, 0, none⟩ a).setCell ⟨w.heap.size, 1, none⟩ b).setCell ⟨w.heap.size, 2, none⟩ c).setCell ⟨w.heap.size, 3, none⟩ d) := by
  have h : Kept [x] w wr := hka.none.trans hkr (fun y hy => .inl hy)
  exact (((h.setCell (.inr (Nat.le_refl _)) _).setCell (.inr (Nat.le_refl _)) _).setCell (.inr (Nat.le_refl _)) _).setCell (.inr (Nat.le_refl _)) _
theorem reader_set {w : World} {x g cap : Nat} {l : List UInt8} {i n : Nat} (h : IsReader w x g cap l i n) (b o : Nat) (hx : x ≠ b) (hg : g ≠ b) (v : Value) : IsReader (w.setCell ⟨b, o, none⟩ v) x g cap l i n := by
  refine ⟨?_, fun j hj => ?_, h.hcap, h.hg, h.hi, h.hn, h.hl⟩
  · rw [Below.heap_setCell _ _ _ _ (by simpa using hx)]
    exact h.hb
  · rw [World.cell?_setCell_other _ _ _ _ (by intro e; exact hg (congrArg Addr.block e).symm)]
    exact h.hc j hj
theorem stored_read {wr : World} {x g cap : Nat} {l : List UInt8} {i n r : Nat} (h : IsReader wr x g cap l i n) (hx : x < r) (_hy : 0 < r) (a b c d : Value) : IsReader ((((wr.setCell ⟨r, 0, none⟩ a).setCell ⟨r, 1, none⟩ b).setCell ⟨r, 2, none⟩ c).setCell ⟨r, 3, none⟩ d) x g cap l i n := by
  have hg := h.hg
  exact reader_set (reader_set (reader_set (reader_set h r 0 (by omega) (by omega) _) r 1 (by omega) (by omega) _) r 2 (by omega) (by omega) _) r 3 (by omega) (by omega) _

/-- The zero value of a form. -/
def noForm : Value := .agg #[.int .u64 0, .int .i64 0, .int .i64 0, .int .i64 0]

set_option maxRecDepth 1000000 in
set_option maxHeartbeats 4000000 in
theorem getForm_any (w : World) (x g cap : Nat) (l : List UInt8) (i N : Nat) (h : IsReader w x g cap l i N) (hF : Forms w) (a : Addr) (hE : w.cell? ⟨0, 0, none⟩ = some (.iface 321 (.pointer (some a)))) (hxF : x ≠ 9) (hxE : x ≠ 0) :
    Calls Tryd.prog 203 #[.pointer (some ⟨x, 0, none⟩)] w fun e w' => Kept [x] w w' ∧ 
      ((e = .returned (.tuple #[formVal (BitMath.onesOf (BitMath.restB l i N) 4), .nilIface]) ∧ (BitMath.headOf (BitMath.onesOf (BitMath.restB l i N) 4)).length ≤ (BitMath.restB l i N).length ∧ IsReader w' x g cap l (i + (BitMath.headOf (BitMath.onesOf (BitMath.restB l i N) 4)).length) N) ∨
       (e = .returned (.tuple #[noForm, .iface 321 (.pointer (some a))]) ∧ (BitMath.restB l i N).length < (BitMath.headOf (BitMath.onesOf (BitMath.restB l i N) 4)).length ∧ ∃ j, i ≤ j ∧ IsReader w' x g cap l j N)) := by
  have HF : Hid (Forms w) := hF
  have HX := (show Hid _ from h)
  have HE := (show Hid _ from hE)
  have hxl := h.lt
  have hlD := BitMath.length_restB l i N h.hn
  have hiN := h.hi
  generalize hD : BitMath.restB l i N = D at *
  have HD := (show Hid _ from hD)
  have HLD := (show Hid _ from hlD)
  have hN8 := h.hn
  have HN8 := (show Hid _ from hN8)
  clear hF h hE hD hlD hN8
  go_enter Tryd.func203, Tryd.ntmps203
  go_wp2_with fail
  generalize hw0 : w.alloc (.cells #[.int .u64 0, .int .i64 0, .int .i64 0, .int .i64 0] 122) = wa
  have hka : Kept [] w wa := by rw [← hw0]; exact (Kept.refl _ _).alloc _
  have hwa : wa.heap[w.heap.size]? = some (.cells #[.int .u64 0, .int .i64 0, .int .i64 0, .int .i64 0] 122 (0, 0)) := by rw [← hw0]; exact heap_alloc_new _ _
  have hsa : wa.heap.size = w.heap.size + 1 := by rw [← hw0]; simp
  have HWA := (show Hid _ from hwa)
  have HKA := (show Hid _ from hka)
  have HXA := (show Hid _ from HX.out.kept hka)
  clear hw0 hwa hka
  go_loopw [4, 5, 6] (fun c _ _ wr => ∃ k : Nat, k ≤ 4 ∧ c = .int .i64 k ∧ (∀ j, j < k → D[j]? = some true) ∧ IsReader wr x g cap l (i + k) N ∧ Kept [x] wa wr) (fun c _ _ _ => 4 - (intOf c).toNat)
  case atStart => exact ⟨0, Nat.zero_le _, rfl, fun j hj => absurd hj (by omega), HXA.out, Kept.refl _ _⟩
  case round =>
    obtain ⟨k, hk, rfl, hones, hrd, hkr⟩ := hrel
    have hsr := hkr.size
    have hFr := (HF.out.kept HKA.out (by simp)).kept hkr (by simp; omega)
    have hEr : wr.cell? ⟨0, 0, none⟩ = some (.iface 321 (.pointer (some a))) := hkr.cell (HKA.out.cell HE.out (by simp)) (by simp; omega)
    have HO := (show Hid _ from hones)
    have HKR := (show Hid _ from hkr)
    have HRD := (show Hid _ from hrd)
    have HFR : Hid (Forms wr) := hFr
    clear hones hkr hrd hFr HX HXA
    by_cases hk4 : k = 4
    · subst hk4
      have hon : BitMath.onesOf D 4 = 4 := BitMath.onesOf_eq 4 D 4 (Nat.le_refl _) HO.out (fun h => absurd h (by omega))
      have hDl : 4 ≤ D.length := by
        have := HO.out 3 (by omega)
        rcases Nat.lt_or_ge 3 D.length with h | h
        · omega
        · rw [List.getElem?_eq_none h] at this; cases this
      have HON := (show Hid _ from hon)
      have HDL := (show Hid _ from hDl)
      have hFr := HFR.out
      have f0 : wr.cell? ⟨9, 16, none⟩ = some (.int .u64 15) := hFr 16 (by omega)
      have f1 : wr.cell? ⟨9, 17, none⟩ = some (.int .i64 4) := hFr 17 (by omega)
      have f2 : wr.cell? ⟨9, 18, none⟩ = some (.int .i64 64) := hFr 18 (by omega)
      have f3 : wr.cell? ⟨9, 19, none⟩ = some (.int .i64 0) := hFr 19 (by omega)
      clear hFr hEr hon hDl
      have hblk : wr.heap[w.heap.size]? = some (.cells #[.int .u64 0, .int .i64 0, .int .i64 0, .int .i64 0] 122 (0, 0)) := (HKR.out.block _ (by omega) (by simp; omega)).trans HWA.out
      have z0 := cells_of hblk 0
      have z1 := cells_of hblk 1
      have z2 := cells_of hblk 2
      have z3 := cells_of hblk 3
      have y0 := frozen_of hblk 0
      have y1 := frozen_of hblk 1
      have y2 := frozen_of hblk 2
      have y3 := frozen_of hblk 3
      simp only [List.getElem?_toArray] at z0 z1 z2 z3
      clear hblk
      go_wp2
      refine bodyPost_ret (v := .tuple #[formVal 4, .nilIface]) (by simp [results, Tryd.results203, go_sem, formVal, z0, z1, z2, z3]) rfl ⟨?_, .inl ⟨by rw [HON.out], by rw [HON.out]; exact HDL.out, ?_⟩⟩
      · exact stored_kept HKA.out HKR.out _ _ _ _
      · rw [HON.out]
        exact stored_read HRD.out (by omega) (by omega) _ _ _ _
    · have hk3 : k < 4 := by omega
      by_cases hmore : i + k + 1 ≤ N
      · have hkD : k < D.length := by have := HLD.out; omega
        obtain ⟨b, hb⟩ : ∃ b, D[k]? = some b := ⟨D[k], List.getElem?_eq_getElem hkD⟩
        have hval := bit_read l i k N HN8.out hmore b (by rw [HD.out]; exact hb)
        have hget := get_ok wr x g cap l (i + k) N HRD.out 1 (by decide) hmore
        rw [hval] at hget
        have HGET := (show Hid _ from hget)
        have hkI : (k : Int) < 4 := by omega
        clear hget hval hEr
        cases b with
        | true =>
          have HB := (show Hid _ from hb)
          clear hb
          go_wp2_with fail
          refine Calls.mono HGET.out ?_
          rintro e w1 ⟨rfl, hr1, hk1, hs1⟩
          have HR1 := (show Hid _ from hr1)
          have HK1 := (show Hid _ from HKR.out.trans hk1 (fun y hy => .inl hy))
          clear hr1 hk1 hs1
          go_wp2
          go_roundw
          case rel =>
            refine ⟨k + 1, by omega, by go_num, fun j hj => ?_, HR1.out, HK1.out⟩
            rcases Nat.lt_or_ge j k with h | h
            · exact HO.out j h
            · have : j = k := by omega
              subst this
              exact HB.out
          case measure => simp [intOf]; omega
        | false =>
          have hon : BitMath.onesOf D 4 = k := BitMath.onesOf_eq 4 D k (by omega) HO.out (fun _ => by rw [List.getD_eq_getElem?_getD, hb]; rfl)
          have hhl : (BitMath.headOf k).length = k + 1 := by rw [BitMath.length_headOf, if_pos (by omega)]
          have HON := (show Hid _ from hon)
          have HHL := (show Hid _ from hhl)
          have HKD : Hid (k < D.length) := hkD
          clear hon hhl hb hkD
          go_wp2_with fail
          refine Calls.mono HGET.out ?_
          rintro e w1 ⟨rfl, hr1, hk1, hs1⟩
          have HR1 := (show Hid _ from hr1)
          have HK1 := (show Hid _ from HKR.out.trans hk1 (fun y hy => .inl hy))
          have hF1 := HFR.out.kept hk1 (by simp; omega)
          have hs2 : wa.heap.size ≤ w1.heap.size := by omega
          clear hr1 hk1 HGET
          rcases (by omega : k = 0 ∨ k = 1 ∨ k = 2 ∨ k = 3) with rfl | rfl | rfl | rfl
          · have f0 : w1.cell? ⟨9, 0, none⟩ = some (.int .u64 0) := hF1 0 (by omega)
            have f1 : w1.cell? ⟨9, 1, none⟩ = some (.int .i64 1) := hF1 1 (by omega)
            have f2 : w1.cell? ⟨9, 2, none⟩ = some (.int .i64 0) := hF1 2 (by omega)
            have f3 : w1.cell? ⟨9, 3, none⟩ = some (.int .i64 0) := hF1 3 (by omega)
            clear hF1
            have hblk : w1.heap[w.heap.size]? = some (.cells #[.int .u64 0, .int .i64 0, .int .i64 0, .int .i64 0] 122 (0, 0)) := (HK1.out.block _ (by omega) (by simp; omega)).trans HWA.out
            have z0 := cells_of hblk 0
            have z1 := cells_of hblk 1
            have z2 := cells_of hblk 2
            have z3 := cells_of hblk 3
            have y0 := frozen_of hblk 0
            have y1 := frozen_of hblk 1
            have y2 := frozen_of hblk 2
            have y3 := frozen_of hblk 3
            simp only [List.getElem?_toArray] at z0 z1 z2 z3
            clear hblk
            go_wp2
            refine bodyPost_ret (v := .tuple #[formVal 0, .nilIface]) (by simp [results, Tryd.results203, go_sem, formVal, z0, z1, z2, z3]) rfl ⟨?_, .inl ⟨by rw [HON.out], by rw [HON.out]; exact HKD.out, ?_⟩⟩
            · exact stored_kept HKA.out HK1.out _ _ _ _
            · rw [HON.out]
              exact stored_read HR1.out (by omega) (by omega) _ _ _ _
          · have f0 : w1.cell? ⟨9, 4, none⟩ = some (.int .u64 2) := hF1 4 (by omega)
            have f1 : w1.cell? ⟨9, 5, none⟩ = some (.int .i64 2) := hF1 5 (by omega)
            have f2 : w1.cell? ⟨9, 6, none⟩ = some (.int .i64 7) := hF1 6 (by omega)
            have f3 : w1.cell? ⟨9, 7, none⟩ = some (.int .i64 63) := hF1 7 (by omega)
            clear hF1
            have hblk : w1.heap[w.heap.size]? = some (.cells #[.int .u64 0, .int .i64 0, .int .i64 0, .int .i64 0] 122 (0, 0)) := (HK1.out.block _ (by omega) (by simp; omega)).trans HWA.out
            have z0 := cells_of hblk 0
            have z1 := cells_of hblk 1
            have z2 := cells_of hblk 2
            have z3 := cells_of hblk 3
            have y0 := frozen_of hblk 0
            have y1 := frozen_of hblk 1
            have y2 := frozen_of hblk 2
            have y3 := frozen_of hblk 3
            simp only [List.getElem?_toArray] at z0 z1 z2 z3
            clear hblk
            go_wp2
            refine bodyPost_ret (v := .tuple #[formVal 1, .nilIface]) (by simp [results, Tryd.results203, go_sem, formVal, z0, z1, z2, z3]) rfl ⟨?_, .inl ⟨by rw [HON.out], by rw [HON.out]; exact HKD.out, ?_⟩⟩
            · exact stored_kept HKA.out HK1.out _ _ _ _
            · rw [HON.out]
              exact stored_read HR1.out (by omega) (by omega) _ _ _ _
          · have f0 : w1.cell? ⟨9, 8, none⟩ = some (.int .u64 6) := hF1 8 (by omega)
            have f1 : w1.cell? ⟨9, 9, none⟩ = some (.int .i64 3) := hF1 9 (by omega)
            have f2 : w1.cell? ⟨9, 10, none⟩ = some (.int .i64 9) := hF1 10 (by omega)
            have f3 : w1.cell? ⟨9, 11, none⟩ = some (.int .i64 255) := hF1 11 (by omega)
            clear hF1
            have hblk : w1.heap[w.heap.size]? = some (.cells #[.int .u64 0, .int .i64 0, .int .i64 0, .int .i64 0] 122 (0, 0)) := (HK1.out.block _ (by omega) (by simp; omega)).trans HWA.out
            have z0 := cells_of hblk 0
            have z1 := cells_of hblk 1
            have z2 := cells_of hblk 2
            have z3 := cells_of hblk 3
            have y0 := frozen_of hblk 0
            have y1 := frozen_of hblk 1
            have y2 := frozen_of hblk 2
            have y3 := frozen_of hblk 3
            simp only [List.getElem?_toArray] at z0 z1 z2 z3
            clear hblk
            go_wp2
            refine bodyPost_ret (v := .tuple #[formVal 2, .nilIface]) (by simp [results, Tryd.results203, go_sem, formVal, z0, z1, z2, z3]) rfl ⟨?_, .inl ⟨by rw [HON.out], by rw [HON.out]; exact HKD.out, ?_⟩⟩
            · exact stored_kept HKA.out HK1.out _ _ _ _
            · rw [HON.out]
              exact stored_read HR1.out (by omega) (by omega) _ _ _ _
          · have f0 : w1.cell? ⟨9, 12, none⟩ = some (.int .u64 14) := hF1 12 (by omega)
            have f1 : w1.cell? ⟨9, 13, none⟩ = some (.int .i64 4) := hF1 13 (by omega)
            have f2 : w1.cell? ⟨9, 14, none⟩ = some (.int .i64 12) := hF1 14 (by omega)
            have f3 : w1.cell? ⟨9, 15, none⟩ = some (.int .i64 2047) := hF1 15 (by omega)
            clear hF1
            have hblk : w1.heap[w.heap.size]? = some (.cells #[.int .u64 0, .int .i64 0, .int .i64 0, .int .i64 0] 122 (0, 0)) := (HK1.out.block _ (by omega) (by simp; omega)).trans HWA.out
            have z0 := cells_of hblk 0
            have z1 := cells_of hblk 1
            have z2 := cells_of hblk 2
            have z3 := cells_of hblk 3
            have y0 := frozen_of hblk 0
            have y1 := frozen_of hblk 1
            have y2 := frozen_of hblk 2
            have y3 := frozen_of hblk 3
            simp only [List.getElem?_toArray] at z0 z1 z2 z3
            clear hblk
            go_wp2
            refine bodyPost_ret (v := .tuple #[formVal 3, .nilIface]) (by simp [results, Tryd.results203, go_sem, formVal, z0, z1, z2, z3]) rfl ⟨?_, .inl ⟨by rw [HON.out], by rw [HON.out]; exact HKD.out, ?_⟩⟩
            · exact stored_kept HKA.out HK1.out _ _ _ _
            · rw [HON.out]
              exact stored_read HR1.out (by omega) (by omega) _ _ _ _
      · have hget := get_none wr x g cap l (i + k) N HRD.out 1 a hEr (by decide) (by decide) (by omega)
        have HGET := (show Hid _ from hget)
        have hkI : (k : Int) < 4 := by omega
        have hon : D.length < (BitMath.headOf (BitMath.onesOf D 4)).length := by
          have hDk : D.length = k := by have := HLD.out; have := HRD.out.hi; omega
          have : BitMath.onesOf D 4 = k := BitMath.onesOf_eq 4 D k (by omega) HO.out (fun _ => by rw [List.getD_eq_getElem?_getD, List.getElem?_eq_none (by omega)]; rfl)
          rw [this, BitMath.length_headOf, if_pos (by omega)]
          omega
        have HON := (show Hid _ from hon)
        clear hget hon hEr
        go_wp2_with fail
        refine Calls.mono HGET.out ?_
        rintro e w1 ⟨rfl, q, rfl⟩
        have hblk : (wr.drewN q).heap[w.heap.size]? = some (.cells #[.int .u64 0, .int .i64 0, .int .i64 0, .int .i64 0] 122 (0, 0)) := ((HKR.out.draws q).block _ (by omega) (by simp; omega)).trans HWA.out
        have z0 := cells_of hblk 0
        have z1 := cells_of hblk 1
        have z2 := cells_of hblk 2
        have z3 := cells_of hblk 3
        have y0 := frozen_of hblk 0
        have y1 := frozen_of hblk 1
        have y2 := frozen_of hblk 2
        have y3 := frozen_of hblk 3
        simp only [List.getElem?_toArray] at z0 z1 z2 z3
        clear hblk
        go_wp2
        refine bodyPost_ret (v := .tuple #[noForm, .iface 321 (.pointer (some a))]) (by simp [results, Tryd.results203, go_sem, noForm, z0, z1, z2, z3]) rfl ⟨?_, .inr ⟨rfl, HON.out, i + k, by omega, ?_⟩⟩
        · exact stored_kept HKA.out (HKR.out.draws q) _ _ _ _
        · exact stored_read (HRD.out.drewN q) (by omega) (by omega) _ _ _ _
end Go.Proofs.YtnjmplmogibgfabDoor
/- Package wave's Ticks by its contract, where every tick is in bounds and there is room. -/
namespace Go.Proofs.YtnjmplmogibgfabDoor
open Go.RowKit

theorem inTime_ok (t : Int) (w : World) (h0 : -1099511627776 ≤ t) (h1 : t ≤ 1099511627776) :
    Calls Tryd.prog 137 #[.int .i64 t] w fun e w' => e = .returned (.bool true) ∧ w' = w := by
  have d0 : decide (-1099511627776 ≤ t) = true := by simpa using h0
  have d1 : decide (t ≤ 1099511627776) = true := by simpa using h1
  go_enter Tryd.func137, Tryd.ntmps137
  go_wp2
  go_ret
  exact ⟨rfl, rfl⟩

theorem change_any (a s t : Int) (b : Bool) (w : World) (ha0 : -1099511627776 ≤ a) (ha1 : a ≤ 1099511627776) (hs0 : -2199023255552 ≤ s) (hs1 : s ≤ 2199023255552) (ht0 : -1099511627776 ≤ t) (ht1 : t ≤ 1099511627776) :
    Calls Tryd.prog 140 #[.agg #[.int .i64 a, .int .i64 s, .bool b], .int .i64 t] w fun e w' => e = .returned (.int .i64 (t - a - s)) ∧ Below w.heap.size w w' := by
  go_enter Tryd.func140, Tryd.ntmps140
  go_wp2
  go_ret
  exact ⟨rfl, (Below.refl _ _).alloc (Nat.le_refl _) _⟩

theorem two_blocks {w : World} {C D : Array Value} {t u : TypeId} : (∀ i, ((w.alloc (.cells C t)).alloc (.cells D u)).cell? ⟨w.heap.size + 1, i, none⟩ = D[i]?) ∧ Below w.heap.size w ((w.alloc (.cells C t)).alloc (.cells D u)) := by
  refine ⟨fun i => ?_, ((Below.refl _ _).alloc (Nat.le_refl _) _).alloc (by simp) _⟩
  have h : ((w.alloc (.cells C t)).alloc (.cells D u)).heap[w.heap.size + 1]? = some (.cells D u (0, 0)) := by
    have := heap_alloc_new (w.alloc (.cells C t)) (.cells D u)
    simpa using this
  exact cells_of h i

theorem moved_first (a s t : Int) (w : World) :
    Calls Tryd.prog 141 #[.agg #[.int .i64 a, .int .i64 s, .bool false], .int .i64 t] w fun e w' => e = .returned (.agg #[.int .i64 t, .int .i64 0, .bool true]) ∧ Below w.heap.size w w' := by
  go_enter Tryd.func141, Tryd.ntmps141
  go_wp2
  refine bodyPost_ret (v := .agg #[.int .i64 t, .int .i64 0, .bool true]) (by simp [results, Tryd.results141, go_sem]) rfl ⟨rfl, ?_⟩
  exact two_blocks.2

theorem moved_next (a s t : Int) (w : World) (ha0 : -1099511627776 ≤ a) (ha1 : a ≤ 1099511627776) (ht0 : -1099511627776 ≤ t) (ht1 : t ≤ 1099511627776) :
    Calls Tryd.prog 141 #[.agg #[.int .i64 a, .int .i64 s, .bool true], .int .i64 t] w fun e w' => e = .returned (.agg #[.int .i64 t, .int .i64 (t - a), .bool true]) ∧ Below w.heap.size w w' := by
  go_enter Tryd.func141, Tryd.ntmps141
  go_wp2
  refine bodyPost_ret (v := .agg #[.int .i64 t, .int .i64 (t - a), .bool true]) (by simp [results, Tryd.results141, go_sem]) rfl ⟨rfl, ?_⟩
  exact two_blocks.2

/-- The course behind k ticks, as a value's three parts. -/
theorem moved_at (G : Nat → Int) (n k : Nat) (hk : k < n) (hok : ∀ i, i < n → -1099511627776 ≤ G i ∧ G i ≤ 1099511627776) (w : World) :
    Calls Tryd.prog 141 #[.agg #[.int .i64 (cAt G k), .int .i64 (cStep G k), .bool (decide (0 < k))], .int .i64 (G k)] w fun e w' => e = .returned (.agg #[.int .i64 (cAt G (k + 1)), .int .i64 (cStep G (k + 1)), .bool true]) ∧ Below w.heap.size w w' := by
  have hb := course_bounds G n k (by omega) hok
  have ht := hok k hk
  by_cases h0 : k = 0
  · subst h0
    rw [(course_first G).1, (course_first G).2]
    exact moved_first _ _ _ w
  · rw [(course_next G k (by omega)).1, (course_next G k (by omega)).2, decide_eq_true (by omega)]
    exact moved_next _ _ _ w hb.1 hb.2.1 ht.1 ht.2
theorem change_at (G : Nat → Int) (n k : Nat) (hk : k < n) (hok : ∀ i, i < n → -1099511627776 ≤ G i ∧ G i ≤ 1099511627776) (w : World) :
    Calls Tryd.prog 140 #[.agg #[.int .i64 (cAt G k), .int .i64 (cStep G k), .bool (decide (0 < k))], .int .i64 (G k)] w fun e w' => e = .returned (.int .i64 (deltaOf G k)) ∧ Below w.heap.size w w' := by
  have hb := course_bounds G n k (by omega) hok
  have ht := hok k hk
  rw [← course_delta]
  exact change_any _ _ _ _ w hb.1 hb.2.1 hb.2.2.1 hb.2.2.2 ht.1 ht.2
theorem delta_bounds (G : Nat → Int) (n k : Nat) (hk : k < n) (hok : ∀ i, i < n → -1099511627776 ≤ G i ∧ G i ≤ 1099511627776) : -9223372036854775808 ≤ deltaOf G k ∧ deltaOf G k ≤ 9223372036854775807 := by
  have hb := course_bounds G n k (by omega) hok
  have ht := hok k hk
  rw [← course_delta]
  omega

/-- Blocks below r stay: what a slice that came in keeps. -/
theorem Ints.low {w w' : World} {a : Option Addr} {n : Nat} {G : Nat → Int} (h : Ints w a n G) {r : Nat} (hb : Below r w w') (hr : ∀ x, a = some x → x.block < r) : Ints w' a n G := by
  rcases h with h | ⟨b, o, h, hc⟩
  · exact .inl h
  · refine .inr ⟨b, o, h, fun k hk => ?_⟩
    exact (hb.cell (p := ⟨b, o + k, none⟩) (show b < r from hr _ h)).trans (hc k hk)

/-- A write elsewhere leaves a row as it is. -/
theorem row_set {w : World} {r : Nat} {v : Value} {bs : List Bool} (h : IsRow w r v bs) (b o : Nat) (hb : b ∉ r :: v.ownBlock.toList) (u : Value) : IsRow (w.setCell ⟨b, o, none⟩ u) r v bs := by
  have hr : r ≠ b := fun e => hb (by rw [e]; simp)
  refine ⟨?_, ?_⟩
  · rw [Below.heap_setCell _ _ _ _ (by simpa using hr)]
    exact h.hb
  · obtain ⟨h1, h2⟩ := h.own
    refine ⟨h1, ?_⟩
    rcases h2 with h2 | ⟨g, cap, cur, hv, hg, hh, t⟩
    · exact .inl h2
    · have hgb : g ≠ b := fun e => hb (by rw [hv, e]; simp [Value.ownBlock])
      exact .inr ⟨g, cap, cur, hv, hg, by rw [Below.heap_setCell _ _ _ _ (by simpa using hgb)]; exact hh, t⟩

set_option maxRecDepth 1000000 in
set_option maxHeartbeats 2000000 in
theorem fit_ok (w : World) (hF : Forms w) (r : Nat) (v : Value) (bs : List Bool) (h : IsRow w r v bs) (la : Option Addr) (n c : Nat) (G : Nat → Int) (hI : Ints w la n G) (hn : n ≤ 10000) (hok : ∀ i, i < n → -1099511627776 ≤ G i ∧ G i ≤ 1099511627776) (hsz : bs.length + (ticksTo G n).length ≤ 1048576) :
    Calls Tryd.prog 138 #[.pointer (some ⟨r, 0, none⟩), .slice la n c] w fun e w' => e = .returned (.bool true) ∧ Below w.heap.size w w' := by
  have HF : Hid (Forms w) := hF
  have hFl := hF.lt
  have HI : Hid (Ints w la n G) := hI
  have HOK := (show Hid _ from hok)
  have hba : Below w.heap.size w (w.alloc (.cells #[.int .i64 0, .int .i64 0, .bool false] 220)) := (Below.refl _ _).alloc (Nat.le_refl _) _
  have HRM := (show Hid _ from room_any _ r v bs (h.below hba) (by omega))
  have hblk : (w.alloc (.cells #[.int .i64 0, .int .i64 0, .bool false] 220)).heap[w.heap.size]? = some (.cells #[.int .i64 0, .int .i64 0, .bool false] 220 (0, 0)) := heap_alloc_new _ _
  have HBLK := (show Hid _ from hblk)
  have HBA := (show Hid _ from hba)
  clear hF hI hok h hba hblk
  go_enter Tryd.func138, Tryd.ntmps138
  go_wp2_with fail
  refine Calls.mono HRM.out ?_
  rintro e w1 ⟨rfl, rfl⟩
  go_wp2_with fail
  go_loopw [4, 6, 8, 13] (fun s4 rm _ i wr => s4 = .bool false ∧ ∃ k : Nat, k ≤ n ∧ i = .int .i64 k ∧ (∃ q : Int, rm = .int .i64 q ∧ q = 1048576 - ((bs.length + (ticksTo G k).length : Nat) : Int)) ∧ wr.heap[w.heap.size]? = some (.cells #[.int .i64 (cAt G k), .int .i64 (cStep G k), .bool (decide (0 < k))] 220 (0, 0)) ∧ Below w.heap.size w wr) (fun _ _ _ i _ => n - (intOf i).toNat)
  case atStart => exact ⟨rfl, 0, Nat.zero_le _, rfl, ⟨_, rfl, rfl⟩, HBLK.out, HBA.out⟩
  case round =>
    obtain ⟨rfl, k, hk, rfl, ⟨q, rfl, hq⟩, hblk, hbr⟩ := hrel
    clear HRM HBLK HBA
    by_cases hlt : k < n
    · obtain ⟨lb, lo, rfl, hc⟩ := HI.out.at k hlt
      have hlb : lb < w.heap.size := lt_of_cell hc
      have hcr : wr.cell? ⟨lb, lo + k, none⟩ = some (.int .i64 (G k)) := (hbr.cell (p := ⟨lb, lo + k, none⟩) hlb).trans hc
      have hch := fun w0 => change_at G n k hlt HOK.out w0
      have hmv := fun w0 => moved_at G n k hlt HOK.out w0
      have hdb := delta_bounds G n k hlt HOK.out
      have hmo := length_ticksTo_mono G (k + 1) n (by omega)
      have hst := length_ticksTo_step G k
      have hwl : (w.heap.size : Nat) < wr.heap.size := lt_of_block hblk
      generalize ha : cAt G k = a at *
      generalize hs : cStep G k = s at *
      generalize hb : decide (0 < k) = b at *
      generalize ht : G k = t at *
      generalize hd : deltaOf G k = d at *
      generalize ha' : cAt G (k + 1) = a' at *
      generalize hs' : cStep G (k + 1) = s' at *
      have HCH := (show Hid _ from hch)
      have HMV := (show Hid _ from hmv)
      have HBR := (show Hid _ from hbr)
      have HBLK := (show Hid _ from hblk)
      have z0 : wr.cell? ⟨w.heap.size, 0, none⟩ = some (.int .i64 a) := cells_of hblk 0
      have z1 : wr.cell? ⟨w.heap.size, 1, none⟩ = some (.int .i64 s) := cells_of hblk 1
      have z2 : wr.cell? ⟨w.heap.size, 2, none⟩ = some (.bool b) := cells_of hblk 2
      have hk0 : (0 : Int) ≤ (k : Int) := by omega
      have hk1 : (k : Int) < (n : Int) := by omega
      obtain ⟨ld, hld⟩ : ∃ ld : Int, ((BitMath.waveOf d).length : Int) = ld := ⟨_, rfl⟩
      have hq1 : q ≤ 1048576 := by omega
      have hq0 : 0 ≤ q - ld := by omega
      have hl0 : 0 ≤ ld := by omega
      have hqn : q - ld = 1048576 - ((bs.length + (ticksTo G (k + 1)).length : Nat) : Int) := by omega
      have HQN := (show Hid _ from hqn)
      have HLD := (show Hid _ from hld)
      have hneg : decide (q - ld < 0) = false := by simp; omega
      have HA' := (show Hid _ from ha')
      have HS' := (show Hid _ from hs')
      clear hch hmv hbr hblk ha hs hb ht hd ha' hs' hc hqn hld hq hmo hst hsz
      go_wp2_with fail
      refine Calls.mono (HCH.out _) ?_
      rintro e w2 ⟨rfl, hb2⟩
      have hb2w := HBR.out.trans (hb2.mono HBR.out.size)
      have hsz2 := wsize_any d w2 (HF.out.below hb2w hFl) hdb.1 hdb.2
      rw [HLD.out] at hsz2
      have HSZ := (show Hid _ from hsz2)
      have HB2 := (show Hid _ from hb2)
      clear hsz2 hb2w hb2 HCH z0 z1 z2 hcr
      go_wp2_with fail
      refine Calls.mono HSZ.out ?_
      rintro e w3 ⟨rfl, hb3⟩
      have hb3r : Below wr.heap.size wr w3 := HB2.out.trans (hb3.mono HB2.out.size)
      have hblk3 := (hb3r.block w.heap.size hwl).trans HBLK.out
      have y0 : w3.cell? ⟨w.heap.size, 0, none⟩ = some (.int .i64 a) := cells_of hblk3 0
      have y1 : w3.cell? ⟨w.heap.size, 1, none⟩ = some (.int .i64 s) := cells_of hblk3 1
      have y2 : w3.cell? ⟨w.heap.size, 2, none⟩ = some (.bool b) := cells_of hblk3 2
      have HB3 := (show Hid _ from hb3r)
      clear hb3 hb3r hblk3 HSZ HB2
      go_wp2_with fail
      refine Calls.mono (HMV.out _) ?_
      rintro e w4 ⟨rfl, hb4⟩
      have hb4r : Below wr.heap.size wr w4 := HB3.out.trans (hb4.mono HB3.out.size)
      have hblk4 := (hb4r.block w.heap.size hwl).trans HBLK.out
      have v0 : w4.cell? ⟨w.heap.size, 0, none⟩ = some (.int .i64 a) := cells_of hblk4 0
      have v1 : w4.cell? ⟨w.heap.size, 1, none⟩ = some (.int .i64 s) := cells_of hblk4 1
      have v2 : w4.cell? ⟨w.heap.size, 2, none⟩ = some (.bool b) := cells_of hblk4 2
      have x0 := frozen_of hblk4 0
      have x1 := frozen_of hblk4 1
      have x2 := frozen_of hblk4 2
      have hset := heap_set (heap_set (heap_set hblk4 0 (.int .i64 a')) 1 (.int .i64 s')) 2 (.bool true)
      have HSET := (show Hid _ from hset)
      have hb4w := HBR.out.trans (hb4r.mono HBR.out.size)
      have HB4 := (show Hid _ from ((hb4w.setCell (p := ⟨w.heap.size, 0, none⟩) (Nat.le_refl _) (.int .i64 a')).setCell (p := ⟨w.heap.size, 1, none⟩) (Nat.le_refl _) (.int .i64 s')).setCell (p := ⟨w.heap.size, 2, none⟩) (Nat.le_refl _) (.bool true))
      clear hb4 hb4r hblk4 hset hb4w y0 y1 y2 HMV
      go_wp2
      go_roundw
      case rel => exact ⟨rfl, k + 1, by omega, by go_num, ⟨_, rfl, HQN.out⟩, by rw [HA'.out, HS'.out, decide_eq_true (by omega)]; exact HSET.out, HB4.out⟩
      case measure => simp [intOf]; omega
    · have hge : (n : Int) ≤ (k : Int) := by omega
      have HBR := (show Hid _ from hbr)
      clear hbr hblk hq hk hlt
      go_wp2
      go_ret
      exact ⟨rfl, HBR.out⟩

theorem Kept.lows {S : List Nat} {w w' : World} {r : Nat} (h : Kept S w w') (hr : r ≤ w.heap.size) (hS : ∀ x, x ∈ S → r ≤ x) : Below r w w' := h.below hr hS

set_option maxRecDepth 1000000 in
set_option maxHeartbeats 4000000 in
theorem wticks_ok (w : World) (hF : Forms w) (r : Nat) (hrF : 9 < r) (v : Value) (bs : List Bool) (h : IsRow w r v bs) (la : Option Addr) (n c : Nat) (G : Nat → Int) (hI : Ints w la n G) (hlr : ∀ x, la = some x → x.block < r) (hn : n ≤ 10000) (hok : ∀ i, i < n → -1099511627776 ≤ G i ∧ G i ≤ 1099511627776) (hsz : bs.length + (ticksTo G n).length ≤ 1048576) :
    Calls Tryd.prog 105 #[.pointer (some ⟨r, 0, none⟩), .slice la n c] w fun e w' => e = .returned .nilIface ∧ ∃ v', IsRow w' r v' (bs ++ ticksTo G n) ∧ Kept (r :: v.ownBlock.toList) w w' ∧ Grew w v v' := by
  have HF : Hid (Forms w) := hF
  have HI : Hid (Ints w la n G) := hI
  have HOK := (show Hid _ from hok)
  have HROW := (show Hid _ from h)
  have HFIT := (show Hid _ from fit_ok w hF r v bs h la n c G hI hn hok hsz)
  have HSZ := (show Hid _ from hsz)
  have hrl := h.lt
  have HLR := (show Hid _ from hlr)
  clear hF hI hok h hsz hlr
  go_enter Tryd.func105, Tryd.ntmps105
  go_wp2_with fail
  go_loop [4, 5, 6, 16] (fun s4 _ _ i => s4 = .nilIface ∧ ∃ k : Nat, k ≤ n ∧ i = .int .i64 k) (fun _ _ _ i => n - (intOf i).toNat)
  case atStart => exact ⟨rfl, 0, Nat.zero_le _, rfl⟩
  case round =>
    obtain ⟨rfl, k, hk, rfl⟩ := hrel
    by_cases hlt : k < n
    · obtain ⟨lb, lo, rfl, hc⟩ := HI.out.at k hlt
      have hit := inTime_ok (G k) w (HOK.out k hlt).1 (HOK.out k hlt).2
      have HIT := (show Hid _ from hit)
      have hk0 : (0 : Int) ≤ (k : Int) := by omega
      have hk1 : (k : Int) < (n : Int) := by omega
      generalize G k = t at *
      clear hit
      go_wp2_with fail
      refine Calls.mono HIT.out ?_
      rintro e w' ⟨rfl, hw'⟩
      have hw'' := hw'.symm
      subst hw''
      go_wp2
      go_round
      case rel => exact ⟨rfl, k + 1, by omega, by go_num⟩
      case measure => simp [intOf]; omega
    · have hge : (n : Int) ≤ (k : Int) := by omega
      clear hlt hk
      go_wp2_with fail
      refine Calls.mono HFIT.out ?_
      rintro e w1 ⟨rfl, hb1⟩
      have hrow1 := HROW.out.below hb1
      have hs1 := hb1.size
      have HOWNL := (show Hid _ from HROW.out.own_lt)
      have hbA : Below w.heap.size w (w1.alloc (.cells #[.int .i64 0, .int .i64 0, .bool false] 220)) := hb1.alloc hb1.size _
      have hblk : (w1.alloc (.cells #[.int .i64 0, .int .i64 0, .bool false] 220)).heap[w1.heap.size]? = some (.cells #[.int .i64 0, .int .i64 0, .bool false] 220 (0, 0)) := heap_alloc_new _ _
      have HBLK := (show Hid _ from hblk)
      have HBA := (show Hid _ from hbA)
      have HROWA := (show Hid _ from HROW.out.below hbA)
      clear hb1 hrow1 hbA hblk HFIT
      go_wp2_with fail
      generalize hcb : w1.heap.size = cb at *
      go_loopw [4, 9, 10, 37] (fun s4 _ _ i wr => s4 = .nilIface ∧ ∃ (k : Nat) (v' : Value), k ≤ n ∧ i = .int .i64 k ∧ IsRow wr r v' (bs ++ ticksTo G k) ∧ wr.heap[cb]? = some (.cells #[.int .i64 (cAt G k), .int .i64 (cStep G k), .bool (decide (0 < k))] 220 (0, 0)) ∧ cb ∉ r :: v'.ownBlock.toList ∧ Kept (r :: v.ownBlock.toList) w wr ∧ Grew w v v') (fun _ _ _ i _ => n - (intOf i).toNat)
      case atStart =>
        refine ⟨rfl, 0, v, Nat.zero_le _, rfl, by rw [ticksTo, List.append_nil]; exact HROWA.out, HBLK.out, fun hm => ?_, Kept.of_below HBA.out, .inl rfl⟩
        have := HOWNL.out _ hm
        omega
      case round =>
        obtain ⟨rfl, k, v', hk, rfl, hrow, hblk, hcbn, hkw, hgw⟩ := hrel
        clear HROWA HBLK HBA
        by_cases hlt : k < n
        · have hlow : Below r w wr := hkw.lows (Nat.le_of_lt hrl) HROW.out.own_ge
          have hFr : Forms wr := HF.out.below hlow hrF
          obtain ⟨lb, lo, rfl, hc⟩ := HI.out.at k hlt
          have hlbr : lb < r := HLR.out _ rfl
          have hcr : wr.cell? ⟨lb, lo + k, none⟩ = some (.int .i64 (G k)) := (hlow.cell (p := ⟨lb, lo + k, none⟩) hlbr).trans hc
          have hch := change_at G n k hlt HOK.out wr
          have hmv := fun w0 => moved_at G n k hlt HOK.out w0
          have hdb := delta_bounds G n k hlt HOK.out
          have hmo := length_ticksTo_mono G (k + 1) n (by omega)
          have hst := length_ticksTo_step G k
          have hstep : bs ++ ticksTo G (k + 1) = bs ++ ticksTo G k ++ BitMath.waveOf (deltaOf G k) := by rw [ticksTo, List.append_assoc]
          have hlen : (bs ++ ticksTo G k).length = bs.length + (ticksTo G k).length := List.length_append
          have hcbl : cb < wr.heap.size := lt_of_block hblk
          have hfit : (bs ++ ticksTo G k).length + (BitMath.waveOf (deltaOf G k)).length ≤ 1048576 := by have := HSZ.out; omega
          have HSTEP := (show Hid _ from hstep)
          generalize hL : bs ++ ticksTo G k = L at *
          generalize ha : cAt G k = a at *
          generalize hs : cStep G k = s at *
          generalize hb : decide (0 < k) = b at *
          generalize ht : G k = t at *
          generalize hd : deltaOf G k = d at *
          generalize ha' : cAt G (k + 1) = a' at *
          generalize hs' : cStep G (k + 1) = s' at *
          have HCH := (show Hid _ from hch)
          have HMV := (show Hid _ from hmv)
          have HBLK := (show Hid _ from hblk)
          have HRW := (show Hid _ from hrow)
          have HKW := (show Hid _ from hkw)
          have HGW : Hid (Grew w v v') := hgw
          have HFR : Hid (Forms wr) := hFr
          have HCBN : Hid (cb ∉ r :: v'.ownBlock.toList) := hcbn
          have z0 : wr.cell? ⟨cb, 0, none⟩ = some (.int .i64 a) := cells_of hblk 0
          have z1 : wr.cell? ⟨cb, 1, none⟩ = some (.int .i64 s) := cells_of hblk 1
          have z2 : wr.cell? ⟨cb, 2, none⟩ = some (.bool b) := cells_of hblk 2
          have hk0 : (0 : Int) ≤ (k : Int) := by omega
          have hk1 : (k : Int) < (n : Int) := by omega
          have HA' := (show Hid _ from ha')
          have HS' := (show Hid _ from hs')
          have HFT := (show Hid _ from hfit)
          have hFl := hFr.lt
          clear hch hmv hblk hrow hkw hgw hFr hcbn hlow hL ha hs hb ht hd ha' hs' hc hmo hst hstep hlen hfit
          go_wp2_with fail
          refine Calls.mono HCH.out ?_
          rintro e w2 ⟨rfl, hb2⟩
          have hrow2 := HRW.out.below hb2
          have hput := wput_ok d w2 (HFR.out.below hb2 hFl) r v' L hrow2 HFT.out hdb.1 hdb.2
          have HPUT := (show Hid _ from hput)
          have HB2 := (show Hid _ from hb2)
          clear hput hrow2 hb2 HCH z0 z1 z2 hcr
          go_wp2_with fail
          refine Calls.mono HPUT.out ?_
          rintro e w3 ⟨rfl, v3, hr3, hk3, hg3⟩
          have hblk3 : w3.heap[cb]? = some (.cells #[.int .i64 a, .int .i64 s, .bool b] 220 (0, 0)) := (hk3.block cb (by have := HB2.out.size; omega) HCBN.out).trans ((HB2.out.block cb hcbl).trans HBLK.out)
          have hcb3 : cb ∉ r :: v3.ownBlock.toList := fun hm => by
            rcases hg3.mem cb hm with h1 | h1
            · exact HCBN.out h1
            · have := HB2.out.size
              omega
          have y0 : w3.cell? ⟨cb, 0, none⟩ = some (.int .i64 a) := cells_of hblk3 0
          have y1 : w3.cell? ⟨cb, 1, none⟩ = some (.int .i64 s) := cells_of hblk3 1
          have y2 : w3.cell? ⟨cb, 2, none⟩ = some (.bool b) := cells_of hblk3 2
          have hkw3 : Kept (r :: v.ownBlock.toList) w w3 := HKW.out.trans ((Kept.of_below (S := r :: v'.ownBlock.toList) HB2.out).trans hk3 (fun x hx => .inl hx)) HGW.out.mem
          have hgw3 : Grew w v v3 := HGW.out.trans (w1 := w2) hg3 (Nat.le_trans HKW.out.size HB2.out.size)
          have HR3 := (show Hid _ from hr3)
          have HK3 := (show Hid _ from hkw3)
          have HG3 : Hid (Grew w v v3) := hgw3
          have HBLK3 := (show Hid _ from hblk3)
          have HCB3 : Hid (cb ∉ r :: v3.ownBlock.toList) := hcb3
          clear hr3 hk3 hg3 hblk3 hcb3 hkw3 hgw3 HPUT HBLK
          go_wp2_with fail
          refine Calls.mono (HMV.out _) ?_
          rintro e w4 ⟨rfl, hb4⟩
          have hblk4 := (hb4.block cb (lt_of_block HBLK3.out)).trans HBLK3.out
          have v0 : w4.cell? ⟨cb, 0, none⟩ = some (.int .i64 a) := cells_of hblk4 0
          have v1 : w4.cell? ⟨cb, 1, none⟩ = some (.int .i64 s) := cells_of hblk4 1
          have v2 : w4.cell? ⟨cb, 2, none⟩ = some (.bool b) := cells_of hblk4 2
          have x0 := frozen_of hblk4 0
          have x1 := frozen_of hblk4 1
          have x2 := frozen_of hblk4 2
          have HSET := (show Hid _ from heap_set (heap_set (heap_set hblk4 0 (.int .i64 a')) 1 (.int .i64 s')) 2 (.bool true))
          have hcbw : w.heap.size ≤ cb := hs1
          have HK4 := (show Hid _ from (((HK3.out.trans (Kept.of_below (S := []) hb4) (fun x hx => by cases hx)).setCell (p := ⟨cb, 0, none⟩) (.inr hcbw) (.int .i64 a')).setCell (p := ⟨cb, 1, none⟩) (.inr hcbw) (.int .i64 s')).setCell (p := ⟨cb, 2, none⟩) (.inr hcbw) (.bool true))
          have HR4 := (show Hid _ from row_set (row_set (row_set (HR3.out.below hb4) cb 0 HCB3.out (.int .i64 a')) cb 1 HCB3.out (.int .i64 s')) cb 2 HCB3.out (.bool true))
          clear hb4 hblk4 y0 y1 y2 HMV HBLK3 HR3 HK3
          go_wp2
          go_roundw
          case rel => exact ⟨rfl, k + 1, v3, by omega, by go_num, by rw [HSTEP.out]; exact HR4.out, by rw [HA'.out, HS'.out, decide_eq_true (by omega)]; exact HSET.out, HCB3.out, HK4.out, HG3.out⟩
          case measure => simp [intOf]; omega
        · have hkn : k = n := by omega
          subst hkn
          have HRW := (show Hid _ from hrow)
          have HKW := (show Hid _ from hkw)
          have HGW : Hid (Grew w v v') := hgw
          clear hrow hkw hgw hblk hcbn
          go_wp2
          go_ret
          exact ⟨rfl, v', HRW.out, HKW.out, HGW.out⟩
end Go.Proofs.YtnjmplmogibgfabDoor
/- Package wave's ticksOf by its contract. -/
namespace Go.Proofs.YtnjmplmogibgfabDoor
open Go.RowKit

def lastOf (ts : List Int) : Int := if 0 < ts.length then ts.getD (ts.length - 1) 0 else 0
def stepOf (ts : List Int) : Int := if 1 < ts.length then ts.getD (ts.length - 1) 0 - ts.getD (ts.length - 2) 0 else 0
theorem nextTick_of (ts : List Int) (t : Int) : nextTick ts t = t + lastOf ts + stepOf ts := rfl
theorem lastOf_snoc (ts : List Int) (t : Int) : lastOf (ts ++ [t]) = t := by
  unfold lastOf
  rw [if_pos (by simp), List.length_append, List.length_singleton, Nat.add_sub_cancel, List.getD_eq_getElem?_getD, List.getElem?_append_right (Nat.le_refl _), Nat.sub_self]
  rfl
theorem stepOf_snoc (ts : List Int) (t : Int) : stepOf (ts ++ [t]) = if 0 < ts.length then t - lastOf ts else 0 := by
  by_cases h : 0 < ts.length
  · rw [if_pos h]
    unfold stepOf
    rw [if_pos (by simp; omega)]
    have h1 := lastOf_snoc ts t
    unfold lastOf at h1
    rw [if_pos (by simp)] at h1
    rw [h1]
    congr 1
    unfold lastOf
    rw [if_pos h, List.getD_eq_getElem?_getD, List.getD_eq_getElem?_getD, List.length_append, List.length_singleton, show ts.length + 1 - 2 = ts.length - 1 by omega, List.getElem?_append_left (by omega)]
  · rw [if_neg h]
    unfold stepOf
    rw [if_neg (by rw [List.length_append, List.length_singleton]; omega)]
theorem lastOf_bounds (ts : List Int) (h : AllTicks ts) : -1099511627776 ≤ lastOf ts ∧ lastOf ts ≤ 1099511627776 := by
  unfold lastOf
  by_cases h0 : 0 < ts.length
  · rw [if_pos h0]; exact h.at _ (by omega)
  · rw [if_neg h0]; omega
theorem stepOf_bounds (ts : List Int) (h : AllTicks ts) : -2199023255552 ≤ stepOf ts ∧ stepOf ts ≤ 2199023255552 := by
  unfold stepOf
  by_cases h0 : 1 < ts.length
  · rw [if_pos h0]
    have h1 := h.at (ts.length - 1) (by omega)
    have h2 := h.at (ts.length - 2) (by omega)
    omega
  · rw [if_neg h0]; omega

theorem moved_of (ts : List Int) (t : Int) (hall : AllTicks ts) (ht : isTick t = true) (w : World) :
    Calls Tryd.prog 141 #[.agg #[.int .i64 (lastOf ts), .int .i64 (stepOf ts), .bool (decide (0 < ts.length))], .int .i64 t] w fun e w' => e = .returned (.agg #[.int .i64 (lastOf (ts ++ [t])), .int .i64 (stepOf (ts ++ [t])), .bool true]) ∧ Below w.heap.size w w' := by
  have hl := lastOf_bounds ts hall
  have ht := (isTick_iff t).1 ht
  rw [lastOf_snoc, stepOf_snoc]
  by_cases h0 : 0 < ts.length
  · rw [if_pos h0, decide_eq_true h0]
    exact moved_next _ _ _ w hl.1 hl.2 ht.1 ht.2
  · rw [if_neg h0, decide_eq_false h0]
    exact moved_first _ _ _ w

theorem inTime_any (t : Int) (w : World) :
    Calls Tryd.prog 137 #[.int .i64 t] w fun e w' => e = .returned (.bool (isTick t)) ∧ w' = w := by
  by_cases h0 : -1099511627776 ≤ t
  · by_cases h1 : t ≤ 1099511627776
    · rw [(isTick_iff t).2 ⟨h0, h1⟩]
      exact inTime_ok t w h0 h1
    · have hf : isTick t = false := by
        cases h : isTick t with
        | false => rfl
        | true => exact absurd ((isTick_iff t).1 h).2 h1
      rw [hf]
      have d0 : decide (-1099511627776 ≤ t) = true := by simpa using h0
      have d1 : decide (t ≤ 1099511627776) = false := by simpa using h1
      clear hf h0 h1
      go_enter Tryd.func137, Tryd.ntmps137
      go_wp2
      go_ret
      exact ⟨rfl, rfl⟩
  · have hf : isTick t = false := by
      cases h : isTick t with
      | false => rfl
      | true => exact absurd ((isTick_iff t).1 h).1 h0
    rw [hf]
    have d0 : decide (-1099511627776 ≤ t) = false := by simpa using h0
    clear hf h0
    go_enter Tryd.func137, Tryd.ntmps137
    go_wp2
    go_ret
    exact ⟨rfl, rfl⟩

theorem wrap_tick (a s t : Int) (ha0 : -1099511627776 ≤ a) (ha1 : a ≤ 1099511627776) (hs0 : -2199023255552 ≤ s) (hs1 : s ≤ 2199023255552) (ht0 : -9223372036854775808 ≤ t) (ht1 : t ≤ 9223372036854775807) :
    isTick (wrap64 (a + s + t)) = isTick (t + a + s) ∧ (isTick (wrap64 (a + s + t)) = true → wrap64 (a + s + t) = t + a + s) := by
  have h : wrap64 (a + s + t) = t + a + s ∨ ((wrap64 (a + s + t) < -1099511627776 ∨ 1099511627776 < wrap64 (a + s + t)) ∧ (t + a + s < -1099511627776 ∨ 1099511627776 < t + a + s)) := by
    unfold wrap64
    omega
  rcases h with h | ⟨h1, h2⟩
  · rw [h]
    exact ⟨rfl, fun _ => rfl⟩
  · have e1 : isTick (wrap64 (a + s + t)) = false := by
      cases h : isTick (wrap64 (a + s + t)) with
      | false => rfl
      | true => have := (isTick_iff _).1 h; omega
    have e2 : isTick (t + a + s) = false := by
      cases h : isTick (t + a + s) with
      | false => rfl
      | true => have := (isTick_iff _).1 h; omega
    rw [e1, e2]
    exact ⟨rfl, fun h => by cases h⟩

theorem tick_any (a s t : Int) (b : Bool) (w : World) (ha0 : -1099511627776 ≤ a) (ha1 : a ≤ 1099511627776) (hs0 : -2199023255552 ≤ s) (hs1 : s ≤ 2199023255552) (ht0 : -9223372036854775808 ≤ t) (ht1 : t ≤ 9223372036854775807) :
    Calls Tryd.prog 205 #[.agg #[.int .i64 a, .int .i64 s, .bool b], .int .i64 t] w fun e w' => (∃ x, e = .returned (.int .i64 x) ∧ isTick x = isTick (t + a + s) ∧ (isTick x = true → x = t + a + s)) ∧ Below w.heap.size w w' := by
  go_enter Tryd.func205, Tryd.ntmps205
  go_wp2
  go_ret
  exact ⟨⟨_, rfl, wrap_tick a s t ha0 ha1 hs0 hs1 ht0 ht1⟩, (Below.refl _ _).alloc (Nat.le_refl _) _⟩
theorem own_baseLow {w : World} {b c : Nat} {e : TypeId} {s : Nat} {v : Value} {n : Nat} {xs : List Value} (h : w.ownsRow b e s v n xs) (hb : c ≤ b) : w.ownsRow c e s v n xs := by
  obtain ⟨h1, h2⟩ := h
  refine ⟨h1, ?_⟩
  rcases h2 with h2 | ⟨g, cap, cur, hv, hg, r⟩
  · exact .inl h2
  · exact .inr ⟨g, cap, cur, hv, Nat.le_trans hb hg, r⟩
theorem own_setLow {w : World} {r : Nat} {e : TypeId} {s : Nat} {v : Value} {n : Nat} {xs : List Value} (h : w.ownsRow (r + 1) e s v n xs) (o : Nat) (u : Value) : (w.setCell ⟨r, o, none⟩ u).ownsRow (r + 1) e s v n xs := by
  obtain ⟨h1, h2⟩ := h
  refine ⟨h1, ?_⟩
  rcases h2 with h2 | ⟨g, cap, cur, hv, hg, hh, t⟩
  · exact .inl h2
  · exact .inr ⟨g, cap, cur, hv, hg, by rw [Below.heap_setCell _ _ _ _ (by simp; omega)]; exact hh, t⟩
theorem ticksBy_at (ts ns : List Int) (k : Nat) (hk : k < ns.length) : ticksBy ts (ns.drop k) = if isTick (nextTick ts (ns.getD k 0)) = true then ticksBy (ts ++ [nextTick ts (ns.getD k 0)]) (ns.drop (k + 1)) else none := by
  rw [List.drop_eq_getElem_cons hk, ticksBy, List.getD_eq_getElem?_getD, List.getElem?_eq_getElem hk]
  rfl

/-- What ticksOf answers. -/
def TicksMade (w w' : World) (ns : List Int) (n : Nat) (aB : Addr) (e : Ending) : Prop :=
  Below w.heap.size w w' ∧ ((∃ (ts : List Int) (v : Value), ticksBy [] ns = some ts ∧ ts.length = n ∧ AllTicks ts ∧ e = .returned (.tuple #[v, .nilIface]) ∧ w'.ownsRow w.heap.size 3 1 v n (intList ts)) ∨
    (ticksBy [] ns = none ∧ e = .returned (.tuple #[.slice none 0 0, .iface 321 (.pointer (some aB))])))

/-- Where ticksOf stands. -/
structure TOf (w wr : World) (ns ts : List Int) (k : Nat) (v : Value) : Prop where
  len : ts.length = k
  all : AllTicks ts
  eq : ticksBy [] ns = ticksBy ts (ns.drop k)
  own : wr.ownsRow (w.heap.size + 1) 3 1 v k (intList ts)
  blk : wr.heap[w.heap.size]? = some (.cells #[.int .i64 (lastOf ts), .int .i64 (stepOf ts), .bool (decide (0 < k))] 220 (0, 0))
  bel : Below w.heap.size w wr

set_option maxRecDepth 1000000 in
set_option maxHeartbeats 4000000 in
theorem ticks_made (w : World) (aB : Addr) (hE : w.cell? ⟨1, 0, none⟩ = some (.iface 321 (.pointer (some aB)))) (la : Option Addr) (c n : Nat) (ns : List Int) (hnl : ns.length = n) (hn : n ≤ 1000) (hI : Ints w la n (fun k => ns.getD k 0)) (hr : ∀ k, k < n → -9223372036854775808 ≤ ns.getD k 0 ∧ ns.getD k 0 ≤ 9223372036854775807) :
    Calls Tryd.prog 177 #[.slice la n c] w fun e w' => TicksMade w w' ns n aB e := by
  have HE := (show Hid _ from hE)
  have HI : Hid (Ints w la n (fun k => ns.getD k 0)) := hI
  have HR := (show Hid _ from hr)
  have HNL := (show Hid _ from hnl)
  have hel : (1 : Nat) < w.heap.size := lt_of_cell hE
  have hba : Below w.heap.size w (w.alloc (.cells #[.int .i64 0, .int .i64 0, .bool false] 220)) := (Below.refl _ _).alloc (Nat.le_refl _) _
  have hblk : (w.alloc (.cells #[.int .i64 0, .int .i64 0, .bool false] 220)).heap[w.heap.size]? = some (.cells #[.int .i64 0, .int .i64 0, .bool false] 220 (0, 0)) := heap_alloc_new _ _
  have HBLK := (show Hid _ from hblk)
  have HBA := (show Hid _ from hba)
  clear hE hI hr hnl hba hblk
  obtain ⟨i0, hi, hz0, hz1, hz2⟩ := info_parts Tryd.infoIntR
  go_enter Tryd.func177, Tryd.ntmps177
  go_wp2_with (at_make; refine wpList_make_own _ rfl _ _ 61 rfl (w.heap.size + 1) 3 i0 (.int .i64 0) 1 Tryd.underlying61 hi hz0 hz1 _ _ _ n rfl rfl (by omega) ?b2 ?b3 (by simp) ?_)
  case b2 => rw [hz2]; omega
  case b3 => unfold maxLen; omega
  intro w0 hown0 hgrow0
  have hsz0 : (w.alloc (.cells #[.int .i64 0, .int .i64 0, .bool false] 220)).heap.size = w.heap.size + 1 := by simp
  have h00 : TOf w w0 ns [] 0 (.slice (some ⟨w.heap.size + 1, 0, none⟩) 0 n) := by
    refine ⟨rfl, fun t ht => absurd ht (by simp), rfl, hown0, ?_, HBA.out.trans ⟨hgrow0.os, hgrow0.tape, hgrow0.output, hgrow0.size, fun j hj => hgrow0.block j (by omega) (by simp)⟩⟩
    exact (hgrow0.block w.heap.size (by omega) (by simp)).trans HBLK.out
  have H00 := (show Hid _ from h00)
  clear hown0 hgrow0 h00 HBLK HBA hsz0
  go_wp2_with fail
  go_loopw [2, 3, 5, 7, 8, 14] (fun r2 r3 l _ _ i wr => r2 = .slice none 0 0 ∧ r3 = .nilIface ∧ ∃ (k : Nat) (ts : List Int) (v : Value), k ≤ n ∧ i = .int .i64 k ∧ v = l ∧ TOf w wr ns ts k v) (fun _ _ _ _ _ i _ => n - (intOf i).toNat)
  case atStart => exact ⟨rfl, rfl, 0, [], _, Nat.zero_le _, rfl, rfl, H00.out⟩
  case round =>
    obtain ⟨rfl, rfl, k, ts, v, hk, rfl, rfl, hof⟩ := hrel
    clear H00
    by_cases hlt : k < n
    · obtain ⟨lb, lo, rfl, hc⟩ := HI.out.at k hlt
      have hlb : lb < w.heap.size := lt_of_cell hc
      have hcr : wr.cell? ⟨lb, lo + k, none⟩ = some (.int .i64 (ns.getD k 0)) := (hof.bel.cell (p := ⟨lb, lo + k, none⟩) hlb).trans hc
      have hrk := HR.out k hlt
      have hst := ticksBy_at ts ns k (by have := HNL.out; omega)
      have hwl : (w.heap.size : Nat) < wr.heap.size := lt_of_block hof.blk
      have hlbd := lastOf_bounds ts hof.all
      have hsbd := stepOf_bounds ts hof.all
      have hmv := fun x hx w0 => moved_of ts x hof.all hx w0
      rw [hof.len] at hmv
      have hblk := hof.blk
      rw [nextTick_of] at hst
      generalize ht : ns.getD k 0 = t at *
      generalize ha : lastOf ts = a at *
      generalize hs : stepOf ts = s at *
      have htk := fun w0 => tick_any a s t (decide (0 < k)) w0 hlbd.1 hlbd.2 hsbd.1 hsbd.2 hrk.1 hrk.2
      generalize hb : decide (0 < k) = b at *
      have HTK := (show Hid _ from htk)
      have HMV := (show Hid _ from hmv)
      have HOF := (show Hid _ from hof)
      have HST := (show Hid _ from hst)
      have HBLK := (show Hid _ from hblk)
      have z0 : wr.cell? ⟨w.heap.size, 0, none⟩ = some (.int .i64 a) := cells_of hblk 0
      have z1 : wr.cell? ⟨w.heap.size, 1, none⟩ = some (.int .i64 s) := cells_of hblk 1
      have z2 : wr.cell? ⟨w.heap.size, 2, none⟩ = some (.bool b) := cells_of hblk 2
      have hk0 : (0 : Int) ≤ (k : Int) := by omega
      have hk1 : (k : Int) < (n : Int) := by omega
      clear htk hmv hof hst hblk ht ha hs hb hc hlbd hsbd hrk
      go_wp2_with fail
      refine Calls.mono (HTK.out _) ?_
      rintro e w2 ⟨⟨x, rfl, hx1, hx2⟩, hb2⟩
      have HX1 := (show Hid _ from hx1)
      have HX2 := (show Hid _ from hx2)
      have HB2 := (show Hid _ from hb2)
      have HIT := (show Hid _ from inTime_any x w2)
      clear hx1 hx2 hb2 HTK z0 z1 z2 hcr
      go_wp2_with fail
      refine Calls.mono HIT.out ?_
      rintro e w3 ⟨rfl, hw3⟩
      have hw3' := hw3.symm
      subst hw3'
      clear HIT
      cases hxt : isTick x with
      | false =>
        have hbw : Below w.heap.size w w2 := HOF.out.bel.trans (HB2.out.mono HOF.out.bel.size)
        have hE2 : w2.cell? ⟨1, 0, none⟩ = some (.iface 321 (.pointer (some aB))) := (hbw.cell (p := ⟨1, 0, none⟩) hel).trans HE.out
        have hfin : ticksBy [] ns = none := by
          rw [HOF.out.eq, HST.out, if_neg]
          rw [← HX1.out, hxt]
          decide
        have HF := (show Hid _ from hfin)
        have HBW := (show Hid _ from hbw)
        clear hfin hbw hxt
        go_wp2_with fail
        go_quiet (fail)
        go_wp2
        go_ret2
        exact ⟨HBW.out.trans ((⟨rfl, rfl, rfl, Nat.le_refl _, fun _ _ => rfl⟩ : Below w2.heap.size w2 (w2.drewN nq)).mono HBW.out.size), .inr ⟨HF.out, rfl⟩⟩
      | true =>
        have hxe := HX2.out hxt
        have hstx := HST.out
        rw [← hxe, if_pos hxt] at hstx
        have hmx := HMV.out x hxt
        have hall2 := HOF.out.all.snoc x hxt
        have hblk2 := (HB2.out.block w.heap.size hwl).trans HBLK.out
        have y0 : w2.cell? ⟨w.heap.size, 0, none⟩ = some (.int .i64 a) := cells_of hblk2 0
        have y1 : w2.cell? ⟨w.heap.size, 1, none⟩ = some (.int .i64 s) := cells_of hblk2 1
        have y2 : w2.cell? ⟨w.heap.size, 2, none⟩ = some (.bool b) := cells_of hblk2 2
        generalize ha' : lastOf (ts ++ [x]) = a' at *
        generalize hs' : stepOf (ts ++ [x]) = s' at *
        have HMX := (show Hid _ from hmx)
        have HSTX := (show Hid _ from hstx)
        have HALL := (show Hid _ from hall2)
        have HA' := (show Hid _ from ha')
        have HS' := (show Hid _ from hs')
        clear hmx hstx hall2 ha' hs' hxe hxt hblk2 HST HMV HX1 HX2
        go_wp2_with fail
        refine Calls.mono (HMX.out _) ?_
        rintro e w4 ⟨rfl, hb4⟩
        have hb4r : Below wr.heap.size wr w4 := HB2.out.trans (hb4.mono HB2.out.size)
        have hblk4 := (hb4r.block w.heap.size hwl).trans HBLK.out
        have v0 : w4.cell? ⟨w.heap.size, 0, none⟩ = some (.int .i64 a) := cells_of hblk4 0
        have v1 : w4.cell? ⟨w.heap.size, 1, none⟩ = some (.int .i64 s) := cells_of hblk4 1
        have v2 : w4.cell? ⟨w.heap.size, 2, none⟩ = some (.bool b) := cells_of hblk4 2
        have x0 := frozen_of hblk4 0
        have x1 := frozen_of hblk4 1
        have x2 := frozen_of hblk4 2
        have hset := heap_set (heap_set (heap_set hblk4 0 (.int .i64 a')) 1 (.int .i64 s')) 2 (.bool true)
        obtain ⟨w5, hw5⟩ : ∃ w5, w5 = ((w4.setCell ⟨w.heap.size, 0, none⟩ (.int .i64 a')).setCell ⟨w.heap.size, 1, none⟩ (.int .i64 s')).setCell ⟨w.heap.size, 2, none⟩ (.bool true) := ⟨_, rfl⟩
        have hb5 : Below w.heap.size w w5 := by
          have hb4w := HOF.out.bel.trans (hb4r.mono HOF.out.bel.size)
          rw [hw5]
          exact ((hb4w.setCell (p := ⟨w.heap.size, 0, none⟩) (Nat.le_refl _) (.int .i64 a')).setCell (p := ⟨w.heap.size, 1, none⟩) (Nat.le_refl _) (.int .i64 s')).setCell (p := ⟨w.heap.size, 2, none⟩) (Nat.le_refl _) (.bool true)
        have hblk5 : w5.heap[w.heap.size]? = some (.cells #[.int .i64 a', .int .i64 s', .bool true] 220 (0, 0)) := by rw [hw5]; exact hset
        have hown5 : w5.ownsRow (w.heap.size + 1) 3 1 v k (intList ts) := by
          have h4 := own_kept HOF.out.own hb4r
          rw [hw5]
          exact own_setLow (own_setLow (own_setLow h4 _ _) _ _) _ _
        have hs5 : w5.heap.size = w4.heap.size := by rw [hw5]; simp
        have h45 := hb4r.size
        have hs5w : w.heap.size + 1 ≤ w5.heap.size := by omega
        have H5 : Hid (∀ w', w' = ((w4.setCell ⟨w.heap.size, 0, none⟩ (.int .i64 a')).setCell ⟨w.heap.size, 1, none⟩ (.int .i64 s')).setCell ⟨w.heap.size, 2, none⟩ (.bool true) → w' = w5) := fun w' h => h.trans hw5.symm
        have HB5 := (show Hid _ from hb5)
        have HBLK5 := (show Hid _ from hblk5)
        have HOWN5 := (show Hid _ from hown5)
        have hownA : (w5.alloc (.cells #[.int .i64 x] 3)).ownsRow (w.heap.size + 1) 3 1 v k (intList ts) := hown5.alloc _
        clear hb4 hb4r hblk4 hset hw5 hb5 hblk5 hown5 hs5 h45 y0 y1 y2 HMX HB2 HBLK
        go_upto_region 10 with fail
        have hww := H5.out _ rfl
        try rw [hww]
        clear hww v0 v1 v2 x0 x1 x2 H5
        go_wp2_with (at_builtin; refine wpList_append_lies _ rfl _ _ 61 rfl (w.heap.size + 1) 3 i0 (.int .i64 0) 1 8 Tryd.underlying61 hi hz0 hz1 hz2 rfl (by decide) _ _ _ rfl hownA ⟨w5.heap.size, 0, none⟩ 1 1 [.int .i64 x] rfl rfl ?c1 ?c2 (by omega) ?c3 ?c4 ?c5 (w5.heap.size + 1) (by simp) ?_)
        try (case c1 => intro j u hj; match j, hj with | 0, hj => simp at hj; subst hj; simp [Addr.add])
        case c2 => first | rfl | (intro u hu; simp at hu; subst hu; rfl)
        case c3 => unfold maxLen; omega
        case c4 => omega
        case c5 => first | omega | (simp; omega)
        intro g6 cap6 w6 hown6 hgrow6 hat6 hlt6
        have hno : ∀ b, b ≤ w.heap.size → v.ownBlock ≠ some b := by
          intro b hb e
          rcases HOWN5.out.2 with ⟨hv0, _⟩ | ⟨g, cap, cur, hv0, hg, _⟩
          · rw [hv0] at e; simp [Value.ownBlock] at e
          · rw [hv0] at e; simp [Value.ownBlock] at e; omega
        have hba : Below w.heap.size w (w5.alloc (.cells #[.int .i64 x] 3)) := HB5.out.alloc HB5.out.size _
        have hb6 : Below w.heap.size w w6 := hba.trans ⟨hgrow6.os, hgrow6.tape, hgrow6.output, hgrow6.size, fun j hj => hgrow6.block j (Nat.lt_of_lt_of_le hj hba.size) (fun e => hno j (by omega) e.symm)⟩
        have hblk6 : w6.heap[w.heap.size]? = some (.cells #[.int .i64 a', .int .i64 s', .bool true] 220 (0, 0)) := by
          refine ((hgrow6.block w.heap.size (by simp; omega) (fun e => hno _ (Nat.le_refl _) e.symm)).trans ?_).trans HBLK5.out
          exact Below.heap_alloc _ _ _ (by omega)
        rw [intList_snoc] at hown6
        have hof6 : TOf w w6 ns (ts ++ [x]) (k + 1) (.slice (some ⟨g6, 0, none⟩) (k + 1) cap6) := ⟨by rw [List.length_append, HOF.out.len]; rfl, HALL.out, HOF.out.eq.trans HSTX.out, hown6, by rw [HA'.out, HS'.out, decide_eq_true (by omega)]; exact hblk6, hb6⟩
        have HOF6 := (show Hid _ from hof6)
        clear hown6 hgrow6 hat6 hlt6 hno hba hb6 hblk6 hof6 hownA
        go_wp2
        go_roundw
        case rel => exact ⟨rfl, rfl, k + 1, ts ++ [x], _, by omega, by go_num, rfl, HOF6.out⟩
        case measure => simp [intOf]; omega
    · have hge : (n : Int) ≤ (k : Int) := by omega
      have hkn : k = n := by omega
      have hmade : TicksMade w wr ns n aB (.returned (.tuple #[v, .nilIface])) := by
        refine ⟨hof.bel, .inl ⟨ts, v, ?_, hof.len.trans hkn, hof.all, rfl, ?_⟩⟩
        · rw [hof.eq, List.drop_of_length_le (by have := HNL.out; omega)]
          rfl
        · rw [← hkn]
          exact own_baseLow hof.own (by omega)
      have HMADE := (show Hid _ from hmade)
      clear hof hkn hmade hlt
      go_wp2
      go_ret2
      exact HMADE.out
end Go.Proofs.YtnjmplmogibgfabDoor
