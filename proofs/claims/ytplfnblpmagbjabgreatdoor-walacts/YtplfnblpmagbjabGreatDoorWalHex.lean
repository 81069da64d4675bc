/- strconv.FormatUint at base 16, by contracts. -/
import Derived.Test.YtplfnblpmagbjabGreatDoorWalMathGroup
import Derived.Test.YtplfnblpmagbjabGreatDoorMaskLibGroup
import Derived.Test.YtplfnblpmagbjabGreatDoorRefLabOfGroup
import Derived.Deep.CutBlock
import Derived.Deep.CutRange
import Derived.Deep.DeepCutAuto
namespace Go.Proofs.YtplfnblpmagbjabGreatDoor
open Go.RowKit WalMath

set_option maxRecDepth 1000000 in
theorem tz16 (w : World) (hT : Tab w) : Calls Tryz.prog 110 #[.int .u64 16] w fun e w' => e = .returned (.int .i64 4) ∧ w' = w := by
  have H : Hid (Calls Tryz.prog 118 #[.int .u64 16] w fun e w' => e = .returned (.int .i64 4) ∧ w' = w) := (Any7.bits_TrailingZeros64 Tryz.lays729 16 (by omega) w fun _ => hT).mono fun e w' h => ⟨h.1.trans (by rfl), h.2⟩
  go_enter Tryz.func110, Tryz.ntmps110
  go_wp2_with (go_at_call 118; refine Calls.mono H.out ?_; rintro e w' ⟨rfl, rfl⟩)
  go_ret
  exact ⟨rfl, rfl⟩

set_option maxRecDepth 1000000 in
theorem pow2_16 (w : World) : Calls Tryz.prog 109 #[.int .i64 16] w fun e w' => e = .returned (.bool true) ∧ w' = w := by
  go_enter Tryz.func109, Tryz.ntmps109
  go_wp2
  go_ret
  exact ⟨rfl, rfl⟩

/-- Sixty-five bytes of a call's own, of which the last ones are tl. -/
structure HexAt (w wr : World) (tl : List UInt8) : Prop where
  blk : ∃ C : Array Value, C.size = 65 ∧ wr.heap[w.heap.size]? = some (.cells C 178 (0, 0)) ∧ ∀ m (hm : m < tl.length), C[65 - tl.length + m]? = some (.int .u8 (tl[m].toNat : Int))
  bel : Below w.heap.size w wr

theorem HexAt.lt {w wr : World} {tl : List UInt8} (h : HexAt w wr tl) : w.heap.size < wr.heap.size := by
  obtain ⟨C, _, h2, _⟩ := h.blk
  exact blk_lt h2
theorem HexAt.cell {w wr : World} {tl : List UInt8} (h : HexAt w wr tl) (j : Nat) (hj : j < 65) : ∃ x, wr.cell? ⟨w.heap.size, j, none⟩ = some x := by
  obtain ⟨C, h1, h2, _⟩ := h.blk
  exact ⟨C[j]'(by omega), by simp [World.cell?, h2, h1, hj]⟩
theorem HexAt.byte {w wr : World} {tl : List UInt8} (h : HexAt w wr tl) (j : Nat) (hj : j < tl.length) : wr.cell? ⟨w.heap.size, 65 - tl.length + j, none⟩ = some (.int .u8 (tl[j].toNat : Int)) := by
  obtain ⟨C, h1, h2, h3⟩ := h.blk
  have e0 : wr.cell? ⟨w.heap.size, 65 - tl.length + j, none⟩ = C[65 - tl.length + j]? := by simp [World.cell?, h2]
  rw [e0, h3 j hj]
theorem HexAt.free {w wr : World} {tl : List UInt8} (h : HexAt w wr tl) (j : Nat) : wr.frozen? ⟨w.heap.size, j, none⟩ = false := by
  obtain ⟨C, h1, h2, _⟩ := h.blk
  simp [World.frozen?, h2]
theorem HexAt.put {w wr : World} {tl : List UInt8} (h : HexAt w wr tl) (hl : tl.length < 65) (j : Nat) (hj : j + 1 + tl.length = 65) (c : UInt8) : HexAt w (wr.setCell ⟨w.heap.size, j, none⟩ (.int .u8 (c.toNat : Int))) (c :: tl) := by
  obtain ⟨C, h1, h2, h3⟩ := h.blk
  refine ⟨⟨C.setIfInBounds j (.int .u8 (c.toNat : Int)), by simp [h1], heap_set h2 j _, fun m hm => ?_⟩, h.bel.setCell (Nat.le_refl _) _⟩
  have hlen : (c :: tl).length = tl.length + 1 := rfl
  cases m with
  | zero =>
    have e : 65 - (c :: tl).length + 0 = j := by rw [hlen]; omega
    rw [e, Array.getElem?_setIfInBounds_self_of_lt (by omega)]
    rfl
  | succ m =>
    have hm' : m < tl.length := by rw [hlen] at hm; omega
    have e : 65 - (c :: tl).length + (m + 1) = 65 - tl.length + m := by rw [hlen]; omega
    rw [e, Array.getElem?_setIfInBounds_ne (by omega), h3 m hm']
    rfl
theorem dig_at (d : Nat) (h : d < 16) (h' : d < (ByteArray.mk #[48, 49, 50, 51, 52, 53, 54, 55, 56, 57, 97, 98, 99, 100, 101, 102, 103, 104, 105, 106, 107, 108, 109, 110, 111, 112, 113, 114, 115, 116, 117, 118, 119, 120, 121, 122]).size) : (ByteArray.mk #[48, 49, 50, 51, 52, 53, 54, 55, 56, 57, 97, 98, 99, 100, 101, 102, 103, 104, 105, 106, 107, 108, 109, 110, 111, 112, 113, 114, 115, 116, 117, 118, 119, 120, 121, 122])[d] = hexd d := by
  rcases (by omega : d = 0 ∨ d = 1 ∨ d = 2 ∨ d = 3 ∨ d = 4 ∨ d = 5 ∨ d = 6 ∨ d = 7 ∨ d = 8 ∨ d = 9 ∨ d = 10 ∨ d = 11 ∨ d = 12 ∨ d = 13 ∨ d = 14 ∨ d = 15) with rfl | rfl | rfl | rfl | rfl | rfl | rfl | rfl | rfl | rfl | rfl | rfl | rfl | rfl | rfl | rfl
  all_goals rfl
/-- The last bytes, as a text. -/
theorem HexAt.text {w wr : World} {tl : List UInt8} (h : HexAt w wr tl) (j : Nat) (hj : j + tl.length = 65) (cap : Nat) : (convert 61 9 (.slice (some ⟨w.heap.size, j, none⟩) tl.length cap)).run Tryz.prog wr = .ok (.string ⟨tl.toArray⟩) wr := by
  refine run_convert_bytes_back (P := Tryz.prog) wr 61 9 5 ⟨w.heap.size, j, none⟩ cap tl Tryz.underlying61 Tryz.underlying5 Tryz.underlying9 (fun m hm => ?_)
  have := h.byte m hm
  rw [show 65 - tl.length + m = j + m by omega] at this
  have ea : (⟨w.heap.size, j, none⟩ : Addr).add m = ⟨w.heap.size, j + m, none⟩ := by
    unfold Addr.add
    split
    · simp_all
    · rfl
  rw [ea]
  exact this

set_option maxRecDepth 1000000 in
set_option maxHeartbeats 2000000 in
theorem formatBits_16 (u : Nat) (hu : u < 18446744073709551616) (w : World) (hT : Tab w) :
    Calls Tryz.prog 90 #[.slice none 0 0, .int .u64 (u : Int), .int .i64 16, .bool false, .bool false] w fun e w' => e = .returned (.tuple #[.slice none 0 0, .string ⟨(hexDigits u).toArray⟩]) ∧ Below w.heap.size w w' := by
  have HT : Hid (∀ C, Tab (w.alloc C)) := fun C => hT.below ((Below.refl _ _).alloc (Nat.le_refl _) _) hT.lt
  clear hT
  go_enter Tryz.func90, Tryz.ntmps90
  go_upto_region 8 with (go_at_call 109; refine Calls.mono (pow2_16 _) ?_; rintro e w' ⟨rfl, rfl⟩)
  obtain ⟨W, hW⟩ : ∃ W, W = w.alloc (.cells Tryz.zeroCells178 178) := ⟨_, rfl⟩
  have HA : Hid (HexAt w W []) := ⟨⟨Tryz.zeroCells178, by rfl, by rw [hW]; exact heap_alloc_new _ _, fun m hm => absurd hm (by simp)⟩, by rw [hW]; exact (Below.refl _ _).alloc (Nat.le_refl _) _⟩
  have HT2 : Hid (Tab W) := by rw [hW]; exact HT.out _
  rw [← hW]
  clear hW HT
  go_wp2_with (go_at_call 110; refine Calls.mono (tz16 _ HT2.out) ?_; rintro e w' ⟨rfl, rfl⟩)
  clear HT2
  go_loopw [1, 13] (fun v i wr => ∃ (u' p : Nat) (tl : List UInt8), v = .int .u64 (u' : Int) ∧ i = .int .i64 ((p : Int) + 1) ∧ Hid (p + 1 + tl.length = 65 ∧ hexDigits u' ++ tl = hexDigits u ∧ u' < 18446744073709551616) ∧ HexAt w wr tl) (fun v _ _ => (intOf v).toNat)
  case atStart => exact ⟨u, 64, [], rfl, rfl, ⟨rfl, by simp, hu⟩, HA.out⟩
  case round =>
    obtain ⟨u', p, tl, rfl, rfl, hh, hx⟩ := hrel
    clear HA
    obtain ⟨hp, hd, hu'⟩ := hh.out
    have HH := hh
    have hpl : (hexDigits u).length ≤ 16 := (hexDigits_pad 15 u (by omega)).2.1
    have hpl' : 1 ≤ (hexDigits u').length := (hexDigits_pad 15 u' (by omega)).1
    have hlen := congrArg List.length hd
    rw [List.length_append] at hlen
    have ip0 : (0 : Int) ≤ (p : Int) := by omega
    have ip1 : (p : Int) < 65 := by omega
    obtain ⟨x, hcell⟩ := hx.cell p (by omega)
    have hfree := hx.free p
    have HX := (show Hid _ from hx)
    have HTL : Hid (tl.length ≤ 15) := by show _ ≤ _; omega
    clear hp hd hh hpl hpl' hlen hx
    by_cases hge : 16 ≤ u'
    · have hge' : (16 : Int) ≤ (u' : Int) := by omega
      have hand : bits .and .u64 (u' : Int) 15 = ((u' % 16 : Nat) : Int) := by
        rw [show (15 : Int) = ((15 : Nat) : Int) from rfl, bits_and_u64_nat u' 15 hu' (by omega), Nat.and_two_pow_sub_one_eq_mod u' 4]
      have HD : Hid (hexDigits u' = hexDigits (u' / 16) ++ [hexd (u' % 16)] ∧ u' / 16 < 18446744073709551616) := ⟨by rw [hexDigits, dif_neg (by omega)], by omega⟩
      go_wp2_with fail
      have hp1 : 1 ≤ p := by have := HH.out.1; have := HTL.out; omega
      refine ⟨⟨u' / 16, p - 1, hexd (u' % 16) :: tl, by rw [Int.natCast_ediv]; rfl, by congr 1; omega, ⟨?_, ?_, HD.out.2⟩, ?_⟩, ?_⟩
      · have := HH.out.1
        simp
        omega
      · rw [← HH.out.2.1, HD.out.1]
        simp
      · rw [dig_at _ (Nat.mod_lt _ (by decide))]
        exact HX.out.put (by have := HTL.out; omega) p HH.out.1 _
      · simp [intOf]
        omega
    · have hlt' : (u' : Int) < 16 := by omega
      have hal : (Tryz.prog).arrayLen 178 = 65 := by simp [Program.arrayLen, Tryz.underlying178]
      have hsl : ∀ W, (Instr.sliceAt 178 (.pointer (some ⟨w.heap.size, 0, none⟩)) (some (.int .i64 (p : Int))) none none).run Tryz.prog W = .ok (.slice (some ⟨w.heap.size, p, none⟩) (65 - p) (65 - p)) W := fun W => by
        rw [run_sliceAt_array_l W 178 ⟨w.heap.size, 0, none⟩ (by simp [Program.arrayLen, Program.elem, Tryz.underlying178]) .i64 (p : Int) (by omega) (by rw [hal]; omega)]
        go_simp
        omega
      obtain ⟨W9, hW9⟩ : ∃ W9, W9 = wr.setCell ⟨w.heap.size, p, none⟩ (.int .u8 ((hexd u').toNat : Int)) := ⟨_, rfl⟩
      have H9 : Hid (HexAt w W9 (hexd u' :: tl)) := by rw [hW9]; exact HX.out.put (by have := HTL.out; omega) p HH.out.1 _
      have hcv : (convert 61 9 (.slice (some ⟨w.heap.size, p, none⟩) (65 - p) (65 - p))).run Tryz.prog W9 = .ok (.string ⟨(hexd u' :: tl).toArray⟩) W9 := by
        have := H9.out.text p (by have := HH.out.1; simp; omega) (65 - p)
        rw [show (hexd u' :: tl).length = 65 - p by have := HH.out.1; simp; omega] at this
        exact this
      clear hal
      go_upto_region 30 with fail
      rw [dig_at _ (by omega), ← hW9]
      clear hW9
      go_wp2
      go_ret2
      refine ⟨?_, H9.out.bel⟩
      rw [← HH.out.2.1, hexDigits, dif_pos (by omega)]
      rfl

set_option maxRecDepth 1000000 in
theorem formatUint_16 (u : Nat) (hu : u < 18446744073709551616) (w : World) (hT : Tab w) :
    Calls Tryz.prog 61 #[.int .u64 (u : Int), .int .i64 16] w fun e w' => e = .returned (.string ⟨(hexDigits u).toArray⟩) ∧ Below w.heap.size w w' := by
  have H : Hid (Calls Tryz.prog 76 #[.int .u64 (u : Int), .int .i64 16] w fun e w' => e = .returned (.string ⟨(hexDigits u).toArray⟩) ∧ Below w.heap.size w w') := by
    have H := (show Hid _ from formatBits_16 u hu w hT)
    clear hT
    go_enter Tryz.func76, Tryz.ntmps76
    go_wp2_with fail
    refine Calls.mono H.out ?_
    rintro e w' ⟨rfl, hb⟩
    go_wp2
    go_ret
    exact ⟨rfl, hb⟩
  clear hT
  go_enter Tryz.func61, Tryz.ntmps61
  go_wp2_with fail
  refine Calls.mono H.out ?_
  rintro e w' ⟨rfl, hb⟩
  go_wp2
  go_ret
  exact ⟨rfl, hb⟩
end Go.Proofs.YtplfnblpmagbjabGreatDoor
