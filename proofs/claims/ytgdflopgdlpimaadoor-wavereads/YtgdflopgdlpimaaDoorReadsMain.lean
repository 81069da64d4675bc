/- The walk of tidegaugelaw1.WaveReads. -/
import Derived.Test.YtgdflopgdlpimaaDoorWaveGet3
import Derived.Test.YtgdflopgdlpimaaDoorWavePut2
import Derived.Test.YtgdflopgdlpimaaDoorOpenBits
import Derived.Test.YtgdflopgdlpimaaDoorCoded
import Derived.Test.YtgdflopgdlpimaaDoorSlicesIn
import Derived.Deep.RegionHeld3
namespace Go.Proofs.YtgdflopgdlpimaaDoor
open Go.RowKit

theorem reader_below2 {w wr w' : World} {x : Nat} (h : Kept [x] wr w') (hb : Below w.heap.size w wr) (hx : w.heap.size ≤ x) : Below w.heap.size w w' :=
  hb.trans (h.below hb.size (fun y hy => by simp at hy; omega))

/-- Bits, in the statement's round. -/
theorem bits_round2 {w wr : World} {lb oV oN : Nat} {x nn : Int} (hb : Below w.heap.size w wr) (hlb : lb < w.heap.size)
    (hx0 : 0 ≤ x) (hx1 : x ≤ 18446744073709551615) (h0 : 0 ≤ nn) (h1 : nn ≤ 64)
    (hV : wr.cell? ⟨lb, oV, none⟩ = some (.int .u64 x)) (hN : wr.cell? ⟨lb, oN, none⟩ = some (.int .i64 nn)) :
    Calls Tryd.prog 19 #[.int .u64 x, .int .i64 nn] wr.drew fun e w' => e = .returned (.string (BitMath.txt (BitMath.bitsOf x.toNat nn.toNat))) ∧ (w'.cell? ⟨lb, oV, none⟩ = some (.int .u64 x) ∧ w'.cell? ⟨lb, oN, none⟩ = some (.int .i64 nn)) ∧ Below w.heap.size w w' := by
  have h := bits_any x.toNat nn wr.drew (by omega) h0 h1
  rw [Int.toNat_of_nonneg hx0] at h
  refine h.mono ?_
  rintro e w' ⟨he, hb1⟩
  have hb1' : Below wr.heap.size wr w' := (below_draw wr 1).trans hb1
  have hl : lb < wr.heap.size := Nat.lt_of_lt_of_le hlb hb.size
  exact ⟨he, ⟨(hb1'.cell (p := ⟨lb, oV, none⟩) hl).trans hV, (hb1'.cell (p := ⟨lb, oN, none⟩) hl).trans hN⟩, hb.trans (hb1'.mono hb.size)⟩

set_option maxRecDepth 1000000 in
theorem reads_long (w : World) (hF : Forms w) (la : Option Addr) (ln lc : Nat) (h : 30 < ln) (hl : (ln : Int) ≤ 9223372036854775807) :
    Calls Tryd.prog 6 #[.slice la ln lc] w fun e w' => e = .returned (.bool true) ∧ Below w.heap.size w w' := by
  have h1' : decide ((30 : Int) < (ln : Int)) = true := by simp; omega
  have HW := (show Hid _ from waved_any w hF)
  clear hF
  go_enter Tryd.func6, Tryd.ntmps6
  go_wp2_with fail
  refine Calls.mono HW.out ?_
  rintro e w1 ⟨rfl, hb⟩
  go_wp2
  go_ret
  exact ⟨rfl, hb⟩

set_option maxRecDepth 1000000 in
set_option maxHeartbeats 4000000 in
theorem reads_main {B : Nat} {ea : Nat → Addr} (w : World) (E : Env B ea w) (hB : B ≤ w.heap.size) (hF : Forms w) (la : Option Addr) (ln lc : Nat) (V N : Nat → Int) (hP : Pieces w la ln V N) (h1 : ln ≤ 30) :
    Calls Tryd.prog 6 #[.slice la ln lc] w fun e w' => e = .returned (.bool true) ∧ Below w.heap.size w w' := by
  have HE : Hid (Env B ea w) := E
  have HF : Hid (Forms w) := hF
  have HP : Hid (Pieces w la ln V N) := hP
  have HW := (show Hid _ from waved_any w hF)
  have hFl := hF.lt
  have h1' : decide ((30 : Int) < (ln : Int)) = false := by simp; omega
  have hlow := E.low
  clear E hF hP
  go_enter Tryd.func6, Tryd.ntmps6
  go_wp2_with fail
  refine Calls.mono HW.out ?_
  rintro e w1 ⟨rfl, hb1⟩
  clear HW
  go_wp2_with fail
  go_loopw [4, 5] (fun m i wr => ∃ (k : Nat) (bs : List Bool), k ≤ ln ∧ i = .int .i64 k ∧ m = .string (BitMath.txt bs) ∧ bs.length ≤ 64 * k ∧ Below w.heap.size w wr) (fun _ i _ => ln - (intOf i).toNat)
  case atStart => exact ⟨0, [], Nat.zero_le _, rfl, rfl, Nat.le_refl _, hb1⟩
  case round =>
    obtain ⟨k, bs, hk, rfl, rfl, hbs, hbr⟩ := hrel
    clear hb1
    by_cases hlt : k < ln
    · obtain ⟨lb, lo, rfl, hcV, hcN, hV0, hV1⟩ := HP.out.at k hlt
      have hlb : lb < w.heap.size := lt_of_cell hcV
      rw [← hbr.cell (p := ⟨lb, lo + k * 2, none⟩) hlb] at hcV
      rw [← hbr.cell (p := ⟨lb, lo + k * 2 + 1, none⟩) hlb] at hcN
      have hk0 : (0 : Int) ≤ (k : Int) := by omega
      have hk1 : (k : Int) < (ln : Int) := by omega
      generalize hx : V k = x at *
      generalize hn0 : N k = nn at *
      clear hx hn0
      have HBS := (show Hid _ from hbs)
      have HBR := (show Hid _ from hbr)
      clear hbs hbr
      by_cases hneg : nn < 0
      · have hd0 : decide (0 ≤ nn) = false := by simp; omega
        clear hV1
        go_wp2
        go_roundw
        case rel => exact ⟨k + 1, bs, by omega, by go_num, rfl, by have := HBS.out; omega, HBR.out⟩
        case measure => simp [intOf]; omega
      · have hn0 : 0 ≤ nn := by omega
        have hd0 : decide (0 ≤ nn) = true := by simp; omega
        by_cases hbig : 64 < nn
        · have hd1 : decide (nn ≤ 64) = false := by simp; omega
          clear hV1 hneg
          go_wp2
          go_roundw
          case rel => exact ⟨k + 1, bs, by omega, by go_num, rfl, by have := HBS.out; omega, HBR.out⟩
          case measure => simp [intOf]; omega
        · have hn64 : nn ≤ 64 := by omega
          have hd1 : decide (nn ≤ 64) = true := by simp; omega
          have hbits := bits_round2 HBR.out hlb hV0 hV1 hn0 hn64 hcV hcN
          have HBITS := (show Hid _ from hbits)
          have hadd := add_txt Tryd.prog bs (BitMath.bitsOf x.toNat nn.toNat) (by rw [BitMath.length_bitsOf]; have := HBS.out; omega)
          clear hbits HBR hneg hbig hV1
          go_wp2_with fail
          go_region_held3 (fun w' => w'.cell? ⟨lb, lo + k * 2, none⟩ = some (.int .u64 x) ∧ w'.cell? ⟨lb, lo + k * 2 + 1, none⟩ = some (.int .i64 nn)) (go_keep) ((go_at_call 19; refine Calls.mono HBITS.out ?_; rintro e w4 ⟨rfl, ⟨hcV4, hcN4⟩, hb4⟩))
          have hl4 : (bs ++ BitMath.bitsOf x.toNat nn.toNat).length ≤ 64 * (k + 1) := by rw [List.length_append, BitMath.length_bitsOf]; have := HBS.out; omega
          have HL4 := (show Hid _ from hl4)
          have HB4 := (show Hid _ from hb4)
          clear hl4 hb4 HBITS hcV4 hcN4 hcV hcN
          go_wp2
          go_roundw
          case rel => exact ⟨k + 1, _, by omega, by go_num, rfl, HL4.out, HB4.out⟩
          case measure => simp [intOf]; omega
    · have hge : (ln : Int) ≤ (k : Int) := by omega
      have hM : bs.length ≤ 1920 := by omega
      have hop := openBits_any bs wr (by omega)
      have HOP := (show Hid _ from hop)
      have HBR := (show Hid _ from hbr)
      have hts : (BitMath.txt bs).size = bs.length := BitMath.txt_size bs
      clear hop hbr hlt hk hbs
      go_wp2_with fail
      refine Calls.mono HOP.out ?_
      rintro e w5 ⟨x, g, cap, rfl, hrd, hb5, hg5⟩
      have hgw : w.heap.size ≤ g := Nat.le_trans HBR.out.size hg5
      have hxg := hrd.hg
      have HRD := (show Hid _ from hrd)
      have HB5 := (show Hid _ from HBR.out.trans (hb5.mono HBR.out.size))
      clear hrd hb5 hg5 HOP HBR
      go_wp2_with fail
      go_loopw [2, 7, 8, 9, 10, 11] (fun s2 at_ i _ _ _ wr => s2 = .bool false ∧ ∃ (j a : Nat), j ≤ 60 ∧ i = .int .i64 j ∧ at_ = .int .i64 a ∧ IsReader wr x g cap (BitMath.pack bs) a bs.length ∧ Below w.heap.size w wr) (fun _ _ i _ _ _ _ => 60 - (intOf i).toNat)
      case atStart => exact ⟨rfl, 0, 0, Nat.zero_le _, rfl, rfl, HRD.out, HB5.out⟩
      case round =>
        obtain ⟨rfl, j, a, hj, rfl, rfl, hrj, hbj⟩ := hrel
        clear HRD HB5
        by_cases hlt : j < 60
        · have Ej := HE.out.below hbj hB
          have hget := wget_any wr x g cap (BitMath.pack bs) a bs.length hrj (HF.out.below hbj hFl) (ea 4) (ea 0) Ej.c4 Ej.c0 (by omega) (by omega) (by omega)
          rw [BitMath.restB_pack] at hget
          have hun := fun w0 => unwave_any bs a w0 hrj.hi (by omega)
          obtain ⟨p, hp⟩ : ∃ p, p = BitMath.unwave (bs.drop a) := ⟨_, rfl⟩
          rw [← hp] at hget hun
          obtain ⟨c, n, b⟩ := p
          have hj1 : (j : Int) < 60 := by omega
          have hai := hrj.hi
          have HGET := (show Hid _ from hget)
          have HUN := (show Hid _ from hun)
          have HBJ := (show Hid _ from hbj)
          clear hget hun hp Ej hrj hbj
          go_wp2_with fail
          refine Calls.mono HGET.out ?_
          rintro e w6 ⟨hk6, ⟨hc0, rfl, hr6⟩ | ⟨hbad, rfl, q, hq, hr6⟩ | ⟨hbad, rfl, q, hq, hr6⟩⟩
          · obtain rfl : c = 0 := hc0
            have hb6 := reader_below2 hk6 HBJ.out (by omega)
            have hab : a + b ≤ bs.length := hr6.hi
            have HB6 := (show Hid _ from hb6)
            have HR6 := (show Hid _ from hr6)
            clear hk6 hb6 hr6 HGET HBJ
            go_wp2_with fail
            refine Calls.mono (HUN.out _) ?_
            rintro e w7 ⟨rfl, hb7⟩
            unfold partOf
            have HB7 := (show Hid _ from HB6.out.trans (hb7.mono HB6.out.size))
            have HR7 := (show Hid _ from HR6.out.below hb7)
            clear hb7 HUN HB6 HR6
            go_wp2_with fail
            refine (coded_nil _).mono ?_
            rintro e w8 ⟨rfl, rfl⟩
            have hb8 : Below w7.heap.size w7 (w7.alloc (.cells #[.int .i64 n, .int .u64 0, .int .i64 (b : Int), .int .i64 0] 61)) := (Below.refl _ _).alloc (Nat.le_refl _) _
            have HB8 := (show Hid _ from HB7.out.trans (hb8.mono HB7.out.size))
            have HR8 := (show Hid _ from HR7.out.below hb8)
            have HLEFT := (show Hid _ from left_any _ x g cap _ _ _ HR8.out)
            have hleft : (bs.length : Int) - ((a + b : Nat) : Int) = (bs.length : Int) - ((a : Int) + (b : Int)) := by omega
            clear hb8 HB7 HR7
            go_wp2_with fail
            refine Calls.mono HLEFT.out ?_
            rintro e w9 ⟨rfl, q9, rfl⟩
            have HB9 := (show Hid _ from HB8.out.trans ((below_draw _ q9).mono HB8.out.size))
            have HR9 := (show Hid _ from HR8.out.drewN q9)
            clear HLEFT HB8 HR8
            go_wp2
            go_roundw
            case rel => exact ⟨rfl, j + 1, a + b, by omega, by go_num, by go_num, HR9.out, HB9.out⟩
            case measure => simp [intOf]; omega
          · cases hbad
            have hb6 := reader_below2 hk6 HBJ.out (by omega)
            have HB6 := (show Hid _ from hb6)
            clear hk6 hb6 hr6 HGET HBJ
            go_wp2_with fail
            refine Calls.mono (HUN.out _) ?_
            rintro e w7 ⟨rfl, hb7⟩
            unfold partOf
            have HB7 := (show Hid _ from HB6.out.trans (hb7.mono HB6.out.size))
            clear hb7 HUN HB6
            have hb8 : Below w7.heap.size w7 (w7.alloc (.cells #[.int .i64 0, .int .u64 0, .int .i64 0, .int .i64 5] 61)) := (Below.refl _ _).alloc (Nat.le_refl _) _
            have HB8 := (show Hid _ from HB7.out.trans (hb8.mono HB7.out.size))
            have HCD := (show Hid _ from coded_es _ (HE.out.below HB8.out hB) (Nat.le_trans hB HB8.out.size) 4 (by omega) 5 rfl)
            clear hb8 HB7
            go_wp2_with fail
            refine Calls.mono HCD.out ?_
            rintro e w9 ⟨rfl, hb9⟩
            obtain ⟨hblk, _⟩ := form_var hb9
            have z0 : w9.cell? ⟨w7.heap.size, 0, none⟩ = some (.int .i64 0) := cells_of hblk 0
            have z3 : w9.cell? ⟨w7.heap.size, 3, none⟩ = some (.int .i64 5) := cells_of hblk 3
            have HB9 := (show Hid _ from HB8.out.trans (hb9.mono HB8.out.size))
            clear hb9 hblk HCD HB8
            go_wp2
            go_ret
            exact ⟨rfl, HB9.out⟩
          · cases hbad
            have hb6 := reader_below2 hk6 HBJ.out (by omega)
            have HB6 := (show Hid _ from hb6)
            clear hk6 hb6 hr6 HGET HBJ
            go_wp2_with fail
            refine Calls.mono (HUN.out _) ?_
            rintro e w7 ⟨rfl, hb7⟩
            unfold partOf
            have HB7 := (show Hid _ from HB6.out.trans (hb7.mono HB6.out.size))
            clear hb7 HUN HB6
            have hb8 : Below w7.heap.size w7 (w7.alloc (.cells #[.int .i64 0, .int .u64 0, .int .i64 0, .int .i64 1] 61)) := (Below.refl _ _).alloc (Nat.le_refl _) _
            have HB8 := (show Hid _ from HB7.out.trans (hb8.mono HB7.out.size))
            have HCD := (show Hid _ from coded_es _ (HE.out.below HB8.out hB) (Nat.le_trans hB HB8.out.size) 0 (by omega) 1 rfl)
            clear hb8 HB7
            go_wp2_with fail
            refine Calls.mono HCD.out ?_
            rintro e w9 ⟨rfl, hb9⟩
            obtain ⟨hblk, _⟩ := form_var hb9
            have z0 : w9.cell? ⟨w7.heap.size, 0, none⟩ = some (.int .i64 0) := cells_of hblk 0
            have z3 : w9.cell? ⟨w7.heap.size, 3, none⟩ = some (.int .i64 1) := cells_of hblk 3
            have HB9 := (show Hid _ from HB8.out.trans (hb9.mono HB8.out.size))
            clear hb9 hblk HCD HB8
            go_wp2
            go_ret
            exact ⟨rfl, HB9.out⟩
        · have hj60 : j = 60 := by omega
          subst hj60
          have HBJ := (show Hid _ from hbj)
          clear hbj hrj
          go_wp2
          go_ret
          exact ⟨rfl, HBJ.out⟩
end Go.Proofs.YtgdflopgdlpimaaDoor
