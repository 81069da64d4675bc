/- The walk of tidegaugelaw1.MaskReads. -/
import Derived.Test.YtgdflopgdlpimaaDoorValuesMain
namespace Go.Proofs.YtgdflopgdlpimaaDoor
open Go.RowKit

/-- Bits, in the statement's round. -/
theorem bits_round3 {w wr : World} {lb oV oN : Nat} {x nn : Int} (hb : Below w.heap.size w wr) (hlb : lb < w.heap.size)
    (hx0 : 0 ≤ x) (hx1 : x ≤ 18446744073709551615) (h0 : 0 ≤ nn) (h1 : nn ≤ 64)
    (hV : wr.cell? ⟨lb, oV, none⟩ = some (.int .u64 x)) (hN : wr.cell? ⟨lb, oN, none⟩ = some (.int .i64 nn)) :
    Calls Tryd.prog 19 #[.int .u64 x, .int .i64 nn] wr.drew fun e w' => e = .returned (.string (BitMath.txt (BitMath.bitsOf x.toNat nn.toNat))) ∧ (w'.cell? ⟨lb, oV, none⟩ = some (.int .u64 x) ∧ w'.cell? ⟨lb, oN, none⟩ = some (.int .i64 nn)) ∧ Below w.heap.size w w' := by
  have h := bits_any x.toNat nn wr.drew (by omega) h0 h1
  rw [Int.toNat_of_nonneg hx0] at h
  refine h.mono ?_
  rintro e w' ⟨he, hb1⟩
  have hb1' : Below wr.heap.size wr w' := (below_draw wr 1).trans hb1
  have hl : lb < wr.heap.size := Nat.lt_of_lt_of_le hlb hb.size
  exact ⟨he, ⟨(hb1'.cell (p := ⟨lb, oV, none⟩) hl).trans hV, (hb1'.cell (p := ⟨lb, oN, none⟩) hl).trans hN⟩, hb.trans (hb1'.mono hb.size)⟩

set_option maxRecDepth 1000000 in
theorem mreads_long (w : World) (hT : Tab w) (la : Option Addr) (ln lc : Nat) (n : Int) (h : 40 < ln ∨ (30 < n ∧ n ≤ 120)) (_hl : (ln : Int) ≤ 9223372036854775807) :
    Calls Tryd.prog 9 #[.slice la ln lc, .int .i64 n] w fun e w' => e = .returned (.bool true) ∧ Below w.heap.size w w' := by
  have HW := (show Hid _ from masked_any w hT)
  clear hT
  by_cases h1 : 40 < ln
  · have h1' : decide ((40 : Int) < (ln : Int)) = true := by simp; omega
    go_enter Tryd.func9, Tryd.ntmps9
    go_wp2_with fail
    refine Calls.mono HW.out ?_
    rintro e w1 ⟨rfl, hb⟩
    go_wp2
    go_ret
    exact ⟨rfl, hb⟩
  · have h1' : decide ((40 : Int) < (ln : Int)) = false := by simp; omega
    have h2 : decide ((30 : Int) < n) = true := by simp; omega
    have h3 : decide (n ≤ 120) = true := by simp; omega
    go_enter Tryd.func9, Tryd.ntmps9
    go_wp2_with fail
    refine Calls.mono HW.out ?_
    rintro e w1 ⟨rfl, hb⟩
    go_wp2
    go_ret
    exact ⟨rfl, hb⟩

theorem slice_of_own {w : World} {base : Nat} {e : TypeId} {v : Value} {n : Nat} {xs : List Value} (h : w.ownsRow base e 1 v n xs) : ∃ a c, v = .slice a n c := by
  rcases h.2 with ⟨rfl, h0⟩ | ⟨g, cap, cur, rfl, _⟩
  · exact ⟨none, 0, by rw [h0]⟩
  · exact ⟨_, _, rfl⟩

set_option maxRecDepth 1000000 in
set_option maxHeartbeats 4000000 in
theorem mreads_main {B : Nat} {ea : Nat → Addr} (w : World) (E : Env B ea w) (hB : B ≤ w.heap.size) (hT : Tab w) (la : Option Addr) (ln lc : Nat) (V N : Nat → Int) (hP : Pieces w la ln V N) (n : Int) (h1 : ln ≤ 40) (hn : ¬ (30 < n ∧ n ≤ 120)) :
    Calls Tryd.prog 9 #[.slice la ln lc, .int .i64 n] w fun e w' => e = .returned (.bool true) ∧ Below w.heap.size w w' := by
  have HE : Hid (Env B ea w) := E
  have HT : Hid (Tab w) := hT
  have HP : Hid (Pieces w la ln V N) := hP
  have HW := (show Hid _ from masked_any w hT)
  have hTl := hT.lt
  have h1' : decide ((40 : Int) < (ln : Int)) = false := by simp; omega
  have hlow := E.low
  clear E hT hP
  by_cases hbig : 120 < n
  · have h2 : decide ((30 : Int) < n) = true := by simp; omega
    have h3 : decide (n ≤ 120) = false := by simp; omega
    have hz : decide (n < 0) = false := by simp; omega
    have hz2 : decide (120 < n) = true := by simp; omega
    have HOUT : Hid (n < 0 ∨ 120 < n) := .inr hbig
    clear hn
    go_enter Tryd.func9, Tryd.ntmps9
    go_wp2_with fail
    refine Calls.mono HW.out ?_
    rintro e w1 ⟨rfl, hb1⟩
    clear HW
    go_wp2_with fail
    go_loopw [6, 7] (fun m i wr => ∃ (k : Nat) (bs : List Bool), k ≤ ln ∧ i = .int .i64 k ∧ m = .string (BitMath.txt bs) ∧ bs.length ≤ 64 * k ∧ Below w.heap.size w wr) (fun _ i _ => ln - (intOf i).toNat)
    case atStart => exact ⟨0, [], Nat.zero_le _, rfl, rfl, Nat.le_refl _, hb1⟩
    case round =>
      obtain ⟨k, bs, hk, rfl, rfl, hbs, hbr⟩ := hrel
      clear hb1
      by_cases hlt : k < ln
      · obtain ⟨lb, lo, rfl, hcV, hcN, hV0, hV1⟩ := HP.out.at k hlt
        have hlb : lb < w.heap.size := lt_of_cell hcV
        rw [← hbr.cell (p := ⟨lb, lo + k * 2, none⟩) hlb] at hcV
        rw [← hbr.cell (p := ⟨lb, lo + k * 2 + 1, none⟩) hlb] at hcN
        have hk0 : (0 : Int) ≤ (k : Int) := by omega
        have hk1 : (k : Int) < (ln : Int) := by omega
        generalize hx : V k = x at *
        generalize hn0 : N k = nn at *
        clear hx hn0
        have HBS := (show Hid _ from hbs)
        have HBR := (show Hid _ from hbr)
        clear hbs hbr
        by_cases hneg : nn < 0
        · have hd0 : decide (0 ≤ nn) = false := by simp; omega
          clear hV1
          go_wp2
          go_roundw
          case rel => exact ⟨k + 1, bs, by omega, by go_num, rfl, by have := HBS.out; omega, HBR.out⟩
          case measure => simp [intOf]; omega
        · have hn0 : 0 ≤ nn := by omega
          have hd0 : decide (0 ≤ nn) = true := by simp; omega
          by_cases hbig : 64 < nn
          · have hd1 : decide (nn ≤ 64) = false := by simp; omega
            clear hV1 hneg
            go_wp2
            go_roundw
            case rel => exact ⟨k + 1, bs, by omega, by go_num, rfl, by have := HBS.out; omega, HBR.out⟩
            case measure => simp [intOf]; omega
          · have hn64 : nn ≤ 64 := by omega
            have hd1 : decide (nn ≤ 64) = true := by simp; omega
            have hbits := bits_round3 HBR.out hlb hV0 hV1 hn0 hn64 hcV hcN
            have HBITS := (show Hid _ from hbits)
            have hadd := add_txt Tryd.prog bs (BitMath.bitsOf x.toNat nn.toNat) (by rw [BitMath.length_bitsOf]; have := HBS.out; omega)
            clear hbits HBR hneg hbig hV1
            go_wp2_with fail
            go_region_held3 (fun w' => w'.cell? ⟨lb, lo + k * 2, none⟩ = some (.int .u64 x) ∧ w'.cell? ⟨lb, lo + k * 2 + 1, none⟩ = some (.int .i64 nn)) (go_keep) ((go_at_call 19; refine Calls.mono HBITS.out ?_; rintro e w4 ⟨rfl, ⟨hcV4, hcN4⟩, hb4⟩))
            have hl4 : (bs ++ BitMath.bitsOf x.toNat nn.toNat).length ≤ 64 * (k + 1) := by rw [List.length_append, BitMath.length_bitsOf]; have := HBS.out; omega
            have HL4 := (show Hid _ from hl4)
            have HB4 := (show Hid _ from hb4)
            clear hl4 hb4 HBITS hcV4 hcN4 hcV hcN
            go_wp2
            go_roundw
            case rel => exact ⟨k + 1, _, by omega, by go_num, rfl, HL4.out, HB4.out⟩
            case measure => simp [intOf]; omega
      · have hge : (ln : Int) ≤ (k : Int) := by omega
        have hM : bs.length ≤ 2560 := by omega
        have hop := openBits_any bs wr (by omega)
        have HOP := (show Hid _ from hop)
        have HBR := (show Hid _ from hbr)
        have hts : (BitMath.txt bs).size = bs.length := BitMath.txt_size bs
        clear hop hbr hlt hk hbs
        go_wp2_with fail
        refine Calls.mono HOP.out ?_
        rintro e w5 ⟨x, g, cap, rfl, hrd, hb5, hg5⟩
        have hgw : w.heap.size ≤ g := Nat.le_trans HBR.out.size hg5
        have hxg := hrd.hg
        have hrd' : RdAt w5 x bs := ⟨g, cap, _, _, _, hrd, by rw [BitMath.restB_pack]; rfl⟩
        have HB5 := (show Hid _ from HBR.out.trans (hb5.mono HBR.out.size))
        have E5 := HE.out.below HB5.out hB
        have HRB := (show Hid _ from mRead_bound w5 (some ⟨x, 0, none⟩) n (ea 1) E5.c1 HOUT.out)
        clear hrd hrd' hb5 hg5 HOP HBR E5
        go_wp2_with fail
        refine Calls.mono HRB.out ?_
        rintro e w6 ⟨rfl, q6, hw6⟩
        have hb6 : Below w5.heap.size w5 w6 := by rw [hw6]; exact below_draw _ _
        have HB6 := (show Hid _ from HB5.out.trans (hb6.mono HB5.out.size))
        have HCD := (show Hid _ from coded_es w6 (HE.out.below HB6.out hB) (Nat.le_trans hB HB6.out.size) 1 (by omega) 2 rfl)
        clear hw6 hb6 HRB HB5
        go_wp2_with fail
        refine Calls.mono HCD.out ?_
        rintro e w7 ⟨rfl, hb7⟩
        have HB7 := (show Hid _ from HB6.out.trans (hb7.mono HB6.out.size))
        clear hb7 HCD HB6
        go_wp2
        go_ret
        exact ⟨rfl, HB7.out⟩
  · have hn30 : n ≤ 30 := by omega
    have h2 : decide ((30 : Int) < n) = false := by simp; omega
    clear hn hbig
    by_cases hneg : n < 0
    · have hz : decide (n < 0) = true := by simp; omega
      have HOUT : Hid (n < 0 ∨ 120 < n) := .inl hneg
      go_enter Tryd.func9, Tryd.ntmps9
      go_wp2_with fail
      refine Calls.mono HW.out ?_
      rintro e w1 ⟨rfl, hb1⟩
      clear HW
      go_wp2_with fail
      go_loopw [6, 7] (fun m i wr => ∃ (k : Nat) (bs : List Bool), k ≤ ln ∧ i = .int .i64 k ∧ m = .string (BitMath.txt bs) ∧ bs.length ≤ 64 * k ∧ Below w.heap.size w wr) (fun _ i _ => ln - (intOf i).toNat)
      case atStart => exact ⟨0, [], Nat.zero_le _, rfl, rfl, Nat.le_refl _, hb1⟩
      case round =>
        obtain ⟨k, bs, hk, rfl, rfl, hbs, hbr⟩ := hrel
        clear hb1
        by_cases hlt : k < ln
        · obtain ⟨lb, lo, rfl, hcV, hcN, hV0, hV1⟩ := HP.out.at k hlt
          have hlb : lb < w.heap.size := lt_of_cell hcV
          rw [← hbr.cell (p := ⟨lb, lo + k * 2, none⟩) hlb] at hcV
          rw [← hbr.cell (p := ⟨lb, lo + k * 2 + 1, none⟩) hlb] at hcN
          have hk0 : (0 : Int) ≤ (k : Int) := by omega
          have hk1 : (k : Int) < (ln : Int) := by omega
          generalize hx : V k = x at *
          generalize hn0 : N k = nn at *
          clear hx hn0
          have HBS := (show Hid _ from hbs)
          have HBR := (show Hid _ from hbr)
          clear hbs hbr
          by_cases hneg : nn < 0
          · have hd0 : decide (0 ≤ nn) = false := by simp; omega
            clear hV1
            go_wp2
            go_roundw
            case rel => exact ⟨k + 1, bs, by omega, by go_num, rfl, by have := HBS.out; omega, HBR.out⟩
            case measure => simp [intOf]; omega
          · have hn0 : 0 ≤ nn := by omega
            have hd0 : decide (0 ≤ nn) = true := by simp; omega
            by_cases hbig : 64 < nn
            · have hd1 : decide (nn ≤ 64) = false := by simp; omega
              clear hV1 hneg
              go_wp2
              go_roundw
              case rel => exact ⟨k + 1, bs, by omega, by go_num, rfl, by have := HBS.out; omega, HBR.out⟩
              case measure => simp [intOf]; omega
            · have hn64 : nn ≤ 64 := by omega
              have hd1 : decide (nn ≤ 64) = true := by simp; omega
              have hbits := bits_round3 HBR.out hlb hV0 hV1 hn0 hn64 hcV hcN
              have HBITS := (show Hid _ from hbits)
              have hadd := add_txt Tryd.prog bs (BitMath.bitsOf x.toNat nn.toNat) (by rw [BitMath.length_bitsOf]; have := HBS.out; omega)
              clear hbits HBR hneg hbig hV1
              go_wp2_with fail
              go_region_held3 (fun w' => w'.cell? ⟨lb, lo + k * 2, none⟩ = some (.int .u64 x) ∧ w'.cell? ⟨lb, lo + k * 2 + 1, none⟩ = some (.int .i64 nn)) (go_keep) ((go_at_call 19; refine Calls.mono HBITS.out ?_; rintro e w4 ⟨rfl, ⟨hcV4, hcN4⟩, hb4⟩))
              have hl4 : (bs ++ BitMath.bitsOf x.toNat nn.toNat).length ≤ 64 * (k + 1) := by rw [List.length_append, BitMath.length_bitsOf]; have := HBS.out; omega
              have HL4 := (show Hid _ from hl4)
              have HB4 := (show Hid _ from hb4)
              clear hl4 hb4 HBITS hcV4 hcN4 hcV hcN
              go_wp2
              go_roundw
              case rel => exact ⟨k + 1, _, by omega, by go_num, rfl, HL4.out, HB4.out⟩
              case measure => simp [intOf]; omega
        · have hge : (ln : Int) ≤ (k : Int) := by omega
          have hM : bs.length ≤ 2560 := by omega
          have hop := openBits_any bs wr (by omega)
          have HOP := (show Hid _ from hop)
          have HBR := (show Hid _ from hbr)
          have hts : (BitMath.txt bs).size = bs.length := BitMath.txt_size bs
          clear hop hbr hlt hk hbs
          go_wp2_with fail
          refine Calls.mono HOP.out ?_
          rintro e w5 ⟨x, g, cap, rfl, hrd, hb5, hg5⟩
          have hgw : w.heap.size ≤ g := Nat.le_trans HBR.out.size hg5
          have hxg := hrd.hg
          have hrd' : RdAt w5 x bs := ⟨g, cap, _, _, _, hrd, by rw [BitMath.restB_pack]; rfl⟩
          have HB5 := (show Hid _ from HBR.out.trans (hb5.mono HBR.out.size))
          have E5 := HE.out.below HB5.out hB
          have HRB := (show Hid _ from mRead_bound w5 (some ⟨x, 0, none⟩) n (ea 1) E5.c1 HOUT.out)
          clear hrd hrd' hb5 hg5 HOP HBR E5
          go_wp2_with fail
          refine Calls.mono HRB.out ?_
          rintro e w6 ⟨rfl, q6, hw6⟩
          have hb6 : Below w5.heap.size w5 w6 := by rw [hw6]; exact below_draw _ _
          have HB6 := (show Hid _ from HB5.out.trans (hb6.mono HB5.out.size))
          have HCD := (show Hid _ from coded_es w6 (HE.out.below HB6.out hB) (Nat.le_trans hB HB6.out.size) 1 (by omega) 2 rfl)
          clear hw6 hb6 HRB HB5
          go_wp2_with fail
          refine Calls.mono HCD.out ?_
          rintro e w7 ⟨rfl, hb7⟩
          have HB7 := (show Hid _ from HB6.out.trans (hb7.mono HB6.out.size))
          clear hb7 HCD HB6
          go_wp2
          go_ret
          exact ⟨rfl, HB7.out⟩
    · obtain ⟨m, rfl⟩ := Int.eq_ofNat_of_zero_le (by omega : 0 ≤ n)
      have hz : decide ((m : Int) < 0) = false := by simp
      have hz2 : decide (120 < (m : Int)) = false := by simp; omega
      have hm30 : m ≤ 30 := by omega
      clear hneg hn30
      go_enter Tryd.func9, Tryd.ntmps9
      go_wp2_with fail
      refine Calls.mono HW.out ?_
      rintro e w1 ⟨rfl, hb1⟩
      clear HW
      go_wp2_with fail
      go_loopw [6, 7] (fun m i wr => ∃ (k : Nat) (bs : List Bool), k ≤ ln ∧ i = .int .i64 k ∧ m = .string (BitMath.txt bs) ∧ bs.length ≤ 64 * k ∧ Below w.heap.size w wr) (fun _ i _ => ln - (intOf i).toNat)
      case atStart => exact ⟨0, [], Nat.zero_le _, rfl, rfl, Nat.le_refl _, hb1⟩
      case round =>
        obtain ⟨k, bs, hk, rfl, rfl, hbs, hbr⟩ := hrel
        clear hb1
        by_cases hlt : k < ln
        · obtain ⟨lb, lo, rfl, hcV, hcN, hV0, hV1⟩ := HP.out.at k hlt
          have hlb : lb < w.heap.size := lt_of_cell hcV
          rw [← hbr.cell (p := ⟨lb, lo + k * 2, none⟩) hlb] at hcV
          rw [← hbr.cell (p := ⟨lb, lo + k * 2 + 1, none⟩) hlb] at hcN
          have hk0 : (0 : Int) ≤ (k : Int) := by omega
          have hk1 : (k : Int) < (ln : Int) := by omega
          generalize hx : V k = x at *
          generalize hn0 : N k = nn at *
          clear hx hn0
          have HBS := (show Hid _ from hbs)
          have HBR := (show Hid _ from hbr)
          clear hbs hbr
          by_cases hneg : nn < 0
          · have hd0 : decide (0 ≤ nn) = false := by simp; omega
            clear hV1
            go_wp2
            go_roundw
            case rel => exact ⟨k + 1, bs, by omega, by go_num, rfl, by have := HBS.out; omega, HBR.out⟩
            case measure => simp [intOf]; omega
          · have hn0 : 0 ≤ nn := by omega
            have hd0 : decide (0 ≤ nn) = true := by simp; omega
            by_cases hbig : 64 < nn
            · have hd1 : decide (nn ≤ 64) = false := by simp; omega
              clear hV1 hneg
              go_wp2
              go_roundw
              case rel => exact ⟨k + 1, bs, by omega, by go_num, rfl, by have := HBS.out; omega, HBR.out⟩
              case measure => simp [intOf]; omega
            · have hn64 : nn ≤ 64 := by omega
              have hd1 : decide (nn ≤ 64) = true := by simp; omega
              have hbits := bits_round3 HBR.out hlb hV0 hV1 hn0 hn64 hcV hcN
              have HBITS := (show Hid _ from hbits)
              have hadd := add_txt Tryd.prog bs (BitMath.bitsOf x.toNat nn.toNat) (by rw [BitMath.length_bitsOf]; have := HBS.out; omega)
              clear hbits HBR hneg hbig hV1
              go_wp2_with fail
              go_region_held3 (fun w' => w'.cell? ⟨lb, lo + k * 2, none⟩ = some (.int .u64 x) ∧ w'.cell? ⟨lb, lo + k * 2 + 1, none⟩ = some (.int .i64 nn)) (go_keep) ((go_at_call 19; refine Calls.mono HBITS.out ?_; rintro e w4 ⟨rfl, ⟨hcV4, hcN4⟩, hb4⟩))
              have hl4 : (bs ++ BitMath.bitsOf x.toNat nn.toNat).length ≤ 64 * (k + 1) := by rw [List.length_append, BitMath.length_bitsOf]; have := HBS.out; omega
              have HL4 := (show Hid _ from hl4)
              have HB4 := (show Hid _ from hb4)
              clear hl4 hb4 HBITS hcV4 hcN4 hcV hcN
              go_wp2
              go_roundw
              case rel => exact ⟨k + 1, _, by omega, by go_num, rfl, HL4.out, HB4.out⟩
              case measure => simp [intOf]; omega
        · have hge : (ln : Int) ≤ (k : Int) := by omega
          have hM : bs.length ≤ 2560 := by omega
          have hop := openBits_any bs wr (by omega)
          have HOP := (show Hid _ from hop)
          have HBR := (show Hid _ from hbr)
          have hts : (BitMath.txt bs).size = bs.length := BitMath.txt_size bs
          clear hop hbr hlt hk hbs
          go_wp2_with fail
          refine Calls.mono HOP.out ?_
          rintro e w5 ⟨x, g, cap, rfl, hrd, hb5, hg5⟩
          have hgw : w.heap.size ≤ g := Nat.le_trans HBR.out.size hg5
          have hxg := hrd.hg
          have hrd' : RdAt w5 x bs := ⟨g, cap, _, _, _, hrd, by rw [BitMath.restB_pack]; rfl⟩
          have HB5 := (show Hid _ from HBR.out.trans (hb5.mono HBR.out.size))
          have E5 := HE.out.below HB5.out hB
          have hrm := fun w0 => readMask_any bs 0 m w0 (Nat.zero_le _) (by omega) (by omega)
          simp only [List.drop_zero] at hrm
          generalize hts0 : BitMath.txt bs = ts at *
          have htsI : (ts.size : Int) = (bs.length : Int) := by omega
          have HRM := (show Hid _ from hrm)
          by_cases hm0 : m = 0
          · subst hm0
            have HRB := (show Hid _ from mRead_zero w5 ⟨x, 0, none⟩)
            have HRD := (show Hid _ from hrd')
            clear hrd hrd' hb5 hg5 HOP HBR E5 hrm hts0
            go_wp2_with fail
            refine Calls.mono HRB.out ?_
            rintro e w6 ⟨rfl, hw6⟩
            have hw6' := hw6.symm
            subst hw6'
            go_wp2_with fail
            refine Calls.mono (HRM.out _) ?_
            rintro e w7 ⟨hb7, ⟨vs, u, v, hm, rfl, hvl, hul, hown, hvv, _⟩ | ⟨c, hc, hm, rfl⟩⟩
            · obtain ⟨a, c, rfl⟩ := slice_of_own hown
              have hu0 : u = 0 := (congrArg (fun t => t.2.2) hm).symm
              subst hu0
              have HB7 := (show Hid _ from HB5.out.trans (hb7.mono HB5.out.size))
              have HRD7 := (show Hid _ from HRD.out.below hb7)
              clear hm hown hvv hvl hul hb7 HRB HRM HB5 HRD
              go_wp2_with fail
              refine (coded_nil _).mono ?_
              rintro e w8 ⟨rfl, hw8⟩
              have hw8' := hw8.symm
              subst hw8'
              have HSV := (show Hid _ from same_values w7 none a 0 0 c (fun _ => 0) (.inl rfl) (.inl rfl) (by decide))
              go_wp2_with fail
              refine Calls.mono HSV.out ?_
              rintro e w9 ⟨rfl, q9, hw9⟩
              have hb9 : Below w7.heap.size w7 w9 := by rw [hw9]; exact below_draw _ _
              have HB9 := (show Hid _ from HB7.out.trans (hb9.mono HB7.out.size))
              have HLF := (show Hid _ from rd_left w9 x bs (HRD7.out.below hb9))
              clear hw9 hb9 HSV HB7 HRD7
              go_wp2_with fail
              refine Calls.mono HLF.out ?_
              rintro e w10 ⟨rfl, q10, hw10⟩
              have hb10 : Below w9.heap.size w9 w10 := by rw [hw10]; exact below_draw _ _
              have HB10 := (show Hid _ from HB9.out.trans (hb10.mono HB9.out.size))
              clear hw10 hb10 HLF HB9
              go_wp2
              go_ret
              exact ⟨rfl, HB10.out⟩
            · exact absurd (congrArg (fun t => t.1) hm).symm hc
          · have HRD := (show Hid _ from mRead_any w5 x bs hrd' (HT.out.below HB5.out hTl) m (by omega) (by omega) (ea 4) (ea 0) E5.c4 E5.c0 (by omega) (by omega) (by omega))
            clear hrd hrd' hb5 hg5 HOP HBR E5 hrm hts0
            go_wp2_with fail
            refine Calls.mono HRD.out ?_
            rintro e w6 ⟨hk6, hout⟩
            have hb6 : Below w.heap.size w w6 := HB5.out.trans (hk6.below HB5.out.size (fun y hy => by simp at hy; omega))
            have HB6 := (show Hid _ from hb6)
            clear hb6 HRD HB5 hk6
            rcases hout with ⟨vs, u, v, hm, rfl, hvl, hown, hvv, hr6⟩ | ⟨hm, rfl⟩ | ⟨hm, rfl⟩
            · obtain ⟨g2, cap2, rfl, hgl2, hgw2, hcap2, hU6⟩ := own_u64s hown hvl hvv (by omega)
              have HU6 : Hid (U64s w6 (some ⟨g2, 0, none⟩) m (BitMath.vf vs)) := hU6
              have HR6 := (show Hid _ from hr6)
              have HM := (show Hid _ from hm)
              clear hown hU6 hr6 hm hgl2 hgw2 hcap2
              go_wp2_with fail
              refine Calls.mono (HRM.out _) ?_
              rintro e w7 ⟨hb7, ⟨vs', u', v', hm', rfl, hvl', hul, hown', hvv', _⟩ | ⟨c, hc, hm', rfl⟩⟩
              · rw [HM.out] at hm'
                obtain ⟨rfl, rfl⟩ : vs = vs' ∧ u = u' := ⟨congrArg (fun t => t.2.1) hm', congrArg (fun t => t.2.2) hm'⟩
                obtain ⟨g3, cap3, rfl, hgl3, hgw3, hcap3, hU7⟩ := own_u64s hown' hvl hvv (by omega)
                have HB7 := (show Hid _ from HB6.out.trans (hb7.mono HB6.out.size))
                have HR7 := (show Hid _ from HR6.out.below hb7)
                have HSV := (show Hid _ from same_values w7 (some ⟨g2, 0, none⟩) (some ⟨g3, 0, none⟩) m cap2 cap3 (BitMath.vf vs) (HU6.out.below hb7) hU7 (by omega))
                have hlen : ((bs.drop u).length : Int) = (bs.length : Int) - (u : Int) := by rw [List.length_drop]; omega
                have HLN := (show Hid _ from hlen)
                have huI : (u : Int) ≤ (bs.length : Int) := by omega
                clear hm' hown' hvv' hb7 hU7 HU6 HR6 HM HRM HB6 hgl3 hgw3 hcap3 hlen hvv hvl hvl'
                go_wp2_with fail
                refine (coded_nil _).mono ?_
                rintro e w8 ⟨rfl, hw8⟩
                have hw8' := hw8.symm
                subst hw8'
                go_wp2_with fail
                refine Calls.mono HSV.out ?_
                rintro e w9 ⟨rfl, q9, hw9⟩
                have hb9 : Below w7.heap.size w7 w9 := by rw [hw9]; exact below_draw _ _
                have HB9 := (show Hid _ from HB7.out.trans (hb9.mono HB7.out.size))
                have hlf := rd_left w9 x (bs.drop u) (HR7.out.below hb9)
                rw [HLN.out] at hlf
                have HLF := (show Hid _ from hlf)
                clear hw9 hb9 HSV HB7 HR7 hlf
                go_wp2_with fail
                refine Calls.mono HLF.out ?_
                rintro e w10 ⟨rfl, q10, hw10⟩
                have hb10 : Below w9.heap.size w9 w10 := by rw [hw10]; exact below_draw _ _
                have HB10 := (show Hid _ from HB9.out.trans (hb10.mono HB9.out.size))
                clear hw10 hb10 HLF HB9
                go_wp2
                go_ret
                exact ⟨rfl, HB10.out⟩
              · rw [HM.out] at hm'
                exact absurd (congrArg (fun t => t.1) hm').symm hc
            · have HM := (show Hid _ from hm)
              clear hm
              go_wp2_with fail
              refine Calls.mono (HRM.out _) ?_
              rintro e w7 ⟨hb7, ⟨vs', u', v', hm', rfl, hvl', hul, hown', hvv', _⟩ | ⟨c, hc, hm', rfl⟩⟩
              · rw [HM.out] at hm'
                have h5 := congrArg (fun t => t.1) hm'
                simp at h5
              · rw [HM.out] at hm'
                obtain rfl : 5 = c := congrArg (fun t => t.1) hm'
                have HB7 := (show Hid _ from HB6.out.trans (hb7.mono HB6.out.size))
                have HCD := (show Hid _ from coded_es w7 (HE.out.below HB7.out hB) (Nat.le_trans hB HB7.out.size) 4 (by omega) 5 rfl)
                clear hm' hc hb7 HM HRM HB6
                go_wp2_with fail
                refine Calls.mono HCD.out ?_
                rintro e w8 ⟨rfl, hb8⟩
                have HB8 := (show Hid _ from HB7.out.trans (hb8.mono HB7.out.size))
                have HSV := (show Hid _ from same_values w8 none none 0 0 0 (fun _ => 0) (.inl rfl) (.inl rfl) (by decide))
                clear hb8 HCD HB7
                go_wp2_with fail
                refine Calls.mono HSV.out ?_
                rintro e w9 ⟨rfl, q9, hw9⟩
                have hb9 : Below w8.heap.size w8 w9 := by rw [hw9]; exact below_draw _ _
                have HB9 := (show Hid _ from HB8.out.trans (hb9.mono HB8.out.size))
                clear hw9 hb9 HSV HB8
                go_wp2
                go_ret
                exact ⟨rfl, HB9.out⟩
            · have HM := (show Hid _ from hm)
              clear hm
              go_wp2_with fail
              refine Calls.mono (HRM.out _) ?_
              rintro e w7 ⟨hb7, ⟨vs', u', v', hm', rfl, hvl', hul, hown', hvv', _⟩ | ⟨c, hc, hm', rfl⟩⟩
              · rw [HM.out] at hm'
                have h5 := congrArg (fun t => t.1) hm'
                simp at h5
              · rw [HM.out] at hm'
                obtain rfl : 1 = c := congrArg (fun t => t.1) hm'
                have HB7 := (show Hid _ from HB6.out.trans (hb7.mono HB6.out.size))
                have HCD := (show Hid _ from coded_es w7 (HE.out.below HB7.out hB) (Nat.le_trans hB HB7.out.size) 0 (by omega) 1 rfl)
                clear hm' hc hb7 HM HRM HB6
                go_wp2_with fail
                refine Calls.mono HCD.out ?_
                rintro e w8 ⟨rfl, hb8⟩
                have HB8 := (show Hid _ from HB7.out.trans (hb8.mono HB7.out.size))
                have HSV := (show Hid _ from same_values w8 none none 0 0 0 (fun _ => 0) (.inl rfl) (.inl rfl) (by decide))
                clear hb8 HCD HB7
                go_wp2_with fail
                refine Calls.mono HSV.out ?_
                rintro e w9 ⟨rfl, q9, hw9⟩
                have hb9 : Below w8.heap.size w8 w9 := by rw [hw9]; exact below_draw _ _
                have HB9 := (show Hid _ from HB8.out.trans (hb9.mono HB8.out.size))
                clear hw9 hb9 HSV HB8
                go_wp2
                go_ret
                exact ⟨rfl, HB9.out⟩

theorem mreads_walk {B : Nat} {ea : Nat → Addr} (w : World) (E : Env B ea w) (hB : B ≤ w.heap.size) (hT : Tab w) (la : Option Addr) (ln lc : Nat) (V N : Nat → Int) (hP : Pieces w la ln V N) (hl : (ln : Int) ≤ 9223372036854775807) (n : Int) :
    Calls Tryd.prog 9 #[.slice la ln lc, .int .i64 n] w fun e w' => e = .returned (.bool true) ∧ Below w.heap.size w w' := by
  by_cases h : 40 < ln ∨ (30 < n ∧ n ≤ 120)
  · exact mreads_long w hT la ln lc n h hl
  · exact mreads_main w E hB hT la ln lc V N hP n (by omega) (by omega)
end Go.Proofs.YtgdflopgdlpimaaDoor
