/- The walk of tidegaugelaw1.BitsRows, up to sixty pieces and sixty reads. -/
import Derived.Test.YtgdflopgdlpimaaDoorRowsWalk
import Derived.Test.YtgdflopgdlpimaaDoorMaths
namespace Go.Proofs.YtgdflopgdlpimaaDoor
open Go.RowKit

set_option maxRecDepth 1000000 in
set_option maxHeartbeats 4000000 in
theorem rows_main {B : Nat} {ea : Nat → Addr} (w : World) (E : Env B ea w) (hB : B ≤ w.heap.size) (la ga : Option Addr) (ln lc gn gc : Nat) (V N G : Nat → Int) (hL : Pieces w la ln V N) (hG : Ints w ga gn G) (n : Int) (h1 : ln ≤ 60) (h2 : gn ≤ 60) :
    Calls Tryd.prog 4 #[.slice la ln lc, .slice ga gn gc, .int .i64 n] w fun e w' => e = .returned (.bool true) ∧ Below w.heap.size w w' := by
  have HE0 := (show Hid _ from E)
  have h1' : decide ((60 : Int) < (ln : Int)) = false := by simp; omega
  have h2' : decide ((60 : Int) < (gn : Int)) = false := by simp; omega
  go_enter Tryd.func4, Tryd.ntmps4
  go_wp2_with fail
  refine (rowed_any _).mono ?_
  rintro e w1 ⟨rfl, hb1⟩
  go_wp2_with fail
  refine (new_any _).mono ?_
  rintro e w2 ⟨rfl, hr, hb2, hs2⟩
  have hb0 : Below w.heap.size w w2 := hb1.trans (hb2.mono hb1.size)
  have hrge : w.heap.size ≤ w1.heap.size := hb1.size
  clear hb2 hs2 hb1
  go_wp2_with fail
  generalize w1.heap.size = r at *
  clear w1
  go_loopw [6, 9, 10, 11] (fun s6 m i _ wr => s6 = .bool false ∧ ∃ (k : Nat) (bs : List Bool) (v : Value), k ≤ ln ∧ i = .int .i64 k ∧ m = .string (BitMath.txt bs) ∧ bs.length ≤ 64 * k ∧ IsRow wr r v bs ∧ Below w.heap.size w wr) (fun _ _ i _ _ => ln - (intOf i).toNat)
  case atStart => exact ⟨rfl, 0, [], _, Nat.zero_le _, rfl, rfl, Nat.le_refl _, hr, hb0⟩
  case round =>
    obtain ⟨rfl, k, bs, v, hk, rfl, rfl, hbs, hrow, hbr⟩ := hrel
    clear hr hb0
    by_cases hlt : k < ln
    · obtain ⟨lb, lo, rfl, hcV, hcN, hV0, hV1⟩ := hL.at k hlt
      have hlb : lb < w.heap.size := lt_of_cell hcV
      rw [← hbr.cell (p := ⟨lb, lo + k * 2, none⟩) hlb] at hcV
      rw [← hbr.cell (p := ⟨lb, lo + k * 2 + 1, none⟩) hlb] at hcN
      have hk0 : (0 : Int) ≤ (k : Int) := by omega
      have hk1 : (k : Int) < (ln : Int) := by omega
      have Er := E.below hbr hB
      have hszr := hbr.size
      generalize hx : V k = x at *
      generalize hn0 : N k = nn at *
      clear hx hn0
      have HLL := (show Hid _ from hL)
      have HG := (show Hid _ from hG)
      have HBS := (show Hid _ from hbs)
      have HROW := (show Hid _ from hrow)
      have HBR := (show Hid _ from hbr)
      have HER := (show Hid _ from Er)
      clear hL hG hbs hrow hbr Er E
      by_cases hbad : nn < 0 ∨ 64 < nn
      · have hput := put_bound wr.drew x nn ⟨r, 0, none⟩ (ea 1) HER.out.c1 hbad
        have HPUT := (show Hid _ from hput)
        have hcd := coded_es wr.drew (HER.out.below (below_draw wr 1) (Nat.le_trans hB hszr)) (Nat.le_trans hB hszr) 1 (by omega) 2 rfl
        have HCD := (show Hid _ from hcd)
        clear hput hcd hV1
        have hor : (decide (nn < 0) || decide (64 < nn)) = true := by rcases hbad with h | h <;> simp [h]
        by_cases hneg : nn < 0
        · have hd0 : decide (nn < 0) = true := by simpa using hneg
          clear hbad hor
          go_wp2_with fail
          go_region_held3 (fun w' => w'.cell? ⟨lb, lo + k * 2, none⟩ = some (.int .u64 x) ∧ w'.cell? ⟨lb, lo + k * 2 + 1, none⟩ = some (.int .i64 nn)) (go_keep) ((go_at_call 18; refine Calls.mono HPUT.out ?_; rintro e w3 ⟨rfl, rfl⟩))
          go_wp2_with fail
          refine Calls.mono HCD.out ?_
          rintro e w4 ⟨rfl, hb4⟩
          have hb5 : Below wr.heap.size wr w4 := (below_draw wr 1).trans hb4
          clear hb4 hcV hcN
          go_wp2
          go_roundw
          case rel => exact ⟨rfl, k + 1, bs, v, by omega, by go_num, rfl, by have := HBS.out; omega, HROW.out.below hb5, HBR.out.trans (hb5.mono hszr)⟩
          case measure => simp [intOf]; omega
        · have hd0 : decide (nn < 0) = false := by simpa using hneg
          have hbig : 64 < nn := by omega
          have hd1 : decide (64 < nn) = true := by simpa using hbig
          clear hbad hor
          go_wp2_with fail
          go_region_held3 (fun w' => w'.cell? ⟨lb, lo + k * 2, none⟩ = some (.int .u64 x) ∧ w'.cell? ⟨lb, lo + k * 2 + 1, none⟩ = some (.int .i64 nn)) (go_keep) ((go_at_call 18; refine Calls.mono HPUT.out ?_; rintro e w3 ⟨rfl, rfl⟩))
          go_wp2_with fail
          refine Calls.mono HCD.out ?_
          rintro e w4 ⟨rfl, hb4⟩
          have hb5 : Below wr.heap.size wr w4 := (below_draw wr 1).trans hb4
          clear hb4 hcV hcN
          go_wp2
          go_roundw
          case rel => exact ⟨rfl, k + 1, bs, v, by omega, by go_num, rfl, by have := HBS.out; omega, HROW.out.below hb5, HBR.out.trans (hb5.mono hszr)⟩
          case measure => simp [intOf]; omega
      · have hn0 : 0 ≤ nn := by omega
        have hn64 : nn ≤ 64 := by omega
        have hd0 : decide (nn < 0) = false := by simp; omega
        have hd1 : decide (64 < nn) = false := by simp; omega
        clear hbad
        have hput := put_round HROW.out HBR.out hrge hlb hV0 hV1 hn0 hn64 (by have := HBS.out; omega) hcV hcN
        have HPUT := (show Hid _ from hput)
        have HV1 := (show Hid _ from hV1)
        clear hput hV1
        go_wp2_with fail
        go_region_held3 (fun w' => w'.cell? ⟨lb, lo + k * 2, none⟩ = some (.int .u64 x) ∧ w'.cell? ⟨lb, lo + k * 2 + 1, none⟩ = some (.int .i64 nn)) (go_keep) ((go_at_call 18; refine Calls.mono HPUT.out ?_; rintro e w3 ⟨rfl, ⟨hcV3, hcN3⟩, ⟨v3, hrow3⟩, hb3⟩))
        have hbits := bits_round hrow3 hb3 hlb hV0 HV1.out hn0 hn64 hcV3 hcN3
        have HBITS := (show Hid _ from hbits)
        have hadd := add_txt Tryd.prog bs (BitMath.bitsOf x.toNat nn.toNat) (by rw [BitMath.length_bitsOf]; have := HBS.out; omega)
        clear hbits HPUT hcV hcN hrow3 hb3 HROW HBR HER
        go_wp2_with fail
        go_region_held3 (fun w' => w'.cell? ⟨lb, lo + k * 2, none⟩ = some (.int .u64 x) ∧ w'.cell? ⟨lb, lo + k * 2 + 1, none⟩ = some (.int .i64 nn)) (go_keep) ((go_at_call 19; refine Calls.mono HBITS.out ?_; rintro e w4 ⟨rfl, ⟨hcV4, hcN4⟩, hrow4, hb4⟩))
        have hsz4 : (BitMath.txt (bs ++ BitMath.bitsOf x.toNat nn.toNat)).size = (bs ++ BitMath.bitsOf x.toNat nn.toNat).length := BitMath.txt_size _
        generalize hbs4 : bs ++ BitMath.bitsOf x.toNat nn.toNat = bs4 at *
        have hl4 : bs4.length ≤ 64 * (k + 1) := by rw [← hbs4, List.length_append, BitMath.length_bitsOf]; have := HBS.out; omega
        have HL4 := (show Hid _ from hl4)
        have HROW4 := (show Hid _ from hrow4)
        have HB4 := (show Hid _ from hb4)
        clear hl4 hbs4 hadd HBITS hcV3 hcN3 hcV4 hcN4 hb4
        go_wp2_with (go_at_call 20; refine (len_any _ _ _ _ HROW4.out).mono ?_; rintro e w5 ⟨rfl, rfl⟩)
        go_roundw
        case rel => exact ⟨rfl, k + 1, bs4, v3, by omega, by go_num, rfl, HL4.out, HROW4.out, HB4.out⟩
        case measure => simp [intOf]; omega
    · have hge0 : ln ≤ k := by omega
      clear hlt hL
      have hpk := pack_any (BitMath.txt bs) bs wr rfl (by omega)
      have HPK := (show Hid _ from hpk)
      have HER := (show Hid _ from E.below hbr hB)
      have HROW := (show Hid _ from hrow)
      have HBR := (show Hid _ from hbr)
      have hl8 : (BitMath.pack bs).length ≤ 480 := by rw [BitMath.length_pack]; omega
      have hge : (ln : Int) ≤ (k : Int) := by omega
      clear hpk hrow hbr hbs E
      go_wp2_with fail
      refine Calls.mono HPK.out ?_
      rintro e w3 ⟨rfl, hb3⟩
      have HROW3 := (show Hid _ from HROW.out.below hb3)
      have HB3 := (show Hid _ from HBR.out.trans (hb3.mono HBR.out.size))
      have hE3 := HER.out.below (hb3.mono (Nat.le_trans hB HBR.out.size)) (Nat.le_refl _)
      have HE3 := (show Hid _ from hE3)
      clear HPK hb3 HROW hE3 HER
      go_wp2_with fail
      refine (bytes_any _ _ _ _ HROW3.out).mono ?_
      rintro e w4 ⟨rfl, rfl⟩
      generalize hl : BitMath.pack bs = l8 at *
      clear hl
      have hs8 : (⟨l8.toArray⟩ : ByteArray).size = l8.length := by simp [ByteArray.size]
      have hd8 : (⟨l8.toArray⟩ : ByteArray).data.toList = l8 := by simp
      generalize (⟨l8.toArray⟩ : ByteArray) = s8 at *
      have hs480 : s8.size ≤ 480 := by omega
      have HD8 := (show Hid _ from hd8)
      have HS8 := (show Hid _ from hs8)
      have E4 := HE3.out
      clear hd8 hs8 hl8
      go_wp2_with fail
      by_cases hbad : n < 0 ∨ 8 * (s8.size : Int) < n
      · have hcd := fun q => coded_es (w4.drewN q) (E4.below (below_draw w4 q) (Nat.le_trans hB HB3.out.size)) (Nat.le_trans hB HB3.out.size) 1 (by omega) 2 rfl
        have HCD := (show Hid _ from hcd)
        refine (open_bound w4 s8 n (ea 1) E4.c1 (by omega) hbad).mono ?_
        rintro e w5 ⟨rfl, q, rfl⟩
        clear hcd E4
        by_cases hneg : n < 0
        · have hd0 : decide (n < 0) = true := by simpa using hneg
          clear hbad
          go_wp2_with fail
          refine Calls.mono (HCD.out q) ?_
          rintro e w6 ⟨rfl, hb6⟩
          have hb7 : Below w.heap.size w w6 := HB3.out.trans (((below_draw w4 q).trans hb6).mono HB3.out.size)
          clear hb6
          go_wp2
          go_ret
          exact ⟨rfl, hb7⟩
        · have hd0 : decide (n < 0) = false := by simpa using hneg
          have hbig : 8 * (s8.size : Int) < n := by omega
          have hd1 : decide (8 * (s8.size : Int) < n) = true := by simpa using hbig
          clear hbad
          go_wp2_with fail
          refine Calls.mono (HCD.out q) ?_
          rintro e w6 ⟨rfl, hb6⟩
          have hb7 : Below w.heap.size w w6 := HB3.out.trans (((below_draw w4 q).trans hb6).mono HB3.out.size)
          clear hb6
          go_wp2
          go_ret
          exact ⟨rfl, hb7⟩
      · have hn0 : 0 ≤ n := by omega
        have hn8 : n ≤ 8 * (s8.size : Int) := by omega
        have hd0 : decide (n < 0) = false := by simp; omega
        have hd1 : decide (8 * (s8.size : Int) < n) = false := by simp; omega
        clear hbad E4
        refine (open_ok w4 s8 n (by omega) hn0 hn8).mono ?_
        rintro e w5 ⟨x, g, cap, rfl, hrd, hb5, hg5⟩
        have hgw : w.heap.size ≤ g := Nat.le_trans HB3.out.size hg5
        rw [HD8.out] at hrd
        have hun := fun (w6 : World) => unpack_any s8 w6 (by omega)
        have HUN := (show Hid _ from hun)
        have HRD := (show Hid _ from hrd)
        have HB5 := (show Hid _ from HB3.out.trans (hb5.mono HB3.out.size))
        clear hun hrd hb5 HROW3
        go_wp2_with fail
        refine Calls.mono (HUN.out _) ?_
        rintro e w6 ⟨rfl, hb6⟩
        rw [HD8.out]
        have HRD6 := (show Hid _ from HRD.out.below hb6)
        have HB6 := (show Hid _ from HB5.out.trans (hb6.mono HB5.out.size))
        have hszB : (BitMath.txt (BitMath.bitsOfBytes l8)).size = 8 * s8.size := by rw [BitMath.txt_size, BitMath.length_bitsOfBytes, HS8.out]
        have hnB : n ≤ ((BitMath.txt (BitMath.bitsOfBytes l8)).size : Int) := by omega
        clear hb6 HUN HRD HB5 HB3
        go_wp2_with fail
        have hs5 : ((BitMath.txt (BitMath.bitsOfBytes l8)).extract 0 n.toNat).size = n.toNat := by simp; omega
        obtain ⟨s5, he5⟩ : ∃ s5, s5 = (BitMath.txt (BitMath.bitsOfBytes l8)).extract 0 n.toNat := ⟨_, rfl⟩
        rw [← he5]
        rw [← he5] at hs5
        have HE5 := (show Hid _ from he5)
        have hs5' : (s5.size : Int) = n := by omega
        have HS5 := (show Hid _ from hs5')
        clear he5 hs5 hnB hszB hs5' hge hge0 hk h1'
        go_loopw [6, 16, 17, 18, 19] (fun s6 at_ i _ _ wr => s6 = .bool false ∧ ∃ (k a : Nat), k ≤ gn ∧ i = .int .i64 k ∧ at_ = .int .i64 a ∧ IsReader wr x g cap (l8.take ((n.toNat + 7) / 8)) a n.toNat ∧ Below w.heap.size w wr) (fun _ _ i _ _ _ => gn - (intOf i).toNat)
        case atStart => exact ⟨rfl, 0, 0, Nat.zero_le _, rfl, rfl, HRD6.out, HB6.out⟩
        case round =>
          clear HRD6 HB6
          obtain ⟨rfl, k2, a, hk2, rfl, rfl, hrd, hbr⟩ := hrel
          by_cases hlt : k2 < gn
          · obtain ⟨gb, go, rfl, hcG⟩ := hG.at k2 hlt
            have hgb : gb < w.heap.size := lt_of_cell hcG
            rw [← hbr.cell (p := ⟨gb, go + k2, none⟩) hgb] at hcG
            generalize hy : G k2 = y at hcG
            clear hy
            have hk0 : (0 : Int) ≤ (k2 : Int) := by omega
            have hk1 : (k2 : Int) < (gn : Int) := by omega
            have Er := HE0.out.below hbr hB
            have hszr := hbr.size
            have hBr := Nat.le_trans hB hszr
            have HRD := (show Hid _ from hrd)
            have HBW := (show Hid _ from hbr)
            have HER := (show Hid _ from Er)
            have han : (a : Int) ≤ n := by have := hrd.hi; omega
            have HG := (show Hid _ from hG)
            clear hG hrd hbr Er
            by_cases hbad : y < 0 ∨ 64 < y
            · have hget := get_bound wr ⟨x, 0, none⟩ y (ea 1) HER.out.c1 hbad
              have HGET := (show Hid _ from hget)
              have hcd := fun q => coded_es (wr.drewN q) (HER.out.below (below_draw wr q) hBr) hBr 1 (by omega) 2 rfl
              have HCD := (show Hid _ from hcd)
              clear hget hcd
              by_cases hneg : y < 0
              · have hd0 : decide (y < 0) = true := by simpa using hneg
                clear hbad
                go_wp2_with fail
                refine Calls.mono HGET.out ?_
                rintro e w7 ⟨rfl, q, rfl⟩
                go_wp2_with fail
                refine Calls.mono (HCD.out q) ?_
                rintro e w8 ⟨rfl, hb8⟩
                have hb9 : Below wr.heap.size wr w8 := (below_draw wr q).trans hb8
                clear hb8 hcG
                go_wp2
                go_roundw
                case rel => exact ⟨rfl, k2 + 1, a, by omega, by go_num, rfl, HRD.out.below hb9, HBW.out.trans (hb9.mono hszr)⟩
                case measure => simp [intOf]; omega
              · have hd0 : decide (y < 0) = false := by simpa using hneg
                have hbig : 64 < y := by omega
                have hd1 : decide (64 < y) = true := by simpa using hbig
                clear hbad
                go_wp2_with fail
                refine Calls.mono HGET.out ?_
                rintro e w7 ⟨rfl, q, rfl⟩
                go_wp2_with fail
                refine Calls.mono (HCD.out q) ?_
                rintro e w8 ⟨rfl, hb8⟩
                have hb9 : Below wr.heap.size wr w8 := (below_draw wr q).trans hb8
                clear hb8 hcG
                go_wp2
                go_roundw
                case rel => exact ⟨rfl, k2 + 1, a, by omega, by go_num, rfl, HRD.out.below hb9, HBW.out.trans (hb9.mono hszr)⟩
                case measure => simp [intOf]; omega
            · have hy0 : 0 ≤ y := by omega
              have hy64 : y ≤ 64 := by omega
              have hd0 : decide (y < 0) = false := by simp; omega
              have hd1 : decide (64 < y) = false := by simp; omega
              clear hbad
              by_cases hmore : n - (a : Int) < y
              · have hget := get_none wr x g cap _ a n.toNat HRD.out y (ea 4) HER.out.c4 hy0 hy64 (by omega)
                have HGET := (show Hid _ from hget)
                have hcd := fun q => coded_es (wr.drewN q) (HER.out.below (below_draw wr q) hBr) hBr 4 (by omega) 5 rfl
                have HCD := (show Hid _ from hcd)
                have hd2 : decide (n - (a : Int) < y) = true := by simpa using hmore
                clear hget hcd
                go_wp2_with fail
                refine Calls.mono HGET.out ?_
                rintro e w7 ⟨rfl, q, rfl⟩
                go_wp2_with fail
                refine Calls.mono (HCD.out q) ?_
                rintro e w8 ⟨rfl, hb8⟩
                have hb9 : Below wr.heap.size wr w8 := (below_draw wr q).trans hb8
                clear hb8 hcG
                go_wp2
                go_roundw
                case rel => exact ⟨rfl, k2 + 1, a, by omega, by go_num, rfl, HRD.out.below hb9, HBW.out.trans (hb9.mono hszr)⟩
                case measure => simp [intOf]; omega
              · have hd2 : decide (n - (a : Int) < y) = false := by simp; omega
                obtain ⟨t, rfl⟩ := Int.eq_ofNat_of_zero_le hy0
                have hget := get_ok wr x g cap _ a n.toNat HRD.out t hy64 (by omega)
                have HGET := (show Hid _ from hget)
                clear hget
                go_wp2_with fail
                refine Calls.mono HGET.out ?_
                rintro e w7 ⟨rfl, hrd7, hk7, hsz7⟩
                have hb7 : Below w.heap.size wr w7 := hk7.below hszr (fun z hz => by simp at hz; subst hz; have := HRD.out.hg; omega)
                have hcG7 : w7.cell? ⟨gb, go + k2, none⟩ = some (.int .i64 (t : Int)) := (hb7.cell (p := ⟨gb, go + k2, none⟩) hgb).trans hcG
                have HRD7 := (show Hid _ from hrd7)
                have HB7 := (show Hid _ from HBW.out.trans hb7)
                have hs5b : (a : Int) + (t : Int) ≤ (s5.size : Int) := by have := HS5.out; omega
                have hs5a : (a : Int) ≤ (a : Int) + (t : Int) := by omega
                have hval : s5.extract a (a + t) = BitMath.txt (BitMath.readB (l8.take ((n.toNat + 7) / 8)) a t) := by
                  rw [HE5.out, BitMath.txt_cut l8 n.toNat a t (by omega), BitMath.readB_take l8 _ a t (by omega)]
                have hlen : (BitMath.readB (l8.take ((n.toNat + 7) / 8)) a t).length ≤ 64 := by
                  unfold BitMath.readB
                  rw [List.length_take]
                  omega
                have hvo := value_of (s5.extract a (a + t)) _ w7 hval hlen
                have HVO := (show Hid _ from hvo)
                have hleft := left_any w7 x g cap _ (a + t) n.toNat hrd7
                rw [Int.toNat_of_nonneg hn0, Int.natCast_add] at hleft
                have HLEFT := (show Hid _ from hleft)
                generalize BitMath.valB (BitMath.readB (l8.take ((n.toNat + 7) / 8)) a t) = z at *
                clear hrd7 hk7 hsz7 hb7 HGET hval hlen hvo hleft
                go_wp2_with fail
                refine Calls.mono HVO.out ?_
                rintro e w8 ⟨rfl, rfl⟩
                go_wp2_with fail
                refine Calls.mono HLEFT.out ?_
                rintro e w9 ⟨rfl, q, rfl⟩
                clear hcG7 hcG
                go_wp2
                go_roundw
                case rel => exact ⟨rfl, k2 + 1, a + t, by omega, by go_num, by go_num, HRD7.out.drewN q, HB7.out.trans ((below_draw _ q).mono HB7.out.size)⟩
                case measure => simp [intOf]; omega
          · have hge : (gn : Int) ≤ (k2 : Int) := by omega
            clear hlt
            go_wp2
            go_ret
            exact ⟨rfl, hbr⟩
end Go.Proofs.YtgdflopgdlpimaaDoor
