/- The walk of tidegaugelaw1.WaveNumbers. -/
import Derived.Test.YtgdflopgdlpimaaDoorWaveGet3
import Derived.Test.YtgdflopgdlpimaaDoorWavePut2
import Derived.Test.YtgdflopgdlpimaaDoorOpenBits
import Derived.Test.YtgdflopgdlpimaaDoorCoded
import Derived.Test.YtgdflopgdlpimaaDoorSlicesIn
namespace Go.Proofs.YtgdflopgdlpimaaDoor
open Go.RowKit

/-- Numbers as waves, one behind the other. -/
def wavesTo (G : Nat → Int) : Nat → List Bool
  | 0 => []
  | k + 1 => wavesTo G k ++ BitMath.waveOf (G k)
theorem length_wavesTo (G : Nat → Int) : ∀ k, (wavesTo G k).length ≤ 68 * k
  | 0 => by simp [wavesTo]
  | k + 1 => by
    have h1 := length_wavesTo G k
    have h2 := BitMath.length_waveOf_le (G k)
    simp only [wavesTo, List.length_append]
    omega
theorem wavesTo_split (G : Nat → Int) (k : Nat) : ∀ n, k < n → ∃ R, wavesTo G n = wavesTo G k ++ BitMath.waveOf (G k) ++ R
  | 0, h => absurd h (by omega)
  | n + 1, h => by
    rcases Nat.lt_or_ge k n with h1 | h1
    · obtain ⟨R, hR⟩ := wavesTo_split G k n h1
      exact ⟨R ++ BitMath.waveOf (G n), by simp only [wavesTo]; rw [hR]; simp [List.append_assoc]⟩
    · have : k = n := by omega
      subst this
      exact ⟨[], by simp [wavesTo]⟩
theorem wavesTo_read (G : Nat → Int) (k n : Nat) (h : k < n) (h0 : -9223372036854775808 ≤ G k) (h1 : G k ≤ 9223372036854775807) : BitMath.unwave ((wavesTo G n).drop (wavesTo G k).length) = (0, G k, (BitMath.waveOf (G k)).length) := by
  obtain ⟨R, hR⟩ := wavesTo_split G k n h
  rw [hR, List.append_assoc, List.drop_left, BitMath.unwave_wave _ _ h0 h1]

theorem reader_below {w wr w' : World} {x : Nat} (h : Kept [x] wr w') (hb : Below w.heap.size w wr) (hx : w.heap.size ≤ x) : Below w.heap.size w w' :=
  hb.trans (h.below hb.size (fun y hy => by simp at hy; omega))

set_option maxRecDepth 1000000 in
theorem numbers_long (w : World) (hF : Forms w) (la : Option Addr) (ln lc : Nat) (h : 60 < ln) (hl : (ln : Int) ≤ 9223372036854775807) :
    Calls Tryd.prog 5 #[.slice la ln lc] w fun e w' => e = .returned (.bool true) ∧ Below w.heap.size w w' := by
  have h1' : decide ((60 : Int) < (ln : Int)) = true := by simp; omega
  have HW := (show Hid _ from waved_any w hF)
  clear hF
  go_enter Tryd.func5, Tryd.ntmps5
  go_wp2_with fail
  refine Calls.mono HW.out ?_
  rintro e w1 ⟨rfl, hb⟩
  go_wp2
  go_ret
  exact ⟨rfl, hb⟩

set_option maxRecDepth 1000000 in
set_option maxHeartbeats 4000000 in
theorem numbers_main {B : Nat} {ea : Nat → Addr} (w : World) (E : Env B ea w) (hB : B ≤ w.heap.size) (hF : Forms w) (la : Option Addr) (ln lc : Nat) (G : Nat → Int) (hI : Ints w la ln G) (hG : ∀ k, k < ln → -9223372036854775808 ≤ G k ∧ G k ≤ 9223372036854775807) (h1 : ln ≤ 60) :
    Calls Tryd.prog 5 #[.slice la ln lc] w fun e w' => e = .returned (.bool true) ∧ Below w.heap.size w w' := by
  have HE : Hid (Env B ea w) := E
  have HF : Hid (Forms w) := hF
  have HI : Hid (Ints w la ln G) := hI
  have HG := (show Hid _ from hG)
  have HW := (show Hid _ from waved_any w hF)
  have hFl := hF.lt
  have h1' : decide ((60 : Int) < (ln : Int)) = false := by simp; omega
  have hlow := E.low
  clear E hF hI hG
  go_enter Tryd.func5, Tryd.ntmps5
  go_wp2_with fail
  refine Calls.mono HW.out ?_
  rintro e w1 ⟨rfl, hb1⟩
  go_wp2_with fail
  refine (new_any _).mono ?_
  rintro e w2 ⟨rfl, hr, hb2, hs2⟩
  have hb0 : Below w.heap.size w w2 := hb1.trans (hb2.mono hb1.size)
  have hrge : w.heap.size ≤ w1.heap.size := hb1.size
  clear hb2 hs2 hb1 HW
  go_wp2_with fail
  generalize w1.heap.size = r at *
  clear w1
  go_loopw [2, 5, 6, 7] (fun s2 m i _ wr => s2 = .bool false ∧ ∃ (k : Nat) (v : Value), k ≤ ln ∧ i = .int .i64 k ∧ m = .string (BitMath.txt (wavesTo G k)) ∧ IsRow wr r v (wavesTo G k) ∧ Below w.heap.size w wr) (fun _ _ i _ _ => ln - (intOf i).toNat)
  case atStart => exact ⟨rfl, 0, _, Nat.zero_le _, rfl, rfl, hr, hb0⟩
  case round =>
    obtain ⟨rfl, k, v, hk, rfl, rfl, hrow, hbr⟩ := hrel
    clear hr hb0
    by_cases hlt : k < ln
    · obtain ⟨lb, lo, rfl, hc⟩ := HI.out.at k hlt
      have hlb : lb < w.heap.size := lt_of_cell hc
      obtain ⟨hg0, hg1⟩ := HG.out k hlt
      have hbs := length_wavesTo G k
      have hwl := BitMath.length_waveOf_le (G k)
      have hstep : wavesTo G k ++ BitMath.waveOf (G k) = wavesTo G (k + 1) := rfl
      obtain ⟨bs, hbs0⟩ : ∃ bs, bs = wavesTo G k := ⟨_, rfl⟩
      obtain ⟨n, hn⟩ : ∃ n, n = G k := ⟨_, rfl⟩
      rw [← hbs0, ← hn] at hstep
      rw [← hbs0] at hbs hrow ⊢
      rw [← hn] at hc hg0 hg1 hwl
      have hcr : wr.cell? ⟨lb, lo + k, none⟩ = some (.int .i64 n) := (hbr.cell (p := ⟨lb, lo + k, none⟩) hlb).trans hc
      have hwv := wave_any n wr hg0 hg1
      have HWV := (show Hid _ from hwv)
      have HC := (show Hid _ from hc)
      have HROW := (show Hid _ from hrow)
      have HBR := (show Hid _ from hbr)
      have HSTEP := (show Hid _ from hstep)
      have hk0 : (0 : Int) ≤ (k : Int) := by omega
      have hk1 : (k : Int) < (ln : Int) := by omega
      clear hwv hc hrow hbr hstep hbs0 hn
      go_wp2_with fail
      refine Calls.mono HWV.out ?_
      rintro e w3 ⟨rfl, hb3⟩
      have hb3w : Below w.heap.size w w3 := HBR.out.trans (hb3.mono HBR.out.size)
      have hc3 : w3.cell? ⟨lb, lo + k, none⟩ = some (.int .i64 n) := (hb3w.cell (p := ⟨lb, lo + k, none⟩) hlb).trans HC.out
      have hadd := add_txt Tryd.prog bs (BitMath.waveOf n) (by omega)
      have hput := wput_ok n w3 (HF.out.below hb3w hFl) r v bs (HROW.out.below hb3) (by omega) hg0 hg1
      have HPUT := (show Hid _ from hput)
      have HROW3 := (show Hid _ from HROW.out.below hb3)
      have HB3 := (show Hid _ from hb3w)
      clear hput hb3 hb3w hcr HROW HBR HWV
      go_wp2_with fail
      refine Calls.mono HPUT.out ?_
      rintro e w4 ⟨rfl, v4, hr4, hk4, _⟩
      have hb4 : Below w.heap.size w w4 := HB3.out.trans (hk4.below HB3.out.size (fun y hy => Nat.le_trans hrge (HROW3.out.own_ge y hy)))
      have hc4 : w4.cell? ⟨lb, lo + k, none⟩ = some (.int .i64 n) := (hb4.cell (p := ⟨lb, lo + k, none⟩) hlb).trans HC.out
      have hsz := wsize_any n w4 (HF.out.below hb4 hFl) hg0 hg1
      have HSZ := (show Hid _ from hsz)
      have HR4 := (show Hid _ from hr4)
      have HB4 := (show Hid _ from hb4)
      have hts : (BitMath.txt (BitMath.waveOf n)).size = (BitMath.waveOf n).length := BitMath.txt_size _
      have hts2 : (BitMath.txt (bs ++ BitMath.waveOf n)).size = (bs ++ BitMath.waveOf n).length := BitMath.txt_size _
      clear hsz hr4 hk4 hb4 HPUT hc3 hadd HB3 HROW3
      go_wp2_with fail
      refine Calls.mono HSZ.out ?_
      rintro e w5 ⟨rfl, hb5⟩
      have HR5 := (show Hid _ from HR4.out.below hb5)
      have HB5 := (show Hid _ from HB4.out.trans (hb5.mono HB4.out.size))
      have HLN := (show Hid _ from len_any w5 r v4 _ HR5.out)
      clear hc4 hb5 HSZ HR4 HB4
      go_wp2_with fail
      refine Calls.mono HLN.out ?_
      rintro e w6 ⟨rfl, hw6⟩
      have hw6' := hw6.symm
      subst hw6'
      go_wp2
      go_roundw
      case rel => exact ⟨rfl, k + 1, v4, by omega, by go_num, by rw [← HSTEP.out], by rw [← HSTEP.out]; exact HR5.out, HB5.out⟩
      case measure => simp [intOf]; omega
    · have hkl : k = ln := by omega
      subst hkl
      have hbs := length_wavesTo G k
      obtain ⟨M, hM⟩ : ∃ M, M = wavesTo G k := ⟨_, rfl⟩
      have hreads : ∀ j, j < k → BitMath.unwave (M.drop (wavesTo G j).length) = (0, G j, (BitMath.waveOf (G j)).length) := fun j hj => by rw [hM]; exact wavesTo_read G j k hj (HG.out j hj).1 (HG.out j hj).2
      have hend : M.length = (wavesTo G k).length := by rw [hM]
      rw [← hM] at hbs hrow ⊢
      have HREADS := (show Hid _ from hreads)
      have HEND := (show Hid _ from hend)
      have hpk := fun w0 => pack_any (BitMath.txt M) M w0 rfl (by omega)
      have HPK := (show Hid _ from hpk)
      have hop := fun w0 => openBits_any M w0 (by omega)
      have HOP := (show Hid _ from hop)
      have HBY := (show Hid _ from bytes_any wr r v M hrow)
      have HBR := (show Hid _ from hbr)
      have hge : (k : Int) ≤ (k : Int) := Int.le_refl _
      clear hpk hop hrow hbr hreads hend hM hlt hk
      go_wp2_with fail
      refine Calls.mono HBY.out ?_
      rintro e w3 ⟨rfl, hw3⟩
      have hw3' := hw3.symm
      subst hw3'
      go_wp2_with fail
      refine Calls.mono (HPK.out _) ?_
      rintro e w4 ⟨rfl, hb4⟩
      have HB4 := (show Hid _ from HBR.out.trans (hb4.mono HBR.out.size))
      clear hb4 HBY HPK HBR
      go_wp2_with fail
      refine Calls.mono (HOP.out _) ?_
      rintro e w5 ⟨x, g, cap, rfl, hrd, hb5, hg5⟩
      have hgw : w.heap.size ≤ g := Nat.le_trans HB4.out.size hg5
      have hxg := hrd.hg
      have HRD := (show Hid _ from hrd)
      have HB5 := (show Hid _ from HB4.out.trans (hb5.mono HB4.out.size))
      clear hrd hb5 hg5 HOP HB4
      go_wp2_with fail
      go_loopw [2, 9, 10, 11] (fun s2 i _ _ wr => s2 = .bool false ∧ ∃ (j : Nat), j ≤ k ∧ i = .int .i64 j ∧ IsReader wr x g cap (BitMath.pack M) (wavesTo G j).length M.length ∧ Below w.heap.size w wr) (fun _ i _ _ _ => k - (intOf i).toNat)
      case atStart => exact ⟨rfl, 0, Nat.zero_le _, rfl, HRD.out, HB5.out⟩
      case round =>
        obtain ⟨rfl, j, hj, rfl, hrj, hbj⟩ := hrel
        clear HRD HB5
        have Ej := HE.out.below hbj hB
        have hget := wget_any wr x g cap (BitMath.pack M) (wavesTo G j).length M.length hrj (HF.out.below hbj hFl) (ea 4) (ea 0) Ej.c4 Ej.c0 (by omega) (by omega) (by omega)
        rw [BitMath.restB_pack] at hget
        by_cases hlt : j < k
        · rw [HREADS.out j hlt] at hget
          obtain ⟨lb, lo, rfl, hc⟩ := HI.out.at j hlt
          have hlb : lb < w.heap.size := lt_of_cell hc
          have hj1 : (j : Int) < (k : Int) := by omega
          have hj0 : (0 : Int) ≤ (j : Int) := by omega
          have HGET := (show Hid _ from hget)
          have HC := (show Hid _ from hc)
          have HBJ := (show Hid _ from hbj)
          clear hget hc hbj Ej hrj
          go_wp2_with fail
          refine Calls.mono HGET.out ?_
          rintro e w6 ⟨hk6, ⟨_, rfl, hr6⟩ | ⟨hbad, _⟩ | ⟨hbad, _⟩⟩
          · have hb6 := reader_below hk6 HBJ.out (by omega)
            have hc6 : w6.cell? ⟨lb, lo + j, none⟩ = some (.int .i64 (G j)) := (hb6.cell (p := ⟨lb, lo + j, none⟩) hlb).trans HC.out
            have HB6 := (show Hid _ from hb6)
            have HR6 := (show Hid _ from hr6)
            generalize hn : G j = n at *
            have HN := (show Hid _ from hn)
            clear hk6 hb6 hr6 HGET hn
            go_wp2
            go_roundw
            case rel =>
              refine ⟨rfl, j + 1, by omega, by go_num, ?_, HB6.out⟩
              have e : (wavesTo G (j + 1)).length = (wavesTo G j).length + (BitMath.waveOf n).length := by rw [← HN.out]; simp [wavesTo]
              rw [e]
              exact HR6.out
            case measure => simp [intOf]; omega
          · cases hbad
          · cases hbad
        · have hjk : j = k := by omega
          subst hjk
          have hdr : M.drop (wavesTo G j).length = [] := by rw [← HEND.out]; exact List.drop_length
          have hu : BitMath.unwave [] = (5, 0, 0) := by rfl
          rw [hdr, hu, ← HEND.out] at hget
          have HGET := (show Hid _ from hget)
          have HBJ := (show Hid _ from hbj)
          clear hget Ej hrj hdr hu hbj
          go_wp2_with fail
          refine Calls.mono HGET.out ?_
          rintro e w6 ⟨hk6, ⟨hbad, _⟩ | ⟨_, rfl, q, hq, hr6⟩ | ⟨hbad, _⟩⟩
          · cases hbad
          · have hqe : q = M.length := by have := hr6.hi; omega
            subst hqe
            have hb6 := reader_below hk6 HBJ.out (by omega)
            have E6 := HE.out.below hb6 hB
            have HNIL := (show Hid _ from wget_nil w6 (ea 2) E6.c2)
            have HB6 := (show Hid _ from hb6)
            have HR6 := (show Hid _ from hr6)
            clear hk6 hb6 hr6 HGET E6 HBJ
            go_wp2_with fail
            refine Calls.mono HNIL.out ?_
            rintro e w7 ⟨rfl, q7, rfl⟩
            have HB7 := (show Hid _ from HB6.out.trans ((below_draw w6 q7).mono HB6.out.size))
            have HLEFT := (show Hid _ from left_any (w6.drewN q7) x g cap _ _ _ (HR6.out.drewN q7))
            have hz : (M.length : Int) - (M.length : Int) = 0 := by omega
            clear HNIL
            go_wp2_with fail
            refine Calls.mono HLEFT.out ?_
            rintro e w8 ⟨rfl, q8, rfl⟩
            have HB8 := (show Hid _ from HB6.out.trans ((below_draw w6 (q7 + q8)).mono HB6.out.size))
            have HCD := (show Hid _ from coded_es _ (HE.out.below HB8.out hB) (Nat.le_trans hB HB8.out.size) 4 (by omega) 5 rfl)
            clear HLEFT HB7
            go_wp2_with fail
            refine Calls.mono HCD.out ?_
            rintro e w9 ⟨rfl, hb9⟩
            have HB9 := (show Hid _ from HB8.out.trans (hb9.mono HB8.out.size))
            have HCD9 := (show Hid _ from coded_es _ (HE.out.below HB9.out hB) (Nat.le_trans hB HB9.out.size) 2 (by omega) 3 rfl)
            clear HCD hb9
            go_wp2_with fail
            refine Calls.mono HCD9.out ?_
            rintro e w10 ⟨rfl, hb10⟩
            have HB10 := (show Hid _ from HB9.out.trans (hb10.mono HB9.out.size))
            have HPN := (show Hid _ from wput_nil 0 w10 (ea 2) (HE.out.below HB10.out hB).c2)
            have HCD10 := (show Hid _ from coded_es w10 (HE.out.below HB10.out hB) (Nat.le_trans hB HB10.out.size) 2 (by omega) 3 rfl)
            clear HCD9 hb10
            go_wp2_with fail
            refine Calls.mono HPN.out ?_
            rintro e w11 ⟨rfl, hw11⟩
            have hw11' := hw11.symm
            subst hw11'
            go_wp2_with fail
            refine Calls.mono HCD10.out ?_
            rintro e w12 ⟨rfl, hb12⟩
            have HB12 := (show Hid _ from HB10.out.trans (hb12.mono HB10.out.size))
            clear hb12
            go_wp2
            go_ret
            exact ⟨rfl, HB12.out⟩
          · cases hbad
end Go.Proofs.YtgdflopgdlpimaaDoor
