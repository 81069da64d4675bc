/- The document's answer on waves, by contracts: Wave, Unwave. -/
import Derived.Test.YtgdflopgdlpimaaDoorRefs2
import Derived.Test.YtgdflopgdlpimaaDoorMaths
namespace Go.Proofs.YtgdflopgdlpimaaDoor
open Go.RowKit

/-- A head and bits, joined. -/
theorem add_head (P : Program) (h : ByteArray) (hd b : List Bool) (hh : h = BitMath.txt hd) (hl : hd.length + b.length ≤ 1000) (w : World) :
    (Op.stringOp .add h (BitMath.txt b)).run P w = .ok (.string (BitMath.txt (hd ++ b))) w := by
  subst hh
  exact add_txt P hd b (by omega) w
theorem wave_zero : (⟨#[48]⟩ : ByteArray) = BitMath.txt (BitMath.waveOf 0) := rfl

theorem wave_form (n : Int) (k : Nat) (hk : BitMath.formOf n = k) : BitMath.waveOf n = BitMath.headOf k ++ BitMath.bitsOf (BitMath.u64 (n + BitMath.biasOf k)) (BitMath.wideOf k) := by
  unfold BitMath.waveOf
  rw [hk]
theorem u64_cast (n : Int) : IntKind.u64.wrap n = (BitMath.u64 n : Int) := by
  rw [IntKind.wrap_u64]
  unfold BitMath.u64
  omega

set_option maxRecDepth 1000000 in
theorem wave_any (n : Int) (w : World) (h0 : -9223372036854775808 ≤ n) (h1 : n ≤ 9223372036854775807) :
    Calls Tryd.prog 29 #[.int .i64 n] w fun e w' => e = .returned (.string (BitMath.txt (BitMath.waveOf n))) ∧ Below w.heap.size w w' := by
  by_cases hz : n = 0
  · subst hz
    go_enter Tryd.func29, Tryd.ntmps29
    go_wp2
    go_ret
    exact ⟨rfl, Below.refl _ _⟩
  · have hz' : (n == 0) = false := by simpa using hz
    by_cases c1 : -64 < n ∧ n < 65
    · have hf : BitMath.formOf n = 1 := by unfold BitMath.formOf; rw [if_neg hz, if_pos c1]
      have hw := wave_form n 1 hf
      have e0 : -64 < n := c1.1
      have e1 : n < 65 := c1.2
      have d0a : decide (-64 < n) = true := by simp; omega
      have d0b : decide (n < 65) = true := by simp; omega
      clear c1
      have hadd := add_head Tryd.prog ⟨#[49, 48]⟩ (BitMath.headOf 1) (BitMath.bitsOf (BitMath.u64 (n + 63)) 7) rfl (by rw [BitMath.length_bitsOf]; decide)
      have hbt := fun w0 => bits_any (BitMath.u64 (n + 63)) 7 w0 (by have := BitMath.u64_lt (n + 63); omega) (by omega) (by omega)
      have HB := (show Hid _ from hbt)
      have hc := u64_cast (n + 63)
      have HWV := (show Hid _ from hw)
      clear hbt hw hf hz
      go_enter Tryd.func29, Tryd.ntmps29
      go_wp2_with fail
      refine Calls.mono (HB.out _) ?_
      rintro e w1 ⟨rfl, hb1⟩
      go_wp2
      go_ret
      refine ⟨?_, hb1⟩
      rw [HWV.out]
      rfl
    · skip
      by_cases c2 : -256 < n ∧ n < 257
      · have hf : BitMath.formOf n = 2 := by unfold BitMath.formOf; rw [if_neg hz, if_neg c1, if_pos c2]
        by_cases hneg : n < 0
        · have hw := wave_form n 2 hf
          have d0a : decide (-64 < n) = false := by simp; omega
          have e0 : -256 < n := c2.1
          have e1 : n < 257 := c2.2
          have d1a : decide (-256 < n) = true := by simp; omega
          have d1b : decide (n < 257) = true := by simp; omega
          clear c1 c2
          have hadd := add_head Tryd.prog ⟨#[49, 49, 48]⟩ (BitMath.headOf 2) (BitMath.bitsOf (BitMath.u64 (n + 255)) 9) rfl (by rw [BitMath.length_bitsOf]; decide)
          have hbt := fun w0 => bits_any (BitMath.u64 (n + 255)) 9 w0 (by have := BitMath.u64_lt (n + 255); omega) (by omega) (by omega)
          have HB := (show Hid _ from hbt)
          have hc := u64_cast (n + 255)
          have HWV := (show Hid _ from hw)
          clear hbt hw hf hz
          go_enter Tryd.func29, Tryd.ntmps29
          go_wp2_with fail
          refine Calls.mono (HB.out _) ?_
          rintro e w1 ⟨rfl, hb1⟩
          go_wp2
          go_ret
          refine ⟨?_, hb1⟩
          rw [HWV.out]
          rfl
        · have hw := wave_form n 2 hf
          have d0a : decide (-64 < n) = true := by simp; omega
          have d0b : decide (n < 65) = false := by simp; omega
          have e0 : -256 < n := c2.1
          have e1 : n < 257 := c2.2
          have d1a : decide (-256 < n) = true := by simp; omega
          have d1b : decide (n < 257) = true := by simp; omega
          clear c1 c2
          have hadd := add_head Tryd.prog ⟨#[49, 49, 48]⟩ (BitMath.headOf 2) (BitMath.bitsOf (BitMath.u64 (n + 255)) 9) rfl (by rw [BitMath.length_bitsOf]; decide)
          have hbt := fun w0 => bits_any (BitMath.u64 (n + 255)) 9 w0 (by have := BitMath.u64_lt (n + 255); omega) (by omega) (by omega)
          have HB := (show Hid _ from hbt)
          have hc := u64_cast (n + 255)
          have HWV := (show Hid _ from hw)
          clear hbt hw hf hz
          go_enter Tryd.func29, Tryd.ntmps29
          go_wp2_with fail
          refine Calls.mono (HB.out _) ?_
          rintro e w1 ⟨rfl, hb1⟩
          go_wp2
          go_ret
          refine ⟨?_, hb1⟩
          rw [HWV.out]
          rfl
      · skip
        by_cases c3 : -2048 < n ∧ n < 2049
        · have hf : BitMath.formOf n = 3 := by unfold BitMath.formOf; rw [if_neg hz, if_neg c1, if_neg c2, if_pos c3]
          by_cases hneg : n < 0
          · have hw := wave_form n 3 hf
            have d0a : decide (-64 < n) = false := by simp; omega
            have d1a : decide (-256 < n) = false := by simp; omega
            have e0 : -2048 < n := c3.1
            have e1 : n < 2049 := c3.2
            have d2a : decide (-2048 < n) = true := by simp; omega
            have d2b : decide (n < 2049) = true := by simp; omega
            clear c1 c2 c3
            have hadd := add_head Tryd.prog ⟨#[49, 49, 49, 48]⟩ (BitMath.headOf 3) (BitMath.bitsOf (BitMath.u64 (n + 2047)) 12) rfl (by rw [BitMath.length_bitsOf]; decide)
            have hbt := fun w0 => bits_any (BitMath.u64 (n + 2047)) 12 w0 (by have := BitMath.u64_lt (n + 2047); omega) (by omega) (by omega)
            have HB := (show Hid _ from hbt)
            have hc := u64_cast (n + 2047)
            have HWV := (show Hid _ from hw)
            clear hbt hw hf hz
            go_enter Tryd.func29, Tryd.ntmps29
            go_wp2_with fail
            refine Calls.mono (HB.out _) ?_
            rintro e w1 ⟨rfl, hb1⟩
            go_wp2
            go_ret
            refine ⟨?_, hb1⟩
            rw [HWV.out]
            rfl
          · have hw := wave_form n 3 hf
            have d0a : decide (-64 < n) = true := by simp; omega
            have d0b : decide (n < 65) = false := by simp; omega
            have d1a : decide (-256 < n) = true := by simp; omega
            have d1b : decide (n < 257) = false := by simp; omega
            have e0 : -2048 < n := c3.1
            have e1 : n < 2049 := c3.2
            have d2a : decide (-2048 < n) = true := by simp; omega
            have d2b : decide (n < 2049) = true := by simp; omega
            clear c1 c2 c3
            have hadd := add_head Tryd.prog ⟨#[49, 49, 49, 48]⟩ (BitMath.headOf 3) (BitMath.bitsOf (BitMath.u64 (n + 2047)) 12) rfl (by rw [BitMath.length_bitsOf]; decide)
            have hbt := fun w0 => bits_any (BitMath.u64 (n + 2047)) 12 w0 (by have := BitMath.u64_lt (n + 2047); omega) (by omega) (by omega)
            have HB := (show Hid _ from hbt)
            have hc := u64_cast (n + 2047)
            have HWV := (show Hid _ from hw)
            clear hbt hw hf hz
            go_enter Tryd.func29, Tryd.ntmps29
            go_wp2_with fail
            refine Calls.mono (HB.out _) ?_
            rintro e w1 ⟨rfl, hb1⟩
            go_wp2
            go_ret
            refine ⟨?_, hb1⟩
            rw [HWV.out]
            rfl
        · skip
          have hf : BitMath.formOf n = 4 := by unfold BitMath.formOf; rw [if_neg hz, if_neg c1, if_neg c2, if_neg c3]
          by_cases hneg : n < 0
          · have hw := wave_form n 4 hf
            have d0a : decide (-64 < n) = false := by simp; omega
            have d1a : decide (-256 < n) = false := by simp; omega
            have d2a : decide (-2048 < n) = false := by simp; omega
            clear c1 c2 c3
            have hadd := add_head Tryd.prog ⟨#[49, 49, 49, 49]⟩ (BitMath.headOf 4) (BitMath.bitsOf (BitMath.u64 n) 64) rfl (by rw [BitMath.length_bitsOf]; decide)
            have hbt := fun w0 => bits_any (BitMath.u64 n) 64 w0 (by have := BitMath.u64_lt n; omega) (by omega) (by omega)
            have HB := (show Hid _ from hbt)
            have hc := u64_cast n
            have HWV := (show Hid _ from hw)
            clear hbt hw hf hz
            go_enter Tryd.func29, Tryd.ntmps29
            go_wp2_with fail
            refine Calls.mono (HB.out _) ?_
            rintro e w1 ⟨rfl, hb1⟩
            go_wp2
            go_ret
            refine ⟨?_, hb1⟩
            rw [HWV.out]
            rw [show n + BitMath.biasOf 4 = n from by simp [BitMath.biasOf]]
            rfl
          · have hw := wave_form n 4 hf
            have d0a : decide (-64 < n) = true := by simp; omega
            have d0b : decide (n < 65) = false := by simp; omega
            have d1a : decide (-256 < n) = true := by simp; omega
            have d1b : decide (n < 257) = false := by simp; omega
            have d2a : decide (-2048 < n) = true := by simp; omega
            have d2b : decide (n < 2049) = false := by simp; omega
            clear c1 c2 c3
            have hadd := add_head Tryd.prog ⟨#[49, 49, 49, 49]⟩ (BitMath.headOf 4) (BitMath.bitsOf (BitMath.u64 n) 64) rfl (by rw [BitMath.length_bitsOf]; decide)
            have hbt := fun w0 => bits_any (BitMath.u64 n) 64 w0 (by have := BitMath.u64_lt n; omega) (by omega) (by omega)
            have HB := (show Hid _ from hbt)
            have hc := u64_cast n
            have HWV := (show Hid _ from hw)
            clear hbt hw hf hz
            go_enter Tryd.func29, Tryd.ntmps29
            go_wp2_with fail
            refine Calls.mono (HB.out _) ?_
            rintro e w1 ⟨rfl, hb1⟩
            go_wp2
            go_ret
            refine ⟨?_, hb1⟩
            rw [HWV.out]
            rw [show n + BitMath.biasOf 4 = n from by simp [BitMath.biasOf]]
            rfl
end Go.Proofs.YtgdflopgdlpimaaDoor
