/- The library's contracts for math/bits at this program: layings alone. -/
import Derived.Shelf.Small.Bits
import Derived.Shelf.Strconv.Itoa0
import Derived.Shelf.Spec.TrailingZeros
import Derived.Test.YtplfnblpmagbjabDoorProg
import Derived.Test.YtplfnblpmagbjabDoorMaskMathGroup
namespace Go.Proofs.YtplfnblpmagbjabDoor
open Go.Shelf
def Tryd.lays134_ren : Go.Shelf.Ren := ⟨fun | 134 => 179 | 129 => 168 | n => n, fun | 53 => 22 | 3 => 3 | 4 => 4 | 46 => 173 | 5 => 5 | 9 => 9 | n => n, fun | n => n⟩
theorem Tryd.lays134 : Go.Proofs.Lays.n134 Tryd.prog Tryd.lays134_ren := {
  mixed := by kernel_rfl
  f129 := Tryd.func168.trans (congrArg some (by kernel_rfl))
  f134 := Tryd.func179.trans (congrArg some (by kernel_rfl))
  t3 := Tryd.underlying3
  a3 := Tryd.isAgg3
  z3 := Tryd.sizeOf3
  v3 := Tryd.zeroValue3
  t4 := Tryd.underlying4
  a4 := Tryd.isAgg4
  z4 := Tryd.sizeOf4
  v4 := Tryd.zeroValue4
  t5 := Tryd.underlying5
  a5 := Tryd.isAgg5
  z5 := Tryd.sizeOf5
  v5 := Tryd.zeroValue5
  t9 := Tryd.underlying9
  a9 := Tryd.isAgg9
  z9 := Tryd.sizeOf9
  v9 := Tryd.zeroValue9
  t46 := Tryd.underlying173
  a46 := Tryd.isAgg173
  z46 := Tryd.sizeOf173
  v46 := Tryd.zeroValue173
  t53 := Tryd.underlying22
  a53 := Tryd.isAgg22
  z53 := Tryd.sizeOf22
  v53 := Tryd.zeroValue22 }
def Tryd.lays729_ren : Go.Shelf.Ren := ⟨fun | 29 => 180 | n => n, fun | 22 => 22 | 3 => 3 | 4 => 4 | 25 => 173 | 54 => 293 | 0 => 0 | 5 => 5 | n => n, fun | 1 => 14 | n => n⟩
theorem Tryd.lays729 : Go.Proofs.Lays7.n29 Tryd.prog Tryd.lays729_ren := {
  mixed := by kernel_rfl
  f29 := Tryd.func180.trans (congrArg some (by kernel_rfl))
  t0 := Tryd.underlying0
  a0 := Tryd.isAgg0
  z0 := Tryd.sizeOf0
  v0 := Tryd.zeroValue0
  i0 := by kernel_rfl
  t3 := Tryd.underlying3
  a3 := Tryd.isAgg3
  z3 := Tryd.sizeOf3
  v3 := Tryd.zeroValue3
  i3 := by kernel_rfl
  t4 := Tryd.underlying4
  a4 := Tryd.isAgg4
  z4 := Tryd.sizeOf4
  v4 := Tryd.zeroValue4
  i4 := by kernel_rfl
  t5 := Tryd.underlying5
  a5 := Tryd.isAgg5
  z5 := Tryd.sizeOf5
  v5 := Tryd.zeroValue5
  i5 := by kernel_rfl
  t22 := Tryd.underlying22
  a22 := Tryd.isAgg22
  z22 := Tryd.sizeOf22
  v22 := Tryd.zeroValue22
  i22 := by kernel_rfl
  t25 := Tryd.underlying173
  a25 := Tryd.isAgg173
  z25 := Tryd.sizeOf173
  v25 := Tryd.zeroValue173
  i25 := by kernel_rfl
  t54 := Tryd.underlying293
  a54 := Tryd.isAgg293
  z54 := Tryd.sizeOf293
  g1 := by kernel_rfl }
end Go.Proofs.YtplfnblpmagbjabDoor
/- How many bits are 0 at a value's head, and at its end: math/bits by contracts. -/
namespace BitMath

theorem lz_len (x : Nat) (hx : x < 2 ^ 64) : ∀ n, n ≤ 64 → x < 2 ^ n → lz (bitsOf x n) + Go.Lib.bitLen x = n
  | 0, _, h => by
    have : x = 0 := by simpa using h
    subst this
    rfl
  | n + 1, hn, h => by
    by_cases hb : x < 2 ^ n
    · have ih := lz_len x hx n (by omega) hb
      have ht : x.testBit n = false := Nat.testBit_lt_two_pow hb
      simp only [bitsOf, ht, lz]
      omega
    · have hb' : 2 ^ n ≤ x := by omega
      have ht : x.testBit n = true := by
        rw [Nat.testBit_eq_decide_div_mod_eq]
        have h1 : x / 2 ^ n = 1 := by
          rw [Nat.pow_succ] at h
          apply Nat.div_eq_of_lt_le
          · omega
          · omega
        rw [h1]
        rfl
      have h1 : x / 2 ^ n = 1 := by
        rw [Nat.pow_succ] at h
        apply Nat.div_eq_of_lt_le
        · omega
        · omega
      have hs := Go.Lib.bitLen_shift n x hb' hx
      rw [h1] at hs
      simp only [bitsOf, ht, lz]
      have : Go.Lib.bitLen 1 = 1 := by rfl
      omega
theorem lz_ctz (x : Nat) (hx : x < 2 ^ 64) (h0 : x ≠ 0) : Go.Lib.ctz 64 x = mTail x := by
  obtain ⟨m, hm, hk⟩ := Go.Lib.ctzFrom_spec 64 x (by omega) hx
  have e : Go.Lib.ctz 64 x = Go.Lib.ctzFrom 64 x := by simp [Go.Lib.ctz, h0]
  rw [e]
  generalize Go.Lib.ctzFrom 64 x = c at hm hk
  have hl := length_bitsOf x 64
  have hat : ∀ i, i < 64 → (bitsOf x 64).reverse[i]? = some (x.testBit i) := by
    intro i hi
    rw [List.getElem?_reverse (by omega), hl, List.getElem?_eq_getElem (by omega), getElem_bitsOf, show 64 - 1 - (64 - 1 - i) = i by omega]
  symm
  unfold mTail
  apply lz_eq
  · intro i hi
    rw [hat i (by omega), hm, Nat.testBit_two_pow_mul]
    simp
    intro h
    omega
  · rw [hat c hk, hm, Nat.testBit_two_pow_mul]
    simp
end BitMath
namespace Go.Proofs.YtplfnblpmagbjabDoor
open Go.Shelf Go.RowKit

/-- The library's table, as its initialiser lays it. -/
def Tab (w : World) : Prop := TabAt 14 Lib.deBruijn64tab w
theorem Tab.below {w w' : World} (h : Tab w) {B : Nat} (hb : Below B w w') (hB : 14 < B) : Tab w' := fun i hi => (hb.cell (p := ⟨14, i, none⟩) hB).trans (h i hi)
theorem Tab.lt {w : World} (h : Tab w) : 14 < w.heap.size := World.block_lt_of_cell? w ⟨14, 0, none⟩ (h 0 (by decide))

theorem lead_any (x : Nat) (w : World) (hx : x < 18446744073709551616) :
    Calls Tryd.prog 179 #[.int .u64 (x : Int)] w fun e w' => e = .returned (.int .i64 ((BitMath.lz (BitMath.bitsOf x 64) : Nat) : Int)) ∧ w' = w := by
  refine (show Calls Tryd.prog 179 #[.int .u64 (x : Int)] w _ from Any.bits_LeadingZeros64 Tryd.lays134 (x : Int) w (by omega) (by omega)).mono ?_
  rintro e w' ⟨rfl, hw⟩
  refine ⟨?_, hw⟩
  have h := BitMath.lz_len x hx 64 (Nat.le_refl _) hx
  have e : (64 : Int) - (Lib.bitLen ((x : Int)).toNat : Int) = ((BitMath.lz (BitMath.bitsOf x 64) : Nat) : Int) := by
    rw [Int.toNat_natCast]
    omega
  rw [e]
theorem tail_zeros (x : Nat) (w : World) (hx : x < 18446744073709551616) (h0 : x ≠ 0) (hT : Tab w) :
    Calls Tryd.prog 180 #[.int .u64 (x : Int)] w fun e w' => e = .returned (.int .i64 ((BitMath.mTail x : Nat) : Int)) ∧ w' = w := by
  refine (show Calls Tryd.prog 180 #[.int .u64 (x : Int)] w _ from Any7.bits_TrailingZeros64 Tryd.lays729 x hx w (fun _ => hT)).mono ?_
  rintro e w' ⟨rfl, hw⟩
  exact ⟨by rw [BitMath.lz_ctz x hx h0], hw⟩
end Go.Proofs.YtplfnblpmagbjabDoor
