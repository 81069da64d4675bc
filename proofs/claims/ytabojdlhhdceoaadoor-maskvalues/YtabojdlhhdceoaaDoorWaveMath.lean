/- Plain mathematics of waves: a number's bits, and a number of bits. Nothing of Go. -/
import Derived.Test.YtabojdlhhdceoaaDoorBitMath3
namespace BitMath

/-- A whole number as 64 bits. -/
def u64 (n : Int) : Nat := (n % 18446744073709551616).toNat
theorem u64_lt (n : Int) : u64 n < 18446744073709551616 := by unfold u64; omega
/-- The form of a number: how many ones are ahead. -/
def formOf (n : Int) : Nat := if n = 0 then 0 else if -64 < n ∧ n < 65 then 1 else if -256 < n ∧ n < 257 then 2 else if -2048 < n ∧ n < 2049 then 3 else 4
def headOf : Nat → List Bool
  | 0 => [false]
  | 1 => [true, false]
  | 2 => [true, true, false]
  | 3 => [true, true, true, false]
  | _ => [true, true, true, true]
def wideOf : Nat → Nat
  | 0 => 0
  | 1 => 7
  | 2 => 9
  | 3 => 12
  | _ => 64
def biasOf : Nat → Int
  | 1 => 63
  | 2 => 255
  | 3 => 2047
  | _ => 0
/-- A number in a wave. -/
def waveOf (n : Int) : List Bool := headOf (formOf n) ++ bitsOf (u64 (n + biasOf (formOf n))) (wideOf (formOf n))
theorem formOf_le (n : Int) : formOf n ≤ 4 := by unfold formOf; split <;> (try split) <;> (try split) <;> (try split) <;> omega
theorem length_headOf (k : Nat) : (headOf k).length = if k < 4 then k + 1 else 4 := by
  match k with
  | 0 => rfl
  | 1 => rfl
  | 2 => rfl
  | 3 => rfl
  | k + 4 => rw [if_neg (by omega)]; rfl
theorem length_waveOf (n : Int) : (waveOf n).length = (headOf (formOf n)).length + wideOf (formOf n) := by rw [waveOf, List.length_append, length_bitsOf]
theorem length_waveOf_le (n : Int) : (waveOf n).length ≤ 68 := by
  rw [length_waveOf]
  have := formOf_le n
  match h : formOf n with
  | 0 => simp [headOf, wideOf]
  | 1 => simp [headOf, wideOf]
  | 2 => simp [headOf, wideOf]
  | 3 => simp [headOf, wideOf]
  | k + 4 =>
    have : k = 0 := by omega
    subst this
    simp [headOf, wideOf]

/-- How many ones are ahead, up to four. -/
def onesOf : List Bool → Nat → Nat
  | true :: r, f + 1 => onesOf r f + 1
  | _, _ => 0
theorem onesOf_le : ∀ (bs : List Bool) (f : Nat), onesOf bs f ≤ f
  | _, 0 => by cases ‹List Bool› with | nil => simp [onesOf] | cons a r => cases a <;> simp [onesOf]
  | [], f + 1 => by simp [onesOf]
  | true :: r, f + 1 => by simp [onesOf]; exact onesOf_le r f
  | false :: r, f + 1 => by simp [onesOf]

/-- What the bits from here on say: an error's number, the number, how many bits. -/
def unwave (bs : List Bool) : Nat × Int × Nat :=
  let o := onesOf bs 4
  let h := if o < 4 then o + 1 else 4
  if bs.length < h ∨ bs.length < h + wideOf o then (5, 0, 0)
  else
    let v := valB ((bs.drop h).take (wideOf o))
    let n : Int := if o = 4 then (if v < 9223372036854775808 then (v : Int) else (v : Int) - 18446744073709551616) else (v : Int) - biasOf o
    if waveOf n = bs.take (h + wideOf o) then (0, n, h + wideOf o) else (1, 0, 0)

theorem onesOf_eq : ∀ (f : Nat) (bs : List Bool) (o : Nat), o ≤ f → (∀ j, j < o → bs[j]? = some true) → (o < f → bs.getD o false = false) → onesOf bs f = o
  | 0, bs, o, h, _, _ => by
    have : o = 0 := by omega
    subst this
    have := onesOf_le bs 0
    omega
  | f + 1, [], o, h, h1, h2 => by
    match o with
    | 0 => rfl
    | o + 1 => have := h1 0 (by omega); simp at this
  | f + 1, b :: r, 0, h, h1, h2 => by
    have := h2 (by omega)
    simp at this
    subst this
    rfl
  | f + 1, b :: r, o + 1, h, h1, h2 => by
    have h0 := h1 0 (by omega)
    simp at h0
    subst h0
    simp only [onesOf]
    rw [onesOf_eq f r o (by omega) (fun j hj => by simpa using h1 (j + 1) (by omega)) (fun ho => by simpa using h2 (by omega))]

/-- The number that v is in form o. -/
def numOf (o v : Nat) : Int := if o = 4 then (if v < 9223372036854775808 then (v : Int) else (v : Int) - 18446744073709551616) else (v : Int) - biasOf o
theorem unwave_short (D : List Bool) (o h : Nat) (ho : onesOf D 4 = o) (hh : h = if o < 4 then o + 1 else 4) (hl : D.length < h + wideOf o) : unwave D = (5, 0, 0) := by
  subst ho hh
  unfold unwave
  simp only
  rw [if_pos (.inr hl)]
theorem unwave_long (D : List Bool) (o h : Nat) (ho : onesOf D 4 = o) (hh : h = if o < 4 then o + 1 else 4) (hl : h + wideOf o ≤ D.length) (v : Nat) (hv : v = valB ((D.drop h).take (wideOf o))) :
    unwave D = if waveOf (numOf o v) = D.take (h + wideOf o) then (0, numOf o v, h + wideOf o) else (1, 0, 0) := by
  subst ho hh hv
  unfold unwave numOf
  simp only
  rw [if_neg (by omega)]
end BitMath
