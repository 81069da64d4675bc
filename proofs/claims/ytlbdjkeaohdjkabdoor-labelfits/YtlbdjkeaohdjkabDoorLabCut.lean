/- strings.Cut at a separator of one byte, by its contract. -/
import Derived.Test.YtlbdjkeaohdjkabDoorRefLabOf
import Derived.Lib.Bytealg
import Derived.Lib.Strings
import Derived.Laws.Externs
namespace LabMath

/-- What stands ahead of the first c, and behind it. -/
def cutL (c : UInt8) : List UInt8 → List UInt8 × List UInt8 × Bool
  | [] => ([], [], false)
  | b :: r => if (b == c) = true then ([], r, true) else (b :: (cutL c r).1, (cutL c r).2.1, (cutL c r).2.2)
end LabMath
namespace Go.Proofs.YtlbdjkeaohdjkabDoor
open Go.RowKit LabMath

theorem ext_take (s : ByteArray) (i : Nat) : s.extract 0 i = txt (s.data.toList.take i) := by
  apply ByteArray.ext
  apply Array.ext'
  rw [Lib.extract_data]
  simp [txt]
theorem ext_drop (s : ByteArray) (i : Nat) : s.extract i s.size = txt (s.data.toList.drop i) := by
  apply ByteArray.ext
  apply Array.ext'
  rw [Lib.extract_data, List.take_of_length_le (by rw [List.length_drop, Array.length_toList]; exact Nat.le_refl _)]
  rfl
theorem cutL_index (c : UInt8) : ∀ l : List UInt8, (Lib.indexByte l c = -1 ∧ cutL c l = (l, [], false)) ∨ ∃ i : Nat, Lib.indexByte l c = (i : Int) ∧ i < l.length ∧ cutL c l = (l.take i, l.drop (i + 1), true)
  | [] => .inl ⟨rfl, rfl⟩
  | b :: r => by
    unfold Lib.indexByte cutL
    cases hb : b == c with
    | true => exact .inr ⟨0, by simp, by simp, by simp⟩
    | false =>
      rcases cutL_index c r with ⟨h1, h2⟩ | ⟨i, h1, h2, h3⟩
      · refine .inl ⟨by simp [h1], by simp [h2]⟩
      · refine .inr ⟨i + 1, ?_, by simp; omega, by simp [h3]⟩
        have : ((Lib.indexByte r c) == (-1 : Int)) = false := by rw [h1, beq_eq_false_iff_ne]; omega
        rw [h1] at this ⊢
        rw [this]
        simp

set_option maxRecDepth 1000000 in
theorem slIndexByte_any (s : ByteArray) (c : Nat) (w : World) :
    Calls Tryd.prog 153 #[.string s, .int .u8 (c : Int)] w fun e w' => e = .returned (.int .i64 (Lib.indexByte s.data.toList c.toUInt8)) ∧ w' = w := by
  have hc := @run_callFunc_extern Tryd.prog 169 _ Extern.BytealgIndexByte.indexByte Tryd.func169 (by kernel_rfl) (by kernel_rfl) (by kernel_rfl) (by kernel_rfl)
  have HC := (show Hid _ from hc)
  clear hc
  go_enter Tryd.func153, Tryd.ntmps153
  go_wp2
  rw [HC.out, Lib.run_indexByteString]
  simp only [Result.andThen]
  rw [Oper.upon_value]
  go_wp2
  go_ret
  exact ⟨rfl, rfl⟩

set_option maxRecDepth 1000000 in
theorem slIndex_44 (s : ByteArray) (w : World) :
    Calls Tryd.prog 128 #[.string s, .string ⟨#[44]⟩] w fun e w' => e = .returned (.int .i64 (Lib.indexByte s.data.toList 44)) ∧ w' = w := by
  have HI : Hid (Calls Tryd.prog 153 #[.string s, .int .u8 44] w fun e w' => e = .returned (.int .i64 (Lib.indexByte s.data.toList 44)) ∧ w' = w) := slIndexByte_any s 44 w
  cases hq : ([(44 : UInt8)] == s.toList) with
  | true =>
    have HD : Hid (Lib.indexByte s.data.toList 44 = 0) := by
      show _ = _
      have e : [(44 : UInt8)] = s.toList := by simpa using hq
      rw [ByteArray.toList_eq] at e
      rw [← e]
      rfl
    go_enter Tryd.func128, Tryd.ntmps128
    go_wp2
    go_ret
    exact ⟨by rw [HD.out]; rfl, rfl⟩
  | false =>
    go_enter Tryd.func128, Tryd.ntmps128
    go_wp2_with fail
    refine Calls.mono HI.out ?_
    rintro e w1 ⟨rfl, hw1⟩
    have hw1' := hw1.symm
    subst hw1'
    go_wp2
    go_ret
    exact ⟨rfl, rfl⟩

set_option maxRecDepth 1000000 in
theorem slCut_44 (s : ByteArray) (w : World) (hs : s.size ≤ 1000000) :
    Calls Tryd.prog 97 #[.string s, .string ⟨#[44]⟩] w fun e w' => e = .returned (.tuple #[.string (txt (cutL 44 s.data.toList).1), .string (txt (cutL 44 s.data.toList).2.1), .bool (cutL 44 s.data.toList).2.2]) ∧ ∃ q, w' = w.drewN q := by
  have hI := slIndex_44 s w
  rcases cutL_index 44 s.data.toList with ⟨h1, h2⟩ | ⟨i, h1, h2, h3⟩
  · rw [h1] at hI
    rw [h2]
    have HI := (show Hid _ from hI)
    clear hI h1 h2
    go_enter Tryd.func97, Tryd.ntmps97
    go_wp2_with fail
    refine Calls.mono HI.out ?_
    rintro e w1 ⟨rfl, hw1⟩
    have hw1' := hw1.symm
    subst hw1'
    go_wp2
    go_ret3
    exact ⟨rfl, 0, rfl⟩
  · rw [h1] at hI
    rw [h3]
    have hl : s.data.toList.length = s.size := Array.length_toList
    have HI := (show Hid _ from hI)
    have c0 : (0 : Int) ≤ (i : Int) := by omega
    have c1 : (i : Int) ≤ (s.size : Int) := by omega
    have c2 : (0 : Int) ≤ (i : Int) + 1 := by omega
    have c3 : (i : Int) + 1 ≤ (s.size : Int) := by omega
    have E1 : Hid (s.extract 0 i = txt (s.data.toList.take i)) := ext_take s i
    have E2 : Hid (s.extract (i + 1) s.size = txt (s.data.toList.drop (i + 1))) := ext_drop s (i + 1)
    clear hI h1 h3 hl
    go_enter Tryd.func97, Tryd.ntmps97
    go_wp2_with fail
    refine Calls.mono HI.out ?_
    rintro e w1 ⟨rfl, hw1⟩
    have hw1' := hw1.symm
    subst hw1'
    go_wp2_with fail
    go_quiet (fail)
    go_wp2
    go_ret3
    refine ⟨?_, _, rfl⟩
    rw [← E1.out, ← E2.out]
    rfl

set_option maxRecDepth 1000000 in
theorem sCut_44 (s : ByteArray) (w : World) (hs : s.size ≤ 1000000) :
    Calls Tryd.prog 62 #[.string s, .string ⟨#[44]⟩] w fun e w' => e = .returned (.tuple #[.string (txt (cutL 44 s.data.toList).1), .string (txt (cutL 44 s.data.toList).2.1), .bool (cutL 44 s.data.toList).2.2]) ∧ ∃ q, w' = w.drewN q := by
  have HC : Hid _ := slCut_44 s w hs
  go_enter Tryd.func62, Tryd.ntmps62
  go_wp2_with fail
  refine Calls.mono HC.out ?_
  rintro e w1 ⟨rfl, q, hw1⟩
  have hw1' := hw1
  subst hw1'
  go_wp2
  go_ret3
  exact ⟨rfl, q, rfl⟩

set_option maxRecDepth 1000000 in
theorem slIndex_61 (s : ByteArray) (w : World) :
    Calls Tryd.prog 128 #[.string s, .string ⟨#[61]⟩] w fun e w' => e = .returned (.int .i64 (Lib.indexByte s.data.toList 61)) ∧ w' = w := by
  have HI : Hid (Calls Tryd.prog 153 #[.string s, .int .u8 61] w fun e w' => e = .returned (.int .i64 (Lib.indexByte s.data.toList 61)) ∧ w' = w) := slIndexByte_any s 61 w
  cases hq : ([(61 : UInt8)] == s.toList) with
  | true =>
    have HD : Hid (Lib.indexByte s.data.toList 61 = 0) := by
      show _ = _
      have e : [(61 : UInt8)] = s.toList := by simpa using hq
      rw [ByteArray.toList_eq] at e
      rw [← e]
      rfl
    go_enter Tryd.func128, Tryd.ntmps128
    go_wp2
    go_ret
    exact ⟨by rw [HD.out]; rfl, rfl⟩
  | false =>
    go_enter Tryd.func128, Tryd.ntmps128
    go_wp2_with fail
    refine Calls.mono HI.out ?_
    rintro e w1 ⟨rfl, hw1⟩
    have hw1' := hw1.symm
    subst hw1'
    go_wp2
    go_ret
    exact ⟨rfl, rfl⟩

set_option maxRecDepth 1000000 in
theorem slCut_61 (s : ByteArray) (w : World) (hs : s.size ≤ 1000000) :
    Calls Tryd.prog 97 #[.string s, .string ⟨#[61]⟩] w fun e w' => e = .returned (.tuple #[.string (txt (cutL 61 s.data.toList).1), .string (txt (cutL 61 s.data.toList).2.1), .bool (cutL 61 s.data.toList).2.2]) ∧ ∃ q, w' = w.drewN q := by
  have hI := slIndex_61 s w
  rcases cutL_index 61 s.data.toList with ⟨h1, h2⟩ | ⟨i, h1, h2, h3⟩
  · rw [h1] at hI
    rw [h2]
    have HI := (show Hid _ from hI)
    clear hI h1 h2
    go_enter Tryd.func97, Tryd.ntmps97
    go_wp2_with fail
    refine Calls.mono HI.out ?_
    rintro e w1 ⟨rfl, hw1⟩
    have hw1' := hw1.symm
    subst hw1'
    go_wp2
    go_ret3
    exact ⟨rfl, 0, rfl⟩
  · rw [h1] at hI
    rw [h3]
    have hl : s.data.toList.length = s.size := Array.length_toList
    have HI := (show Hid _ from hI)
    have c0 : (0 : Int) ≤ (i : Int) := by omega
    have c1 : (i : Int) ≤ (s.size : Int) := by omega
    have c2 : (0 : Int) ≤ (i : Int) + 1 := by omega
    have c3 : (i : Int) + 1 ≤ (s.size : Int) := by omega
    have E1 : Hid (s.extract 0 i = txt (s.data.toList.take i)) := ext_take s i
    have E2 : Hid (s.extract (i + 1) s.size = txt (s.data.toList.drop (i + 1))) := ext_drop s (i + 1)
    clear hI h1 h3 hl
    go_enter Tryd.func97, Tryd.ntmps97
    go_wp2_with fail
    refine Calls.mono HI.out ?_
    rintro e w1 ⟨rfl, hw1⟩
    have hw1' := hw1.symm
    subst hw1'
    go_wp2_with fail
    go_quiet (fail)
    go_wp2
    go_ret3
    refine ⟨?_, _, rfl⟩
    rw [← E1.out, ← E2.out]
    rfl

set_option maxRecDepth 1000000 in
theorem sCut_61 (s : ByteArray) (w : World) (hs : s.size ≤ 1000000) :
    Calls Tryd.prog 62 #[.string s, .string ⟨#[61]⟩] w fun e w' => e = .returned (.tuple #[.string (txt (cutL 61 s.data.toList).1), .string (txt (cutL 61 s.data.toList).2.1), .bool (cutL 61 s.data.toList).2.2]) ∧ ∃ q, w' = w.drewN q := by
  have HC : Hid _ := slCut_61 s w hs
  go_enter Tryd.func62, Tryd.ntmps62
  go_wp2_with fail
  refine Calls.mono HC.out ?_
  rintro e w1 ⟨rfl, q, hw1⟩
  have hw1' := hw1
  subst hw1'
  go_wp2
  go_ret3
  exact ⟨rfl, q, rfl⟩

end Go.Proofs.YtlbdjkeaohdjkabDoor
