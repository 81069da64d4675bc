/- strings.Cut at a separator of one byte, by its contract. -/
import Derived.Test.YtdlceolmpcjjiaaGreatDoorRows1Group
import Derived.Lib.Bytealg
import Derived.Lib.Strings
import Derived.Laws.Externs
namespace LabMath

/-- What stands ahead of the first c, and behind it. -/
def cutL (c : UInt8) : List UInt8 → List UInt8 × List UInt8 × Bool
  | [] => ([], [], false)
  | b :: r => if (b == c) = true then ([], r, true) else (b :: (cutL c r).1, (cutL c r).2.1, (cutL c r).2.2)
end LabMath
namespace Go.Proofs.YtdlceolmpcjjiaaGreatDoor
open Go.RowKit LabMath

theorem ext_take (s : ByteArray) (i : Nat) : s.extract 0 i = txt (s.data.toList.take i) := by
  apply ByteArray.ext
  apply Array.ext'
  rw [Lib.extract_data]
  simp [txt]
theorem ext_drop (s : ByteArray) (i : Nat) : s.extract i s.size = txt (s.data.toList.drop i) := by
  apply ByteArray.ext
  apply Array.ext'
  rw [Lib.extract_data, List.take_of_length_le (by rw [List.length_drop, Array.length_toList]; exact Nat.le_refl _)]
  rfl
theorem cutL_index (c : UInt8) : ∀ l : List UInt8, (Lib.indexByte l c = -1 ∧ cutL c l = (l, [], false)) ∨ ∃ i : Nat, Lib.indexByte l c = (i : Int) ∧ i < l.length ∧ cutL c l = (l.take i, l.drop (i + 1), true)
  | [] => .inl ⟨rfl, rfl⟩
  | b :: r => by
    unfold Lib.indexByte cutL
    cases hb : b == c with
    | true => exact .inr ⟨0, by simp, by simp, by simp⟩
    | false =>
      rcases cutL_index c r with ⟨h1, h2⟩ | ⟨i, h1, h2, h3⟩
      · refine .inl ⟨by simp [h1], by simp [h2]⟩
      · refine .inr ⟨i + 1, ?_, by simp; omega, by simp [h3]⟩
        have : ((Lib.indexByte r c) == (-1 : Int)) = false := by rw [h1, beq_eq_false_iff_ne]; omega
        rw [h1] at this ⊢
        rw [this]
        simp

set_option maxRecDepth 1000000 in
theorem slIndexByte_any (s : ByteArray) (c : Nat) (w : World) :
    Calls Tryz.prog 141 #[.string s, .int .u8 (c : Int)] w fun e w' => e = .returned (.int .i64 (Lib.indexByte s.data.toList c.toUInt8)) ∧ w' = w := by
  have hc := @run_callFunc_extern Tryz.prog 183 _ Extern.BytealgIndexByte.indexByte Tryz.func183 (by kernel_rfl) (by kernel_rfl) (by kernel_rfl) (by kernel_rfl)
  have HC := (show Hid _ from hc)
  clear hc
  go_enter Tryz.func141, Tryz.ntmps141
  go_wp2
  rw [HC.out, Lib.run_indexByteString]
  simp only [Result.andThen]
  rw [Oper.upon_value]
  go_wp2
  go_ret
  exact ⟨rfl, rfl⟩

set_option maxRecDepth 1000000 in
theorem slIndex_44 (s : ByteArray) (w : World) :
    Calls Tryz.prog 115 #[.string s, .string ⟨#[44]⟩] w fun e w' => e = .returned (.int .i64 (Lib.indexByte s.data.toList 44)) ∧ w' = w := by
  have HI : Hid (Calls Tryz.prog 141 #[.string s, .int .u8 44] w fun e w' => e = .returned (.int .i64 (Lib.indexByte s.data.toList 44)) ∧ w' = w) := slIndexByte_any s 44 w
  cases hq : ([(44 : UInt8)] == s.toList) with
  | true =>
    have HD : Hid (Lib.indexByte s.data.toList 44 = 0) := by
      show _ = _
      have e : [(44 : UInt8)] = s.toList := by simpa using hq
      rw [ByteArray.toList_eq] at e
      rw [← e]
      rfl
    go_enter Tryz.func115, Tryz.ntmps115
    go_wp2
    go_ret
    exact ⟨by rw [HD.out]; rfl, rfl⟩
  | false =>
    go_enter Tryz.func115, Tryz.ntmps115
    go_wp2_with fail
    refine Calls.mono HI.out ?_
    rintro e w1 ⟨rfl, hw1⟩
    have hw1' := hw1.symm
    subst hw1'
    go_wp2
    go_ret
    exact ⟨rfl, rfl⟩

set_option maxRecDepth 1000000 in
theorem slCut_44 (s : ByteArray) (w : World) (hs : s.size ≤ 1000000) :
    Calls Tryz.prog 87 #[.string s, .string ⟨#[44]⟩] w fun e w' => e = .returned (.tuple #[.string (txt (cutL 44 s.data.toList).1), .string (txt (cutL 44 s.data.toList).2.1), .bool (cutL 44 s.data.toList).2.2]) ∧ ∃ q, w' = w.drewN q := by
  have hI := slIndex_44 s w
  rcases cutL_index 44 s.data.toList with ⟨h1, h2⟩ | ⟨i, h1, h2, h3⟩
  · rw [h1] at hI
    rw [h2]
    have HI := (show Hid _ from hI)
    clear hI h1 h2
    go_enter Tryz.func87, Tryz.ntmps87
    go_wp2_with fail
    refine Calls.mono HI.out ?_
    rintro e w1 ⟨rfl, hw1⟩
    have hw1' := hw1.symm
    subst hw1'
    go_wp2
    go_ret3
    exact ⟨rfl, 0, rfl⟩
  · rw [h1] at hI
    rw [h3]
    have hl : s.data.toList.length = s.size := Array.length_toList
    have HI := (show Hid _ from hI)
    have c0 : (0 : Int) ≤ (i : Int) := by omega
    have c1 : (i : Int) ≤ (s.size : Int) := by omega
    have c2 : (0 : Int) ≤ (i : Int) + 1 := by omega
    have c3 : (i : Int) + 1 ≤ (s.size : Int) := by omega
    have E1 : Hid (s.extract 0 i = txt (s.data.toList.take i)) := ext_take s i
    have E2 : Hid (s.extract (i + 1) s.size = txt (s.data.toList.drop (i + 1))) := ext_drop s (i + 1)
    clear hI h1 h3 hl
    go_enter Tryz.func87, Tryz.ntmps87
    go_wp2_with fail
    refine Calls.mono HI.out ?_
    rintro e w1 ⟨rfl, hw1⟩
    have hw1' := hw1.symm
    subst hw1'
    go_wp2_with fail
    go_quiet (fail)
    go_wp2
    go_ret3
    refine ⟨?_, _, rfl⟩
    rw [← E1.out, ← E2.out]
    rfl

set_option maxRecDepth 1000000 in
theorem sCut_44 (s : ByteArray) (w : World) (hs : s.size ≤ 1000000) :
    Calls Tryz.prog 62 #[.string s, .string ⟨#[44]⟩] w fun e w' => e = .returned (.tuple #[.string (txt (cutL 44 s.data.toList).1), .string (txt (cutL 44 s.data.toList).2.1), .bool (cutL 44 s.data.toList).2.2]) ∧ ∃ q, w' = w.drewN q := by
  have HC : Hid _ := slCut_44 s w hs
  go_enter Tryz.func62, Tryz.ntmps62
  go_wp2_with fail
  refine Calls.mono HC.out ?_
  rintro e w1 ⟨rfl, q, hw1⟩
  have hw1' := hw1
  subst hw1'
  go_wp2
  go_ret3
  exact ⟨rfl, q, rfl⟩

set_option maxRecDepth 1000000 in
theorem slIndex_61 (s : ByteArray) (w : World) :
    Calls Tryz.prog 115 #[.string s, .string ⟨#[61]⟩] w fun e w' => e = .returned (.int .i64 (Lib.indexByte s.data.toList 61)) ∧ w' = w := by
  have HI : Hid (Calls Tryz.prog 141 #[.string s, .int .u8 61] w fun e w' => e = .returned (.int .i64 (Lib.indexByte s.data.toList 61)) ∧ w' = w) := slIndexByte_any s 61 w
  cases hq : ([(61 : UInt8)] == s.toList) with
  | true =>
    have HD : Hid (Lib.indexByte s.data.toList 61 = 0) := by
      show _ = _
      have e : [(61 : UInt8)] = s.toList := by simpa using hq
      rw [ByteArray.toList_eq] at e
      rw [← e]
      rfl
    go_enter Tryz.func115, Tryz.ntmps115
    go_wp2
    go_ret
    exact ⟨by rw [HD.out]; rfl, rfl⟩
  | false =>
    go_enter Tryz.func115, Tryz.ntmps115
    go_wp2_with fail
    refine Calls.mono HI.out ?_
    rintro e w1 ⟨rfl, hw1⟩
    have hw1' := hw1.symm
    subst hw1'
    go_wp2
    go_ret
    exact ⟨rfl, rfl⟩

set_option maxRecDepth 1000000 in
theorem slCut_61 (s : ByteArray) (w : World) (hs : s.size ≤ 1000000) :
    Calls Tryz.prog 87 #[.string s, .string ⟨#[61]⟩] w fun e w' => e = .returned (.tuple #[.string (txt (cutL 61 s.data.toList).1), .string (txt (cutL 61 s.data.toList).2.1), .bool (cutL 61 s.data.toList).2.2]) ∧ ∃ q, w' = w.drewN q := by
  have hI := slIndex_61 s w
  rcases cutL_index 61 s.data.toList with ⟨h1, h2⟩ | ⟨i, h1, h2, h3⟩
  · rw [h1] at hI
    rw [h2]
    have HI := (show Hid _ from hI)
    clear hI h1 h2
    go_enter Tryz.func87, Tryz.ntmps87
    go_wp2_with fail
    refine Calls.mono HI.out ?_
    rintro e w1 ⟨rfl, hw1⟩
    have hw1' := hw1.symm
    subst hw1'
    go_wp2
    go_ret3
    exact ⟨rfl, 0, rfl⟩
  · rw [h1] at hI
    rw [h3]
    have hl : s.data.toList.length = s.size := Array.length_toList
    have HI := (show Hid _ from hI)
    have c0 : (0 : Int) ≤ (i : Int) := by omega
    have c1 : (i : Int) ≤ (s.size : Int) := by omega
    have c2 : (0 : Int) ≤ (i : Int) + 1 := by omega
    have c3 : (i : Int) + 1 ≤ (s.size : Int) := by omega
    have E1 : Hid (s.extract 0 i = txt (s.data.toList.take i)) := ext_take s i
    have E2 : Hid (s.extract (i + 1) s.size = txt (s.data.toList.drop (i + 1))) := ext_drop s (i + 1)
    clear hI h1 h3 hl
    go_enter Tryz.func87, Tryz.ntmps87
    go_wp2_with fail
    refine Calls.mono HI.out ?_
    rintro e w1 ⟨rfl, hw1⟩
    have hw1' := hw1.symm
    subst hw1'
    go_wp2_with fail
    go_quiet (fail)
    go_wp2
    go_ret3
    refine ⟨?_, _, rfl⟩
    rw [← E1.out, ← E2.out]
    rfl

set_option maxRecDepth 1000000 in
theorem sCut_61 (s : ByteArray) (w : World) (hs : s.size ≤ 1000000) :
    Calls Tryz.prog 62 #[.string s, .string ⟨#[61]⟩] w fun e w' => e = .returned (.tuple #[.string (txt (cutL 61 s.data.toList).1), .string (txt (cutL 61 s.data.toList).2.1), .bool (cutL 61 s.data.toList).2.2]) ∧ ∃ q, w' = w.drewN q := by
  have HC : Hid _ := slCut_61 s w hs
  go_enter Tryz.func62, Tryz.ntmps62
  go_wp2_with fail
  refine Calls.mono HC.out ?_
  rintro e w1 ⟨rfl, q, hw1⟩
  have hw1' := hw1
  subst hw1'
  go_wp2
  go_ret3
  exact ⟨rfl, q, rfl⟩

end Go.Proofs.YtdlceolmpcjjiaaGreatDoor
/- What is read part by part is what is read sign by sign: mathematics. -/
namespace LabMath

theorem cutL_yes (c : UInt8) : ∀ l : List UInt8, (cutL c l).2.2 = true → l = (cutL c l).1 ++ c :: (cutL c l).2.1 ∧ ∀ x, x ∈ (cutL c l).1 → x ≠ c
  | [], h => by simp [cutL] at h
  | b :: r, h => by
    unfold cutL at h ⊢
    by_cases hb : (b == c) = true
    · rw [if_pos hb] at h ⊢
      have : b = c := by simpa using hb
      simp [this]
    · rw [if_neg hb] at h ⊢
      have ih := cutL_yes c r h
      refine ⟨by simp only [List.cons_append]; rw [← ih.1], ?_⟩
      intro x hx
      rcases List.mem_cons.1 hx with rfl | hx
      · intro e; exact hb (by simp [e])
      · exact ih.2 x hx
theorem cutL_no (c : UInt8) : ∀ l : List UInt8, (cutL c l).2.2 = false → (cutL c l).1 = l ∧ ∀ x, x ∈ l → x ≠ c
  | [], _ => by simp [cutL]
  | b :: r, h => by
    unfold cutL at h ⊢
    by_cases hb : (b == c) = true
    · rw [if_pos hb] at h
      cases h
    · rw [if_neg hb] at h ⊢
      have ih := cutL_no c r h
      refine ⟨by simp only [ih.1], ?_⟩
      intro x hx
      rcases List.mem_cons.1 hx with rfl | hx
      · intro e; exact hb (by simp [e])
      · exact ih.2 x hx
theorem cutL_none (c : UInt8) : ∀ l : List UInt8, (cutL c l).2.2 = false → (cutL c l).2.1 = []
  | [], _ => by simp [cutL]
  | b :: r, h => by
    unfold cutL at h ⊢
    by_cases hb : (b == c) = true
    · rw [if_pos hb] at h
      cases h
    · rw [if_neg hb] at h ⊢
      exact cutL_none c r h
theorem cutL_first (c : UInt8) (l : List UInt8) : (∀ x, x ∈ (cutL c l).1 → x ≠ c) ∧ ∀ x, x ∈ (cutL c l).1 → x ∈ l := by
  cases h : (cutL c l).2.2 with
  | true =>
    have := cutL_yes c l h
    refine ⟨this.2, fun x hx => ?_⟩
    rw [this.1]
    exact List.mem_append_left _ hx
  | false =>
    have := cutL_no c l h
    rw [this.1]
    exact ⟨this.2, fun x hx => hx⟩
theorem cutL_len (c : UInt8) (l : List UInt8) : (cutL c l).1.length ≤ l.length ∧ (cutL c l).2.1.length ≤ l.length ∧ ((cutL c l).2.2 = true → (cutL c l).2.1.length < l.length) := by
  induction l with
  | nil => simp [cutL]
  | cons b r ih =>
    unfold cutL
    by_cases hb : (b == c) = true
    · rw [if_pos hb]; simp
    · rw [if_neg hb]; simp only [List.length_cons]; omega
/-- Signs that are not ',' go on with a value. -/
theorem scan_on : ∀ (a r : List UInt8) (out : List (List UInt8 × List UInt8)) (nm vl : List UInt8), (∀ x, x ∈ a → x ≠ 44) → scan (a ++ r) out nm vl true = scan r out nm (vl ++ a) true
  | [], r, out, nm, vl, _ => by simp
  | c :: a, r, out, nm, vl, h => by
    have hc := h c (by simp)
    have hc' : ¬ c.toNat = 44 := fun e => hc (UInt8.toNat_inj.1 (by simpa using e))
    rw [List.cons_append, scan, if_neg hc', if_pos rfl, scan_on a r out nm (vl ++ [c]) (fun x hx => h x (by simp [hx]))]
    simp
theorem plain_of (a : List UInt8) (h1 : ∀ x, x ∈ a → x ≠ 44) (h2 : ∀ x, x ∈ a → x ≠ 61) : plainL a := fun c hc => ⟨fun e => h1 c hc (UInt8.toNat_inj.1 (by simpa using e)), fun e => h2 c hc (UInt8.toNat_inj.1 (by simpa using e))⟩
/-- One part, up to its ',' or the end: no label. -/
theorem scan_part_no (l : List UInt8) (out : List (List UInt8 × List UInt8)) (h : (cutL 61 (cutL 44 l).1).2.2 = false) : scan l out [] [] false = none := by
  have hp := cutL_first 44 l
  have hn := cutL_no 61 _ h
  have hpl := plain_of _ hp.1 hn.2
  cases h4 : (cutL 44 l).2.2 with
  | true =>
    have hy := cutL_yes 44 l h4
    rw [hy.1, scan_name _ _ out [] [] hpl, scan, if_pos (by decide), if_neg (by decide)]
  | false =>
    have hy := cutL_no 44 l h4
    rw [hy.1] at hpl
    have := scan_name l [] out [] [] hpl
    rw [List.append_nil] at this
    rw [this, scan, if_neg (by decide)]
/-- .. and a label. -/
theorem scan_part (l : List UInt8) (out : List (List UInt8 × List UInt8)) (h : (cutL 61 (cutL 44 l).1).2.2 = true) :
    scan l out [] [] false = if (cutL 44 l).2.2 = true then scan (cutL 44 l).2.1 (out ++ [((cutL 61 (cutL 44 l).1).1, (cutL 61 (cutL 44 l).1).2.1)]) [] [] false else some (out ++ [((cutL 61 (cutL 44 l).1).1, (cutL 61 (cutL 44 l).1).2.1)]) := by
  have hp := cutL_first 44 l
  have hy1 := cutL_yes 61 _ h
  obtain ⟨p, hpe⟩ : ∃ p, (cutL 44 l).1 = p := ⟨_, rfl⟩
  rw [hpe] at hp hy1 h ⊢
  obtain ⟨nm, hnm⟩ : ∃ nm, (cutL 61 p).1 = nm := ⟨_, rfl⟩
  obtain ⟨vl, hvl⟩ : ∃ vl, (cutL 61 p).2.1 = vl := ⟨_, rfl⟩
  rw [hnm, hvl] at hy1 ⊢
  have hnp : plainL nm := plain_of _ (fun x hx => hp.1 x (by rw [hy1.1]; exact List.mem_append_left _ hx)) hy1.2
  have hvc : ∀ x, x ∈ vl → x ≠ 44 := fun x hx => hp.1 x (by rw [hy1.1]; simp [hx])
  have key : ∀ r, scan (p ++ r) out [] [] false = scan r out nm vl true := fun r => by
    have e : p ++ r = nm ++ (61 :: (vl ++ r)) := by rw [hy1.1]; simp
    rw [e, scan_name nm _ out [] [] hnp, List.nil_append, scan, if_neg (by decide), if_neg (by decide), if_pos (by decide), scan_on vl r out nm [] hvc, List.nil_append]
  cases h4 : (cutL 44 l).2.2 with
  | true =>
    have hy := cutL_yes 44 l h4
    rw [hpe] at hy
    obtain ⟨rest, hre⟩ : ∃ rest, (cutL 44 l).2.1 = rest := ⟨_, rfl⟩
    rw [hre] at hy ⊢
    rw [hy.1, key, scan, if_pos (by decide), if_pos rfl, if_pos rfl]
  | false =>
    have hy := cutL_no 44 l h4
    rw [hpe] at hy
    have := key []
    rw [List.append_nil, hy.1] at this
    rw [this, scan, if_pos rfl, if_neg (by decide)]
/-- The part that round k is handed: what is left ahead of it, or nothing more. -/
def restL (l : List UInt8) : Nat → List UInt8
  | 0 => l
  | k + 1 => (cutL 44 (restL l k)).2.1
def partL (l : List UInt8) (k : Nat) : List UInt8 := (cutL 44 (restL l k)).1
def moreL (l : List UInt8) (k : Nat) : Bool := (cutL 44 (restL l k)).2.2
def labL (l : List UInt8) (k : Nat) : List UInt8 × List UInt8 := ((cutL 61 (partL l k)).1, (cutL 61 (partL l k)).2.1)
def hasL (l : List UInt8) (k : Nat) : Bool := (cutL 61 (partL l k)).2.2
def labsTo (l : List UInt8) (k : Nat) : List (List UInt8 × List UInt8) := (List.range k).map (labL l)
theorem labsTo_succ (l : List UInt8) (k : Nat) : labsTo l (k + 1) = labsTo l k ++ [labL l k] := by simp [labsTo, List.range_succ]
theorem length_labsTo (l : List UInt8) (k : Nat) : (labsTo l k).length = k := by simp [labsTo]
theorem rest_len (l : List UInt8) : ∀ k, (∀ i, i < k → moreL l i = true) → (restL l k).length + k ≤ l.length
  | 0, _ => by simp [restL]
  | k + 1, h => by
    have ih := rest_len l k (fun i hi => h i (by omega))
    have := (cutL_len 44 (restL l k)).2.2 (h k (by omega))
    simp only [restL]
    omega
theorem rest_le (l : List UInt8) : ∀ k, (restL l k).length ≤ l.length
  | 0 => Nat.le_refl _
  | k + 1 => Nat.le_trans (cutL_len 44 (restL l k)).2.1 (rest_le l k)
theorem part_le (l : List UInt8) (k : Nat) : (partL l k).length ≤ l.length := Nat.le_trans (cutL_len 44 (restL l k)).1 (rest_le l k)
theorem lab_le (l : List UInt8) (k : Nat) : (labL l k).1.length ≤ l.length ∧ (labL l k).2.length ≤ l.length := ⟨Nat.le_trans (cutL_len 61 (partL l k)).1 (part_le l k), Nat.le_trans (cutL_len 61 (partL l k)).2.1 (part_le l k)⟩
/-- How many parts there are. -/
theorem parts_end (l : List UInt8) : ∃ n, n ≤ l.length ∧ (∀ i, i < n → moreL l i = true) ∧ moreL l n = false := by
  have key : ∀ N, (∃ n, n ≤ N ∧ (∀ i, i < n → moreL l i = true) ∧ moreL l n = false) ∨ ∀ i, i < N + 1 → moreL l i = true := by
    intro N
    induction N with
    | zero =>
      cases h : moreL l 0 with
      | true => exact .inr fun i hi => by rw [show i = 0 by omega]; exact h
      | false => exact .inl ⟨0, Nat.le_refl _, fun i hi => absurd hi (by omega), h⟩
    | succ N ih =>
      rcases ih with ⟨n, h1, h2, h3⟩ | ih
      · exact .inl ⟨n, by omega, h2, h3⟩
      · cases h : moreL l (N + 1) with
        | true =>
          refine .inr fun i hi => ?_
          rcases Nat.lt_or_ge i (N + 1) with h1 | h1
          · exact ih i h1
          · have : i = N + 1 := by omega
            rw [this]; exact h
        | false => exact .inl ⟨N + 1, Nat.le_refl _, ih, h⟩
  rcases key l.length with h | h
  · exact h
  · have := rest_len l (l.length + 1) h
    omega
/-- What is read of a text, by its parts. -/
theorem scan_to (l : List UInt8) : ∀ k, (∀ i, i < k → moreL l i = true ∧ hasL l i = true) → scan l [] [] [] false = scan (restL l k) (labsTo l k) [] [] false
  | 0, _ => rfl
  | k + 1, h => by
    rw [scan_to l k (fun i hi => h i (by omega)), scan_part (restL l k) _ (h k (by omega)).2, if_pos (show (cutL 44 (restL l k)).2.2 = true from (h k (by omega)).1), labsTo_succ]
    rfl
theorem scan_none (l : List UInt8) (k : Nat) (h : ∀ i, i < k → moreL l i = true ∧ hasL l i = true) (hk : hasL l k = false) : scan l [] [] [] false = none := by
  rw [scan_to l k h]
  exact scan_part_no _ _ hk
theorem scan_some (l : List UInt8) (k : Nat) (h : ∀ i, i < k → moreL l i = true ∧ hasL l i = true) (hk : hasL l k = true) (hm : moreL l k = false) : scan l [] [] [] false = some (labsTo l (k + 1)) := by
  rw [scan_to l k h, scan_part (restL l k) _ hk, if_neg (show ¬ (cutL 44 (restL l k)).2.2 = true from fun e => by have e' : moreL l k = true := e; rw [hm] at e'; cases e'), labsTo_succ]
  rfl
end LabMath
