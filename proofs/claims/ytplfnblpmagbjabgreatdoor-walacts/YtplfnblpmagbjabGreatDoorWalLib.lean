/- strings.Cut at '@', strings.HasPrefix, strconv.Itoa, strconv.Atoi and strconv.ParseUint, strings.Repeat, by contracts. -/
import Derived.Test.YtplfnblpmagbjabGreatDoorWalHex
import Derived.Test.YtplfnblpmagbjabGreatDoorWalParse
import Derived.Test.YtplfnblpmagbjabGreatDoorLabCutGroup
namespace Go.Proofs.YtplfnblpmagbjabGreatDoor
open Go.Shelf Go.RowKit LabMath WalMath

set_option maxRecDepth 1000000 in
theorem slIndex_64 (s : ByteArray) (w : World) :
    Calls Tryz.prog 85 #[.string s, .string ⟨#[64]⟩] w fun e w' => e = .returned (.int .i64 (Lib.indexByte s.data.toList 64)) ∧ w' = w := by
  have HI : Hid (Calls Tryz.prog 102 #[.string s, .int .u8 64] w fun e w' => e = .returned (.int .i64 (Lib.indexByte s.data.toList 64)) ∧ w' = w) := slIndexByte_any s 64 w
  cases hq : ([(64 : UInt8)] == s.toList) with
  | true =>
    have HD : Hid (Lib.indexByte s.data.toList 64 = 0) := by
      show _ = _
      have e : [(64 : UInt8)] = s.toList := by simpa using hq
      rw [ByteArray.toList_eq] at e
      rw [← e]
      rfl
    go_enter Tryz.func85, Tryz.ntmps85
    go_wp2
    go_ret
    exact ⟨by rw [HD.out]; rfl, rfl⟩
  | false =>
    go_enter Tryz.func85, Tryz.ntmps85
    go_wp2_with fail
    refine Calls.mono HI.out ?_
    rintro e w1 ⟨rfl, hw1⟩
    have hw1' := hw1.symm
    subst hw1'
    go_wp2
    go_ret
    exact ⟨rfl, rfl⟩

set_option maxRecDepth 1000000 in
theorem slCut_64 (s : ByteArray) (w : World) (hs : s.size ≤ 1000000) :
    Calls Tryz.prog 72 #[.string s, .string ⟨#[64]⟩] w fun e w' => e = .returned (.tuple #[.string (txt (cutL 64 s.data.toList).1), .string (txt (cutL 64 s.data.toList).2.1), .bool (cutL 64 s.data.toList).2.2]) ∧ ∃ q, w' = w.drewN q := by
  have hI := slIndex_64 s w
  rcases cutL_index 64 s.data.toList with ⟨h1, h2⟩ | ⟨i, h1, h2, h3⟩
  · rw [h1] at hI
    rw [h2]
    have HI := (show Hid _ from hI)
    clear hI h1 h2
    go_enter Tryz.func72, Tryz.ntmps72
    go_wp2_with fail
    refine Calls.mono HI.out ?_
    rintro e w1 ⟨rfl, hw1⟩
    have hw1' := hw1.symm
    subst hw1'
    go_wp2
    go_ret3
    exact ⟨rfl, 0, rfl⟩
  · rw [h1] at hI
    rw [h3]
    have hl : s.data.toList.length = s.size := Array.length_toList
    have HI := (show Hid _ from hI)
    have c0 : (0 : Int) ≤ (i : Int) := by omega
    have c1 : (i : Int) ≤ (s.size : Int) := by omega
    have c2 : (0 : Int) ≤ (i : Int) + 1 := by omega
    have c3 : (i : Int) + 1 ≤ (s.size : Int) := by omega
    have E1 : Hid (s.extract 0 i = txt (s.data.toList.take i)) := ext_take s i
    have E2 : Hid (s.extract (i + 1) s.size = txt (s.data.toList.drop (i + 1))) := ext_drop s (i + 1)
    clear hI h1 h3 hl
    go_enter Tryz.func72, Tryz.ntmps72
    go_wp2_with fail
    refine Calls.mono HI.out ?_
    rintro e w1 ⟨rfl, hw1⟩
    have hw1' := hw1.symm
    subst hw1'
    go_wp2_with fail
    go_quiet (fail)
    go_wp2
    go_ret3
    refine ⟨?_, _, rfl⟩
    rw [← E1.out, ← E2.out]
    rfl

set_option maxRecDepth 1000000 in
theorem sCut_64 (s : ByteArray) (w : World) (hs : s.size ≤ 1000000) :
    Calls Tryz.prog 58 #[.string s, .string ⟨#[64]⟩] w fun e w' => e = .returned (.tuple #[.string (txt (cutL 64 s.data.toList).1), .string (txt (cutL 64 s.data.toList).2.1), .bool (cutL 64 s.data.toList).2.2]) ∧ ∃ q, w' = w.drewN q := by
  have HC : Hid _ := slCut_64 s w hs
  go_enter Tryz.func58, Tryz.ntmps58
  go_wp2_with fail
  refine Calls.mono HC.out ?_
  rintro e w1 ⟨rfl, q, hw1⟩
  have hw1' := hw1
  subst hw1'
  go_wp2
  go_ret3
  exact ⟨rfl, q, rfl⟩

set_option maxRecDepth 1000000 in
theorem sPrefix_any (v y : ByteArray) (w : World) :
    Calls Tryz.prog 48 #[.string v, .string y] w fun e w' => e = .returned (.bool (decide (y.size ≤ v.size) && ((v.extract 0 y.size).toList == y.toList))) ∧ w' = w := by
  have HI : Hid (Calls Tryz.prog 68 #[.string v, .string y] w fun e w' => e = .returned (.bool (decide (y.size ≤ v.size) && ((v.extract 0 y.size).toList == y.toList))) ∧ w' = w) := by
    show Calls _ _ _ _ _
    by_cases h : y.size ≤ v.size
    · have d : decide ((y.size : Int) ≤ (v.size : Int)) = true := by simp; omega
      have dI : (y.size : Int) ≤ (v.size : Int) := by omega
      have d0 : (0 : Int) ≤ (y.size : Int) := by omega
      have HD : Hid (decide (y.size ≤ v.size) = true) := decide_eq_true h
      go_enter Tryz.func68, Tryz.ntmps68
      go_wp2
      go_ret
      exact ⟨by rw [HD.out]; rfl, rfl⟩
    · have d : decide ((y.size : Int) ≤ (v.size : Int)) = false := by simp; omega
      have HD : Hid (decide (y.size ≤ v.size) = false) := decide_eq_false h
      go_enter Tryz.func68, Tryz.ntmps68
      go_wp2
      go_ret
      exact ⟨by rw [HD.out]; rfl, rfl⟩
  go_enter Tryz.func48, Tryz.ntmps48
  go_wp2_with fail
  refine Calls.mono HI.out ?_
  rintro e w1 ⟨rfl, hw1⟩
  have hw1' := hw1.symm
  subst hw1'
  go_wp2
  go_ret
  exact ⟨rfl, rfl⟩

/-- What an answer that may be an error is: none, or some. -/
theorem below_grow (w : World) (k : Nat) (os : Array Obj) : Below w.heap.size w (Sort.grow (w.drewN k) os) :=
  ⟨rfl, rfl, rfl, by simp, fun j hj => Sort.heap_grow_old _ _ hj⟩
theorem itoa_any (t : Int) (h0 : -9223372036854775808 ≤ t) (h1 : t ≤ 9223372036854775807) (w : World) (hT : Lib.TabIs Tryz.prog w "internal/strconv.uint64pow10" .u64 Lib.pow10Tab) :
    Calls Tryz.prog 41 #[.int .i64 t] w fun e w' => e = .returned (.string (txt (Lib.itoa t))) ∧ Below w.heap.size w w' := by
  refine (show Calls Tryz.prog 41 #[.int .i64 t] w _ from Any.strconv_Itoa lays171 t h0 h1 w hT).mono ?_
  rintro e w' ⟨rfl, k, os, rfl⟩
  exact ⟨rfl, below_grow w k os⟩
/-- The variables of package strconv: two errors. -/
structure EnvS (w : World) : Prop where
  syn : ∃ tp p, w.cell? ⟨14, 0, none⟩ = some (.iface tp p)
  rng : ∃ tp p, w.cell? ⟨15, 0, none⟩ = some (.iface tp p)
theorem EnvS.below {w w' : World} (h : EnvS w) {B : Nat} (hb : Below B w w') (hB : 14 < B ∧ 15 < B) : EnvS w' := by
  obtain ⟨a, b, h1⟩ := h.syn
  obtain ⟨c, d, h2⟩ := h.rng
  exact ⟨⟨a, b, (hb.cell (p := ⟨14, 0, none⟩) hB.1).trans h1⟩, ⟨c, d, (hb.cell (p := ⟨15, 0, none⟩) hB.2).trans h2⟩⟩
theorem EnvS.lt {w : World} (h : EnvS w) : 14 < w.heap.size ∧ 15 < w.heap.size := by
  obtain ⟨a, b, h1⟩ := h.syn
  obtain ⟨c, d, h2⟩ := h.rng
  exact ⟨World.block_lt_of_cell? w ⟨14, 0, none⟩ h1, World.block_lt_of_cell? w ⟨15, 0, none⟩ h2⟩
/-- strconv.Atoi: a number, or an error. -/
theorem atoi_any (s : ByteArray) (hs : s.size ≤ 1000000) (w : World) (hE : EnvS w) :
    Calls Tryz.prog 66 #[.string s] w fun e w' => ((∃ v, Lib.atoiAll s.data.toList = .ok v ∧ e = .returned (.tuple #[.int .i64 v, .nilIface])) ∨ ((∀ v, Lib.atoiAll s.data.toList ≠ .ok v) ∧ ∃ x tp p, e = .returned (.tuple #[.int .i64 x, .iface tp p]))) ∧ Below w.heap.size w w' := by
  cases h : Lib.atoiAll s.data.toList with
  | ok v =>
    refine (show Calls Tryz.prog 66 #[.string s] w _ from Any.strconv_Atoi_ok lays172 s (by omega) v h w).mono ?_
    rintro e w' ⟨rfl, hw⟩
    refine ⟨.inl ⟨v, rfl, rfl⟩, ?_⟩
    rcases hw with rfl | ⟨t, rfl⟩
    · exact Below.refl _ _
    · exact Lib.bytesWorld_below _ _ _
  | «syntax» =>
    obtain ⟨tp, p, hc⟩ := hE.syn
    refine (show Calls Tryz.prog 66 #[.string s] w _ from Any.strconv_Atoi_syntax lays172 s (by omega) h _ w hc (.inr ⟨tp, p, rfl⟩)).mono ?_
    rintro e w' ⟨N, rfl, _, _, hb⟩
    exact ⟨.inr ⟨fun v hv => (by cases hv), _, _, _, rfl⟩, hb⟩
  | range =>
    obtain ⟨tp, p, hc⟩ := hE.rng
    refine (show Calls Tryz.prog 66 #[.string s] w _ from Any.strconv_Atoi_range lays172 s (by omega) h _ w hc (.inr ⟨tp, p, rfl⟩)).mono ?_
    rintro e w' ⟨N, rfl, _, _, hb⟩
    exact ⟨.inr ⟨fun v hv => (by cases hv), _, _, _, rfl⟩, hb⟩
theorem repeat_any (n : Nat) (hn : n ≤ 1000) (w : World) :
    Calls Tryz.prog 62 #[.string ⟨#[48]⟩, .int .i64 (n : Int)] w fun e w' => e = .returned (.string (txt (List.replicate n 48))) ∧ Below w.heap.size w w' := by
  refine (show Calls Tryz.prog 62 #[.string ⟨#[48]⟩, .int .i64 (n : Int)] w _ from Any.strings_Repeat lays105 repeatX ⟨#[48]⟩ n w (by omega) (by show 1 * n ≤ _; omega)).mono ?_
  rintro e w' ⟨rfl, hb⟩
  refine ⟨?_, hb⟩
  have : ∀ n, Lib.repeatL (ByteArray.mk #[48]).data.toList n = List.replicate n 48 := fun n => by
    induction n with
    | zero => rfl
    | succ n ih => rw [Lib.repeatL, ih]; rfl
  rw [this]
  rfl

set_option maxRecDepth 1000000 in
/-- strconv.ParseUint at base 16: a number, or an error. -/
theorem parseUint_16 (s : ByteArray) (hs : s.size ≤ 1000000) (w : World) (hE : EnvS w) :
    Calls Tryz.prog 67 #[.string s, .int .i64 16, .int .i64 64] w fun e w' => ((s.data.toList ≠ [] ∧ ∃ v : Nat, parse16 0 s.data.toList = some v ∧ e = .returned (.tuple #[.int .u64 (v : Int), .nilIface])) ∨ ((s.data.toList = [] ∨ parse16 0 s.data.toList = none) ∧ ∃ x tp p, e = .returned (.tuple #[.int .u64 x, .iface tp p]))) ∧ Below w.heap.size w w' := by
  have H := (show Hid _ from iparse_16 s hs w)
  have HE : Hid (EnvS w) := hE
  clear hE
  go_enter Tryz.func67, Tryz.ntmps67
  go_wp2_with fail
  refine Calls.mono H.out ?_
  rintro e w1 ⟨hp, hb⟩
  have HB := (show Hid _ from hb)
  have HE1 : Hid (EnvS w1) := HE.out.below hb HE.out.lt
  clear hb H
  rcases hp with ⟨hne, v, hv, rfl⟩ | ⟨hno, x, m, hm, rfl⟩
  · have HV := (show Hid _ from And.intro hne hv)
    clear hne hv
    dsimp only
    go_wp2
    go_ret2
    exact ⟨.inl ⟨HV.out.1, v, HV.out.2, rfl⟩, HB.out⟩
  · have HV := (show Hid (s.data.toList = [] ∨ parse16 0 s.data.toList = none) from hno)
    clear hno
    dsimp only
    have HTE : Hid (Calls Tryz.prog 83 #[.string ⟨#[80, 97, 114, 115, 101, 85, 105, 110, 116]⟩, .string s, .int .i64 16, .int .i64 64, .iface 168 (.int .i64 m)] w1 fun e w' => (∃ tp p, e = .returned (.iface tp p)) ∧ Below w1.heap.size w1 w') := by
      rcases hm with rfl | rfl
      · obtain ⟨tp, p, hc⟩ := HE1.out.rng
        refine (show Calls Tryz.prog 83 _ w1 _ from Any.strconv_toError_range lays245 _ s 16 64 _ w1 (by omega) hc (.inr ⟨tp, p, rfl⟩)).mono ?_
        rintro e w' ⟨N, rfl, _, _, hb⟩
        exact ⟨⟨_, _, rfl⟩, hb⟩
      · obtain ⟨tp, p, hc⟩ := HE1.out.syn
        refine (show Calls Tryz.prog 83 _ w1 _ from Any.strconv_toError_syntax lays245 _ s 16 64 _ w1 (by omega) hc (.inr ⟨tp, p, rfl⟩)).mono ?_
        rintro e w' ⟨N, rfl, _, _, hb⟩
        exact ⟨⟨_, _, rfl⟩, hb⟩
    clear hm
    go_wp2_with fail
    refine Calls.mono HTE.out ?_
    rintro e w2 ⟨⟨tp, p, rfl⟩, hb2⟩
    have HB2 := (show Hid _ from HB.out.trans (hb2.mono HB.out.size))
    clear hb2
    dsimp only
    go_wp2
    go_ret2
    exact ⟨.inr ⟨HV.out, _, _, _, rfl⟩, HB2.out⟩
end Go.Proofs.YtplfnblpmagbjabGreatDoor
