/- What labels are at fault for, by one name: and package label's functions, and the document's, by it. -/
import Derived.Test.YtfanagohfimnkaaDoorRefTicksGroup
import Derived.Test.YtfanagohfimnkaaDoorLabRead
import Derived.Test.YtfanagohfimnkaaDoorRefLabOfGroup
import Derived.Test.YtfanagohfimnkaaDoorFaulted
namespace Go.Proofs.YtfanagohfimnkaaDoor
open Go.RowKit LabMath

/-- The first of n that is not well, or n. -/
noncomputable def badAt (p : Nat → Bool) (n : Nat) : Nat := (first_no p n).choose
theorem badAt_spec (p : Nat → Bool) (n : Nat) : badAt p n ≤ n ∧ (∀ i, i < badAt p n → p i = true) ∧ (badAt p n < n → p (badAt p n) = false) := (first_no p n).choose_spec
theorem badAt_is (p : Nat → Bool) (n m : Nat) (h : m ≤ n) (h1 : ∀ i, i < m → p i = true) (h2 : m < n → p m = false) : badAt p n = m := by
  obtain ⟨g, g1, g2⟩ := badAt_spec p n
  rcases Nat.lt_trichotomy (badAt p n) m with hl | hl | hl
  · have a := g2 (by omega)
    rw [h1 _ hl] at a
    cases a
  · exact hl
  · have a := h2 (by omega)
    rw [g1 _ hl] at a
    cases a
noncomputable def bad (N V : Nat → ByteArray) (n : Nat) : Nat := badAt (labOk N V) n
noncomputable def fC (N V : Nat → ByteArray) (n : Nat) : Int := if n = 0 then 5 else if 6 < n then 2 else if bad N V n < n then (if (isName (N (bad N V n)) && isWord (V (bad N V n))) = true then 3 else 4) else 0
noncomputable def fA (N V : Nat → ByteArray) (n : Nat) : Int := if n = 0 then -1 else if 6 < n then -1 else if bad N V n < n then (bad N V n : Int) else -1
theorem fC_cases (N V : Nat → ByteArray) (n : Nat) : 0 ≤ fC N V n ∧ (fC N V n = 0 → 1 ≤ n ∧ n ≤ 6 ∧ fA N V n = -1 ∧ ∀ i, i < n → labOk N V i = true) := by
  unfold fC fA
  by_cases h0 : n = 0
  · rw [if_pos h0]; exact ⟨by omega, fun h => by omega⟩
  · rw [if_neg h0]
    by_cases h6 : 6 < n
    · rw [if_pos h6]; exact ⟨by omega, fun h => by omega⟩
    · rw [if_neg h6]
      by_cases hb : bad N V n < n
      · rw [if_pos hb]
        split
        · exact ⟨by omega, fun h => by omega⟩
        · exact ⟨by omega, fun h => by omega⟩
      · rw [if_neg hb]
        obtain ⟨g, g1, g2⟩ := badAt_spec (labOk N V) n
        have hbn : badAt (labOk N V) n = n := by
          have : ¬ badAt (labOk N V) n < n := hb
          omega
        rw [hbn] at g1
        exact ⟨by omega, fun _ => ⟨by omega, by omega, by rw [if_neg h0, if_neg h6, if_neg hb], g1⟩⟩
theorem fC_zero (N V : Nat → ByteArray) (n : Nat) (h1 : 1 ≤ n) (h6 : n ≤ 6) (hok : ∀ i, i < n → labOk N V i = true) : fC N V n = 0 := by
  have hb : bad N V n = n := badAt_is (labOk N V) n n (Nat.le_refl _) hok (fun h => absurd h (by omega))
  unfold fC
  rw [if_neg (by omega), if_neg (by omega), hb, if_neg (by omega)]
/-- A value that stands for a fault: nil; one of the sentinels; or a place with one. -/
def FaultV (ea : Nat → Addr) (w : World) (v : Value) (C A : Int) : Prop :=
  (v = .nilIface ∧ C = 0) ∨ (∃ m : Nat, m < 11 ∧ v = .iface 197 (.pointer (some (ea m))) ∧ (m : Int) + 1 = C ∧ A = -1) ∨
    (∃ pb m : Nat, m < 11 ∧ v = .iface 117 (.pointer (some ⟨pb, 0, none⟩)) ∧ w.cell? ⟨pb, 0, none⟩ = some (.int .i64 A) ∧ w.cell? ⟨pb, 1, none⟩ = some (.iface 197 (.pointer (some (ea m)))) ∧ (m : Int) + 1 = C)
theorem FaultV.below {ea : Nat → Addr} {w w' : World} {v : Value} {C A : Int} (h : FaultV ea w v C A) (hb : Below w.heap.size w w') : FaultV ea w' v C A := by
  rcases h with h | h | ⟨pb, m, hm, hv, c0, c1, hc⟩
  · exact .inl h
  · exact .inr (.inl h)
  · have hl : pb < w.heap.size := World.block_lt_of_cell? w ⟨pb, 0, none⟩ c0
    exact .inr (.inr ⟨pb, m, hm, hv, (hb.cell (p := ⟨pb, 0, none⟩) hl).trans c0, (hb.cell (p := ⟨pb, 1, none⟩) hl).trans c1, hc⟩)
theorem FaultV.iface {ea : Nat → Addr} {w : World} {v : Value} {C A : Int} (h : FaultV ea w v C A) : v = .nilIface ∨ ∃ t p, v = .iface t (.pointer (some p)) := by
  rcases h with ⟨h, _⟩ | ⟨m, _, h, _⟩ | ⟨pb, m, _, h, _⟩
  · exact .inl h
  · exact .inr ⟨_, _, h⟩
  · exact .inr ⟨_, _, h⟩
theorem FaultV.none {ea : Nat → Addr} {w : World} {v : Value} {C A : Int} (h : FaultV ea w v C A) (hC : C = 0) : v = .nilIface := by
  rcases h with ⟨h, _⟩ | ⟨m, _, _, h, _⟩ | ⟨pb, m, _, _, _, _, h⟩
  · exact h
  · omega
  · omega
theorem faulted_v {B : Nat} {ea : Nat → Addr} (w : World) (E : Env B ea w) (hB : B ≤ w.heap.size) (v : Value) (C A : Int) (h : FaultV ea w v C A) :
    Calls Tryd.prog 12 #[v, .agg #[.int .i64 C, .int .i64 A]] w fun e w' => e = .returned (.bool true) ∧ Below w.heap.size w w' := by
  rcases h with ⟨rfl, rfl⟩ | ⟨m, hm, rfl, hc, rfl⟩ | ⟨pb, m, hm, rfl, c0, c1, hc⟩
  · exact faulted_nil w A
  · exact faulted_es w E hB m hm C hc
  · exact faulted_fault w E hB pb 0 A m hm c0 (by simpa using c1) C hc

theorem lcheck_f {B : Nat} {ea : Nat → Addr} (w : World) (E : Env B ea w) (la : Option Addr) (n c : Nat) (N V : Nat → ByteArray) (hP : Labs w la n N V) (hsz : ∀ i, i < n → (N i).size ≤ 1000000 ∧ (V i).size ≤ 1000000) (hn : (n : Int) ≤ 9223372036854775807) :
    Calls Tryd.prog 36 #[.slice la n c] w fun e w' => ∃ v, e = .returned v ∧ Below w.heap.size w w' ∧ FaultV ea w' v (fC N V n) (fA N V n) := by
  by_cases h0 : n = 0
  · subst h0
    refine (lcheck_none w la c (ea 4) E.c4).mono ?_
    rintro e w' ⟨rfl, rfl⟩
    exact ⟨_, rfl, Below.refl _ _, .inr (.inl ⟨4, by omega, rfl, rfl, rfl⟩)⟩
  · by_cases h6 : 6 < n
    · refine (lcheck_many w la n c h6 hn (ea 1) E.c1).mono ?_
      rintro e w' ⟨rfl, rfl⟩
      exact ⟨_, rfl, Below.refl _ _, .inr (.inl ⟨1, by omega, rfl, by unfold fC; rw [if_neg h0, if_pos h6]; rfl, by unfold fA; rw [if_neg h0, if_pos h6]⟩)⟩
    · obtain ⟨g, g1, g2⟩ := badAt_spec (labOk N V) n
      refine (lcheck_any w la n c N V hP hsz (by omega) (by omega) (bad N V n) g g1 g2 (ea 3) (ea 2) E.c3 E.c2).mono ?_
      rintro e w' ⟨hb, ⟨hmn, rfl⟩ | ⟨hmn, pb, rfl, hpb, p0, p1⟩⟩
      · exact ⟨_, rfl, hb, .inl ⟨rfl, by unfold fC; rw [if_neg h0, if_neg h6, if_neg (by omega)]⟩⟩
      · refine ⟨_, rfl, hb, .inr (.inr ?_)⟩
        unfold fC fA
        rw [if_neg h0, if_neg h6, if_pos hmn, if_neg h0, if_neg h6, if_pos hmn]
        by_cases hq : (isName (N (bad N V n)) && isWord (V (bad N V n))) = true
        · rw [if_pos hq] at p1 ⊢
          exact ⟨pb, 2, by omega, rfl, p0, p1, rfl⟩
        · rw [if_neg hq] at p1 ⊢
          exact ⟨pb, 3, by omega, rfl, p0, p1, rfl⟩
theorem lfault_f (w : World) (la : Option Addr) (n c : Nat) (N V : Nat → ByteArray) (hP : Labs w la n N V) (hsz : ∀ i, i < n → (N i).size ≤ 1000000 ∧ (V i).size ≤ 1000000) (hn : (n : Int) ≤ 9223372036854775807) :
    Calls Tryd.prog 10 #[.slice la n c] w fun e w' => e = .returned (.agg #[.int .i64 (fC N V n), .int .i64 (fA N V n)]) ∧ Below w.heap.size w w' := by
  by_cases h0 : n = 0
  · subst h0
    exact labels_none w la c
  · by_cases h6 : 6 < n
    · refine (labels_many w la n c h6 hn).mono ?_
      rintro e w' ⟨rfl, hb⟩
      exact ⟨by unfold fC fA; rw [if_neg h0, if_pos h6, if_neg h0, if_pos h6], hb⟩
    · obtain ⟨g, g1, g2⟩ := badAt_spec (labOk N V) n
      exact labels_fault w la n c N V hP hsz (by omega) (by omega) (bad N V n) g g1 g2 _ _ (by unfold fC; rw [if_neg h0, if_neg h6]) (by unfold fA; rw [if_neg h0, if_neg h6])
theorem ltext_f {B : Nat} {ea : Nat → Addr} (w : World) (E : Env B ea w) (la : Option Addr) (n c : Nat) (N V : Nat → ByteArray) (hP : Labs w la n N V) (hsz : ∀ i, i < n → (N i).size ≤ 1000000 ∧ (V i).size ≤ 1000000) (hn : (n : Int) ≤ 9223372036854775807) :
    Calls Tryd.prog 35 #[.slice la n c] w fun e w' => ∃ t v, e = .returned (.tuple #[.string t, v]) ∧ Below w.heap.size w w' ∧ FaultV ea w' v (fC N V n) (fA N V n) ∧ (fC N V n = 0 → t = textTo N V n) ∧ (0 < fC N V n → t = ⟨#[]⟩) := by
  by_cases h0 : n = 0
  · subst h0
    refine (ltext_none w la c (ea 4) E.c4).mono ?_
    rintro e w' ⟨rfl, rfl⟩
    exact ⟨_, _, rfl, Below.refl _ _, .inr (.inl ⟨4, by omega, rfl, rfl, rfl⟩), fun h => absurd h (by unfold fC; rw [if_pos rfl]; decide), fun _ => rfl⟩
  · by_cases h6 : 6 < n
    · refine (ltext_many w la n c h6 hn (ea 1) E.c1).mono ?_
      rintro e w' ⟨rfl, rfl⟩
      exact ⟨_, _, rfl, Below.refl _ _, .inr (.inl ⟨1, by omega, rfl, by unfold fC; rw [if_neg h0, if_pos h6]; rfl, by unfold fA; rw [if_neg h0, if_pos h6]⟩), fun h => absurd h (by unfold fC; rw [if_neg h0, if_pos h6]; decide), fun _ => rfl⟩
    · obtain ⟨g, g1, g2⟩ := badAt_spec (labOk N V) n
      refine (ltext_any w la n c N V hP hsz (by omega) (by omega) (bad N V n) g g1 g2 (ea 3) (ea 2) E.c3 E.c2).mono ?_
      rintro e w' ⟨hb, ⟨hmn, rfl⟩ | ⟨hmn, pb, rfl, hpb, p0, p1⟩⟩
      · have hz : fC N V n = 0 := by unfold fC; rw [if_neg h0, if_neg h6, if_neg (by omega)]
        exact ⟨_, _, rfl, hb, .inl ⟨rfl, hz⟩, fun _ => rfl, fun h => by omega⟩
      · have hne : fC N V n ≠ 0 := fun h => by
          unfold fC at h
          rw [if_neg h0, if_neg h6, if_pos hmn] at h
          split at h <;> omega
        refine ⟨_, _, rfl, hb, .inr (.inr ?_), fun h => absurd h hne, fun _ => rfl⟩
        unfold fC fA
        rw [if_neg h0, if_neg h6, if_pos hmn, if_neg h0, if_neg h6, if_pos hmn]
        by_cases hq : (isName (N (bad N V n)) && isWord (V (bad N V n))) = true
        · rw [if_pos hq] at p1 ⊢
          exact ⟨pb, 2, by omega, rfl, p0, p1, rfl⟩
        · rw [if_neg hq] at p1 ⊢
          exact ⟨pb, 3, by omega, rfl, p0, p1, rfl⟩
/-- What is read of a text, and its fault. -/
def ReadV (ea : Nat → Addr) (w w' : World) (l : List UInt8) (x v : Value) : Prop :=
  Below w.heap.size w w' ∧ ((scan l [] [] [] false = none ∧ x = .slice none 0 0 ∧ FaultV ea w' v 1 (-1)) ∨
    ∃ out : List (List UInt8 × List UInt8), scan l [] [] [] false = some out ∧ FaultV ea w' v (fC (nameAt out) (valueAt out) out.length) (fA (nameAt out) (valueAt out) out.length) ∧ (∀ p, p ∈ out → p.1.length ≤ 100000 ∧ p.2.length ≤ 100000) ∧
      (fC (nameAt out) (valueAt out) out.length = 0 → w'.ownsRow w.heap.size 28 2 x out.length (labCells out)) ∧ (0 < fC (nameAt out) (valueAt out) out.length → x = .slice none 0 0))
theorem lread_f4 {ea : Nat → Addr} (w : World) (c0 : w.cell? ⟨5, 0, none⟩ = some (.iface 197 (.pointer (some (ea 0))))) (c1 : w.cell? ⟨0, 0, none⟩ = some (.iface 197 (.pointer (some (ea 1))))) (c2 : w.cell? ⟨3, 0, none⟩ = some (.iface 197 (.pointer (some (ea 2))))) (c3 : w.cell? ⟨2, 0, none⟩ = some (.iface 197 (.pointer (some (ea 3))))) (s : ByteArray) (hs : s.size ≤ 100000) :
    Calls Tryd.prog 65 #[.string s] w fun e w' => ∃ x v, e = .returned (.tuple #[x, v]) ∧ ReadV ea w w' s.data.toList x v := by
  have hll : s.data.toList.length = s.size := Array.length_toList
  refine (lread_any s w hs ea c0 c1 c2 c3).mono ?_
  rintro e w' ⟨hb, ⟨hn, rfl⟩ | ⟨out, hsc, h1, h2, hin, h⟩⟩
  · exact ⟨_, _, rfl, hb, .inl ⟨hn, rfl, .inr (.inl ⟨0, by omega, rfl, rfl, rfl⟩)⟩⟩
  · have hin' : ∀ p, p ∈ out → p.1.length ≤ 100000 ∧ p.2.length ≤ 100000 := fun p hp => by have := hin p hp; omega
    rcases h with ⟨h6, rfl⟩ | ⟨h6, m, hm, hok, hbad, h⟩
    · have hz : fC (nameAt out) (valueAt out) out.length = 2 := by unfold fC; rw [if_neg (by omega), if_pos h6]
      exact ⟨_, _, rfl, hb, .inr ⟨out, hsc, .inr (.inl ⟨1, by omega, rfl, by rw [hz]; rfl, by unfold fA; rw [if_neg (by omega), if_pos h6]⟩), hin', fun h => by omega, fun _ => rfl⟩⟩
    · have hbm : bad (nameAt out) (valueAt out) out.length = m := badAt_is _ _ _ hm hok hbad
      rcases h with ⟨hmn, x, rfl, hown⟩ | ⟨hmn, pb, rfl, hpb, p0, p1⟩
      · have hz : fC (nameAt out) (valueAt out) out.length = 0 := by unfold fC; rw [if_neg (by omega), if_neg (by omega), hbm, if_neg (by omega)]
        exact ⟨_, _, rfl, hb, .inr ⟨out, hsc, .inl ⟨rfl, hz⟩, hin', fun _ => hown, fun h => by omega⟩⟩
      · have hne : fC (nameAt out) (valueAt out) out.length ≠ 0 := fun h => by
          unfold fC at h
          rw [if_neg (by omega), if_neg (by omega), hbm, if_pos hmn] at h
          split at h <;> omega
        refine ⟨_, _, rfl, hb, .inr ⟨out, hsc, .inr (.inr ?_), hin', fun h => absurd h hne, fun _ => rfl⟩⟩
        have n0 : ¬ out.length = 0 := by omega
        have n6 : ¬ 6 < out.length := by omega
        unfold fC fA
        rw [if_neg n0, if_neg n6, if_neg n0, if_neg n6, hbm, if_pos hmn, if_pos hmn]
        by_cases hq : (isName (nameAt out m) && isWord (valueAt out m)) = true
        · rw [if_pos hq] at p1 ⊢
          exact ⟨pb, 2, by omega, rfl, p0, p1, rfl⟩
        · rw [if_neg hq] at p1 ⊢
          exact ⟨pb, 3, by omega, rfl, p0, p1, rfl⟩
theorem lread_f {B : Nat} {ea : Nat → Addr} (w : World) (E : Env B ea w) (s : ByteArray) (hs : s.size ≤ 100000) :
    Calls Tryd.prog 65 #[.string s] w fun e w' => ∃ x v, e = .returned (.tuple #[x, v]) ∧ ReadV ea w w' s.data.toList x v := lread_f4 w E.c0 E.c1 E.c2 E.c3 s hs
theorem fault_is {out : List (List UInt8 × List UInt8)} {C A : Int} (h : FaultOf out C A) : C = fC (nameAt out) (valueAt out) out.length ∧ A = fA (nameAt out) (valueAt out) out.length := by
  unfold fC fA
  rcases h with ⟨h0, rfl, rfl⟩ | ⟨h6, rfl, rfl⟩ | ⟨h1, h6, m, hm, hok, hbad, rfl, rfl⟩
  · rw [if_pos h0, if_pos h0]; exact ⟨rfl, rfl⟩
  · have n0 : ¬ out.length = 0 := by omega
    rw [if_neg n0, if_neg n0, if_pos h6, if_pos h6]; exact ⟨rfl, rfl⟩
  · have hbm : bad (nameAt out) (valueAt out) out.length = m := badAt_is _ _ _ hm hok hbad
    have n0 : ¬ out.length = 0 := by omega
    have n6 : ¬ 6 < out.length := by omega
    rw [if_neg n0, if_neg n6, if_neg n0, if_neg n6, hbm]
    exact ⟨rfl, rfl⟩
end Go.Proofs.YtfanagohfimnkaaDoor
