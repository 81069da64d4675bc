/- label's Fits by its contract. -/
import Derived.Test.YtfanagohfimnkaaDoorLabFault
import Derived.Test.YtfanagohfimnkaaDoorRefFits
import Derived.Sort.Walk0
import Derived.Deep.QuietTactic
import Derived.BigQuiet
namespace Go.Proofs.YtfanagohfimnkaaDoor
open Go.RowKit LabMath

set_option maxRecDepth 1000000 in
theorem hasPrefix_any (v y : ByteArray) (w : World) :
    Calls Tryd.prog 59 #[.string v, .string y] w fun e w' => e = .returned (.bool (decide (y.size ≤ v.size) && ((v.extract 0 y.size).toList == y.toList))) ∧ w' = w := by
  have HI : Hid (Calls Tryd.prog 73 #[.string v, .string y] w fun e w' => e = .returned (.bool (decide (y.size ≤ v.size) && ((v.extract 0 y.size).toList == y.toList))) ∧ w' = w) := by
    show Calls _ _ _ _ _
    by_cases h : y.size ≤ v.size
    · have d : decide ((y.size : Int) ≤ (v.size : Int)) = true := by simp; omega
      have dI : (y.size : Int) ≤ (v.size : Int) := by omega
      have d0 : (0 : Int) ≤ (y.size : Int) := by omega
      have HD : Hid (decide (y.size ≤ v.size) = true) := decide_eq_true h
      go_enter Tryd.func73, Tryd.ntmps73
      go_wp2
      go_ret
      exact ⟨by rw [HD.out]; rfl, rfl⟩
    · have d : decide ((y.size : Int) ≤ (v.size : Int)) = false := by simp; omega
      have HD : Hid (decide (y.size ≤ v.size) = false) := decide_eq_false h
      go_enter Tryd.func73, Tryd.ntmps73
      go_wp2
      go_ret
      exact ⟨by rw [HD.out]; rfl, rfl⟩
  go_enter Tryd.func59, Tryd.ntmps59
  go_wp2_with fail
  refine Calls.mono HI.out ?_
  rintro e w1 ⟨rfl, hw1⟩
  have hw1' := hw1.symm
  subst hw1'
  go_wp2
  go_ret
  exact ⟨rfl, rfl⟩

/-- The value of a name: the first label's. -/
noncomputable def valF (N V : Nat → ByteArray) (x : ByteArray) (n : Nat) : ByteArray := if badAt (fun i => !((N i).toList == x.toList)) n < n then V (badAt (fun i => !((N i).toList == x.toList)) n) else ⟨#[]⟩

set_option maxRecDepth 1000000 in
set_option maxHeartbeats 1000000 in
theorem valueOf_any (w : World) (la : Option Addr) (n c : Nat) (N V : Nat → ByteArray) (hP : Labs w la n N V) (hn : n ≤ 1000) (x : ByteArray) :
    Calls Tryd.prog 39 #[.slice la n c, .string x] w fun e w' => e = .returned (.string (valF N V x n)) ∧ Below w.heap.size w w' := by
  have HP : Hid (Labs w la n N V) := hP
  obtain ⟨g, g1, g2⟩ := badAt_spec (fun i => !((N i).toList == x.toList)) n
  have HV : Hid (valF N V x n = if badAt (fun i => !((N i).toList == x.toList)) n < n then V (badAt (fun i => !((N i).toList == x.toList)) n) else ⟨#[]⟩) := rfl
  generalize badAt (fun i => !((N i).toList == x.toList)) n = m at *
  have HG1 := (show Hid _ from g1)
  have HG2 := (show Hid _ from g2)
  clear hP g1 g2
  go_enter Tryd.func39, Tryd.ntmps39
  go_wp2_with fail
  go_loopw [6, 9, 10] (fun _ i _ wr => ∃ k : Nat, k ≤ m ∧ i = .int .i64 k ∧ Below w.heap.size w wr) (fun _ i _ _ => n - (intOf i).toNat)
  case atStart => exact ⟨0, Nat.zero_le _, rfl, Below.refl _ _⟩
  case round =>
    obtain ⟨k, hk, rfl, hbr⟩ := hrel
    by_cases hkn : k < n
    · obtain ⟨lb, lo, rfl, hcs⟩ := HP.out.at k hkn
      obtain ⟨c0, c1⟩ := hcs k hkn
      have hlb : lb < w.heap.size := World.block_lt_of_cell? w ⟨lb, _, none⟩ c0
      have hk0 : (0 : Int) ≤ (k : Int) := by omega
      have hk1 : (k : Int) < (n : Int) := by omega
      have e0 : wr.cell? ⟨lb, lo + k * 2, none⟩ = some (.string (N k)) := (hbr.cell (p := ⟨lb, _, none⟩) hlb).trans c0
      have e1 : wr.cell? ⟨lb, lo + k * 2 + 1, none⟩ = some (.string (V k)) := (hbr.cell (p := ⟨lb, _, none⟩) hlb).trans c1
      have HBR := (show Hid _ from hbr)
      have hwl := hbr.size
      clear hcs c0 c1 hbr
      cases hq : ((N k).toList == x.toList) with
      | true =>
        have hkm : k = m := by
          rcases Nat.lt_or_ge k m with h | h
          · have := HG1.out k h
            rw [hq] at this
            cases this
          · omega
        have HR : Hid (valF N V x n = V k) := by show _ = _; rw [HV.out, ← hkm, if_pos hkn]
        clear HV HG1 HG2
        obtain ⟨t1, ht1⟩ : ∃ t1, N k = t1 := ⟨_, rfl⟩
        obtain ⟨t2, ht2⟩ : ∃ t2, V k = t2 := ⟨_, rfl⟩
        rw [ht1] at e0 hq
        rw [ht2] at e1 HR
        clear ht1 ht2 hkm
        go_wp2
        go_ret
        exact ⟨by rw [HR.out]; rfl, HBR.out.alloc hwl _⟩
      | false =>
        have hkm : k < m := by
          rcases Nat.lt_or_ge k m with h | h
          · exact h
          · exfalso
            have hme : m = k := by omega
            have := HG2.out (by omega)
            rw [hme, hq] at this
            cases this
        obtain ⟨t1, ht1⟩ : ∃ t1, N k = t1 := ⟨_, rfl⟩
        obtain ⟨t2, ht2⟩ : ∃ t2, V k = t2 := ⟨_, rfl⟩
        rw [ht1] at e0 hq
        rw [ht2] at e1
        clear ht1 ht2
        go_wp2
        go_roundw
        case rel => exact ⟨k + 1, by omega, by go_num, HBR.out.alloc hwl _⟩
        case measure => simp [intOf] <;> omega
    · have hge : (n : Int) ≤ (k : Int) := by omega
      have HR : Hid (valF N V x n = ⟨#[]⟩) := by show _ = _; rw [HV.out, if_neg (by omega)]
      have HBR := (show Hid _ from hbr)
      clear hbr HV
      go_wp2
      go_ret
      exact ⟨by rw [HR.out]; rfl, HBR.out⟩

theorem lab_less (N V : Nat → ByteArray) (n : Nat) (hok : ∀ i, i < n → labOk N V i = true) : ∀ j, j < n → ∀ i, i < j → (N i).toList < (N j).toList := by
  have step : ∀ j, j + 1 < n → (N j).toList < (N (j + 1)).toList := fun j hj => by
    have h := hok (j + 1) hj
    unfold labOk at h
    rw [Bool.and_eq_true] at h
    have h2 := h.2
    simp [leS] at h2
    obtain ⟨h3, h4⟩ := h2
    rw [bytesLess_eq] at h3
    have h5 : ¬ (N (j + 1)).toList < (N j).toList := of_decide_eq_false h3
    rcases Std.Trichotomous.rel_or_eq_or_rel_swap (r := (· < · : List UInt8 → List UInt8 → Prop)) (a := (N j).toList) (b := (N (j + 1)).toList) with h6 | h6 | h6
    · exact h6
    · exact absurd h6.symm h4
    · exact absurd h6 h5
  intro j
  induction j with
  | zero => intro _ i hi; omega
  | succ j ih =>
    intro hj i hi
    rcases Nat.lt_or_ge i j with h | h
    · exact List.lt_trans (ih (by omega) i h) (step j hj)
    · have : i = j := by omega
      rw [this]
      exact step j hj
theorem val_same (N V : Nat → ByteArray) (n : Nat) (x : ByteArray) (hok : ∀ i, i < n → labOk N V i = true) : valF N V x n = valTo N V x n := by
  obtain ⟨g, g1, g2⟩ := badAt_spec (fun i => !((N i).toList == x.toList)) n
  unfold valF
  generalize badAt (fun i => !((N i).toList == x.toList)) n = m at *
  have none : ∀ k, k ≤ m → valTo N V x k = ⟨#[]⟩ := fun k => by
    induction k with
    | zero => intro _; rfl
    | succ k ih =>
      intro hk
      have := g1 k (by omega)
      rw [valTo, if_neg (by simpa using this)]
      exact ih (by omega)
  by_cases hmn : m < n
  · rw [if_pos hmn]
    have hm : (N m).toList = x.toList := by simpa using g2 hmn
    have up : ∀ k, m < k → k ≤ n → valTo N V x k = V m := fun k => by
      induction k with
      | zero => intro h; omega
      | succ k ih =>
        intro h1 h2
        rw [valTo]
        rcases Nat.lt_or_ge m k with h | h
        · have hl := lab_less N V n hok k (by omega) m h
          rw [if_neg ?_]
          · exact ih h (by omega)
          · intro e
            have e' : (N k).toList = x.toList := by simpa using e
            rw [hm, e'] at hl
            exact List.lt_irrefl _ hl
        · have : k = m := by omega
          rw [this, if_pos (by simpa using hm)]
    exact (up n hmn (Nat.le_refl _)).symm
  · rw [if_neg hmn]
    exact (none n (by omega)).symm
/-- The fault of matches. -/
noncomputable def mC (K : Nat → Nat) (N : Nat → ByteArray) (n : Nat) : Int := if 6 < n then 2 else if badAt (matOk K N) n < n then (if kindOk (K (badAt (matOk K N) n)) = true then 4 else 11) else 0
noncomputable def mA (K : Nat → Nat) (N : Nat → ByteArray) (n : Nat) : Int := if 6 < n then -1 else if badAt (matOk K N) n < n then (badAt (matOk K N) n : Int) else -1
theorem mC_cases (K : Nat → Nat) (N : Nat → ByteArray) (n : Nat) : 0 ≤ mC K N n ∧ (mC K N n = 0 → n ≤ 6 ∧ ∀ i, i < n → matOk K N i = true) := by
  unfold mC
  by_cases h6 : 6 < n
  · rw [if_pos h6]; exact ⟨by omega, fun h => by omega⟩
  · rw [if_neg h6]
    by_cases hb : badAt (matOk K N) n < n
    · rw [if_pos hb]
      split
      · exact ⟨by omega, fun h => by omega⟩
      · exact ⟨by omega, fun h => by omega⟩
    · rw [if_neg hb]
      obtain ⟨g, g1, g2⟩ := badAt_spec (matOk K N) n
      have hbn : badAt (matOk K N) n = n := by omega
      rw [hbn] at g1
      exact ⟨by omega, fun _ => ⟨by omega, g1⟩⟩
theorem mfault_f (w : World) (la : Option Addr) (n c : Nat) (K : Nat → Nat) (N V : Nat → ByteArray) (hP : Mats w la n K N V) (hsz : ∀ i, i < n → (N i).size ≤ 1000000) (hn : (n : Int) ≤ 9223372036854775807) :
    Calls Tryd.prog 11 #[.slice la n c] w fun e w' => e = .returned (.agg #[.int .i64 (mC K N n), .int .i64 (mA K N n)]) ∧ Below w.heap.size w w' := by
  by_cases h6 : 6 < n
  · refine (matches_many w la n c h6 hn).mono ?_
    rintro e w' ⟨rfl, hb⟩
    exact ⟨by unfold mC mA; rw [if_pos h6, if_pos h6], hb⟩
  · obtain ⟨g, g1, g2⟩ := badAt_spec (matOk K N) n
    exact matches_fault w la n c K N V hP hsz (by omega) _ g g1 g2 _ _ (by unfold mC; rw [if_neg h6]) (by unfold mA; rw [if_neg h6])
end Go.Proofs.YtfanagohfimnkaaDoor
