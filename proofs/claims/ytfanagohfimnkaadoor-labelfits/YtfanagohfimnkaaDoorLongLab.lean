/- The statements' LongLabels by its contract: are labels too long for a statement? -/
import Derived.Test.YtfanagohfimnkaaDoorRefTicksGroup
namespace Go.Proofs.YtfanagohfimnkaaDoor
open Go.RowKit LabMath

/-- What LongLabels answers: 1, or 0 of few and short labels. -/
def LongOut (w w' : World) (N V : Nat → ByteArray) (n : Nat) (e : Ending) : Prop :=
  w' = w ∧ (e = .returned (.int .i64 1) ∨ (e = .returned (.int .i64 0) ∧ n ≤ 20 ∧ ∀ i, i < n → (N i).size ≤ 60 ∧ (V i).size ≤ 60))

set_option maxRecDepth 1000000 in
set_option maxHeartbeats 1000000 in
theorem long_labels (w : World) (la : Option Addr) (n c : Nat) (N V : Nat → ByteArray) (hP : Labs w la n N V) (hn : (n : Int) ≤ 9223372036854775807) :
    Calls Tryd.prog 8 #[.slice la n c] w fun e w' => LongOut w w' N V n e := by
  have HP : Hid (Labs w la n N V) := hP
  clear hP
  by_cases h20 : 20 < n
  · have hd : decide ((20 : Int) < (n : Int)) = true := by simp; omega
    go_enter Tryd.func8, Tryd.ntmps8
    go_wp2
    go_ret
    exact ⟨rfl, .inl rfl⟩
  · have hd : decide ((20 : Int) < (n : Int)) = false := by simp; omega
    have hn20 : n ≤ 20 := by omega
    go_enter Tryd.func8, Tryd.ntmps8
    go_wp2_with fail
    go_loop [3] (fun i => ∃ k : Nat, k ≤ n ∧ i = .int .i64 k ∧ ∀ j, j < k → (N j).size ≤ 60 ∧ (V j).size ≤ 60) (fun i => n - (intOf i).toNat)
    case atStart => exact ⟨0, Nat.zero_le _, rfl, fun j h => absurd h (by omega)⟩
    case round =>
      obtain ⟨k, hk, rfl, hall⟩ := hrel
      have HALL := (show Hid _ from hall)
      clear hall
      by_cases hkn : k < n
      · obtain ⟨lb, lo, rfl, hcs⟩ := HP.out.at k hkn
        obtain ⟨c0, c1⟩ := hcs k hkn
        have hk0 : (0 : Int) ≤ (k : Int) := by omega
        have hk1 : (k : Int) < (n : Int) := by omega
        have HNX : Hid ((N k).size ≤ 60 → (V k).size ≤ 60 → ∀ j, j < k + 1 → (N j).size ≤ 60 ∧ (V j).size ≤ 60) := fun h1 h2 j hj => by
          rcases Nat.lt_or_ge j k with h | h
          · exact HALL.out j h
          · have : j = k := by omega
            subst this
            exact ⟨h1, h2⟩
        clear hcs
        generalize N k = x at *
        generalize V k = y at *
        by_cases h1 : 60 < x.size
        · have d1 : decide ((60 : Int) < (x.size : Int)) = true := by simp; omega
          go_wp2
          go_ret
          exact ⟨rfl, .inl rfl⟩
        · have d1 : decide ((60 : Int) < (x.size : Int)) = false := by simp; omega
          by_cases h2 : 60 < y.size
          · have d2 : decide ((60 : Int) < (y.size : Int)) = true := by simp; omega
            go_wp2
            go_ret
            exact ⟨rfl, .inl rfl⟩
          · have d2 : decide ((60 : Int) < (y.size : Int)) = false := by simp; omega
            have HN := (show Hid _ from HNX.out (by omega) (by omega))
            go_wp2
            go_round
            case rel => exact ⟨k + 1, by omega, by go_num, HN.out⟩
            case measure => simp [intOf]; omega
      · have hge : (n : Int) ≤ (k : Int) := by omega
        have HF : Hid (∀ i, i < n → (N i).size ≤ 60 ∧ (V i).size ≤ 60) := fun i hi => HALL.out i (by omega)
        go_wp2
        go_ret
        exact ⟨rfl, .inr ⟨rfl, hn20, HF.out⟩⟩
end Go.Proofs.YtfanagohfimnkaaDoor
