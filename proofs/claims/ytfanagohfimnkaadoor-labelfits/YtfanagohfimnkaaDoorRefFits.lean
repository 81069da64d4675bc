/- The document's FitsOf by its contract: do right labels fit right matches? -/
import Derived.Test.YtfanagohfimnkaaDoorRefMatch
namespace LabMath

/-- The value of a name; empty if there is none. -/
def valTo (N V : Nat → ByteArray) (x : ByteArray) : Nat → ByteArray
  | 0 => ⟨#[]⟩
  | k + 1 => if ((N k).toList == x.toList) = true then V k else valTo N V x k
def fitB (k : Nat) (v w : ByteArray) : Bool :=
  if k = 33 then !(v.toList == w.toList) else if k = 126 then decide (w.size ≤ v.size) && ((v.extract 0 w.size).toList == w.toList) else v.toList == w.toList
def fitsTo (N V : Nat → ByteArray) (n : Nat) (K : Nat → Nat) (X Y : Nat → ByteArray) : Nat → Bool
  | 0 => true
  | k + 1 => fitsTo N V n K X Y k && fitB (K k) (valTo N V (X k) n) (Y k)
theorem fits_no (N V : Nat → ByteArray) (n : Nat) (K : Nat → Nat) (X Y : Nat → ByteArray) (k : Nat) (h : fitB (K k) (valTo N V (X k) n) (Y k) = false) : ∀ m, k < m → fitsTo N V n K X Y m = false
  | 0, hk => absurd hk (by omega)
  | m + 1, hk => by
    rw [fitsTo]
    rcases Nat.lt_or_ge k m with h1 | h1
    · rw [fits_no N V n K X Y k h m h1, Bool.false_and]
    · have : k = m := by omega
      subst this
      rw [h, Bool.and_false]
end LabMath
namespace Go.Proofs.YtfanagohfimnkaaDoor
open Go.RowKit LabMath

set_option maxRecDepth 1000000 in
set_option maxHeartbeats 4000000 in
theorem fits_of (w : World) (la lm : Option Addr) (n c m cm : Nat) (N V : Nat → ByteArray) (K : Nat → Nat) (X Y : Nat → ByteArray) (hL : Labs w la n N V) (hM : Mats w lm m K X Y) (hn : n ≤ 1000) (hm : m ≤ 1000) :
    Calls Tryd.prog 13 #[.slice la n c, .slice lm m cm] w fun e w' => e = .returned (.bool (fitsTo N V n K X Y m)) ∧ ∃ q, w' = w.drewN q := by
  have HL : Hid (Labs w la n N V) := hL
  have HM : Hid (Mats w lm m K X Y) := hM
  clear hL hM
  go_enter Tryd.func13, Tryd.ntmps13
  go_wp2_with fail
  go_loopw [5] (fun i wr => ∃ k q : Nat, k ≤ m ∧ i = .int .i64 k ∧ fitsTo N V n K X Y k = true ∧ wr = w.drewN q) (fun i _ => m - (intOf i).toNat)
  case atStart => exact ⟨0, 0, Nat.zero_le _, rfl, rfl, rfl⟩
  case round =>
    obtain ⟨k, q, hk, rfl, hft, rfl⟩ := hrel
    by_cases hkm : k < m
    · obtain ⟨mb, mo, rfl, hcs⟩ := HM.out.at k hkm
      obtain ⟨ck, cx, cy, hkb⟩ := hcs k hkm
      have hk0 : (0 : Int) ≤ (k : Int) := by omega
      have hk1 : (k : Int) < (m : Int) := by omega
      have HNO := (show Hid _ from fits_no N V n K X Y k)
      have HYES : Hid (fitB (K k) (valTo N V (X k) n) (Y k) = true → fitsTo N V n K X Y (k + 1) = true) := fun h => by rw [fitsTo, hft, h]; rfl
      generalize K k = kk at *
      generalize X k = x at *
      generalize Y k = y at *
      clear hcs hft
      go_wp2_with fail
      go_loopw [6, 7] (fun t i wr => ∃ j p : Nat, j ≤ n ∧ i = .int .i64 j ∧ t = .string (valTo N V x j) ∧ wr = w.drewN p) (fun _ i _ => n - (intOf i).toNat)
      case atStart => exact ⟨0, q, Nat.zero_le _, rfl, rfl, rfl⟩
      case round =>
        obtain ⟨j, p, hj, rfl, rfl, rfl⟩ := hrel
        by_cases hjn : j < n
        · obtain ⟨lb, lo, rfl, hcl⟩ := HL.out.at j hjn
          obtain ⟨c0, c1⟩ := hcl j hjn
          have hj0 : (0 : Int) ≤ (j : Int) := by omega
          have hj1 : (j : Int) < (n : Int) := by omega
          have hst : valTo N V x (j + 1) = if ((N j).toList == x.toList) = true then V j else valTo N V x j := rfl
          generalize N j = nj at *
          generalize V j = vj at *
          clear hcl
          cases hq : (nj.toList == x.toList) with
          | true =>
            rw [hq, if_pos rfl] at hst
            have HST := (show Hid _ from hst)
            clear hst
            go_wp2_with fail
            go_quiet (fail)
            go_wp2
            go_roundw
            case rel => exact ⟨j + 1, _, by omega, by go_num, by rw [HST.out], by first | rfl | (rw [World.drewN_drewN])⟩
            case measure => simp [intOf] <;> omega
          | false =>
            rw [hq, if_neg (by decide)] at hst
            have HST := (show Hid _ from hst)
            clear hst
            go_wp2_with fail
            go_quiet (fail)
            go_wp2
            go_roundw
            case rel => exact ⟨j + 1, _, by omega, by go_num, by rw [HST.out], by first | rfl | (rw [World.drewN_drewN])⟩
            case measure => simp [intOf] <;> omega
        · have hje : j = n := by omega
          subst hje
          have hge : (j : Int) ≤ (j : Int) := Int.le_refl _
          generalize valTo N V x j = v at *
          by_cases h33 : kk = 33
          · subst h33
            cases hq : (v.toList == y.toList) with
            | true =>
              have HF := (show Hid _ from HNO.out (by unfold fitB; rw [if_pos rfl, hq]; rfl) m hkm)
              go_wp2
              go_ret
              exact ⟨by rw [HF.out]; rfl, p, rfl⟩
            | false =>
              have HF := (show Hid _ from HYES.out (by unfold fitB; rw [if_pos rfl, hq]; rfl))
              go_wp2
              go_roundw
              case rel => exact ⟨k + 1, p, by omega, by go_num, HF.out, by first | rfl | trivial⟩
              case measure => simp [intOf] <;> omega
          · have e33 : ((kk : Int) == 33) = false := by rw [beq_eq_false_iff_ne]; omega
            by_cases h126 : kk = 126
            · subst h126
              by_cases hsz : y.size ≤ v.size
              · have d1 : decide ((y.size : Int) ≤ (v.size : Int)) = true := by simp; omega
                have i1 : (y.size : Int) ≤ (v.size : Int) := by omega
                cases hq : ((v.extract 0 y.size).toList == y.toList) with
                | true =>
                  have HF := (show Hid _ from HYES.out (by unfold fitB; rw [if_neg (by decide), if_pos rfl, decide_eq_true hsz, hq]; rfl))
                  go_wp2
                  go_roundw
                  case rel => exact ⟨k + 1, p, by omega, by go_num, HF.out, by first | rfl | trivial⟩
                  case measure => simp [intOf] <;> omega
                | false =>
                  have HF := (show Hid _ from HNO.out (by unfold fitB; rw [if_neg (by decide), if_pos rfl, decide_eq_true hsz, hq]; rfl) m hkm)
                  go_wp2
                  go_ret
                  exact ⟨by rw [HF.out]; rfl, p, rfl⟩
              · have d1 : decide ((y.size : Int) ≤ (v.size : Int)) = false := by simp; omega
                have HF := (show Hid _ from HNO.out (by unfold fitB; rw [if_neg (by decide), if_pos rfl, decide_eq_false hsz]; rfl) m hkm)
                go_wp2
                go_ret
                exact ⟨by rw [HF.out]; rfl, p, rfl⟩
            · have e126 : ((kk : Int) == 126) = false := by rw [beq_eq_false_iff_ne]; omega
              cases hq : (v.toList == y.toList) with
              | true =>
                have HF := (show Hid _ from HYES.out (by unfold fitB; rw [if_neg h33, if_neg h126, hq]))
                go_wp2
                go_roundw
                case rel => exact ⟨k + 1, p, by omega, by go_num, HF.out, by first | rfl | trivial⟩
                case measure => simp [intOf] <;> omega
              | false =>
                have HF := (show Hid _ from HNO.out (by unfold fitB; rw [if_neg h33, if_neg h126, hq]) m hkm)
                go_wp2
                go_ret
                exact ⟨by rw [HF.out]; rfl, p, rfl⟩
    · have hke : k = m := by omega
      subst hke
      have hge : (k : Int) ≤ (k : Int) := Int.le_refl _
      have HFT := (show Hid _ from hft)
      clear hft
      go_wp2
      go_ret
      exact ⟨by rw [HFT.out]; rfl, q, rfl⟩
end Go.Proofs.YtfanagohfimnkaaDoor
