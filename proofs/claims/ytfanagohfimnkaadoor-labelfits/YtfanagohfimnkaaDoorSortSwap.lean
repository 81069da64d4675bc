/- slices' swapRange and rotate by contracts. -/
import Derived.Test.YtfanagohfimnkaaDoorSortAt
import Derived.BigRegion
namespace Go.Proofs.YtfanagohfimnkaaDoor
open Go.RowKit SortMath

/-- The comparing function, as it is handed on. -/
def cmpF (p : SP) : Value := .func (.func 45) #[] #[.pointer (some ⟨p.tb, 0, none⟩)]
/-- The row, as it is handed on. -/
def rowV (p : SP) : Value := .slice (some ⟨p.g, 0, none⟩) p.n p.cap

set_option maxRecDepth 1000000 in
set_option maxHeartbeats 2000000 in
theorem swapRange_any (p : SP) (hn : p.n ≤ 100) (D : Nat → Nat) (a b k : Nat) (f : Value) (w : World) (h : At p D w) (h1 : a + k ≤ b) (h2 : b + k ≤ p.n) :
    Calls Tryd.prog 108 #[rowV p, .int .i64 (a : Int), .int .i64 (b : Int), .int .i64 (k : Int), f] w fun e w' => e = .returned (.tuple #[]) ∧ At p (swR D a b k) w' := by
  have H : Hid (At p D w) := h
  unfold rowV
  clear h
  go_enter Tryd.func108, Tryd.ntmps108
  go_wp2_with fail
  go_loopw [10, 11, 12] (fun i _ _ wr => ∃ x : Nat, x ≤ k ∧ i = .int .i64 x ∧ At p (swR D a b x) wr) (fun i _ _ _ => k - (intOf i).toNat)
  case atStart => exact ⟨0, Nat.zero_le _, rfl, by rw [swR_zero]; exact H.out⟩
  case round =>
    obtain ⟨x, hx, rfl, hat⟩ := hrel
    by_cases hlt : x < k
    · have hxk : (x : Int) < (k : Int) := by omega
      have i1 : (0 : Int) ≤ (a : Int) + (x : Int) := by omega
      have i2 : (a : Int) + (x : Int) < (p.n : Int) := by omega
      have i3 : (0 : Int) ≤ (b : Int) + (x : Int) := by omega
      have i4 : (b : Int) + (x : Int) < (p.n : Int) := by omega
      have c1 := hat.cell (i := a + x) (by omega)
      have c2 := hat.cell (i := b + x) (by omega)
      have f1 := hat.free (a + x)
      have f2 := hat.free (b + x)
      have hsw := hat.swap (i := a + x) (j := b + x) (by omega) (by omega) (by omega)
      rw [swR_step D a b x (by omega)] at hsw
      have HSW := (show Hid _ from hsw)
      have hne : a + x ≠ b + x := by omega
      obtain ⟨u, hu⟩ : ∃ u, swR D a b x (a + x) = u := ⟨_, rfl⟩
      obtain ⟨v, hv⟩ : ∃ v, swR D a b x (b + x) = v := ⟨_, rfl⟩
      rw [hu] at c1 HSW
      rw [hv] at c2 HSW
      clear hat hsw hu hv
      go_wp2_with fail
      go_region
      all_goals (go_wp2; refine ⟨⟨x + 1, by omega, by go_num, HSW.out.drew⟩, ?_⟩; simp [intOf]; omega)
    · have hxe : x = k := by omega
      subst hxe
      have HAT := (show Hid _ from hat)
      clear hat
      go_wp2
      go_end0
      exact ⟨rfl, HAT.out⟩

set_option maxRecDepth 1000000 in
set_option maxHeartbeats 2000000 in
theorem rotate_any (p : SP) (hn : p.n ≤ 100) (D : Nat → Nat) (a m b : Nat) (f : Value) (w : World) (h : At p D w) (h1 : a < m) (h2 : m < b) (h3 : b ≤ p.n) :
    Calls Tryd.prog 99 #[rowV p, .int .i64 (a : Int), .int .i64 (m : Int), .int .i64 (b : Int), f] w fun e w' => e = .returned (.tuple #[]) ∧ At p (rot D a m b) w' := by
  have H : Hid (At p D w) := h
  have HI : Hid (RotInv (rot D a m b) D m (m - a) (b - m)) := rot_init D a m b (by omega) (by omega)
  obtain ⟨R, hR⟩ : ∃ R, R = rot D a m b := ⟨_, rfl⟩
  rw [← hR] at HI ⊢
  have e1 : ((m - a : Nat) : Int) = (m : Int) - (a : Int) := by omega
  have e2 : ((b - m : Nat) : Int) = (b : Int) - (m : Int) := by omega
  clear h hR
  unfold rowV
  go_enter Tryd.func99, Tryd.ntmps99
  go_wp2_with fail
  go_loopw [10, 11, 18] (fun i j _ wr => ∃ (x y : Nat) (E : Nat → Nat), 1 ≤ x ∧ 1 ≤ y ∧ x ≤ m ∧ m + y ≤ p.n ∧ i = .int .i64 x ∧ j = .int .i64 y ∧ At p E wr ∧ RotInv R E m x y) (fun i j _ _ => (intOf i).toNat + (intOf j).toNat)
  case atStart => exact ⟨m - a, b - m, D, by omega, by omega, by omega, by omega, by rw [e1], by rw [e2], H.out, HI.out⟩
  case round =>
    obtain ⟨x, y, E, hx1, hy1, hxm, hym, rfl, rfl, hat, hri⟩ := hrel
    have HAT := (show Hid _ from hat)
    have HRI := (show Hid _ from hri)
    clear hat hri HI H e1 e2
    rcases Nat.lt_trichotomy x y with hc | hc | hc
    · have hne : ((x : Int) != (y : Int)) = true := by rw [bne_iff_ne]; omega
      have hg : decide ((y : Int) < (x : Int)) = false := by simp; omega
      have HS : Hid (∀ w0, At p E w0 → Calls Tryd.prog 108 #[.slice (some ⟨p.g, 0, none⟩) p.n p.cap, .int .i64 ((m : Int) - (x : Int)), .int .i64 ((m : Int) + (y : Int) - (x : Int)), .int .i64 (x : Int), f] w0 fun e w' => e = .returned (.tuple #[]) ∧ At p (swR E (m - x) (m + y - x) x) w') := fun w0 h0 => by
        have := swapRange_any p hn E (m - x) (m + y - x) x f w0 h0 (by omega) (by omega)
        rw [show ((m - x : Nat) : Int) = (m : Int) - (x : Int) by omega, show ((m + y - x : Nat) : Int) = (m : Int) + (y : Int) - (x : Int) by omega] at this
        exact this
      go_wp2_with fail
      refine Calls.mono (HS.out _ HAT.out) ?_
      rintro e w1 ⟨rfl, hat1⟩
      have HAT1 := (show Hid _ from hat1)
      clear hat1 HS
      go_wp2
      go_roundw
      case rel => exact ⟨x, y - x, _, hx1, by omega, hxm, by omega, rfl, by rw [show ((y - x : Nat) : Int) = (y : Int) - (x : Int) by omega], HAT1.out, rot_lt HRI.out hxm hc⟩
      case measure => simp [intOf] <;> omega
    · subst hc
      have hne : ((x : Int) != (x : Int)) = false := by simp
      have HS : Hid (∀ w0, At p E w0 → Calls Tryd.prog 108 #[.slice (some ⟨p.g, 0, none⟩) p.n p.cap, .int .i64 ((m : Int) - (x : Int)), .int .i64 (m : Int), .int .i64 (x : Int), f] w0 fun e w' => e = .returned (.tuple #[]) ∧ At p (swR E (m - x) m x) w') := fun w0 h0 => by
        have := swapRange_any p hn E (m - x) m x f w0 h0 (by omega) (by omega)
        rw [show ((m - x : Nat) : Int) = (m : Int) - (x : Int) by omega] at this
        exact this
      go_wp2_with fail
      refine Calls.mono (HS.out _ HAT.out) ?_
      rintro e w1 ⟨rfl, hat1⟩
      rw [rot_eq HRI.out hxm] at hat1
      have HAT1 := (show Hid _ from hat1)
      clear hat1 HS
      go_wp2
      go_end0
      exact ⟨rfl, HAT1.out⟩
    · have hne : ((x : Int) != (y : Int)) = true := by rw [bne_iff_ne]; omega
      have hg : decide ((y : Int) < (x : Int)) = true := by simp; omega
      have HS : Hid (∀ w0, At p E w0 → Calls Tryd.prog 108 #[.slice (some ⟨p.g, 0, none⟩) p.n p.cap, .int .i64 ((m : Int) - (x : Int)), .int .i64 (m : Int), .int .i64 (y : Int), f] w0 fun e w' => e = .returned (.tuple #[]) ∧ At p (swR E (m - x) m y) w') := fun w0 h0 => by
        have := swapRange_any p hn E (m - x) m y f w0 h0 (by omega) (by omega)
        rw [show ((m - x : Nat) : Int) = (m : Int) - (x : Int) by omega] at this
        exact this
      go_wp2_with fail
      refine Calls.mono (HS.out _ HAT.out) ?_
      rintro e w1 ⟨rfl, hat1⟩
      have HAT1 := (show Hid _ from hat1)
      clear hat1 HS
      go_wp2
      go_roundw
      case rel => exact ⟨x - y, y, _, by omega, hy1, by omega, hym, by rw [show ((x - y : Nat) : Int) = (x : Int) - (y : Int) by omega], rfl, HAT1.out, rot_gt HRI.out hxm hc⟩
      case measure => simp [intOf] <;> omega
end Go.Proofs.YtfanagohfimnkaaDoor
