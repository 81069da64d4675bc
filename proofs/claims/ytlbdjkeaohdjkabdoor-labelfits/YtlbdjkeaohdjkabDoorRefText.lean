/- The document's text of labels, by its contract. -/
import Derived.Test.YtlbdjkeaohdjkabDoorRefLabel
import Derived.Test.YtlbdjkeaohdjkabDoorRefsGroup
namespace LabMath

/-- The text of the first k labels. -/
def textTo (N V : Nat → ByteArray) : Nat → ByteArray
  | 0 => ⟨#[]⟩
  | k + 1 => (if k = 0 then textTo N V k else textTo N V k ++ ⟨#[44]⟩) ++ N k ++ ⟨#[61]⟩ ++ V k
theorem textTo_size (N V : Nat → ByteArray) (n B : Nat) (h : ∀ i, i < n → (N i).size ≤ B ∧ (V i).size ≤ B) : ∀ k, k ≤ n → (textTo N V k).size ≤ k * (2 * B + 2)
  | 0, _ => by show 0 ≤ _; omega
  | k + 1, hk => by
    have ih := textTo_size N V n B h k (by omega)
    have hb := h k (by omega)
    have h1 : (⟨#[44]⟩ : ByteArray).size = 1 := rfl
    have h2 : (⟨#[61]⟩ : ByteArray).size = 1 := rfl
    rw [textTo]
    split
    · simp only [ByteArray.size_append, h2]
      rw [Nat.add_mul]
      omega
    · simp only [ByteArray.size_append, h1, h2]
      rw [Nat.add_mul]
      omega
end LabMath
namespace Go.Proofs.YtlbdjkeaohdjkabDoor
open Go.RowKit LabMath

set_option maxRecDepth 1000000 in
set_option maxHeartbeats 1000000 in
theorem labels_text (w : World) (la : Option Addr) (n c : Nat) (N V : Nat → ByteArray) (hP : Labs w la n N V) (hsz : ∀ i, i < n → (N i).size ≤ 1000 ∧ (V i).size ≤ 1000) (hn : n ≤ 100) :
    Calls Tryd.prog 20 #[.slice la n c] w fun e w' => e = .returned (.string (textTo N V n)) ∧ ∃ q, w' = w.drewN q := by
  have HP : Hid (Labs w la n N V) := hP
  have HSZ := (show Hid _ from hsz)
  clear hP hsz
  go_enter Tryd.func20, Tryd.ntmps20
  go_wp2_with fail
  go_loopw [3, 4] (fun o i wr => ∃ k q : Nat, k ≤ n ∧ i = .int .i64 k ∧ o = .string (textTo N V k) ∧ wr = w.drewN q) (fun _ i _ => n - (intOf i).toNat)
  case atStart => exact ⟨0, 0, Nat.zero_le _, rfl, rfl, rfl⟩
  case round =>
    obtain ⟨k, q, hk, rfl, rfl, rfl⟩ := hrel
    by_cases hkn : k < n
    · obtain ⟨lb, lo, rfl, hcs⟩ := HP.out.at k hkn
      obtain ⟨c0, c1⟩ := hcs k hkn
      have hk0 : (0 : Int) ≤ (k : Int) := by omega
      have hk1 : (k : Int) < (n : Int) := by omega
      have hts := textTo_size N V n 1000 HSZ.out k (by omega)
      have hbs := HSZ.out k hkn
      have hst : textTo N V (k + 1) = (if k = 0 then textTo N V k else textTo N V k ++ ⟨#[44]⟩) ++ N k ++ ⟨#[61]⟩ ++ V k := rfl
      generalize textTo N V k = t at *
      generalize N k = x at *
      generalize V k = y at *
      have HST := (show Hid _ from hst)
      have h1 : (⟨#[44]⟩ : ByteArray).size = 1 := rfl
      have h2 : (⟨#[61]⟩ : ByteArray).size = 1 := rfl
      have htl : t.size ≤ 1000000 := by
        have : k * (2 * 1000 + 2) ≤ 100 * (2 * 1000 + 2) := Nat.mul_le_mul_right _ (by omega)
        omega
      clear hcs hst hts
      by_cases hz : k = 0
      · subst hz
        have c00 : w.cell? ⟨lb, lo, none⟩ = some (.string x) := by simpa using c0
        have c11 : w.cell? ⟨lb, lo + 1, none⟩ = some (.string y) := by simpa using c1
        have a1 := add_str Tryd.prog t x (by omega)
        have a2 := add_str Tryd.prog (t ++ x) ⟨#[61]⟩ (by rw [ByteArray.size_append]; omega)
        have a3 := add_str Tryd.prog (t ++ x ++ ⟨#[61]⟩) y (by rw [ByteArray.size_append, ByteArray.size_append]; omega)
        have HFIN : Hid (textTo N V 1 = t ++ x ++ ⟨#[61]⟩ ++ y) := by show _ = _; rw [HST.out, if_pos rfl]
        clear c0 c1 h1 h2
        generalize t ++ x ++ ⟨#[61]⟩ ++ y = r3 at *
        generalize t ++ x ++ ⟨#[61]⟩ = r2 at *
        generalize t ++ x = r1 at *
        go_wp2_with fail
        go_quiet (fail)
        go_wp2
        go_roundw
        case rel => exact ⟨1, _, by omega, by go_num, by rw [HFIN.out], by first | rfl | (rw [World.drewN_drewN])⟩
        case measure => simp [intOf] <;> omega
      · have i0 : (0 : Int) < (k : Int) := by omega
        have a0 := add_str Tryd.prog t ⟨#[44]⟩ (by omega)
        have a1 := add_str Tryd.prog (t ++ ⟨#[44]⟩) x (by rw [ByteArray.size_append]; omega)
        have a2 := add_str Tryd.prog (t ++ ⟨#[44]⟩ ++ x) ⟨#[61]⟩ (by rw [ByteArray.size_append, ByteArray.size_append]; omega)
        have a3 := add_str Tryd.prog (t ++ ⟨#[44]⟩ ++ x ++ ⟨#[61]⟩) y (by rw [ByteArray.size_append, ByteArray.size_append, ByteArray.size_append]; omega)
        have HFIN : Hid (textTo N V (k + 1) = t ++ ⟨#[44]⟩ ++ x ++ ⟨#[61]⟩ ++ y) := by show _ = _; rw [HST.out, if_neg hz]
        clear h1 h2
        generalize t ++ ⟨#[44]⟩ ++ x ++ ⟨#[61]⟩ ++ y = r4 at *
        generalize t ++ ⟨#[44]⟩ ++ x ++ ⟨#[61]⟩ = r3 at *
        generalize t ++ ⟨#[44]⟩ ++ x = r2 at *
        generalize t ++ ⟨#[44]⟩ = r1 at *
        go_wp2_with fail
        go_quiet (fail)
        go_wp2
        go_roundw
        case rel => exact ⟨k + 1, _, by omega, by go_num, by rw [HFIN.out], by first | rfl | (rw [World.drewN_drewN])⟩
        case measure => simp [intOf] <;> omega
    · have hke : k = n := by omega
      subst hke
      have hge : (k : Int) ≤ (k : Int) := Int.le_refl _
      obtain ⟨z, hz⟩ : ∃ z, textTo N V k = z := ⟨_, rfl⟩
      rw [hz]
      have HZ := (show Hid _ from hz)
      clear hz
      go_wp2
      go_ret
      exact ⟨by rw [HZ.out]; rfl, q, rfl⟩
end Go.Proofs.YtlbdjkeaohdjkabDoor
