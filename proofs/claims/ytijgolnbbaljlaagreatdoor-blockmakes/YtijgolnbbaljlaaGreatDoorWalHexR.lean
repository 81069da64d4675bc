/- The document's Hex and Record by contracts. -/
import Derived.Test.YtijgolnbbaljlaaGreatDoorBlkCutSGroup
import Derived.Test.YtijgolnbbaljlaaGreatDoorRefsGroup
import Derived.Deep.QuietTactic
import Derived.BigQuiet
import Derived.Deep.DeepCutAuto
import Derived.Deep.CutBlock
import Derived.Deep.CutRange
import Derived.WalkKit
namespace WalMath
def hexL (l : List UInt8) : List UInt8 := l.flatMap fun c => [hexd (c.toNat / 16), hexd (c.toNat % 16)]
theorem hexL_snoc (l : List UInt8) (c : UInt8) : hexL (l ++ [c]) = hexL l ++ [hexd (c.toNat / 16), hexd (c.toNat % 16)] := by simp [hexL]
theorem hexL_len (l : List UInt8) : (hexL l).length = 2 * l.length := by
  induction l with
  | nil => rfl
  | cons c l ih => simp [hexL] at ih ⊢; omega
end WalMath
namespace Go.Proofs.YtijgolnbbaljlaaGreatDoor
open Go.Shelf Go.RowKit LabMath WalMath
theorem hexS_at (a : Nat) (h : a < 16) : (ByteArray.mk #[48, 49, 50, 51, 52, 53, 54, 55, 56, 57, 97, 98, 99, 100, 101, 102]).extract a (a + 1) = txt [hexd a] := by
  rcases (by omega : a = 0 ∨ a = 1 ∨ a = 2 ∨ a = 3 ∨ a = 4 ∨ a = 5 ∨ a = 6 ∨ a = 7 ∨ a = 8 ∨ a = 9 ∨ a = 10 ∨ a = 11 ∨ a = 12 ∨ a = 13 ∨ a = 14 ∨ a = 15) with rfl | rfl | rfl | rfl | rfl | rfl | rfl | rfl | rfl | rfl | rfl | rfl | rfl | rfl | rfl | rfl
  all_goals rfl

set_option maxRecDepth 1000000 in
set_option maxHeartbeats 2000000 in
theorem hex_any (s : ByteArray) (hs : s.size ≤ 100000) (w : World) :
    Calls Tryz.prog 58 #[.string s] w fun e w' => e = .returned (.string (txt (hexL s.data.toList))) ∧ ∃ q, w' = w.drewN q := by
  have HDR : Hid (∀ k (hk : k < s.size), s.data.toList.take (k + 1) = s.data.toList.take k ++ [s[k]]) := fun k hk => by
    rw [List.take_add_one, List.getElem?_eq_getElem (by rw [Array.length_toList]; exact hk)]
    rfl
  have HTA : Hid (s.data.toList.take s.size = s.data.toList) := List.take_of_length_le (by rw [Array.length_toList]; exact Nat.le_refl _)
  have HTL : Hid (∀ k, k ≤ s.size → (s.data.toList.take k).length = k) := fun k hk => by
    rw [List.length_take, Array.length_toList]
    exact Nat.min_eq_left hk
  obtain ⟨l, hl⟩ : ∃ l, l = s.data.toList := ⟨_, rfl⟩
  rw [← hl] at HDR HTA HTL ⊢
  clear hl
  go_enter Tryz.func58, Tryz.ntmps58
  go_wp2_with fail
  go_loopw [3, 4] (fun o i wr => ∃ (k q : Nat), k ≤ s.size ∧ i = .int .i64 (k : Int) ∧ o = .string (txt (hexL (l.take k))) ∧ wr = w.drewN q) (fun _ i _ => s.size - (intOf i).toNat)
  case atStart => exact ⟨0, 0, Nat.zero_le _, rfl, rfl, rfl⟩
  case round =>
    obtain ⟨k, q, hk, rfl, rfl, rfl⟩ := hrel
    by_cases hks : k < s.size
    · have k0 : (0 : Int) ≤ (k : Int) := by omega
      have k1 : (k : Int) < (s.size : Int) := by omega
      obtain ⟨c, hc⟩ : ∃ c, c = s[k] := ⟨_, rfl⟩
      have hc256 := c.toNat_lt
      have ht := HDR.out k hks
      rw [← hc] at ht
      have hlen := HTL.out k hk
      have HNX : Hid (hexL (l.take (k + 1)) = hexL (l.take k) ++ [hexd (c.toNat / 16)] ++ [hexd (c.toNat % 16)]) := by
        show _ = _
        rw [ht, hexL_snoc, List.append_assoc]
        rfl
      have e1 := hexS_at (c.toNat / 16) (by omega)
      have e2 := hexS_at (c.toNat % 16) (by omega)
      have hl1 := hexL_len (l.take k)
      have a1 : ∀ w, (Op.stringOp .add (txt (hexL (l.take k))) (txt [hexd (c.toNat / 16)])).run Tryz.prog w = .ok (.string (txt (hexL (l.take k) ++ [hexd (c.toNat / 16)]))) w := fun w => add_two _ _ _ (by simp; omega) w
      have a2 : ∀ w, (Op.stringOp .add (txt (hexL (l.take k) ++ [hexd (c.toNat / 16)])) (txt [hexd (c.toNat % 16)])).run Tryz.prog w = .ok (.string (txt (hexL (l.take (k + 1))))) w := fun w => by
        rw [add_two _ _ _ (by simp; omega), HNX.out]
      obtain ⟨a, ha⟩ : ∃ a, a = c.toNat / 16 := ⟨_, rfl⟩
      obtain ⟨b, hb⟩ : ∃ b, b = c.toNat % 16 := ⟨_, rfl⟩
      have ha' : (c.toNat : Int) / 16 = (a : Int) := by omega
      have hb' : (c.toNat : Int) % 16 = (b : Int) := by omega
      rw [← ha] at e1 a1 a2
      rw [← hb] at e2 a2
      have HAB := (show Hid _ from And.intro ha' hb')
      have ba : (a : Int) < 16 := by omega
      have bb : (b : Int) < 16 := by omega
      obtain ⟨o1, ho1⟩ : ∃ o, o = txt (hexL (l.take k) ++ [hexd a]) := ⟨_, rfl⟩
      obtain ⟨o2, ho2⟩ : ∃ o, o = txt (hexL (l.take (k + 1))) := ⟨_, rfl⟩
      obtain ⟨o0, ho0⟩ : ∃ o, o = txt (hexL (l.take k)) := ⟨_, rfl⟩
      rw [← ho1] at a1 a2
      rw [← ho2] at a2
      rw [← ho0] at a1 ⊢
      rw [← e1] at a1
      rw [← e2] at a2
      have HO2 := (show Hid _ from ho2)
      have HC := (show Hid _ from hc)
      clear ha hb ha' hb' e1 e2 hl1 hlen ht ho1 ho2 ho0 hc256 hc
      go_upto_region 7 with fail
      rw [← HC.out, HAB.out.1, HAB.out.2]
      have ham : (a : Int) % 256 = (a : Int) := by omega
      simp only [ham]
      clear ham
      go_quiet (fail)
      go_wp2
      go_roundw
      case rel => exact ⟨k + 1, _, by omega, by go_num, by rw [← HO2.out], by first | rfl | (rw [World.drewN_drewN])⟩
      case measure => simp [intOf] <;> omega
    · have hke : k = s.size := by omega
      subst hke
      go_wp2
      go_ret
      exact ⟨by rw [HTA.out]; rfl, q, rfl⟩

end Go.Proofs.YtijgolnbbaljlaaGreatDoor
