/- The document's answer on masks, by contracts: zeros, turned, MaskOf. -/
import Derived.Test.YtgdflopgdlpimaaDoorRefWave
import Derived.Test.YtgdflopgdlpimaaDoorMaths
import Derived.Test.YtgdflopgdlpimaaDoorSlicesIn
import Derived.Deep.RegionHeld3
import Derived.Deep.QuietTactic
import Derived.BigQuiet
namespace Go.Proofs.YtgdflopgdlpimaaDoor
open Go.RowKit

theorem bit_48 (s : ByteArray) (bs : List Bool) (hs : s = BitMath.txt bs) (i : Nat) (h : i < s.size) (b : Bool) (hb : bs[i]? = some b) : (((s[i]).toNat : Int) == 48) = !b := by
  subst hs
  rw [BitMath.txt_get bs i h]
  have h' : i < bs.length := by rw [BitMath.txt_size] at h; exact h
  rw [List.getElem?_eq_getElem h'] at hb
  rw [Option.some.inj hb]
  cases b <;> rfl

set_option maxRecDepth 1000000 in
theorem zeros_any (bs : List Bool) (w : World) (hl : bs.length ≤ 100000) :
    Calls Tryd.prog 67 #[.string (BitMath.txt bs)] w fun e w' => e = .returned (.int .i64 (BitMath.lz bs : Int)) ∧ w' = w := by
  have hsz := BitMath.txt_size bs
  obtain ⟨s, hs⟩ : ∃ s, s = BitMath.txt bs := ⟨_, rfl⟩
  rw [← hs] at hsz ⊢
  have HS := (show Hid _ from hs)
  have hlz := BitMath.lz_le bs
  have hsl : s.size ≤ 100000 := by omega
  clear hs
  go_enter Tryd.func67, Tryd.ntmps67
  go_wp2_with fail
  go_loop [3] (fun i => ∃ k : Nat, k ≤ BitMath.lz bs ∧ i = .int .i64 k) (fun i => s.size - (intOf i).toNat)
  case atStart => exact ⟨0, Nat.zero_le _, rfl⟩
  case round =>
    obtain ⟨k, hk, rfl⟩ := hrel
    by_cases hlt : k < s.size
    · have hk0 : (0 : Int) ≤ (k : Int) := by omega
      have hk1 : (k : Int) < (s.size : Int) := by omega
      by_cases hz : k < BitMath.lz bs
      · have hb := bit_48 s bs HS.out k hlt false (BitMath.lz_low bs k hz)
        clear hsz hlz hk
        go_wp2
        go_round
        case rel => exact ⟨k + 1, by omega, by go_num⟩
        case measure => simp [intOf]; omega
      · have hke : k = BitMath.lz bs := by omega
        have hb : bs[k]? = some true := by
          cases hx : bs[k]? with
          | none => rw [List.getElem?_eq_none_iff] at hx; omega
          | some b =>
            cases b with
            | true => rfl
            | false => exact absurd (by rw [← hke]; exact hx) (BitMath.lz_end bs)
        have hb := bit_48 s bs HS.out k hlt true hb
        have HKE := (show Hid _ from hke)
        clear hsz hlz hk hke hz
        go_wp2
        go_ret
        exact ⟨by rw [← HKE.out]; rfl, rfl⟩
    · have hke : k = BitMath.lz bs := by omega
      have hge : (s.size : Int) ≤ (k : Int) := by omega
      have HKE := (show Hid _ from hke)
      clear hlz hk hke hsz hlt
      go_wp2
      go_ret
      exact ⟨by rw [← HKE.out]; rfl, rfl⟩

theorem turned_step (P : Program) (bs : List Bool) (k : Nat) (s : ByteArray) (hs : s = BitMath.txt bs) (hk : k < bs.length) (hl : bs.length ≤ 1000) (w : World) :
    (Op.stringOp .add (s.extract k (k + 1)) (BitMath.txt (bs.take k).reverse)).run P w = .ok (.string (BitMath.txt (bs.take (k + 1)).reverse)) w := by
  subst hs
  have e : (BitMath.txt bs).extract k (k + 1) = BitMath.txt [bs[k]] := by
    rw [BitMath.txt_extract, show k + 1 - k = 1 by omega, List.drop_eq_getElem_cons hk]
    rfl
  rw [e, add_txt P [bs[k]] (bs.take k).reverse (by simp; omega) w, List.take_succ_eq_append_getElem hk, List.reverse_append]
  rfl

set_option maxRecDepth 1000000 in
theorem turned_any (bs : List Bool) (w : World) (hl : bs.length ≤ 1000) :
    Calls Tryd.prog 68 #[.string (BitMath.txt bs)] w fun e w' => e = .returned (.string (BitMath.txt bs.reverse)) ∧ w' = w := by
  have hsz := BitMath.txt_size bs
  obtain ⟨s, hs⟩ : ∃ s, s = BitMath.txt bs := ⟨_, rfl⟩
  rw [← hs] at hsz ⊢
  have HS := (show Hid _ from hs)
  have HZ := (show Hid _ from hsz)
  have hsl : s.size ≤ 1000 := by omega
  clear hs hsz
  go_enter Tryd.func68, Tryd.ntmps68
  go_wp2_with fail
  go_loop [3, 4] (fun o i => ∃ k : Nat, k ≤ s.size ∧ i = .int .i64 k ∧ o = .string (BitMath.txt (bs.take k).reverse)) (fun _ i => s.size - (intOf i).toNat)
  case atStart => exact ⟨0, Nat.zero_le _, rfl, rfl⟩
  case round =>
    obtain ⟨k, hk, rfl, rfl⟩ := hrel
    by_cases hlt : k < s.size
    · have hk0 : (0 : Int) ≤ (k : Int) := by omega
      have hk1 : (k : Int) < (s.size : Int) := by omega
      have hadd := turned_step Tryd.prog bs k s HS.out (by have := HZ.out; omega) hl
      go_wp2
      go_round
      case rel => exact ⟨k + 1, by omega, by go_num, rfl⟩
      case measure => simp [intOf]; omega
    · have hke : k = bs.length := by have := HZ.out; omega
      have hge : (s.size : Int) ≤ (k : Int) := by omega
      have he : bs.reverse = (bs.take k).reverse := by rw [hke, List.take_length]
      have HKE := (show Hid _ from he)
      clear hk hke hlt he
      go_wp2
      go_ret
      exact ⟨by rw [HKE.out]; rfl, rfl⟩
end Go.Proofs.YtgdflopgdlpimaaDoor
