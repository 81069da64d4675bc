/- strconv.ParseUint at base 16, sixty-four bits, by contracts. -/
import Derived.Test.YtplfnblpmagbjabGreatDoorWalMathGroup
import Derived.Test.YtplfnblpmagbjabGreatDoorWalLay
import Derived.Test.YtplfnblpmagbjabGreatDoorRefLabOfGroup
import Derived.Lib.ConvBytes
import Derived.Lib.Hide
import Derived.Laws.Closers25
import Derived.BigGuard
import Derived.WalkKit
namespace Go.Proofs.YtplfnblpmagbjabGreatDoor
open Go.Shelf Go.RowKit WalMath

/-- What ParseUint's inner function answers. -/
def P16 (l : List UInt8) (e : Ending) : Prop :=
  (l ≠ [] ∧ ∃ v : Nat, parse16 0 l = some v ∧ e = .returned (.tuple #[.int .u64 (v : Int), .nilIface])) ∨
  ((l = [] ∨ parse16 0 l = none) ∧ ∃ x m : Int, (m = 1 ∨ m = 2) ∧ e = .returned (.tuple #[.int .u64 x, .iface 168 (.int .i64 m)]))
set_option maxRecDepth 1000000 in
theorem or_32 : ∀ c : Nat, c < 256 → bits .or .u8 (c : Int) 32 = ((c ||| 32 : Nat) : Int) := by decide
set_option maxRecDepth 1000000 in
theorem let_gt : ∀ c : Nat, c < 256 → 97 ≤ c ||| 32 → c ||| 32 ≤ 102 → 57 < c ∧ c ≠ 95 := by decide
set_option maxRecDepth 1000000 in
theorem slower_any (c : Nat) (hc : c < 256) (w : World) : Calls Tryz.prog 100 #[.int .u8 (c : Int)] w fun e w' => e = .returned (.int .u8 ((c ||| 32 : Nat) : Int)) ∧ w' = w := by
  have h := or_32 c hc
  go_enter Tryz.func100, Tryz.ntmps100
  go_wp2
  go_ret
  exact ⟨rfl, rfl⟩

set_option maxHeartbeats 4000000 in
set_option maxRecDepth 1000000 in
theorem iparse_16 (t : ByteArray) (hmax : t.size ≤ 1000000) (w : World) :
    Calls Tryz.prog 84 #[.string t, .int .i64 16, .int .i64 64] w fun e w' => P16 t.data.toList e ∧ Below w.heap.size w w' := by
  by_cases hne : t.size = 0
  · have hem : t.toList.isEmpty = true := by
      have : t.data.toList = [] := List.eq_nil_of_length_eq_zero (by rw [Array.length_toList]; exact hne)
      rw [ByteArray.toList_eq, this]
      rfl
    have HE : Hid (t.data.toList = []) := List.eq_nil_of_length_eq_zero (by rw [Array.length_toList]; exact hne)
    clear hne
    go_enter Tryz.func84, Tryz.ntmps84
    go_wp2
    go_ret2
    exact ⟨.inr ⟨.inl HE.out, 0, 2, .inr rfl, rfl⟩, Below.refl _ _⟩
  have hemp : t.toList.isEmpty = false := by
    rw [← decide_eq_emptyBytes]
    exact decide_eq_false (fun h => hne (by rw [h]; rfl))
  have hcv := Lib.run_convert_string_bytes (P := Tryz.prog) w 9 61 5 t (u := .string) Tryz.underlying9 Tryz.underlying61 Tryz.underlying5
  have hB : ∀ j, j < t.size → (Lib.bytesWorld w 5 t).cell? ⟨w.heap.size, j, none⟩ = some (.int .u8 (t.data.toList.getD j 0).toNat) := fun j hj => Lib.bytesWorld_cell w 5 t j hj
  have HBB : Hid (Below w.heap.size w (Lib.bytesWorld w 5 t)) := Lib.bytesWorld_below _ _ _
  obtain ⟨W1, hW1⟩ : ∃ W1, W1 = Lib.bytesWorld w 5 t := ⟨_, rfl⟩
  rw [← hW1] at hcv hB HBB
  clear hW1
  obtain ⟨bs, hL⟩ : ∃ bs, bs = t.data.toList := ⟨_, rfl⟩
  have hLn : bs.length = t.size := by rw [hL, Array.length_toList]; rfl
  rw [← hL] at hB ⊢
  have HNE : Hid (bs ≠ []) := by
    show bs ≠ []
    intro h
    rw [h] at hLn
    exact hne hLn.symm
  clear hL
  have HBC := (show Hid _ from hB)
  have hmv : IntKind.u64.wrap (IntKind.u64.wrap 18446744073709551616 - 1) = 18446744073709551615 := by
    rw [IntKind.wrap_u64, IntKind.wrap_u64]
    decide
  clear hB
  go_enter Tryz.func84, Tryz.ntmps84
  go_wp2_with fail
  go_loop [12, 13, 101] (fun vu vn vi => ∃ (k acc : Nat) (a : Int), vu = .bool false ∧ vn = .int .u64 a ∧ vi = .int .i64 k ∧ k ≤ t.size ∧ Hid (a = (acc : Int) ∧ acc < 18446744073709551616 ∧ parse16 0 bs = parse16 acc (bs.drop k)))
    (fun _ _ vi => t.size - (intOf vi).toNat)
  case atStart => exact ⟨0, 0, 0, rfl, rfl, rfl, by omega, rfl, by omega, rfl⟩
  case round =>
    obtain ⟨k, acc, a, rfl, rfl, rfl, hk, hh⟩ := hrel
    obtain ⟨ha, hacc, hdec⟩ := hh.out
    clear hh
    have a0 : 0 ≤ a := by omega
    have a1 : a < 18446744073709551616 := by omega
    by_cases hkn : k < t.size
    · have hc := HBC.out k hkn
      have hdrop : bs.drop k = bs[k]'(by omega) :: bs.drop (k + 1) := List.drop_eq_getElem_cons (by omega)
      have hget : bs.getD k 0 = bs[k]'(by omega) := by simp [List.getD, List.getElem?_eq_getElem (show k < bs.length by omega)]
      rw [hdrop, parse16] at hdec
      rw [hget] at hc
      generalize bs[k]'(by omega) = c at hc hdec
      have hc256 : c.toNat < 256 := c.toNat_lt
      have hlow := or_32 c.toNat hc256
      have HLW : Hid (∀ w', Calls Tryz.prog 100 #[.int .u8 (c.toNat : Int)] w' fun e w2 => e = .returned (.int .u8 ((c.toNat ||| 32 : Nat) : Int)) ∧ w2 = w') := fun w' => slower_any c.toNat hc256 w'
      obtain ⟨lc, hlc⟩ : ∃ lc, lc = c.toNat ||| 32 := ⟨_, rfl⟩
      have hlc255 : lc < 256 := by rw [hlc]; exact Nat.or_lt_two_pow (n := 8) hc256 (by decide)
      rw [← hlc] at HLW
      have hv : hexV c.toNat = if 48 ≤ c.toNat ∧ c.toNat ≤ 57 then some (c.toNat - 48) else if 97 ≤ lc ∧ lc ≤ 102 then some (lc - 87) else none := by rw [hlc]; rfl
      have HHV := (show Hid _ from hv)
      have HDEC := (show Hid _ from hdec)
      have HGT : Hid (97 ≤ lc → lc ≤ 102 → 57 < c.toNat ∧ c.toNat ≠ 95) := by rw [hlc]; exact let_gt _ hc256
      clear hdrop hget hlc hlow hv hdec
      obtain ⟨cn, hcn⟩ : ∃ cn, cn = c.toNat := ⟨_, rfl⟩
      rw [← hcn] at hc hc256 HLW HHV HDEC HGT
      clear hcn
      by_cases hdig : 48 ≤ cn ∧ cn ≤ 57
      · obtain ⟨hd0, hd1⟩ := hdig
        have hF : hexV cn = some (cn - 48) := by rw [HHV.out, if_pos ⟨hd0, hd1⟩]
        have hdec := HDEC.out
        rw [hF] at hdec
        dsimp only at hdec
        by_cases hcut : 1152921504606846976 ≤ acc
        · rw [if_pos hcut] at hdec
          have HD := (show Hid _ from hdec)
          have icut : 1152921504606846976 ≤ a := by omega
          clear hcut hacc hF ha hdec
          go_wp2
          go_ret2
          exact ⟨.inr ⟨.inr HD.out, _, 1, .inl rfl, rfl⟩, HBB.out⟩
        · rw [if_neg hcut] at hdec
          have HN : Hid (a * 16 + ((cn : Int) - 48) = ((acc * 16 + (cn - 48) : Nat) : Int) ∧ acc * 16 + (cn - 48) < 18446744073709551616 ∧ parse16 0 bs = parse16 (acc * 16 + (cn - 48)) (bs.drop (k + 1))) := ⟨by omega, by omega, hdec⟩
          have icut : a < 1152921504606846976 := by omega
          have iov : a * 16 + ((cn : Int) - 48) < 18446744073709551616 := by omega
          clear hcut hacc hF hdec ha
          go_wp2
          exact ⟨⟨k + 1, acc * 16 + (cn - 48), a * 16 + ((cn : Int) - 48), rfl, (by first | rfl | (congr 1; omega)), (by first | rfl | (congr 1; omega)), by omega, HN⟩, by simp [intOf]; omega⟩
      · by_cases hlet : 97 ≤ lc ∧ lc ≤ 102
        · obtain ⟨hl0, hl1⟩ := hlet
          have hF : hexV cn = some (lc - 87) := by rw [HHV.out, if_neg hdig, if_pos ⟨hl0, hl1⟩]
          have hdec := HDEC.out
          rw [hF] at hdec
          dsimp only at hdec
          have il0 : (97 : Int) ≤ (lc : Int) := by omega
          have il1 : (lc : Int) ≤ 122 := by omega
          have hgt := HGT.out hl0 hl1
          have d48 : (48 : Int) ≤ (cn : Int) := by omega
          have d57 : decide ((cn : Int) ≤ 57) = false := by simp; omega
          have d95 : ((cn : Int) == 95) = false := by rw [beq_eq_false_iff_ne]; omega
          clear hdig HGT HHV hgt
          by_cases hcut : 1152921504606846976 ≤ acc
          · rw [if_pos hcut] at hdec
            have HD := (show Hid _ from hdec)
            have icut : 1152921504606846976 ≤ a := by omega
            clear hcut hacc hF ha hdec
            go_wp2_with fail
            refine Calls.mono (HLW.out _) ?_
            rintro e w' ⟨rfl, hw'⟩
            have hw'' := hw'.symm
            subst hw''
            go_wp2_with fail
            refine Calls.mono (HLW.out _) ?_
            rintro e w' ⟨rfl, hw'⟩
            have hw'' := hw'.symm
            subst hw''
            go_wp2_with fail
            refine Calls.mono (HLW.out _) ?_
            rintro e w' ⟨rfl, hw'⟩
            have hw'' := hw'.symm
            subst hw''
            go_wp2
            go_ret2
            exact ⟨.inr ⟨.inr HD.out, _, 1, .inl rfl, rfl⟩, HBB.out⟩
          · rw [if_neg hcut] at hdec
            have HN : Hid (a * 16 + ((lc : Int) - 97 + 10) = ((acc * 16 + (lc - 87) : Nat) : Int) ∧ acc * 16 + (lc - 87) < 18446744073709551616 ∧ parse16 0 bs = parse16 (acc * 16 + (lc - 87)) (bs.drop (k + 1))) := ⟨by omega, by omega, hdec⟩
            have icut : a < 1152921504606846976 := by omega
            have iov : a * 16 + ((lc : Int) - 97 + 10) < 18446744073709551616 := by omega
            clear hcut hacc hF hdec ha
            go_wp2_with fail
            refine Calls.mono (HLW.out _) ?_
            rintro e w' ⟨rfl, hw'⟩
            have hw'' := hw'.symm
            subst hw''
            go_wp2_with fail
            refine Calls.mono (HLW.out _) ?_
            rintro e w' ⟨rfl, hw'⟩
            have hw'' := hw'.symm
            subst hw''
            go_wp2_with fail
            refine Calls.mono (HLW.out _) ?_
            rintro e w' ⟨rfl, hw'⟩
            have hw'' := hw'.symm
            subst hw''
            go_wp2
            exact ⟨⟨k + 1, acc * 16 + (lc - 87), a * 16 + ((lc : Int) - 97 + 10), rfl, (by first | rfl | (congr 1; omega)), (by first | rfl | (congr 1; omega)), by omega, HN⟩, by simp [intOf]; omega⟩
        · have hF : hexV cn = none := by rw [HHV.out, if_neg hdig, if_neg hlet]
          have hdec := HDEC.out
          rw [hF] at hdec
          have HD := (show Hid _ from hdec)
          have HLT := (show Hid (¬ (97 ≤ lc ∧ lc ≤ 102)) from hlet)
          clear hF hdec hacc ha HGT HHV HDEC hlet
          have hdg : decide ((48 : Int) ≤ (cn : Int)) = false ∨ ((48 : Int) ≤ (cn : Int) ∧ decide ((cn : Int) ≤ 57) = false) := by
            rcases (by omega : cn < 48 ∨ 57 < cn) with h | h
            · exact .inl (by simp; omega)
            · exact .inr ⟨by omega, by simp; omega⟩
          clear hdig
          rcases (by have := HLT.out; omega : lc < 97 ∨ 122 < lc ∨ (103 ≤ lc ∧ lc ≤ 122)) with h1 | h1 | ⟨h1, h2⟩
          · have e1 : decide ((97 : Int) ≤ (lc : Int)) = false := by simp; omega
            clear h1
            rcases hdg with d48 | ⟨d48, d57⟩ <;> cases h95 : ((cn : Int) == 95)
            all_goals ((go_wp2_with fail; refine Calls.mono (HLW.out _) ?_; rintro e w' ⟨rfl, hw'⟩; have hw'' := hw'.symm; subst hw''); (go_wp2; go_ret2; exact ⟨.inr ⟨.inr HD.out, _, 2, .inr rfl, rfl⟩, HBB.out⟩))
          · have e1 : (97 : Int) ≤ (lc : Int) := by omega
            have e2 : decide ((lc : Int) ≤ 122) = false := by simp; omega
            clear h1
            rcases hdg with d48 | ⟨d48, d57⟩ <;> cases h95 : ((cn : Int) == 95)
            all_goals ((go_wp2_with fail; refine Calls.mono (HLW.out _) ?_; rintro e w' ⟨rfl, hw'⟩; have hw'' := hw'.symm; subst hw''); (go_wp2_with fail; refine Calls.mono (HLW.out _) ?_; rintro e w' ⟨rfl, hw'⟩; have hw'' := hw'.symm; subst hw''); (go_wp2; go_ret2; exact ⟨.inr ⟨.inr HD.out, _, 2, .inr rfl, rfl⟩, HBB.out⟩))
          · have e1 : (97 : Int) ≤ (lc : Int) := by omega
            have e2 : (lc : Int) ≤ 122 := by omega
            have e3 : (16 : Int) ≤ (lc : Int) - 97 + 10 := by omega
            clear h1 h2
            rcases hdg with d48 | ⟨d48, d57⟩ <;> cases h95 : ((cn : Int) == 95)
            all_goals ((go_wp2_with fail; refine Calls.mono (HLW.out _) ?_; rintro e w' ⟨rfl, hw'⟩; have hw'' := hw'.symm; subst hw''); (go_wp2_with fail; refine Calls.mono (HLW.out _) ?_; rintro e w' ⟨rfl, hw'⟩; have hw'' := hw'.symm; subst hw''); (go_wp2_with fail; refine Calls.mono (HLW.out _) ?_; rintro e w' ⟨rfl, hw'⟩; have hw'' := hw'.symm; subst hw''); (go_wp2; go_ret2; exact ⟨.inr ⟨.inr HD.out, _, 2, .inr rfl, rfl⟩, HBB.out⟩))
    · have hkk : k = t.size := by omega
      subst hkk
      have hF : parse16 acc (bs.drop t.size) = some acc := by rw [List.drop_eq_nil_of_le (by omega)]; rfl
      rw [hF] at hdec
      have HD := (show Hid _ from hdec)
      subst ha
      clear hacc hF a0 a1 hdec
      go_wp2
      go_ret2
      exact ⟨.inl ⟨HNE.out, acc, HD.out, rfl⟩, HBB.out⟩
end Go.Proofs.YtplfnblpmagbjabGreatDoor
