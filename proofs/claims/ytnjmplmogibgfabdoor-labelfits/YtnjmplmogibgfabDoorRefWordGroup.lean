/- The document's isWord and IsName by contracts. -/
import Derived.Test.YtnjmplmogibgfabDoorRefsGroup
import Derived.Test.YtnjmplmogibgfabDoorLabMathGroup
namespace Go.Proofs.YtnjmplmogibgfabDoor
open Go.RowKit LabMath

set_option maxRecDepth 1000000 in
set_option maxHeartbeats 1000000 in
theorem isWord_any (s : ByteArray) (w : World) (hs : s.size ≤ 1000000) :
    Calls Tryd.prog 69 #[.string s] w fun e w' => e = .returned (.bool (isWord s)) ∧ w' = w := by
  go_enter Tryd.func69, Tryd.ntmps69
  go_wp2_with fail
  go_loop [3, 4, 5] (fun i _ _ => ∃ k : Nat, k ≤ s.size ∧ i = .int .i64 k ∧ ∀ j (hj : j < s.size), j < k → wordB s[j] = true) (fun i _ _ => s.size - (intOf i).toNat)
  case atStart => exact ⟨0, Nat.zero_le _, rfl, fun j _ h => absurd h (by omega)⟩
  case round =>
    obtain ⟨k, hk, rfl, hall⟩ := hrel
    by_cases hlt : k < s.size
    · have hk0 : (0 : Int) ≤ (k : Int) := by omega
      have hk1 : (k : Int) < (s.size : Int) := by omega
      have HALL := (show Hid _ from hall)
      have hno := isWord_no s k hlt
      have HNX : Hid (wordB s[k] = true → ∀ j (hj : j < s.size), j < k + 1 → wordB s[j] = true) := fun h j hj hjk => by
        rcases Nat.lt_or_ge j k with h1 | h1
        · exact HALL.out j hj h1
        · have : j = k := by omega
          subst this
          exact h
      have HNO := (show Hid _ from hno)
      have hb := (s[k]).toNat_lt
      obtain ⟨b, hb0⟩ : ∃ b, (s[k]).toNat = b := ⟨_, rfl⟩
      have HB0 := (show Hid _ from hb0)
      have HW : Hid (wordB s[k] = decide ((97 ≤ b ∧ b ≤ 122) ∨ (48 ≤ b ∧ b ≤ 57) ∨ b = 45)) := by
        show wordB s[k] = _
        unfold wordB
        rw [hb0]
      clear hall hno
      by_cases h1 : 97 ≤ b
      · have d1 : decide ((97 : Int) ≤ (b : Int)) = true := by simp; omega
        by_cases h2 : b ≤ 122
        · have d2 : decide ((b : Int) ≤ 122) = true := by simp; omega
          have HOK : Hid (wordB s[k] = true) := by show _ = _; rw [HW.out]; simp; omega
          go_wp2
          go_round
          case rel => exact ⟨k + 1, by omega, by go_num, HNX.out HOK.out⟩
          case measure => simp [intOf]; omega
        · have d2 : decide ((b : Int) ≤ 122) = false := by simp; omega
          have d3 : decide ((48 : Int) ≤ (b : Int)) = true := by simp; omega
          have d4 : decide ((b : Int) ≤ 57) = false := by simp; omega
          have d5 : ((b : Int) == 45) = false := by rw [beq_eq_false_iff_ne]; omega
          have HOK : Hid (wordB s[k] = false) := by show _ = _; rw [HW.out]; simp; omega
          go_wp2
          go_ret
          exact ⟨by rw [HNO.out HOK.out]; rfl, rfl⟩
      · have d1 : decide ((97 : Int) ≤ (b : Int)) = false := by simp; omega
        by_cases h3 : 48 ≤ b
        · have d3 : decide ((48 : Int) ≤ (b : Int)) = true := by simp; omega
          by_cases h4 : b ≤ 57
          · have d4 : decide ((b : Int) ≤ 57) = true := by simp; omega
            have HOK : Hid (wordB s[k] = true) := by show _ = _; rw [HW.out]; simp; omega
            go_wp2
            go_round
            case rel => exact ⟨k + 1, by omega, by go_num, HNX.out HOK.out⟩
            case measure => simp [intOf]; omega
          · have d4 : decide ((b : Int) ≤ 57) = false := by simp; omega
            have d5 : ((b : Int) == 45) = false := by rw [beq_eq_false_iff_ne]; omega
            have HOK : Hid (wordB s[k] = false) := by show _ = _; rw [HW.out]; simp; omega
            go_wp2
            go_ret
            exact ⟨by rw [HNO.out HOK.out]; rfl, rfl⟩
        · have d3 : decide ((48 : Int) ≤ (b : Int)) = false := by simp; omega
          by_cases h5 : b = 45
          · have d5 : ((b : Int) == 45) = true := by rw [beq_iff_eq]; omega
            have HOK : Hid (wordB s[k] = true) := by show _ = _; rw [HW.out]; simp; omega
            go_wp2
            go_round
            case rel => exact ⟨k + 1, by omega, by go_num, HNX.out HOK.out⟩
            case measure => simp [intOf]; omega
          · have d5 : ((b : Int) == 45) = false := by rw [beq_eq_false_iff_ne]; omega
            have HOK : Hid (wordB s[k] = false) := by show _ = _; rw [HW.out]; simp; omega
            go_wp2
            go_ret
            exact ⟨by rw [HNO.out HOK.out]; rfl, rfl⟩
    · have hend := isWord_end s (fun j hj => hall j hj (by omega))
      have HEND := (show Hid _ from hend)
      have hge : (s.size : Int) ≤ (k : Int) := by omega
      clear hend hall
      by_cases h1 : 1 ≤ s.size
      · have d1 : decide ((1 : Int) ≤ (s.size : Int)) = true := by simp; omega
        cases h2 : decide ((s.size : Int) ≤ 12) with
        | true =>
          have h3 : (s.size : Int) ≤ 12 := of_decide_eq_true h2
          go_wp2
          go_ret
          exact ⟨by rw [HEND.out, decide_eq_true (by omega)]; rfl, rfl⟩
        | false =>
          have h3 : ¬ (s.size : Int) ≤ 12 := of_decide_eq_false h2
          go_wp2
          go_ret
          exact ⟨by rw [HEND.out, decide_eq_false (by omega)]; rfl, rfl⟩
      · have d1 : decide ((1 : Int) ≤ (s.size : Int)) = false := by simp; omega
        go_wp2
        go_ret
        exact ⟨by rw [HEND.out, decide_eq_false (by omega)]; rfl, rfl⟩

theorem word_size (s : ByteArray) (h : isWord s = true) : 1 ≤ s.size ∧ s.size ≤ 12 := by
  unfold isWord at h
  rw [Bool.and_eq_true] at h
  exact of_decide_eq_true h.2

set_option maxRecDepth 1000000 in
theorem isName_any (s : ByteArray) (w : World) (hs : s.size ≤ 1000000) :
    Calls Tryd.prog 68 #[.string s] w fun e w' => e = .returned (.bool (isName s)) ∧ w' = w := by
  have hw := isWord_any s w hs
  cases hi : isWord s with
  | false =>
    rw [hi] at hw
    have HW := (show Hid _ from hw)
    have HN : Hid (isName s = false) := by show _ = _; unfold isName; rw [hi]; rfl
    clear hw
    go_enter Tryd.func68, Tryd.ntmps68
    go_wp2_with fail
    refine Calls.mono HW.out ?_
    rintro e w1 ⟨rfl, hw1⟩
    have hw1' := hw1.symm
    subst hw1'
    go_wp2
    go_ret
    exact ⟨by rw [HN.out]; rfl, rfl⟩
  | true =>
    rw [hi] at hw
    have hz := word_size s hi
    have HW := (show Hid _ from hw)
    have h0 : (0 : Int) < (s.size : Int) := by omega
    have hg : s.data.toList.getD 0 0 = s[0]'(by omega) := by
      rw [List.getD_eq_getElem?_getD, Array.getElem?_toList]
      have : s.data[0]? = some (s[0]'(by omega)) := Array.getElem?_eq_getElem (by show 0 < s.size; omega)
      rw [this]
      rfl
    have HN : Hid (isName s = decide ((97 : Int) ≤ ((s[0]'(by omega)).toNat : Int))) := by
      show _ = _
      unfold isName
      rw [hi, hg, Bool.true_and]
      rw [decide_eq_decide]
      omega
    clear hw hg
    go_enter Tryd.func68, Tryd.ntmps68
    go_wp2_with fail
    refine Calls.mono HW.out ?_
    rintro e w1 ⟨rfl, hw1⟩
    have hw1' := hw1.symm
    subst hw1'
    go_wp2
    go_ret
    exact ⟨by rw [HN.out]; rfl, rfl⟩
end Go.Proofs.YtnjmplmogibgfabDoor
/- label's isLetter, isValue and isName by contracts. -/
namespace Go.Proofs.YtnjmplmogibgfabDoor
open Go.RowKit LabMath

/-- A letter a to z. -/
def letB (b : Nat) : Bool := decide (97 ≤ b ∧ b ≤ 122)

set_option maxRecDepth 1000000 in
theorem lisLetter_any (b : Nat) (w : World) :
    Calls Tryd.prog 116 #[.int .u8 (b : Int)] w fun e w' => e = .returned (.bool (letB b)) ∧ w' = w := by
  by_cases h1 : 97 ≤ b
  · have d1 : decide ((97 : Int) ≤ (b : Int)) = true := by simp; omega
    have HB : Hid (letB b = decide ((b : Int) ≤ 122)) := by
      show _ = _
      unfold letB
      rw [decide_eq_decide]
      omega
    go_enter Tryd.func116, Tryd.ntmps116
    go_wp2
    go_ret
    exact ⟨by rw [HB.out]; rfl, rfl⟩
  · have d1 : decide ((97 : Int) ≤ (b : Int)) = false := by simp; omega
    have HB : Hid (letB b = false) := by
      show _ = _
      unfold letB
      rw [decide_eq_false]
      omega
    go_enter Tryd.func116, Tryd.ntmps116
    go_wp2
    go_ret
    exact ⟨by rw [HB.out]; rfl, rfl⟩

theorem isWord_size_no (s : ByteArray) (h : ¬ (1 ≤ s.size ∧ s.size ≤ 12)) : isWord s = false := by
  unfold isWord
  rw [decide_eq_false h, Bool.and_false]

set_option maxRecDepth 1000000 in
set_option maxHeartbeats 1000000 in
theorem lisValue_any (s : ByteArray) (w : World) (hs : s.size ≤ 1000000) :
    Calls Tryd.prog 72 #[.string s] w fun e w' => e = .returned (.bool (isWord s)) ∧ w' = w := by
  by_cases hz : 1 ≤ s.size ∧ s.size ≤ 12
  · have d1 : decide ((s.size : Int) < 1) = false := by simp; omega
    have d2 : decide ((12 : Int) < (s.size : Int)) = false := by simp; omega
    go_enter Tryd.func72, Tryd.ntmps72
    go_wp2_with fail
    go_loop [3, 4, 15] (fun _ _ i => ∃ k : Nat, k ≤ s.size ∧ i = .int .i64 k ∧ ∀ j (hj : j < s.size), j < k → wordB s[j] = true) (fun _ _ i => s.size - (intOf i).toNat)
    case atStart => exact ⟨0, Nat.zero_le _, rfl, fun j _ h => absurd h (by omega)⟩
    case round =>
      obtain ⟨k, hk, rfl, hall⟩ := hrel
      by_cases hlt : k < s.size
      · have hk0 : (0 : Int) ≤ (k : Int) := by omega
        have hk1 : (k : Int) < (s.size : Int) := by omega
        have HALL := (show Hid _ from hall)
        have hno := isWord_no s k hlt
        have HNX : Hid (wordB s[k] = true → ∀ j (hj : j < s.size), j < k + 1 → wordB s[j] = true) := fun h j hj hjk => by
          rcases Nat.lt_or_ge j k with h1 | h1
          · exact HALL.out j hj h1
          · have : j = k := by omega
            subst this
            exact h
        have HNO := (show Hid _ from hno)
        have hb := (s[k]).toNat_lt
        have hlet := lisLetter_any (s[k]).toNat w
        obtain ⟨b, hb0⟩ : ∃ b, (s[k]).toNat = b := ⟨_, rfl⟩
        rw [hb0] at hlet
        have HLET := (show Hid _ from hlet)
        have HB0 := (show Hid _ from hb0)
        have HW : Hid (wordB s[k] = decide ((97 ≤ b ∧ b ≤ 122) ∨ (48 ≤ b ∧ b ≤ 57) ∨ b = 45)) := by
          show wordB s[k] = _
          unfold wordB
          rw [hb0]
        clear hall hno hlet
        cases hl : letB b with
        | true =>
          have HOK : Hid (wordB s[k] = true) := by
            show _ = _
            rw [HW.out, decide_eq_true]
            exact .inl (of_decide_eq_true hl)
          have HLB := (show Hid _ from hl)
          clear hl
          go_wp2_with fail
          refine Calls.mono HLET.out ?_
          rintro e w1 ⟨rfl, hw1⟩
          have hw1' := hw1.symm
          subst hw1'
          rw [HLB.out]
          go_wp2
          go_round
          case rel => exact ⟨k + 1, by omega, by go_num, HNX.out HOK.out⟩
          case measure => simp [intOf]; omega
        | false =>
          have hnl : ¬ (97 ≤ b ∧ b ≤ 122) := of_decide_eq_false hl
          have HLB := (show Hid _ from hl)
          clear hl
          by_cases h3 : 48 ≤ b ∧ b ≤ 57
          · have d3 : decide ((b : Int) < 48) = false := by simp; omega
            have d4 : decide ((57 : Int) < (b : Int)) = false := by simp; omega
            have HOK : Hid (wordB s[k] = true) := by show _ = _; rw [HW.out, decide_eq_true]; exact .inr (.inl h3)
            go_wp2_with fail
            refine Calls.mono HLET.out ?_
            rintro e w1 ⟨rfl, hw1⟩
            have hw1' := hw1.symm
            subst hw1'
            rw [HLB.out]
            go_wp2
            go_round
            case rel => exact ⟨k + 1, by omega, by go_num, HNX.out HOK.out⟩
            case measure => simp [intOf]; omega
          · by_cases h5 : b = 45
            · have HOK : Hid (wordB s[k] = true) := by show _ = _; rw [HW.out, decide_eq_true]; exact .inr (.inr h5)
              subst h5
              have HLET : Hid (Calls Tryd.prog 116 #[.int .u8 45] w fun e w' => e = .returned (.bool (letB 45)) ∧ w' = w) := HLET.out
              go_wp2_with fail
              refine Calls.mono HLET.out ?_
              rintro e w1 ⟨rfl, hw1⟩
              have hw1' := hw1.symm
              subst hw1'
              rw [HLB.out]
              go_wp2
              go_round
              case rel => exact ⟨k + 1, by omega, by go_num, HNX.out HOK.out⟩
              case measure => simp [intOf]; omega
            · have d5 : ((b : Int) != 45) = true := by rw [bne_iff_ne]; omega
              have HOK : Hid (wordB s[k] = false) := by show _ = _; rw [HW.out, decide_eq_false]; omega
              by_cases h6 : b < 48
              · have d3 : decide ((b : Int) < 48) = true := by simp; omega
                go_wp2_with fail
                refine Calls.mono HLET.out ?_
                rintro e w1 ⟨rfl, hw1⟩
                have hw1' := hw1.symm
                subst hw1'
                rw [HLB.out]
                go_wp2
                go_ret
                exact ⟨by rw [HNO.out HOK.out]; rfl, rfl⟩
              · have d3 : decide ((b : Int) < 48) = false := by simp; omega
                have d4 : decide ((57 : Int) < (b : Int)) = true := by simp; omega
                go_wp2_with fail
                refine Calls.mono HLET.out ?_
                rintro e w1 ⟨rfl, hw1⟩
                have hw1' := hw1.symm
                subst hw1'
                rw [HLB.out]
                go_wp2
                go_ret
                exact ⟨by rw [HNO.out HOK.out]; rfl, rfl⟩
      · have hend := isWord_end s (fun j hj => hall j hj (by omega))
        have HEND : Hid (isWord s = true) := by show _ = _; rw [hend, decide_eq_true hz]
        have hge : (s.size : Int) ≤ (k : Int) := by omega
        clear hend hall
        go_wp2
        go_ret
        exact ⟨by rw [HEND.out]; rfl, rfl⟩
  · have HNO : Hid (isWord s = false) := isWord_size_no s hz
    by_cases h1 : 1 ≤ s.size
    · have d1 : decide ((s.size : Int) < 1) = false := by simp; omega
      have d2 : decide ((12 : Int) < (s.size : Int)) = true := by simp; omega
      go_enter Tryd.func72, Tryd.ntmps72
      go_wp2
      go_ret
      exact ⟨by rw [HNO.out]; rfl, rfl⟩
    · have d1 : decide ((s.size : Int) < 1) = true := by simp; omega
      go_enter Tryd.func72, Tryd.ntmps72
      go_wp2
      go_ret
      exact ⟨by rw [HNO.out]; rfl, rfl⟩

theorem word_first (s : ByteArray) (h : isWord s = true) (h0 : 0 < s.size) : wordB s[0] = true := by
  unfold isWord at h
  rw [Bool.and_eq_true, List.all_eq_true] at h
  refine h.1 _ ?_
  show s.data[0] ∈ s.data.toList
  rw [Array.mem_toList_iff]
  exact Array.getElem_mem _

set_option maxRecDepth 1000000 in
theorem lisName_any (s : ByteArray) (w : World) (hs : s.size ≤ 1000000) :
    Calls Tryd.prog 71 #[.string s] w fun e w' => e = .returned (.bool (isName s)) ∧ w' = w := by
  have hw := lisValue_any s w hs
  cases hi : isWord s with
  | false =>
    rw [hi] at hw
    have HW := (show Hid _ from hw)
    have HN : Hid (isName s = false) := by show _ = _; unfold isName; rw [hi]; rfl
    clear hw
    go_enter Tryd.func71, Tryd.ntmps71
    go_wp2_with fail
    refine Calls.mono HW.out ?_
    rintro e w1 ⟨rfl, hw1⟩
    have hw1' := hw1.symm
    subst hw1'
    go_wp2
    go_ret
    exact ⟨by rw [HN.out]; rfl, rfl⟩
  | true =>
    rw [hi] at hw
    have hz := word_size s hi
    have hwf := word_first s hi (by omega)
    have HW := (show Hid _ from hw)
    have h0 : (0 : Int) < (s.size : Int) := by omega
    have hg : s.data.toList.getD 0 0 = s[0]'(by omega) := by
      rw [List.getD_eq_getElem?_getD, Array.getElem?_toList]
      have : s.data[0]? = some (s[0]'(by omega)) := Array.getElem?_eq_getElem (by show 0 < s.size; omega)
      rw [this]
      rfl
    have HN : Hid (isName s = letB (s[0]'(by omega)).toNat) := by
      show _ = _
      unfold isName letB
      rw [hi, hg, Bool.true_and, decide_eq_decide]
      have := of_decide_eq_true hwf
      omega
    have HLET : Hid _ := lisLetter_any (s[0]'(by omega)).toNat w
    clear hw hg hwf
    go_enter Tryd.func71, Tryd.ntmps71
    go_wp2_with fail
    refine Calls.mono HW.out ?_
    rintro e w1 ⟨rfl, hw1⟩
    have hw1' := hw1.symm
    subst hw1'
    go_wp2_with fail
    refine Calls.mono HLET.out ?_
    rintro e w1 ⟨rfl, hw1⟩
    have hw1' := hw1.symm
    subst hw1'
    go_wp2
    go_ret
    exact ⟨by rw [HN.out]; rfl, rfl⟩
end Go.Proofs.YtnjmplmogibgfabDoor
