/- The statements' helper masked. -/
import Derived.Test.YtgdflopgdlpimaaDoorMaskPut2
namespace Go.Proofs.YtgdflopgdlpimaaDoor
open Go.RowKit

theorem new_pair (w : World) (a b : Value) (t : TypeId) : ∀ i, i < 2 → (w.alloc (.cells #[a, b] t)).cell? ⟨w.heap.size, 0 + i, none⟩ = #[a, b][i]? := by
  intro i _
  rw [Nat.zero_add]
  exact cells_of (heap_alloc_new _ _) i

set_option maxRecDepth 1000000 in
set_option maxHeartbeats 2000000 in
theorem masked_any (w : World) (hT : Tab w) : Calls Tryd.prog 36 #[] w fun e w' => e = .returned (.bool true) ∧ Below w.heap.size w w' := by
  have HT : Hid (Tab w) := hT
  have hlt := hT.lt
  have e55 : ((BitMath.maskTo (fun _ => 5) 2).length : Nat) = 65 := by decide +kernel
  have e13 : ((BitMath.maskTo (fun i => if i = 0 then 1 else 3) 2).length : Nat) = 109 := by decide +kernel
  have H55 := (show Hid _ from e55)
  have H13 := (show Hid _ from e13)
  clear hT e55 e13
  go_enter Tryd.func36, Tryd.ntmps36
  go_wp2_with fail
  refine (new_any _).mono ?_
  rintro e w1 ⟨rfl, hr, hb, hs⟩
  obtain ⟨w2, hw2⟩ : ∃ w2, w2 = w1.alloc (.cells #[.int .u64 5, .int .u64 5] 39) := ⟨_, rfl⟩
  have hb2 : Below w1.heap.size w1 w2 := by rw [hw2]; exact (Below.refl _ _).alloc (Nat.le_refl _) _
  have hput := mPut_some w1.heap.size 0 2 2 (fun _ => 5) w2 (by omega) (by omega) (fun _ _ => by decide) (fun i hi => by
    rw [hw2, new_pair _ _ _ _ i hi]
    match i, hi with
    | 0, _ => rfl
    | 1, _ => rfl) ((HT.out.below hb hlt).below hb2 (by omega)) w.heap.size (.slice none 0 0) [] (hr.below hb2) (by simp [Value.ownBlock]; omega) hlt (by rw [H55.out]; decide)
  have HP := (show Hid _ from hput)
  have HB2 := (show Hid _ from hb.trans (hb2.mono hb.size))
  have HW2 := (show Hid _ from hw2)
  clear hput hb2 hw2 hr hb hs
  go_wp2_with fail
  rw [← HW2.out]
  refine Calls.mono HP.out ?_
  rintro e w3 ⟨rfl, v3, hr3, hk3, _⟩
  have hb3 : Below w.heap.size w w3 := HB2.out.trans (hk3.below HB2.out.size (fun x hx => by simp [Value.ownBlock] at hx; omega))
  have hl := len_any w3 _ v3 _ hr3
  have el : ((([] ++ BitMath.maskTo (fun _ => 5) 2).length : Nat) : Int) = 65 := by rw [List.nil_append, H55.out]; rfl
  rw [el] at hl
  have HLN := (show Hid _ from hl)
  obtain ⟨w4, hw4⟩ : ∃ w4, w4 = w3.alloc (.cells #[.int .u64 1, .int .u64 3] 39) := ⟨_, rfl⟩
  have hb4 : Below w3.heap.size w3 w4 := by rw [hw4]; exact (Below.refl _ _).alloc (Nat.le_refl _) _
  have hsz := mSize_some w3.heap.size 0 2 2 (fun i => if i = 0 then 1 else 3) w4 (by omega) (by omega) (fun i _ => by split <;> decide) (fun i hi => by
    rw [hw4, new_pair _ _ _ _ i hi]
    match i, hi with
    | 0, _ => rfl
    | 1, _ => rfl) ((HT.out.below hb3 hlt).below hb4 (by have := hb3.size; omega))
  rw [H13.out] at hsz
  have HSZ := (show Hid _ from hsz)
  have HB4 := (show Hid _ from hb3.trans (hb4.mono hb3.size))
  have HW4 := (show Hid _ from hw4)
  clear hl el hsz hb4 hw4 hr3 hk3 hb3 HP HW2
  go_wp2_with fail
  refine Calls.mono HLN.out ?_
  rintro e w5 ⟨rfl, hw5⟩
  have hw5' := hw5.symm
  subst hw5'
  go_wp2_with fail
  rw [← HW4.out]
  refine Calls.mono HSZ.out ?_
  rintro e w6 ⟨rfl, hb6⟩
  go_wp2
  go_ret
  exact ⟨rfl, HB4.out.trans (hb6.mono HB4.out.size)⟩
end Go.Proofs.YtgdflopgdlpimaaDoor
