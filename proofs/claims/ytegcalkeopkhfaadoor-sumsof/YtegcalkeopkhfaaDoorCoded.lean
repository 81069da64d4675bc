/- plain.Code at an *api.Fault, and the statements' helper coded. -/
import Derived.Test.YtegcalkeopkhfaaDoorEnv
namespace Go.Proofs.YtegcalkeopkhfaaDoor
open Go.RowKit
set_option maxHeartbeats 1000000 in
theorem code_fault {B : Nat} {ea : Nat → Addr} (w : World) (E : Env B ea w) (hB : B ≤ w.heap.size) (pb po : Nat) (n : Int) (m : Nat) (hm : m < 11) (ha : w.cell? ⟨pb, po, none⟩ = some (.int .i64 n)) (he : w.cell? ⟨pb, po + 1, none⟩ = some (.iface 82 (.pointer (some (ea m))))) :
    Calls Tryd.prog 14 #[.iface 46 (.pointer (some ⟨pb, po, none⟩))] w fun e w' => e = .returned (.tuple #[.int .i64 ((m : Int) + 1), .int .i64 n]) ∧ Below w.heap.size w w' := by
  have hl := E.low
  have hpb : pb < w.heap.size := by
    rcases Nat.lt_or_ge pb w.heap.size with h | h
    · exact h
    · simp [World.cell?, Array.getElem?_eq_none h] at ha
  have hb0 : Below w.heap.size w (w.alloc (.cells #[.pointer none] 46)) := (Below.refl _ _).alloc (Nat.le_refl _) _
  have hg := (E.below hb0 hB).typ
  have h1 : (w.alloc (.cells #[.pointer none] 46)).cell? ⟨w.heap.size, 0, none⟩ = some (.pointer none) := by simp
  have h2 : (w.alloc (.cells #[.pointer none] 46)).frozen? ⟨w.heap.size, 0, none⟩ = false := by simp
  have hno : ∀ j, j < m → ea j ≠ ea m := fun j hj he => by have := E.inj j m (by omega) hm he; omega
  go_enter Tryd.func14, Tryd.ntmps14
  go_wp2_with fail
  refine (as_hit ⟨pb, po, none⟩ ⟨w.heap.size, 0, none⟩ _ _ hg h1 h2).mono ?_
  rintro e w1 ⟨rfl, hw1⟩
  have hb : Below w.heap.size w w1 := by
    rw [hw1]
    exact (((((Below.refl w.heap.size w).alloc (Nat.le_refl _) _).alloc (by simp) _).alloc (by simp; omega) _).alloc (by simp; omega) _ |>.alloc (by simp; omega) _).setCell (Nat.le_refl _) _
  have hcf : w1.cell? ⟨w.heap.size, 0, none⟩ = some (.pointer (some ⟨pb, po, none⟩)) := by
    rw [hw1]
    refine World.cell?_setCell_same _ _ _ (u := .pointer none) ?_
    rw [World.cell?_alloc_lt _ _ ⟨w.heap.size, 0, none⟩ (by simp; omega), World.cell?_alloc_lt _ _ ⟨w.heap.size, 0, none⟩ (by simp; omega), World.cell?_alloc_lt _ _ ⟨w.heap.size, 0, none⟩ (by simp; omega), World.cell?_alloc_lt _ _ ⟨w.heap.size, 0, none⟩ (by simp)]
    simp
  have E1 := E.below hb hB
  have ha1 : w1.cell? ⟨pb, po, none⟩ = some (.int .i64 n) := (hb.cell (p := ⟨pb, po, none⟩) hpb).trans ha
  have he1 : w1.cell? ⟨pb, po + 1, none⟩ = some (.iface 82 (.pointer (some (ea m)))) := (hb.cell (p := ⟨pb, po + 1, none⟩) hpb).trans he
  clear hw1 h1 h2 ha he hg hb0
  have hcs := errCells_at ea
  have hPe : ∀ i, i < 11 → Plain w1 (ea i) := E1.blk
  have hb2 : Below w.heap.size w (w1.alloc (.cells (errCells ea) 35)) := hb.alloc hb.size _
  have hb3 : Below w1.heap.size w1 (w1.alloc (.cells (errCells ea) 35)) := (Below.refl _ _).alloc (Nat.le_refl _) _
  have hcell : ∀ k, k < 11 → (w1.alloc (.cells (errCells ea) 35)).cell? ⟨w1.heap.size, k, none⟩ = some (.iface 82 (.pointer (some (ea k)))) := fun k hk => by rw [World.cell?_alloc_at _ _ _ _ rfl]; exact hcs k hk
  have hPa : ∀ i, i < 11 → Plain (w1.alloc (.cells (errCells ea) 35)) (ea i) := fun i hi => (hPe i hi).below hb3
  have he2 : (w1.alloc (.cells (errCells ea) 35)).cell? ⟨pb, po + 1, none⟩ = some (.iface 82 (.pointer (some (ea m)))) := (hb3.cell (p := ⟨pb, po + 1, none⟩) (Nat.lt_of_lt_of_le hpb hb.size)).trans he1
  obtain ⟨c0, c1, c2, c3, c4, c5, c6, c7, c8, c9, c10, _, _, _, _, _⟩ := E1
  clear hcs hPe hb3 he1
  obtain ⟨w2, hw2⟩ : ∃ w2, w2 = w1.alloc (.cells (errCells ea) 35) := ⟨_, rfl⟩
  rw [← hw2] at hb2 hcell hPa he2
  have H2 : Hid (∀ (w' : World), w' = w1.alloc (.cells (errCells ea) 35) → w' = w2) := fun w' h => h.trans hw2.symm
  clear hw2
  go_wp2_with fail
  have hw := H2.out _ rfl
  unfold errCells at hw
  rw [hw]
  clear hw H2 c0 c1 c2 c3 c4 c5 c6 c7 c8 c9 c10 hcf ha1
  go_loop [3, 29] (fun a i => a = .int .i64 n ∧ ∃ k : Nat, k ≤ m ∧ i = .int .i64 k) (fun _ i => 11 - (intOf i).toNat)
  case atStart => exact ⟨rfl, 0, Nat.zero_le _, rfl⟩
  case round =>
    obtain ⟨rfl, k, hk, rfl⟩ := hrel
    have hk11 : k < 11 := by omega
    have hck := hcell k hk11
    by_cases hkm : k < m
    · have hne := hno k hkm
      obtain ⟨ca, ta, hA⟩ := hPa m hm
      obtain ⟨cb, tb, hC⟩ := hPa k hk11
      clear hcell hPa
      go_wp2_with (go_at_call 16; refine (is_fault_other pb po (ea k) (ea m) ca cb ta tb _ he2 (Ne.symm hne) hA hC).mono ?_; rintro e w' ⟨rfl, rfl⟩)
      go_round
      case rel => exact ⟨rfl, k + 1, by omega, by go_num⟩
      case measure => simp [intOf]; omega
    · have hkm' : k = m := by omega
      subst hkm'
      clear hcell hPa
      go_wp2_with (go_at_call 16; refine (is_fault_same pb po (ea k) _ he2).mono ?_; rintro e w' ⟨rfl, rfl⟩)
      go_ret2
      exact ⟨by simp, hb2⟩
end Go.Proofs.YtegcalkeopkhfaaDoor
