/- label's bare by its contract. -/
import Derived.Test.YtlbdjkeaohdjkabDoorLabFault
namespace Go.Proofs.YtlbdjkeaohdjkabDoor
open Go.RowKit LabMath

set_option maxRecDepth 1000000 in
theorem lbare_es {B : Nat} {ea : Nat → Addr} (w : World) (E : Env B ea w) (hB : B ≤ w.heap.size) (m : Nat) :
    Calls Tryd.prog 66 #[.iface 264 (.pointer (some (ea m)))] w fun e w' => e = .returned (.iface 264 (.pointer (some (ea m)))) ∧ Below w.heap.size w w' := by
  obtain ⟨W, hW⟩ : ∃ W, W = w.alloc (.cells #[.pointer none] 123) := ⟨_, rfl⟩
  have hb : Below w.heap.size w W := by rw [hW]; exact (Below.refl _ _).alloc (Nat.le_refl _) _
  have HA : Hid _ := as_miss (ea m) ⟨w.heap.size, 0, none⟩ W (E.below hb hB).typ
  have HW := (show Hid _ from hW)
  have HB := (show Hid _ from hb)
  clear hW hb
  go_enter Tryd.func66, Tryd.ntmps66
  go_wp2_with fail
  rw [← HW.out]
  refine Calls.mono HA.out ?_
  rintro e w1 ⟨rfl, hb1⟩
  have HB1 := (show Hid _ from HB.out.trans (hb1.mono HB.out.size))
  clear hb1 HA
  go_wp2
  go_ret
  exact ⟨rfl, HB1.out⟩

set_option maxRecDepth 1000000 in
theorem lbare_fault {B : Nat} {ea : Nat → Addr} (w : World) (E : Env B ea w) (hB : B ≤ w.heap.size) (pb m : Nat) (he : w.cell? ⟨pb, 1, none⟩ = some (.iface 264 (.pointer (some (ea m))))) :
    Calls Tryd.prog 66 #[.iface 123 (.pointer (some ⟨pb, 0, none⟩))] w fun e w' => e = .returned (.iface 264 (.pointer (some (ea m)))) ∧ Below w.heap.size w w' := by
  have hpb : pb < w.heap.size := World.block_lt_of_cell? w ⟨pb, 1, none⟩ he
  have hb0 : Below w.heap.size w (w.alloc (.cells #[.pointer none] 123)) := (Below.refl _ _).alloc (Nat.le_refl _) _
  have hg := (E.below hb0 hB).typ
  have h1 : (w.alloc (.cells #[.pointer none] 123)).cell? ⟨w.heap.size, 0, none⟩ = some (.pointer none) := by simp
  have h2 : (w.alloc (.cells #[.pointer none] 123)).frozen? ⟨w.heap.size, 0, none⟩ = false := by simp
  go_enter Tryd.func66, Tryd.ntmps66
  go_wp2_with fail
  refine (as_hit ⟨pb, 0, none⟩ ⟨w.heap.size, 0, none⟩ _ _ hg h1 h2).mono ?_
  rintro e w1 ⟨rfl, hw1⟩
  have hb : Below w.heap.size w w1 := by
    rw [hw1]
    exact (((((Below.refl w.heap.size w).alloc (Nat.le_refl _) _).alloc (by simp) _).alloc (by simp; omega) _).alloc (by simp; omega) _ |>.alloc (by simp; omega) _).setCell (Nat.le_refl _) _
  have hcf : w1.cell? ⟨w.heap.size, 0, none⟩ = some (.pointer (some ⟨pb, 0, none⟩)) := by
    rw [hw1]
    refine World.cell?_setCell_same _ _ _ (u := .pointer none) ?_
    rw [World.cell?_alloc_lt _ _ ⟨w.heap.size, 0, none⟩ (by simp; omega), World.cell?_alloc_lt _ _ ⟨w.heap.size, 0, none⟩ (by simp; omega), World.cell?_alloc_lt _ _ ⟨w.heap.size, 0, none⟩ (by simp; omega), World.cell?_alloc_lt _ _ ⟨w.heap.size, 0, none⟩ (by simp)]
    simp
  have he1 : w1.cell? ⟨pb, 1, none⟩ = some (.iface 264 (.pointer (some (ea m)))) := (hb.cell (p := ⟨pb, 1, none⟩) hpb).trans he
  have HB := (show Hid _ from hb)
  clear hw1 h1 h2 he hg hb0 hb
  go_wp2
  go_ret
  exact ⟨rfl, HB.out⟩
theorem lbare_v {B : Nat} {ea : Nat → Addr} (w : World) (E : Env B ea w) (hB : B ≤ w.heap.size) (v : Value) (C A : Int) (h : FaultV ea w v C A) (hC : 0 < C) :
    Calls Tryd.prog 66 #[v] w fun e w' => ∃ m : Nat, m < 11 ∧ (m : Int) + 1 = C ∧ e = .returned (.iface 264 (.pointer (some (ea m)))) ∧ Below w.heap.size w w' := by
  rcases h with ⟨rfl, rfl⟩ | ⟨m, hm, rfl, hc, rfl⟩ | ⟨pb, m, hm, rfl, c0, c1, hc⟩
  · omega
  · exact (lbare_es w E hB m).mono fun e w' h => ⟨m, hm, hc, h.1, h.2⟩
  · exact (lbare_fault w E hB pb m c1).mono fun e w' h => ⟨m, hm, hc, h.1, h.2⟩
end Go.Proofs.YtlbdjkeaohdjkabDoor
