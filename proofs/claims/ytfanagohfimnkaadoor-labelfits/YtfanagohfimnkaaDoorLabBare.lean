/- label's bare by its contract. -/
import Derived.Test.YtfanagohfimnkaaDoorLabFault
namespace Go.Proofs.YtfanagohfimnkaaDoor
open Go.RowKit LabMath

/-- What errors.As reads. -/
structure Typ (B : Nat) (w : World) : Prop where
  typ : w.cell? ⟨11, 0, none⟩ = some (.iface 171 (.agg #[.pointer (some ⟨13, 32, none⟩)]))
  low : 11 < B
theorem Typ.below {B : Nat} {w w' : World} (E : Typ B w) {B' : Nat} (h : Below B' w w') (hB : B ≤ B') : Typ B w' := by
  have hl := E.low
  exact ⟨(h.cell (p := ⟨11, 0, none⟩) (by show 11 < B'; omega)).trans E.typ, hl⟩
theorem Env.types {B : Nat} {ea : Nat → Addr} {w : World} (E : Env B ea w) : Typ B w := ⟨E.typ, E.low⟩

set_option maxRecDepth 1000000 in
theorem lbare_es {B : Nat} {ea : Nat → Addr} (w : World) (E : Typ B w) (hB : B ≤ w.heap.size) (m : Nat) :
    Calls Tryd.prog 62 #[.iface 197 (.pointer (some (ea m)))] w fun e w' => e = .returned (.iface 197 (.pointer (some (ea m)))) ∧ Below w.heap.size w w' := by
  obtain ⟨W, hW⟩ : ∃ W, W = w.alloc (.cells #[.pointer none] 117) := ⟨_, rfl⟩
  have hb : Below w.heap.size w W := by rw [hW]; exact (Below.refl _ _).alloc (Nat.le_refl _) _
  have HA : Hid _ := as_miss (ea m) ⟨w.heap.size, 0, none⟩ W (E.below hb hB).typ
  have HW := (show Hid _ from hW)
  have HB := (show Hid _ from hb)
  clear hW hb
  go_enter Tryd.func62, Tryd.ntmps62
  go_wp2_with fail
  rw [← HW.out]
  refine Calls.mono HA.out ?_
  rintro e w1 ⟨rfl, hb1⟩
  have HB1 := (show Hid _ from HB.out.trans (hb1.mono HB.out.size))
  clear hb1 HA
  go_wp2
  go_ret
  exact ⟨rfl, HB1.out⟩

set_option maxRecDepth 1000000 in
theorem lbare_fault {B : Nat} {ea : Nat → Addr} (w : World) (E : Typ B w) (hB : B ≤ w.heap.size) (pb m : Nat) (he : w.cell? ⟨pb, 1, none⟩ = some (.iface 197 (.pointer (some (ea m))))) :
    Calls Tryd.prog 62 #[.iface 117 (.pointer (some ⟨pb, 0, none⟩))] w fun e w' => e = .returned (.iface 197 (.pointer (some (ea m)))) ∧ Below w.heap.size w w' := by
  have hpb : pb < w.heap.size := World.block_lt_of_cell? w ⟨pb, 1, none⟩ he
  have hb0 : Below w.heap.size w (w.alloc (.cells #[.pointer none] 117)) := (Below.refl _ _).alloc (Nat.le_refl _) _
  have hg := (E.below hb0 hB).typ
  have h1 : (w.alloc (.cells #[.pointer none] 117)).cell? ⟨w.heap.size, 0, none⟩ = some (.pointer none) := by simp
  have h2 : (w.alloc (.cells #[.pointer none] 117)).frozen? ⟨w.heap.size, 0, none⟩ = false := by simp
  go_enter Tryd.func62, Tryd.ntmps62
  go_wp2_with fail
  refine (as_hit ⟨pb, 0, none⟩ ⟨w.heap.size, 0, none⟩ _ _ hg h1 h2).mono ?_
  rintro e w1 ⟨rfl, hw1⟩
  have hb : Below w.heap.size w w1 := by
    rw [hw1]
    exact (((((Below.refl w.heap.size w).alloc (Nat.le_refl _) _).alloc (by simp) _).alloc (by simp; omega) _).alloc (by simp; omega) _ |>.alloc (by simp; omega) _).setCell (Nat.le_refl _) _
  have hcf : w1.cell? ⟨w.heap.size, 0, none⟩ = some (.pointer (some ⟨pb, 0, none⟩)) := by
    rw [hw1]
    refine World.cell?_setCell_same _ _ _ (u := .pointer none) ?_
    rw [World.cell?_alloc_lt _ _ ⟨w.heap.size, 0, none⟩ (by simp; omega), World.cell?_alloc_lt _ _ ⟨w.heap.size, 0, none⟩ (by simp; omega), World.cell?_alloc_lt _ _ ⟨w.heap.size, 0, none⟩ (by simp; omega), World.cell?_alloc_lt _ _ ⟨w.heap.size, 0, none⟩ (by simp)]
    simp
  have he1 : w1.cell? ⟨pb, 1, none⟩ = some (.iface 197 (.pointer (some (ea m)))) := (hb.cell (p := ⟨pb, 1, none⟩) hpb).trans he
  have HB := (show Hid _ from hb)
  clear hw1 h1 h2 he hg hb0 hb
  go_wp2
  go_ret
  exact ⟨rfl, HB.out⟩
theorem lbare_v {B : Nat} {ea : Nat → Addr} (w : World) (E : Typ B w) (hB : B ≤ w.heap.size) (v : Value) (C A : Int) (h : FaultV ea w v C A) (hC : 0 < C) :
    Calls Tryd.prog 62 #[v] w fun e w' => ∃ m : Nat, m < 11 ∧ (m : Int) + 1 = C ∧ e = .returned (.iface 197 (.pointer (some (ea m)))) ∧ Below w.heap.size w w' := by
  rcases h with ⟨rfl, rfl⟩ | ⟨m, hm, rfl, hc, rfl⟩ | ⟨pb, m, hm, rfl, c0, c1, hc⟩
  · omega
  · exact (lbare_es w E hB m).mono fun e w' h => ⟨m, hm, hc, h.1, h.2⟩
  · exact (lbare_fault w E hB pb m c1).mono fun e w' h => ⟨m, hm, hc, h.1, h.2⟩

set_option maxRecDepth 1000000 in
theorem fat_v {B : Nat} {ea : Nat → Addr} (w : World) (E : Typ B w) (hB : B ≤ w.heap.size) (i : Int) (v : Value) (C A : Int) (h : FaultV ea w v C A) (hC : 0 < C) :
    Calls Tryd.prog 43 #[.int .i64 i, v] w fun e w' => ∃ pb m : Nat, e = .returned (.iface 117 (.pointer (some ⟨pb, 0, none⟩))) ∧ Below w.heap.size w w' ∧ m < 11 ∧ w'.cell? ⟨pb, 0, none⟩ = some (.int .i64 i) ∧ w'.cell? ⟨pb, 1, none⟩ = some (.iface 197 (.pointer (some (ea m)))) ∧ (m : Int) + 1 = C := by
  have HL := (show Hid _ from lbare_v w E hB v C A h hC)
  clear E h
  go_enter Tryd.func43, Tryd.ntmps43
  go_wp2_with fail
  refine Calls.mono HL.out ?_
  rintro e w1 ⟨m, hm, hmC, rfl, hb1⟩
  have HB1 := (show Hid _ from hb1)
  have hw1 : w.heap.size ≤ w1.heap.size := hb1.size
  clear hb1
  go_wp2
  go_ret
  exact ⟨w1.heap.size, m, rfl, HB1.out.alloc hw1 _, hm, by simp, by simp, hmC⟩
end Go.Proofs.YtfanagohfimnkaaDoor
