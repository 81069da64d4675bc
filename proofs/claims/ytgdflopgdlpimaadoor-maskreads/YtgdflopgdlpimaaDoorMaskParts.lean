/- Package mask's parts of a form by their contract. -/
import Derived.Test.YtgdflopgdlpimaaDoorMaskWin
namespace BitMath
/-- The parts of a form: numbers, each with how many bits of it are put. -/
def partsOf (y L W x : Nat) : List (Nat × Nat) :=
  if y = 0 then [(0, 1)] else if y = 1 then [(2, 2), (x / 2 ^ (64 - L - W), W)] else [(3, 2), (L, 5), (W, 6), (x / 2 ^ (64 - L - W), W)]
def bitsP (l : List (Nat × Nat)) : List Bool := l.flatMap fun p => bitsOf p.1 p.2
end BitMath
namespace Go.Proofs.YtgdflopgdlpimaaDoor
open Go.RowKit

/-- The cells of parts. -/
def partCells (l : List (Nat × Nat)) : List Value := l.flatMap fun p => [.int .u64 (p.1 : Int), .int .i64 (p.2 : Int)]

/-- A form that lies in a block, and memory that grew. -/
structure FormAt (w w' : World) (b : Nat) (v0 v1 v2 : Value) : Prop where
  c0 : w'.cell? ⟨b, 0, none⟩ = some v0
  c1 : w'.cell? ⟨b, 1, none⟩ = some v1
  c2 : w'.cell? ⟨b, 2, none⟩ = some v2
  bel : Below w.heap.size w w'
theorem FormAt.drew {w w' : World} {b : Nat} {v0 v1 v2 : Value} (h : FormAt w w' b v0 v1 v2) : FormAt w w'.drew b v0 v1 v2 := ⟨h.c0, h.c1, h.c2, h.bel.drew⟩
theorem FormAt.alloc {w w' : World} {b : Nat} {v0 v1 v2 : Value} (h : FormAt w w' b v0 v1 v2) (o : Obj) : FormAt w (w'.alloc o) b v0 v1 v2 :=
  ⟨(World.cell?_alloc_lt _ _ ⟨b, 0, none⟩ (lt_of_cell h.c0)).trans h.c0, (World.cell?_alloc_lt _ _ ⟨b, 1, none⟩ (lt_of_cell h.c1)).trans h.c1, (World.cell?_alloc_lt _ _ ⟨b, 2, none⟩ (lt_of_cell h.c2)).trans h.c2, h.bel.alloc h.bel.size _⟩
theorem bcellf {W w1 : World} (hb : Below W.heap.size W w1) : (∀ b o, b < W.heap.size → w1.cell? ⟨b, o, none⟩ = W.cell? ⟨b, o, none⟩) ∧ (∀ b o, b < W.heap.size → w1.frozen? ⟨b, o, none⟩ = W.frozen? ⟨b, o, none⟩) :=
  ⟨fun b o h => hb.cell (p := ⟨b, o, none⟩) h, fun b o h => hb.frozen (p := ⟨b, o, none⟩) h⟩
theorem mtail_form (L W : Nat) (w w0 : World) (b : Nat) (v0 v1 v2 : Value) (h : L + W ≤ 64) (hW : FormAt w w0 b v0 v1 v2) :
    Calls Tryd.prog 102 #[winV L W] w0 fun e w' => e = .returned (.int .i64 ((64 - L - W : Nat) : Int)) ∧ w'.cell? ⟨b, 0, none⟩ = some v0 ∧ w'.cell? ⟨b, 1, none⟩ = some v1 ∧ w'.cell? ⟨b, 2, none⟩ = some v2 ∧ FormAt w w' b v0 v1 v2 ∧ Below w0.heap.size w0 w' := by
  refine (mtail_any L W w0 h).mono ?_
  rintro e w' ⟨rfl, hb⟩
  have c0 := (hb.cell (p := ⟨b, 0, none⟩) (lt_of_cell hW.c0)).trans hW.c0
  have c1 := (hb.cell (p := ⟨b, 1, none⟩) (lt_of_cell hW.c1)).trans hW.c1
  have c2 := (hb.cell (p := ⟨b, 2, none⟩) (lt_of_cell hW.c2)).trans hW.c2
  exact ⟨rfl, c0, c1, c2, ⟨c0, c1, c2, hW.bel.trans (hb.mono hW.bel.size)⟩, hb⟩
theorem form_new (w : World) (a b c : Value) (t : TypeId) : FormAt w (w.alloc (.cells #[a, b, c] t)) w.heap.size a b c := by
  refine ⟨?_, ?_, ?_, (Below.refl _ _).alloc (Nat.le_refl _) _⟩ <;> simp [go_sem]

theorem undrew {W w1 : World} (h : Below W.drew.heap.size W.drew w1) : Below W.heap.size W w1 := ⟨h.os, h.tape, h.output, h.size, h.block⟩
/-- A form and a part that lie in two blocks. -/
structure PartAt (w w' : World) (b p : Nat) (v0 v1 v2 a c : Value) : Prop where
  form : w'.heap[b]? = some (.cells #[v0, v1, v2] 123 (0, 0))
  part : w'.heap[p]? = some (.cells #[a, c] 151 (0, 0))
  bel : Below w.heap.size w w'
theorem part_late {w w1 : World} {v0 v1 v2 a c : Value} (h : Below (w.alloc (.cells #[v0, v1, v2] 123)).heap.size (w.alloc (.cells #[v0, v1, v2] 123)) w1) :
    PartAt w (w1.alloc (.cells #[a, c] 151)) w.heap.size w1.heap.size v0 v1 v2 a c := by
  have hs := h.size
  simp at hs
  have hb : Below w.heap.size w w1 := ((Below.refl _ _).alloc (Nat.le_refl _) _).trans (h.mono (by simp))
  refine ⟨?_, heap_alloc_new _ _, hb.alloc hb.size _⟩
  rw [Below.heap_alloc _ _ _ (by omega), h.block _ (by simp)]
  exact heap_alloc_new _ _
theorem part_early {w w1 : World} {v0 v1 v2 a c x y : Value} (h : Below ((w.alloc (.cells #[v0, v1, v2] 123)).alloc (.cells #[x, y] 151)).heap.size ((w.alloc (.cells #[v0, v1, v2] 123)).alloc (.cells #[x, y] 151)) w1) :
    PartAt w ((w1.setCell ⟨w.heap.size + 1, 0, none⟩ a).setCell ⟨w.heap.size + 1, 1, none⟩ c) w.heap.size (w.heap.size + 1) v0 v1 v2 a c := by
  have hs := h.size
  simp at hs
  have hb : Below w.heap.size w w1 := (((Below.refl _ _).alloc (Nat.le_refl _) _).alloc (by simp) _).trans (h.mono (by simp; omega))
  refine ⟨?_, ?_, (hb.setCell (by simp) _).setCell (by simp) _⟩
  · rw [Below.heap_setCell _ _ _ _ (by simp), Below.heap_setCell _ _ _ _ (by simp), h.block _ (by simp; omega), Below.heap_alloc _ _ _ (by simp)]
    exact heap_alloc_new _ _
  · have hp : w1.heap[w.heap.size + 1]? = some (.cells #[x, y] 151 (0, 0)) := by
      rw [h.block _ (by simp)]
      have := heap_alloc_new (w.alloc (.cells #[v0, v1, v2] 123)) (.cells #[x, y] 151)
      simpa using this
    rw [heap_set (heap_set hp 0 a) 1 c]
    rfl

set_option maxRecDepth 100000 in
set_option maxHeartbeats 1000000 in
theorem parts_any (y L W x : Nat) (w : World) (hy : y ≤ 2) (h : L + W ≤ 64) :
    Calls Tryd.prog 91 #[formV y L W, .int .u64 (x : Int)] w fun e w' => ∃ g, e = .returned (.slice (some ⟨g, 0, none⟩) (BitMath.partsOf y L W x).length (BitMath.partsOf y L W x).length) ∧
      w.heap.size ≤ g ∧ w'.heap[g]? = some (.cells (partCells (BitMath.partsOf y L W x)).toArray 151 (0, 0)) ∧ Below w.heap.size w w' := by
  have HW : Hid (FormAt w (w.alloc (.cells #[.int .i64 (y : Int), .int .i64 (L : Int), .int .i64 (W : Int)] 123)) w.heap.size (.int .i64 (y : Int)) (.int .i64 (L : Int)) (.int .i64 (W : Int))) := form_new w _ _ _ _
  have HA := (show Hid _ from fun w0 => mtail_form L W w w0 w.heap.size (.int .i64 (y : Int)) (.int .i64 (L : Int)) (.int .i64 (W : Int)) h)
  obtain ⟨T, hT⟩ : ∃ T, 64 - L - W = T := ⟨_, rfl⟩
  have hT64 : T ≤ 64 := by omega
  rw [hT] at HA
  unfold winV at HA
  unfold formV
  have h0T : (0 : Int) ≤ (T : Int) := by omega
  have h1T : (T : Int) ≤ 64 := by omega
  have HX : Hid ((x : Int) / 2 ^ T = ((x / 2 ^ T : Nat) : Int)) := (by simp : (x : Int) / 2 ^ T = ((x / 2 ^ T : Nat) : Int))
  rcases (by omega : y = 0 ∨ y = 1 ∨ y = 2) with rfl | rfl | rfl
  · have hpo : BitMath.partsOf 0 L W x = [(0, 1)] := by unfold BitMath.partsOf; rw [hT]; rfl
    rw [hpo]
    have hL64 : (L : Int) ≤ 64 := by omega
    have hW64 : (W : Int) ≤ 64 := by omega
    clear hT h hy hpo
    go_enter Tryd.func91, Tryd.ntmps91
    go_wp2_with fail
    go_region_held3 (fun w' => w'.cell? ⟨w.heap.size, 0, none⟩ = some (.int .i64 0) ∧ w'.cell? ⟨w.heap.size, 1, none⟩ = some (.int .i64 (L : Int)) ∧ w'.cell? ⟨w.heap.size, 2, none⟩ = some (.int .i64 (W : Int))) (go_keep) ((go_at_call 102; refine Calls.mono (HA.out _ (by first | exact HW.out | exact HW.out.drew | exact (HW.out.alloc _).drew | exact HW.out.alloc _)) ?_; rintro e w1 ⟨rfl, k0, k1, k2, hw1, hb1⟩; obtain ⟨hc1, hf1⟩ := bcellf hb1; have HB1 := (show Hid _ from hb1); clear hw1 HA HW hb1))
    · obtain ⟨wz, hwz⟩ : ∃ wz, wz = w1.alloc (.cells #[.int .u64 ((x : Int) / 2 ^ T), .int .i64 (W : Int)] 151) := ⟨_, rfl⟩
      have hP : PartAt w wz w.heap.size w1.heap.size (.int .i64 0) (.int .i64 (L : Int)) (.int .i64 (W : Int)) (.int .u64 ((x : Int) / 2 ^ T)) (.int .i64 (W : Int)) := by rw [hwz]; exact part_late (undrew HB1.out)
      rw [← hwz]
      have c0 : wz.cell? ⟨w.heap.size, 0, none⟩ = some (.int .i64 0) := cells_of hP.form 0
      have c1 : wz.cell? ⟨w.heap.size, 1, none⟩ = some (.int .i64 (L : Int)) := cells_of hP.form 1
      have c2 : wz.cell? ⟨w.heap.size, 2, none⟩ = some (.int .i64 (W : Int)) := cells_of hP.form 2
      have d0 : wz.cell? ⟨w1.heap.size, 0, none⟩ = some (.int .u64 ((x : Int) / 2 ^ T)) := cells_of hP.part 0
      have d1 : wz.cell? ⟨w1.heap.size, 1, none⟩ = some (.int .i64 (W : Int)) := cells_of hP.part 1
      have HP := (show Hid _ from hP)
      clear hP hwz k0 k1 k2 hc1 hf1 HB1
      go_wp2
      go_ret
      refine ⟨wz.heap.size, rfl, HP.out.bel.size, ?_, HP.out.bel.alloc HP.out.bel.size _⟩
      rw [heap_alloc_new]
      first | rfl | (rw [HX.out]; rfl)
    · obtain ⟨wz, hwz⟩ : ∃ wz, wz = (w1.setCell ⟨w.heap.size + 1, 0, none⟩ (.int .u64 ((x : Int) / 2 ^ T))).setCell ⟨w.heap.size + 1, 1, none⟩ (.int .i64 (W : Int)) := ⟨_, rfl⟩
      have hP : PartAt w wz w.heap.size (w.heap.size + 1) (.int .i64 0) (.int .i64 (L : Int)) (.int .i64 (W : Int)) (.int .u64 ((x : Int) / 2 ^ T)) (.int .i64 (W : Int)) := by rw [hwz]; exact part_early (undrew HB1.out)
      rw [← hwz]
      have c0 : wz.cell? ⟨w.heap.size, 0, none⟩ = some (.int .i64 0) := cells_of hP.form 0
      have c1 : wz.cell? ⟨w.heap.size, 1, none⟩ = some (.int .i64 (L : Int)) := cells_of hP.form 1
      have c2 : wz.cell? ⟨w.heap.size, 2, none⟩ = some (.int .i64 (W : Int)) := cells_of hP.form 2
      have d0 : wz.cell? ⟨(w.heap.size + 1), 0, none⟩ = some (.int .u64 ((x : Int) / 2 ^ T)) := cells_of hP.part 0
      have d1 : wz.cell? ⟨(w.heap.size + 1), 1, none⟩ = some (.int .i64 (W : Int)) := cells_of hP.part 1
      have HP := (show Hid _ from hP)
      clear hP hwz k0 k1 k2 hc1 hf1 HB1
      go_wp2
      go_ret
      refine ⟨wz.heap.size, rfl, HP.out.bel.size, ?_, HP.out.bel.alloc HP.out.bel.size _⟩
      rw [heap_alloc_new]
      first | rfl | (rw [HX.out]; rfl)
  · have hpo : BitMath.partsOf 1 L W x = [(2, 2), (x / 2 ^ T, W)] := by unfold BitMath.partsOf; rw [hT]; rfl
    rw [hpo]
    have hL64 : (L : Int) ≤ 64 := by omega
    have hW64 : (W : Int) ≤ 64 := by omega
    clear hT h hy hpo
    go_enter Tryd.func91, Tryd.ntmps91
    go_wp2_with fail
    go_region_held3 (fun w' => w'.cell? ⟨w.heap.size, 0, none⟩ = some (.int .i64 1) ∧ w'.cell? ⟨w.heap.size, 1, none⟩ = some (.int .i64 (L : Int)) ∧ w'.cell? ⟨w.heap.size, 2, none⟩ = some (.int .i64 (W : Int))) (go_keep) ((go_at_call 102; refine Calls.mono (HA.out _ (by first | exact HW.out | exact HW.out.drew | exact (HW.out.alloc _).drew | exact HW.out.alloc _)) ?_; rintro e w1 ⟨rfl, k0, k1, k2, hw1, hb1⟩; obtain ⟨hc1, hf1⟩ := bcellf hb1; have HB1 := (show Hid _ from hb1); clear hw1 HA HW hb1))
    · obtain ⟨wz, hwz⟩ : ∃ wz, wz = w1.alloc (.cells #[.int .u64 ((x : Int) / 2 ^ T), .int .i64 (W : Int)] 151) := ⟨_, rfl⟩
      have hP : PartAt w wz w.heap.size w1.heap.size (.int .i64 1) (.int .i64 (L : Int)) (.int .i64 (W : Int)) (.int .u64 ((x : Int) / 2 ^ T)) (.int .i64 (W : Int)) := by rw [hwz]; exact part_late (undrew HB1.out)
      rw [← hwz]
      have c0 : wz.cell? ⟨w.heap.size, 0, none⟩ = some (.int .i64 1) := cells_of hP.form 0
      have c1 : wz.cell? ⟨w.heap.size, 1, none⟩ = some (.int .i64 (L : Int)) := cells_of hP.form 1
      have c2 : wz.cell? ⟨w.heap.size, 2, none⟩ = some (.int .i64 (W : Int)) := cells_of hP.form 2
      have d0 : wz.cell? ⟨w1.heap.size, 0, none⟩ = some (.int .u64 ((x : Int) / 2 ^ T)) := cells_of hP.part 0
      have d1 : wz.cell? ⟨w1.heap.size, 1, none⟩ = some (.int .i64 (W : Int)) := cells_of hP.part 1
      have HP := (show Hid _ from hP)
      clear hP hwz k0 k1 k2 hc1 hf1 HB1
      go_wp2
      go_ret
      refine ⟨wz.heap.size, rfl, HP.out.bel.size, ?_, HP.out.bel.alloc HP.out.bel.size _⟩
      rw [heap_alloc_new]
      first | rfl | (rw [HX.out]; rfl)
    · obtain ⟨wz, hwz⟩ : ∃ wz, wz = (w1.setCell ⟨w.heap.size + 1, 0, none⟩ (.int .u64 ((x : Int) / 2 ^ T))).setCell ⟨w.heap.size + 1, 1, none⟩ (.int .i64 (W : Int)) := ⟨_, rfl⟩
      have hP : PartAt w wz w.heap.size (w.heap.size + 1) (.int .i64 1) (.int .i64 (L : Int)) (.int .i64 (W : Int)) (.int .u64 ((x : Int) / 2 ^ T)) (.int .i64 (W : Int)) := by rw [hwz]; exact part_early (undrew HB1.out)
      rw [← hwz]
      have c0 : wz.cell? ⟨w.heap.size, 0, none⟩ = some (.int .i64 1) := cells_of hP.form 0
      have c1 : wz.cell? ⟨w.heap.size, 1, none⟩ = some (.int .i64 (L : Int)) := cells_of hP.form 1
      have c2 : wz.cell? ⟨w.heap.size, 2, none⟩ = some (.int .i64 (W : Int)) := cells_of hP.form 2
      have d0 : wz.cell? ⟨(w.heap.size + 1), 0, none⟩ = some (.int .u64 ((x : Int) / 2 ^ T)) := cells_of hP.part 0
      have d1 : wz.cell? ⟨(w.heap.size + 1), 1, none⟩ = some (.int .i64 (W : Int)) := cells_of hP.part 1
      have HP := (show Hid _ from hP)
      clear hP hwz k0 k1 k2 hc1 hf1 HB1
      go_wp2
      go_ret
      refine ⟨wz.heap.size, rfl, HP.out.bel.size, ?_, HP.out.bel.alloc HP.out.bel.size _⟩
      rw [heap_alloc_new]
      first | rfl | (rw [HX.out]; rfl)
  · have hpo : BitMath.partsOf 2 L W x = [(3, 2), (L, 5), (W, 6), (x / 2 ^ T, W)] := by unfold BitMath.partsOf; rw [hT]; rfl
    rw [hpo]
    have hL64 : (L : Int) ≤ 64 := by omega
    have hW64 : (W : Int) ≤ 64 := by omega
    clear hT h hy hpo
    go_enter Tryd.func91, Tryd.ntmps91
    go_wp2_with fail
    go_region_held3 (fun w' => w'.cell? ⟨w.heap.size, 0, none⟩ = some (.int .i64 2) ∧ w'.cell? ⟨w.heap.size, 1, none⟩ = some (.int .i64 (L : Int)) ∧ w'.cell? ⟨w.heap.size, 2, none⟩ = some (.int .i64 (W : Int))) (go_keep) ((go_at_call 102; refine Calls.mono (HA.out _ (by first | exact HW.out | exact HW.out.drew | exact (HW.out.alloc _).drew | exact HW.out.alloc _)) ?_; rintro e w1 ⟨rfl, k0, k1, k2, hw1, hb1⟩; obtain ⟨hc1, hf1⟩ := bcellf hb1; have HB1 := (show Hid _ from hb1); clear hw1 HA HW hb1))
    · obtain ⟨wz, hwz⟩ : ∃ wz, wz = w1.alloc (.cells #[.int .u64 ((x : Int) / 2 ^ T), .int .i64 (W : Int)] 151) := ⟨_, rfl⟩
      have hP : PartAt w wz w.heap.size w1.heap.size (.int .i64 2) (.int .i64 (L : Int)) (.int .i64 (W : Int)) (.int .u64 ((x : Int) / 2 ^ T)) (.int .i64 (W : Int)) := by rw [hwz]; exact part_late (undrew HB1.out)
      rw [← hwz]
      have c0 : wz.cell? ⟨w.heap.size, 0, none⟩ = some (.int .i64 2) := cells_of hP.form 0
      have c1 : wz.cell? ⟨w.heap.size, 1, none⟩ = some (.int .i64 (L : Int)) := cells_of hP.form 1
      have c2 : wz.cell? ⟨w.heap.size, 2, none⟩ = some (.int .i64 (W : Int)) := cells_of hP.form 2
      have d0 : wz.cell? ⟨w1.heap.size, 0, none⟩ = some (.int .u64 ((x : Int) / 2 ^ T)) := cells_of hP.part 0
      have d1 : wz.cell? ⟨w1.heap.size, 1, none⟩ = some (.int .i64 (W : Int)) := cells_of hP.part 1
      have HP := (show Hid _ from hP)
      clear hP hwz k0 k1 k2 hc1 hf1 HB1
      go_wp2
      go_ret
      refine ⟨wz.heap.size, rfl, HP.out.bel.size, ?_, HP.out.bel.alloc HP.out.bel.size _⟩
      rw [heap_alloc_new]
      first | rfl | (rw [HX.out]; rfl)
    · obtain ⟨wz, hwz⟩ : ∃ wz, wz = (w1.setCell ⟨w.heap.size + 1, 0, none⟩ (.int .u64 ((x : Int) / 2 ^ T))).setCell ⟨w.heap.size + 1, 1, none⟩ (.int .i64 (W : Int)) := ⟨_, rfl⟩
      have hP : PartAt w wz w.heap.size (w.heap.size + 1) (.int .i64 2) (.int .i64 (L : Int)) (.int .i64 (W : Int)) (.int .u64 ((x : Int) / 2 ^ T)) (.int .i64 (W : Int)) := by rw [hwz]; exact part_early (undrew HB1.out)
      rw [← hwz]
      have c0 : wz.cell? ⟨w.heap.size, 0, none⟩ = some (.int .i64 2) := cells_of hP.form 0
      have c1 : wz.cell? ⟨w.heap.size, 1, none⟩ = some (.int .i64 (L : Int)) := cells_of hP.form 1
      have c2 : wz.cell? ⟨w.heap.size, 2, none⟩ = some (.int .i64 (W : Int)) := cells_of hP.form 2
      have d0 : wz.cell? ⟨(w.heap.size + 1), 0, none⟩ = some (.int .u64 ((x : Int) / 2 ^ T)) := cells_of hP.part 0
      have d1 : wz.cell? ⟨(w.heap.size + 1), 1, none⟩ = some (.int .i64 (W : Int)) := cells_of hP.part 1
      have HP := (show Hid _ from hP)
      clear hP hwz k0 k1 k2 hc1 hf1 HB1
      go_wp2
      go_ret
      refine ⟨wz.heap.size, rfl, HP.out.bel.size, ?_, HP.out.bel.alloc HP.out.bel.size _⟩
      rw [heap_alloc_new]
      first | rfl | (rw [HX.out]; rfl)
end Go.Proofs.YtgdflopgdlpimaaDoor
