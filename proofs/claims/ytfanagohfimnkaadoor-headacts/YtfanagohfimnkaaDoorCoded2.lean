/- The helpers coded and faulted of the statements of chapters 6 to 8. -/
import Derived.Test.YtfanagohfimnkaaDoorLabFault
namespace Go.Proofs.YtfanagohfimnkaaDoor
open Go.RowKit

theorem coded2_es {B : Nat} {ea : Nat → Addr} (w : World) (E : Env B ea w) (hB : B ≤ w.heap.size) (m : Nat) (hm : m < 11) (c : Int) (hc : (m : Int) + 1 = c) :
    Calls Tryd.prog 22 #[.iface 197 (.pointer (some (ea m))), .int .i64 c] w fun e w' => e = .returned (.bool true) ∧ Below w.heap.size w w' := by
  have h := code_es w E hB (ea m) (E.blk m hm) m (Nat.le_of_lt hm) (fun j hj he => by have := E.inj j m (by omega) hm he; omega) (fun _ => rfl)
  rw [if_pos hm, hc] at h
  have H := (show Hid _ from h)
  clear h hc
  go_enter Tryd.func22, Tryd.ntmps22
  go_wp2_with fail
  refine Calls.mono H.out ?_
  rintro e w' ⟨rfl, hb⟩
  go_wp2
  go_ret
  exact ⟨by simp, by assumption⟩

theorem faulted2_nil (w : World) (at_ : Int) :
    Calls Tryd.prog 27 #[.nilIface, .agg #[.int .i64 0, .int .i64 at_]] w fun e w' => e = .returned (.bool true) ∧ Below w.heap.size w w' := by
  go_enter Tryd.func27, Tryd.ntmps27
  go_wp2_with (go_at_call 42; refine (code_nil _).mono ?_; rintro e w' ⟨rfl, rfl⟩)
  go_ret
  exact ⟨rfl, (Below.refl _ _).alloc (Nat.le_refl _) _⟩

theorem faulted2_es {B : Nat} {ea : Nat → Addr} (w : World) (E : Env B ea w) (hB : B ≤ w.heap.size) (m : Nat) (hm : m < 11) (c : Int) (hc : (m : Int) + 1 = c) :
    Calls Tryd.prog 27 #[.iface 197 (.pointer (some (ea m))), .agg #[.int .i64 c, .int .i64 (-1)]] w fun e w' => e = .returned (.bool true) ∧ Below w.heap.size w w' := by
  obtain ⟨w1, hw1⟩ : ∃ w1, w1 = w.alloc (.cells #[.int .i64 c, .int .i64 (-1)] 36) := ⟨_, rfl⟩
  have hb1 : Below w.heap.size w w1 := by rw [hw1]; exact (Below.refl _ _).alloc (Nat.le_refl _) _
  have E1 := E.below hb1 hB
  have hs1 : w1.heap.size = w.heap.size + 1 := by rw [hw1]; simp
  have h := code_es w1 E1 (by omega) (ea m) (E1.blk m hm) m (Nat.le_of_lt hm) (fun j hj he => by have := E1.inj j m (by omega) hm he; omega) (fun _ => rfl)
  rw [if_pos hm, hc] at h
  have hblk : w1.heap[w.heap.size]? = some (.cells #[.int .i64 c, .int .i64 (-1)] 36 (0, 0)) := by rw [hw1]; exact heap_alloc_new _ _
  have H := (show Hid _ from h)
  have HBLK := (show Hid _ from hblk)
  have HB1 := (show Hid _ from hb1)
  have hc0 : (c == 0) = false := by rw [beq_eq_false_iff_ne]; omega
  rw [hw1] at H HBLK HB1
  clear h hc hblk hb1 hs1 hw1 E1
  go_enter Tryd.func27, Tryd.ntmps27
  go_wp2_with fail
  refine Calls.mono H.out ?_
  rintro e w2 ⟨rfl, hb2⟩
  have hblk2 := (hb2.block w.heap.size (by simp)).trans HBLK.out
  have z0 : w2.cell? ⟨w.heap.size, 0, none⟩ = some (.int .i64 c) := cells_of hblk2 0
  have z1 : w2.cell? ⟨w.heap.size, 1, none⟩ = some (.int .i64 (-1)) := cells_of hblk2 1
  have HBW : Hid (Below w.heap.size w w2) := HB1.out.trans (hb2.mono HB1.out.size)
  clear hb2 hblk2 H HBLK
  go_wp2
  go_ret
  exact ⟨by simp, HBW.out⟩

theorem faulted2_fault {B : Nat} {ea : Nat → Addr} (w : World) (E : Env B ea w) (hB : B ≤ w.heap.size) (pb po : Nat) (n : Int) (m : Nat) (hm : m < 11) (ha : w.cell? ⟨pb, po, none⟩ = some (.int .i64 n)) (he : w.cell? ⟨pb, po + 1, none⟩ = some (.iface 197 (.pointer (some (ea m))))) (c : Int) (hc : (m : Int) + 1 = c) :
    Calls Tryd.prog 27 #[.iface 117 (.pointer (some ⟨pb, po, none⟩)), .agg #[.int .i64 c, .int .i64 n]] w fun e w' => e = .returned (.bool true) ∧ Below w.heap.size w w' := by
  obtain ⟨w1, hw1⟩ : ∃ w1, w1 = w.alloc (.cells #[.int .i64 c, .int .i64 n] 36) := ⟨_, rfl⟩
  have hb1 : Below w.heap.size w w1 := by rw [hw1]; exact (Below.refl _ _).alloc (Nat.le_refl _) _
  have E1 := E.below hb1 hB
  have hs1 : w1.heap.size = w.heap.size + 1 := by rw [hw1]; simp
  have hpb : pb < w.heap.size := lt_of_cell ha
  have h := code_fault w1 E1 (by omega) pb po n m hm ((hb1.cell (p := ⟨pb, po, none⟩) hpb).trans ha) ((hb1.cell (p := ⟨pb, po + 1, none⟩) hpb).trans he)
  rw [hc] at h
  have hblk : w1.heap[w.heap.size]? = some (.cells #[.int .i64 c, .int .i64 n] 36 (0, 0)) := by rw [hw1]; exact heap_alloc_new _ _
  have H := (show Hid _ from h)
  have HBLK := (show Hid _ from hblk)
  have HB1 := (show Hid _ from hb1)
  have hc0 : (c == 0) = false := by rw [beq_eq_false_iff_ne]; omega
  rw [hw1] at H HBLK HB1
  clear h hc hblk hb1 hs1 hw1 E1 ha he
  go_enter Tryd.func27, Tryd.ntmps27
  go_wp2_with fail
  refine Calls.mono H.out ?_
  rintro e w2 ⟨rfl, hb2⟩
  have hblk2 := (hb2.block w.heap.size (by simp)).trans HBLK.out
  have z0 : w2.cell? ⟨w.heap.size, 0, none⟩ = some (.int .i64 c) := cells_of hblk2 0
  have z1 : w2.cell? ⟨w.heap.size, 1, none⟩ = some (.int .i64 n) := cells_of hblk2 1
  have HBW : Hid (Below w.heap.size w w2) := HB1.out.trans (hb2.mono HB1.out.size)
  clear hb2 hblk2 H HBLK
  go_wp2
  go_ret
  exact ⟨by simp, HBW.out⟩

theorem faulted2_v {B : Nat} {ea : Nat → Addr} (w : World) (E : Env B ea w) (hB : B ≤ w.heap.size) (v : Value) (C A : Int) (h : FaultV ea w v C A) :
    Calls Tryd.prog 27 #[v, .agg #[.int .i64 C, .int .i64 A]] w fun e w' => e = .returned (.bool true) ∧ Below w.heap.size w w' := by
  rcases h with ⟨rfl, rfl⟩ | ⟨m, hm, rfl, hc, rfl⟩ | ⟨pb, m, hm, rfl, c0, c1, hc⟩
  · exact faulted2_nil w A
  · exact faulted2_es w E hB m hm C hc
  · exact faulted2_fault w E hB pb 0 A m hm c0 (by simpa using c1) C hc
theorem coded2_fault {B : Nat} {ea : Nat → Addr} (w : World) (E : Env B ea w) (hB : B ≤ w.heap.size) (pb : Nat) (m : Nat) (hm : m < 11) (ha : w.cell? ⟨pb, 0, none⟩ = some (.int .i64 (-1))) (he : w.cell? ⟨pb, 1, none⟩ = some (.iface 197 (.pointer (some (ea m))))) (c : Int) (hc : (m : Int) + 1 = c) :
    Calls Tryd.prog 22 #[.iface 117 (.pointer (some ⟨pb, 0, none⟩)), .int .i64 c] w fun e w' => e = .returned (.bool true) ∧ Below w.heap.size w w' := by
  have h := code_fault w E hB pb 0 (-1) m hm ha (by simpa using he)
  rw [hc] at h
  have H := (show Hid _ from h)
  clear h hc ha he
  go_enter Tryd.func22, Tryd.ntmps22
  go_wp2_with fail
  refine Calls.mono H.out ?_
  rintro e w' ⟨rfl, hb⟩
  have HB := (show Hid _ from hb)
  clear hb
  go_wp2
  go_ret
  exact ⟨by simp, HB.out⟩
theorem coded2_v {B : Nat} {ea : Nat → Addr} (w : World) (E : Env B ea w) (hB : B ≤ w.heap.size) (v : Value) (C : Int) (h : FaultV ea w v C (-1)) (hC : 0 < C) :
    Calls Tryd.prog 22 #[v, .int .i64 C] w fun e w' => e = .returned (.bool true) ∧ Below w.heap.size w w' := by
  rcases h with ⟨rfl, rfl⟩ | ⟨m, hm, rfl, hc, _⟩ | ⟨pb, m, hm, rfl, c0, c1, hc⟩
  · omega
  · exact coded2_es w E hB m hm C hc
  · exact coded2_fault w E hB pb m hm c0 c1 C hc
end Go.Proofs.YtfanagohfimnkaaDoor
