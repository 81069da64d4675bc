/- Package wave's Put by contracts; the statements' helper waved. -/
import Derived.Test.YtlbdjkeaohdjkabDoorWavePut
namespace Go.Proofs.YtlbdjkeaohdjkabDoor
open Go.RowKit

/-- A variable that holds a struct, behind what makes memory. -/
theorem form_var {w1 w2 : World} {C : Array Value} {t : TypeId} (h : Below (w1.alloc (.cells C t)).heap.size (w1.alloc (.cells C t)) w2) : w2.heap[w1.heap.size]? = some (.cells C t (0, 0)) ∧ Below w1.heap.size w1 w2 := by
  have hb : Below w1.heap.size w1 (w1.alloc (.cells C t)) := (Below.refl _ _).alloc (Nat.le_refl _) _
  refine ⟨?_, hb.trans (h.mono (by simp))⟩
  rw [h.block w1.heap.size (by simp)]
  exact heap_alloc_new _ _

theorem wput_nil (n : Int) (w : World) (a : Addr) (hE : w.cell? ⟨3, 0, none⟩ = some (.iface 264 (.pointer (some a)))) :
    Calls Tryd.prog 113 #[.pointer none, .int .i64 n] w fun e w' => e = .returned (.iface 264 (.pointer (some a))) ∧ w' = w := by
  go_enter Tryd.func113, Tryd.ntmps113
  go_wp2
  go_ret
  exact ⟨rfl, rfl⟩

set_option maxRecDepth 1000000 in
set_option maxHeartbeats 2000000 in
theorem wput_ok (n : Int) (w : World) (hF : Forms w) (r : Nat) (v : Value) (bs : List Bool) (h : IsRow w r v bs) (hsz : bs.length + (BitMath.waveOf n).length ≤ 1048576) (h0 : -9223372036854775808 ≤ n) (h1 : n ≤ 9223372036854775807) :
    Calls Tryd.prog 113 #[.pointer (some ⟨r, 0, none⟩), .int .i64 n] w fun e w' => e = .returned .nilIface ∧ ∃ v', IsRow w' r v' (bs ++ BitMath.waveOf n) ∧ Kept (r :: v.ownBlock.toList) w w' ∧ Grew w v v' := by
  have hfo := formOf_any n w hF h0 h1
  have hlen := BitMath.length_waveOf n
  have hfl := BitMath.formOf_le n
  have HROW := (show Hid _ from h)
  clear h hF
  rcases (by omega : BitMath.formOf n = 0 ∨ BitMath.formOf n = 1 ∨ BitMath.formOf n = 2 ∨ BitMath.formOf n = 3 ∨ BitMath.formOf n = 4) with hf | hf | hf | hf | hf
  · rw [hf] at hfo hlen
    unfold formVal at hfo
    have hlen' : (BitMath.waveOf n).length = 1 + 0 := hlen
    have HFO := (show Hid _ from hfo)
    have HSZ : Hid (∀ w0, Calls Tryd.prog 51 #[formVal 0] w0 fun e w' => e = .returned (.int .i64 1) ∧ Below w0.heap.size w0 w') := fun w0 => size_at 0 (by omega) w0
    have HRM := (show Hid _ from fun w0 hr0 => room_any w0 r v bs hr0 (by omega))
    have HFP := (show Hid _ from fun w0 hr0 => fput_at 0 (by omega) n hf w0 r v bs hr0 hsz h0 h1)
    have hrm : decide ((1048576 : Int) - (bs.length : Int) < 1) = false := by simp; omega
    clear hfo hlen hlen' hfl hf hsz
    go_enter Tryd.func113, Tryd.ntmps113
    go_wp2_with fail
    refine Calls.mono HFO.out ?_
    rintro e w1 ⟨rfl, hb1⟩
    go_wp2_with fail
    refine Calls.mono (HSZ.out _) ?_
    rintro e w2 ⟨rfl, hb2⟩
    obtain ⟨hblk, hb3⟩ := form_var hb2
    have hb4 := hb1.trans (hb3.mono hb1.size)
    have hrow2 := HROW.out.below hb4
    have z0 : w2.cell? ⟨w1.heap.size, 0, none⟩ = some (.int .u64 0) := cells_of hblk 0
    have z1 : w2.cell? ⟨w1.heap.size, 1, none⟩ = some (.int .i64 1) := cells_of hblk 1
    have z2 : w2.cell? ⟨w1.heap.size, 2, none⟩ = some (.int .i64 0) := cells_of hblk 2
    have z3 : w2.cell? ⟨w1.heap.size, 3, none⟩ = some (.int .i64 0) := cells_of hblk 3
    have HRM2 := (show Hid _ from HRM.out w2 hrow2)
    have HFP2 := (show Hid _ from HFP.out w2 hrow2)
    have HB4 := (show Hid _ from hb4)
    clear hb1 hb2 hb3 hb4 hblk hrow2 HRM HFP HFO HSZ
    go_wp2_with fail
    refine Calls.mono HRM2.out ?_
    rintro e w3 ⟨rfl, hw3⟩
    have hw3' := hw3.symm
    subst hw3'
    go_wp2_with fail
    refine Calls.mono HFP2.out ?_
    rintro e w4 ⟨rfl, v4, hr4, hk4, hg4⟩
    clear z0 z1 z2 z3
    go_wp2
    go_ret
    refine ⟨rfl, v4, hr4, (Kept.of_below HB4.out).trans hk4 (fun x hx => .inl hx), ?_⟩
    rcases hg4 with t | ⟨g, t, hg⟩
    · exact .inl t
    · exact .inr ⟨g, t, Nat.le_trans HB4.out.size hg⟩
  · rw [hf] at hfo hlen
    unfold formVal at hfo
    have hlen' : (BitMath.waveOf n).length = 2 + 7 := hlen
    have HFO := (show Hid _ from hfo)
    have HSZ : Hid (∀ w0, Calls Tryd.prog 51 #[formVal 1] w0 fun e w' => e = .returned (.int .i64 9) ∧ Below w0.heap.size w0 w') := fun w0 => size_at 1 (by omega) w0
    have HRM := (show Hid _ from fun w0 hr0 => room_any w0 r v bs hr0 (by omega))
    have HFP := (show Hid _ from fun w0 hr0 => fput_at 1 (by omega) n hf w0 r v bs hr0 hsz h0 h1)
    have hrm : decide ((1048576 : Int) - (bs.length : Int) < 9) = false := by simp; omega
    clear hfo hlen hlen' hfl hf hsz
    go_enter Tryd.func113, Tryd.ntmps113
    go_wp2_with fail
    refine Calls.mono HFO.out ?_
    rintro e w1 ⟨rfl, hb1⟩
    go_wp2_with fail
    refine Calls.mono (HSZ.out _) ?_
    rintro e w2 ⟨rfl, hb2⟩
    obtain ⟨hblk, hb3⟩ := form_var hb2
    have hb4 := hb1.trans (hb3.mono hb1.size)
    have hrow2 := HROW.out.below hb4
    have z0 : w2.cell? ⟨w1.heap.size, 0, none⟩ = some (.int .u64 2) := cells_of hblk 0
    have z1 : w2.cell? ⟨w1.heap.size, 1, none⟩ = some (.int .i64 2) := cells_of hblk 1
    have z2 : w2.cell? ⟨w1.heap.size, 2, none⟩ = some (.int .i64 7) := cells_of hblk 2
    have z3 : w2.cell? ⟨w1.heap.size, 3, none⟩ = some (.int .i64 63) := cells_of hblk 3
    have HRM2 := (show Hid _ from HRM.out w2 hrow2)
    have HFP2 := (show Hid _ from HFP.out w2 hrow2)
    have HB4 := (show Hid _ from hb4)
    clear hb1 hb2 hb3 hb4 hblk hrow2 HRM HFP HFO HSZ
    go_wp2_with fail
    refine Calls.mono HRM2.out ?_
    rintro e w3 ⟨rfl, hw3⟩
    have hw3' := hw3.symm
    subst hw3'
    go_wp2_with fail
    refine Calls.mono HFP2.out ?_
    rintro e w4 ⟨rfl, v4, hr4, hk4, hg4⟩
    clear z0 z1 z2 z3
    go_wp2
    go_ret
    refine ⟨rfl, v4, hr4, (Kept.of_below HB4.out).trans hk4 (fun x hx => .inl hx), ?_⟩
    rcases hg4 with t | ⟨g, t, hg⟩
    · exact .inl t
    · exact .inr ⟨g, t, Nat.le_trans HB4.out.size hg⟩
  · rw [hf] at hfo hlen
    unfold formVal at hfo
    have hlen' : (BitMath.waveOf n).length = 3 + 9 := hlen
    have HFO := (show Hid _ from hfo)
    have HSZ : Hid (∀ w0, Calls Tryd.prog 51 #[formVal 2] w0 fun e w' => e = .returned (.int .i64 12) ∧ Below w0.heap.size w0 w') := fun w0 => size_at 2 (by omega) w0
    have HRM := (show Hid _ from fun w0 hr0 => room_any w0 r v bs hr0 (by omega))
    have HFP := (show Hid _ from fun w0 hr0 => fput_at 2 (by omega) n hf w0 r v bs hr0 hsz h0 h1)
    have hrm : decide ((1048576 : Int) - (bs.length : Int) < 12) = false := by simp; omega
    clear hfo hlen hlen' hfl hf hsz
    go_enter Tryd.func113, Tryd.ntmps113
    go_wp2_with fail
    refine Calls.mono HFO.out ?_
    rintro e w1 ⟨rfl, hb1⟩
    go_wp2_with fail
    refine Calls.mono (HSZ.out _) ?_
    rintro e w2 ⟨rfl, hb2⟩
    obtain ⟨hblk, hb3⟩ := form_var hb2
    have hb4 := hb1.trans (hb3.mono hb1.size)
    have hrow2 := HROW.out.below hb4
    have z0 : w2.cell? ⟨w1.heap.size, 0, none⟩ = some (.int .u64 6) := cells_of hblk 0
    have z1 : w2.cell? ⟨w1.heap.size, 1, none⟩ = some (.int .i64 3) := cells_of hblk 1
    have z2 : w2.cell? ⟨w1.heap.size, 2, none⟩ = some (.int .i64 9) := cells_of hblk 2
    have z3 : w2.cell? ⟨w1.heap.size, 3, none⟩ = some (.int .i64 255) := cells_of hblk 3
    have HRM2 := (show Hid _ from HRM.out w2 hrow2)
    have HFP2 := (show Hid _ from HFP.out w2 hrow2)
    have HB4 := (show Hid _ from hb4)
    clear hb1 hb2 hb3 hb4 hblk hrow2 HRM HFP HFO HSZ
    go_wp2_with fail
    refine Calls.mono HRM2.out ?_
    rintro e w3 ⟨rfl, hw3⟩
    have hw3' := hw3.symm
    subst hw3'
    go_wp2_with fail
    refine Calls.mono HFP2.out ?_
    rintro e w4 ⟨rfl, v4, hr4, hk4, hg4⟩
    clear z0 z1 z2 z3
    go_wp2
    go_ret
    refine ⟨rfl, v4, hr4, (Kept.of_below HB4.out).trans hk4 (fun x hx => .inl hx), ?_⟩
    rcases hg4 with t | ⟨g, t, hg⟩
    · exact .inl t
    · exact .inr ⟨g, t, Nat.le_trans HB4.out.size hg⟩
  · rw [hf] at hfo hlen
    unfold formVal at hfo
    have hlen' : (BitMath.waveOf n).length = 4 + 12 := hlen
    have HFO := (show Hid _ from hfo)
    have HSZ : Hid (∀ w0, Calls Tryd.prog 51 #[formVal 3] w0 fun e w' => e = .returned (.int .i64 16) ∧ Below w0.heap.size w0 w') := fun w0 => size_at 3 (by omega) w0
    have HRM := (show Hid _ from fun w0 hr0 => room_any w0 r v bs hr0 (by omega))
    have HFP := (show Hid _ from fun w0 hr0 => fput_at 3 (by omega) n hf w0 r v bs hr0 hsz h0 h1)
    have hrm : decide ((1048576 : Int) - (bs.length : Int) < 16) = false := by simp; omega
    clear hfo hlen hlen' hfl hf hsz
    go_enter Tryd.func113, Tryd.ntmps113
    go_wp2_with fail
    refine Calls.mono HFO.out ?_
    rintro e w1 ⟨rfl, hb1⟩
    go_wp2_with fail
    refine Calls.mono (HSZ.out _) ?_
    rintro e w2 ⟨rfl, hb2⟩
    obtain ⟨hblk, hb3⟩ := form_var hb2
    have hb4 := hb1.trans (hb3.mono hb1.size)
    have hrow2 := HROW.out.below hb4
    have z0 : w2.cell? ⟨w1.heap.size, 0, none⟩ = some (.int .u64 14) := cells_of hblk 0
    have z1 : w2.cell? ⟨w1.heap.size, 1, none⟩ = some (.int .i64 4) := cells_of hblk 1
    have z2 : w2.cell? ⟨w1.heap.size, 2, none⟩ = some (.int .i64 12) := cells_of hblk 2
    have z3 : w2.cell? ⟨w1.heap.size, 3, none⟩ = some (.int .i64 2047) := cells_of hblk 3
    have HRM2 := (show Hid _ from HRM.out w2 hrow2)
    have HFP2 := (show Hid _ from HFP.out w2 hrow2)
    have HB4 := (show Hid _ from hb4)
    clear hb1 hb2 hb3 hb4 hblk hrow2 HRM HFP HFO HSZ
    go_wp2_with fail
    refine Calls.mono HRM2.out ?_
    rintro e w3 ⟨rfl, hw3⟩
    have hw3' := hw3.symm
    subst hw3'
    go_wp2_with fail
    refine Calls.mono HFP2.out ?_
    rintro e w4 ⟨rfl, v4, hr4, hk4, hg4⟩
    clear z0 z1 z2 z3
    go_wp2
    go_ret
    refine ⟨rfl, v4, hr4, (Kept.of_below HB4.out).trans hk4 (fun x hx => .inl hx), ?_⟩
    rcases hg4 with t | ⟨g, t, hg⟩
    · exact .inl t
    · exact .inr ⟨g, t, Nat.le_trans HB4.out.size hg⟩
  · rw [hf] at hfo hlen
    unfold formVal at hfo
    have hlen' : (BitMath.waveOf n).length = 4 + 64 := hlen
    have HFO := (show Hid _ from hfo)
    have HSZ : Hid (∀ w0, Calls Tryd.prog 51 #[formVal 4] w0 fun e w' => e = .returned (.int .i64 68) ∧ Below w0.heap.size w0 w') := fun w0 => size_at 4 (by omega) w0
    have HRM := (show Hid _ from fun w0 hr0 => room_any w0 r v bs hr0 (by omega))
    have HFP := (show Hid _ from fun w0 hr0 => fput_at 4 (by omega) n hf w0 r v bs hr0 hsz h0 h1)
    have hrm : decide ((1048576 : Int) - (bs.length : Int) < 68) = false := by simp; omega
    clear hfo hlen hlen' hfl hf hsz
    go_enter Tryd.func113, Tryd.ntmps113
    go_wp2_with fail
    refine Calls.mono HFO.out ?_
    rintro e w1 ⟨rfl, hb1⟩
    go_wp2_with fail
    refine Calls.mono (HSZ.out _) ?_
    rintro e w2 ⟨rfl, hb2⟩
    obtain ⟨hblk, hb3⟩ := form_var hb2
    have hb4 := hb1.trans (hb3.mono hb1.size)
    have hrow2 := HROW.out.below hb4
    have z0 : w2.cell? ⟨w1.heap.size, 0, none⟩ = some (.int .u64 15) := cells_of hblk 0
    have z1 : w2.cell? ⟨w1.heap.size, 1, none⟩ = some (.int .i64 4) := cells_of hblk 1
    have z2 : w2.cell? ⟨w1.heap.size, 2, none⟩ = some (.int .i64 64) := cells_of hblk 2
    have z3 : w2.cell? ⟨w1.heap.size, 3, none⟩ = some (.int .i64 0) := cells_of hblk 3
    have HRM2 := (show Hid _ from HRM.out w2 hrow2)
    have HFP2 := (show Hid _ from HFP.out w2 hrow2)
    have HB4 := (show Hid _ from hb4)
    clear hb1 hb2 hb3 hb4 hblk hrow2 HRM HFP HFO HSZ
    go_wp2_with fail
    refine Calls.mono HRM2.out ?_
    rintro e w3 ⟨rfl, hw3⟩
    have hw3' := hw3.symm
    subst hw3'
    go_wp2_with fail
    refine Calls.mono HFP2.out ?_
    rintro e w4 ⟨rfl, v4, hr4, hk4, hg4⟩
    clear z0 z1 z2 z3
    go_wp2
    go_ret
    refine ⟨rfl, v4, hr4, (Kept.of_below HB4.out).trans hk4 (fun x hx => .inl hx), ?_⟩
    rcases hg4 with t | ⟨g, t, hg⟩
    · exact .inl t
    · exact .inr ⟨g, t, Nat.le_trans HB4.out.size hg⟩

end Go.Proofs.YtlbdjkeaohdjkabDoor
