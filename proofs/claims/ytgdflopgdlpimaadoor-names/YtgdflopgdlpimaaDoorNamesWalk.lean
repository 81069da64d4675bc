/- The walk of tidegaugelaw1.Names: it returns true and writes nothing that was there. -/
import Derived.Test.YtgdflopgdlpimaaDoorSame
namespace Go.Proofs.YtgdflopgdlpimaaDoor
open Go.RowKit

theorem errors_new (s : ByteArray) (w : World) :
    Calls Tryd.prog 15 #[.string s] w fun e w' => e = .returned (.iface 97 (.pointer (some ⟨w.heap.size, 0, none⟩))) ∧ w' = w.alloc (.cells #[.string s] 99) := by
  go_enter Tryd.func15, Tryd.ntmps15
  go_wp2
  go_ret
  exact ⟨rfl, rfl⟩

def nums : Array Value := #[.int .i64 1099511627776, .int .i64 1048576, .int .i64 120, .int .i64 12, .int .i64 6, .int .i64 60, .int .i64 40, .int .i64 65536, .int .i64 100000, .int .i64 20000, .int .i64 6, .int .i64 3000, .int .i64 100, .int .i64 16]
def numAt (k : Nat) : Int := [(1099511627776 : Int), 1048576, 120, 12, 6, 60, 40, 65536, 100000, 20000, 6, 3000, 100, 16].getD k 0
theorem nums_at (k : Nat) (hk : k < 14) : nums[k]? = some (.int .i64 (numAt k)) := by
  match k, hk with
  | 0, _ => rfl
  | 1, _ => rfl
  | 2, _ => rfl
  | 3, _ => rfl
  | 4, _ => rfl
  | 5, _ => rfl
  | 6, _ => rfl
  | 7, _ => rfl
  | 8, _ => rfl
  | 9, _ => rfl
  | 10, _ => rfl
  | 11, _ => rfl
  | 12, _ => rfl
  | 13, _ => rfl

set_option maxHeartbeats 1000000 in
theorem names_walk {B : Nat} {ea : Nat → Addr} (w : World) (E : Env B ea w) (hB : B ≤ w.heap.size) :
    Calls Tryd.prog 3 #[] w fun e w' => e = .returned (.bool true) ∧ Below w.heap.size w w' := by
  have hb0 : Below w.heap.size w ((w.alloc (.cells nums 3)).alloc (.cells nums 3)) := ((Below.refl _ _).alloc (Nat.le_refl _) _).alloc (by simp) _
  have h1 : ∀ k, k < 14 → ((w.alloc (.cells nums 3)).alloc (.cells nums 3)).cell? ⟨w.heap.size, k, none⟩ = some (.int .i64 (numAt k)) := fun k hk => by
    rw [World.cell?_alloc_lt _ _ ⟨w.heap.size, k, none⟩ (by simp), World.cell?_alloc_at _ _ _ _ rfl]; exact nums_at k hk
  have h2 : ∀ k, k < 14 → ((w.alloc (.cells nums 3)).alloc (.cells nums 3)).cell? ⟨w.heap.size + 1, k, none⟩ = some (.int .i64 (numAt k)) := fun k hk => by
    rw [World.cell?_alloc_at _ _ _ _ (by simp)]; exact nums_at k hk
  have hsame := same_ints w.heap.size (w.heap.size + 1) 14 numAt _ (by omega) h1 h2
  unfold nums at hsame hb0
  have HS := (show Hid _ from hsame)
  have HB := (show Hid _ from hb0)
  clear hsame h1 h2 hb0
  go_enter Tryd.func3, Tryd.ntmps3
  go_wp2_with fail
  refine Calls.mono HS.out ?_
  rintro e w1 ⟨rfl, hs, -, -⟩
  have hb1 : Below w.heap.size w w1 := HB.out.trans (hs.mono (by simp; omega))
  clear hs HS HB
  have E1 := E.below hb1 hB
  have hcs := errCells_at ea
  have hb2 : Below w.heap.size w (w1.alloc (.cells (errCells ea) 25)) := hb1.alloc hb1.size _
  have hcell : ∀ k, k < 11 → (w1.alloc (.cells (errCells ea) 25)).cell? ⟨w1.heap.size, k, none⟩ = some (.iface 97 (.pointer (some (ea k)))) := fun k hk => by rw [World.cell?_alloc_at _ _ _ _ rfl]; exact hcs k hk
  have hlt2 : w1.heap.size < (w1.alloc (.cells (errCells ea) 25)).heap.size := by simp
  obtain ⟨c0, c1, c2, c3, c4, c5, c6, c7, c8, c9, c10, _, _, _, _, _⟩ := E1
  obtain ⟨w2, hw2⟩ : ∃ w2, w2 = w1.alloc (.cells (errCells ea) 25) := ⟨_, rfl⟩
  rw [← hw2] at hb2 hcell hlt2
  have H2 : Hid (∀ (w' : World), w' = w1.alloc (.cells (errCells ea) 25) → w' = w2) := fun w' h => h.trans hw2.symm
  clear hw2 hcs
  go_wp2_with fail
  have hw := H2.out _ rfl
  unfold errCells at hw
  rw [hw]
  clear hw H2 c0 c1 c2 c3 c4 c5 c6 c7 c8 c9 c10
  go_loopw [0, 4] (fun r i wr => r = .bool false ∧ ∃ k : Nat, k ≤ 11 ∧ i = .int .i64 k ∧ Below w.heap.size w wr ∧ Below w2.heap.size w2 wr) (fun _ i _ => 11 - (intOf i).toNat)
  case atStart => exact ⟨rfl, 0, Nat.zero_le _, rfl, hb2, Below.refl _ _⟩
  case round =>
    obtain ⟨rfl, k, hk, rfl, hbr, hbr2⟩ := hrel
    by_cases hk11 : k < 11
    · have hck : wr.cell? ⟨w1.heap.size, k, none⟩ = some (.iface 97 (.pointer (some (ea k)))) := (hbr2.cell (p := ⟨w1.heap.size, k, none⟩) hlt2).trans (hcell k hk11)
      have Er := E.below hbr hB
      have hszr := hbr.size
      have hszr2 := hbr2.size
      have h3 : (0 : Int) ≤ (k : Int) := by omega
      have hbA : Below w.heap.size w (wr.alloc (.cells #[.int .i64 7, .iface 97 (.pointer (some (ea k)))] 31)) := hbr.alloc hszr _
      have hbA2 : Below w2.heap.size w2 (wr.alloc (.cells #[.int .i64 7, .iface 97 (.pointer (some (ea k)))] 31)) := hbr2.alloc hszr2 _
      have EA := E.below hbA hB
      have hf := code_fault _ EA (Nat.le_trans hB (by simp; omega)) wr.heap.size 0 7 k hk11 (by simp) (by simp)
      have HF := (show Hid _ from hf)
      have HA := (show Hid _ from hbA)
      have HA2 := (show Hid _ from hbA2)
      clear hf hbA hbA2 EA Er hcell hb2
      go_wp2_with fail
      refine Calls.mono HF.out ?_
      rintro e w3 ⟨rfl, hb3⟩
      have hb4 : Below w.heap.size w w3 := HA.out.trans (hb3.mono (by simp; omega))
      have hb5 : Below w2.heap.size w2 w3 := HA2.out.trans (hb3.mono (by simp; omega))
      have hck3 : w3.cell? ⟨w1.heap.size, k, none⟩ = some (.iface 97 (.pointer (some (ea k)))) := by
        rw [hb5.cell (p := ⟨w1.heap.size, k, none⟩) hlt2, ← hbr2.cell (p := ⟨w1.heap.size, k, none⟩) hlt2]; exact hck
      have hcd := coded_es w3 (E.below hb4 hB) (Nat.le_trans hB hb4.size) k hk11 ((k : Int) + 1) rfl
      have HC := (show Hid _ from hcd)
      clear hcd hb3 HF HA HA2 hck
      go_wp2_with fail
      refine Calls.mono HC.out ?_
      rintro e w4 ⟨rfl, hb6⟩
      have hb7 : Below w.heap.size w w4 := hb4.trans (hb6.mono hb4.size)
      have hb8 : Below w2.heap.size w2 w4 := hb5.trans (hb6.mono hb5.size)
      clear hb4 hb5 hb6 hck3 HC hbr hbr2
      go_wp2
      go_roundw
      case rel => exact ⟨rfl, k + 1, by omega, by go_num, hb7, hb8⟩
      case measure => simp [intOf]; omega
    · obtain rfl : k = 11 := by omega
      clear hcell hb2
      have hbA : Below w.heap.size w (wr.alloc (.cells #[.string ⟨#[97, 110, 111, 116, 104, 101, 114, 32, 111, 110, 101]⟩] 99)) := hbr.alloc hbr.size _
      have hsz := hbr.size
      have EA := E.below hbA hB
      have hno : ∀ j, j < 11 → ea j ≠ ⟨wr.heap.size, 0, none⟩ := fun j hj he => by
        have := E.lt j hj
        rw [he] at this
        simp at this
        omega
      have hP : Plain (wr.alloc (.cells #[.string ⟨#[97, 110, 111, 116, 104, 101, 114, 32, 111, 110, 101]⟩] 99)) ⟨wr.heap.size, 0, none⟩ := ⟨_, _, heap_alloc_new _ _⟩
      have hce := code_es _ EA (Nat.le_trans hB (by simp; omega)) _ hP 11 (Nat.le_refl _) hno (fun h => absurd h (by omega))
      rw [if_neg (by omega)] at hce
      have HF := (show Hid _ from hce)
      have HA := (show Hid _ from hbA)
      clear hce hbA EA hno hP
      go_wp2_with fail
      refine (errors_new _ _).mono ?_
      rintro e w3 ⟨rfl, rfl⟩
      go_wp2_with fail
      refine Calls.mono HF.out ?_
      rintro e w4 ⟨rfl, hb4⟩
      have hb5 : Below w.heap.size w w4 := HA.out.trans (hb4.mono (by simp; omega))
      clear hb4 HF HA
      go_wp2_with fail
      refine (coded_nil _).mono ?_
      rintro e w5 ⟨rfl, rfl⟩
      go_wp2
      go_ret
      exact ⟨rfl, hb5⟩
end Go.Proofs.YtgdflopgdlpimaaDoor
