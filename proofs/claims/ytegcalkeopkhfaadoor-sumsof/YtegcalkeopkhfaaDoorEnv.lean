/- What a walk is told of the package variables: the eleven sentinels of package api (each a pointer to its own errors.errorString, all apart), and errors.errorType; all of it in blocks below B. -/
import Derived.Test.YtegcalkeopkhfaaDoorErrIs
import Derived.Test.YtegcalkeopkhfaaDoorErrHit
namespace Go.Proofs.YtegcalkeopkhfaaDoor
open Go.RowKit

structure Env (B : Nat) (ea : Nat → Addr) (w : World) : Prop where
  c0 : w.cell? ⟨1, 0, none⟩ = some (.iface 82 (.pointer (some (ea 0))))
  c1 : w.cell? ⟨0, 0, none⟩ = some (.iface 82 (.pointer (some (ea 1))))
  c2 : w.cell? ⟨2, 0, none⟩ = some (.iface 82 (.pointer (some (ea 2))))
  c3 : w.cell? ⟨3, 0, none⟩ = some (.iface 82 (.pointer (some (ea 3))))
  c4 : w.cell? ⟨4, 0, none⟩ = some (.iface 82 (.pointer (some (ea 4))))
  c5 : w.cell? ⟨5, 0, none⟩ = some (.iface 82 (.pointer (some (ea 5))))
  c6 : w.cell? ⟨6, 0, none⟩ = some (.iface 82 (.pointer (some (ea 6))))
  c7 : w.cell? ⟨7, 0, none⟩ = some (.iface 82 (.pointer (some (ea 7))))
  c8 : w.cell? ⟨8, 0, none⟩ = some (.iface 82 (.pointer (some (ea 8))))
  c9 : w.cell? ⟨9, 0, none⟩ = some (.iface 82 (.pointer (some (ea 9))))
  c10 : w.cell? ⟨10, 0, none⟩ = some (.iface 82 (.pointer (some (ea 10))))
  typ : w.cell? ⟨11, 0, none⟩ = some (.iface 68 (.agg #[.pointer (some ⟨12, 35, none⟩)]))
  blk : ∀ i, i < 11 → ∃ c t, w.heap[(ea i).block]? = some (.cells c t (0, 0))
  lt : ∀ i, i < 11 → (ea i).block < B
  inj : ∀ i j, i < 11 → j < 11 → ea i = ea j → i = j
  low : 11 < B

theorem Env.below {B : Nat} {ea : Nat → Addr} {w w' : World} (E : Env B ea w) {B' : Nat} (h : Below B' w w') (hB : B ≤ B') : Env B ea w' := by
  have hl := E.low
  have hc : ∀ g, g ≤ 11 → w'.cell? ⟨g, 0, none⟩ = w.cell? ⟨g, 0, none⟩ := fun g hg => h.cell (p := ⟨g, 0, none⟩) (by show g < B'; omega)
  exact
    { c0 := (hc _ (by omega)).trans E.c0
      c1 := (hc _ (by omega)).trans E.c1
      c2 := (hc _ (by omega)).trans E.c2
      c3 := (hc _ (by omega)).trans E.c3
      c4 := (hc _ (by omega)).trans E.c4
      c5 := (hc _ (by omega)).trans E.c5
      c6 := (hc _ (by omega)).trans E.c6
      c7 := (hc _ (by omega)).trans E.c7
      c8 := (hc _ (by omega)).trans E.c8
      c9 := (hc _ (by omega)).trans E.c9
      c10 := (hc _ (by omega)).trans E.c10
      typ := (hc _ (by omega)).trans E.typ
      blk := fun i hi => by
        obtain ⟨c, t, hh⟩ := E.blk i hi
        exact ⟨c, t, (h.block _ (Nat.lt_of_lt_of_le (E.lt i hi) hB)).trans hh⟩
      lt := E.lt
      inj := E.inj
      low := E.low }

/-- A block of a small variable. -/
def Plain (w : World) (p : Addr) : Prop := ∃ c t, w.heap[p.block]? = some (.cells c t (0, 0))
theorem Plain.lt {w : World} {p : Addr} (h : Plain w p) : p.block < w.heap.size := by
  obtain ⟨c, t, h⟩ := h
  rcases Nat.lt_or_ge p.block w.heap.size with h' | h'
  · exact h'
  · simp [Array.getElem?_eq_none h'] at h
theorem Plain.below {w w' : World} {p : Addr} (h : Plain w p) (hb : Below w.heap.size w w') : Plain w' p := by
  have hl := h.lt
  obtain ⟨c, t, hh⟩ := h
  exact ⟨c, t, (hb.block _ hl).trans hh⟩

/-- The eleven cells of the list of errors that Code ranges over. -/
def errCells (ea : Nat → Addr) : Array Value := #[.iface 82 (.pointer (some (ea 0))), .iface 82 (.pointer (some (ea 1))), .iface 82 (.pointer (some (ea 2))), .iface 82 (.pointer (some (ea 3))), .iface 82 (.pointer (some (ea 4))), .iface 82 (.pointer (some (ea 5))), .iface 82 (.pointer (some (ea 6))), .iface 82 (.pointer (some (ea 7))), .iface 82 (.pointer (some (ea 8))), .iface 82 (.pointer (some (ea 9))), .iface 82 (.pointer (some (ea 10)))]
theorem errCells_at (ea : Nat → Addr) (k : Nat) (hk : k < 11) : (errCells ea)[k]? = some (.iface 82 (.pointer (some (ea k)))) := by
  match k, hk with
  | 0, _ => rfl
  | 1, _ => rfl
  | 2, _ => rfl
  | 3, _ => rfl
  | 4, _ => rfl
  | 5, _ => rfl
  | 6, _ => rfl
  | 7, _ => rfl
  | 8, _ => rfl
  | 9, _ => rfl
  | 10, _ => rfl

theorem code_nil (w : World) :
    Calls Tryd.prog 14 #[.nilIface] w fun e w' => e = .returned (.tuple #[.int .i64 0, .int .i64 (-1)]) ∧ w' = w := by
  go_enter Tryd.func14, Tryd.ntmps14
  go_wp2
  go_ret2
  exact ⟨rfl, rfl⟩

set_option maxHeartbeats 1000000 in
theorem code_es {B : Nat} {ea : Nat → Addr} (w : World) (E : Env B ea w) (hB : B ≤ w.heap.size) (p : Addr) (hp : Plain w p) (m : Nat) (hm : m ≤ 11) (hno : ∀ j, j < m → ea j ≠ p) (hyes : m < 11 → ea m = p) :
    Calls Tryd.prog 14 #[.iface 82 (.pointer (some p))] w fun e w' => e = .returned (.tuple #[.int .i64 (if m < 11 then (m : Int) + 1 else -1), .int .i64 (-1)]) ∧ Below w.heap.size w w' := by
  have hl := E.low
  have hb0 : Below w.heap.size w (w.alloc (.cells #[.pointer none] 46)) := (Below.refl _ _).alloc (Nat.le_refl _) _
  have hg := (E.below hb0 hB).typ
  go_enter Tryd.func14, Tryd.ntmps14
  go_wp2_with fail
  refine (as_miss p ⟨w.heap.size, 0, none⟩ _ hg).mono ?_
  rintro e w1 ⟨rfl, hb⟩
  have hb1 := hb0.trans (hb.mono (by simp))
  have E1 := E.below hb1 hB
  have hcs := errCells_at ea
  have hP1 : Plain w1 p := hp.below hb1
  have hPe : ∀ i, i < 11 → Plain w1 (ea i) := E1.blk
  have hb2 : Below w.heap.size w (w1.alloc (.cells (errCells ea) 35)) := hb1.alloc hb1.size _
  have hb3 : Below w1.heap.size w1 (w1.alloc (.cells (errCells ea) 35)) := (Below.refl _ _).alloc (Nat.le_refl _) _
  have hcell : ∀ k, k < 11 → (w1.alloc (.cells (errCells ea) 35)).cell? ⟨w1.heap.size, k, none⟩ = some (.iface 82 (.pointer (some (ea k)))) := fun k hk => by rw [World.cell?_alloc_at _ _ _ _ rfl]; exact hcs k hk
  have hP : Plain (w1.alloc (.cells (errCells ea) 35)) p := hP1.below hb3
  have hPa : ∀ i, i < 11 → Plain (w1.alloc (.cells (errCells ea) 35)) (ea i) := fun i hi => (hPe i hi).below hb3
  obtain ⟨c0, c1, c2, c3, c4, c5, c6, c7, c8, c9, c10, _, _, _, _, _⟩ := E1
  clear hb hg hb0 hcs hP1 hPe hb3
  obtain ⟨w2, hw2⟩ : ∃ w2, w2 = w1.alloc (.cells (errCells ea) 35) := ⟨_, rfl⟩
  rw [← hw2] at hb2 hcell hP hPa
  have H2 : Hid (∀ (w' : World), w' = w1.alloc (.cells (errCells ea) 35) → w' = w2) := fun w' h => h.trans hw2.symm
  clear hw2
  go_wp2_with fail
  have hw := H2.out _ rfl
  unfold errCells at hw
  rw [hw]
  clear hw H2 c0 c1 c2 c3 c4 c5 c6 c7 c8 c9 c10
  go_loop [3, 29] (fun a i => a = .int .i64 (-1) ∧ ∃ k : Nat, k ≤ m ∧ i = .int .i64 k) (fun _ i => 11 - (intOf i).toNat)
  case atStart => exact ⟨rfl, 0, Nat.zero_le _, rfl⟩
  case round =>
    obtain ⟨rfl, k, hk, rfl⟩ := hrel
    by_cases hk11 : k < 11
    · have hck := hcell k hk11
      by_cases hkm : k < m
      · have hne := hno k hkm
        obtain ⟨ca, ta, hA⟩ := hP
        obtain ⟨cb, tb, hC⟩ := hPa k hk11
        clear hcell hPa
        go_wp2_with (go_at_call 16; refine (is_other p (ea k) ca cb ta tb _ (Ne.symm hne) hA hC).mono ?_; rintro e w' ⟨rfl, rfl⟩)
        go_round
        case rel => exact ⟨rfl, k + 1, by omega, by go_num⟩
        case measure => simp [intOf]; omega
      · have hkm' : k = m := by omega
        subst hkm'
        have hpe := hyes hk11
        subst hpe
        clear hcell hPa hP
        go_wp2_with (go_at_call 16; refine (is_same (ea k) _).mono ?_; rintro e w' ⟨rfl, rfl⟩)
        go_ret2
        exact ⟨by simp, hb2⟩
    · have hkm : m = 11 := by omega
      subst hkm
      obtain rfl : k = 11 := by omega
      clear hcell hPa hP
      go_wp2
      go_ret2
      exact ⟨by simp, hb2⟩
end Go.Proofs.YtegcalkeopkhfaaDoor
