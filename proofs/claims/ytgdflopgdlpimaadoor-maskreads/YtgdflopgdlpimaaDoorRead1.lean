/- bits.Open, (*Reader).Left, by contracts. -/
import Derived.Test.YtgdflopgdlpimaaDoorRows1
import Derived.Deep.DrawnRows
namespace Go.Proofs.YtgdflopgdlpimaaDoor
open Go.RowKit

/-- A reader at block x: its bytes l in block g, at bit 'at' of n. -/
structure IsReader (w : World) (x g cap : Nat) (l : List UInt8) (i n : Nat) : Prop where
  hb : w.heap[x]? = some (.cells #[.slice (some ⟨g, 0, none⟩) l.length cap, .int .i64 (i : Int), .int .i64 (n : Int)] 104 (0, 0))
  hc : ∀ j (hj : j < l.length), w.cell? ⟨g, j, none⟩ = some (.int .u8 (l[j].toNat : Int))
  hcap : l.length ≤ cap
  hg : g < x
  hi : i ≤ n
  hn : n ≤ 8 * l.length
  hl : l.length ≤ 131072

theorem left_any (w : World) (x g cap : Nat) (l : List UInt8) (i n : Nat) (h : IsReader w x g cap l i n) :
    Calls Tryd.prog 27 #[.pointer (some ⟨x, 0, none⟩)] w fun e w' => e = .returned (.int .i64 ((n : Int) - (i : Int))) ∧ ∃ q, w' = w.drewN q := by
  have h1 : w.cell? ⟨x, 1, none⟩ = some (.int .i64 (i : Int)) := cells_of h.hb 1
  have h2 : w.cell? ⟨x, 2, none⟩ = some (.int .i64 (n : Int)) := cells_of h.hb 2
  have hi := h.hi
  have hn := h.hn
  have hl := h.hl
  clear h
  go_enter Tryd.func27, Tryd.ntmps27
  go_wp2_with fail
  go_quiet (fail)
  go_wp2
  go_ret
  exact ⟨rfl, _, rfl⟩

theorem open_bound (w : World) (s : ByteArray) (n : Int) (a : Addr) (hg : w.cell? ⟨1, 0, none⟩ = some (.iface 97 (.pointer (some a)))) (_hs : s.size ≤ 131072) (h : n < 0 ∨ 8 * (s.size : Int) < n) :
    Calls Tryd.prog 23 #[.string s, .int .i64 n] w fun e w' => e = .returned (.tuple #[.pointer none, .iface 97 (.pointer (some a))]) ∧ ∃ q, w' = w.drewN q := by
  by_cases h0 : n < 0
  · have hd : decide (n < 0) = true := by simpa using h0
    go_enter Tryd.func23, Tryd.ntmps23
    go_wp2_with fail
    go_quiet (fail)
    go_wp2
    go_ret2
    exact ⟨rfl, _, rfl⟩
  · have hd : decide (n < 0) = false := by simpa using h0
    have h8 : 8 * (s.size : Int) < n := by omega
    by_cases hM : 1048576 < n
    · have hMd : decide (1048576 < n) = true := by simpa using hM
      have HM := (show Hid _ from hM)
      clear hM h8 h
      go_enter Tryd.func23, Tryd.ntmps23
      go_wp2_with fail
      go_quiet (fail)
      go_wp2
      go_ret2
      exact ⟨rfl, _, rfl⟩
    · have hMd : decide (1048576 < n) = false := by simpa using hM
      have hn0 : 0 ≤ n := by omega
      have hnM : n ≤ 1048576 := by omega
      have hneed : (s.size : Int) < (n + 8 - 1) / 8 := by omega
      have hnd : decide ((s.size : Int) < (n + 8 - 1) / 8) = true := by simpa using hneed
      clear hM h
      go_enter Tryd.func23, Tryd.ntmps23
      go_wp2_with fail
      go_quiet (fail)
      go_wp2
      go_ret2
      exact ⟨rfl, _, rfl⟩

/-- '[]byte(s)', what the walk needs of it. -/
theorem conv_bytes (w : World) (s : ByteArray) : ∃ (cap : Nat) (C : Array Value) (fr : Nat × Nat), (convert 9 84 (.string s)).run Tryd.prog w = .ok (.slice (some ⟨w.heap.size, 0, none⟩) s.size cap) (w.drew.alloc (.cells C 5 fr)) ∧ s.size ≤ cap ∧ (∀ j (hj : j < s.data.toList.length), C[j]? = some (.int .u8 ((s.data.toList[j]).toNat : Int))) := by
  refine ⟨_, _, _, run_bytes_of_string (P := Tryd.prog) w 9 84 5 s Tryd.underlying9 Tryd.underlying84 Tryd.underlying5, grownCap_ge _ _ _ _, fun j hj => ?_⟩
  rw [bytesRow_at s _ j (by simpa using hj)]
  simp

set_option maxRecDepth 1000000 in
theorem open_ok (w : World) (s : ByteArray) (n : Int) (hs : s.size ≤ 131072) (h0 : 0 ≤ n) (h : n ≤ 8 * (s.size : Int)) :
    Calls Tryd.prog 23 #[.string s, .int .i64 n] w fun e w' => ∃ x g cap, e = .returned (.tuple #[.pointer (some ⟨x, 0, none⟩), .nilIface]) ∧ IsReader w' x g cap (s.data.toList.take ((n.toNat + 7) / 8)) 0 n.toNat ∧ Below w.heap.size w w' ∧ w.heap.size ≤ g := by
  obtain ⟨c, hc⟩ : ∃ c, c = (n.toNat + 7) / 8 := ⟨_, rfl⟩
  have hcs : (c : Int) ≤ (s.size : Int) := by omega
  have hci : (n + 8 - 1) / 8 = (c : Int) := by omega
  have h1 : n ≤ 1048576 := by omega
  have hd : decide (n < 0) = false := by simp; omega
  have hMd : decide (1048576 < n) = false := by simp; omega
  obtain ⟨cap, C, fr, hconv, hcap, hC⟩ := conv_bytes w (s.extract 0 c)
  have hel : (s.extract 0 c).size = c := by simp; omega
  have hed : (s.extract 0 c).data.toList = s.data.toList.take c := by simp
  rw [hel] at hconv hcap
  rw [hed] at hC
  have HC := (show Hid _ from hc)
  have HCC := (show Hid _ from hC)
  have hnd : decide ((s.size : Int) < (c : Int)) = false := by simp; omega
  clear hc hel hed hC
  go_enter Tryd.func23, Tryd.ntmps23
  go_wp2
  go_ret2
  refine ⟨w.heap.size + 1, w.heap.size, cap, rfl, ?_, ?_, Nat.le_refl _⟩
  · rw [← HC.out]
    have hlen : (s.data.toList.take c).length = c := by simp; omega
    refine ⟨?_, ?_, by rw [hlen]; exact hcap, by omega, by omega, by rw [hlen]; have := HC.out; omega, by rw [hlen]; omega⟩
    · rw [hlen, Int.toNat_of_nonneg h0]
      rw [show w.heap.size + 1 = (w.alloc (.cells C 5 fr)).heap.size from by simp]
      exact heap_alloc_new _ _
    · intro j hj
      rw [← HCC.out j hj]
      show ((w.alloc (.cells C 5 fr)).alloc _).cell? ⟨w.heap.size, j, none⟩ = _
      rw [World.cell?_alloc_lt _ _ ⟨w.heap.size, j, none⟩ (by simp), World.cell?_alloc_mark]
  · exact (((Below.refl w.heap.size w).alloc (Nat.le_refl _) _).alloc (by simp) _).drew
end Go.Proofs.YtgdflopgdlpimaaDoor
