/- Entries of a log that come in. -/
import Derived.Test.YtplfnblpmagbjabDoorLabsIn
import Derived.Test.YtplfnblpmagbjabDoorPointsIn
import Derived.Test.YtplfnblpmagbjabDoorWalRecGroup
import Derived.Lib.SmallJoins
namespace Go.Proofs.YtplfnblpmagbjabDoor
open Go.ChangeShapes Go.WideShapes Go.ChangeAt Go.RowKit Go.Deep

set_option maxRecDepth 100000 in
theorem ments_of {H : Type} {enc : TypeId × Value → H} {W : World} {sp : Nat → Bool} {hd : Bool} {fuel : Nat} {a : Option Addr} {len cap : Nat} {x : DataW H × List MemPlace}
    (h : DataW.trod enc Tryd.prog W 0 sp hd fuel 98 [.slice a len cap] = some x) : ∃ X T U, EntsA W a len X T U := by
  have ce : Tryd.prog.cellsOf 104 = 3 := by kernel_rfl
  have cp : Tryd.prog.cellsOf 27 = 2 := by kernel_rfl
  have ci : Tryd.prog.cellsOf 3 = 1 := by kernel_rfl
  have cu : Tryd.prog.cellsOf 22 = 1 := by kernel_rfl
  have cs1 : Tryd.prog.cellsOf 9 = 1 := by kernel_rfl
  rcases open_slice Tryd.underlying98 h with ⟨hcs, _⟩ | ⟨b, l, c, m, n, D, Pl, hcs, _, hl, _, hm, _, hx⟩
  · simp at hcs
    obtain ⟨_, rfl, _⟩ := hcs
    exact ⟨fun _ => ⟨#[]⟩, fun _ => 0, fun _ => 0, .inl rfl⟩
  · simp at hcs
    obtain ⟨rfl, rfl, rfl⟩ := hcs
    by_cases h0 : len = 0
    · exact ⟨fun _ => ⟨#[]⟩, fun _ => 0, fun _ => 0, .inl h0⟩
    · have hlm : len ≤ m := by rw [hm]; split <;> omega
      obtain ⟨bb, oo, spot⟩ := b
      have each : ∀ i, i < len → ∃ q : ByteArray × Int × Nat, W.cell? ((⟨bb, oo, spot⟩ : Addr).add (i * 3)) = some (.string q.1) ∧ W.cell? ((⟨bb, oo, spot⟩ : Addr).add (i * 3 + 1)) = some (.int .i64 q.2.1) ∧ W.cell? ((⟨bb, oo, spot⟩ : Addr).add (i * 3 + 2)) = some (.int .u64 (q.2.2 : Int)) ∧
          (-9223372036854775808 ≤ q.2.1 ∧ q.2.1 ≤ 9223372036854775807 ∧ q.2.2 < 18446744073709551616) := by
        intro i hi
        obtain ⟨cs', h1, h2⟩ := hx i (by omega)
        rw [ce] at h1
        obtain ⟨_, hlen, hcell⟩ := World.cells?_some h1
        obtain ⟨y0, y1, k, _, _, g0, g1⟩ := trod_struct2 Tryd.underlying104 h2
        obtain ⟨z0, z1, k2, _, _, f0, f1⟩ := trod_struct2 Tryd.underlying27 g1
        match cs', hlen with
        | [v0, v1, v2], _ =>
          have g0' : DataW.trod enc Tryd.prog W 0 sp hd k 9 [v0] = some y0 := by simpa [cs1] using g0
          have f0' : DataW.trod enc Tryd.prog W 0 sp hd k2 3 [v1] = some z0 := by simpa [cp, ci] using f0
          have f1' : DataW.trod enc Tryd.prog W 0 sp hd k2 22 [v2] = some z1 := by simpa [cp, cu] using f1
          obtain ⟨s0, e0, _⟩ := DataW.trod_string Tryd.underlying9 g0'
          obtain ⟨t, e2, _, ht⟩ := DataW.trod_int Tryd.underlying3 f0'
          obtain ⟨u, e3, _, hu⟩ := DataW.trod_int Tryd.underlying22 f1'
          have bt := bounds_i64 ht
          have bu := bounds_u64 hu
          have d0 := hcell 0 (by omega)
          have d1 := hcell 1 (by omega)
          have d2 := hcell 2 (by omega)
          rw [add_add] at d0 d1 d2
          simp at e0 e2 e3
          subst e0 e2 e3
          refine ⟨(s0, t, u.toNat), by simpa using d0, by simpa using d1, ?_, bt.1, bt.2, by show u.toNat < _; omega⟩
          show _ = some (Value.int .u64 ((u.toNat : Nat) : Int))
          rw [Int.toNat_of_nonneg bu.1]
          simpa using d2
      obtain ⟨q, hq⟩ := choose_lt each
      have hspot : spot = none := by
        have := (hq 0 (by omega)).1
        simpa [Addr.add] using World.cell?_spot this
      subst hspot
      refine ⟨fun i => (q i).1, fun i => (q i).2.1, fun i => (q i).2.2, .inr ⟨bb, oo, rfl, fun k hk => ?_⟩⟩
      obtain ⟨a0, a1, a2, a5⟩ := hq k hk
      refine ⟨?_, ?_, ?_, a5⟩
      · rw [← a0]
        simp [Addr.add]
        split <;> simp_all
      · rw [← a1]
        simp [Addr.add, Nat.add_assoc]
      · rw [← a2]
        simp [Addr.add, Nat.add_assoc]
end Go.Proofs.YtplfnblpmagbjabDoor
