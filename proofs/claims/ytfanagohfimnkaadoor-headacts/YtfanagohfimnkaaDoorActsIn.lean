/- Acts on a head that come in. -/
import Derived.Test.YtfanagohfimnkaaDoorLabsIn
import Derived.Test.YtfanagohfimnkaaDoorPointsIn
import Derived.Lib.SmallJoins
namespace Go.Proofs.YtfanagohfimnkaaDoor
open Go.ChangeShapes Go.WideShapes Go.ChangeAt Go.RowKit Go.Deep

/-- A slice of acts: a kind, a series, a tick and a value, a number. -/
def ActsA (w : World) (a : Option Addr) (n : Nat) (K S : Nat → ByteArray) (T : Nat → Int) (U : Nat → Nat) (M : Nat → Int) : Prop :=
  n = 0 ∨ ∃ b o, a = some ⟨b, o, none⟩ ∧ ∀ k, k < n → w.cell? ⟨b, o + k * 5, none⟩ = some (.string (K k)) ∧ w.cell? ⟨b, o + k * 5 + 1, none⟩ = some (.string (S k)) ∧ w.cell? ⟨b, o + k * 5 + 2, none⟩ = some (.int .i64 (T k)) ∧ w.cell? ⟨b, o + k * 5 + 3, none⟩ = some (.int .u64 (U k : Int)) ∧ w.cell? ⟨b, o + k * 5 + 4, none⟩ = some (.int .i64 (M k)) ∧
    (-9223372036854775808 ≤ T k ∧ T k ≤ 9223372036854775807 ∧ U k < 18446744073709551616 ∧ -9223372036854775808 ≤ M k ∧ M k ≤ 9223372036854775807)
theorem ActsA.below {w w' : World} {a : Option Addr} {n : Nat} {K S : Nat → ByteArray} {T : Nat → Int} {U : Nat → Nat} {M : Nat → Int} (h : ActsA w a n K S T U M) (hb : Below w.heap.size w w') : ActsA w' a n K S T U M := by
  rcases h with h | ⟨b, o, h, hc⟩
  · exact .inl h
  · refine .inr ⟨b, o, h, fun k hk => ?_⟩
    obtain ⟨h1, h2, h3, h4, h5, h6⟩ := hc k hk
    have hl : b < w.heap.size := World.block_lt_of_cell? w ⟨b, _, none⟩ h1
    exact ⟨(hb.cell (p := ⟨b, _, none⟩) hl).trans h1, (hb.cell (p := ⟨b, _, none⟩) hl).trans h2, (hb.cell (p := ⟨b, _, none⟩) hl).trans h3, (hb.cell (p := ⟨b, _, none⟩) hl).trans h4, (hb.cell (p := ⟨b, _, none⟩) hl).trans h5, h6⟩
set_option maxRecDepth 100000 in
theorem acts_of {H : Type} {enc : TypeId × Value → H} {W : World} {sp : Nat → Bool} {hd : Bool} {fuel : Nat} {a : Option Addr} {len cap : Nat} {x : DataW H × List MemPlace}
    (h : DataW.trod enc Tryd.prog W 0 sp hd fuel 64 [.slice a len cap] = some x) : ∃ K S T U M, ActsA W a len K S T U M := by
  have ce : Tryd.prog.cellsOf 66 = 5 := by kernel_rfl
  have cp : Tryd.prog.cellsOf 55 = 2 := by kernel_rfl
  have ci : Tryd.prog.cellsOf 3 = 1 := by kernel_rfl
  have cu : Tryd.prog.cellsOf 49 = 1 := by kernel_rfl
  have cs1 : Tryd.prog.cellsOf 9 = 1 := by kernel_rfl
  rcases open_slice Tryd.underlying64 h with ⟨hcs, _⟩ | ⟨b, l, c, m, n, D, Pl, hcs, _, hl, _, hm, _, hx⟩
  · simp at hcs
    obtain ⟨_, rfl, _⟩ := hcs
    exact ⟨fun _ => ⟨#[]⟩, fun _ => ⟨#[]⟩, fun _ => 0, fun _ => 0, fun _ => 0, .inl rfl⟩
  · simp at hcs
    obtain ⟨rfl, rfl, rfl⟩ := hcs
    by_cases h0 : len = 0
    · exact ⟨fun _ => ⟨#[]⟩, fun _ => ⟨#[]⟩, fun _ => 0, fun _ => 0, fun _ => 0, .inl h0⟩
    · have hlm : len ≤ m := by rw [hm]; split <;> omega
      obtain ⟨bb, oo, spot⟩ := b
      have each : ∀ i, i < len → ∃ q : ByteArray × ByteArray × Int × Nat × Int, W.cell? ((⟨bb, oo, spot⟩ : Addr).add (i * 5)) = some (.string q.1) ∧ W.cell? ((⟨bb, oo, spot⟩ : Addr).add (i * 5 + 1)) = some (.string q.2.1) ∧ W.cell? ((⟨bb, oo, spot⟩ : Addr).add (i * 5 + 2)) = some (.int .i64 q.2.2.1) ∧ W.cell? ((⟨bb, oo, spot⟩ : Addr).add (i * 5 + 3)) = some (.int .u64 (q.2.2.2.1 : Int)) ∧ W.cell? ((⟨bb, oo, spot⟩ : Addr).add (i * 5 + 4)) = some (.int .i64 q.2.2.2.2) ∧
          (-9223372036854775808 ≤ q.2.2.1 ∧ q.2.2.1 ≤ 9223372036854775807 ∧ q.2.2.2.1 < 18446744073709551616 ∧ -9223372036854775808 ≤ q.2.2.2.2 ∧ q.2.2.2.2 ≤ 9223372036854775807) := by
        intro i hi
        obtain ⟨cs', h1, h2⟩ := hx i (by omega)
        rw [ce] at h1
        obtain ⟨_, hlen, hcell⟩ := World.cells?_some h1
        obtain ⟨y0, y1, y2, y3, k, _, _, g0, g1, g2, g3⟩ := Go.Joins.trod_struct4 Tryd.underlying66 h2
        obtain ⟨z0, z1, k2, _, _, f0, f1⟩ := trod_struct2 Tryd.underlying55 g2
        match cs', hlen with
        | [v0, v1, v2, v3, v4], _ =>
          have g0' : DataW.trod enc Tryd.prog W 0 sp hd k 9 [v0] = some y0 := by simpa [cs1] using g0
          have g1' : DataW.trod enc Tryd.prog W 0 sp hd k 9 [v1] = some y1 := by simpa [cs1] using g1
          have f0' : DataW.trod enc Tryd.prog W 0 sp hd k2 3 [v2] = some z0 := by simpa [cp, ci] using f0
          have f1' : DataW.trod enc Tryd.prog W 0 sp hd k2 49 [v3] = some z1 := by simpa [cp, cu] using f1
          have g3' : DataW.trod enc Tryd.prog W 0 sp hd k 3 [v4] = some y3 := by simpa [ci] using g3
          obtain ⟨s0, e0, _⟩ := DataW.trod_string Tryd.underlying9 g0'
          obtain ⟨s1, e1, _⟩ := DataW.trod_string Tryd.underlying9 g1'
          obtain ⟨t, e2, _, ht⟩ := DataW.trod_int Tryd.underlying3 f0'
          obtain ⟨u, e3, _, hu⟩ := DataW.trod_int Tryd.underlying49 f1'
          obtain ⟨mm, e4, _, hmm⟩ := DataW.trod_int Tryd.underlying3 g3'
          have bt := bounds_i64 ht
          have bu := bounds_u64 hu
          have bm := bounds_i64 hmm
          have d0 := hcell 0 (by omega)
          have d1 := hcell 1 (by omega)
          have d2 := hcell 2 (by omega)
          have d3 := hcell 3 (by omega)
          have d4 := hcell 4 (by omega)
          rw [add_add] at d0 d1 d2 d3 d4
          simp at e0 e1 e2 e3 e4
          subst e0 e1 e2 e3 e4
          refine ⟨(s0, s1, t, u.toNat, mm), by simpa using d0, by simpa using d1, by simpa using d2, ?_, by simpa using d4, bt.1, bt.2, by show u.toNat < _; omega, bm.1, bm.2⟩
          show _ = some (Value.int .u64 ((u.toNat : Nat) : Int))
          rw [Int.toNat_of_nonneg bu.1]
          simpa using d3
      obtain ⟨q, hq⟩ := choose_lt each
      have hspot : spot = none := by
        have := (hq 0 (by omega)).1
        simpa [Addr.add] using World.cell?_spot this
      subst hspot
      refine ⟨fun i => (q i).1, fun i => (q i).2.1, fun i => (q i).2.2.1, fun i => (q i).2.2.2.1, fun i => (q i).2.2.2.2, .inr ⟨bb, oo, rfl, fun k hk => ?_⟩⟩
      obtain ⟨a0, a1, a2, a3, a4, a5⟩ := hq k hk
      refine ⟨?_, ?_, ?_, ?_, ?_, a5⟩
      · rw [← a0]
        simp [Addr.add]
        split <;> simp_all
      · rw [← a1]
        simp [Addr.add, Nat.add_assoc]
      · rw [← a2]
        simp [Addr.add, Nat.add_assoc]
      · rw [← a3]
        simp [Addr.add, Nat.add_assoc]
      · rw [← a4]
        simp [Addr.add, Nat.add_assoc]
end Go.Proofs.YtfanagohfimnkaaDoor
