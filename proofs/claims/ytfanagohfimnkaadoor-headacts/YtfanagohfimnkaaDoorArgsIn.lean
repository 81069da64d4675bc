/- The arguments that come in, as the walks are told of them. -/
import Derived.Test.YtfanagohfimnkaaDoorChecked
import Derived.Test.YtfanagohfimnkaaDoorSlicesIn
import Derived.ProofKit
import Derived.Deep.SlicePairs
import Derived.OpenShut
namespace Go.Proofs.YtfanagohfimnkaaDoor
open Go.ChangeShapes Go.WideShapes Go.ChangeAt Go.RowKit Go.Deep

theorem Tryd.laidOut : laidOutB Tryd.prog = true := by kernel_rfl

theorem ints_of {H : Type} {enc : TypeId × Value → H} {W : World} {sp : Nat → Bool} {hd : Bool} {fuel : Nat} {a : Option Addr} {len cap : Nat} {x : DataW H × List MemPlace}
    (h : DataW.trod enc Tryd.prog W 0 sp hd fuel 43 [.slice a len cap] = some x) : ∃ G, Ints W a len G ∧ ∀ k, k < len → -9223372036854775808 ≤ G k ∧ G k ≤ 9223372036854775807 := by
  rcases open_slice1 Tryd.underlying43 (by kernel_rfl) h with ⟨hcs, _⟩ | ⟨b, l, c, m, n, V0, D0, P0, hcs, _, hl, _, hm, _, hx⟩
  · simp at hcs
    obtain ⟨_, rfl, _⟩ := hcs
    exact ⟨fun _ => 0, .inl rfl, fun k hk => absurd hk (by omega)⟩
  · simp at hcs
    obtain ⟨rfl, rfl, rfl⟩ := hcs
    by_cases h0 : len = 0
    · exact ⟨fun _ => 0, .inl h0, fun k hk => absurd hk (by omega)⟩
    · have hlm : len ≤ m := by rw [hm]; split <;> omega
      obtain ⟨bb, oo, spot⟩ := b
      have hspot : spot = none := by
        have := (hx 0 (by omega)).1
        simpa [Addr.add] using World.cell?_spot this
      subst hspot
      have e1 : ∀ i, i < len → ∃ u : Int, V0 i = .int .i64 u ∧ -9223372036854775808 ≤ u ∧ u ≤ 9223372036854775807 := by
        intro i hi
        obtain ⟨u, e, _, hu⟩ := DataW.trod_int Tryd.underlying3 (hx i (by omega)).2
        exact ⟨u, by simpa using e, bounds_i64 hu⟩
      obtain ⟨N, hN⟩ := choose_lt e1
      refine ⟨N, .inr ⟨bb, oo, rfl, fun k hk => ?_⟩, fun k hk => (hN k hk).2⟩
      have hk' := hx k (by omega)
      rw [← (hN k hk).1, ← hk'.1]
      simp [Addr.add]
      split <;> simp_all

theorem len_ok {H : Type} {enc : TypeId × Value → H} {W : World} {sp : Nat → Bool} {hd : Bool} {fuel : Nat} {t e : TypeId} {a : Option Addr} {len cap : Nat} {x : DataW H × List MemPlace} (ht : Tryd.prog.underlying t = some (.slice e))
    (h : DataW.trod enc Tryd.prog W 0 sp hd fuel t [.slice a len cap] = some x) : (len : Int) ≤ 9223372036854775807 := by
  rcases open_slice ht h with ⟨hcs, _⟩ | ⟨b, l, c, m, n, D, Pl, hcs, _, hl, hm, _⟩
  · simp at hcs
    omega
  · simp at hcs
    obtain ⟨rfl, rfl, rfl⟩ := hcs
    unfold maxLen at hm
    omega

end Go.Proofs.YtfanagohfimnkaaDoor
