/- Labels and matches that come in, as the walks are told of them. -/
import Derived.Test.YtnjmplmogibgfacGreatDoorArgsInGroup
import Derived.Test.YtnjmplmogibgfacGreatDoorRefTicksGroup
namespace Go.Proofs.YtnjmplmogibgfacGreatDoor
open Go.ChangeShapes Go.WideShapes Go.ChangeAt Go.RowKit Go.Deep

theorem labs_of {H : Type} {enc : TypeId × Value → H} {W : World} {sp : Nat → Bool} {hd : Bool} {fuel : Nat} {a : Option Addr} {len cap : Nat} {x : DataW H × List MemPlace}
    (h : DataW.trod enc Tryz.prog W 0 sp hd fuel 69 [.slice a len cap] = some x) : ∃ N V, Labs W a len N V := by
  rcases open_slice_pairs Tryz.underlying69 Tryz.underlying99 (by kernel_rfl) rfl rfl (by kernel_rfl) (by kernel_rfl) h with ⟨hcs, _⟩ | ⟨b, l, c, m, n, V0, V1, D0, D1, P0, P1, hcs, _, hl, _, hm, _, hx⟩
  · simp at hcs
    obtain ⟨_, rfl, _⟩ := hcs
    exact ⟨fun _ => ⟨#[]⟩, fun _ => ⟨#[]⟩, .inl rfl⟩
  · simp at hcs
    obtain ⟨rfl, rfl, rfl⟩ := hcs
    by_cases h0 : len = 0
    · exact ⟨fun _ => ⟨#[]⟩, fun _ => ⟨#[]⟩, .inl h0⟩
    · have hlm : len ≤ m := by rw [hm]; split <;> omega
      obtain ⟨bb, oo, spot⟩ := b
      have hspot : spot = none := by
        have := (hx 0 (by omega)).1
        simpa [Addr.add] using World.cell?_spot this
      subst hspot
      have e0 : ∀ i, i < len → ∃ u : ByteArray, V0 i = .string u ∧ True := by
        intro i hi
        obtain ⟨u, e, _⟩ := DataW.trod_string Tryz.underlying9 (hx i (by omega)).2.2.1
        exact ⟨u, by simpa using e, trivial⟩
      have e1 : ∀ i, i < len → ∃ u : ByteArray, V1 i = .string u ∧ True := by
        intro i hi
        obtain ⟨u, e, _⟩ := DataW.trod_string Tryz.underlying9 (hx i (by omega)).2.2.2
        exact ⟨u, by simpa using e, trivial⟩
      obtain ⟨N, hN⟩ := choose_lt e0
      obtain ⟨V, hV⟩ := choose_lt e1
      refine ⟨N, V, .inr ⟨bb, oo, rfl, fun k hk => ?_⟩⟩
      have hk' := hx k (by omega)
      refine ⟨?_, ?_⟩
      · rw [← (hN k hk).1, ← hk'.1]
        simp [Addr.add]
        split <;> simp_all
      · rw [← (hV k hk).1, ← hk'.2.1]
        simp [Addr.add, Nat.add_assoc]
/-- A slice of lists of labels. -/
def Lists (w : World) (a : Option Addr) (n : Nat) (A : Nat → Option Addr) (L C : Nat → Nat) (N V : Nat → Nat → ByteArray) : Prop :=
  n = 0 ∨ ∃ b o, a = some ⟨b, o, none⟩ ∧ ∀ k, k < n → w.cell? ⟨b, o + k, none⟩ = some (.slice (A k) (L k) (C k)) ∧ Labs w (A k) (L k) (N k) (V k) ∧ L k ≤ C k ∧ (L k : Int) ≤ 9223372036854775807
theorem lists_of {H : Type} {enc : TypeId × Value → H} {W : World} {sp : Nat → Bool} {hd : Bool} {fuel : Nat} {t : TypeId} {a : Option Addr} {len cap : Nat} {x : DataW H × List MemPlace} (ht : Tryz.prog.underlying t = some (.slice 69))
    (h : DataW.trod enc Tryz.prog W 0 sp hd fuel t [.slice a len cap] = some x) : ∃ A L C N V, Lists W a len A L C N V := by
  rcases open_slice1 ht (by kernel_rfl) h with ⟨hcs, _⟩ | ⟨b, l, c, m, n, V0, D0, P0, hcs, _, hl, _, hm, _, hx⟩
  · simp at hcs
    obtain ⟨_, rfl, _⟩ := hcs
    exact ⟨fun _ => none, fun _ => 0, fun _ => 0, fun _ _ => ⟨#[]⟩, fun _ _ => ⟨#[]⟩, .inl rfl⟩
  · simp at hcs
    obtain ⟨rfl, rfl, rfl⟩ := hcs
    by_cases h0 : len = 0
    · exact ⟨fun _ => none, fun _ => 0, fun _ => 0, fun _ _ => ⟨#[]⟩, fun _ _ => ⟨#[]⟩, .inl h0⟩
    · have hlm : len ≤ m := by rw [hm]; split <;> omega
      obtain ⟨bb, oo, spot⟩ := b
      have hspot : spot = none := by
        have := (hx 0 (by omega)).1
        simpa [Addr.add] using World.cell?_spot this
      subst hspot
      have each : ∀ i, i < len → ∃ q : Option Addr × Nat × Nat × (Nat → ByteArray) × (Nat → ByteArray), V0 i = .slice q.1 q.2.1 q.2.2.1 ∧ Labs W q.1 q.2.1 q.2.2.2.1 q.2.2.2.2 ∧ q.2.1 ≤ q.2.2.1 ∧ (q.2.1 : Int) ≤ 9223372036854775807 := by
        intro i hi
        have hk := (hx i (by omega)).2
        obtain ⟨a', l', c', hv⟩ : ∃ a' l' c', V0 i = .slice a' l' c' := by
          rcases open_slice Tryz.underlying69 hk with ⟨hcs, _⟩ | ⟨b', l', c', m', n', D', Pl', hcs, _⟩
          · simp at hcs
            exact ⟨_, _, _, hcs⟩
          · simp at hcs
            exact ⟨_, _, _, hcs⟩
        rw [hv] at hk
        obtain ⟨N, V, hL⟩ := labs_of hk
        have hlen := len_ok Tryz.underlying69 hk
        have hcap : l' ≤ c' := by
          rcases open_slice Tryz.underlying69 hk with ⟨hcs, _⟩ | ⟨b', l2, c2, m', n', D', Pl', hcs, _, hl2, _⟩
          · simp at hcs
            omega
          · simp at hcs
            omega
        exact ⟨(a', l', c', N, V), hv, hL, hcap, hlen⟩
      obtain ⟨q, hq⟩ := choose_lt each
      refine ⟨fun i => (q i).1, fun i => (q i).2.1, fun i => (q i).2.2.1, fun i => (q i).2.2.2.1, fun i => (q i).2.2.2.2, .inr ⟨bb, oo, rfl, fun k hk => ?_⟩⟩
      obtain ⟨a0, a1, a2, a3⟩ := hq k hk
      refine ⟨?_, a1, a2, a3⟩
      rw [← a0, ← (hx k (by omega)).1]
      simp [Addr.add]
      split <;> simp_all
end Go.Proofs.YtnjmplmogibgfacGreatDoor
