/- Labels and matches that come in, as the walks are told of them. -/
import Derived.Test.YtfanagohfimnkaaDoorArgsIn
import Derived.Test.YtfanagohfimnkaaDoorRefMaskGroup
namespace Go.Proofs.YtfanagohfimnkaaDoor
open Go.ChangeShapes Go.WideShapes Go.ChangeAt Go.RowKit Go.Deep

theorem labs_of {H : Type} {enc : TypeId × Value → H} {W : World} {sp : Nat → Bool} {hd : Bool} {fuel : Nat} {a : Option Addr} {len cap : Nat} {x : DataW H × List MemPlace}
    (h : DataW.trod enc Tryd.prog W 0 sp hd fuel 22 [.slice a len cap] = some x) : ∃ N V, Labs W a len N V := by
  rcases open_slice_pairs Tryd.underlying22 Tryd.underlying28 (by kernel_rfl) rfl rfl (by kernel_rfl) (by kernel_rfl) h with ⟨hcs, _⟩ | ⟨b, l, c, m, n, V0, V1, D0, D1, P0, P1, hcs, _, hl, _, hm, _, hx⟩
  · simp at hcs
    obtain ⟨_, rfl, _⟩ := hcs
    exact ⟨fun _ => ⟨#[]⟩, fun _ => ⟨#[]⟩, .inl rfl⟩
  · simp at hcs
    obtain ⟨rfl, rfl, rfl⟩ := hcs
    by_cases h0 : len = 0
    · exact ⟨fun _ => ⟨#[]⟩, fun _ => ⟨#[]⟩, .inl h0⟩
    · have hlm : len ≤ m := by rw [hm]; split <;> omega
      obtain ⟨bb, oo, spot⟩ := b
      have hspot : spot = none := by
        have := (hx 0 (by omega)).1
        simpa [Addr.add] using World.cell?_spot this
      subst hspot
      have e0 : ∀ i, i < len → ∃ u : ByteArray, V0 i = .string u ∧ True := by
        intro i hi
        obtain ⟨u, e, _⟩ := DataW.trod_string Tryd.underlying9 (hx i (by omega)).2.2.1
        exact ⟨u, by simpa using e, trivial⟩
      have e1 : ∀ i, i < len → ∃ u : ByteArray, V1 i = .string u ∧ True := by
        intro i hi
        obtain ⟨u, e, _⟩ := DataW.trod_string Tryd.underlying9 (hx i (by omega)).2.2.2
        exact ⟨u, by simpa using e, trivial⟩
      obtain ⟨N, hN⟩ := choose_lt e0
      obtain ⟨V, hV⟩ := choose_lt e1
      refine ⟨N, V, .inr ⟨bb, oo, rfl, fun k hk => ?_⟩⟩
      have hk' := hx k (by omega)
      refine ⟨?_, ?_⟩
      · rw [← (hN k hk).1, ← hk'.1]
        simp [Addr.add]
        split <;> simp_all
      · rw [← (hV k hk).1, ← hk'.2.1]
        simp [Addr.add, Nat.add_assoc]
set_option maxRecDepth 100000 in
theorem mats_of {H : Type} {enc : TypeId × Value → H} {W : World} {sp : Nat → Bool} {hd : Bool} {fuel : Nat} {a : Option Addr} {len cap : Nat} {x : DataW H × List MemPlace}
    (h : DataW.trod enc Tryd.prog W 0 sp hd fuel 23 [.slice a len cap] = some x) : ∃ K N V, Mats W a len K N V := by
  have ce : Tryd.prog.cellsOf 30 = 3 := by kernel_rfl
  have cl : Tryd.prog.cellsOf 28 = 2 := by kernel_rfl
  have cu : Tryd.prog.cellsOf 5 = 1 := by kernel_rfl
  have cs1 : Tryd.prog.cellsOf 9 = 1 := by kernel_rfl
  rcases open_slice Tryd.underlying23 h with ⟨hcs, _⟩ | ⟨b, l, c, m, n, D, Pl, hcs, _, hl, _, hm, _, hx⟩
  · simp at hcs
    obtain ⟨_, rfl, _⟩ := hcs
    exact ⟨fun _ => 0, fun _ => ⟨#[]⟩, fun _ => ⟨#[]⟩, .inl rfl⟩
  · simp at hcs
    obtain ⟨rfl, rfl, rfl⟩ := hcs
    by_cases h0 : len = 0
    · exact ⟨fun _ => 0, fun _ => ⟨#[]⟩, fun _ => ⟨#[]⟩, .inl h0⟩
    · have hlm : len ≤ m := by rw [hm]; split <;> omega
      obtain ⟨bb, oo, spot⟩ := b
      have each : ∀ i, i < len → ∃ q : Nat × ByteArray × ByteArray, W.cell? ((⟨bb, oo, spot⟩ : Addr).add (i * 3)) = some (.int .u8 (q.1 : Int)) ∧ W.cell? ((⟨bb, oo, spot⟩ : Addr).add (i * 3 + 1)) = some (.string q.2.1) ∧ W.cell? ((⟨bb, oo, spot⟩ : Addr).add (i * 3 + 2)) = some (.string q.2.2) ∧ q.1 < 256 := by
        intro i hi
        obtain ⟨cs', h1, h2⟩ := hx i (by omega)
        rw [ce] at h1
        obtain ⟨_, hlen, hcell⟩ := World.cells?_some h1
        obtain ⟨y0, y1, k, _, _, g0, g1⟩ := trod_struct2 Tryd.underlying30 h2
        obtain ⟨z0, z1, k2, _, _, f0, f1⟩ := trod_struct2 Tryd.underlying28 g1
        match cs', hlen with
        | [v0, v1, v2], _ =>
          have g0' : DataW.trod enc Tryd.prog W 0 sp hd k 5 [v0] = some y0 := by simpa [cu] using g0
          have f0' : DataW.trod enc Tryd.prog W 0 sp hd k2 9 [v1] = some z0 := by simpa [cl, cs1] using f0
          have f1' : DataW.trod enc Tryd.prog W 0 sp hd k2 9 [v2] = some z1 := by simpa [cl, cs1] using f1
          obtain ⟨u, e, _, hu⟩ := DataW.trod_int Tryd.underlying5 g0'
          obtain ⟨s1, e1, _⟩ := DataW.trod_string Tryd.underlying9 f0'
          obtain ⟨s2, e2, _⟩ := DataW.trod_string Tryd.underlying9 f1'
          have hb := bounds_u8 hu
          have d0 := hcell 0 (by omega)
          have d1 := hcell 1 (by omega)
          have d2 := hcell 2 (by omega)
          rw [add_add] at d0 d1 d2
          simp at e e1 e2
          subst e e1 e2
          refine ⟨(u.toNat, s1, s2), ?_, by simpa using d1, by simpa using d2, by show u.toNat < 256; omega⟩
          show _ = some (Value.int .u8 ((u.toNat : Nat) : Int))
          rw [Int.toNat_of_nonneg hb.1]
          simpa using d0
      obtain ⟨q, hq⟩ := choose_lt each
      have hspot : spot = none := by
        have := (hq 0 (by omega)).1
        simpa [Addr.add] using World.cell?_spot this
      subst hspot
      refine ⟨fun i => (q i).1, fun i => (q i).2.1, fun i => (q i).2.2, .inr ⟨bb, oo, rfl, fun k hk => ?_⟩⟩
      obtain ⟨a0, a1, a2, a3⟩ := hq k hk
      refine ⟨?_, ?_, ?_, a3⟩
      · rw [← a0]
        simp [Addr.add]
        split <;> simp_all
      · rw [← a1]
        simp [Addr.add, Nat.add_assoc]
      · rw [← a2]
        simp [Addr.add, Nat.add_assoc]
/-- A slice of lists of labels. -/
def Lists (w : World) (a : Option Addr) (n : Nat) (A : Nat → Option Addr) (L C : Nat → Nat) (N V : Nat → Nat → ByteArray) : Prop :=
  n = 0 ∨ ∃ b o, a = some ⟨b, o, none⟩ ∧ ∀ k, k < n → w.cell? ⟨b, o + k, none⟩ = some (.slice (A k) (L k) (C k)) ∧ Labs w (A k) (L k) (N k) (V k) ∧ L k ≤ C k ∧ (L k : Int) ≤ 9223372036854775807
theorem lists_of {H : Type} {enc : TypeId × Value → H} {W : World} {sp : Nat → Bool} {hd : Bool} {fuel : Nat} {t : TypeId} {a : Option Addr} {len cap : Nat} {x : DataW H × List MemPlace} (ht : Tryd.prog.underlying t = some (.slice 22))
    (h : DataW.trod enc Tryd.prog W 0 sp hd fuel t [.slice a len cap] = some x) : ∃ A L C N V, Lists W a len A L C N V := by
  rcases open_slice1 ht (by kernel_rfl) h with ⟨hcs, _⟩ | ⟨b, l, c, m, n, V0, D0, P0, hcs, _, hl, _, hm, _, hx⟩
  · simp at hcs
    obtain ⟨_, rfl, _⟩ := hcs
    exact ⟨fun _ => none, fun _ => 0, fun _ => 0, fun _ _ => ⟨#[]⟩, fun _ _ => ⟨#[]⟩, .inl rfl⟩
  · simp at hcs
    obtain ⟨rfl, rfl, rfl⟩ := hcs
    by_cases h0 : len = 0
    · exact ⟨fun _ => none, fun _ => 0, fun _ => 0, fun _ _ => ⟨#[]⟩, fun _ _ => ⟨#[]⟩, .inl h0⟩
    · have hlm : len ≤ m := by rw [hm]; split <;> omega
      obtain ⟨bb, oo, spot⟩ := b
      have hspot : spot = none := by
        have := (hx 0 (by omega)).1
        simpa [Addr.add] using World.cell?_spot this
      subst hspot
      have each : ∀ i, i < len → ∃ q : Option Addr × Nat × Nat × (Nat → ByteArray) × (Nat → ByteArray), V0 i = .slice q.1 q.2.1 q.2.2.1 ∧ Labs W q.1 q.2.1 q.2.2.2.1 q.2.2.2.2 ∧ q.2.1 ≤ q.2.2.1 ∧ (q.2.1 : Int) ≤ 9223372036854775807 := by
        intro i hi
        have hk := (hx i (by omega)).2
        obtain ⟨a', l', c', hv⟩ : ∃ a' l' c', V0 i = .slice a' l' c' := by
          rcases open_slice Tryd.underlying22 hk with ⟨hcs, _⟩ | ⟨b', l', c', m', n', D', Pl', hcs, _⟩
          · simp at hcs
            exact ⟨_, _, _, hcs⟩
          · simp at hcs
            exact ⟨_, _, _, hcs⟩
        rw [hv] at hk
        obtain ⟨N, V, hL⟩ := labs_of hk
        have hlen := len_ok Tryd.underlying22 hk
        have hcap : l' ≤ c' := by
          rcases open_slice Tryd.underlying22 hk with ⟨hcs, _⟩ | ⟨b', l2, c2, m', n', D', Pl', hcs, _, hl2, _⟩
          · simp at hcs
            omega
          · simp at hcs
            omega
        exact ⟨(a', l', c', N, V), hv, hL, hcap, hlen⟩
      obtain ⟨q, hq⟩ := choose_lt each
      refine ⟨fun i => (q i).1, fun i => (q i).2.1, fun i => (q i).2.2.1, fun i => (q i).2.2.2.1, fun i => (q i).2.2.2.2, .inr ⟨bb, oo, rfl, fun k hk => ?_⟩⟩
      obtain ⟨a0, a1, a2, a3⟩ := hq k hk
      refine ⟨?_, a1, a2, a3⟩
      rw [← a0, ← (hx k (by omega)).1]
      simp [Addr.add]
      split <;> simp_all
end Go.Proofs.YtfanagohfimnkaaDoor
