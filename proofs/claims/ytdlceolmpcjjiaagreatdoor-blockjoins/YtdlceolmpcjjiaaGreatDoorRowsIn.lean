/- Rows that come in, as the walks are told of them. -/
import Derived.Test.YtdlceolmpcjjiaaGreatDoorRowsDef
import Derived.Lib.SmallJoins
import Derived.SizedLaws
import Derived.Test.YtdlceolmpcjjiaaGreatDoorArgsIn
namespace Go.Proofs.YtdlceolmpcjjiaaGreatDoor
open Go.ChangeShapes Go.WideShapes Go.ChangeAt Go.RowKit Go.Deep

theorem points_of {H : Type} {enc : TypeId × Value → H} {W : World} {sp : Nat → Bool} {hd : Bool} {fuel : Nat} {a : Option Addr} {len cap : Nat} {x : DataW H × List MemPlace}
    (h : DataW.trod enc Tryz.prog W 0 sp hd fuel 48 [.slice a len cap] = some x) : ∃ T B, Pts W a len T B := by
  rcases open_slice_pairs Tryz.underlying48 Tryz.underlying71 (by kernel_rfl) rfl rfl (by kernel_rfl) (by kernel_rfl) h with ⟨hcs, _⟩ | ⟨b, l, c, m, n, V0, V1, D0, D1, P0, P1, hcs, _, hl, _, hm, _, hx⟩
  · simp at hcs
    obtain ⟨_, rfl, _⟩ := hcs
    exact ⟨fun _ => 0, fun _ => 0, .inl rfl⟩
  · simp at hcs
    obtain ⟨rfl, rfl, rfl⟩ := hcs
    by_cases h0 : len = 0
    · exact ⟨fun _ => 0, fun _ => 0, .inl h0⟩
    · have hlm : len ≤ m := by rw [hm]; split <;> omega
      obtain ⟨bb, oo, spot⟩ := b
      have hspot : spot = none := by
        have := (hx 0 (by omega)).1
        simpa [Addr.add] using World.cell?_spot this
      subst hspot
      have e0 : ∀ i, i < len → ∃ u : Int, V0 i = .int .i64 u ∧ -9223372036854775808 ≤ u ∧ u ≤ 9223372036854775807 := by
        intro i hi
        obtain ⟨u, e, _, hu⟩ := DataW.trod_int Tryz.underlying3 (hx i (by omega)).2.2.1
        exact ⟨u, by simpa using e, bounds_i64 hu⟩
      have e1 : ∀ i, i < len → ∃ u : Nat, V1 i = .int .u64 (u : Int) ∧ u < 18446744073709551616 := by
        intro i hi
        obtain ⟨u, e, _, hu⟩ := DataW.trod_int Tryz.underlying69 (hx i (by omega)).2.2.2
        have hb := bounds_u64 hu
        refine ⟨u.toNat, ?_, by omega⟩
        rw [Int.toNat_of_nonneg hb.1]
        simpa using e
      obtain ⟨T, hT⟩ := choose_lt e0
      obtain ⟨B, hB⟩ := choose_lt e1
      refine ⟨T, B, .inr ⟨bb, oo, rfl, fun k hk => ?_⟩⟩
      have hk' := hx k (by omega)
      refine ⟨?_, ?_, (hT k hk).2.1, (hT k hk).2.2, (hB k hk).2⟩
      · rw [← (hT k hk).1, ← hk'.1]
        simp [Addr.add]
        split <;> simp_all
      · rw [← (hB k hk).1, ← hk'.2.1]
        simp [Addr.add, Nat.add_assoc]
end Go.Proofs.YtdlceolmpcjjiaaGreatDoor
namespace Go.Proofs.YtdlceolmpcjjiaaGreatDoor
open Go.ChangeShapes Go.WideShapes Go.ChangeAt Go.RowKit Go.Deep Go.Maps

theorem weights_all {H : Type} {P : Program} {e : TypeId} : ∀ {l : List (DataW H)} {d : DataW H}, d ∈ l → ∀ {z : Nat}, z ∈ d.weights P e → z ∈ DataW.weightsAll P e l
  | [], _, h, _, _ => absurd h List.not_mem_nil
  | c :: r, d, h, z, hz => by
    rw [DataW.weightsAll]
    rcases List.mem_cons.1 h with rfl | h
    · exact List.mem_append.2 (.inl hz)
    · exact List.mem_append.2 (.inr (weights_all h hz))
theorem weights_slice {H : Type} {P : Program} {t e : TypeId} (hu : P.underlying t = some (.slice e)) {l s : List (DataW H)} {d : DataW H} (hd : d ∈ l) {z : Nat} (hz : z ∈ d.weights P e) : z ∈ (DataW.slice l s).weights P t := by
  rw [DataW.weights, hu]
  exact List.mem_cons.2 (.inr (List.mem_append.2 (.inl (weights_all hd hz))))
theorem weights_own {H : Type} {P : Program} {t e : TypeId} (hu : P.underlying t = some (.slice e)) {l s : List (DataW H)} : (l.length + s.length) * P.bytesOf e ∈ (DataW.slice l s).weights P t := by
  rw [DataW.weights, hu]
  exact List.mem_cons.2 (.inl rfl)
theorem weights_agg2 {H : Type} {P : Program} {t : TypeId} {f0 f1 : Field} (hu : P.underlying t = some (.struct #[f0, f1])) {d e : DataW H} : (DataW.agg [d, e]).weights P t = d.weights P f0.type ++ e.weights P f1.type := by
  rw [DataW.weights, hu]
  simp [DataW.weightsEach]

set_option maxRecDepth 100000 in
theorem rows_of {H : Type} {enc : TypeId × Value → H} {W : World} {sp : Nat → Bool} {hd : Bool} {fuel : Nat} {a : Option Addr} {len cap : Nat} {x : DataW H × List MemPlace}
    (h : DataW.trod enc Tryz.prog W 0 sp hd fuel 41 [.slice a len cap] = some x) (hw : ∀ n, n ∈ x.1.weights Tryz.prog 41 → n ≤ reachBytes) : ∃ rows : List (List UInt8 × List (Int × Nat)), rows.length = len ∧ RowsP W a rows ∧ ∀ r, r ∈ rows → PtsIn r.2 ∧ (r.2.length : Int) ≤ 140737488355328 ∧ (r.1.length : Int) ≤ 140737488355328 := by
  have hrb := reachBytes_lt
  have ce : Tryz.prog.cellsOf 61 = 2 := by kernel_rfl
  have cp : Tryz.prog.cellsOf 48 = 1 := by kernel_rfl
  have cs1 : Tryz.prog.cellsOf 9 = 1 := by kernel_rfl
  rcases open_slice Tryz.underlying41 h with ⟨hcs, _⟩ | ⟨b, l, c, m, n, D, Pl, hcs, _, hl, _, hm, hxe, hx⟩
  · simp at hcs
    obtain ⟨_, rfl, _⟩ := hcs
    exact ⟨[], rfl, .inl rfl, fun r hr => absurd hr List.not_mem_nil⟩
  · simp at hcs
    obtain ⟨rfl, rfl, rfl⟩ := hcs
    by_cases h0 : len = 0
    · exact ⟨[], h0.symm, .inl rfl, fun r hr => absurd hr List.not_mem_nil⟩
    · have hlm : len ≤ m := by rw [hm]; split <;> omega
      obtain ⟨bb, oo, spot⟩ := b
      have each : ∀ i, i < len → ∃ q : List UInt8 × List (Int × Nat) × Option Addr × Nat, W.cell? ((⟨bb, oo, spot⟩ : Addr).add (i * 2)) = some (encStr q.1) ∧ W.cell? ((⟨bb, oo, spot⟩ : Addr).add (i * 2 + 1)) = some (.slice q.2.2.1 q.2.1.length q.2.2.2) ∧ PtsL W q.2.2.1 q.2.1 ∧ PtsIn q.2.1 ∧ (q.2.1.length : Int) ≤ 140737488355328 ∧ (q.1.length : Int) ≤ 140737488355328 := by
        intro i hi
        obtain ⟨cs', h1, h2⟩ := hx i (by omega)
        rw [ce] at h1
        obtain ⟨_, hlen, hcell⟩ := World.cells?_some h1
        obtain ⟨y0, y1, k, hDe, _, g0, g1⟩ := trod_struct2 Tryz.underlying61 h2
        have hwi : ∀ z, z ∈ (D i).weights Tryz.prog 61 → z ≤ reachBytes := fun z hz => hw z (by
          rw [hxe]
          exact weights_slice Tryz.underlying41 (List.mem_map.2 ⟨i, List.mem_range.2 hi, rfl⟩) hz)
        have hDi : D i = .agg [y0.1, y1.1] := congrArg Prod.fst hDe
        rw [hDi] at hwi
        match cs', hlen with
        | [v0, v1], _ =>
          have g0' : DataW.trod enc Tryz.prog W 0 sp hd k 9 [v0] = some y0 := by simpa [cs1] using g0
          have g1' : DataW.trod enc Tryz.prog W 0 sp hd k 48 [v1] = some y1 := by simpa [cs1, cp] using g1
          obtain ⟨s0, e0, hy0⟩ := DataW.trod_string Tryz.underlying9 g0'
          obtain ⟨a', l', c', hv⟩ : ∃ a' l' c', v1 = .slice a' l' c' := by
            rcases open_slice Tryz.underlying48 g1' with ⟨hcs, _⟩ | ⟨b', l', c', m', n', D', Pl', hcs, _⟩
            · simp at hcs
              exact ⟨_, _, _, hcs⟩
            · simp at hcs
              exact ⟨_, _, _, hcs⟩
          subst hv
          obtain ⟨T, B, hT⟩ := points_of g1'
          obtain ⟨p1, p2, p3⟩ := ptsL_of hT
          have hw1 : l' * 16 ≤ reachBytes := by
            rcases open_slice Tryz.underlying48 g1' with ⟨hcs, _⟩ | ⟨b2, l2, c2, m2, n2, D2, Pl2, hcs, _, hl2, _, hm2, hye, _⟩
            · simp at hcs
              rw [hcs.2.1]
              exact Nat.zero_le _
            · simp at hcs
              have hmem := hwi (((List.range l2).map D2).length + ((List.range (m2 - l2)).map fun j => D2 (l2 + j)).length |> fun z => z * Tryz.prog.bytesOf 71) (by
                rw [weights_agg2 Tryz.underlying61, hye]
                exact List.mem_append.2 (.inr (weights_own Tryz.underlying48)))
              have hb16 : Tryz.prog.bytesOf 71 = 16 := by kernel_rfl
              simp only [hb16, List.length_map, List.length_range] at hmem
              have : l' = l2 := hcs.2.1
              omega
          have hw0 : s0.data.toList.length ≤ reachBytes := hwi _ (by
            rw [weights_agg2 Tryz.underlying61, hy0.1]
            exact List.mem_append.2 (.inl (by simp [DataW.weights])))
          have d0 := hcell 0 (by omega)
          have d1 := hcell 1 (by omega)
          rw [add_add] at d0 d1
          simp at e0
          subst e0
          refine ⟨(s0.data.toList, listOf T B l', a', c'), by simpa [encStr] using d0, by show _ = some (Value.slice a' (listOf T B l').length c'); rw [p3]; simpa using d1, p1, p2, by show ((listOf T B l').length : Int) ≤ _; rw [p3]; omega, by show (s0.data.toList.length : Int) ≤ _; omega⟩
      obtain ⟨q, hq⟩ := choose_lt each
      have hspot : spot = none := by
        have := (hq 0 (by omega)).1
        simpa [Addr.add] using World.cell?_spot this
      subst hspot
      refine ⟨(List.range len).map fun i => ((q i).1, (q i).2.1), by simp, .inr ⟨bb, oo, rfl, fun k hk => ?_⟩, fun r hr => ?_⟩
      · have hk' : k < len := by simpa using hk
        obtain ⟨a0, a1, a2, _⟩ := hq k hk'
        have e : ((List.range len).map fun i => ((q i).1, (q i).2.1))[k] = ((q k).1, (q k).2.1) := by simp
        rw [e]
        refine ⟨?_, (q k).2.2.1, (q k).2.2.2, ?_, a2⟩
        · rw [← a0]
          simp [Addr.add]
          split <;> simp_all
        · rw [← a1]
          simp [Addr.add, Nat.add_assoc]
      · obtain ⟨i, hi, rfl⟩ := List.mem_map.1 hr
        exact ⟨(hq i (by simpa using hi)).2.2.2.1, (hq i (by simpa using hi)).2.2.2.2.1, (hq i (by simpa using hi)).2.2.2.2.2⟩
end Go.Proofs.YtdlceolmpcjjiaaGreatDoor
