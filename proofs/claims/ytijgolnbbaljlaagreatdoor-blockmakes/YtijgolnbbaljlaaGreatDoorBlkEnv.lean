/- What package block's functions read of the package variables; chunks by their codes. -/
import Derived.Test.YtijgolnbbaljlaaGreatDoorHeadAtGroup
import Derived.Test.YtijgolnbbaljlaaGreatDoorLabFaultGroup
import Derived.Test.YtijgolnbbaljlaaGreatDoorIsPackedGroup
import Derived.Test.YtijgolnbbaljlaaGreatDoorPtListGroup
namespace Go.Proofs.YtijgolnbbaljlaaGreatDoor
open Go.RowKit PtMath

theorem own_mono2 {w : World} {b b' : Nat} {e : TypeId} {sz : Nat} {v : Value} {n : Nat} {xs : List Value} (h : w.ownsRow b' e sz v n xs) (hb : b ≤ b') : w.ownsRow b e sz v n xs := by
  obtain ⟨h1, h2⟩ := h
  refine ⟨h1, ?_⟩
  rcases h2 with h2 | ⟨g, cap, cur, hv, hg, r⟩
  · exact .inl h2
  · exact .inr ⟨g, cap, cur, hv, Nat.le_trans hb hg, r⟩
theorem below_drew2 {b : Nat} {w w' : World} (h : Below b w w') : Below b w w'.drew := h.trans ⟨rfl, rfl, rfl, Nat.le_refl _, fun _ _ => rfl⟩
structure EnvK (B : Nat) (ea : Nat → Addr) (w : World) : Prop where
  ern : Ern B ea w
  c2 : w.cell? ⟨2, 0, none⟩ = some (.iface 313 (.pointer (some (ea 2))))
  c3 : w.cell? ⟨3, 0, none⟩ = some (.iface 313 (.pointer (some (ea 3))))
  forms : Forms w
  tab : Tab w
  lf : 18 < B
  lt : 17 < B
theorem EnvK.below {B : Nat} {ea : Nat → Addr} {w w' : World} (E : EnvK B ea w) {B' : Nat} (h : Below B' w w') (hB : B ≤ B') : EnvK B ea w' := by
  have hl := E.ern.low
  have hc : ∀ g, g ≤ 11 → w'.cell? ⟨g, 0, none⟩ = w.cell? ⟨g, 0, none⟩ := fun g hg => h.cell (p := ⟨g, 0, none⟩) (by show g < B'; omega)
  exact ⟨E.ern.below h hB, (hc _ (by omega)).trans E.c2, (hc _ (by omega)).trans E.c3, E.forms.below h (Nat.lt_of_lt_of_le E.lf hB), E.tab.below h (Nat.lt_of_lt_of_le E.lt hB), E.lf, E.lt⟩
theorem EnvK.types {B : Nat} {ea : Nat → Addr} {w : World} (E : EnvK B ea w) : Typ B w := ⟨E.ern.typ, E.ern.low⟩
theorem FaultV.es {ea : Nat → Addr} {w : World} {C : Int} (m : Nat) (hm : m < 11) (h : (m : Int) + 1 = C) : FaultV ea w (.iface 313 (.pointer (some (ea m)))) C (-1) := .inr (.inl ⟨m, hm, rfl, h, rfl⟩)
theorem FaultV.pos {ea : Nat → Addr} {w : World} {v : Value} {C A : Int} (h : FaultV ea w v C A) (hC : C ≠ 0) : ∃ t p, v = .iface t (.pointer (some p)) := by
  rcases h with ⟨_, h⟩ | ⟨m, _, h, _⟩ | ⟨pb, m, _, h, _⟩
  · exact absurd h hC
  · exact ⟨_, _, h⟩
  · exact ⟨_, _, h⟩
theorem FaultV.any {ea : Nat → Addr} {w : World} {A A' : Int} {v : Value} (h : FaultV ea w v 0 A) : FaultV ea w v 0 A' := .inl ⟨h.none rfl, rfl⟩

theorem decode_k {B : Nat} {ea : Nat → Addr} (w : World) (E : EnvK B ea w) (hB : B ≤ w.heap.size) (s : ByteArray) (hs : s.size ≤ 10000) :
    Calls Tryz.prog 110 #[.string s] w fun e w' => ∃ x v, e = .returned (.tuple #[x, v]) ∧ Below w.heap.size w w' ∧ FaultV ea w' v (unC s.data.toList) (-1) ∧ (unC s.data.toList = 0 → w'.ownsRow w.heap.size 71 2 x (unP s.data.toList).length (pairCells (unP s.data.toList))) := by
  refine (decode_any w E.ern hB E.forms E.tab s hs).mono ?_
  rintro e w' ⟨hb, ⟨n, T, Bt, v, hn, hT, hBt, hl, hown, rfl⟩ | ⟨hnot, rfl⟩⟩
  · have hc : IsChunk s.data.toList := ⟨n, T, Bt, hn, hT, hBt, hl⟩
    have hu : unP s.data.toList = listOf T Bt n := by
      rw [hl, ← chk_listOf]
      refine unP_chk (ptsC_of (by rw [length_listOf]; exact hn) fun i hi => ?_) fun p hp => ?_
      · rw [length_listOf] at hi
        rw [ptOk_congr _ T n (fun j hj => tickAt_listOf T Bt n j hj) i hi]
        exact hT i hi
      · simp [listOf] at hp
        obtain ⟨i, hi, rfl⟩ := hp
        exact hBt i hi
    refine ⟨v, .nilIface, rfl, hb, .inl ⟨rfl, unC_zero.2 hc⟩, fun _ => ?_⟩
    rw [hu, length_listOf, pairCells_listOf]
    exact hown
  · refine ⟨_, _, rfl, hb, ?_, fun h => absurd (unC_zero.1 h) hnot⟩
    rw [unC_not hnot]
    split
    · exact FaultV.es 0 (by decide) (by decide)
    · split
      · exact FaultV.es 0 (by decide) (by decide)
      · exact FaultV.es 8 (by decide) (by decide)
theorem encode_k {B : Nat} {ea : Nat → Addr} (w : World) (E : EnvK B ea w) (hB : B ≤ w.heap.size) (la : Option Addr) (c : Nat) (l : List (Int × Nat)) (hP : PtsL w la l) (hin : PtsIn l) (hn : l.length ≤ 1000) :
    Calls Tryz.prog 71 #[.slice la l.length c] w fun e w' => ∃ x v A, e = .returned (.tuple #[.string x, v]) ∧ Below w.heap.size w w' ∧ FaultV ea w' v (ptsC l) A ∧ (ptsC l = 0 → x.data.toList = chk l) := by
  by_cases h : 120 < l.length
  · have hc : ptsC l = 2 := by unfold ptsC; rw [if_pos h]
    refine (encode_many w la l.length c h (by omega) (ea 1) E.ern.c1).mono ?_
    rintro e w' ⟨rfl, rfl⟩
    exact ⟨_, _, -1, rfl, Below.refl _ _, by rw [hc]; exact FaultV.es 1 (by decide) (by decide), fun h => by rw [hc] at h; cases h⟩
  · obtain ⟨g, g1, g2⟩ := badAt_spec (ptOk (tickAt l)) l.length
    refine (encode_any w E.ern E.forms E.tab la l.length c (tickAt l) (bitAt l) (pts_of_list hP hin) (by omega) _ g g1 g2).mono ?_
    rintro e w' ⟨hb, ⟨hm, rfl⟩ | ⟨hm, pb, rfl, hpb, q0, q1⟩⟩
    · have hz : ptsC l = 0 := ptsC_of (by omega) fun i hi => g1 i (by omega)
      exact ⟨_, _, -1, rfl, hb, .inl ⟨rfl, hz⟩, fun _ => by simp [chk]⟩
    · have hc : ptsC l = if isTick (tickAt l (badAt (ptOk (tickAt l)) l.length)) = true then 8 else 2 := by
        unfold ptsC ptBad
        rw [if_neg h, if_pos hm]
      refine ⟨_, _, ((badAt (ptOk (tickAt l)) l.length : Nat) : Int), rfl, hb, ?_, fun h0 => ?_⟩
      · rw [hc]
        by_cases ht : isTick (tickAt l (badAt (ptOk (tickAt l)) l.length)) = true
        · rw [if_pos ht] at q1 ⊢
          exact .inr (.inr ⟨pb, 7, by decide, rfl, q0, q1, rfl⟩)
        · rw [if_neg ht] at q1 ⊢
          exact .inr (.inr ⟨pb, 1, by decide, rfl, q0, q1, rfl⟩)
      · rw [hc] at h0
        split at h0 <;> cases h0
theorem lread_k {B : Nat} {ea : Nat → Addr} (w : World) (E : EnvK B ea w) (s : ByteArray) (hs : s.size ≤ 100000) :
    Calls Tryz.prog 99 #[.string s] w fun e w' => ∃ x v, e = .returned (.tuple #[x, v]) ∧ Below w.heap.size w w' ∧ FaultV ea w' v (readC s.data.toList) (readA s.data.toList) := by
  refine (lread_f4 w E.ern.c0 E.ern.c1 E.c2 E.c3 s (by omega)).mono ?_
  rintro e w' ⟨x, v, rfl, hb, ⟨hn, _, hf⟩ | ⟨out, hsc, hf, _⟩⟩
  · exact ⟨x, v, rfl, hb, by unfold readC readA; rw [hn]; exact hf⟩
  · exact ⟨x, v, rfl, hb, by unfold readC readA; rw [hsc]; exact hf⟩
theorem ins_len (f s : Int) (l : List (Int × Nat)) : (betweenL f (f + s - 1) l).length < l.length ↔ insB f s l = false := by
  rw [← Bool.not_eq_true, insB_true]
  have hle := betweenL_len f (f + s - 1) l
  constructor
  · intro h1 h2
    have : betweenL f (f + s - 1) l = l := by
      unfold betweenL
      rw [List.filter_eq_self]
      intro p hp
      simp [h2 p hp]
    rw [this] at h1
    omega
  · intro h1
    rcases Nat.lt_or_ge (betweenL f (f + s - 1) l).length l.length with h | h
    · exact h
    · exfalso
      apply h1
      have : betweenL f (f + s - 1) l = l := List.Sublist.eq_of_length List.filter_sublist (by show (betweenL f (f + s - 1) l).length = l.length; omega)
      intro p hp
      rw [← this] at hp
      simp [betweenL] at hp
      omega
end Go.Proofs.YtijgolnbbaljlaaGreatDoor
