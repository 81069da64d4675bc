/- A head, as it lies in memory: the map of its lines, each line's points. -/
import Derived.Test.YtplfnblpmagbjabGreatDoorBitMathGroup
import Derived.Test.YtplfnblpmagbjabGreatDoorLabFaultGroup
import Derived.Test.YtplfnblpmagbjabGreatDoorPtListGroup
import Derived.Test.YtplfnblpmagbjabGreatDoorRefLabOfGroup
import Derived.Maps.OwnSet
import Derived.Maps.RangeWalk
import Derived.StringKeys
import Derived.Deep.QuietTactic
import Derived.BigQuiet
namespace Go.Proofs.YtplfnblpmagbjabGreatDoor
open Go.RowKit Go.Maps HeadMath LabMath PtMath

/-- An element of a map, as it stands. -/
def heldE (v : Value) : Option (DataW Value × List MemPlace) := some (.held v, [])
theorem lawS : Keyed Tryz.prog 9 := string_keyed Tryz.underlying9
/-- The blocks that a head turns. -/
def foot (mb : Nat) (S : List Sr) (bl : List UInt8 → Nat) (sv : List UInt8 → Value) : List Nat := mb :: S.flatMap fun l => bl l.key :: (sv l.key).ownBlock.toList
theorem foot_map (mb : Nat) (S : List Sr) (bl : List UInt8 → Nat) (sv : List UInt8 → Value) : mb ∈ foot mb S bl sv := List.mem_cons_self ..
theorem foot_line {mb : Nat} {S : List Sr} {bl : List UInt8 → Nat} {sv : List UInt8 → Value} {l : Sr} (h : l ∈ S) : bl l.key ∈ foot mb S bl sv :=
  List.mem_cons_of_mem _ (List.mem_flatMap.2 ⟨l, h, List.mem_cons_self ..⟩)
theorem foot_row {mb : Nat} {S : List Sr} {bl : List UInt8 → Nat} {sv : List UInt8 → Value} {l : Sr} {g : Nat} (h : l ∈ S) (hg : (sv l.key).ownBlock = some g) : g ∈ foot mb S bl sv :=
  List.mem_cons_of_mem _ (List.mem_flatMap.2 ⟨l, h, List.mem_cons_of_mem _ (by rw [hg]; exact List.mem_singleton.2 rfl)⟩)
theorem mem_foot {mb : Nat} {S : List Sr} {bl : List UInt8 → Nat} {sv : List UInt8 → Value} {x : Nat} (h : x ∈ foot mb S bl sv) : x = mb ∨ (∃ l, l ∈ S ∧ x = bl l.key) ∨ ∃ l, l ∈ S ∧ (sv l.key).ownBlock = some x := by
  rcases List.mem_cons.1 h with rfl | h
  · exact .inl rfl
  · obtain ⟨l, hl, hx⟩ := List.mem_flatMap.1 h
    rcases List.mem_cons.1 hx with rfl | hx
    · exact .inr (.inl ⟨l, hl, rfl⟩)
    · exact .inr (.inr ⟨l, hl, by simpa using hx⟩)
theorem ownsMap_same {w w' : World} {b n : Nat} {D : DataW Value} (h : w.ownsMap Tryz.prog 9 heldE b n D) (he : w'.heap[b]? = w.heap[b]?) : w'.ownsMap Tryz.prog 9 heldE b n D := by
  obtain ⟨es, clock, hb, rest⟩ := h
  exact ⟨es, clock, he.trans hb, rest⟩
theorem own_same {w w' : World} {base : Nat} {e : TypeId} {sz : Nat} {v : Value} {n : Nat} {xs : List Value} (h : w.ownsRow base e sz v n xs) (he : ∀ g, v.ownBlock = some g → w'.heap[g]? = w.heap[g]?) : w'.ownsRow base e sz v n xs := by
  obtain ⟨h1, h2⟩ := h
  refine ⟨h1, ?_⟩
  rcases h2 with h2 | ⟨g, cap, cur, hv, hg, hh, t⟩
  · exact .inl h2
  · exact .inr ⟨g, cap, cur, hv, hg, (he g (by rw [hv]; rfl)).trans hh, t⟩
theorem own_blk {w : World} {base : Nat} {e : TypeId} {sz : Nat} {v : Value} {n : Nat} {xs : List Value} (h : w.ownsRow base e sz v n xs) {g : Nat} (hg : v.ownBlock = some g) : base ≤ g ∧ g < w.heap.size ∧ ∃ cur, w.heap[g]? = some (.cells cur e (0, 0)) := by
  rcases h.2 with ⟨hv, _⟩ | ⟨g', cap, cur, hv, hg', hh, _⟩
  · rw [hv] at hg; cases hg
  · rw [hv] at hg
    simp [Value.ownBlock] at hg
    subst hg
    exact ⟨hg', blk_lt hh, cur, hh⟩
/-- The key of a text. -/
theorem key_of (s : ByteArray) (hs : s.size ≤ 1000) : keyOf Tryz.prog 9 (.string s) = some (.string s.data.toList) := Go.WideMaps.keyOf_string_mk Tryz.underlying9 (by unfold maxLen; omega)
end Go.Proofs.YtplfnblpmagbjabGreatDoor
/- head's refuses by its contract. -/
namespace Go.Proofs.YtplfnblpmagbjabGreatDoor
open Go.RowKit Go.Maps HeadMath LabMath PtMath

/-- The fault of a text as labels: its number and place. -/
noncomputable def readC (l : List UInt8) : Int := match scan l [] [] [] false with | none => 1 | some out => fC (nameAt out) (valueAt out) out.length
noncomputable def readA (l : List UInt8) : Int := match scan l [] [] [] false with | none => -1 | some out => fA (nameAt out) (valueAt out) out.length
theorem readC_nonneg (l : List UInt8) : 0 ≤ readC l := by
  unfold readC
  split
  · omega
  · exact (fC_cases _ _ _).1
/-- The seven errors of labels and heads. -/
structure EnvH (B : Nat) (ea : Nat → Addr) (w : World) : Prop where
  c0 : w.cell? ⟨4, 0, none⟩ = some (.iface 186 (.pointer (some (ea 0))))
  c1 : w.cell? ⟨0, 0, none⟩ = some (.iface 186 (.pointer (some (ea 1))))
  c2 : w.cell? ⟨1, 0, none⟩ = some (.iface 186 (.pointer (some (ea 2))))
  c3 : w.cell? ⟨5, 0, none⟩ = some (.iface 186 (.pointer (some (ea 3))))
  c4 : w.cell? ⟨6, 0, none⟩ = some (.iface 186 (.pointer (some (ea 4))))
  c6 : w.cell? ⟨2, 0, none⟩ = some (.iface 186 (.pointer (some (ea 6))))
  c7 : w.cell? ⟨8, 0, none⟩ = some (.iface 186 (.pointer (some (ea 7))))
  low : ∀ g, g ∈ [4, 0, 1, 5, 6, 2, 8] → g < B
theorem EnvH.below {B : Nat} {ea : Nat → Addr} {w w' : World} (E : EnvH B ea w) {B' : Nat} (h : Below B' w w') (hB : B ≤ B') : EnvH B ea w' := by
  have hc : ∀ g, g < B → w'.cell? ⟨g, 0, none⟩ = w.cell? ⟨g, 0, none⟩ := fun g hg => h.cell (p := ⟨g, 0, none⟩) (by show g < B'; omega)
  have hl := E.low
  exact ⟨(hc _ (hl _ (by simp))).trans E.c0, (hc _ (hl _ (by simp))).trans E.c1, (hc _ (hl _ (by simp))).trans E.c2, (hc _ (hl _ (by simp))).trans E.c3, (hc _ (hl _ (by simp))).trans E.c4, (hc _ (hl _ (by simp))).trans E.c6, (hc _ (hl _ (by simp))).trans E.c7, hl⟩
theorem Env.head {B : Nat} {ea : Nat → Addr} {w : World} (E : Env B ea w) : EnvH B ea w := by
  refine ⟨E.c0, E.c1, E.c2, E.c3, E.c4, E.c6, E.c7, fun g hg => ?_⟩
  have hl := E.low
  have : ∀ g, g ∈ [4, 0, 1, 5, 6, 2, 8] → g ≤ 11 := by decide
  exact Nat.lt_of_le_of_lt (this g hg) hl
theorem lread_c {B : Nat} {ea : Nat → Addr} (w : World) (E : EnvH B ea w) (s : ByteArray) (hs : s.size ≤ 1000) :
    Calls Tryz.prog 40 #[.string s] w fun e w' => ∃ x v, e = .returned (.tuple #[x, v]) ∧ Below w.heap.size w w' ∧ FaultV ea w' v (readC s.data.toList) (readA s.data.toList) := by
  refine (lread_f4 w E.c0 E.c1 E.c2 E.c3 s (by omega)).mono ?_
  rintro e w' ⟨x, v, rfl, hb, ⟨hn, _, hf⟩ | ⟨out, hsc, hf, _⟩⟩
  · exact ⟨x, v, rfl, hb, by unfold readC readA; rw [hn]; exact hf⟩
  · exact ⟨x, v, rfl, hb, by unfold readC readA; rw [hsc]; exact hf⟩
/-- Is a tick not more than that of the series' last point? -/
def oldB (S : List Sr) (k : List UInt8) (t : Int) : Bool := S.any fun l => decide (l.key = k) && decide (t ≤ l.last)
theorem oldB_none {S : List Sr} {k : List UInt8} (h : known S k = false) (t : Int) : oldB S k t = false := by
  cases e : oldB S k t with
  | false => rfl
  | true =>
    simp [oldB] at e
    obtain ⟨l, hl, hk, _⟩ := e
    have : known S k = true := known_iff.2 ⟨l, hl, hk⟩
    rw [h] at this
    cases this
theorem oldB_some {S : List Sr} (hs : S.Pairwise fun a b => a.key < b.key) {l : Sr} (hl : l ∈ S) {k : List UInt8} (hk : l.key = k) (t : Int) : oldB S k t = decide (t ≤ l.last) := by
  by_cases ht : t ≤ l.last
  · have : oldB S k t = true := by
      simp only [oldB, List.any_eq_true]
      exact ⟨l, hl, by simp [hk, ht]⟩
    rw [this]
    simp [ht]
  · have : oldB S k t = false := by
      cases e : oldB S k t with
      | false => rfl
      | true =>
        simp [oldB] at e
        obtain ⟨m, hm, hmk, hmt⟩ := e
        have := uniq hs hm hl (hmk.trans hk.symm)
        subst this
        exact absurd hmt ht
    rw [this]
    simp [ht]
/-- The fault of a point to be added. -/
noncomputable def addC (S : List Sr) (k : List UInt8) (t : Int) : Int := if 0 < readC k then readC k else if t < -1099511627776 ∨ 1099511627776 < t then 2 else if oldB S k t = true then 8 else if known S k = false ∧ 60 ≤ S.length then 7 else 0
noncomputable def addA (k : List UInt8) : Int := if 0 < readC k then readA k else -1

end Go.Proofs.YtplfnblpmagbjabGreatDoor
/- What a right series' text is like: short, and with no '@'. -/
namespace Go.Proofs.YtplfnblpmagbjabGreatDoor
open Go.RowKit LabMath

theorem textL_len : ∀ out : List (List UInt8 × List UInt8), (∀ p, p ∈ out → p.1.length ≤ 12 ∧ p.2.length ≤ 12) → (textL out).length ≤ 26 * out.length
  | [], _ => by simp [textL]
  | [p], h => by
    have := h p (by simp)
    simp [textL]
    omega
  | p :: q :: r, h => by
    have h1 := h p (by simp)
    have h2 := textL_len (q :: r) fun x hx => h x (by simp [hx])
    simp [textL] at h2 ⊢
    omega
theorem textL_mem : ∀ (out : List (List UInt8 × List UInt8)) (c : UInt8), c ∈ textL out → c = 44 ∨ c = 61 ∨ ∃ p, p ∈ out ∧ (c ∈ p.1 ∨ c ∈ p.2)
  | [], c, h => by simp [textL] at h
  | [p], c, h => by
    simp [textL] at h
    rcases h with h | h | h
    · exact .inr (.inr ⟨p, by simp, .inl h⟩)
    · exact .inr (.inl h)
    · exact .inr (.inr ⟨p, by simp, .inr h⟩)
  | p :: q :: r, c, h => by
    have ih := textL_mem (q :: r) c
    rw [textL] at h
    simp only [List.mem_append, List.mem_cons] at h
    have hih : c ∈ textL (q :: r) → c = 44 ∨ c = 61 ∨ ∃ p', p' ∈ p :: q :: r ∧ (c ∈ p'.1 ∨ c ∈ p'.2) := fun h => by
      rcases ih h with h | h | ⟨x, hx, h⟩
      · exact .inl h
      · exact .inr (.inl h)
      · exact .inr (.inr ⟨x, List.mem_cons_of_mem _ hx, h⟩)
    rcases h with (h | h | h) | h | h
    · exact .inr (.inr ⟨p, by simp, .inl h⟩)
    · exact .inr (.inl h)
    · exact .inr (.inr ⟨p, by simp, .inr h⟩)
    · exact .inl h
    · exact hih h
theorem word_is {s : ByteArray} (h : isWord s = true) : s.data.toList.length ≤ 12 ∧ ∀ c, c ∈ s.data.toList → c ≠ 64 := by
  unfold isWord at h
  rw [Bool.and_eq_true, List.all_eq_true, decide_eq_true_eq] at h
  refine ⟨h.2.2, fun c hc => ?_⟩
  have := h.1 c hc
  rintro rfl
  revert this
  decide
theorem lab_is (s : List UInt8) (h : readC s = 0) : (∀ c, c ∈ s → c ≠ 64) ∧ s.length ≤ 1000 := by
  unfold readC at h
  cases hs : scan s [] [] [] false with
  | none => rw [hs] at h; cases h
  | some out =>
    rw [hs] at h
    dsimp only at h
    obtain ⟨h1, h6, _, hall⟩ := (fC_cases _ _ _).2 h
    have hb := scan_back s out hs
    have hp : ∀ p, p ∈ out → (p.1.length ≤ 12 ∧ ∀ c, c ∈ p.1 → c ≠ 64) ∧ (p.2.length ≤ 12 ∧ ∀ c, c ∈ p.2 → c ≠ 64) := fun p hp => by
      obtain ⟨i, hi, rfl⟩ := List.mem_iff_getElem.1 hp
      have hk := hall i hi
      unfold labOk at hk
      rw [Bool.and_eq_true, Bool.and_eq_true] at hk
      have hn : isWord (nameAt out i) = true := by
        have := hk.1.1
        unfold isName at this
        rw [Bool.and_eq_true] at this
        exact this.1
      have e1 : (nameAt out i).data.toList = (out[i]).1 := by simp [nameAt, txt, hi]
      have e2 : (valueAt out i).data.toList = (out[i]).2 := by simp [valueAt, txt, hi]
      have w1 := word_is hn
      have w2 := word_is hk.1.2
      rw [e1] at w1
      rw [e2] at w2
      exact ⟨w1, w2⟩
    rw [← hb]
    refine ⟨fun c hc => ?_, ?_⟩
    · rcases textL_mem out c hc with rfl | rfl | ⟨p, hpm, h | h⟩
      · decide
      · decide
      · exact (hp p hpm).1.2 c h
      · exact (hp p hpm).2.2 c h
    · have := textL_len out fun p hpm => ⟨(hp p hpm).1.1, (hp p hpm).2.1⟩
      omega
end Go.Proofs.YtplfnblpmagbjabGreatDoor
