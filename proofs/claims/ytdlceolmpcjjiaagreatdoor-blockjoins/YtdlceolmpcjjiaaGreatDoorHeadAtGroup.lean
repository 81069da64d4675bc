/- A head, as it lies in memory: the map of its lines, each line's points. -/
import Derived.Test.YtdlceolmpcjjiaaGreatDoorBitMathGroup
import Derived.Test.YtdlceolmpcjjiaaGreatDoorLabFaultGroup
import Derived.Test.YtdlceolmpcjjiaaGreatDoorPtListGroup
import Derived.Test.YtdlceolmpcjjiaaGreatDoorRows1Group
import Derived.Maps.OwnSet
import Derived.Maps.RangeWalk
import Derived.StringKeys
import Derived.Deep.QuietTactic
import Derived.BigQuiet
import Derived.Test.YtdlceolmpcjjiaaGreatDoorPtsOwn
import Derived.Test.YtdlceolmpcjjiaaGreatDoorRefReadGroup
namespace Go.Proofs.YtdlceolmpcjjiaaGreatDoor
open Go.RowKit Go.Maps HeadMath LabMath PtMath

/-- An element of a map, as it stands. -/
def heldE (v : Value) : Option (DataW Value × List MemPlace) := some (.held v, [])
theorem lawS : Keyed Tryz.prog 9 := string_keyed Tryz.underlying9
theorem ownsMap_same {w w' : World} {b n : Nat} {D : DataW Value} (h : w.ownsMap Tryz.prog 9 heldE b n D) (he : w'.heap[b]? = w.heap[b]?) : w'.ownsMap Tryz.prog 9 heldE b n D := by
  obtain ⟨es, clock, hb, rest⟩ := h
  exact ⟨es, clock, he.trans hb, rest⟩
theorem own_same {w w' : World} {base : Nat} {e : TypeId} {sz : Nat} {v : Value} {n : Nat} {xs : List Value} (h : w.ownsRow base e sz v n xs) (he : ∀ g, v.ownBlock = some g → w'.heap[g]? = w.heap[g]?) : w'.ownsRow base e sz v n xs := by
  obtain ⟨h1, h2⟩ := h
  refine ⟨h1, ?_⟩
  rcases h2 with h2 | ⟨g, cap, cur, hv, hg, hh, t⟩
  · exact .inl h2
  · exact .inr ⟨g, cap, cur, hv, hg, (he g (by rw [hv]; rfl)).trans hh, t⟩
theorem own_blk {w : World} {base : Nat} {e : TypeId} {sz : Nat} {v : Value} {n : Nat} {xs : List Value} (h : w.ownsRow base e sz v n xs) {g : Nat} (hg : v.ownBlock = some g) : base ≤ g ∧ g < w.heap.size ∧ ∃ cur, w.heap[g]? = some (.cells cur e (0, 0)) := by
  rcases h.2 with ⟨hv, _⟩ | ⟨g', cap, cur, hv, hg', hh, _⟩
  · rw [hv] at hg; cases hg
  · rw [hv] at hg
    simp [Value.ownBlock] at hg
    subst hg
    exact ⟨hg', blk_lt hh, cur, hh⟩
/-- The key of a text. -/
theorem key_of (s : ByteArray) (hs : s.size ≤ 1000) : keyOf Tryz.prog 9 (.string s) = some (.string s.data.toList) := Go.WideMaps.keyOf_string_mk Tryz.underlying9 (by unfold maxLen; omega)
theorem cells_ne {w : World} {a b : Nat} {cs ds : Array Value} {t u : TypeId} {f g : Nat × Nat} (ha : w.heap[a]? = some (.cells cs t f)) (hb : w.heap[b]? = some (.cells ds u g)) (hne : t ≠ u) : a ≠ b := fun e => by
  subst e
  rw [ha] at hb
  injection hb with hb
  injection hb with _ h2
  exact hne h2
end Go.Proofs.YtdlceolmpcjjiaaGreatDoor
/- head's refuses by its contract. -/
namespace Go.Proofs.YtdlceolmpcjjiaaGreatDoor
open Go.RowKit Go.Maps HeadMath LabMath PtMath

/-- The fault of a text as labels: its number and place. -/
noncomputable def readC (l : List UInt8) : Int := match scan l [] [] [] false with | none => 1 | some out => fC (nameAt out) (valueAt out) out.length
noncomputable def readA (l : List UInt8) : Int := match scan l [] [] [] false with | none => -1 | some out => fA (nameAt out) (valueAt out) out.length
theorem readC_nonneg (l : List UInt8) : 0 ≤ readC l := by
  unfold readC
  split
  · omega
  · exact (fC_cases _ _ _).1
/-- One name and one value are no fault. -/
theorem readC_one {l nm vl : List UInt8} (h : scan l [] [] [] false = some [(nm, vl)]) (h1 : isName (nameAt [(nm, vl)] 0) = true) (h2 : isWord (valueAt [(nm, vl)] 0) = true) : readC l = 0 := by
  unfold readC
  rw [h]
  refine fC_zero _ _ 1 (by omega) (by omega) fun i hi => ?_
  obtain rfl : i = 0 := by omega
  unfold labOk
  rw [h1, h2]
  rfl
theorem naK_read : readC [110, 61, 97] = 0 := readC_one (nm := [110]) (vl := [97]) (by decide) (by decide) (by decide)
end Go.Proofs.YtdlceolmpcjjiaaGreatDoor
/- Blocks in plain terms: the codes of rows and of series, blocks that are well, what is made of rows and what is read of blocks. -/
namespace Go.Proofs.YtdlceolmpcjjiaaGreatDoor
open Go.RowKit PtMath LabMath

/-- The chunk of points. -/
def chk (l : List (Int × Nat)) : List UInt8 := chunkBytes (tickAt l) (bitAt l) l.length
theorem tickAt_listOf (T : Nat → Int) (B : Nat → Nat) (n i : Nat) (h : i < n) : tickAt (listOf T B n) i = T i := by simp [tickAt, listOf, List.getD_eq_getElem?_getD, h]
theorem bitAt_listOf (T : Nat → Int) (B : Nat → Nat) (n i : Nat) (h : i < n) : bitAt (listOf T B n) i = B i := by simp [bitAt, listOf, List.getD_eq_getElem?_getD, h]
theorem chunkBytes_congr (T U : Nat → Int) (B C : Nat → Nat) (n : Nat) (hT : ∀ i, i < n → T i = U i) (hB : ∀ i, i < n → B i = C i) : chunkBytes T B n = chunkBytes U C n := by
  unfold chunkBytes
  rw [rowBits_congr T U B C n hT hB]
theorem chk_listOf (T : Nat → Int) (B : Nat → Nat) (n : Nat) : chk (listOf T B n) = chunkBytes T B n := by
  unfold chk
  rw [length_listOf]
  exact chunkBytes_congr _ _ _ _ _ (fun i hi => tickAt_listOf T B n i hi) (fun i hi => bitAt_listOf T B n i hi)
noncomputable def ptBad (l : List (Int × Nat)) : Nat := badAt (ptOk (tickAt l)) l.length
/-- The code of points. -/
noncomputable def ptsC (l : List (Int × Nat)) : Int := if 120 < l.length then 2 else if ptBad l < l.length then (if isTick (tickAt l (ptBad l)) = true then 8 else 2) else 0
theorem ptsC_zero {l : List (Int × Nat)} (h : ptsC l = 0) : l.length ≤ 120 ∧ ∀ i, i < l.length → ptOk (tickAt l) i = true := by
  unfold ptsC at h
  split at h
  · cases h
  · split at h
    · split at h <;> cases h
    · rename_i h1 h2
      obtain ⟨g, g1, _⟩ := badAt_spec (ptOk (tickAt l)) l.length
      refine ⟨by omega, fun i hi => g1 i ?_⟩
      unfold ptBad at h2
      omega
theorem ptsC_of {l : List (Int × Nat)} (h1 : l.length ≤ 120) (h2 : ∀ i, i < l.length → ptOk (tickAt l) i = true) : ptsC l = 0 := by
  have hb : ptBad l = l.length := badAt_is _ _ _ (Nat.le_refl _) h2 (fun h => absurd h (by omega))
  unfold ptsC
  rw [if_neg (by omega), hb, if_neg (by omega)]
theorem ptsC_nonneg (l : List (Int × Nat)) : 0 ≤ ptsC l := by
  unfold ptsC
  split
  · decide
  · split
    · split <;> decide
    · decide
/-- Values of 64 bits. -/
def BitsIn (l : List (Int × Nat)) : Prop := ∀ p, p ∈ l → p.2 < 18446744073709551616
theorem getD_mem {α : Type} (l : List α) (d : α) (i : Nat) (h : i < l.length) : l.getD i d ∈ l := by
  rw [List.getD_eq_getElem?_getD, List.getElem?_eq_getElem h]
  exact List.getElem_mem h
theorem bitAt_lt {l : List (Int × Nat)} (h : BitsIn l) (i : Nat) (hi : i < l.length) : bitAt l i < 18446744073709551616 := h _ (getD_mem l _ i hi)
theorem chk_is {l : List (Int × Nat)} (h : ptsC l = 0) (hb : BitsIn l) : IsChunk (chk l) :=
  ⟨l.length, tickAt l, bitAt l, (ptsC_zero h).1, (ptsC_zero h).2, bitAt_lt hb, rfl⟩
theorem chk_inj {l m : List (Int × Nat)} (hl : ptsC l = 0) (hm : ptsC m = 0) (bl : BitsIn l) (bm : BitsIn m) (h : chk l = chk m) : l = m := by
  obtain ⟨a1, a2⟩ := ptsC_zero hl
  obtain ⟨b1, b2⟩ := ptsC_zero hm
  obtain ⟨e, e1, e2⟩ := chunk_same _ _ _ _ _ _ a1 b1 a2 b2 (bitAt_lt bl) (bitAt_lt bm) h
  refine List.ext_getElem e fun i h1 h2 => ?_
  have t1 := e1 i h1
  have t2 := e2 i h1
  simp only [tickAt, bitAt, List.getD_eq_getElem?_getD, List.getElem?_eq_getElem h1, List.getElem?_eq_getElem h2, Option.getD_some] at t1 t2
  exact Prod.ext t1 t2
theorem chunk_list (c : List UInt8) (h : IsChunk c) : ∃ l : List (Int × Nat), ptsC l = 0 ∧ BitsIn l ∧ chk l = c := by
  obtain ⟨n, T, B, hn, hT, hB, e⟩ := h
  refine ⟨listOf T B n, ptsC_of (by rw [length_listOf]; exact hn) (fun i hi => ?_), fun p hp => ?_, (chk_listOf T B n).trans e.symm⟩
  · rw [length_listOf] at hi
    rw [ptOk_congr _ T n (fun j hj => tickAt_listOf T B n j hj) i hi]
    exact hT i hi
  · simp [listOf] at hp
    obtain ⟨i, hi, rfl⟩ := hp
    exact hB i hi
open Classical in
/-- The code of a chunk. -/
noncomputable def unC (c : List UInt8) : Int := if IsChunk c then 0 else if c.length < 5 then 1 else if BitMath.sealOf (c.take (c.length - 4)) = c then 1 else 9
open Classical in
/-- The points of a chunk. -/
noncomputable def unP (c : List UInt8) : List (Int × Nat) := if h : IsChunk c then (chunk_list c h).choose else []
theorem unP_spec {c : List UInt8} (h : IsChunk c) : ptsC (unP c) = 0 ∧ BitsIn (unP c) ∧ chk (unP c) = c := by
  unfold unP
  rw [dif_pos h]
  exact (chunk_list c h).choose_spec
theorem unP_chk {l : List (Int × Nat)} (h : ptsC l = 0) (hb : BitsIn l) : unP (chk l) = l := by
  obtain ⟨h1, h2, h3⟩ := unP_spec (chk_is h hb)
  exact chk_inj h1 h h2 hb h3
theorem unC_zero {c : List UInt8} : unC c = 0 ↔ IsChunk c := by
  unfold unC
  constructor
  · intro h
    split at h
    · assumption
    · split at h
      · cases h
      · split at h <;> cases h
  · intro h
    rw [if_pos h]
theorem unC_not {c : List UInt8} (h : ¬ IsChunk c) : unC c = (if c.length < 5 then 1 else if BitMath.sealOf (c.take (c.length - 4)) = c then 1 else 9) := by
  unfold unC
  rw [if_neg h]
theorem unC_nonneg (c : List UInt8) : 0 ≤ unC c := by
  unfold unC
  split
  · decide
  · split
    · decide
    · split <;> decide
theorem readC_empty : readC [] ≠ 0 := by
  unfold readC
  simp [scan]
theorem lt_nil_of {n : List UInt8} (h : readC n = 0) : ([] : List UInt8) < n := by
  cases n with
  | nil => exact absurd h readC_empty
  | cons a r => exact List.nil_lt_cons ..
/-- The code of a name behind another one. -/
noncomputable def nameC (ahead name : List UInt8) : Int := if readC name ≠ 0 then readC name else if ahead < name then 0 else 3
theorem nameC_nonneg (a n : List UInt8) : 0 ≤ nameC a n := by
  unfold nameC
  split
  · exact readC_nonneg n
  · split <;> decide
theorem nameC_zero {a n : List UInt8} (h : nameC a n = 0) : readC n = 0 ∧ a < n := by
  unfold nameC at h
  split at h
  · rename_i h1; exact absurd h h1
  · rename_i h1
    split at h
    · rename_i h2; exact ⟨Decidable.not_not.1 h1, h2⟩
    · cases h
/-- The code of a series with its chunk. -/
noncomputable def serC (f s : Int) (ahead name c : List UInt8) : Int := if nameC ahead name ≠ 0 then nameC ahead name else if unC c ≠ 0 then unC c else if unP c = [] then 5 else if insB f s (unP c) = true then 0 else 2
/-- The code of a row. -/
noncomputable def rowC (f s : Int) (ahead name : List UInt8) (l : List (Int × Nat)) : Int := if nameC ahead name ≠ 0 then nameC ahead name else if ptsC l ≠ 0 then ptsC l else if insB f s l = true then 0 else 2
theorem serC_nonneg (f s : Int) (a n c : List UInt8) : 0 ≤ serC f s a n c := by
  unfold serC
  split
  · exact nameC_nonneg a n
  · split
    · exact unC_nonneg c
    · split
      · decide
      · split <;> decide
theorem rowC_nonneg (f s : Int) (a n : List UInt8) (l : List (Int × Nat)) : 0 ≤ rowC f s a n l := by
  unfold rowC
  split
  · exact nameC_nonneg a n
  · split
    · exact ptsC_nonneg l
    · split <;> decide
theorem serC_zero {f s : Int} {a n c : List UInt8} (h : serC f s a n c = 0) : readC n = 0 ∧ a < n ∧ IsChunk c ∧ unP c ≠ [] ∧ insB f s (unP c) = true := by
  unfold serC at h
  split at h
  · rename_i h1; exact absurd h h1
  · rename_i h1
    split at h
    · rename_i h2; exact absurd h h2
    · rename_i h2
      split at h
      · cases h
      · rename_i h3
        split at h
        · rename_i h4
          exact ⟨(nameC_zero (Decidable.not_not.1 h1)).1, (nameC_zero (Decidable.not_not.1 h1)).2, unC_zero.1 (Decidable.not_not.1 h2), h3, h4⟩
        · cases h
theorem serC_of {f s : Int} {a n c : List UInt8} (h1 : readC n = 0) (h2 : a < n) (h3 : IsChunk c) (h4 : unP c ≠ []) (h5 : insB f s (unP c) = true) : serC f s a n c = 0 := by
  have hn : nameC a n = 0 := by unfold nameC; rw [if_neg (by rw [h1]; decide), if_pos h2]
  unfold serC
  rw [if_neg (by rw [hn]; decide), if_neg (by rw [unC_zero.2 h3]; decide), if_neg h4, if_pos h5]
theorem rowC_zero {f s : Int} {a n : List UInt8} {l : List (Int × Nat)} (h : rowC f s a n l = 0) : readC n = 0 ∧ a < n ∧ ptsC l = 0 ∧ insB f s l = true := by
  unfold rowC at h
  split at h
  · rename_i h1; exact absurd h h1
  · rename_i h1
    split at h
    · rename_i h2; exact absurd h h2
    · rename_i h2
      split at h
      · rename_i h4
        exact ⟨(nameC_zero (Decidable.not_not.1 h1)).1, (nameC_zero (Decidable.not_not.1 h1)).2, Decidable.not_not.1 h2, h4⟩
      · cases h
theorem rowC_of {f s : Int} {a n : List UInt8} {l : List (Int × Nat)} (h1 : readC n = 0) (h2 : a < n) (h3 : ptsC l = 0) (h5 : insB f s l = true) : rowC f s a n l = 0 := by
  have hn : nameC a n = 0 := by unfold nameC; rw [if_neg (by rw [h1]; decide), if_pos h2]
  unfold rowC
  rw [if_neg (by rw [hn]; decide), if_neg (by rw [h3]; decide), if_pos h5]
/-- The one ahead. -/
def prev (ss : List (List UInt8)) (i : Nat) : List UInt8 := if i = 0 then [] else ss.getD (i - 1) []
noncomputable def serAt (f s : Int) (ss cs : List (List UInt8)) (i : Nat) : Int := serC f s (prev ss i) (ss.getD i []) (cs.getD i [])
noncomputable def rowAt (f s : Int) (rows : List (List UInt8 × List (Int × Nat))) (i : Nat) : Int := rowC f s (prev (rows.map Prod.fst) i) ((rows.map Prod.fst).getD i []) ((rows.map Prod.snd).getD i [])
noncomputable def bkBad (f s : Int) (ss cs : List (List UInt8)) : Nat := badAt (fun i => decide (serAt f s ss cs i = 0)) ss.length
noncomputable def mkBad (f s : Int) (rows : List (List UInt8 × List (Int × Nat))) : Nat := badAt (fun i => decide (rowAt f s rows i = 0)) rows.length
/-- The code and the place of a block's fault. -/
noncomputable def bkC (f s : Int) (ss cs : List (List UInt8)) : Int := if bdE f s ≠ 0 ∨ 60 < ss.length then 2 else if cs.length ≠ ss.length then 3 else if bkBad f s ss cs < ss.length then serAt f s ss cs (bkBad f s ss cs) else 0
noncomputable def bkA (f s : Int) (ss cs : List (List UInt8)) : Int := if bdE f s ≠ 0 ∨ 60 < ss.length then -1 else if cs.length ≠ ss.length then -1 else if bkBad f s ss cs < ss.length then (bkBad f s ss cs : Int) else -1
/-- The code and the place of rows' fault. -/
noncomputable def mkC (f s : Int) (rows : List (List UInt8 × List (Int × Nat))) : Int := if bdE f s ≠ 0 ∨ 60 < rows.length then 2 else if mkBad f s rows < rows.length then rowAt f s rows (mkBad f s rows) else 0
noncomputable def mkA (f s : Int) (rows : List (List UInt8 × List (Int × Nat))) : Int := if bdE f s ≠ 0 ∨ 60 < rows.length then -1 else if mkBad f s rows < rows.length then (mkBad f s rows : Int) else -1
theorem bk_bound {f s : Int} {ss cs : List (List UInt8)} (h : bdE f s ≠ 0 ∨ 60 < ss.length) : bkC f s ss cs = 2 ∧ bkA f s ss cs = -1 := by
  unfold bkC bkA; rw [if_pos h, if_pos h]; exact ⟨rfl, rfl⟩
theorem bk_shape {f s : Int} {ss cs : List (List UInt8)} (h : ¬ (bdE f s ≠ 0 ∨ 60 < ss.length)) (h2 : cs.length ≠ ss.length) : bkC f s ss cs = 3 ∧ bkA f s ss cs = -1 := by
  unfold bkC bkA; rw [if_neg h, if_neg h, if_pos h2, if_pos h2]; exact ⟨rfl, rfl⟩
theorem bk_at {f s : Int} {ss cs : List (List UInt8)} (h : ¬ (bdE f s ≠ 0 ∨ 60 < ss.length)) (h2 : cs.length = ss.length) {k : Nat} (hk : k < ss.length) (h3 : ∀ j, j < k → serAt f s ss cs j = 0) (h4 : serAt f s ss cs k ≠ 0) : bkC f s ss cs = serAt f s ss cs k ∧ bkA f s ss cs = k := by
  have hb : bkBad f s ss cs = k := badAt_is _ _ _ (by omega) (fun j hj => by simp [h3 j hj]) (fun _ => by simp [h4])
  have h2' : ¬ (cs.length ≠ ss.length) := fun e => e h2
  unfold bkC bkA
  rw [if_neg h, if_neg h, if_neg h2', if_neg h2', hb, if_pos hk, if_pos hk]
  exact ⟨rfl, rfl⟩
theorem bk_good {f s : Int} {ss cs : List (List UInt8)} (h : ¬ (bdE f s ≠ 0 ∨ 60 < ss.length)) (h2 : cs.length = ss.length) (h3 : ∀ j, j < ss.length → serAt f s ss cs j = 0) : bkC f s ss cs = 0 ∧ bkA f s ss cs = -1 := by
  have hb : bkBad f s ss cs = ss.length := badAt_is _ _ _ (Nat.le_refl _) (fun j hj => by simp [h3 j hj]) (fun e => absurd e (by omega))
  have h2' : ¬ (cs.length ≠ ss.length) := fun e => e h2
  unfold bkC bkA
  rw [if_neg h, if_neg h, if_neg h2', if_neg h2', hb, if_neg (by omega), if_neg (by omega)]
  exact ⟨rfl, rfl⟩
theorem bk_zero {f s : Int} {ss cs : List (List UInt8)} (h : bkC f s ss cs = 0) : bdE f s = 0 ∧ ss.length ≤ 60 ∧ cs.length = ss.length ∧ ∀ j, j < ss.length → serAt f s ss cs j = 0 := by
  unfold bkC at h
  split at h
  · cases h
  · rename_i h1
    split at h
    · cases h
    · rename_i h2
      obtain ⟨g, g1, g2⟩ := badAt_spec (fun i => decide (serAt f s ss cs i = 0)) ss.length
      split at h
      · rename_i h3
        have := g2 h3
        rw [decide_eq_false_iff_not] at this
        exact absurd h this
      · rename_i h3
        refine ⟨Decidable.not_not.1 fun e => h1 (.inl e), by omega, Decidable.not_not.1 h2, fun j hj => ?_⟩
        have := g1 j (by unfold bkBad at h3; omega)
        simpa using this
theorem mk_bound {f s : Int} {rows : List (List UInt8 × List (Int × Nat))} (h : bdE f s ≠ 0 ∨ 60 < rows.length) : mkC f s rows = 2 ∧ mkA f s rows = -1 := by
  unfold mkC mkA; rw [if_pos h, if_pos h]; exact ⟨rfl, rfl⟩
theorem mk_at {f s : Int} {rows : List (List UInt8 × List (Int × Nat))} (h : ¬ (bdE f s ≠ 0 ∨ 60 < rows.length)) {k : Nat} (hk : k < rows.length) (h3 : ∀ j, j < k → rowAt f s rows j = 0) (h4 : rowAt f s rows k ≠ 0) : mkC f s rows = rowAt f s rows k ∧ mkA f s rows = k := by
  have hb : mkBad f s rows = k := badAt_is _ _ _ (by omega) (fun j hj => by simp [h3 j hj]) (fun _ => by simp [h4])
  unfold mkC mkA
  rw [if_neg h, if_neg h, hb, if_pos hk, if_pos hk]
  exact ⟨rfl, rfl⟩
theorem mk_good {f s : Int} {rows : List (List UInt8 × List (Int × Nat))} (h : ¬ (bdE f s ≠ 0 ∨ 60 < rows.length)) (h3 : ∀ j, j < rows.length → rowAt f s rows j = 0) : mkC f s rows = 0 ∧ mkA f s rows = -1 := by
  have hb : mkBad f s rows = rows.length := badAt_is _ _ _ (Nat.le_refl _) (fun j hj => by simp [h3 j hj]) (fun e => absurd e (by omega))
  unfold mkC mkA
  rw [if_neg h, if_neg h, hb, if_neg (by omega), if_neg (by omega)]
  exact ⟨rfl, rfl⟩
theorem mk_zero {f s : Int} {rows : List (List UInt8 × List (Int × Nat))} (h : mkC f s rows = 0) : bdE f s = 0 ∧ rows.length ≤ 60 ∧ ∀ j, j < rows.length → rowAt f s rows j = 0 := by
  unfold mkC at h
  split at h
  · cases h
  · rename_i h1
    obtain ⟨g, g1, g2⟩ := badAt_spec (fun i => decide (rowAt f s rows i = 0)) rows.length
    split at h
    · rename_i h3
      have := g2 h3
      rw [decide_eq_false_iff_not] at this
      exact absurd h this
    · rename_i h3
      refine ⟨Decidable.not_not.1 fun e => h1 (.inl e), by omega, fun j hj => ?_⟩
      have := g1 j (by unfold mkBad at h3; omega)
      simpa using this
theorem up_of_prev {ss : List (List UInt8)} (h : ∀ i, i < ss.length → prev ss i < ss.getD i []) : ss.Pairwise (· < ·) := by
  rw [List.pairwise_iff_getElem]
  have step : ∀ d i, (hd : i + d + 1 < ss.length) → ss[i]'(by omega) < ss[i + d + 1] := by
    intro d
    induction d with
    | zero =>
      intro i hd
      have := h (i + 1) hd
      simp only [prev, Nat.add_sub_cancel, List.getD_eq_getElem?_getD] at this
      rw [if_neg (by omega), List.getElem?_eq_getElem (by omega), List.getElem?_eq_getElem (by omega)] at this
      exact this
    | succ d ih =>
      intro i hd
      have h1 := ih i (by omega)
      have := h (i + (d + 1) + 1) hd
      simp only [prev, Nat.add_sub_cancel, List.getD_eq_getElem?_getD] at this
      rw [if_neg (by omega), List.getElem?_eq_getElem (by omega), List.getElem?_eq_getElem (by omega)] at this
      exact List.lt_trans h1 this
  intro i j hi hj hij
  have := step (j - i - 1) i (by omega)
  have e : i + (j - i - 1) + 1 = j := by omega
  simp only [e] at this
  exact this
theorem prev_of_up {ss : List (List UInt8)} (h : ss.Pairwise (· < ·)) (h0 : ∀ x, x ∈ ss → readC x = 0) : ∀ i, i < ss.length → prev ss i < ss.getD i [] := by
  intro i hi
  unfold prev
  split
  · exact lt_nil_of (h0 _ (getD_mem ss _ i hi))
  · rw [List.getD_eq_getElem?_getD, List.getD_eq_getElem?_getD, List.getElem?_eq_getElem (by omega), List.getElem?_eq_getElem hi]
    exact List.pairwise_iff_getElem.1 h (i - 1) i (by omega) hi (by omega)
/-- Rows that are well. -/
structure WellR (f s : Int) (rows : List (List UInt8 × List (Int × Nat))) : Prop where
  bd : bdE f s = 0
  len : rows.length ≤ 60
  up : (rows.map Prod.fst).Pairwise (· < ·)
  each : ∀ r, r ∈ rows → readC r.1 = 0 ∧ ptsC r.2 = 0 ∧ insB f s r.2 = true
theorem row_get {rows : List (List UInt8 × List (Int × Nat))} {i : Nat} (hi : i < rows.length) : (rows.map Prod.fst).getD i [] = rows[i].1 ∧ (rows.map Prod.snd).getD i [] = rows[i].2 := by
  simp [List.getD_eq_getElem?_getD, hi]
theorem mk_well {f s : Int} {rows : List (List UInt8 × List (Int × Nat))} (h : mkC f s rows = 0) : WellR f s rows := by
  obtain ⟨h1, h2, h3⟩ := mk_zero h
  refine ⟨h1, h2, up_of_prev fun i hi => (rowC_zero (h3 i (by simpa using hi))).2.1, fun r hr => ?_⟩
  obtain ⟨i, hi, rfl⟩ := List.getElem_of_mem hr
  obtain ⟨a, _, b, c⟩ := rowC_zero (h3 i hi)
  rw [(row_get hi).1] at a
  rw [(row_get hi).2] at b c
  exact ⟨a, b, c⟩
theorem well_mk {f s : Int} {rows : List (List UInt8 × List (Int × Nat))} (h : WellR f s rows) : mkC f s rows = 0 ∧ mkA f s rows = -1 := by
  refine mk_good (fun e => e.elim (fun e => e h.bd) (fun e => by have := h.len; omega)) fun j hj => ?_
  have hm := h.each _ (List.getElem_mem hj)
  refine rowC_of ?_ (prev_of_up h.up (fun x hx => ?_) j (by simpa using hj)) ?_ ?_
  · rw [(row_get hj).1]; exact hm.1
  · obtain ⟨r, hr, rfl⟩ := List.mem_map.1 hx
    exact (h.each r hr).1
  · rw [(row_get hj).2]; exact hm.2.1
  · rw [(row_get hj).2]; exact hm.2.2
/-- The rows of a block. -/
noncomputable def rowsOf (ss cs : List (List UInt8)) : List (List UInt8 × List (Int × Nat)) := ss.zip (cs.map unP)
theorem rowsOf_len {ss cs : List (List UInt8)} (h : cs.length = ss.length) : (rowsOf ss cs).length = ss.length := by simp [rowsOf, h]
theorem rowsOf_fst {ss cs : List (List UInt8)} (h : cs.length = ss.length) : (rowsOf ss cs).map Prod.fst = ss := by
  unfold rowsOf
  rw [List.map_fst_zip]
  simp [h]
theorem bk_well {f s : Int} {ss cs : List (List UInt8)} (h : bkC f s ss cs = 0) : cs.length = ss.length ∧ WellR f s (rowsOf ss cs) ∧ (∀ r, r ∈ rowsOf ss cs → r.2 ≠ [] ∧ BitsIn r.2) ∧ (rowsOf ss cs).map (fun r => chk r.2) = cs := by
  obtain ⟨h1, h2, h3, h4⟩ := bk_zero h
  have hl := rowsOf_len h3
  have hat : ∀ i (hi : i < (rowsOf ss cs).length), (rowsOf ss cs)[i].1 = ss.getD i [] ∧ (rowsOf ss cs)[i].2 = unP (cs.getD i []) := fun i hi => by
    rw [hl] at hi
    have hi2 : i < cs.length := by omega
    constructor <;> simp [rowsOf, List.getD_eq_getElem?_getD, hi, hi2]
  have hz : ∀ i (hi : i < (rowsOf ss cs).length), _ := fun i hi => serC_zero (h4 i (by omega))
  refine ⟨h3, ⟨h1, by omega, by rw [rowsOf_fst h3]; exact up_of_prev fun i hi => (serC_zero (h4 i hi)).2.1, fun r hr => ?_⟩, fun r hr => ?_, ?_⟩
  · obtain ⟨i, hi, rfl⟩ := List.getElem_of_mem hr
    rw [(hat i hi).1, (hat i hi).2]
    exact ⟨(hz i hi).1, (unP_spec (hz i hi).2.2.1).1, (hz i hi).2.2.2.2⟩
  · obtain ⟨i, hi, rfl⟩ := List.getElem_of_mem hr
    rw [(hat i hi).2]
    exact ⟨(hz i hi).2.2.2.1, (unP_spec (hz i hi).2.2.1).2.1⟩
  · refine List.ext_getElem (by simp [hl, h3]) fun i h5 h6 => ?_
    have hi : i < (rowsOf ss cs).length := by simpa using h5
    rw [List.getElem_map, (hat i hi).2, (unP_spec (hz i hi).2.2.1).2.2]
    simp [List.getD_eq_getElem?_getD, h6]
theorem well_bk {f s : Int} {rows : List (List UInt8 × List (Int × Nat))} (h : WellR f s rows) (h0 : ∀ r, r ∈ rows → r.2 ≠ [] ∧ BitsIn r.2) : bkC f s (rows.map Prod.fst) (rows.map fun r => chk r.2) = 0 ∧ bkA f s (rows.map Prod.fst) (rows.map fun r => chk r.2) = -1 ∧ rowsOf (rows.map Prod.fst) (rows.map fun r => chk r.2) = rows := by
  have hun : ∀ r, r ∈ rows → IsChunk (chk r.2) ∧ unP (chk r.2) = r.2 := fun r hr => ⟨chk_is (h.each r hr).2.1 (h0 r hr).2, unP_chk (h.each r hr).2.1 (h0 r hr).2⟩
  have hg := bk_good (f := f) (s := s) (ss := rows.map Prod.fst) (cs := rows.map fun r => chk r.2) (fun e => e.elim (fun e => e h.bd) (fun e => by have := h.len; simp at e; omega)) (by simp) fun j hj => by
    have hj' : j < rows.length := by simpa using hj
    have hm := List.getElem_mem hj'
    have e2 : (rows.map fun r => chk r.2).getD j [] = chk rows[j].2 := by simp [List.getD_eq_getElem?_getD, hj']
    refine serC_of ?_ (prev_of_up h.up (fun x hx => ?_) j hj) ?_ ?_ ?_
    · rw [(row_get hj').1]; exact (h.each _ hm).1
    · obtain ⟨r, hr, rfl⟩ := List.mem_map.1 hx
      exact (h.each r hr).1
    · rw [e2]; exact (hun _ hm).1
    · rw [e2, (hun _ hm).2]; exact (h0 _ hm).1
    · rw [e2, (hun _ hm).2]; exact (h.each _ hm).2.2
  refine ⟨hg.1, hg.2, ?_⟩
  refine List.ext_getElem (by simp [rowsOf]) fun i h5 h6 => ?_
  have := (hun _ (List.getElem_mem h6)).2
  simp [rowsOf, this]
/-- The rows that have points. -/
def full (rows : List (List UInt8 × List (Int × Nat))) : List (List UInt8 × List (Int × Nat)) := rows.filter fun r => decide (0 < r.2.length)
theorem full_mem {rows : List (List UInt8 × List (Int × Nat))} {r : List UInt8 × List (Int × Nat)} (h : r ∈ full rows) : r ∈ rows ∧ r.2 ≠ [] := by
  simp [full] at h
  exact ⟨h.1, fun e => by rw [e] at h; simp at h⟩
theorem WellR.full {f s : Int} {rows : List (List UInt8 × List (Int × Nat))} (h : WellR f s rows) : WellR f s (full rows) :=
  ⟨h.bd, Nat.le_trans (List.length_filter_le ..) h.len, h.up.sublist (List.filter_sublist.map _), fun r hr => h.each r (full_mem hr).1⟩
theorem full_full {rows : List (List UInt8 × List (Int × Nat))} (h : ∀ r, r ∈ rows → r.2 ≠ []) : full rows = rows := by
  unfold full
  rw [List.filter_eq_self]
  intro r hr
  simp [List.length_pos_iff, h r hr]
theorem full_snoc (rows : List (List UInt8 × List (Int × Nat))) (r : List UInt8 × List (Int × Nat)) : full (rows ++ [r]) = if 0 < r.2.length then full rows ++ [r] else full rows := by
  unfold full
  rw [List.filter_append]
  split <;> simp_all
end Go.Proofs.YtdlceolmpcjjiaaGreatDoor
/- What a right series' text is like: short, and with no '@'. -/
namespace Go.Proofs.YtdlceolmpcjjiaaGreatDoor
open Go.RowKit LabMath

theorem textL_len : ∀ out : List (List UInt8 × List UInt8), (∀ p, p ∈ out → p.1.length ≤ 12 ∧ p.2.length ≤ 12) → (textL out).length ≤ 26 * out.length
  | [], _ => by simp [textL]
  | [p], h => by
    have := h p (by simp)
    simp [textL]
    omega
  | p :: q :: r, h => by
    have h1 := h p (by simp)
    have h2 := textL_len (q :: r) fun x hx => h x (by simp [hx])
    simp [textL] at h2 ⊢
    omega
theorem textL_mem : ∀ (out : List (List UInt8 × List UInt8)) (c : UInt8), c ∈ textL out → c = 44 ∨ c = 61 ∨ ∃ p, p ∈ out ∧ (c ∈ p.1 ∨ c ∈ p.2)
  | [], c, h => by simp [textL] at h
  | [p], c, h => by
    simp [textL] at h
    rcases h with h | h | h
    · exact .inr (.inr ⟨p, by simp, .inl h⟩)
    · exact .inr (.inl h)
    · exact .inr (.inr ⟨p, by simp, .inr h⟩)
  | p :: q :: r, c, h => by
    have ih := textL_mem (q :: r) c
    rw [textL] at h
    simp only [List.mem_append, List.mem_cons] at h
    have hih : c ∈ textL (q :: r) → c = 44 ∨ c = 61 ∨ ∃ p', p' ∈ p :: q :: r ∧ (c ∈ p'.1 ∨ c ∈ p'.2) := fun h => by
      rcases ih h with h | h | ⟨x, hx, h⟩
      · exact .inl h
      · exact .inr (.inl h)
      · exact .inr (.inr ⟨x, List.mem_cons_of_mem _ hx, h⟩)
    rcases h with (h | h | h) | h | h
    · exact .inr (.inr ⟨p, by simp, .inl h⟩)
    · exact .inr (.inl h)
    · exact .inr (.inr ⟨p, by simp, .inr h⟩)
    · exact .inl h
    · exact hih h
theorem word_is {s : ByteArray} (h : isWord s = true) : s.data.toList.length ≤ 12 ∧ ∀ c, c ∈ s.data.toList → c ≠ 64 := by
  unfold isWord at h
  rw [Bool.and_eq_true, List.all_eq_true, decide_eq_true_eq] at h
  refine ⟨h.2.2, fun c hc => ?_⟩
  have := h.1 c hc
  rintro rfl
  revert this
  decide
theorem lab_is (s : List UInt8) (h : readC s = 0) : (∀ c, c ∈ s → c ≠ 64) ∧ s.length ≤ 1000 := by
  unfold readC at h
  cases hs : scan s [] [] [] false with
  | none => rw [hs] at h; cases h
  | some out =>
    rw [hs] at h
    dsimp only at h
    obtain ⟨h1, h6, _, hall⟩ := (fC_cases _ _ _).2 h
    have hb := scan_back s out hs
    have hp : ∀ p, p ∈ out → (p.1.length ≤ 12 ∧ ∀ c, c ∈ p.1 → c ≠ 64) ∧ (p.2.length ≤ 12 ∧ ∀ c, c ∈ p.2 → c ≠ 64) := fun p hp => by
      obtain ⟨i, hi, rfl⟩ := List.mem_iff_getElem.1 hp
      have hk := hall i hi
      unfold labOk at hk
      rw [Bool.and_eq_true, Bool.and_eq_true] at hk
      have hn : isWord (nameAt out i) = true := by
        have := hk.1.1
        unfold isName at this
        rw [Bool.and_eq_true] at this
        exact this.1
      have e1 : (nameAt out i).data.toList = (out[i]).1 := by simp [nameAt, txt, hi]
      have e2 : (valueAt out i).data.toList = (out[i]).2 := by simp [valueAt, txt, hi]
      have w1 := word_is hn
      have w2 := word_is hk.1.2
      rw [e1] at w1
      rw [e2] at w2
      exact ⟨w1, w2⟩
    rw [← hb]
    refine ⟨fun c hc => ?_, ?_⟩
    · rcases textL_mem out c hc with rfl | rfl | ⟨p, hpm, h | h⟩
      · decide
      · decide
      · exact (hp p hpm).1.2 c h
      · exact (hp p hpm).2.2 c h
    · have := textL_len out fun p hpm => ⟨(hp p hpm).1.1, (hp p hpm).2.1⟩
      omega
end Go.Proofs.YtdlceolmpcjjiaaGreatDoor
