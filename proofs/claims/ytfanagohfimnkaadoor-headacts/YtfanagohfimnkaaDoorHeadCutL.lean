/- A head whose line was cut; rows of points as they lie: outside the walk. -/
import Derived.Test.YtfanagohfimnkaaDoorHeadLine
import Derived.Sort.EncStr
import Derived.Test.YtfanagohfimnkaaDoorRowsAt
namespace Go.Proofs.YtfanagohfimnkaaDoor
open Go.RowKit Go.Maps HeadMath LabMath PtMath

theorem HeadAt.cutline {w w' : World} {hb mb : Nat} {S : List Sr} {bl : List UInt8 → Nat} {sv : List UInt8 → Value} (h : HeadAt w hb mb S bl sv) (hS : S.Pairwise fun a b => a.key < b.key) {l : Sr} (hl : l ∈ S) {t : Int} {v2 : Value} (hk : Kept [bl l.key] w w') (hline : w'.heap[bl l.key]? = some (.cells #[v2, .int .i64 l.last] 103 (0, 0)))
    (hrow : w'.ownsRow w.heap.size 55 2 v2 (leftP t l.pts).length (pairCells (leftP t l.pts))) (hnil : leftP t l.pts = [] → v2 = .slice none 0 0) :
    HeadAt w' hb mb (S.map fun x => if x.key = l.key then cutl t x else x) bl (fun x => if x = l.key then v2 else sv x) ∧ ∀ x, x ∈ foot mb (S.map fun x => if x.key = l.key then cutl t x else x) bl (fun x => if x = l.key then v2 else sv x) → x ∈ foot mb S bl sv ∨ w.heap.size ≤ x := by
  have hmem : ∀ y, y ∈ (S.map fun x => if x.key = l.key then cutl t x else x) → (y ∈ S ∧ y.key ≠ l.key) ∨ y = cutl t l := fun y hy => by
    obtain ⟨x, hx, rfl⟩ := List.mem_map.1 hy
    by_cases e : x.key = l.key
    · have := uniq hS hx hl e
      subst this
      rw [if_pos rfl]
      exact .inr rfl
    · rw [if_neg e]
      exact .inl ⟨hx, e⟩
  have hl0 := h.line l hl
  have hold : ∀ b, b < w.heap.size → b ≠ bl l.key → w'.heap[b]? = w.heap[b]? := fun b h1 h2 => hk.block b h1 (by simpa using h2)
  obtain ⟨D, h1, h2, h3, h4⟩ := h.map
  have hkn : ∀ k, known (S.map fun x => if x.key = l.key then cutl t x else x) k = known S k := fun k => by
    have : ∀ x : Sr, (if x.key = l.key then cutl t x else x).key = x.key := fun x => by split <;> rfl
    simp only [known, List.any_map, Function.comp_def, this]
  have hown : ∀ g, v2.ownBlock = some g → w.heap.size ≤ g := fun g hg => (own_blk hrow hg).1
  refine ⟨⟨?_, ⟨D, ?_, by rw [List.length_map]; exact h2, fun k => by rw [hkn]; exact h3 k, fun y hy z => ?_⟩, fun y hy => ?_, fun y hy => ?_, fun x y hx hy e => ?_, fun x y hx hy e => ?_, fun y hy => ?_, fun y hy hp => ?_⟩, fun x hx => ?_⟩
  · rw [hold hb (blk_lt h.head) (cells_ne h.head hl0 (by decide))]
    exact h.head
  · rw [List.length_map]
    exact ownsMap_same h1 (hold mb h1.lt (fun e => h.ne_map hl0 e.symm))
  · rcases hmem y hy with ⟨hy', _⟩ | rfl
    · exact h4 y hy' z
    · exact h4 l hl z
  · rcases hmem y hy with ⟨hy', hne⟩ | rfl
    · rw [if_neg hne, hold _ (blk_lt (h.line y hy')) (fun e => hne (h.inj y l hy' hl e))]
      exact h.line y hy'
    · show w'.heap[bl l.key]? = some (.cells #[if l.key = l.key then v2 else _, .int .i64 l.last] 103 (0, 0))
      rw [if_pos rfl]
      exact hline
  · rcases hmem y hy with ⟨hy', hne⟩ | rfl
    · rw [if_neg hne]
      refine own_same (h.row y hy') fun g hg => ?_
      obtain ⟨_, hlt, cur, hc⟩ := own_blk (h.row y hy') hg
      exact hold g hlt (cells_ne hc hl0 (by decide))
    · show w'.ownsRow 0 55 2 (if l.key = l.key then v2 else _) (leftP t l.pts).length (pairCells (leftP t l.pts))
      rw [if_pos rfl]
      obtain ⟨q1, q2⟩ := hrow
      refine ⟨q1, ?_⟩
      rcases q2 with q2 | ⟨g, cap, cur, hv, _, rest⟩
      · exact .inl q2
      · exact .inr ⟨g, cap, cur, hv, Nat.zero_le _, rest⟩
  · have key : ∀ z, z ∈ (S.map fun x => if x.key = l.key then cutl t x else x) → ∃ y, y ∈ S ∧ y.key = z.key := fun z hz => by
      rcases hmem z hz with ⟨hz', _⟩ | rfl
      · exact ⟨z, hz', rfl⟩
      · exact ⟨l, hl, rfl⟩
    obtain ⟨x', hx', ex⟩ := key x hx
    obtain ⟨y', hy', ey⟩ := key y hy
    rw [← ex, ← ey] at e ⊢
    exact h.inj x' y' hx' hy' e
  · have hfar : ∀ z, z ∈ S → (sv z.key).ownBlock = none ∨ (sv z.key).ownBlock ≠ v2.ownBlock := fun z hz => by
      cases e1 : (sv z.key).ownBlock with
      | none => exact .inl rfl
      | some g =>
        refine .inr (fun e2 => ?_)
        have a1 := (own_blk (h.row z hz) e1).2.1
        have a2 := hown g e2.symm
        omega
    rcases hmem x hx with ⟨hx', hne⟩ | rfl
    · rcases hmem y hy with ⟨hy', hne'⟩ | rfl
      · rw [if_neg hne, if_neg hne']
        exact h.apart x y hx' hy' e
      · show (if x.key = l.key then v2 else sv x.key).ownBlock = none ∨ (if x.key = l.key then v2 else sv x.key).ownBlock ≠ (if l.key = l.key then v2 else _).ownBlock
        rw [if_neg hne, if_pos rfl]
        exact hfar x hx'
    · rcases hmem y hy with ⟨hy', hne'⟩ | rfl
      · show (if l.key = l.key then v2 else _).ownBlock = none ∨ (if l.key = l.key then v2 else _).ownBlock ≠ (if y.key = l.key then v2 else sv y.key).ownBlock
        rw [if_pos rfl, if_neg hne']
        cases e1 : v2.ownBlock with
        | none => exact .inl rfl
        | some g =>
          refine .inr (fun e2 => ?_)
          have a1 := (own_blk (h.row y hy') e2.symm).2.1
          have a2 := hown g e1
          omega
      · exact absurd rfl e
  · rcases hmem y hy with ⟨hy', _⟩ | rfl
    · exact h.len y hy'
    · exact h.len l hl
  · rcases hmem y hy with ⟨hy', hne⟩ | rfl
    · rw [if_neg hne]
      exact h.nil y hy' hp
    · show (if l.key = l.key then v2 else _) = _
      rw [if_pos rfl]
      exact hnil hp
  · rcases mem_foot hx with rfl | ⟨z, hz, rfl⟩ | ⟨z, hz, hg⟩
    · exact .inl (foot_map ..)
    · rcases hmem z hz with ⟨hz', _⟩ | rfl
      · exact .inl (foot_line hz')
      · exact .inl (show bl l.key ∈ foot mb S bl sv from foot_line hl)
    · rcases hmem z hz with ⟨hz', hne⟩ | rfl
      · rw [if_neg hne] at hg
        exact .inl (foot_row hz' hg)
      · have : (if l.key = l.key then v2 else sv l.key).ownBlock = some x := hg
        rw [if_pos rfl] at this
        exact .inr (hown x this)
/-- A row of one's own stays where a block of another kind turns. -/
theorem own_kept1 {w w' : World} {base : Nat} {e : TypeId} {sz : Nat} {v : Value} {n : Nat} {xs : List Value} (h : w.ownsRow base e sz v n xs) {lb : Nat} (hk : Kept [lb] w w') {cs : Array Value} {t : TypeId} {f : Nat × Nat} (hl : w.heap[lb]? = some (.cells cs t f)) (hne : e ≠ t) : w'.ownsRow base e sz v n xs :=
  own_same h fun g hg => by
    obtain ⟨_, hlt, cur, hc⟩ := own_blk h hg
    exact hk.block g hlt (by simpa using cells_ne hc hl hne)
theorem HeadAt.grown {w w' : World} {hb mb : Nat} {S : List Sr} {bl : List UInt8 → Nat} {sv : List UInt8 → Value} (h : HeadAt w hb mb S bl sv) {base : Nat} {r : Value} {m : Nat} {ys : List Value} (hr : w.ownsRow base 70 2 r m ys) (hg : w.grownBy w' r.ownBlock) : HeadAt w' hb mb S bl sv := by
  refine h.same fun b hb' => hg.block b (h.lt hb') (fun e1 => ?_)
  obtain ⟨_, _, cur, hc⟩ := own_blk hr e1.symm
  rcases hb' with rfl | hb'
  · exact cells_ne h.head hc (by decide) rfl
  · rcases mem_foot hb' with rfl | ⟨l, hl, rfl⟩ | ⟨l, hl, hgl⟩
    · exact h.ne_map hc rfl
    · exact cells_ne (h.line l hl) hc (by decide) rfl
    · obtain ⟨_, _, cur', hc'⟩ := own_blk (h.row l hl) hgl
      exact cells_ne hc' hc (by decide) rfl
end Go.Proofs.YtfanagohfimnkaaDoor
