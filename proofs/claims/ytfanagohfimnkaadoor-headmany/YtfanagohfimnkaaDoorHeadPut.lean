/- A head with a series more, with a point more: outside the walk. -/
import Derived.Test.YtfanagohfimnkaaDoorHeadAt
namespace Go.Proofs.YtfanagohfimnkaaDoor
open Go.RowKit Go.Maps HeadMath LabMath PtMath

theorem HeadAt.ne_map {w : World} {hb mb : Nat} {S : List Sr} {bl : List UInt8 → Nat} {sv : List UInt8 → Value} (h : HeadAt w hb mb S bl sv) {b : Nat} {cs : Array Value} {t : TypeId} {f : Nat × Nat} (hx : w.heap[b]? = some (.cells cs t f)) : b ≠ mb := fun e => by
  obtain ⟨D, ⟨es, clock, hm, _⟩, _⟩ := h.map
  subst e
  rw [hm] at hx
  cases hx
/-- A line without points. -/
abbrev lineO : Obj := .cells #[.slice none 0 0, .int .i64 0] 103
theorem HeadAt.fresh {w : World} {hb mb : Nat} {S : List Sr} {bl : List UInt8 → Nat} {sv : List UInt8 → Value} (h : HeadAt w hb mb S bl sv) (s : ByteArray) (hs : s.size ≤ 1000) (hn : S.length ≤ 1000) (hk : known S s.data.toList = false) :
    ∃ w2, (Instr.mapUpdate 98 (.map (some mb)) (.string s) (.pointer (some ⟨w.heap.size, 0, none⟩))).run Tryd.prog (w.alloc lineO) = .ok () w2 ∧
      HeadAt w2 hb mb (insE S s.data.toList) (fun x => if x = s.data.toList then w.heap.size else bl x) (fun x => if x = s.data.toList then .slice none 0 0 else sv x) ∧
      Kept [mb] w w2 ∧ w.heap.size < w2.heap.size := by
  obtain ⟨D, h1, h2, h3, h4⟩ := h.map
  have hmb := h1.lt
  obtain ⟨w2, hrun, hown, hgrow⟩ := (h1.alloc lineO).update lawS Tryd.underlying98 (show S.length < maxLen by unfold maxLen; omega) (key_of s hs) (val := .pointer (some ⟨w.heap.size, 0, none⟩)) (d := .held (.pointer (some ⟨w.heap.size, 0, none⟩))) (ps := []) rfl
  have hnew : (w.alloc lineO).heap[w.heap.size]? = some lineO := heap_alloc_new _ _
  have hold : ∀ b, b < w.heap.size → b ≠ mb → w2.heap[b]? = w.heap[b]? := fun b hlt hne => (hgrow.block b (by simp; omega) (fun e => hne (by injection e))).trans (Below.heap_alloc _ _ _ hlt)
  have hnew2 : w2.heap[w.heap.size]? = some lineO := (hgrow.block _ (by simp) (fun e => by injection e with e; omega)).trans hnew
  have hsz : w.heap.size < w2.heap.size := blk_lt hnew2
  have hnk : ∀ l, l ∈ S → l.key ≠ s.data.toList := fun l hl e => by rw [known_iff.2 ⟨l, hl, e⟩] at hk; cases hk
  have hnh : Maps.has D (.string s.data.toList) = false := by rw [h3, hk]
  have hkey : WideAt.IsKeyLit (.string s.data.toList) := lawS.key (key_of s hs)
  have hne : ∀ k j : List UInt8, k ≠ j → (Lit.string k) ≠ .string j := fun k j e h => by injection h with h; exact e h
  refine ⟨w2, hrun, ⟨(hold hb (blk_lt h.head) (h.ne_map h.head)).trans h.head, ⟨D.put (.string s.data.toList) (.held (.pointer (some ⟨w.heap.size, 0, none⟩))), by rw [length_insE]; exact hown, ?_, fun k => ?_, fun l hl z => ?_⟩, fun l hl => ?_, fun l hl => ?_, fun l m hl hm e => ?_, fun l m hl hm e => ?_, fun l hl => ?_, fun l hl hp => ?_⟩, ⟨hgrow.os, hgrow.tape, hgrow.output, by omega, fun b hlt hb' => hold b hlt (fun e => hb' (by simp [e]))⟩, hsz⟩
  · rw [size_put (h1.tidy lawS), hnh, length_insE, h2]
    rfl
  · rw [known_insE]
    by_cases e : s.data.toList = k
    · subst e
      rw [has_put_same h1.isMap hkey]
      simp
    · rw [has_put_other (hne _ _ (fun x => e x.symm)), h3]
      simp [e]
  · rcases mem_insE.1 hl with hl' | rfl
    · rw [if_neg (hnk l hl'), atKey_put_other (hne _ _ (hnk l hl')), h4 l hl']
    · rw [if_pos rfl]
      exact atKey_put_same h1.isMap hkey _ _
  · rcases mem_insE.1 hl with hl' | rfl
    · rw [if_neg (hnk l hl'), if_neg (hnk l hl'), hold _ (blk_lt (h.line l hl')) (h.ne_map (h.line l hl'))]
      exact h.line l hl'
    · rw [if_pos rfl, if_pos rfl]
      exact hnew2
  · rcases mem_insE.1 hl with hl' | rfl
    · rw [if_neg (hnk l hl')]
      refine own_same (h.row l hl') fun g hg => ?_
      obtain ⟨_, hlt, cur, hc⟩ := own_blk (h.row l hl') hg
      exact hold g hlt (h.ne_map hc)
    · rw [if_pos rfl]
      exact ⟨rfl, .inl ⟨rfl, rfl⟩⟩
  · rcases mem_insE.1 hl with hl' | rfl
    · rcases mem_insE.1 hm with hm' | rfl
      · rw [if_neg (hnk l hl'), if_neg (hnk m hm')] at e
        exact h.inj l m hl' hm' e
      · rw [if_neg (hnk l hl'), if_pos rfl] at e
        exact absurd (blk_lt (h.line l hl')) (by omega)
    · rcases mem_insE.1 hm with hm' | rfl
      · rw [if_neg (hnk m hm'), if_pos rfl] at e
        exact absurd (blk_lt (h.line m hm')) (by omega)
      · rfl
  · rcases mem_insE.1 hl with hl' | rfl
    · rcases mem_insE.1 hm with hm' | rfl
      · rw [if_neg (hnk l hl'), if_neg (hnk m hm')]
        exact h.apart l m hl' hm' e
      · rw [if_neg (hnk l hl'), if_pos rfl]
        cases (sv l.key).ownBlock with
        | none => exact .inl rfl
        | some g => exact .inr (fun x => by cases x)
    · rw [if_pos rfl]
      exact .inl rfl
  · rcases mem_insE.1 hl with hl' | rfl
    · exact h.len l hl'
    · show s.data.toList.length ≤ 1000
      rw [Array.length_toList]
      exact hs
  · rcases mem_insE.1 hl with hl' | rfl
    · rw [if_neg (hnk l hl')]
      exact h.nil l hl' hp
    · exact if_pos rfl
/-- The row of a line has grown by a point, and the line says so. -/
theorem HeadAt.put {w w7 : World} {hb mb : Nat} {S : List Sr} {bl : List UInt8 → Nat} {sv : List UInt8 → Value} (h : HeadAt w hb mb S bl sv) (hS : S.Pairwise fun a b => a.key < b.key) {l : Sr} (hl : l ∈ S) (p : Int × Nat) (g cap : Nat)
    (hown7 : w7.ownsRow 0 55 2 (.slice (some ⟨g, 0, none⟩) (l.pts.length + 1) cap) (l.pts.length + 1) (pairCells (l.pts ++ [p]))) (hk7 : ∀ b, b < w.heap.size → (sv l.key).ownBlock ≠ some b → w7.heap[b]? = w.heap[b]?) (hg : (sv l.key).ownBlock = some g ∨ w.heap.size ≤ g) :
    HeadAt ((w7.setCell ⟨bl l.key, 0, none⟩ (.slice (some ⟨g, 0, none⟩) (l.pts.length + 1) cap)).setCell ⟨bl l.key, 1, none⟩ (.int .i64 p.1)) hb mb (addS S l.key p) bl (fun x => if x = l.key then .slice (some ⟨g, 0, none⟩) (l.pts.length + 1) cap else sv x) := by
  have hkn : known S l.key = true := known_iff.2 ⟨l, hl, rfl⟩
  have hmem : ∀ x, x ∈ addS S l.key p → (x ∈ S ∧ x.key ≠ l.key) ∨ x = ⟨l.key, l.pts ++ [p], p.1⟩ := fun x hx => by
    rcases (mem_addS hS).1 hx with h1 | ⟨m, hm, e, rfl⟩ | ⟨h1, _⟩
    · exact .inl h1
    · have := uniq hS hm hl e
      subst this
      exact .inr rfl
    · rw [hkn] at h1; cases h1
  have hline := h.line l hl
  have hrow := h.row l hl
  have hbr : (sv l.key).ownBlock ≠ some (bl l.key) := fun e => by
    obtain ⟨_, _, cur, hc⟩ := own_blk hrow e
    exact cells_ne hc hline (by decide) rfl
  have hl7 := (hk7 _ (blk_lt hline) hbr).trans hline
  have hb8 := block_set (block_set hl7 0 (.slice (some ⟨g, 0, none⟩) (l.pts.length + 1) cap)) 1 (.int .i64 p.1)
  have hoth : ∀ b, b ≠ bl l.key → ((w7.setCell ⟨bl l.key, 0, none⟩ (.slice (some ⟨g, 0, none⟩) (l.pts.length + 1) cap)).setCell ⟨bl l.key, 1, none⟩ (.int .i64 p.1)).heap[b]? = w7.heap[b]? := fun b hb' => by
    rw [Below.heap_setCell _ _ _ _ hb', Below.heap_setCell _ _ _ _ hb']
  have hold : ∀ b, b < w.heap.size → b ≠ bl l.key → (sv l.key).ownBlock ≠ some b → ((w7.setCell ⟨bl l.key, 0, none⟩ (.slice (some ⟨g, 0, none⟩) (l.pts.length + 1) cap)).setCell ⟨bl l.key, 1, none⟩ (.int .i64 p.1)).heap[b]? = w.heap[b]? := fun b h1 h2 h3 => (hoth b h2).trans (hk7 b h1 h3)
  have hnr : ∀ b, (∀ cur, w.heap[b]? ≠ some (.cells cur 55 (0, 0))) → (sv l.key).ownBlock ≠ some b := fun b hb' e => by
    obtain ⟨_, _, cur, hc⟩ := own_blk hrow e
    exact hb' cur hc
  obtain ⟨D, h1, h2, h3, h4⟩ := h.map
  have hg7 := own_blk hown7 (show (Value.slice (some ⟨g, 0, none⟩) (l.pts.length + 1) cap).ownBlock = some g from rfl)
  obtain ⟨_, hg7l, curg, hg7c⟩ := hg7
  have hlen : (addS S l.key p).length = S.length := by rw [length_addS _ _ _ hS, if_pos hkn]
  have hxg : ∀ x, x ∈ S → x.key ≠ l.key → (sv x.key).ownBlock ≠ some g := fun x hx hne e => by
    rcases hg with hg | hg
    · rcases h.apart x l hx hl hne with h5 | h5
      · rw [h5] at e; cases e
      · rw [hg] at h5; exact h5 e
    · have := (own_blk (h.row x hx) e).2.1
      omega
  refine ⟨?_, ⟨D, ?_, by rw [hlen]; exact h2, fun k => ?_, fun x hx z => ?_⟩, fun x hx => ?_, fun x hx => ?_, fun x y hx hy e => ?_, fun x y hx hy e => ?_, fun x hx => ?_, fun x hx hp => ?_⟩
  · rw [hold hb (blk_lt h.head) (cells_ne h.head hline (by decide)) (hnr _ fun cur e => by rw [h.head] at e; injection e with e; injection e with _ e2; revert e2; decide)]
    exact h.head
  · rw [hlen]
    have hmb : ∀ cs t f, w.heap[mb]? ≠ some (.cells cs t f) := fun cs t f e => (h.ne_map e) rfl
    refine ownsMap_same h1 (hold mb h1.lt (fun e => hmb _ _ _ (e ▸ hline)) (hnr _ fun cur => hmb cur _ _))
  · rw [h3]
    cases e : known (addS S l.key p) k with
    | true =>
      obtain ⟨x, hx, hxk⟩ := known_iff.1 e
      rcases hmem x hx with ⟨hx', _⟩ | rfl
      · exact known_iff.2 ⟨x, hx', hxk⟩
      · exact known_iff.2 ⟨l, hl, hxk⟩
    | false =>
      cases e2 : known S k with
      | false => rfl
      | true =>
        obtain ⟨x, hx, hxk⟩ := known_iff.1 e2
        by_cases hxl : x.key = l.key
        · rw [known_iff.2 ⟨⟨l.key, l.pts ++ [p], p.1⟩, (mem_addS hS).2 (.inr (.inl ⟨l, hl, rfl, rfl⟩)), by rw [← hxl]; exact hxk⟩] at e
          cases e
        · rw [known_iff.2 ⟨x, (mem_addS hS).2 (.inl ⟨hx, hxl⟩), hxk⟩] at e
          cases e
  · rcases hmem x hx with ⟨hx', _⟩ | rfl
    · exact h4 x hx' z
    · exact h4 l hl z
  · rcases hmem x hx with ⟨hx', hne⟩ | rfl
    · rw [if_neg hne, hold _ (blk_lt (h.line x hx')) (fun e => hne (h.inj x l hx' hl e)) (hnr _ fun cur e => by rw [h.line x hx'] at e; injection e with e; injection e with _ e2; revert e2; decide)]
      exact h.line x hx'
    · rw [if_pos rfl]
      exact hb8.trans (by simp)
  · rcases hmem x hx with ⟨hx', hne⟩ | rfl
    · rw [if_neg hne]
      refine own_same (h.row x hx') fun j hj => ?_
      obtain ⟨_, hlt, cur, hc⟩ := own_blk (h.row x hx') hj
      refine hold j hlt (cells_ne hc hline (by decide)) (fun e => ?_)
      rcases h.apart x l hx' hl hne with h5 | h5
      · rw [h5] at hj; cases hj
      · rw [hj, e] at h5; exact h5 rfl
    · rw [if_pos rfl]
      have hle : (l.pts ++ [p]).length = l.pts.length + 1 := by simp
      show World.ownsRow _ 0 55 2 _ (l.pts ++ [p]).length _
      rw [hle]
      refine own_same hown7 fun j hj => ?_
      simp [Value.ownBlock] at hj
      subst hj
      exact hoth g (cells_ne hg7c hl7 (by decide))
  · have key : ∀ z, z ∈ addS S l.key p → ∃ y, y ∈ S ∧ y.key = z.key := fun z hz => by
      rcases hmem z hz with ⟨hz', _⟩ | rfl
      · exact ⟨z, hz', rfl⟩
      · exact ⟨l, hl, rfl⟩
    obtain ⟨x', hx', ex⟩ := key x hx
    obtain ⟨y', hy', ey⟩ := key y hy
    rw [← ex, ← ey] at e ⊢
    exact h.inj x' y' hx' hy' e
  · rcases hmem x hx with ⟨hx', hne⟩ | rfl
    · rcases hmem y hy with ⟨hy', hne'⟩ | rfl
      · rw [if_neg hne, if_neg hne']
        exact h.apart x y hx' hy' e
      · rw [if_neg hne, if_pos rfl]
        exact .inr (hxg x hx' hne)
    · rcases hmem y hy with ⟨hy', hne'⟩ | rfl
      · rw [if_pos rfl, if_neg hne']
        exact .inr (fun e' => hxg y hy' hne' e'.symm)
      · exact absurd rfl e
  · rcases hmem x hx with ⟨hx', hne⟩ | rfl
    · exact h.len x hx'
    · exact h.len l hl
  · rcases hmem x hx with ⟨hx', hne⟩ | rfl
    · rw [if_neg hne]
      exact h.nil x hx' hp
    · exact absurd hp (by simp)
end Go.Proofs.YtfanagohfimnkaaDoor
