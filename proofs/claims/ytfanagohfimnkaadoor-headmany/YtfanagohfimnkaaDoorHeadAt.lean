/- A head, as it lies in memory: the map of its lines, each line's points. -/
import Derived.Test.YtfanagohfimnkaaDoorHeadMath
import Derived.Test.YtfanagohfimnkaaDoorLabFault
import Derived.Test.YtfanagohfimnkaaDoorBetween
import Derived.Test.YtfanagohfimnkaaDoorRefLabOfGroup
import Derived.Maps.OwnSet
import Derived.Maps.RangeWalk
import Derived.StringKeys
namespace Go.Proofs.YtfanagohfimnkaaDoor
open Go.RowKit Go.Maps HeadMath LabMath PtMath

/-- An element of a map, as it stands. -/
def heldE (v : Value) : Option (DataW Value × List MemPlace) := some (.held v, [])
theorem lawS : Keyed Tryd.prog 9 := string_keyed Tryd.underlying9
structure HeadAt (w : World) (hb mb : Nat) (S : List Sr) (bl : List UInt8 → Nat) (sv : List UInt8 → Value) : Prop where
  head : w.heap[hb]? = some (.cells #[.map (some mb)] 100 (0, 0))
  map : ∃ D, w.ownsMap Tryd.prog 9 heldE mb S.length D ∧ Maps.size D = S.length ∧ (∀ k, Maps.has D (.string k) = known S k) ∧ ∀ l, l ∈ S → ∀ z, D.atKey (.string l.key) z = .held (.pointer (some ⟨bl l.key, 0, none⟩))
  line : ∀ l, l ∈ S → w.heap[bl l.key]? = some (.cells #[sv l.key, .int .i64 l.last] 103 (0, 0))
  row : ∀ l, l ∈ S → w.ownsRow 0 55 2 (sv l.key) l.pts.length (pairCells l.pts)
  inj : ∀ l m, l ∈ S → m ∈ S → bl l.key = bl m.key → l.key = m.key
  apart : ∀ l m, l ∈ S → m ∈ S → l.key ≠ m.key → (sv l.key).ownBlock = none ∨ (sv l.key).ownBlock ≠ (sv m.key).ownBlock
  len : ∀ l, l ∈ S → l.key.length ≤ 1000
  nil : ∀ l, l ∈ S → l.pts = [] → sv l.key = .slice none 0 0
/-- The blocks that a head turns. -/
def foot (mb : Nat) (S : List Sr) (bl : List UInt8 → Nat) (sv : List UInt8 → Value) : List Nat := mb :: S.flatMap fun l => bl l.key :: (sv l.key).ownBlock.toList
theorem foot_map (mb : Nat) (S : List Sr) (bl : List UInt8 → Nat) (sv : List UInt8 → Value) : mb ∈ foot mb S bl sv := List.mem_cons_self ..
theorem foot_line {mb : Nat} {S : List Sr} {bl : List UInt8 → Nat} {sv : List UInt8 → Value} {l : Sr} (h : l ∈ S) : bl l.key ∈ foot mb S bl sv :=
  List.mem_cons_of_mem _ (List.mem_flatMap.2 ⟨l, h, List.mem_cons_self ..⟩)
theorem foot_row {mb : Nat} {S : List Sr} {bl : List UInt8 → Nat} {sv : List UInt8 → Value} {l : Sr} {g : Nat} (h : l ∈ S) (hg : (sv l.key).ownBlock = some g) : g ∈ foot mb S bl sv :=
  List.mem_cons_of_mem _ (List.mem_flatMap.2 ⟨l, h, List.mem_cons_of_mem _ (by rw [hg]; exact List.mem_singleton.2 rfl)⟩)
theorem mem_foot {mb : Nat} {S : List Sr} {bl : List UInt8 → Nat} {sv : List UInt8 → Value} {x : Nat} (h : x ∈ foot mb S bl sv) : x = mb ∨ (∃ l, l ∈ S ∧ x = bl l.key) ∨ ∃ l, l ∈ S ∧ (sv l.key).ownBlock = some x := by
  rcases List.mem_cons.1 h with rfl | h
  · exact .inl rfl
  · obtain ⟨l, hl, hx⟩ := List.mem_flatMap.1 h
    rcases List.mem_cons.1 hx with rfl | hx
    · exact .inr (.inl ⟨l, hl, rfl⟩)
    · exact .inr (.inr ⟨l, hl, by simpa using hx⟩)
theorem ownsMap_same {w w' : World} {b n : Nat} {D : DataW Value} (h : w.ownsMap Tryd.prog 9 heldE b n D) (he : w'.heap[b]? = w.heap[b]?) : w'.ownsMap Tryd.prog 9 heldE b n D := by
  obtain ⟨es, clock, hb, rest⟩ := h
  exact ⟨es, clock, he.trans hb, rest⟩
theorem own_same {w w' : World} {base : Nat} {e : TypeId} {sz : Nat} {v : Value} {n : Nat} {xs : List Value} (h : w.ownsRow base e sz v n xs) (he : ∀ g, v.ownBlock = some g → w'.heap[g]? = w.heap[g]?) : w'.ownsRow base e sz v n xs := by
  obtain ⟨h1, h2⟩ := h
  refine ⟨h1, ?_⟩
  rcases h2 with h2 | ⟨g, cap, cur, hv, hg, hh, t⟩
  · exact .inl h2
  · exact .inr ⟨g, cap, cur, hv, hg, (he g (by rw [hv]; rfl)).trans hh, t⟩
theorem own_blk {w : World} {base : Nat} {e : TypeId} {sz : Nat} {v : Value} {n : Nat} {xs : List Value} (h : w.ownsRow base e sz v n xs) {g : Nat} (hg : v.ownBlock = some g) : base ≤ g ∧ g < w.heap.size ∧ ∃ cur, w.heap[g]? = some (.cells cur e (0, 0)) := by
  rcases h.2 with ⟨hv, _⟩ | ⟨g', cap, cur, hv, hg', hh, _⟩
  · rw [hv] at hg; cases hg
  · rw [hv] at hg
    simp [Value.ownBlock] at hg
    subst hg
    exact ⟨hg', blk_lt hh, cur, hh⟩
theorem HeadAt.same {w w' : World} {hb mb : Nat} {S : List Sr} {bl : List UInt8 → Nat} {sv : List UInt8 → Value} (h : HeadAt w hb mb S bl sv) (he : ∀ b, b = hb ∨ b ∈ foot mb S bl sv → w'.heap[b]? = w.heap[b]?) : HeadAt w' hb mb S bl sv := by
  obtain ⟨D, h1, h2⟩ := h.map
  exact ⟨(he hb (.inl rfl)).trans h.head, ⟨D, ownsMap_same h1 (he mb (.inr (foot_map ..))), h2⟩, fun l hl => (he _ (.inr (foot_line hl))).trans (h.line l hl), fun l hl => own_same (h.row l hl) fun g hg => he g (.inr (foot_row hl hg)), h.inj, h.apart, h.len, h.nil⟩
theorem HeadAt.lt {w : World} {hb mb : Nat} {S : List Sr} {bl : List UInt8 → Nat} {sv : List UInt8 → Value} (h : HeadAt w hb mb S bl sv) {b : Nat} (hx : b = hb ∨ b ∈ foot mb S bl sv) : b < w.heap.size := by
  rcases hx with rfl | hx
  · exact blk_lt h.head
  · rcases mem_foot hx with rfl | ⟨l, hl, rfl⟩ | ⟨l, hl, hg⟩
    · obtain ⟨D, h1, _⟩ := h.map
      exact h1.lt
    · exact blk_lt (h.line l hl)
    · exact (own_blk (h.row l hl) hg).2.1
theorem HeadAt.below {w w' : World} {hb mb : Nat} {S : List Sr} {bl : List UInt8 → Nat} {sv : List UInt8 → Value} (h : HeadAt w hb mb S bl sv) (hw : Below w.heap.size w w') : HeadAt w' hb mb S bl sv :=
  h.same fun _ hx => hw.block _ (h.lt hx)
theorem HeadAt.cell {w : World} {hb mb : Nat} {S : List Sr} {bl : List UInt8 → Nat} {sv : List UInt8 → Value} (h : HeadAt w hb mb S bl sv) : w.cell? ⟨hb, 0, none⟩ = some (.map (some mb)) := by simp [World.cell?, h.head]
/-- The key of a text. -/
theorem key_of (s : ByteArray) (hs : s.size ≤ 1000) : keyOf Tryd.prog 9 (.string s) = some (.string s.data.toList) := Go.WideMaps.keyOf_string_mk Tryd.underlying9 (by unfold maxLen; omega)
theorem zeroPL (w : World) : (zeroValue 101).run Tryd.prog w = .ok (.pointer none) w := by kernel_rfl
/-- What is found of a text. -/
theorem HeadAt.look {w : World} {hb mb : Nat} {S : List Sr} {bl : List UInt8 → Nat} {sv : List UInt8 → Value} (h : HeadAt w hb mb S bl sv) (s : ByteArray) (hs : s.size ≤ 1000) :
    (known S s.data.toList = false ∧ (Instr.lookup 98 (.map (some mb)) (.string s) false).run Tryd.prog w = .ok (.pointer none) w) ∨
      ∃ l, l ∈ S ∧ l.key = s.data.toList ∧ (Instr.lookup 98 (.map (some mb)) (.string s) false).run Tryd.prog w = .ok (.pointer (some ⟨bl l.key, 0, none⟩)) w := by
  obtain ⟨D, h1, _, h3, h4⟩ := h.map
  obtain ⟨v, ps, hrun, hv⟩ := h1.lookup lawS Tryd.underlying98 (zeroPL w) (zd := .held (.pointer none)) (zp := []) rfl (key_of s hs)
  simp only [heldE, Option.some.injEq, Prod.mk.injEq] at hv
  cases hk : known S s.data.toList with
  | false =>
    have hn : Maps.has D (.string s.data.toList) = false := by rw [h3, hk]
    rw [atKey_of_not_has hn] at hv
    have := hv.1
    injection this with this
    subst this
    exact .inl ⟨rfl, hrun⟩
  | true =>
    obtain ⟨l, hl, hlk⟩ := known_iff.1 hk
    have := h4 l hl (.held (.pointer none))
    rw [hlk] at this
    rw [this] at hv
    have := hv.1
    injection this with this
    subst this
    exact .inr ⟨l, hl, hlk, by rw [hlk]; exact hrun⟩
theorem HeadAt.lens {w : World} {hb mb : Nat} {S : List Sr} {bl : List UInt8 → Nat} {sv : List UInt8 → Value} (h : HeadAt w hb mb S bl sv) (ty : TypeId) : (Builtin.len_ #[98] ty #[.map (some mb)]).run Tryd.prog w = .ok (.int .i64 (S.length : Int)) w := by
  obtain ⟨D, h1, h2, _⟩ := h.map
  have := h1.len Tryd.underlying98 ty
  rw [h2] at this
  exact this

set_option maxRecDepth 1000000 in
theorem hNew_any (w : World) :
    Calls Tryd.prog 19 #[] w fun e w' => ∃ hb mb, e = .returned (.pointer (some ⟨hb, 0, none⟩)) ∧ HeadAt w' hb mb [] (fun _ => 0) (fun _ => .slice none 0 0) ∧ Below w.heap.size w w' ∧ w.heap.size ≤ hb ∧ w.heap.size ≤ mb := by
  have hmm := @run_makeMap Tryd.prog
  go_enter Tryd.func19, Tryd.ntmps19
  go_wp2
  go_ret
  refine ⟨w.heap.size + 1, w.heap.size, by simp, ⟨?_, ⟨.map [], ?_, rfl, fun _ => rfl, (fun _ hl => nomatch hl)⟩, (fun _ hl => nomatch hl), (fun _ hl => nomatch hl), (fun _ _ hl => nomatch hl), (fun _ _ hl => nomatch hl), (fun _ hl => nomatch hl), (fun _ hl => nomatch hl)⟩, ((Below.refl _ _).alloc (Nat.le_refl _) _).alloc (by simp) _, by omega, Nat.le_refl _⟩
  · have := heap_alloc_new (w.alloc (.map #[] 0)) (.cells #[.map (some w.heap.size)] 100)
    simpa using this
  · exact (World.ownsMap_made w _ _ _).alloc _

set_option maxRecDepth 1000000 in
theorem hPoints_any (w : World) (hb mb : Nat) (S : List Sr) (bl : List UInt8 → Nat) (sv : List UInt8 → Value) (h : HeadAt w hb mb S bl sv) (hS : S.Pairwise fun a b => a.key < b.key) (hc : ∀ l, l ∈ S → l.pts.length ≤ 1000) (s : ByteArray) (hs : s.size ≤ 1000) (x y : Int) :
    Calls Tryd.prog 26 #[.pointer (some ⟨hb, 0, none⟩), .string s, .int .i64 x, .int .i64 y] w fun e w' => ∃ v, e = .returned v ∧ w'.ownsRow w.heap.size 55 2 v (betweenL x y (ptsOf S s.data.toList)).length (pairCells (betweenL x y (ptsOf S s.data.toList))) ∧ Below w.heap.size w w' := by
  have c0 := h.cell
  rcases h.look s hs with ⟨hk, hlook⟩ | ⟨l, hl, hlk, hlook⟩
  · have HP : Hid (ptsOf S s.data.toList = []) := ptsOf_none hk
    clear h hk
    go_enter Tryd.func26, Tryd.ntmps26
    go_wp2
    go_ret
    exact ⟨_, by rfl, by rw [HP.out]; exact ⟨rfl, .inl ⟨by simp, rfl⟩⟩, Below.refl _ _⟩
  · have HP : Hid (ptsOf S s.data.toList = l.pts) := ptsOf_some hS hl hlk
    obtain ⟨a, c, hsv, hlc, hpt, _⟩ := own_pairs (h.row l hl)
    have hln := h.line l hl
    rw [hsv] at hln
    have c1 : w.cell? ⟨bl l.key, 0, none⟩ = some (.slice a l.pts.length c) := by simp [World.cell?, hln]
    have HB := (show Hid _ from cbetween_any w a c l.pts x y hpt (hc l hl))
    clear h hln hpt hsv hlk
    go_enter Tryd.func26, Tryd.ntmps26
    go_wp2_with fail
    refine Calls.mono HB.out ?_
    rintro e w1 ⟨v, rfl, hown, hbl⟩
    have HO := (show Hid _ from And.intro hown hbl)
    clear hown hbl
    go_wp2
    go_ret
    exact ⟨v, by rfl, by rw [HP.out]; exact HO.out.1, HO.out.2⟩
theorem cells_ne {w : World} {a b : Nat} {cs ds : Array Value} {t u : TypeId} {f g : Nat × Nat} (ha : w.heap[a]? = some (.cells cs t f)) (hb : w.heap[b]? = some (.cells ds u g)) (hne : t ≠ u) : a ≠ b := fun e => by
  subst e
  rw [ha] at hb
  injection hb with hb
  injection hb with _ h2
  exact hne h2
end Go.Proofs.YtfanagohfimnkaaDoor
