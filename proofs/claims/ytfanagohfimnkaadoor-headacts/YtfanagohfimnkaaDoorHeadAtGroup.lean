/- A head, as it lies in memory: the map of its lines, each line's points. -/
import Derived.Test.YtfanagohfimnkaaDoorHeadMathGroup
import Derived.Test.YtfanagohfimnkaaDoorLabFault
import Derived.Test.YtfanagohfimnkaaDoorBetween
import Derived.Test.YtfanagohfimnkaaDoorRefLabOfGroup
import Derived.Maps.OwnSet
import Derived.Maps.RangeWalk
import Derived.StringKeys
import Derived.Deep.QuietTactic
import Derived.BigQuiet
namespace Go.Proofs.YtfanagohfimnkaaDoor
open Go.RowKit Go.Maps HeadMath LabMath PtMath

/-- An element of a map, as it stands. -/
def heldE (v : Value) : Option (DataW Value × List MemPlace) := some (.held v, [])
theorem lawS : Keyed Tryd.prog 9 := string_keyed Tryd.underlying9
structure HeadAt (w : World) (hb mb : Nat) (S : List Sr) (bl : List UInt8 → Nat) (sv : List UInt8 → Value) : Prop where
  head : w.heap[hb]? = some (.cells #[.map (some mb)] 100 (0, 0))
  map : ∃ D, w.ownsMap Tryd.prog 9 heldE mb S.length D ∧ Maps.size D = S.length ∧ (∀ k, Maps.has D (.string k) = known S k) ∧ ∀ l, l ∈ S → ∀ z, D.atKey (.string l.key) z = .held (.pointer (some ⟨bl l.key, 0, none⟩))
  line : ∀ l, l ∈ S → w.heap[bl l.key]? = some (.cells #[sv l.key, .int .i64 l.last] 103 (0, 0))
  row : ∀ l, l ∈ S → w.ownsRow 0 55 2 (sv l.key) l.pts.length (pairCells l.pts)
  inj : ∀ l m, l ∈ S → m ∈ S → bl l.key = bl m.key → l.key = m.key
  apart : ∀ l m, l ∈ S → m ∈ S → l.key ≠ m.key → (sv l.key).ownBlock = none ∨ (sv l.key).ownBlock ≠ (sv m.key).ownBlock
  len : ∀ l, l ∈ S → l.key.length ≤ 1000
  nil : ∀ l, l ∈ S → l.pts = [] → sv l.key = .slice none 0 0
/-- The blocks that a head turns. -/
def foot (mb : Nat) (S : List Sr) (bl : List UInt8 → Nat) (sv : List UInt8 → Value) : List Nat := mb :: S.flatMap fun l => bl l.key :: (sv l.key).ownBlock.toList
theorem foot_map (mb : Nat) (S : List Sr) (bl : List UInt8 → Nat) (sv : List UInt8 → Value) : mb ∈ foot mb S bl sv := List.mem_cons_self ..
theorem foot_line {mb : Nat} {S : List Sr} {bl : List UInt8 → Nat} {sv : List UInt8 → Value} {l : Sr} (h : l ∈ S) : bl l.key ∈ foot mb S bl sv :=
  List.mem_cons_of_mem _ (List.mem_flatMap.2 ⟨l, h, List.mem_cons_self ..⟩)
theorem foot_row {mb : Nat} {S : List Sr} {bl : List UInt8 → Nat} {sv : List UInt8 → Value} {l : Sr} {g : Nat} (h : l ∈ S) (hg : (sv l.key).ownBlock = some g) : g ∈ foot mb S bl sv :=
  List.mem_cons_of_mem _ (List.mem_flatMap.2 ⟨l, h, List.mem_cons_of_mem _ (by rw [hg]; exact List.mem_singleton.2 rfl)⟩)
theorem mem_foot {mb : Nat} {S : List Sr} {bl : List UInt8 → Nat} {sv : List UInt8 → Value} {x : Nat} (h : x ∈ foot mb S bl sv) : x = mb ∨ (∃ l, l ∈ S ∧ x = bl l.key) ∨ ∃ l, l ∈ S ∧ (sv l.key).ownBlock = some x := by
  rcases List.mem_cons.1 h with rfl | h
  · exact .inl rfl
  · obtain ⟨l, hl, hx⟩ := List.mem_flatMap.1 h
    rcases List.mem_cons.1 hx with rfl | hx
    · exact .inr (.inl ⟨l, hl, rfl⟩)
    · exact .inr (.inr ⟨l, hl, by simpa using hx⟩)
theorem ownsMap_same {w w' : World} {b n : Nat} {D : DataW Value} (h : w.ownsMap Tryd.prog 9 heldE b n D) (he : w'.heap[b]? = w.heap[b]?) : w'.ownsMap Tryd.prog 9 heldE b n D := by
  obtain ⟨es, clock, hb, rest⟩ := h
  exact ⟨es, clock, he.trans hb, rest⟩
theorem own_same {w w' : World} {base : Nat} {e : TypeId} {sz : Nat} {v : Value} {n : Nat} {xs : List Value} (h : w.ownsRow base e sz v n xs) (he : ∀ g, v.ownBlock = some g → w'.heap[g]? = w.heap[g]?) : w'.ownsRow base e sz v n xs := by
  obtain ⟨h1, h2⟩ := h
  refine ⟨h1, ?_⟩
  rcases h2 with h2 | ⟨g, cap, cur, hv, hg, hh, t⟩
  · exact .inl h2
  · exact .inr ⟨g, cap, cur, hv, hg, (he g (by rw [hv]; rfl)).trans hh, t⟩
theorem own_blk {w : World} {base : Nat} {e : TypeId} {sz : Nat} {v : Value} {n : Nat} {xs : List Value} (h : w.ownsRow base e sz v n xs) {g : Nat} (hg : v.ownBlock = some g) : base ≤ g ∧ g < w.heap.size ∧ ∃ cur, w.heap[g]? = some (.cells cur e (0, 0)) := by
  rcases h.2 with ⟨hv, _⟩ | ⟨g', cap, cur, hv, hg', hh, _⟩
  · rw [hv] at hg; cases hg
  · rw [hv] at hg
    simp [Value.ownBlock] at hg
    subst hg
    exact ⟨hg', blk_lt hh, cur, hh⟩
theorem HeadAt.same {w w' : World} {hb mb : Nat} {S : List Sr} {bl : List UInt8 → Nat} {sv : List UInt8 → Value} (h : HeadAt w hb mb S bl sv) (he : ∀ b, b = hb ∨ b ∈ foot mb S bl sv → w'.heap[b]? = w.heap[b]?) : HeadAt w' hb mb S bl sv := by
  obtain ⟨D, h1, h2⟩ := h.map
  exact ⟨(he hb (.inl rfl)).trans h.head, ⟨D, ownsMap_same h1 (he mb (.inr (foot_map ..))), h2⟩, fun l hl => (he _ (.inr (foot_line hl))).trans (h.line l hl), fun l hl => own_same (h.row l hl) fun g hg => he g (.inr (foot_row hl hg)), h.inj, h.apart, h.len, h.nil⟩
theorem HeadAt.lt {w : World} {hb mb : Nat} {S : List Sr} {bl : List UInt8 → Nat} {sv : List UInt8 → Value} (h : HeadAt w hb mb S bl sv) {b : Nat} (hx : b = hb ∨ b ∈ foot mb S bl sv) : b < w.heap.size := by
  rcases hx with rfl | hx
  · exact blk_lt h.head
  · rcases mem_foot hx with rfl | ⟨l, hl, rfl⟩ | ⟨l, hl, hg⟩
    · obtain ⟨D, h1, _⟩ := h.map
      exact h1.lt
    · exact blk_lt (h.line l hl)
    · exact (own_blk (h.row l hl) hg).2.1
theorem HeadAt.below {w w' : World} {hb mb : Nat} {S : List Sr} {bl : List UInt8 → Nat} {sv : List UInt8 → Value} (h : HeadAt w hb mb S bl sv) (hw : Below w.heap.size w w') : HeadAt w' hb mb S bl sv :=
  h.same fun _ hx => hw.block _ (h.lt hx)
theorem HeadAt.cell {w : World} {hb mb : Nat} {S : List Sr} {bl : List UInt8 → Nat} {sv : List UInt8 → Value} (h : HeadAt w hb mb S bl sv) : w.cell? ⟨hb, 0, none⟩ = some (.map (some mb)) := by simp [World.cell?, h.head]
/-- The key of a text. -/
theorem key_of (s : ByteArray) (hs : s.size ≤ 1000) : keyOf Tryd.prog 9 (.string s) = some (.string s.data.toList) := Go.WideMaps.keyOf_string_mk Tryd.underlying9 (by unfold maxLen; omega)
theorem zeroPL (w : World) : (zeroValue 101).run Tryd.prog w = .ok (.pointer none) w := by kernel_rfl
/-- What is found of a text. -/
theorem HeadAt.look {w : World} {hb mb : Nat} {S : List Sr} {bl : List UInt8 → Nat} {sv : List UInt8 → Value} (h : HeadAt w hb mb S bl sv) (s : ByteArray) (hs : s.size ≤ 1000) :
    (known S s.data.toList = false ∧ (Instr.lookup 98 (.map (some mb)) (.string s) false).run Tryd.prog w = .ok (.pointer none) w) ∨
      ∃ l, l ∈ S ∧ l.key = s.data.toList ∧ (Instr.lookup 98 (.map (some mb)) (.string s) false).run Tryd.prog w = .ok (.pointer (some ⟨bl l.key, 0, none⟩)) w := by
  obtain ⟨D, h1, _, h3, h4⟩ := h.map
  obtain ⟨v, ps, hrun, hv⟩ := h1.lookup lawS Tryd.underlying98 (zeroPL w) (zd := .held (.pointer none)) (zp := []) rfl (key_of s hs)
  simp only [heldE, Option.some.injEq, Prod.mk.injEq] at hv
  cases hk : known S s.data.toList with
  | false =>
    have hn : Maps.has D (.string s.data.toList) = false := by rw [h3, hk]
    rw [atKey_of_not_has hn] at hv
    have := hv.1
    injection this with this
    subst this
    exact .inl ⟨rfl, hrun⟩
  | true =>
    obtain ⟨l, hl, hlk⟩ := known_iff.1 hk
    have := h4 l hl (.held (.pointer none))
    rw [hlk] at this
    rw [this] at hv
    have := hv.1
    injection this with this
    subst this
    exact .inr ⟨l, hl, hlk, by rw [hlk]; exact hrun⟩
theorem HeadAt.lens {w : World} {hb mb : Nat} {S : List Sr} {bl : List UInt8 → Nat} {sv : List UInt8 → Value} (h : HeadAt w hb mb S bl sv) (ty : TypeId) : (Builtin.len_ #[98] ty #[.map (some mb)]).run Tryd.prog w = .ok (.int .i64 (S.length : Int)) w := by
  obtain ⟨D, h1, h2, _⟩ := h.map
  have := h1.len Tryd.underlying98 ty
  rw [h2] at this
  exact this

set_option maxRecDepth 1000000 in
theorem hNew_any (w : World) :
    Calls Tryd.prog 19 #[] w fun e w' => ∃ hb mb, e = .returned (.pointer (some ⟨hb, 0, none⟩)) ∧ HeadAt w' hb mb [] (fun _ => 0) (fun _ => .slice none 0 0) ∧ Below w.heap.size w w' ∧ w.heap.size ≤ hb ∧ w.heap.size ≤ mb := by
  have hmm := @run_makeMap Tryd.prog
  go_enter Tryd.func19, Tryd.ntmps19
  go_wp2
  go_ret
  refine ⟨w.heap.size + 1, w.heap.size, by simp, ⟨?_, ⟨.map [], ?_, rfl, fun _ => rfl, (fun _ hl => nomatch hl)⟩, (fun _ hl => nomatch hl), (fun _ hl => nomatch hl), (fun _ _ hl => nomatch hl), (fun _ _ hl => nomatch hl), (fun _ hl => nomatch hl), (fun _ hl => nomatch hl)⟩, ((Below.refl _ _).alloc (Nat.le_refl _) _).alloc (by simp) _, by omega, Nat.le_refl _⟩
  · have := heap_alloc_new (w.alloc (.map #[] 0)) (.cells #[.map (some w.heap.size)] 100)
    simpa using this
  · exact (World.ownsMap_made w _ _ _).alloc _

set_option maxRecDepth 1000000 in
theorem hPoints_any (w : World) (hb mb : Nat) (S : List Sr) (bl : List UInt8 → Nat) (sv : List UInt8 → Value) (h : HeadAt w hb mb S bl sv) (hS : S.Pairwise fun a b => a.key < b.key) (hc : ∀ l, l ∈ S → l.pts.length ≤ 1000) (s : ByteArray) (hs : s.size ≤ 1000) (x y : Int) :
    Calls Tryd.prog 26 #[.pointer (some ⟨hb, 0, none⟩), .string s, .int .i64 x, .int .i64 y] w fun e w' => ∃ v, e = .returned v ∧ w'.ownsRow w.heap.size 55 2 v (betweenL x y (ptsOf S s.data.toList)).length (pairCells (betweenL x y (ptsOf S s.data.toList))) ∧ Below w.heap.size w w' := by
  have c0 := h.cell
  rcases h.look s hs with ⟨hk, hlook⟩ | ⟨l, hl, hlk, hlook⟩
  · have HP : Hid (ptsOf S s.data.toList = []) := ptsOf_none hk
    clear h hk
    go_enter Tryd.func26, Tryd.ntmps26
    go_wp2
    go_ret
    exact ⟨_, by rfl, by rw [HP.out]; exact ⟨rfl, .inl ⟨by simp, rfl⟩⟩, Below.refl _ _⟩
  · have HP : Hid (ptsOf S s.data.toList = l.pts) := ptsOf_some hS hl hlk
    obtain ⟨a, c, hsv, hlc, hpt, _⟩ := own_pairs (h.row l hl)
    have hln := h.line l hl
    rw [hsv] at hln
    have c1 : w.cell? ⟨bl l.key, 0, none⟩ = some (.slice a l.pts.length c) := by simp [World.cell?, hln]
    have HB := (show Hid _ from cbetween_any w a c l.pts x y hpt (hc l hl))
    clear h hln hpt hsv hlk
    go_enter Tryd.func26, Tryd.ntmps26
    go_wp2_with fail
    refine Calls.mono HB.out ?_
    rintro e w1 ⟨v, rfl, hown, hbl⟩
    have HO := (show Hid _ from And.intro hown hbl)
    clear hown hbl
    go_wp2
    go_ret
    exact ⟨v, by rfl, by rw [HP.out]; exact HO.out.1, HO.out.2⟩
theorem cells_ne {w : World} {a b : Nat} {cs ds : Array Value} {t u : TypeId} {f g : Nat × Nat} (ha : w.heap[a]? = some (.cells cs t f)) (hb : w.heap[b]? = some (.cells ds u g)) (hne : t ≠ u) : a ≠ b := fun e => by
  subst e
  rw [ha] at hb
  injection hb with hb
  injection hb with _ h2
  exact hne h2
end Go.Proofs.YtfanagohfimnkaaDoor
/- head's refuses by its contract. -/
namespace Go.Proofs.YtfanagohfimnkaaDoor
open Go.RowKit Go.Maps HeadMath LabMath PtMath

/-- The fault of a text as labels: its number and place. -/
noncomputable def readC (l : List UInt8) : Int := match scan l [] [] [] false with | none => 1 | some out => fC (nameAt out) (valueAt out) out.length
noncomputable def readA (l : List UInt8) : Int := match scan l [] [] [] false with | none => -1 | some out => fA (nameAt out) (valueAt out) out.length
theorem readC_nonneg (l : List UInt8) : 0 ≤ readC l := by
  unfold readC
  split
  · omega
  · exact (fC_cases _ _ _).1
/-- The seven errors of labels and heads. -/
structure EnvH (B : Nat) (ea : Nat → Addr) (w : World) : Prop where
  c0 : w.cell? ⟨5, 0, none⟩ = some (.iface 197 (.pointer (some (ea 0))))
  c1 : w.cell? ⟨0, 0, none⟩ = some (.iface 197 (.pointer (some (ea 1))))
  c2 : w.cell? ⟨3, 0, none⟩ = some (.iface 197 (.pointer (some (ea 2))))
  c3 : w.cell? ⟨2, 0, none⟩ = some (.iface 197 (.pointer (some (ea 3))))
  c4 : w.cell? ⟨1, 0, none⟩ = some (.iface 197 (.pointer (some (ea 4))))
  c6 : w.cell? ⟨7, 0, none⟩ = some (.iface 197 (.pointer (some (ea 6))))
  c7 : w.cell? ⟨8, 0, none⟩ = some (.iface 197 (.pointer (some (ea 7))))
  low : ∀ g, g ∈ [5, 0, 3, 2, 1, 7, 8] → g < B
theorem EnvH.below {B : Nat} {ea : Nat → Addr} {w w' : World} (E : EnvH B ea w) {B' : Nat} (h : Below B' w w') (hB : B ≤ B') : EnvH B ea w' := by
  have hc : ∀ g, g < B → w'.cell? ⟨g, 0, none⟩ = w.cell? ⟨g, 0, none⟩ := fun g hg => h.cell (p := ⟨g, 0, none⟩) (by show g < B'; omega)
  have hl := E.low
  exact ⟨(hc _ (hl _ (by simp))).trans E.c0, (hc _ (hl _ (by simp))).trans E.c1, (hc _ (hl _ (by simp))).trans E.c2, (hc _ (hl _ (by simp))).trans E.c3, (hc _ (hl _ (by simp))).trans E.c4, (hc _ (hl _ (by simp))).trans E.c6, (hc _ (hl _ (by simp))).trans E.c7, hl⟩
theorem Env.head {B : Nat} {ea : Nat → Addr} {w : World} (E : Env B ea w) : EnvH B ea w := by
  refine ⟨E.c0, E.c1, E.c2, E.c3, E.c4, E.c6, E.c7, fun g hg => ?_⟩
  have hl := E.low
  have : ∀ g, g ∈ [5, 0, 3, 2, 1, 7, 8] → g ≤ 11 := by decide
  exact Nat.lt_of_le_of_lt (this g hg) hl
theorem lread_c {B : Nat} {ea : Nat → Addr} (w : World) (E : EnvH B ea w) (s : ByteArray) (hs : s.size ≤ 1000) :
    Calls Tryd.prog 65 #[.string s] w fun e w' => ∃ x v, e = .returned (.tuple #[x, v]) ∧ Below w.heap.size w w' ∧ FaultV ea w' v (readC s.data.toList) (readA s.data.toList) := by
  refine (lread_f4 w E.c0 E.c1 E.c2 E.c3 s (by omega)).mono ?_
  rintro e w' ⟨x, v, rfl, hb, ⟨hn, _, hf⟩ | ⟨out, hsc, hf, _⟩⟩
  · exact ⟨x, v, rfl, hb, by unfold readC readA; rw [hn]; exact hf⟩
  · exact ⟨x, v, rfl, hb, by unfold readC readA; rw [hsc]; exact hf⟩
/-- Is a tick not more than that of the series' last point? -/
def oldB (S : List Sr) (k : List UInt8) (t : Int) : Bool := S.any fun l => decide (l.key = k) && decide (t ≤ l.last)
theorem oldB_none {S : List Sr} {k : List UInt8} (h : known S k = false) (t : Int) : oldB S k t = false := by
  cases e : oldB S k t with
  | false => rfl
  | true =>
    simp [oldB] at e
    obtain ⟨l, hl, hk, _⟩ := e
    have : known S k = true := known_iff.2 ⟨l, hl, hk⟩
    rw [h] at this
    cases this
theorem oldB_some {S : List Sr} (hs : S.Pairwise fun a b => a.key < b.key) {l : Sr} (hl : l ∈ S) {k : List UInt8} (hk : l.key = k) (t : Int) : oldB S k t = decide (t ≤ l.last) := by
  by_cases ht : t ≤ l.last
  · have : oldB S k t = true := by
      simp only [oldB, List.any_eq_true]
      exact ⟨l, hl, by simp [hk, ht]⟩
    rw [this]
    simp [ht]
  · have : oldB S k t = false := by
      cases e : oldB S k t with
      | false => rfl
      | true =>
        simp [oldB] at e
        obtain ⟨m, hm, hmk, hmt⟩ := e
        have := uniq hs hm hl (hmk.trans hk.symm)
        subst this
        exact absurd hmt ht
    rw [this]
    simp [ht]
/-- The fault of a point to be added. -/
noncomputable def addC (S : List Sr) (k : List UInt8) (t : Int) : Int := if 0 < readC k then readC k else if t < -1099511627776 ∨ 1099511627776 < t then 2 else if oldB S k t = true then 8 else if known S k = false ∧ 60 ≤ S.length then 7 else 0
noncomputable def addA (k : List UInt8) : Int := if 0 < readC k then readA k else -1

set_option maxRecDepth 1000000 in
set_option maxHeartbeats 2000000 in
theorem refuses_any {B : Nat} {ea : Nat → Addr} (w : World) (E : EnvH B ea w) (hB : B ≤ w.heap.size) (hb mb : Nat) (S : List Sr) (bl : List UInt8 → Nat) (sv : List UInt8 → Value) (h : HeadAt w hb mb S bl sv) (hS : S.Pairwise fun a b => a.key < b.key) (hn : S.length ≤ 1000) (s : ByteArray) (hs : s.size ≤ 1000) (t : Int) (u : Nat) :
    Calls Tryd.prog 47 #[.pointer (some ⟨hb, 0, none⟩), .string s, .agg #[.int .i64 t, .int .u64 (u : Int)]] w fun e w' => ∃ v, e = .returned v ∧ Below w.heap.size w w' ∧ FaultV ea w' v (addC S s.data.toList t) (addA s.data.toList) := by
  have HH : Hid (HeadAt w hb mb S bl sv) := h
  have HE := (show Hid _ from E)
  obtain ⟨W, hW⟩ : ∃ W, W = w.alloc (.cells #[.int .i64 t, .int .u64 (u : Int)] 55) := ⟨_, rfl⟩
  have hbW : Below w.heap.size w W := by rw [hW]; exact (Below.refl _ _).alloc (Nat.le_refl _) _
  have hnW : W.heap[w.heap.size]? = some (.cells #[.int .i64 t, .int .u64 (u : Int)] 55 (0, 0)) := by rw [hW]; exact heap_alloc_new _ _
  have HR := (show Hid _ from lread_c W (E.below hbW hB) s hs)
  have HBW := (show Hid _ from hbW)
  have HNW := (show Hid _ from hnW)
  have HW : Hid (∀ wx, wx = w.alloc (.cells #[.int .i64 t, .int .u64 (u : Int)] 55) → wx = W) := fun wx hx => hx.trans hW.symm
  have hr0 := readC_nonneg s.data.toList
  obtain ⟨RC, hRC⟩ : ∃ RC, RC = readC s.data.toList := ⟨_, rfl⟩
  obtain ⟨RA, hRA⟩ : ∃ RA, RA = readA s.data.toList := ⟨_, rfl⟩
  have HC : Hid (addC S s.data.toList t = if 0 < RC then RC else if t < -1099511627776 ∨ 1099511627776 < t then 2 else if oldB S s.data.toList t = true then 8 else if known S s.data.toList = false ∧ 60 ≤ S.length then 7 else 0) := by rw [hRC]; rfl
  have HA : Hid (addA s.data.toList = if 0 < RC then RA else -1) := by rw [hRC, hRA]; rfl
  rw [← hRC, ← hRA] at HR
  rw [← hRC] at hr0
  clear h E hbW hnW hW hRC hRA
  go_enter Tryd.func47, Tryd.ntmps47
  go_wp2_with fail
  rw [HW.out _ rfl]
  refine Calls.mono HR.out ?_
  rintro e w2 ⟨x, v, rfl, hb2, hfv⟩
  have HB2 : Hid (Below w.heap.size w w2) := HBW.out.trans (hb2.mono HBW.out.size)
  have hn2 := (hb2.block _ (blk_lt HNW.out)).trans HNW.out
  have p0 : w2.cell? ⟨w.heap.size, 0, none⟩ = some (.int .i64 t) := by simp [World.cell?, hn2]
  have p1 : w2.cell? ⟨w.heap.size, 1, none⟩ = some (.int .u64 (u : Int)) := by simp [World.cell?, hn2]
  have HFV : Hid (FaultV ea w2 v RC RA) := hfv
  have HE2 : Hid (EnvH B ea w2) := HE.out.below HB2.out hB
  have h2 := HH.out.below HB2.out
  have c0 := h2.cell
  clear hb2 hn2 HR HBW HNW HW HH
  dsimp only
  by_cases hc : 0 < RC
  · have hv := HFV.out.iface
    have hC : addC S s.data.toList t = RC := by rw [HC.out, if_pos hc]
    have hA : addA s.data.toList = RA := by rw [HA.out, if_pos hc]
    have HF : Hid (FaultV ea w2 v (addC S s.data.toList t) (addA s.data.toList)) := by rw [hC, hA]; exact HFV.out
    have hne : v ≠ .nilIface := fun e => by
      rcases HFV.out with ⟨_, h0⟩ | ⟨m, _, h1, _⟩ | ⟨pb, m, _, h1, _⟩
      · omega
      · rw [e] at h1; cases h1
      · rw [e] at h1; cases h1
    clear hC hA HFV h2 c0 HC HA hfv
    rcases hv with rfl | ⟨ty, q, rfl⟩
    · exact absurd rfl hne
    · clear hne
      go_wp2
      go_ret
      exact ⟨_, by rfl, HB2.out, HF.out⟩
  · have hz : RC = 0 := by omega
    have hv := HFV.out.none hz
    subst hv
    have hA : addA s.data.toList = -1 := by rw [HA.out, if_neg hc]
    have HA2 := (show Hid _ from hA)
    have hC := HC.out
    rw [if_neg hc] at hC
    clear hfv HFV HC HA hA hz hc hr0
    by_cases hlo : t < -1099511627776
    · rw [if_pos (.inl hlo)] at hC
      have d0 : decide (t < -1099511627776) = true := decide_eq_true hlo
      have e1 := HE2.out.c1
      have HF : Hid (FaultV ea w2 (.iface 197 (.pointer (some (ea 1)))) (addC S s.data.toList t) (addA s.data.toList)) := by rw [hC, HA2.out]; exact .inr (.inl ⟨1, by omega, rfl, rfl, rfl⟩)
      clear hC h2 c0
      go_wp2
      go_ret
      exact ⟨_, by rfl, HB2.out, HF.out⟩
    · have d0 : decide (t < -1099511627776) = false := decide_eq_false hlo
      by_cases hhi : 1099511627776 < t
      · rw [if_pos (.inr hhi)] at hC
        have d1 : decide (1099511627776 < t) = true := decide_eq_true hhi
        have e1 := HE2.out.c1
        have HF : Hid (FaultV ea w2 (.iface 197 (.pointer (some (ea 1)))) (addC S s.data.toList t) (addA s.data.toList)) := by rw [hC, HA2.out]; exact .inr (.inl ⟨1, by omega, rfl, rfl, rfl⟩)
        clear hC h2 c0
        go_wp2
        go_ret
        exact ⟨_, by rfl, HB2.out, HF.out⟩
      · have d1 : decide (1099511627776 < t) = false := decide_eq_false hhi
        rw [if_neg (by omega)] at hC
        rcases h2.look s hs with ⟨hk, hlook⟩ | ⟨l, hl, hlk, hlook⟩
        · have hlen := fun n ty => (h2.below (below_draws (Below.refl _ _) n)).lens ty
          rw [oldB_none hk, if_neg (by decide)] at hC
          by_cases h60 : 60 ≤ S.length
          · rw [if_pos ⟨hk, h60⟩] at hC
            have d2 : decide ((60 : Int) ≤ (S.length : Int)) = true := by simp; omega
            have e6 := HE2.out.c6
            have HF : Hid (FaultV ea w2 (.iface 197 (.pointer (some (ea 6)))) (addC S s.data.toList t) (addA s.data.toList)) := by rw [hC, HA2.out]; exact .inr (.inl ⟨6, by omega, rfl, rfl, rfl⟩)
            clear hC h2 hk
            go_wp2_with fail
            go_quiet (fail)
            go_wp2
            go_ret
            exact ⟨_, by rfl, below_draws HB2.out _, HF.out.below (below_draws (Below.refl _ _) _)⟩
          · rw [if_neg (fun h => h60 h.2)] at hC
            have d2 : decide ((60 : Int) ≤ (S.length : Int)) = false := by simp; omega
            have HF : Hid (addC S s.data.toList t = 0) := hC
            clear hC h2 hk
            go_wp2_with fail
            go_quiet (fail)
            go_wp2
            go_ret
            exact ⟨_, by rfl, below_draws HB2.out _, .inl ⟨rfl, HF.out⟩⟩
        · have hln := h2.line l hl
          have q0 : w2.cell? ⟨bl l.key, 0, none⟩ = some (sv l.key) := by simp [World.cell?, hln]
          have q1 : w2.cell? ⟨bl l.key, 1, none⟩ = some (.int .i64 l.last) := by simp [World.cell?, hln]
          rw [oldB_some hS hl hlk t] at hC
          have hkn : known S s.data.toList = true := known_iff.2 ⟨l, hl, hlk⟩
          rw [hkn] at hC
          clear h2 hln hlk hkn
          by_cases hol : t ≤ l.last
          · rw [if_pos (by simpa using hol)] at hC
            have d2 : decide (t ≤ l.last) = true := decide_eq_true hol
            have e7 := HE2.out.c7
            have HF : Hid (FaultV ea w2 (.iface 197 (.pointer (some (ea 7)))) (addC S s.data.toList t) (addA s.data.toList)) := by rw [hC, HA2.out]; exact .inr (.inl ⟨7, by omega, rfl, rfl, rfl⟩)
            clear hC
            go_wp2_with fail
            go_quiet (fail)
            go_wp2
            go_ret
            exact ⟨_, by rfl, below_draws HB2.out _, HF.out.below (below_draws (Below.refl _ _) _)⟩
          · rw [if_neg (by simpa using hol), if_neg (fun h => by cases h.1)] at hC
            have d2 : decide (t ≤ l.last) = false := decide_eq_false hol
            have HF : Hid (addC S s.data.toList t = 0) := hC
            clear hC
            go_wp2_with fail
            go_quiet (fail)
            go_wp2
            go_ret
            exact ⟨_, by rfl, below_draws HB2.out _, .inl ⟨rfl, HF.out⟩⟩
/-- One name and one value are no fault. -/
theorem readC_one {l nm vl : List UInt8} (h : scan l [] [] [] false = some [(nm, vl)]) (h1 : isName (nameAt [(nm, vl)] 0) = true) (h2 : isWord (valueAt [(nm, vl)] 0) = true) : readC l = 0 := by
  unfold readC
  rw [h]
  refine fC_zero _ _ 1 (by omega) (by omega) fun i hi => ?_
  obtain rfl : i = 0 := by omega
  unfold labOk
  rw [h1, h2]
  rfl
theorem naK_read : readC [110, 61, 97] = 0 := readC_one (nm := [110]) (vl := [97]) (by decide) (by decide) (by decide)
end Go.Proofs.YtfanagohfimnkaaDoor
/- A head with a series more, with a point more: outside the walk. -/
namespace Go.Proofs.YtfanagohfimnkaaDoor
open Go.RowKit Go.Maps HeadMath LabMath PtMath

theorem HeadAt.ne_map {w : World} {hb mb : Nat} {S : List Sr} {bl : List UInt8 → Nat} {sv : List UInt8 → Value} (h : HeadAt w hb mb S bl sv) {b : Nat} {cs : Array Value} {t : TypeId} {f : Nat × Nat} (hx : w.heap[b]? = some (.cells cs t f)) : b ≠ mb := fun e => by
  obtain ⟨D, ⟨es, clock, hm, _⟩, _⟩ := h.map
  subst e
  rw [hm] at hx
  cases hx
/-- A line without points. -/
abbrev lineO : Obj := .cells #[.slice none 0 0, .int .i64 0] 103
theorem HeadAt.fresh {w : World} {hb mb : Nat} {S : List Sr} {bl : List UInt8 → Nat} {sv : List UInt8 → Value} (h : HeadAt w hb mb S bl sv) (s : ByteArray) (hs : s.size ≤ 1000) (hn : S.length ≤ 1000) (hk : known S s.data.toList = false) :
    ∃ w2, (Instr.mapUpdate 98 (.map (some mb)) (.string s) (.pointer (some ⟨w.heap.size, 0, none⟩))).run Tryd.prog (w.alloc lineO) = .ok () w2 ∧
      HeadAt w2 hb mb (insE S s.data.toList) (fun x => if x = s.data.toList then w.heap.size else bl x) (fun x => if x = s.data.toList then .slice none 0 0 else sv x) ∧
      Kept [mb] w w2 ∧ w.heap.size < w2.heap.size := by
  obtain ⟨D, h1, h2, h3, h4⟩ := h.map
  have hmb := h1.lt
  obtain ⟨w2, hrun, hown, hgrow⟩ := (h1.alloc lineO).update lawS Tryd.underlying98 (show S.length < maxLen by unfold maxLen; omega) (key_of s hs) (val := .pointer (some ⟨w.heap.size, 0, none⟩)) (d := .held (.pointer (some ⟨w.heap.size, 0, none⟩))) (ps := []) rfl
  have hnew : (w.alloc lineO).heap[w.heap.size]? = some lineO := heap_alloc_new _ _
  have hold : ∀ b, b < w.heap.size → b ≠ mb → w2.heap[b]? = w.heap[b]? := fun b hlt hne => (hgrow.block b (by simp; omega) (fun e => hne (by injection e))).trans (Below.heap_alloc _ _ _ hlt)
  have hnew2 : w2.heap[w.heap.size]? = some lineO := (hgrow.block _ (by simp) (fun e => by injection e with e; omega)).trans hnew
  have hsz : w.heap.size < w2.heap.size := blk_lt hnew2
  have hnk : ∀ l, l ∈ S → l.key ≠ s.data.toList := fun l hl e => by rw [known_iff.2 ⟨l, hl, e⟩] at hk; cases hk
  have hnh : Maps.has D (.string s.data.toList) = false := by rw [h3, hk]
  have hkey : WideAt.IsKeyLit (.string s.data.toList) := lawS.key (key_of s hs)
  have hne : ∀ k j : List UInt8, k ≠ j → (Lit.string k) ≠ .string j := fun k j e h => by injection h with h; exact e h
  refine ⟨w2, hrun, ⟨(hold hb (blk_lt h.head) (h.ne_map h.head)).trans h.head, ⟨D.put (.string s.data.toList) (.held (.pointer (some ⟨w.heap.size, 0, none⟩))), by rw [length_insE]; exact hown, ?_, fun k => ?_, fun l hl z => ?_⟩, fun l hl => ?_, fun l hl => ?_, fun l m hl hm e => ?_, fun l m hl hm e => ?_, fun l hl => ?_, fun l hl hp => ?_⟩, ⟨hgrow.os, hgrow.tape, hgrow.output, by omega, fun b hlt hb' => hold b hlt (fun e => hb' (by simp [e]))⟩, hsz⟩
  · rw [size_put (h1.tidy lawS), hnh, length_insE, h2]
    rfl
  · rw [known_insE]
    by_cases e : s.data.toList = k
    · subst e
      rw [has_put_same h1.isMap hkey]
      simp
    · rw [has_put_other (hne _ _ (fun x => e x.symm)), h3]
      simp [e]
  · rcases mem_insE.1 hl with hl' | rfl
    · rw [if_neg (hnk l hl'), atKey_put_other (hne _ _ (hnk l hl')), h4 l hl']
    · rw [if_pos rfl]
      exact atKey_put_same h1.isMap hkey _ _
  · rcases mem_insE.1 hl with hl' | rfl
    · rw [if_neg (hnk l hl'), if_neg (hnk l hl'), hold _ (blk_lt (h.line l hl')) (h.ne_map (h.line l hl'))]
      exact h.line l hl'
    · rw [if_pos rfl, if_pos rfl]
      exact hnew2
  · rcases mem_insE.1 hl with hl' | rfl
    · rw [if_neg (hnk l hl')]
      refine own_same (h.row l hl') fun g hg => ?_
      obtain ⟨_, hlt, cur, hc⟩ := own_blk (h.row l hl') hg
      exact hold g hlt (h.ne_map hc)
    · rw [if_pos rfl]
      exact ⟨rfl, .inl ⟨rfl, rfl⟩⟩
  · rcases mem_insE.1 hl with hl' | rfl
    · rcases mem_insE.1 hm with hm' | rfl
      · rw [if_neg (hnk l hl'), if_neg (hnk m hm')] at e
        exact h.inj l m hl' hm' e
      · rw [if_neg (hnk l hl'), if_pos rfl] at e
        exact absurd (blk_lt (h.line l hl')) (by omega)
    · rcases mem_insE.1 hm with hm' | rfl
      · rw [if_neg (hnk m hm'), if_pos rfl] at e
        exact absurd (blk_lt (h.line m hm')) (by omega)
      · rfl
  · rcases mem_insE.1 hl with hl' | rfl
    · rcases mem_insE.1 hm with hm' | rfl
      · rw [if_neg (hnk l hl'), if_neg (hnk m hm')]
        exact h.apart l m hl' hm' e
      · rw [if_neg (hnk l hl'), if_pos rfl]
        cases (sv l.key).ownBlock with
        | none => exact .inl rfl
        | some g => exact .inr (fun x => by cases x)
    · rw [if_pos rfl]
      exact .inl rfl
  · rcases mem_insE.1 hl with hl' | rfl
    · exact h.len l hl'
    · show s.data.toList.length ≤ 1000
      rw [Array.length_toList]
      exact hs
  · rcases mem_insE.1 hl with hl' | rfl
    · rw [if_neg (hnk l hl')]
      exact h.nil l hl' hp
    · exact if_pos rfl
/-- The row of a line has grown by a point, and the line says so. -/
theorem HeadAt.put {w w7 : World} {hb mb : Nat} {S : List Sr} {bl : List UInt8 → Nat} {sv : List UInt8 → Value} (h : HeadAt w hb mb S bl sv) (hS : S.Pairwise fun a b => a.key < b.key) {l : Sr} (hl : l ∈ S) (p : Int × Nat) (g cap : Nat)
    (hown7 : w7.ownsRow 0 55 2 (.slice (some ⟨g, 0, none⟩) (l.pts.length + 1) cap) (l.pts.length + 1) (pairCells (l.pts ++ [p]))) (hk7 : ∀ b, b < w.heap.size → (sv l.key).ownBlock ≠ some b → w7.heap[b]? = w.heap[b]?) (hg : (sv l.key).ownBlock = some g ∨ w.heap.size ≤ g) :
    HeadAt ((w7.setCell ⟨bl l.key, 0, none⟩ (.slice (some ⟨g, 0, none⟩) (l.pts.length + 1) cap)).setCell ⟨bl l.key, 1, none⟩ (.int .i64 p.1)) hb mb (addS S l.key p) bl (fun x => if x = l.key then .slice (some ⟨g, 0, none⟩) (l.pts.length + 1) cap else sv x) := by
  have hkn : known S l.key = true := known_iff.2 ⟨l, hl, rfl⟩
  have hmem : ∀ x, x ∈ addS S l.key p → (x ∈ S ∧ x.key ≠ l.key) ∨ x = ⟨l.key, l.pts ++ [p], p.1⟩ := fun x hx => by
    rcases (mem_addS hS).1 hx with h1 | ⟨m, hm, e, rfl⟩ | ⟨h1, _⟩
    · exact .inl h1
    · have := uniq hS hm hl e
      subst this
      exact .inr rfl
    · rw [hkn] at h1; cases h1
  have hline := h.line l hl
  have hrow := h.row l hl
  have hbr : (sv l.key).ownBlock ≠ some (bl l.key) := fun e => by
    obtain ⟨_, _, cur, hc⟩ := own_blk hrow e
    exact cells_ne hc hline (by decide) rfl
  have hl7 := (hk7 _ (blk_lt hline) hbr).trans hline
  have hb8 := block_set (block_set hl7 0 (.slice (some ⟨g, 0, none⟩) (l.pts.length + 1) cap)) 1 (.int .i64 p.1)
  have hoth : ∀ b, b ≠ bl l.key → ((w7.setCell ⟨bl l.key, 0, none⟩ (.slice (some ⟨g, 0, none⟩) (l.pts.length + 1) cap)).setCell ⟨bl l.key, 1, none⟩ (.int .i64 p.1)).heap[b]? = w7.heap[b]? := fun b hb' => by
    rw [Below.heap_setCell _ _ _ _ hb', Below.heap_setCell _ _ _ _ hb']
  have hold : ∀ b, b < w.heap.size → b ≠ bl l.key → (sv l.key).ownBlock ≠ some b → ((w7.setCell ⟨bl l.key, 0, none⟩ (.slice (some ⟨g, 0, none⟩) (l.pts.length + 1) cap)).setCell ⟨bl l.key, 1, none⟩ (.int .i64 p.1)).heap[b]? = w.heap[b]? := fun b h1 h2 h3 => (hoth b h2).trans (hk7 b h1 h3)
  have hnr : ∀ b, (∀ cur, w.heap[b]? ≠ some (.cells cur 55 (0, 0))) → (sv l.key).ownBlock ≠ some b := fun b hb' e => by
    obtain ⟨_, _, cur, hc⟩ := own_blk hrow e
    exact hb' cur hc
  obtain ⟨D, h1, h2, h3, h4⟩ := h.map
  have hg7 := own_blk hown7 (show (Value.slice (some ⟨g, 0, none⟩) (l.pts.length + 1) cap).ownBlock = some g from rfl)
  obtain ⟨_, hg7l, curg, hg7c⟩ := hg7
  have hlen : (addS S l.key p).length = S.length := by rw [length_addS _ _ _ hS, if_pos hkn]
  have hxg : ∀ x, x ∈ S → x.key ≠ l.key → (sv x.key).ownBlock ≠ some g := fun x hx hne e => by
    rcases hg with hg | hg
    · rcases h.apart x l hx hl hne with h5 | h5
      · rw [h5] at e; cases e
      · rw [hg] at h5; exact h5 e
    · have := (own_blk (h.row x hx) e).2.1
      omega
  refine ⟨?_, ⟨D, ?_, by rw [hlen]; exact h2, fun k => ?_, fun x hx z => ?_⟩, fun x hx => ?_, fun x hx => ?_, fun x y hx hy e => ?_, fun x y hx hy e => ?_, fun x hx => ?_, fun x hx hp => ?_⟩
  · rw [hold hb (blk_lt h.head) (cells_ne h.head hline (by decide)) (hnr _ fun cur e => by rw [h.head] at e; injection e with e; injection e with _ e2; revert e2; decide)]
    exact h.head
  · rw [hlen]
    have hmb : ∀ cs t f, w.heap[mb]? ≠ some (.cells cs t f) := fun cs t f e => (h.ne_map e) rfl
    refine ownsMap_same h1 (hold mb h1.lt (fun e => hmb _ _ _ (e ▸ hline)) (hnr _ fun cur => hmb cur _ _))
  · rw [h3]
    cases e : known (addS S l.key p) k with
    | true =>
      obtain ⟨x, hx, hxk⟩ := known_iff.1 e
      rcases hmem x hx with ⟨hx', _⟩ | rfl
      · exact known_iff.2 ⟨x, hx', hxk⟩
      · exact known_iff.2 ⟨l, hl, hxk⟩
    | false =>
      cases e2 : known S k with
      | false => rfl
      | true =>
        obtain ⟨x, hx, hxk⟩ := known_iff.1 e2
        by_cases hxl : x.key = l.key
        · rw [known_iff.2 ⟨⟨l.key, l.pts ++ [p], p.1⟩, (mem_addS hS).2 (.inr (.inl ⟨l, hl, rfl, rfl⟩)), by rw [← hxl]; exact hxk⟩] at e
          cases e
        · rw [known_iff.2 ⟨x, (mem_addS hS).2 (.inl ⟨hx, hxl⟩), hxk⟩] at e
          cases e
  · rcases hmem x hx with ⟨hx', _⟩ | rfl
    · exact h4 x hx' z
    · exact h4 l hl z
  · rcases hmem x hx with ⟨hx', hne⟩ | rfl
    · rw [if_neg hne, hold _ (blk_lt (h.line x hx')) (fun e => hne (h.inj x l hx' hl e)) (hnr _ fun cur e => by rw [h.line x hx'] at e; injection e with e; injection e with _ e2; revert e2; decide)]
      exact h.line x hx'
    · rw [if_pos rfl]
      exact hb8.trans (by simp)
  · rcases hmem x hx with ⟨hx', hne⟩ | rfl
    · rw [if_neg hne]
      refine own_same (h.row x hx') fun j hj => ?_
      obtain ⟨_, hlt, cur, hc⟩ := own_blk (h.row x hx') hj
      refine hold j hlt (cells_ne hc hline (by decide)) (fun e => ?_)
      rcases h.apart x l hx' hl hne with h5 | h5
      · rw [h5] at hj; cases hj
      · rw [hj, e] at h5; exact h5 rfl
    · rw [if_pos rfl]
      have hle : (l.pts ++ [p]).length = l.pts.length + 1 := by simp
      show World.ownsRow _ 0 55 2 _ (l.pts ++ [p]).length _
      rw [hle]
      refine own_same hown7 fun j hj => ?_
      simp [Value.ownBlock] at hj
      subst hj
      exact hoth g (cells_ne hg7c hl7 (by decide))
  · have key : ∀ z, z ∈ addS S l.key p → ∃ y, y ∈ S ∧ y.key = z.key := fun z hz => by
      rcases hmem z hz with ⟨hz', _⟩ | rfl
      · exact ⟨z, hz', rfl⟩
      · exact ⟨l, hl, rfl⟩
    obtain ⟨x', hx', ex⟩ := key x hx
    obtain ⟨y', hy', ey⟩ := key y hy
    rw [← ex, ← ey] at e ⊢
    exact h.inj x' y' hx' hy' e
  · rcases hmem x hx with ⟨hx', hne⟩ | rfl
    · rcases hmem y hy with ⟨hy', hne'⟩ | rfl
      · rw [if_neg hne, if_neg hne']
        exact h.apart x y hx' hy' e
      · rw [if_neg hne, if_pos rfl]
        exact .inr (hxg x hx' hne)
    · rcases hmem y hy with ⟨hy', hne'⟩ | rfl
      · rw [if_pos rfl, if_neg hne']
        exact .inr (fun e' => hxg y hy' hne' e'.symm)
      · exact absurd rfl e
  · rcases hmem x hx with ⟨hx', hne⟩ | rfl
    · exact h.len x hx'
    · exact h.len l hl
  · rcases hmem x hx with ⟨hx', hne⟩ | rfl
    · rw [if_neg hne]
      exact h.nil x hx' hp
    · exact absurd hp (by simp)
end Go.Proofs.YtfanagohfimnkaaDoor
