/- The document's head: Add by its contract. -/
import Derived.Test.YtfanagohfimnkaaDoorMdPut
import Derived.Test.YtfanagohfimnkaaDoorMdAtGroup
import Derived.Test.YtfanagohfimnkaaDoorHeadAdd
import Derived.Test.YtfanagohfimnkaaDoorHeadStGroup
import Derived.Deep.CutRange
import Derived.Test.YtfanagohfimnkaaDoorCoded2
import Derived.Test.YtfanagohfimnkaaDoorCMergeGroup
namespace Go.Proofs.YtfanagohfimnkaaDoor
open Go.RowKit Go.Maps HeadMath LabMath PtMath

theorem key_ne {S : List Sr} (hS : S.Pairwise fun a b => a.key < b.key) {i j : Nat} (hi : i < S.length) (hj : j < S.length) (hne : j ≠ i) : (S[j]).key ≠ (S[i]).key := by
  intro e
  rcases Nat.lt_or_gt_of_ne hne with h | h
  · exact absurd (e ▸ List.pairwise_iff_getElem.1 hS j i hj hi h) (List.lt_irrefl _)
  · exact absurd (e ▸ List.pairwise_iff_getElem.1 hS i j hi hj h) (List.lt_irrefl _)
theorem mem_mfoot {mh : Nat} {v : Value} {S : List Sr} {sv : List UInt8 → Value} {x : Nat} : x ∈ mfoot mh v S sv ↔ x = mh ∨ v.ownBlock = some x ∨ ∃ l, l ∈ S ∧ (sv l.key).ownBlock = some x := by
  simp only [mfoot, List.cons_append, List.mem_cons, List.mem_append, List.mem_flatMap, Option.mem_toList]
theorem MAt.ne {w : World} {mh : Nat} {v : Value} {S : List Sr} {sv : List UInt8 → Value} (h : MAt w mh v S sv) {b : Nat} {cs : Array Value} {t : TypeId} {f : Nat × Nat} (hb : w.heap[b]? = some (.cells cs t f)) (h1 : t ≠ 75) (h2 : t ≠ 109) (h3 : t ≠ 55) : b ∉ mfoot mh v S sv := fun hx => by
  rcases mem_mfoot.1 hx with rfl | hg | ⟨l, hl, hg⟩
  · exact cells_ne hb h.head h1 rfl
  · obtain ⟨_, _, cur, hc⟩ := own_blk h.row hg
    exact cells_ne hb hc h2 rfl
  · obtain ⟨_, _, cur, hc⟩ := own_blk (h.pts l hl) hg
    exact cells_ne hb hc h3 rfl
/-- A line is turned. -/
theorem MAt.turn {w : World} {mh g cap : Nat} {S : List Sr} {sv : List UInt8 → Value} (h : MAt w mh (.slice (some ⟨g, 0, none⟩) S.length cap) S sv) (hS : S.Pairwise fun a b => a.key < b.key) {i : Nat} (hi : i < S.length) {k : List UInt8} (hk : (S[i]).key = k) (pts : List (Int × Nat)) (last : Int) (vo : Value) (ho : w.ownsRow 0 55 2 vo pts.length (pairCells pts)) :
    MAt (((w.setCell ⟨g, i * 3, none⟩ (encStr k)).setCell ⟨g, i * 3 + 1, none⟩ vo).setCell ⟨g, i * 3 + 2, none⟩ (.int .i64 last)) mh (.slice (some ⟨g, 0, none⟩) S.length cap) (S.set i ⟨k, pts, last⟩) (fun x => if x = k then vo else sv x) ∧
      ∀ x, x ∈ mfoot mh (.slice (some ⟨g, 0, none⟩) S.length cap) (S.set i ⟨k, pts, last⟩) (fun x => if x = k then vo else sv x) → x ∈ mfoot mh (.slice (some ⟨g, 0, none⟩) S.length cap) S sv ∨ vo.ownBlock = some x := by
  have hmem : ∀ l, l ∈ S.set i ⟨k, pts, last⟩ → l = ⟨k, pts, last⟩ ∨ (l ∈ S ∧ l.key ≠ k) := fun l hl => by
    obtain ⟨j, hj, rfl⟩ := List.mem_iff_getElem.1 hl
    rw [List.length_set] at hj
    rw [List.getElem_set]
    by_cases e : i = j
    · rw [if_pos e]; exact .inl rfl
    · rw [if_neg e]
      refine .inr ⟨List.getElem_mem hj, ?_⟩
      exact fun e' => key_ne hS hi hj (fun e2 => e e2.symm) (e'.trans hk.symm)
  have hgb : ∃ cur, w.heap[g]? = some (.cells cur 109 (0, 0)) := by
    obtain ⟨_, _, cur, hc⟩ := own_blk h.row (g := g) rfl
    exact ⟨cur, hc⟩
  obtain ⟨cur, hgc⟩ := hgb
  have hoth : ∀ b, b ≠ g → (((w.setCell ⟨g, i * 3, none⟩ (encStr k)).setCell ⟨g, i * 3 + 1, none⟩ vo).setCell ⟨g, i * 3 + 2, none⟩ (.int .i64 last)).heap[b]? = w.heap[b]? := fun b hb => by
    rw [Below.heap_setCell _ _ _ _ hb, Below.heap_setCell _ _ _ _ hb, Below.heap_setCell _ _ _ _ hb]
  have hpt : ∀ v n xs, w.ownsRow 0 55 2 v n xs → (((w.setCell ⟨g, i * 3, none⟩ (encStr k)).setCell ⟨g, i * 3 + 1, none⟩ vo).setCell ⟨g, i * 3 + 2, none⟩ (.int .i64 last)).ownsRow 0 55 2 v n xs := fun v n xs hv => own_same hv fun b hb => by
    obtain ⟨_, _, cur', hc⟩ := own_blk hv hb
    exact hoth b (cells_ne hc hgc (by decide))
  refine ⟨⟨?_, ?_, fun l hl => ?_⟩, fun x hx => ?_⟩
  · rw [hoth mh (cells_ne h.head hgc (by decide))]
    exact h.head
  · have h3 := own_set1 (own_set1 (own_set1 h.row (i * 3) (encStr k)) (i * 3 + 1) vo) (i * 3 + 2) (.int .i64 last)
    rw [List.length_set, lineCells_set S i hi sv (fun x => if x = k then vo else sv x) ⟨k, pts, last⟩ (fun j hj hne => if_neg (fun e' => key_ne hS hi hj hne (e'.trans hk.symm)))]
    show World.ownsRow _ _ _ _ _ _ (((_ : List Value).set _ _).set _ (if k = k then vo else sv k) |>.set _ _)
    rw [if_pos rfl]
    exact h3
  · rcases hmem l hl with rfl | ⟨hl', hne⟩
    · show World.ownsRow _ 0 55 2 (if k = k then vo else sv k) pts.length (pairCells pts)
      rw [if_pos rfl]
      exact hpt _ _ _ ho
    · rw [if_neg hne]
      exact hpt _ _ _ (h.pts l hl')
  · rcases mem_mfoot.1 hx with rfl | hg | ⟨l, hl, hg⟩
    · exact .inl (mem_mfoot.2 (.inl rfl))
    · exact .inl (mem_mfoot.2 (.inr (.inl hg)))
    · rcases hmem l hl with rfl | ⟨hl', hne⟩
      · have : (if k = k then vo else sv k).ownBlock = some x := hg
        rw [if_pos rfl] at this
        exact .inr this
      · rw [if_neg hne] at hg
        exact .inl (mem_mfoot.2 (.inr (.inr ⟨l, hl', hg⟩)))
/-- On the way: the series is known, its line found. -/
structure MAddMid (w wx : World) (mh : Nat) (v : Value) (S : List Sr) (sv : List UInt8 → Value) (k : List UInt8) (t : Int) (u : Nat) (fb : Nat) (v1 : Value) (S1 : List Sr) (sv1 : List UInt8 → Value) (i : Nat) : Prop where
  mat : MAt wx mh v1 S1 sv1
  pt : wx.heap[w.heap.size]? = some (.cells #[.int .i64 t, .int .u64 (u : Int)] 55 (0, 0))
  rt : wx.heap[w.heap.size + 1]? = some (.cells #[.int .i64 0, .int .i64 0] 36 (0, 0))
  ft : wx.heap[fb]? = some (.cells #[.int .i64 0, .int .i64 (-1)] 36 (0, 0))
  far : w.heap.size + 1 < fb
  idx : ∃ hi : i < S1.length, (S1[i]).key = k
  srt : S1.Pairwise fun a b => a.key < b.key
  add : addS S1 k (t, u) = addS S k (t, u)
  pts : ∀ l, l ∈ S1 → l.pts.length ≤ 900
  len : S1.length ≤ 1000
  kept : Kept (mh :: v.ownBlock.toList) w wx
  sub : ∀ x, x ∈ mfoot mh v1 S1 sv1 → x ∈ mfoot mh v S sv ∨ w.heap.size ≤ x
  own : ∀ g, v1.ownBlock = some g → g ∈ mh :: v.ownBlock.toList ∨ w.heap.size ≤ g
def MAddOut (w w' : World) (mh : Nat) (v : Value) (S : List Sr) (sv : List UInt8 → Value) (k : List UInt8) (t : Int) (u : Nat) (e : Ending) : Prop :=
  e = .returned (.agg #[.int .i64 (addC S k t), .int .i64 (addA k)]) ∧ (0 < addC S k t → Below w.heap.size w w') ∧ (addC S k t = 0 → ∃ v' sv', MAt w' mh v' (addS S k (t, u)) sv' ∧ Kept (mh :: v.ownBlock.toList) w w' ∧ ∀ x, x ∈ mfoot mh v' (addS S k (t, u)) sv' → x ∈ mfoot mh v S sv ∨ w.heap.size ≤ x)
/-- What is left when the line is turned. -/
structure MAddEnd (w w8 : World) (mh : Nat) (v : Value) (S : List Sr) (sv : List UInt8 → Value) (k : List UInt8) (t : Int) (u : Nat) (fb : Nat) : Prop where
  mat : ∃ v' sv', MAt w8 mh v' (addS S k (t, u)) sv' ∧ ∀ x, x ∈ mfoot mh v' (addS S k (t, u)) sv' → x ∈ mfoot mh v S sv ∨ w.heap.size ≤ x
  rt : w8.heap[w.heap.size + 1]? = some (.cells #[.int .i64 0, .int .i64 0] 36 (0, 0))
  ft : w8.heap[fb]? = some (.cells #[.int .i64 0, .int .i64 (-1)] 36 (0, 0))
  far : w.heap.size + 1 < fb
  kept : Kept (mh :: v.ownBlock.toList) w w8
noncomputable def maddE : Code := tailC 9 (Tryd.f28.body.getD .skip)

set_option maxRecDepth 1000000 in
theorem madd_end (w w8 : World) (mh : Nat) (v : Value) (S : List Sr) (sv : List UInt8 → Value) (k : List UInt8) (t : Int) (u : Nat) (hz : addC S k t = 0) (hza : addA k = -1) (fb : Nat) (h : MAddEnd w w8 mh v S sv k t u fb)
    (x0 x1 x2 x3 x4 x5 x8 x9 x10 x11 x12 x13 x14 x15 x16 x17 x18 x19 x20 x21 x22 x23 x24 x25 x26 x27 x28 x29 x30 x31 x32 x33 x34 x35 x36 x37 x38 x39 x40 x41 x42 x43 x44 x45 x46 x47 x48 x49 x50 x51 x52 x53 x54 x55 x56 x57 x58 x59 x60 x61 x62 x63 x64 x65 x66 x67 x68 x69 x70 x71 x72 x73 x74 x75 x76 x77 x78 x79 x80 x81 x82 x83 x84 x85 x86 x87 x88 x89 x90 x91 x92 x93 x94 x95 : Value) :
    Code.wp Tryd.prog maddE (bodyPost Tryd.prog Tryd.f28 fun e w' => MAddOut w w' mh v S sv k t u e) ⟨#[x0, x1, x2, x3, x4, x5, .pointer (some ⟨w.heap.size + 1, 0, none⟩), .pointer (some ⟨fb, 0, none⟩), x8, x9, x10, x11, x12, x13, x14, x15, x16, x17, x18, x19, x20, x21, x22, x23, x24, x25, x26, x27, x28, x29, x30, x31, x32, x33, x34, x35, x36, x37, x38, x39, x40, x41, x42, x43, x44, x45, x46, x47, x48, x49, x50, x51, x52, x53, x54, x55, x56, x57, x58, x59, x60, x61, x62, x63, x64, x65, x66, x67, x68, x69, x70, x71, x72, x73, x74, x75, x76, x77, x78, x79, x80, x81, x82, x83, x84, x85, x86, x87, x88, x89, x90, x91, x92, x93, x94, x95], []⟩ w8 := by
  conv => arg 2; whnf
  have HM := (show Hid _ from h)
  have HZ := (show Hid _ from And.intro hz hza)
  have hrt := h.rt
  have hft := h.ft
  have r0 : w8.cell? ⟨w.heap.size + 1, 0, none⟩ = some (.int .i64 0) := by simp [World.cell?, hrt]
  have r1 : w8.cell? ⟨w.heap.size + 1, 1, none⟩ = some (.int .i64 0) := by simp [World.cell?, hrt]
  have z0 : w8.frozen? ⟨w.heap.size + 1, 0, none⟩ = false := by simp [World.frozen?, hrt]
  have z1 : w8.frozen? ⟨w.heap.size + 1, 1, none⟩ = false := by simp [World.frozen?, hrt]
  have f0 : w8.cell? ⟨fb, 0, none⟩ = some (.int .i64 0) := by simp [World.cell?, hft]
  have f1 : w8.cell? ⟨fb, 1, none⟩ = some (.int .i64 (-1)) := by simp [World.cell?, hft]
  clear h hz hza hrt hft
  go_wp2
  refine bodyPost_ret (v := .agg #[.int .i64 0, .int .i64 (-1)]) (by simp [results, Tryd.results28, go_sem, r0, r1]) rfl ⟨by rw [HZ.out.1, HZ.out.2], fun h0 => absurd h0 (by rw [HZ.out.1]; decide), fun _ => ?_⟩
  obtain ⟨v', sv', hm, hs⟩ := HM.out.mat
  refine ⟨v', sv', hm.same fun b hb => ?_, (HM.out.kept.setCell (p := ⟨w.heap.size + 1, 0, none⟩) (.inr (Nat.le_succ _)) _).setCell (p := ⟨w.heap.size + 1, 1, none⟩) (.inr (Nat.le_succ _)) _, hs⟩
  have hne : b ≠ w.heap.size + 1 := fun e => hm.ne HM.out.rt (by decide) (by decide) (by decide) (e ▸ hb)
  rw [Below.heap_setCell _ _ _ _ hne, Below.heap_setCell _ _ _ _ hne]
theorem at_le {vo : Value} {g7 N M : Nat} (h : vo.ownBlock = some g7 ∨ g7 = N) (h1 : ∀ b, vo.ownBlock = some b → M < b) (hN : M ≤ N) : M ≤ g7 := by
  rcases h with e | e
  · exact Nat.le_of_lt (h1 _ e)
  · omega
theorem madd_done {w wx w7 : World} {mh : Nat} {v : Value} {S : List Sr} {sv : List UInt8 → Value} {s : ByteArray} {t : Int} {u fb g cap : Nat} {S1 : List Sr} {sv1 : List UInt8 → Value} {i : Nat} (h : MAddMid w wx mh v S sv s.data.toList t u fb (.slice (some ⟨g, 0, none⟩) S1.length cap) S1 sv1 i) (hi : i < S1.length) {ps : List (Int × Nat)} {q g7 cap7 : Nat} (hps : ps = (S1[i]).pts) (hq : q = ps.length) (hb7 : Below wx.heap.size wx w7)
    (ho : w7.ownsRow 0 55 2 (.slice (some ⟨g7, 0, none⟩) (q + 1) cap7) (q + 1) (pairCells ps ++ [.int .i64 t, .int .u64 (u : Int)])) (hg7 : wx.heap.size ≤ g7) :
    MAddEnd w (((w7.setCell ⟨g, i * 3, none⟩ (.string s)).setCell ⟨g, i * 3 + 1, none⟩ (.slice (some ⟨g7, 0, none⟩) (q + 1) cap7)).setCell ⟨g, i * 3 + 2, none⟩ (.int .i64 t)) mh v S sv s.data.toList t u fb := by
  obtain ⟨_, hik⟩ := h.idx
  have hm7 := h.mat.below hb7
  have hwx := h.kept.size
  rw [pairCells_snoc ps (t, u)] at ho
  have hlen : (ps ++ [(t, u)]).length = q + 1 := by rw [List.length_append, hq]; rfl
  have ho' : w7.ownsRow 0 55 2 (.slice (some ⟨g7, 0, none⟩) (q + 1) cap7) (ps ++ [(t, u)]).length (pairCells (ps ++ [(t, u)])) := by rw [hlen]; exact ho
  obtain ⟨q1, q2⟩ := hm7.turn h.srt hi hik (ps ++ [(t, u)]) t (.slice (some ⟨g7, 0, none⟩) (q + 1) cap7) ho'
  have hset : S1.set i ⟨s.data.toList, ps ++ [(t, u)], t⟩ = addS S s.data.toList (t, u) := by rw [← h.add, addS_set hi h.srt hik, hps]
  rw [hset] at q1 q2
  obtain ⟨_, hgl, cur, hgc⟩ := own_blk h.mat.row (g := g) rfl
  have hoth : ∀ b, b ≠ g → (((w7.setCell ⟨g, i * 3, none⟩ (.string s)).setCell ⟨g, i * 3 + 1, none⟩ (.slice (some ⟨g7, 0, none⟩) (q + 1) cap7)).setCell ⟨g, i * 3 + 2, none⟩ (.int .i64 t)).heap[b]? = w7.heap[b]? := fun b hb => by
    rw [Below.heap_setCell _ _ _ _ hb, Below.heap_setCell _ _ _ _ hb, Below.heap_setCell _ _ _ _ hb]
  have hk7 : Kept [g] wx w7 := Kept.of_below hb7
  refine ⟨⟨_, _, q1, fun x hx => ?_⟩, ?_, ?_, h.far, h.kept.trans (((hk7.setCell (.inl (List.mem_singleton.2 rfl)) _).setCell (.inl (List.mem_singleton.2 rfl)) _).setCell (.inl (List.mem_singleton.2 rfl)) _) (fun x hx => ?_)⟩
  · rcases q2 x hx with h1 | h1
    · exact h.sub x h1
    · simp [Value.ownBlock] at h1
      subst h1
      exact .inr (Nat.le_trans hwx hg7)
  · rw [hoth _ (cells_ne h.rt hgc (by decide)), hb7.block _ (blk_lt h.rt)]
    exact h.rt
  · rw [hoth _ (cells_ne h.ft hgc (by decide)), hb7.block _ (blk_lt h.ft)]
    exact h.ft
  · simp at hx
    subst hx
    exact h.own x rfl
noncomputable def maddT : Code := tailC 5 (Tryd.f28.body.getD .skip)

set_option maxRecDepth 1000000 in
set_option maxHeartbeats 4000000 in
theorem madd_tail (w wx : World) (mh : Nat) (v : Value) (S : List Sr) (sv : List UInt8 → Value) (s : ByteArray) (t : Int) (u : Nat) (hz : addC S s.data.toList t = 0) (hza : addA s.data.toList = -1) (fb : Nat) (v1 : Value) (S1 : List Sr) (sv1 : List UInt8 → Value) (i : Nat) (h : MAddMid w wx mh v S sv s.data.toList t u fb v1 S1 sv1 i)
    (x3 x4 x9 x10 x11 x12 x13 x14 x15 x16 x17 x18 x19 x20 x21 x22 x23 x24 x25 x26 x27 x28 x29 x30 x31 x32 x33 x34 x35 x36 x37 x38 x39 x40 x41 x42 x43 x44 x45 x46 x47 x48 x49 x50 x51 x52 x53 x54 x55 x56 x57 x58 x59 x60 x61 x62 x63 x64 x65 x66 x67 x68 x69 x70 x71 x72 x73 x74 x75 x76 x77 x78 x79 x80 x81 x82 x83 x84 x85 x86 x87 x88 x89 x90 x91 x92 x93 x94 x95 : Value) :
    Code.wp Tryd.prog maddT (bodyPost Tryd.prog Tryd.f28 fun e w' => MAddOut w w' mh v S sv s.data.toList t u e) ⟨#[.pointer (some ⟨mh, 0, none⟩), .string s, .agg #[.int .i64 t, .int .u64 (u : Int)], x3, x4, .pointer (some ⟨w.heap.size, 0, none⟩), .pointer (some ⟨w.heap.size + 1, 0, none⟩), .pointer (some ⟨fb, 0, none⟩), .int .i64 (i : Int), x9, x10, x11, x12, x13, x14, x15, x16, x17, x18, x19, x20, x21, x22, x23, x24, x25, x26, x27, x28, x29, x30, x31, x32, x33, x34, x35, x36, x37, x38, x39, x40, x41, x42, x43, x44, x45, x46, x47, x48, x49, x50, x51, x52, x53, x54, x55, x56, x57, x58, x59, x60, x61, x62, x63, x64, x65, x66, x67, x68, x69, x70, x71, x72, x73, x74, x75, x76, x77, x78, x79, x80, x81, x82, x83, x84, x85, x86, x87, x88, x89, x90, x91, x92, x93, x94, x95], []⟩ wx := by
  conv => arg 2; whnf
  have HM := (show Hid _ from h)
  have HZ := (show Hid _ from And.intro hz hza)
  obtain ⟨hi, hik⟩ := h.idx
  obtain ⟨a, cap, hv1, hcap, hat⟩ := h.mat.open
  obtain ⟨g, rfl, l0, l1, l2⟩ := hat i hi
  subst hv1
  have m0 := h.mat.cell
  rw [hik] at l0 l1
  obtain ⟨vp, hvp⟩ : ∃ vp, vp = sv1 s.data.toList := ⟨_, rfl⟩
  obtain ⟨ps, hps⟩ : ∃ ps, ps = (S1[i]).pts := ⟨_, rfl⟩
  have hprow := h.mat.pts _ (List.getElem_mem hi)
  rw [hik, ← hvp, ← hps] at hprow
  rw [← hvp] at l1
  have hpl : ps.length ≤ 900 := by rw [hps]; exact h.pts _ (List.getElem_mem hi)
  obtain ⟨pa, pc, hvs, _, hpts, _⟩ := own_pairs hprow
  obtain ⟨la, hla⟩ : ∃ la, la = (S1[i]).last := ⟨_, rfl⟩
  rw [← hla] at l2
  obtain ⟨n1, hn1⟩ : ∃ n1, n1 = S1.length := ⟨_, rfl⟩
  have hn1l : n1 ≤ 1000 := by rw [hn1]; exact h.len
  rw [← hn1] at m0
  obtain ⟨q, hq⟩ : ∃ q, q = ps.length := ⟨_, rfl⟩
  rw [← hq] at hvs
  subst hvs
  have hi0 : (0 : Int) ≤ (i : Int) := by omega
  have hi1 : (i : Int) < (n1 : Int) := by omega
  rw [show encStr s.data.toList = .string s from rfl] at l0
  obtain ⟨iP, hI, hI0, hI1, hI2⟩ := info_parts Tryd.infoPt
  have HII := (show Hid _ from hI)
  have HQ := (show Hid _ from And.intro hvp (And.intro hps (And.intro hla (And.intro hn1 hq))))
  have HPT := (show Hid _ from hpts)
  obtain ⟨WA, hWA⟩ : ∃ WA, WA = wx.alloc (.cells #[.string s, .slice pa q pc, .int .i64 la] 109) := ⟨_, rfl⟩
  have hbA : Below wx.heap.size wx WA := by rw [hWA]; exact (Below.refl _ _).alloc (Nat.le_refl _) _
  have hszA : WA.heap.size = wx.heap.size + 1 := by rw [hWA]; simp
  have HP : Hid (q = 0 ∨ ∃ b p, pa = some ⟨b, p, none⟩ ∧ ∀ j z, (pairCells ps)[j]? = some z → WA.cell? ((⟨b, p, none⟩ : Addr).add j) = some z) := by
    rcases hpts.below hbA with h0 | ⟨b, p, h1, hc⟩
    · exact .inl (by rw [hq, h0]; rfl)
    · exact .inr ⟨b, p, h1, news_pts hc⟩
  have hql : q ≤ 900 := by omega
  have hPL : (pairCells ps).length = q * 2 := by rw [length_pairCells, hq]
  have HPL := (show Hid _ from hPL)
  have HWA : Hid (∀ wz, wz = wx.alloc (.cells #[.string s, .slice pa q pc, .int .i64 la] 109) → wz = WA) := fun wz hz => hz.trans hWA.symm
  have a1 : WA.cell? ⟨wx.heap.size, 1, none⟩ = some (.slice pa q pc) := by
    have := heap_alloc_new wx (.cells #[.string s, .slice pa q pc, .int .i64 la] 109)
    rw [hWA]
    simp only [World.cell?, this]
    rfl
  have HBA : Hid (Below wx.heap.size wx WA ∧ WA.heap.size = wx.heap.size + 1) := ⟨hbA, hszA⟩
  have HL := (show Hid _ from And.intro l0 (And.intro l1 l2))
  clear h hz hza hat hcap hik hvp hps hla hn1 hq hpts hprow hI hbA hWA hszA hpl hPL
  go_upto_region 15 with fail
  rw [HWA.out _ rfl]
  clear HWA l0 l1 l2
  go_wp2_with (at_builtin; refine wpList_append_gen rfl _ _ 67 rfl (wx.heap.size + 1) 55 iP (.agg #[.int .i64 0, .int .u64 0]) 2 16 Tryd.underlying67 HII.out hI0 hI1 hI2 rfl (by decide) _ 0 [] rfl ⟨rfl, .inl ⟨rfl, rfl⟩⟩ pa q pc (pairCells ps) rfl HPL.out HP.out (one_pairs ps) (by omega) (by decide) (by rw [HBA.out.2]; exact Nat.le_refl _) ?_)
  intro vo wq hoq hgq hatq
  have hbq : Below wx.heap.size wx wq := HBA.out.1.trans ⟨hgq.os, hgq.tape, hgq.output, hgq.size, fun b hb => hgq.block b (by rw [HBA.out.2]; omega) (by simp [Value.ownBlock])⟩
  have hMq := HM.out.mat.below hbq
  have HMQ := (show Hid _ from hMq)
  have hptq := (hbq.block _ (blk_lt HM.out.pt)).trans HM.out.pt
  have hftq := (hbq.block _ (blk_lt HM.out.ft)).trans HM.out.ft
  have hrtq := (hbq.block _ (blk_lt HM.out.rt)).trans HM.out.rt
  have HBQ : Hid (Below wx.heap.size wx wq ∧ wx.heap.size + 1 ≤ wq.heap.size) := ⟨hbq, by have := hgq.size; rw [HBA.out.2] at this; exact this⟩
  have hwq1 : wx.heap.size + 1 ≤ wq.heap.size := HBQ.out.2
  have HVO : Hid (∀ b, vo.ownBlock = some b → wx.heap.size < b) := fun b hb => by
    rcases hatq with e | e
    · rw [hb] at e; cases e
    · rw [hb, HBA.out.2] at e; injection e with e; omega
  have hgl : g < wq.heap.size := (own_blk hMq.row (g := g) rfl).2.1
  obtain ⟨cur, hgc⟩ := (own_blk hMq.row (g := g) rfl).2.2
  have hgx : g < wx.heap.size := (own_blk HM.out.mat.row (g := g) rfl).2.1
  have hwx : w.heap.size < wx.heap.size := blk_lt HM.out.pt
  have hfx : fb < wx.heap.size := blk_lt HM.out.ft
  have hrx : w.heap.size + 1 < wx.heap.size := blk_lt HM.out.rt
  have hmx : mh < wx.heap.size := blk_lt HM.out.mat.head
  have HBLK : Hid (wq.heap[w.heap.size]? = some (.cells #[.int .i64 t, .int .u64 (u : Int)] 55 (0, 0)) ∧ wq.heap[g]? = some (.cells cur 109 (0, 0)) ∧ wq.heap[fb]? = some (.cells #[.int .i64 0, .int .i64 (-1)] 36 (0, 0)) ∧ wq.heap[w.heap.size + 1]? = some (.cells #[.int .i64 0, .int .i64 0] 36 (0, 0))) := ⟨hptq, hgc, hftq, hrtq⟩
  have c0 : wq.cell? ⟨mh, 0, none⟩ = some (.slice (some ⟨g, 0, none⟩) n1 cap) := (hbq.cell (p := ⟨mh, 0, none⟩) hmx).trans m0
  have p0 : wq.cell? ⟨w.heap.size, 0, none⟩ = some (.int .i64 t) := by simp [World.cell?, hptq]
  have p1 : wq.cell? ⟨w.heap.size, 1, none⟩ = some (.int .u64 (u : Int)) := by simp [World.cell?, hptq]
  have hoq2 : wq.ownsRow 0 55 2 vo q (pairCells ps) := by
    obtain ⟨b1, b2⟩ := hoq
    refine ⟨b1, ?_⟩
    rcases b2 with b2 | ⟨g', c', cu', b3, _, b4⟩
    · exact .inl b2
    · exact .inr ⟨g', c', cu', b3, Nat.zero_le _, b4⟩
  have HOQ : Hid (wq.ownsRow 0 55 2 vo q (pairCells ps)) := hoq2
  have HY : Hid (Below wq.heap.size wq (wq.drew.alloc (.cells #[.int .i64 t, .int .u64 (u : Int)] 55))) := (Below.refl _ _).drew.alloc (Nat.le_refl _) _
  have HYR : Hid ((wq.drew.alloc (.cells #[.int .i64 t, .int .u64 (u : Int)] 55)).ownsRow 0 55 2 vo q (pairCells ps)) := own_same HOQ.out fun b hb => HY.out.block b (own_blk HOQ.out hb).2.1
  have HNEWS : Hid (∀ j z, ([.int .i64 t, .int .u64 (u : Int)] : List Value)[j]? = some z → (wq.drew.alloc (.cells #[.int .i64 t, .int .u64 (u : Int)] 55)).cell? ((⟨wq.heap.size, 0, none⟩ : Addr).add j) = some z) := World.news_of_block (heap_alloc_new wq.drew _)
  have H1C : Hid (∀ z ∈ ([.int .i64 t, .int .u64 (u : Int)] : List Value), z.oneCell' = true) := by
    intro z hz
    simp at hz
    rcases hz with rfl | rfl <;> rfl
  have pd0 : wq.drew.cell? ⟨w.heap.size, 0, none⟩ = some (.int .i64 t) := p0
  have pd1 : wq.drew.cell? ⟨w.heap.size, 1, none⟩ = some (.int .u64 (u : Int)) := p1
  have cd0 : wq.drew.cell? ⟨mh, 0, none⟩ = some (.slice (some ⟨g, 0, none⟩) n1 cap) := c0
  have pa0 : (wq.drew.alloc (.cells #[.int .i64 t, .int .u64 (u : Int)] 55)).cell? ⟨w.heap.size, 0, none⟩ = some (.int .i64 t) := (HY.out.cell (p := ⟨w.heap.size, 0, none⟩) (by show w.heap.size < wq.heap.size; omega)).trans p0
  have ca0 : (wq.drew.alloc (.cells #[.int .i64 t, .int .u64 (u : Int)] 55)).cell? ⟨mh, 0, none⟩ = some (.slice (some ⟨g, 0, none⟩) n1 cap) := (HY.out.cell (p := ⟨mh, 0, none⟩) (by show mh < wq.heap.size; omega)).trans c0
  have pb0 : (wq.alloc (.cells #[.int .i64 t, .int .u64 (u : Int)] 55)).cell? ⟨w.heap.size, 0, none⟩ = some (.int .i64 t) := pa0
  have cb0 : (wq.alloc (.cells #[.int .i64 t, .int .u64 (u : Int)] 55)).cell? ⟨mh, 0, none⟩ = some (.slice (some ⟨g, 0, none⟩) n1 cap) := ca0
  clear hoq hgq hatq hbq hMq hptq hftq hrtq hgc hoq2 HBA HP HPL a1 m0
  go_wp2_with fail
  go_region_law (refine step_append_lies _ (by rfl) _ _ 67 (by rfl) 0 55 iP (.agg #[.int .i64 0, .int .u64 0]) 2 16 Tryd.underlying67 HII.out hI0 hI1 hI2 (by rfl) (by decide) _ _ _ (by rfl) (by exact HYR.out) ⟨wq.heap.size, 0, none⟩ 1 1 [.int .i64 t, .int .u64 (u : Int)] (by rfl) (by rfl) (by exact HNEWS.out) H1C.out (by omega) (by unfold maxLen; omega) (by omega) (by omega) _ rfl ?_; intro g7 cap7 w7 hown7 hgrow7 hat7 hlt7; have hk7 : ∀ b, b < wx.heap.size → w7.heap[b]? = wq.heap[b]? := (fun b hb => (hgrow7.block b (by simp; omega) (fun e => by have := HVO.out b e.symm; omega)).trans (HY.out.block b (by omega))); have g0 : w7.cell? ⟨mh, 0, none⟩ = some (.slice (some ⟨g, 0, none⟩) n1 cap) := ((World.cell?_of_block (a := ⟨mh, 0, none⟩) (hk7 mh hmx)).trans c0); have p70 : w7.cell? ⟨w.heap.size, 0, none⟩ = some (.int .i64 t) := ((World.cell?_of_block (a := ⟨w.heap.size, 0, none⟩) (hk7 _ hwx)).trans p0); have hg7 : w7.heap[g]? = some (.cells cur 109 (0, 0)) := (hk7 g hgx).trans HBLK.out.2.1; have f0 : w7.frozen? ⟨g, i * 3, none⟩ = false := (by simp [World.frozen?, hg7]); have f1 : w7.frozen? ⟨g, i * 3 + 1, none⟩ = false := (by simp [World.frozen?, hg7]); have f2 : w7.frozen? ⟨g, i * 3 + 2, none⟩ = false := (by simp [World.frozen?, hg7]); have HB7 : Hid (Below wx.heap.size wx w7) := (HBQ.out.1.trans ⟨hgrow7.os.trans HY.out.os, hgrow7.tape.trans HY.out.tape, hgrow7.output.trans HY.out.output, Nat.le_trans HY.out.size hgrow7.size, hk7⟩); have HG0 : Hid (wx.heap.size ≤ g7) := at_le (vo := vo) hat7 HVO.out (Nat.le_trans (Nat.le_of_succ_le hwq1) HY.out.size); have hcg : ∀ j, w7.cell? ⟨g, j, none⟩ = wx.cell? ⟨g, j, none⟩ := (fun j => (World.cell?_of_block (a := ⟨g, j, none⟩) (hk7 g hgx)).trans (HBQ.out.1.cell (p := ⟨g, j, none⟩) hgx)); have l70 := (hcg (i * 3)).trans HL.out.1; have l71 := (hcg (i * 3 + 1)).trans HL.out.2.1; have l72 := (hcg (i * 3 + 2)).trans HL.out.2.2; have HO7 := (show Hid _ from hown7); clear hgrow7 hown7 hat7 hk7 hg7 hcg)
  all_goals (
    have hE := madd_done HM.out hi HQ.out.2.1 HQ.out.2.2.2.2 HB7.out HO7.out HG0.out
    apply_assumption
    exact madd_end w _ mh v S sv s.data.toList t u HZ.out.1 HZ.out.2 fb hE _ _ _ _ _ _ _ _ _ _ _ _ _ _ _ _ _ _ _ _ _ _ _ _ _ _ _ _ _ _ _ _ _ _ _ _ _ _ _ _ _ _ _ _ _ _ _ _ _ _ _ _ _ _ _ _ _ _ _ _ _ _ _ _ _ _ _ _ _ _ _ _ _ _ _ _ _ _ _ _ _ _ _ _ _ _ _ _ _ _ _ _ _ _)
end Go.Proofs.YtfanagohfimnkaaDoor
/- The document's head: Add by its contract, all of it. -/
namespace Go.Proofs.YtfanagohfimnkaaDoor
open Go.RowKit Go.Maps HeadMath LabMath PtMath

theorem add_at (b o j : Nat) : (⟨b, o, none⟩ : Addr).add j = ⟨b, o + j, none⟩ := by
  by_cases h : j = 0
  · subst h; simp [Addr.add]
  · simp [Addr.add, h]
theorem MAt.parts {w : World} {mh g cap : Nat} {S : List Sr} {sv : List UInt8 → Value} (h : MAt w mh (.slice (some ⟨g, 0, none⟩) S.length cap) S sv) {m : Nat} (hm : m ≤ S.length) :
    (∀ j u, (lineCells (S.take m) sv)[j]? = some u → w.cell? ((⟨g, 0, none⟩ : Addr).add j) = some u) ∧ (∀ j u, (lineCells (S.drop m) sv)[j]? = some u → w.cell? ((⟨g, m * 3, none⟩ : Addr).add j) = some u) := by
  have hsp : lineCells S sv = lineCells (S.take m) sv ++ lineCells (S.drop m) sv := by rw [← lineCells_append, List.take_append_drop]
  have hl1 : (lineCells (S.take m) sv).length = m * 3 := by rw [length_lineCells, List.length_take]; omega
  have hl2 : (lineCells (S.drop m) sv).length = (S.length - m) * 3 := by rw [length_lineCells, List.length_drop]
  rcases h.row.2 with ⟨hv, _⟩ | ⟨g', cap', cur, hv, _, hh, _, _, _, ht⟩
  · cases hv
  · injection hv with hv1 _ _
    injection hv1 with hv1
    injection hv1 with hv1
    subst hv1
    have hcell : ∀ j, j < S.length * 3 → w.cell? ⟨g, j, none⟩ = (lineCells S sv)[j]? := fun j hj => by
      have e0 : w.cell? ⟨g, j, none⟩ = cur[j]? := by simp [World.cell?, hh]
      rw [e0, ← Array.getElem?_toList, ← ht, List.getElem?_take_of_lt hj]
    refine ⟨fun j u hj => ?_, fun j u hj => ?_⟩
    · have hjl : j < m * 3 := by
        rcases Nat.lt_or_ge j (m * 3) with h1 | h1
        · exact h1
        · rw [List.getElem?_eq_none (by omega)] at hj; cases hj
      have : w.cell? ⟨g, 0 + j, none⟩ = some u := by rw [Nat.zero_add, hcell j (by omega), hsp, List.getElem?_append_left (by omega)]; exact hj
      rw [add_at]
      exact this
    · have hjl : j < (S.length - m) * 3 := by
        rcases Nat.lt_or_ge j ((S.length - m) * 3) with h1 | h1
        · exact h1
        · rw [List.getElem?_eq_none (by omega)] at hj; cases hj
      have : w.cell? ⟨g, m * 3 + j, none⟩ = some u := by rw [hcell _ (by omega), hsp, List.getElem?_append_right (by omega), hl1, Nat.add_sub_cancel_left]; exact hj
      rw [add_at]
      exact this
theorem one_lines {S : List Sr} {sv : List UInt8 → Value} (h : ∀ l, l ∈ S → (sv l.key).oneCell' = true) : ∀ u ∈ lineCells S sv, u.oneCell' = true := by
  intro u hu
  obtain ⟨l, hl, hx⟩ := List.mem_flatMap.1 hu
  simp at hx
  rcases hx with rfl | rfl | rfl
  · rfl
  · exact h l hl
  · rfl
theorem MAt.one {w : World} {mh : Nat} {v : Value} {S : List Sr} {sv : List UInt8 → Value} (h : MAt w mh v S sv) {l : Sr} (hl : l ∈ S) : (sv l.key).oneCell' = true := by
  obtain ⟨a, c, e, _⟩ := own_pairs (h.pts l hl)
  rw [e]
  rfl
theorem lines_insE {S : List Sr} {sv : List UInt8 → Value} {k : List UInt8} {m : Nat} (hk : known S k = false) (h : insE S k = S.take m ++ ⟨k, [], 0⟩ :: S.drop m) : lineCells (insE S k) (fun x => if x = k then .slice none 0 0 else sv x) = lineCells (S.take m) sv ++ [encStr k, .slice none 0 0, .int .i64 0] ++ lineCells (S.drop m) sv := by
  have hne : ∀ l, l ∈ S → (if l.key = k then Value.slice none 0 0 else sv l.key) = sv l.key := fun l hl => if_neg fun e => by
    rw [known_iff.2 ⟨l, hl, e⟩] at hk
    cases hk
  rw [h, lineCells_append, lineCells_congr (S := S.take m) (sv := sv) (fun l hl => hne l (List.mem_of_mem_take hl))]
  have e3 : ∀ f : List UInt8 → Value, lineCells (⟨k, [], 0⟩ :: S.drop m) f = [encStr k, f k, .int .i64 0] ++ lineCells (S.drop m) f := fun f => by simp [lineCells]
  rw [e3, lineCells_congr (S := S.drop m) (sv := sv) (fun l hl => hne l (List.mem_of_mem_drop hl)), List.append_assoc]
  simp only [if_true]
/-- A line is put in: the head as it lies then. -/
theorem MAt.put {w w3 : World} {mh : Nat} {v : Value} {S : List Sr} {sv : List UInt8 → Value} (h : MAt w mh v S sv) {k : List UInt8} (hk : known S k = false) {m : Nat} (hins : insE S k = S.take m ++ ⟨k, [], 0⟩ :: S.drop m) (hb : Below w.heap.size w w3) {v3 : Value} (ho : w3.ownsRow w.heap.size 109 3 v3 (S.length + 1) (lineCells (S.take m) sv ++ [encStr k, .slice none 0 0, .int .i64 0] ++ lineCells (S.drop m) sv)) :
    MAt (w3.setCell ⟨mh, 0, none⟩ v3) mh v3 (insE S k) (fun x => if x = k then .slice none 0 0 else sv x) ∧ (∀ g, v3.ownBlock = some g → w.heap.size ≤ g) ∧ ∀ x, x ∈ mfoot mh v3 (insE S k) (fun x => if x = k then .slice none 0 0 else sv x) → x ∈ mfoot mh v S sv ∨ w.heap.size ≤ x := by
  have hm := blk_lt h.head
  have hh3 : w3.heap[mh]? = some (.cells #[v] 75 (0, 0)) := (hb.block mh hm).trans h.head
  have hoth : ∀ b, b ≠ mh → (w3.setCell ⟨mh, 0, none⟩ v3).heap[b]? = w3.heap[b]? := fun b hb' => Below.heap_setCell _ _ _ _ hb'
  have hov : ∀ g, v3.ownBlock = some g → w.heap.size ≤ g := fun g hg => (own_blk ho hg).1
  have ho0 : w3.ownsRow 0 109 3 v3 (S.length + 1) (lineCells (S.take m) sv ++ [encStr k, .slice none 0 0, .int .i64 0] ++ lineCells (S.drop m) sv) := by
    obtain ⟨b1, b2⟩ := ho
    refine ⟨b1, ?_⟩
    rcases b2 with b2 | ⟨g', c', cu', b3, _, b4⟩
    · exact .inl b2
    · exact .inr ⟨g', c', cu', b3, Nat.zero_le _, b4⟩
  have h3 := h.below hb
  refine ⟨⟨?_, ?_, fun l hl => ?_⟩, hov, fun x hx => ?_⟩
  · have := Go.Joins.block_setCell (i := 0) hh3 v3
    simpa using this
  · rw [lines_insE hk hins, length_insE]
    exact own_same ho0 fun g hg => hoth g fun e => by
      have := hov g hg
      omega
  · rcases mem_insE.1 hl with hl' | rfl
    · have hne : l.key ≠ k := fun e => by
        rw [known_iff.2 ⟨l, hl', e⟩] at hk
        cases hk
      rw [if_neg hne]
      exact own_same (h3.pts l hl') fun g hg => hoth g fun e => by
        obtain ⟨_, _, cur, hc⟩ := own_blk (h3.pts l hl') hg
        exact cells_ne hc hh3 (by decide) e
    · show World.ownsRow _ 0 55 2 (if k = k then .slice none 0 0 else sv k) 0 []
      rw [if_pos rfl]
      exact ⟨rfl, .inl ⟨rfl, rfl⟩⟩
  · rcases mem_mfoot.1 hx with rfl | hg | ⟨l, hl, hg⟩
    · exact .inl (mem_mfoot.2 (.inl rfl))
    · exact .inr (hov x hg)
    · rcases mem_insE.1 hl with hl' | rfl
      · by_cases e : l.key = k
        · rw [if_pos e] at hg; cases hg
        · rw [if_neg e] at hg
          exact .inl (mem_mfoot.2 (.inr (.inr ⟨l, hl', hg⟩)))
      · have : (if k = k then Value.slice none 0 0 else sv k).ownBlock = some x := hg
        rw [if_pos rfl] at this
        cases this
theorem less_eq (k : List UInt8) (s : ByteArray) : Op.bytesLess (⟨k.toArray⟩ : ByteArray).toList s.toList = decide (k < s.data.toList) := by
  rw [bytesLess_eq, ByteArray.toList_eq, ByteArray.toList_eq]

theorem own_shape {w : World} {base : Nat} {e : TypeId} {sz : Nat} {v : Value} {n : Nat} {xs : List Value} (h : w.ownsRow base e sz v n xs) : ∃ a c, v = .slice a n c := by
  rcases h.2 with ⟨h1, h2⟩ | ⟨g, cap, cur, h1, _⟩
  · exact ⟨none, 0, by rw [h2]; exact h1⟩
  · exact ⟨_, _, h1⟩
theorem own_low {w : World} {base : Nat} {e : TypeId} {sz : Nat} {v : Value} {n : Nat} {xs : List Value} (h : w.ownsRow base e sz v n xs) {b : Nat} (hb : b < base) : some b ≠ v.ownBlock := fun e' => by
  have := (own_blk h e'.symm).1
  omega

set_option maxRecDepth 1000000 in
set_option maxHeartbeats 4000000 in
theorem mAdd_any (w : World) (mh : Nat) (v : Value) (S : List Sr) (sv : List UInt8 → Value) (h : MAt w mh v S sv) (hS : S.Pairwise fun a b => a.key < b.key) (hn : S.length ≤ 900) (hc : ∀ l, l ∈ S → l.pts.length ≤ 900) (s : ByteArray) (hs : s.size ≤ 1000) (t : Int) (u : Nat) :
    Calls Tryd.prog 28 #[.pointer (some ⟨mh, 0, none⟩), .string s, .agg #[.int .i64 t, .int .u64 (u : Int)]] w fun e w' => MAddOut w w' mh v S sv s.data.toList t u e := by
  have HH := (show Hid _ from h)
  have HS := (show Hid _ from And.intro hS hc)
  obtain ⟨W, hW⟩ : ∃ W, W = (w.alloc (.cells #[.int .i64 t, .int .u64 (u : Int)] 55)).alloc (.cells #[.int .i64 0, .int .i64 0] 36) := ⟨_, rfl⟩
  have hbx : FBox w W t u := by rw [hW]; exact FBox.start w t u
  have HBX := (show Hid _ from hbx)
  have HW : Hid (∀ wx, wx = (w.alloc (.cells #[.int .i64 t, .int .u64 (u : Int)] 55)).alloc (.cells #[.int .i64 0, .int .i64 0] 36) → wx = W) := fun wx hx => hx.trans hW.symm
  have HF := (show Hid _ from mFault_any W mh v S sv (h.below hbx.bel) hS (by omega) s hs t u)
  have pw0 := hbx.c0
  have pw1 := hbx.c1
  obtain ⟨AC, hAC⟩ : ∃ AC, AC = addC S s.data.toList t := ⟨_, rfl⟩
  obtain ⟨AA, hAA⟩ : ∃ AA, AA = addA s.data.toList := ⟨_, rfl⟩
  rw [← hAC, ← hAA] at HF
  have HA := (show Hid _ from And.intro hAC hAA)
  clear h hS hc hW hbx hAC hAA
  go_enter Tryd.func28, Tryd.ntmps28
  go_upto_region 1 with fail
  rw [HW.out _ rfl]
  go_wp2_with fail
  refine Calls.mono HF.out ?_
  rintro e w1 ⟨rfl, hb1⟩
  have hb := HBX.out.more hb1
  have HB1 := (show Hid _ from hb)
  have r0 := hb.r0
  have r1 := hb.r1
  have z0 := hb.z0
  have z1 := hb.z1
  have hlt := blk_lt hb.rt
  clear hb hb1 HF HBX HW pw0 pw1
  dsimp only
  by_cases hc : 0 < AC
  · have d0 : decide (0 < AC) = true := decide_eq_true hc
    go_wp2
    refine bodyPost_ret (v := .agg #[.int .i64 AC, .int .i64 AA]) (by simp [results, Tryd.results28, go_sem, r0, r1, hlt]) rfl ⟨by rw [HA.out.1, HA.out.2], fun _ => (HB1.out.fin _ _).alloc (HB1.out.fin _ _).size _, fun h0 => absurd h0 (by rw [← HA.out.1]; omega)⟩
  · have d0 : decide (0 < AC) = false := decide_eq_false hc
    obtain ⟨W2, hW2⟩ : ∃ W2, W2 = w1.alloc (.cells #[.int .i64 AC, .int .i64 AA] 36) := ⟨_, rfl⟩
    have hb2 : FBox w W2 t u := by rw [hW2]; exact HB1.out.more ((Below.refl _ _).alloc (Nat.le_refl _) _)
    have hf2 : W2.heap[w1.heap.size]? = some (.cells #[.int .i64 AC, .int .i64 AA] 36 (0, 0)) := by rw [hW2]; exact heap_alloc_new _ _
    have HW2 : Hid (∀ wx, wx = w1.alloc (.cells #[.int .i64 AC, .int .i64 AA] 36) → wx = W2) := fun wx hx => hx.trans hW2.symm
    clear hW2
    have HZ : Hid (addC S s.data.toList t = 0 ∧ addA s.data.toList = -1 ∧ AC = 0 ∧ AA = -1) := by
      obtain ⟨e1, e2⟩ := HA.out
      have h0 : addC S s.data.toList t = 0 := by
        have : 0 ≤ addC S s.data.toList t := by
          unfold addC
          have := readC_nonneg s.data.toList
          split
          · exact this
          · split
            · decide
            · split
              · decide
              · split <;> decide
        omega
      have h1 : addA s.data.toList = -1 := by
        obtain ⟨r, _⟩ := addC_zero HS.out.1 h0
        unfold addA
        rw [if_neg (by omega)]
      exact ⟨h0, h1, e1.trans h0, e2.trans h1⟩
    rw [HZ.out.2.2.1, HZ.out.2.2.2] at hf2
    have hM2 := HH.out.below hb2.bel
    have HM2 := (show Hid _ from hM2)
    have HB2 := (show Hid _ from And.intro hb2 hf2)
    have HFI := (show Hid _ from mfind_any W2 mh v S sv hM2 (by omega) s)
    have hfar : w.heap.size + 1 < w1.heap.size := hlt
    have m0 := hM2.cell
    clear hb2 hf2 hc HB1 r0 r1 z0 z1 hlt
    go_upto_region 4 with fail
    rw [HW2.out _ rfl]
    go_wp2_with fail
    refine Calls.mono HFI.out ?_
    rintro e w2 ⟨rfl, ⟨hk, rfl⟩ | ⟨i, hi, hik, rfl⟩⟩
    · have hmi : decide ((-1 : Int) < 0) = true := rfl
      clear hM2 HFI
      obtain ⟨a, cap, hv, hcap, hat⟩ := HM2.out.open
      obtain ⟨n, hnn⟩ : ∃ n, S.length = n := ⟨_, rfl⟩
      have HV := (show Hid _ from hv)
      rw [hv, hnn] at m0
      have HAT := (show Hid _ from hat)
      have HN := (show Hid _ from hnn)
      have HK := (show Hid _ from hk)
      rw [hnn] at hn hcap
      clear hat hnn hk hv
      dsimp only
      go_upto_if 24 with fail
      go_cut [8] (fun k wx => ∃ (v1 : Value) (S1 : List Sr) (sv1 : List UInt8 → Value) (i : Nat), k = .int .i64 (i : Int) ∧ MAddMid w wx mh v S sv s.data.toList t u w1.heap.size v1 S1 sv1 i)
      case first =>
        go_wp2_with fail
        go_loopw [8] (fun k wr => wr = w2 ∧ ∃ m : Nat, m ≤ n ∧ k = .int .i64 m ∧ ∀ j (hj : j < S.length), j < m → (S[j]).key < s.data.toList) (fun k _ => n - (intOf k).toNat)
        case atStart => exact ⟨rfl, 0, Nat.zero_le _, rfl, fun j hj h0 => absurd h0 (by omega)⟩
        case round =>
          obtain ⟨hwr, m, hm, rfl, hno⟩ := hrel
          subst hwr
          have HNO := (show Hid _ from hno)
          clear hno
          have hm0 : (0 : Int) ≤ (m : Int) := by omega
          have FIN : Hid (∀ (w3 : World) (v3 : Value), (∀ hm' : m < S.length, ¬ (S[m]).key < s.data.toList) → Below wr.heap.size wr w3 → w3.ownsRow wr.heap.size 109 3 v3 (n + 1) (lineCells (S.take m) sv ++ [.string s, .slice none 0 0, .int .i64 0] ++ lineCells (S.drop m) sv) → ∃ (v1 : Value) (S1 : List Sr) (sv1 : List UInt8 → Value) (i : Nat), (Value.int .i64 (m : Int)) = .int .i64 (i : Int) ∧ MAddMid w (w3.setCell ⟨mh, 0, none⟩ v3) mh v S sv s.data.toList t u w1.heap.size v1 S1 sv1 i) := by
            intro w3 v3 hle hb3 ho
            have hins := insE_at HS.out.1 HK.out (by rw [HN.out]; exact hm) HNO.out hle
            rw [← HN.out] at ho
            obtain ⟨p1, p2, p3⟩ := HM2.out.put HK.out hins hb3 ho
            obtain ⟨hi, hie⟩ := getElem_insE (by rw [HN.out]; exact hm) hins
            have hmh := blk_lt HM2.out.head
            have hoth : ∀ b, b ≠ mh → b < wr.heap.size → (w3.setCell ⟨mh, 0, none⟩ v3).heap[b]? = wr.heap[b]? := fun b hb hbl => (Below.heap_setCell _ _ _ _ hb).trans (hb3.block b hbl)
            have hws := HB2.out.1.bel.size
            refine ⟨_, _, _, m, rfl, p1, ?_, ?_, ?_, hfar, ⟨hi, by rw [hie]⟩, sorted_insE HS.out.1 HK.out, addS_insE HS.out.1 HK.out, fun l hl => ?_, by rw [length_insE, HN.out]; omega, ?_, fun x hx => ?_, fun g hg => .inr (Nat.le_trans hws (p2 g hg))⟩
            · exact (hoth _ (cells_ne HB2.out.1.pt HM2.out.head (by decide)) (blk_lt HB2.out.1.pt)).trans HB2.out.1.pt
            · exact (hoth _ (cells_ne HB2.out.1.rt HM2.out.head (by decide)) (blk_lt HB2.out.1.rt)).trans HB2.out.1.rt
            · exact (hoth _ (cells_ne HB2.out.2 HM2.out.head (by decide)) (blk_lt HB2.out.2)).trans HB2.out.2
            · rcases mem_insE.1 hl with hl' | rfl
              · exact HS.out.2 l hl'
              · simp
            · refine ((Kept.of_below HB2.out.1.bel).trans (Kept.of_below (S := []) hb3) (fun x hx => by cases hx)).setCell (p := ⟨mh, 0, none⟩) (.inl (List.mem_cons_self ..)) v3
            · rcases p3 x hx with h1 | h1
              · exact .inl h1
              · exact .inr (Nat.le_trans hws h1)
          by_cases hlt : m < n
          · have hm' : m < S.length := by rw [HN.out]; exact hlt
            obtain ⟨g, rfl, l0, _, _⟩ := HAT.out m hm'
            have hm1 : (m : Int) < (n : Int) := by omega
            have hq := less_eq (S[m]).key s
            obtain ⟨kb, hkb⟩ : ∃ kb : ByteArray, kb = ⟨(S[m]).key.toArray⟩ := ⟨_, rfl⟩
            rw [enc_eq, ← hkb] at l0
            rw [← hkb] at hq
            clear hkb
            by_cases hless : (S[m]).key < s.data.toList
            · rw [decide_eq_true hless] at hq
              have HNO2 : Hid (∀ j (hj : j < S.length), j < m + 1 → (S[j]).key < s.data.toList) := fun j hj hjk => by
                rcases Nat.lt_or_ge j m with h1 | h1
                · exact HNO.out j hj h1
                · obtain rfl : j = m := by omega
                  exact hless
              clear hless FIN
              go_wp2
              go_roundw
              case rel => exact ⟨by first | rfl | trivial, m + 1, by omega, by go_num, HNO2.out⟩
              case measure => simp [intOf] <;> omega
            · rw [decide_eq_false hless] at hq
              have FIN2 := (show Hid _ from fun w3 v3 => FIN.out w3 v3 fun _ => hless)
              clear hless FIN
              have hmc : (m : Int) ≤ (cap : Int) := by omega
              have hmn : (m : Int) ≠ (cap : Int) := by omega
              have hmn2 : m ≠ cap := by omega
              have HM3 : Hid (MAt wr mh (.slice (some ⟨g, 0, none⟩) S.length cap) S sv) := by show MAt _ _ _ _ _; rw [← HV.out]; exact HM2.out
              have hc0 : wr.heap[mh]? = some (.cells #[.slice (some ⟨g, 0, none⟩) n cap] 75 (0, 0)) := by rw [HM3.out.head, HN.out]
              have hmh := blk_lt hc0
              have HLT : Hid ((lineCells (S.take m) sv).length = m * 3) := by show _ = _; rw [length_lineCells, List.length_take, HN.out]; omega
              have HLD : Hid ((lineCells (S.drop m) sv).length = (n - m) * 3) := by show _ = _; rw [length_lineCells, List.length_drop, HN.out]
              have HO1 : Hid (∀ z ∈ lineCells (S.take m) sv, z.oneCell' = true) := one_lines fun l hl => HM3.out.one (List.mem_of_mem_take hl)
              have HO2 : Hid (∀ z ∈ lineCells (S.drop m) sv, z.oneCell' = true) := one_lines fun l hl => HM3.out.one (List.mem_of_mem_drop hl)
              have H1C : Hid (∀ z ∈ ([.string s, .slice none 0 0, .int .i64 0] : List Value), z.oneCell' = true) := by
                intro z hz
                simp at hz
                rcases hz with rfl | rfl | rfl <;> rfl
              obtain ⟨iL, hL, hL0, hL1, hL2⟩ := info_parts Tryd.infoMLine
              have HIL := (show Hid _ from hL)
              clear hL
              have HC0 := (show Hid _ from hc0)
              clear hc0
              go_wp2_with (at_builtin; refine wpList_append_gen rfl _ _ 73 rfl wr.heap.size 109 iL (.agg #[.string ⟨#[]⟩, .slice none 0 0, .int .i64 0]) 3 48 Tryd.underlying73 HIL.out hL0 hL1 hL2 rfl (by decide) _ 0 [] rfl ⟨rfl, .inl ⟨rfl, rfl⟩⟩ (some ⟨g, 0, none⟩) m cap (lineCells (S.take m) sv) rfl HLT.out (.inr ⟨g, 0, rfl, (HM3.out.parts (Nat.le_of_lt hm')).1⟩) HO1.out (by omega) (by decide) (Nat.le_refl _) ?_)
              intro v5 w5 ho5 hg5 _
              have hb5 : Below wr.heap.size wr w5 := ⟨hg5.os, hg5.tape, hg5.output, hg5.size, fun b hb => hg5.block b hb (by simp [Value.ownBlock])⟩
              have HB5 := (show Hid _ from hb5)
              have HO5 : Hid (w5.ownsRow wr.heap.size 109 3 v5 m (lineCells (S.take m) sv)) := by show World.ownsRow _ _ _ _ _ _ _; simpa using ho5
              have HOA : Hid ((w5.alloc (.cells #[.string s, .slice none 0 0, .int .i64 0] 109)).ownsRow wr.heap.size 109 3 v5 m (lineCells (S.take m) sv)) := HO5.out.alloc _
              have HNW : Hid (∀ j z, ([.string s, .slice none 0 0, .int .i64 0] : List Value)[j]? = some z → (w5.alloc (.cells #[.string s, .slice none 0 0, .int .i64 0] 109)).cell? ((⟨w5.heap.size, 0, none⟩ : Addr).add j) = some z) := World.news_of_block (heap_alloc_new _ _)
              have hw5 : wr.heap.size ≤ w5.heap.size := hb5.size
              clear ho5 hg5 hb5
              go_wp2_with (at_builtin; refine wpList_append_gen rfl _ _ 73 rfl wr.heap.size 109 iL (.agg #[.string ⟨#[]⟩, .slice none 0 0, .int .i64 0]) 3 48 Tryd.underlying73 HIL.out hL0 hL1 hL2 rfl (by decide) _ m (lineCells (S.take m) sv) rfl HOA.out (some ⟨w5.heap.size, 0, none⟩) 1 1 [.string s, .slice none 0 0, .int .i64 0] rfl rfl (.inr ⟨_, _, rfl, HNW.out⟩) H1C.out (by omega) (by decide) (by simp; omega) ?_)
              intro v6 w6 ho6 hg6 _
              have hb6 : Below wr.heap.size wr w6 := (HB5.out.alloc hw5 _).trans ⟨hg6.os, hg6.tape, hg6.output, hg6.size, fun b hb => hg6.block b (by simp; omega) (own_low HO5.out hb)⟩
              have HB6 := (show Hid _ from hb6)
              have HO6 : Hid (w6.ownsRow wr.heap.size 109 3 v6 (m + 1) (lineCells (S.take m) sv ++ [.string s, .slice none 0 0, .int .i64 0])) := ho6
              have c6 : w6.cell? ⟨mh, 0, none⟩ = some (.slice (some ⟨g, 0, none⟩) n cap) := by
                have := (hb6.block mh hmh).trans HC0.out
                simp [World.cell?, this]
              have hw6 : wr.heap.size ≤ w6.heap.size := hb6.size
              clear ho6 hg6 hb6 HOA HNW hw5 HB5 HO5
              go_wp2_with (at_builtin; refine wpList_append_gen rfl _ _ 73 rfl wr.heap.size 109 iL (.agg #[.string ⟨#[]⟩, .slice none 0 0, .int .i64 0]) 3 48 Tryd.underlying73 HIL.out hL0 hL1 hL2 rfl (by decide) _ (m + 1) _ rfl HO6.out (some ⟨g, m * 3, none⟩) (n - m) (cap - m) (lineCells (S.drop m) sv) rfl HLD.out (.inr ⟨g, m * 3, rfl, ((HM3.out.below HB6.out).parts (Nat.le_of_lt hm')).2⟩) HO2.out (by omega) (by decide) hw6 ?_)
              intro v7 w7 ho7 hg7 _
              have hb7 : Below wr.heap.size wr w7 := HB6.out.trans ⟨hg7.os, hg7.tape, hg7.output, hg7.size, fun b hb => hg7.block b (by omega) (own_low HO6.out hb)⟩
              rw [show m + 1 + (n - m) = n + 1 by omega] at ho7
              have HFI := (show Hid _ from FIN2.out w7 v7 hb7 (by simpa using ho7))
              have h7 := (hb7.block mh hmh).trans HC0.out
              have c7 : w7.cell? ⟨mh, 0, none⟩ = some (.slice (some ⟨g, 0, none⟩) n cap) := by simp [World.cell?, h7]
              have f7 : w7.frozen? ⟨mh, 0, none⟩ = false := by simp [World.frozen?, h7]
              obtain ⟨a7, c7', hv7⟩ := own_shape ho7
              subst hv7
              clear ho7 hg7 hb7 h7 HB6 HO6
              go_wp2_with fail
              go_meet
              case rel => exact HFI.out
          · have FIN2 := (show Hid _ from fun w3 v3 => FIN.out w3 v3 fun hm' => absurd hm' (by rw [HN.out]; exact hlt))
            obtain rfl : m = n := by omega
            have hge : (m : Int) ≤ (m : Int) := Int.le_refl _
            have hmc : (m : Int) ≤ (cap : Int) := by omega
            clear FIN
            rcases HM2.out.row.2 with ⟨hv0, h0⟩ | ⟨g, cap', cur, hv0, _⟩
            · rw [HV.out] at hv0
              injection hv0 with e1 e2 e3
              rw [HN.out] at e2
              subst e1 e2 e3
              have HM3 : Hid (MAt wr mh (.slice none S.length 0) S sv) := by show MAt _ _ _ _ _; rw [← HV.out]; exact HM2.out
              have hc0 : wr.heap[mh]? = some (.cells #[.slice none 0 0] 75 (0, 0)) := by rw [HM3.out.head, HN.out]
              have hmh := blk_lt hc0
              have HLT : Hid ((lineCells (S.take 0) sv).length = 0 * 3) := by show _ = _; rw [length_lineCells, List.length_take, HN.out]; omega
              have HLD : Hid ((lineCells (S.drop 0) sv).length = (0 - 0) * 3) := by show _ = _; rw [length_lineCells, List.length_drop, HN.out]
              have HO1 : Hid (∀ z ∈ lineCells (S.take 0) sv, z.oneCell' = true) := one_lines fun l hl => HM3.out.one (List.mem_of_mem_take hl)
              have HO2 : Hid (∀ z ∈ lineCells (S.drop 0) sv, z.oneCell' = true) := one_lines fun l hl => HM3.out.one (List.mem_of_mem_drop hl)
              have H1C : Hid (∀ z ∈ ([.string s, .slice none 0 0, .int .i64 0] : List Value), z.oneCell' = true) := by
                intro z hz
                simp at hz
                rcases hz with rfl | rfl | rfl <;> rfl
              obtain ⟨iL, hL, hL0, hL1, hL2⟩ := info_parts Tryd.infoMLine
              have HIL := (show Hid _ from hL)
              clear hL
              have HC0 := (show Hid _ from hc0)
              clear hc0
              go_wp2_with (at_builtin; refine wpList_append_gen rfl _ _ 73 rfl wr.heap.size 109 iL (.agg #[.string ⟨#[]⟩, .slice none 0 0, .int .i64 0]) 3 48 Tryd.underlying73 HIL.out hL0 hL1 hL2 rfl (by decide) _ 0 [] rfl ⟨rfl, .inl ⟨rfl, rfl⟩⟩ none 0 0 (lineCells (S.take 0) sv) rfl HLT.out (.inl rfl) HO1.out (by omega) (by decide) (Nat.le_refl _) ?_)
              intro v5 w5 ho5 hg5 _
              have hb5 : Below wr.heap.size wr w5 := ⟨hg5.os, hg5.tape, hg5.output, hg5.size, fun b hb => hg5.block b hb (by simp [Value.ownBlock])⟩
              have HB5 := (show Hid _ from hb5)
              have HO5 : Hid (w5.ownsRow wr.heap.size 109 3 v5 0 (lineCells (S.take 0) sv)) := by show World.ownsRow _ _ _ _ _ _ _; simpa using ho5
              have HOA : Hid ((w5.alloc (.cells #[.string s, .slice none 0 0, .int .i64 0] 109)).ownsRow wr.heap.size 109 3 v5 0 (lineCells (S.take 0) sv)) := HO5.out.alloc _
              have HNW : Hid (∀ j z, ([.string s, .slice none 0 0, .int .i64 0] : List Value)[j]? = some z → (w5.alloc (.cells #[.string s, .slice none 0 0, .int .i64 0] 109)).cell? ((⟨w5.heap.size, 0, none⟩ : Addr).add j) = some z) := World.news_of_block (heap_alloc_new _ _)
              have hw5 : wr.heap.size ≤ w5.heap.size := hb5.size
              clear ho5 hg5 hb5
              go_wp2_with (at_builtin; refine wpList_append_gen rfl _ _ 73 rfl wr.heap.size 109 iL (.agg #[.string ⟨#[]⟩, .slice none 0 0, .int .i64 0]) 3 48 Tryd.underlying73 HIL.out hL0 hL1 hL2 rfl (by decide) _ 0 (lineCells (S.take 0) sv) rfl HOA.out (some ⟨w5.heap.size, 0, none⟩) 1 1 [.string s, .slice none 0 0, .int .i64 0] rfl rfl (.inr ⟨_, _, rfl, HNW.out⟩) H1C.out (by omega) (by decide) (by simp; omega) ?_)
              intro v6 w6 ho6 hg6 _
              have hb6 : Below wr.heap.size wr w6 := (HB5.out.alloc hw5 _).trans ⟨hg6.os, hg6.tape, hg6.output, hg6.size, fun b hb => hg6.block b (by simp; omega) (own_low HO5.out hb)⟩
              have HB6 := (show Hid _ from hb6)
              have HO6 : Hid (w6.ownsRow wr.heap.size 109 3 v6 (0 + 1) (lineCells (S.take 0) sv ++ [.string s, .slice none 0 0, .int .i64 0])) := ho6
              have c6 : w6.cell? ⟨mh, 0, none⟩ = some (.slice none 0 0) := by
                have := (hb6.block mh hmh).trans HC0.out
                simp [World.cell?, this]
              have hw6 : wr.heap.size ≤ w6.heap.size := hb6.size
              clear ho6 hg6 hb6 HOA HNW hw5 HB5 HO5
              go_wp2_with (at_builtin; refine wpList_append_gen rfl _ _ 73 rfl wr.heap.size 109 iL (.agg #[.string ⟨#[]⟩, .slice none 0 0, .int .i64 0]) 3 48 Tryd.underlying73 HIL.out hL0 hL1 hL2 rfl (by decide) _ (0 + 1) _ rfl HO6.out _ _ _ (lineCells (S.drop 0) sv) rfl (HLD.out.trans (by omega)) (.inl (by omega)) HO2.out (by omega) (by decide) hw6 ?_)
              intro v7 w7 ho7 hg7 _
              have hb7 : Below wr.heap.size wr w7 := HB6.out.trans ⟨hg7.os, hg7.tape, hg7.output, hg7.size, fun b hb => hg7.block b (by omega) (own_low HO6.out hb)⟩
              have HFI := (show Hid _ from FIN2.out w7 v7 hb7 (by simpa using ho7))
              have h7 := (hb7.block mh hmh).trans HC0.out
              have c7 : w7.cell? ⟨mh, 0, none⟩ = some (.slice none 0 0) := by simp [World.cell?, h7]
              have f7 : w7.frozen? ⟨mh, 0, none⟩ = false := by simp [World.frozen?, h7]
              obtain ⟨a7, c7', hv7⟩ := own_shape ho7
              subst hv7
              clear ho7 hg7 hb7 h7 HB6 HO6
              go_wp2_with fail
              go_meet
              case rel => exact HFI.out
            · rw [HV.out] at hv0
              injection hv0 with e1 e2 e3
              subst e1
              clear e2 e3
              by_cases hcc : m = cap
              · subst hcc
                have HM3 : Hid (MAt wr mh (.slice (some ⟨g, 0, none⟩) S.length m) S sv) := by show MAt _ _ _ _ _; rw [← HV.out]; exact HM2.out
                have hc0 : wr.heap[mh]? = some (.cells #[.slice (some ⟨g, 0, none⟩) m m] 75 (0, 0)) := by rw [HM3.out.head, HN.out]
                have hmh := blk_lt hc0
                have HLT : Hid ((lineCells (S.take m) sv).length = m * 3) := by show _ = _; rw [length_lineCells, List.length_take, HN.out]; omega
                have HLD : Hid ((lineCells (S.drop m) sv).length = (m - m) * 3) := by show _ = _; rw [length_lineCells, List.length_drop, HN.out]
                have HO1 : Hid (∀ z ∈ lineCells (S.take m) sv, z.oneCell' = true) := one_lines fun l hl => HM3.out.one (List.mem_of_mem_take hl)
                have HO2 : Hid (∀ z ∈ lineCells (S.drop m) sv, z.oneCell' = true) := one_lines fun l hl => HM3.out.one (List.mem_of_mem_drop hl)
                have H1C : Hid (∀ z ∈ ([.string s, .slice none 0 0, .int .i64 0] : List Value), z.oneCell' = true) := by
                  intro z hz
                  simp at hz
                  rcases hz with rfl | rfl | rfl <;> rfl
                obtain ⟨iL, hL, hL0, hL1, hL2⟩ := info_parts Tryd.infoMLine
                have HIL := (show Hid _ from hL)
                clear hL
                have HC0 := (show Hid _ from hc0)
                clear hc0
                go_wp2_with (at_builtin; refine wpList_append_gen rfl _ _ 73 rfl wr.heap.size 109 iL (.agg #[.string ⟨#[]⟩, .slice none 0 0, .int .i64 0]) 3 48 Tryd.underlying73 HIL.out hL0 hL1 hL2 rfl (by decide) _ 0 [] rfl ⟨rfl, .inl ⟨rfl, rfl⟩⟩ (some ⟨g, 0, none⟩) m m (lineCells (S.take m) sv) rfl HLT.out (.inr ⟨g, 0, rfl, (HM3.out.parts (Nat.le_of_eq HN.out.symm)).1⟩) HO1.out (by omega) (by decide) (Nat.le_refl _) ?_)
                intro v5 w5 ho5 hg5 _
                have hb5 : Below wr.heap.size wr w5 := ⟨hg5.os, hg5.tape, hg5.output, hg5.size, fun b hb => hg5.block b hb (by simp [Value.ownBlock])⟩
                have HB5 := (show Hid _ from hb5)
                have HO5 : Hid (w5.ownsRow wr.heap.size 109 3 v5 m (lineCells (S.take m) sv)) := by show World.ownsRow _ _ _ _ _ _ _; simpa using ho5
                have HOA : Hid ((w5.alloc (.cells #[.string s, .slice none 0 0, .int .i64 0] 109)).ownsRow wr.heap.size 109 3 v5 m (lineCells (S.take m) sv)) := HO5.out.alloc _
                have HNW : Hid (∀ j z, ([.string s, .slice none 0 0, .int .i64 0] : List Value)[j]? = some z → (w5.alloc (.cells #[.string s, .slice none 0 0, .int .i64 0] 109)).cell? ((⟨w5.heap.size, 0, none⟩ : Addr).add j) = some z) := World.news_of_block (heap_alloc_new _ _)
                have hw5 : wr.heap.size ≤ w5.heap.size := hb5.size
                clear ho5 hg5 hb5
                go_wp2_with (at_builtin; refine wpList_append_gen rfl _ _ 73 rfl wr.heap.size 109 iL (.agg #[.string ⟨#[]⟩, .slice none 0 0, .int .i64 0]) 3 48 Tryd.underlying73 HIL.out hL0 hL1 hL2 rfl (by decide) _ m (lineCells (S.take m) sv) rfl HOA.out (some ⟨w5.heap.size, 0, none⟩) 1 1 [.string s, .slice none 0 0, .int .i64 0] rfl rfl (.inr ⟨_, _, rfl, HNW.out⟩) H1C.out (by omega) (by decide) (by simp; omega) ?_)
                intro v6 w6 ho6 hg6 _
                have hb6 : Below wr.heap.size wr w6 := (HB5.out.alloc hw5 _).trans ⟨hg6.os, hg6.tape, hg6.output, hg6.size, fun b hb => hg6.block b (by simp; omega) (own_low HO5.out hb)⟩
                have HB6 := (show Hid _ from hb6)
                have HO6 : Hid (w6.ownsRow wr.heap.size 109 3 v6 (m + 1) (lineCells (S.take m) sv ++ [.string s, .slice none 0 0, .int .i64 0])) := ho6
                have c6 : w6.cell? ⟨mh, 0, none⟩ = some (.slice (some ⟨g, 0, none⟩) m m) := by
                  have := (hb6.block mh hmh).trans HC0.out
                  simp [World.cell?, this]
                have hw6 : wr.heap.size ≤ w6.heap.size := hb6.size
                clear ho6 hg6 hb6 HOA HNW hw5 HB5 HO5
                go_wp2_with (at_builtin; refine wpList_append_gen rfl _ _ 73 rfl wr.heap.size 109 iL (.agg #[.string ⟨#[]⟩, .slice none 0 0, .int .i64 0]) 3 48 Tryd.underlying73 HIL.out hL0 hL1 hL2 rfl (by decide) _ (m + 1) _ rfl HO6.out _ _ _ (lineCells (S.drop m) sv) rfl (HLD.out.trans (by omega)) (.inl (by omega)) HO2.out (by omega) (by decide) hw6 ?_)
                intro v7 w7 ho7 hg7 _
                have hb7 : Below wr.heap.size wr w7 := HB6.out.trans ⟨hg7.os, hg7.tape, hg7.output, hg7.size, fun b hb => hg7.block b (by omega) (own_low HO6.out hb)⟩
                have HFI := (show Hid _ from FIN2.out w7 v7 hb7 (by simpa using ho7))
                have h7 := (hb7.block mh hmh).trans HC0.out
                have c7 : w7.cell? ⟨mh, 0, none⟩ = some (.slice (some ⟨g, 0, none⟩) m m) := by simp [World.cell?, h7]
                have f7 : w7.frozen? ⟨mh, 0, none⟩ = false := by simp [World.frozen?, h7]
                obtain ⟨a7, c7', hv7⟩ := own_shape ho7
                subst hv7
                clear ho7 hg7 hb7 h7 HB6 HO6
                go_wp2_with fail
                go_meet
                case rel => exact HFI.out
              · have hci : (m : Int) ≠ (cap : Int) := by omega
                have HM3 : Hid (MAt wr mh (.slice (some ⟨g, 0, none⟩) S.length cap) S sv) := by show MAt _ _ _ _ _; rw [← HV.out]; exact HM2.out
                have hc0 : wr.heap[mh]? = some (.cells #[.slice (some ⟨g, 0, none⟩) m cap] 75 (0, 0)) := by rw [HM3.out.head, HN.out]
                have hmh := blk_lt hc0
                have HLT : Hid ((lineCells (S.take m) sv).length = m * 3) := by show _ = _; rw [length_lineCells, List.length_take, HN.out]; omega
                have HLD : Hid ((lineCells (S.drop m) sv).length = (m - m) * 3) := by show _ = _; rw [length_lineCells, List.length_drop, HN.out]
                have HO1 : Hid (∀ z ∈ lineCells (S.take m) sv, z.oneCell' = true) := one_lines fun l hl => HM3.out.one (List.mem_of_mem_take hl)
                have HO2 : Hid (∀ z ∈ lineCells (S.drop m) sv, z.oneCell' = true) := one_lines fun l hl => HM3.out.one (List.mem_of_mem_drop hl)
                have H1C : Hid (∀ z ∈ ([.string s, .slice none 0 0, .int .i64 0] : List Value), z.oneCell' = true) := by
                  intro z hz
                  simp at hz
                  rcases hz with rfl | rfl | rfl <;> rfl
                obtain ⟨iL, hL, hL0, hL1, hL2⟩ := info_parts Tryd.infoMLine
                have HIL := (show Hid _ from hL)
                clear hL
                have HC0 := (show Hid _ from hc0)
                clear hc0
                go_wp2_with (at_builtin; refine wpList_append_gen rfl _ _ 73 rfl wr.heap.size 109 iL (.agg #[.string ⟨#[]⟩, .slice none 0 0, .int .i64 0]) 3 48 Tryd.underlying73 HIL.out hL0 hL1 hL2 rfl (by decide) _ 0 [] rfl ⟨rfl, .inl ⟨rfl, rfl⟩⟩ (some ⟨g, 0, none⟩) m cap (lineCells (S.take m) sv) rfl HLT.out (.inr ⟨g, 0, rfl, (HM3.out.parts (Nat.le_of_eq HN.out.symm)).1⟩) HO1.out (by omega) (by decide) (Nat.le_refl _) ?_)
                intro v5 w5 ho5 hg5 _
                have hb5 : Below wr.heap.size wr w5 := ⟨hg5.os, hg5.tape, hg5.output, hg5.size, fun b hb => hg5.block b hb (by simp [Value.ownBlock])⟩
                have HB5 := (show Hid _ from hb5)
                have HO5 : Hid (w5.ownsRow wr.heap.size 109 3 v5 m (lineCells (S.take m) sv)) := by show World.ownsRow _ _ _ _ _ _ _; simpa using ho5
                have HOA : Hid ((w5.alloc (.cells #[.string s, .slice none 0 0, .int .i64 0] 109)).ownsRow wr.heap.size 109 3 v5 m (lineCells (S.take m) sv)) := HO5.out.alloc _
                have HNW : Hid (∀ j z, ([.string s, .slice none 0 0, .int .i64 0] : List Value)[j]? = some z → (w5.alloc (.cells #[.string s, .slice none 0 0, .int .i64 0] 109)).cell? ((⟨w5.heap.size, 0, none⟩ : Addr).add j) = some z) := World.news_of_block (heap_alloc_new _ _)
                have hw5 : wr.heap.size ≤ w5.heap.size := hb5.size
                clear ho5 hg5 hb5
                go_wp2_with (at_builtin; refine wpList_append_gen rfl _ _ 73 rfl wr.heap.size 109 iL (.agg #[.string ⟨#[]⟩, .slice none 0 0, .int .i64 0]) 3 48 Tryd.underlying73 HIL.out hL0 hL1 hL2 rfl (by decide) _ m (lineCells (S.take m) sv) rfl HOA.out (some ⟨w5.heap.size, 0, none⟩) 1 1 [.string s, .slice none 0 0, .int .i64 0] rfl rfl (.inr ⟨_, _, rfl, HNW.out⟩) H1C.out (by omega) (by decide) (by simp; omega) ?_)
                intro v6 w6 ho6 hg6 _
                have hb6 : Below wr.heap.size wr w6 := (HB5.out.alloc hw5 _).trans ⟨hg6.os, hg6.tape, hg6.output, hg6.size, fun b hb => hg6.block b (by simp; omega) (own_low HO5.out hb)⟩
                have HB6 := (show Hid _ from hb6)
                have HO6 : Hid (w6.ownsRow wr.heap.size 109 3 v6 (m + 1) (lineCells (S.take m) sv ++ [.string s, .slice none 0 0, .int .i64 0])) := ho6
                have c6 : w6.cell? ⟨mh, 0, none⟩ = some (.slice (some ⟨g, 0, none⟩) m cap) := by
                  have := (hb6.block mh hmh).trans HC0.out
                  simp [World.cell?, this]
                have hw6 : wr.heap.size ≤ w6.heap.size := hb6.size
                clear ho6 hg6 hb6 HOA HNW hw5 HB5 HO5
                go_wp2_with (at_builtin; refine wpList_append_gen rfl _ _ 73 rfl wr.heap.size 109 iL (.agg #[.string ⟨#[]⟩, .slice none 0 0, .int .i64 0]) 3 48 Tryd.underlying73 HIL.out hL0 hL1 hL2 rfl (by decide) _ (m + 1) _ rfl HO6.out _ _ _ (lineCells (S.drop m) sv) rfl (HLD.out.trans (by omega)) (.inl (by omega)) HO2.out (by omega) (by decide) hw6 ?_)
                intro v7 w7 ho7 hg7 _
                have hb7 : Below wr.heap.size wr w7 := HB6.out.trans ⟨hg7.os, hg7.tape, hg7.output, hg7.size, fun b hb => hg7.block b (by omega) (own_low HO6.out hb)⟩
                have HFI := (show Hid _ from FIN2.out w7 v7 hb7 (by simpa using ho7))
                have h7 := (hb7.block mh hmh).trans HC0.out
                have c7 : w7.cell? ⟨mh, 0, none⟩ = some (.slice (some ⟨g, 0, none⟩) m cap) := by simp [World.cell?, h7]
                have f7 : w7.frozen? ⟨mh, 0, none⟩ = false := by simp [World.frozen?, h7]
                obtain ⟨a7, c7', hv7⟩ := own_shape ho7
                subst hv7
                clear ho7 hg7 hb7 h7 HB6 HO6
                go_wp2_with fail
                go_meet
                case rel => exact HFI.out
      case rest =>
        obtain ⟨v1, S1, sv1, i, rfl, hmid⟩ := hcut
        apply_assumption
        exact madd_tail w _ mh v S sv s t u HZ.out.1 HZ.out.2.1 w1.heap.size v1 S1 sv1 i hmid _ _ _ _ _ _ _ _ _ _ _ _ _ _ _ _ _ _ _ _ _ _ _ _ _ _ _ _ _ _ _ _ _ _ _ _ _ _ _ _ _ _ _ _ _ _ _ _ _ _ _ _ _ _ _ _ _ _ _ _ _ _ _ _ _ _ _ _ _ _ _ _ _ _ _ _ _ _ _ _ _ _ _ _ _ _ _ _ _
    · have HMID : Hid (MAddMid w w2 mh v S sv s.data.toList t u w1.heap.size v S sv i) := ⟨HM2.out, HB2.out.1.pt, HB2.out.1.rt, HB2.out.2, hfar, ⟨hi, hik⟩, HS.out.1, rfl, HS.out.2, by omega, Kept.of_below HB2.out.1.bel, fun x hx => .inl hx, fun g hg => .inl (by simp [hg])⟩
      have hi0 : decide ((i : Int) < 0) = false := decide_eq_false (by omega)
      clear hM2 HFI hik
      dsimp only
      go_upto_if 24 with fail
      go_cut [8] (fun k wx => k = .int .i64 (i : Int) ∧ wx = w2)
      case first =>
        go_wp2_with fail
        go_meet
        case rel => exact ⟨rfl, rfl⟩
      case rest =>
        obtain ⟨rfl, rfl⟩ := hcut
        apply_assumption
        exact madd_tail w _ mh v S sv s t u HZ.out.1 HZ.out.2.1 w1.heap.size v S sv i HMID.out _ _ _ _ _ _ _ _ _ _ _ _ _ _ _ _ _ _ _ _ _ _ _ _ _ _ _ _ _ _ _ _ _ _ _ _ _ _ _ _ _ _ _ _ _ _ _ _ _ _ _ _ _ _ _ _ _ _ _ _ _ _ _ _ _ _ _ _ _ _ _ _ _ _ _ _ _ _ _ _ _ _ _ _ _ _ _ _ _
end Go.Proofs.YtfanagohfimnkaaDoor
/- A head and the document's, side by side: each one's blocks by name, and what stays. -/
namespace Go.Proofs.YtfanagohfimnkaaDoor
open Go.RowKit Go.Maps HeadMath LabMath PtMath

/-- A head whose series are S and whose blocks are F, none of them elder than w. -/
structure HdF (w wr : World) (hb : Nat) (S : List Sr) (F : List Nat) : Prop where
  ex : ∃ mb bl sv, F = hb :: foot mb S bl sv ∧ HeadAt wr hb mb S bl sv
  low : ∀ x, x ∈ F → w.heap.size ≤ x
  well : Well S
theorem HdF.lt {w wr : World} {hb : Nat} {S : List Sr} {F : List Nat} (h : HdF w wr hb S F) {x : Nat} (hx : x ∈ F) : x < wr.heap.size := by
  obtain ⟨mb, bl, sv, rfl, h1⟩ := h.ex
  exact h1.lt (List.mem_cons.1 hx)
theorem HdF.same {w wr w' : World} {hb : Nat} {S : List Sr} {F : List Nat} (h : HdF w wr hb S F) (he : ∀ x, x ∈ F → w'.heap[x]? = wr.heap[x]?) : HdF w w' hb S F := by
  obtain ⟨mb, bl, sv, rfl, h1⟩ := h.ex
  exact ⟨⟨mb, bl, sv, rfl, h1.same fun b hb' => he b (List.mem_cons.2 hb')⟩, h.low, h.well⟩
theorem HdF.kept {w wr w' : World} {hb : Nat} {S : List Sr} {F G : List Nat} (h : HdF w wr hb S F) (hk : Kept G wr w') (hd : ∀ x, x ∈ F → x ∉ G) : HdF w w' hb S F := h.same fun x hx => hk.block x (h.lt hx) (hd x hx)
/-- The document's head whose series are S and whose blocks are G. -/
structure MdF (w wr : World) (mh : Nat) (S : List Sr) (G : List Nat) : Prop where
  ex : ∃ v sv, G = mfoot mh v S sv ∧ MAt wr mh v S sv
  low : ∀ x, x ∈ G → w.heap.size ≤ x
theorem MdF.lt {w wr : World} {mh : Nat} {S : List Sr} {G : List Nat} (h : MdF w wr mh S G) {x : Nat} (hx : x ∈ G) : x < wr.heap.size := by
  obtain ⟨v, sv, rfl, h1⟩ := h.ex
  exact h1.lt hx
theorem MdF.same {w wr w' : World} {mh : Nat} {S : List Sr} {G : List Nat} (h : MdF w wr mh S G) (he : ∀ x, x ∈ G → w'.heap[x]? = wr.heap[x]?) : MdF w w' mh S G := by
  obtain ⟨v, sv, rfl, h1⟩ := h.ex
  exact ⟨⟨v, sv, rfl, h1.same he⟩, h.low⟩
theorem MdF.kept {w wr w' : World} {mh : Nat} {S : List Sr} {F G : List Nat} (h : MdF w wr mh S G) (hk : Kept F wr w') (hd : ∀ x, x ∈ G → x ∉ F) : MdF w w' mh S G := h.same fun x hx => hk.block x (h.lt hx) (hd x hx)
/-- Both, with nothing in common. -/
structure Two (w wr : World) (hb mh : Nat) (S : List Sr) (F G : List Nat) : Prop where
  hd : HdF w wr hb S F
  md : MdF w wr mh S G
  apart : ∀ x, x ∈ F → x ∉ G
  bel : Below w.heap.size w wr
theorem Two.below {w wr w' : World} {hb mh : Nat} {S : List Sr} {F G : List Nat} (h : Two w wr hb mh S F G) (hw : Below wr.heap.size wr w') : Two w w' hb mh S F G :=
  ⟨h.hd.same fun x hx => hw.block x (h.hd.lt hx), h.md.same fun x hx => hw.block x (h.md.lt hx), h.apart, h.bel.trans (hw.mono h.bel.size)⟩
theorem hf_new (w wr : World) (hw : w.heap.size ≤ wr.heap.size) :
    Calls Tryd.prog 19 #[] wr fun e w' => ∃ h F, e = .returned (.pointer (some ⟨h, 0, none⟩)) ∧ HdF w w' h [] F ∧ Below wr.heap.size wr w' ∧ ∀ x, x ∈ F → x < w'.heap.size := by
  refine (hNew_any wr).mono ?_
  rintro e w' ⟨h, mb, rfl, h1, h2, h3, h4⟩
  refine ⟨h, _, rfl, ⟨⟨mb, _, _, rfl, h1⟩, fun x hx => ?_, well_nil⟩, h2, fun x hx => h1.lt (List.mem_cons.1 hx)⟩
  rcases List.mem_cons.1 hx with rfl | hx
  · exact Nat.le_trans hw h3
  · rcases mem_foot hx with rfl | ⟨l, hl, _⟩ | ⟨l, hl, _⟩
    · exact Nat.le_trans hw h4
    · cases hl
    · cases hl
/-- A head as the document makes it: nothing in it. -/
theorem mf_new {w wr : World} {mh : Nat} (hw : w.heap.size ≤ mh) (h : wr.heap[mh]? = some (.cells #[.slice none 0 0] 75 (0, 0))) : MdF w wr mh [] [mh] :=
  ⟨⟨.slice none 0 0, fun _ => .slice none 0 0, rfl, h, ⟨rfl, .inl ⟨rfl, rfl⟩⟩, fun l hl => (nomatch hl)⟩, fun x hx => by
    simp at hx
    subst hx
    exact hw⟩
theorem addC_cases (S : List Sr) (k : List UInt8) (t : Int) : 0 < addC S k t ∨ addC S k t = 0 := by
  unfold addC
  have := readC_nonneg k
  split
  · exact .inl ‹_›
  · split
    · exact .inl (by decide)
    · split
      · exact .inl (by decide)
      · split
        · exact .inl (by decide)
        · exact .inr rfl
theorem hf_add {B : Nat} {ea : Nat → Addr} (w wr : World) (E : EnvH B ea wr) (hB : B ≤ w.heap.size) (hw : w.heap.size ≤ wr.heap.size) (hb : Nat) (S : List Sr) (F : List Nat) (h : HdF w wr hb S F) (hn : S.length ≤ 900) (hc : countS S ≤ 900) (s : ByteArray) (hs : s.size ≤ 1000) (t : Int) (u : Nat) (hu : u < 18446744073709551616) :
    Calls Tryd.prog 20 #[.pointer (some ⟨hb, 0, none⟩), .string s, .agg #[.int .i64 t, .int .u64 (u : Int)]] wr fun e w' => ∃ v F', e = .returned v ∧ FaultV ea w' v (addC S s.data.toList t) (addA s.data.toList) ∧ (0 < addC S s.data.toList t → HdF w w' hb S F') ∧ (addC S s.data.toList t = 0 → HdF w w' hb (addS S s.data.toList (t, u)) F') ∧ Kept F wr w' ∧ ∀ x, x ∈ F' → x ∈ F ∨ wr.heap.size ≤ x := by
  obtain ⟨mb, bl, sv, rfl, h1⟩ := h.ex
  refine (hAdd_any wr E (Nat.le_trans hB hw) hb mb S bl sv h1 (fun x hx => Nat.le_trans hB (h.low x (List.mem_cons_of_mem _ hx))) h.well.sorted hn (fun l hl => Nat.le_trans (len_count hl) hc) s hs t u).mono ?_
  rintro e w' ⟨v, rfl, hf, hpos, hz⟩
  rcases addC_cases S s.data.toList t with h0 | h0
  · refine ⟨v, _, rfl, hf, fun _ => h.same fun x hx => (hpos h0).block x (h.lt hx), fun h2 => absurd h2 (by omega), Kept.of_below (hpos h0), fun x hx => .inl hx⟩
  · obtain ⟨bl', sv', q1, q2, q3⟩ := hz h0
    obtain ⟨_, a1, a2, a3, _⟩ := addC_zero h.well.sorted h0
    have hsub : ∀ x, x ∈ hb :: foot mb (addS S s.data.toList (t, u)) bl' sv' → x ∈ hb :: foot mb S bl sv ∨ wr.heap.size ≤ x := fun x hx => by
      rcases List.mem_cons.1 hx with rfl | hx
      · exact .inl (List.mem_cons_self ..)
      · exact (q3 x hx).imp (fun h => List.mem_cons_of_mem _ h) id
    refine ⟨v, _, rfl, hf, fun h2 => absurd h2 (by omega), fun _ => ⟨⟨mb, bl', sv', rfl, q1⟩, fun x hx => ?_, h.well.add ⟨a1, a2, hu⟩ a3⟩, ⟨q2.os, q2.tape, q2.output, q2.size, fun k hk hne => q2.block k hk fun h => hne (List.mem_cons_of_mem _ h)⟩, hsub⟩
    rcases hsub x hx with h2 | h2
    · exact h.low x h2
    · exact Nat.le_trans hw h2
theorem mf_add (w wr : World) (hw : w.heap.size ≤ wr.heap.size) (mh : Nat) (S : List Sr) (G : List Nat) (h : MdF w wr mh S G) (hS : S.Pairwise fun a b => a.key < b.key) (hn : S.length ≤ 900) (hc : countS S ≤ 900) (s : ByteArray) (hs : s.size ≤ 1000) (t : Int) (u : Nat) :
    Calls Tryd.prog 28 #[.pointer (some ⟨mh, 0, none⟩), .string s, .agg #[.int .i64 t, .int .u64 (u : Int)]] wr fun e w' => ∃ G', e = .returned (.agg #[.int .i64 (addC S s.data.toList t), .int .i64 (addA s.data.toList)]) ∧ (0 < addC S s.data.toList t → MdF w w' mh S G') ∧ (addC S s.data.toList t = 0 → MdF w w' mh (addS S s.data.toList (t, u)) G') ∧ Kept G wr w' ∧ (∀ x, x ∈ G' → x ∈ G ∨ wr.heap.size ≤ x) ∧ (0 < addC S s.data.toList t → Below wr.heap.size wr w') := by
  obtain ⟨v, sv, rfl, h1⟩ := h.ex
  refine (mAdd_any wr mh v S sv h1 hS hn (fun l hl => Nat.le_trans (len_count hl) hc) s hs t u).mono ?_
  rintro e w' ⟨rfl, hpos, hz⟩
  rcases addC_cases S s.data.toList t with h0 | h0
  · exact ⟨_, rfl, fun _ => h.same fun x hx => (hpos h0).block x (h.lt hx), fun h2 => absurd h2 (by omega), Kept.of_below (hpos h0), fun x hx => .inl hx, hpos⟩
  · obtain ⟨v', sv', q1, q2, q3⟩ := hz h0
    refine ⟨_, rfl, fun h2 => absurd h2 (by omega), fun _ => ⟨⟨v', sv', rfl, q1⟩, fun x hx => ?_⟩, ⟨q2.os, q2.tape, q2.output, q2.size, fun k hk hne => q2.block k hk fun h => hne ?_⟩, q3, hpos⟩
    · rcases q3 x hx with h2 | h2
      · exact h.low x h2
      · exact Nat.le_trans hw h2
    · rcases List.mem_cons.1 h with rfl | h
      · exact mem_mfoot.2 (.inl rfl)
      · exact mem_mfoot.2 (.inr (.inl (by simpa using h)))
theorem hf_cut {B : Nat} {ea : Nat → Addr} (w wr : World) (E : EnvH B ea wr) (hB : B ≤ w.heap.size) (hw : w.heap.size ≤ wr.heap.size) (hb : Nat) (S : List Sr) (F : List Nat) (h : HdF w wr hb S F) (hn : S.length ≤ 1000) (hc : countS S ≤ 1000) (t : Int) :
    Calls Tryd.prog 23 #[.pointer (some ⟨hb, 0, none⟩), .int .i64 t] wr fun e w' => ∃ F', HdF w w' hb (cutS t S) F' ∧ Kept F wr w' ∧ (∀ x, x ∈ F' → x ∈ F ∨ wr.heap.size ≤ x) ∧
      ((rowsS t S = [] ∧ e = .returned (.tuple #[.slice none 0 0, .iface 197 (.pointer (some (ea 4)))])) ∨ (rowsS t S ≠ [] ∧ ∃ r xs, e = .returned (.tuple #[r, .nilIface]) ∧ w'.ownsRow wr.heap.size 70 2 r (rowsS t S).length xs ∧ RowsC w' wr.heap.size xs (rowsS t S))) := by
  obtain ⟨mb, bl, sv, rfl, h1⟩ := h.ex
  refine (hCut_any wr (ea 4) E.c4 hb mb S bl sv h1 (fun hx => ?_) h.well hn (fun l hl => Nat.le_trans (len_count hl) hc) t).mono ?_
  · have := h.low _ (List.mem_cons_of_mem _ hx)
    have := E.low 1 (by simp)
    omega
  · rintro e w' ⟨sv', q1, q2, q3, q4⟩
    have hsub : ∀ x, x ∈ hb :: foot mb (cutS t S) bl sv' → x ∈ hb :: foot mb S bl sv ∨ wr.heap.size ≤ x := fun x hx => by
      rcases List.mem_cons.1 hx with rfl | hx
      · exact .inl (List.mem_cons_self ..)
      · exact (q2 x hx).imp (fun h => List.mem_cons_of_mem _ h) id
    refine ⟨_, ⟨⟨mb, bl, sv', rfl, q1⟩, fun x hx => ?_, h.well.cut t⟩, ⟨q3.os, q3.tape, q3.output, q3.size, fun k hk hne => q3.block k hk fun h => hne (List.mem_cons_of_mem _ h)⟩, hsub, q4⟩
    rcases hsub x hx with h2 | h2
    · exact h.low x h2
    · exact Nat.le_trans hw h2
theorem hf_count (w wr : World) (hb : Nat) (S : List Sr) (F : List Nat) (h : HdF w wr hb S F) (hc : countS S ≤ 100000) :
    Calls Tryd.prog 24 #[.pointer (some ⟨hb, 0, none⟩)] wr fun e w' => e = .returned (.int .i64 (countS S : Int)) ∧ Below wr.heap.size wr w' := by
  obtain ⟨mb, bl, sv, rfl, h1⟩ := h.ex
  exact hCount_any wr hb mb S bl sv h1 h.well.sorted hc
theorem hf_series (w wr : World) (hb : Nat) (S : List Sr) (F : List Nat) (h : HdF w wr hb S F) (hn : S.length ≤ 1000) :
    Calls Tryd.prog 25 #[.pointer (some ⟨hb, 0, none⟩)] wr fun e w' => ∃ v, e = .returned v ∧ Below wr.heap.size wr w' ∧ w'.ownsRow wr.heap.size 9 1 v (seriesS S).length ((seriesS S).map encStr) := by
  obtain ⟨mb, bl, sv, rfl, h1⟩ := h.ex
  exact hSeries_any wr hb mb S bl sv h1 h.well.sorted hn
theorem hf_points (w wr : World) (hb : Nat) (S : List Sr) (F : List Nat) (h : HdF w wr hb S F) (hc : countS S ≤ 1000) (s : ByteArray) (hs : s.size ≤ 1000) (x y : Int) :
    Calls Tryd.prog 26 #[.pointer (some ⟨hb, 0, none⟩), .string s, .int .i64 x, .int .i64 y] wr fun e w' => ∃ v, e = .returned v ∧ w'.ownsRow wr.heap.size 55 2 v (betweenL x y (ptsOf S s.data.toList)).length (pairCells (betweenL x y (ptsOf S s.data.toList))) ∧ Below wr.heap.size wr w' := by
  obtain ⟨mb, bl, sv, rfl, h1⟩ := h.ex
  exact hPoints_any wr hb mb S bl sv h1 h.well.sorted (fun l hl => Nat.le_trans (len_count hl) hc) s hs x y
theorem mf_count (w wr : World) (mh : Nat) (S : List Sr) (G : List Nat) (h : MdF w wr mh S G) (hn : S.length ≤ 1000) (hc : countS S ≤ 100000) :
    Calls Tryd.prog 32 #[.pointer (some ⟨mh, 0, none⟩)] wr fun e w' => w' = wr ∧ e = .returned (.int .i64 (countS S : Int)) := by
  obtain ⟨v, sv, rfl, h1⟩ := h.ex
  exact mCount_any wr mh v S sv h1 hn hc
theorem mf_series (w wr : World) (mh : Nat) (S : List Sr) (G : List Nat) (h : MdF w wr mh S G) (hn : S.length ≤ 1000) :
    Calls Tryd.prog 34 #[.pointer (some ⟨mh, 0, none⟩)] wr fun e w' => ∃ v, e = .returned v ∧ Below wr.heap.size wr w' ∧ w'.ownsRow wr.heap.size 9 1 v (seriesS S).length ((seriesS S).map encStr) := by
  obtain ⟨v, sv, rfl, h1⟩ := h.ex
  exact mSeries_any wr mh v S sv h1 hn
theorem mf_points (w wr : World) (mh : Nat) (S : List Sr) (G : List Nat) (h : MdF w wr mh S G) (hS : S.Pairwise fun a b => a.key < b.key) (hn : S.length ≤ 1000) (hc : countS S ≤ 1000) (s : ByteArray) (x y : Int) :
    Calls Tryd.prog 31 #[.pointer (some ⟨mh, 0, none⟩), .string s, .int .i64 x, .int .i64 y] wr fun e w' => ∃ v, e = .returned v ∧ w'.ownsRow wr.heap.size 55 2 v (betweenL x y (ptsOf S s.data.toList)).length (pairCells (betweenL x y (ptsOf S s.data.toList))) ∧ Below wr.heap.size wr w' := by
  obtain ⟨v, sv, rfl, h1⟩ := h.ex
  exact mPoints_any wr mh v S sv h1 hS hn (fun l hl => Nat.le_trans (len_count hl) hc) s x y
end Go.Proofs.YtfanagohfimnkaaDoor
/- The document's head: Cut by its contract. -/
namespace Go.Proofs.YtfanagohfimnkaaDoor
open Go.RowKit Go.Maps HeadMath LabMath PtMath

/-- The series when the first j of them are cut. -/
def cutI (t : Int) (j : Nat) (S : List Sr) : List Sr := (S.take j).map (cutl t) ++ S.drop j
theorem cutI_zero (t : Int) (S : List Sr) : cutI t 0 S = S := by simp [cutI]
theorem cutI_all (t : Int) (S : List Sr) : cutI t S.length S = cutS t S := by
  rw [cutI, List.take_length, List.drop_length, List.append_nil]
  rfl
theorem length_cutI (t : Int) (j : Nat) (S : List Sr) : (cutI t j S).length = S.length := by
  rw [cutI, List.length_append, List.length_map, List.length_take, List.length_drop]
  omega
theorem cutI_at {t : Int} {j : Nat} {S : List Sr} (h : j < S.length) : ∃ h' : j < (cutI t j S).length, (cutI t j S)[j] = S[j] := by
  have h' : j < (cutI t j S).length := by rw [length_cutI]; exact h
  refine ⟨h', ?_⟩
  have e : (cutI t j S)[j]? = some (S[j]) := by
    rw [cutI, List.getElem?_append_right (by rw [List.length_map, List.length_take]; omega), List.length_map, List.length_take, show j - min j S.length = 0 by omega, List.getElem?_drop, Nat.add_zero, List.getElem?_eq_getElem h]
  rw [List.getElem?_eq_getElem h'] at e
  injection e
theorem cutI_succ {t : Int} {j : Nat} {S : List Sr} (h : j < S.length) : cutI t (j + 1) S = (cutI t j S).set j (cutl t (S[j])) := by
  have e : S.drop j = S[j] :: S.drop (j + 1) := List.drop_eq_getElem_cons h
  have hl : ((S.take j).map (cutl t)).length = j := by rw [List.length_map, List.length_take]; omega
  rw [cutI, cutI, List.take_succ_eq_append_getElem h, List.map_append, e, List.set_append, if_neg (by omega), hl, Nat.sub_self, List.set_cons_zero, List.append_assoc]
  rfl
theorem cutI_sorted {t : Int} {j : Nat} {S : List Sr} (h : S.Pairwise fun a b => a.key < b.key) : (cutI t j S).Pairwise fun a b => a.key < b.key := by
  have e : (cutI t j S).map (fun l => l.key) = S.map (fun l => l.key) := by
    rw [cutI, List.map_append, List.map_map]
    conv => rhs; rw [← List.take_append_drop j S, List.map_append]
    rfl
  have h2 : (S.map (fun l => l.key)).Pairwise fun a b => a < b := List.pairwise_map.2 h
  rw [← e] at h2
  exact List.pairwise_map.1 h2
theorem rowsS_take {t : Int} {S : List Sr} {j : Nat} (h : j < S.length) : rowsS t (S.take (j + 1)) = rowsS t (S.take j) ++ if goneP t (S[j]).pts = [] then [] else [((S[j]).key, goneP t (S[j]).pts)] := by
  rw [List.take_succ_eq_append_getElem h]
  simp only [rowsS, List.map_append, List.filter_append, List.map_cons, List.map_nil, List.filter_cons, List.filter_nil]
  by_cases e : goneP t (S[j]).pts = []
  · simp [e]
  · simp [e]
theorem goneP_snoc (t : Int) (l : List (Int × Nat)) (p : Int × Nat) : goneP t (l ++ [p]) = if p.1 < t then goneP t l ++ [p] else goneP t l := by
  unfold goneP
  rw [List.filter_append]
  split <;> simp_all
theorem leftP_snoc (t : Int) (l : List (Int × Nat)) (p : Int × Nat) : leftP t (l ++ [p]) = if p.1 < t then leftP t l else leftP t l ++ [p] := by
  unfold leftP
  rw [List.filter_append]
  split <;> simp_all
/-- Slices of points, one behind the other. -/
def SlicesC (w : World) (base : Nat) : List Value → List (List UInt8 × List (Int × Nat)) → Prop
  | [], [] => True
  | s :: r, row :: rows => w.ownsRow base 55 2 s row.2.length (pairCells row.2) ∧ SlicesC w base r rows
  | _, _ => False
theorem SlicesC.map {w w' : World} {base : Nat} (hw : ∀ v n xs, w.ownsRow base 55 2 v n xs → w'.ownsRow base 55 2 v n xs) : ∀ {xs : List Value} {rows : List (List UInt8 × List (Int × Nat))}, SlicesC w base xs rows → SlicesC w' base xs rows
  | [], [], _ => trivial
  | _ :: _, _ :: _, h => ⟨hw _ _ _ h.1, SlicesC.map hw h.2⟩
theorem SlicesC.snoc {w : World} {base : Nat} {row : List UInt8 × List (Int × Nat)} {s : Value} (hs : w.ownsRow base 55 2 s row.2.length (pairCells row.2)) : ∀ {xs : List Value} {rows : List (List UInt8 × List (Int × Nat))}, SlicesC w base xs rows → SlicesC w base (xs ++ [s]) (rows ++ [row])
  | [], [], _ => ⟨hs, trivial⟩
  | _ :: _, _ :: _, h => ⟨h.1, SlicesC.snoc hs h.2⟩
theorem SlicesC.at {w : World} {base : Nat} : ∀ {xs : List Value} {rows : List (List UInt8 × List (Int × Nat))}, SlicesC w base xs rows → ∀ i (hi : i < rows.length), ∃ s, xs[i]? = some s ∧ w.ownsRow base 55 2 s (rows[i]).2.length (pairCells (rows[i]).2)
  | [], [], _, i, hi => absurd hi (by simp)
  | s :: _, _ :: _, h, 0, _ => ⟨s, by simp, h.1⟩
  | _ :: _, _ :: _, h, i + 1, hi => by
    have := SlicesC.at h.2 i (by simpa using hi)
    simpa using this
/-- On the way: j lines are cut. -/
structure MCutMid (w wr : World) (mh : Nat) (v : Value) (S : List Sr) (sv : List UInt8 → Value) (t : Int) (j : Nat) (svj : List UInt8 → Value) (vs vl : Value) (ls : List Value) : Prop where
  mat : MAt wr mh v (cutI t j S) svj
  set : wr.heap[w.heap.size]? = some (.cells #[vs, vl] 81 (0, 0))
  names : wr.ownsRow (w.heap.size + 1) 9 1 vs (rowsS t (S.take j)).length ((rowsS t (S.take j)).map fun x => encStr x.1)
  row : wr.ownsRow (w.heap.size + 1) 67 1 vl (rowsS t (S.take j)).length ls
  pts : SlicesC wr (w.heap.size + 1) ls (rowsS t (S.take j))
  kept : Kept v.ownBlock.toList w wr
  sub : ∀ x, x ∈ mfoot mh v (cutI t j S) svj → x ∈ mfoot mh v S sv ∨ w.heap.size < x
/-- Points that are gone, and those that are left: two rows of one's own. -/
structure MCutIn (wi wr : World) (t : Int) (ps : List (Int × Nat)) (vg vf : Value) : Prop where
  gone : wr.ownsRow wi.heap.size 55 2 vg (goneP t ps).length (pairCells (goneP t ps))
  left : wr.ownsRow wi.heap.size 55 2 vf (leftP t ps).length (pairCells (leftP t ps))
  apart : vg.ownBlock = none ∨ vg.ownBlock ≠ vf.ownBlock
  bel : Below wi.heap.size wi wr
theorem MCutIn.start (wi : World) (t : Int) : MCutIn wi wi t [] (.slice none 0 0) (.slice none 0 0) := ⟨⟨rfl, .inl ⟨rfl, rfl⟩⟩, ⟨rfl, .inl ⟨rfl, rfl⟩⟩, .inl rfl, Below.refl _ _⟩
/-- A point more that is gone. -/
theorem MCutIn.put {wi wr w7 : World} {t : Int} {ps : List (Int × Nat)} {vg vf v7 : Value} {p : Int × Nat} {cs : Obj} (h : MCutIn wi wr t ps vg vf) (hp : p.1 < t) (hg : (wr.alloc cs).grownBy w7 vg.ownBlock) (ho : w7.ownsRow wi.heap.size 55 2 v7 ((goneP t ps).length + 1) (pairCells (goneP t ps) ++ [.int .i64 p.1, .int .u64 (p.2 : Int)])) (hat : v7.ownBlock = vg.ownBlock ∨ v7.ownBlock = some (wr.heap.size + 1)) : MCutIn wi w7 t (ps ++ [p]) v7 vf := by
  have hne : ∀ b, vf.ownBlock = some b → some b ≠ vg.ownBlock := fun b hb e => by
    rcases h.apart with h1 | h1
    · rw [h1] at e; cases e
    · exact h1 (by rw [← e, hb])
  have hlt : ∀ b, vf.ownBlock = some b → b < wr.heap.size := fun b hb => (own_blk h.left hb).2.1
  have hkeep : ∀ b, b < wr.heap.size → some b ≠ vg.ownBlock → w7.heap[b]? = wr.heap[b]? := fun b hb hn => (hg.block b (by simp; omega) hn).trans (((Below.refl _ _).alloc (Nat.le_refl _) cs : Below wr.heap.size wr (wr.alloc cs)).block b hb)
  refine ⟨?_, ?_, ?_, h.bel.trans ⟨hg.os, hg.tape, hg.output, ?_, fun b hb => hkeep b (Nat.lt_of_lt_of_le hb h.bel.size) (own_low h.gone hb)⟩⟩
  · rw [goneP_snoc, if_pos hp, List.length_append, ← pairCells_snoc]
    exact ho
  · rw [leftP_snoc, if_pos hp]
    exact own_same h.left fun b hb => hkeep b (hlt b hb) (hne b hb)
  · rcases hat with e | e
    · rw [e]
      exact h.apart
    · refine .inr fun e2 => ?_
      have h1 := hlt _ (e2.symm.trans e)
      omega
  · have := hg.size
    simp at this
    omega
theorem MCutIn.keep {wi wr w7 : World} {t : Int} {ps : List (Int × Nat)} {vg vf v7 : Value} {p : Int × Nat} {cs : Obj} (h : MCutIn wi wr t ps vg vf) (hp : ¬ p.1 < t) (hg : (wr.alloc cs).grownBy w7 vf.ownBlock) (ho : w7.ownsRow wi.heap.size 55 2 v7 ((leftP t ps).length + 1) (pairCells (leftP t ps) ++ [.int .i64 p.1, .int .u64 (p.2 : Int)])) (hat : v7.ownBlock = vf.ownBlock ∨ v7.ownBlock = some (wr.heap.size + 1)) : MCutIn wi w7 t (ps ++ [p]) vg v7 := by
  have hne : ∀ b, vg.ownBlock = some b → some b ≠ vf.ownBlock := fun b hb e => by
    rcases h.apart with h1 | h1
    · rw [h1] at hb; cases hb
    · exact h1 (by rw [← e, hb])
  have hlt : ∀ b, vg.ownBlock = some b → b < wr.heap.size := fun b hb => (own_blk h.gone hb).2.1
  have hkeep : ∀ b, b < wr.heap.size → some b ≠ vf.ownBlock → w7.heap[b]? = wr.heap[b]? := fun b hb hn => (hg.block b (by simp; omega) hn).trans (((Below.refl _ _).alloc (Nat.le_refl _) cs : Below wr.heap.size wr (wr.alloc cs)).block b hb)
  refine ⟨?_, ?_, ?_, h.bel.trans ⟨hg.os, hg.tape, hg.output, ?_, fun b hb => hkeep b (Nat.lt_of_lt_of_le hb h.bel.size) (own_low h.left hb)⟩⟩
  · rw [goneP_snoc, if_neg hp]
    exact own_same h.gone fun b hb => hkeep b (hlt b hb) (hne b hb)
  · rw [leftP_snoc, if_neg hp, List.length_append, ← pairCells_snoc]
    exact ho
  · rcases hat with e | e
    · rw [e]
      exact h.apart
    · cases hgb : vg.ownBlock with
      | none => exact .inl rfl
      | some b =>
        refine .inr fun e2 => ?_
        rw [e] at e2
        have h1 := hlt b hgb
        injection e2 with e2
        omega
  · have := hg.size
    simp at this
    omega

/-- All but the line itself is turned. -/
structure MCutPre (w wz : World) (mh : Nat) (v : Value) (S : List Sr) (sv : List UInt8 → Value) (t : Int) (j : Nat) (svj : List UInt8 → Value) (vs vl : Value) (ls : List Value) (vf : Value) (ps : List (Int × Nat)) : Prop where
  mat : MAt wz mh v (cutI t j S) svj
  set : wz.heap[w.heap.size]? = some (.cells #[vs, vl] 81 (0, 0))
  names : wz.ownsRow (w.heap.size + 1) 9 1 vs (rowsS t (S.take (j + 1))).length ((rowsS t (S.take (j + 1))).map fun x => encStr x.1)
  row : wz.ownsRow (w.heap.size + 1) 67 1 vl (rowsS t (S.take (j + 1))).length ls
  pts : SlicesC wz (w.heap.size + 1) ls (rowsS t (S.take (j + 1)))
  left : wz.ownsRow 0 55 2 vf (leftP t ps).length (pairCells (leftP t ps))
  far : ∀ b, vf.ownBlock = some b → w.heap.size < b
  kept : Kept v.ownBlock.toList w wz
  sub : ∀ x, x ∈ mfoot mh v (cutI t j S) svj → x ∈ mfoot mh v S sv ∨ w.heap.size < x
theorem MCutPre.drew {w wz : World} {mh : Nat} {v : Value} {S : List Sr} {sv : List UInt8 → Value} {t : Int} {j : Nat} {svj : List UInt8 → Value} {vs vl : Value} {ls : List Value} {vf : Value} {ps : List (Int × Nat)} (h : MCutPre w wz mh v S sv t j svj vs vl ls vf ps) : MCutPre w wz.drew mh v S sv t j svj vs vl ls vf ps :=
  ⟨h.mat.same fun _ _ => rfl, h.set, h.names, h.row, SlicesC.map (w := wz) (w' := wz.drew) (fun _ _ _ hv => hv) h.pts, h.left, h.far, h.kept.drew, h.sub⟩
theorem MCutPre.done {w wz : World} {mh g cap : Nat} {S : List Sr} {sv : List UInt8 → Value} {t : Int} {j : Nat} {svj : List UInt8 → Value} {vs vl : Value} {ls : List Value} {vf : Value} {ps : List (Int × Nat)} {k : List UInt8} {la : Int} (h : MCutPre w wz mh (.slice (some ⟨g, 0, none⟩) S.length cap) S sv t j svj vs vl ls vf ps) (hS : S.Pairwise fun a b => a.key < b.key) (hj : j < S.length) (hps : ps = (S[j]).pts) (hk : k = (S[j]).key) (hla : la = (S[j]).last) :
    ∃ svk, MCutMid w (((wz.setCell ⟨g, j * 3, none⟩ (encStr k)).setCell ⟨g, j * 3 + 1, none⟩ vf).setCell ⟨g, j * 3 + 2, none⟩ (.int .i64 la)) mh (.slice (some ⟨g, 0, none⟩) S.length cap) S sv t (j + 1) svk vs vl ls := by
  obtain ⟨hji, hjk⟩ := cutI_at (t := t) hj
  have hm := h.mat
  have hlen := length_cutI t j S
  rw [← hlen] at hm
  obtain ⟨q1, q2⟩ := hm.turn (cutI_sorted hS) hji (k := k) (by rw [hjk, hk]) (leftP t ps) la vf h.left
  have hset : (cutI t j S).set j ⟨k, leftP t ps, la⟩ = cutI t (j + 1) S := by
    rw [cutI_succ hj, hk, hps, hla]
    rfl
  rw [hset, hlen] at q1 q2
  obtain ⟨_, hgl, cur, hgc⟩ := own_blk h.mat.row (g := g) rfl
  have hoth : ∀ b, b ≠ g → (((wz.setCell ⟨g, j * 3, none⟩ (encStr k)).setCell ⟨g, j * 3 + 1, none⟩ vf).setCell ⟨g, j * 3 + 2, none⟩ (.int .i64 la)).heap[b]? = wz.heap[b]? := fun b hb => by
    rw [Below.heap_setCell _ _ _ _ hb, Below.heap_setCell _ _ _ _ hb, Below.heap_setCell _ _ _ _ hb]
  have hown : ∀ base e sz v n xs, wz.ownsRow base e sz v n xs → e ≠ 109 → (((wz.setCell ⟨g, j * 3, none⟩ (encStr k)).setCell ⟨g, j * 3 + 1, none⟩ vf).setCell ⟨g, j * 3 + 2, none⟩ (.int .i64 la)).ownsRow base e sz v n xs := fun base e sz v n xs hv hne => own_same hv fun b hb => by
    obtain ⟨_, _, cur', hc⟩ := own_blk hv hb
    exact hoth b (cells_ne hc hgc hne)
  refine ⟨_, q1, ?_, hown _ _ _ _ _ _ h.names (by decide), hown _ _ _ _ _ _ h.row (by decide), h.pts.map fun v n xs hv => hown _ _ _ _ _ _ hv (by decide), ?_, fun x hx => ?_⟩
  · rw [hoth _ (cells_ne h.set hgc (by decide))]
    exact h.set
  · exact ((h.kept.setCell (p := ⟨g, j * 3, none⟩) (.inl (by simp [Value.ownBlock])) _).setCell (p := ⟨g, j * 3 + 1, none⟩) (.inl (by simp [Value.ownBlock])) _).setCell (p := ⟨g, j * 3 + 2, none⟩) (.inl (by simp [Value.ownBlock])) _
  · rcases q2 x hx with h1 | h1
    · exact h.sub x h1
    · exact .inr (h.far x h1)

theorem Tryd.infoPts2 : (Tryd.prog.info? 67).map (fun i => (i.zero, i.size, i.bytes)) = some (some (.slice none 0 0), 1, 24) := by kernel_rfl
/-- A row more is told. -/
theorem mcut_put {w wr Y w7 w10 : World} {mh : Nat} {v : Value} {S : List Sr} {sv : List UInt8 → Value} {t : Int} {j : Nat} {svj : List UInt8 → Value} {vs vl vg vf v7 v10 : Value} {ls : List Value} {ps : List (Int × Nat)} {kk : List UInt8} {rn : Nat} {cs : Obj}
    (hmat : MAt wr mh v (cutI t j S) svj) (hset : wr.heap[w.heap.size]? = some (.cells #[vs, vl] 81 (0, 0))) (hnm : wr.ownsRow (w.heap.size + 1) 9 1 vs rn ((rowsS t (S.take j)).map fun x => encStr x.1)) (hro : wr.ownsRow (w.heap.size + 1) 67 1 vl rn ls) (hps : SlicesC wr (w.heap.size + 1) ls (rowsS t (S.take j)))
    (hleft : wr.ownsRow 0 55 2 vf (leftP t ps).length (pairCells (leftP t ps))) (hfar : ∀ b, vf.ownBlock = some b → w.heap.size < b) (hgone : wr.ownsRow (w.heap.size + 1) 55 2 vg (goneP t ps).length (pairCells (goneP t ps))) (hkept : Kept v.ownBlock.toList w wr) (hsub : ∀ x, x ∈ mfoot mh v (cutI t j S) svj → x ∈ mfoot mh v S sv ∨ w.heap.size < x)
    (hrs : rowsS t (S.take (j + 1)) = rowsS t (S.take j) ++ [(kk, goneP t ps)]) (hrn : rn = (rowsS t (S.take j)).length) (hY : Below wr.heap.size wr Y) (hg7 : Y.grownBy w7 vs.ownBlock) (ho7 : w7.ownsRow (w.heap.size + 1) 9 1 v7 (rn + 1) (((rowsS t (S.take j)).map fun x => encStr x.1) ++ [encStr kk]))
    (hg10 : ((w7.setCell ⟨w.heap.size, 0, none⟩ v7).alloc cs).grownBy w10 vl.ownBlock) (ho10 : w10.ownsRow (w.heap.size + 1) 67 1 v10 (rn + 1) (ls ++ [vg])) :
    MCutPre w (w10.setCell ⟨w.heap.size, 1, none⟩ v10) mh v S sv t j svj v7 v10 (ls ++ [vg]) vf ps := by
  have hsz : w.heap.size < wr.heap.size := blk_lt hset
  have hY7 : wr.heap.size ≤ w7.heap.size := Nat.le_trans hY.size hg7.size
  have hs8 : ((w7.setCell ⟨w.heap.size, 0, none⟩ v7).alloc cs).heap.size = w7.heap.size + 1 := by simp
  have h7 : ∀ b, b < wr.heap.size → some b ≠ vs.ownBlock → w7.heap[b]? = wr.heap[b]? := fun b hb hn => (hg7.block b (Nat.lt_of_lt_of_le hb hY.size) hn).trans (hY.block b hb)
  have h10 : ∀ b, b < w7.heap.size → b ≠ w.heap.size → some b ≠ vl.ownBlock → w10.heap[b]? = w7.heap[b]? := fun b hb hn hl => by
    rw [hg10.block b (by omega) hl]
    have : ((w7.setCell ⟨w.heap.size, 0, none⟩ v7).alloc cs).heap[b]? = (w7.setCell ⟨w.heap.size, 0, none⟩ v7).heap[b]? := ((Below.refl _ _).alloc (Nat.le_refl _) cs : Below (w7.setCell ⟨w.heap.size, 0, none⟩ v7).heap.size (w7.setCell ⟨w.heap.size, 0, none⟩ v7) _).block b (by simp; omega)
    rw [this, Below.heap_setCell _ _ _ _ hn]
  have hfin : ∀ b, b < wr.heap.size → b ≠ w.heap.size → some b ≠ vs.ownBlock → some b ≠ vl.ownBlock → (w10.setCell ⟨w.heap.size, 1, none⟩ v10).heap[b]? = wr.heap[b]? := fun b hb hn h1 h2 => by
    rw [Below.heap_setCell _ _ _ _ hn, h10 b (by omega) hn h2, h7 b hb h1]
  have hty : ∀ (b : Nat) (cs' : Array Value) (e : TypeId) (f : Nat × Nat), wr.heap[b]? = some (.cells cs' e f) → e ≠ 81 → e ≠ 9 → e ≠ 67 → (w10.setCell ⟨w.heap.size, 1, none⟩ v10).heap[b]? = wr.heap[b]? := fun b cs' e f hb h1 h2 h3 => by
    refine hfin b (blk_lt hb) (cells_ne hb hset h1) (fun e' => ?_) (fun e' => ?_)
    · obtain ⟨_, _, cur, hc⟩ := own_blk hnm e'.symm
      exact cells_ne hb hc h2 rfl
    · obtain ⟨_, _, cur, hc⟩ := own_blk hro e'.symm
      exact cells_ne hb hc h3 rfl
  have hpt : ∀ base z n xs, wr.ownsRow base 55 2 z n xs → (w10.setCell ⟨w.heap.size, 1, none⟩ v10).ownsRow base 55 2 z n xs := fun base z n xs hz => own_same hz fun b hb => by
    obtain ⟨_, _, cur, hc⟩ := own_blk hz hb
    exact hty b _ _ _ hc (by decide) (by decide) (by decide)
  have hw7s : w7.heap[w.heap.size]? = some (.cells #[vs, vl] 81 (0, 0)) := (h7 _ hsz (own_low hnm (by omega))).trans hset
  have hw10s : w10.heap[w.heap.size]? = some (.cells #[v7, vl] 81 (0, 0)) := by
    rw [hg10.block w.heap.size (by omega) (own_low hro (by omega))]
    have h1 := Go.Joins.block_setCell (i := 0) hw7s v7
    have : ((w7.setCell ⟨w.heap.size, 0, none⟩ v7).alloc cs).heap[w.heap.size]? = (w7.setCell ⟨w.heap.size, 0, none⟩ v7).heap[w.heap.size]? := ((Below.refl _ _).alloc (Nat.le_refl _) cs : Below (w7.setCell ⟨w.heap.size, 0, none⟩ v7).heap.size (w7.setCell ⟨w.heap.size, 0, none⟩ v7) _).block _ (by simp; omega)
    rw [this, h1]
    rfl
  refine ⟨hmat.same fun b hb => ?_, ?_, ?_, ?_, ?_, hpt _ _ _ _ hleft, hfar, ?_, hsub⟩
  · rcases mem_mfoot.1 hb with rfl | hg | ⟨l, hl, hg⟩
    · exact hty _ _ _ _ hmat.head (by decide) (by decide) (by decide)
    · obtain ⟨_, _, cur, hc⟩ := own_blk hmat.row hg
      exact hty _ _ _ _ hc (by decide) (by decide) (by decide)
    · obtain ⟨_, _, cur, hc⟩ := own_blk (hmat.pts l hl) hg
      exact hty _ _ _ _ hc (by decide) (by decide) (by decide)
  · rw [Go.Joins.block_setCell (i := 1) hw10s v10]
    rfl
  · rw [hrs, List.length_append, ← hrn, List.map_append]
    refine own_same ho7 fun b hb => ?_
    obtain ⟨h1, h2, cur, hc⟩ := own_blk ho7 hb
    rw [Below.heap_setCell _ _ _ _ (by show b ≠ w.heap.size; omega)]
    refine h10 b h2 (by omega) fun e' => ?_
    obtain ⟨_, h3, cur2, hc2⟩ := own_blk hro e'.symm
    have h4 : w7.heap[b]? = wr.heap[b]? := h7 b h3 fun e2 => by
      obtain ⟨_, _, cur3, hc3⟩ := own_blk hnm e2.symm
      exact cells_ne hc2 hc3 (by decide) rfl
    rw [h4, hc2] at hc
    injection hc with hc
    injection hc with _ hc
    exact absurd hc (by decide)
  · rw [hrs, List.length_append, ← hrn]
    exact own_same ho10 fun b hb => by
      have := (own_blk ho10 hb).1
      exact Below.heap_setCell _ _ _ _ (by show b ≠ w.heap.size; omega)
  · rw [hrs]
    exact SlicesC.snoc (row := (kk, goneP t ps)) (hpt _ _ _ _ hgone) (hps.map fun z n xs hz => hpt _ _ _ _ hz)
  · have hb10 : Kept (w.heap.size :: (vs.ownBlock.toList ++ vl.ownBlock.toList)) wr (w10.setCell ⟨w.heap.size, 1, none⟩ v10) := by
      refine ⟨hg10.os.trans (hg7.os.trans hY.os), hg10.tape.trans (hg7.tape.trans hY.tape), hg10.output.trans (hg7.output.trans hY.output), ?_, fun b hb hn => ?_⟩
      · have := hg10.size
        simp
        omega
      · simp only [List.mem_cons, List.mem_append, Option.mem_toList, not_or] at hn
        exact hfin b hb hn.1 (fun e => hn.2.1 e.symm) (fun e => hn.2.2 e.symm)
    refine hkept.trans hb10 fun x hx => .inr ?_
    simp only [List.mem_cons, List.mem_append, Option.mem_toList] at hx
    rcases hx with rfl | hx | hx
    · exact Nat.le_refl _
    · have := (own_blk hnm hx).1
      omega
    · have := (own_blk hro hx).1
      omega
end Go.Proofs.YtfanagohfimnkaaDoor
/- The document's head: Cut by its contract, all of it. -/
namespace Go.Proofs.YtfanagohfimnkaaDoor
open Go.RowKit Go.Maps HeadMath LabMath PtMath

set_option maxRecDepth 1000000 in
set_option maxHeartbeats 4000000 in
theorem mCut_any (w : World) (mh : Nat) (v : Value) (S : List Sr) (sv : List UInt8 → Value) (h : MAt w mh v S sv) (hS : S.Pairwise fun a b => a.key < b.key) (hn : S.length ≤ 900) (hc : ∀ l, l ∈ S → l.pts.length ≤ 900) (t : Int) :
    Calls Tryd.prog 29 #[.pointer (some ⟨mh, 0, none⟩), .int .i64 t] w fun e w' => e = .returned (.pointer (some ⟨w.heap.size, 0, none⟩)) ∧ ∃ svj vs vl ls, MCutMid w w' mh v S sv t S.length svj vs vl ls := by
  have HS := (show Hid _ from And.intro hS hc)
  obtain ⟨W, hW⟩ : ∃ W, W = w.alloc (.cells #[.slice none 0 0, .slice none 0 0] 81) := ⟨_, rfl⟩
  have hbW : Below w.heap.size w W := by rw [hW]; exact (Below.refl _ _).alloc (Nat.le_refl _) _
  have hsW : W.heap[w.heap.size]? = some (.cells #[.slice none 0 0, .slice none 0 0] 81 (0, 0)) := by rw [hW]; exact heap_alloc_new _ _
  have HW : Hid (∀ wx, wx = w.alloc (.cells #[.slice none 0 0, .slice none 0 0] 81) → wx = W) := fun wx hx => hx.trans hW.symm
  have H0 : Hid (MCutMid w W mh v S sv t 0 sv (.slice none 0 0) (.slice none 0 0) []) := by
    refine ⟨by rw [cutI_zero]; exact h.below hbW, hsW, ⟨rfl, .inl ⟨rfl, rfl⟩⟩, ⟨rfl, .inl ⟨rfl, rfl⟩⟩, trivial, Kept.of_below hbW, fun x hx => .inl (by rw [cutI_zero] at hx; exact hx)⟩
  obtain ⟨n, hnn⟩ : ∃ n, S.length = n := ⟨_, rfl⟩
  have HN := (show Hid _ from hnn)
  rw [hnn] at hn
  clear h hS hc hW hbW hsW hnn
  go_enter Tryd.func29, Tryd.ntmps29
  go_upto_region 2 with fail
  rw [HW.out _ rfl]
  clear HW
  go_wp2_with fail
  go_loopw [6] (fun i wr => ∃ (j : Nat) (svj : List UInt8 → Value) (vs vl : Value) (ls : List Value), i = .int .i64 (j : Int) ∧ j ≤ n ∧ MCutMid w wr mh v S sv t j svj vs vl ls) (fun i _ => n - (intOf i).toNat)
  case atStart => exact ⟨0, sv, _, _, [], rfl, Nat.zero_le _, H0.out⟩
  case round =>
    obtain ⟨j, svj, vs, vl, ls, rfl, hj, hmid⟩ := hrel
    obtain ⟨wo, hwo⟩ : ∃ wo, wo = wr := ⟨_, rfl⟩
    subst hwo
    have HM := (show Hid _ from hmid)
    have m0 := hmid.mat.cell
    obtain ⟨a, cap, hv, hcap, hat⟩ := hmid.mat.open
    rw [length_cutI] at hv hcap
    have HV := (show Hid _ from hv)
    rw [hv, HN.out] at m0
    by_cases hlt : j < n
    · have hj' : j < S.length := by rw [HN.out]; exact hlt
      obtain ⟨hji, hjk⟩ := cutI_at (t := t) hj'
      obtain ⟨g, rfl, l0, l1, l2⟩ := hat j hji
      rw [hjk] at l0 l1 l2
      have hj0 : (0 : Int) ≤ (j : Int) := by omega
      have hj1 : (j : Int) < (n : Int) := by omega
      obtain ⟨ps, hps⟩ : ∃ ps, ps = (S[j]).pts := ⟨_, rfl⟩
      obtain ⟨kk, hkk⟩ : ∃ kk, kk = (S[j]).key := ⟨_, rfl⟩
      obtain ⟨la, hla⟩ : ∃ la, la = (S[j]).last := ⟨_, rfl⟩
      have hprow := hmid.mat.pts _ (List.getElem_mem hji)
      rw [hjk, ← hps, ← hkk] at hprow
      rw [← hkk] at l0 l1
      rw [← hla] at l2
      have hpl : ps.length ≤ 900 := by rw [hps]; exact HS.out.2 _ (List.getElem_mem hj')
      obtain ⟨pa, pc, hvs, _, hpts, _⟩ := own_pairs hprow
      obtain ⟨q, hq⟩ : ∃ q, q = ps.length := ⟨_, rfl⟩
      rw [hvs, ← hq] at l1
      have HQ := (show Hid _ from And.intro hps (And.intro hkk (And.intro hla (And.intro hq hvs))))
      have HPT := (show Hid _ from hpts)
      rw [← hq] at hpl
      obtain ⟨iP, hI, hI0, hI1, hI2⟩ := info_parts Tryd.infoPt
      have HII := (show Hid _ from hI)
      have HL := (show Hid _ from And.intro m0 (And.intro l0 (And.intro l1 l2)))
      have hmx : mh < wo.heap.size := blk_lt hmid.mat.head
      have hgx : g < wo.heap.size := World.block_lt_of_cell? wo ⟨g, _, none⟩ l0
      clear hmid hat hv hcap hji hjk hps hkk hla hq hprow hpts hvs hI
      go_wp2_with fail
      go_loopw [7, 8, 9] (fun vg vf i wq => ∃ k : Nat, k ≤ q ∧ i = .int .i64 (k : Int) ∧ MCutIn wo wq t (ps.take k) vg vf) (fun _ _ i _ => q - (intOf i).toNat)
      case atStart => exact ⟨0, Nat.zero_le _, rfl, MCutIn.start wo t⟩
      case round =>
        obtain ⟨k, hk, rfl, hin⟩ := hrel
        have HIN := (show Hid _ from hin)
        have hbel := hin.bel
        have b0 := (hbel.cell (p := ⟨mh, 0, none⟩) hmx).trans HL.out.1
        have b1 := (hbel.cell (p := ⟨g, j * 3 + 1, none⟩) hgx).trans HL.out.2.2.1
        have hwq : wo.heap.size ≤ wr.heap.size := hbel.size
        by_cases hkq : k < q
        · have hkp : k < ps.length := by rw [← HQ.out.2.2.2.1]; exact hkq
          have hk0 : (0 : Int) ≤ (k : Int) := by omega
          have hk1 : (k : Int) < (q : Int) := by omega
          have hpw : PtsL wr pa ps := PtsL.below HPT.out hbel
          rcases hpw with h0 | ⟨pb, po, rfl, hcs⟩
          · rw [h0] at hkp; simp at hkp
          obtain ⟨c0, c1⟩ := hcs k hkp
          obtain ⟨tk, htk⟩ : ∃ tk, tk = (ps[k]).1 := ⟨_, rfl⟩
          obtain ⟨uk, huk⟩ : ∃ uk, uk = (ps[k]).2 := ⟨_, rfl⟩
          rw [← htk] at c0
          rw [← huk] at c1
          have HSN : Hid (ps.take (k + 1) = ps.take k ++ [(tk, uk)]) := by
            show _ = _
            rw [List.take_succ_eq_append_getElem hkp, htk, huk]
          have HTL : Hid ((ps.take k).length ≤ 900) := by
            show _ ≤ _
            rw [List.length_take]
            omega
          have H1C : Hid (∀ z ∈ ([.int .i64 tk, .int .u64 (uk : Int)] : List Value), z.oneCell' = true) := by
            intro z hz
            simp at hz
            rcases hz with rfl | rfl <;> rfl
          have HNW : Hid (∀ i z, ([.int .i64 tk, .int .u64 (uk : Int)] : List Value)[i]? = some z → (wr.alloc (.cells #[.int .i64 tk, .int .u64 (uk : Int)] 55)).cell? ((⟨wr.heap.size, 0, none⟩ : Addr).add i) = some z) := World.news_of_block (heap_alloc_new wr _)
          clear hcs htk huk hin hbel
          by_cases htt : tk < t
          · have d0 : decide (tk < t) = true := decide_eq_true htt
            have HOA : Hid ((wr.alloc (.cells #[.int .i64 tk, .int .u64 (uk : Int)] 55)).ownsRow wo.heap.size 55 2 u7 (goneP t (ps.take k)).length (pairCells (goneP t (ps.take k)))) := HIN.out.gone.alloc _
            have hgl : (goneP t (ps.take k)).length ≤ 900 := Nat.le_trans (List.length_filter_le ..) HTL.out
            go_wp2_with (at_builtin; refine wpList_append_gen rfl _ _ 67 rfl wo.heap.size 55 iP (.agg #[.int .i64 0, .int .u64 0]) 2 16 Tryd.underlying67 HII.out hI0 hI1 hI2 rfl (by decide) _ _ _ rfl HOA.out (some ⟨wr.heap.size, 0, none⟩) 1 1 [.int .i64 tk, .int .u64 (uk : Int)] rfl rfl (.inr ⟨_, _, rfl, HNW.out⟩) H1C.out (by omega) (by decide) (by simp; omega) ?_)
            intro v7 w7 ho7 hg7 ha7
            have HR := (show Hid _ from HIN.out.put (p := (tk, uk)) htt hg7 ho7 ha7)
            rw [← HSN.out] at HR
            clear ho7 hg7 ha7
            go_wp2
            go_roundw
            case rel => exact ⟨k + 1, by omega, by go_num, HR.out⟩
            case measure => simp [intOf] <;> omega
          · have d0 : decide (tk < t) = false := decide_eq_false htt
            have HOA : Hid ((wr.alloc (.cells #[.int .i64 tk, .int .u64 (uk : Int)] 55)).ownsRow wo.heap.size 55 2 u8 (leftP t (ps.take k)).length (pairCells (leftP t (ps.take k)))) := HIN.out.left.alloc _
            have hgl : (leftP t (ps.take k)).length ≤ 900 := Nat.le_trans (List.length_filter_le ..) HTL.out
            go_wp2_with (at_builtin; refine wpList_append_gen rfl _ _ 67 rfl wo.heap.size 55 iP (.agg #[.int .i64 0, .int .u64 0]) 2 16 Tryd.underlying67 HII.out hI0 hI1 hI2 rfl (by decide) _ _ _ rfl HOA.out (some ⟨wr.heap.size, 0, none⟩) 1 1 [.int .i64 tk, .int .u64 (uk : Int)] rfl rfl (.inr ⟨_, _, rfl, HNW.out⟩) H1C.out (by omega) (by decide) (by simp; omega) ?_)
            intro v7 w7 ho7 hg7 ha7
            have HR := (show Hid _ from HIN.out.keep (p := (tk, uk)) (Int.not_lt.2 htt) hg7 ho7 ha7)
            rw [← HSN.out] at HR
            clear ho7 hg7 ha7
            go_wp2
            go_roundw
            case rel => exact ⟨k + 1, by omega, by go_num, HR.out⟩
            case measure => simp [intOf] <;> omega
        · obtain rfl : k = q := by omega
          have hta : ps.take k = ps := by rw [HQ.out.2.2.2.1]; exact List.take_length
          rw [hta] at HIN
          have hnl : ¬ (k : Int) < (k : Int) := by omega
          have b2 := (hbel.cell (p := ⟨g, j * 3, none⟩) hgx).trans HL.out.2.1
          have b3 := (hbel.cell (p := ⟨g, j * 3 + 2, none⟩) hgx).trans HL.out.2.2.2
          rw [enc_eq] at b2
          obtain ⟨kb, hkb⟩ : ∃ kb : ByteArray, kb = ⟨kk.toArray⟩ := ⟨_, rfl⟩
          rw [← hkb] at b2
          have HKB := (show Hid _ from hkb)
          obtain ⟨gl, hgl⟩ : ∃ gl, gl = (goneP t ps).length := ⟨_, rfl⟩
          obtain ⟨fl, hfl⟩ : ∃ fl, fl = (leftP t ps).length := ⟨_, rfl⟩
          obtain ⟨ga, gc, hvg⟩ := own_shape HIN.out.gone
          obtain ⟨fa, fc, hvf⟩ := own_shape HIN.out.left
          rw [← hgl] at hvg
          rw [← hfl] at hvf
          subst hvg hvf
          have HGL := (show Hid _ from And.intro hgl hfl)
          have hww : w.heap.size < wo.heap.size := blk_lt HM.out.set
          have HFAR : Hid (∀ b, (Value.slice fa fl fc).ownBlock = some b → w.heap.size < b) := fun b hb => Nat.lt_of_lt_of_le hww (own_blk HIN.out.left hb).1
          have hMw := HM.out.mat.below hbel
          have HLW : Hid (wr.ownsRow 0 55 2 (.slice fa fl fc) (leftP t ps).length (pairCells (leftP t ps))) := by
            obtain ⟨c1, c2⟩ := HIN.out.left
            refine ⟨c1, ?_⟩
            rcases c2 with c2 | ⟨g', c', cu', c3, _, c4⟩
            · exact .inl c2
            · exact .inr ⟨g', c', cu', c3, Nat.zero_le _, c4⟩
          have HBE := (show Hid _ from hbel)
          have HMW := (show Hid _ from hMw)
          clear hin hbel hkb hgl hfl hMw hkq hk
          have hset := (HBE.out.block _ (blk_lt HM.out.set)).trans HM.out.set
          have HST := (show Hid _ from hset)
          have s0 : wr.cell? ⟨w.heap.size, 0, none⟩ = some vs := by simp [World.cell?, hset]
          have s1 : wr.cell? ⟨w.heap.size, 1, none⟩ = some vl := by simp [World.cell?, hset]
          have hmv : ∀ base e sz z n xs, wo.ownsRow base e sz z n xs → wr.ownsRow base e sz z n xs := fun base e sz z n xs hz => own_same hz fun b hb => HBE.out.block b (own_blk hz hb).2.1
          have HNM := (show Hid _ from hmv _ _ _ _ _ _ HM.out.names)
          have HRO := (show Hid _ from hmv _ _ _ _ _ _ HM.out.row)
          have HPS : Hid (SlicesC wr (w.heap.size + 1) ls (rowsS t (S.take j))) := HM.out.pts.map fun z n xs hz => hmv _ _ _ _ _ _ hz
          have HKP : Hid (Kept v.ownBlock.toList w wr) := HM.out.kept.trans (Kept.of_below (S := []) HBE.out) (fun x hx => by cases hx)
          clear hset hmv
          go_upto_if 78 with fail
          go_cut [8] from 78 to 105 (fun vf wz => vf = .slice fa fl fc ∧ ∃ vs' vl' ls', MCutPre w wz mh v S sv t j svj vs' vl' ls' (.slice fa fl fc) ps)
          case first =>
            by_cases hz : gl = 0
            · subst hz
              have HRS : Hid (rowsS t (S.take (j + 1)) = rowsS t (S.take j)) := by
                show _ = _
                rw [rowsS_take hj', ← HQ.out.1, if_pos (List.eq_nil_of_length_eq_zero HGL.out.1.symm), List.append_nil]
              have HPRE : Hid (MCutPre w wr mh v S sv t j svj vs vl ls (.slice fa fl fc) ps) :=
                ⟨HMW.out, HST.out, by rw [HRS.out]; exact HNM.out, by rw [HRS.out]; exact HRO.out, by rw [HRS.out]; exact HPS.out, HLW.out, HFAR.out, HKP.out, HM.out.sub⟩
              go_wp2_with fail
              go_meet
              case rel => exact ⟨rfl, vs, vl, ls, HPRE.out⟩
            · have d0 : decide ((0 : Int) < (gl : Int)) = true := decide_eq_true (by omega)
              have HRS : Hid (rowsS t (S.take (j + 1)) = rowsS t (S.take j) ++ [(kk, goneP t ps)]) := by
                show _ = _
                rw [rowsS_take hj', ← HQ.out.1, ← HQ.out.2.1, if_neg]
                intro e
                have := HGL.out.1
                rw [e] at this
                exact hz this
              obtain ⟨rn, hrn⟩ : ∃ rn, rn = (rowsS t (S.take j)).length := ⟨_, rfl⟩
              have hrl : rn ≤ 900 := by
                rw [hrn]
                refine Nat.le_trans (List.length_filter_le ..) ?_
                rw [List.length_map, List.length_take]
                omega
              rw [← hrn] at HNM HRO
              have HRN := (show Hid _ from hrn)
              have HGO : Hid (wr.ownsRow (w.heap.size + 1) 55 2 (.slice ga gl gc) (goneP t ps).length (pairCells (goneP t ps))) := by
                obtain ⟨c1, c2⟩ := HIN.out.gone
                refine ⟨c1, ?_⟩
                rcases c2 with c2 | ⟨g', c', cu', c3, c5, c4⟩
                · exact .inl c2
                · exact .inr ⟨g', c', cu', c3, by omega, c4⟩
              obtain ⟨iS, hI, hS0, hS1, hS2⟩ := info_parts Tryd.infoStr2
              have HIS := (show Hid _ from hI)
              clear hI hrn
              obtain ⟨iR, hI, hR0, hR1, hR2⟩ := info_parts Tryd.infoPts2
              have HIR := (show Hid _ from hI)
              clear hI
              have hsb : w.heap.size < wr.heap.size := blk_lt HST.out
              have hmw : mh < wr.heap.size := by omega
              have hgw : g < wr.heap.size := by omega
              have HY : Hid (Below wr.heap.size wr (wr.drew.alloc (.cells #[.string kb] 9))) := (Below.refl _ _).drew.alloc (Nat.le_refl _) _
              have HYR : Hid ((wr.drew.alloc (.cells #[.string kb] 9)).ownsRow (w.heap.size + 1) 9 1 vs rn ((rowsS t (S.take j)).map fun x => encStr x.1)) := own_same HNM.out fun b hb => HY.out.block b (own_blk HNM.out hb).2.1
              have HNEWS : Hid (∀ i z, ([.string kb] : List Value)[i]? = some z → (wr.drew.alloc (.cells #[.string kb] 9)).cell? ((⟨wr.heap.size, 0, none⟩ : Addr).add i) = some z) := World.news_of_block (heap_alloc_new wr.drew _)
              have H1C : Hid (∀ z ∈ ([.string kb] : List Value), z.oneCell' = true) := by
                intro z hz
                simp at hz
                subst hz
                rfl
              have sd0 : wr.drew.cell? ⟨w.heap.size, 0, none⟩ = some vs := s0
              have sa0 : (wr.drew.alloc (.cells #[.string kb] 9)).cell? ⟨w.heap.size, 0, none⟩ = some vs := (HY.out.cell (p := ⟨w.heap.size, 0, none⟩) hsb).trans s0
              have sb0 : (wr.alloc (.cells #[.string kb] 9)).cell? ⟨w.heap.size, 0, none⟩ = some vs := sa0
              have bd0 : wr.drew.cell? ⟨mh, 0, none⟩ = some (.slice (some ⟨g, 0, none⟩) n cap) := b0
              have bd2 : wr.drew.cell? ⟨g, j * 3, none⟩ = some (.string kb) := b2
              go_wp2_with fail
              go_region_law (refine step_append_lies _ (by rfl) _ _ 61 (by rfl) (w.heap.size + 1) 9 iS (.string ⟨#[]⟩) 1 16 Tryd.underlying61 HIS.out hS0 hS1 hS2 (by rfl) (by decide) _ _ _ (by rfl) (by exact HYR.out) ⟨wr.heap.size, 0, none⟩ 1 1 [.string kb] (by rfl) (by rfl) (by exact HNEWS.out) H1C.out (by omega) (by unfold maxLen; omega) (by omega) (by simp; omega) _ rfl ?_; intro g7 cap7 w7 hown7 hgrow7 hat7 hlt7; have hs7 : w7.heap[w.heap.size]? = some (.cells #[vs, vl] 81 (0, 0)) := ((hgrow7.block _ (by simp; omega) (own_low HYR.out (by omega))).trans ((HY.out.block _ hsb).trans HST.out)); have q0 : w7.cell? ⟨w.heap.size, 0, none⟩ = some vs := (by simp [World.cell?, hs7]); have z0 : w7.frozen? ⟨w.heap.size, 0, none⟩ = false := (by simp [World.frozen?, hs7]); have HG7 := (show Hid _ from hgrow7); have HO7 := (show Hid _ from hown7); have HS7 := (show Hid _ from hs7); clear hgrow7 hown7 hat7 hs7)
              all_goals (
                have hw7 : wr.heap.size ≤ w7.heap.size := Nat.le_trans HY.out.size HG7.out.size
                have hc7 := Go.Joins.block_setCell (i := 0) HS7.out (.slice (some ⟨g7, 0, none⟩) (rn + 1) cap7)
                have q1 : (w7.setCell ⟨w.heap.size, 0, none⟩ (.slice (some ⟨g7, 0, none⟩) (rn + 1) cap7)).cell? ⟨w.heap.size, 1, none⟩ = some vl := by simp [World.cell?, hc7]
                have HOA : Hid (((w7.setCell ⟨w.heap.size, 0, none⟩ (.slice (some ⟨g7, 0, none⟩) (rn + 1) cap7)).alloc (.cells #[.slice ga gl gc] 67)).ownsRow (w.heap.size + 1) 67 1 vl rn ls) := by
                  refine World.ownsRow.alloc (own_same HRO.out fun b hb => ?_) _
                  obtain ⟨o1, o2, cur, hc⟩ := own_blk HRO.out hb
                  rw [Below.heap_setCell _ _ _ _ (by show b ≠ w.heap.size; omega)]
                  refine (HG7.out.block b (by simp; omega) fun e' => ?_).trans (HY.out.block b o2)
                  obtain ⟨_, _, cur2, hc2⟩ := own_blk HNM.out e'.symm
                  exact cells_ne hc hc2 (by decide) rfl
                have HNW : Hid (∀ i z, ([.slice ga gl gc] : List Value)[i]? = some z → ((w7.setCell ⟨w.heap.size, 0, none⟩ (.slice (some ⟨g7, 0, none⟩) (rn + 1) cap7)).alloc (.cells #[.slice ga gl gc] 67)).cell? ((⟨(w7.setCell ⟨w.heap.size, 0, none⟩ (.slice (some ⟨g7, 0, none⟩) (rn + 1) cap7)).heap.size, 0, none⟩ : Addr).add i) = some z) := World.news_of_block (heap_alloc_new _ _)
                rw [World.size_setCell] at HNW
                have H1R : Hid (∀ z ∈ ([.slice ga gl gc] : List Value), z.oneCell' = true) := by
                  intro z hz
                  simp at hz
                  subst hz
                  rfl
                have HC7 := (show Hid _ from hc7)
                clear hc7
                go_wp2_with (at_builtin; refine wpList_append_gen rfl _ _ 79 rfl (w.heap.size + 1) 67 iR (.slice none 0 0) 1 24 Tryd.underlying79 HIR.out hR0 hR1 hR2 rfl (by decide) _ rn ls rfl HOA.out (some ⟨w7.heap.size, 0, none⟩) 1 1 [.slice ga gl gc] rfl rfl (.inr ⟨_, _, rfl, HNW.out⟩) H1R.out (by omega) (by decide) (by simp; omega) ?_)
                intro v10 w10 ho10 hg10 ha10
                have hs10 : w10.heap[w.heap.size]? = some (.cells #[.slice (some ⟨g7, 0, none⟩) (rn + 1) cap7, vl] 81 (0, 0)) := by
                  rw [hg10.block w.heap.size (by simp; omega) (own_low HRO.out (by omega)), ((Below.refl _ _).alloc (Nat.le_refl _) _ : Below (w7.setCell ⟨w.heap.size, 0, none⟩ (.slice (some ⟨g7, 0, none⟩) (rn + 1) cap7)).heap.size (w7.setCell ⟨w.heap.size, 0, none⟩ (.slice (some ⟨g7, 0, none⟩) (rn + 1) cap7)) ((w7.setCell ⟨w.heap.size, 0, none⟩ (.slice (some ⟨g7, 0, none⟩) (rn + 1) cap7)).alloc (.cells #[.slice ga gl gc] 67))).block _ (by simp; omega), HC7.out]
                  rfl
                have y1 : w10.cell? ⟨w.heap.size, 1, none⟩ = some vl := by simp [World.cell?, hs10]
                have yz : w10.frozen? ⟨w.heap.size, 1, none⟩ = false := by simp [World.frozen?, hs10]
                have HPRE := (show Hid _ from mcut_put (kk := kk) HMW.out HST.out HNM.out HRO.out HPS.out HLW.out HFAR.out HGO.out HKP.out HM.out.sub HRS.out HRN.out HY.out HG7.out (by rw [enc_eq, ← HKB.out]; exact HO7.out) hg10 ho10)
                obtain ⟨a10, c10, hv10⟩ := own_shape ho10
                subst hv10
                clear ho10 hg10 ha10 hs10
                go_wp2_with fail
                go_meet
                case rel => exact ⟨rfl, _, _, _, HPRE.out⟩)
          case rest =>
            obtain ⟨rfl, vs', vl', ls', hpre⟩ := hcut
            have HPRE := (show Hid _ from hpre)
            obtain ⟨a9, cap9, hv9, _, hat9⟩ := hpre.mat.open
            rw [length_cutI] at hv9
            rw [HV.out] at hv9
            injection hv9 with e1 e2 e3
            subst e1
            clear e2 e3
            have x0 := hpre.mat.cell
            rw [HV.out, HN.out] at x0
            obtain ⟨hji, hjk⟩ := cutI_at (t := t) hj'
            obtain ⟨g9, e9, y0, y1, y2⟩ := hat9 j hji
            injection e9 with e9
            injection e9 with e9
            subst e9
            rw [hjk] at y0 y1 y2
            rw [← HQ.out.2.1, enc_eq, ← HKB.out] at y0
            rw [← HQ.out.2.2.1] at y2
            obtain ⟨_, _, cur, hgc⟩ := own_blk hpre.mat.row (g := g) (by rw [HV.out]; rfl)
            have f0 : wc.frozen? ⟨g, j * 3, none⟩ = false := by simp [World.frozen?, hgc]
            have f1 : wc.frozen? ⟨g, j * 3 + 1, none⟩ = false := by simp [World.frozen?, hgc]
            have f2 : wc.frozen? ⟨g, j * 3 + 2, none⟩ = false := by simp [World.frozen?, hgc]
            have hpre2 := hpre.drew
            rw [HV.out] at hpre2
            have HD := (show Hid _ from hpre2.done HS.out.1 hj' HQ.out.1 HQ.out.2.1 HQ.out.2.2.1)
            rw [enc_eq, ← HKB.out] at HD
            clear hgc hpre hpre2 hat9 hjk
            apply_assumption
            go_wp2_with fail
            go_region
            all_goals (
              go_wp2
              go_roundw
              case rel =>
                obtain ⟨svk, hd⟩ := HD.out
                rw [← HV.out] at hd
                exact ⟨j + 1, svk, vs', vl', ls', by go_num, by omega, hd⟩
              case measure => simp [intOf] <;> omega)
    · obtain rfl : j = n := by omega
      have hge : (j : Int) ≤ (j : Int) := Int.le_refl _
      clear hmid hat hv hcap
      go_wp2
      go_ret
      exact ⟨by rfl, svj, vs, vl, ls, by rw [HN.out]; exact HM.out⟩
end Go.Proofs.YtfanagohfimnkaaDoor
/- The document's head beside the program's: what is cut. -/
namespace Go.Proofs.YtfanagohfimnkaaDoor
open Go.RowKit Go.Maps HeadMath LabMath PtMath

/-- A set of rows, as the document's Cut tells it. -/
structure SetAt (w : World) (base sb : Nat) (vs vl : Value) (ls : List Value) (rows : List (List UInt8 × List (Int × Nat))) : Prop where
  set : w.heap[sb]? = some (.cells #[vs, vl] 81 (0, 0))
  names : w.ownsRow base 9 1 vs rows.length (rows.map fun x => encStr x.1)
  row : w.ownsRow base 67 1 vl rows.length ls
  pts : SlicesC w base ls rows
theorem mf_cut (w wr : World) (hw : w.heap.size ≤ wr.heap.size) (mh : Nat) (S : List Sr) (G : List Nat) (h : MdF w wr mh S G) (hS : S.Pairwise fun a b => a.key < b.key) (hn : S.length ≤ 900) (hc : countS S ≤ 900) (t : Int) :
    Calls Tryd.prog 29 #[.pointer (some ⟨mh, 0, none⟩), .int .i64 t] wr fun e w' => e = .returned (.pointer (some ⟨wr.heap.size, 0, none⟩)) ∧ ∃ G' vs vl ls, MdF w w' mh (cutS t S) G' ∧ Kept G wr w' ∧ (∀ x, x ∈ G' → x ∈ G ∨ wr.heap.size < x) ∧ SetAt w' (wr.heap.size + 1) wr.heap.size vs vl ls (rowsS t S) := by
  obtain ⟨v, sv, rfl, h1⟩ := h.ex
  refine (mCut_any wr mh v S sv h1 hS hn (fun l hl => Nat.le_trans (len_count hl) hc) t).mono ?_
  rintro e w' ⟨rfl, svj, vs, vl, ls, hm⟩
  have hta : S.take S.length = S := List.take_length
  obtain ⟨m1, m2, m3, m4, m5, m6, m7⟩ := hm
  rw [cutI_all] at m1 m7
  rw [hta] at m3 m4 m5
  refine ⟨rfl, _, vs, vl, ls, ⟨⟨v, svj, rfl, m1⟩, fun x hx => ?_⟩, ⟨m6.os, m6.tape, m6.output, m6.size, fun k hk hne => m6.block k hk fun h => hne ?_⟩, m7, ⟨m2, m3, m4, m5⟩⟩
  · rcases m7 x hx with h2 | h2
    · exact h.low x h2
    · omega
  · exact mem_mfoot.2 (.inr (.inl (by simpa using h)))
/-- The program's head has turned: the document's is as it was. -/
theorem Two.first {w wr w1 : World} {hb mh : Nat} {S S' : List Sr} {F G F' : List Nat} (h : Two w wr hb mh S F G) (k1 : Kept F wr w1) (s1 : ∀ x, x ∈ F' → x ∈ F ∨ wr.heap.size ≤ x) (_ : HdF w w1 hb S' F') : MdF w w1 mh S G ∧ (∀ x, x ∈ F' → x ∉ G) ∧ Below w.heap.size w w1 := by
  refine ⟨h.md.kept k1 fun x hx hf => h.apart x hf hx, fun x hx hg => ?_, h.bel.trans (k1.below h.bel.size h.hd.low)⟩
  rcases s1 x hx with h1 | h1
  · exact h.apart x h1 hg
  · have := h.md.lt hg
    omega
/-- And then the document's. -/
theorem Two.second {w w1 w2 : World} {hb mh : Nat} {S' : List Sr} {F' G G' : List Nat} (h1 : HdF w w1 hb S' F') (hd : ∀ x, x ∈ F' → x ∉ G) (hl : ∀ x, x ∈ G → w.heap.size ≤ x) (hb1 : Below w.heap.size w w1) (k2 : Kept G w1 w2) (s2 : ∀ x, x ∈ G' → x ∈ G ∨ w1.heap.size ≤ x) (h2 : MdF w w2 mh S' G') : Two w w2 hb mh S' F' G' := by
  refine ⟨h1.kept k2 hd, h2, fun x hx hg => ?_, hb1.trans (k2.below hb1.size hl)⟩
  rcases s2 x hg with h3 | h3
  · exact hd x hx h3
  · have := h1.lt hx
    omega
end Go.Proofs.YtfanagohfimnkaaDoor
/- Both heads under 'add': one step each, and the fault held against the document's. -/
namespace Go.Proofs.YtfanagohfimnkaaDoor
open Go.RowKit Go.Maps HeadMath LabMath PtMath

/-- The series behind an add that may be refused. -/
noncomputable def addR (S : List Sr) (k : List UInt8) (t : Int) (u : Nat) : List Sr := if 0 < addC S k t then S else addS S k (t, u)
theorem addR_pos {S : List Sr} {k : List UInt8} {t : Int} (u : Nat) (h : 0 < addC S k t) : addR S k t u = S := if_pos h
theorem addR_zero {S : List Sr} {k : List UInt8} {t : Int} (u : Nat) (h : addC S k t = 0) : addR S k t u = addS S k (t, u) := if_neg (by omega)
theorem addR_small (S : List Sr) (k : List UInt8) (t : Int) (u : Nat) (hS : S.Pairwise fun a b => a.key < b.key) : (addR S k t u).length ≤ S.length + 1 ∧ countS (addR S k t u) ≤ countS S + 1 := by
  rcases addC_cases S k t with h0 | h0
  · rw [addR_pos u h0]; exact ⟨by omega, by omega⟩
  · rw [addR_zero u h0]
    refine ⟨?_, by rw [count_addS]; omega⟩
    rw [length_addS _ _ _ hS]
    split <;> omega
structure AddHalf (ea : Nat → Addr) (w w0 w3 : World) (hb mh ab : Nat) (S S2 : List Sr) (F' G : List Nat) (v : Value) (C A : Int) : Prop where
  fv : FaultV ea w3 v C A
  hd : HdF w w3 hb S2 F'
  md : MdF w w3 mh S G
  ap : ∀ x, x ∈ F' → x ∉ G
  bel : Below w.heap.size w w3
  blk : w3.heap[ab]? = w0.heap[ab]?
  sz : w0.heap.size ≤ w3.heap.size
structure AddBoth (ea : Nat → Addr) (w w0 w4 : World) (hb mh ab : Nat) (S2 : List Sr) (F' G' : List Nat) (v : Value) (C A : Int) : Prop where
  fv : FaultV ea w4 v C A
  two : Two w w4 hb mh S2 F' G'
  blk : w4.heap[ab]? = w0.heap[ab]?
  sz : w0.heap.size ≤ w4.heap.size
theorem add_first {B : Nat} {ea : Nat → Addr} (w wr : World) (E : Env B ea w) (hB : B ≤ w.heap.size) (hb mh ab : Nat) (S : List Sr) (F G : List Nat) (h : Two w wr hb mh S F G) (hn : S.length ≤ 900) (hc : countS S ≤ 900) (s : ByteArray) (hs : s.size ≤ 1000) (t : Int) (u : Nat) (hu : u < 18446744073709551616) (hab : ab ∉ F ∧ ab ∉ G ∧ ab < wr.heap.size) :
    Calls Tryd.prog 20 #[.pointer (some ⟨hb, 0, none⟩), .string s, .agg #[.int .i64 t, .int .u64 (u : Int)]] wr fun e w3 => ∃ v F', e = .returned v ∧ AddHalf ea w wr w3 hb mh ab S (addR S s.data.toList t u) F' G v (addC S s.data.toList t) (addA s.data.toList) := by
  refine (hf_add w wr (E.head.below h.bel hB) hB h.bel.size hb S F h.hd hn hc s hs t u hu).mono ?_
  rintro e w3 ⟨v, F', rfl, hf, h1, h2, k3, s3⟩
  have hd3 : HdF w w3 hb (addR S s.data.toList t u) F' := by
    rcases addC_cases S s.data.toList t with h0 | h0
    · rw [addR_pos u h0]; exact h1 h0
    · rw [addR_zero u h0]; exact h2 h0
  obtain ⟨q1, q2, q3⟩ := h.first k3 s3 hd3
  exact ⟨v, F', rfl, hf, hd3, q1, q2, q3, k3.block ab hab.2.2 hab.1, k3.size⟩
theorem add_second {ea : Nat → Addr} (w wr w3 : World) (hb mh ab : Nat) (S : List Sr) (F F' G : List Nat) (v : Value) (h0 : Two w wr hb mh S F G) (hn : S.length ≤ 900) (hc : countS S ≤ 900) (s : ByteArray) (hs : s.size ≤ 1000) (t : Int) (u : Nat) (hab : ab ∉ G ∧ ab < wr.heap.size)
    (h : AddHalf ea w wr w3 hb mh ab S (addR S s.data.toList t u) F' G v (addC S s.data.toList t) (addA s.data.toList)) :
    Calls Tryd.prog 28 #[.pointer (some ⟨mh, 0, none⟩), .string s, .agg #[.int .i64 t, .int .u64 (u : Int)]] w3 fun e w4 => e = .returned (.agg #[.int .i64 (addC S s.data.toList t), .int .i64 (addA s.data.toList)]) ∧ ∃ G', AddBoth ea w wr w4 hb mh ab (addR S s.data.toList t u) F' G' v (addC S s.data.toList t) (addA s.data.toList) := by
  refine (mf_add w w3 h.bel.size mh S G h.md h0.hd.well.sorted hn hc s hs t u).mono ?_
  rintro e w4 ⟨G', rfl, h1, h2, k4, s4, p4⟩
  have md4 : MdF w w4 mh (addR S s.data.toList t u) G' := by
    rcases addC_cases S s.data.toList t with h0 | h0
    · rw [addR_pos u h0]; exact h1 h0
    · rw [addR_zero u h0]; exact h2 h0
  refine ⟨rfl, G', ?_, Two.second h.hd h.ap h0.md.low h.bel k4 s4 md4, (k4.block ab (Nat.lt_of_lt_of_le hab.2 h.sz) hab.1).trans h.blk, Nat.le_trans h.sz k4.size⟩
  rcases addC_cases S s.data.toList t with hp | hp
  · exact h.fv.below (p4 hp)
  · have hv := h.fv
    rw [hp] at hv ⊢
    rcases hv with ⟨rfl, _⟩ | ⟨m, hm, rfl, hc, _⟩ | ⟨pb, m, hm, rfl, c0, c1, hc⟩
    · exact .inl ⟨rfl, rfl⟩
    · omega
    · omega
theorem add_third {B : Nat} {ea : Nat → Addr} (w wr w4 : World) (E : Env B ea w) (hB : B ≤ w.heap.size) (hb mh ab : Nat) (S2 : List Sr) (F' G' : List Nat) (v : Value) (C A : Int) (hab : ab < wr.heap.size) (h : AddBoth ea w wr w4 hb mh ab S2 F' G' v C A) :
    Calls Tryd.prog 27 #[v, .agg #[.int .i64 C, .int .i64 A]] w4 fun e w5 => e = .returned (.bool true) ∧ Two w w5 hb mh S2 F' G' ∧ w5.heap[ab]? = wr.heap[ab]? := by
  refine (faulted2_v w4 (E.below h.two.bel hB) (Nat.le_trans hB h.two.bel.size) v C A h.fv).mono ?_
  rintro e w5 ⟨rfl, h5⟩
  exact ⟨rfl, h.two.below h5, (h5.block ab (Nat.lt_of_lt_of_le hab h.sz)).trans h.blk⟩
end Go.Proofs.YtfanagohfimnkaaDoor
/- Both heads under 'points' and 'cut': one step each, and what is told held side by side. -/
namespace Go.Proofs.YtfanagohfimnkaaDoor
open Go.RowKit Go.Maps HeadMath LabMath PtMath

theorem same_two (w : World) (a b : Option Addr) (ca cb : Nat) (l : List (Int × Nat)) (ha : PtsL w a l) (hb : PtsL w b l) (hin : PtsIn l) (hn : l.length ≤ 1000) :
    Calls Tryd.prog 30 #[.slice a l.length ca, .slice b l.length cb] w fun e w' => e = .returned (.bool true) ∧ ∃ q, w' = w.drewN q :=
  same_points w a b l.length ca cb (tickAt l) (bitAt l) (pts_of_list ha hin) (pts_of_list hb hin) (by omega)
theorem ptsOf_cases (S : List Sr) (k : List UInt8) : ptsOf S k = [] ∨ ∃ l, l ∈ S ∧ ptsOf S k = l.pts := by
  unfold ptsOf
  cases h : S.find? (fun l => decide (l.key = k)) with
  | none => exact .inl rfl
  | some l => exact .inr ⟨l, List.mem_of_find?_eq_some h, rfl⟩
theorem between_in {S : List Sr} (hw : Well S) (k : List UInt8) (x y : Int) : PtsIn (betweenL x y (ptsOf S k)) := fun p hp => by
  have h1 : p ∈ ptsOf S k := (List.mem_filter.1 hp).1
  rcases ptsOf_cases S k with h | ⟨l, hl, h⟩
  · rw [h] at h1; cases h1
  · rw [h] at h1
    have := hw.inb l hl p h1
    omega
theorem between_len {S : List Sr} (k : List UInt8) (x y : Int) : (betweenL x y (ptsOf S k)).length ≤ countS S := by
  refine Nat.le_trans (List.length_filter_le _ _) ?_
  rcases ptsOf_cases S k with h | ⟨l, hl, h⟩
  · rw [h]; simp
  · rw [h]; exact len_count hl
structure PtMid (w w0 w1 : World) (hb mh : Nat) (S : List Sr) (F G : List Nat) (v : Value) (L : List (Int × Nat)) : Prop where
  two : Two w w1 hb mh S F G
  ex : ∃ a c, v = .slice a L.length c ∧ PtsL w1 a L
  bel : Below w0.heap.size w0 w1
theorem pt_first (w wr : World) (hb mh : Nat) (S : List Sr) (F G : List Nat) (h : Two w wr hb mh S F G) (hc : countS S ≤ 1000) (s : ByteArray) (hs : s.size ≤ 1000) (x y : Int) :
    Calls Tryd.prog 26 #[.pointer (some ⟨hb, 0, none⟩), .string s, .int .i64 x, .int .i64 y] wr fun e w1 => ∃ v, e = .returned v ∧ PtMid w wr w1 hb mh S F G v (betweenL x y (ptsOf S s.data.toList)) := by
  refine (hf_points w wr hb S F h.hd hc s hs x y).mono ?_
  rintro e w1 ⟨v, rfl, ho, h1⟩
  obtain ⟨a, c, rfl, _, hp, _⟩ := own_pairs ho
  exact ⟨_, rfl, h.below h1, ⟨a, c, rfl, hp⟩, h1⟩
structure PtEnd (w w0 w2 : World) (hb mh : Nat) (S : List Sr) (F G : List Nat) (v v' : Value) (L : List (Int × Nat)) : Prop where
  two : Two w w2 hb mh S F G
  ex : ∃ a c, v = .slice a L.length c ∧ PtsL w2 a L
  ex' : ∃ a c, v' = .slice a L.length c ∧ PtsL w2 a L
  bel : Below w0.heap.size w0 w2
theorem pt_second (w w0 wr : World) (hb mh : Nat) (S : List Sr) (F G : List Nat) (v : Value) (s : ByteArray) (x y : Int) (h : PtMid w w0 wr hb mh S F G v (betweenL x y (ptsOf S s.data.toList))) (hn : S.length ≤ 1000) (hc : countS S ≤ 1000) :
    Calls Tryd.prog 31 #[.pointer (some ⟨mh, 0, none⟩), .string s, .int .i64 x, .int .i64 y] wr fun e w2 => ∃ v', e = .returned v' ∧ PtEnd w w0 w2 hb mh S F G v v' (betweenL x y (ptsOf S s.data.toList)) := by
  refine (mf_points w wr mh S G h.two.md h.two.hd.well.sorted hn hc s x y).mono ?_
  rintro e w2 ⟨v', rfl, ho, h2⟩
  obtain ⟨a', c', rfl, _, hp', _⟩ := own_pairs ho
  obtain ⟨a, c, rfl, hp⟩ := h.ex
  exact ⟨_, rfl, h.two.below h2, ⟨a, c, rfl, hp.below h2⟩, ⟨a', c', rfl, hp'⟩, h.bel.trans (h2.mono h.bel.size)⟩
theorem pt_third (w w0 w2 : World) (hb mh : Nat) (S : List Sr) (F G : List Nat) (v v' : Value) (k : List UInt8) (x y : Int) (h : PtEnd w w0 w2 hb mh S F G v v' (betweenL x y (ptsOf S k))) (hc : countS S ≤ 1000) :
    Calls Tryd.prog 30 #[v, v'] w2 fun e w3 => e = .returned (.bool true) ∧ Two w w3 hb mh S F G ∧ Below w0.heap.size w0 w3 := by
  obtain ⟨a, c, rfl, hp⟩ := h.ex
  obtain ⟨a', c', rfl, hp'⟩ := h.ex'
  refine (same_two w2 a a' c c' _ hp hp' (between_in h.two.hd.well k x y) (Nat.le_trans (between_len k x y) hc)).mono ?_
  rintro e w3 ⟨rfl, q, rfl⟩
  have hd : Below w2.heap.size w2 (w2.drewN q) := below_draws (Below.refl _ _) _
  exact ⟨rfl, h.two.below hd, h.bel.trans (hd.mono h.bel.size)⟩

/-- The program's head is cut; the document's is not yet. -/
structure CutHalf (ea : Nat → Addr) (w w0 w1 : World) (hb mh ab : Nat) (t : Int) (S : List Sr) (F' G : List Nat) (r v : Value) : Prop where
  hd : HdF w w1 hb (cutS t S) F'
  md : MdF w w1 mh S G
  ap : ∀ x, x ∈ F' → x ∉ G
  bel : Below w.heap.size w w1
  blk : w1.heap[ab]? = w0.heap[ab]?
  sz : w0.heap.size ≤ w1.heap.size
  rows : (rowsS t S = [] ∧ r = .slice none 0 0 ∧ v = .iface 197 (.pointer (some (ea 4)))) ∨ (rowsS t S ≠ [] ∧ v = .nilIface ∧ ∃ xs, w1.ownsRow w0.heap.size 70 2 r (rowsS t S).length xs ∧ RowsC w1 w0.heap.size xs (rowsS t S))
theorem cut_first {B : Nat} {ea : Nat → Addr} (w wr : World) (E : Env B ea w) (hB : B ≤ w.heap.size) (hb mh ab : Nat) (S : List Sr) (F G : List Nat) (h : Two w wr hb mh S F G) (hn : S.length ≤ 1000) (hc : countS S ≤ 1000) (t : Int) (hab : ab ∉ F ∧ ab ∉ G ∧ ab < wr.heap.size) :
    Calls Tryd.prog 23 #[.pointer (some ⟨hb, 0, none⟩), .int .i64 t] wr fun e w1 => ∃ r v F', e = .returned (.tuple #[r, v]) ∧ CutHalf ea w wr w1 hb mh ab t S F' G r v := by
  refine (hf_cut w wr (E.head.below h.bel hB) hB h.bel.size hb S F h.hd hn hc t).mono ?_
  rintro e w1 ⟨F', h1, k1, s1, hr⟩
  obtain ⟨q1, q2, q3⟩ := h.first k1 s1 h1
  rcases hr with ⟨hr0, rfl⟩ | ⟨hr1, r, xs, rfl, ho, hR⟩
  · exact ⟨_, _, F', rfl, h1, q1, q2, q3, k1.block ab hab.2.2 hab.1, k1.size, .inl ⟨hr0, rfl, rfl⟩⟩
  · exact ⟨_, _, F', rfl, h1, q1, q2, q3, k1.block ab hab.2.2 hab.1, k1.size, .inr ⟨hr1, rfl, xs, ho, hR⟩⟩
/-- Rows of texts, as a slice holds them; rows of slices of points. -/
def NamesAt (w : World) (r : Value) (rows : List (List UInt8 × List (Int × Nat))) : Prop :=
  ∃ a c, r = .slice a rows.length c ∧ rows.length ≤ c ∧ ∀ i (hi : i < rows.length), ∃ g, a = some ⟨g, 0, none⟩ ∧ w.cell? ⟨g, i, none⟩ = some (encStr (rows[i]).1)
def PtssAt (w : World) (r : Value) (rows : List (List UInt8 × List (Int × Nat))) : Prop :=
  ∃ a c, r = .slice a rows.length c ∧ rows.length ≤ c ∧ ∀ i (hi : i < rows.length), ∃ g, a = some ⟨g, 0, none⟩ ∧ ∃ ap cp, w.cell? ⟨g, i, none⟩ = some (.slice ap (rows[i]).2.length cp) ∧ PtsL w ap (rows[i]).2
theorem own_ones {w : World} {base : Nat} {T : TypeId} {r : Value} {n : Nat} {xs : List Value} (h : w.ownsRow base T 1 r n xs) : ∃ a c, r = .slice a n c ∧ n ≤ c ∧ ∀ i, i < n → ∃ g, a = some ⟨g, 0, none⟩ ∧ w.cell? ⟨g, i, none⟩ = xs[i]? := by
  rcases h.2 with ⟨hv, h0⟩ | ⟨g, cap, cur, hv, _, hh, hn, _, _, ht⟩
  · exact ⟨none, 0, by rw [h0]; exact hv, by omega, fun i hi => absurd hi (by omega)⟩
  · refine ⟨some ⟨g, 0, none⟩, cap, hv, by omega, fun i hi => ⟨g, rfl, ?_⟩⟩
    have e0 : w.cell? ⟨g, i, none⟩ = cur[i]? := by simp [World.cell?, hh]
    rw [e0, ← Array.getElem?_toList, ← ht, List.getElem?_take_of_lt (by omega)]
theorem SetAt.namesAt {w : World} {base sb : Nat} {vs vl : Value} {ls : List Value} {rows : List (List UInt8 × List (Int × Nat))} (h : SetAt w base sb vs vl ls rows) : NamesAt w vs rows := by
  obtain ⟨a, c, rfl, hc, hx⟩ := own_ones h.names
  refine ⟨a, c, rfl, hc, fun i hi => ?_⟩
  obtain ⟨g, rfl, hg⟩ := hx i hi
  refine ⟨g, rfl, hg.trans ?_⟩
  rw [List.getElem?_map, List.getElem?_eq_getElem hi]
  rfl
theorem SetAt.ptssAt {w : World} {base sb : Nat} {vs vl : Value} {ls : List Value} {rows : List (List UInt8 × List (Int × Nat))} (h : SetAt w base sb vs vl ls rows) : PtssAt w vl rows := by
  obtain ⟨a, c, rfl, hc, hx⟩ := own_ones h.row
  refine ⟨a, c, rfl, hc, fun i hi => ?_⟩
  obtain ⟨g, rfl, hg⟩ := hx i hi
  obtain ⟨s, h1, h2⟩ := h.pts.at i hi
  obtain ⟨ap, cp, rfl, _, hp, _⟩ := own_pairs h2
  exact ⟨g, rfl, ap, cp, hg.trans h1, hp⟩
/-- Both are cut. -/
structure CutBoth (ea : Nat → Addr) (w w0 w2 : World) (hb mh ab sb : Nat) (t : Int) (S : List Sr) (F' G' : List Nat) (r v vs vl : Value) : Prop where
  two : Two w w2 hb mh (cutS t S) F' G'
  blk : w2.heap[ab]? = w0.heap[ab]?
  sz : w0.heap.size ≤ w2.heap.size
  rows : (rowsS t S = [] ∧ r = .slice none 0 0 ∧ v = .iface 197 (.pointer (some (ea 4)))) ∨ (rowsS t S ≠ [] ∧ v = .nilIface)
  at_ : RowsAt w2 r (rowsS t S)
  set : w2.heap[sb]? = some (.cells #[vs, vl] 81 (0, 0))
  names : NamesAt w2 vs (rowsS t S)
  ptss : PtssAt w2 vl (rowsS t S)
theorem cut_second {ea : Nat → Addr} (w wr w1 : World) (hb mh ab : Nat) (S : List Sr) (F F' G : List Nat) (r v : Value) (h0 : Two w wr hb mh S F G) (hn : S.length ≤ 900) (hc : countS S ≤ 900) (t : Int) (hab : ab ∉ G ∧ ab < wr.heap.size) (h : CutHalf ea w wr w1 hb mh ab t S F' G r v) :
    Calls Tryd.prog 29 #[.pointer (some ⟨mh, 0, none⟩), .int .i64 t] w1 fun e w2 => e = .returned (.pointer (some ⟨w1.heap.size, 0, none⟩)) ∧ ∃ G' vs vl, CutBoth ea w wr w2 hb mh ab w1.heap.size t S F' G' r v vs vl := by
  refine (mf_cut w w1 h.bel.size mh S G h.md h0.hd.well.sorted hn hc t).mono ?_
  rintro e w2 ⟨rfl, G', vs, vl, ls, h2, k2, s2, hset⟩
  have hG : ∀ x, x ∈ G → x < wr.heap.size := fun x hx => h0.md.lt hx
  have hkeep : ∀ T sz u n xs, w1.ownsRow wr.heap.size T sz u n xs → w2.ownsRow wr.heap.size T sz u n xs := fun T sz u n xs hu => own_same hu fun g hg => k2.block g (own_blk hu hg).2.1 fun hx => by
    have := hG g hx
    have := (own_blk hu hg).1
    omega
  refine ⟨rfl, G', vs, vl, Two.second h.hd h.ap h0.md.low h.bel k2 (fun x hx => (s2 x hx).imp id (fun h => Nat.le_of_lt h)) h2, (k2.block ab (Nat.lt_of_lt_of_le hab.2 h.sz) hab.1).trans h.blk, Nat.le_trans h.sz k2.size, h.rows.imp id (fun h => ⟨h.1, h.2.1⟩), ?_, hset.set, hset.namesAt, hset.ptssAt⟩
  rcases h.rows with ⟨hr, rfl, _⟩ | ⟨_, _, xs, ho, hR⟩
  · rw [hr]
    exact rowsAt_nil _
  · exact rowsAt_of (hkeep _ _ _ _ _ ho) (hR.map fun u n xs hu => hkeep _ _ u n xs hu)
theorem lt_cell {w : World} {g i : Nat} {v : Value} (h : w.cell? ⟨g, i, none⟩ = some v) : g < w.heap.size := World.block_lt_of_cell? w ⟨g, i, none⟩ h
theorem rowsAt_below {w w' : World} (hw : Below w.heap.size w w') {r : Value} {rows : List (List UInt8 × List (Int × Nat))} (h : RowsAt w r rows) : RowsAt w' r rows := by
  obtain ⟨a, c, rfl, h1⟩ := h
  refine ⟨a, c, rfl, fun i hi => ?_⟩
  obtain ⟨g, rfl, h2, ap, cp, h3, h4⟩ := h1 i hi
  exact ⟨g, rfl, (hw.cell (p := ⟨g, _, none⟩) (lt_cell h2)).trans h2, ap, cp, (hw.cell (p := ⟨g, _, none⟩) (lt_cell h3)).trans h3, h4.below hw⟩
theorem namesAt_below {w w' : World} (hw : Below w.heap.size w w') {r : Value} {rows : List (List UInt8 × List (Int × Nat))} (h : NamesAt w r rows) : NamesAt w' r rows := by
  obtain ⟨a, c, rfl, hc, h1⟩ := h
  refine ⟨a, c, rfl, hc, fun i hi => ?_⟩
  obtain ⟨g, rfl, h2⟩ := h1 i hi
  exact ⟨g, rfl, (hw.cell (p := ⟨g, _, none⟩) (lt_cell h2)).trans h2⟩
theorem ptssAt_below {w w' : World} (hw : Below w.heap.size w w') {r : Value} {rows : List (List UInt8 × List (Int × Nat))} (h : PtssAt w r rows) : PtssAt w' r rows := by
  obtain ⟨a, c, rfl, hc, h1⟩ := h
  refine ⟨a, c, rfl, hc, fun i hi => ?_⟩
  obtain ⟨g, rfl, ap, cp, h2, h3⟩ := h1 i hi
  exact ⟨g, rfl, ap, cp, (hw.cell (p := ⟨g, _, none⟩) (lt_cell h2)).trans h2, h3.below hw⟩
theorem CutBoth.below {ea : Nat → Addr} {w w0 w2 w3 : World} {hb mh ab sb : Nat} {t : Int} {S : List Sr} {F' G' : List Nat} {r v vs vl : Value} (h : CutBoth ea w w0 w2 hb mh ab sb t S F' G' r v vs vl) (hab : ab < w0.heap.size) (hw : Below w2.heap.size w2 w3) : CutBoth ea w w0 w3 hb mh ab sb t S F' G' r v vs vl :=
  ⟨h.two.below hw, (hw.block ab (Nat.lt_of_lt_of_le hab h.sz)).trans h.blk, Nat.le_trans h.sz hw.size, h.rows, rowsAt_below hw h.at_, (hw.block sb (blk_lt h.set)).trans h.set, namesAt_below hw h.names, ptssAt_below hw h.ptss⟩
theorem rows_in {S : List Sr} (hw : Well S) (t : Int) (i : Nat) (hi : i < (rowsS t S).length) : PtsIn ((rowsS t S)[i]).2 := fun p hp => by
  have hm := List.getElem_mem hi
  obtain ⟨h1, _⟩ := List.mem_filter.1 hm
  obtain ⟨l, hl, e⟩ := List.mem_map.1 h1
  rw [← e] at hp
  have := hw.inb l hl p (List.mem_filter.1 hp).1
  omega
theorem rows_len {S : List Sr} (t : Int) (i : Nat) (hi : i < (rowsS t S).length) : ((rowsS t S)[i]).2.length ≤ countS S := by
  have h1 := sumR_succ (rowsS t S) i hi
  have h2 := sumR_le (rowsS t S) (i + 1)
  have h3 := count_cut t S
  omega
end Go.Proofs.YtfanagohfimnkaaDoor
