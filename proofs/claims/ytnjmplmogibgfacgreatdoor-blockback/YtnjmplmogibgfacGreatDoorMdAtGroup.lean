/- The document's head, as it lies in memory: a row of lines; what it tells, by contracts. -/
import Derived.Test.YtnjmplmogibgfacGreatDoorHeadAtGroup
import Derived.Test.YtnjmplmogibgfacGreatDoorSortStr
import Derived.Test.YtnjmplmogibgfacGreatDoorHeadCount
import Derived.Deep.AppendLies
import Derived.Test.YtnjmplmogibgfacGreatDoorPtListGroup
namespace Go.Proofs.YtnjmplmogibgfacGreatDoor
open Go.RowKit Go.Maps HeadMath LabMath PtMath
theorem enc_eq (k : List UInt8) : encStr k = .string ⟨k.toArray⟩ := rfl
end Go.Proofs.YtnjmplmogibgfacGreatDoor
/- head's Series by its contract. -/
namespace Go.Proofs.YtnjmplmogibgfacGreatDoor
open Go.RowKit Go.Maps HeadMath LabMath PtMath

/-- What has been collected: the texts that have come, of series that have points, none twice. -/
structure Coll (S : List Sr) (left : Lit → Bool) (ss : List (List UInt8)) : Prop where
  nodup : ss.Nodup
  mem : ∀ k, k ∈ ss ↔ k ∈ seriesS S ∧ left (.string k) = false
theorem Coll.start (S : List Sr) (left : Lit → Bool) (h : ∀ l, l ∈ S → left (.string l.key) = true) : Coll S left [] := by
  refine ⟨List.nodup_nil, fun k => ⟨fun h1 => absurd h1 List.not_mem_nil, fun h1 => ?_⟩⟩
  obtain ⟨l, hl, rfl, _⟩ := mem_seriesS.1 h1.1
  have h2 := h1.2
  rw [h l hl] at h2
  cases h2
theorem Coll.skip {S : List Sr} {left : Lit → Bool} {ss : List (List UInt8)} (h : Coll S left ss) {x : List UInt8} (hx : x ∉ seriesS S) : Coll S (fun z => left z && !z.sameKey (.string x)) ss := by
  refine ⟨h.nodup, fun k => ?_⟩
  rw [h.mem, sameKey_str]
  by_cases e : k = x
  · subst e
    exact ⟨fun h => absurd h.1 hx, fun h => absurd h.1 hx⟩
  · simp [e]
theorem Coll.put {S : List Sr} {left : Lit → Bool} {ss : List (List UInt8)} (h : Coll S left ss) {x : List UInt8} (hx : x ∈ seriesS S) (hl : left (.string x) = true) : Coll S (fun z => left z && !z.sameKey (.string x)) (ss ++ [x]) := by
  have hn : x ∉ ss := fun e => by
    have := ((h.mem x).1 e).2
    rw [hl] at this
    cases this
  refine ⟨List.nodup_append.2 ⟨h.nodup, List.pairwise_singleton .., fun a ha b hb => ?_⟩, fun k => ?_⟩
  · simp at hb
    subst hb
    intro e
    subst e
    exact hn ha
  · rw [List.mem_append, h.mem, sameKey_str]
    by_cases e : k = x
    · subst e
      simp [hx]
    · simp [e]
theorem Coll.sorted {S : List Sr} {left : Lit → Bool} {ss : List (List UInt8)} (h : Coll S left ss) (hS : S.Pairwise fun a b => a.key < b.key) (hl : ∀ kl, left kl = false) : ss.mergeSort leB = seriesS S := by
  have hp : ss.Perm (seriesS S) := (List.perm_ext_iff_of_nodup h.nodup (nodup_seriesS hS)).2 fun k => by rw [h.mem, hl]; simp
  have tr : ∀ a b c : List UInt8, leB a b = true → leB b c = true → leB a c = true := fun a b c h1 h2 => by simp only [leB, decide_eq_true_eq] at *; exact List.le_trans h1 h2
  have tot : ∀ a b : List UInt8, (leB a b || leB b a) = true := fun a b => by simp only [leB, Bool.or_eq_true, decide_eq_true_eq]; exact List.le_total a b
  refine List.Perm.eq_of_pairwise (le := fun a b => leB a b = true) (fun a b _ _ h1 h2 => ?_) (List.pairwise_mergeSort tr tot ss) ((sorted_seriesS hS).imp fun {a b} hab => by simp only [leB, decide_eq_true_eq]; exact List.le_of_lt hab) ((List.mergeSort_perm ss leB).trans hp)
  simp only [leB, decide_eq_true_eq] at h1 h2
  exact List.le_antisymm h1 h2

theorem Tryz.infoStr2 : (Tryz.prog.info? 9).map (fun i => (i.zero, i.size, i.bytes)) = some (some (.string ⟨#[]⟩), 1, 16) := by kernel_rfl

end Go.Proofs.YtnjmplmogibgfacGreatDoor
/- What the document's head tells: how many points, the series, a series' points; two lists of texts. -/
namespace Go.Proofs.YtnjmplmogibgfacGreatDoor
open Go.RowKit Go.Maps HeadMath LabMath PtMath
set_option maxRecDepth 1000000 in
theorem same_texts (w : World) (b1 b2 : Nat) (v1 v2 : Value) (ss : List (List UInt8)) (h1 : w.ownsRow b1 9 1 v1 ss.length (ss.map encStr)) (h2 : w.ownsRow b2 9 1 v2 ss.length (ss.map encStr)) (hn : ss.length ≤ 1000) :
    Calls Tryz.prog 43 #[v1, v2] w fun e w' => e = .returned (.bool true) ∧ ∃ q, w' = w.drewN q := by
  have key : ∀ b v, w.ownsRow b 9 1 v ss.length (ss.map encStr) → ∃ a c, v = .slice a ss.length c ∧ ∀ i (hi : i < ss.length), ∃ g, a = some ⟨g, 0, none⟩ ∧ w.cell? ⟨g, i, none⟩ = some (encStr (ss[i])) := by
    intro b v h
    rcases h.2 with ⟨hv, h0⟩ | ⟨g, cap, cur, hv, _, hh, _, _, _, ht⟩
    · exact ⟨none, 0, by rw [h0]; exact hv, fun i hi => absurd hi (by omega)⟩
    · refine ⟨some ⟨g, 0, none⟩, cap, hv, fun i hi => ⟨g, rfl, ?_⟩⟩
      have : cur[i]? = (ss.map encStr)[i]? := by rw [← ht, List.getElem?_take_of_lt (by omega)]; simp
      rw [List.getElem?_map, List.getElem?_eq_getElem hi] at this
      simp [World.cell?, hh, this]
  obtain ⟨a1, c1, rfl, hc1⟩ := key _ _ h1
  obtain ⟨a2, c2, rfl, hc2⟩ := key _ _ h2
  have HC1 := (show Hid _ from hc1)
  have HC2 := (show Hid _ from hc2)
  obtain ⟨n, hnn⟩ : ∃ n, ss.length = n := ⟨_, rfl⟩
  have HN := (show Hid _ from hnn)
  rw [hnn] at hn ⊢
  clear h1 h2 hc1 hc2 key hnn
  go_enter Tryz.func43, Tryz.ntmps43
  go_wp2_with fail
  go_loopw [4, 5] (fun s4 i wr => s4 = .bool false ∧ ∃ k q : Nat, k ≤ n ∧ i = .int .i64 k ∧ wr = w.drewN q) (fun _ i _ => n - (intOf i).toNat)
  case atStart => exact ⟨rfl, 0, 0, Nat.zero_le _, rfl, rfl⟩
  case round =>
    obtain ⟨rfl, k, q, hk, rfl, rfl⟩ := hrel
    by_cases hlt : k < n
    · have hk' : k < ss.length := by rw [HN.out]; exact hlt
      obtain ⟨g1, rfl, e1⟩ := HC1.out k hk'
      obtain ⟨g2, rfl, e2⟩ := HC2.out k hk'
      have hk0 : (0 : Int) ≤ (k : Int) := by omega
      have hk1 : (k : Int) < (n : Int) := by omega
      obtain ⟨kb, hkb⟩ : ∃ kb : ByteArray, kb = ⟨(ss[k]).toArray⟩ := ⟨_, rfl⟩
      rw [enc_eq, ← hkb] at e1 e2
      clear hkb
      go_wp2_with fail
      go_quiet (fail)
      go_wp2
      go_roundw
      case rel => exact ⟨rfl, k + 1, _, by omega, by go_num, by first | rfl | (rw [World.drewN_drewN])⟩
      case measure => simp [intOf] <;> omega
    · have hge : (n : Int) ≤ (k : Int) := by omega
      go_wp2
      go_ret
      exact ⟨rfl, q, rfl⟩
end Go.Proofs.YtnjmplmogibgfacGreatDoor
/- The document's SameBlock where the blocks are the same. -/
namespace Go.Proofs.YtnjmplmogibgfacGreatDoor
open Go.RowKit Go.Maps HeadMath LabMath

set_option maxRecDepth 1000000 in
theorem bkSame_any (w : World) (f s : Int) (b1 b2 b3 b4 : Nat) (v1 v2 u1 u2 : Value) (ss cs : List (List UInt8)) (h1 : w.ownsRow b1 9 1 v1 ss.length (ss.map encStr)) (h2 : w.ownsRow b2 9 1 v2 ss.length (ss.map encStr)) (k1 : w.ownsRow b3 9 1 u1 cs.length (cs.map encStr)) (k2 : w.ownsRow b4 9 1 u2 cs.length (cs.map encStr)) (hn : ss.length ≤ 1000) (hm : cs.length ≤ 1000) :
    Calls Tryz.prog 19 #[.agg #[.int .i64 f, .int .i64 s, v1, u1], .agg #[.int .i64 f, .int .i64 s, v2, u2]] w fun e w' => e = .returned (.bool true) ∧ Below w.heap.size w w' := by
  obtain ⟨a1, c1, rfl⟩ := own_slice1 h1
  obtain ⟨a2, c2, rfl⟩ := own_slice1 h2
  obtain ⟨a3, c3, rfl⟩ := own_slice1 k1
  obtain ⟨a4, c4, rfl⟩ := own_slice1 k2
  obtain ⟨W, hW⟩ : ∃ W, W = (w.alloc (.cells #[.int .i64 f, .int .i64 s, .slice a1 ss.length c1, .slice a3 cs.length c3] 24)).alloc (.cells #[.int .i64 f, .int .i64 s, .slice a2 ss.length c2, .slice a4 cs.length c4] 24) := ⟨_, rfl⟩
  have hbW : Below w.heap.size w W := by rw [hW]; exact ((Below.refl _ _).alloc (Nat.le_refl _) _).alloc (by simp) _
  have HBW := (show Hid _ from hbW)
  have hs1 : (w.alloc (.cells #[.int .i64 f, .int .i64 s, .slice a1 ss.length c1, .slice a3 cs.length c3] 24)).heap.size = w.heap.size + 1 := by simp
  have hx : W.heap[w.heap.size]? = some (.cells #[.int .i64 f, .int .i64 s, .slice a1 ss.length c1, .slice a3 cs.length c3] 24 (0, 0)) := by
    rw [hW]
    exact (heap_alloc_old _ _ (by rw [hs1]; omega)).trans (heap_alloc_new _ _)
  have hy : W.heap[w.heap.size + 1]? = some (.cells #[.int .i64 f, .int .i64 s, .slice a2 ss.length c2, .slice a4 cs.length c4] 24 (0, 0)) := by
    rw [hW, ← hs1]
    exact heap_alloc_new _ _
  have HS1 : Hid (Calls Tryz.prog 43 #[.slice a1 ss.length c1, .slice a2 ss.length c2] W fun e w' => e = .returned (.bool true) ∧ ∃ p, w' = W.drewN p) :=
    same_texts _ b1 b2 _ _ ss (own_same h1 fun g hg => hbW.block g (own_blk h1 hg).2.1) (own_same h2 fun g hg => hbW.block g (own_blk h2 hg).2.1) hn
  have HS2 : Hid (∀ q, Calls Tryz.prog 43 #[.slice a3 cs.length c3, .slice a4 cs.length c4] (W.drewN q) fun e w' => e = .returned (.bool true) ∧ ∃ p, w' = (W.drewN q).drewN p) := fun q =>
    same_texts _ b3 b4 _ _ cs (own_same k1 fun g hg => hbW.block g (own_blk k1 hg).2.1) (own_same k2 fun g hg => hbW.block g (own_blk k2 hg).2.1) hm
  obtain ⟨n, hn'⟩ : ∃ n, n = ss.length := ⟨_, rfl⟩
  obtain ⟨m, hm'⟩ : ∃ m, m = cs.length := ⟨_, rfl⟩
  have x0 : W.cell? ⟨w.heap.size, 0, none⟩ = some (.int .i64 f) := cells_of hx 0
  have x1 : W.cell? ⟨w.heap.size, 1, none⟩ = some (.int .i64 s) := cells_of hx 1
  have x2 : W.cell? ⟨w.heap.size, 2, none⟩ = some (.slice a1 ss.length c1) := cells_of hx 2
  have x3 : ∀ q, (W.drewN q).cell? ⟨w.heap.size, 3, none⟩ = some (.slice a3 cs.length c3) := fun q => cells_of (w := W.drewN q) hx 3
  have y0 : W.cell? ⟨w.heap.size + 1, 0, none⟩ = some (.int .i64 f) := cells_of hy 0
  have y1 : W.cell? ⟨w.heap.size + 1, 1, none⟩ = some (.int .i64 s) := cells_of hy 1
  have y2 : W.cell? ⟨w.heap.size + 1, 2, none⟩ = some (.slice a2 ss.length c2) := cells_of hy 2
  have y3 : ∀ q, (W.drewN q).cell? ⟨w.heap.size + 1, 3, none⟩ = some (.slice a4 cs.length c4) := fun q => cells_of (w := W.drewN q) hy 3
  rw [← hn', ← hm'] at hW
  rw [← hn'] at x2 y2 HS1 ⊢
  rw [← hm'] at x3 y3 HS2 ⊢
  clear h1 h2 k1 k2 hbW hs1 hx hy hn' hm' hn hm
  go_enter Tryz.func19, Tryz.ntmps19
  go_upto_region 1 with fail
  rw [← hW]
  clear hW
  go_wp2_with fail
  refine Calls.mono HS1.out ?_
  rintro e w2 ⟨rfl, p, rfl⟩
  have z3 := x3 p
  have v3 := y3 p
  clear x3 y3 HS1
  dsimp only
  go_wp2_with fail
  refine Calls.mono (HS2.out p) ?_
  rintro e w3 ⟨rfl, p2, rfl⟩
  dsimp only
  go_wp2
  go_ret
  exact ⟨by rfl, below_draws HBW.out _⟩
end Go.Proofs.YtnjmplmogibgfacGreatDoor
