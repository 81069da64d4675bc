/- The document's head, as it lies in memory: a row of lines; what it tells, by contracts. -/
import Derived.Test.YtijgolnbbaljlaaGreatDoorHeadAtGroup
import Derived.Test.YtijgolnbbaljlaaGreatDoorSortStr
import Derived.Test.YtijgolnbbaljlaaGreatDoorHeadCount
import Derived.Deep.AppendLies
import Derived.Test.YtijgolnbbaljlaaGreatDoorPtListGroup
import Derived.Test.YtijgolnbbaljlaaGreatDoorRefTicksGroup
import Derived.Test.YtijgolnbbaljlaaGreatDoorRows1Group
namespace Go.Proofs.YtijgolnbbaljlaaGreatDoor
open Go.RowKit Go.Maps HeadMath LabMath PtMath
theorem enc_eq (k : List UInt8) : encStr k = .string ⟨k.toArray⟩ := rfl
end Go.Proofs.YtijgolnbbaljlaaGreatDoor
/- head's Series by its contract. -/
namespace Go.Proofs.YtijgolnbbaljlaaGreatDoor
open Go.RowKit Go.Maps HeadMath LabMath PtMath

/-- What has been collected: the texts that have come, of series that have points, none twice. -/
structure Coll (S : List Sr) (left : Lit → Bool) (ss : List (List UInt8)) : Prop where
  nodup : ss.Nodup
  mem : ∀ k, k ∈ ss ↔ k ∈ seriesS S ∧ left (.string k) = false
theorem Coll.start (S : List Sr) (left : Lit → Bool) (h : ∀ l, l ∈ S → left (.string l.key) = true) : Coll S left [] := by
  refine ⟨List.nodup_nil, fun k => ⟨fun h1 => absurd h1 List.not_mem_nil, fun h1 => ?_⟩⟩
  obtain ⟨l, hl, rfl, _⟩ := mem_seriesS.1 h1.1
  have h2 := h1.2
  rw [h l hl] at h2
  cases h2
theorem Coll.skip {S : List Sr} {left : Lit → Bool} {ss : List (List UInt8)} (h : Coll S left ss) {x : List UInt8} (hx : x ∉ seriesS S) : Coll S (fun z => left z && !z.sameKey (.string x)) ss := by
  refine ⟨h.nodup, fun k => ?_⟩
  rw [h.mem, sameKey_str]
  by_cases e : k = x
  · subst e
    exact ⟨fun h => absurd h.1 hx, fun h => absurd h.1 hx⟩
  · simp [e]
theorem Coll.put {S : List Sr} {left : Lit → Bool} {ss : List (List UInt8)} (h : Coll S left ss) {x : List UInt8} (hx : x ∈ seriesS S) (hl : left (.string x) = true) : Coll S (fun z => left z && !z.sameKey (.string x)) (ss ++ [x]) := by
  have hn : x ∉ ss := fun e => by
    have := ((h.mem x).1 e).2
    rw [hl] at this
    cases this
  refine ⟨List.nodup_append.2 ⟨h.nodup, List.pairwise_singleton .., fun a ha b hb => ?_⟩, fun k => ?_⟩
  · simp at hb
    subst hb
    intro e
    subst e
    exact hn ha
  · rw [List.mem_append, h.mem, sameKey_str]
    by_cases e : k = x
    · subst e
      simp [hx]
    · simp [e]
theorem Coll.sorted {S : List Sr} {left : Lit → Bool} {ss : List (List UInt8)} (h : Coll S left ss) (hS : S.Pairwise fun a b => a.key < b.key) (hl : ∀ kl, left kl = false) : ss.mergeSort leB = seriesS S := by
  have hp : ss.Perm (seriesS S) := (List.perm_ext_iff_of_nodup h.nodup (nodup_seriesS hS)).2 fun k => by rw [h.mem, hl]; simp
  have tr : ∀ a b c : List UInt8, leB a b = true → leB b c = true → leB a c = true := fun a b c h1 h2 => by simp only [leB, decide_eq_true_eq] at *; exact List.le_trans h1 h2
  have tot : ∀ a b : List UInt8, (leB a b || leB b a) = true := fun a b => by simp only [leB, Bool.or_eq_true, decide_eq_true_eq]; exact List.le_total a b
  refine List.Perm.eq_of_pairwise (le := fun a b => leB a b = true) (fun a b _ _ h1 h2 => ?_) (List.pairwise_mergeSort tr tot ss) ((sorted_seriesS hS).imp fun {a b} hab => by simp only [leB, decide_eq_true_eq]; exact List.le_of_lt hab) ((List.mergeSort_perm ss leB).trans hp)
  simp only [leB, decide_eq_true_eq] at h1 h2
  exact List.le_antisymm h1 h2

theorem Tryz.infoStr2 : (Tryz.prog.info? 9).map (fun i => (i.zero, i.size, i.bytes)) = some (some (.string ⟨#[]⟩), 1, 16) := by kernel_rfl

end Go.Proofs.YtijgolnbbaljlaaGreatDoor
/- What the document's head tells: how many points, the series, a series' points; two lists of texts. -/
namespace Go.Proofs.YtijgolnbbaljlaaGreatDoor
open Go.RowKit Go.Maps HeadMath LabMath PtMath
set_option maxRecDepth 1000000 in
theorem same_texts (w : World) (b1 b2 : Nat) (v1 v2 : Value) (ss : List (List UInt8)) (h1 : w.ownsRow b1 9 1 v1 ss.length (ss.map encStr)) (h2 : w.ownsRow b2 9 1 v2 ss.length (ss.map encStr)) (hn : ss.length ≤ 1000) :
    Calls Tryz.prog 39 #[v1, v2] w fun e w' => e = .returned (.bool true) ∧ ∃ q, w' = w.drewN q := by
  have key : ∀ b v, w.ownsRow b 9 1 v ss.length (ss.map encStr) → ∃ a c, v = .slice a ss.length c ∧ ∀ i (hi : i < ss.length), ∃ g, a = some ⟨g, 0, none⟩ ∧ w.cell? ⟨g, i, none⟩ = some (encStr (ss[i])) := by
    intro b v h
    rcases h.2 with ⟨hv, h0⟩ | ⟨g, cap, cur, hv, _, hh, _, _, _, ht⟩
    · exact ⟨none, 0, by rw [h0]; exact hv, fun i hi => absurd hi (by omega)⟩
    · refine ⟨some ⟨g, 0, none⟩, cap, hv, fun i hi => ⟨g, rfl, ?_⟩⟩
      have : cur[i]? = (ss.map encStr)[i]? := by rw [← ht, List.getElem?_take_of_lt (by omega)]; simp
      rw [List.getElem?_map, List.getElem?_eq_getElem hi] at this
      simp [World.cell?, hh, this]
  obtain ⟨a1, c1, rfl, hc1⟩ := key _ _ h1
  obtain ⟨a2, c2, rfl, hc2⟩ := key _ _ h2
  have HC1 := (show Hid _ from hc1)
  have HC2 := (show Hid _ from hc2)
  obtain ⟨n, hnn⟩ : ∃ n, ss.length = n := ⟨_, rfl⟩
  have HN := (show Hid _ from hnn)
  rw [hnn] at hn ⊢
  clear h1 h2 hc1 hc2 key hnn
  go_enter Tryz.func39, Tryz.ntmps39
  go_wp2_with fail
  go_loopw [4, 5] (fun s4 i wr => s4 = .bool false ∧ ∃ k q : Nat, k ≤ n ∧ i = .int .i64 k ∧ wr = w.drewN q) (fun _ i _ => n - (intOf i).toNat)
  case atStart => exact ⟨rfl, 0, 0, Nat.zero_le _, rfl, rfl⟩
  case round =>
    obtain ⟨rfl, k, q, hk, rfl, rfl⟩ := hrel
    by_cases hlt : k < n
    · have hk' : k < ss.length := by rw [HN.out]; exact hlt
      obtain ⟨g1, rfl, e1⟩ := HC1.out k hk'
      obtain ⟨g2, rfl, e2⟩ := HC2.out k hk'
      have hk0 : (0 : Int) ≤ (k : Int) := by omega
      have hk1 : (k : Int) < (n : Int) := by omega
      obtain ⟨kb, hkb⟩ : ∃ kb : ByteArray, kb = ⟨(ss[k]).toArray⟩ := ⟨_, rfl⟩
      rw [enc_eq, ← hkb] at e1 e2
      clear hkb
      go_wp2_with fail
      go_quiet (fail)
      go_wp2
      go_roundw
      case rel => exact ⟨rfl, k + 1, _, by omega, by go_num, by first | rfl | (rw [World.drewN_drewN])⟩
      case measure => simp [intOf] <;> omega
    · have hge : (n : Int) ≤ (k : Int) := by omega
      go_wp2
      go_ret
      exact ⟨rfl, q, rfl⟩
end Go.Proofs.YtijgolnbbaljlaaGreatDoor
/- The document's SameBlock where the blocks are the same. -/
namespace Go.Proofs.YtijgolnbbaljlaaGreatDoor
open Go.RowKit Go.Maps HeadMath LabMath

set_option maxRecDepth 1000000 in
theorem bkSame_any (w : World) (f s : Int) (b1 b2 b3 b4 : Nat) (v1 v2 u1 u2 : Value) (ss cs : List (List UInt8)) (h1 : w.ownsRow b1 9 1 v1 ss.length (ss.map encStr)) (h2 : w.ownsRow b2 9 1 v2 ss.length (ss.map encStr)) (k1 : w.ownsRow b3 9 1 u1 cs.length (cs.map encStr)) (k2 : w.ownsRow b4 9 1 u2 cs.length (cs.map encStr)) (hn : ss.length ≤ 1000) (hm : cs.length ≤ 1000) :
    Calls Tryz.prog 11 #[.agg #[.int .i64 f, .int .i64 s, v1, u1], .agg #[.int .i64 f, .int .i64 s, v2, u2]] w fun e w' => e = .returned (.bool true) ∧ Below w.heap.size w w' := by
  obtain ⟨a1, c1, rfl⟩ := own_slice1 h1
  obtain ⟨a2, c2, rfl⟩ := own_slice1 h2
  obtain ⟨a3, c3, rfl⟩ := own_slice1 k1
  obtain ⟨a4, c4, rfl⟩ := own_slice1 k2
  obtain ⟨W, hW⟩ : ∃ W, W = (w.alloc (.cells #[.int .i64 f, .int .i64 s, .slice a1 ss.length c1, .slice a3 cs.length c3] 30)).alloc (.cells #[.int .i64 f, .int .i64 s, .slice a2 ss.length c2, .slice a4 cs.length c4] 30) := ⟨_, rfl⟩
  have hbW : Below w.heap.size w W := by rw [hW]; exact ((Below.refl _ _).alloc (Nat.le_refl _) _).alloc (by simp) _
  have HBW := (show Hid _ from hbW)
  have hs1 : (w.alloc (.cells #[.int .i64 f, .int .i64 s, .slice a1 ss.length c1, .slice a3 cs.length c3] 30)).heap.size = w.heap.size + 1 := by simp
  have hx : W.heap[w.heap.size]? = some (.cells #[.int .i64 f, .int .i64 s, .slice a1 ss.length c1, .slice a3 cs.length c3] 30 (0, 0)) := by
    rw [hW]
    exact (heap_alloc_old _ _ (by rw [hs1]; omega)).trans (heap_alloc_new _ _)
  have hy : W.heap[w.heap.size + 1]? = some (.cells #[.int .i64 f, .int .i64 s, .slice a2 ss.length c2, .slice a4 cs.length c4] 30 (0, 0)) := by
    rw [hW, ← hs1]
    exact heap_alloc_new _ _
  have HS1 : Hid (Calls Tryz.prog 39 #[.slice a1 ss.length c1, .slice a2 ss.length c2] W fun e w' => e = .returned (.bool true) ∧ ∃ p, w' = W.drewN p) :=
    same_texts _ b1 b2 _ _ ss (own_same h1 fun g hg => hbW.block g (own_blk h1 hg).2.1) (own_same h2 fun g hg => hbW.block g (own_blk h2 hg).2.1) hn
  have HS2 : Hid (∀ q, Calls Tryz.prog 39 #[.slice a3 cs.length c3, .slice a4 cs.length c4] (W.drewN q) fun e w' => e = .returned (.bool true) ∧ ∃ p, w' = (W.drewN q).drewN p) := fun q =>
    same_texts _ b3 b4 _ _ cs (own_same k1 fun g hg => hbW.block g (own_blk k1 hg).2.1) (own_same k2 fun g hg => hbW.block g (own_blk k2 hg).2.1) hm
  obtain ⟨n, hn'⟩ : ∃ n, n = ss.length := ⟨_, rfl⟩
  obtain ⟨m, hm'⟩ : ∃ m, m = cs.length := ⟨_, rfl⟩
  have x0 : W.cell? ⟨w.heap.size, 0, none⟩ = some (.int .i64 f) := cells_of hx 0
  have x1 : W.cell? ⟨w.heap.size, 1, none⟩ = some (.int .i64 s) := cells_of hx 1
  have x2 : W.cell? ⟨w.heap.size, 2, none⟩ = some (.slice a1 ss.length c1) := cells_of hx 2
  have x3 : ∀ q, (W.drewN q).cell? ⟨w.heap.size, 3, none⟩ = some (.slice a3 cs.length c3) := fun q => cells_of (w := W.drewN q) hx 3
  have y0 : W.cell? ⟨w.heap.size + 1, 0, none⟩ = some (.int .i64 f) := cells_of hy 0
  have y1 : W.cell? ⟨w.heap.size + 1, 1, none⟩ = some (.int .i64 s) := cells_of hy 1
  have y2 : W.cell? ⟨w.heap.size + 1, 2, none⟩ = some (.slice a2 ss.length c2) := cells_of hy 2
  have y3 : ∀ q, (W.drewN q).cell? ⟨w.heap.size + 1, 3, none⟩ = some (.slice a4 cs.length c4) := fun q => cells_of (w := W.drewN q) hy 3
  rw [← hn', ← hm'] at hW
  rw [← hn'] at x2 y2 HS1 ⊢
  rw [← hm'] at x3 y3 HS2 ⊢
  clear h1 h2 k1 k2 hbW hs1 hx hy hn' hm' hn hm
  go_enter Tryz.func11, Tryz.ntmps11
  go_upto_region 1 with fail
  rw [← hW]
  clear hW
  go_wp2_with fail
  refine Calls.mono HS1.out ?_
  rintro e w2 ⟨rfl, p, rfl⟩
  have z3 := x3 p
  have v3 := y3 p
  clear x3 y3 HS1
  dsimp only
  go_wp2_with fail
  refine Calls.mono (HS2.out p) ?_
  rintro e w3 ⟨rfl, p2, rfl⟩
  dsimp only
  go_wp2
  go_ret
  exact ⟨by rfl, below_draws HBW.out _⟩
end Go.Proofs.YtijgolnbbaljlaaGreatDoor
/- The document's set of points: the points of a series. -/
namespace Go.Proofs.YtijgolnbbaljlaaGreatDoor
open Go.RowKit

/-- A set: names and slices of points, as many. -/
structure SetV (w : World) (sb n : Nat) (X : Nat → ByteArray) (V : Nat → Value) : Prop where
  blk : ∃ a c b d, w.cell? ⟨sb, 0, none⟩ = some (.slice a n c) ∧ w.cell? ⟨sb, 1, none⟩ = some (.slice b n d) ∧
    ∀ i, i < n → (∃ g o, a = some ⟨g, o, none⟩ ∧ w.cell? ⟨g, o + i, none⟩ = some (.string (X i))) ∧ (∃ g o, b = some ⟨g, o, none⟩ ∧ w.cell? ⟨g, o + i, none⟩ = some (V i))
  sl : ∀ i, i < n → ∃ p q r, V i = .slice p q r
/-- What Of answers. -/
def OfOut (n : Nat) (X : Nat → ByteArray) (V : Nat → Value) (s : ByteArray) (e : Ending) : Prop :=
  (∃ i, i < n ∧ X i = s ∧ (∀ j, j < i → X j ≠ s) ∧ e = .returned (V i)) ∨ ((∀ j, j < n → X j ≠ s) ∧ e = .returned (.slice none 0 0))

set_option maxRecDepth 1000000 in
theorem setOf_any (w : World) (sb n : Nat) (X : Nat → ByteArray) (V : Nat → Value) (h : SetV w sb n X V) (hn : (n : Int) ≤ 9223372036854775807) (s : ByteArray) :
    Calls Tryz.prog 23 #[.pointer (some ⟨sb, 0, none⟩), .string s] w fun e w' => OfOut n X V s e ∧ w' = w := by
  obtain ⟨a, c, b, d, z0, z1, hx⟩ := h.blk
  have HX := (show Hid _ from hx)
  have HS := (show Hid _ from h.sl)
  clear hx h
  go_enter Tryz.func23, Tryz.ntmps23
  go_wp2_with fail
  go_loopw [5] (fun i wr => ∃ k : Nat, k ≤ n ∧ i = .int .i64 (k : Int) ∧ wr = w ∧ ∀ j, j < k → X j ≠ s) (fun i _ => n - (intOf i).toNat)
  case atStart => exact ⟨0, Nat.zero_le _, rfl, rfl, fun j h => absurd h (Nat.not_lt_zero _)⟩
  case round =>
    obtain ⟨k, hk, rfl, rfl, hin⟩ := hrel
    have HIN := (show Hid (∀ j, j < k → X j ≠ s) from hin)
    clear hin
    by_cases hkn : k < n
    · obtain ⟨⟨g, o, rfl, e0⟩, ⟨g2, o2, rfl, e1⟩⟩ := HX.out k hkn
      obtain ⟨p, q, r, hV⟩ := HS.out k hkn
      have HV := (show Hid _ from hV)
      rw [hV] at e1
      have k0 : (0 : Int) ≤ (k : Int) := by omega
      have k1 : (k : Int) < (n : Int) := by omega
      obtain ⟨x, hx⟩ : ∃ x, x = X k := ⟨_, rfl⟩
      rw [← hx] at e0
      have HXK := (show Hid _ from hx)
      clear hx hV
      by_cases hxs : x = s
      · have hxe : (x.toList == s.toList) = true := by rw [hxs]; simp
        have HXS := (show Hid _ from hxs)
        clear hxs
        go_wp2
        go_ret
        exact ⟨.inl ⟨k, hkn, by rw [← HXK.out]; exact HXS.out, HIN.out, by rw [HV.out]; rfl⟩, rfl⟩
      · have hxe : (x.toList == s.toList) = false := by
          rw [beq_eq_false_iff_ne]
          intro h
          rw [ByteArray.toList_eq, ByteArray.toList_eq] at h
          exact hxs (ByteArray.ext (Array.toList_inj.1 h))
        have HNX : Hid (∀ j, j < k + 1 → X j ≠ s) := fun j hj => by
          rcases Nat.lt_or_ge j k with h | h
          · exact HIN.out j h
          · obtain rfl : j = k := by omega
            rw [← HXK.out]
            exact hxs
        clear hxs
        go_wp2
        go_roundw
        case rel => exact ⟨k + 1, by omega, by go_num, trivial, HNX.out⟩
        case measure => simp [intOf] <;> omega
    · have hge : (n : Int) ≤ (k : Int) := by omega
      have HAL : Hid (∀ j, j < n → X j ≠ s) := fun j hj => HIN.out j (by omega)
      go_wp2
      go_ret
      exact ⟨.inr ⟨HAL.out, rfl⟩, rfl⟩
end Go.Proofs.YtijgolnbbaljlaaGreatDoor
/- The document's head: the fault of what is to be added, by its contract. -/
namespace Go.Proofs.YtijgolnbbaljlaaGreatDoor
open Go.RowKit Go.Maps HeadMath LabMath PtMath

theorem labels_c (w : World) (s : ByteArray) (hs : s.size ≤ 100000) :
    Calls Tryz.prog 49 #[.string s] w fun e w' => Below w.heap.size w w' ∧ ∃ x, e = .returned (.tuple #[x, .agg #[.int .i64 (readC s.data.toList), .int .i64 (readA s.data.toList)]]) := by
  refine (labels_of s w hs).mono ?_
  rintro e w' ⟨hb, ⟨hn, rfl⟩ | ⟨out, C, A, hsc, _, hf, hrest⟩⟩
  · refine ⟨hb, .slice none 0 0, ?_⟩
    unfold readC readA
    rw [hn]
  · obtain ⟨hC, hA⟩ := fault_is hf
    refine ⟨hb, ?_⟩
    unfold readC readA
    rw [hsc]
    simp only
    rw [← hC, ← hA]
    rcases hrest with ⟨_, rfl⟩ | ⟨_, v, rfl, _⟩
    · exact ⟨_, rfl⟩
    · exact ⟨_, rfl⟩
/-- The blocks of a function that has a point and a fault of its own. -/
structure FBox (w wz : World) (t : Int) (u : Nat) : Prop where
  bel : Below w.heap.size w wz
  pt : wz.heap[w.heap.size]? = some (.cells #[.int .i64 t, .int .u64 (u : Int)] 71 (0, 0))
  rt : wz.heap[w.heap.size + 1]? = some (.cells #[.int .i64 0, .int .i64 0] 32 (0, 0))
theorem FBox.more {w wz wy : World} {t : Int} {u : Nat} (h : FBox w wz t u) (hb : Below wz.heap.size wz wy) : FBox w wy t u :=
  ⟨h.bel.trans (hb.mono h.bel.size), (hb.block _ (blk_lt h.pt)).trans h.pt, (hb.block _ (blk_lt h.rt)).trans h.rt⟩
theorem FBox.c0 {w wz : World} {t : Int} {u : Nat} (h : FBox w wz t u) : wz.cell? ⟨w.heap.size, 0, none⟩ = some (.int .i64 t) := by simp [World.cell?, h.pt]
theorem FBox.c1 {w wz : World} {t : Int} {u : Nat} (h : FBox w wz t u) : wz.cell? ⟨w.heap.size, 1, none⟩ = some (.int .u64 (u : Int)) := by simp [World.cell?, h.pt]
theorem FBox.r0 {w wz : World} {t : Int} {u : Nat} (h : FBox w wz t u) : wz.cell? ⟨w.heap.size + 1, 0, none⟩ = some (.int .i64 0) := by simp [World.cell?, h.rt]
theorem FBox.r1 {w wz : World} {t : Int} {u : Nat} (h : FBox w wz t u) : wz.cell? ⟨w.heap.size + 1, 1, none⟩ = some (.int .i64 0) := by simp [World.cell?, h.rt]
theorem FBox.z0 {w wz : World} {t : Int} {u : Nat} (h : FBox w wz t u) : wz.frozen? ⟨w.heap.size + 1, 0, none⟩ = false := by simp [World.frozen?, h.rt]
theorem FBox.z1 {w wz : World} {t : Int} {u : Nat} (h : FBox w wz t u) : wz.frozen? ⟨w.heap.size + 1, 1, none⟩ = false := by simp [World.frozen?, h.rt]
theorem FBox.start (w : World) (t : Int) (u : Nat) : FBox w ((w.alloc (.cells #[.int .i64 t, .int .u64 (u : Int)] 71)).alloc (.cells #[.int .i64 0, .int .i64 0] 32)) t u := by
  have e1 := heap_alloc_new w (.cells #[.int .i64 t, .int .u64 (u : Int)] 71)
  have e2 := heap_alloc_new (w.alloc (.cells #[.int .i64 t, .int .u64 (u : Int)] 71)) (.cells #[.int .i64 0, .int .i64 0] 32)
  have hs : (w.alloc (.cells #[.int .i64 t, .int .u64 (u : Int)] 71)).heap.size = w.heap.size + 1 := by simp
  have hb2 : Below (w.alloc (.cells #[.int .i64 t, .int .u64 (u : Int)] 71)).heap.size _ ((w.alloc (.cells #[.int .i64 t, .int .u64 (u : Int)] 71)).alloc (.cells #[.int .i64 0, .int .i64 0] 32)) := (Below.refl _ _).alloc (Nat.le_refl _) _
  refine ⟨((Below.refl _ _).alloc (Nat.le_refl _) _).alloc (by simp) _, (hb2.block _ (by rw [hs]; omega)).trans e1, ?_⟩
  rw [hs] at e2
  exact e2
end Go.Proofs.YtijgolnbbaljlaaGreatDoor
/- The document's cut of a text at a byte. -/
namespace Go.Proofs.YtijgolnbbaljlaaGreatDoor
open Go.RowKit Go.Maps HeadMath LabMath
end Go.Proofs.YtijgolnbbaljlaaGreatDoor
