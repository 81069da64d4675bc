/- The walk of BlockJoins. -/
import Derived.Test.YtdlceolmpcjjiaaGreatDoorBlkBothGroup
import Derived.Test.YtdlceolmpcjjiaaGreatDoorBlkTxtGroup
import Derived.Test.YtdlceolmpcjjiaaGreatDoorLabFaultGroup
import Derived.Test.YtdlceolmpcjjiaaGreatDoorCMerge
import Derived.Test.YtdlceolmpcjjiaaGreatDoorBlkLawGroup
import Derived.Test.YtdlceolmpcjjiaaGreatDoorHeadPutGroup
import Derived.Test.YtdlceolmpcjjiaaGreatDoorIsPackedGroup
import Derived.Test.YtdlceolmpcjjiaaGreatDoorRefsGroup
import Derived.Test.YtdlceolmpcjjiaaGreatDoorPtsOwn
import Derived.Test.YtdlceolmpcjjiaaGreatDoorPtListGroup
namespace Go.Proofs.YtdlceolmpcjjiaaGreatDoor
open Go.RowKit PtMath
theorem same_list (w : World) (a b : Option Addr) (ca cb : Nat) (l : List (Int × Nat)) (ha : PtsL w a l) (hb : PtsL w b l) (hin : PtsIn l) (hn : l.length ≤ 1000) :
    Calls Tryz.prog 21 #[.slice a l.length ca, .slice b l.length cb] w fun e w' => e = .returned (.bool true) ∧ Below w.heap.size w w' := by
  refine (same_points w a b l.length ca cb (tickAt l) (bitAt l) (pts_of_list ha hin) (pts_of_list hb hin) (by omega)).mono ?_
  rintro e w' ⟨rfl, q, rfl⟩
  exact ⟨rfl, below_drewN (Below.refl _ _) q⟩
theorem own_list_at {w w0 : World} {v : Value} {l : List (Int × Nat)} {base : Nat} (h : w.ownsRow base 71 2 v l.length (pairCells l)) (hb : Below w.heap.size w w0) : ∃ a c, v = .slice a l.length c ∧ l.length ≤ c ∧ PtsL w0 a l := by
  obtain ⟨a, c, rfl, hc, hP, _⟩ := own_pairs h
  exact ⟨a, c, rfl, hc, hP.below hb⟩
theorem slice_of_own {w : World} {base : Nat} {v : Value} {l : List (Int × Nat)} (h : w.ownsRow base 71 2 v l.length (pairCells l)) : ∃ a c, v = .slice a l.length c ∧ l.length ≤ c ∧ PtsL w a l := by
  obtain ⟨a, c, rfl, hc, hP, _⟩ := own_pairs h
  exact ⟨a, c, rfl, hc, hP⟩
end Go.Proofs.YtdlceolmpcjjiaaGreatDoor
namespace Go.Proofs.YtdlceolmpcjjiaaGreatDoor
open PtMath JoinMath

theorem ofR_ahead {l : List Rw} {k : List UInt8} (h : ∀ r, r ∈ l → k < r.1) : ofR l k = [] := ofR_none fun _ hj e => absurd (e ▸ h _ (List.getElem_mem hj)) (List.lt_irrefl _)
theorem ofR_merge : ∀ (a b : List Rw) (k : List UInt8), Up a → Up b → ofR (mergeR a b) k = ofR a k ++ ofR b k
  | [], b, k, _, _ => by rw [mergeR_nil]; rfl
  | p :: a, [], k, _, _ => by rw [mergeR_end]; exact (List.append_nil _).symm
  | p :: a, q :: b, k, ha, hb => by
    obtain ⟨a1, a2⟩ := List.pairwise_cons.1 ha
    obtain ⟨b1, b2⟩ := List.pairwise_cons.1 hb
    have hp : ofR (p :: a) k = if p.1 = k then p.2 else ofR a k := rfl
    have hq : ofR (q :: b) k = if q.1 = k then q.2 else ofR b k := rfl
    rw [mergeR_cons]
    by_cases e : p.1 = q.1
    · rw [if_pos e, show ofR ((p.1, p.2 ++ q.2) :: mergeR a b) k = if p.1 = k then p.2 ++ q.2 else ofR (mergeR a b) k from rfl, ofR_merge a b k a2 b2, hp, hq]
      by_cases h : p.1 = k
      · rw [if_pos h, if_pos h, if_pos (e ▸ h)]
      · rw [if_neg h, if_neg h, if_neg (e ▸ h)]
    · rw [if_neg e]
      by_cases g : q.1 < p.1
      · rw [if_pos g, show ofR (q :: mergeR (p :: a) b) k = if q.1 = k then q.2 else ofR (mergeR (p :: a) b) k from rfl, ofR_merge (p :: a) b k ha b2, hq]
        by_cases h : q.1 = k
        · rw [if_pos h, if_pos h, ofR_ahead (l := p :: a) fun r hr => ?_, List.nil_append]
          rcases List.mem_cons.1 hr with rfl | hr'
          · rw [← h]; exact g
          · rw [← h]; exact List.lt_trans g (a1 r hr')
        · rw [if_neg h, if_neg h]
      · have g2 : p.1 < q.1 := tri (fun e2 => e e2.symm) g
        rw [if_neg g, show ofR (p :: mergeR a (q :: b)) k = if p.1 = k then p.2 else ofR (mergeR a (q :: b)) k from rfl, ofR_merge a (q :: b) k a2 hb, hp]
        by_cases h : p.1 = k
        · rw [if_pos h, if_pos h, ofR_ahead (l := q :: b) fun r hr => ?_, List.append_nil]
          rcases List.mem_cons.1 hr with rfl | hr'
          · rw [← h]; exact g2
          · rw [← h]; exact List.lt_trans g2 (b1 r hr')
        · rw [if_neg h, if_neg h]
termination_by a b => a.length + b.length
theorem mergeL_apart : ∀ (a b : List (Int × Nat)), (∀ x, x ∈ a → ∀ y, y ∈ b → x.1 < y.1) → mergeL a b = a ++ b
  | [], b, _ => by rw [mergeL_nil]; rfl
  | p :: a, [], _ => by rw [mergeL_end, List.append_nil]
  | p :: a, q :: b, h => by
    rw [mergeL_cons, if_pos (h p (List.mem_cons_self ..) q (List.mem_cons_self ..)), mergeL_apart a (q :: b) fun x hx => h x (List.mem_cons_of_mem _ hx)]
    rfl
theorem ofR_mem {l : List Rw} {k : List UInt8} {x : Int × Nat} (h : x ∈ ofR l k) : ∃ r, r ∈ l ∧ ofR l k = r.2 := by
  induction l with
  | nil => cases h
  | cons r l ih =>
    rw [show ofR (r :: l) k = if r.1 = k then r.2 else ofR l k from rfl] at h ⊢
    by_cases e : r.1 = k
    · rw [if_pos e]; exact ⟨r, List.mem_cons_self .., rfl⟩
    · rw [if_neg e] at h ⊢
      obtain ⟨q, hq, he⟩ := ih h
      exact ⟨q, List.mem_cons_of_mem _ hq, he⟩
/-- What is told of the joined block is what is told of both, merged. -/
theorem jn_points {f s s' : Int} {a b : List Rw} (ha : WellR f s a) (hb : WellR (f + s) s' b) (k : List UInt8) (lo hi : Int) : betweenL lo hi (ofR (mergeR a b) k) = mergeL (betweenL lo hi (ofR a k)) (betweenL lo hi (ofR b k)) := by
  rw [ofR_merge a b k (List.pairwise_map.1 ha.up) (List.pairwise_map.1 hb.up), mergeL_apart]
  · exact List.filter_append ..
  · intro x hx y hy
    obtain ⟨r, hr, er⟩ := ofR_mem (List.mem_filter.1 hx).1
    obtain ⟨q, hq, eq⟩ := ofR_mem (List.mem_filter.1 hy).1
    have h1 := insB_true.1 (ha.each r hr).2.2 x (er ▸ (List.mem_filter.1 hx).1)
    have h2 := insB_true.1 (hb.each q hq).2.2 y (eq ▸ (List.mem_filter.1 hy).1)
    omega
/-- The joined block, where it is made. -/
theorem jn_made {f s s' : Int} {a b : List Rw} (ha : MadeB f s a) (hb : MadeB (f + s) s' b) (h : mkC f (s + s') (mergeR a b) = 0) : MadeB f (s + s') (mergeR a b) := by
  have hl := jn_len ha.well hb.well ha.some hb.some
  refine ⟨mk_well h, full_full fun r hr => (hl r hr).1, fun r hr => ⟨(hl r hr).1, (hl r hr).2.1⟩, fun r hr p hp => ?_⟩
  have h1 := insB_true.1 ((mk_well h).each r hr).2.2 p hp
  obtain ⟨b1, b2, b3, b4⟩ := bdE_zero (mk_well h).bd
  have h2 := (hl r hr).2.1 p hp
  omega
theorem jn_name {f s s' : Int} {a b : List Rw} (ha : WellR f s a) (hb : WellR (f + s) s' b) {m : Nat} (h1 : ∀ r, r ∈ a → r.1.length ≤ m) (h2 : ∀ r, r ∈ b → r.1.length ≤ m) : ∀ r, r ∈ mergeR a b → r.1.length ≤ m := fun r hr => by
  rcases merge_mem a b (List.pairwise_map.1 ha.up) (List.pairwise_map.1 hb.up) r hr with h | h | ⟨p, q, hp, _, _, rfl⟩
  · exact h1 r h
  · exact h2 r h
  · exact h1 p hp
end Go.Proofs.YtdlceolmpcjjiaaGreatDoor
/- What Make answers, by one form with a fault and without. -/
namespace Go.Proofs.YtdlceolmpcjjiaaGreatDoor
open Go.RowKit Go.Maps PtMath

/-- What is made of rows, or nothing beside a fault. -/
noncomputable def mP (f s : Int) (rows : List (List UInt8 × List (Int × Nat))) : Int := if mkC f s rows = 0 then f else 0
noncomputable def mQ (f s : Int) (rows : List (List UInt8 × List (Int × Nat))) : Int := if mkC f s rows = 0 then s else 0
noncomputable def mR (f s : Int) (rows : List (List UInt8 × List (Int × Nat))) : List (List UInt8 × List (Int × Nat)) := if mkC f s rows = 0 then full rows else []
theorem made_none (w : World) (b : Nat) : MadeAt w b [] (.slice none 0 0) (.slice none 0 0) := ⟨⟨rfl, .inl ⟨rfl, rfl⟩⟩, ⟨rfl, .inl ⟨rfl, rfl⟩⟩⟩
theorem make_both {ea : Nat → Addr} {w w' : World} {f s : Int} {rows : List (List UInt8 × List (Int × Nat))} {e : Ending} (h : MakeOut ea w w' f s rows e) : ∃ v u1 u2, e = .returned (.tuple #[.agg #[.int .i64 (mP f s rows), .int .i64 (mQ f s rows), u1, u2], v]) ∧ Below w.heap.size w w' ∧ FaultV ea w' v (mkC f s rows) (mkA f s rows) ∧ MadeAt w' w.heap.size (mR f s rows) u1 u2 := by
  obtain ⟨v, hb, hf, ⟨hz, u1, u2, rfl, o1, o2⟩ | ⟨hz, rfl⟩⟩ := h
  · refine ⟨v, u1, u2, ?_, hb, hf, ?_⟩
    · unfold mP mQ; rw [if_pos hz, if_pos hz]
    · unfold mR; rw [if_pos hz]; exact ⟨by rw [List.length_map]; exact o1, by rw [chks_len]; exact o2⟩
  · refine ⟨v, .slice none 0 0, .slice none 0 0, ?_, hb, hf, ?_⟩
    · unfold mP mQ; rw [if_neg hz, if_neg hz]
    · unfold mR; rw [if_neg hz]; exact made_none _ _
end Go.Proofs.YtdlceolmpcjjiaaGreatDoor
namespace Go.Proofs.YtdlceolmpcjjiaaGreatDoor
open Go.RowKit Go.Maps PtMath JoinMath

theorem jn_of_made {f s s' : Int} {F G : List Rw} (hF : MadeB f s F) (hG : MadeB (f + s) s' G) : jnC f s (F.map Prod.fst) (chks F) (f + s) s' (G.map Prod.fst) (chks G) = mkC f (s + s') (mergeR F G) ∧ jnA f s (F.map Prod.fst) (chks F) (f + s) s' (G.map Prod.fst) (chks G) = -1 ∧ mergeR (rowsOf (F.map Prod.fst) (chks F)) (rowsOf (G.map Prod.fst) (chks G)) = mergeR F G := by
  obtain ⟨h1, _, h2⟩ := hF.bk
  obtain ⟨h3, _, h4⟩ := hG.bk
  refine ⟨?_, ?_, by rw [h2, h4]⟩
  · unfold jnC
    rw [if_neg (fun h => h h1), if_neg (fun h => h h3), if_neg (fun h => h rfl), h2, h4]
  · unfold jnA
    rw [if_neg (fun h => h h1), if_neg (fun h => h h3)]
/-- Join of two blocks that were made. -/
theorem made_join {B : Nat} {ea : Nat → Addr} (w : World) (E : EnvK B ea w) (hB : B ≤ w.heap.size) {f s s' : Int} {F G : List Rw} (hF : MadeB f s F) (hG : MadeB (f + s) s' G) (hFl : F.length ≤ 70) (hGl : G.length ≤ 70) (hFn : ∀ r, r ∈ F → r.1.length ≤ 200) (hGn : ∀ r, r ∈ G → r.1.length ≤ 200) {b b' : Nat} {v1 v2 v3 v4 : Value} (h1 : MadeAt w b F v1 v2) (h2 : MadeAt w b' G v3 v4) :
    Calls Tryz.prog 26 #[.agg #[.int .i64 f, .int .i64 s, v1, v2], .agg #[.int .i64 (f + s), .int .i64 s', v3, v4]] w fun e w' => Below w.heap.size w w' ∧ ((MadeB f (s + s') (mergeR F G) ∧ ∃ u1 u2, e = .returned (.tuple #[.agg #[.int .i64 f, .int .i64 (s + s'), u1, u2], .nilIface]) ∧ MadeAt w' w.heap.size (mergeR F G) u1 u2) ∨ ∃ v, e = .returned (.tuple #[.agg #[.int .i64 0, .int .i64 0, .slice none 0 0, .slice none 0 0], v]) ∧ FaultV ea w' v 2 (-1)) := by
  obtain ⟨e1, e2, e3⟩ := jn_of_made hF hG
  refine (blJoin_any w E hB f s (f + s) s' b b b' b' v1 v2 v3 v4 (F.map Prod.fst) (chks F) (G.map Prod.fst) (chks G) h1.o1 h1.o2 h2.o1 h2.o2 (fun x hx => ?_) hF.chunks (fun x hx => ?_) hG.chunks (by rw [List.length_map]; omega) (by rw [chks_len]; omega) (by rw [List.length_map]; omega) (by rw [chks_len]; omega)).mono ?_
  · obtain ⟨r, hr, rfl⟩ := List.mem_map.1 hx
    have := hFn r hr
    omega
  · obtain ⟨r, hr, rfl⟩ := List.mem_map.1 hx
    have := hGn r hr
    omega
  · rintro e w' ⟨v, hb, hf, ⟨hz, u1, u2, rfl, o1, o2⟩ | ⟨hz, rfl⟩⟩
    · have hv := hf.none hz
      subst hv
      rw [e3] at o1 o2
      rw [e1] at hz
      exact ⟨hb, .inl ⟨jn_made hF hG hz, u1, u2, rfl, by rw [List.length_map]; exact o1, by rw [chks_len]; exact o2⟩⟩
    · rw [e1, e2] at hf
      rw [e1] at hz
      have h2 : mkC f (s + s') (mergeR F G) = 2 := (jn_mk hF.well hG.well).resolve_left hz
      rw [h2] at hf
      exact ⟨hb, .inr ⟨v, rfl, hf⟩⟩

theorem ofR_len {l : List Rw} {k : List UInt8} {m : Nat} (h : ∀ r, r ∈ l → r.2.length ≤ m) : (ofR l k).length ≤ m := by
  cases hx : ofR l k with
  | nil => exact Nat.zero_le _
  | cons x t =>
    obtain ⟨r, hr, e⟩ := ofR_mem (l := l) (k := k) (x := x) (by rw [hx]; exact List.mem_cons_self ..)
    rw [← hx, e]
    exact h r hr
theorem MadeB.btw_len {f s : Int} {F : List Rw} (h : MadeB f s F) (lo hi : Int) (k : List UInt8) : (betweenL lo hi (ofR F k)).length ≤ 120 := Nat.le_trans (betweenL_len _ _ _) (ofR_len fun r hr => (ptsC_zero (h.well.each r hr).2.1).1)
theorem MadeB.btw_in {f s : Int} {F : List Rw} (h : MadeB f s F) (lo hi : Int) (k : List UInt8) : PtsIn (betweenL lo hi (ofR F k)) := fun p hp => by
  have h1 := (List.mem_filter.1 hp).1
  obtain ⟨r, hr, e⟩ := ofR_mem h1
  exact h.bits r hr p (e ▸ h1)

set_option maxRecDepth 1000000 in
set_option maxHeartbeats 4000000 in
theorem joins_main {B : Nat} {ea : Nat → Addr} (w : World) (E : EnvB B ea w) (hB : B ≤ w.heap.size) (la lb : Option Addr) (ca cb : Nat) (R1 R2 : List Rw) (hP1 : RowsP w la R1) (hP2 : RowsP w lb R2) (hin1 : ∀ r, r ∈ R1 → PtsIn r.2 ∧ (r.2.length : Int) ≤ 140737488355328 ∧ (r.1.length : Int) ≤ 140737488355328) (hin2 : ∀ r, r ∈ R2 → PtsIn r.2 ∧ (r.2.length : Int) ≤ 140737488355328 ∧ (r.1.length : Int) ≤ 140737488355328) (hn1 : (R1.length : Int) ≤ 9223372036854775807) (hn2 : (R2.length : Int) ≤ 9223372036854775807) (f a b lo hi : Int) :
    Calls Tryz.prog 5 #[.slice la R1.length ca, .slice lb R2.length cb, .int .i64 f, .int .i64 a, .int .i64 b, .int .i64 lo, .int .i64 hi] w fun e w' => e = .returned (.bool true) ∧ Below w.heap.size w w' := by
  have HBL := (show Hid _ from blocked_any w E.k hB)
  have HE := (show Hid _ from E)
  have HP1 : Hid (RowsP w la R1) := hP1
  have HP2 : Hid (RowsP w lb R2) := hP2
  have HIN1 : Hid (∀ r, r ∈ R1 → PtsIn r.2) := fun r hr => (hin1 r hr).1
  have HIN2 : Hid (∀ r, r ∈ R2 → PtsIn r.2) := fun r hr => (hin2 r hr).1
  have HLG1 : Hid (∀ w', Below w.heap.size w w' → Calls Tryz.prog 14 #[.slice la R1.length ca] w' fun e w2 => LongR w' w2 R1 e) := fun w' h => llong_any w' la ca R1 (hP1.below h) hn1 fun r hr => (hin1 r hr).2
  have HLG2 : Hid (∀ w', Below w.heap.size w w' → Calls Tryz.prog 14 #[.slice lb R2.length cb] w' fun e w2 => LongR w' w2 R2 e) := fun w' h => llong_any w' lb cb R2 (hP2.below h) hn2 fun r hr => (hin2 r hr).2
  have HOW1 : Hid (∀ w', Below w.heap.size w w' → R1.length ≤ 1000 → (∀ r, r ∈ R1 → r.2.length ≤ 1000) → Calls Tryz.prog 16 #[.slice la R1.length ca] w' fun e w2 => ∃ v xs, e = .returned v ∧ Below w'.heap.size w' w2 ∧ w2.ownsRow w'.heap.size 61 2 v R1.length xs ∧ RowsC w2 w'.heap.size xs R1) := fun w' h h1 h2 => ownRows_any w' la ca R1 (hP1.below h) h1 h2
  have HOW2 : Hid (∀ w', Below w.heap.size w w' → R2.length ≤ 1000 → (∀ r, r ∈ R2 → r.2.length ≤ 1000) → Calls Tryz.prog 16 #[.slice lb R2.length cb] w' fun e w2 => ∃ v xs, e = .returned v ∧ Below w'.heap.size w' w2 ∧ w2.ownsRow w'.heap.size 61 2 v R2.length xs ∧ RowsC w2 w'.heap.size xs R2) := fun w' h h1 h2 => ownRows_any w' lb cb R2 (hP2.below h) h1 h2
  obtain ⟨n1, hm1⟩ : ∃ n1, n1 = R1.length := ⟨_, rfl⟩
  obtain ⟨n2, hm2⟩ : ∃ n2, n2 = R2.length := ⟨_, rfl⟩
  have HN1 := (show Hid _ from hm1.symm)
  have HN2 := (show Hid _ from hm2.symm)
  rw [← hm1] at HLG1 HOW1
  rw [← hm2] at HLG2 HOW2
  rw [← hm1, ← hm2]
  clear hP1 hP2 hin1 hin2 hn1 hn2 hm1 hm2 E
  go_enter Tryz.func5, Tryz.ntmps5
  go_wp2_with fail
  refine Calls.mono HBL.out ?_
  rintro e w1 ⟨rfl, hb1⟩
  have HB1 := (show Hid _ from hb1)
  clear hb1 HBL
  dsimp only
  go_wp2_with fail
  refine Calls.mono (HLG1.out w1 HB1.out) ?_
  rintro e w2 ⟨hw2, rfl | ⟨rfl, hl1, hlr1⟩⟩
  · have hw2' := hw2
    subst hw2'
    clear HLG1 HLG2 HOW1 HOW2
    go_wp2
    go_ret
    exact ⟨rfl, HB1.out⟩
  have hw2' := hw2
  subst hw2'
  have HLR1 : Hid (∀ r, r ∈ R1 → r.1.length ≤ 200 ∧ r.2.length ≤ 250) := hlr1
  have hn1 : n1 ≤ 70 := by have := HN1.out; omega
  clear hlr1 hl1 HLG1
  go_wp2_with fail
  refine Calls.mono (HLG2.out w2 HB1.out) ?_
  rintro e w3 ⟨hw3, rfl | ⟨rfl, hl2, hlr2⟩⟩
  · have hw3' := hw3
    subst hw3'
    clear HLG2 HOW1 HOW2
    go_wp2
    go_ret
    exact ⟨rfl, HB1.out⟩
  have hw3' := hw3
  subst hw3'
  have HLR2 : Hid (∀ r, r ∈ R2 → r.1.length ≤ 200 ∧ r.2.length ≤ 250) := hlr2
  have hn2 : n2 ≤ 70 := by have := HN2.out; omega
  clear hlr2 hl2 HLG2
  have HO1 := (show Hid _ from HOW1.out w3 HB1.out (by have := HN1.out; omega) (fun r hr => by have := (HLR1.out r hr).2; omega))
  clear HOW1
  by_cases hf1 : f < -1073741824
  · have d1 : decide (f < -1073741824) = true := decide_eq_true hf1
    clear HOW2 HO1
    go_wp2
    go_ret
    exact ⟨rfl, HB1.out⟩
  have d1 : decide (f < -1073741824) = false := decide_eq_false hf1
  by_cases hf2 : 1073741824 < f
  · have d2 : decide (1073741824 < f) = true := decide_eq_true hf2
    clear HOW2 HO1
    go_wp2
    go_ret
    exact ⟨rfl, HB1.out⟩
  have d2 : decide (1073741824 < f) = false := decide_eq_false hf2
  by_cases ha1 : a < 1
  · have d3 : decide (a < 1) = true := decide_eq_true ha1
    clear HOW2 HO1
    go_wp2
    go_ret
    exact ⟨rfl, HB1.out⟩
  have d3 : decide (a < 1) = false := decide_eq_false ha1
  by_cases ha2 : 1000 < a
  · have d4 : decide (1000 < a) = true := decide_eq_true ha2
    clear HOW2 HO1
    go_wp2
    go_ret
    exact ⟨rfl, HB1.out⟩
  have d4 : decide (1000 < a) = false := decide_eq_false ha2
  by_cases hb1 : b < 1
  · have d5 : decide (b < 1) = true := decide_eq_true hb1
    clear HOW2 HO1
    go_wp2
    go_ret
    exact ⟨rfl, HB1.out⟩
  have d5 : decide (b < 1) = false := decide_eq_false hb1
  by_cases hb2 : 1000 < b
  · have d6 : decide (1000 < b) = true := decide_eq_true hb2
    clear HOW2 HO1
    go_wp2
    go_ret
    exact ⟨rfl, HB1.out⟩
  have d6 : decide (1000 < b) = false := decide_eq_false hb2
  go_wp2_with fail
  refine Calls.mono HO1.out ?_
  rintro e w4 ⟨v4, xs4, rfl, hb4, ho4, hr4⟩
  have HB4 := (show Hid _ from HB1.out.trans (hb4.mono HB1.out.size))
  rw [← HN1.out] at ho4
  obtain ⟨a4, c4, rfl, hP4⟩ := rowsP_of ho4 hr4
  have hmk := blMake_any w4 (HE.out.k.below HB4.out hB) (Nat.le_trans hB HB4.out.size) f a a4 c4 R1 hP4 (fun r hr => ⟨HIN1.out r hr, by have := (HLR1.out r hr).1; omega, by have := (HLR1.out r hr).2; omega⟩) (by rw [HN1.out]; omega)
  have HMK := (show Hid _ from hmk)
  rw [HN1.out] at HMK ⊢
  clear hb4 ho4 hr4 hP4 hmk HO1 d1 d2 d3 d4 d5 d6
  dsimp only
  go_wp2_with fail
  refine Calls.mono HMK.out ?_
  intro e w5 hmo
  obtain ⟨e1, u1, u2, rfl, hb5, hf5, hm5⟩ := make_both hmo
  obtain ⟨F, hF⟩ : ∃ F, F = mR f a R1 := ⟨_, rfl⟩
  obtain ⟨p1, hp1⟩ : ∃ p, p = mP f a R1 := ⟨_, rfl⟩
  obtain ⟨q1, hq1⟩ : ∃ q, q = mQ f a R1 := ⟨_, rfl⟩
  obtain ⟨C1, hC1⟩ : ∃ C, C = mkC f a R1 := ⟨_, rfl⟩
  rw [← hC1] at hf5
  rw [← hF] at hm5
  rw [← hp1, ← hq1]
  obtain ⟨l1, hl1⟩ : ∃ l, l = F.length := ⟨_, rfl⟩
  obtain ⟨g1, k1, g2, k2, rfl, rfl, _⟩ := hm5.names
  rw [← hl1] at hm5 ⊢
  obtain ⟨W6, hW6⟩ : ∃ W6, W6 = w5.alloc (.cells #[.int .i64 p1, .int .i64 q1, .slice g1 l1 k1, .slice g2 l1 k2] 25) := ⟨_, rfl⟩
  have hb6 : Below w5.heap.size w5 W6 := by rw [hW6]; exact (Below.refl _ _).alloc (Nat.le_refl _) _
  have hx6 : W6.heap[w5.heap.size]? = some (.cells #[.int .i64 p1, .int .i64 q1, .slice g1 l1 k1, .slice g2 l1 k2] 25 (0, 0)) := by rw [hW6]; exact heap_alloc_new _ _
  have HB6 := (show Hid _ from HB4.out.trans ((hb5.trans (hb6.mono hb5.size)).mono HB4.out.size))
  have HX6 := (show Hid _ from hx6)
  have HM6 : Hid (MadeAt W6 w4.heap.size F (.slice g1 l1 k1) (.slice g2 l1 k2)) := hm5.below hb6
  have HQ1 := (show Hid _ from And.intro hF (And.intro hp1 (And.intro hq1 (And.intro hC1 hl1))))
  have HF5 : Hid (FaultV ea w5 e1 C1 (mkA f a R1)) := hf5
  have HW6 : Hid (∀ wx, wx = w5.alloc (.cells #[.int .i64 p1, .int .i64 q1, .slice g1 l1 k1, .slice g2 l1 k2] 25) → wx = W6) := fun wx h => h.trans hW6.symm
  have HO2 := (show Hid _ from HOW2.out W6 HB6.out (by have := HN2.out; omega) (fun r hr => by have := (HLR2.out r hr).2; omega))
  clear hmo hb5 hf5 hm5 hF hp1 hq1 hC1 hl1 hW6 hb6 hx6 HMK HOW2
  dsimp only
  go_wp2_with fail
  rw [HW6.out _ rfl]
  refine Calls.mono HO2.out ?_
  rintro e w7 ⟨v7, xs7, rfl, hb7, ho7, hr7⟩
  have HK7 := (show Hid _ from hb7)
  have HB7 := (show Hid _ from HB6.out.trans (hb7.mono HB6.out.size))
  rw [← HN2.out] at ho7
  obtain ⟨a7, c7, rfl, hP7⟩ := rowsP_of ho7 hr7
  have hmk := blMake_any w7 (HE.out.k.below HB7.out hB) (Nat.le_trans hB HB7.out.size) (f + a) b a7 c7 R2 hP7 (fun r hr => ⟨HIN2.out r hr, by have := (HLR2.out r hr).1; omega, by have := (HLR2.out r hr).2; omega⟩) (by rw [HN2.out]; omega)
  have HMK := (show Hid _ from hmk)
  rw [HN2.out] at HMK ⊢
  clear hb7 ho7 hr7 hP7 hmk HO2
  dsimp only
  go_wp2_with fail
  refine Calls.mono HMK.out ?_
  intro e w8 hmo
  obtain ⟨e2, u3, u4, rfl, hb8, hf8, hm8⟩ := make_both hmo
  obtain ⟨G, hG⟩ : ∃ G, G = mR (f + a) b R2 := ⟨_, rfl⟩
  obtain ⟨p2, hp2⟩ : ∃ p, p = mP (f + a) b R2 := ⟨_, rfl⟩
  obtain ⟨q2, hq2⟩ : ∃ q, q = mQ (f + a) b R2 := ⟨_, rfl⟩
  obtain ⟨C2, hC2⟩ : ∃ C, C = mkC (f + a) b R2 := ⟨_, rfl⟩
  rw [← hC2] at hf8
  rw [← hG] at hm8
  rw [← hp2, ← hq2]
  obtain ⟨l2, hl2⟩ : ∃ l, l = G.length := ⟨_, rfl⟩
  obtain ⟨g3, k3, g4, k4, rfl, rfl, _⟩ := hm8.names
  rw [← hl2] at hm8 ⊢
  obtain ⟨W9, hW9⟩ : ∃ W9, W9 = w8.alloc (.cells #[.int .i64 p2, .int .i64 q2, .slice g3 l2 k3, .slice g4 l2 k4] 25) := ⟨_, rfl⟩
  have hb9 : Below w8.heap.size w8 W9 := by rw [hW9]; exact (Below.refl _ _).alloc (Nat.le_refl _) _
  have hx9 : W9.heap[w8.heap.size]? = some (.cells #[.int .i64 p2, .int .i64 q2, .slice g3 l2 k3, .slice g4 l2 k4] 25 (0, 0)) := by rw [hW9]; exact heap_alloc_new _ _
  have HK9 := (show Hid _ from HK7.out.trans ((hb8.trans (hb9.mono hb8.size)).mono HK7.out.size))
  have HB9 := (show Hid _ from HB6.out.trans (HK9.out.mono HB6.out.size))
  have HX9 : Hid (W9.heap[w5.heap.size]? = some (.cells #[.int .i64 p1, .int .i64 q1, .slice g1 l1 k1, .slice g2 l1 k2] 25 (0, 0)) ∧ W9.heap[w8.heap.size]? = some (.cells #[.int .i64 p2, .int .i64 q2, .slice g3 l2 k3, .slice g4 l2 k4] 25 (0, 0))) := ⟨(HK9.out.block _ (blk_lt HX6.out)).trans HX6.out, hx9⟩
  have HM9 : Hid (MadeAt W9 w4.heap.size F (.slice g1 l1 k1) (.slice g2 l1 k2) ∧ MadeAt W9 w7.heap.size G (.slice g3 l2 k3) (.slice g4 l2 k4)) := ⟨HM6.out.below HK9.out, hm8.below hb9⟩
  have HQ2 := (show Hid _ from And.intro hG (And.intro hp2 (And.intro hq2 (And.intro hC2 hl2))))
  have HF8 : Hid (FaultV ea w8 e2 C2 (mkA (f + a) b R2)) := hf8
  have HW9 : Hid (∀ wx, wx = w8.alloc (.cells #[.int .i64 p2, .int .i64 q2, .slice g3 l2 k3, .slice g4 l2 k4] 25) → wx = W9) := fun wx h => h.trans hW9.symm
  clear hmo hb8 hf8 hm8 hG hp2 hq2 hC2 hl2 hW9 hb9 hx9 HMK HK7 HM6 HX6 HW6
  by_cases hc1 : C1 = 0
  · obtain rfl := HF5.out.none hc1
    by_cases hc2 : C2 = 0
    · obtain rfl := HF8.out.none hc2
      have y0 := cells_of HX9.out.1 0
      have y1 := cells_of HX9.out.1 1
      have y2 := cells_of HX9.out.1 2
      have y3 := cells_of HX9.out.1 3
      have x0 := cells_of HX9.out.2 0
      have x1 := cells_of HX9.out.2 1
      have x2 := cells_of HX9.out.2 2
      have x3 := cells_of HX9.out.2 3
      simp at x0 x1 x2 x3 y0 y1 y2 y3
      have hz1 : mkC f a R1 = 0 := HQ1.out.2.2.2.1.symm.trans hc1
      have hz2 : mkC (f + a) b R2 = 0 := HQ2.out.2.2.2.1.symm.trans hc2
      have hp1 : f = p1 := by rw [HQ1.out.2.1]; unfold mP; rw [if_pos hz1]
      have hq1 : a = q1 := by rw [HQ1.out.2.2.1]; unfold mQ; rw [if_pos hz1]
      have hp2 : f + a = p2 := by rw [HQ2.out.2.1]; unfold mP; rw [if_pos hz2]
      have hq2 : b = q2 := by rw [HQ2.out.2.2.1]; unfold mQ; rw [if_pos hz2]
      have hF : F = full R1 := by rw [HQ1.out.1]; unfold mR; rw [if_pos hz1]
      have hG : G = full R2 := by rw [HQ2.out.1]; unfold mR; rw [if_pos hz2]
      have HL1 : Hid (l1 = F.length) := HQ1.out.2.2.2.2
      have HL2 : Hid (l2 = G.length) := HQ2.out.2.2.2.2
      clear HQ1 HQ2
      subst hp1 hq1 hp2 hq2
      have hma : MadeB f a F := by rw [hF]; exact made_of hz1 HIN1.out
      have hmb : MadeB (f + a) b G := by rw [hG]; exact made_of hz2 HIN2.out
      have HFN : Hid (∀ r, r ∈ F → r.1.length ≤ 200) := fun r hr => (HLR1.out r (full_mem (hF ▸ hr)).1).1
      have HGN : Hid (∀ r, r ∈ G → r.1.length ≤ 200) := fun r hr => (HLR2.out r (full_mem (hG ▸ hr)).1).1
      have hFl : F.length ≤ 70 := by have := hma.well.len; omega
      have hGl : G.length ≤ 70 := by have := hmb.well.len; omega
      have HJN := (show Hid _ from made_join W9 (HE.out.k.below HB9.out hB) (Nat.le_trans hB HB9.out.size) hma hmb hFl hGl HFN.out HGN.out HM9.out.1 HM9.out.2)
      have HMA := (show Hid _ from hma)
      have HMB := (show Hid _ from hmb)
      have HFL := (show Hid _ from And.intro hFl hGl)
      clear HF5 HF8 hz1 hz2 hF hG hma hmb hFl hGl hc1 hc2
      dsimp only
      go_upto_region 10 with fail
      rw [HW9.out _ rfl]
      go_wp2_with fail
      refine Calls.mono HJN.out ?_
      rintro e w10 ⟨hb10, ⟨hmc, u5, u6, rfl, hm10⟩ | ⟨v10, rfl, hf10⟩⟩
      · obtain ⟨g5, k5, g6, k6, rfl, rfl, _⟩ := hm10.names
        obtain ⟨l3, hl3⟩ : ∃ l, l = (mergeR F G).length := ⟨_, rfl⟩
        rw [← hl3] at hm10 ⊢
        obtain ⟨WA, hWA⟩ : ∃ WA, WA = w10.alloc (.cells #[.int .i64 f, .int .i64 (a + b), .slice g5 l3 k5, .slice g6 l3 k6] 25) := ⟨_, rfl⟩
        have hbA : Below w10.heap.size w10 WA := by rw [hWA]; exact (Below.refl _ _).alloc (Nat.le_refl _) _
        have hxA : WA.heap[w10.heap.size]? = some (.cells #[.int .i64 f, .int .i64 (a + b), .slice g5 l3 k5, .slice g6 l3 k6] 25 (0, 0)) := by rw [hWA]; exact heap_alloc_new _ _
        have hkA := hb10.trans (hbA.mono hb10.size)
        have HBA := (show Hid _ from HB9.out.trans (hkA.mono HB9.out.size))
        have HXA : Hid (∀ z, Below WA.heap.size WA z → z.heap[w5.heap.size]? = some (.cells #[.int .i64 f, .int .i64 a, .slice g1 l1 k1, .slice g2 l1 k2] 25 (0, 0)) ∧ z.heap[w8.heap.size]? = some (.cells #[.int .i64 (f + a), .int .i64 b, .slice g3 l2 k3, .slice g4 l2 k4] 25 (0, 0)) ∧ z.heap[w10.heap.size]? = some (.cells #[.int .i64 f, .int .i64 (a + b), .slice g5 l3 k5, .slice g6 l3 k6] 25 (0, 0))) := fun z hz => by
          have h1 := hkA.trans (hz.mono hkA.size)
          exact ⟨(h1.block _ (blk_lt HX9.out.1)).trans HX9.out.1, (h1.block _ (blk_lt HX9.out.2)).trans HX9.out.2, (hz.block _ (blk_lt hxA)).trans hxA⟩
        have HMM : Hid (∀ z, Below WA.heap.size WA z → MadeAt z w4.heap.size F (.slice g1 l1 k1) (.slice g2 l1 k2) ∧ MadeAt z w7.heap.size G (.slice g3 l2 k3) (.slice g4 l2 k4) ∧ MadeAt z W9.heap.size (mergeR F G) (.slice g5 l3 k5) (.slice g6 l3 k6)) := fun z hz => by
          have h1 := hkA.trans (hz.mono hkA.size)
          exact ⟨HM9.out.1.below h1, HM9.out.2.below h1, hm10.below (hbA.trans (hz.mono hbA.size))⟩
        have HMC := (show Hid _ from hmc)
        have HWA : Hid (∀ wx, wx = w10.alloc (.cells #[.int .i64 f, .int .i64 (a + b), .slice g5 l3 k5, .slice g6 l3 k6] 25) → wx = WA) := fun wx h => h.trans hWA.symm
        have HRP : Hid (∀ z, Below WA.heap.size WA z → RowsP z la R1 ∧ RowsP z lb R2) := fun z hz => ⟨HP1.out.below (HBA.out.trans (hz.mono HBA.out.size)), HP2.out.below (HBA.out.trans (hz.mono HBA.out.size))⟩
        have HPX : Hid (∀ z nm, Below WA.heap.size WA z → Calls Tryz.prog 19 #[.agg #[.int .i64 f, .int .i64 a, .slice g1 l1 k1, .slice g2 l1 k2], .string nm, .int .i64 lo, .int .i64 hi] z fun e z' => ∃ x, e = .returned (.tuple #[x, .nilIface]) ∧ Below WA.heap.size WA z' ∧ Below z.heap.size z z' ∧ z'.ownsRow z.heap.size 71 2 x (betweenL lo hi (ofR F nm.data.toList)).length (pairCells (betweenL lo hi (ofR F nm.data.toList)))) := fun z nm hz => by
          have hbz := HBA.out.trans (hz.mono HBA.out.size)
          refine (made_points z (HE.out.k.below hbz hB) (Nat.le_trans hB hbz.size) HMA.out HFL.out.1 HFN.out (HMM.out z hz).1 nm lo hi).mono ?_
          rintro e z' ⟨x, rfl, hb, ho⟩
          exact ⟨x, rfl, hz.trans (hb.mono hz.size), hb, ho⟩
        have HPY : Hid (∀ z nm, Below WA.heap.size WA z → Calls Tryz.prog 19 #[.agg #[.int .i64 (f + a), .int .i64 b, .slice g3 l2 k3, .slice g4 l2 k4], .string nm, .int .i64 lo, .int .i64 hi] z fun e z' => ∃ x, e = .returned (.tuple #[x, .nilIface]) ∧ Below WA.heap.size WA z' ∧ Below z.heap.size z z' ∧ z'.ownsRow z.heap.size 71 2 x (betweenL lo hi (ofR G nm.data.toList)).length (pairCells (betweenL lo hi (ofR G nm.data.toList)))) := fun z nm hz => by
          have hbz := HBA.out.trans (hz.mono HBA.out.size)
          refine (made_points z (HE.out.k.below hbz hB) (Nat.le_trans hB hbz.size) HMB.out HFL.out.2 HGN.out (HMM.out z hz).2.1 nm lo hi).mono ?_
          rintro e z' ⟨x, rfl, hb, ho⟩
          exact ⟨x, rfl, hz.trans (hb.mono hz.size), hb, ho⟩
        have HPZ : Hid (∀ z nm, Below WA.heap.size WA z → Calls Tryz.prog 19 #[.agg #[.int .i64 f, .int .i64 (a + b), .slice g5 l3 k5, .slice g6 l3 k6], .string nm, .int .i64 lo, .int .i64 hi] z fun e z' => ∃ x, e = .returned (.tuple #[x, .nilIface]) ∧ Below WA.heap.size WA z' ∧ Below z.heap.size z z' ∧ z'.ownsRow z.heap.size 71 2 x (betweenL lo hi (ofR (mergeR F G) nm.data.toList)).length (pairCells (betweenL lo hi (ofR (mergeR F G) nm.data.toList)))) := fun z nm hz => by
          have hbz := HBA.out.trans (hz.mono HBA.out.size)
          refine (made_points z (HE.out.k.below hbz hB) (Nat.le_trans hB hbz.size) HMC.out (by have := HMC.out.well.len; omega) (jn_name HMA.out.well HMB.out.well HFN.out HGN.out) (HMM.out z hz).2.2 nm lo hi).mono ?_
          rintro e z' ⟨x, rfl, hb, ho⟩
          exact ⟨x, rfl, hz.trans (hb.mono hz.size), hb, ho⟩
        clear hWA hbA hxA hkA hm10 hb10 hmc hl3 x0 x1 x2 x3 y0 y1 y2 y3 HJN HM9 HX9 HK9 HP1 HP2
        dsimp only
        go_wp2_with fail
        rw [HWA.out _ rfl]
        go_loopw [22] (fun i wr => ∃ k : Nat, k ≤ n1 + n2 ∧ i = .int .i64 (k : Int) ∧ Below WA.heap.size WA wr) (fun i _ => n1 + n2 - (intOf i).toNat)
        case atStart => exact ⟨0, Nat.zero_le _, rfl, Below.refl _ _⟩
        case round =>
          obtain ⟨k, hk, rfl, hbr⟩ := hrel
          have HBR := (show Hid _ from hbr)
          by_cases hkn : k < n1 + n2
          · have kI : (k : Int) < (n1 : Int) + (n2 : Int) := by omega
            have k0 : (0 : Int) ≤ (k : Int) := by omega
            obtain ⟨hr1, hr2⟩ := HRP.out wr hbr
            have HR1 : Hid (RowsP wr la R1) := hr1
            have HR2 : Hid (RowsP wr lb R2) := hr2
            clear hr1 hr2 hbr
            go_upto_if 110 with fail
            go_cut [23] from 110 to 123 (fun v23 wz => wz = wr ∧ ∃ nm : ByteArray, v23 = .string nm)
            case first =>
              by_cases hk1 : k < n1
              · have hkR : k < R1.length := by rw [HN1.out]; exact hk1
                have d1 : decide ((k : Int) < (n1 : Int)) = true := decide_eq_true (by omega)
                have d2 : (k : Int) < (n1 : Int) := by omega
                rcases HR1.out with hx | ⟨bb, o, rfl, hc⟩
                · rw [hx] at hkR; simp at hkR
                obtain ⟨c0, _, _, _, _⟩ := hc k hkR
                obtain ⟨nm, hnm⟩ : ∃ nm : ByteArray, nm = ⟨R1[k].1.toArray⟩ := ⟨_, rfl⟩
                have c0' : wr.cell? ⟨bb, o + k * 2, none⟩ = some (.string nm) := by rw [hnm]; exact c0
                clear hc c0 hnm
                go_wp2_with fail
                go_meet
                case rel => exact ⟨rfl, nm, rfl⟩
              · obtain ⟨j, rfl⟩ : ∃ j, k = n1 + j := ⟨k - n1, by omega⟩
                have hkR : j < R2.length := by rw [HN2.out]; omega
                have d1 : decide (((n1 + j : Nat) : Int) < (n1 : Int)) = false := decide_eq_false (by omega)
                have d2 : ((n1 + j : Nat) : Int) - (n1 : Int) = (j : Int) := by omega
                have d3 : (j : Int) < (n2 : Int) := by omega
                have d4 : (0 : Int) ≤ (j : Int) := by omega
                rcases HR2.out with hx | ⟨bb, o, rfl, hc⟩
                · rw [hx] at hkR; simp at hkR
                obtain ⟨c0, _, _, _, _⟩ := hc j hkR
                obtain ⟨nm, hnm⟩ : ∃ nm : ByteArray, nm = ⟨R2[j].1.toArray⟩ := ⟨_, rfl⟩
                have c0' : wr.cell? ⟨bb, o + j * 2, none⟩ = some (.string nm) := by rw [hnm]; exact c0
                clear hc c0 hnm
                go_wp2_with fail
                go_meet
                case rel => exact ⟨rfl, nm, rfl⟩
            case rest =>
              obtain ⟨rfl, nm, rfl⟩ := hcut
              obtain ⟨K, hK⟩ : ∃ K, K = betweenL lo hi (ofR F nm.data.toList) := ⟨_, rfl⟩
              obtain ⟨L, hL⟩ : ∃ L, L = betweenL lo hi (ofR G nm.data.toList) := ⟨_, rfl⟩
              have hM : betweenL lo hi (ofR (mergeR F G) nm.data.toList) = mergeL K L := by rw [hK, hL]; exact jn_points HMA.out.well HMB.out.well _ _ _
              have hKl : K.length ≤ 120 := by rw [hK]; exact HMA.out.btw_len _ _ _
              have hLl : L.length ≤ 120 := by rw [hL]; exact HMB.out.btw_len _ _ _
              have hMl : (mergeL K L).length ≤ 120 := by rw [← hM]; exact HMC.out.btw_len _ _ _
              have HMI : Hid (PtsIn (mergeL K L)) := by rw [← hM]; exact HMC.out.btw_in _ _ _
              have HC1 := (show Hid _ from HPX.out wc nm HBR.out)
              have HC2 := (show Hid _ from fun z hz => HPY.out z nm hz)
              have HC3 := (show Hid _ from fun z hz => HPZ.out z nm hz)
              rw [← hK] at HC1
              rw [← hL] at HC2
              rw [hM] at HC3
              have HLN := (show Hid _ from And.intro hKl (And.intro hLl hMl))
              clear hK hL hM hKl hLl hMl HR1 HR2
              have hx := (HXA.out wc HBR.out).1
              have x0 := cells_of hx 0
              have x1 := cells_of hx 1
              have x2 := cells_of hx 2
              have x3 := cells_of hx 3
              simp at x0 x1 x2 x3
              clear hx
              go_wp2_with fail
              refine Calls.mono HC1.out ?_
              rintro e w13 ⟨v13, rfl, hb13, hs13, ho13⟩
              have HB13 := (show Hid _ from hb13)
              have HO13 := (show Hid _ from ho13)
              have hx := (HXA.out w13 hb13).2.1
              clear hb13 hs13 ho13 x0 x1 x2 x3 HC1
              have x0 := cells_of hx 0
              have x1 := cells_of hx 1
              have x2 := cells_of hx 2
              have x3 := cells_of hx 3
              simp at x0 x1 x2 x3
              clear hx
              dsimp only
              go_wp2_with fail
              refine Calls.mono (HC2.out w13 HB13.out) ?_
              rintro e w14 ⟨v14, rfl, hb14, hs14, ho14⟩
              have HB14 := (show Hid _ from hb14)
              have HO14 := (show Hid _ from And.intro (own_bel3 HO13.out hs14) ho14)
              have hx := (HXA.out w14 hb14).2.2
              clear hb14 hs14 ho14 x0 x1 x2 x3 HC2 HO13
              have x0 := cells_of hx 0
              have x1 := cells_of hx 1
              have x2 := cells_of hx 2
              have x3 := cells_of hx 3
              simp at x0 x1 x2 x3
              clear hx
              dsimp only
              go_wp2_with fail
              refine Calls.mono (HC3.out w14 HB14.out) ?_
              rintro e w15 ⟨v15, rfl, hb15, hs15, ho15⟩
              have HB15 := (show Hid _ from hb15)
              obtain ⟨aK, cK, rfl, hcK, hpK⟩ := own_list_at HO14.out.1 hs15
              obtain ⟨aL, cL, rfl, hcL, hpL⟩ := own_list_at HO14.out.2 hs15
              obtain ⟨aM, cM, rfl, hcM, hpM⟩ := slice_of_own ho15
              have HMG := (show Hid _ from cmerge_any w15 aK aL cK cL K L hpK hpL (by have := HLN.out.1; omega) (by have := HLN.out.2.1; omega) hcK hcL)
              have HPM : Hid (PtsL w15 aM (mergeL K L)) := hpM
              have HLM : Hid ((mergeL K L).length ≤ 120) := HLN.out.2.2
              generalize K.length = nK at *
              generalize L.length = nL at *
              obtain ⟨nM, hnM⟩ : ∃ n, n = (mergeL K L).length := ⟨_, rfl⟩
              have HNM := (show Hid _ from hnM)
              rw [← hnM]
              clear hb15 hs15 ho15 x0 x1 x2 x3 HC3 HO14 hcK hpK hcL hpL hcM hpM HLN hnM
              dsimp only
              go_wp2_with fail
              refine Calls.mono HMG.out ?_
              rintro e w16 ⟨v16, rfl, ho16⟩
              obtain ⟨aS, cS, rfl, _, hpS⟩ := slice_of_own ho16.own
              have HB16 := (show Hid _ from HB15.out.trans (ho16.bel.mono HB15.out.size))
              have HSM := (show Hid _ from same_list w16 aM aS cM cS (mergeL K L) (HPM.out.below ho16.bel) hpS HMI.out (by have := HLM.out; omega))
              rw [← HNM.out] at HSM ⊢
              clear ho16 hpS HMG
              dsimp only
              go_wp2_with fail
              refine Calls.mono HSM.out ?_
              rintro e w17 ⟨rfl, hb17⟩
              have HB17 := (show Hid _ from HB16.out.trans (hb17.mono HB16.out.size))
              clear hb17 HSM
              dsimp only
              go_wp2
              go_roundw
              case rel => exact ⟨k + 1, by omega, by go_num, HB17.out⟩
              case measure => simp [intOf] <;> omega
          · obtain rfl : k = n1 + n2 := by omega
            have hx := (HXA.out wr hbr).2.2
            have x0 := cells_of hx 0
            have x1 := cells_of hx 1
            simp at x0 x1
            clear hbr hx
            go_wp2
            go_ret
            exact ⟨rfl, HBA.out.trans (HBR.out.mono HBA.out.size)⟩
      · obtain ⟨t, p, rfl⟩ := hf10.pos (by decide)
        obtain ⟨WA, hWA⟩ : ∃ WA, WA = w10.alloc (.cells #[.int .i64 0, .int .i64 0, .slice none 0 0, .slice none 0 0] 25) := ⟨_, rfl⟩
        have hbA : Below w10.heap.size w10 WA := by rw [hWA]; exact (Below.refl _ _).alloc (Nat.le_refl _) _
        have HBA := (show Hid _ from HB9.out.trans ((hb10.trans (hbA.mono hb10.size)).mono HB9.out.size))
        have HCD := (show Hid _ from coded2_v WA (HE.out.env.below HBA.out hB) (Nat.le_trans hB HBA.out.size) _ 2 (FaultV.below hf10 hbA) (by decide))
        have HWA : Hid (∀ wx, wx = w10.alloc (.cells #[.int .i64 0, .int .i64 0, .slice none 0 0, .slice none 0 0] 25) → wx = WA) := fun wx h => h.trans hWA.symm
        clear hWA hbA hf10 hb10 x0 x1 x2 x3 y0 y1 y2 y3 HJN
        dsimp only
        go_wp2_with fail
        rw [HWA.out _ rfl]
        refine Calls.mono HCD.out ?_
        rintro e w12 ⟨rfl, hb12⟩
        have HB12 := (show Hid _ from HBA.out.trans (hb12.mono HBA.out.size))
        clear hb12
        dsimp only
        go_wp2
        go_ret
        exact ⟨rfl, HB12.out⟩
    · obtain ⟨t, p, rfl⟩ := HF8.out.pos hc2
      clear HF8
      dsimp only
      go_wp2
      rw [HW9.out _ rfl]
      go_ret
      exact ⟨rfl, HB9.out⟩
  · obtain ⟨t, p, rfl⟩ := HF5.out.pos hc1
    clear HF5 HF8
    dsimp only
    go_wp2
    rw [HW9.out _ rfl]
    go_ret
    exact ⟨rfl, HB9.out⟩
end Go.Proofs.YtdlceolmpcjjiaaGreatDoor
