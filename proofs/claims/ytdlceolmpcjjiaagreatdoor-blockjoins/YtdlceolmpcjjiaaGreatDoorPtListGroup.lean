/- Points as lists of pairs: their cells, the slices that hold them; points between ticks, two lists as one. -/
import Derived.Test.YtdlceolmpcjjiaaGreatDoorSlicesIn
import Derived.Test.YtdlceolmpcjjiaaGreatDoorChecked
import Derived.Deep.AppendLies
import Derived.Deep.QuietTactic
import Derived.BigQuiet
namespace PtMath

/-- Those between two ticks. -/
def betweenL (a b : Int) (l : List (Int × Nat)) : List (Int × Nat) := l.filter fun p => decide (a ≤ p.1) && decide (p.1 ≤ b)
theorem betweenL_snoc (a b : Int) (l : List (Int × Nat)) (p : Int × Nat) : betweenL a b (l ++ [p]) = if (decide (a ≤ p.1) && decide (p.1 ≤ b)) = true then betweenL a b l ++ [p] else betweenL a b l := by
  unfold betweenL
  rw [List.filter_append]
  split <;> simp_all
theorem betweenL_len (a b : Int) (l : List (Int × Nat)) : (betweenL a b l).length ≤ l.length := List.length_filter_le ..
/-- Two lists as one: by ticks; of one tick the second list's. -/
def mergeL : List (Int × Nat) → List (Int × Nat) → List (Int × Nat)
  | [], b => b
  | a, [] => a
  | p :: a, q :: b => if p.1 < q.1 then p :: mergeL a (q :: b) else if q.1 < p.1 then q :: mergeL (p :: a) b else mergeL a (q :: b)
termination_by a b => a.length + b.length
theorem mergeL_nil (b : List (Int × Nat)) : mergeL [] b = b := by rw [mergeL]
theorem mergeL_end (a : List (Int × Nat)) : mergeL a [] = a := by cases a <;> rw [mergeL]; simp
theorem mergeL_cons (p q : Int × Nat) (a b : List (Int × Nat)) : mergeL (p :: a) (q :: b) = if p.1 < q.1 then p :: mergeL a (q :: b) else if q.1 < p.1 then q :: mergeL (p :: a) b else mergeL a (q :: b) := by rw [mergeL]
end PtMath
namespace Go.Proofs.YtdlceolmpcjjiaaGreatDoor
open Go.RowKit PtMath

theorem Tryz.infoPt : (Tryz.prog.info? 71).map (fun i => (i.zero, i.size, i.bytes)) = some (some (.agg #[.int .i64 0, .int .u64 0]), 2, 16) := by kernel_rfl
/-- The cells of points. -/
def pairCells (l : List (Int × Nat)) : List Value := l.flatMap fun p => [.int .i64 p.1, .int .u64 (p.2 : Int)]
theorem pairCells_snoc (l : List (Int × Nat)) (p : Int × Nat) : pairCells l ++ [.int .i64 p.1, .int .u64 (p.2 : Int)] = pairCells (l ++ [p]) := by simp [pairCells]
theorem pairCells_append (l m : List (Int × Nat)) : pairCells (l ++ m) = pairCells l ++ pairCells m := by simp [pairCells]
theorem length_pairCells (l : List (Int × Nat)) : (pairCells l).length = l.length * 2 := by
  induction l with
  | nil => rfl
  | cons a r ih =>
    have e : pairCells (a :: r) = .int .i64 a.1 :: .int .u64 (a.2 : Int) :: pairCells r := by simp [pairCells]
    rw [e, List.length_cons, List.length_cons, ih, List.length_cons]
    omega
theorem pairCells_at : ∀ (l : List (Int × Nat)) (k : Nat) (hk : k < l.length), (pairCells l)[k * 2]? = some (.int .i64 l[k].1) ∧ (pairCells l)[k * 2 + 1]? = some (.int .u64 (l[k].2 : Int))
  | [], k, hk => by simp at hk
  | a :: r, 0, _ => by simp [pairCells]
  | a :: r, k + 1, hk => by
    have ih := pairCells_at r k (by simpa using hk)
    have e : pairCells (a :: r) = .int .i64 a.1 :: .int .u64 (a.2 : Int) :: pairCells r := by simp [pairCells]
    rw [e, show (k + 1) * 2 = k * 2 + 1 + 1 by omega]
    simp only [List.getElem?_cons_succ, List.getElem_cons_succ]
    exact ih
/-- A slice that holds points. -/
def PtsL (w : World) (a : Option Addr) (l : List (Int × Nat)) : Prop :=
  l = [] ∨ ∃ b o, a = some ⟨b, o, none⟩ ∧ ∀ k (hk : k < l.length), w.cell? ⟨b, o + k * 2, none⟩ = some (.int .i64 l[k].1) ∧ w.cell? ⟨b, o + k * 2 + 1, none⟩ = some (.int .u64 (l[k].2 : Int))
/-- Points whose numbers are those of Go's types. -/
def PtsIn (l : List (Int × Nat)) : Prop := ∀ p, p ∈ l → -9223372036854775808 ≤ p.1 ∧ p.1 ≤ 9223372036854775807 ∧ p.2 < 18446744073709551616
theorem PtsL.below {w w' : World} {a : Option Addr} {l : List (Int × Nat)} (h : PtsL w a l) (hb : Below w.heap.size w w') : PtsL w' a l := by
  rcases h with h | ⟨b, o, h, hc⟩
  · exact .inl h
  · refine .inr ⟨b, o, h, fun k hk => ?_⟩
    obtain ⟨h1, h2⟩ := hc k hk
    have hl : b < w.heap.size := World.block_lt_of_cell? w ⟨b, _, none⟩ h1
    exact ⟨(hb.cell (p := ⟨b, _, none⟩) hl).trans h1, (hb.cell (p := ⟨b, _, none⟩) hl).trans h2⟩
/-- The points of a slice that came in, as a list. -/
def listOf (T : Nat → Int) (B : Nat → Nat) (n : Nat) : List (Int × Nat) := (List.range n).map fun i => (T i, B i)
theorem ptsL_of {w : World} {a : Option Addr} {n : Nat} {T : Nat → Int} {B : Nat → Nat} (h : Pts w a n T B) : PtsL w a (listOf T B n) ∧ PtsIn (listOf T B n) ∧ (listOf T B n).length = n := by
  have hl : (listOf T B n).length = n := by simp [listOf]
  rcases h with h | ⟨b, o, h, hc⟩
  · subst h
    exact ⟨.inl rfl, fun p hp => by simp [listOf] at hp, hl⟩
  · refine ⟨.inr ⟨b, o, h, fun k hk => ?_⟩, ?_, hl⟩
    · rw [hl] at hk
      have e : (listOf T B n)[k]'(by rw [hl]; exact hk) = (T k, B k) := by simp [listOf]
      rw [e]
      exact ⟨(hc k hk).1, (hc k hk).2.1⟩
    · intro p hp
      simp [listOf] at hp
      obtain ⟨i, hi, rfl⟩ := hp
      exact (hc i hi).2.2
theorem own_pairs {w : World} {base : Nat} {v : Value} {l : List (Int × Nat)} (h : w.ownsRow base 71 2 v l.length (pairCells l)) : ∃ a c, v = .slice a l.length c ∧ l.length ≤ c ∧ PtsL w a l ∧ (l ≠ [] → ∃ g, a = some ⟨g, 0, none⟩ ∧ base ≤ g ∧ g < w.heap.size) := by
  obtain ⟨_, h2⟩ := h
  rcases h2 with ⟨hv, h0⟩ | ⟨g, cap, cur, hv, hg, hh, h1, h2, h3, h4⟩
  · have hl := List.eq_nil_of_length_eq_zero h0
    subst hl
    exact ⟨none, 0, hv, Nat.le_refl _, .inl rfl, fun h => absurd rfl h⟩
  · have hgl : g < w.heap.size := by
      rcases Nat.lt_or_ge g w.heap.size with h' | h'
      · exact h'
      · rw [Array.getElem?_eq_none h'] at hh; cases hh
    refine ⟨some ⟨g, 0, none⟩, cap, hv, h1, .inr ⟨g, 0, rfl, fun k hk => ?_⟩, fun _ => ⟨g, rfl, hg, hgl⟩⟩
    have hc : ∀ j, j < l.length * 2 → w.cell? ⟨g, j, none⟩ = (pairCells l)[j]? := by
      intro j hj
      have e0 : w.cell? ⟨g, j, none⟩ = cur[j]? := by simp [World.cell?, hh]
      rw [e0, ← Array.getElem?_toList, ← h4, List.getElem?_take_of_lt hj]
    obtain ⟨p0, p1⟩ := pairCells_at l k hk
    refine ⟨?_, ?_⟩
    · rw [Nat.zero_add, hc _ (by omega)]; exact p0
    · rw [Nat.zero_add, hc _ (by omega)]; exact p1
theorem grown_pts {w wr X w1 : World} {o : Obj} {v : Value} {n : Nat} {xs : List Value} (hX : X.heap = (wr.alloc o).heap) (ho : X.os = wr.os) (ht : X.tape = wr.tape) (hu : X.output = wr.output) (hb : Below w.heap.size w wr) (hown : wr.ownsRow w.heap.size 71 2 v n xs) (hgrow : X.grownBy w1 v.ownBlock) : Below w.heap.size w w1 := by
  have hs : X.heap.size = wr.heap.size + 1 := by rw [hX]; simp
  refine ⟨hgrow.os.trans (ho.trans hb.os), hgrow.tape.trans (ht.trans hb.tape), hgrow.output.trans (hu.trans hb.output), Nat.le_trans hb.size (by have := hgrow.size; omega), fun k hk => ?_⟩
  have hkl : k < wr.heap.size := Nat.lt_of_lt_of_le hk hb.size
  rw [hgrow.block k (by omega) ?_, hX, Below.heap_alloc _ _ _ hkl]
  · exact hb.block k hk
  · intro e
    rcases hown.2 with ⟨rfl, _⟩ | ⟨g, cap, cur, rfl, hg, _⟩
    · simp [Value.ownBlock] at e
    · simp [Value.ownBlock] at e
      omega

end Go.Proofs.YtdlceolmpcjjiaaGreatDoor
/- The document's bounds of a block, and which points lie inside it. -/
namespace Go.Proofs.YtdlceolmpcjjiaaGreatDoor
open Go.RowKit PtMath

theorem own_slice1 {w : World} {b : Nat} {T : TypeId} {k : Nat} {v : Value} {n : Nat} {cs : List Value} (h : w.ownsRow b T k v n cs) : ∃ a c, v = .slice a n c := by
  rcases h.2 with ⟨hv, h0⟩ | ⟨g, cap, cur, hv, _⟩
  · exact ⟨none, 0, by rw [hv, h0]⟩
  · exact ⟨_, _, hv⟩
/-- The error of a stretch. -/
def bdE (f s : Int) : Int := if s < 1 ∨ 100000 < s ∨ f < -1099511627776 ∨ 1099511627776 < f then 2 else 0
theorem bdE_zero {f s : Int} (h : bdE f s = 0) : 1 ≤ s ∧ s ≤ 100000 ∧ -1099511627776 ≤ f ∧ f ≤ 1099511627776 := by
  unfold bdE at h
  split at h
  · cases h
  · omega
/-- All points in a stretch. -/
def insB (f s : Int) (l : List (Int × Nat)) : Bool := l.all fun p => decide (f ≤ p.1) && decide (p.1 ≤ f + s - 1)
theorem insB_true {f s : Int} {l : List (Int × Nat)} : insB f s l = true ↔ ∀ p, p ∈ l → f ≤ p.1 ∧ p.1 ≤ f + s - 1 := by
  unfold insB
  rw [List.all_eq_true]
  simp

end Go.Proofs.YtdlceolmpcjjiaaGreatDoor
/- chunk's Between by its contract. -/
namespace Go.Proofs.YtdlceolmpcjjiaaGreatDoor
open Go.RowKit PtMath

set_option maxRecDepth 1000000 in
set_option maxHeartbeats 2000000 in
theorem cbetween_any (w : World) (la : Option Addr) (c : Nat) (l : List (Int × Nat)) (x y : Int) (hP : PtsL w la l) (hn : l.length ≤ 1000) :
    Calls Tryz.prog 55 #[.slice la l.length c, .int .i64 x, .int .i64 y] w fun e w' => ∃ v, e = .returned v ∧ w'.ownsRow w.heap.size 71 2 v (betweenL x y l).length (pairCells (betweenL x y l)) ∧ Below w.heap.size w w' := by
  have HP : Hid (PtsL w la l) := hP
  clear hP
  obtain ⟨n, hnn⟩ : ∃ n, l.length = n := ⟨_, rfl⟩
  rw [hnn]
  have hn' : n ≤ 1000 := by omega
  have HN := (show Hid _ from hnn)
  clear hnn hn
  go_enter Tryz.func55, Tryz.ntmps55
  go_wp2_with fail
  go_loopw [7, 9, 12] (fun sl _ i wr => ∃ (k m : Nat) (v : Value), sl = v ∧ k ≤ n ∧ m = (betweenL x y (l.take k)).length ∧ i = .int .i64 k ∧ wr.ownsRow w.heap.size 71 2 v m (pairCells (betweenL x y (l.take k))) ∧ Below w.heap.size w wr) (fun _ _ i _ => n - (intOf i).toNat)
  case atStart => exact ⟨0, 0, _, rfl, Nat.zero_le _, rfl, rfl, ⟨rfl, .inl ⟨rfl, rfl⟩⟩, Below.refl _ _⟩
  case round =>
    obtain ⟨k, m, v, hv, hk, hm, rfl, hown, hbr⟩ := hrel
    have hv' := hv.symm
    subst hv'
    by_cases hlt : k < n
    · have hkl : k < l.length := by have := HN.out; omega
      have hst : l.take (k + 1) = l.take k ++ [l[k]] := List.take_succ_eq_append_getElem hkl
      have hbs := betweenL_snoc x y (l.take k) l[k]
      rw [← hst] at hbs
      rcases HP.out with h | ⟨b, o, rfl, hc⟩
      · rw [h] at hkl; simp at hkl
      · obtain ⟨c0, c1⟩ := hc k hkl
        have hbl := World.block_lt_of_cell? w ⟨b, _, none⟩ c0
        rw [← hbr.cell (p := ⟨b, o + k * 2, none⟩) hbl] at c0
        rw [← hbr.cell (p := ⟨b, o + k * 2 + 1, none⟩) hbl] at c1
        have hml : m ≤ 1000 := by
          have h1 := betweenL_len x y (l.take k)
          have h2 := List.length_take_le k l
          omega
        have HPC := (show Hid _ from pairCells_snoc (betweenL x y (l.take k)) l[k])
        generalize l[k] = p at *
        obtain ⟨t, u⟩ := p
        simp only at c0 c1 hbs
        have hkI : (k : Int) < (n : Int) := by omega
        have hk0 : (0 : Int) ≤ (k : Int) := by omega
        have HM := (show Hid _ from hm)
        have hwl := hbr.size
        obtain ⟨W1, hW1⟩ : ∃ W1, W1 = wr.alloc (.cells #[.int .i64 t, .int .u64 (u : Int)] 71) := ⟨_, rfl⟩
        have hown1 : W1.ownsRow w.heap.size 71 2 v m (pairCells (betweenL x y (l.take k))) := by rw [hW1]; exact World.ownsRow.alloc hown _
        have hbr1 : Below w.heap.size w W1 := by rw [hW1]; exact hbr.alloc hwl _
        have HOWN : Hid (W1.ownsRow w.heap.size 71 2 v m (pairCells (betweenL x y (l.take k)))) := hown1
        have HBR := (show Hid _ from hbr1)
        have HBS := (show Hid _ from hbs)
        have HW1 := (show Hid _ from hW1)
        clear hc hst hm hown hbr hbs hown1 hbr1 hW1
        by_cases hx : x ≤ t
        · have d1 : decide (x ≤ t) = true := decide_eq_true hx
          by_cases hy : t ≤ y
          · have d2 : decide (t ≤ y) = true := decide_eq_true hy
            have hbe : betweenL x y (l.take (k + 1)) = betweenL x y (l.take k) ++ [(t, u)] := by rw [HBS.out, d1, d2]; rfl
            have HBE := (show Hid _ from hbe)
            obtain ⟨i0, hi, hz0, hz1, hz2⟩ := info_parts Tryz.infoPt
            have hownA : ((wr.alloc (.cells #[.int .i64 t, .int .u64 (u : Int)] 71)).alloc (.cells #[.int .i64 t, .int .u64 (u : Int)] 71)).ownsRow w.heap.size 71 2 v m (pairCells (betweenL x y (l.take k))) := by
              rw [← HW1.out]
              exact World.ownsRow.alloc HOWN.out _
            clear hbe
            go_wp2_with (at_builtin; refine wpList_append_lies _ rfl _ _ 48 rfl w.heap.size 71 i0 (.agg #[.int .i64 0, .int .u64 0]) 2 16 Tryz.underlying48 hi hz0 hz1 hz2 rfl (by decide) _ _ _ rfl hownA ⟨wr.heap.size + 1, 0, none⟩ 1 1 [.int .i64 t, .int .u64 (u : Int)] rfl rfl (World.news_of_block (by have := heap_alloc_new (wr.alloc (.cells #[.int .i64 t, .int .u64 (u : Int)] 71)) (.cells #[.int .i64 t, .int .u64 (u : Int)] 71); simpa using this)) ?c2 (by omega) ?c3 ?c4 ?c5 (wr.heap.size + 2) (by simp) ?_)
            case c2 => exact ⟨rfl, rfl⟩
            case c3 => unfold maxLen; omega
            case c4 => omega
            case c5 => first | omega | (simp; omega)
            intro g1 cap1 w1 hown1 hgrow hat hlt1
            rw [← HW1.out] at hgrow
            have hb1 := grown_pts rfl rfl rfl rfl HBR.out HOWN.out hgrow
            rw [HPC.out, ← HBE.out] at hown1
            have HOWN1 : Hid (w1.ownsRow w.heap.size 71 2 (.slice (some ⟨g1, 0, none⟩) (m + 1) cap1) (m + 1) (pairCells (betweenL x y (l.take (k + 1))))) := hown1
            have HB1 := (show Hid _ from hb1)
            have HM1 : Hid (m + 1 = (betweenL x y (l.take (k + 1))).length) := by rw [HBE.out, List.length_append, ← HM.out]; rfl
            clear hown1 hgrow hat hlt1 hb1 hownA c0 c1
            go_wp2
            go_roundw
            case rel => exact ⟨k + 1, m + 1, _, rfl, by omega, HM1.out, by go_num, HOWN1.out, HB1.out⟩
            case measure => simp [intOf] <;> omega
          · have d2 : decide (t ≤ y) = false := decide_eq_false hy
            have hbe : betweenL x y (l.take (k + 1)) = betweenL x y (l.take k) := by rw [HBS.out, d1, d2]; rfl
            have HBE := (show Hid _ from hbe)
            clear hbe
            go_wp2
            go_roundw
            case rel => exact ⟨k + 1, m, v, rfl, by omega, by rw [HBE.out]; exact HM.out, by go_num, by rw [HBE.out, ← HW1.out]; exact HOWN.out, by rw [← HW1.out]; exact HBR.out⟩
            case measure => simp [intOf] <;> omega
        · have d1 : decide (x ≤ t) = false := decide_eq_false hx
          have hbe : betweenL x y (l.take (k + 1)) = betweenL x y (l.take k) := by rw [HBS.out, d1]; rfl
          have HBE := (show Hid _ from hbe)
          clear hbe
          go_wp2
          go_roundw
          case rel => exact ⟨k + 1, m, v, rfl, by omega, by rw [HBE.out]; exact HM.out, by go_num, by rw [HBE.out, ← HW1.out]; exact HOWN.out, by rw [← HW1.out]; exact HBR.out⟩
          case measure => simp [intOf] <;> omega
    · have hke : k = n := by omega
      subst hke
      have ht : l.take k = l := List.take_of_length_le (by have := HN.out; omega)
      rw [ht] at hm hown
      have HM := (show Hid _ from hm)
      have HOWN : Hid (wr.ownsRow w.heap.size 71 2 v m (pairCells (betweenL x y l))) := hown
      have HBR := (show Hid _ from hbr)
      clear hm hown hbr ht
      go_wp2
      go_ret
      exact ⟨v, rfl, by rw [← HM.out]; exact HOWN.out, HBR.out⟩
end Go.Proofs.YtdlceolmpcjjiaaGreatDoor
