/- The walk of BlockMakes. -/
import Derived.Test.YtijgolnbbaljlaaGreatDoorBlkSetsGroup
import Derived.Test.YtijgolnbbaljlaaGreatDoorBlkBk
import Derived.Test.YtijgolnbbaljlaaGreatDoorBlkHeadGroup
import Derived.Test.YtijgolnbbaljlaaGreatDoorBlkTxtR
import Derived.Test.YtijgolnbbaljlaaGreatDoorBlkTxtGroup
import Derived.Test.YtijgolnbbaljlaaGreatDoorLabFaultGroup
import Derived.Test.YtijgolnbbaljlaaGreatDoorMergesMain
namespace Go.Proofs.YtijgolnbbaljlaaGreatDoor
open Go.RowKit Go.Maps PtMath LabMath WalMath

/-- What is made of rows, or nothing beside a fault. -/
noncomputable def mP (f s : Int) (rows : List (List UInt8 × List (Int × Nat))) : Int := if mkC f s rows = 0 then f else 0
noncomputable def mQ (f s : Int) (rows : List (List UInt8 × List (Int × Nat))) : Int := if mkC f s rows = 0 then s else 0
noncomputable def mR (f s : Int) (rows : List (List UInt8 × List (Int × Nat))) : List (List UInt8 × List (Int × Nat)) := if mkC f s rows = 0 then full rows else []
theorem made_none (w : World) (b : Nat) : MadeAt w b [] (.slice none 0 0) (.slice none 0 0) := ⟨⟨rfl, .inl ⟨rfl, rfl⟩⟩, ⟨rfl, .inl ⟨rfl, rfl⟩⟩⟩
theorem make_both {ea : Nat → Addr} {w w' : World} {f s : Int} {rows : List (List UInt8 × List (Int × Nat))} {e : Ending} (h : MakeOut ea w w' f s rows e) : ∃ v u1 u2, e = .returned (.tuple #[.agg #[.int .i64 (mP f s rows), .int .i64 (mQ f s rows), u1, u2], v]) ∧ Below w.heap.size w w' ∧ FaultV ea w' v (mkC f s rows) (mkA f s rows) ∧ MadeAt w' w.heap.size (mR f s rows) u1 u2 := by
  obtain ⟨v, hb, hf, ⟨hz, u1, u2, rfl, o1, o2⟩ | ⟨hz, rfl⟩⟩ := h
  · refine ⟨v, u1, u2, ?_, hb, hf, ?_⟩
    · unfold mP mQ; rw [if_pos hz, if_pos hz]
    · unfold mR; rw [if_pos hz]; exact ⟨by rw [List.length_map]; exact o1, by rw [chks_len]; exact o2⟩
  · refine ⟨v, .slice none 0 0, .slice none 0 0, ?_, hb, hf, ?_⟩
    · unfold mP mQ; rw [if_neg hz, if_neg hz]
    · unfold mR; rw [if_neg hz]; exact made_none _ _
theorem mk_both {w w' : World} {f s : Int} {rows : List (List UInt8 × List (Int × Nat))} {e : Ending} (h : MkOut w w' f s rows e) : ∃ u1 u2, e = .returned (.tuple #[.agg #[.int .i64 (mP f s rows), .int .i64 (mQ f s rows), u1, u2], .agg #[.int .i64 (mkC f s rows), .int .i64 (mkA f s rows)]]) ∧ Below w.heap.size w w' ∧ MadeAt w' w.heap.size (mR f s rows) u1 u2 := by
  obtain ⟨hb, ⟨hz, u1, u2, rfl, o⟩ | ⟨hz, rfl⟩⟩ := h
  · refine ⟨u1, u2, ?_, hb, ?_⟩
    · unfold mP mQ; rw [if_pos hz, if_pos hz, hz, (well_mk (mk_well hz)).2]
    · unfold mR; rw [if_pos hz]; exact o
  · refine ⟨.slice none 0 0, .slice none 0 0, ?_, hb, ?_⟩
    · unfold mP mQ; rw [if_neg hz, if_neg hz]
    · unfold mR; rw [if_neg hz]; exact made_none _ _
theorem mR_len (f s : Int) (rows : List (List UInt8 × List (Int × Nat))) : (mR f s rows).length ≤ rows.length := by
  unfold mR
  split
  · exact List.length_filter_le ..
  · exact Nat.zero_le _
/-- Set.Of of a set that holds rows. -/
theorem setOf_rows (w : World) (sb : Nat) (rows : List (List UInt8 × List (Int × Nat))) (h : SetR w sb rows) (hu : (rows.map Prod.fst).Pairwise (· < ·)) (hn : rows.length ≤ 1000) (nm : ByteArray) :
    Calls Tryz.prog 23 #[.pointer (some ⟨sb, 0, none⟩), .string nm] w fun e w' => w' = w ∧ ∃ a c, e = .returned (.slice a (ofR rows nm.data.toList).length c) ∧ PtsL w a (ofR rows nm.data.toList) := by
  obtain ⟨a, c, b, d, h1, h2, h3⟩ := h.ex
  have hV : ∀ i, i < rows.length → ∃ A C, w.cell? ⟨(b.getD ⟨0, 0, none⟩).block, i, none⟩ = some (.slice A (rows.getD i ([], [])).2.length C) ∧ PtsL w A (rows.getD i ([], [])).2 := fun i hi => by
    obtain ⟨g, e, A, C, hc, hp⟩ := h3 i hi
    refine ⟨A, C, ?_, ?_⟩
    · rw [e]
      simpa [List.getD_eq_getElem?_getD, hi] using hc
    · simpa [List.getD_eq_getElem?_getD, hi] using hp
  have hset : SetV w sb rows.length (fun i => txt (rows.getD i ([], [])).1) (fun i => (w.cell? ⟨(b.getD ⟨0, 0, none⟩).block, i, none⟩).getD undef) := by
    refine ⟨⟨a, c, b, d, cells_of h1 0, cells_of h1 1, fun i hi => ⟨?_, ?_⟩⟩, fun i hi => ?_⟩
    · obtain ⟨g, e, hc⟩ := h2 i hi
      refine ⟨g, 0, e, ?_⟩
      rw [Nat.zero_add, hc]
      simp [List.getD_eq_getElem?_getD, hi, encStr, txt]
    · obtain ⟨g, e, A, C, hc, hp⟩ := h3 i hi
      refine ⟨g, 0, e, ?_⟩
      rw [Nat.zero_add, e]
      simp [hc]
    · obtain ⟨A, C, hc, _⟩ := hV i hi
      exact ⟨A, _, C, by rw [hc]; rfl⟩
  refine (setOf_any w sb rows.length _ _ hset (by omega) nm).mono ?_
  rintro e w' ⟨⟨i, hi, hx, _, rfl⟩ | ⟨hno, rfl⟩, rfl⟩
  · refine ⟨rfl, ?_⟩
    dsimp only at hx ⊢
    obtain ⟨A, C, hc, hp⟩ := hV i hi
    have hg : rows.getD i ([], []) = rows[i] := by simp [List.getD_eq_getElem?_getD, hi]
    rw [hg] at hc hp hx
    have ho : ofR rows nm.data.toList = rows[i].2 := by
      rw [← hx]
      exact ofR_up hu hi
    rw [ho]
    exact ⟨A, C, by rw [hc]; rfl, hp⟩
  · refine ⟨rfl, none, 0, ?_, ?_⟩
    all_goals
      have ho : ofR rows nm.data.toList = [] := by
        refine ofR_none fun j hj e => hno j hj ?_
        have hg : rows.getD j ([], []) = rows[j] := by simp [List.getD_eq_getElem?_getD, hj]
        show txt (rows.getD j ([], [])).1 = nm
        rw [hg, e]
        exact ba_back nm
      rw [ho]
    · rfl
    · exact .inl rfl
theorem ofR_all {Q : List (Int × Nat) → Prop} (h0 : Q []) : ∀ (l : List (List UInt8 × List (Int × Nat))) (k : List UInt8), (∀ r, r ∈ l → Q r.2) → Q (ofR l k)
  | [], _, _ => h0
  | r :: l, k, h => by
    rw [ofR]
    split
    · exact h r (by simp)
    · exact ofR_all h0 l k fun x hx => h x (by simp [hx])
/-- A block of the program's and one of the document's, and a fault, as they lie. -/
structure BothB (w : World) (bb wb : Nat) (p q : Int) (F : List (List UInt8 × List (Int × Nat))) (a1 : Option Addr) (c1 : Nat) (a2 : Option Addr) (c2 : Nat) (d1 : Option Addr) (e1 : Nat) (d2 : Option Addr) (e2 : Nat) (C A : Int) : Prop where
  b : w.heap[bb]? = some (.cells #[.int .i64 p, .int .i64 q, .slice a1 F.length c1, .slice a2 F.length c2] 25 (0, 0))
  d : w.heap[wb]? = some (.cells #[.int .i64 p, .int .i64 q, .slice d1 F.length e1, .slice d2 F.length e2] 30 (0, 0))
  f : w.heap[wb + 1]? = some (.cells #[.int .i64 C, .int .i64 A] 32 (0, 0))
  mb : ∃ x, MadeAt w x F (.slice a1 F.length c1) (.slice a2 F.length c2)
  md : ∃ x, MadeAt w x F (.slice d1 F.length e1) (.slice d2 F.length e2)
theorem BothB.below {w z : World} {bb wb : Nat} {p q : Int} {F : List (List UInt8 × List (Int × Nat))} {a1 : Option Addr} {c1 : Nat} {a2 : Option Addr} {c2 : Nat} {d1 : Option Addr} {e1 : Nat} {d2 : Option Addr} {e2 : Nat} {C A : Int} (h : BothB w bb wb p q F a1 c1 a2 c2 d1 e1 d2 e2 C A) (hb : Below w.heap.size w z) : BothB z bb wb p q F a1 c1 a2 c2 d1 e1 d2 e2 C A :=
  ⟨(hb.block _ (blk_lt h.b)).trans h.b, (hb.block _ (blk_lt h.d)).trans h.d, (hb.block _ (blk_lt h.f)).trans h.f, h.mb.imp fun _ h => h.below hb, h.md.imp fun _ h => h.below hb⟩
theorem BothB.cells {w' : World} {bb wb : Nat} {p q : Int} {F : List (List UInt8 × List (Int × Nat))} {a1 : Option Addr} {c1 : Nat} {a2 : Option Addr} {c2 : Nat} {d1 : Option Addr} {e1 : Nat} {d2 : Option Addr} {e2 : Nat} {C A : Int} (h : BothB w' bb wb p q F a1 c1 a2 c2 d1 e1 d2 e2 C A) {m : Nat} (hm : F.length = m) : (w'.cell? ⟨bb, 0, none⟩ = some (.int .i64 p) ∧ w'.cell? ⟨bb, 1, none⟩ = some (.int .i64 q) ∧ w'.cell? ⟨bb, 2, none⟩ = some (.slice a1 m c1) ∧ w'.cell? ⟨bb, 3, none⟩ = some (.slice a2 m c2) ∧ w'.cell? ⟨wb, 0, none⟩ = some (.int .i64 p) ∧ w'.cell? ⟨wb, 1, none⟩ = some (.int .i64 q) ∧ w'.cell? ⟨wb, 2, none⟩ = some (.slice d1 m e1) ∧ w'.cell? ⟨wb, 3, none⟩ = some (.slice d2 m e2) ∧ w'.cell? ⟨wb + 1, 0, none⟩ = some (.int .i64 C) ∧ w'.cell? ⟨wb + 1, 1, none⟩ = some (.int .i64 A)) :=  by
  subst hm
  exact ⟨cells_of h.b 0, cells_of h.b 1, cells_of h.b 2, cells_of h.b 3, cells_of h.d 0, cells_of h.d 1, cells_of h.d 2, cells_of h.d 3, cells_of h.f 0, cells_of h.f 1⟩

set_option maxRecDepth 1000000 in
set_option maxHeartbeats 8000000 in
theorem makes_main {B : Nat} {ea : Nat → Addr} (w : World) (E : EnvB B ea w) (hP10 : Lib.TabBelow Tryz.prog B w "internal/strconv.uint64pow10" .u64 Lib.pow10Tab) (hES : EnvS w) (hB : B ≤ w.heap.size) (mx : Int) (hM : w.cell? ⟨12, 0, none⟩ = some (.int .i64 mx)) (f s : Int) (la : Option Addr) (c : Nat) (rows : List (List UInt8 × List (Int × Nat))) (hP : RowsP w la rows) (hin : ∀ r, r ∈ rows → PtsIn r.2 ∧ (r.2.length : Int) ≤ 140737488355328 ∧ (r.1.length : Int) ≤ 140737488355328) (hn : (rows.length : Int) ≤ 9223372036854775807) (nm : ByteArray) (lo hi : Int) :
    Calls Tryz.prog 4 #[.int .i64 f, .int .i64 s, .slice la rows.length c, .string nm, .int .i64 lo, .int .i64 hi] w fun e w' => e = .returned (.bool true) ∧ Below w.heap.size w w' := by
  have HBL := (show Hid _ from blocked_any w E.k hB)
  have HE := (show Hid _ from E)
  have HPO : Hid (Lib.TabBelow Tryz.prog B w "internal/strconv.uint64pow10" .u64 Lib.pow10Tab) := hP10
  have HES := (show Hid _ from hES)
  have HMX : Hid (∀ z, Below w.heap.size w z → z.cell? ⟨12, 0, none⟩ = some (.int .i64 mx)) := fun z hz => (hz.cell (p := ⟨12, 0, none⟩) (World.block_lt_of_cell? w ⟨12, 0, none⟩ hM)).trans hM
  have HP : Hid (RowsP w la rows) := hP
  have HIN : Hid (∀ r, r ∈ rows → PtsIn r.2) := fun r hr => (hin r hr).1
  have HLG : Hid (∀ w', Below w.heap.size w w' → Calls Tryz.prog 14 #[.slice la rows.length c] w' fun e w2 => LongR w' w2 rows e) := fun w' h => llong_any w' la c rows (hP.below h) hn fun r hr => (hin r hr).2
  have HOW : Hid (∀ w', Below w.heap.size w w' → rows.length ≤ 1000 → (∀ r, r ∈ rows → r.2.length ≤ 1000) → Calls Tryz.prog 16 #[.slice la rows.length c] w' fun e w2 => ∃ v xs, e = .returned v ∧ Below w'.heap.size w' w2 ∧ w2.ownsRow w'.heap.size 61 2 v rows.length xs ∧ RowsC w2 w'.heap.size xs rows) := fun w' h h1 h2 => ownRows_any w' la c rows (hP.below h) h1 h2
  have HSR : Hid (∀ w', Below w.heap.size w w' → rows.length ≤ 1000 → Calls Tryz.prog 18 #[.slice la rows.length c] w' fun e w2 => e = .returned (.pointer (some ⟨w'.heap.size, 0, none⟩)) ∧ Below w'.heap.size w' w2 ∧ SetR w2 w'.heap.size rows) := fun w' h h1 => bkRows_any w' la c rows (hP.below h) h1
  obtain ⟨n, hnn⟩ : ∃ n, n = rows.length := ⟨_, rfl⟩
  have HN := (show Hid _ from hnn.symm)
  rw [← hnn] at HLG HOW HSR hn ⊢
  clear hP hin hnn E hP10 hES hM
  go_enter Tryz.func4, Tryz.ntmps4
  go_wp2_with fail
  refine Calls.mono HBL.out ?_
  rintro e w1 ⟨rfl, hb1⟩
  have HB1 := (show Hid _ from hb1)
  clear hb1 HBL
  dsimp only
  go_wp2_with fail
  refine Calls.mono (HLG.out w1 HB1.out) ?_
  rintro e w2 ⟨hw2, rfl | ⟨rfl, hl70, hlr⟩⟩
  · have hw2' := hw2
    subst hw2'
    clear HLG HOW HSR
    go_wp2
    go_ret
    exact ⟨rfl, HB1.out⟩
  · have hw2' := hw2
    subst hw2'
    by_cases h200 : 200 < nm.size
    · have d0 : decide ((200 : Int) < (nm.size : Int)) = true := decide_eq_true (by omega)
      clear HLG HOW HSR
      go_wp2
      go_ret
      exact ⟨rfl, HB1.out⟩
    have d0 : decide ((200 : Int) < (nm.size : Int)) = false := decide_eq_false (by omega)
    have HLR : Hid (∀ r, r ∈ rows → r.1.length ≤ 200 ∧ r.2.length ≤ 250) := hlr
    have HOW2 := (show Hid _ from HOW.out w2 HB1.out (by have := HN.out; omega) (fun r hr => by have := (hlr r hr).2; omega))
    have hn70 : n ≤ 70 := by have := HN.out; omega
    clear HLG HOW hlr hl70 h200
    dsimp only
    go_wp2_with fail
    refine Calls.mono HOW2.out ?_
    rintro e w3 ⟨v3, xs3, rfl, hb3, hown3, hrc3⟩
    have HB3 := (show Hid _ from HB1.out.trans (hb3.mono HB1.out.size))
    rw [← HN.out] at hown3
    obtain ⟨a3, c3, rfl, hP3⟩ := rowsP_of hown3 hrc3
    have hmk := blMake_any w3 (HE.out.k.below HB3.out hB) (Nat.le_trans hB HB3.out.size) f s a3 c3 rows hP3 (fun r hr => ⟨HIN.out r hr, by have := (HLR.out r hr).1; omega, by have := (HLR.out r hr).2; omega⟩) (by rw [HN.out]; omega)
    have HMK := (show Hid _ from hmk)
    rw [HN.out] at HMK ⊢
    clear hb3 hown3 hrc3 hP3 hmk HOW2
    dsimp only
    go_wp2_with fail
    refine Calls.mono HMK.out ?_
    intro e w4 hmo
    obtain ⟨v, u1, u2, rfl, hb4, hf4, hma⟩ := make_both hmo
    have HB4 := (show Hid _ from HB3.out.trans (hb4.mono HB3.out.size))
    obtain ⟨C, hC⟩ : ∃ C, C = mkC f s rows := ⟨_, rfl⟩
    obtain ⟨A, hA⟩ : ∃ A, A = mkA f s rows := ⟨_, rfl⟩
    obtain ⟨p, hp⟩ : ∃ p, p = mP f s rows := ⟨_, rfl⟩
    obtain ⟨q, hq⟩ : ∃ q, q = mQ f s rows := ⟨_, rfl⟩
    obtain ⟨F, hF⟩ : ∃ F, F = mR f s rows := ⟨_, rfl⟩
    have hFl : F.length ≤ 70 := by have := mR_len f s rows; have := HN.out; rw [hF]; omega
    have hC0 : 0 ≤ C := by rw [hC]; exact mkC_nonneg f s rows
    rw [← hp, ← hq]
    rw [← hF] at hma
    rw [← hC, ← hA] at hf4
    have HEQ := (show Hid _ from And.intro hC (And.intro hA (And.intro hp (And.intro hq hF))))
    obtain ⟨a1, c1, a2, c2, rfl, rfl, _⟩ := hma.names
    obtain ⟨m, hm⟩ : ∃ m, m = F.length := ⟨_, rfl⟩
    have HM := (show Hid _ from hm.symm)
    have HMA := (show Hid _ from hma)
    have HF4 : Hid (FaultV ea w4 v C A) := hf4
    rw [← hm] at hFl ⊢
    clear hmo hC hA hp hq hF hma hf4 hb4 HMK hm
    dsimp only
    go_upto_region 5 with fail
    obtain ⟨W5, hW5⟩ : ∃ W5, W5 = w4.alloc (.cells #[.int .i64 p, .int .i64 q, .slice a1 m c1, .slice a2 m c2] 25) := ⟨_, rfl⟩
    have hb5 : Below w4.heap.size w4 W5 := by rw [hW5]; exact (Below.refl _ _).alloc (Nat.le_refl _) _
    have hx5 : W5.heap[w4.heap.size]? = some (.cells #[.int .i64 p, .int .i64 q, .slice a1 m c1, .slice a2 m c2] 25 (0, 0)) := by rw [hW5]; exact heap_alloc_new _ _
    have HB5 := (show Hid _ from HB4.out.trans (hb5.mono HB4.out.size))
    have HX5 := (show Hid _ from And.intro hb5 hx5)
    have HS5 := (show Hid _ from HSR.out W5 HB5.out (by have := HN.out; omega))
    rw [← hW5]
    clear hW5 hb5 hx5 HSR
    go_wp2_with fail
    refine Calls.mono HS5.out ?_
    rintro e w6 ⟨rfl, hb6, hset6⟩
    have HB6 := (show Hid _ from HB5.out.trans (hb6.mono HB5.out.size))
    have HM6 := (show Hid _ from bkMake_any w6 W5.heap.size rows f s hset6 (by rw [HN.out]; omega) fun r hr => ⟨HIN.out r hr, by have := (HLR.out r hr).1; omega, by have := (HLR.out r hr).2; omega⟩)
    have HB56 := (show Hid _ from hb6)
    clear hb6 hset6 HS5
    dsimp only
    go_wp2_with fail
    refine Calls.mono HM6.out ?_
    intro e w7 hmo
    obtain ⟨y1, y2, rfl, hb7, hmd⟩ := mk_both hmo
    rw [← HEQ.out.1, ← HEQ.out.2.1, ← HEQ.out.2.2.1, ← HEQ.out.2.2.2.1]
    rw [← HEQ.out.2.2.2.2] at hmd
    obtain ⟨d1, e1, d2, e2, rfl, rfl, _⟩ := hmd.names
    have HB7 := (show Hid _ from HB6.out.trans (hb7.mono HB6.out.size))
    have HB57 := (show Hid _ from HB56.out.trans (hb7.mono HB56.out.size))
    have HMD := (show Hid _ from hmd)
    rw [HM.out]
    clear hmo hb7 hmd HM6
    dsimp only
    go_upto_region 6 with fail
    obtain ⟨W8, hW8⟩ : ∃ W8, W8 = (w7.alloc (.cells #[.int .i64 p, .int .i64 q, .slice d1 m e1, .slice d2 m e2] 30)).alloc (.cells #[.int .i64 C, .int .i64 A] 32) := ⟨_, rfl⟩
    have hs8 : (w7.alloc (.cells #[.int .i64 p, .int .i64 q, .slice d1 m e1, .slice d2 m e2] 30)).heap.size = w7.heap.size + 1 := by simp
    have hb8 : Below w7.heap.size w7 W8 := by rw [hW8]; exact ((Below.refl _ _).alloc (Nat.le_refl _) _).alloc (by simp) _
    have hBB : BothB W8 w4.heap.size w7.heap.size p q F a1 c1 a2 c2 d1 e1 d2 e2 C A := by
      have h58 := HB57.out.trans (hb8.mono HB57.out.size)
      refine ⟨?_, ?_, ?_, ⟨_, (HMA.out.below (HX5.out.1.trans (h58.mono HX5.out.1.size)))⟩, ⟨_, HMD.out.below hb8⟩⟩
      · rw [HM.out]
        exact (h58.block _ (blk_lt HX5.out.2)).trans HX5.out.2
      · rw [HM.out, hW8]
        exact (heap_alloc_old _ _ (by rw [hs8]; omega)).trans (heap_alloc_new _ _)
      · rw [hW8, ← hs8]
        exact heap_alloc_new _ _
    have HBB := (show Hid _ from hBB)
    have HB8 := (show Hid _ from HB7.out.trans (hb8.mono HB7.out.size))
    have HF8 : Hid (∀ z, Below W8.heap.size W8 z → FaultV ea z v C A) := fun z hz => HF4.out.below (HX5.out.1.trans ((HB57.out.trans ((hb8.trans (hz.mono hb8.size)).mono HB57.out.size)).mono HX5.out.1.size))
    have HCE : Hid (∀ w', Below W8.heap.size W8 w' → (w'.cell? ⟨w4.heap.size, 0, none⟩ = some (.int .i64 p) ∧ w'.cell? ⟨w4.heap.size, 1, none⟩ = some (.int .i64 q) ∧ w'.cell? ⟨w4.heap.size, 2, none⟩ = some (.slice a1 m c1) ∧ w'.cell? ⟨w4.heap.size, 3, none⟩ = some (.slice a2 m c2) ∧ w'.cell? ⟨w7.heap.size, 0, none⟩ = some (.int .i64 p) ∧ w'.cell? ⟨w7.heap.size, 1, none⟩ = some (.int .i64 q) ∧ w'.cell? ⟨w7.heap.size, 2, none⟩ = some (.slice d1 m e1) ∧ w'.cell? ⟨w7.heap.size, 3, none⟩ = some (.slice d2 m e2) ∧ w'.cell? ⟨w7.heap.size + 1, 0, none⟩ = some (.int .i64 C) ∧ w'.cell? ⟨w7.heap.size + 1, 1, none⟩ = some (.int .i64 A))) := fun z hz => (hBB.below hz).cells HM.out
    have HFA : Hid (∀ z, Below W8.heap.size W8 z → Calls Tryz.prog 10 #[v, .agg #[.int .i64 C, .int .i64 A]] z fun e w' => e = .returned (.bool true) ∧ (w'.cell? ⟨w4.heap.size, 0, none⟩ = some (.int .i64 p) ∧ w'.cell? ⟨w4.heap.size, 1, none⟩ = some (.int .i64 q) ∧ w'.cell? ⟨w4.heap.size, 2, none⟩ = some (.slice a1 m c1) ∧ w'.cell? ⟨w4.heap.size, 3, none⟩ = some (.slice a2 m c2) ∧ w'.cell? ⟨w7.heap.size, 0, none⟩ = some (.int .i64 p) ∧ w'.cell? ⟨w7.heap.size, 1, none⟩ = some (.int .i64 q) ∧ w'.cell? ⟨w7.heap.size, 2, none⟩ = some (.slice d1 m e1) ∧ w'.cell? ⟨w7.heap.size, 3, none⟩ = some (.slice d2 m e2) ∧ w'.cell? ⟨w7.heap.size + 1, 0, none⟩ = some (.int .i64 C) ∧ w'.cell? ⟨w7.heap.size + 1, 1, none⟩ = some (.int .i64 A)) ∧ Below W8.heap.size W8 w') := fun z hz => by
      have hbz := HB8.out.trans (hz.mono HB8.out.size)
      refine (faulted2_v z (HE.out.env.below hbz hB) (Nat.le_trans hB hbz.size) v C A (HF8.out z hz)).mono ?_
      rintro e w' ⟨rfl, hb⟩
      have hz' := hz.trans (hb.mono hz.size)
      exact ⟨rfl, HCE.out w' hz', hz'⟩
    have HAS : Hid (∀ z, Below W8.heap.size W8 z → Calls Tryz.prog 12 #[.agg #[.int .i64 p, .int .i64 q, .slice a1 m c1, .slice a2 m c2]] z fun e w' => e = .returned (.agg #[.int .i64 p, .int .i64 q, .slice a1 m c1, .slice a2 m c2]) ∧ (w'.cell? ⟨w4.heap.size, 0, none⟩ = some (.int .i64 p) ∧ w'.cell? ⟨w4.heap.size, 1, none⟩ = some (.int .i64 q) ∧ w'.cell? ⟨w4.heap.size, 2, none⟩ = some (.slice a1 m c1) ∧ w'.cell? ⟨w4.heap.size, 3, none⟩ = some (.slice a2 m c2) ∧ w'.cell? ⟨w7.heap.size, 0, none⟩ = some (.int .i64 p) ∧ w'.cell? ⟨w7.heap.size, 1, none⟩ = some (.int .i64 q) ∧ w'.cell? ⟨w7.heap.size, 2, none⟩ = some (.slice d1 m e1) ∧ w'.cell? ⟨w7.heap.size, 3, none⟩ = some (.slice d2 m e2) ∧ w'.cell? ⟨w7.heap.size + 1, 0, none⟩ = some (.int .i64 C) ∧ w'.cell? ⟨w7.heap.size + 1, 1, none⟩ = some (.int .i64 A)) ∧ Below W8.heap.size W8 w') := fun z hz => by
      refine (asModel_any z p q a1 a2 m c1 m c2).mono ?_
      rintro e w' ⟨rfl, hb⟩
      have hz' := hz.trans (hb.mono hz.size)
      exact ⟨rfl, HCE.out w' hz', hz'⟩
    have HSA : Hid (∀ z, Below W8.heap.size W8 z → Calls Tryz.prog 11 #[.agg #[.int .i64 p, .int .i64 q, .slice a1 m c1, .slice a2 m c2], .agg #[.int .i64 p, .int .i64 q, .slice d1 m e1, .slice d2 m e2]] z fun e w' => e = .returned (.bool true) ∧ (w'.cell? ⟨w4.heap.size, 0, none⟩ = some (.int .i64 p) ∧ w'.cell? ⟨w4.heap.size, 1, none⟩ = some (.int .i64 q) ∧ w'.cell? ⟨w4.heap.size, 2, none⟩ = some (.slice a1 m c1) ∧ w'.cell? ⟨w4.heap.size, 3, none⟩ = some (.slice a2 m c2) ∧ w'.cell? ⟨w7.heap.size, 0, none⟩ = some (.int .i64 p) ∧ w'.cell? ⟨w7.heap.size, 1, none⟩ = some (.int .i64 q) ∧ w'.cell? ⟨w7.heap.size, 2, none⟩ = some (.slice d1 m e1) ∧ w'.cell? ⟨w7.heap.size, 3, none⟩ = some (.slice d2 m e2) ∧ w'.cell? ⟨w7.heap.size + 1, 0, none⟩ = some (.int .i64 C) ∧ w'.cell? ⟨w7.heap.size + 1, 1, none⟩ = some (.int .i64 A)) ∧ Below W8.heap.size W8 w') := fun z hz => by
      have hz2 := hBB.below hz
      obtain ⟨_, hm1⟩ := hz2.mb
      obtain ⟨_, hm2⟩ := hz2.md
      have := made_same z (f := p) (s := q) (by rw [HM.out]; exact hFl) hm1 hm2
      rw [HM.out] at this
      refine this.mono ?_
      rintro e w' ⟨rfl, hb⟩
      have hz' := hz.trans (hb.mono hz.size)
      exact ⟨rfl, HCE.out w' hz', hz'⟩
    rw [← hW8]
    obtain ⟨x0, x1, x2, x3, x4, x5, x6, x7, x8, x9⟩ := HCE.out W8 (Below.refl _ _)
    have hdr : Below W8.heap.size W8 W8.drew := bel_drew (Below.refl _ _)
    have HSZ8 : Hid (w7.heap.size + 2 ≤ W8.heap.size) := by show _ ≤ _; rw [hW8]; simp
    clear hW8 hs8 hb8 hBB
    go_region_held3 (fun w' => (w'.cell? ⟨w4.heap.size, 0, none⟩ = some (.int .i64 p) ∧ w'.cell? ⟨w4.heap.size, 1, none⟩ = some (.int .i64 q) ∧ w'.cell? ⟨w4.heap.size, 2, none⟩ = some (.slice a1 m c1) ∧ w'.cell? ⟨w4.heap.size, 3, none⟩ = some (.slice a2 m c2) ∧ w'.cell? ⟨w7.heap.size, 0, none⟩ = some (.int .i64 p) ∧ w'.cell? ⟨w7.heap.size, 1, none⟩ = some (.int .i64 q) ∧ w'.cell? ⟨w7.heap.size, 2, none⟩ = some (.slice d1 m e1) ∧ w'.cell? ⟨w7.heap.size, 3, none⟩ = some (.slice d2 m e2) ∧ w'.cell? ⟨w7.heap.size + 1, 0, none⟩ = some (.int .i64 C) ∧ w'.cell? ⟨w7.heap.size + 1, 1, none⟩ = some (.int .i64 A))) (go_keep) ((first
      | (go_at_call 10; refine Calls.mono (HFA.out _ (by assumption)) ?_; rintro e w9 ⟨rfl, ⟨j0, j1, j2, j3, j4, j5, j6, j7, j8, j9⟩, k9⟩)
      | (go_at_call 12; refine Calls.mono (HAS.out _ (by assumption)) ?_; rintro e w10 ⟨rfl, ⟨j0, j1, j2, j3, j4, j5, j6, j7, j8, j9⟩, k10⟩)
      | (go_at_call 11; refine Calls.mono (HSA.out _ (by assumption)) ?_; rintro e w11 ⟨rfl, ⟨j0, j1, j2, j3, j4, j5, j6, j7, j8, j9⟩, k11⟩)))
    have HB11 := (show Hid _ from HB8.out.trans (k11.mono HB8.out.size))
    have HBB11 := (show Hid _ from HBB.out.below k11)
    have HK11 := (show Hid _ from k11)
    clear j0 j1 j2 j3 j4 j5 j6 j7 j8 j9 k11 k9 k10 x0 x1 x2 x3 x4 x5 x6 x7 x8 x9 hdr HFA HAS HSA
    obtain ⟨x0, x1, x2, x3, x4, x5, x6, x7, x8, x9⟩ := HCE.out w11 HK11.out
    by_cases hz : C = 0
    · subst hz
      have hmk0 : mkC f s rows = 0 := HEQ.out.1.symm
      have hpf : p = f := by rw [HEQ.out.2.2.1]; unfold mP; rw [if_pos hmk0]
      have hqs : q = s := by rw [HEQ.out.2.2.2.1]; unfold mQ; rw [if_pos hmk0]
      have hFr : F = full rows := by rw [HEQ.out.2.2.2.2]; unfold mR; rw [if_pos hmk0]
      have hmb : MadeB f s F := by rw [hFr]; exact made_of hmk0 HIN.out
      have hFn : ∀ r, r ∈ F → r.1.length ≤ 200 := fun r hr => (HLR.out r (full_mem (hFr ▸ hr)).1).1
      subst hpf hqs
      have HMB := (show Hid _ from hmb)
      have HFN : Hid (∀ r, r ∈ F → r.1.length ≤ 200) := hFn
      have HOP : Hid (PtsIn (betweenL lo hi (ofR F nm.data.toList)) ∧ (betweenL lo hi (ofR F nm.data.toList)).length ≤ 120 ∧ (ofR F nm.data.toList).length ≤ 120) := by
        have h1 : PtsIn (ofR F nm.data.toList) ∧ (ofR F nm.data.toList).length ≤ 120 := ofR_all (Q := fun l => PtsIn l ∧ l.length ≤ 120) ⟨fun p hp => (by cases hp), Nat.zero_le _⟩ F _ fun r hr => ⟨hmb.bits r hr, (ptsC_zero (hmb.well.each r hr).2.1).1⟩
        have h2 := betweenL_len lo hi (ofR F nm.data.toList)
        exact ⟨fun x hx => h1.1 x (List.mem_filter.1 hx).1, by omega, h1.2⟩
      have HPT : Hid (Calls Tryz.prog 19 #[.agg #[.int .i64 p, .int .i64 q, .slice a1 m c1, .slice a2 m c2], .string nm, .int .i64 lo, .int .i64 hi] w11 fun e w' => ∃ x, e = .returned (.tuple #[x, .nilIface]) ∧ Below w11.heap.size w11 w' ∧ w'.ownsRow w11.heap.size 71 2 x (betweenL lo hi (ofR F nm.data.toList)).length (pairCells (betweenL lo hi (ofR F nm.data.toList)))) := by
        obtain ⟨_, hm1⟩ := HBB11.out.mb
        have := made_points w11 (HE.out.k.below HB11.out hB) (Nat.le_trans hB HB11.out.size) hmb (by rw [HM.out]; exact hFl) hFn hm1 nm lo hi
        rw [HM.out] at this
        exact this
      clear hmk0 hmb hFn hFr
      go_wp2_with fail
      refine Calls.mono HPT.out ?_
      rintro e w12 ⟨x, rfl, hb12, ho12⟩
      have HK12 := (show Hid _ from HK11.out.trans (hb12.mono HK11.out.size))
      have HB12 := (show Hid _ from HB11.out.trans (hb12.mono HB11.out.size))
      obtain ⟨a12, c12, rfl, _, hp12, _⟩ := own_pairs ho12
      obtain ⟨nb, hnb⟩ : ∃ nb, nb = (betweenL lo hi (ofR F nm.data.toList)).length := ⟨_, rfl⟩
      have HPL : Hid (PtsL w12 a12 (betweenL lo hi (ofR F nm.data.toList))) := hp12
      have HNB := (show Hid _ from hnb.symm)
      rw [← hnb]
      have HSO : Hid (Calls Tryz.prog 20 #[.agg #[.int .i64 p, .int .i64 q, .slice d1 m e1, .slice d2 m e2]] w12 fun e w' => ∃ sb, e = .returned (.tuple #[.pointer (some ⟨sb, 0, none⟩), .agg #[.int .i64 0, .int .i64 (-1)]]) ∧ Below w12.heap.size w12 w' ∧ SetR w' sb F) := by
        obtain ⟨_, hm2⟩ := (HBB11.out.below hb12).md
        obtain ⟨hbz, hba, hbr⟩ := HMB.out.bk
        have := bkSetOf_any w12 p q _ _ _ _ (F.map Prod.fst) (chks F) hm2.o1 hm2.o2 (fun x hx => by obtain ⟨r, hr, rfl⟩ := List.mem_map.1 hx; have := HFN.out r hr; omega) HMB.out.chunks (by rw [List.length_map, HM.out]; omega) (by rw [chks_len, HM.out]; omega)
        rw [HM.out] at this
        refine this.mono ?_
        rintro e w' ⟨hb, ⟨_, sb, rfl, hs⟩ | ⟨hne, _⟩⟩
        · rw [hbr] at hs
          exact ⟨sb, rfl, hb, hs⟩
        · exact absurd hbz hne
      clear x0 x1 x2 x3 x4 x5 x6 x7 x8 x9 hb12 ho12 hp12 hnb HPT
      obtain ⟨x0, x1, x2, x3, x4, x5, x6, x7, x8, x9⟩ := HCE.out w12 HK12.out
      dsimp only
      go_wp2_with fail
      refine Calls.mono HSO.out ?_
      rintro e w13 ⟨sb, rfl, hb13, hset⟩
      have HK13 := (show Hid _ from HK12.out.trans (hb13.mono HK12.out.size))
      have HP13 : Hid (PtsL w13 a12 (betweenL lo hi (ofR F nm.data.toList))) := PtsL.below HPL.out hb13
      have HSE := (show Hid _ from hset)
      clear x0 x1 x2 x3 x4 x5 x6 x7 x8 x9 hb13 hset HSO
      dsimp only
      go_upto_region 12 with fail
      obtain ⟨W14, hW14⟩ : ∃ W14, W14 = w13.alloc (.cells #[.int .i64 0, .int .i64 (-1)] 32) := ⟨_, rfl⟩
      have hb14 : Below w13.heap.size w13 W14 := by rw [hW14]; exact (Below.refl _ _).alloc (Nat.le_refl _) _
      rw [← hW14]
      have HK14 := (show Hid _ from HK13.out.trans (hb14.mono HK13.out.size))
      have HP14 : Hid (PtsL W14 a12 (betweenL lo hi (ofR F nm.data.toList))) := PtsL.below HP13.out hb14
      have HOF := (show Hid _ from setOf_rows W14 sb F (HSE.out.below hb14) HMB.out.well.up (by rw [HM.out]; omega) nm)
      clear hW14 hb14
      go_wp2_with fail
      refine Calls.mono HOF.out ?_
      rintro e w15 ⟨hw15, ao, co, rfl, hpo⟩
      have hw15' := hw15
      subst hw15'
      have HBT := (show Hid _ from between_any w15 ao co (ofR F nm.data.toList) lo hi hpo (by have := HOP.out.2.2; omega))
      clear HOF hpo hw15
      obtain ⟨no, hno⟩ : ∃ no, no = (ofR F nm.data.toList).length := ⟨_, rfl⟩
      rw [← hno] at HBT ⊢
      clear hno
      dsimp only
      go_wp2_with fail
      refine Calls.mono HBT.out ?_
      rintro e w16 ⟨v16, rfl, ho16, hb16⟩
      obtain ⟨a16, c16, rfl, _, hp16, _⟩ := own_pairs ho16
      have HSP := (show Hid _ from same_list w16 a12 a16 c12 c16 _ (PtsL.below HP14.out hb16) hp16 HOP.out.1 (by have := HOP.out.2.1; omega))
      rw [HNB.out] at HSP ⊢
      have HK16 := (show Hid _ from HK14.out.trans (hb16.mono HK14.out.size))
      clear HBT ho16 hp16 hb16
      dsimp only
      go_wp2_with fail
      refine Calls.mono HSP.out ?_
      rintro e w17 ⟨rfl, hb17⟩
      have HK17 := (show Hid _ from HK16.out.trans (hb17.mono HK16.out.size))
      have hbw17 := HB8.out.trans (HK17.out.mono HB8.out.size)
      have HBW17 := (show Hid _ from hbw17)
      obtain ⟨tx, htx⟩ : ∃ tx : ByteArray, tx = txt (textB p q (F.map Prod.fst) (chks F)) := ⟨_, rfl⟩
      have HTX : Hid (Calls Tryz.prog 13 #[.agg #[.int .i64 p, .int .i64 q, .slice a1 m c1, .slice a2 m c2]] w17 fun e w' => e = .returned (.tuple #[.string tx, .nilIface]) ∧ Below w17.heap.size w17 w') := by
        obtain ⟨_, hm1⟩ := (HBB.out.below HK17.out).mb
        obtain ⟨hbz, hba, hbr⟩ := HMB.out.bk
        have := blText_any w17 ⟨HE.out.k.below hbw17 hB, HPO.out.on (hbw17.mono hB)⟩ (Nat.le_trans hB hbw17.size) p q _ _ _ _ (F.map Prod.fst) (chks F) hm1.o1 hm1.o2 (fun x hx => by obtain ⟨r, hr, rfl⟩ := List.mem_map.1 hx; have := HFN.out r hr; omega) HMB.out.chunks (by rw [List.length_map, HM.out]; omega) (by rw [chks_len, HM.out]; omega)
        rw [HM.out] at this
        refine this.mono ?_
        rintro e w' ⟨x, v, rfl, hb, hf, hx⟩
        have hv := hf.none hbz
        subst hv
        rw [hx hbz, htx]
        exact ⟨rfl, hb⟩
      have HTR : Hid (∀ z, Below W8.heap.size W8 z → Calls Tryz.prog 24 #[.agg #[.int .i64 p, .int .i64 q, .slice d1 m e1, .slice d2 m e2]] z fun e w' => e = .returned (.string tx) ∧ Below z.heap.size z w') := fun z hz => by
        obtain ⟨_, hm2⟩ := (HBB.out.below hz).md
        have := bkText_any z p q HMB.out.well.bd _ _ _ _ (F.map Prod.fst) (chks F) hm2.o1 hm2.o2 (by rw [chks_len, List.length_map]) (by rw [List.length_map]; exact HMB.out.well.len) (fun x hx => by obtain ⟨r, hr, rfl⟩ := List.mem_map.1 hx; have := HFN.out r hr; omega) HMB.out.chunks
        rw [HM.out] at this
        refine this.mono ?_
        rintro e w' ⟨rfl, hb⟩
        exact ⟨by rw [htx], hb⟩
      have HTE := (show Hid _ from htx)
      obtain ⟨x0, x1, x2, x3, x4, x5, x6, x7, x8, x9⟩ := HCE.out w17 HK17.out
      clear HSP hb17 hbw17 htx
      dsimp only
      go_wp2_with fail
      refine Calls.mono HTX.out ?_
      rintro e w18 ⟨rfl, hb18⟩
      have HK18 := (show Hid _ from HK17.out.trans (hb18.mono HK17.out.size))
      clear x0 x1 x2 x3 x4 x5 x6 x7 x8 x9 hb18 HTX
      obtain ⟨x0, x1, x2, x3, x4, x5, x6, x7, x8, x9⟩ := HCE.out w18 HK18.out
      have hte : (tx.toList == tx.toList) = true := by simp
      dsimp only
      go_wp2_with fail
      refine Calls.mono (HTR.out w18 HK18.out) ?_
      rintro e w19 ⟨rfl, hb19⟩
      have HK19 := (show Hid _ from HK18.out.trans (hb19.mono HK18.out.size))
      have HB19 := (show Hid _ from HB8.out.trans (HK19.out.mono HB8.out.size))
      clear x0 x1 x2 x3 x4 x5 x6 x7 x8 x9 hb19 HTR
      have hll : (chks F).length = (F.map Prod.fst).length := by rw [chks_len, List.length_map]
      have htl : tx.size ≤ 10000000 := by
        rw [HTE.out, txt_size]
        have h1 := textK_len p q (F.map Prod.fst) (chks F) hll (fun x hx => by obtain ⟨r, hr, rfl⟩ := List.mem_map.1 hx; have := HFN.out r hr; omega) HMB.out.chunks (F.map Prod.fst).length (Nat.le_refl _)
        obtain ⟨b1, b2, b3, b4⟩ := bdE_zero HMB.out.well.bd
        have h2 := headL_len p q (F.map Prod.fst).length b3 b4 b1 b2 (by rw [List.length_map]; exact HMB.out.well.len)
        have h3 : (F.map Prod.fst).length ≤ 60 := by rw [List.length_map]; exact HMB.out.well.len
        unfold textB
        have h4 : (F.map Prod.fst).length * 21002 ≤ 60 * 21002 := Nat.mul_le_mul_right _ h3
        omega
      by_cases hlong : 20000 < tx.size
      · have d9 : decide ((20000 : Int) < (tx.size : Int)) = true := decide_eq_true (by omega)
        have HRD := (show Hid _ from blRead_long tx hlong (by omega) w19 (HE.out.k.below HB19.out hB))
        have HRC : Hid (rdC tx.data.toList = 2 ∧ rdA tx.data.toList = -1) := by
          have : 20000 < tx.data.toList.length := by rw [ba_len]; exact hlong
          unfold rdC rdA
          rw [if_pos this, if_pos this]
          exact ⟨rfl, rfl⟩
        clear hlong hll htl
        dsimp only
        go_wp2_with fail
        refine Calls.mono HRD.out ?_
        rintro e w20 ⟨v20, hb20, hf20, ⟨hz20, _⟩ | ⟨hz20, rfl⟩⟩
        · rw [HRC.out.1] at hz20
          cases hz20
        · rw [HRC.out.1, HRC.out.2] at hf20
          obtain ⟨W21, hW21⟩ : ∃ W21, W21 = w20.alloc (.cells #[.int .i64 0, .int .i64 0, .slice none 0 0, .slice none 0 0] 25) := ⟨_, rfl⟩
          have hb21 : Below w20.heap.size w20 W21 := by rw [hW21]; exact (Below.refl _ _).alloc (Nat.le_refl _) _
          have hb1921 := hb20.trans (hb21.mono hb20.size)
          have hbw := HB19.out.trans (hb1921.mono HB19.out.size)
          have HCD := (show Hid _ from coded2_v W21 (HE.out.env.below hbw hB) (Nat.le_trans hB hbw.size) v20 2 (FaultV.below hf20 hb21) (by decide))
          have HBW := (show Hid _ from hbw)
          have HW21 : Hid (∀ wx, wx = w20.alloc (.cells #[.int .i64 0, .int .i64 0, .slice none 0 0, .slice none 0 0] 25) → wx = W21) := fun wx h => h.trans hW21.symm
          clear hW21 hb21 hb1921 hbw hf20 hb20 hz20 HRD
          dsimp only
          go_wp2_with fail
          rw [HW21.out _ rfl]
          refine Calls.mono HCD.out ?_
          rintro e w22 ⟨rfl, hb22⟩
          have HB22 := (show Hid _ from HBW.out.trans (hb22.mono HBW.out.size))
          clear hb22
          dsimp only
          go_wp2
          go_ret
          exact ⟨rfl, HB22.out⟩
      · have d9 : decide ((20000 : Int) < (tx.size : Int)) = false := decide_eq_false (by omega)
        have HRD := (show Hid _ from blRead_any tx (by omega) w19 ⟨HE.out.k.below HB19.out hB, HPO.out.on (HB19.out.mono hB)⟩ (HES.out.below HB19.out HES.out.lt) (Nat.le_trans hB HB19.out.size) mx (HMX.out w19 HB19.out))
        obtain ⟨b1, b2, b3, b4⟩ := bdE_zero HMB.out.well.bd
        have hpar : parP tx.data.toList = some (p, q, F.map Prod.fst, chks F) := by
          rw [HTE.out]
          have h3 : (F.map Prod.fst).length ≤ 60 := by rw [List.length_map]; exact HMB.out.well.len
          refine par_text (itoa_numV p b3 b4) (itoa_numV q (by omega) (by omega)) (itoa_numV _ (by omega) (by omega)) hll fun x hx => ?_
          obtain ⟨r, hr, rfl⟩ := List.mem_map.1 hx
          exact lab_signs _ (HMB.out.well.each r hr).1
        have HRC : Hid (rdC tx.data.toList = 0) := by
          have : ¬ 20000 < tx.data.toList.length := by rw [ba_len]; exact hlong
          show _ = _
          unfold rdC
          rw [if_neg this, hpar]
          exact HMB.out.bk.1
        have HPAR := (show Hid _ from hpar)
        clear hlong hll htl hpar b1 b2 b3 b4
        dsimp only
        go_wp2_with fail
        refine Calls.mono HRD.out ?_
        rintro e w20 ⟨v20, hb20, hf20, ⟨_, f', s', ss', cs', u1, u2, hpr, rfl, o1, o2⟩ | ⟨hz20, _⟩⟩
        · have hv := hf20.none HRC.out
          subst hv
          rw [HPAR.out] at hpr
          simp only [Option.some.injEq, Prod.mk.injEq] at hpr
          obtain ⟨rfl, rfl, rfl, rfl⟩ := hpr
          have hm20 : MadeAt w20 w19.heap.size F u1 u2 := ⟨o1, o2⟩
          obtain ⟨g1, h1, g2, h2, rfl, rfl, _⟩ := hm20.names
          rw [HM.out] at hm20 ⊢
          have HM20 := (show Hid _ from hm20)
          obtain ⟨W21, hW21⟩ : ∃ W21, W21 = w20.alloc (.cells #[.int .i64 p, .int .i64 q, .slice g1 m h1, .slice g2 m h2] 25) := ⟨_, rfl⟩
          have hb21 : Below w20.heap.size w20 W21 := by rw [hW21]; exact (Below.refl _ _).alloc (Nat.le_refl _) _
          have hx21 : W21.heap[w20.heap.size]? = some (.cells #[.int .i64 p, .int .i64 q, .slice g1 m h1, .slice g2 m h2] 25 (0, 0)) := by rw [hW21]; exact heap_alloc_new _ _
          have hk21 := HK19.out.trans ((hb20.trans (hb21.mono hb20.size)).mono HK19.out.size)
          have HK21 := (show Hid _ from hk21)
          have HB21 := (show Hid _ from HB8.out.trans (hk21.mono HB8.out.size))
          have HC2 : Hid (∀ w', Below W21.heap.size W21 w' → (w'.cell? ⟨w20.heap.size, 0, none⟩ = some (.int .i64 p) ∧ w'.cell? ⟨w20.heap.size, 1, none⟩ = some (.int .i64 q) ∧ w'.cell? ⟨w20.heap.size, 2, none⟩ = some (.slice g1 m h1) ∧ w'.cell? ⟨w20.heap.size, 3, none⟩ = some (.slice g2 m h2) ∧ w'.cell? ⟨w7.heap.size, 0, none⟩ = some (.int .i64 p) ∧ w'.cell? ⟨w7.heap.size, 1, none⟩ = some (.int .i64 q) ∧ w'.cell? ⟨w7.heap.size, 2, none⟩ = some (.slice d1 m e1) ∧ w'.cell? ⟨w7.heap.size, 3, none⟩ = some (.slice d2 m e2))) := fun z hz => by
            have q1 := (hz.block _ (blk_lt hx21)).trans hx21
            obtain ⟨_, _, _, _, y4, y5, y6, y7, _, _⟩ := HCE.out z (hk21.trans (hz.mono hk21.size))
            exact ⟨cells_of q1 0, cells_of q1 1, cells_of q1 2, cells_of q1 3, y4, y5, y6, y7⟩
          have HAS : Hid (∀ z, Below W21.heap.size W21 z → Calls Tryz.prog 12 #[.agg #[.int .i64 p, .int .i64 q, .slice g1 m h1, .slice g2 m h2]] z fun e w' => e = .returned (.agg #[.int .i64 p, .int .i64 q, .slice g1 m h1, .slice g2 m h2]) ∧ (w'.cell? ⟨w20.heap.size, 0, none⟩ = some (.int .i64 p) ∧ w'.cell? ⟨w20.heap.size, 1, none⟩ = some (.int .i64 q) ∧ w'.cell? ⟨w20.heap.size, 2, none⟩ = some (.slice g1 m h1) ∧ w'.cell? ⟨w20.heap.size, 3, none⟩ = some (.slice g2 m h2) ∧ w'.cell? ⟨w7.heap.size, 0, none⟩ = some (.int .i64 p) ∧ w'.cell? ⟨w7.heap.size, 1, none⟩ = some (.int .i64 q) ∧ w'.cell? ⟨w7.heap.size, 2, none⟩ = some (.slice d1 m e1) ∧ w'.cell? ⟨w7.heap.size, 3, none⟩ = some (.slice d2 m e2)) ∧ Below W21.heap.size W21 w') := fun z hz => by
            refine (asModel_any z p q g1 g2 m h1 m h2).mono ?_
            rintro e w' ⟨rfl, hb⟩
            have hz' := hz.trans (hb.mono hz.size)
            exact ⟨rfl, HC2.out w' hz', hz'⟩
          have HSA : Hid (∀ z, Below W21.heap.size W21 z → Calls Tryz.prog 11 #[.agg #[.int .i64 p, .int .i64 q, .slice g1 m h1, .slice g2 m h2], .agg #[.int .i64 p, .int .i64 q, .slice d1 m e1, .slice d2 m e2]] z fun e w' => e = .returned (.bool true) ∧ (w'.cell? ⟨w20.heap.size, 0, none⟩ = some (.int .i64 p) ∧ w'.cell? ⟨w20.heap.size, 1, none⟩ = some (.int .i64 q) ∧ w'.cell? ⟨w20.heap.size, 2, none⟩ = some (.slice g1 m h1) ∧ w'.cell? ⟨w20.heap.size, 3, none⟩ = some (.slice g2 m h2) ∧ w'.cell? ⟨w7.heap.size, 0, none⟩ = some (.int .i64 p) ∧ w'.cell? ⟨w7.heap.size, 1, none⟩ = some (.int .i64 q) ∧ w'.cell? ⟨w7.heap.size, 2, none⟩ = some (.slice d1 m e1) ∧ w'.cell? ⟨w7.heap.size, 3, none⟩ = some (.slice d2 m e2)) ∧ Below W21.heap.size W21 w') := fun z hz => by
            obtain ⟨_, hm2⟩ := (HBB.out.below (hk21.trans (hz.mono hk21.size))).md
            rw [HM.out] at hm2
            have := made_same z (f := p) (s := q) (by rw [HM.out]; exact hFl) (hm20.below (hb21.trans (hz.mono hb21.size))) hm2
            refine this.mono ?_
            rintro e w' ⟨rfl, hb⟩
            have hz' := hz.trans (hb.mono hz.size)
            exact ⟨rfl, HC2.out w' hz', hz'⟩
          have HW21 : Hid (∀ wx, wx = w20.alloc (.cells #[.int .i64 p, .int .i64 q, .slice g1 m h1, .slice g2 m h2] 25) → wx = W21) := fun wx h => h.trans hW21.symm
          obtain ⟨x0, x1, x2, x3, x4, x5, x6, x7⟩ := HC2.out W21 (Below.refl _ _)
          have hdr : Below W21.heap.size W21 W21.drew := bel_drew (Below.refl _ _)
          clear hW21 hb21 hx21 hk21 hm20 hf20 hb20 o1 o2 HRD
          dsimp only
          go_upto_region 20 with fail
          rw [HW21.out _ rfl]
          go_region_held3 (fun w' => (w'.cell? ⟨w20.heap.size, 0, none⟩ = some (.int .i64 p) ∧ w'.cell? ⟨w20.heap.size, 1, none⟩ = some (.int .i64 q) ∧ w'.cell? ⟨w20.heap.size, 2, none⟩ = some (.slice g1 m h1) ∧ w'.cell? ⟨w20.heap.size, 3, none⟩ = some (.slice g2 m h2) ∧ w'.cell? ⟨w7.heap.size, 0, none⟩ = some (.int .i64 p) ∧ w'.cell? ⟨w7.heap.size, 1, none⟩ = some (.int .i64 q) ∧ w'.cell? ⟨w7.heap.size, 2, none⟩ = some (.slice d1 m e1) ∧ w'.cell? ⟨w7.heap.size, 3, none⟩ = some (.slice d2 m e2))) (go_keep) ((first
            | (go_at_call 12; refine Calls.mono (HAS.out _ (by assumption)) ?_; rintro e w22 ⟨rfl, ⟨j0, j1, j2, j3, j4, j5, j6, j7⟩, k22⟩)
            | (go_at_call 11; refine Calls.mono (HSA.out _ (by assumption)) ?_; rintro e w23 ⟨rfl, ⟨j0, j1, j2, j3, j4, j5, j6, j7⟩, k23⟩)))
          have HB23 := (show Hid _ from HB21.out.trans (k23.mono HB21.out.size))
          clear j0 j1 j2 j3 j4 j5 j6 j7 k22 k23
          go_wp2
          go_ret
          exact ⟨rfl, HB23.out⟩
        · exact absurd HRC.out hz20
    · have hpos : decide (0 < C) = true := decide_eq_true (by omega)
      clear hz
      go_wp2
      go_ret
      exact ⟨rfl, HB11.out⟩
end Go.Proofs.YtijgolnbbaljlaaGreatDoor
