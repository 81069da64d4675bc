/- block's Text by its contract. -/
import Derived.Test.YtijgolnbbaljlaaGreatDoorBlkTwoGroup
import Derived.Test.YtijgolnbbaljlaaGreatDoorWalMathGroup
import Derived.Test.YtijgolnbbaljlaaGreatDoorStrLib
import Derived.Lib.AppendIntMem
import Derived.Deep.RegionHeld3
import Derived.Test.YtijgolnbbaljlaaGreatDoorErrAsGroup
import Derived.Lib.AtoiAllCases
import Derived.Test.YtijgolnbbaljlaaGreatDoorLabCutGroup
import Derived.Test.YtijgolnbbaljlaaGreatDoorBlkCutSGroup
namespace Go.Proofs.YtijgolnbbaljlaaGreatDoor
open Go.RowKit Go.Maps PtMath LabMath WalMath

/-- The first line of a block's text; the line of a series; the text. -/
def headL (f s : Int) (n : Nat) : List UInt8 := [98, 108, 111, 99, 107, 32] ++ Lib.itoa f ++ [32] ++ Lib.itoa s ++ [32] ++ Lib.itoa (n : Int) ++ [10]
def lineL (nm c : List UInt8) : List UInt8 := nm ++ [32] ++ hexTo c c.length ++ [10]
def textK (f s : Int) (ss cs : List (List UInt8)) (k : Nat) : List UInt8 := headL f s ss.length ++ ((ss.zip cs).take k).flatMap fun p => lineL p.1 p.2
def textB (f s : Int) (ss cs : List (List UInt8)) : List UInt8 := textK f s ss cs ss.length
theorem headL_len (f s : Int) (n : Nat) (h1 : -1099511627776 ≤ f) (h2 : f ≤ 1099511627776) (h3 : 1 ≤ s) (h4 : s ≤ 100000) (h5 : n ≤ 60) : (headL f s n).length ≤ 60 := by
  have a := itoa_len f h1 h2
  have b := itoa_len s (by omega) (by omega)
  have c := itoa_len (n : Int) (by omega) (by omega)
  simp [headL]
  omega
theorem lineL_len (nm c : List UInt8) : (lineL nm c).length = nm.length + 2 * c.length + 2 := by
  have := hexTo_len c c.length (Nat.le_refl _)
  simp [lineL, this]
  omega
theorem textK_succ (f s : Int) (ss cs : List (List UInt8)) (k : Nat) (h1 : k < ss.length) (h2 : k < cs.length) : textK f s ss cs (k + 1) = textK f s ss cs k ++ lineL ss[k] cs[k] := by
  unfold textK
  rw [List.take_succ_eq_append_getElem (by simp; omega), List.flatMap_append, ← List.append_assoc]
  simp
theorem textK_len (f s : Int) (ss cs : List (List UInt8)) (hl : cs.length = ss.length) (hss : ∀ x, x ∈ ss → x.length ≤ 1000) (hcs : ∀ x, x ∈ cs → x.length ≤ 10000) : ∀ k, k ≤ ss.length → (textK f s ss cs k).length ≤ (headL f s ss.length).length + k * 21002
  | 0, _ => by simp [textK]
  | k + 1, h => by
    have ih := textK_len f s ss cs hl hss hcs k (by omega)
    have a := hss _ (List.getElem_mem (show k < ss.length by omega))
    have b := hcs _ (List.getElem_mem (show k < cs.length by omega))
    rw [textK_succ f s ss cs k (by omega) (by omega), List.length_append, lineL_len]
    omega
theorem builder_below {B b : Nat} {bs : List Value} {w z : World} (h : Lib.IsBuilder 86 5 B b bs w) (hb : Below w.heap.size w z) : Lib.IsBuilder 86 5 B b bs z := by
  have key : ∀ p, Lib.BuilderAt 86 5 B b p bs w → Lib.BuilderAt 86 5 B b p bs z := by
    rintro p ⟨hB, v, hk, hown, hne⟩
    exact ⟨hB, v, (hb.block b (blk_lt hk)).trans hk, own_bel3 hown hb, hne⟩
  rcases h with h | h
  · exact .inl (key _ h)
  · exact .inr (key _ h)
/-- What Text reads of the package variables. -/
structure EnvT (B : Nat) (ea : Nat → Addr) (w : World) : Prop where
  k : EnvK B ea w
  pow : Lib.TabBelow Tryz.prog B w "internal/strconv.uint64pow10" .u64 Lib.pow10Tab
theorem EnvT.below {B : Nat} {ea : Nat → Addr} {w w' : World} (E : EnvT B ea w) {B' : Nat} (h : Below B' w w') (hB : B ≤ B') : EnvT B ea w' := ⟨E.k.below h hB, E.pow.on (h.mono hB)⟩
theorem bel_dr {b : Nat} {w z : World} (h : Below b w z) : Below b w z.drew := h.trans ⟨rfl, rfl, rfl, Nat.le_refl _, fun _ _ => rfl⟩
/-- A builder that is empty. -/
def IsB0 (b : Nat) (z : World) : Prop := Lib.IsBuilder 86 5 b b (Lib.byteCells []) z
/-- What Text answers. -/
def TextOut (ea : Nat → Addr) (w w' : World) (f s : Int) (ss cs : List (List UInt8)) (e : Ending) : Prop :=
  ∃ x v, e = .returned (.tuple #[.string x, v]) ∧ Below w.heap.size w w' ∧ FaultV ea w' v (bkC f s ss cs) (bkA f s ss cs) ∧ (bkC f s ss cs = 0 → x = txt (textB f s ss cs))

set_option maxRecDepth 1000000 in
set_option maxHeartbeats 2000000 in
theorem blText_any {B : Nat} {ea : Nat → Addr} (w : World) (E : EnvT B ea w) (hB : B ≤ w.heap.size) (f s : Int) (b1 b2 : Nat) (v1 v2 : Value) (ss cs : List (List UInt8)) (h1 : w.ownsRow b1 9 1 v1 ss.length (ss.map encStr)) (h2 : w.ownsRow b2 9 1 v2 cs.length (cs.map encStr)) (hss : ∀ x, x ∈ ss → x.length ≤ 1000) (hcs : ∀ x, x ∈ cs → x.length ≤ 10000) (hn : ss.length ≤ 1000) (hm : cs.length ≤ 1000) :
    Calls Tryz.prog 13 #[.agg #[.int .i64 f, .int .i64 s, v1, v2]] w fun e w' => TextOut ea w w' f s ss cs e := by
  obtain ⟨a1, c1, rfl, hc1⟩ := own_strs h1
  obtain ⟨a2, c2, rfl, hc2⟩ := own_strs h2
  obtain ⟨W, hW⟩ : ∃ W, W = w.alloc (.cells #[.int .i64 f, .int .i64 s, .slice a1 ss.length c1, .slice a2 cs.length c2] 25) := ⟨_, rfl⟩
  have hbW : Below w.heap.size w W := by rw [hW]; exact (Below.refl _ _).alloc (Nat.le_refl _) _
  have hx : W.heap[w.heap.size]? = some (.cells #[.int .i64 f, .int .i64 s, .slice a1 ss.length c1, .slice a2 cs.length c2] 25 (0, 0)) := by rw [hW]; exact heap_alloc_new _ _
  have x0 : W.cell? ⟨w.heap.size, 0, none⟩ = some (.int .i64 f) := cells_of hx 0
  have x1 : W.cell? ⟨w.heap.size, 1, none⟩ = some (.int .i64 s) := cells_of hx 1
  have x2 : W.cell? ⟨w.heap.size, 2, none⟩ = some (.slice a1 ss.length c1) := cells_of hx 2
  have x3 : W.cell? ⟨w.heap.size, 3, none⟩ = some (.slice a2 cs.length c2) := cells_of hx 3
  have HCK := (show Hid _ from blCheck_any W (E.k.below hbW hB) (Nat.le_trans hB hbW.size) f s b1 b2 _ _ ss cs (own_bel3 h1 hbW) (own_bel3 h2 hbW) (fun x hx => Nat.le_trans (hss x hx) (by decide)) hcs (Nat.le_trans hn (by decide)) (Nat.le_trans hm (by decide)))
  have HW := (show Hid _ from hW)
  have HBW := (show Hid _ from hbW)
  have HE := (show Hid _ from E)
  have HSZ := (show Hid _ from And.intro hss hcs)
  have HX : Hid (∀ w', Below W.heap.size W w' → w'.heap[w.heap.size]? = some (.cells #[.int .i64 f, .int .i64 s, .slice a1 ss.length c1, .slice a2 cs.length c2] 25 (0, 0))) := fun w' h => (h.block _ (blk_lt hx)).trans hx
  have HC1 : Hid (∀ k (hk : k < ss.length), ∃ g, a1 = some ⟨g, 0, none⟩ ∧ ∀ w', Below W.heap.size W w' → w'.cell? ⟨g, k, none⟩ = some (encStr ss[k])) := fun k hk => by
    obtain ⟨g, e, hc⟩ := hc1 k hk
    have hl : g < w.heap.size := World.block_lt_of_cell? w ⟨g, k, none⟩ hc
    exact ⟨g, e, fun w' h => (h.cell (p := ⟨g, k, none⟩) (Nat.lt_of_lt_of_le hl hbW.size)).trans ((hbW.cell (p := ⟨g, k, none⟩) hl).trans hc)⟩
  have HC2 : Hid (∀ k (hk : k < cs.length), ∃ g, a2 = some ⟨g, 0, none⟩ ∧ ∀ w', Below W.heap.size W w' → w'.cell? ⟨g, k, none⟩ = some (encStr cs[k])) := fun k hk => by
    obtain ⟨g, e, hc⟩ := hc2 k hk
    have hl : g < w.heap.size := World.block_lt_of_cell? w ⟨g, k, none⟩ hc
    exact ⟨g, e, fun w' h => (h.cell (p := ⟨g, k, none⟩) (Nat.lt_of_lt_of_le hl hbW.size)).trans ((hbW.cell (p := ⟨g, k, none⟩) hl).trans hc)⟩
  clear hW hbW hx E h1 h2 hss hcs hc1 hc2
  obtain ⟨n, hnn⟩ : ∃ n, n = ss.length := ⟨_, rfl⟩
  obtain ⟨m, hmm⟩ : ∃ m, m = cs.length := ⟨_, rfl⟩
  have HN := (show Hid _ from hnn.symm)
  have HM := (show Hid _ from hmm.symm)
  rw [← hnn] at HW HX HCK x2 hn ⊢
  rw [← hmm] at HW HX HCK x3 hm ⊢
  clear hnn hmm
  go_enter Tryz.func13, Tryz.ntmps13
  go_upto_region 1 with fail
  rw [← HW.out]
  go_wp2_with fail
  refine Calls.mono HCK.out ?_
  rintro e w1 ⟨v, rfl, hb1, hf1⟩
  have HB1 := (show Hid _ from hb1)
  have HBW1 := (show Hid _ from HBW.out.trans (hb1.mono HBW.out.size))
  clear x0 x1 x2 x3 HCK
  by_cases hz : bkC f s ss cs = 0
  · have hv := hf1.none hz
    subst hv
    obtain ⟨hbd0, hn60, hml, hser⟩ := bk_zero hz
    obtain ⟨d1, d2, d3, d4⟩ := bdE_zero hbd0
    have hmn : m = n := by rw [← HM.out, ← HN.out]; exact hml
    subst hmn
    have hn60' : m ≤ 60 := by rw [← HN.out]; exact hn60
    have HCH : Hid (∀ x, x ∈ cs → 1 ≤ x.length) := fun x hx => by
      obtain ⟨i, hi, rfl⟩ := List.getElem_of_mem hx
      have hi2 : i < ss.length := by omega
      have := (serC_zero (hser i hi2)).2.2.1
      rw [show cs.getD i [] = cs[i] by simp [List.getD_eq_getElem?_getD, hi]] at this
      have := (chunk_body _ this).1
      omega
    have HZ := (show Hid _ from hz)
    obtain ⟨W2, hW2⟩ : ∃ W2, W2 = w1.alloc (.cells #[.pointer none, .slice none 0 0] 86) := ⟨_, rfl⟩
    have HW2 : Hid (∀ wx, wx = w1.alloc (.cells #[.pointer none, .slice none 0 0] 86) → wx = W2) := fun wx h => h.trans hW2.symm
    have hb0 : IsB0 w1.heap.size W2 := by
      refine .inl ⟨Nat.le_refl _, .slice none 0 0, ?_, ?_, by simp [Value.ownBlock]⟩
      · rw [hW2]; exact heap_alloc_new _ _
      · exact ⟨by simp [Lib.byteCells], .inl ⟨rfl, rfl⟩⟩
    have hb12 : Below w1.heap.size w1 W2 := by rw [hW2]; exact (Below.refl _ _).alloc (Nat.le_refl _) _
    have HCEL : Hid (∀ z, Below w1.heap.size w1 z → z.cell? ⟨w.heap.size, 0, none⟩ = some (.int .i64 f) ∧ z.cell? ⟨w.heap.size, 1, none⟩ = some (.int .i64 s) ∧ z.cell? ⟨w.heap.size, 2, none⟩ = some (.slice a1 m c1)) := fun z hz => by
      have := HX.out z (HB1.out.trans (hz.mono HB1.out.size))
      exact ⟨cells_of this 0, cells_of this 1, cells_of this 2⟩
    have HI : Hid (∀ (t : Int) (z : World), -1099511627776 ≤ t → t ≤ 1099511627776 → Below w1.heap.size w1 z → IsB0 w1.heap.size z → Calls Tryz.prog 41 #[.int .i64 t] z fun e w' => e = .returned (.string (txt (Lib.itoa t))) ∧ Below w1.heap.size w1 w' ∧ IsB0 w1.heap.size w') := fun t z t0 t1 hz hib => by
      refine (itoa_any t (by omega) (by omega) z ((HE.out.below (HBW1.out.trans (hz.mono HBW1.out.size)) hB).pow _ (Below.refl _ _))).mono ?_
      rintro e w' ⟨rfl, hb'⟩
      exact ⟨rfl, hz.trans (hb'.mono hz.size), builder_below hib hb'⟩
    obtain ⟨HL, hHL⟩ : ∃ HL, HL = headL f s m := ⟨_, rfl⟩
    have hHl : HL.length ≤ 60 := by rw [hHL]; exact headL_len f s m d3 d4 d1 d2 hn60'
    have HWR : Hid (∀ z, Below w1.heap.size w1 z → IsB0 w1.heap.size z → Calls Tryz.prog 40 #[.pointer (some ⟨w1.heap.size, 0, none⟩), .string (txt HL)] z fun e w' => e = .returned (.tuple #[.int .i64 (HL.length : Int), .nilIface]) ∧ Below w1.heap.size w1 w' ∧ Lib.IsBuilder 86 5 w1.heap.size w1.heap.size (Lib.byteCells HL) w') := fun z hz hib => by
      refine (bWrite_any w1.heap.size w1.heap.size _ (txt HL) z hib (by simp [Lib.byteCells, txt_size]; omega) hz.size).mono ?_
      rintro e w' ⟨rfl, hbu, hb', _⟩
      refine ⟨by rw [txt_size], hz.trans hb', .inr ?_⟩
      simpa [Lib.byteCells, Lib.strCells, txt] using hbu
    have ia := itoa_len f d3 d4
    have ib := itoa_len s (by omega) (by omega)
    have ic := itoa_len (m : Int) (by omega) (by omega)
    have e1 : ∀ w, (Op.stringOp .add ⟨#[98, 108, 111, 99, 107, 32]⟩ (txt (Lib.itoa f))).run Tryz.prog w = .ok (.string (txt ([98, 108, 111, 99, 107, 32] ++ Lib.itoa f))) w := fun w => add_two _ [98, 108, 111, 99, 107, 32] _ (by simp; omega) w
    have e2 : ∀ w, (Op.stringOp .add (txt ([98, 108, 111, 99, 107, 32] ++ Lib.itoa f)) ⟨#[32]⟩).run Tryz.prog w = .ok (.string (txt ([98, 108, 111, 99, 107, 32] ++ Lib.itoa f ++ [32]))) w := fun w => add_two _ _ [32] (by simp; omega) w
    have e3 : ∀ w, (Op.stringOp .add (txt ([98, 108, 111, 99, 107, 32] ++ Lib.itoa f ++ [32])) (txt (Lib.itoa s))).run Tryz.prog w = .ok (.string (txt ([98, 108, 111, 99, 107, 32] ++ Lib.itoa f ++ [32] ++ Lib.itoa s))) w := fun w => add_two _ _ _ (by simp; omega) w
    have e4 : ∀ w, (Op.stringOp .add (txt ([98, 108, 111, 99, 107, 32] ++ Lib.itoa f ++ [32] ++ Lib.itoa s)) ⟨#[32]⟩).run Tryz.prog w = .ok (.string (txt ([98, 108, 111, 99, 107, 32] ++ Lib.itoa f ++ [32] ++ Lib.itoa s ++ [32]))) w := fun w => add_two _ _ [32] (by simp; omega) w
    have e5 : ∀ w, (Op.stringOp .add (txt ([98, 108, 111, 99, 107, 32] ++ Lib.itoa f ++ [32] ++ Lib.itoa s ++ [32])) (txt (Lib.itoa (m : Int)))).run Tryz.prog w = .ok (.string (txt ([98, 108, 111, 99, 107, 32] ++ Lib.itoa f ++ [32] ++ Lib.itoa s ++ [32] ++ Lib.itoa (m : Int)))) w := fun w => add_two _ _ _ (by simp; omega) w
    have e6 : ∀ w, (Op.stringOp .add (txt ([98, 108, 111, 99, 107, 32] ++ Lib.itoa f ++ [32] ++ Lib.itoa s ++ [32] ++ Lib.itoa (m : Int))) ⟨#[10]⟩).run Tryz.prog w = .ok (.string (txt HL)) w := fun w => by rw [hHL]; exact add_two _ _ [10] (by simp; omega) w
    have HIf : Hid (∀ z, Below w1.heap.size w1 z → IsB0 w1.heap.size z → Calls Tryz.prog 41 #[.int .i64 f] z fun e w' => e = .returned (.string (txt (Lib.itoa f))) ∧ Below w1.heap.size w1 w' ∧ IsB0 w1.heap.size w') := fun z => HI.out f z d3 d4
    have HIs : Hid (∀ z, Below w1.heap.size w1 z → IsB0 w1.heap.size z → Calls Tryz.prog 41 #[.int .i64 s] z fun e w' => e = .returned (.string (txt (Lib.itoa s))) ∧ Below w1.heap.size w1 w' ∧ IsB0 w1.heap.size w') := fun z => HI.out s z (by omega) (by omega)
    have HIm : Hid (∀ z, Below w1.heap.size w1 z → IsB0 w1.heap.size z → Calls Tryz.prog 41 #[.int .i64 (m : Int)] z fun e w' => e = .returned (.string (txt (Lib.itoa (m : Int)))) ∧ Below w1.heap.size w1 w' ∧ IsB0 w1.heap.size w') := fun z => HI.out m z (by omega) (by omega)
    obtain ⟨q1, hq1⟩ : ∃ b, b = txt (Lib.itoa f) := ⟨_, rfl⟩
    obtain ⟨q2, hq2⟩ : ∃ b, b = txt (Lib.itoa s) := ⟨_, rfl⟩
    obtain ⟨q3, hq3⟩ : ∃ b, b = txt (Lib.itoa (m : Int)) := ⟨_, rfl⟩
    obtain ⟨p1, hp1⟩ : ∃ b, b = txt ([98, 108, 111, 99, 107, 32] ++ Lib.itoa f) := ⟨_, rfl⟩
    obtain ⟨p2, hp2⟩ : ∃ b, b = txt ([98, 108, 111, 99, 107, 32] ++ Lib.itoa f ++ [32]) := ⟨_, rfl⟩
    obtain ⟨p3, hp3⟩ : ∃ b, b = txt ([98, 108, 111, 99, 107, 32] ++ Lib.itoa f ++ [32] ++ Lib.itoa s) := ⟨_, rfl⟩
    obtain ⟨p4, hp4⟩ : ∃ b, b = txt ([98, 108, 111, 99, 107, 32] ++ Lib.itoa f ++ [32] ++ Lib.itoa s ++ [32]) := ⟨_, rfl⟩
    obtain ⟨p5, hp5⟩ : ∃ b, b = txt ([98, 108, 111, 99, 107, 32] ++ Lib.itoa f ++ [32] ++ Lib.itoa s ++ [32] ++ Lib.itoa (m : Int)) := ⟨_, rfl⟩
    obtain ⟨p6, hp6⟩ : ∃ b, b = txt HL := ⟨_, rfl⟩
    rw [← hq1] at e1 HIf
    rw [← hq2] at e3 HIs
    rw [← hq3] at e5 HIm
    rw [← hp1] at e1 e2
    rw [← hp2] at e2 e3
    rw [← hp3] at e3 e4
    rw [← hp4] at e4 e5
    rw [← hp5] at e5 e6
    rw [← hp6] at e6 HWR
    have HBB := (show Hid _ from hb12)
    have HHL := (show Hid _ from And.intro hHL hHl)
    have h0d : Below w1.heap.size w1 W2.drew := bel_dr hb12
    have hbd : IsB0 w1.heap.size W2.drew := hb0
    obtain ⟨y0, y1, y2⟩ := HCEL.out W2 hb12
    clear hq1 hq2 hq3 hp1 hp2 hp3 hp4 hp5 hp6 hHL hHl ia ib ic HI hW2 hser hz hbd0 hml hn60 hf1 hb1
    go_upto_region 5 with fail
    rw [HW2.out _ rfl]
    go_region_held3 (fun w' => Below w1.heap.size w1 w' ∧ w'.cell? ⟨w.heap.size, 0, none⟩ = some (.int .i64 f) ∧ w'.cell? ⟨w.heap.size, 1, none⟩ = some (.int .i64 s) ∧ w'.cell? ⟨w.heap.size, 2, none⟩ = some (.slice a1 m c1)) (go_keep) ((first
      | (go_at_call 41; refine Calls.mono (HIf.out _ (by assumption) (by assumption)) ?_; rintro e w3 ⟨rfl, k3, ib3⟩; obtain ⟨r1, r2, r3⟩ := HCEL.out _ k3)
      | (go_at_call 41; refine Calls.mono (HIs.out _ (by assumption) (by assumption)) ?_; rintro e w4 ⟨rfl, k4, ib4⟩; obtain ⟨r1, r2, r3⟩ := HCEL.out _ k4)
      | (go_at_call 41; refine Calls.mono (HIm.out _ (by assumption) (by assumption)) ?_; rintro e w5 ⟨rfl, k5, ib5⟩; obtain ⟨r1, r2, r3⟩ := HCEL.out _ k5)
      | (go_at_call 40; refine Calls.mono (HWR.out _ (by assumption) (by assumption)) ?_; rintro e w6 ⟨rfl, k6, ib6⟩; obtain ⟨r1, r2, r3⟩ := HCEL.out _ k6)))
    have HB6 := (show Hid _ from k6)
    have HI6 := (show Hid _ from ib6)
    have j2 : w6.cell? ⟨w.heap.size, 2, none⟩ = some (.slice a1 m c1) := (HCEL.out _ k6).2.2
    have HDG : Hid (∀ (c : ByteArray) z, 1 ≤ c.size → c.size ≤ 10000 → Calls Tryz.prog 42 #[.string c] z fun e w' => e = .returned (.string ⟨(hexTo c.data.toList c.size).toArray⟩) ∧ Below z.heap.size z w') := fun c z h1 h2 => bldigits_any z c h1 h2
    have HTL : Hid (∀ k, k ≤ m → (textK f s ss cs k).length ≤ 60 + k * 21002) := fun k hk => by
      have := textK_len f s ss cs (by rw [HM.out, HN.out]) HSZ.out.1 HSZ.out.2 k (by rw [HN.out]; exact hk)
      rw [HN.out, ← HHL.out.1] at this
      have := HHL.out.2
      omega
    clear k6 ib6 k3 k4 k5 ib3 ib4 ib5 e1 e2 e3 e4 e5 e6 HIf HIs HIm HWR hb0 hb12 h0d hbd y0 y1 y2
    clear r1 r2 r3
    go_wp2_with fail
    go_loopw [33] (fun i wr => ∃ k : Nat, k ≤ m ∧ i = .int .i64 (k : Int) ∧ Below w1.heap.size w1 wr ∧ Lib.IsBuilder 86 5 w1.heap.size w1.heap.size (Lib.byteCells (textK f s ss cs k)) wr) (fun i _ => m - (intOf i).toNat)
    case atStart =>
      refine ⟨0, Nat.zero_le _, rfl, HB6.out, ?_⟩
      have := HI6.out
      rw [HHL.out.1] at this
      have e0 : textK f s ss cs 0 = headL f s m := by simp [textK, HN.out]
      rw [e0]
      exact this
    case round =>
      obtain ⟨k, hk, rfl, hbr, hib⟩ := hrel
      have HBR := (show Hid _ from hbr)
      have HIB := (show Hid _ from hib)
      have hwr := hbr.size
      clear hbr hib j2
      have hbW1 := HB1.out.trans (HBR.out.mono HB1.out.size)
      have hxr := HX.out wr hbW1
      have x3 : wr.cell? ⟨w.heap.size, 3, none⟩ = some (.slice a2 m c2) := cells_of hxr 3
      by_cases hkm : k < m
      · have hks : k < ss.length := by rw [HN.out]; exact hkm
        have hkc : k < cs.length := by rw [HM.out]; exact hkm
        obtain ⟨g1, z1, hg1⟩ := HC1.out k hks
        obtain ⟨g2, z2, hg2⟩ := HC2.out k hkc
        subst z1 z2
        obtain ⟨nm, hnm⟩ : ∃ nm : ByteArray, nm = txt ss[k] := ⟨_, rfl⟩
        obtain ⟨ch, hch⟩ : ∃ ch : ByteArray, ch = txt cs[k] := ⟨_, rfl⟩
        have c1' : wr.cell? ⟨g1, k, none⟩ = some (.string nm) := by rw [hnm]; exact hg1 wr hbW1
        have c2' : wr.cell? ⟨g2, k, none⟩ = some (.string ch) := by rw [hch]; exact hg2 wr hbW1
        have k0 : (0 : Int) ≤ (k : Int) := by omega
        have k1 : (k : Int) < (m : Int) := by omega
        have hsl : ss[k].length ≤ 1000 := HSZ.out.1 _ (List.getElem_mem hks)
        have hcl : cs[k].length ≤ 10000 := HSZ.out.2 _ (List.getElem_mem hkc)
        have hcl1 : 1 ≤ cs[k].length := HCH.out _ (List.getElem_mem hkc)
        have hhl := hexTo_len cs[k] cs[k].length (Nat.le_refl _)
        have hdg := HDG.out ch wr (by rw [hch, txt_size]; exact hcl1) (by rw [hch, txt_size]; exact hcl)
        have hdd : (⟨(hexTo ch.data.toList ch.size).toArray⟩ : ByteArray) = txt (hexTo cs[k] cs[k].length) := by rw [hch, txt_size]; rfl
        rw [hdd] at hdg
        have e1 : ∀ w, (Op.stringOp .add nm ⟨#[32]⟩).run Tryz.prog w = .ok (.string (txt (ss[k] ++ [32]))) w := fun w => by rw [hnm]; exact add_two _ _ [32] (by simp; omega) w
        have e2 : ∀ w, (Op.stringOp .add (txt (ss[k] ++ [32])) (txt (hexTo cs[k] cs[k].length))).run Tryz.prog w = .ok (.string (txt (ss[k] ++ [32] ++ hexTo cs[k] cs[k].length))) w := fun w => add_two _ _ _ (by simp [hhl]; omega) w
        have e3 : ∀ w, (Op.stringOp .add (txt (ss[k] ++ [32] ++ hexTo cs[k] cs[k].length)) ⟨#[10]⟩).run Tryz.prog w = .ok (.string (txt (lineL ss[k] cs[k]))) w := fun w => add_two _ _ [10] (by simp [hhl]; omega) w
        have hll := lineL_len ss[k] cs[k]
        have htl := HTL.out k hk
        have HNX : Hid (textK f s ss cs (k + 1) = textK f s ss cs k ++ lineL ss[k] cs[k]) := textK_succ f s ss cs k hks hkc
        obtain ⟨LN, hLN⟩ : ∃ LN, LN = lineL ss[k] cs[k] := ⟨_, rfl⟩
        rw [← hLN] at e3 hll HNX
        have HWR : Hid (∀ z, Below wr.heap.size wr z → Calls Tryz.prog 40 #[.pointer (some ⟨w1.heap.size, 0, none⟩), .string (txt LN)] z fun e w' => e = .returned (.tuple #[.int .i64 (LN.length : Int), .nilIface]) ∧ Below w1.heap.size w1 w' ∧ Lib.IsBuilder 86 5 w1.heap.size w1.heap.size (Lib.byteCells (textK f s ss cs k ++ LN)) w') := fun z hz => by
          have hzz := HBR.out.trans (hz.mono hwr)
          refine (bWrite_any w1.heap.size w1.heap.size _ (txt LN) z (builder_below HIB.out hz) (by simp [Lib.byteCells, txt_size]; omega) hzz.size).mono ?_
          rintro e w' ⟨rfl, hbu, hb', _⟩
          refine ⟨by rw [txt_size], hzz.trans hb', .inr ?_⟩
          simpa [Lib.byteCells, Lib.strCells, txt] using hbu
        have HDG2 := (show Hid _ from hdg)
        obtain ⟨p1, hp1⟩ : ∃ b, b = txt (ss[k] ++ [32]) := ⟨_, rfl⟩
        obtain ⟨p2, hp2⟩ : ∃ b, b = txt (hexTo cs[k] cs[k].length) := ⟨_, rfl⟩
        obtain ⟨p3, hp3⟩ : ∃ b, b = txt (ss[k] ++ [32] ++ hexTo cs[k] cs[k].length) := ⟨_, rfl⟩
        obtain ⟨p4, hp4⟩ : ∃ b, b = txt LN := ⟨_, rfl⟩
        rw [← hp1] at e1 e2
        rw [← hp2] at e2 HDG2
        rw [← hp3] at e2 e3
        rw [← hp4] at e3 HWR
        clear hp1 hp2 hp3 hp4 hLN hll htl hdd hhl hsl hcl hcl1 hnm hch hg1 hg2 hxr hdg hbW1
        go_wp2_with fail
        refine Calls.mono HDG2.out ?_
        rintro e w7 ⟨rfl, hb7⟩
        have HW7 := (show Hid _ from HWR.out w7 hb7)
        clear hb7 HDG2 HWR
        dsimp only
        go_wp2_with fail
        refine Calls.mono HW7.out ?_
        rintro e w8 ⟨rfl, k8, ib8⟩
        have HB8 := (show Hid _ from k8)
        have HI8 : Hid (Lib.IsBuilder 86 5 w1.heap.size w1.heap.size (Lib.byteCells (textK f s ss cs (k + 1))) w8) := by rw [HNX.out]; exact ib8
        clear k8 ib8 HW7
        dsimp only
        go_wp2
        go_roundw
        case rel => exact ⟨k + 1, by omega, by go_num, HB8.out, HI8.out⟩
        case measure => simp [intOf] <;> omega
      · obtain rfl : k = m := by omega
        have hge : (k : Int) ≤ (k : Int) := Int.le_refl _
        have hne : textK f s ss cs k ≠ [] := by simp [textK, headL]
        have HST := (show Hid _ from bString_any w1.heap.size w1.heap.size _ wr HIB.out hne)
        have HTB : Hid (txt (textK f s ss cs k) = txt (textB f s ss cs)) := by show _ = _; unfold textB; rw [HN.out]
        clear hne hxr hbW1
        go_wp2_with fail
        refine Calls.mono HST.out ?_
        rintro e w7 ⟨rfl, hb7⟩
        have HB7 := (show Hid _ from HBW1.out.trans ((HBR.out.trans hb7).mono HBW1.out.size))
        clear hb7
        go_wp2
        go_ret2
        exact ⟨_, _, rfl, HB7.out, .inl ⟨rfl, HZ.out⟩, fun _ => HTB.out⟩
  · obtain ⟨t, p, hv⟩ := hf1.pos hz
    have HZ := (show Hid _ from hz)
    have HF : Hid (FaultV ea w1 v (bkC f s ss cs) (bkA f s ss cs)) := hf1
    clear hf1 hb1 hz
    subst hv
    go_wp2
    go_ret2
    exact ⟨_, _, rfl, HBW1.out, HF.out, fun h => absurd h HZ.out⟩
end Go.Proofs.YtijgolnbbaljlaaGreatDoor
/- What statements on blocks ask of the package variables. -/
namespace Go.Proofs.YtijgolnbbaljlaaGreatDoor
open Go.RowKit

/-- What blocks and their errors' numbers ask. -/
structure EnvB (B : Nat) (ea : Nat → Addr) (w : World) : Prop where
  env : Env B ea w
  k : EnvK B ea w
theorem EnvB.below {B : Nat} {ea : Nat → Addr} {w w' : World} (E : EnvB B ea w) {B' : Nat} (h : Below B' w w') (hB : B ≤ B') : EnvB B ea w' := ⟨E.env.below h hB, E.k.below h hB⟩
end Go.Proofs.YtijgolnbbaljlaaGreatDoor
/- block's number by its contract. -/
namespace Go.Proofs.YtijgolnbbaljlaaGreatDoor
open Go.RowKit Go.Maps LabMath WalMath

/-- The number that a word tells. -/
def numV (l : List UInt8) : Option Int := match Lib.atoiAll l with
  | .ok v => if l.length ≤ 15 ∧ Lib.itoa v = l then some v else none
  | _ => none
/-- What number answers. -/
def NumOut (l : List UInt8) (e : Ending) : Prop := ∃ v : Int, (numV l = some v ∧ e = .returned (.tuple #[.int .i64 v, .bool true])) ∨ (numV l = none ∧ e = .returned (.tuple #[.int .i64 v, .bool false]))

set_option maxRecDepth 1000000 in
theorem blnumber_any {B : Nat} (s : ByteArray) (hs : s.size ≤ 100000) (w : World) (hE : EnvS w) (hT : Lib.TabBelow Tryz.prog B w "internal/strconv.uint64pow10" .u64 Lib.pow10Tab) (hB : B ≤ w.heap.size) :
    Calls Tryz.prog 89 #[.string s] w fun e w' => NumOut s.data.toList e ∧ Below w.heap.size w w' := by
  have HA := (show Hid _ from atoi_any s (by omega) w hE)
  have HI : Hid (∀ (v : Int) z, -9223372036854775808 ≤ v → v ≤ 9223372036854775807 → Below w.heap.size w z → Calls Tryz.prog 41 #[.int .i64 v] z fun e w' => e = .returned (.string (txt (Lib.itoa v))) ∧ Below z.heap.size z w') := fun v z h0 h1 hz => itoa_any v h0 h1 z (hT z (hz.mono hB))
  have HSZ : Hid (s.size = s.data.toList.length) := (ba_len s).symm
  clear hE hT
  go_enter Tryz.func89, Tryz.ntmps89
  go_wp2_with fail
  refine Calls.mono HA.out ?_
  rintro e w1 ⟨⟨v, hv, rfl⟩ | ⟨hno, x, tp, p, rfl⟩, hb1⟩
  · have HB1 := (show Hid _ from hb1)
    obtain ⟨v0, v1⟩ := Lib.atoiAll_bounds hv
    have HV := (show Hid _ from hv)
    by_cases h15 : s.size ≤ 15
    · have d1 : decide ((s.size : Int) ≤ 15) = true := by simp; omega
      have HI1 := (show Hid _ from HI.out v w1 v0 v1 hb1)
      obtain ⟨q, hq⟩ : ∃ q : ByteArray, q = txt (Lib.itoa v) := ⟨_, rfl⟩
      rw [← hq] at HI1
      have HQ := (show Hid _ from hq)
      clear hv hb1 hq v0 v1
      go_wp2_with fail
      refine Calls.mono HI1.out ?_
      rintro e w2 ⟨rfl, hb2⟩
      have HB2 := (show Hid _ from HB1.out.trans (hb2.mono HB1.out.size))
      clear hb2
      by_cases he : q = s
      · have hqe : (q.toList == s.toList) = true := by rw [he]; simp
        have HN : Hid (numV s.data.toList = some v) := by
          show _ = _
          unfold numV
          rw [HV.out]
          refine if_pos ⟨by rw [← HSZ.out]; exact h15, ?_⟩
          rw [← he, HQ.out]
          rfl
        clear he
        go_wp2
        go_ret2
        exact ⟨⟨v, .inl ⟨HN.out, rfl⟩⟩, HB2.out⟩
      · have hqe : (q.toList == s.toList) = false := by
          rw [beq_eq_false_iff_ne]
          intro h
          rw [ByteArray.toList_eq, ByteArray.toList_eq] at h
          exact he (ByteArray.ext (Array.ext' h))
        have HN : Hid (numV s.data.toList = none) := by
          show _ = _
          unfold numV
          rw [HV.out]
          refine if_neg fun h => he ?_
          rw [HQ.out, h.2]
          rfl
        clear he
        go_wp2
        go_ret2
        exact ⟨⟨v, .inr ⟨HN.out, rfl⟩⟩, HB2.out⟩
    · have d1 : decide ((s.size : Int) ≤ 15) = false := by simp; omega
      have HN : Hid (numV s.data.toList = none) := by
        show _ = _
        unfold numV
        rw [hv]
        exact if_neg fun h => h15 (by rw [HSZ.out]; exact h.1)
      clear hv hb1
      go_wp2
      go_ret2
      exact ⟨⟨v, .inr ⟨HN.out, rfl⟩⟩, HB1.out⟩
  · have HB1 := (show Hid _ from hb1)
    have HN : Hid (numV s.data.toList = none) := by
      show _ = _
      unfold numV
      split
      · rename_i v h
        exact absurd h (hno v)
      · rfl
    clear hno hb1
    go_wp2
    go_ret2
    exact ⟨⟨x, .inr ⟨HN.out, rfl⟩⟩, HB1.out⟩
end Go.Proofs.YtijgolnbbaljlaaGreatDoor
/- block's bytesOf by its contract. -/
namespace Go.Proofs.YtijgolnbbaljlaaGreatDoor
open Go.RowKit Go.Maps LabMath WalMath

def hexDs : ByteArray := ⟨#[48, 49, 50, 51, 52, 53, 54, 55, 56, 57, 97, 98, 99, 100, 101, 102]⟩
/-- The place of a digit, or less than 0. -/
def digI (c : UInt8) : Int := Lib.indexByte hexDs.data.toList c
/-- Bytes of digits, two each. -/
def unhexL : List UInt8 → Option (List UInt8)
  | [] => some []
  | [_] => none
  | a :: b :: r => if digI a < 0 ∨ digI b < 0 then none else (unhexL r).map fun t => UInt8.ofNat (16 * (digI a).toNat + (digI b).toNat) :: t
set_option maxRecDepth 100000 in
theorem digI_lt : ∀ c : UInt8, -1 ≤ digI c ∧ digI c < 16 := by
  have h : ∀ n : Fin 256, -1 ≤ digI (UInt8.ofNat n.val) ∧ digI (UInt8.ofNat n.val) < 16 := by decide
  intro c
  have := h ⟨c.toNat, c.toNat_lt⟩
  simpa using this
theorem or_16 : ∀ h l : Fin 16, bits .or .i64 (16 * (h.val : Int)) (l.val : Int) = 16 * (h.val : Int) + (l.val : Int) := by decide

set_option maxRecDepth 1000000 in
theorem sIndexByte_any (c : Nat) (w : World) :
    Calls Tryz.prog 118 #[.string hexDs, .int .u8 (c : Int)] w fun e w' => e = .returned (.int .i64 (digI c.toUInt8)) ∧ w' = w := by
  have HI := (show Hid _ from slIndexByte_any hexDs c w)
  go_enter Tryz.func118, Tryz.ntmps118
  go_wp2_with fail
  refine Calls.mono HI.out ?_
  rintro e w1 ⟨rfl, hw1⟩
  have hw1' := hw1
  subst hw1'
  go_wp2
  go_ret
  exact ⟨rfl, rfl⟩

set_option maxRecDepth 1000000 in
theorem bString_nil (b : Nat) (w : World) (c1 : w.cell? ⟨b, 1, none⟩ = some (.slice none 0 0)) :
    Calls Tryz.prog 43 #[.pointer (some ⟨b, 0, none⟩)] w fun e w' => e = .returned (.string ⟨#[]⟩) ∧ ∃ q, w' = w.drewN q := by
  have c2 : w.drew.cell? ⟨b, 1, none⟩ = some (.slice none 0 0) := c1
  have hSD : (Builtin.unsafeSliceData_ #[84] 127 #[.slice none 0 0]).run Tryz.prog w.drew = .ok (.pointer none) w.drew := by rfl
  have hUS : (Builtin.unsafeString_ #[127, 3] 9 #[.pointer none, .int .i64 0]).run Tryz.prog w.drew = .ok (.string ⟨#[]⟩) w.drew := by rfl
  go_enter Tryz.func43, Tryz.ntmps43
  go_wp2
  go_region
  all_goals (go_wp2; go_ret; exact ⟨rfl, 1, rfl⟩)
theorem unhex_odd : ∀ l : List UInt8, l.length % 2 = 1 → unhexL l = none
  | [], h => by simp at h
  | [_], _ => rfl
  | a :: b :: r, h => by
    have ih := unhex_odd r (by simp at h; omega)
    rw [unhexL]
    split
    · rfl
    · rw [ih]; rfl
/-- What bytesOf answers. -/
def HexOut (l : List UInt8) (e : Ending) : Prop := (∃ x, unhexL l = some x ∧ e = .returned (.tuple #[.string (txt x), .bool true])) ∨ (unhexL l = none ∧ e = .returned (.tuple #[.string ⟨#[]⟩, .bool false]))

set_option maxRecDepth 1000000 in
set_option maxHeartbeats 1000000 in
theorem blbytes_any (s : ByteArray) (hs : s.size ≤ 100000) (w : World) :
    Calls Tryz.prog 90 #[.string s] w fun e w' => HexOut s.data.toList e ∧ Below w.heap.size w w' := by
  have hsl := ba_len s
  by_cases hodd : s.size % 2 = 1
  · have d1 : decide ((0 : Int) < (s.size : Int) % 2) = true := by simp; omega
    have HN : Hid (unhexL s.data.toList = none) := unhex_odd _ (by rw [hsl]; exact hodd)
    go_enter Tryz.func90, Tryz.ntmps90
    go_wp2
    go_ret2
    exact ⟨.inr ⟨HN.out, rfl⟩, Below.refl _ _⟩
  · have d1 : decide ((0 : Int) < (s.size : Int) % 2) = false := by simp; omega
    obtain ⟨W, hW⟩ : ∃ W, W = w.alloc (.cells #[.pointer none, .slice none 0 0] 86) := ⟨_, rfl⟩
    have HW : Hid (∀ wx, wx = w.alloc (.cells #[.pointer none, .slice none 0 0] 86) → wx = W) := fun wx h => h.trans hW.symm
    have hnew : W.heap[w.heap.size]? = some (.cells #[.pointer none, .slice none 0 0] 86 (0, 0)) := by rw [hW]; exact heap_alloc_new _ _
    have HIB : Hid (Lib.IsBuilder 86 5 w.heap.size w.heap.size (Lib.byteCells []) W) := .inl ⟨Nat.le_refl _, .slice none 0 0, hnew, ⟨by simp [Lib.byteCells], .inl ⟨rfl, rfl⟩⟩, by simp [Value.ownBlock]⟩
    have HC1 : Hid (W.cell? ⟨w.heap.size, 1, none⟩ = some (.slice none 0 0)) := cells_of hnew 1
    have HWB : Hid (Below w.heap.size w W) := by rw [hW]; exact (Below.refl _ _).alloc (Nat.le_refl _) _
    have HSL := (show Hid _ from hsl)
    have HEV := (show Hid _ from hodd)
    clear hW hnew hsl
    go_enter Tryz.func90, Tryz.ntmps90
    go_wp2_with fail
    rw [HW.out _ rfl]
    have HSI : Hid (∀ (c : Nat) z, Calls Tryz.prog 118 #[.string ⟨#[48, 49, 50, 51, 52, 53, 54, 55, 56, 57, 97, 98, 99, 100, 101, 102]⟩, .int .u8 (c : Int)] z fun e w' => e = .returned (.int .i64 (digI c.toUInt8)) ∧ w' = z) := fun c z => sIndexByte_any c z
    go_loopw [5] (fun i wr => ∃ (m : Nat) (out : List UInt8), m ≤ s.size ∧ i = .int .i64 (m : Int) ∧ m = 2 * out.length ∧ unhexL s.data.toList = (unhexL (s.data.toList.drop m)).map (out ++ ·) ∧ Below w.heap.size w wr ∧ Lib.IsBuilder 86 5 w.heap.size w.heap.size (Lib.byteCells out) wr ∧ (m = 0 → wr.cell? ⟨w.heap.size, 1, none⟩ = some (.slice none 0 0))) (fun i _ => s.size - (intOf i).toNat)
    case atStart => exact ⟨0, [], Nat.zero_le _, rfl, rfl, by simp, HWB.out, HIB.out, fun _ => HC1.out⟩
    case round =>
      obtain ⟨m, out, hm, rfl, hol, hun, hbr, hib, hc1⟩ := hrel
      have HUN : Hid (unhexL s.data.toList = (unhexL (s.data.toList.drop m)).map (out ++ ·)) := hun
      have HCN : Hid (m = 0 → wr.cell? ⟨w.heap.size, 1, none⟩ = some (.slice none 0 0)) := hc1
      have HOL := (show Hid _ from hol)
      have HBR := (show Hid _ from hbr)
      have HIB2 := (show Hid _ from hib)
      have hwr := hbr.size
      by_cases hmn : m < s.size
      · have hm1 : m + 1 < s.size := by have := HEV.out; omega
        have hd : s.data.toList.drop m = s[m] :: s[m + 1] :: s.data.toList.drop (m + 2) := by
          have e1 : m < s.data.toList.length := by rw [HSL.out]; exact hmn
          have e2 : m + 1 < s.data.toList.length := by rw [HSL.out]; exact hm1
          rw [List.drop_eq_getElem_cons e1, List.drop_eq_getElem_cons e2]
          simp [ByteArray.getElem_eq_getElem_data]
        have k0 : (0 : Int) ≤ (m : Int) := by omega
        have k1 : (m : Int) < (s.size : Int) := by omega
        have k2 : (m : Int) + 1 < (s.size : Int) := by omega
        have k3 : (0 : Int) ≤ (m : Int) + 1 := by omega
        have HD := (show Hid _ from hd)
        have hta : ∀ c : UInt8, c.toNat.toUInt8 = c := fun c => by simp
        have HQ : Hid (∀ q, Below w.heap.size w (wr.drewN q)) := fun q => below_draws HBR.out q
        have HIBq : Hid (∀ q, Lib.IsBuilder 86 5 w.heap.size w.heap.size (Lib.byteCells out) (wr.drewN q)) := fun q => builder_below HIB2.out (below_draws (Below.refl _ _) q)
        clear hun hc1 hol hbr hib hd
        go_wp2_with fail
        go_quiet (first | (go_at_call 118; refine Calls.quiet_of_same (HSI.out _ _)))
        obtain ⟨A, hA⟩ : ∃ A : Int, A = digI s[m].toNat.toUInt8 := ⟨_, rfl⟩
        obtain ⟨C, hC⟩ : ∃ C : Int, C = digI s[m + 1].toNat.toUInt8 := ⟨_, rfl⟩
        rw [← hA, ← hC]
        rw [hta] at hA hC
        have hAl := digI_lt s[m]
        have hCl := digI_lt s[m + 1]
        rw [← hA] at hAl
        rw [← hC] at hCl
        have HAC := (show Hid _ from And.intro hA hC)
        clear hA hC hta
        by_cases hA0 : A < 0
        · have d2 : decide (A < 0) = true := decide_eq_true hA0
          have HN : Hid (unhexL s.data.toList = none) := by
            show _ = _
            rw [HUN.out, HD.out, unhexL, if_pos (.inl (by rw [← HAC.out.1]; exact hA0))]
            rfl
          go_wp2
          go_ret2
          exact ⟨.inr ⟨HN.out, rfl⟩, HQ.out _⟩
        · have d2 : decide (A < 0) = false := decide_eq_false hA0
          by_cases hC0 : C < 0
          · have d3 : decide (C < 0) = true := decide_eq_true hC0
            have HN : Hid (unhexL s.data.toList = none) := by
              show _ = _
              rw [HUN.out, HD.out, unhexL, if_pos (.inr (by rw [← HAC.out.2]; exact hC0))]
              rfl
            go_wp2
            go_ret2
            exact ⟨.inr ⟨HN.out, rfl⟩, HQ.out _⟩
          · have d3 : decide (C < 0) = false := decide_eq_false hC0
            obtain ⟨x, rfl⟩ : ∃ x : Nat, A = (x : Int) := ⟨A.toNat, by omega⟩
            obtain ⟨y, rfl⟩ : ∃ y : Nat, C = (y : Int) := ⟨C.toNat, by omega⟩
            have hx : x < 16 := by omega
            have hy : y < 16 := by omega
            have hor : bits .or .i64 ((x : Int) * 16) (y : Int) % 256 = ((16 * x + y : Nat) : Int) := by
              have := or_16 ⟨x, hx⟩ ⟨y, hy⟩
              rw [show (x : Int) * 16 = 16 * (x : Int) by omega]
              have e : bits .or .i64 (16 * (x : Int)) (y : Int) = 16 * (x : Int) + (y : Int) := this
              rw [e]
              omega
            clear hAl hCl hA0 hC0
            have HNX : Hid (unhexL s.data.toList = (unhexL (s.data.toList.drop (m + 2))).map ((out ++ [UInt8.ofNat (16 * x + y)]) ++ ·)) := by
              show _ = _
              rw [HUN.out, HD.out, unhexL, if_neg (by rw [← HAC.out.1, ← HAC.out.2]; omega), ← HAC.out.1, ← HAC.out.2]
              cases unhexL (s.data.toList.drop (m + 2)) <;> simp
            have hob : (Lib.byteCells out).length = out.length := by simp [Lib.byteCells]
            have HWR := fun q => (show Hid _ from bWriteB_any w.heap.size w.heap.size _ (16 * x + y) (wr.drewN q) (HIBq.out q) (by have := HOL.out; omega) (HQ.out q).size)
            have hu8 : (UInt8.ofNat (16 * x + y)).toNat = 16 * x + y := by simp; omega
            go_wp2_with fail
            rw [show (16 * (x : Int) + (y : Int)) = ((16 * x + y : Nat) : Int) by omega]
            refine Calls.mono (HWR _).out ?_
            rintro e w7 ⟨rfl, hb7, hbe7, _⟩
            have HB7 := (show Hid _ from (HQ.out _).trans hbe7)
            have HI7 : Hid (Lib.IsBuilder 86 5 w.heap.size w.heap.size (Lib.byteCells (out ++ [UInt8.ofNat (16 * x + y)])) w7) := by
              rw [← byteCells_snoc, hu8]
              exact .inr hb7
            clear hb7 hbe7 HWR hor hob hu8
            dsimp only
            go_wp2
            go_roundw
            case rel => exact ⟨m + 2, out ++ [UInt8.ofNat (16 * x + y)], by omega, by go_num, by have := HOL.out; simp; omega, HNX.out, HB7.out, HI7.out, fun h => absurd h (by omega)⟩
            case measure => simp [intOf] <;> omega
      · obtain rfl : m = s.size := by omega
        have hde : s.data.toList.drop s.size = [] := List.drop_of_length_le (by rw [HSL.out]; omega)
        have HEN : Hid (unhexL s.data.toList = some out) := by
          show _ = _
          rw [HUN.out, hde]
          simp [unhexL]
        have hge : (s.size : Int) ≤ (s.size : Int) := Int.le_refl _
        by_cases h0 : s.size = 0
        · have HST := (show Hid _ from bString_nil w.heap.size wr (HCN.out h0))
          have HO0 : Hid (out = []) := List.eq_nil_of_length_eq_zero (show out.length = 0 by omega)
          clear hun hc1 hol hbr hib hde h0
          go_wp2_with fail
          refine Calls.mono HST.out ?_
          rintro e w7 ⟨rfl, q, rfl⟩
          go_wp2
          go_ret2
          exact ⟨.inl ⟨out, HEN.out, by rw [HO0.out]; rfl⟩, below_draws HBR.out q⟩
        · have hne : out ≠ [] := fun e => h0 (by rw [e] at hol; simpa using hol)
          have HST := (show Hid _ from bString_any w.heap.size w.heap.size out wr HIB2.out hne)
          clear hun hc1 hol hbr hib hde h0 hne
          go_wp2_with fail
          refine Calls.mono HST.out ?_
          rintro e w7 ⟨rfl, hb7⟩
          have HB7 := (show Hid _ from HBR.out.trans hb7)
          clear hb7
          go_wp2
          go_ret2
          exact ⟨.inl ⟨out, HEN.out, rfl⟩, HB7.out⟩
end Go.Proofs.YtijgolnbbaljlaaGreatDoor
/- block's parsedSeries by its contract. -/
namespace Go.Proofs.YtijgolnbbaljlaaGreatDoor
open Go.RowKit Go.Maps LabMath WalMath

/-- A line as a series and its chunk. -/
def serL (l : List UInt8) : Option (List UInt8 × List UInt8) := if (cutL 32 l).2.2 = true then (unhexL (cutL 32 l).2.1).map fun c => ((cutL 32 l).1, c) else none
/-- What parsedSeries answers. -/
def SerOut (l : List UInt8) (e : Ending) : Prop :=
  (∃ nm c, serL l = some (nm, c) ∧ e = .returned (.tuple #[.string (txt nm), .string (txt c), .bool true])) ∨ (serL l = none ∧ ∃ x y, e = .returned (.tuple #[.string x, .string y, .bool false]))
theorem cutL_len (c : UInt8) : ∀ l : List UInt8, (cutL c l).1.length ≤ l.length ∧ (cutL c l).2.1.length ≤ l.length
  | [] => ⟨Nat.le_refl _, Nat.le_refl _⟩
  | b :: r => by
    have ih := cutL_len c r
    unfold cutL
    split
    · exact ⟨Nat.zero_le _, by simp⟩
    · exact ⟨by simp; exact ih.1, by simp; omega⟩

set_option maxRecDepth 1000000 in
theorem blparsedS_any (s : ByteArray) (hs : s.size ≤ 100000) (w : World) :
    Calls Tryz.prog 64 #[.string s] w fun e w' => SerOut s.data.toList e ∧ Below w.heap.size w w' := by
  have HC := (show Hid _ from sCut_32 s w (by omega))
  have hcl := (cutL_len 32 s.data.toList).2
  rw [ba_len] at hcl
  obtain ⟨C1, h1⟩ : ∃ x, x = (cutL 32 s.data.toList).1 := ⟨_, rfl⟩
  obtain ⟨C2, h2⟩ : ∃ x, x = (cutL 32 s.data.toList).2.1 := ⟨_, rfl⟩
  obtain ⟨C3, h3⟩ : ∃ x, x = (cutL 32 s.data.toList).2.2 := ⟨_, rfl⟩
  rw [← h1, ← h2, ← h3] at HC
  rw [← h2] at hcl
  have HH := fun q => (show Hid _ from blbytes_any (txt C2) (by rw [txt_size]; omega) (w.drewN q))
  have HSE : Hid (serL s.data.toList = if C3 = true then (unhexL C2).map fun c => (C1, c) else none) := by rw [h1, h2, h3]; rfl
  have HB : Hid (∀ q, Below w.heap.size w (w.drewN q)) := fun q => below_draws (Below.refl _ _) q
  have ht2 : (txt C2).data.toList = C2 := rfl
  obtain ⟨t1, ht1⟩ : ∃ t, t = txt C1 := ⟨_, rfl⟩
  have HT1 := (show Hid _ from ht1)
  rw [← ht1] at HC
  clear h1 h2 h3 ht1 hcl
  go_enter Tryz.func64, Tryz.ntmps64
  go_wp2_with fail
  refine Calls.mono HC.out ?_
  rintro e w1 ⟨rfl, q, rfl⟩
  dsimp only
  go_wp2_with fail
  refine Calls.mono (HH q).out ?_
  rintro e w2 ⟨⟨x, hx, rfl⟩ | ⟨hx, rfl⟩, hb2⟩
  · rw [ht2] at hx
    have HX := (show Hid _ from hx)
    have HB2 := (show Hid _ from (HB.out q).trans hb2)
    clear hx hb2 HH
    cases C3 with
    | true =>
      have HS : Hid (serL s.data.toList = some (C1, x)) := by rw [HSE.out, HX.out]; rfl
      dsimp only
      go_wp2
      go_ret3
      exact ⟨.inl ⟨C1, x, HS.out, by rw [← HT1.out]; rfl⟩, HB2.out⟩
    | false =>
      have HS : Hid (serL s.data.toList = none) := by rw [HSE.out]; rfl
      dsimp only
      go_wp2
      go_ret3
      exact ⟨.inr ⟨HS.out, _, _, rfl⟩, HB2.out⟩
  · rw [ht2] at hx
    have HB2 := (show Hid _ from (HB.out q).trans hb2)
    have HS : Hid (serL s.data.toList = none) := by
      show _ = _
      rw [HSE.out, hx]
      cases C3 <;> rfl
    clear hx hb2 HH
    cases C3 with
    | true =>
      dsimp only
      go_wp2
      go_ret3
      exact ⟨.inr ⟨HS.out, _, _, rfl⟩, HB2.out⟩
    | false =>
      dsimp only
      go_wp2
      go_ret3
      exact ⟨.inr ⟨HS.out, _, _, rfl⟩, HB2.out⟩
end Go.Proofs.YtijgolnbbaljlaaGreatDoor
