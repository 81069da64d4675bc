/- Numbers in a row of one's own, sorted by texts: the world of it, and the comparing function. -/
import Derived.Test.YtnjmplmogibgfabDoorLabMathGroup
import Derived.Test.YtnjmplmogibgfabDoorRows1Group
import Derived.Test.YtnjmplmogibgfabDoorRefLabOfGroup
import Derived.Lib.Bytealg
import Derived.Laws.Externs
import Derived.Sort.Walk0
import Derived.Deep.QuietTactic
import Derived.BigQuiet
import Derived.BigRegion
namespace Go.Proofs.YtnjmplmogibgfabDoor
open Go.RowKit SortMath

/-- Is the i-th text less than the j-th? -/
def ltX (X : Nat → ByteArray) (i j : Nat) : Bool := Op.bytesLess (X i).toList (X j).toList
theorem swX (X : Nat → ByteArray) : SW (ltX X) := by
  have key : ∀ i j, ltX X i j = decide ((X i).toList < (X j).toList) := fun i j => bytesLess_eq _ _
  refine ⟨fun i j h => ?_, fun i j k h => ?_⟩
  · rw [key] at h ⊢
    have h' := of_decide_eq_true h
    exact decide_eq_false (fun g => List.lt_irrefl _ (List.lt_trans h' g))
  · rw [key] at h
    have h' := of_decide_eq_true h
    rw [key, key]
    by_cases g : (X i).toList < (X j).toList
    · exact .inl (decide_eq_true g)
    · refine .inr (decide_eq_true ?_)
      have g' : (X j).toList ≤ (X i).toList := List.not_lt.1 g
      exact List.lt_of_le_of_lt g' h'
theorem cmp_less : ∀ (a b : List UInt8), decide (Lib.compareBytes a b < 0) = Op.bytesLess a b
  | [], [] => by simp [Lib.compareBytes, Op.bytesLess]
  | [], _ :: _ => by simp [Lib.compareBytes, Op.bytesLess]
  | _ :: _, [] => by simp [Lib.compareBytes, Op.bytesLess]
  | x :: xs, y :: ys => by
    rw [bytesLess_eq, Lib.compareBytes]
    have ih := cmp_less xs ys
    rw [bytesLess_eq] at ih
    simp only [List.cons_lt_cons_iff]
    by_cases h1 : x < y
    · simp [h1]
    · rw [if_neg h1]
      by_cases h2 : y < x
      · have hne : x ≠ y := fun e => by subst e; exact UInt8.lt_irrefl _ h2
        simp [h1, h2, hne]
      · have he : x = y := UInt8.le_antisymm (UInt8.not_lt.1 h2) (UInt8.not_lt.1 h1)
        subst he
        rw [if_neg h2, ih]
        simp

/-- The row of n numbers in block g; texts X in block hb, by way of the variable in block tb; all else as in W0. -/
structure SP where
  W0 : World
  g : Nat
  tb : Nat
  hb : Nat
  n : Nat
  cap : Nat
  cc : Nat
  X : Nat → ByteArray
structure At (p : SP) (D : Nat → Nat) (w : World) : Prop where
  kept : Kept [p.g] p.W0 w
  row : ∃ cur, w.heap[p.g]? = some (.cells cur 3 (0, 0)) ∧ ∀ i, i < p.n → cur[i]? = some (.int .i64 (D i : Int))
  var : w.cell? ⟨p.tb, 0, none⟩ = some (.slice (some ⟨p.hb, 0, none⟩) p.n p.cc)
  txt : ∀ i, i < p.n → w.cell? ⟨p.hb, i, none⟩ = some (.string (p.X i))
  ne1 : p.tb ≠ p.g
  ne2 : p.hb ≠ p.g
theorem At.cell {p : SP} {D : Nat → Nat} {w : World} (h : At p D w) {i : Nat} (hi : i < p.n) : w.cell? ⟨p.g, i, none⟩ = some (.int .i64 (D i : Int)) := by
  obtain ⟨cur, h1, h2⟩ := h.row
  have := h2 i hi
  simp [World.cell?, h1, this]
theorem At.free {p : SP} {D : Nat → Nat} {w : World} (h : At p D w) (i : Nat) : w.frozen? ⟨p.g, i, none⟩ = false := by
  obtain ⟨cur, h1, h2⟩ := h.row
  simp [World.frozen?, h1]
theorem At.lt {p : SP} {D : Nat → Nat} {w : World} (h : At p D w) : p.g < w.heap.size := by
  obtain ⟨cur, h1, h2⟩ := h.row
  exact blk_lt h1
theorem At.drewN {p : SP} {D : Nat → Nat} {w : World} (h : At p D w) (q : Nat) : At p D (w.drewN q) :=
  ⟨⟨h.kept.os, h.kept.tape, h.kept.output, h.kept.size, h.kept.block⟩, h.row, h.var, h.txt, h.ne1, h.ne2⟩
theorem At.drew {p : SP} {D : Nat → Nat} {w : World} (h : At p D w) : At p D w.drew :=
  ⟨⟨h.kept.os, h.kept.tape, h.kept.output, h.kept.size, h.kept.block⟩, h.row, h.var, h.txt, h.ne1, h.ne2⟩
theorem At.swap {p : SP} {D : Nat → Nat} {w : World} (h : At p D w) {i j : Nat} (hi : i < p.n) (hj : j < p.n) (hij : i ≠ j) :
    At p (swp D i j) ((w.setCell ⟨p.g, i, none⟩ (.int .i64 (D j : Int))).setCell ⟨p.g, j, none⟩ (.int .i64 (D i : Int))) := by
  obtain ⟨cur, h1, h2⟩ := h.row
  have hkp : Kept [p.g] p.W0 ((w.setCell ⟨p.g, i, none⟩ (.int .i64 (D j : Int))).setCell ⟨p.g, j, none⟩ (.int .i64 (D i : Int))) := (h.kept.setCell (.inl (by simp)) _).setCell (.inl (by simp)) _
  refine ⟨hkp, ⟨_, block_set (block_set h1 i _) j _, fun k hk => ?_⟩, ?_, fun k hk => ?_, h.ne1, h.ne2⟩
  · have hs : ∀ k, k < p.n → k < cur.size := fun k hk => (Array.getElem?_eq_some_iff.1 (h2 k hk)).1
    unfold swp
    by_cases e1 : k = j
    · subst e1
      rw [if_neg (fun e => hij e.symm), if_pos rfl, Array.getElem?_setIfInBounds_self_of_lt (by simp; exact hs k hk)]
    · rw [Array.getElem?_setIfInBounds_ne (fun e => e1 e.symm)]
      by_cases e2 : k = i
      · subst e2
        rw [if_pos rfl, Array.getElem?_setIfInBounds_self_of_lt (hs k hk)]
      · rw [if_neg e2, if_neg e1, Array.getElem?_setIfInBounds_ne (fun e => e2 e.symm)]
        exact h2 k hk
  · rw [World.cell?_setCell_other _ _ _ _ (fun e => h.ne1 (by injection e with e1; exact e1.symm)), World.cell?_setCell_other _ _ _ _ (fun e => h.ne1 (by injection e with e1; exact e1.symm))]
    exact h.var
  · rw [World.cell?_setCell_other _ _ _ _ (fun e => h.ne2 (by injection e with e1; exact e1.symm)), World.cell?_setCell_other _ _ _ _ (fun e => h.ne2 (by injection e with e1; exact e1.symm))]
    exact h.txt k hk

set_option maxRecDepth 1000000 in
theorem sCompare_any (a b : ByteArray) (w : World) :
    Calls Tryd.prog 81 #[.string a, .string b] w fun e w' => e = .returned (.int .i64 (Lib.compareBytes a.data.toList b.data.toList)) ∧ w' = w := by
  have hc := @run_callFunc_extern Tryd.prog 158 _ Extern.BytealgCompare.compare Tryd.func158 (by kernel_rfl) (by kernel_rfl) (by kernel_rfl) (by kernel_rfl)
  have HC := (show Hid _ from hc)
  clear hc
  have HCS : Hid (Calls Tryd.prog 122 #[.string a, .string b] w fun e w' => e = .returned (.int .i64 (Lib.compareBytes a.data.toList b.data.toList)) ∧ w' = w) := by
    show Calls _ _ _ _ _
    go_enter Tryd.func122, Tryd.ntmps122
    go_wp2
    rw [HC.out, Lib.run_compareString]
    simp only [Result.andThen]
    rw [Oper.upon_value]
    go_wp2
    go_ret
    exact ⟨rfl, rfl⟩
  go_enter Tryd.func81, Tryd.ntmps81
  go_wp2_with fail
  refine Calls.mono HCS.out ?_
  rintro e w1 ⟨rfl, hw1⟩
  have hw1' := hw1.symm
  subst hw1'
  go_wp2
  go_ret
  exact ⟨rfl, rfl⟩

/-- What the comparing function answers. -/
def cmpV (X : Nat → ByteArray) (i j : Nat) : Int := Lib.compareBytes (X i).data.toList (X j).data.toList
theorem cmpV_less (X : Nat → ByteArray) (i j : Nat) : decide (cmpV X i j < 0) = ltX X i j := by
  unfold cmpV ltX
  rw [cmp_less, ByteArray.toList_eq, ByteArray.toList_eq]

set_option maxRecDepth 1000000 in
theorem order1_any (p : SP) (D : Nat → Nat) (a b : Nat) (w : World) (h : At p D w) (ha : a < p.n) (hb : b < p.n) :
    Calls Tryd.prog 80 #[.int .i64 (a : Int), .int .i64 (b : Int), .pointer (some ⟨p.tb, 0, none⟩)] w fun e w' => e = .returned (.int .i64 (cmpV p.X a b)) ∧ ∃ q, w' = w.drewN q := by
  have hv := h.var
  have ta := h.txt a ha
  have tb := h.txt b hb
  have a0 : (0 : Int) ≤ (a : Int) := by omega
  have a1 : (a : Int) < (p.n : Int) := by omega
  have b0 : (0 : Int) ≤ (b : Int) := by omega
  have b1 : (b : Int) < (p.n : Int) := by omega
  have HC : Hid (∀ w0, Calls Tryd.prog 81 #[.string (p.X a), .string (p.X b)] w0 fun e w' => e = .returned (.int .i64 (cmpV p.X a b)) ∧ w' = w0) := fun w0 => sCompare_any _ _ w0
  generalize cmpV p.X a b = cv at *
  generalize p.X a = xa at *
  generalize p.X b = xb at *
  clear h
  go_enter Tryd.func80, Tryd.ntmps80
  go_wp2_with fail
  go_quiet (first | (go_at_call 81; refine Calls.quiet_of_same (HC.out _)))
  go_wp2
  go_ret
  exact ⟨rfl, _, rfl⟩
end Go.Proofs.YtnjmplmogibgfabDoor
/- slices' swapRange and rotate by contracts. -/
namespace Go.Proofs.YtnjmplmogibgfabDoor
open Go.RowKit SortMath

/-- The comparing function, as it is handed on. -/
def cmpF (p : SP) : Value := .func (.func 80) #[] #[.pointer (some ⟨p.tb, 0, none⟩)]
/-- The row, as it is handed on. -/
def rowV (p : SP) : Value := .slice (some ⟨p.g, 0, none⟩) p.n p.cap

set_option maxRecDepth 1000000 in
set_option maxHeartbeats 2000000 in
theorem swapRange_any (p : SP) (hn : p.n ≤ 100) (D : Nat → Nat) (a b k : Nat) (f : Value) (w : World) (h : At p D w) (h1 : a + k ≤ b) (h2 : b + k ≤ p.n) :
    Calls Tryd.prog 210 #[rowV p, .int .i64 (a : Int), .int .i64 (b : Int), .int .i64 (k : Int), f] w fun e w' => e = .returned (.tuple #[]) ∧ At p (swR D a b k) w' := by
  have H : Hid (At p D w) := h
  unfold rowV
  clear h
  go_enter Tryd.func210, Tryd.ntmps210
  go_wp2_with fail
  go_loopw [10, 11, 12] (fun i _ _ wr => ∃ x : Nat, x ≤ k ∧ i = .int .i64 x ∧ At p (swR D a b x) wr) (fun i _ _ _ => k - (intOf i).toNat)
  case atStart => exact ⟨0, Nat.zero_le _, rfl, by rw [swR_zero]; exact H.out⟩
  case round =>
    obtain ⟨x, hx, rfl, hat⟩ := hrel
    by_cases hlt : x < k
    · have hxk : (x : Int) < (k : Int) := by omega
      have i1 : (0 : Int) ≤ (a : Int) + (x : Int) := by omega
      have i2 : (a : Int) + (x : Int) < (p.n : Int) := by omega
      have i3 : (0 : Int) ≤ (b : Int) + (x : Int) := by omega
      have i4 : (b : Int) + (x : Int) < (p.n : Int) := by omega
      have c1 := hat.cell (i := a + x) (by omega)
      have c2 := hat.cell (i := b + x) (by omega)
      have f1 := hat.free (a + x)
      have f2 := hat.free (b + x)
      have hsw := hat.swap (i := a + x) (j := b + x) (by omega) (by omega) (by omega)
      rw [swR_step D a b x (by omega)] at hsw
      have HSW := (show Hid _ from hsw)
      have hne : a + x ≠ b + x := by omega
      obtain ⟨u, hu⟩ : ∃ u, swR D a b x (a + x) = u := ⟨_, rfl⟩
      obtain ⟨v, hv⟩ : ∃ v, swR D a b x (b + x) = v := ⟨_, rfl⟩
      rw [hu] at c1 HSW
      rw [hv] at c2 HSW
      clear hat hsw hu hv
      go_wp2_with fail
      go_region
      all_goals (go_wp2; refine ⟨⟨x + 1, by omega, by go_num, HSW.out.drew⟩, ?_⟩; simp [intOf]; omega)
    · have hxe : x = k := by omega
      subst hxe
      have HAT := (show Hid _ from hat)
      clear hat
      go_wp2
      go_end0
      exact ⟨rfl, HAT.out⟩

set_option maxRecDepth 1000000 in
set_option maxHeartbeats 2000000 in
theorem rotate_any (p : SP) (hn : p.n ≤ 100) (D : Nat → Nat) (a m b : Nat) (f : Value) (w : World) (h : At p D w) (h1 : a < m) (h2 : m < b) (h3 : b ≤ p.n) :
    Calls Tryd.prog 188 #[rowV p, .int .i64 (a : Int), .int .i64 (m : Int), .int .i64 (b : Int), f] w fun e w' => e = .returned (.tuple #[]) ∧ At p (rot D a m b) w' := by
  have H : Hid (At p D w) := h
  have HI : Hid (RotInv (rot D a m b) D m (m - a) (b - m)) := rot_init D a m b (by omega) (by omega)
  obtain ⟨R, hR⟩ : ∃ R, R = rot D a m b := ⟨_, rfl⟩
  rw [← hR] at HI ⊢
  have e1 : ((m - a : Nat) : Int) = (m : Int) - (a : Int) := by omega
  have e2 : ((b - m : Nat) : Int) = (b : Int) - (m : Int) := by omega
  clear h hR
  unfold rowV
  go_enter Tryd.func188, Tryd.ntmps188
  go_wp2_with fail
  go_loopw [10, 11, 18] (fun i j _ wr => ∃ (x y : Nat) (E : Nat → Nat), 1 ≤ x ∧ 1 ≤ y ∧ x ≤ m ∧ m + y ≤ p.n ∧ i = .int .i64 x ∧ j = .int .i64 y ∧ At p E wr ∧ RotInv R E m x y) (fun i j _ _ => (intOf i).toNat + (intOf j).toNat)
  case atStart => exact ⟨m - a, b - m, D, by omega, by omega, by omega, by omega, by rw [e1], by rw [e2], H.out, HI.out⟩
  case round =>
    obtain ⟨x, y, E, hx1, hy1, hxm, hym, rfl, rfl, hat, hri⟩ := hrel
    have HAT := (show Hid _ from hat)
    have HRI := (show Hid _ from hri)
    clear hat hri HI H e1 e2
    rcases Nat.lt_trichotomy x y with hc | hc | hc
    · have hne : ((x : Int) != (y : Int)) = true := by rw [bne_iff_ne]; omega
      have hg : decide ((y : Int) < (x : Int)) = false := by simp; omega
      have HS : Hid (∀ w0, At p E w0 → Calls Tryd.prog 210 #[.slice (some ⟨p.g, 0, none⟩) p.n p.cap, .int .i64 ((m : Int) - (x : Int)), .int .i64 ((m : Int) + (y : Int) - (x : Int)), .int .i64 (x : Int), f] w0 fun e w' => e = .returned (.tuple #[]) ∧ At p (swR E (m - x) (m + y - x) x) w') := fun w0 h0 => by
        have := swapRange_any p hn E (m - x) (m + y - x) x f w0 h0 (by omega) (by omega)
        rw [show ((m - x : Nat) : Int) = (m : Int) - (x : Int) by omega, show ((m + y - x : Nat) : Int) = (m : Int) + (y : Int) - (x : Int) by omega] at this
        exact this
      go_wp2_with fail
      refine Calls.mono (HS.out _ HAT.out) ?_
      rintro e w1 ⟨rfl, hat1⟩
      have HAT1 := (show Hid _ from hat1)
      clear hat1 HS
      go_wp2
      go_roundw
      case rel => exact ⟨x, y - x, _, hx1, by omega, hxm, by omega, rfl, by rw [show ((y - x : Nat) : Int) = (y : Int) - (x : Int) by omega], HAT1.out, rot_lt HRI.out hxm hc⟩
      case measure => simp [intOf] <;> omega
    · subst hc
      have hne : ((x : Int) != (x : Int)) = false := by simp
      have HS : Hid (∀ w0, At p E w0 → Calls Tryd.prog 210 #[.slice (some ⟨p.g, 0, none⟩) p.n p.cap, .int .i64 ((m : Int) - (x : Int)), .int .i64 (m : Int), .int .i64 (x : Int), f] w0 fun e w' => e = .returned (.tuple #[]) ∧ At p (swR E (m - x) m x) w') := fun w0 h0 => by
        have := swapRange_any p hn E (m - x) m x f w0 h0 (by omega) (by omega)
        rw [show ((m - x : Nat) : Int) = (m : Int) - (x : Int) by omega] at this
        exact this
      go_wp2_with fail
      refine Calls.mono (HS.out _ HAT.out) ?_
      rintro e w1 ⟨rfl, hat1⟩
      rw [rot_eq HRI.out hxm] at hat1
      have HAT1 := (show Hid _ from hat1)
      clear hat1 HS
      go_wp2
      go_end0
      exact ⟨rfl, HAT1.out⟩
    · have hne : ((x : Int) != (y : Int)) = true := by rw [bne_iff_ne]; omega
      have hg : decide ((y : Int) < (x : Int)) = true := by simp; omega
      have HS : Hid (∀ w0, At p E w0 → Calls Tryd.prog 210 #[.slice (some ⟨p.g, 0, none⟩) p.n p.cap, .int .i64 ((m : Int) - (x : Int)), .int .i64 (m : Int), .int .i64 (y : Int), f] w0 fun e w' => e = .returned (.tuple #[]) ∧ At p (swR E (m - x) m y) w') := fun w0 h0 => by
        have := swapRange_any p hn E (m - x) m y f w0 h0 (by omega) (by omega)
        rw [show ((m - x : Nat) : Int) = (m : Int) - (x : Int) by omega] at this
        exact this
      go_wp2_with fail
      refine Calls.mono (HS.out _ HAT.out) ?_
      rintro e w1 ⟨rfl, hat1⟩
      have HAT1 := (show Hid _ from hat1)
      clear hat1 HS
      go_wp2
      go_roundw
      case rel => exact ⟨x - y, y, _, by omega, hy1, by omega, hym, by rw [show ((x - y : Nat) : Int) = (x : Int) - (y : Int) by omega], rfl, HAT1.out, rot_gt HRI.out hxm hc⟩
      case measure => simp [intOf] <;> omega
end Go.Proofs.YtnjmplmogibgfabDoor
/- slices' symMerge where one side is one alone, by its contract. -/
namespace Go.Proofs.YtnjmplmogibgfabDoor
open Go.RowKit SortMath

/-- What a merge answers. -/
def MergeOut (p : SP) (D : Nat → Nat) (a b : Nat) (e : Ending) (w' : World) : Prop := e = .returned (.tuple #[]) ∧ ∃ D', At p D' w' ∧ Sub D' D a b ∧ Srt (ltX p.X) D' a b

set_option maxRecDepth 1000000 in
set_option maxHeartbeats 4000000 in
theorem sym_left (p : SP) (hn : p.n ≤ 100) (D : Nat → Nat) (a m b : Nat) (w : World) (h : At p D w) (h1 : a + 1 = m) (h2 : m < b) (h3 : b ≤ p.n) (hN : ∀ k, k < p.n → D k < p.n) (hR : Srt (ltX p.X) D m b) (hX : Cross D a m b) :
    Calls Tryd.prog 157 #[rowV p, .int .i64 (a : Int), .int .i64 (m : Int), .int .i64 (b : Int), cmpF p] w fun e w' => MergeOut p D a b e w' := by
  have H : Hid (At p D w) := h
  have HR := (show Hid _ from hR)
  have HX := (show Hid _ from hX)
  have HN := (show Hid _ from hN)
  have d0 : ((m : Int) - (a : Int) == 1) = true := by rw [beq_iff_eq]; omega
  have hS := swX p.X
  have HS := (show Hid _ from hS)
  clear h hR hX hN hS
  unfold rowV cmpF
  go_enter Tryd.func157, Tryd.ntmps157
  go_wp2_with fail
  go_loopw [10, 11, 12] (fun i j _ wr => ∃ (x y : Nat), m ≤ x ∧ x ≤ y ∧ y ≤ b ∧ i = .int .i64 x ∧ j = .int .i64 y ∧ At p D wr ∧ (∀ h, m ≤ h → h < x → ltX p.X (D h) (D a) = true) ∧ (∀ h, y ≤ h → h < b → ltX p.X (D h) (D a) = false)) (fun i j _ _ => (intOf j).toNat - (intOf i).toNat)
  case atStart => exact ⟨m, b, Nat.le_refl _, by omega, Nat.le_refl _, rfl, rfl, H.out, fun h _ _ => by omega, fun h _ _ => by omega⟩
  case round =>
    obtain ⟨x, y, hx, hxy, hyb, rfl, rfl, hatr, p1, p2⟩ := hrel
    have HATR : Hid (At p D wr) := hatr
    clear hatr
    by_cases hlt : x < y
    · have hltI : (x : Int) < (y : Int) := by omega
      obtain ⟨z, hz⟩ : ∃ z, z = (x + y) / 2 := ⟨_, rfl⟩
      have hz1 : x ≤ z := by omega
      have hz2 : z < y := by omega
      have c1 := HATR.out.cell (i := z) (by omega)
      have c2 := HATR.out.cell (i := a) (by omega)
      have HC : Hid (∀ q', Calls Tryd.prog 80 #[.int .i64 (D z : Int), .int .i64 (D a : Int), .pointer (some ⟨p.tb, 0, none⟩)] (wr.drewN q') fun e w' => e = .returned (.int .i64 (cmpV p.X (D z) (D a))) ∧ ∃ q, w' = (wr.drewN q').drewN q) := fun q' => order1_any p D (D z) (D a) _ (HATR.out.drewN q') (HN.out z (by omega)) (HN.out a (by omega))
      have hcv := cmpV_less p.X (D z) (D a)
      have i1 : (0 : Int) ≤ (z : Int) := by omega
      have i2 : (z : Int) < (p.n : Int) := by omega
      have i3 : (0 : Int) ≤ (a : Int) := by omega
      have i4 : (a : Int) < (p.n : Int) := by omega
      have HZ : Hid (((x : Int) + (y : Int)) / 2 = (z : Int)) := by show _ = _; omega
      have HP1 := (show Hid _ from p1)
      have HP2 := (show Hid _ from p2)
      have HMONO : Hid (∀ h h', m ≤ h → h < h' → h' < b → ltX p.X (D h') (D a) = true → ltX p.X (D h) (D a) = true) := fun h h' g1 g2 g3 g4 => kl_lt HS.out (HR.out h h' g1 g2 g3) g4
      have HCV : Hid (∀ t, decide (cmpV p.X (D z) (D a) < 0) = t → ltX p.X (D z) (D a) = t) := fun t ht => by rw [← hcv]; exact ht
      generalize cmpV p.X (D z) (D a) = cv at *
      obtain ⟨dz, hdz⟩ : ∃ dz, D z = dz := ⟨_, rfl⟩
      obtain ⟨da, hda⟩ : ∃ da, D a = da := ⟨_, rfl⟩
      rw [hdz] at c1 HC
      rw [hda] at c2 HC
      clear hcv p1 p2 hdz hda hz
      go_wp2_with fail
      rw [HZ.out]
      cases ht : decide (cv < 0) with
      | true =>
        go_quiet (first | (go_at_call 80; refine Calls.quiet_of (HC.out _)))
        go_wp2
        go_roundw
        case rel =>
          refine ⟨z + 1, y, by omega, by omega, hyb, by go_num, rfl, HATR.out.drewN _, fun h g1 g2 => ?_, HP2.out⟩
          rcases Nat.lt_or_ge h z with g | g
          · exact HMONO.out h z g1 g (by omega) (HCV.out _ ht)
          · have : h = z := by omega
            rw [this]
            exact HCV.out _ ht
        case measure => simp [intOf] <;> omega
      | false =>
        go_quiet (first | (go_at_call 80; refine Calls.quiet_of (HC.out _)))
        go_wp2
        go_roundw
        case rel =>
          refine ⟨x, z, hx, by omega, by omega, rfl, rfl, HATR.out.drewN _, HP1.out, fun h g1 g2 => ?_⟩
          cases hh : ltX p.X (D h) (D a) with
          | false => rfl
          | true =>
            have hz0 := HCV.out _ ht
            rcases Nat.lt_or_ge z h with g | g
            · rw [HMONO.out z h (by omega) g g2 hh] at hz0
              cases hz0
            · have : h = z := by omega
              rw [this, hz0] at hh
              cases hh
        case measure => simp [intOf] <;> omega
    · have hxe : x = y := by omega
      subst hxe
      have HFIN : Hid (Sub (shl D a (x - 1)) D a b ∧ Srt (ltX p.X) (shl D a (x - 1)) a b) := by
        subst h1
        exact shl_fin HR.out HX.out hx hyb p1 p2
      have HAT : Hid (At p D wr) := HATR.out
      clear p1 p2 H HATR
      go_wp2_with fail
      go_loopw [13, 55, 56] (fun k _ _ wr => ∃ z : Nat, a ≤ z ∧ z ≤ x - 1 ∧ k = .int .i64 z ∧ At p (shl D a z) wr) (fun k _ _ _ => x - (intOf k).toNat)
      case atStart => exact ⟨a, Nat.le_refl _, by omega, rfl, by rw [shl_zero]; exact HAT.out⟩
      case round =>
        obtain ⟨z, hz1, hz2, rfl, hat⟩ := hrel
        by_cases hlt2 : z < x - 1
        · have j0 : (z : Int) < (x : Int) - 1 := by omega
          have j1 : (0 : Int) ≤ (z : Int) := by omega
          have j2 : (z : Int) < (p.n : Int) := by omega
          have j3 : (0 : Int) ≤ (z : Int) + 1 := by omega
          have j4 : (z : Int) + 1 < (p.n : Int) := by omega
          have c1 := hat.cell (i := z) (by omega)
          have c2 := hat.cell (i := z + 1) (by omega)
          have f1 := hat.free z
          have f2 := hat.free (z + 1)
          have hsw := hat.swap (i := z) (j := z + 1) (by omega) (by omega) (by omega)
          rw [shl_step D a z hz1] at hsw
          have HSW := (show Hid _ from hsw)
          obtain ⟨u, hu⟩ : ∃ u, shl D a z z = u := ⟨_, rfl⟩
          obtain ⟨v, hv⟩ : ∃ v, shl D a z (z + 1) = v := ⟨_, rfl⟩
          rw [hu] at c1 HSW
          rw [hv] at c2 HSW
          clear hat hsw hu hv HAT
          go_wp2_with fail
          go_region
          all_goals (go_wp2; refine ⟨⟨z + 1, by omega, by omega, by go_num, HSW.out.drew⟩, ?_⟩; simp [intOf]; omega)
        · have hze : z = x - 1 := by omega
          have j0 : decide ((z : Int) < (x : Int) - 1) = false := by simp; omega
          subst hze
          have HAT2 := (show Hid _ from hat)
          clear hat HAT
          go_wp2
          exact bodyPost_ret (v := .tuple #[]) (results_none rfl _ _ _) rfl ⟨rfl, _, HAT2.out, HFIN.out.1, HFIN.out.2⟩
end Go.Proofs.YtnjmplmogibgfabDoor
/- slices' symMerge where the right side is one alone, by its contract. -/
namespace Go.Proofs.YtnjmplmogibgfabDoor
open Go.RowKit SortMath

set_option maxRecDepth 1000000 in
set_option maxHeartbeats 4000000 in
theorem sym_right (p : SP) (hn : p.n ≤ 100) (D : Nat → Nat) (a m b : Nat) (w : World) (h : At p D w) (h1 : a + 1 < m) (h2 : m + 1 = b) (h3 : b ≤ p.n) (hN : ∀ k, k < p.n → D k < p.n) (hL : Srt (ltX p.X) D a m) (hX : Cross D a m b) :
    Calls Tryd.prog 157 #[rowV p, .int .i64 (a : Int), .int .i64 (m : Int), .int .i64 (b : Int), cmpF p] w fun e w' => MergeOut p D a b e w' := by
  have H : Hid (At p D w) := h
  have HR := (show Hid _ from hL)
  have HX := (show Hid _ from hX)
  have HN := (show Hid _ from hN)
  have d0 : ((m : Int) - (a : Int) == 1) = false := by rw [beq_eq_false_iff_ne]; omega
  have d1 : ((b : Int) - (m : Int) == 1) = true := by rw [beq_iff_eq]; omega
  have hS := swX p.X
  have HS := (show Hid _ from hS)
  clear h hL hX hN hS
  unfold rowV cmpF
  go_enter Tryd.func157, Tryd.ntmps157
  go_wp2_with fail
  go_loopw [14, 15, 16] (fun i j _ wr => ∃ (x y : Nat), a ≤ x ∧ x ≤ y ∧ y ≤ m ∧ i = .int .i64 x ∧ j = .int .i64 y ∧ At p D wr ∧ (∀ h, a ≤ h → h < x → ltX p.X (D m) (D h) = false) ∧ (∀ h, y ≤ h → h < m → ltX p.X (D m) (D h) = true)) (fun i j _ _ => (intOf j).toNat - (intOf i).toNat)
  case atStart => exact ⟨a, m, Nat.le_refl _, by omega, Nat.le_refl _, rfl, rfl, H.out, fun h _ _ => by omega, fun h _ _ => by omega⟩
  case round =>
    obtain ⟨x, y, hx, hxy, hyb, rfl, rfl, hatr, p1, p2⟩ := hrel
    have HATR : Hid (At p D wr) := hatr
    clear hatr
    by_cases hlt : x < y
    · have hltI : (x : Int) < (y : Int) := by omega
      obtain ⟨z, hz⟩ : ∃ z, z = (x + y) / 2 := ⟨_, rfl⟩
      have hz1 : x ≤ z := by omega
      have hz2 : z < y := by omega
      have c1 := HATR.out.cell (i := z) (by omega)
      have c2 := HATR.out.cell (i := m) (by omega)
      have HC : Hid (∀ q', Calls Tryd.prog 80 #[.int .i64 (D m : Int), .int .i64 (D z : Int), .pointer (some ⟨p.tb, 0, none⟩)] (wr.drewN q') fun e w' => e = .returned (.int .i64 (cmpV p.X (D m) (D z))) ∧ ∃ q, w' = (wr.drewN q').drewN q) := fun q' => order1_any p D (D m) (D z) _ (HATR.out.drewN q') (HN.out m (by omega)) (HN.out z (by omega))
      have hcv := cmpV_less p.X (D m) (D z)
      have i1 : (0 : Int) ≤ (z : Int) := by omega
      have i2 : (z : Int) < (p.n : Int) := by omega
      have i3 : (0 : Int) ≤ (m : Int) := by omega
      have i4 : (m : Int) < (p.n : Int) := by omega
      have HZ : Hid (((x : Int) + (y : Int)) / 2 = (z : Int)) := by show _ = _; omega
      have HP1 := (show Hid _ from p1)
      have HP2 := (show Hid _ from p2)
      have HMONO : Hid (∀ h h', a ≤ h → h < h' → h' < m → ltX p.X (D m) (D h) = true → ltX p.X (D m) (D h') = true) := fun h h' g1 g2 g3 g4 => lt_kl HS.out g4 (HR.out h h' g1 g2 g3)
      have HCV : Hid (∀ t, decide (cmpV p.X (D m) (D z) < 0) = t → ltX p.X (D m) (D z) = t) := fun t ht => by rw [← hcv]; exact ht
      generalize cmpV p.X (D m) (D z) = cv at *
      obtain ⟨dz, hdz⟩ : ∃ dz, D z = dz := ⟨_, rfl⟩
      obtain ⟨dm, hdm⟩ : ∃ dm, D m = dm := ⟨_, rfl⟩
      rw [hdz] at c1 HC
      rw [hdm] at c2 HC
      clear hcv p1 p2 hdz hdm hz
      go_wp2_with fail
      rw [HZ.out]
      cases ht : decide (cv < 0) with
      | true =>
        go_quiet (first | (go_at_call 80; refine Calls.quiet_of (HC.out _)))
        go_wp2
        go_roundw
        case rel =>
          refine ⟨x, z, hx, by omega, by omega, rfl, rfl, HATR.out.drewN _, HP1.out, fun h g1 g2 => ?_⟩
          have hz0 := HCV.out _ ht
          rcases Nat.lt_or_ge z h with g | g
          · exact HMONO.out z h (by omega) g g2 hz0
          · have : h = z := by omega
            rw [this]
            exact hz0
        case measure => simp [intOf] <;> omega
      | false =>
        go_quiet (first | (go_at_call 80; refine Calls.quiet_of (HC.out _)))
        go_wp2
        go_roundw
        case rel =>
          refine ⟨z + 1, y, by omega, by omega, hyb, by go_num, rfl, HATR.out.drewN _, fun h g1 g2 => ?_, HP2.out⟩
          have hz0 := HCV.out _ ht
          cases hh : ltX p.X (D m) (D h) with
          | false => rfl
          | true =>
            rcases Nat.lt_or_ge h z with g | g
            · rw [HMONO.out h z g1 g (by omega) hh] at hz0
              cases hz0
            · have : h = z := by omega
              rw [this, hz0] at hh
              cases hh
        case measure => simp [intOf] <;> omega
    · have hxe : x = y := by omega
      subst hxe
      have HFIN : Hid (Sub (shr D x m) D a b ∧ Srt (ltX p.X) (shr D x m) a b) := by
        subst h2
        exact shr_fin HR.out HX.out hx hyb p1 p2
      have HAT : Hid (At p D wr) := HATR.out
      clear p1 p2 H HATR
      go_wp2_with fail
      go_loopw [17, 108, 109] (fun k _ _ wr => ∃ z : Nat, x ≤ z ∧ z ≤ m ∧ k = .int .i64 z ∧ At p (shr D z m) wr) (fun k _ _ _ => (intOf k).toNat)
      case atStart => exact ⟨m, hyb, Nat.le_refl _, rfl, by rw [shr_zero]; exact HAT.out⟩
      case round =>
        obtain ⟨z, hz1, hz2, rfl, hat⟩ := hrel
        by_cases hlt2 : x < z
        · obtain ⟨y, rfl⟩ : ∃ y, z = y + 1 := ⟨z - 1, by omega⟩
          have j0 : (x : Int) < (y : Int) + 1 := by omega
          have j1 : (0 : Int) ≤ (y : Int) + 1 := by omega
          have j2 : (y : Int) + 1 < (p.n : Int) := by omega
          have j3 : (0 : Int) ≤ (y : Int) + 1 - 1 := by omega
          have j4 : (y : Int) + 1 - 1 < (p.n : Int) := by omega
          have c1 := hat.cell (i := y + 1) (by omega)
          have c2 := hat.cell (i := y) (by omega)
          have f1 := hat.free (y + 1)
          have f2 := hat.free y
          have hsw := hat.swap (i := y + 1) (j := y) (by omega) (by omega) (by omega)
          rw [shr_step D y m hz2] at hsw
          have HSW := (show Hid _ from hsw)
          obtain ⟨u, hu⟩ : ∃ u, shr D (y + 1) m (y + 1) = u := ⟨_, rfl⟩
          obtain ⟨v, hv⟩ : ∃ v, shr D (y + 1) m y = v := ⟨_, rfl⟩
          rw [hu] at c1 HSW
          rw [hv] at c2 HSW
          clear hat hsw hu hv HAT
          go_wp2_with fail
          go_region
          all_goals (go_wp2; refine ⟨⟨y, by omega, by omega, by go_num, HSW.out.drew⟩, ?_⟩; simp [intOf] <;> omega)
        · have hze : z = x := by omega
          have j0 : decide ((x : Int) < (z : Int)) = false := by simp; omega
          subst hze
          have HAT2 := (show Hid _ from hat)
          clear hat HAT
          go_wp2
          exact bodyPost_ret (v := .tuple #[]) (results_none rfl _ _ _) rfl ⟨rfl, _, HAT2.out, HFIN.out.1, HFIN.out.2⟩
end Go.Proofs.YtnjmplmogibgfabDoor
/- slices' insertion sort by its contract. -/
namespace Go.Proofs.YtnjmplmogibgfabDoor
open Go.RowKit SortMath

set_option maxRecDepth 1000000 in
set_option maxHeartbeats 4000000 in
theorem ins_any (p : SP) (hn : p.n ≤ 100) (D0 : Nat → Nat) (a b : Nat) (w : World) (h : At p D0 w) (h1 : a ≤ b) (h2 : b ≤ p.n) (hN : ∀ k, k < p.n → D0 k < p.n) (hI : ∀ i j, a ≤ i → i < j → j < b → D0 i < D0 j) :
    Calls Tryd.prog 156 #[rowV p, .int .i64 (a : Int), .int .i64 (b : Int), cmpF p] w fun e w' => e = .returned (.tuple #[]) ∧ ∃ D', At p D' w' ∧ Sub D' D0 a b ∧ Srt (ltX p.X) D' a b := by
  have H : Hid (At p D0 w) := h
  have HI := (show Hid _ from hI)
  have HN := (show Hid _ from hN)
  have HS : Hid (SW (ltX p.X)) := swX p.X
  clear h hI hN
  unfold rowV cmpF
  go_enter Tryd.func156, Tryd.ntmps156
  go_wp2_with fail
  go_loopw [8, 9, 12] (fun i _ _ wr => ∃ (x : Nat) (D : Nat → Nat), a + 1 ≤ x ∧ (x ≤ b ∨ x = a + 1) ∧ i = .int .i64 x ∧ At p D wr ∧ Sub D D0 a x ∧ Srt (ltX p.X) D a x ∧ x ≤ b + 1) (fun i _ _ _ => b + 1 - (intOf i).toNat)
  case atStart => exact ⟨a + 1, D0, Nat.le_refl _, .inr rfl, by go_num, H.out, Sub.refl _ _ _, fun i j g1 g2 g3 => by omega, by omega⟩
  case round =>
    obtain ⟨x, D, hx1, hx2, rfl, hat, hsub, hsrt, hx3⟩ := hrel
    have HAT := (show Hid _ from hat)
    have HSUB : Hid (Sub D D0 a x) := hsub
    have HSRT : Hid (Srt (ltX p.X) D a x) := hsrt
    clear hat hsub hsrt H
    by_cases hlt : x < b
    · have hltI : (x : Int) < (b : Int) := by omega
      have HX : Hid (Cross D a x (x + 1)) := fun i j g1 g2 g3 g4 => by
        obtain ⟨k, k1, k2, ek⟩ := HSUB.out.2 i g1 g2
        have : j = x := by omega
        rw [this, ek, HSUB.out.1 x (.inr (Nat.le_refl _))]
        exact HI.out k x k1 k2 hlt
      have HN2 : Hid (∀ k, k < p.n → D k < p.n) := HSUB.out.less (by omega) HN.out
      go_wp2_with fail
      go_loopw [9, 18, 19] (fun j _ _ wr => ∃ y : Nat, a ≤ y ∧ y ≤ x ∧ j = .int .i64 y ∧ At p (shr D y x) wr ∧ ∀ h, y ≤ h → h < x → ltX p.X (D x) (D h) = true) (fun j _ _ _ => (intOf j).toNat)
      case atStart => exact ⟨x, by omega, Nat.le_refl _, rfl, by rw [shr_zero]; exact HAT.out, fun h g1 g2 => by omega⟩
      case round =>
        obtain ⟨y, hy1, hy2, rfl, haty, p2⟩ := hrel
        have HATY := (show Hid _ from haty)
        have HP2 := (show Hid _ from p2)
        clear haty p2
        have HFIN : Hid ((∀ h, a ≤ h → h < y → ltX p.X (D x) (D h) = false) → Sub (shr D y x) D0 a (x + 1) ∧ Srt (ltX p.X) (shr D y x) a (x + 1)) := fun g => by
          have k := shr_fin HSRT.out HX.out hy1 hy2 g HP2.out
          exact ⟨k.1.trans (HSUB.out.wide (Nat.le_refl _) (by omega)), k.2⟩
        by_cases hya : a < y
        · obtain ⟨z, rfl⟩ : ∃ z, y = z + 1 := ⟨y - 1, by omega⟩
          have j0 : (a : Int) < (z : Int) + 1 := by omega
          have dj : decide ((a : Int) < (z : Int) + 1) = true := decide_eq_true j0
          have j1 : (0 : Int) ≤ (z : Int) + 1 := by omega
          have j2 : (z : Int) + 1 < (p.n : Int) := by omega
          have j3 : (0 : Int) ≤ (z : Int) + 1 - 1 := by omega
          have j4 : (z : Int) + 1 - 1 < (p.n : Int) := by omega
          have ex : shr D (z + 1) x (z + 1) = D x := by unfold shr; rw [if_neg (by omega), if_pos rfl]
          have ez : shr D (z + 1) x z = D z := by unfold shr; rw [if_neg (by omega), if_neg (by omega)]
          have c1 := HATY.out.cell (i := z + 1) (by omega)
          have c2 := HATY.out.cell (i := z) (by omega)
          have hsw := HATY.out.drewN
          rw [ex] at c1
          rw [ez] at c2
          have f1 : ∀ q, (wr.drewN q).frozen? ⟨p.g, z + 1, none⟩ = false := fun q => (HATY.out.drewN q).free (z + 1)
          have f2 : ∀ q, (wr.drewN q).frozen? ⟨p.g, z, none⟩ = false := fun q => (HATY.out.drewN q).free z
          have HSW : Hid (∀ q, At p (shr D z x) (((wr.drewN q).setCell ⟨p.g, z + 1, none⟩ (.int .i64 (D z : Int))).setCell ⟨p.g, z, none⟩ (.int .i64 (D x : Int)))) := fun q => by
            have k := (HATY.out.drewN q).swap (i := z + 1) (j := z) (by omega) (by omega) (by omega)
            rw [shr_step D z x hy2, ex, ez] at k
            exact k
          have HC : Hid (∀ q', Calls Tryd.prog 80 #[.int .i64 (D x : Int), .int .i64 (D z : Int), .pointer (some ⟨p.tb, 0, none⟩)] (wr.drewN q') fun e w' => e = .returned (.int .i64 (cmpV p.X (D x) (D z))) ∧ ∃ q, w' = (wr.drewN q').drewN q) := fun q' => order1_any p _ (D x) (D z) _ (HATY.out.drewN q') (HN2.out x (by omega)) (HN2.out z (by omega))
          have hcv := cmpV_less p.X (D x) (D z)
          have HCV : Hid (∀ t, decide (cmpV p.X (D x) (D z) < 0) = t → ltX p.X (D x) (D z) = t) := fun t ht => by rw [← hcv]; exact ht
          generalize cmpV p.X (D x) (D z) = cv at *
          obtain ⟨dx, hdx⟩ : ∃ dx, D x = dx := ⟨_, rfl⟩
          obtain ⟨dz, hdz⟩ : ∃ dz, D z = dz := ⟨_, rfl⟩
          rw [hdx] at c1 HC HSW
          rw [hdz] at c2 HC HSW
          clear hcv hdx hdz ex ez hsw
          cases ht : decide (cv < 0) with
          | true =>
            go_wp2_with fail
            go_quiet (first | (go_at_call 80; refine Calls.quiet_of (HC.out _)))
            have f1' := f1 nq
            have f2' := f2 nq
            go_wp2_with fail
            go_region
            all_goals
              go_wp2
              refine ⟨⟨z, by omega, by omega, by go_num, (HSW.out nq).drew, fun h g1 g2 => ?_⟩, ?_⟩
              · rcases Nat.lt_or_ge h (z + 1) with g | g
                · have : h = z := by omega
                  rw [this]
                  exact HCV.out _ ht
                · exact HP2.out h g g2
              · simp [intOf]
          | false =>
            go_wp2_with fail
            go_quiet (first | (go_at_call 80; refine Calls.quiet_of (HC.out _)))
            have HF2 := (show Hid _ from HFIN.out (fun h g1 g2 => by
              have hz0 := HCV.out _ ht
              cases hh : ltX p.X (D x) (D h) with
              | false => rfl
              | true =>
                rcases Nat.lt_or_ge h z with g | g
                · rw [lt_kl HS.out hh (HSRT.out h z g1 g (by omega))] at hz0
                  cases hz0
                · have : h = z := by omega
                  rw [this, hz0] at hh
                  cases hh))
            go_wp2
            go_roundw
            case rel => exact ⟨x + 1, _, by omega, .inl (by omega), by go_num, HATY.out.drewN _, HF2.out.1, HF2.out.2, by omega⟩
            case measure => simp [intOf] <;> omega
        · have hye : y = a := by omega
          have dj : decide ((a : Int) < (y : Int)) = false := by simp; omega
          have HF2 := (show Hid _ from HFIN.out (fun h g1 g2 => by omega))
          clear HFIN
          go_wp2_with fail
          go_quiet (fail)
          go_wp2
          go_roundw
          case rel => exact ⟨x + 1, _, by omega, .inl (by omega), by go_num, HATY.out.drewN _, HF2.out.1, HF2.out.2, by omega⟩
          case measure => simp [intOf] <;> omega
    · have hltI : decide ((x : Int) < (b : Int)) = false := by simp; omega
      go_wp2
      go_end0
      refine ⟨rfl, D, HAT.out, ?_⟩
      have hbx : b ≤ x := by omega
      rcases hx2 with g | g
      · have : x = b := by omega
        rw [← this]
        exact ⟨HSUB.out, HSRT.out⟩
      · refine ⟨?_, fun i j g1 g2 g3 => by omega⟩
        by_cases hab : a < b
        · have : x = b := by omega
          rw [← this]
          exact HSUB.out
        · have hba : b = a := by omega
          rw [hba]
          refine ⟨fun i _ => ?_, fun i g1 g2 => by omega⟩
          by_cases hi : a ≤ i ∧ i < x
          · obtain ⟨j, j1, j2, ej⟩ := HSUB.out.2 i hi.1 hi.2
            have e1 : i = a := by omega
            have e2 : j = a := by omega
            rw [ej, e1, e2]
          · exact HSUB.out.1 i (by omega)
end Go.Proofs.YtnjmplmogibgfabDoor
