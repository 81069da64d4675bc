/- Numbers in a row of one's own, sorted by texts: the world of it, and the comparing function. -/
import Derived.Test.YtfanagohfimnkaaDoorSortMath
import Derived.Test.YtfanagohfimnkaaDoorRefLabOfGroup
import Derived.Lib.Bytealg
import Derived.Laws.Externs
import Derived.Sort.Walk0
import Derived.Deep.QuietTactic
import Derived.BigQuiet
namespace Go.Proofs.YtfanagohfimnkaaDoor
open Go.RowKit SortMath

/-- Is the i-th text less than the j-th? -/
def ltX (X : Nat → ByteArray) (i j : Nat) : Bool := Op.bytesLess (X i).toList (X j).toList
theorem swX (X : Nat → ByteArray) : SW (ltX X) := by
  have key : ∀ i j, ltX X i j = decide ((X i).toList < (X j).toList) := fun i j => bytesLess_eq _ _
  refine ⟨fun i j h => ?_, fun i j k h => ?_⟩
  · rw [key] at h ⊢
    have h' := of_decide_eq_true h
    exact decide_eq_false (fun g => List.lt_irrefl _ (List.lt_trans h' g))
  · rw [key] at h
    have h' := of_decide_eq_true h
    rw [key, key]
    by_cases g : (X i).toList < (X j).toList
    · exact .inl (decide_eq_true g)
    · refine .inr (decide_eq_true ?_)
      have g' : (X j).toList ≤ (X i).toList := List.not_lt.1 g
      exact List.lt_of_le_of_lt g' h'
theorem cmp_less : ∀ (a b : List UInt8), decide (Lib.compareBytes a b < 0) = Op.bytesLess a b
  | [], [] => by simp [Lib.compareBytes, Op.bytesLess]
  | [], _ :: _ => by simp [Lib.compareBytes, Op.bytesLess]
  | _ :: _, [] => by simp [Lib.compareBytes, Op.bytesLess]
  | x :: xs, y :: ys => by
    rw [bytesLess_eq, Lib.compareBytes]
    have ih := cmp_less xs ys
    rw [bytesLess_eq] at ih
    simp only [List.cons_lt_cons_iff]
    by_cases h1 : x < y
    · simp [h1]
    · rw [if_neg h1]
      by_cases h2 : y < x
      · have hne : x ≠ y := fun e => by subst e; exact UInt8.lt_irrefl _ h2
        simp [h1, h2, hne]
      · have he : x = y := UInt8.le_antisymm (UInt8.not_lt.1 h2) (UInt8.not_lt.1 h1)
        subst he
        rw [if_neg h2, ih]
        simp

/-- The row of n numbers in block g; texts X in block hb, by way of the variable in block tb; all else as in W0. -/
structure SP where
  W0 : World
  g : Nat
  tb : Nat
  hb : Nat
  n : Nat
  cap : Nat
  cc : Nat
  X : Nat → ByteArray
structure At (p : SP) (D : Nat → Nat) (w : World) : Prop where
  kept : Kept [p.g] p.W0 w
  row : ∃ cur, w.heap[p.g]? = some (.cells cur 3 (0, 0)) ∧ ∀ i, i < p.n → cur[i]? = some (.int .i64 (D i : Int))
  var : w.cell? ⟨p.tb, 0, none⟩ = some (.slice (some ⟨p.hb, 0, none⟩) p.n p.cc)
  txt : ∀ i, i < p.n → w.cell? ⟨p.hb, i, none⟩ = some (.string (p.X i))
  ne1 : p.tb ≠ p.g
  ne2 : p.hb ≠ p.g
theorem At.cell {p : SP} {D : Nat → Nat} {w : World} (h : At p D w) {i : Nat} (hi : i < p.n) : w.cell? ⟨p.g, i, none⟩ = some (.int .i64 (D i : Int)) := by
  obtain ⟨cur, h1, h2⟩ := h.row
  have := h2 i hi
  simp [World.cell?, h1, this]
theorem At.free {p : SP} {D : Nat → Nat} {w : World} (h : At p D w) (i : Nat) : w.frozen? ⟨p.g, i, none⟩ = false := by
  obtain ⟨cur, h1, h2⟩ := h.row
  simp [World.frozen?, h1]
theorem At.lt {p : SP} {D : Nat → Nat} {w : World} (h : At p D w) : p.g < w.heap.size := by
  obtain ⟨cur, h1, h2⟩ := h.row
  exact blk_lt h1
theorem At.drewN {p : SP} {D : Nat → Nat} {w : World} (h : At p D w) (q : Nat) : At p D (w.drewN q) :=
  ⟨⟨h.kept.os, h.kept.tape, h.kept.output, h.kept.size, h.kept.block⟩, h.row, h.var, h.txt, h.ne1, h.ne2⟩
theorem At.drew {p : SP} {D : Nat → Nat} {w : World} (h : At p D w) : At p D w.drew :=
  ⟨⟨h.kept.os, h.kept.tape, h.kept.output, h.kept.size, h.kept.block⟩, h.row, h.var, h.txt, h.ne1, h.ne2⟩
theorem At.swap {p : SP} {D : Nat → Nat} {w : World} (h : At p D w) {i j : Nat} (hi : i < p.n) (hj : j < p.n) (hij : i ≠ j) :
    At p (swp D i j) ((w.setCell ⟨p.g, i, none⟩ (.int .i64 (D j : Int))).setCell ⟨p.g, j, none⟩ (.int .i64 (D i : Int))) := by
  obtain ⟨cur, h1, h2⟩ := h.row
  have hkp : Kept [p.g] p.W0 ((w.setCell ⟨p.g, i, none⟩ (.int .i64 (D j : Int))).setCell ⟨p.g, j, none⟩ (.int .i64 (D i : Int))) := (h.kept.setCell (.inl (by simp)) _).setCell (.inl (by simp)) _
  refine ⟨hkp, ⟨_, block_set (block_set h1 i _) j _, fun k hk => ?_⟩, ?_, fun k hk => ?_, h.ne1, h.ne2⟩
  · have hs : ∀ k, k < p.n → k < cur.size := fun k hk => (Array.getElem?_eq_some_iff.1 (h2 k hk)).1
    unfold swp
    by_cases e1 : k = j
    · subst e1
      rw [if_neg (fun e => hij e.symm), if_pos rfl, Array.getElem?_setIfInBounds_self_of_lt (by simp; exact hs k hk)]
    · rw [Array.getElem?_setIfInBounds_ne (fun e => e1 e.symm)]
      by_cases e2 : k = i
      · subst e2
        rw [if_pos rfl, Array.getElem?_setIfInBounds_self_of_lt (hs k hk)]
      · rw [if_neg e2, if_neg e1, Array.getElem?_setIfInBounds_ne (fun e => e2 e.symm)]
        exact h2 k hk
  · rw [World.cell?_setCell_other _ _ _ _ (fun e => h.ne1 (by injection e with e1; exact e1.symm)), World.cell?_setCell_other _ _ _ _ (fun e => h.ne1 (by injection e with e1; exact e1.symm))]
    exact h.var
  · rw [World.cell?_setCell_other _ _ _ _ (fun e => h.ne2 (by injection e with e1; exact e1.symm)), World.cell?_setCell_other _ _ _ _ (fun e => h.ne2 (by injection e with e1; exact e1.symm))]
    exact h.txt k hk

set_option maxRecDepth 1000000 in
theorem sCompare_any (a b : ByteArray) (w : World) :
    Calls Tryd.prog 46 #[.string a, .string b] w fun e w' => e = .returned (.int .i64 (Lib.compareBytes a.data.toList b.data.toList)) ∧ w' = w := by
  have hc := @run_callFunc_extern Tryd.prog 82 _ Extern.BytealgCompare.compare Tryd.func82 (by kernel_rfl) (by kernel_rfl) (by kernel_rfl) (by kernel_rfl)
  have HC := (show Hid _ from hc)
  clear hc
  have HCS : Hid (Calls Tryd.prog 64 #[.string a, .string b] w fun e w' => e = .returned (.int .i64 (Lib.compareBytes a.data.toList b.data.toList)) ∧ w' = w) := by
    show Calls _ _ _ _ _
    go_enter Tryd.func64, Tryd.ntmps64
    go_wp2
    rw [HC.out, Lib.run_compareString]
    simp only [Result.andThen]
    rw [Oper.upon_value]
    go_wp2
    go_ret
    exact ⟨rfl, rfl⟩
  go_enter Tryd.func46, Tryd.ntmps46
  go_wp2_with fail
  refine Calls.mono HCS.out ?_
  rintro e w1 ⟨rfl, hw1⟩
  have hw1' := hw1.symm
  subst hw1'
  go_wp2
  go_ret
  exact ⟨rfl, rfl⟩

/-- What the comparing function answers. -/
def cmpV (X : Nat → ByteArray) (i j : Nat) : Int := Lib.compareBytes (X i).data.toList (X j).data.toList
theorem cmpV_less (X : Nat → ByteArray) (i j : Nat) : decide (cmpV X i j < 0) = ltX X i j := by
  unfold cmpV ltX
  rw [cmp_less, ByteArray.toList_eq, ByteArray.toList_eq]

set_option maxRecDepth 1000000 in
theorem order1_any (p : SP) (D : Nat → Nat) (a b : Nat) (w : World) (h : At p D w) (ha : a < p.n) (hb : b < p.n) :
    Calls Tryd.prog 45 #[.int .i64 (a : Int), .int .i64 (b : Int), .pointer (some ⟨p.tb, 0, none⟩)] w fun e w' => e = .returned (.int .i64 (cmpV p.X a b)) ∧ ∃ q, w' = w.drewN q := by
  have hv := h.var
  have ta := h.txt a ha
  have tb := h.txt b hb
  have a0 : (0 : Int) ≤ (a : Int) := by omega
  have a1 : (a : Int) < (p.n : Int) := by omega
  have b0 : (0 : Int) ≤ (b : Int) := by omega
  have b1 : (b : Int) < (p.n : Int) := by omega
  have HC : Hid (∀ w0, Calls Tryd.prog 46 #[.string (p.X a), .string (p.X b)] w0 fun e w' => e = .returned (.int .i64 (cmpV p.X a b)) ∧ w' = w0) := fun w0 => sCompare_any _ _ w0
  generalize cmpV p.X a b = cv at *
  generalize p.X a = xa at *
  generalize p.X b = xb at *
  clear h
  go_enter Tryd.func45, Tryd.ntmps45
  go_wp2_with fail
  go_quiet (first | (go_at_call 46; refine Calls.quiet_of_same (HC.out _)))
  go_wp2
  go_ret
  exact ⟨rfl, _, rfl⟩
end Go.Proofs.YtfanagohfimnkaaDoor
