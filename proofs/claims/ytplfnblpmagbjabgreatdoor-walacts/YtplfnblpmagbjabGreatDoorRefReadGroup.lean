/- The document's ReadTicks, by its contract. -/
import Derived.Test.YtplfnblpmagbjabGreatDoorRefTicksGroup
import Derived.Deep.AppendLies
import Derived.Deep.DeepCutAuto
import Derived.Test.YtplfnblpmagbjabGreatDoorRefMask2
import Derived.Test.YtplfnblpmagbjabGreatDoorBitMathGroup
import Derived.Test.YtplfnblpmagbjabGreatDoorRefUnwave
import Derived.Test.YtplfnblpmagbjabGreatDoorRefsGroup
namespace Go.Proofs.YtplfnblpmagbjabGreatDoor
open Go.RowKit

/-- What a number that was read says of the next tick, behind those that are there. -/
def nextTick (out : List Int) (t : Int) : Int := t + (if 0 < out.length then out.getD (out.length - 1) 0 else 0) + (if 1 < out.length then out.getD (out.length - 1) 0 - out.getD (out.length - 2) 0 else 0)
/-- A difference beyond all ticks. -/
def far (t : Int) : Bool := decide (8796093022208 < t) || decide (t < -8796093022208)
/-- f ticks more from place a on, behind those that are there: an error's number, the ticks, the place. -/
def readTo (bs : List Bool) : Nat → Nat → List Int → Nat × List Int × Nat
  | 0, a, out => (0, out, a)
  | f + 1, a, out =>
    if 0 < (BitMath.unwave (bs.drop a)).1 then ((BitMath.unwave (bs.drop a)).1, [], 0)
    else if (decide (0 < out.length) && far (BitMath.unwave (bs.drop a)).2.1) = true then (2, [], 0)
    else if isTick (nextTick out (BitMath.unwave (bs.drop a)).2.1) = true then readTo bs f (a + (BitMath.unwave (bs.drop a)).2.2) (out ++ [nextTick out (BitMath.unwave (bs.drop a)).2.1])
    else (2, [], 0)
theorem Tryz.infoIntR : (Tryz.prog.info? 3).map (fun i => (i.zero, i.size, i.bytes)) = some (some (.int .i64 0), 1, 8) := by kernel_rfl

theorem num_bound (o v : Nat) (ho : o ≤ 4) (hv : v < 2 ^ BitMath.wideOf o) : -9223372036854775808 ≤ BitMath.numOf o v ∧ BitMath.numOf o v ≤ 9223372036854775807 := by
  obtain rfl | rfl | rfl | rfl | rfl : o = 0 ∨ o = 1 ∨ o = 2 ∨ o = 3 ∨ o = 4 := by omega
  · simp [BitMath.numOf, BitMath.biasOf, BitMath.wideOf] at hv ⊢; omega
  · simp [BitMath.numOf, BitMath.biasOf, BitMath.wideOf] at hv ⊢; omega
  · simp [BitMath.numOf, BitMath.biasOf, BitMath.wideOf] at hv ⊢; omega
  · simp [BitMath.numOf, BitMath.biasOf, BitMath.wideOf] at hv ⊢; omega
  · have hv' : v < 18446744073709551616 := by have : (2 : Nat) ^ BitMath.wideOf 4 = 18446744073709551616 := rfl; omega
    unfold BitMath.numOf
    rw [if_pos rfl]
    split <;> omega
theorem wide_le (o : Nat) : BitMath.wideOf o ≤ 64 := by unfold BitMath.wideOf; split <;> omega
theorem unwave_bits_at (D : List Bool) (o h : Nat) (ho : BitMath.onesOf D 4 = o) (hh : h = if o < 4 then o + 1 else 4) (ho4 : o ≤ 4) : (BitMath.unwave D).2.2 ≤ D.length ∧ (BitMath.unwave D).2.2 ≤ 68 ∧ (BitMath.unwave D).1 ≤ 5 ∧ -9223372036854775808 ≤ (BitMath.unwave D).2.1 ∧ (BitMath.unwave D).2.1 ≤ 9223372036854775807 := by
  have hh4 : h ≤ 4 := by rw [hh]; split <;> omega
  by_cases hl : D.length < h + BitMath.wideOf o
  · rw [BitMath.unwave_short D o h ho hh hl]
    simp
  · have hw := wide_le o
    have hv := BitMath.valB_lt ((D.drop h).take (BitMath.wideOf o))
    have hlen : ((D.drop h).take (BitMath.wideOf o)).length = BitMath.wideOf o := by rw [List.length_take, List.length_drop]; omega
    rw [hlen] at hv
    have hb := num_bound o _ ho4 hv
    rw [BitMath.unwave_long D o h ho hh (by omega) _ rfl]
    generalize BitMath.valB ((D.drop h).take (BitMath.wideOf o)) = v at *
    by_cases he : BitMath.waveOf (BitMath.numOf o v) = D.take (h + BitMath.wideOf o)
    · rw [if_pos he]
      exact ⟨by simp only; omega, by simp only; omega, by simp only; omega, hb.1, hb.2⟩
    · rw [if_neg he]
      simp
theorem unwave_bits (D : List Bool) : (BitMath.unwave D).2.2 ≤ D.length ∧ (BitMath.unwave D).2.2 ≤ 68 ∧ (BitMath.unwave D).1 ≤ 5 ∧ -9223372036854775808 ≤ (BitMath.unwave D).2.1 ∧ (BitMath.unwave D).2.1 ≤ 9223372036854775807 :=
  unwave_bits_at D _ _ rfl rfl (BitMath.onesOf_le D 4)
theorem readTo_succ (bs : List Bool) (f a : Nat) (out : List Int) : readTo bs (f + 1) a out =
    if 0 < (BitMath.unwave (bs.drop a)).1 then ((BitMath.unwave (bs.drop a)).1, [], 0)
    else if (decide (0 < out.length) && far (BitMath.unwave (bs.drop a)).2.1) = true then (2, [], 0)
    else if isTick (nextTick out (BitMath.unwave (bs.drop a)).2.1) = true then readTo bs f (a + (BitMath.unwave (bs.drop a)).2.2) (out ++ [nextTick out (BitMath.unwave (bs.drop a)).2.1])
    else (2, [], 0) := rfl


/-- The cells of ints. -/
def intList (l : List Int) : List Value := l.map (Value.int .i64)
theorem intList_snoc (l : List Int) (x : Int) : intList l ++ [.int .i64 x] = intList (l ++ [x]) := by simp [intList]
theorem own_list {w : World} {base k : Nat} {v : Value} {out : List Int} (h : w.ownsRow base 3 1 v k (intList out)) (hk : 0 < k) (hl : out.length = k) :
    ∃ g cap, v = .slice (some ⟨g, 0, none⟩) k cap ∧ base ≤ g ∧ k ≤ cap ∧ ∀ j, j < k → w.cell? ⟨g, j, none⟩ = some (.int .i64 (out.getD j 0)) := by
  obtain ⟨_, h2⟩ := h
  rcases h2 with ⟨_, h0⟩ | ⟨g, cap, cur, hv, hg, hh, h1, h2, h3, h4⟩
  · omega
  · rw [Nat.mul_one] at h3 h4
    refine ⟨g, cap, hv, hg, h1, fun j hj => ?_⟩
    have e : (cur.toList.take k)[j]? = cur.toList[j]? := by rw [List.getElem?_take_of_lt hj]
    have e2 : w.cell? ⟨g, j, none⟩ = cur[j]? := by simp [World.cell?, hh]
    rw [e2, ← Array.getElem?_toList, ← e, h4, intList, List.getElem?_map, List.getElem?_eq_getElem (by omega), List.getD_eq_getElem?_getD, List.getElem?_eq_getElem (by omega)]
    rfl
theorem own_kept {w w' : World} {base : Nat} {e : TypeId} {s : Nat} {v : Value} {n : Nat} {xs : List Value} (h : w.ownsRow base e s v n xs) (hb : Below w.heap.size w w') : w'.ownsRow base e s v n xs := by
  obtain ⟨h1, h2⟩ := h
  refine ⟨h1, ?_⟩
  rcases h2 with h2 | ⟨g, cap, cur, hv, hg, hh, r⟩
  · exact .inl h2
  · have hl : g < w.heap.size := by
      rcases Nat.lt_or_ge g w.heap.size with h' | h'
      · exact h'
      · rw [Array.getElem?_eq_none h'] at hh; cases hh
    exact .inr ⟨g, cap, cur, hv, hg, (hb.block g hl).trans hh, r⟩
theorem grown_ints {w wr w1 : World} {v : Value} {C : Array Value} {n : Nat} {xs : List Value} (hb : Below w.heap.size w wr) (hown : wr.ownsRow w.heap.size 3 1 v n xs) (hgrow : (wr.alloc (.cells C 3)).grownBy w1 v.ownBlock) : Below w.heap.size w w1 := by
  have hba : Below w.heap.size w (wr.alloc (.cells C 3)) := hb.alloc hb.size _
  refine hba.trans ⟨hgrow.os, hgrow.tape, hgrow.output, hgrow.size, fun k hk => hgrow.block k (Nat.lt_of_lt_of_le hk hba.size) ?_⟩
  intro e
  rcases hown.2 with ⟨rfl, _⟩ | ⟨g, cap, cur, rfl, hg, _⟩
  · simp [Value.ownBlock] at e
  · simp [Value.ownBlock] at e
    omega
theorem getD_in (l : List Int) (i : Nat) (h : i < l.length) : l.getD i 0 ∈ l := by
  rw [List.getD_eq_getElem?_getD, List.getElem?_eq_getElem h, Option.getD_some]
  exact List.getElem_mem h

/-- What ReadTicks answers. -/
def TicksOut (w w' : World) (bs : List Bool) (a0 n : Nat) (e : Ending) : Prop :=
  Below w.heap.size w w' ∧ ((∃ (out : List Int) (a : Nat) (v : Value), readTo bs n a0 [] = (0, out, a) ∧ e = .returned (.tuple #[v, .int .i64 ((a : Int) - (a0 : Int)), .int .i64 0]) ∧ out.length = n ∧ a0 ≤ a ∧ a ≤ bs.length ∧ w'.ownsRow w.heap.size 3 1 v n (intList out) ∧ (∀ x, x ∈ out → isTick x = true)) ∨
    (∃ c : Nat, c ≠ 0 ∧ readTo bs n a0 [] = (c, [], 0) ∧ e = .returned (.tuple #[.slice none 0 0, .int .i64 0, .int .i64 (c : Int)])))

end Go.Proofs.YtplfnblpmagbjabGreatDoor
/- The document's ReadMask by its contract. -/
namespace Go.Proofs.YtplfnblpmagbjabGreatDoor
open Go.RowKit

theorem Tryz.infoU64 : (Tryz.prog.info? 32).map (fun i => (i.zero, i.size, i.bytes)) = some (some (.int .u64 0), 1, 8) := by kernel_rfl

/-- The cells of values. -/
def u64Cells (vs : List Nat) : List Value := vs.map fun (n : Nat) => .int .u64 (n : Int)
theorem u64Cells_snoc (vs : List Nat) (x : Nat) : u64Cells vs ++ [.int .u64 (x : Int)] = u64Cells (vs ++ [x]) := by simp [u64Cells]
theorem own_u64s {w : World} {base : Nat} {v : Value} {n : Nat} {vs : List Nat} (h : w.ownsRow base 32 1 v n (u64Cells vs)) (hl : vs.length = n) (hv : ∀ x, x ∈ vs → x < 18446744073709551616) (hn : 0 < n) :
    ∃ g cap, v = .slice (some ⟨g, 0, none⟩) n cap ∧ g < w.heap.size ∧ base ≤ g ∧ n ≤ cap ∧ U64s w (some ⟨g, 0, none⟩) n (BitMath.vf vs) := by
  obtain ⟨_, h2⟩ := h
  rcases h2 with ⟨_, h0⟩ | ⟨g, cap, cur, hv', hg, hh, h1, h2, h3, h4⟩
  · omega
  · rw [Nat.mul_one] at h3 h4
    have hgl : g < w.heap.size := by
      rcases Nat.lt_or_ge g w.heap.size with h' | h'
      · exact h'
      · rw [Array.getElem?_eq_none h'] at hh; cases hh
    refine ⟨g, cap, hv', hgl, hg, h1, .inr ⟨g, 0, rfl, fun k hk => ⟨?_, ?_⟩⟩⟩
    · have e0 : w.cell? ⟨g, k, none⟩ = cur[k]? := by simp [World.cell?, hh]
      rw [Nat.zero_add, e0, ← Array.getElem?_toList]
      have e : (cur.toList.take n)[k]? = cur.toList[k]? := by rw [List.getElem?_take_of_lt hk]
      rw [← e, h4, u64Cells, List.getElem?_map, List.getElem?_eq_getElem (by omega)]
      simp [BitMath.vf, List.getElem?_eq_getElem (show k < vs.length by omega)]
    · have : BitMath.vf vs k = vs[k]'(by omega) := by simp [BitMath.vf, List.getElem?_eq_getElem (show k < vs.length by omega)]
      rw [this]
      exact hv _ (List.getElem_mem _)

/-- What ReadMask answers. -/
def ReadOut (w w' : World) (D : List Bool) (n : Nat) (e : Ending) : Prop :=
  Below w.heap.size w w' ∧ ((∃ (vs : List Nat) (u : Nat) (v : Value), BitMath.maskRead D n = (0, vs, u) ∧ e = .returned (.tuple #[v, .int .i64 (u : Int), .int .i64 0]) ∧ vs.length = n ∧ u ≤ D.length ∧ w'.ownsRow w.heap.size 32 1 v n (u64Cells vs) ∧ (∀ x, x ∈ vs → x < 18446744073709551616) ∧ BitMath.maskTo (BitMath.vf vs) n = D.take u) ∨
    (∃ c : Nat, c ≠ 0 ∧ BitMath.maskRead D n = (c, [], 0) ∧ e = .returned (.tuple #[.slice none 0 0, .int .i64 0, .int .i64 (c : Int)])))

/-- The append of one value to the row of values, behind it. -/
theorem grown_below {w wr w1 : World} {v : Value} {C : Array Value} {n : Nat} {xs : List Value} (hb : Below w.heap.size w wr) (hown : wr.ownsRow w.heap.size 32 1 v n xs) (hgrow : (wr.alloc (.cells C 32)).grownBy w1 v.ownBlock) : Below w.heap.size w w1 := by
  have hba : Below w.heap.size w (wr.alloc (.cells C 32)) := hb.alloc hb.size _
  refine hba.trans ⟨hgrow.os, hgrow.tape, hgrow.output, hgrow.size, fun k hk => hgrow.block k (Nat.lt_of_lt_of_le hk hba.size) ?_⟩
  intro e
  rcases hown.2 with ⟨rfl, _⟩ | ⟨g, cap, cur, rfl, hg, _⟩
  · simp [Value.ownBlock] at e
  · simp [Value.ownBlock] at e
    omega

theorem own_keep {w w' : World} {base : Nat} {e : TypeId} {sz : Nat} {v : Value} {n : Nat} {xs : List Value} (h : w.ownsRow base e sz v n xs) (hb : Below w.heap.size w w') : w'.ownsRow base e sz v n xs := by
  obtain ⟨h1, h2⟩ := h
  refine ⟨h1, ?_⟩
  rcases h2 with h2 | ⟨g, cap, cur, hv, hg, hh, r⟩
  · exact .inl h2
  · have hl : g < w.heap.size := by
      rcases Nat.lt_or_ge g w.heap.size with h' | h'
      · exact h'
      · rw [Array.getElem?_eq_none h'] at hh; cases hh
    exact .inr ⟨g, cap, cur, hv, hg, (hb.block g hl).trans hh, r⟩
/-- A later value behind its head. -/
theorem readStep_eq (w : Bool × Nat × Nat) (p : Nat) (E : List Bool) (Lh Wd h X : Nat) (e0 : ¬ E.length = 0) (hb0 : E.getD 0 false = true) (e1 : ¬ E.length ≤ 1) (hn13 : ¬ (E.getD 1 false = true ∧ E.length < 13)) (hh : BitMath.headR w E = (Lh, Wd, h)) (hX : X = BitMath.valB ((E.drop h).take Wd) * 2 ^ (64 - Lh - Wd)) :
    BitMath.readStep w p E = if Wd = 0 ∨ 64 < Lh + Wd then (1, 0, 0) else if E.length < h + Wd then (5, 0, 0) else if X = 0 ∨ BitMath.mBits w X ≠ E.take (h + Wd) then (1, 0, 0) else (0, p ^^^ X, h + Wd) := by
  subst hX
  unfold BitMath.readStep
  rw [if_neg e0, if_neg (by rw [hb0]; decide), if_neg e1, if_neg hn13, hh]
theorem two_step (y t W : Nat) (hy : y < 2 ^ W) (ht : W + (t + 1) ≤ 64) : IntKind.u64.wrap (2 * ((y * 2 ^ t : Nat) : Int)) = ((y * 2 ^ (t + 1) : Nat) : Int) := by
  have h1 : y * 2 ^ (t + 1) < 2 ^ W * 2 ^ (t + 1) := Nat.mul_lt_mul_of_pos_right hy (Nat.two_pow_pos _)
  rw [← Nat.pow_add] at h1
  have h2 : 2 ^ (W + (t + 1)) ≤ 2 ^ 64 := Nat.pow_le_pow_right (by omega) ht
  have h3 : (2 : Nat) ^ 64 = 18446744073709551616 := rfl
  have h4 : 2 * (y * 2 ^ t) = y * 2 ^ (t + 1) := by rw [Nat.pow_succ, Nat.mul_comm 2, Nat.mul_assoc]
  rw [IntWalk.u64_in _ (by omega)]
  omega
theorem mul_lt_64 (y t W : Nat) (hy : y < 2 ^ W) (ht : W + t ≤ 64) : y * 2 ^ t < 18446744073709551616 := by
  have h1 : y * 2 ^ t < 2 ^ W * 2 ^ t := Nat.mul_lt_mul_of_pos_right hy (Nat.two_pow_pos _)
  rw [← Nat.pow_add] at h1
  have h2 : 2 ^ (W + t) ≤ 2 ^ 64 := Nat.pow_le_pow_right (by omega) ht
  have h3 : (2 : Nat) ^ 64 = 18446744073709551616 := rfl
  omega

/-- The window behind a value that Put would make so. -/
theorem next_win (w : Bool × Nat × Nat) (E : List Bool) (X Lh Wd h : Nat) (hX : X < 18446744073709551616) (h0 : X ≠ 0) (hb0 : E.getD 0 false = true) (hh : BitMath.headR w E = (Lh, Wd, h)) (hm : BitMath.mBits w X = E.take (h + Wd)) :
    ∃ W' T', BitMath.mNext w X = (W', Lh, T') ∧ BitMath.wideW (W', Lh, T') = Wd := by
  unfold BitMath.headR at hh
  by_cases hf : E.getD 1 false = true
  · rw [if_pos hf] at hh
    simp at hh
    obtain ⟨rfl, rfl, rfl⟩ := hh
    obtain ⟨e1, e2⟩ := BitMath.head_new w X hX E _ (by omega) h0 hf hm
    rw [e1] at e2
    exact ⟨_, _, e1, e2⟩
  · rw [if_neg hf] at hh
    simp at hh
    obtain ⟨rfl, rfl, rfl⟩ := hh
    have e := BitMath.head_old w X E _ (by omega) h0 (by simpa using hf) hb0 hm
    obtain ⟨W, L, T⟩ := w
    exact ⟨W, T, e, rfl⟩

/-- A value more. -/
theorem mask_next {D E : List Bool} {vs : List Nat} {w : Bool × Nat × Nat} {u j p m x : Nat} (hE : E = D.drop u) (hu : u ≤ D.length) (hvl : vs.length = j + 1) (hwin : BitMath.winTo (BitMath.vf vs) (j + 1) = w) (hmask : BitMath.maskTo (BitMath.vf vs) (j + 1) = D.take u) (hp : BitMath.vf vs j = p) (hm : m ≤ E.length) (hb : BitMath.mBits w x = E.take m) :
    (vs ++ [p ^^^ x]).length = j + 2 ∧ BitMath.winTo (BitMath.vf (vs ++ [p ^^^ x])) (j + 2) = BitMath.mNext w x ∧ BitMath.maskTo (BitMath.vf (vs ++ [p ^^^ x])) (j + 2) = D.take (u + m) ∧ u + m ≤ D.length := by
  have h := BitMath.maskTo_next vs x (by omega)
  rw [hvl, Nat.add_sub_cancel, hp, hwin, hmask] at h
  rw [hE, List.length_drop] at hm
  refine ⟨by simp [hvl], h.2, ?_, by omega⟩
  rw [h.1, hb, hE, List.take_add]

end Go.Proofs.YtplfnblpmagbjabGreatDoor
/- The document's row of a chunk and its chunk, by contracts: RowOf, ChunkOf. -/
namespace Go.Proofs.YtplfnblpmagbjabGreatDoor
open Go.RowKit

/-- A row that another one's growth leaves. -/
theorem own_far {w w' : World} {base : Nat} {e : TypeId} {s : Nat} {v : Value} {n : Nat} {xs : List Value} {row : Option Nat} (h : w.ownsRow base e s v n xs) (hg : w.grownBy w' row) (hne : ∀ g, v.ownBlock = some g → row ≠ some g) : w'.ownsRow base e s v n xs := by
  obtain ⟨h1, h2⟩ := h
  refine ⟨h1, ?_⟩
  rcases h2 with h2 | ⟨g, cap, cur, hv, hgb, hh, r⟩
  · exact .inl h2
  · have hl : g < w.heap.size := by
      rcases Nat.lt_or_ge g w.heap.size with h' | h'
      · exact h'
      · rw [Array.getElem?_eq_none h'] at hh; cases hh
    have hx := hne g (by rw [hv]; rfl)
    exact .inr ⟨g, cap, cur, hv, hgb, (hg.block g hl (fun e => hx e.symm)).trans hh, r⟩
theorem own_lt {w : World} {base : Nat} {e : TypeId} {s : Nat} {v : Value} {n : Nat} {xs : List Value} (h : w.ownsRow base e s v n xs) : ∀ g, v.ownBlock = some g → g < w.heap.size ∧ base ≤ g := by
  intro g hg
  rcases h.2 with ⟨rfl, _⟩ | ⟨g', cap, cur, rfl, hgb, hh, _⟩
  · simp [Value.ownBlock] at hg
  · simp [Value.ownBlock] at hg
    subst hg
    refine ⟨?_, hgb⟩
    rcases Nat.lt_or_ge g' w.heap.size with h' | h'
    · exact h'
    · rw [Array.getElem?_eq_none h'] at hh; cases hh
theorem grown_far {w wr w1 : World} {v : Value} {o : Obj} {e : TypeId} {s n : Nat} {xs : List Value} (hb : Below w.heap.size w wr) (hown : wr.ownsRow w.heap.size e s v n xs) (hgrow : (wr.alloc o).grownBy w1 v.ownBlock) : Below w.heap.size w w1 := by
  have hba : Below w.heap.size w (wr.alloc o) := hb.alloc hb.size _
  refine hba.trans ⟨hgrow.os, hgrow.tape, hgrow.output, hgrow.size, fun k hk => hgrow.block k (Nat.lt_of_lt_of_le hk hba.size) ?_⟩
  intro he
  have := (own_lt hown k he.symm).2
  omega
/-- The bits of a chunk. -/
def rowBits (T : Nat → Int) (B : Nat → Nat) (n : Nat) : List Bool := BitMath.bitsOf n 8 ++ ticksTo T n ++ BitMath.maskTo B n
theorem length_rowBits (T : Nat → Int) (B : Nat → Nat) (n : Nat) : (rowBits T B n).length ≤ 8 + 145 * n := by
  have h1 := length_ticksTo T n
  have h2 := BitMath.length_maskTo B n
  simp only [rowBits, List.length_append, BitMath.length_bitsOf]
  omega
def firstInts (T : Nat → Int) (n : Nat) : List Int := (List.range n).map T
def firstNats (B : Nat → Nat) (n : Nat) : List Nat := (List.range n).map B
theorem firstInts_step (T : Nat → Int) (k : Nat) : firstInts T (k + 1) = firstInts T k ++ [T k] := by simp [firstInts, List.range_succ]
theorem firstNats_step (B : Nat → Nat) (k : Nat) : firstNats B (k + 1) = firstNats B k ++ [B k] := by simp [firstNats, List.range_succ]
theorem vf_first (B : Nat → Nat) (n i : Nat) (h : i < n) : BitMath.vf (firstNats B n) i = B i := by simp [BitMath.vf, firstNats, h]
theorem ints_own {w : World} {base n : Nat} {v : Value} {T : Nat → Int} (h : w.ownsRow base 3 1 v n (intList (firstInts T n))) : ∃ a c, v = .slice a n c ∧ Ints w a n T := by
  by_cases hn : n = 0
  · subst hn
    rcases h.2 with ⟨rfl, _⟩ | ⟨g, cap, cur, rfl, _⟩
    · exact ⟨none, 0, rfl, .inl rfl⟩
    · exact ⟨_, _, rfl, .inl rfl⟩
  · obtain ⟨g, cap, rfl, _, _, hc⟩ := own_list h (by omega) (by simp [firstInts])
    refine ⟨_, _, rfl, .inr ⟨g, 0, rfl, fun k hk => ?_⟩⟩
    rw [Nat.zero_add, hc k hk]
    simp [firstInts, hk]
theorem u64s_own {w : World} {base n : Nat} {v : Value} {B : Nat → Nat} (h : w.ownsRow base 32 1 v n (u64Cells (firstNats B n))) (hB : ∀ i, i < n → B i < 18446744073709551616) : ∃ a c, v = .slice a n c ∧ U64s w a n B := by
  by_cases hn : n = 0
  · subst hn
    rcases h.2 with ⟨rfl, _⟩ | ⟨g, cap, cur, rfl, _⟩
    · exact ⟨none, 0, rfl, .inl rfl⟩
    · exact ⟨_, _, rfl, .inl rfl⟩
  · obtain ⟨g, cap, rfl, _, _, _, hU⟩ := own_u64s h (by simp [firstNats]) (by
      intro x hx
      simp [firstNats] at hx
      obtain ⟨i, hi, rfl⟩ := hx
      exact hB i hi) (by omega)
    refine ⟨_, _, rfl, ?_⟩
    rcases hU with h0 | ⟨b, o, e, hc⟩
    · omega
    · refine .inr ⟨b, o, e, fun k hk => ?_⟩
      have := hc k hk
      rw [vf_first B n k hk] at this
      exact this

/-- The bytes of a chunk. -/
def chunkBytes (T : Nat → Int) (B : Nat → Nat) (n : Nat) : List UInt8 := BitMath.sealOf (BitMath.pack (rowBits T B n))
end Go.Proofs.YtplfnblpmagbjabGreatDoor
