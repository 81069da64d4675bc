/- The document's ReadMask by its contract. -/
import Derived.Test.YtfanagohfimnkaaDoorRefMask2
import Derived.Test.YtfanagohfimnkaaDoorMaskMath2
import Derived.Test.YtfanagohfimnkaaDoorRefUnwave
import Derived.Deep.AppendLies
import Derived.Deep.DeepCutAuto
namespace Go.Proofs.YtfanagohfimnkaaDoor
open Go.RowKit

theorem Tryd.infoU64 : (Tryd.prog.info? 49).map (fun i => (i.zero, i.size, i.bytes)) = some (some (.int .u64 0), 1, 8) := by kernel_rfl

/-- The cells of values. -/
def u64Cells (vs : List Nat) : List Value := vs.map fun (n : Nat) => .int .u64 (n : Int)
theorem u64Cells_snoc (vs : List Nat) (x : Nat) : u64Cells vs ++ [.int .u64 (x : Int)] = u64Cells (vs ++ [x]) := by simp [u64Cells]
theorem own_u64s {w : World} {base : Nat} {v : Value} {n : Nat} {vs : List Nat} (h : w.ownsRow base 49 1 v n (u64Cells vs)) (hl : vs.length = n) (hv : ∀ x, x ∈ vs → x < 18446744073709551616) (hn : 0 < n) :
    ∃ g cap, v = .slice (some ⟨g, 0, none⟩) n cap ∧ g < w.heap.size ∧ base ≤ g ∧ n ≤ cap ∧ U64s w (some ⟨g, 0, none⟩) n (BitMath.vf vs) := by
  obtain ⟨_, h2⟩ := h
  rcases h2 with ⟨_, h0⟩ | ⟨g, cap, cur, hv', hg, hh, h1, h2, h3, h4⟩
  · omega
  · rw [Nat.mul_one] at h3 h4
    have hgl : g < w.heap.size := by
      rcases Nat.lt_or_ge g w.heap.size with h' | h'
      · exact h'
      · rw [Array.getElem?_eq_none h'] at hh; cases hh
    refine ⟨g, cap, hv', hgl, hg, h1, .inr ⟨g, 0, rfl, fun k hk => ⟨?_, ?_⟩⟩⟩
    · have e0 : w.cell? ⟨g, k, none⟩ = cur[k]? := by simp [World.cell?, hh]
      rw [Nat.zero_add, e0, ← Array.getElem?_toList]
      have e : (cur.toList.take n)[k]? = cur.toList[k]? := by rw [List.getElem?_take_of_lt hk]
      rw [← e, h4, u64Cells, List.getElem?_map, List.getElem?_eq_getElem (by omega)]
      simp [BitMath.vf, List.getElem?_eq_getElem (show k < vs.length by omega)]
    · have : BitMath.vf vs k = vs[k]'(by omega) := by simp [BitMath.vf, List.getElem?_eq_getElem (show k < vs.length by omega)]
      rw [this]
      exact hv _ (List.getElem_mem _)

/-- What ReadMask answers. -/
def ReadOut (w w' : World) (D : List Bool) (n : Nat) (e : Ending) : Prop :=
  Below w.heap.size w w' ∧ ((∃ (vs : List Nat) (u : Nat) (v : Value), BitMath.maskRead D n = (0, vs, u) ∧ e = .returned (.tuple #[v, .int .i64 (u : Int), .int .i64 0]) ∧ vs.length = n ∧ u ≤ D.length ∧ w'.ownsRow w.heap.size 49 1 v n (u64Cells vs) ∧ (∀ x, x ∈ vs → x < 18446744073709551616) ∧ BitMath.maskTo (BitMath.vf vs) n = D.take u) ∨
    (∃ c : Nat, c ≠ 0 ∧ BitMath.maskRead D n = (c, [], 0) ∧ e = .returned (.tuple #[.slice none 0 0, .int .i64 0, .int .i64 (c : Int)])))

/-- The append of one value to the row of values, behind it. -/
theorem grown_below {w wr w1 : World} {v : Value} {C : Array Value} {n : Nat} {xs : List Value} (hb : Below w.heap.size w wr) (hown : wr.ownsRow w.heap.size 49 1 v n xs) (hgrow : (wr.alloc (.cells C 49)).grownBy w1 v.ownBlock) : Below w.heap.size w w1 := by
  have hba : Below w.heap.size w (wr.alloc (.cells C 49)) := hb.alloc hb.size _
  refine hba.trans ⟨hgrow.os, hgrow.tape, hgrow.output, hgrow.size, fun k hk => hgrow.block k (Nat.lt_of_lt_of_le hk hba.size) ?_⟩
  intro e
  rcases hown.2 with ⟨rfl, _⟩ | ⟨g, cap, cur, rfl, hg, _⟩
  · simp [Value.ownBlock] at e
  · simp [Value.ownBlock] at e
    omega

theorem own_keep {w w' : World} {base : Nat} {e : TypeId} {sz : Nat} {v : Value} {n : Nat} {xs : List Value} (h : w.ownsRow base e sz v n xs) (hb : Below w.heap.size w w') : w'.ownsRow base e sz v n xs := by
  obtain ⟨h1, h2⟩ := h
  refine ⟨h1, ?_⟩
  rcases h2 with h2 | ⟨g, cap, cur, hv, hg, hh, r⟩
  · exact .inl h2
  · have hl : g < w.heap.size := by
      rcases Nat.lt_or_ge g w.heap.size with h' | h'
      · exact h'
      · rw [Array.getElem?_eq_none h'] at hh; cases hh
    exact .inr ⟨g, cap, cur, hv, hg, (hb.block g hl).trans hh, r⟩
/-- A later value behind its head. -/
theorem readStep_eq (w : Bool × Nat × Nat) (p : Nat) (E : List Bool) (Lh Wd h X : Nat) (e0 : ¬ E.length = 0) (hb0 : E.getD 0 false = true) (e1 : ¬ E.length ≤ 1) (hn13 : ¬ (E.getD 1 false = true ∧ E.length < 13)) (hh : BitMath.headR w E = (Lh, Wd, h)) (hX : X = BitMath.valB ((E.drop h).take Wd) * 2 ^ (64 - Lh - Wd)) :
    BitMath.readStep w p E = if Wd = 0 ∨ 64 < Lh + Wd then (1, 0, 0) else if E.length < h + Wd then (5, 0, 0) else if X = 0 ∨ BitMath.mBits w X ≠ E.take (h + Wd) then (1, 0, 0) else (0, p ^^^ X, h + Wd) := by
  subst hX
  unfold BitMath.readStep
  rw [if_neg e0, if_neg (by rw [hb0]; decide), if_neg e1, if_neg hn13, hh]
theorem two_step (y t W : Nat) (hy : y < 2 ^ W) (ht : W + (t + 1) ≤ 64) : IntKind.u64.wrap (2 * ((y * 2 ^ t : Nat) : Int)) = ((y * 2 ^ (t + 1) : Nat) : Int) := by
  have h1 : y * 2 ^ (t + 1) < 2 ^ W * 2 ^ (t + 1) := Nat.mul_lt_mul_of_pos_right hy (Nat.two_pow_pos _)
  rw [← Nat.pow_add] at h1
  have h2 : 2 ^ (W + (t + 1)) ≤ 2 ^ 64 := Nat.pow_le_pow_right (by omega) ht
  have h3 : (2 : Nat) ^ 64 = 18446744073709551616 := rfl
  have h4 : 2 * (y * 2 ^ t) = y * 2 ^ (t + 1) := by rw [Nat.pow_succ, Nat.mul_comm 2, Nat.mul_assoc]
  rw [IntWalk.u64_in _ (by omega)]
  omega
theorem mul_lt_64 (y t W : Nat) (hy : y < 2 ^ W) (ht : W + t ≤ 64) : y * 2 ^ t < 18446744073709551616 := by
  have h1 : y * 2 ^ t < 2 ^ W * 2 ^ t := Nat.mul_lt_mul_of_pos_right hy (Nat.two_pow_pos _)
  rw [← Nat.pow_add] at h1
  have h2 : 2 ^ (W + t) ≤ 2 ^ 64 := Nat.pow_le_pow_right (by omega) ht
  have h3 : (2 : Nat) ^ 64 = 18446744073709551616 := rfl
  omega

/-- The window behind a value that Put would make so. -/
theorem next_win (w : Bool × Nat × Nat) (E : List Bool) (X Lh Wd h : Nat) (hX : X < 18446744073709551616) (h0 : X ≠ 0) (hb0 : E.getD 0 false = true) (hh : BitMath.headR w E = (Lh, Wd, h)) (hm : BitMath.mBits w X = E.take (h + Wd)) :
    ∃ W' T', BitMath.mNext w X = (W', Lh, T') ∧ BitMath.wideW (W', Lh, T') = Wd := by
  unfold BitMath.headR at hh
  by_cases hf : E.getD 1 false = true
  · rw [if_pos hf] at hh
    simp at hh
    obtain ⟨rfl, rfl, rfl⟩ := hh
    obtain ⟨e1, e2⟩ := BitMath.head_new w X hX E _ (by omega) h0 hf hm
    rw [e1] at e2
    exact ⟨_, _, e1, e2⟩
  · rw [if_neg hf] at hh
    simp at hh
    obtain ⟨rfl, rfl, rfl⟩ := hh
    have e := BitMath.head_old w X E _ (by omega) h0 (by simpa using hf) hb0 hm
    obtain ⟨W, L, T⟩ := w
    exact ⟨W, T, e, rfl⟩

/-- A value more. -/
theorem mask_next {D E : List Bool} {vs : List Nat} {w : Bool × Nat × Nat} {u j p m x : Nat} (hE : E = D.drop u) (hu : u ≤ D.length) (hvl : vs.length = j + 1) (hwin : BitMath.winTo (BitMath.vf vs) (j + 1) = w) (hmask : BitMath.maskTo (BitMath.vf vs) (j + 1) = D.take u) (hp : BitMath.vf vs j = p) (hm : m ≤ E.length) (hb : BitMath.mBits w x = E.take m) :
    (vs ++ [p ^^^ x]).length = j + 2 ∧ BitMath.winTo (BitMath.vf (vs ++ [p ^^^ x])) (j + 2) = BitMath.mNext w x ∧ BitMath.maskTo (BitMath.vf (vs ++ [p ^^^ x])) (j + 2) = D.take (u + m) ∧ u + m ≤ D.length := by
  have h := BitMath.maskTo_next vs x (by omega)
  rw [hvl, Nat.add_sub_cancel, hp, hwin, hmask] at h
  rw [hE, List.length_drop] at hm
  refine ⟨by simp [hvl], h.2, ?_, by omega⟩
  rw [h.1, hb, hE, List.take_add]

end Go.Proofs.YtfanagohfimnkaaDoor
