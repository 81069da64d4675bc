/- The document's ReadMask by its contract. -/
import Derived.Test.YtfanagohfimnkaaDoorRefMask2
import Derived.Test.YtfanagohfimnkaaDoorHeadMathGroup
import Derived.Test.YtfanagohfimnkaaDoorRefUnwave
import Derived.Deep.AppendLies
import Derived.Deep.DeepCutAuto
import Derived.Test.YtfanagohfimnkaaDoorRefRead
import Derived.Test.YtfanagohfimnkaaDoorRefsGroup
import Derived.Test.YtfanagohfimnkaaDoorRefTicksGroup
namespace Go.Proofs.YtfanagohfimnkaaDoor
open Go.RowKit

theorem Tryd.infoU64 : (Tryd.prog.info? 49).map (fun i => (i.zero, i.size, i.bytes)) = some (some (.int .u64 0), 1, 8) := by kernel_rfl

/-- The cells of values. -/
def u64Cells (vs : List Nat) : List Value := vs.map fun (n : Nat) => .int .u64 (n : Int)
theorem u64Cells_snoc (vs : List Nat) (x : Nat) : u64Cells vs ++ [.int .u64 (x : Int)] = u64Cells (vs ++ [x]) := by simp [u64Cells]
theorem own_u64s {w : World} {base : Nat} {v : Value} {n : Nat} {vs : List Nat} (h : w.ownsRow base 49 1 v n (u64Cells vs)) (hl : vs.length = n) (hv : ∀ x, x ∈ vs → x < 18446744073709551616) (hn : 0 < n) :
    ∃ g cap, v = .slice (some ⟨g, 0, none⟩) n cap ∧ g < w.heap.size ∧ base ≤ g ∧ n ≤ cap ∧ U64s w (some ⟨g, 0, none⟩) n (BitMath.vf vs) := by
  obtain ⟨_, h2⟩ := h
  rcases h2 with ⟨_, h0⟩ | ⟨g, cap, cur, hv', hg, hh, h1, h2, h3, h4⟩
  · omega
  · rw [Nat.mul_one] at h3 h4
    have hgl : g < w.heap.size := by
      rcases Nat.lt_or_ge g w.heap.size with h' | h'
      · exact h'
      · rw [Array.getElem?_eq_none h'] at hh; cases hh
    refine ⟨g, cap, hv', hgl, hg, h1, .inr ⟨g, 0, rfl, fun k hk => ⟨?_, ?_⟩⟩⟩
    · have e0 : w.cell? ⟨g, k, none⟩ = cur[k]? := by simp [World.cell?, hh]
      rw [Nat.zero_add, e0, ← Array.getElem?_toList]
      have e : (cur.toList.take n)[k]? = cur.toList[k]? := by rw [List.getElem?_take_of_lt hk]
      rw [← e, h4, u64Cells, List.getElem?_map, List.getElem?_eq_getElem (by omega)]
      simp [BitMath.vf, List.getElem?_eq_getElem (show k < vs.length by omega)]
    · have : BitMath.vf vs k = vs[k]'(by omega) := by simp [BitMath.vf, List.getElem?_eq_getElem (show k < vs.length by omega)]
      rw [this]
      exact hv _ (List.getElem_mem _)

/-- What ReadMask answers. -/
def ReadOut (w w' : World) (D : List Bool) (n : Nat) (e : Ending) : Prop :=
  Below w.heap.size w w' ∧ ((∃ (vs : List Nat) (u : Nat) (v : Value), BitMath.maskRead D n = (0, vs, u) ∧ e = .returned (.tuple #[v, .int .i64 (u : Int), .int .i64 0]) ∧ vs.length = n ∧ u ≤ D.length ∧ w'.ownsRow w.heap.size 49 1 v n (u64Cells vs) ∧ (∀ x, x ∈ vs → x < 18446744073709551616) ∧ BitMath.maskTo (BitMath.vf vs) n = D.take u) ∨
    (∃ c : Nat, c ≠ 0 ∧ BitMath.maskRead D n = (c, [], 0) ∧ e = .returned (.tuple #[.slice none 0 0, .int .i64 0, .int .i64 (c : Int)])))

/-- The append of one value to the row of values, behind it. -/
theorem grown_below {w wr w1 : World} {v : Value} {C : Array Value} {n : Nat} {xs : List Value} (hb : Below w.heap.size w wr) (hown : wr.ownsRow w.heap.size 49 1 v n xs) (hgrow : (wr.alloc (.cells C 49)).grownBy w1 v.ownBlock) : Below w.heap.size w w1 := by
  have hba : Below w.heap.size w (wr.alloc (.cells C 49)) := hb.alloc hb.size _
  refine hba.trans ⟨hgrow.os, hgrow.tape, hgrow.output, hgrow.size, fun k hk => hgrow.block k (Nat.lt_of_lt_of_le hk hba.size) ?_⟩
  intro e
  rcases hown.2 with ⟨rfl, _⟩ | ⟨g, cap, cur, rfl, hg, _⟩
  · simp [Value.ownBlock] at e
  · simp [Value.ownBlock] at e
    omega

theorem own_keep {w w' : World} {base : Nat} {e : TypeId} {sz : Nat} {v : Value} {n : Nat} {xs : List Value} (h : w.ownsRow base e sz v n xs) (hb : Below w.heap.size w w') : w'.ownsRow base e sz v n xs := by
  obtain ⟨h1, h2⟩ := h
  refine ⟨h1, ?_⟩
  rcases h2 with h2 | ⟨g, cap, cur, hv, hg, hh, r⟩
  · exact .inl h2
  · have hl : g < w.heap.size := by
      rcases Nat.lt_or_ge g w.heap.size with h' | h'
      · exact h'
      · rw [Array.getElem?_eq_none h'] at hh; cases hh
    exact .inr ⟨g, cap, cur, hv, hg, (hb.block g hl).trans hh, r⟩
/-- A later value behind its head. -/
theorem readStep_eq (w : Bool × Nat × Nat) (p : Nat) (E : List Bool) (Lh Wd h X : Nat) (e0 : ¬ E.length = 0) (hb0 : E.getD 0 false = true) (e1 : ¬ E.length ≤ 1) (hn13 : ¬ (E.getD 1 false = true ∧ E.length < 13)) (hh : BitMath.headR w E = (Lh, Wd, h)) (hX : X = BitMath.valB ((E.drop h).take Wd) * 2 ^ (64 - Lh - Wd)) :
    BitMath.readStep w p E = if Wd = 0 ∨ 64 < Lh + Wd then (1, 0, 0) else if E.length < h + Wd then (5, 0, 0) else if X = 0 ∨ BitMath.mBits w X ≠ E.take (h + Wd) then (1, 0, 0) else (0, p ^^^ X, h + Wd) := by
  subst hX
  unfold BitMath.readStep
  rw [if_neg e0, if_neg (by rw [hb0]; decide), if_neg e1, if_neg hn13, hh]
theorem two_step (y t W : Nat) (hy : y < 2 ^ W) (ht : W + (t + 1) ≤ 64) : IntKind.u64.wrap (2 * ((y * 2 ^ t : Nat) : Int)) = ((y * 2 ^ (t + 1) : Nat) : Int) := by
  have h1 : y * 2 ^ (t + 1) < 2 ^ W * 2 ^ (t + 1) := Nat.mul_lt_mul_of_pos_right hy (Nat.two_pow_pos _)
  rw [← Nat.pow_add] at h1
  have h2 : 2 ^ (W + (t + 1)) ≤ 2 ^ 64 := Nat.pow_le_pow_right (by omega) ht
  have h3 : (2 : Nat) ^ 64 = 18446744073709551616 := rfl
  have h4 : 2 * (y * 2 ^ t) = y * 2 ^ (t + 1) := by rw [Nat.pow_succ, Nat.mul_comm 2, Nat.mul_assoc]
  rw [IntWalk.u64_in _ (by omega)]
  omega
theorem mul_lt_64 (y t W : Nat) (hy : y < 2 ^ W) (ht : W + t ≤ 64) : y * 2 ^ t < 18446744073709551616 := by
  have h1 : y * 2 ^ t < 2 ^ W * 2 ^ t := Nat.mul_lt_mul_of_pos_right hy (Nat.two_pow_pos _)
  rw [← Nat.pow_add] at h1
  have h2 : 2 ^ (W + t) ≤ 2 ^ 64 := Nat.pow_le_pow_right (by omega) ht
  have h3 : (2 : Nat) ^ 64 = 18446744073709551616 := rfl
  omega

/-- The window behind a value that Put would make so. -/
theorem next_win (w : Bool × Nat × Nat) (E : List Bool) (X Lh Wd h : Nat) (hX : X < 18446744073709551616) (h0 : X ≠ 0) (hb0 : E.getD 0 false = true) (hh : BitMath.headR w E = (Lh, Wd, h)) (hm : BitMath.mBits w X = E.take (h + Wd)) :
    ∃ W' T', BitMath.mNext w X = (W', Lh, T') ∧ BitMath.wideW (W', Lh, T') = Wd := by
  unfold BitMath.headR at hh
  by_cases hf : E.getD 1 false = true
  · rw [if_pos hf] at hh
    simp at hh
    obtain ⟨rfl, rfl, rfl⟩ := hh
    obtain ⟨e1, e2⟩ := BitMath.head_new w X hX E _ (by omega) h0 hf hm
    rw [e1] at e2
    exact ⟨_, _, e1, e2⟩
  · rw [if_neg hf] at hh
    simp at hh
    obtain ⟨rfl, rfl, rfl⟩ := hh
    have e := BitMath.head_old w X E _ (by omega) h0 (by simpa using hf) hb0 hm
    obtain ⟨W, L, T⟩ := w
    exact ⟨W, T, e, rfl⟩

/-- A value more. -/
theorem mask_next {D E : List Bool} {vs : List Nat} {w : Bool × Nat × Nat} {u j p m x : Nat} (hE : E = D.drop u) (hu : u ≤ D.length) (hvl : vs.length = j + 1) (hwin : BitMath.winTo (BitMath.vf vs) (j + 1) = w) (hmask : BitMath.maskTo (BitMath.vf vs) (j + 1) = D.take u) (hp : BitMath.vf vs j = p) (hm : m ≤ E.length) (hb : BitMath.mBits w x = E.take m) :
    (vs ++ [p ^^^ x]).length = j + 2 ∧ BitMath.winTo (BitMath.vf (vs ++ [p ^^^ x])) (j + 2) = BitMath.mNext w x ∧ BitMath.maskTo (BitMath.vf (vs ++ [p ^^^ x])) (j + 2) = D.take (u + m) ∧ u + m ≤ D.length := by
  have h := BitMath.maskTo_next vs x (by omega)
  rw [hvl, Nat.add_sub_cancel, hp, hwin, hmask] at h
  rw [hE, List.length_drop] at hm
  refine ⟨by simp [hvl], h.2, ?_, by omega⟩
  rw [h.1, hb, hE, List.take_add]

end Go.Proofs.YtfanagohfimnkaaDoor
/- The document's row of a chunk and its chunk, by contracts: RowOf, ChunkOf. -/
namespace Go.Proofs.YtfanagohfimnkaaDoor
open Go.RowKit

/-- A row that another one's growth leaves. -/
theorem own_far {w w' : World} {base : Nat} {e : TypeId} {s : Nat} {v : Value} {n : Nat} {xs : List Value} {row : Option Nat} (h : w.ownsRow base e s v n xs) (hg : w.grownBy w' row) (hne : ∀ g, v.ownBlock = some g → row ≠ some g) : w'.ownsRow base e s v n xs := by
  obtain ⟨h1, h2⟩ := h
  refine ⟨h1, ?_⟩
  rcases h2 with h2 | ⟨g, cap, cur, hv, hgb, hh, r⟩
  · exact .inl h2
  · have hl : g < w.heap.size := by
      rcases Nat.lt_or_ge g w.heap.size with h' | h'
      · exact h'
      · rw [Array.getElem?_eq_none h'] at hh; cases hh
    have hx := hne g (by rw [hv]; rfl)
    exact .inr ⟨g, cap, cur, hv, hgb, (hg.block g hl (fun e => hx e.symm)).trans hh, r⟩
theorem own_lt {w : World} {base : Nat} {e : TypeId} {s : Nat} {v : Value} {n : Nat} {xs : List Value} (h : w.ownsRow base e s v n xs) : ∀ g, v.ownBlock = some g → g < w.heap.size ∧ base ≤ g := by
  intro g hg
  rcases h.2 with ⟨rfl, _⟩ | ⟨g', cap, cur, rfl, hgb, hh, _⟩
  · simp [Value.ownBlock] at hg
  · simp [Value.ownBlock] at hg
    subst hg
    refine ⟨?_, hgb⟩
    rcases Nat.lt_or_ge g' w.heap.size with h' | h'
    · exact h'
    · rw [Array.getElem?_eq_none h'] at hh; cases hh
theorem grown_far {w wr w1 : World} {v : Value} {o : Obj} {e : TypeId} {s n : Nat} {xs : List Value} (hb : Below w.heap.size w wr) (hown : wr.ownsRow w.heap.size e s v n xs) (hgrow : (wr.alloc o).grownBy w1 v.ownBlock) : Below w.heap.size w w1 := by
  have hba : Below w.heap.size w (wr.alloc o) := hb.alloc hb.size _
  refine hba.trans ⟨hgrow.os, hgrow.tape, hgrow.output, hgrow.size, fun k hk => hgrow.block k (Nat.lt_of_lt_of_le hk hba.size) ?_⟩
  intro he
  have := (own_lt hown k he.symm).2
  omega
/-- The bits of a chunk. -/
def rowBits (T : Nat → Int) (B : Nat → Nat) (n : Nat) : List Bool := BitMath.bitsOf n 8 ++ ticksTo T n ++ BitMath.maskTo B n
theorem length_rowBits (T : Nat → Int) (B : Nat → Nat) (n : Nat) : (rowBits T B n).length ≤ 8 + 145 * n := by
  have h1 := length_ticksTo T n
  have h2 := BitMath.length_maskTo B n
  simp only [rowBits, List.length_append, BitMath.length_bitsOf]
  omega
def firstInts (T : Nat → Int) (n : Nat) : List Int := (List.range n).map T
def firstNats (B : Nat → Nat) (n : Nat) : List Nat := (List.range n).map B
theorem firstInts_step (T : Nat → Int) (k : Nat) : firstInts T (k + 1) = firstInts T k ++ [T k] := by simp [firstInts, List.range_succ]
theorem firstNats_step (B : Nat → Nat) (k : Nat) : firstNats B (k + 1) = firstNats B k ++ [B k] := by simp [firstNats, List.range_succ]
theorem vf_first (B : Nat → Nat) (n i : Nat) (h : i < n) : BitMath.vf (firstNats B n) i = B i := by simp [BitMath.vf, firstNats, h]
theorem ints_own {w : World} {base n : Nat} {v : Value} {T : Nat → Int} (h : w.ownsRow base 3 1 v n (intList (firstInts T n))) : ∃ a c, v = .slice a n c ∧ Ints w a n T := by
  by_cases hn : n = 0
  · subst hn
    rcases h.2 with ⟨rfl, _⟩ | ⟨g, cap, cur, rfl, _⟩
    · exact ⟨none, 0, rfl, .inl rfl⟩
    · exact ⟨_, _, rfl, .inl rfl⟩
  · obtain ⟨g, cap, rfl, _, _, hc⟩ := own_list h (by omega) (by simp [firstInts])
    refine ⟨_, _, rfl, .inr ⟨g, 0, rfl, fun k hk => ?_⟩⟩
    rw [Nat.zero_add, hc k hk]
    simp [firstInts, hk]
theorem u64s_own {w : World} {base n : Nat} {v : Value} {B : Nat → Nat} (h : w.ownsRow base 49 1 v n (u64Cells (firstNats B n))) (hB : ∀ i, i < n → B i < 18446744073709551616) : ∃ a c, v = .slice a n c ∧ U64s w a n B := by
  by_cases hn : n = 0
  · subst hn
    rcases h.2 with ⟨rfl, _⟩ | ⟨g, cap, cur, rfl, _⟩
    · exact ⟨none, 0, rfl, .inl rfl⟩
    · exact ⟨_, _, rfl, .inl rfl⟩
  · obtain ⟨g, cap, rfl, _, _, _, hU⟩ := own_u64s h (by simp [firstNats]) (by
      intro x hx
      simp [firstNats] at hx
      obtain ⟨i, hi, rfl⟩ := hx
      exact hB i hi) (by omega)
    refine ⟨_, _, rfl, ?_⟩
    rcases hU with h0 | ⟨b, o, e, hc⟩
    · omega
    · refine .inr ⟨b, o, e, fun k hk => ?_⟩
      have := hc k hk
      rw [vf_first B n k hk] at this
      exact this

/-- The bytes of a chunk. -/
def chunkBytes (T : Nat → Int) (B : Nat → Nat) (n : Nat) : List UInt8 := BitMath.sealOf (BitMath.pack (rowBits T B n))
end Go.Proofs.YtfanagohfimnkaaDoor
/- Ticks that were put are read: mathematics over the document's ReadTicks. -/
namespace Go.Proofs.YtfanagohfimnkaaDoor

/-- The first k of ticks. -/
def firstTicks (G : Nat → Int) (k : Nat) : List Int := (List.range k).map G
theorem length_firstTicks (G : Nat → Int) (k : Nat) : (firstTicks G k).length = k := by simp [firstTicks]
theorem firstTicks_step (G : Nat → Int) (k : Nat) : firstTicks G (k + 1) = firstTicks G k ++ [G k] := by simp [firstTicks, List.range_succ]
theorem getD_firstTicks (G : Nat → Int) (k i : Nat) (h : i < k) : (firstTicks G k).getD i 0 = G i := by simp [firstTicks, h]
theorem ticksTo_split (G : Nat → Int) (k : Nat) : ∀ n, k < n → ∃ R, ticksTo G n = ticksTo G k ++ (BitMath.waveOf (deltaOf G k) ++ R)
  | 0, h => absurd h (by omega)
  | n + 1, h => by
    rcases Nat.lt_or_ge k n with h1 | h1
    · obtain ⟨R, hR⟩ := ticksTo_split G k n h1
      exact ⟨R ++ BitMath.waveOf (deltaOf G n), by rw [ticksTo, hR]; simp [List.append_assoc]⟩
    · have : k = n := by omega
      subst this
      exact ⟨[], by rw [ticksTo, List.append_nil]⟩
theorem next_first (G : Nat → Int) (k : Nat) : nextTick (firstTicks G k) (deltaOf G k) = G k := by
  unfold nextTick
  rw [length_firstTicks]
  by_cases h0 : k = 0
  · subst h0
    simp [deltaOf]
  · by_cases h1 : k = 1
    · subst h1
      rw [if_pos (by omega), if_neg (by omega), getD_firstTicks G 1 (1 - 1) (by omega)]
      simp [deltaOf]
    · rw [if_pos (by omega), if_pos (by omega), getD_firstTicks G k (k - 1) (by omega), getD_firstTicks G k (k - 2) (by omega)]
      unfold deltaOf
      rw [if_neg h0, if_neg h1]
      omega

theorem readTo_ticks (G : Nat → Int) (n : Nat) (P R : List Bool) (hok : ∀ i, i < n → -1099511627776 ≤ G i ∧ G i ≤ 1099511627776) : ∀ m k, k + m = n →
    readTo (P ++ (ticksTo G n ++ R)) m (P.length + (ticksTo G k).length) (firstTicks G k) = (0, firstTicks G n, P.length + (ticksTo G n).length)
  | 0, k, h => by
    have : k = n := by omega
    subst this
    rfl
  | m + 1, k, h => by
    have ih := readTo_ticks G n P R hok m (k + 1) (by omega)
    obtain ⟨Q, hQ⟩ := ticksTo_split G k n (by omega)
    have hd : (P ++ (ticksTo G n ++ R)).drop (P.length + (ticksTo G k).length) = BitMath.waveOf (deltaOf G k) ++ (Q ++ R) := by
      rw [← List.drop_drop, List.drop_left, hQ, List.append_assoc, List.drop_left, List.append_assoc]
    have hb := course_bounds G n k (by omega) hok
    have hk := hok k (by omega)
    have hde := course_delta G k
    have hu := BitMath.unwave_wave (deltaOf G k) (Q ++ R) (by omega) (by omega)
    rw [readTo_succ, hd, hu]
    simp only
    have hfar : far (deltaOf G k) = false := by
      unfold far
      rw [decide_eq_false (by omega), decide_eq_false (by omega)]
      rfl
    rw [if_neg (by omega), hfar, Bool.and_false, if_neg (by decide), next_first, if_pos ((isTick_iff _).2 hk), ← firstTicks_step]
    rw [length_ticksTo_step] at ih
    rw [Nat.add_assoc]
    exact ih
end Go.Proofs.YtfanagohfimnkaaDoor
/- What is a chunk, and how it parts: mathematics over the document's answers. -/
namespace Go.Proofs.YtfanagohfimnkaaDoor

/-- Bytes that are a chunk of right points. -/
def IsChunk (l : List UInt8) : Prop := ∃ (n : Nat) (T : Nat → Int) (B : Nat → Nat), n ≤ 120 ∧ (∀ i, i < n → ptOk T i = true) ∧ (∀ i, i < n → B i < 18446744073709551616) ∧ l = chunkBytes T B n

theorem ptOk_tick (T : Nat → Int) (i : Nat) (h : ptOk T i = true) : -1099511627776 ≤ T i ∧ T i ≤ 1099511627776 := by
  unfold ptOk at h
  simp only [Bool.and_eq_true] at h
  exact (isTick_iff _).1 h.1
theorem length_fourOf (n : Nat) : (BitMath.fourOf n).length = 4 := rfl
theorem sealOf_take (b : List UInt8) : (BitMath.sealOf b).take ((BitMath.sealOf b).length - 4) = b := by
  unfold BitMath.sealOf
  rw [List.length_append, length_fourOf, Nat.add_sub_cancel, List.take_left]

theorem bits_bytes_pack (bs : List Bool) : ∃ Z, BitMath.bitsOfBytes (BitMath.pack bs) = bs ++ Z := by
  refine ⟨(BitMath.bitsOfBytes (BitMath.pack bs)).drop bs.length, ?_⟩
  have := BitMath.bytes_pack bs
  exact ((congrArg (fun x => x ++ (BitMath.bitsOfBytes (BitMath.pack bs)).drop bs.length) this).symm.trans (List.take_append_drop _ _)).symm

/-- A chunk's parts, one behind the other. -/
theorem chunk_parse (l : List UInt8) (n : Nat) (T : Nat → Int) (B : Nat → Nat) (hn : n ≤ 120) (hT : ∀ i, i < n → ptOk T i = true) (hB : ∀ i, i < n → B i < 18446744073709551616) (hl : l = chunkBytes T B n) :
    5 ≤ l.length ∧ l.take (l.length - 4) = BitMath.pack (rowBits T B n) ∧ BitMath.sealOf (l.take (l.length - 4)) = l ∧
    BitMath.valB ((BitMath.bitsOfBytes (l.take (l.length - 4))).take 8) = n ∧
    readTo (BitMath.bitsOfBytes (l.take (l.length - 4))) n 8 [] = (0, firstTicks T n, 8 + (ticksTo T n).length) ∧
    ∃ u, BitMath.maskRead ((BitMath.bitsOfBytes (l.take (l.length - 4))).drop (8 + (ticksTo T n).length)) n = (0, BitMath.firstV B n, u) := by
  have hb : l.take (l.length - 4) = BitMath.pack (rowBits T B n) := by rw [hl]; exact sealOf_take _
  have hlr : 8 ≤ (rowBits T B n).length := by simp only [rowBits, List.length_append, BitMath.length_bitsOf]; omega
  have hlp := BitMath.length_pack (rowBits T B n)
  have hll : l.length = (BitMath.pack (rowBits T B n)).length + 4 := by rw [hl, chunkBytes, BitMath.sealOf, List.length_append, length_fourOf]
  obtain ⟨Z, hZ⟩ := bits_bytes_pack (rowBits T B n)
  have hD : BitMath.bitsOfBytes (l.take (l.length - 4)) = BitMath.bitsOf n 8 ++ (ticksTo T n ++ (BitMath.maskTo B n ++ Z)) := by
    rw [hb, hZ, rowBits]
    simp only [List.append_assoc]
  have h8 : (BitMath.bitsOf n 8).length = 8 := BitMath.length_bitsOf _ _
  refine ⟨by omega, hb, by rw [hb, hl]; rfl, ?_, ?_, ?_⟩
  · rw [hD, List.take_left' h8, BitMath.valB_bitsOf]
    exact Nat.mod_eq_of_lt (by omega)
  · have := readTo_ticks T n (BitMath.bitsOf n 8) (BitMath.maskTo B n ++ Z) (fun i hi => ptOk_tick T i (hT i hi)) n 0 (by omega)
    rw [h8] at this
    rw [hD]
    exact this
  · refine ⟨(BitMath.maskTo B n).length, ?_⟩
    have hd : (BitMath.bitsOfBytes (l.take (l.length - 4))).drop (8 + (ticksTo T n).length) = BitMath.maskTo B n ++ Z := by
      rw [hD, ← List.drop_drop, List.drop_left' h8, List.drop_left]
    rw [hd]
    exact BitMath.maskRead_mask B n Z hB n (Nat.le_refl _)

theorem ticksTo_congr (T U : Nat → Int) : ∀ k, (∀ i, i < k → T i = U i) → ticksTo T k = ticksTo U k
  | 0, _ => rfl
  | k + 1, h => by
    have hd : deltaOf T k = deltaOf U k := by
      unfold deltaOf
      by_cases h0 : k = 0
      · subst h0
        rw [if_pos rfl, if_pos rfl, h 0 (by omega)]
      · by_cases h1 : k = 1
        · subst h1
          rw [if_neg h0, if_pos rfl, if_neg h0, if_pos rfl, h 0 (by omega), h 1 (by omega)]
        · rw [if_neg h0, if_neg h1, if_neg h0, if_neg h1, h k (by omega), h (k - 1) (by omega), h (k - 2) (by omega)]
    rw [ticksTo, ticksTo, ticksTo_congr T U k (fun i hi => h i (by omega)), hd]
theorem rowBits_congr (T U : Nat → Int) (B C : Nat → Nat) (n : Nat) (hT : ∀ i, i < n → T i = U i) (hB : ∀ i, i < n → B i = C i) : rowBits T B n = rowBits U C n := by
  unfold rowBits
  rw [ticksTo_congr T U n hT, BitMath.maskTo_congr B C n hB]
theorem ptOk_congr (T U : Nat → Int) (n : Nat) (hT : ∀ i, i < n → T i = U i) (i : Nat) (hi : i < n) : ptOk T i = ptOk U i := by
  unfold ptOk
  rw [hT i hi, hT (i - 1) (by omega)]
end Go.Proofs.YtfanagohfimnkaaDoor
/- The document's Unchunk by its contract. -/
namespace Go.Proofs.YtfanagohfimnkaaDoor
open Go.RowKit

theorem Tryd.infoPoint : (Tryd.prog.info? 55).map (fun i => (i.zero, i.size, i.bytes)) = some (some (.agg #[.int .i64 0, .int .u64 0]), 2, 16) := by kernel_rfl
/-- The cells of points. -/
def ptCells (T : Nat → Int) (B : Nat → Nat) : Nat → List Value
  | 0 => []
  | k + 1 => ptCells T B k ++ [.int .i64 (T k), .int .u64 (B k : Int)]
theorem length_ptCells (T : Nat → Int) (B : Nat → Nat) : ∀ n, (ptCells T B n).length = n * 2
  | 0 => rfl
  | n + 1 => by rw [ptCells, List.length_append, length_ptCells T B n]; simp; omega
theorem ptCells_at (T : Nat → Int) (B : Nat → Nat) : ∀ n k, k < n → (ptCells T B n)[k * 2]? = some (.int .i64 (T k)) ∧ (ptCells T B n)[k * 2 + 1]? = some (.int .u64 (B k : Int))
  | 0, k, h => absurd h (by omega)
  | n + 1, k, h => by
    have hl := length_ptCells T B n
    rcases Nat.lt_or_ge k n with h1 | h1
    · obtain ⟨a, b⟩ := ptCells_at T B n k h1
      rw [ptCells, List.getElem?_append_left (by omega), List.getElem?_append_left (by omega)]
      exact ⟨a, b⟩
    · have : k = n := by omega
      subst this
      rw [ptCells, List.getElem?_append_right (by omega), List.getElem?_append_right (by omega), hl]
      simp
theorem ptCells_congr (T U : Nat → Int) (B C : Nat → Nat) : ∀ n, (∀ i, i < n → T i = U i) → (∀ i, i < n → B i = C i) → ptCells T B n = ptCells U C n
  | 0, _, _ => rfl
  | n + 1, h, k => by rw [ptCells, ptCells, ptCells_congr T U B C n (fun i hi => h i (by omega)) (fun i hi => k i (by omega)), h n (by omega), k n (by omega)]
theorem pts_own {w : World} {base n : Nat} {v : Value} {T : Nat → Int} {B : Nat → Nat} (h : w.ownsRow base 55 2 v n (ptCells T B n)) (hT : ∀ i, i < n → -9223372036854775808 ≤ T i ∧ T i ≤ 9223372036854775807) (hB : ∀ i, i < n → B i < 18446744073709551616) : ∃ a c, v = .slice a n c ∧ Pts w a n T B := by
  obtain ⟨_, h2⟩ := h
  rcases h2 with ⟨rfl, h0⟩ | ⟨g, cap, cur, hv, hg, hh, h1, h2, h3, h4⟩
  · subst h0
    exact ⟨none, 0, rfl, .inl rfl⟩
  · refine ⟨_, _, hv, .inr ⟨g, 0, rfl, fun k hk => ?_⟩⟩
    obtain ⟨c0, c1⟩ := ptCells_at T B n k hk
    rw [← h4] at c0 c1
    rw [List.getElem?_take_of_lt (by omega)] at c0 c1
    rw [Array.getElem?_toList] at c0 c1
    refine ⟨?_, ?_, (hT k hk).1, (hT k hk).2, hB k hk⟩
    · simp only [World.cell?, hh, Nat.zero_add]
      exact c0
    · simp only [World.cell?, hh, Nat.zero_add]
      exact c1

/-- What Unchunk answers. -/
def Unch (w w' : World) (l : List UInt8) (e : Ending) : Prop :=
  Below w.heap.size w w' ∧ ((∃ (n : Nat) (T : Nat → Int) (B : Nat → Nat) (v : Value), n ≤ 120 ∧ (∀ i, i < n → ptOk T i = true) ∧ (∀ i, i < n → B i < 18446744073709551616) ∧ l = chunkBytes T B n ∧ w'.ownsRow w.heap.size 55 2 v n (ptCells T B n) ∧ e = .returned (.tuple #[v, .int .i64 0])) ∨
    (∃ c : Nat, ¬ IsChunk l ∧ c = (if l.length < 5 then 1 else if BitMath.sealOf (l.take (l.length - 4)) = l then 1 else 9) ∧ e = .returned (.tuple #[.slice none 0 0, .int .i64 (c : Int)])))

theorem str_beq (a b : ByteArray) : (a.toList == b.toList) = decide (a.data.toList = b.data.toList) := by
  rw [ByteArray.toList_eq, ByteArray.toList_eq]
  by_cases h : a.data.toList = b.data.toList
  · simp [h]
  · rw [decide_eq_false h, beq_eq_false_iff_ne]
    exact h

theorem first_bad (p : Nat → Bool) : ∀ n, ∃ m, m ≤ n ∧ (∀ i, i < m → p i = true) ∧ (m < n → p m = false)
  | 0 => ⟨0, Nat.le_refl _, fun i hi => absurd hi (by omega), fun h => absurd h (by omega)⟩
  | n + 1 => by
    obtain ⟨m, hm, h1, h2⟩ := first_bad p n
    rcases Nat.lt_or_ge m n with h | h
    · exact ⟨m, by omega, h1, fun _ => h2 h⟩
    · have : m = n := by omega
      subst this
      cases hp : p m with
      | true =>
        refine ⟨m + 1, Nat.le_refl _, fun i hi => ?_, fun h => absurd h (by omega)⟩
        rcases Nat.lt_or_ge i m with h3 | h3
        · exact h1 i h3
        · have : i = m := by omega
          subst this
          exact hp
      | false => exact ⟨m, by omega, h1, fun _ => hp⟩
theorem own_base {w : World} {base base' : Nat} {e : TypeId} {s : Nat} {v : Value} {n : Nat} {xs : List Value} (h : w.ownsRow base e s v n xs) (hb : base' ≤ base) : w.ownsRow base' e s v n xs := by
  obtain ⟨h1, h2⟩ := h
  refine ⟨h1, ?_⟩
  rcases h2 with h2 | ⟨g, cap, cur, hv, hg, r⟩
  · exact .inl h2
  · exact .inr ⟨g, cap, cur, hv, Nat.le_trans hb hg, r⟩
/-- A cell below a row's base, behind the row's growth. -/
theorem cell_grown {wr X w7 : World} {o : Obj} {g k base n sz : Nat} {c v : Value} {e : TypeId} {xs : List Value} (hX : X.heap = (wr.alloc o).heap) (hown : wr.ownsRow base e sz v n xs) (hgrow : X.grownBy w7 v.ownBlock) (hg : g < base) (hc : wr.cell? ⟨g, k, none⟩ = some c) : w7.cell? ⟨g, k, none⟩ = some c := by
  have hl : g < wr.heap.size := World.block_lt_of_cell? wr ⟨g, k, none⟩ hc
  have h1 : w7.heap[g]? = wr.heap[g]? := by
    rw [hgrow.block g (by rw [hX]; simp; omega) (fun h => by have := (own_lt hown g h.symm).2; omega), hX]
    exact Below.heap_alloc wr o g hl
  simp only [World.cell?, h1] at hc ⊢
  exact hc
/-- What grew, behind a draw. -/
theorem below_grown {w5 wr X w7 : World} {o : Obj} {n sz : Nat} {v : Value} {e : TypeId} {xs : List Value} (hX : X.heap = (wr.alloc o).heap) (ho : X.os = wr.os) (ht : X.tape = wr.tape) (hu : X.output = wr.output) (hb : Below w5.heap.size w5 wr) (hown : wr.ownsRow w5.heap.size e sz v n xs) (hgrow : X.grownBy w7 v.ownBlock) : Below w5.heap.size w5 w7 := by
  have hs := hb.size
  have hsz : wr.heap.size ≤ X.heap.size := by rw [hX]; simp
  refine hb.trans ⟨hgrow.os.trans ho, hgrow.tape.trans ht, hgrow.output.trans hu, Nat.le_trans hsz hgrow.size, fun k hk => ?_⟩
  rw [hgrow.block k (by omega) (fun h => by have := (own_lt hown k h.symm).2; omega), hX]
  exact Below.heap_alloc wr o k (by omega)

end Go.Proofs.YtfanagohfimnkaaDoor
