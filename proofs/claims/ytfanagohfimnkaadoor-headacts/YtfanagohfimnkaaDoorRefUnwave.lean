/- The document's Unwave, by its contract. -/
import Derived.Test.YtfanagohfimnkaaDoorRefsGroup
import Derived.Deep.RegionHeld3
namespace Go.Proofs.YtfanagohfimnkaaDoor
open Go.RowKit

theorem chr_inj (a b : Bool) (h : BitMath.chr a = BitMath.chr b) : a = b := by cases a <;> cases b <;> first | rfl | (exact absurd h (by decide))
theorem txt_inj (A B : List Bool) (h : (BitMath.txt A).data.toList = (BitMath.txt B).data.toList) : A = B := by
  rw [BitMath.txt_data, BitMath.txt_data] at h
  exact List.map_inj_right (fun _ _ h => chr_inj _ _ h) |>.1 h
/-- Two texts of bits, held against each other as the walk does. -/
theorem txt_beq (A B : List Bool) (s : ByteArray) (hs : s = BitMath.txt B) : ((BitMath.txt A).toList == s.toList) = decide (A = B) := by
  subst hs
  rw [ByteArray.toList_eq, ByteArray.toList_eq]
  by_cases h : A = B
  · subst h; simp
  · rw [decide_eq_false h, beq_eq_false_iff_ne]
    intro e
    exact h (txt_inj A B e)
/-- The variable of the result, behind what makes memory. -/
theorem part_block {w w2 : World} {C D : Array Value} {t u : TypeId} (h : Below ((w.alloc (.cells C t)).alloc (.cells D u)).drew.heap.size ((w.alloc (.cells C t)).alloc (.cells D u)).drew w2) :
    (∀ i, w2.cell? ⟨w.heap.size, i, none⟩ = C[i]?) ∧ (∀ i, w2.frozen? ⟨w.heap.size, i, none⟩ = false) ∧ Below w.heap.size w w2 := by
  have hb : w2.heap[w.heap.size]? = some (.cells C t (0, 0)) := by
    rw [h.block w.heap.size (by simp; omega)]
    show ((w.alloc (.cells C t)).alloc (.cells D u)).heap[w.heap.size]? = _
    rw [Below.heap_alloc _ _ _ (by simp)]
    exact heap_alloc_new _ _
  have hb0 : Below w.heap.size w ((w.alloc (.cells C t)).alloc (.cells D u)).drew := ((((Below.refl _ _).alloc (Nat.le_refl _) _).alloc (by simp) _)).drew
  exact ⟨fun i => by simp [World.cell?, hb], fun i => by simp [World.frozen?, hb], hb0.trans (h.mono (by simp; omega))⟩

theorem num_four (v : Nat) (h : v < 18446744073709551616) : BitMath.numOf 4 v = wrap64 (v : Int) := by
  unfold BitMath.numOf wrap64
  rw [if_pos rfl]
  split <;> omega

theorem take_one (bs : List Bool) (a : Nat) (h : a < bs.length) (hb : bs.getD (a + 0) false = false) : (bs.drop a).take 1 = [false] := by
  rw [List.drop_eq_getElem_cons h]
  rw [Nat.add_zero, List.getD_eq_getElem?_getD, List.getElem?_eq_getElem h, Option.getD_some] at hb
  rw [hb]
  rfl

/-- What Unwave answers. -/
def partOf (p : Nat × Int × Nat) : Value := .agg #[.int .i64 p.2.1, .int .u64 0, .int .i64 (p.2.2 : Int), .int .i64 (p.1 : Int)]

theorem bit48 (s : ByteArray) (bs : List Bool) (hs : s = BitMath.txt bs) (i : Nat) (h : i < s.size) (b : Bool) (hb : bs.getD i false = b) : (((s[i]).toNat : Int) == 48) = !b := by
  subst hs
  rw [BitMath.txt_get bs i h]
  have h' : i < bs.length := by rw [BitMath.txt_size] at h; exact h
  rw [List.getD_eq_getElem?_getD, List.getElem?_eq_getElem h', Option.getD_some] at hb
  rw [hb]
  cases b <;> rfl
theorem getD_some (bs : List Bool) (i : Nat) (h : bs.getD i false = true) : bs[i]? = some true := by
  rw [List.getD_eq_getElem?_getD] at h
  cases hx : bs[i]? with
  | none => rw [hx] at h; cases h
  | some b => rw [hx] at h; rw [← h]; rfl

theorem ones_at (bs : List Bool) (a o : Nat) (ho : o ≤ 4) (h1 : ∀ j, j < o → bs[a + j]? = some true) (h2 : o < 4 → bs.getD (a + o) false = false) : BitMath.onesOf (bs.drop a) 4 = o :=
  BitMath.onesOf_eq 4 (bs.drop a) o ho (fun j hj => by rw [List.getElem?_drop]; exact h1 j hj) (fun h => by rw [List.getD_eq_getElem?_getD, List.getElem?_drop, ← List.getD_eq_getElem?_getD]; exact h2 h)

end Go.Proofs.YtfanagohfimnkaaDoor
