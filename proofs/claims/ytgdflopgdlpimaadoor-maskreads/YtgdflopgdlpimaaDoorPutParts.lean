/- What the parts of a round of Put do to the row: outside the walk. -/
import Derived.Test.YtgdflopgdlpimaaDoorRows1
import Derived.Test.YtgdflopgdlpimaaDoorMaths
namespace Go.Proofs.YtgdflopgdlpimaaDoor
open Go.RowKit

theorem heap_set {w : World} {b : Nat} {cs : Array Value} {t : TypeId} {f : Nat × Nat} (h : w.heap[b]? = some (.cells cs t f)) (i : Nat) (v : Value) :
    (w.setCell ⟨b, i, none⟩ v).heap[b]? = some (.cells (cs.setIfInBounds i v) t f) := by
  simp [World.setCell, Array.getElem?_modify, h]

theorem ofNat_lt (n : Nat) (h : n < 256) : (UInt8.ofNat n).toNat = n := by simp [Nat.mod_eq_of_lt h]

/-- A byte of an owned row is written. -/
theorem own_set {w : World} {base g n cap : Nat} {l : List UInt8} (h : w.ownsRow base 5 1 (.slice (some ⟨g, 0, none⟩) n cap) n (byteCells l)) (k : Nat) (c : UInt8) :
    (w.setCell ⟨g, k, none⟩ (.int .u8 (c.toNat : Int))).ownsRow base 5 1 (.slice (some ⟨g, 0, none⟩) n cap) n (byteCells (l.set k c)) := by
  obtain ⟨hl, h2⟩ := h
  refine ⟨by simpa [byteCells] using hl, ?_⟩
  rcases h2 with ⟨hv, _⟩ | ⟨g', cap', cur, hv, hg, hh, h1, h2, h3, h4⟩
  · cases hv
  · cases hv
    refine .inr ⟨g, cap, cur.setIfInBounds k (.int .u8 (c.toNat : Int)), rfl, hg, heap_set hh k _, h1, h2, by simpa using h3, ?_⟩
    rw [Array.toList_setIfInBounds, List.take_set, h4]
    simp [byteCells, List.map_set]

/-- Where the last byte is at hand: behind the first test of a round. -/
def Mid (S : List Nat) (w wx : World) (r : Nat) (ob : Option Nat) (L : List Bool) (g cap : Nat) : Prop :=
  wx.heap[r]? = some (.cells #[.slice (some ⟨g, 0, none⟩) (L.length / 8 + 1) cap, .int .i64 (L.length : Int)] 101 (0, 0)) ∧
  wx.ownsRow (r + 1) 5 1 (.slice (some ⟨g, 0, none⟩) (L.length / 8 + 1) cap) (L.length / 8 + 1) (byteCells (BitMath.packTo L (L.length / 8 + 1))) ∧
  Kept S w wx ∧ (some g = ob ∨ w.heap.size ≤ g)

theorem mid_part {S : List Nat} {w wr : World} {r : Nat} {ob : Option Nat} {vr : Value} {L : List Bool} (hr : IsRow wr r vr L) (hk : Kept S w wr) (ho : vr.ownBlock = ob ∨ ∃ g, vr.ownBlock = some g ∧ w.heap.size ≤ g) (hq : L.length % 8 ≠ 0) :
    ∃ g cap, Mid S w wr r ob L g cap := by
  have e : (L.length + 7) / 8 = L.length / 8 + 1 := by omega
  have hown := hr.own
  rw [e, BitMath.pack_part L hq] at hown
  obtain ⟨g, cap, rfl, -⟩ := own_cell hown (by omega)
  refine ⟨g, cap, hr.hb, hown, hk, ?_⟩
  rcases ho with h | ⟨g', h, hg⟩
  · exact .inl h
  · have : g = g' := by simpa [Value.ownBlock] using h
    subst this
    exact .inr hg

theorem mid_full {w wr w1 : World} {r : Nat} {v vr : Value} {L : List Bool} {g cap : Nat} (hr : IsRow wr r vr L) (hk : Kept (r :: v.ownBlock.toList) w wr) (ho : vr.ownBlock = v.ownBlock ∨ ∃ g, vr.ownBlock = some g ∧ w.heap.size ≤ g) (hq : L.length % 8 = 0)
    (hown : w1.ownsRow (r + 1) 5 1 (.slice (some ⟨g, 0, none⟩) ((L.length + 7) / 8 + 1) cap) ((L.length + 7) / 8 + 1) (byteCells (BitMath.pack L) ++ [.int .u8 0]))
    (hgrow : (wr.alloc (.cells #[.int .u8 0] 5)).grownBy w1 vr.ownBlock) (hat : vr.ownBlock = some g ∨ g = wr.heap.size + 1) :
    Mid (r :: v.ownBlock.toList) w (w1.setCell ⟨r, 0, none⟩ (.slice (some ⟨g, 0, none⟩) ((L.length + 7) / 8 + 1) cap)) r v.ownBlock L g cap := by
  have e : (L.length + 7) / 8 = L.length / 8 := by omega
  rw [e] at hown ⊢
  have hrl : r < wr.heap.size := by
    rcases Nat.lt_or_ge r wr.heap.size with h | h
    · exact h
    · have := hr.hb
      rw [Array.getElem?_eq_none h] at this
      cases this
  have hne : vr.ownBlock ≠ some r := by
    rcases hr.own.2 with ⟨rfl, _⟩ | ⟨g', cap', cur, rfl, hg, _⟩
    · simp [Value.ownBlock]
    · simp [Value.ownBlock]; omega
  have hS : ∀ k, vr.ownBlock = some k → k ∈ (r :: v.ownBlock.toList) ∨ w.heap.size ≤ k := by
    intro k hk'
    rcases ho with h | ⟨g', h, hg⟩
    · left
      rw [h] at hk'
      simp [hk']
    · right
      rw [h] at hk'
      cases hk'
      exact hg
  have hb1 : w1.heap[r]? = some (.cells #[vr, .int .i64 (L.length : Int)] 101 (0, 0)) := by
    rw [hgrow.block r (by simp; omega) (Ne.symm hne), Below.heap_alloc _ _ _ hrl]
    exact hr.hb
  refine ⟨?_, ?_, ?_, ?_⟩
  · rw [heap_set hb1]
    rfl
  · have e2 : byteCells (BitMath.pack L) ++ [.int .u8 0] = byteCells (BitMath.packTo L (L.length / 8 + 1)) := by
      rw [← BitMath.pack_full_zero L hq]
      simp [byteCells]
    rw [← e2]
    exact ownsRow_setCell_below hown (by show r < r + 1; omega) _
  · have k1 : Kept (vr.ownBlock.toList) (wr.alloc (.cells #[.int .u8 0] 5)) w1 := Kept.grown hgrow (fun k hk' => by simp [hk'])
    have k2 : Kept (r :: v.ownBlock.toList) w w1 := (hk.alloc _).trans k1 (fun x hx => hS x (by simpa using hx))
    exact k2.setCell (.inl (by simp)) _
  · rcases hat with h | h
    · rcases hS g h with h1 | h1
      · rcases List.mem_cons.1 h1 with h2 | h2
        · subst h2; exact absurd h hne
        · left
          simpa using (Option.mem_toList.1 h2).symm
      · exact .inr h1
    · right
      have := hk.size
      omega

theorem or_eq (b z s : Nat) (hb : b < 256) (hz : z * 2 ^ s < 256) : bits .or .u8 (b : Int) (IntKind.u8.wrap (IntKind.u64.wrap ((z : Int) * 2 ^ s))) = ((b ||| (z <<< s) : Nat) : Int) := by
  have e0 : ((z : Int) * 2 ^ s) = ((z * 2 ^ s : Nat) : Int) := by simp
  have e1 : IntKind.u8.wrap (IntKind.u64.wrap ((z : Int) * 2 ^ s)) = ((z <<< s : Nat) : Int) := by
    rw [e0, Nat.shiftLeft_eq, IntWalk.u64_in _ (by omega), IntWalk.u8_in _ (by omega)]
  rw [e1, u8_or_nat _ _ hb (by rw [Nat.shiftLeft_eq]; exact hz)]

theorem mid_facts {S : List Nat} {w wc : World} {r : Nat} {ob : Option Nat} {L : List Bool} {g cap : Nat} (h : Mid S w wc r ob L g cap) :
    wc.cell? ⟨r, 1, none⟩ = some (.int .i64 (L.length : Int)) ∧ wc.cell? ⟨r, 0, none⟩ = some (.slice (some ⟨g, 0, none⟩) (L.length / 8 + 1) cap) ∧
    wc.cell? ⟨g, L.length / 8, none⟩ = some (.int .u8 (BitMath.byteAt L (L.length / 8) : Int)) ∧ wc.frozen? ⟨g, L.length / 8, none⟩ = false ∧ wc.frozen? ⟨r, 1, none⟩ = false ∧ L.length / 8 + 1 ≤ cap ∧ r < g := by
  obtain ⟨h1, h2, h3, h4⟩ := h
  obtain ⟨g', cap', hv, hg, hcap, hlen, hc, cur, hh, -⟩ := own_cell h2 (by omega)
  cases hv
  refine ⟨cells_of h1 1, cells_of h1 0, ?_, frozen_of hh _, frozen_of h1 _, hcap, by omega⟩
  have := hc (L.length / 8) (by rw [BitMath.length_packTo]; omega)
  rw [this]
  have e : (BitMath.packTo L (L.length / 8 + 1))[L.length / 8]? = some (UInt8.ofNat (BitMath.byteAt L (L.length / 8))) := BitMath.getElem_packTo L _ _ (by omega)
  rw [List.getElem?_eq_getElem (by rw [BitMath.length_packTo]; omega)] at e
  have e2 := Option.some.inj e
  rw [e2]
  have hlt := BitMath.byteAt_lt L (L.length / 8)
  simp [Nat.mod_eq_of_lt hlt]

/-- The round's end: a piece of t bits has been laid into the last byte. -/
theorem row_step {S : List Nat} {w wc : World} {r : Nat} {ob : Option Nat} {L X : List Bool} {g cap : Nat} (h : Mid S w wc r ob L g cap) (hrS : r ∈ S) (hgS : some g = ob → g ∈ S) (t : Nat) (hX : X.length = t) (h1 : 0 < t) (h2 : t ≤ 8 - L.length % 8) :
    IsRow (((wc.setCell ⟨g, L.length / 8, none⟩ (.int .u8 ((BitMath.byteAt L (L.length / 8) ||| (BitMath.valB X <<< (8 - L.length % 8 - t)) : Nat) : Int))).drew).setCell ⟨r, 1, none⟩ (.int .i64 ((L.length : Int) + (t : Int)))) r (.slice (some ⟨g, 0, none⟩) (L.length / 8 + 1) cap) (L ++ X) ∧
    Kept S w (((wc.setCell ⟨g, L.length / 8, none⟩ (.int .u8 ((BitMath.byteAt L (L.length / 8) ||| (BitMath.valB X <<< (8 - L.length % 8 - t)) : Nat) : Int))).drew).setCell ⟨r, 1, none⟩ (.int .i64 ((L.length : Int) + (t : Int)))) := by
  subst hX
  have hf := mid_facts h
  obtain ⟨hb, hown, hk, ho⟩ := h
  have hlt : BitMath.byteAt L (L.length / 8) ||| (BitMath.valB X <<< (8 - L.length % 8 - X.length)) < 256 := by
    rw [← BitMath.byteAt_or L X h2]
    exact BitMath.byteAt_lt _ _
  have hc : (((BitMath.byteAt L (L.length / 8) ||| (BitMath.valB X <<< (8 - L.length % 8 - X.length)) : Nat)) : Int) = (((UInt8.ofNat (BitMath.byteAt L (L.length / 8) ||| (BitMath.valB X <<< (8 - L.length % 8 - X.length)))).toNat : Nat) : Int) := by
    rw [ofNat_lt _ hlt]
  rw [hc]
  have hown2 := own_set hown (L.length / 8) (UInt8.ofNat (BitMath.byteAt L (L.length / 8) ||| (BitMath.valB X <<< (8 - L.length % 8 - X.length))))
  have e1 : (BitMath.packTo L (L.length / 8 + 1)).set (L.length / 8) (UInt8.ofNat (BitMath.byteAt L (L.length / 8) ||| (BitMath.valB X <<< (8 - L.length % 8 - X.length)))) = BitMath.pack (L ++ X) := by
    rw [BitMath.pack_piece L X h1 h2, BitMath.packTo, List.set_append_right _ _ (by rw [BitMath.length_packTo]; exact Nat.le_refl _), BitMath.length_packTo]
    simp
  rw [e1] at hown2
  have e2 : ((L ++ X).length + 7) / 8 = L.length / 8 + 1 := by rw [List.length_append]; omega
  refine ⟨⟨?_, ?_⟩, ?_⟩
  · have hb2 : ((wc.setCell ⟨g, L.length / 8, none⟩ (.int .u8 (((UInt8.ofNat (BitMath.byteAt L (L.length / 8) ||| (BitMath.valB X <<< (8 - L.length % 8 - X.length)))).toNat : Nat) : Int))).drew).heap[r]? = some (.cells #[.slice (some ⟨g, 0, none⟩) (L.length / 8 + 1) cap, .int .i64 (L.length : Int)] 101 (0, 0)) := by
      show (wc.setCell ⟨g, L.length / 8, none⟩ _).heap[r]? = _
      rw [Below.heap_setCell _ _ _ _ (by show r ≠ g; omega)]
      exact hb
    rw [heap_set hb2]
    simp
  · rw [e2]
    exact ownsRow_setCell_below hown2 (by show r < r + 1; omega) _
  · refine Kept.setCell ?_ (.inl hrS) _
    refine Kept.drew ?_
    refine hk.setCell ?_ _
    rcases ho with h' | h'
    · exact .inl (hgS h')
    · exact .inr h'
end Go.Proofs.YtgdflopgdlpimaaDoor
