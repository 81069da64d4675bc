/- bits.New, (*Row).Len, (*Row).Bytes, last, by contracts. -/
import Derived.Test.YtnjmplmogibgfabDoorRefsGroup
import Derived.Deep.AppendLies
import Derived.Deep.RegionHeld3
import Derived.Deep.QuietTactic
import Derived.BigQuiet
import Derived.Test.YtnjmplmogibgfabDoorBitMathGroup
namespace Go.Proofs.YtnjmplmogibgfabDoor
open Go.RowKit

theorem last_eq (x t : Nat) (hx : (x : Int) ≤ 18446744073709551615) (ht : t ≤ 8) : bits .and .u64 (x : Int) (IntKind.u64.wrap (IntKind.u64.wrap (2 ^ t) - 1)) = ((x % 2 ^ t : Nat) : Int) := by
  have hp : 2 ^ t ≤ 2 ^ 8 := Nat.pow_le_pow_right (by omega) ht
  have h8 : (2 : Nat) ^ 8 = 256 := rfl
  have hp1 : 1 ≤ 2 ^ t := Nat.one_le_two_pow
  have e0 : ((2 : Int) ^ t) = ((2 ^ t : Nat) : Int) := by simp
  have e1 : IntKind.u64.wrap (IntKind.u64.wrap (2 ^ t) - 1) = ((2 ^ t - 1 : Nat) : Int) := by
    rw [IntKind.wrap_u64, IntKind.wrap_u64, e0]
    omega
  rw [e1, u64_and_nat _ _ (by omega) (by omega), Nat.and_two_pow_sub_one_eq_mod]

theorem last_any (x t : Nat) (w : World) (hx : (x : Int) ≤ 18446744073709551615) (ht : t ≤ 8) :
    Calls Tryd.prog 136 #[.int .u64 x, .int .i64 t] w fun e w' => e = .returned (.int .u64 ((x % 2 ^ t : Nat) : Int)) ∧ w' = w := by
  have h0 : (0 : Int) ≤ (t : Int) := by omega
  have h1 : (t : Int) ≤ 64 := by omega
  have HE := (show Hid _ from last_eq x t hx ht)
  go_enter Tryd.func136, Tryd.ntmps136
  go_wp2
  go_ret
  exact ⟨congrArg (fun i => Ending.returned (Value.int .u64 i)) HE.out, rfl⟩

/-- What stays as it was: every block but those of S. -/
structure Kept (S : List Nat) (w w' : World) : Prop where
  os : w'.os = w.os
  tape : w'.tape = w.tape
  output : w'.output = w.output
  size : w.heap.size ≤ w'.heap.size
  block : ∀ k, k < w.heap.size → k ∉ S → w'.heap[k]? = w.heap[k]?
theorem Kept.refl (S : List Nat) (w : World) : Kept S w w := ⟨rfl, rfl, rfl, Nat.le_refl _, fun _ _ _ => rfl⟩
theorem Kept.trans {S T : List Nat} {a b c : World} (h : Kept S a b) (k : Kept T b c) (hT : ∀ x, x ∈ T → x ∈ S ∨ a.heap.size ≤ x) : Kept S a c :=
  ⟨k.os.trans h.os, k.tape.trans h.tape, k.output.trans h.output, Nat.le_trans h.size k.size, fun x hx hS => (k.block x (Nat.lt_of_lt_of_le hx h.size) (fun hm => by rcases hT x hm with h1 | h1; exact hS h1; omega)).trans (h.block x hx hS)⟩
theorem Kept.of_below {S : List Nat} {w w' : World} (h : Below w.heap.size w w') : Kept S w w' := ⟨h.os, h.tape, h.output, h.size, fun k hk _ => h.block k hk⟩
theorem Kept.below {S : List Nat} {B : Nat} {w w' : World} (h : Kept S w w') (hB : B ≤ w.heap.size) (hS : ∀ x, x ∈ S → B ≤ x) : Below B w w' :=
  ⟨h.os, h.tape, h.output, h.size, fun k hk => h.block k (Nat.lt_of_lt_of_le hk hB) (fun hm => by have := hS k hm; omega)⟩
theorem Kept.grown {S : List Nat} {w w' : World} {row : Option Nat} (h : w.grownBy w' row) (hS : ∀ k, row = some k → k ∈ S) : Kept S w w' :=
  ⟨h.os, h.tape, h.output, h.size, fun k hk hm => h.block k hk (fun e => hm (hS k e.symm))⟩
theorem Kept.setCell {S : List Nat} {a w : World} (h : Kept S a w) {p : Addr} (hp : p.block ∈ S ∨ a.heap.size ≤ p.block) (u : Value) : Kept S a (w.setCell p u) :=
  h.trans (T := [p.block]) ⟨rfl, rfl, rfl, by simp, fun k _ hm => Below.heap_setCell w p u k (by simpa using hm)⟩ (fun x hx => by simp at hx; subst hx; exact hp)
theorem Kept.alloc {S : List Nat} {a w : World} (h : Kept S a w) (o : Obj) : Kept S a (w.alloc o) :=
  h.trans (T := []) ⟨rfl, rfl, rfl, by simp, fun k hk _ => Below.heap_alloc w o k hk⟩ (fun x hx => by cases hx)
theorem Kept.drew {S : List Nat} {a w : World} (h : Kept S a w) : Kept S a w.drew := ⟨h.os, h.tape, h.output, h.size, h.block⟩

/-- The cells of bytes. -/
def byteCells (l : List UInt8) : List Value := l.map fun b => .int .u8 (b.toNat : Int)

/-- A row of bits at block r: its bytes in the slice v. -/
structure IsRow (w : World) (r : Nat) (v : Value) (bs : List Bool) : Prop where
  hb : w.heap[r]? = some (.cells #[v, .int .i64 (bs.length : Int)] 216 (0, 0))
  own : w.ownsRow (r + 1) 5 1 v ((bs.length + 7) / 8) (byteCells (BitMath.pack bs))

theorem cells_of {w : World} {r : Nat} {cs : Array Value} {t : TypeId} (h : w.heap[r]? = some (.cells cs t (0, 0))) (i : Nat) : w.cell? ⟨r, i, none⟩ = cs[i]? := by
  simp [World.cell?, h]
theorem frozen_of {w : World} {r : Nat} {cs : Array Value} {t : TypeId} (h : w.heap[r]? = some (.cells cs t (0, 0))) (i : Nat) : w.frozen? ⟨r, i, none⟩ = false := by
  simp [World.frozen?, h]

theorem new_any (w : World) :
    Calls Tryd.prog 103 #[] w fun e w' => e = .returned (.pointer (some ⟨w.heap.size, 0, none⟩)) ∧ IsRow w' w.heap.size (.slice none 0 0) [] ∧ Below w.heap.size w w' ∧ w'.heap.size = w.heap.size + 1 := by
  go_enter Tryd.func103, Tryd.ntmps103
  go_wp2
  go_ret
  refine ⟨rfl, ⟨?_, ⟨rfl, .inl ⟨rfl, rfl⟩⟩⟩, (Below.refl _ _).alloc (Nat.le_refl _) _, by simp⟩
  exact heap_alloc_new _ _

theorem room_any (w : World) (r : Nat) (v : Value) (bs : List Bool) (h : IsRow w r v bs) (hb : bs.length ≤ 1048576) :
    Calls Tryd.prog 135 #[.pointer (some ⟨r, 0, none⟩)] w fun e w' => e = .returned (.int .i64 (1048576 - (bs.length : Int))) ∧ w' = w := by
  have h1 : w.cell? ⟨r, 1, none⟩ = some (.int .i64 (bs.length : Int)) := cells_of h.hb 1
  clear h
  go_enter Tryd.func135, Tryd.ntmps135
  go_wp2
  go_ret
  exact ⟨rfl, rfl⟩

theorem addr_add (g j : Nat) : (⟨g, 0, none⟩ : Addr).add j = ⟨g, j, none⟩ := by
  unfold Addr.add
  cases j <;> simp

theorem own_cases {w : World} {base : Nat} {v : Value} {n : Nat} {l : List UInt8} (h : w.ownsRow base 5 1 v n (byteCells l)) :
    (v = .slice none 0 0 ∧ n = 0 ∧ l = []) ∨ ∃ g cap, v = .slice (some ⟨g, 0, none⟩) n cap ∧ base ≤ g ∧ n ≤ cap ∧ l.length = n ∧ (∀ j (hj : j < l.length), w.cell? ⟨g, j, none⟩ = some (.int .u8 (l[j].toNat : Int))) ∧ ∃ cur, w.heap[g]? = some (.cells cur 5 (0, 0)) ∧ cur.size = cap ∧ cap ≤ maxLen ∧ cur.toList.take n = byteCells l := by
  obtain ⟨hl, h2⟩ := h
  have hlen : l.length = n := by simpa [byteCells] using hl
  rcases h2 with ⟨hv, h0⟩ | ⟨g, cap, cur, hv, hg, hh, h1, h2, h3, h4⟩
  · exact .inl ⟨hv, h0, List.eq_nil_of_length_eq_zero (hlen.trans h0)⟩
  · rw [Nat.mul_one] at h3 h4
    refine .inr ⟨g, cap, hv, hg, h1, hlen, fun j hj => ?_, cur, hh, h3, h2, h4⟩
    rw [cells_of hh j, ← Array.getElem?_toList]
    have e : (cur.toList.take n)[j]? = cur.toList[j]? := by rw [List.getElem?_take_of_lt (by omega)]
    rw [← e, h4, byteCells, List.getElem?_map, List.getElem?_eq_getElem hj]
    rfl
theorem own_cell {w : World} {base : Nat} {v : Value} {n : Nat} {l : List UInt8} (h : w.ownsRow base 5 1 v n (byteCells l)) (hn : 0 < n) :
    ∃ g cap, v = .slice (some ⟨g, 0, none⟩) n cap ∧ base ≤ g ∧ n ≤ cap ∧ l.length = n ∧ (∀ j (hj : j < l.length), w.cell? ⟨g, j, none⟩ = some (.int .u8 (l[j].toNat : Int))) ∧ ∃ cur, w.heap[g]? = some (.cells cur 5 (0, 0)) ∧ cur.size = cap ∧ cap ≤ maxLen ∧ cur.toList.take n = byteCells l := by
  rcases own_cases h with ⟨_, h0, _⟩ | h
  · omega
  · exact h

theorem string_of_nil (w : World) : (convert 133 9 (.slice none 0 0)).run Tryd.prog w = .ok (.string ⟨#[]⟩) w := by kernel_rfl
theorem string_of_own {w : World} {base : Nat} {v : Value} {n : Nat} {l : List UInt8} (h : w.ownsRow base 5 1 v n (byteCells l)) :
    (convert 133 9 v).run Tryd.prog w = .ok (.string ⟨l.toArray⟩) w := by
  rcases own_cases h with ⟨rfl, _, rfl⟩ | ⟨g, cap, rfl, hg, hcap, hlen, hc, -⟩
  · exact string_of_nil w
  · rw [← hlen]
    exact run_convert_bytes_back (P := Tryd.prog) w 133 9 5 ⟨g, 0, none⟩ cap l Tryd.underlying133 Tryd.underlying5 Tryd.underlying9 (fun j hj => by rw [addr_add]; exact hc j hj)

theorem bytes_any (w : World) (r : Nat) (v : Value) (bs : List Bool) (h : IsRow w r v bs) :
    Calls Tryd.prog 107 #[.pointer (some ⟨r, 0, none⟩)] w fun e w' => e = .returned (.string ⟨(BitMath.pack bs).toArray⟩) ∧ w' = w := by
  have h1 : w.cell? ⟨r, 0, none⟩ = some v := cells_of h.hb 0
  have hback := string_of_own h.own
  have hs : ∃ a n c, v = .slice a n c := by
    rcases h.own.2 with ⟨rfl, _⟩ | ⟨g, cap, cur, rfl, _⟩
    · exact ⟨_, _, _, rfl⟩
    · exact ⟨_, _, _, rfl⟩
  obtain ⟨a, n, c, rfl⟩ := hs
  clear h
  go_enter Tryd.func107, Tryd.ntmps107
  go_wp2
  go_ret
  exact ⟨rfl, rfl⟩
end Go.Proofs.YtnjmplmogibgfabDoor
/- What the parts of a round of Put do to the row: outside the walk. -/
namespace Go.Proofs.YtnjmplmogibgfabDoor
open Go.RowKit

theorem heap_set {w : World} {b : Nat} {cs : Array Value} {t : TypeId} {f : Nat × Nat} (h : w.heap[b]? = some (.cells cs t f)) (i : Nat) (v : Value) :
    (w.setCell ⟨b, i, none⟩ v).heap[b]? = some (.cells (cs.setIfInBounds i v) t f) := by
  simp [World.setCell, Array.getElem?_modify, h]

theorem ofNat_lt (n : Nat) (h : n < 256) : (UInt8.ofNat n).toNat = n := by simp [Nat.mod_eq_of_lt h]

/-- A byte of an owned row is written. -/
theorem own_set {w : World} {base g n cap : Nat} {l : List UInt8} (h : w.ownsRow base 5 1 (.slice (some ⟨g, 0, none⟩) n cap) n (byteCells l)) (k : Nat) (c : UInt8) :
    (w.setCell ⟨g, k, none⟩ (.int .u8 (c.toNat : Int))).ownsRow base 5 1 (.slice (some ⟨g, 0, none⟩) n cap) n (byteCells (l.set k c)) := by
  obtain ⟨hl, h2⟩ := h
  refine ⟨by simpa [byteCells] using hl, ?_⟩
  rcases h2 with ⟨hv, _⟩ | ⟨g', cap', cur, hv, hg, hh, h1, h2, h3, h4⟩
  · cases hv
  · cases hv
    refine .inr ⟨g, cap, cur.setIfInBounds k (.int .u8 (c.toNat : Int)), rfl, hg, heap_set hh k _, h1, h2, by simpa using h3, ?_⟩
    rw [Array.toList_setIfInBounds, List.take_set, h4]
    simp [byteCells, List.map_set]

/-- Where the last byte is at hand: behind the first test of a round. -/
def Mid (S : List Nat) (w wx : World) (r : Nat) (ob : Option Nat) (L : List Bool) (g cap : Nat) : Prop :=
  wx.heap[r]? = some (.cells #[.slice (some ⟨g, 0, none⟩) (L.length / 8 + 1) cap, .int .i64 (L.length : Int)] 216 (0, 0)) ∧
  wx.ownsRow (r + 1) 5 1 (.slice (some ⟨g, 0, none⟩) (L.length / 8 + 1) cap) (L.length / 8 + 1) (byteCells (BitMath.packTo L (L.length / 8 + 1))) ∧
  Kept S w wx ∧ (some g = ob ∨ w.heap.size ≤ g)

theorem mid_part {S : List Nat} {w wr : World} {r : Nat} {ob : Option Nat} {vr : Value} {L : List Bool} (hr : IsRow wr r vr L) (hk : Kept S w wr) (ho : vr.ownBlock = ob ∨ ∃ g, vr.ownBlock = some g ∧ w.heap.size ≤ g) (hq : L.length % 8 ≠ 0) :
    ∃ g cap, Mid S w wr r ob L g cap := by
  have e : (L.length + 7) / 8 = L.length / 8 + 1 := by omega
  have hown := hr.own
  rw [e, BitMath.pack_part L hq] at hown
  obtain ⟨g, cap, rfl, -⟩ := own_cell hown (by omega)
  refine ⟨g, cap, hr.hb, hown, hk, ?_⟩
  rcases ho with h | ⟨g', h, hg⟩
  · exact .inl h
  · have : g = g' := by simpa [Value.ownBlock] using h
    subst this
    exact .inr hg

theorem mid_full {w wr w1 : World} {r : Nat} {v vr : Value} {L : List Bool} {g cap : Nat} (hr : IsRow wr r vr L) (hk : Kept (r :: v.ownBlock.toList) w wr) (ho : vr.ownBlock = v.ownBlock ∨ ∃ g, vr.ownBlock = some g ∧ w.heap.size ≤ g) (hq : L.length % 8 = 0)
    (hown : w1.ownsRow (r + 1) 5 1 (.slice (some ⟨g, 0, none⟩) ((L.length + 7) / 8 + 1) cap) ((L.length + 7) / 8 + 1) (byteCells (BitMath.pack L) ++ [.int .u8 0]))
    (hgrow : (wr.alloc (.cells #[.int .u8 0] 5)).grownBy w1 vr.ownBlock) (hat : vr.ownBlock = some g ∨ g = wr.heap.size + 1) :
    Mid (r :: v.ownBlock.toList) w (w1.setCell ⟨r, 0, none⟩ (.slice (some ⟨g, 0, none⟩) ((L.length + 7) / 8 + 1) cap)) r v.ownBlock L g cap := by
  have e : (L.length + 7) / 8 = L.length / 8 := by omega
  rw [e] at hown ⊢
  have hrl : r < wr.heap.size := by
    rcases Nat.lt_or_ge r wr.heap.size with h | h
    · exact h
    · have := hr.hb
      rw [Array.getElem?_eq_none h] at this
      cases this
  have hne : vr.ownBlock ≠ some r := by
    rcases hr.own.2 with ⟨rfl, _⟩ | ⟨g', cap', cur, rfl, hg, _⟩
    · simp [Value.ownBlock]
    · simp [Value.ownBlock]; omega
  have hS : ∀ k, vr.ownBlock = some k → k ∈ (r :: v.ownBlock.toList) ∨ w.heap.size ≤ k := by
    intro k hk'
    rcases ho with h | ⟨g', h, hg⟩
    · left
      rw [h] at hk'
      simp [hk']
    · right
      rw [h] at hk'
      cases hk'
      exact hg
  have hb1 : w1.heap[r]? = some (.cells #[vr, .int .i64 (L.length : Int)] 216 (0, 0)) := by
    rw [hgrow.block r (by simp; omega) (Ne.symm hne), Below.heap_alloc _ _ _ hrl]
    exact hr.hb
  refine ⟨?_, ?_, ?_, ?_⟩
  · rw [heap_set hb1]
    rfl
  · have e2 : byteCells (BitMath.pack L) ++ [.int .u8 0] = byteCells (BitMath.packTo L (L.length / 8 + 1)) := by
      rw [← BitMath.pack_full_zero L hq]
      simp [byteCells]
    rw [← e2]
    exact ownsRow_setCell_below hown (by show r < r + 1; omega) _
  · have k1 : Kept (vr.ownBlock.toList) (wr.alloc (.cells #[.int .u8 0] 5)) w1 := Kept.grown hgrow (fun k hk' => by simp [hk'])
    have k2 : Kept (r :: v.ownBlock.toList) w w1 := (hk.alloc _).trans k1 (fun x hx => hS x (by simpa using hx))
    exact k2.setCell (.inl (by simp)) _
  · rcases hat with h | h
    · rcases hS g h with h1 | h1
      · rcases List.mem_cons.1 h1 with h2 | h2
        · subst h2; exact absurd h hne
        · left
          simpa using (Option.mem_toList.1 h2).symm
      · exact .inr h1
    · right
      have := hk.size
      omega

theorem or_eq (b z s : Nat) (hb : b < 256) (hz : z * 2 ^ s < 256) : bits .or .u8 (b : Int) (IntKind.u8.wrap (IntKind.u64.wrap ((z : Int) * 2 ^ s))) = ((b ||| (z <<< s) : Nat) : Int) := by
  have e0 : ((z : Int) * 2 ^ s) = ((z * 2 ^ s : Nat) : Int) := by simp
  have e1 : IntKind.u8.wrap (IntKind.u64.wrap ((z : Int) * 2 ^ s)) = ((z <<< s : Nat) : Int) := by
    rw [e0, Nat.shiftLeft_eq, IntWalk.u64_in _ (by omega), IntWalk.u8_in _ (by omega)]
  rw [e1, u8_or_nat _ _ hb (by rw [Nat.shiftLeft_eq]; exact hz)]

theorem mid_facts {S : List Nat} {w wc : World} {r : Nat} {ob : Option Nat} {L : List Bool} {g cap : Nat} (h : Mid S w wc r ob L g cap) :
    wc.cell? ⟨r, 1, none⟩ = some (.int .i64 (L.length : Int)) ∧ wc.cell? ⟨r, 0, none⟩ = some (.slice (some ⟨g, 0, none⟩) (L.length / 8 + 1) cap) ∧
    wc.cell? ⟨g, L.length / 8, none⟩ = some (.int .u8 (BitMath.byteAt L (L.length / 8) : Int)) ∧ wc.frozen? ⟨g, L.length / 8, none⟩ = false ∧ wc.frozen? ⟨r, 1, none⟩ = false ∧ L.length / 8 + 1 ≤ cap ∧ r < g := by
  obtain ⟨h1, h2, h3, h4⟩ := h
  obtain ⟨g', cap', hv, hg, hcap, hlen, hc, cur, hh, -⟩ := own_cell h2 (by omega)
  cases hv
  refine ⟨cells_of h1 1, cells_of h1 0, ?_, frozen_of hh _, frozen_of h1 _, hcap, by omega⟩
  have := hc (L.length / 8) (by rw [BitMath.length_packTo]; omega)
  rw [this]
  have e : (BitMath.packTo L (L.length / 8 + 1))[L.length / 8]? = some (UInt8.ofNat (BitMath.byteAt L (L.length / 8))) := BitMath.getElem_packTo L _ _ (by omega)
  rw [List.getElem?_eq_getElem (by rw [BitMath.length_packTo]; omega)] at e
  have e2 := Option.some.inj e
  rw [e2]
  have hlt := BitMath.byteAt_lt L (L.length / 8)
  simp [Nat.mod_eq_of_lt hlt]

/-- The round's end: a piece of t bits has been laid into the last byte. -/
theorem row_step {S : List Nat} {w wc : World} {r : Nat} {ob : Option Nat} {L X : List Bool} {g cap : Nat} (h : Mid S w wc r ob L g cap) (hrS : r ∈ S) (hgS : some g = ob → g ∈ S) (t : Nat) (hX : X.length = t) (h1 : 0 < t) (h2 : t ≤ 8 - L.length % 8) :
    IsRow (((wc.setCell ⟨g, L.length / 8, none⟩ (.int .u8 ((BitMath.byteAt L (L.length / 8) ||| (BitMath.valB X <<< (8 - L.length % 8 - t)) : Nat) : Int))).drew).setCell ⟨r, 1, none⟩ (.int .i64 ((L.length : Int) + (t : Int)))) r (.slice (some ⟨g, 0, none⟩) (L.length / 8 + 1) cap) (L ++ X) ∧
    Kept S w (((wc.setCell ⟨g, L.length / 8, none⟩ (.int .u8 ((BitMath.byteAt L (L.length / 8) ||| (BitMath.valB X <<< (8 - L.length % 8 - t)) : Nat) : Int))).drew).setCell ⟨r, 1, none⟩ (.int .i64 ((L.length : Int) + (t : Int)))) := by
  subst hX
  have hf := mid_facts h
  obtain ⟨hb, hown, hk, ho⟩ := h
  have hlt : BitMath.byteAt L (L.length / 8) ||| (BitMath.valB X <<< (8 - L.length % 8 - X.length)) < 256 := by
    rw [← BitMath.byteAt_or L X h2]
    exact BitMath.byteAt_lt _ _
  have hc : (((BitMath.byteAt L (L.length / 8) ||| (BitMath.valB X <<< (8 - L.length % 8 - X.length)) : Nat)) : Int) = (((UInt8.ofNat (BitMath.byteAt L (L.length / 8) ||| (BitMath.valB X <<< (8 - L.length % 8 - X.length)))).toNat : Nat) : Int) := by
    rw [ofNat_lt _ hlt]
  rw [hc]
  have hown2 := own_set hown (L.length / 8) (UInt8.ofNat (BitMath.byteAt L (L.length / 8) ||| (BitMath.valB X <<< (8 - L.length % 8 - X.length))))
  have e1 : (BitMath.packTo L (L.length / 8 + 1)).set (L.length / 8) (UInt8.ofNat (BitMath.byteAt L (L.length / 8) ||| (BitMath.valB X <<< (8 - L.length % 8 - X.length)))) = BitMath.pack (L ++ X) := by
    rw [BitMath.pack_piece L X h1 h2, BitMath.packTo, List.set_append_right _ _ (by rw [BitMath.length_packTo]; exact Nat.le_refl _), BitMath.length_packTo]
    simp
  rw [e1] at hown2
  have e2 : ((L ++ X).length + 7) / 8 = L.length / 8 + 1 := by rw [List.length_append]; omega
  refine ⟨⟨?_, ?_⟩, ?_⟩
  · have hb2 : ((wc.setCell ⟨g, L.length / 8, none⟩ (.int .u8 (((UInt8.ofNat (BitMath.byteAt L (L.length / 8) ||| (BitMath.valB X <<< (8 - L.length % 8 - X.length)))).toNat : Nat) : Int))).drew).heap[r]? = some (.cells #[.slice (some ⟨g, 0, none⟩) (L.length / 8 + 1) cap, .int .i64 (L.length : Int)] 216 (0, 0)) := by
      show (wc.setCell ⟨g, L.length / 8, none⟩ _).heap[r]? = _
      rw [Below.heap_setCell _ _ _ _ (by show r ≠ g; omega)]
      exact hb
    rw [heap_set hb2]
    simp
  · rw [e2]
    exact ownsRow_setCell_below hown2 (by show r < r + 1; omega) _
  · refine Kept.setCell ?_ (.inl hrS) _
    refine Kept.drew ?_
    refine hk.setCell ?_ _
    rcases ho with h' | h'
    · exact .inl (hgS h')
    · exact .inr h'
end Go.Proofs.YtnjmplmogibgfabDoor
