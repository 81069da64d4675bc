/- bits.New, (*Row).Len, (*Row).Bytes, last, by contracts. -/
import Derived.Test.YtgdflopgdlpimaaDoorRefs2
import Derived.Deep.AppendLies
import Derived.Deep.RegionHeld3
import Derived.Deep.QuietTactic
import Derived.BigQuiet
namespace Go.Proofs.YtgdflopgdlpimaaDoor
open Go.RowKit

theorem last_eq (x t : Nat) (hx : (x : Int) ≤ 18446744073709551615) (ht : t ≤ 8) : bits .and .u64 (x : Int) (IntKind.u64.wrap (IntKind.u64.wrap (2 ^ t) - 1)) = ((x % 2 ^ t : Nat) : Int) := by
  have hp : 2 ^ t ≤ 2 ^ 8 := Nat.pow_le_pow_right (by omega) ht
  have h8 : (2 : Nat) ^ 8 = 256 := rfl
  have hp1 : 1 ≤ 2 ^ t := Nat.one_le_two_pow
  have e0 : ((2 : Int) ^ t) = ((2 ^ t : Nat) : Int) := by simp
  have e1 : IntKind.u64.wrap (IntKind.u64.wrap (2 ^ t) - 1) = ((2 ^ t - 1 : Nat) : Int) := by
    rw [IntKind.wrap_u64, IntKind.wrap_u64, e0]
    omega
  rw [e1, u64_and_nat _ _ (by omega) (by omega), Nat.and_two_pow_sub_one_eq_mod]

theorem last_any (x t : Nat) (w : World) (hx : (x : Int) ≤ 18446744073709551615) (ht : t ≤ 8) :
    Calls Tryd.prog 56 #[.int .u64 x, .int .i64 t] w fun e w' => e = .returned (.int .u64 ((x % 2 ^ t : Nat) : Int)) ∧ w' = w := by
  have h0 : (0 : Int) ≤ (t : Int) := by omega
  have h1 : (t : Int) ≤ 64 := by omega
  have HE := (show Hid _ from last_eq x t hx ht)
  go_enter Tryd.func56, Tryd.ntmps56
  go_wp2
  go_ret
  exact ⟨congrArg (fun i => Ending.returned (Value.int .u64 i)) HE.out, rfl⟩

/-- What stays as it was: every block but those of S. -/
structure Kept (S : List Nat) (w w' : World) : Prop where
  os : w'.os = w.os
  tape : w'.tape = w.tape
  output : w'.output = w.output
  size : w.heap.size ≤ w'.heap.size
  block : ∀ k, k < w.heap.size → k ∉ S → w'.heap[k]? = w.heap[k]?
theorem Kept.refl (S : List Nat) (w : World) : Kept S w w := ⟨rfl, rfl, rfl, Nat.le_refl _, fun _ _ _ => rfl⟩
theorem Kept.trans {S T : List Nat} {a b c : World} (h : Kept S a b) (k : Kept T b c) (hT : ∀ x, x ∈ T → x ∈ S ∨ a.heap.size ≤ x) : Kept S a c :=
  ⟨k.os.trans h.os, k.tape.trans h.tape, k.output.trans h.output, Nat.le_trans h.size k.size, fun x hx hS => (k.block x (Nat.lt_of_lt_of_le hx h.size) (fun hm => by rcases hT x hm with h1 | h1; exact hS h1; omega)).trans (h.block x hx hS)⟩
theorem Kept.of_below {S : List Nat} {w w' : World} (h : Below w.heap.size w w') : Kept S w w' := ⟨h.os, h.tape, h.output, h.size, fun k hk _ => h.block k hk⟩
theorem Kept.below {S : List Nat} {B : Nat} {w w' : World} (h : Kept S w w') (hB : B ≤ w.heap.size) (hS : ∀ x, x ∈ S → B ≤ x) : Below B w w' :=
  ⟨h.os, h.tape, h.output, h.size, fun k hk => h.block k (Nat.lt_of_lt_of_le hk hB) (fun hm => by have := hS k hm; omega)⟩
theorem Kept.grown {S : List Nat} {w w' : World} {row : Option Nat} (h : w.grownBy w' row) (hS : ∀ k, row = some k → k ∈ S) : Kept S w w' :=
  ⟨h.os, h.tape, h.output, h.size, fun k hk hm => h.block k hk (fun e => hm (hS k e.symm))⟩
theorem Kept.setCell {S : List Nat} {a w : World} (h : Kept S a w) {p : Addr} (hp : p.block ∈ S ∨ a.heap.size ≤ p.block) (u : Value) : Kept S a (w.setCell p u) :=
  h.trans (T := [p.block]) ⟨rfl, rfl, rfl, by simp, fun k _ hm => Below.heap_setCell w p u k (by simpa using hm)⟩ (fun x hx => by simp at hx; subst hx; exact hp)
theorem Kept.alloc {S : List Nat} {a w : World} (h : Kept S a w) (o : Obj) : Kept S a (w.alloc o) :=
  h.trans (T := []) ⟨rfl, rfl, rfl, by simp, fun k hk _ => Below.heap_alloc w o k hk⟩ (fun x hx => by cases hx)
theorem Kept.drew {S : List Nat} {a w : World} (h : Kept S a w) : Kept S a w.drew := ⟨h.os, h.tape, h.output, h.size, h.block⟩

/-- The cells of bytes. -/
def byteCells (l : List UInt8) : List Value := l.map fun b => .int .u8 (b.toNat : Int)

/-- A row of bits at block r: its bytes in the slice v. -/
structure IsRow (w : World) (r : Nat) (v : Value) (bs : List Bool) : Prop where
  hb : w.heap[r]? = some (.cells #[v, .int .i64 (bs.length : Int)] 101 (0, 0))
  own : w.ownsRow (r + 1) 5 1 v ((bs.length + 7) / 8) (byteCells (BitMath.pack bs))

theorem cells_of {w : World} {r : Nat} {cs : Array Value} {t : TypeId} (h : w.heap[r]? = some (.cells cs t (0, 0))) (i : Nat) : w.cell? ⟨r, i, none⟩ = cs[i]? := by
  simp [World.cell?, h]
theorem frozen_of {w : World} {r : Nat} {cs : Array Value} {t : TypeId} (h : w.heap[r]? = some (.cells cs t (0, 0))) (i : Nat) : w.frozen? ⟨r, i, none⟩ = false := by
  simp [World.frozen?, h]

theorem new_any (w : World) :
    Calls Tryd.prog 17 #[] w fun e w' => e = .returned (.pointer (some ⟨w.heap.size, 0, none⟩)) ∧ IsRow w' w.heap.size (.slice none 0 0) [] ∧ Below w.heap.size w w' ∧ w'.heap.size = w.heap.size + 1 := by
  go_enter Tryd.func17, Tryd.ntmps17
  go_wp2
  go_ret
  refine ⟨rfl, ⟨?_, ⟨rfl, .inl ⟨rfl, rfl⟩⟩⟩, (Below.refl _ _).alloc (Nat.le_refl _) _, by simp⟩
  exact heap_alloc_new _ _

theorem len_any (w : World) (r : Nat) (v : Value) (bs : List Bool) (h : IsRow w r v bs) :
    Calls Tryd.prog 20 #[.pointer (some ⟨r, 0, none⟩)] w fun e w' => e = .returned (.int .i64 (bs.length : Int)) ∧ w' = w := by
  have h1 : w.cell? ⟨r, 1, none⟩ = some (.int .i64 (bs.length : Int)) := cells_of h.hb 1
  clear h
  go_enter Tryd.func20, Tryd.ntmps20
  go_wp2
  go_ret
  exact ⟨rfl, rfl⟩

theorem room_any (w : World) (r : Nat) (v : Value) (bs : List Bool) (h : IsRow w r v bs) (hb : bs.length ≤ 1048576) :
    Calls Tryd.prog 55 #[.pointer (some ⟨r, 0, none⟩)] w fun e w' => e = .returned (.int .i64 (1048576 - (bs.length : Int))) ∧ w' = w := by
  have h1 : w.cell? ⟨r, 1, none⟩ = some (.int .i64 (bs.length : Int)) := cells_of h.hb 1
  clear h
  go_enter Tryd.func55, Tryd.ntmps55
  go_wp2
  go_ret
  exact ⟨rfl, rfl⟩

theorem addr_add (g j : Nat) : (⟨g, 0, none⟩ : Addr).add j = ⟨g, j, none⟩ := by
  unfold Addr.add
  cases j <;> simp

theorem own_cases {w : World} {base : Nat} {v : Value} {n : Nat} {l : List UInt8} (h : w.ownsRow base 5 1 v n (byteCells l)) :
    (v = .slice none 0 0 ∧ n = 0 ∧ l = []) ∨ ∃ g cap, v = .slice (some ⟨g, 0, none⟩) n cap ∧ base ≤ g ∧ n ≤ cap ∧ l.length = n ∧ (∀ j (hj : j < l.length), w.cell? ⟨g, j, none⟩ = some (.int .u8 (l[j].toNat : Int))) ∧ ∃ cur, w.heap[g]? = some (.cells cur 5 (0, 0)) ∧ cur.size = cap ∧ cap ≤ maxLen ∧ cur.toList.take n = byteCells l := by
  obtain ⟨hl, h2⟩ := h
  have hlen : l.length = n := by simpa [byteCells] using hl
  rcases h2 with ⟨hv, h0⟩ | ⟨g, cap, cur, hv, hg, hh, h1, h2, h3, h4⟩
  · exact .inl ⟨hv, h0, List.eq_nil_of_length_eq_zero (hlen.trans h0)⟩
  · rw [Nat.mul_one] at h3 h4
    refine .inr ⟨g, cap, hv, hg, h1, hlen, fun j hj => ?_, cur, hh, h3, h2, h4⟩
    rw [cells_of hh j, ← Array.getElem?_toList]
    have e : (cur.toList.take n)[j]? = cur.toList[j]? := by rw [List.getElem?_take_of_lt (by omega)]
    rw [← e, h4, byteCells, List.getElem?_map, List.getElem?_eq_getElem hj]
    rfl
theorem own_cell {w : World} {base : Nat} {v : Value} {n : Nat} {l : List UInt8} (h : w.ownsRow base 5 1 v n (byteCells l)) (hn : 0 < n) :
    ∃ g cap, v = .slice (some ⟨g, 0, none⟩) n cap ∧ base ≤ g ∧ n ≤ cap ∧ l.length = n ∧ (∀ j (hj : j < l.length), w.cell? ⟨g, j, none⟩ = some (.int .u8 (l[j].toNat : Int))) ∧ ∃ cur, w.heap[g]? = some (.cells cur 5 (0, 0)) ∧ cur.size = cap ∧ cap ≤ maxLen ∧ cur.toList.take n = byteCells l := by
  rcases own_cases h with ⟨_, h0, _⟩ | h
  · omega
  · exact h

theorem string_of_nil (w : World) : (convert 84 9 (.slice none 0 0)).run Tryd.prog w = .ok (.string ⟨#[]⟩) w := by kernel_rfl
theorem string_of_own {w : World} {base : Nat} {v : Value} {n : Nat} {l : List UInt8} (h : w.ownsRow base 5 1 v n (byteCells l)) :
    (convert 84 9 v).run Tryd.prog w = .ok (.string ⟨l.toArray⟩) w := by
  rcases own_cases h with ⟨rfl, _, rfl⟩ | ⟨g, cap, rfl, hg, hcap, hlen, hc, -⟩
  · exact string_of_nil w
  · rw [← hlen]
    exact run_convert_bytes_back (P := Tryd.prog) w 84 9 5 ⟨g, 0, none⟩ cap l Tryd.underlying84 Tryd.underlying5 Tryd.underlying9 (fun j hj => by rw [addr_add]; exact hc j hj)

theorem bytes_any (w : World) (r : Nat) (v : Value) (bs : List Bool) (h : IsRow w r v bs) :
    Calls Tryd.prog 22 #[.pointer (some ⟨r, 0, none⟩)] w fun e w' => e = .returned (.string ⟨(BitMath.pack bs).toArray⟩) ∧ w' = w := by
  have h1 : w.cell? ⟨r, 0, none⟩ = some v := cells_of h.hb 0
  have hback := string_of_own h.own
  have hs : ∃ a n c, v = .slice a n c := by
    rcases h.own.2 with ⟨rfl, _⟩ | ⟨g, cap, cur, rfl, _⟩
    · exact ⟨_, _, _, rfl⟩
    · exact ⟨_, _, _, rfl⟩
  obtain ⟨a, n, c, rfl⟩ := hs
  clear h
  go_enter Tryd.func22, Tryd.ntmps22
  go_wp2
  go_ret
  exact ⟨rfl, rfl⟩
end Go.Proofs.YtgdflopgdlpimaaDoor
