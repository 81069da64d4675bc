/- Package wave's ticksOf by its contract. -/
import Derived.Test.YtfanagohfimnkaaDoorTickMath
import Derived.Test.YtfanagohfimnkaaDoorTicksPut
namespace Go.Proofs.YtfanagohfimnkaaDoor
open Go.RowKit

def lastOf (ts : List Int) : Int := if 0 < ts.length then ts.getD (ts.length - 1) 0 else 0
def stepOf (ts : List Int) : Int := if 1 < ts.length then ts.getD (ts.length - 1) 0 - ts.getD (ts.length - 2) 0 else 0
theorem nextTick_of (ts : List Int) (t : Int) : nextTick ts t = t + lastOf ts + stepOf ts := rfl
theorem lastOf_snoc (ts : List Int) (t : Int) : lastOf (ts ++ [t]) = t := by
  unfold lastOf
  rw [if_pos (by simp), List.length_append, List.length_singleton, Nat.add_sub_cancel, List.getD_eq_getElem?_getD, List.getElem?_append_right (Nat.le_refl _), Nat.sub_self]
  rfl
theorem stepOf_snoc (ts : List Int) (t : Int) : stepOf (ts ++ [t]) = if 0 < ts.length then t - lastOf ts else 0 := by
  by_cases h : 0 < ts.length
  · rw [if_pos h]
    unfold stepOf
    rw [if_pos (by simp; omega)]
    have h1 := lastOf_snoc ts t
    unfold lastOf at h1
    rw [if_pos (by simp)] at h1
    rw [h1]
    congr 1
    unfold lastOf
    rw [if_pos h, List.getD_eq_getElem?_getD, List.getD_eq_getElem?_getD, List.length_append, List.length_singleton, show ts.length + 1 - 2 = ts.length - 1 by omega, List.getElem?_append_left (by omega)]
  · rw [if_neg h]
    unfold stepOf
    rw [if_neg (by rw [List.length_append, List.length_singleton]; omega)]
theorem lastOf_bounds (ts : List Int) (h : AllTicks ts) : -1099511627776 ≤ lastOf ts ∧ lastOf ts ≤ 1099511627776 := by
  unfold lastOf
  by_cases h0 : 0 < ts.length
  · rw [if_pos h0]; exact h.at _ (by omega)
  · rw [if_neg h0]; omega
theorem stepOf_bounds (ts : List Int) (h : AllTicks ts) : -2199023255552 ≤ stepOf ts ∧ stepOf ts ≤ 2199023255552 := by
  unfold stepOf
  by_cases h0 : 1 < ts.length
  · rw [if_pos h0]
    have h1 := h.at (ts.length - 1) (by omega)
    have h2 := h.at (ts.length - 2) (by omega)
    omega
  · rw [if_neg h0]; omega

theorem wrap_tick (a s t : Int) (ha0 : -1099511627776 ≤ a) (ha1 : a ≤ 1099511627776) (hs0 : -2199023255552 ≤ s) (hs1 : s ≤ 2199023255552) (ht0 : -9223372036854775808 ≤ t) (ht1 : t ≤ 9223372036854775807) :
    isTick (wrap64 (a + s + t)) = isTick (t + a + s) ∧ (isTick (wrap64 (a + s + t)) = true → wrap64 (a + s + t) = t + a + s) := by
  have h : wrap64 (a + s + t) = t + a + s ∨ ((wrap64 (a + s + t) < -1099511627776 ∨ 1099511627776 < wrap64 (a + s + t)) ∧ (t + a + s < -1099511627776 ∨ 1099511627776 < t + a + s)) := by
    unfold wrap64
    omega
  rcases h with h | ⟨h1, h2⟩
  · rw [h]
    exact ⟨rfl, fun _ => rfl⟩
  · have e1 : isTick (wrap64 (a + s + t)) = false := by
      cases h : isTick (wrap64 (a + s + t)) with
      | false => rfl
      | true => have := (isTick_iff _).1 h; omega
    have e2 : isTick (t + a + s) = false := by
      cases h : isTick (t + a + s) with
      | false => rfl
      | true => have := (isTick_iff _).1 h; omega
    rw [e1, e2]
    exact ⟨rfl, fun h => by cases h⟩

theorem own_baseLow {w : World} {b c : Nat} {e : TypeId} {s : Nat} {v : Value} {n : Nat} {xs : List Value} (h : w.ownsRow b e s v n xs) (hb : c ≤ b) : w.ownsRow c e s v n xs := by
  obtain ⟨h1, h2⟩ := h
  refine ⟨h1, ?_⟩
  rcases h2 with h2 | ⟨g, cap, cur, hv, hg, r⟩
  · exact .inl h2
  · exact .inr ⟨g, cap, cur, hv, Nat.le_trans hb hg, r⟩
theorem own_setLow {w : World} {r : Nat} {e : TypeId} {s : Nat} {v : Value} {n : Nat} {xs : List Value} (h : w.ownsRow (r + 1) e s v n xs) (o : Nat) (u : Value) : (w.setCell ⟨r, o, none⟩ u).ownsRow (r + 1) e s v n xs := by
  obtain ⟨h1, h2⟩ := h
  refine ⟨h1, ?_⟩
  rcases h2 with h2 | ⟨g, cap, cur, hv, hg, hh, t⟩
  · exact .inl h2
  · exact .inr ⟨g, cap, cur, hv, hg, by rw [Below.heap_setCell _ _ _ _ (by simp; omega)]; exact hh, t⟩
theorem ticksBy_at (ts ns : List Int) (k : Nat) (hk : k < ns.length) : ticksBy ts (ns.drop k) = if isTick (nextTick ts (ns.getD k 0)) = true then ticksBy (ts ++ [nextTick ts (ns.getD k 0)]) (ns.drop (k + 1)) else none := by
  rw [List.drop_eq_getElem_cons hk, ticksBy, List.getD_eq_getElem?_getD, List.getElem?_eq_getElem hk]
  rfl

/-- What ticksOf answers. -/
def TicksMade (w w' : World) (ns : List Int) (n : Nat) (aB : Addr) (e : Ending) : Prop :=
  Below w.heap.size w w' ∧ ((∃ (ts : List Int) (v : Value), ticksBy [] ns = some ts ∧ ts.length = n ∧ AllTicks ts ∧ e = .returned (.tuple #[v, .nilIface]) ∧ w'.ownsRow w.heap.size 3 1 v n (intList ts)) ∨
    (ticksBy [] ns = none ∧ e = .returned (.tuple #[.slice none 0 0, .iface 197 (.pointer (some aB))])))

end Go.Proofs.YtfanagohfimnkaaDoor
