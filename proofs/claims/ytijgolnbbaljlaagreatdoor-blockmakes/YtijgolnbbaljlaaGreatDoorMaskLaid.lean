/- From the condition on the listed package variables, the library's table among them, to what the walks ask. Values of 64 bits that come in. -/
import Derived.Test.YtijgolnbbaljlaaGreatDoorLaid
import Derived.Test.YtijgolnbbaljlaaGreatDoorMaskLibGroup
import Derived.Test.YtijgolnbbaljlaaGreatDoorArgsInGroup
namespace Go.Proofs.YtijgolnbbaljlaaGreatDoor
open Go.ChangeShapes Go.WideShapes Go.ChangeAt Go.RowKit Go.Deep

theorem Tryz.cellsU8 : Tryz.prog.cellsOf 5 = 1 := by kernel_rfl

theorem mapM_at {α β : Type} (f : α → Option β) : ∀ (l : List α) (ys : List β), l.mapM f = some ys → ys.length = l.length ∧ ∀ i (hi : i < l.length) (hj : i < ys.length), f l[i] = some ys[i]
  | [], ys, h => by
    simp at h
    subst h
    exact ⟨rfl, fun i hi => absurd hi (by simp)⟩
  | a :: r, ys, h => by
    rw [List.mapM_cons] at h
    cases ha : f a with
    | none => rw [ha] at h; cases h
    | some b =>
      cases hr : r.mapM f with
      | none => rw [ha, hr] at h; cases h
      | some zs =>
        rw [ha, hr] at h
        have e : b :: zs = ys := by simpa using h
        subst e
        obtain ⟨h1, h2⟩ := mapM_at f r zs hr
        refine ⟨by simp [h1], fun i hi hj => ?_⟩
        cases i with
        | zero => exact ha
        | succ i => exact h2 i (by simpa using hi) (by simpa using hj)

/-- An array of elements of one cell each, as the condition's reader reads it. -/
theorem trod_array1 {H : Type} {enc : TypeId × Value → H} {P : Program} {W : World} {base : Nat} {sp : Nat → Bool} {hd : Bool} {t e : TypeId} {N fuel : Nat} {cs : List Value} {x : DataW H × List MemPlace} (ht : P.underlying t = some (.array N e)) (hce : P.cellsOf e = 1)
    (h : DataW.trod enc P W base sp hd fuel t cs = some x) :
    ∃ (ys : List (DataW H × List MemPlace)) (n : Nat), x.1 = .agg (ys.map (·.1)) ∧ ys.length = N ∧ ∀ i (_ : i < N) (hj : i < ys.length), DataW.trod enc P W base sp hd n e ((cs.drop i).take 1) = some ys[i] := by
  cases fuel with
  | zero => simp [DataW.trod] at h
  | succ n =>
    unfold DataW.trod at h
    rw [ht] at h
    simp only [hce] at h
    split at h
    · cases hm : (List.range N).mapM (fun i => DataW.trod enc P W base sp hd n e ((cs.drop (i * 1)).take 1)) with
      | none => rw [hm] at h; cases h
      | some ys =>
        rw [hm] at h
        have e1 : ((DataW.agg (ys.map (·.1)), ys.flatMap (·.2)) : DataW H × List MemPlace) = x := by simpa using h
        obtain ⟨h1, h2⟩ := mapM_at _ _ _ hm
        refine ⟨ys, n, by rw [← e1], by simpa using h1, fun i hi hj => ?_⟩
        have := h2 i (by simpa using hi) hj
        simpa using this
    · cases h

theorem u8_cell {H : Type} {enc : TypeId × Value → H} {W : World} {base : Nat} {sp : Nat → Bool} {hd : Bool} {fuel : Nat} {cs : List Value} {n : Int} {y : DataW H × List MemPlace}
    (h : DataW.trod enc Tryz.prog W base sp hd fuel 5 cs = some y) (hy : y.1 = .lit (.int .u8 n)) : cs = [.int .u8 n] := by
  obtain ⟨d, ps⟩ := y
  obtain rfl : d = _ := hy
  obtain ⟨m, rfl, e, _⟩ := DataW.trod_int Tryz.underlying5 h
  simp at e
  rw [e.1]

def tabLits : List (DataW Unit) := Lib.deBruijn64tab.map fun (n : Nat) => .lit (.int .u8 (n : Int))
theorem tab_same : (Rows.laid_math_bits_deBruijn64tab : DataW Unit) = .agg tabLits := by rfl

theorem tab_of {W : World} {r : List (String × DataW Unit)} (h : laidMet Tryz.prog (("math/bits.deBruijn64tab", Rows.laid_math_bits_deBruijn64tab) :: r) W) : Tab W := by
  obtain ⟨ps, ⟨g0, t0, cs0, f0, p0, q0, hg0, ht0, hv0, hd0, _, e0⟩, _, hrows⟩ := h
  obtain rfl := Option.some.inj ((show Tryz.prog.globalNamed "math/bits.deBruijn64tab" = some 17 by kernel_rfl).symm.trans hg0)
  obtain rfl := Option.some.inj ((show (Tryz.prog.globals[17]?).map (·.type) = some 297 by kernel_rfl).symm.trans ht0)
  have hcell := fun i => World.var?_cell hg0 hv0 i
  obtain ⟨ys, n, hx, hlen, hat⟩ := trod_array1 Tryz.underlying297 Tryz.cellsU8 hd0
  rw [tab_same] at hx
  have hx' : tabLits = ys.map (·.1) := by simpa using hx
  have hl : Lib.deBruijn64tab.length = 64 := by rfl
  intro j hj
  have hj64 : j < 64 := by omega
  have hy := hat j hj64 (by omega)
  have hyv : (ys[j]'(by omega)).1 = .lit (.int .u8 ((Lib.deBruijn64tab.getD j 0 : Nat) : Int)) := by
    have h1 : (ys.map (·.1))[j]? = tabLits[j]? := by rw [hx']
    rw [List.getElem?_map, List.getElem?_eq_getElem (by omega)] at h1
    unfold tabLits at h1
    rw [List.getElem?_map, List.getElem?_eq_getElem hj] at h1
    simp at h1
    rw [h1]
    simp [hj]
  have hc := u8_cell hy hyv
  rw [hcell j]
  have h2 : ((cs0.toList.drop j).take 1)[0]? = cs0.toList[j]? := by rw [List.getElem?_take_of_lt (by omega), List.getElem?_drop]; simp
  rw [hc] at h2
  simpa using h2.symm

end Go.Proofs.YtijgolnbbaljlaaGreatDoor
