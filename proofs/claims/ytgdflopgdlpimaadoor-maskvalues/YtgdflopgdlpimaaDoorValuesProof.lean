/- Proved: tidegaugelaw1.MaskValues returns true for every list of values, and leaves its argument and memory as they were, wherever the package variables that its row lists hold what the program's own initialisers lay (the tied card of the law MaskValues). -/
import Derived.Test.YtgdflopgdlpimaaDoorMaskLaid
import Derived.Test.YtgdflopgdlpimaaDoorValuesMain
import Derived.Test.YtgdflopgdlpimaaDoorArgsIn
import Derived.Test.YtgdflopgdlpimaaDoorTie
import Derived.Test.YtgdflopgdlpimaaDoorCards
import Derived.SevenTiedAt
namespace Go.Proofs.YtgdflopgdlpimaaDoor
open Go.ChangeShapes Go.WideShapes Go.ChangeAt Go.RowKit Go.Deep

theorem values_walk {B : Nat} {ea : Nat → Addr} (w : World) (E : Env B ea w) (hB : B ≤ w.heap.size) (hT : Tab w) (la : Option Addr) (ln lc : Nat) (V : Nat → Nat) (hV : U64s w la ln V) (hl : (ln : Int) ≤ 9223372036854775807) :
    Calls Tryd.prog 8 #[.slice la ln lc] w fun e w' => e = .returned (.bool true) ∧ Below w.heap.size w w' := by
  by_cases h : 30 < ln
  · exact values_long w hT la ln lc h hl
  · by_cases h0 : ln = 0
    · subst h0
      cases la with
      | none => exact values_none w E hB hT lc
      | some a => exact values_empty w E hB hT a lc
    · obtain ⟨lb, lo, rfl, hc⟩ := hV.at 0 (by omega)
      exact values_main w E hB hT lb lo ln lc V (fun i hi => (hc i hi).2) (fun i hi => (hc i hi).1) (by omega) (by omega)

set_option maxRecDepth 100000 in
theorem maskValues_lifted (os : Os) (started : os.Started) (H : Type) (enc : TypeId × Value → H) :
    ReturnsInHanded {} Tryd.checked os 8 .any (fun w args => (Rows.maskValuesSpec.pre enc Tryd.prog Tryd.f8 [] false w args ∧ laidMetH Tryd.prog laidMask w) ∧ sizedMet enc Tryd.prog Tryd.f8 (OpenSpec.ofChange Rows.maskValuesSpec) false w args)
      (Rows.maskValuesSpec.post enc Tryd.prog Tryd.f8 false true false false) := by
  refine returnsInHanded_of_change_and (C := Tryd.checked) (X := fun w _ => laidMetH Tryd.prog laidMask w) (fun _ _ _ hh h => h.of_heap hh) Tryd.own started (by kernel_rfl) Tryd.func8
    (ChangeSpec.witness_shaped (enc := enc) (C := Tryd.checked) (os := os) (X := fun w _ => laidMetH Tryd.prog laidMask w) false (World.doorLaid Tryd.prog 400 os) #[.slice none 0 0] 8 rfl (World.shaped_of_RefB (by kernel_rfl) (by kernel_rfl)) (by kernel_rfl) (by kernel_rfl) (by kernel_rfl) (door_mask os _)) ?_
  intro W base args ds gs before hval0 hW _ _ hL _
  have hval : ∀ (j : Nat) t v, Tryd.f8.params[j]? = some t → args[j]? = some v → Value.okWide Tryd.prog W .any base t v := hval0
  have hW' := hW
  obtain ⟨p, q, hA0, hV, rfl, hfz, hnd⟩ := hW
  have hA : DataW.TrodAll enc Tryd.prog W 0 (fun _ => true) true Tryd.f8.params.toList args.toList ds p := hA0
  rw [Tryd.params8] at hA hval
  obtain ⟨v0, vs0, d0, ds0, p0, q0, hargs, rfl, rfl, h0, r0⟩ := trodAll_cons hA
  obtain ⟨rfl, rfl, rfl⟩ := trodAll_nil r0
  obtain rfl : args = #[v0] := by cases args; simp_all
  obtain ⟨rfl, rfl⟩ := trodVars_none hV
  obtain ⟨a0, len0, cap0, rfl⟩ := okWide_slice Tryd.underlying66 (hval 0 66 v0 rfl rfl)
  have k0 := h0
  have lt0 : ∀ x ∈ p0, x.block < W.heap.size := by obtain ⟨m, hm⟩ := k0; exact DataW.trod_lt m _ _ _ hm
  obtain ⟨fuel0, hf0⟩ := h0
  simp only [Value.cells] at hf0
  obtain ⟨G0, hI0, hG0⟩ := u64s_of hf0
  have l0 := len_ok Tryd.underlying66 hf0
  obtain ⟨⟨ea, E⟩, hT⟩ := env_of_mask hL
  clear hG0
  clear hA0 hval0
  refine (values_walk W E (Nat.le_refl _) hT a0 len0 cap0 G0 hI0 l0).mono fun e W' ⟨he, bel⟩ => ?_
  subst he
  exact ⟨_, rfl, _, _, _, [], _, [], hW', trodAll_mk1 (shut_bool Tryd.underlying4 _), (trodAll_cons_mk (Below.trod Tryd.laidOut (by kernel_rfl) (of_decide_eq_true (by kernel_rfl)) k0 bel lt0) trodAll_mk0), rfl, bel.frame _, fun h => by cases h⟩

theorem maskValues_holds : Rows.MaskValuesSaid :=
  OpenClaim.holds_of_wide 8 Tryd.f8 rfl rfl rfl rfl rfl rfl rfl ⟨rfl, rfl, rfl, rfl, rfl⟩ rfl rfl rfl rfl rfl (by kernel_rfl) Tryd.func8 (by kernel_rfl)
    (of_decide_eq_true (by kernel_rfl)) (by unfold Func.isWrapper; rw [if_neg (of_decide_eq_false (by kernel_rfl))]; exact ⟨rfl, rfl⟩)
    (fun os started H enc _ => maskValues_lifted os started H enc)

theorem maskValues_card : Rows.MaskValuesCardSaid :=
  Claim7.holds_tied_plain_at .later [] _ _ _ _
    maskValues_holds (fun _ h => by cases h) (by kernel_rfl) (fun _ h => by cases h) maskValues_row_tie rfl ⟨rfl, rfl⟩ (by kernel_rfl) rfl
    (fun f fn hf hfn => by
      obtain rfl : f = 8 := Option.some.inj ((show Tryd.prog.funcNamed "tidegauge/tidegaugelaw1.MaskValues" = some 8 by kernel_rfl).symm.trans hf) |>.symm
      obtain rfl : fn = Tryd.f8 := (Option.some.inj (Tryd.func8.symm.trans hfn)).symm
      exact ⟨by kernel_rfl, fun j t ht => by
        rw [Tryd.params8] at ht
        have h3 : t = 66 := by
          rcases j with _ | j
          · exact (by simpa using ht.symm)
          · simp at ht
        subst h3
        exact (show Tryd.prog.wantsStandIn 66 = false by kernel_rfl)⟩)
    (by kernel_rfl)
#print axioms maskValues_card
end Go.Proofs.YtgdflopgdlpimaaDoor
