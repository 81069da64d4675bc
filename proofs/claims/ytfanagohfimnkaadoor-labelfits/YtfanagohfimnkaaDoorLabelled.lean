/- The statement's closed fact on labels. -/
import Derived.Test.YtfanagohfimnkaaDoorLabFault
import Derived.Test.YtfanagohfimnkaaDoorPtMerge
namespace Go.Proofs.YtfanagohfimnkaaDoor
open Go.RowKit LabMath

def two (a b : ByteArray) (i : Nat) : ByteArray := if i = 0 then a else b

set_option maxRecDepth 1000000 in
theorem labelled_any {B : Nat} {ea : Nat → Addr} (w : World) (E : Env B ea w) (hB : B ≤ w.heap.size) :
    Calls Tryd.prog 7 #[] w fun e w' => e = .returned (.bool true) ∧ Below w.heap.size w w' := by
  obtain ⟨W, hW⟩ : ∃ W, W = w.alloc (.cells #[.string ⟨#[97]⟩, .string ⟨#[120]⟩, .string ⟨#[98]⟩, .string ⟨#[49]⟩] 28) := ⟨_, rfl⟩
  have hb : Below w.heap.size w W := by rw [hW]; exact (Below.refl _ _).alloc (Nat.le_refl _) _
  have hblk : W.heap[w.heap.size]? = some (.cells #[.string ⟨#[97]⟩, .string ⟨#[120]⟩, .string ⟨#[98]⟩, .string ⟨#[49]⟩] 28 (0, 0)) := by rw [hW]; exact heap_alloc_new _ _
  have hL : Labs W (some ⟨w.heap.size, 0, none⟩) 2 (two ⟨#[97]⟩ ⟨#[98]⟩) (two ⟨#[120]⟩ ⟨#[49]⟩) := by
    refine .inr ⟨w.heap.size, 0, rfl, fun k hk => ?_⟩
    have : k = 0 ∨ k = 1 := by omega
    rcases this with rfl | rfl
    · simp [World.cell?, hblk, two]
    · simp [World.cell?, hblk, two]
  have hok : ∀ i, i < 2 → labOk (two ⟨#[97]⟩ ⟨#[98]⟩) (two ⟨#[120]⟩ ⟨#[49]⟩) i = true := fun i hi => by
    have : i = 0 ∨ i = 1 := by omega
    rcases this with rfl | rfl
    · decide
    · have e : labOk (two ⟨#[97]⟩ ⟨#[98]⟩) (two ⟨#[120]⟩ ⟨#[49]⟩) 1 = ((isName ⟨#[98]⟩ && isWord ⟨#[49]⟩) && (false || !leS ⟨#[98]⟩ ⟨#[97]⟩)) := rfl
      have e1 : leS ⟨#[98]⟩ ⟨#[97]⟩ = false := by
        unfold leS
        rw [ByteArray.toList_eq, ByteArray.toList_eq]
        decide
      rw [e, e1]
      decide
  have hz := fC_zero (two ⟨#[97]⟩ ⟨#[98]⟩) (two ⟨#[120]⟩ ⟨#[49]⟩) 2 (by omega) (by omega) hok
  have HT : Hid _ := ltext_f W (E.below hb hB) (some ⟨w.heap.size, 0, none⟩) 2 2 _ _ hL (fun i hi => by
    have : i = 0 ∨ i = 1 := by omega
    rcases this with rfl | rfl <;> decide) (by omega)
  have HTX : Hid (textTo (two ⟨#[97]⟩ ⟨#[98]⟩) (two ⟨#[120]⟩ ⟨#[49]⟩) 2 = ⟨#[97, 61, 120, 44, 98, 61, 49]⟩) := by
    show _ = _
    rw [textTo_list]
    rfl
  have HZ := (show Hid _ from hz)
  have HW := (show Hid _ from hW)
  have HBW := (show Hid _ from hb)
  clear hW hL hok hz hblk hb
  go_enter Tryd.func7, Tryd.ntmps7
  go_wp2_with fail
  rw [← HW.out]
  refine Calls.mono HT.out ?_
  rintro e w1 ⟨t, v, rfl, hb1, hf, ht, _⟩
  have hv := hf.none HZ.out
  subst hv
  have ht' := ht HZ.out
  rw [HTX.out] at ht'
  subst ht'
  have HB1 : Hid (Below w.heap.size w w1) := HBW.out.trans (hb1.mono HBW.out.size)
  clear hb1 hf ht
  go_wp2
  go_ret
  refine ⟨?_, HB1.out⟩
  simp
end Go.Proofs.YtfanagohfimnkaaDoor
