/- head's Count by its contract. -/
import Derived.Test.YtijgolnbbaljlaaGreatDoorHeadAtGroup
import Derived.Sort.KeysCollected
namespace Go.Proofs.YtijgolnbbaljlaaGreatDoor
open Go.RowKit Go.Maps HeadMath LabMath PtMath
theorem sameKey_str (a b : List UInt8) : (Lit.string a).sameKey (.string b) = decide (a = b) := by
  by_cases h : a = b
  · subst h
    simp [Lit.sameKey]
  · have : (Lit.string a) ≠ .string b := fun e => h (by injection e)
    rw [sameKey_ne this]
    simp [h]
end Go.Proofs.YtijgolnbbaljlaaGreatDoor
