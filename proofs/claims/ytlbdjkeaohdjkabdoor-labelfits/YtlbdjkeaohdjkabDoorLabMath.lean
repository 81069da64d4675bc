/- Plain mathematics of words, names and labels. Nothing of Go. -/
import Derived.Test.YtlbdjkeaohdjkabDoorBitMathGroup
namespace LabMath

/-- A letter a to z, a digit, or '-'. -/
def wordB (c : UInt8) : Bool := decide ((97 ≤ c.toNat ∧ c.toNat ≤ 122) ∨ (48 ≤ c.toNat ∧ c.toNat ≤ 57) ∨ c.toNat = 45)
def isWord (s : ByteArray) : Bool := s.data.toList.all wordB && decide (1 ≤ s.size ∧ s.size ≤ 12)
def isName (s : ByteArray) : Bool := isWord s && decide (97 ≤ (s.data.toList.getD 0 0).toNat)
theorem isWord_no (s : ByteArray) (k : Nat) (hk : k < s.size) (h : wordB s[k] = false) : isWord s = false := by
  unfold isWord
  have : s.data.toList.all wordB = false := by
    rw [List.all_eq_false]
    refine ⟨s[k], ?_, by rw [h]; decide⟩
    show s.data[k] ∈ s.data.toList
    rw [Array.mem_toList_iff]
    exact Array.getElem_mem _
  rw [this, Bool.false_and]
theorem isWord_end (s : ByteArray) (h : ∀ k (hk : k < s.size), wordB s[k] = true) : isWord s = decide (1 ≤ s.size ∧ s.size ≤ 12) := by
  unfold isWord
  have : s.data.toList.all wordB = true := by
    rw [List.all_eq_true]
    intro c hc
    rw [Array.mem_toList_iff] at hc
    obtain ⟨k, hk, rfl⟩ := Array.mem_iff_getElem.1 hc
    exact h k hk
  rw [this, Bool.true_and]
end LabMath
