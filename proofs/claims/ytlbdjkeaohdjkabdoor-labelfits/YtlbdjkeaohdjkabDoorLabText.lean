/- The text of labels as the walk makes it, and as a list of signs. -/
import Derived.Test.YtlbdjkeaohdjkabDoorLabBack
import Derived.Test.YtlbdjkeaohdjkabDoorRefText
namespace Go.Proofs.YtlbdjkeaohdjkabDoor
open LabMath

def labsOf (N V : Nat → ByteArray) (n : Nat) : List (List UInt8 × List UInt8) := (List.range n).map fun i => ((N i).data.toList, (V i).data.toList)
theorem labsOf_step (N V : Nat → ByteArray) (n : Nat) : labsOf N V (n + 1) = labsOf N V n ++ [((N n).data.toList, (V n).data.toList)] := by simp [labsOf, List.range_succ]
theorem length_labsOf (N V : Nat → ByteArray) (n : Nat) : (labsOf N V n).length = n := by simp [labsOf]
theorem labsOf_at (N V : Nat → ByteArray) (n i : Nat) (h : i < n) : nameAt (labsOf N V n) i = N i ∧ valueAt (labsOf N V n) i = V i := by
  have e : (labsOf N V n).getD i ([], []) = ((N i).data.toList, (V i).data.toList) := by simp [labsOf, h]
  unfold nameAt valueAt
  rw [e]
  exact ⟨rfl, rfl⟩
theorem txt_append (a b : List UInt8) : txt a ++ txt b = txt (a ++ b) := by
  apply ByteArray.ext
  rw [ByteArray.data_append]
  apply Array.ext'
  simp [txt]
theorem txt_list (s : ByteArray) : txt s.data.toList = s := rfl
theorem textTo_list (N V : Nat → ByteArray) : ∀ n, textTo N V n = txt (textL (labsOf N V n))
  | 0 => rfl
  | n + 1 => by
    rw [textTo, labsOf_step, textL_snoc, textTo_list N V n]
    have e44 : (⟨#[44]⟩ : ByteArray) = txt [44] := rfl
    have e61 : (⟨#[61]⟩ : ByteArray) = txt [61] := rfl
    have hl : labsOf N V n = [] ↔ n = 0 := by
      constructor
      · intro h
        have := congrArg List.length h
        rw [length_labsOf] at this
        simpa using this
      · intro h
        subst h
        rfl
    have en : N n = txt (N n).data.toList := rfl
    have ev : V n = txt (V n).data.toList := rfl
    rw [e44, e61, en, ev]
    by_cases h0 : n = 0
    · rw [if_pos h0, if_pos (hl.2 h0), txt_append, txt_append, txt_append]
      congr 1
      simp [txt]
    · rw [if_neg h0, if_neg (fun h => h0 (hl.1 h)), txt_append, txt_append, txt_append, txt_append]
      congr 1
      simp [txt]
/-- Right labels: their text is read as them. -/
theorem right_text (N V : Nat → ByteArray) (n : Nat) (h0 : 1 ≤ n) (hok : ∀ i, i < n → labOk N V i = true) : scan (textL (labsOf N V n)) [] [] [] false = some (labsOf N V n) := by
  have := text_scan (labsOf N V n) [] (fun h => by have := congrArg List.length h; rw [length_labsOf] at this; simp at this; omega) (fun p hp => by
    simp [labsOf] at hp
    obtain ⟨i, hi, rfl⟩ := hp
    have h := hok i hi
    unfold labOk at h
    rw [Bool.and_eq_true, Bool.and_eq_true] at h
    have hn : isWord (N i) = true := by
      have h1 := h.1.1
      unfold isName at h1
      rw [Bool.and_eq_true] at h1
      exact h1.1
    exact ⟨word_plain _ hn, word_plain _ h.1.2⟩)
  simpa using this
theorem labOk_congr (N V N' V' : Nat → ByteArray) (n : Nat) (hN : ∀ i, i < n → N i = N' i) (hV : ∀ i, i < n → V i = V' i) (i : Nat) (hi : i < n) : labOk N V i = labOk N' V' i := by
  unfold labOk
  rw [hN i hi, hV i hi, hN (i - 1) (by omega)]
end Go.Proofs.YtlbdjkeaohdjkabDoor
