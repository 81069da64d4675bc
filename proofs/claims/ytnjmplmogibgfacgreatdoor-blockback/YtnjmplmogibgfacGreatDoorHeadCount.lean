/- head's Count by its contract. -/
import Derived.Test.YtnjmplmogibgfacGreatDoorHeadAtGroup
import Derived.Sort.KeysCollected
namespace Go.Proofs.YtnjmplmogibgfacGreatDoor
open Go.RowKit Go.Maps HeadMath LabMath PtMath

/-- Points of those series that have come already. -/
def sumL (left : Lit → Bool) (S : List Sr) : Nat := (S.map fun l => if left (.string l.key) = true then 0 else l.pts.length).sum
theorem sameKey_str (a b : List UInt8) : (Lit.string a).sameKey (.string b) = decide (a = b) := by
  by_cases h : a = b
  · subst h
    simp [Lit.sameKey]
  · have : (Lit.string a) ≠ .string b := fun e => h (by injection e)
    rw [sameKey_ne this]
    simp [h]
theorem sumL_other (left : Lit → Bool) (x : List UInt8) : ∀ S : List Sr, (∀ l, l ∈ S → l.key ≠ x) → sumL (fun z => left z && !z.sameKey (.string x)) S = sumL left S
  | [], _ => rfl
  | l :: r, h => by
    have ih := sumL_other left x r fun m hm => h m (List.mem_cons_of_mem _ hm)
    have h1 := h l (List.mem_cons_self ..)
    simp only [sumL, List.map_cons, List.sum_cons] at ih ⊢
    rw [ih]
    simp [sameKey_str, h1]
theorem sumL_strike (left : Lit → Bool) : ∀ {S : List Sr} {l : Sr}, (S.Pairwise fun a b => a.key < b.key) → l ∈ S → left (.string l.key) = true → sumL (fun z => left z && !z.sameKey (.string l.key)) S = sumL left S + l.pts.length
  | a :: r, l, h, hl, hk => by
    obtain ⟨h1, h2⟩ := List.pairwise_cons.1 h
    rcases List.mem_cons.1 hl with rfl | hl'
    · have := sumL_other left l.key r (fun m hm e => absurd (e ▸ h1 m hm) (List.lt_irrefl _))
      simp only [sumL, List.map_cons, List.sum_cons] at this ⊢
      rw [this]
      simp [sameKey_str, hk]
      omega
    · have ih := sumL_strike left h2 hl' hk
      have hne : a.key ≠ l.key := fun e => absurd (e ▸ h1 l hl') (List.lt_irrefl _)
      simp only [sumL, List.map_cons, List.sum_cons] at ih ⊢
      rw [ih]
      simp [sameKey_str, hne]
      omega
theorem sumL_end (left : Lit → Bool) (h : ∀ kl, left kl = false) (S : List Sr) : sumL left S = countS S := by simp [sumL, countS, h]
theorem sumL_start (left : Lit → Bool) (S : List Sr) (h : ∀ l, l ∈ S → left (.string l.key) = true) : sumL left S = 0 := by
  induction S with
  | nil => rfl
  | cons a r ih =>
    have := ih fun l hl => h l (List.mem_cons_of_mem _ hl)
    simp only [sumL, List.map_cons, List.sum_cons] at this ⊢
    rw [this, h a (List.mem_cons_self ..)]
    rfl
theorem sumL_le (left : Lit → Bool) (S : List Sr) : sumL left S ≤ countS S := by
  induction S with
  | nil => exact Nat.le_refl _
  | cons a r ih =>
    simp only [sumL, countS, List.map_cons, List.sum_cons] at ih ⊢
    split <;> omega

end Go.Proofs.YtnjmplmogibgfacGreatDoor
