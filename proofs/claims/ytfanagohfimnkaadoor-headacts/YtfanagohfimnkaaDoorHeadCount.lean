/- head's Count by its contract. -/
import Derived.Test.YtfanagohfimnkaaDoorHeadAtGroup
import Derived.Sort.KeysCollected
namespace Go.Proofs.YtfanagohfimnkaaDoor
open Go.RowKit Go.Maps HeadMath LabMath PtMath

/-- Points of those series that have come already. -/
def sumL (left : Lit → Bool) (S : List Sr) : Nat := (S.map fun l => if left (.string l.key) = true then 0 else l.pts.length).sum
theorem sameKey_str (a b : List UInt8) : (Lit.string a).sameKey (.string b) = decide (a = b) := by
  by_cases h : a = b
  · subst h
    simp [Lit.sameKey]
  · have : (Lit.string a) ≠ .string b := fun e => h (by injection e)
    rw [sameKey_ne this]
    simp [h]
theorem sumL_other (left : Lit → Bool) (x : List UInt8) : ∀ S : List Sr, (∀ l, l ∈ S → l.key ≠ x) → sumL (fun z => left z && !z.sameKey (.string x)) S = sumL left S
  | [], _ => rfl
  | l :: r, h => by
    have ih := sumL_other left x r fun m hm => h m (List.mem_cons_of_mem _ hm)
    have h1 := h l (List.mem_cons_self ..)
    simp only [sumL, List.map_cons, List.sum_cons] at ih ⊢
    rw [ih]
    simp [sameKey_str, h1]
theorem sumL_strike (left : Lit → Bool) : ∀ {S : List Sr} {l : Sr}, (S.Pairwise fun a b => a.key < b.key) → l ∈ S → left (.string l.key) = true → sumL (fun z => left z && !z.sameKey (.string l.key)) S = sumL left S + l.pts.length
  | a :: r, l, h, hl, hk => by
    obtain ⟨h1, h2⟩ := List.pairwise_cons.1 h
    rcases List.mem_cons.1 hl with rfl | hl'
    · have := sumL_other left l.key r (fun m hm e => absurd (e ▸ h1 m hm) (List.lt_irrefl _))
      simp only [sumL, List.map_cons, List.sum_cons] at this ⊢
      rw [this]
      simp [sameKey_str, hk]
      omega
    · have ih := sumL_strike left h2 hl' hk
      have hne : a.key ≠ l.key := fun e => absurd (e ▸ h1 l hl') (List.lt_irrefl _)
      simp only [sumL, List.map_cons, List.sum_cons] at ih ⊢
      rw [ih]
      simp [sameKey_str, hne]
      omega
theorem sumL_end (left : Lit → Bool) (h : ∀ kl, left kl = false) (S : List Sr) : sumL left S = countS S := by simp [sumL, countS, h]
theorem sumL_start (left : Lit → Bool) (S : List Sr) (h : ∀ l, l ∈ S → left (.string l.key) = true) : sumL left S = 0 := by
  induction S with
  | nil => rfl
  | cons a r ih =>
    have := ih fun l hl => h l (List.mem_cons_of_mem _ hl)
    simp only [sumL, List.map_cons, List.sum_cons] at this ⊢
    rw [this, h a (List.mem_cons_self ..)]
    rfl
theorem sumL_le (left : Lit → Bool) (S : List Sr) : sumL left S ≤ countS S := by
  induction S with
  | nil => exact Nat.le_refl _
  | cons a r ih =>
    simp only [sumL, countS, List.map_cons, List.sum_cons] at ih ⊢
    split <;> omega

set_option maxRecDepth 1000000 in
set_option maxHeartbeats 1000000 in
theorem hCount_any (w : World) (hb mb : Nat) (S : List Sr) (bl : List UInt8 → Nat) (sv : List UInt8 → Value) (h : HeadAt w hb mb S bl sv) (hS : S.Pairwise fun a b => a.key < b.key) (hc : countS S ≤ 100000) :
    Calls Tryd.prog 24 #[.pointer (some ⟨hb, 0, none⟩)] w fun e w' => e = .returned (.int .i64 (countS S : Int)) ∧ Below w.heap.size w w' := by
  have HH : Hid (HeadAt w hb mb S bl sv) := h
  have c0 := h.cell
  obtain ⟨D, h1, h2, h3, h4⟩ := h.map
  have HD : Hid (w.ownsMap Tryd.prog 9 heldE mb S.length D ∧ Maps.size D = S.length ∧ (∀ k, Maps.has D (.string k) = known S k) ∧ ∀ l, l ∈ S → ∀ z, D.atKey (.string l.key) z = .held (.pointer (some ⟨bl l.key, 0, none⟩))) := ⟨h1, h2, h3, h4⟩
  have HS := (show Hid _ from hS)
  clear h h1 h2 h3 h4 hS
  go_enter Tryd.func24, Tryd.ntmps24
  go_wp2_with (at_range; refine wpList_range_own _ rfl _ 98 rfl 9 101 lawS Tryd.underlying98 _ mb S.length D rfl HD.out.1 ?_; intro w0 hrg0 hg0 hs0)
  go_frame
  have H0 : Hid (w0.ranges Tryd.prog 9 heldE mb w.heap.size S.length D (Maps.has D) (Maps.size D) ∧ Below w.heap.size w w0) := ⟨hrg0, ⟨hg0.os, hg0.tape, hg0.output, hg0.size, fun b hb' => hg0.block b hb' (by simp)⟩⟩
  clear hrg0 hg0 hs0
  go_loopw [3] (fun n wr => ∃ left cnt, n = .int .i64 (sumL left S : Int) ∧ wr.ranges Tryd.prog 9 heldE mb w.heap.size S.length D left cnt ∧ Below w.heap.size w wr) (fun _ wr => wr.rangeLeft mb w.heap.size)
  case atStart => exact ⟨Maps.has D, Maps.size D, by rw [sumL_start _ _ fun l hl => by rw [HD.out.2.2.1]; exact known_iff.2 ⟨l, hl, rfl⟩]; rfl, H0.out.1, H0.out.2⟩
  case round =>
    obtain ⟨left, cnt, rfl, hrg, hbr⟩ := hrel
    have HRG := (show Hid _ from hrg)
    have HBR := (show Hid _ from hbr)
    clear hrg hbr
    go_wp2_with (at_next; refine wpList_next_ranges _ rfl _ rfl 9 lawS heldE encStr (fun v : Value => v) (fun key kl hk => by obtain ⟨x, hx, _⟩ := Maps.keyOf_str Tryd.underlying9 hk; exact ⟨x, hx⟩) (fun v y hv => ⟨v, rfl⟩) mb w.heap.size S.length _ _ _ rfl HRG.out ?_ ?_)
    · intro _ hl0
      have HEQ : Hid (sumL left S = countS S) := sumL_end left hl0 S
      clear hl0
      go_wp2
      go_ret
      exact ⟨by rw [← HEQ.out]; rfl, HBR.out⟩
    · intro x c kl yd yp w2 cnt2 hkey hlk hv hat hrg2 hlt hg2 hs2 hen
      obtain ⟨x', ex, rfl, _⟩ := Maps.keyOf_str Tryd.underlying9 hkey
      obtain rfl : x = x' := encStr_inj ex
      have hkn : known S x = true := by rw [← HD.out.2.2.1]; exact has_true_of_atKey hat
      obtain ⟨l, hl, hlx⟩ := known_iff.1 hkn
      have hcv : c = .pointer (some ⟨bl l.key, 0, none⟩) := by
        have h5 := HD.out.2.2.2 l hl .nil
        rw [hlx] at h5
        rw [hat .nil] at h5
        simp only [heldE, Option.some.injEq, Prod.mk.injEq] at hv
        rw [hlx]
        have := hv.1.trans h5
        injection this
      subst hcv
      have hln := HH.out.line l hl
      obtain ⟨a, cc, hsv, _⟩ := own_pairs (HH.out.row l hl)
      rw [hsv] at hln
      have HB2 : Hid (Below w.heap.size w w2) := HBR.out.trans ⟨hg2.os, hg2.tape, hg2.output, hg2.size, fun b hb' => hg2.block b (Nat.lt_of_lt_of_le hb' HBR.out.size) (fun e => by injection e with e; omega)⟩
      have q0 : w2.cell? ⟨bl l.key, 0, none⟩ = some (.slice a l.pts.length cc) := (HB2.out.cell (p := ⟨bl l.key, 0, none⟩) (blk_lt hln)).trans (by simp [World.cell?, hln])
      have hsum := sumL_strike left HS.out hl (by rw [hlx]; exact hlk)
      rw [hlx] at hsum
      have hle := sumL_le (fun z => left z && !z.sameKey (.string x)) S
      have HSUM := (show Hid _ from hsum)
      have HRG2 := (show Hid _ from And.intro hrg2 hlt)
      have hb1 : (sumL left S : Int) + (l.pts.length : Int) ≤ 200000 := by omega
      clear hkey ex hv hat hrg2 hlt hg2 hs2 hkn hlx hln hsv hsum hle hlk
      go_wp2
      go_roundw
      case rel => exact ⟨_, cnt2, by rw [HSUM.out]; go_num, HRG2.out.1, HB2.out⟩
      case measure => rw [World.ranges.left_eq HRG2.out.1, World.ranges.left_eq HRG.out]; exact HRG2.out.2
end Go.Proofs.YtfanagohfimnkaaDoor
