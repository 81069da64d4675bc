/- A range over a function whose iterator keeps a variable of its own in memory, and whose rounds never leave: a law for the walk. -/
import Derived.RangeFuncNested
import Derived.RangeFuncBound
import Derived.RangeFuncCalls
import Derived.RangeFuncLeaves
import Derived.Shelf.Abstract
import Derived.Test.YtdlceolmpcjjiaaGreatDoorRows1Group
import Derived.Test.YtdlceolmpcjjiaaGreatDoorPutGroup
namespace Go.Proofs.YtdlceolmpcjjiaaGreatDoor
open Go.RowKit
variable {P : Program}

/-- How a round may be left: off its end alone. -/
def roundEnd (R : World → Prop) : Exit → Act → World → Prop
  | .normal, _, W => R W
  | _, _, _ => False

/-- What an iterator gives: round k is handed encs k, from 1 to m - 1. The rounds own the blocks S, the iterator the block that it makes first; the blocks Pr are read by it. -/
def Rounds (P : Program) (gf : Nat) (lb : Array Value) (encs : Nat → Array Value) (m : Nat) (Pr : List Nat) (w : World) : Prop :=
  ∀ (l : Nat) (J : Nat → List Nat → World → Prop) (S0 : List Nat) (W : World), Below w.heap.size w W →
    (∀ k S A, J k S A → ∀ b, b ∈ S → b < A.heap.size) →
    (∀ k S A B, J k S A → Kept [W.heap.size] A B → W.heap.size ∉ S → J k S B) →
    (∀ k S A, 1 ≤ k → k < m → J k S A → YieldAt Fence.wide 0 P l (encs k) A fun e A' => e = .returned (.bool true) ∧ ∃ S', J (k + 1) S' A' ∧ Kept S A A' ∧ ∀ b, b ∈ S' → b ∈ S ∨ A.heap.size ≤ b) →
    J 1 S0 W → (∀ b, b ∈ S0 → b ∉ Pr) →
    CallsIn Fence.wide 0 P gf (#[.func (.yield l) #[] #[]] ++ lb) W fun e W' => (∃ v, e = .returned v) ∧ ∃ S', J m S' W'

theorem Kept.put {S : List Nat} {A W : World} (h : Kept S A W) (l : Nat) (o : Obj) (hl : l ∈ S ∨ A.heap.size ≤ l) : Kept S A (W.putObj l o) :=
  h.trans (T := [l]) ⟨rfl, rfl, rfl, by simp, fun k _ hm => World.putObj_heap_other (by simpa using hm)⟩ (fun x hx => by simp at hx; subst hx; exact hl)

theorem range_rounds {g : Operand} {ps : Array Tmp} {assign body : Code} {Q : Exit → Act → World → Prop} {a : Act} {w : World} {gf : Nat} {lb : Array Value}
    (hg : a.eval g = .func (.func gf) #[] lb) (eg : ∀ args w, (callFunc gf args).run P w = .ok (.enter gf args) w)
    (m : Nat) (encs : Nat → Array Value) (hps : ∀ k, (encs k).size = ps.size) (Pr : List Nat) (hPr : ∀ b, b ∈ Pr → b < w.heap.size) (hseq : Rounds P gf lb encs m Pr w)
    (I : Nat → List Nat → World → Prop) (hlt : ∀ k S A, I k S A → ∀ b, b ∈ S → b < A.heap.size)
    (hI : ∀ k S T A B, I k S A → Kept T A B → (∀ b, b ∈ T → b ∉ S ∧ w.heap.size ≤ b) → I k S B)
    (S0 : List Nat) (h0 : I 1 S0 w) (hS0 : ∀ b, b ∈ S0 → b ∉ Pr) (Fm : Nat → Obj) (a₁ : Nat → Nat → Act)
    (hassign : ∀ (l k : Nat) (W : World) (K : Act → World → Prop), K (a₁ k W.heap.size) (W.alloc (Fm k)) →
      assign.wpIn (Fence.wide.inRound l) 0 P (Exit.then K (fun _ _ _ => False)) { tmps := (ps.zip (encs k)).foldl (fun t (p, v) => t.setIfInBounds p v) a.tmps, defers := [] } W)
    (hbody : ∀ (l k : Nat) (S : List Nat) (W : World) (p : Nat), 1 ≤ k → k < m → I k S W → W.heap[p]? = some (Fm k) → p ∉ S →
      body.wpIn (Fence.wide.inRound l) 0 P (roundEnd fun W' => ∃ S', I (k + 1) S' W' ∧ Kept S W W' ∧ ∀ b, b ∈ S' → b ∈ S ∨ W.heap.size ≤ b) (a₁ k p) W)
    (hdone : ∀ (D : Nat) (S : List Nat) (W : World), w.heap.size ≤ D → I m S W → D ∉ S → W.heap[D]? = some (.deferred (some [])) → Q .normal { a with defers := { target := .collected D, args := #[] } :: a.defers } W) :
    (Code.rangeFunc g ps assign body).wp P Q a w := by
  refine (wpIn_wide (n := 0)).1 (wpIn_rangeFunc ?_)
  intro fn hfn
  obtain ⟨rec, hrec⟩ : ∃ rec : LoopState → Loop, rec = fun st => { state := st, pending := none, fn, tmps := a.tmps, params := ps, assign, body, defers := w.heap.size } := ⟨_, rfl⟩
  obtain ⟨W1, hW1⟩ : ∃ W1, W1 = (w.alloc (.deferred (some []))).alloc (.loop (rec .ready)) := ⟨_, rfl⟩
  have hs1 : W1.heap.size = w.heap.size + 2 := by rw [hW1]; simp
  have hL1 : W1.heap[w.heap.size + 1]? = some (.loop (rec .ready)) := by
    rw [hW1]; have := World.alloc_heap_new (w.alloc (.deferred (some []))) (.loop (rec .ready)); rwa [World.size_alloc] at this
  have hD1 : W1.heap[w.heap.size]? = some (.deferred (some [])) := by
    rw [hW1]; exact (Below.heap_alloc _ _ _ (by simp)).trans (World.alloc_heap_new w _)
  have hk1 : Kept [] w W1 := by rw [hW1]; exact ((Kept.refl _ _).alloc _).alloc _
  have hb1 : Below w.heap.size w W1 := by rw [hW1]; exact ((Below.refl _ w).alloc (Nat.le_refl _) _).alloc (by simp) _
  refine ⟨w.heap.size + 1, [{ target := .collected w.heap.size, args := #[] }], W1, { target := .fn (.func gf) lb, args := #[.func (.yield (w.heap.size + 1)) #[] #[]] }, W1, gf,
    #[.func (.yield (w.heap.size + 1)) #[] #[]] ++ lb, W1, ?_, ?_, ?_, ?_, fun h => by simp [Fence.wide] at h, ?_⟩
  · rw [hW1, hrec]; exact run_enterLoop_outer _ _ _ _ _
  · simp only [resolve, hg]
    simp [go_sem]
  · intro f' _; trivial
  · simp [invoke, go_sem, eg]
  · refine CallsIn.mono (hseq (w.heap.size + 1) (fun k S' W => ∃ S, S' = (w.heap.size + 1) :: S ∧ I k S W ∧ W.heap[w.heap.size + 1]? = some (.loop (rec .ready)) ∧ W.heap[w.heap.size]? = some (.deferred (some [])) ∧ w.heap.size + 1 ∉ S ∧ w.heap.size ∉ S)
      ((w.heap.size + 1) :: S0) W1 hb1 ?_ ?_ ?_ ?_ ?_) ?_
    · rintro k S' A ⟨S, rfl, hi, hl, hd, hnl, hnd⟩ b hb
      rcases List.mem_cons.1 hb with rfl | hb
      · exact (Array.getElem?_eq_some_iff.1 hl).1
      · exact hlt k S A hi b hb
    · rintro k S' A B ⟨S, rfl, hi, hl, hd, hnl, hnd⟩ hk hq
      rw [hs1] at hk hq
      have hal := (Array.getElem?_eq_some_iff.1 hl).1
      refine ⟨S, rfl, hI k S _ A B hi hk (fun b hb => ?_), (hk.block _ hal (by simp)).trans hl, (hk.block _ (by omega) (by simp)).trans hd, hnl, hnd⟩
      simp at hb
      subst hb
      exact ⟨fun h => hq (List.mem_cons_of_mem _ h), by omega⟩
    · rintro k S' A hk1' hkm ⟨S, rfl, hi, hl, hd, hnl, hnd⟩
      have hal := (Array.getElem?_eq_some_iff.1 hl).1
      have hy := run_yield (P := P) (args := encs k) hl (by rw [hrec]; exact hps k)
      rw [hrec] at hy
      refine ⟨fn, _, assign, body, hy, roundIn_of_wpIn hfn (hassign _ k A _ ?_)⟩
      clear hy
      have hl2 : (A.alloc (Fm k)).heap[w.heap.size + 1]? = some (.loop (rec .ready)) := (Below.heap_alloc _ _ _ hal).trans hl
      refine ⟨_, run_beginRound hl2 (by rw [hrec]), ?_⟩
      obtain ⟨Ab, hAb⟩ : ∃ Ab, Ab = (A.alloc (Fm k)).putObj (w.heap.size + 1) (.loop { rec .ready with state := .busy }) := ⟨_, rfl⟩
      rw [← hAb]
      have hkb : Kept [w.heap.size + 1] A Ab := by rw [hAb]; exact ((Kept.refl _ _).alloc _).put _ _ (.inl (by simp))
      have hsb : Ab.heap.size = A.heap.size + 1 := by rw [hAb]; simp
      have hlb : Ab.heap[w.heap.size + 1]? = some (.loop { rec .ready with state := .busy }) := by rw [hAb]; exact World.putObj_heap_same (by simp; omega)
      have hib : I k S Ab := hI k S _ A Ab hi hkb (fun b hb => by simp at hb; subst hb; exact ⟨hnl, by omega⟩)
      have hpb : Ab.heap[A.heap.size]? = some (Fm k) := by rw [hAb, World.putObj_heap_other (by omega)]; exact World.alloc_heap_new _ _
      refine wpIn_mono (hbody _ k S Ab A.heap.size hk1' hkm hib hpb (fun h => by have := hlt k S A hi _ h; omega)) ?_
      rintro e a3 W3 hp
      cases e with
      | normal =>
        obtain ⟨S3, hi3, hk3, hn3⟩ := hp
        have hl3 := (hk3.block _ (by omega) hnl).trans hlb
        have hs3 := hk3.size
        have hnl3 : w.heap.size + 1 ∉ S3 := fun h => by rcases hn3 _ h with h | h; exact hnl h; omega
        have hnd3 : w.heap.size ∉ S3 := fun h => by rcases hn3 _ h with h | h; exact hnd h; omega
        refine ⟨_, _, run_endRound (P := P) none hl3, rfl, (w.heap.size + 1) :: S3, ⟨S3, rfl, ?_, ?_, ?_, hnl3, hnd3⟩, ?_, ?_⟩
        · exact hI (k + 1) S3 [w.heap.size + 1] W3 _ hi3 ((Kept.refl _ _).put _ _ (.inl (by simp))) (fun b hb => by simp at hb; subst hb; exact ⟨hnl3, by omega⟩)
        · rw [World.putObj_heap_same (by omega), hrec]
          rfl
        · rw [World.putObj_heap_other (by omega), hk3.block _ (by omega) hnd, hkb.block _ (by omega) (by simp)]
          exact hd
        · have h1 : Kept ((w.heap.size + 1) :: S) A Ab := ⟨hkb.os, hkb.tape, hkb.output, hkb.size, fun b hb hm => hkb.block b hb (fun h => hm (by simp at h; subst h; simp))⟩
          exact (h1.trans hk3 (fun x hx => .inl (List.mem_cons_of_mem _ hx))).put _ _ (.inl (by simp))
        · intro b hb
          rcases List.mem_cons.1 hb with rfl | hb
          · exact .inl (by simp)
          · rcases hn3 b hb with h | h
            · exact .inl (List.mem_cons_of_mem _ h)
            · exact .inr (by omega)
      | ret => exact hp.elim
      | exit id => exact hp.elim
      | goto t => exact hp.elim
      | panic ch => exact hp.elim
      | outgrown => exact hp.elim
    · refine ⟨S0, rfl, hI 1 S0 [] w W1 h0 hk1 (fun b hb => by cases hb), hL1, hD1, ?_, ?_⟩
      · intro h; have := hlt 1 S0 w h0 _ h; omega
      · intro h; have := hlt 1 S0 w h0 _ h; omega
    · intro b hb hp
      rcases List.mem_cons.1 hb with rfl | hb
      · have := hPr _ hp; omega
      · exact hS0 b hb hp
    · rintro e W2 ⟨⟨v, rfl⟩, S', S, rfl, hi, hl, hd, hnl, hnd⟩
      have hal := (Array.getElem?_eq_some_iff.1 hl).1
      refine ⟨none, _, by have := run_endLoop (P := P) hl (by rw [hrec]; simp); rw [hrec] at this; exact this, hdone _ S _ (Nat.le_refl _) ?_ hnd ((World.putObj_heap_other (by omega)).trans hd)⟩
      exact hI m S [w.heap.size + 1] W2 _ hi ((Kept.refl _ _).put _ _ (.inl (by simp))) (fun b hb => by simp at hb; subst hb; exact ⟨hnl, by omega⟩)
end Go.Proofs.YtdlceolmpcjjiaaGreatDoor
