/- A range over a function whose last round may leave by a return: a law for the walk. -/
import Derived.RangeFuncNested
import Derived.RangeFuncBound
import Derived.RangeFuncCalls
import Derived.RangeFuncLeaves
import Derived.Shelf.Abstract
import Derived.Test.YtdlceolmpcjjiaaGreatDoorRefTicksGroup
namespace Go.Proofs.YtdlceolmpcjjiaaGreatDoor
open Go.RowKit
variable {P : Program}

/-- What an iterator gives: round k is handed encs k, for k up to n; the rounds ahead of m go on, and m, where there is one, leaves. -/
def PRounds (P : Program) (gf : Nat) (lb : Array Value) (encs : Nat → Array Value) (m n : Nat) (w : World) : Prop :=
  ∀ (l : Nat) (J : Nat → World → Prop) (Jx : World → Prop) (W : World), Below w.heap.size w W →
    (∀ k A q, J k A → J k (World.drewN A q)) →
    (∀ k A, k < m → J k A → YieldAt Fence.wide 0 P l (encs k) A fun e A' => e = .returned (.bool true) ∧ J (k + 1) A') →
    (∀ A, m < n → J m A → YieldAt Fence.wide 0 P l (encs m) A fun e A' => e = .returned (.bool false) ∧ Jx A') →
    J 0 W →
    CallsIn Fence.wide 0 P gf (#[.func (.yield l) #[] #[]] ++ lb) W fun e W' => (∃ v, e = .returned v) ∧ ((m = n ∧ J n W') ∨ (m < n ∧ Jx W'))

/-- How a round may be left: off its end. -/
def goesOn (R : World → Prop) : Exit → Act → World → Prop
  | .normal, _, W => R W
  | _, _, _ => False
/-- .. by a return. -/
def goesOut (R : World → Prop) : Exit → Act → World → Prop
  | .ret, _, W => R W
  | _, _, _ => False

theorem range_parts {g : Operand} {ps : Array Tmp} {assign body : Code} {Q : Exit → Act → World → Prop} {a : Act} {w : World} {gf : Nat} {lb : Array Value}
    (hg : a.eval g = .func (.func gf) #[] lb) (eg : ∀ args w, (callFunc gf args).run P w = .ok (.enter gf args) w)
    (m n : Nat) (encs : Nat → Array Value) (hps : ∀ k, (encs k).size = ps.size) (hseq : PRounds P gf lb encs m n w)
    (I : Nat → World → Prop) (Ix : World → Prop)
    (hIp : ∀ k A l o, w.heap.size ≤ l → l ≤ w.heap.size + 1 → I k A → I k (A.putObj l o)) (hId : ∀ k A q, I k A → I k (World.drewN A q))
    (hXp : ∀ A l o, w.heap.size ≤ l → l ≤ w.heap.size + 1 → Ix A → Ix (A.putObj l o))
    (h0 : ∀ o1 o2, I 0 ((w.alloc o1).alloc o2)) (a₁ : Nat → Act)
    (hassign : ∀ (l k : Nat) (W : World) (K : Act → World → Prop), K (a₁ k) W →
      assign.wpIn (Fence.wide.inRound l) 0 P (Exit.then K (fun _ _ _ => False)) { tmps := (ps.zip (encs k)).foldl (fun t (p, v) => t.setIfInBounds p v) a.tmps, defers := [] } W)
    (hbody : ∀ (l k : Nat) (W : World), k < m → I k W → w.heap.size + 1 < W.heap.size →
      body.wpIn (Fence.wide.inRound l) 0 P (goesOn fun W' => I (k + 1) W' ∧ W'.heap[w.heap.size]? = W.heap[w.heap.size]? ∧ W'.heap[w.heap.size + 1]? = W.heap[w.heap.size + 1]?) (a₁ k) W)
    (hlast : ∀ (l : Nat) (W : World), m < n → I m W → w.heap.size + 1 < W.heap.size →
      body.wpIn (Fence.wide.inRound l) 0 P (goesOut fun W' => Ix W' ∧ W'.heap[w.heap.size]? = W.heap[w.heap.size]? ∧ W'.heap[w.heap.size + 1]? = W.heap[w.heap.size + 1]?) (a₁ m) W)
    (hdone : ∀ (W : World), m = n → I n W → W.heap[w.heap.size]? = some (.deferred (some [])) → Q .normal { a with defers := { target := .collected w.heap.size, args := #[] } :: a.defers } W)
    (hstop : ∀ (W : World), m < n → Ix W → W.heap[w.heap.size]? = some (.deferred (some [])) → Code.ret.wp P Q { a with defers := { target := .collected w.heap.size, args := #[] } :: a.defers } W) :
    (Code.rangeFunc g ps assign body).wp P Q a w := by
  refine (wpIn_wide (n := 0)).1 (wpIn_rangeFunc ?_)
  intro fn hfn
  obtain ⟨rec, hrec⟩ : ∃ rec : LoopState → Option Code → Loop, rec = fun st pe => { state := st, pending := pe, fn, tmps := a.tmps, params := ps, assign, body, defers := w.heap.size } := ⟨_, rfl⟩
  obtain ⟨W1, hW1⟩ : ∃ W1, W1 = (w.alloc (.deferred (some []))).alloc (.loop (rec .ready none)) := ⟨_, rfl⟩
  have hL1 : W1.heap[w.heap.size + 1]? = some (.loop (rec .ready none)) := by
    rw [hW1]; have := World.alloc_heap_new (w.alloc (.deferred (some []))) (.loop (rec .ready none)); rwa [World.size_alloc] at this
  have hD1 : W1.heap[w.heap.size]? = some (.deferred (some [])) := by
    rw [hW1]; exact (Below.heap_alloc _ _ _ (by simp)).trans (World.alloc_heap_new w _)
  have hb1 : Below w.heap.size w W1 := by rw [hW1]; exact ((Below.refl _ w).alloc (Nat.le_refl _) _).alloc (by simp) _
  have hi1 : I 0 W1 := by rw [hW1]; exact h0 _ _
  refine ⟨w.heap.size + 1, [{ target := .collected w.heap.size, args := #[] }], W1, { target := .fn (.func gf) lb, args := #[.func (.yield (w.heap.size + 1)) #[] #[]] }, W1, gf,
    #[.func (.yield (w.heap.size + 1)) #[] #[]] ++ lb, W1, ?_, ?_, ?_, ?_, fun h => by simp [Fence.wide] at h, ?_⟩
  · rw [hW1, hrec]; exact run_enterLoop_outer _ _ _ _ _
  · simp only [resolve, hg]
    simp [go_sem]
  · intro f' _; trivial
  · simp [invoke, go_sem, eg]
  · refine CallsIn.mono (hseq (w.heap.size + 1)
      (fun k W => I k W ∧ W.heap[w.heap.size + 1]? = some (.loop (rec .ready none)) ∧ W.heap[w.heap.size]? = some (.deferred (some [])))
      (fun W => Ix W ∧ W.heap[w.heap.size + 1]? = some (.loop (rec .done (some .ret))) ∧ W.heap[w.heap.size]? = some (.deferred (some [])))
      W1 hb1 ?_ ?_ ?_ ⟨hi1, hL1, hD1⟩) ?_
    · rintro k A q ⟨hi, hl, hd⟩
      exact ⟨hId k A q hi, hl, hd⟩
    · rintro k A hk ⟨hi, hl, hd⟩
      have hal := (Array.getElem?_eq_some_iff.1 hl).1
      have hy := run_yield (P := P) (args := encs k) hl (by rw [hrec]; exact hps k)
      rw [hrec] at hy
      refine ⟨fn, _, assign, body, hy, roundIn_of_wpIn hfn (hassign _ k A _ ?_)⟩
      clear hy
      refine ⟨_, run_beginRound hl (by rw [hrec]), ?_⟩
      obtain ⟨Ab, hAb⟩ : ∃ Ab, Ab = A.putObj (w.heap.size + 1) (.loop { rec .ready none with state := .busy }) := ⟨_, rfl⟩
      rw [← hAb]
      have hsb : Ab.heap.size = A.heap.size := by rw [hAb]; simp
      have hlb : Ab.heap[w.heap.size + 1]? = some (.loop { rec .ready none with state := .busy }) := by rw [hAb]; exact World.putObj_heap_same (by omega)
      have hdb : Ab.heap[w.heap.size]? = some (.deferred (some [])) := by rw [hAb, World.putObj_heap_other (by omega)]; exact hd
      have hib : I k Ab := by rw [hAb]; exact hIp k A _ _ (by omega) (by omega) hi
      refine wpIn_mono (hbody _ k Ab hk hib (by omega)) ?_
      rintro e a3 W3 hp
      cases e with
      | normal =>
        obtain ⟨hi3, hd3, hl3⟩ := hp
        have hl3' := hl3.trans hlb
        have hal3 := (Array.getElem?_eq_some_iff.1 hl3').1
        refine ⟨_, _, run_endRound (P := P) none hl3', rfl, hIp _ _ _ _ (by omega) (by omega) hi3, ?_, ?_⟩
        · rw [World.putObj_heap_same (by omega), hrec]
          rfl
        · rw [World.putObj_heap_other (by omega)]
          exact hd3.trans hdb
      | ret => exact hp.elim
      | exit id => exact hp.elim
      | goto t => exact hp.elim
      | panic ch => exact hp.elim
      | outgrown => exact hp.elim
    · rintro A hmn ⟨hi, hl, hd⟩
      have hal := (Array.getElem?_eq_some_iff.1 hl).1
      have hy := run_yield (P := P) (args := encs m) hl (by rw [hrec]; exact hps m)
      rw [hrec] at hy
      refine ⟨fn, _, assign, body, hy, roundIn_of_wpIn hfn (hassign _ m A _ ?_)⟩
      clear hy
      refine ⟨_, run_beginRound hl (by rw [hrec]), ?_⟩
      obtain ⟨Ab, hAb⟩ : ∃ Ab, Ab = A.putObj (w.heap.size + 1) (.loop { rec .ready none with state := .busy }) := ⟨_, rfl⟩
      rw [← hAb]
      have hsb : Ab.heap.size = A.heap.size := by rw [hAb]; simp
      have hlb : Ab.heap[w.heap.size + 1]? = some (.loop { rec .ready none with state := .busy }) := by rw [hAb]; exact World.putObj_heap_same (by omega)
      have hdb : Ab.heap[w.heap.size]? = some (.deferred (some [])) := by rw [hAb, World.putObj_heap_other (by omega)]; exact hd
      have hib : I m Ab := by rw [hAb]; exact hIp m A _ _ (by omega) (by omega) hi
      refine wpIn_mono (hlast _ Ab hmn hib (by omega)) ?_
      rintro e a3 W3 hp
      cases e with
      | ret =>
        obtain ⟨hi3, hd3, hl3⟩ := hp
        have hl3' := hl3.trans hlb
        have hal3 := (Array.getElem?_eq_some_iff.1 hl3').1
        refine ⟨_, _, run_endRound (P := P) (some .ret) hl3', rfl, hXp _ _ _ (by omega) (by omega) hi3, ?_, ?_⟩
        · rw [World.putObj_heap_same (by omega), hrec]
          rfl
        · rw [World.putObj_heap_other (by omega)]
          exact hd3.trans hdb
      | normal => exact hp.elim
      | exit id => exact hp.elim
      | goto t => exact hp.elim
      | panic ch => exact hp.elim
      | outgrown => exact hp.elim
    · rintro e W2 ⟨⟨v, rfl⟩, h⟩
      rcases h with ⟨hmn, hi, hl, hd⟩ | ⟨hmn, hi, hl, hd⟩
      · refine ⟨none, _, by have := run_endLoop (P := P) hl (by rw [hrec]; simp); rw [hrec] at this; exact this, hdone _ hmn (hIp _ _ _ _ (by omega) (by omega) hi) ((World.putObj_heap_other (by omega)).trans hd)⟩
      · refine ⟨some .ret, _, by have := run_endLoop (P := P) hl (by rw [hrec]; simp); rw [hrec] at this; exact this, ?_⟩
        exact wpIn_wide.2 (hstop _ hmn (hXp _ _ _ (by omega) (by omega) hi) ((World.putObj_heap_other (by omega)).trans hd))
end Go.Proofs.YtdlceolmpcjjiaaGreatDoor
