/- A map of points of series, as it lies; a row more in it. -/
import Derived.Test.YtdlceolmpcjjiaaGreatDoorHeadPutGroup
import Derived.Test.YtdlceolmpcjjiaaGreatDoorJoinMath
import Derived.Test.YtdlceolmpcjjiaaGreatDoorRowsDef
namespace Go.Proofs.YtdlceolmpcjjiaaGreatDoor
open Go.RowKit Go.Maps LabMath PtMath JoinMath

structure PmAt (w : World) (mb nb base : Nat) (S : List Rw) (sv : List UInt8 → Value) : Prop where
  map : ∃ D, w.ownsMap Tryz.prog 9 heldE mb nb D ∧ Maps.size D = S.length ∧ (∀ k, Maps.has D (.string k) = hasR S k) ∧ ∀ r, r ∈ S → ∀ z, D.atKey (.string r.1) z = .held (sv r.1)
  row : ∀ r, r ∈ S → w.ownsRow base 71 2 (sv r.1) r.2.length (pairCells r.2)
  apart : ∀ r q, r ∈ S → q ∈ S → r.1 ≠ q.1 → (sv r.1).ownBlock = none ∨ (sv r.1).ownBlock ≠ (sv q.1).ownBlock
  up : Up S
theorem PmAt.ne_map {w : World} {mb nb base : Nat} {S : List Rw} {sv : List UInt8 → Value} (h : PmAt w mb nb base S sv) {b : Nat} {cs : Array Value} {t : TypeId} {f : Nat × Nat} (hx : w.heap[b]? = some (.cells cs t f)) : b ≠ mb := fun e => by
  obtain ⟨D, ⟨es, clock, hm, _⟩, _⟩ := h.map
  subst e
  rw [hm] at hx
  cases hx
theorem PmAt.below {w w' : World} {mb nb base : Nat} {S : List Rw} {sv : List UInt8 → Value} (h : PmAt w mb nb base S sv) (hb : Below w.heap.size w w') : PmAt w' mb nb base S sv := by
  obtain ⟨D, h1, h2⟩ := h.map
  exact ⟨⟨D, ownsMap_same h1 (hb.block _ h1.lt), h2⟩, fun r hr => own_same (h.row r hr) fun g hg => hb.block g (own_blk (h.row r hr) hg).2.1, h.apart, h.up⟩
theorem zeroPts (w : World) : (zeroValue 48).run Tryz.prog w = .ok (.slice none 0 0) w := by kernel_rfl
/-- What is found of a text: nothing, or its points. -/
def Found (S : List Rw) (sv : List UInt8 → Value) (k : List UInt8) (v : Value) (old : List (Int × Nat)) : Prop := (hasR S k = false ∧ v = .slice none 0 0 ∧ old = []) ∨ ∃ r, r ∈ S ∧ r.1 = k ∧ v = sv k ∧ old = r.2
set_option maxRecDepth 100000 in
theorem PmAt.look {w : World} {mb nb base : Nat} {S : List Rw} {sv : List UInt8 → Value} (h : PmAt w mb nb base S sv) (s : ByteArray) (hs : s.size ≤ 1000) :
    ∃ v old, Found S sv s.data.toList v old ∧ ∀ z : World, z.heap[mb]? = w.heap[mb]? → (Instr.lookup 143 (.map (some mb)) (.string s) false).run Tryz.prog z = .ok v z := by
  obtain ⟨D, h1, _, h3, h4⟩ := h.map
  cases hk : hasR S s.data.toList with
  | false =>
    refine ⟨.slice none 0 0, [], .inl ⟨hk, rfl, rfl⟩, fun z hz => ?_⟩
    obtain ⟨v, ps, hrun, hv⟩ := (ownsMap_same h1 hz).lookup lawS Tryz.underlying143 (zeroPts z) (zd := .held (.slice none 0 0)) (zp := []) rfl (key_of s hs)
    simp only [heldE, Option.some.injEq, Prod.mk.injEq] at hv
    have hn : Maps.has D (.string s.data.toList) = false := by rw [h3, hk]
    rw [atKey_of_not_has hn] at hv
    have := hv.1
    injection this with this
    subst this
    exact hrun
  | true =>
    obtain ⟨r, hr, hrk⟩ := hasR_iff.1 hk
    refine ⟨sv s.data.toList, r.2, .inr ⟨r, hr, hrk, rfl, rfl⟩, fun z hz => ?_⟩
    obtain ⟨v, ps, hrun, hv⟩ := (ownsMap_same h1 hz).lookup lawS Tryz.underlying143 (zeroPts z) (zd := .held (.slice none 0 0)) (zp := []) rfl (key_of s hs)
    simp only [heldE, Option.some.injEq, Prod.mk.injEq] at hv
    have := h4 r hr (.held (.slice none 0 0))
    rw [hrk] at this
    rw [this] at hv
    have := hv.1
    injection this with this
    subst this
    exact hrun
theorem Found.own {w : World} {mb nb base : Nat} {S : List Rw} {sv : List UInt8 → Value} (h : PmAt w mb nb base S sv) {k : List UInt8} {v : Value} {old : List (Int × Nat)} (hf : Found S sv k v old) : w.ownsRow base 71 2 v old.length (pairCells old) := by
  rcases hf with ⟨_, rfl, rfl⟩ | ⟨r, hr, rfl, rfl, rfl⟩
  · exact ⟨rfl, .inl ⟨rfl, rfl⟩⟩
  · exact h.row r hr

set_option maxRecDepth 100000 in
theorem PmAt.put {w w1 : World} {mb nb base : Nat} {S : List Rw} {sv : List UInt8 → Value} (h : PmAt w mb nb base S sv) (hmb : base ≤ mb) (hbs : base ≤ w.heap.size) (s : ByteArray) (hs : s.size ≤ 1000) (hnb : nb < 1000) (l : List (Int × Nat)) {v0 v' : Value} {old : List (Int × Nat)} {g : Nat}
    (hv0 : Found S sv s.data.toList v0 old) (hv' : v'.ownBlock = some g) (hown : w1.ownsRow base 71 2 v' (old ++ l).length (pairCells (old ++ l))) (hgr : w.grownBy w1 v0.ownBlock) (hat : v0.ownBlock = some g ∨ g = w.heap.size) :
    ∃ w2, (Instr.mapUpdate 143 (.map (some mb)) (.string s) v').run Tryz.prog w1 = .ok () w2 ∧ PmAt w2 mb (nb + 1) base (insR S (s.data.toList, l)) (fun x => if x = s.data.toList then v' else sv x) ∧ Below base w w2 ∧ w1.heap.size ≤ w2.heap.size ∧ ∀ b, b < w.heap.size → some b ≠ v0.ownBlock → b ≠ mb → w2.heap[b]? = w.heap[b]? := by
  obtain ⟨D, h1, h2, h3, h4⟩ := h.map
  have hob : ∀ q, v0.ownBlock = some q → base ≤ q ∧ q < w.heap.size ∧ ∃ cur, w.heap[q]? = some (.cells cur 71 (0, 0)) := fun q hq => own_blk (hv0.own h) hq
  have hmv : some mb ≠ v0.ownBlock := fun e => by
    obtain ⟨_, _, cur, hc⟩ := hob mb e.symm
    exact h.ne_map hc rfl
  have hm1 : w1.ownsMap Tryz.prog 9 heldE mb nb D := ownsMap_same h1 (hgr.block mb h1.lt hmv)
  obtain ⟨w2, hrun, hown2, hg2⟩ := hm1.update lawS Tryz.underlying143 (show nb < maxLen by unfold maxLen; omega) (key_of s hs) (val := v') (d := .held v') (ps := []) rfl
  have hkey : WideAt.IsKeyLit (.string s.data.toList) := lawS.key (key_of s hs)
  have hne : ∀ k j : List UInt8, k ≠ j → (Lit.string k) ≠ .string j := fun k j e h => by injection h with h; exact e h
  have hgl : g ≠ mb := fun e => by
    obtain ⟨_, _, cur, hc⟩ := own_blk hown hv'
    obtain ⟨es, clock, hm, _⟩ := hm1
    rw [e, hm] at hc
    cases hc
  have hsz : w.heap.size ≤ w1.heap.size := hgr.size
  have hold : ∀ b, b < w.heap.size → some b ≠ v0.ownBlock → b ≠ mb → w2.heap[b]? = w.heap[b]? := fun b hb hn hm => (hg2.block b (by omega) (fun e => hm (by injection e))).trans (hgr.block b hb hn)
  have hov : w2.ownsRow base 71 2 v' (old ++ l).length (pairCells (old ++ l)) := own_same hown fun q hq => by
    obtain ⟨_, hlt, _⟩ := own_blk hown hq
    rw [hv'] at hq
    injection hq with hq
    subst hq
    exact hg2.block g hlt (fun e => hgl (by injection e))
  -- rows of other series lie apart from the one that has grown
  have hap : ∀ r, r ∈ S → r.1 ≠ s.data.toList → ∀ q, (sv r.1).ownBlock = some q → some q ≠ v0.ownBlock := fun r hr hrk q hq e => by
    rcases hv0 with ⟨_, rfl, _⟩ | ⟨p, hp, hpk, rfl, _⟩
    · cases e
    · rcases h.apart r p hr hp (by rw [hpk]; exact hrk) with h0 | h0
      · rw [h0] at hq; cases hq
      · exact h0 (by rw [hq, hpk]; exact e)
  refine ⟨w2, hrun, ⟨⟨_, hown2, ?_, fun k => ?_, fun r hr z => ?_⟩, fun r hr => ?_, fun r q hr hq hrq => ?_, insR_up h.up⟩, ⟨hg2.os.trans hgr.os, hg2.tape.trans hgr.tape, hg2.output.trans hgr.output, Nat.le_trans hsz hg2.size, fun b hb => hold b (by omega) (fun e => by have := (hob b e.symm).1; omega) (by omega)⟩, hg2.size, hold⟩
  · rw [size_put (h1.tidy lawS), insR_len h.up, h2, h3]
  · rw [insR_has h.up]
    by_cases e : s.data.toList = k
    · subst e
      rw [has_put_same h1.isMap hkey]
      simp
    · rw [has_put_other (hne _ _ (fun x => e x.symm)), h3]
      simp [e]
  · rcases (insR_mem h.up).1 hr with ⟨hr', hrk⟩ | ⟨p, hp, hpk, rfl⟩ | ⟨_, rfl⟩
    · rw [if_neg hrk, atKey_put_other (hne _ _ hrk), h4 r hr']
    · dsimp only at hpk ⊢
      rw [if_pos hpk, hpk]
      exact atKey_put_same h1.isMap hkey _ _
    · rw [if_pos rfl]
      exact atKey_put_same h1.isMap hkey _ _
  · rcases (insR_mem h.up).1 hr with ⟨hr', hrk⟩ | ⟨p, hp, hpk, rfl⟩ | ⟨hf, rfl⟩
    · rw [if_neg hrk]
      refine own_same (h.row r hr') fun q hq => ?_
      obtain ⟨_, hlt, cur, hc⟩ := own_blk (h.row r hr') hq
      exact hold q hlt (hap r hr' hrk q hq) (h.ne_map hc)
    · dsimp only at hpk ⊢
      rw [if_pos hpk]
      rcases hv0 with ⟨hf, _, _⟩ | ⟨p', hp', hpk', _, rfl⟩
      · rw [hasR_iff.2 ⟨p, hp, hpk⟩] at hf
        cases hf
      · obtain rfl := uniqR h.up hp hp' (hpk.trans hpk'.symm)
        exact hov
    · rw [if_pos rfl]
      rcases hv0 with ⟨_, _, rfl⟩ | ⟨p', hp', hpk', _, _⟩
      · exact hov
      · have hf' : hasR S s.data.toList = false := hf
        rw [hasR_iff.2 ⟨p', hp', hpk'⟩] at hf'
        cases hf'
  · have hnew : ∀ r, r ∈ S → r.1 ≠ s.data.toList → (sv r.1).ownBlock = none ∨ (sv r.1).ownBlock ≠ some g := fun r hr hrk => by
      cases hb : (sv r.1).ownBlock with
      | none => exact .inl rfl
      | some q =>
        refine .inr fun e => ?_
        injection e with e
        subst e
        rcases hat with hat | hat
        · exact hap r hr hrk q hb hat.symm
        · have := (own_blk (h.row r hr) hb).2.1
          omega
    have key : ∀ r, r ∈ insR S (s.data.toList, l) → r.1 ≠ s.data.toList → r ∈ S := fun r hr hrk => by
      rcases (insR_mem h.up).1 hr with ⟨hr', _⟩ | ⟨p, _, hpk, rfl⟩ | ⟨_, rfl⟩
      · exact hr'
      · exact absurd hpk hrk
      · exact absurd rfl hrk
    by_cases e1 : r.1 = s.data.toList
    · have e2 : q.1 ≠ s.data.toList := fun e => hrq (e1.trans e.symm)
      rw [if_pos e1, if_neg e2, hv']
      rcases hnew q (key q hq e2) e2 with h0 | h0
      · exact .inr (by rw [h0]; exact fun e => by cases e)
      · exact .inr (fun e => h0 e.symm)
    · rw [if_neg e1]
      by_cases e2 : q.1 = s.data.toList
      · rw [if_pos e2, hv']
        exact hnew r (key r hr e1) e1
      · rw [if_neg e2]
        exact h.apart r q (key r hr e1) (key q hq e2) hrq
end Go.Proofs.YtdlceolmpcjjiaaGreatDoor
