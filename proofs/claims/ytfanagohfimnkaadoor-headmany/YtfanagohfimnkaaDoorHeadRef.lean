/- head's refuses by its contract. -/
import Derived.Test.YtfanagohfimnkaaDoorHeadAt
import Derived.Deep.QuietTactic
import Derived.BigQuiet
namespace Go.Proofs.YtfanagohfimnkaaDoor
open Go.RowKit Go.Maps HeadMath LabMath PtMath

/-- The fault of a text as labels: its number and place. -/
noncomputable def readC (l : List UInt8) : Int := match scan l [] [] [] false with | none => 1 | some out => fC (nameAt out) (valueAt out) out.length
noncomputable def readA (l : List UInt8) : Int := match scan l [] [] [] false with | none => -1 | some out => fA (nameAt out) (valueAt out) out.length
theorem readC_nonneg (l : List UInt8) : 0 ≤ readC l := by
  unfold readC
  split
  · omega
  · exact (fC_cases _ _ _).1
/-- The seven errors of labels and heads. -/
structure EnvH (B : Nat) (ea : Nat → Addr) (w : World) : Prop where
  c0 : w.cell? ⟨5, 0, none⟩ = some (.iface 197 (.pointer (some (ea 0))))
  c1 : w.cell? ⟨0, 0, none⟩ = some (.iface 197 (.pointer (some (ea 1))))
  c2 : w.cell? ⟨3, 0, none⟩ = some (.iface 197 (.pointer (some (ea 2))))
  c3 : w.cell? ⟨2, 0, none⟩ = some (.iface 197 (.pointer (some (ea 3))))
  c4 : w.cell? ⟨1, 0, none⟩ = some (.iface 197 (.pointer (some (ea 4))))
  c6 : w.cell? ⟨7, 0, none⟩ = some (.iface 197 (.pointer (some (ea 6))))
  c7 : w.cell? ⟨8, 0, none⟩ = some (.iface 197 (.pointer (some (ea 7))))
  low : ∀ g, g ∈ [5, 0, 3, 2, 1, 7, 8] → g < B
theorem EnvH.below {B : Nat} {ea : Nat → Addr} {w w' : World} (E : EnvH B ea w) {B' : Nat} (h : Below B' w w') (hB : B ≤ B') : EnvH B ea w' := by
  have hc : ∀ g, g < B → w'.cell? ⟨g, 0, none⟩ = w.cell? ⟨g, 0, none⟩ := fun g hg => h.cell (p := ⟨g, 0, none⟩) (by show g < B'; omega)
  have hl := E.low
  exact ⟨(hc _ (hl _ (by simp))).trans E.c0, (hc _ (hl _ (by simp))).trans E.c1, (hc _ (hl _ (by simp))).trans E.c2, (hc _ (hl _ (by simp))).trans E.c3, (hc _ (hl _ (by simp))).trans E.c4, (hc _ (hl _ (by simp))).trans E.c6, (hc _ (hl _ (by simp))).trans E.c7, hl⟩
theorem Env.head {B : Nat} {ea : Nat → Addr} {w : World} (E : Env B ea w) : EnvH B ea w := by
  refine ⟨E.c0, E.c1, E.c2, E.c3, E.c4, E.c6, E.c7, fun g hg => ?_⟩
  have hl := E.low
  have : ∀ g, g ∈ [5, 0, 3, 2, 1, 7, 8] → g ≤ 11 := by decide
  exact Nat.lt_of_le_of_lt (this g hg) hl
theorem lread_c {B : Nat} {ea : Nat → Addr} (w : World) (E : EnvH B ea w) (s : ByteArray) (hs : s.size ≤ 1000) :
    Calls Tryd.prog 65 #[.string s] w fun e w' => ∃ x v, e = .returned (.tuple #[x, v]) ∧ Below w.heap.size w w' ∧ FaultV ea w' v (readC s.data.toList) (readA s.data.toList) := by
  refine (lread_f4 w E.c0 E.c1 E.c2 E.c3 s (by omega)).mono ?_
  rintro e w' ⟨x, v, rfl, hb, ⟨hn, _, hf⟩ | ⟨out, hsc, hf, _⟩⟩
  · exact ⟨x, v, rfl, hb, by unfold readC readA; rw [hn]; exact hf⟩
  · exact ⟨x, v, rfl, hb, by unfold readC readA; rw [hsc]; exact hf⟩
/-- Is a tick not more than that of the series' last point? -/
def oldB (S : List Sr) (k : List UInt8) (t : Int) : Bool := S.any fun l => decide (l.key = k) && decide (t ≤ l.last)
theorem oldB_none {S : List Sr} {k : List UInt8} (h : known S k = false) (t : Int) : oldB S k t = false := by
  cases e : oldB S k t with
  | false => rfl
  | true =>
    simp [oldB] at e
    obtain ⟨l, hl, hk, _⟩ := e
    have : known S k = true := known_iff.2 ⟨l, hl, hk⟩
    rw [h] at this
    cases this
theorem oldB_some {S : List Sr} (hs : S.Pairwise fun a b => a.key < b.key) {l : Sr} (hl : l ∈ S) {k : List UInt8} (hk : l.key = k) (t : Int) : oldB S k t = decide (t ≤ l.last) := by
  by_cases ht : t ≤ l.last
  · have : oldB S k t = true := by
      simp only [oldB, List.any_eq_true]
      exact ⟨l, hl, by simp [hk, ht]⟩
    rw [this]
    simp [ht]
  · have : oldB S k t = false := by
      cases e : oldB S k t with
      | false => rfl
      | true =>
        simp [oldB] at e
        obtain ⟨m, hm, hmk, hmt⟩ := e
        have := uniq hs hm hl (hmk.trans hk.symm)
        subst this
        exact absurd hmt ht
    rw [this]
    simp [ht]
/-- The fault of a point to be added. -/
noncomputable def addC (S : List Sr) (k : List UInt8) (t : Int) : Int := if 0 < readC k then readC k else if t < -1099511627776 ∨ 1099511627776 < t then 2 else if oldB S k t = true then 8 else if known S k = false ∧ 60 ≤ S.length then 7 else 0
noncomputable def addA (k : List UInt8) : Int := if 0 < readC k then readA k else -1

set_option maxRecDepth 1000000 in
set_option maxHeartbeats 2000000 in
theorem refuses_any {B : Nat} {ea : Nat → Addr} (w : World) (E : EnvH B ea w) (hB : B ≤ w.heap.size) (hb mb : Nat) (S : List Sr) (bl : List UInt8 → Nat) (sv : List UInt8 → Value) (h : HeadAt w hb mb S bl sv) (hS : S.Pairwise fun a b => a.key < b.key) (hn : S.length ≤ 1000) (s : ByteArray) (hs : s.size ≤ 1000) (t : Int) (u : Nat) :
    Calls Tryd.prog 47 #[.pointer (some ⟨hb, 0, none⟩), .string s, .agg #[.int .i64 t, .int .u64 (u : Int)]] w fun e w' => ∃ v, e = .returned v ∧ Below w.heap.size w w' ∧ FaultV ea w' v (addC S s.data.toList t) (addA s.data.toList) := by
  have HH : Hid (HeadAt w hb mb S bl sv) := h
  have HE := (show Hid _ from E)
  obtain ⟨W, hW⟩ : ∃ W, W = w.alloc (.cells #[.int .i64 t, .int .u64 (u : Int)] 55) := ⟨_, rfl⟩
  have hbW : Below w.heap.size w W := by rw [hW]; exact (Below.refl _ _).alloc (Nat.le_refl _) _
  have hnW : W.heap[w.heap.size]? = some (.cells #[.int .i64 t, .int .u64 (u : Int)] 55 (0, 0)) := by rw [hW]; exact heap_alloc_new _ _
  have HR := (show Hid _ from lread_c W (E.below hbW hB) s hs)
  have HBW := (show Hid _ from hbW)
  have HNW := (show Hid _ from hnW)
  have HW : Hid (∀ wx, wx = w.alloc (.cells #[.int .i64 t, .int .u64 (u : Int)] 55) → wx = W) := fun wx hx => hx.trans hW.symm
  have hr0 := readC_nonneg s.data.toList
  obtain ⟨RC, hRC⟩ : ∃ RC, RC = readC s.data.toList := ⟨_, rfl⟩
  obtain ⟨RA, hRA⟩ : ∃ RA, RA = readA s.data.toList := ⟨_, rfl⟩
  have HC : Hid (addC S s.data.toList t = if 0 < RC then RC else if t < -1099511627776 ∨ 1099511627776 < t then 2 else if oldB S s.data.toList t = true then 8 else if known S s.data.toList = false ∧ 60 ≤ S.length then 7 else 0) := by rw [hRC]; rfl
  have HA : Hid (addA s.data.toList = if 0 < RC then RA else -1) := by rw [hRC, hRA]; rfl
  rw [← hRC, ← hRA] at HR
  rw [← hRC] at hr0
  clear h E hbW hnW hW hRC hRA
  go_enter Tryd.func47, Tryd.ntmps47
  go_wp2_with fail
  rw [HW.out _ rfl]
  refine Calls.mono HR.out ?_
  rintro e w2 ⟨x, v, rfl, hb2, hfv⟩
  have HB2 : Hid (Below w.heap.size w w2) := HBW.out.trans (hb2.mono HBW.out.size)
  have hn2 := (hb2.block _ (blk_lt HNW.out)).trans HNW.out
  have p0 : w2.cell? ⟨w.heap.size, 0, none⟩ = some (.int .i64 t) := by simp [World.cell?, hn2]
  have p1 : w2.cell? ⟨w.heap.size, 1, none⟩ = some (.int .u64 (u : Int)) := by simp [World.cell?, hn2]
  have HFV : Hid (FaultV ea w2 v RC RA) := hfv
  have HE2 : Hid (EnvH B ea w2) := HE.out.below HB2.out hB
  have h2 := HH.out.below HB2.out
  have c0 := h2.cell
  clear hb2 hn2 HR HBW HNW HW HH
  dsimp only
  by_cases hc : 0 < RC
  · have hv := HFV.out.iface
    have hC : addC S s.data.toList t = RC := by rw [HC.out, if_pos hc]
    have hA : addA s.data.toList = RA := by rw [HA.out, if_pos hc]
    have HF : Hid (FaultV ea w2 v (addC S s.data.toList t) (addA s.data.toList)) := by rw [hC, hA]; exact HFV.out
    have hne : v ≠ .nilIface := fun e => by
      rcases HFV.out with ⟨_, h0⟩ | ⟨m, _, h1, _⟩ | ⟨pb, m, _, h1, _⟩
      · omega
      · rw [e] at h1; cases h1
      · rw [e] at h1; cases h1
    clear hC hA HFV h2 c0 HC HA hfv
    rcases hv with rfl | ⟨ty, q, rfl⟩
    · exact absurd rfl hne
    · clear hne
      go_wp2
      go_ret
      exact ⟨_, by rfl, HB2.out, HF.out⟩
  · have hz : RC = 0 := by omega
    have hv := HFV.out.none hz
    subst hv
    have hA : addA s.data.toList = -1 := by rw [HA.out, if_neg hc]
    have HA2 := (show Hid _ from hA)
    have hC := HC.out
    rw [if_neg hc] at hC
    clear hfv HFV HC HA hA hz hc hr0
    by_cases hlo : t < -1099511627776
    · rw [if_pos (.inl hlo)] at hC
      have d0 : decide (t < -1099511627776) = true := decide_eq_true hlo
      have e1 := HE2.out.c1
      have HF : Hid (FaultV ea w2 (.iface 197 (.pointer (some (ea 1)))) (addC S s.data.toList t) (addA s.data.toList)) := by rw [hC, HA2.out]; exact .inr (.inl ⟨1, by omega, rfl, rfl, rfl⟩)
      clear hC h2 c0
      go_wp2
      go_ret
      exact ⟨_, by rfl, HB2.out, HF.out⟩
    · have d0 : decide (t < -1099511627776) = false := decide_eq_false hlo
      by_cases hhi : 1099511627776 < t
      · rw [if_pos (.inr hhi)] at hC
        have d1 : decide (1099511627776 < t) = true := decide_eq_true hhi
        have e1 := HE2.out.c1
        have HF : Hid (FaultV ea w2 (.iface 197 (.pointer (some (ea 1)))) (addC S s.data.toList t) (addA s.data.toList)) := by rw [hC, HA2.out]; exact .inr (.inl ⟨1, by omega, rfl, rfl, rfl⟩)
        clear hC h2 c0
        go_wp2
        go_ret
        exact ⟨_, by rfl, HB2.out, HF.out⟩
      · have d1 : decide (1099511627776 < t) = false := decide_eq_false hhi
        rw [if_neg (by omega)] at hC
        rcases h2.look s hs with ⟨hk, hlook⟩ | ⟨l, hl, hlk, hlook⟩
        · have hlen := fun n ty => (h2.below (below_draws (Below.refl _ _) n)).lens ty
          rw [oldB_none hk, if_neg (by decide)] at hC
          by_cases h60 : 60 ≤ S.length
          · rw [if_pos ⟨hk, h60⟩] at hC
            have d2 : decide ((60 : Int) ≤ (S.length : Int)) = true := by simp; omega
            have e6 := HE2.out.c6
            have HF : Hid (FaultV ea w2 (.iface 197 (.pointer (some (ea 6)))) (addC S s.data.toList t) (addA s.data.toList)) := by rw [hC, HA2.out]; exact .inr (.inl ⟨6, by omega, rfl, rfl, rfl⟩)
            clear hC h2 hk
            go_wp2_with fail
            go_quiet (fail)
            go_wp2
            go_ret
            exact ⟨_, by rfl, below_draws HB2.out _, HF.out.below (below_draws (Below.refl _ _) _)⟩
          · rw [if_neg (fun h => h60 h.2)] at hC
            have d2 : decide ((60 : Int) ≤ (S.length : Int)) = false := by simp; omega
            have HF : Hid (addC S s.data.toList t = 0) := hC
            clear hC h2 hk
            go_wp2_with fail
            go_quiet (fail)
            go_wp2
            go_ret
            exact ⟨_, by rfl, below_draws HB2.out _, .inl ⟨rfl, HF.out⟩⟩
        · have hln := h2.line l hl
          have q0 : w2.cell? ⟨bl l.key, 0, none⟩ = some (sv l.key) := by simp [World.cell?, hln]
          have q1 : w2.cell? ⟨bl l.key, 1, none⟩ = some (.int .i64 l.last) := by simp [World.cell?, hln]
          rw [oldB_some hS hl hlk t] at hC
          have hkn : known S s.data.toList = true := known_iff.2 ⟨l, hl, hlk⟩
          rw [hkn] at hC
          clear h2 hln hlk hkn
          by_cases hol : t ≤ l.last
          · rw [if_pos (by simpa using hol)] at hC
            have d2 : decide (t ≤ l.last) = true := decide_eq_true hol
            have e7 := HE2.out.c7
            have HF : Hid (FaultV ea w2 (.iface 197 (.pointer (some (ea 7)))) (addC S s.data.toList t) (addA s.data.toList)) := by rw [hC, HA2.out]; exact .inr (.inl ⟨7, by omega, rfl, rfl, rfl⟩)
            clear hC
            go_wp2_with fail
            go_quiet (fail)
            go_wp2
            go_ret
            exact ⟨_, by rfl, below_draws HB2.out _, HF.out.below (below_draws (Below.refl _ _) _)⟩
          · rw [if_neg (by simpa using hol), if_neg (fun h => by cases h.1)] at hC
            have d2 : decide (t ≤ l.last) = false := decide_eq_false hol
            have HF : Hid (addC S s.data.toList t = 0) := hC
            clear hC
            go_wp2_with fail
            go_quiet (fail)
            go_wp2
            go_ret
            exact ⟨_, by rfl, below_draws HB2.out _, .inl ⟨rfl, HF.out⟩⟩
/-- One name and one value are no fault. -/
theorem readC_one {l nm vl : List UInt8} (h : scan l [] [] [] false = some [(nm, vl)]) (h1 : isName (nameAt [(nm, vl)] 0) = true) (h2 : isWord (valueAt [(nm, vl)] 0) = true) : readC l = 0 := by
  unfold readC
  rw [h]
  refine fC_zero _ _ 1 (by omega) (by omega) fun i hi => ?_
  obtain rfl : i = 0 := by omega
  unfold labOk
  rw [h1, h2]
  rfl
theorem naK_read : readC [110, 61, 97] = 0 := readC_one (nm := [110]) (vl := [97]) (by decide) (by decide) (by decide)
end Go.Proofs.YtfanagohfimnkaaDoor
