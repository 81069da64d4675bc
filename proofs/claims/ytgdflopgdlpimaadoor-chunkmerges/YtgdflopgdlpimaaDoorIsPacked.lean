/- chunk's isPacked by its contract: are unpacked points a chunk, and a body theirs to the bit? -/
import Derived.Test.YtgdflopgdlpimaaDoorMaskSizeGroup
import Derived.Test.YtgdflopgdlpimaaDoorRefTicksGroup
import Derived.Test.YtgdflopgdlpimaaDoorErrAsGroup
import Derived.Test.YtgdflopgdlpimaaDoorRefUnchunk
namespace Go.Proofs.YtgdflopgdlpimaaDoor
open Go.RowKit

theorem as_hit_low (e t : Addr) (old : Value) (w : World) (b : Nat) (hg : w.cell? ⟨11, 0, none⟩ = some (.iface 161 (.agg #[.pointer (some ⟨14, 25, none⟩)]))) (ht0 : w.cell? t = some old) (hf0 : w.frozen? t = false) (hb : b ≤ w.heap.size) (ht : b ≤ t.block) :
    Calls Tryd.prog 53 #[.iface 29 (.pointer (some e)), .iface 95 (.pointer (some t))] w fun ev w' => ev = .returned (.bool true) ∧ Below b w w' := by
  refine (as_hit e t old w hg ht0 hf0).mono ?_
  rintro ev w' ⟨rfl, rfl⟩
  refine ⟨rfl, ?_⟩
  refine Below.setCell ?_ ht _
  repeat' first | exact Below.refl _ _ | refine Below.alloc ?_ (by first | exact hb | (simp; omega)) _

/-- What isPacked answers. -/
def IpOut (w w' : World) (T : Nat → Int) (B : Nat → Nat) (n : Nat) (b : List UInt8) (e : Ending) : Prop :=
  Below w.heap.size w w' ∧ ∃ r : Bool, e = .returned (.bool r) ∧ (r = true ↔ ((∀ i, i < n → ptOk T i = true) ∧ BitMath.pack (rowBits T B n) = b))

set_option maxRecDepth 1000000 in
set_option maxHeartbeats 2000000 in
theorem isPacked_any {Bd : Nat} {ea : Nat → Addr} (w : World) (E : Ern Bd ea w) (hBd : Bd ≤ w.heap.size) (hF : Forms w) (hT : Tab w) (la : Option Addr) (n c : Nat) (T : Nat → Int) (B : Nat → Nat) (hP : Pts w la n T B) (hn : n ≤ 120) (s : ByteArray) :
    Calls Tryd.prog 78 #[.slice la n c, .string s] w fun e w' => IpOut w w' T B n s.data.toList e := by
  obtain ⟨m, hm, hok, hbad⟩ := first_bad (ptOk T) n
  obtain ⟨W, hW⟩ : ∃ W, W = w.alloc (.cells #[.pointer none] 29) := ⟨_, rfl⟩
  have hbW : Below w.heap.size w W := by rw [hW]; exact (Below.refl _ _).alloc (Nat.le_refl _) _
  have hWs : W.heap.size = w.heap.size + 1 := by rw [hW]; simp
  have hblk : W.heap[w.heap.size]? = some (.cells #[.pointer none] 29 (0, 0)) := by rw [hW]; exact heap_alloc_new _ _
  have HCK := (show Hid _ from check_any W la n c T B (hP.below hbW) hn m hm hok hbad (ea 1) (ea 7) (E.below hbW hBd).c1 (E.below hbW hBd).c7)
  have H2 : Hid (∀ (w' : World), w' = w.alloc (.cells #[.pointer none] 29) → w' = W) := fun w' h => h.trans hW.symm
  have HE := (show Hid _ from E)
  have HF : Hid (Forms w) := hF
  have HT : Hid (Tab w) := hT
  have HP : Hid (Pts w la n T B) := hP
  have HOK := (show Hid _ from hok)
  have HBAD := (show Hid _ from hbad)
  have HBW := (show Hid _ from hbW)
  have HWS := (show Hid _ from hWs)
  have HBLK := (show Hid _ from hblk)
  have hFl := hF.lt
  have hTl := hT.lt
  have hEl := E.low
  clear hP hok hbad hbW hblk hW E hF hT hWs
  go_enter Tryd.func78, Tryd.ntmps78
  go_wp2_with fail
  have hww := H2.out _ rfl
  rw [hww]
  clear hww H2
  refine Calls.mono HCK.out ?_
  rintro e w1 ⟨hb1, ⟨hmn, rfl⟩ | ⟨hmn, pb, rfl, hpb, hc0, hc1⟩⟩
  · have HB1 : Hid (Below w.heap.size w w1) := HBW.out.trans (hb1.mono HBW.out.size)
    have HAS := (show Hid _ from fun t => as_nil t w1)
    clear hb1 HCK
    go_wp2_with fail
    refine Calls.mono (HAS.out _) ?_
    rintro e w2 ⟨rfl, hw2⟩
    have hw2' := hw2.symm
    subst hw2'
    have HPK := (show Hid _ from packed_ok w1 (HF.out.below HB1.out hFl) (HT.out.below HB1.out hTl) la n c T B (HP.out.below HB1.out) hn (fun i hi => ptOk_tick T i (HOK.out i (by omega))))
    have hbq := str_beq ⟨(BitMath.pack (rowBits T B n)).toArray⟩ s
    obtain ⟨z, hz⟩ : ∃ z : ByteArray, z = ⟨(BitMath.pack (rowBits T B n)).toArray⟩ := ⟨_, rfl⟩
    rw [← hz] at HPK hbq
    have hzd : z.data.toList = BitMath.pack (rowBits T B n) := by rw [hz]
    have HZD := (show Hid _ from hzd)
    clear hz hzd
    go_wp2_with fail
    refine Calls.mono HPK.out ?_
    rintro e w3 ⟨rfl, hb3⟩
    have HB3 : Hid (Below w.heap.size w w3) := HB1.out.trans (hb3.mono HB1.out.size)
    clear hb3 HPK
    cases hq : decide (z.data.toList = s.data.toList) with
    | true =>
      rw [hq] at hbq
      have hq1 : z.data.toList = s.data.toList := of_decide_eq_true hq
      have HQ := (show Hid _ from hq1)
      clear hq hq1
      go_wp2
      go_ret
      exact ⟨HB3.out, true, by simp, ⟨fun _ => ⟨fun i hi => HOK.out i (by omega), by rw [← HZD.out]; exact HQ.out⟩, fun _ => rfl⟩⟩
    | false =>
      rw [hq] at hbq
      have hq1 : ¬ z.data.toList = s.data.toList := of_decide_eq_false hq
      have HQ : Hid (¬ z.data.toList = s.data.toList) := hq1
      clear hq hq1
      go_wp2
      go_ret
      exact ⟨HB3.out, false, by simp, ⟨fun h => (by cases h), fun h => absurd (by rw [HZD.out]; exact h.2) HQ.out⟩⟩
  · have HB1 : Hid (Below w.heap.size w w1) := HBW.out.trans (hb1.mono HBW.out.size)
    have hblk1 : w1.heap[w.heap.size]? = some (.cells #[.pointer none] 29 (0, 0)) := (hb1.block _ (by have := HWS.out; omega)).trans HBLK.out
    have HAS := (show Hid _ from as_hit_low ⟨pb, 0, none⟩ ⟨w.heap.size, 0, none⟩ (.pointer none) w1 w.heap.size (HE.out.below HB1.out hBd).typ (cells_of hblk1 0) (frozen_of hblk1 0) HB1.out.size (Nat.le_refl _))
    clear hb1 hc0 hc1 hblk1 HCK
    go_wp2_with fail
    refine Calls.mono HAS.out ?_
    rintro e w2 ⟨rfl, hb2⟩
    have HB2 : Hid (Below w.heap.size w w2) := HB1.out.trans hb2
    clear hb2
    go_wp2
    go_ret
    exact ⟨HB2.out, false, rfl, ⟨fun h => (by cases h), fun h => (by
      have h1 := h.1 m hmn
      rw [HBAD.out hmn] at h1
      cases h1)⟩⟩
end Go.Proofs.YtgdflopgdlpimaaDoor
