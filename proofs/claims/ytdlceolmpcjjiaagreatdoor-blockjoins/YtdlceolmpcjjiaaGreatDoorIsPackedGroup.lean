/- chunk's isPacked by its contract: are unpacked points a chunk, and a body theirs to the bit? -/
import Derived.Test.YtdlceolmpcjjiaaGreatDoorMaskSizeGroup
import Derived.Test.YtdlceolmpcjjiaaGreatDoorRefTicksGroup
import Derived.Test.YtdlceolmpcjjiaaGreatDoorErrAsGroup
import Derived.Test.YtdlceolmpcjjiaaGreatDoorRefReadGroup
import Derived.Test.YtdlceolmpcjjiaaGreatDoorMaskWinGroup
import Derived.Laws.MakeOwn
import Derived.Test.YtdlceolmpcjjiaaGreatDoorRefsGroup
namespace Go.Proofs.YtdlceolmpcjjiaaGreatDoor
open Go.RowKit

theorem as_hit_low (e t : Addr) (old : Value) (w : World) (b : Nat) (hg : w.cell? ⟨11, 0, none⟩ = some (.iface 184 (.agg #[.pointer (some ⟨21, 27, none⟩)]))) (ht0 : w.cell? t = some old) (hf0 : w.frozen? t = false) (hb : b ≤ w.heap.size) (ht : b ≤ t.block) :
    Calls Tryz.prog 65 #[.iface 118 (.pointer (some e)), .iface 120 (.pointer (some t))] w fun ev w' => ev = .returned (.bool true) ∧ Below b w w' := by
  refine (as_hit e t old w hg ht0 hf0).mono ?_
  rintro ev w' ⟨rfl, rfl⟩
  refine ⟨rfl, ?_⟩
  refine Below.setCell ?_ ht _
  repeat' first | exact Below.refl _ _ | refine Below.alloc ?_ (by first | exact hb | (simp; omega)) _

/-- What isPacked answers. -/
def IpOut (w w' : World) (T : Nat → Int) (B : Nat → Nat) (n : Nat) (b : List UInt8) (e : Ending) : Prop :=
  Below w.heap.size w w' ∧ ∃ r : Bool, e = .returned (.bool r) ∧ (r = true ↔ ((∀ i, i < n → ptOk T i = true) ∧ BitMath.pack (rowBits T B n) = b))

set_option maxRecDepth 1000000 in
set_option maxHeartbeats 2000000 in
theorem isPacked_any {Bd : Nat} {ea : Nat → Addr} (w : World) (E : Ern Bd ea w) (hBd : Bd ≤ w.heap.size) (hF : Forms w) (hT : Tab w) (la : Option Addr) (n c : Nat) (T : Nat → Int) (B : Nat → Nat) (hP : Pts w la n T B) (hn : n ≤ 120) (s : ByteArray) :
    Calls Tryz.prog 137 #[.slice la n c, .string s] w fun e w' => IpOut w w' T B n s.data.toList e := by
  obtain ⟨m, hm, hok, hbad⟩ := first_bad (ptOk T) n
  obtain ⟨W, hW⟩ : ∃ W, W = w.alloc (.cells #[.pointer none] 118) := ⟨_, rfl⟩
  have hbW : Below w.heap.size w W := by rw [hW]; exact (Below.refl _ _).alloc (Nat.le_refl _) _
  have hWs : W.heap.size = w.heap.size + 1 := by rw [hW]; simp
  have hblk : W.heap[w.heap.size]? = some (.cells #[.pointer none] 118 (0, 0)) := by rw [hW]; exact heap_alloc_new _ _
  have HCK := (show Hid _ from check_any W la n c T B (hP.below hbW) hn m hm hok hbad (ea 1) (ea 7) (E.below hbW hBd).c1 (E.below hbW hBd).c7)
  have H2 : Hid (∀ (w' : World), w' = w.alloc (.cells #[.pointer none] 118) → w' = W) := fun w' h => h.trans hW.symm
  have HE := (show Hid _ from E)
  have HF : Hid (Forms w) := hF
  have HT : Hid (Tab w) := hT
  have HP : Hid (Pts w la n T B) := hP
  have HOK := (show Hid _ from hok)
  have HBAD := (show Hid _ from hbad)
  have HBW := (show Hid _ from hbW)
  have HWS := (show Hid _ from hWs)
  have HBLK := (show Hid _ from hblk)
  have hFl := hF.lt
  have hTl := hT.lt
  have hEl := E.low
  clear hP hok hbad hbW hblk hW E hF hT hWs
  go_enter Tryz.func137, Tryz.ntmps137
  go_wp2_with fail
  have hww := H2.out _ rfl
  rw [hww]
  clear hww H2
  refine Calls.mono HCK.out ?_
  rintro e w1 ⟨hb1, ⟨hmn, rfl⟩ | ⟨hmn, pb, rfl, hpb, hc0, hc1⟩⟩
  · have HB1 : Hid (Below w.heap.size w w1) := HBW.out.trans (hb1.mono HBW.out.size)
    have HAS := (show Hid _ from fun t => as_nil t w1)
    clear hb1 HCK
    go_wp2_with fail
    refine Calls.mono (HAS.out _) ?_
    rintro e w2 ⟨rfl, hw2⟩
    have hw2' := hw2.symm
    subst hw2'
    have HPK := (show Hid _ from packed_ok w1 (HF.out.below HB1.out hFl) (HT.out.below HB1.out hTl) la n c T B (HP.out.below HB1.out) hn (fun i hi => ptOk_tick T i (HOK.out i (by omega))))
    have hbq := str_beq ⟨(BitMath.pack (rowBits T B n)).toArray⟩ s
    obtain ⟨z, hz⟩ : ∃ z : ByteArray, z = ⟨(BitMath.pack (rowBits T B n)).toArray⟩ := ⟨_, rfl⟩
    rw [← hz] at HPK hbq
    have hzd : z.data.toList = BitMath.pack (rowBits T B n) := by rw [hz]
    have HZD := (show Hid _ from hzd)
    clear hz hzd
    go_wp2_with fail
    refine Calls.mono HPK.out ?_
    rintro e w3 ⟨rfl, hb3⟩
    have HB3 : Hid (Below w.heap.size w w3) := HB1.out.trans (hb3.mono HB1.out.size)
    clear hb3 HPK
    cases hq : decide (z.data.toList = s.data.toList) with
    | true =>
      rw [hq] at hbq
      have hq1 : z.data.toList = s.data.toList := of_decide_eq_true hq
      have HQ := (show Hid _ from hq1)
      clear hq hq1
      go_wp2
      go_ret
      exact ⟨HB3.out, true, by simp, ⟨fun _ => ⟨fun i hi => HOK.out i (by omega), by rw [← HZD.out]; exact HQ.out⟩, fun _ => rfl⟩⟩
    | false =>
      rw [hq] at hbq
      have hq1 : ¬ z.data.toList = s.data.toList := of_decide_eq_false hq
      have HQ : Hid (¬ z.data.toList = s.data.toList) := hq1
      clear hq hq1
      go_wp2
      go_ret
      exact ⟨HB3.out, false, by simp, ⟨fun h => (by cases h), fun h => absurd (by rw [HZD.out]; exact h.2) HQ.out⟩⟩
  · have HB1 : Hid (Below w.heap.size w w1) := HBW.out.trans (hb1.mono HBW.out.size)
    have hblk1 : w1.heap[w.heap.size]? = some (.cells #[.pointer none] 118 (0, 0)) := (hb1.block _ (by have := HWS.out; omega)).trans HBLK.out
    have HAS := (show Hid _ from as_hit_low ⟨pb, 0, none⟩ ⟨w.heap.size, 0, none⟩ (.pointer none) w1 w.heap.size (HE.out.below HB1.out hBd).typ (cells_of hblk1 0) (frozen_of hblk1 0) HB1.out.size (Nat.le_refl _))
    clear hb1 hc0 hc1 hblk1 HCK
    go_wp2_with fail
    refine Calls.mono HAS.out ?_
    rintro e w2 ⟨rfl, hb2⟩
    have HB2 : Hid (Below w.heap.size w w2) := HB1.out.trans hb2
    clear hb2
    go_wp2
    go_ret
    exact ⟨HB2.out, false, rfl, ⟨fun h => (by cases h), fun h => (by
      have h1 := h.1 m hmn
      rw [HBAD.out hmn] at h1
      cases h1)⟩⟩
end Go.Proofs.YtdlceolmpcjjiaaGreatDoor
/- chunk's unpacked by its contract: bytes as points; what is behind their bits is not looked at. -/
namespace Go.Proofs.YtdlceolmpcjjiaaGreatDoor
open Go.RowKit

/-- Bytes that are right points, packed. -/
def IsBody (b : List UInt8) : Prop := ∃ (n : Nat) (T : Nat → Int) (B : Nat → Nat), n ≤ 120 ∧ (∀ i, i < n → ptOk T i = true) ∧ (∀ i, i < n → B i < 18446744073709551616) ∧ b = BitMath.pack (rowBits T B n)
theorem body_read (b : List UInt8) (n : Nat) (T : Nat → Int) (B : Nat → Nat) (hn : n ≤ 120) (hT : ∀ i, i < n → ptOk T i = true) (hB : ∀ i, i < n → B i < 18446744073709551616) (hb : b = BitMath.pack (rowBits T B n)) :
    BitMath.valB ((BitMath.bitsOfBytes b).take 8) = n ∧ ∃ ns u, readNums ((BitMath.bitsOfBytes b).drop 8) n = (0, ns, (ticksTo T n).length) ∧ ticksBy [] ns = some (firstTicks T n) ∧
      BitMath.maskRead (((BitMath.bitsOfBytes b).drop 8).drop (ticksTo T n).length) n = (0, BitMath.firstV B n, u) := by
  have e : (chunkBytes T B n).take ((chunkBytes T B n).length - 4) = b := by rw [hb]; exact sealOf_take _
  obtain ⟨_, _, _, h4, _⟩ := chunk_parse _ n T B hn hT hB rfl
  have h5 := chunk_read _ n T B hn hT hB rfl
  rw [e] at h4 h5
  exact ⟨h4, h5⟩
theorem body_is (b : List UInt8) (n y : Nat) (T : Nat → Int) (B : Nat → Nat) (hn : n ≤ 120) (hT : ∀ i, i < n → ptOk T i = true) (hB : ∀ i, i < n → B i < 18446744073709551616) (hb : b = BitMath.pack (rowBits T B n))
    (hy : BitMath.valB ((BitMath.bitsOfBytes b).take 8) = y) (ns ts : List Int) (vs : List Nat) (u u2 : Nat) (h1 : readNums ((BitMath.bitsOfBytes b).drop 8) y = (0, ns, u)) (h2 : ticksBy [] ns = some ts)
    (h3 : BitMath.maskRead (((BitMath.bitsOfBytes b).drop 8).drop u) y = (0, vs, u2)) : n = y ∧ ts = firstTicks T n ∧ vs = BitMath.firstV B n := by
  obtain ⟨k0, ns', u', k1, k2, k3⟩ := body_read b n T B hn hT hB hb
  have hny : n = y := k0.symm.trans hy
  subst hny
  have e1 := h1.symm.trans k1
  injection e1 with _ e2
  injection e2 with e3 e4
  subst e3 e4
  have e5 := h2.symm.trans k2
  injection e5 with e6
  have e7 := h3.symm.trans k3
  injection e7 with _ e8
  injection e8 with e9 _
  exact ⟨rfl, e6, e9⟩

/-- mask's Read of so many values, none too. -/
theorem mread_all (w : World) (x : Nat) (D : List Bool) (h : RdAt w x D) (hTab : Tab w) (n : Nat) (hn : n ≤ 120) (aN aT : Addr) (hN : w.cell? ⟨4, 0, none⟩ = some (.iface 313 (.pointer (some aN)))) (hT : w.cell? ⟨1, 0, none⟩ = some (.iface 313 (.pointer (some aT)))) (hxN : 4 < x) (hxT : 1 < x) (hxB : 17 < x) :
    Calls Tryz.prog 172 #[.pointer (some ⟨x, 0, none⟩), .int .i64 (n : Int)] w fun e w' => MOut w w' x D n aN aT e := by
  by_cases h0 : n = 0
  · subst h0
    refine (mRead_zero w ⟨x, 0, none⟩).mono ?_
    rintro e w' ⟨rfl, rfl⟩
    exact ⟨Kept.refl _ _, .inl ⟨[], 0, _, rfl, rfl, rfl, ⟨rfl, .inl ⟨rfl, rfl⟩⟩, fun y hy => (by cases hy), h⟩⟩
  · exact mRead_any w x D h hTab n (by omega) hn aN aT hN hT hxN hxT hxB

theorem own_slice {w : World} {base : Nat} {e : TypeId} {sz : Nat} {v : Value} {n : Nat} {xs : List Value} (h : w.ownsRow base e sz v n xs) : ∃ a c, v = .slice a n c := by
  rcases h.2 with ⟨rfl, rfl⟩ | ⟨g, cap, cur, rfl, _⟩
  · exact ⟨_, _, rfl⟩
  · exact ⟨_, _, rfl⟩
/-- What unpacked answers. -/
def UnpOut (w w' : World) (b : List UInt8) (e : Ending) : Prop :=
  Below w.heap.size w w' ∧ ((∃ (y : Nat) (ns ts : List Int) (vs : List Nat) (u u2 : Nat) (v : Value), y ≤ 120 ∧ BitMath.valB ((BitMath.bitsOfBytes b).take 8) = y ∧ readNums ((BitMath.bitsOfBytes b).drop 8) y = (0, ns, u) ∧ ticksBy [] ns = some ts ∧ ts.length = y ∧ AllTicks ts ∧
      BitMath.maskRead (((BitMath.bitsOfBytes b).drop 8).drop u) y = (0, vs, u2) ∧ vs.length = y ∧ (∀ z, z ∈ vs → z < 18446744073709551616) ∧ w'.ownsRow w.heap.size 71 2 v y (ptCells (fun i => ts.getD i 0) (BitMath.vf vs) y) ∧ e = .returned (.tuple #[v, .nilIface])) ∨
    (¬ IsBody b ∧ ∃ a : Addr, e = .returned (.tuple #[.slice none 0 0, .iface 313 (.pointer (some a))])))

set_option maxRecDepth 1000000 in
set_option maxHeartbeats 4000000 in
theorem unpacked_any {Bd : Nat} {ea : Nat → Addr} (w : World) (E : Ern Bd ea w) (hBd : Bd ≤ w.heap.size) (hF : Forms w) (hT : Tab w) (s : ByteArray) (hs1 : 1 ≤ s.size) (hs : s.size ≤ 100000) :
    Calls Tryz.prog 136 #[.string s] w fun e w' => UnpOut w w' s.data.toList e := by
  obtain ⟨b, hb⟩ : ∃ b, b = s.data.toList := ⟨_, rfl⟩
  have hbl : b.length = s.size := by rw [hb]; exact Array.length_toList
  rw [← hb]
  obtain ⟨D, hD⟩ : ∃ D, D = BitMath.bitsOfBytes b := ⟨_, rfl⟩
  have hDl : D.length = 8 * b.length := by rw [hD, BitMath.length_bitsOfBytes]
  have hop := open_ok w s ((s.size : Int) * 8) (by omega) (by omega) (by omega)
  have hto : ((s.size : Int) * 8).toNat = 8 * b.length := by omega
  have htk : b.take ((8 * b.length + 7) / 8) = b := List.take_of_length_le (by omega)
  rw [hto, ← hb, htk] at hop
  have HOP := (show Hid _ from hop)
  have hres : BitMath.restB b 0 (8 * b.length) = D := by
    rw [BitMath.restB, List.drop_zero, hD]
    exact List.take_of_length_le (by rw [BitMath.length_bitsOfBytes]; omega)
  have HRES := (show Hid _ from hres)
  have HDD := (show Hid _ from hD)
  have hmul : IntKind.i64.wrap ((s.size : Int) * 8) = (s.size : Int) * 8 := IntWalk.i64_in _ (by omega)
  have hFl := hF.lt
  have hTl := hT.lt
  have hEl := E.low
  have HE := (show Hid _ from E)
  have HF : Hid (Forms w) := hF
  have HT : Hid (Tab w) := hT
  clear E hF hT hop hto htk hres hD hb
  go_enter Tryz.func136, Tryz.ntmps136
  go_wp2_with fail
  refine Calls.mono HOP.out ?_
  rintro e w1 ⟨x, g, cap, rfl, hrd1, hb1, hg1⟩
  have hxg := hrd1.hg
  have hR1 : RdAt w1 x D := ⟨⟨g, cap, b, 0, 8 * b.length, hrd1, HRES.out⟩⟩
  have HGET := (show Hid _ from rd_ok w1 x D hR1 8 (by omega) (by omega))
  have HB1 := (show Hid _ from hb1)
  clear hrd1 hR1 hb1 HOP
  go_wp2_with fail
  refine Calls.mono HGET.out ?_
  rintro e w2 ⟨rfl, hR2, hk2, hs2⟩
  have hw1 := HB1.out.size
  have hxl : x < w1.heap.size := by have := hR2.lt; omega
  have hB2 : Below w.heap.size w w2 := HB1.out.trans (hk2.below hw1 (fun z hz => by simp at hz; omega))
  have hvl := BitMath.valB_lt (D.take 8)
  rw [show (D.take 8).length = 8 by simp; omega] at hvl
  obtain ⟨y, hy⟩ : ∃ y, y = BitMath.valB (D.take 8) := ⟨_, rfl⟩
  rw [← hy] at hvl ⊢
  have HY : Hid (BitMath.valB ((BitMath.bitsOfBytes b).take 8) = y) := by
    show _ = _
    rw [← HDD.out]
    exact hy.symm
  have HB2 := (show Hid _ from hB2)
  have HR2 : Hid (RdAt w2 x (D.drop 8)) := hR2
  have hyI : (y : Int) ≤ 255 := by omega
  have hyw : wrap64 (y : Int) = (y : Int) := by unfold wrap64; omega
  have hxl2 : x < w2.heap.size := by omega
  have hw2 := hB2.size
  clear HGET hR2 hk2 hB2 hy hs2
  replace hvl : y < 256 := hvl
  clear hmul hDl hbl
  by_cases hbig : 120 < y
  · have HNOT : Hid (¬ IsBody b) := by
      show ¬ IsBody b
      rintro ⟨n, T, B, hn, hT, hB, e⟩
      have := (body_read b n T B hn hT hB e).1
      rw [HY.out] at this
      omega
    have HWR := (show Hid _ from wRead_bound w2 (some ⟨x, 0, none⟩) (y : Int) (ea 1) (HE.out.below HB2.out hBd).c1 (.inr (by omega)))
    go_wp2_with fail
    refine Calls.mono HWR.out ?_
    rintro e w3 ⟨rfl, q, hw3⟩
    have HB3 : Hid (Below w.heap.size w w3) := by rw [hw3]; exact below_drewN HB2.out q
    clear hw3
    go_wp2
    go_ret2
    exact ⟨HB3.out, .inr ⟨HNOT.out, ea 1, rfl⟩⟩
  · have hy120 : y ≤ 120 := by omega
    have HY120 := (show Hid _ from hy120)
    have hWR := wRead_any w2 x (D.drop 8) HR2.out (HF.out.below HB2.out hFl) y (by omega) (ea 4) (ea 0) (ea 1) (HE.out.below HB2.out hBd).c4 (HE.out.below HB2.out hBd).c0 (HE.out.below HB2.out hBd).c1
    have HWR := (show Hid _ from hWR)
    clear hWR
    go_wp2_with fail
    refine Calls.mono HWR.out ?_
    intro e w3 hout3
    rcases hout3 with ⟨hk3, ns, u, ts, vt, hrn, htb, htl, hall, rfl, hown3, hR3⟩ | ⟨hb3, hout3⟩
    · have hB3 : Below w.heap.size w w3 := HB2.out.trans (hk3.below hw2 (fun z hz => by simp at hz; omega))
      have hw3 := hk3.size
      have HMR := (show Hid _ from mread_all w3 x ((D.drop 8).drop u) hR3 (HT.out.below hB3 hTl) y (by omega) (ea 4) (ea 0) (HE.out.below hB3 hBd).c4 (HE.out.below hB3 hBd).c0 (by omega) (by omega) (by omega))
      have HB3 := (show Hid _ from hB3)
      have HOWN3 : Hid (w3.ownsRow w2.heap.size 3 1 vt y (intList ts)) := hown3
      have HRN := (show Hid _ from hrn)
      have HTB := (show Hid _ from htb)
      have HTL := (show Hid _ from htl)
      have HALL := (show Hid _ from hall)
      clear hrn htb htl hall hown3 hR3 hk3 hB3 HWR
      go_wp2_with fail
      refine Calls.mono HMR.out ?_
      rintro e w4 ⟨hk4, hout4⟩
      have hB4 : Below w.heap.size w w4 := HB3.out.trans (hk4.below (by omega) (fun z hz => by simp at hz; omega))
      have hw4 := hk4.size
      rcases hout4 with ⟨vs, u2, vu, hmr, rfl, hvl4, hown4, hvs4, _⟩ | hout4
      · have hot4 : w4.ownsRow w2.heap.size 3 1 vt y (intList ts) := own_keptBy HOWN3.out hk4 (fun z hz hm => by
          simp at hz hm
          have := (own_lt HOWN3.out z hz).2
          omega)
        have HOT : Hid (w4.ownsRow w2.heap.size 3 1 vt y (intList ts)) := hot4
        have HOU : Hid (w4.ownsRow w3.heap.size 69 1 vu y (u64Cells vs)) := hown4
        have HMRD := (show Hid _ from hmr)
        have HVL := (show Hid _ from hvl4)
        have HVS := (show Hid _ from hvs4)
        have HB4 := (show Hid _ from hB4)
        obtain ⟨i0, hi, hz0, hz1, hz2⟩ := info_parts Tryz.infoPoint
        obtain ⟨w5, hmk, hown5, hgr5⟩ := run_make_own (P := Tryz.prog) w4 w4.heap.size 48 71 i0 (.agg #[.int .i64 0, .int .u64 0]) 2 Tryz.underlying48 hi hz0 hz1 .i64 .i64 y (by rw [hz2]; omega) (by unfold maxLen; omega) (Nat.le_refl _)
        have hb5 : Below w4.heap.size w4 w5 := ⟨hgr5.os, hgr5.tape, hgr5.output, hgr5.size, fun k hk => hgr5.block k hk (by simp)⟩
        have HOWN5 : Hid (w5.ownsRow w4.heap.size 71 2 (.slice (some ⟨w4.heap.size, 0, none⟩) 0 y) 0 []) := hown5
        have HB5 := (show Hid _ from hb5)
        clear hk4 hB4 hmr hvl4 hown4 hvs4 hot4 HMR HOWN3 hown5 hgr5 hb5
        obtain ⟨TT, hTT⟩ : ∃ TT : Nat → Int, TT = fun i => ts.getD i 0 := ⟨_, rfl⟩
        obtain ⟨BB, hBB⟩ : ∃ BB, BB = BitMath.vf vs := ⟨_, rfl⟩
        have HTT := (show Hid _ from hTT)
        have HBB := (show Hid _ from hBB)
        clear hTT hBB
        obtain ⟨ta, tc, rfl⟩ := own_slice HOT.out
        obtain ⟨ua, uc, rfl⟩ := own_slice HOU.out
        go_wp2_with fail
        go_loopw [9, 10, 11, 56] (fun l _ _ i wr => ∃ (k : Nat) (v : Value), k ≤ y ∧ i = .int .i64 k ∧ v = l ∧ wr.ownsRow w4.heap.size 71 2 v k (ptCells TT BB k) ∧ Below w4.heap.size w4 wr) (fun _ _ _ i _ => y - (intOf i).toNat)
        case atStart => exact ⟨0, _, Nat.zero_le _, rfl, rfl, HOWN5.out, HB5.out⟩
        case round =>
          obtain ⟨k, v, hk, rfl, rfl, hown, hbr⟩ := hrel
          have HOWN : Hid (wr.ownsRow w4.heap.size 71 2 v k (ptCells TT BB k)) := hown
          have HBR := (show Hid _ from hbr)
          have hwr := hbr.size
          clear hown hbr
          by_cases hky : k < y
          · obtain ⟨gt, ct, hvt, _, hct, hcellt⟩ := own_list HOT.out (by omega) HTL.out
            cases hvt
            obtain ⟨gu, cu, hvu, hgul, _, hcu, hUU⟩ := own_u64s HOU.out HVL.out HVS.out (by omega)
            cases hvu
            have hct1 := hcellt k hky
            obtain ⟨gb, go, hgo, hcs⟩ := hUU.at k hky
            cases hgo
            obtain ⟨hcu1, hyl⟩ := hcs k hky
            rw [Nat.zero_add] at hcu1
            have hgtl : gt < w4.heap.size := World.block_lt_of_cell? w4 ⟨gt, _, none⟩ hct1
            have hst : ptCells TT BB (k + 1) = ptCells TT BB k ++ [.int .i64 (TT k), .int .u64 ((BB k : Nat) : Int)] := rfl
            have ht0 : ts.getD k 0 = TT k := by rw [HTT.out]
            have hz0' : BitMath.vf vs k = BB k := by rw [HBB.out]
            rw [ht0] at hct1
            rw [hz0'] at hcu1
            clear ht0 hz0'
            obtain ⟨t, ht⟩ : ∃ t, TT k = t := ⟨_, rfl⟩
            obtain ⟨z, hz⟩ : ∃ z, BB k = z := ⟨_, rfl⟩
            rw [ht] at hct1 hst
            rw [hz] at hcu1 hst
            have hc1 : wr.cell? ⟨gt, k, none⟩ = some (.int .i64 t) := (HBR.out.cell (p := ⟨gt, k, none⟩) hgtl).trans hct1
            have hc2 : wr.cell? ⟨gu, k, none⟩ = some (.int .u64 (z : Int)) := (HBR.out.cell (p := ⟨gu, k, none⟩) hgul).trans hcu1
            have HST := (show Hid _ from hst)
            have hk0 : (0 : Int) ≤ (k : Int) := by omega
            have hk1 : (k : Int) < (y : Int) := by omega
            have hownA : (wr.alloc (.cells #[.int .i64 t, .int .u64 (z : Int)] 71)).ownsRow w4.heap.size 71 2 v k (ptCells TT BB k) := HOWN.out.alloc _
            clear hcellt hcs hUU hct1 hcu1 hst ht hz
            go_wp2_with (at_builtin; refine wpList_append_lies _ rfl _ _ 48 rfl w4.heap.size 71 i0 (.agg #[.int .i64 0, .int .u64 0]) 2 16 Tryz.underlying48 hi hz0 hz1 hz2 rfl (by decide) _ _ _ rfl hownA ⟨wr.heap.size, 0, none⟩ 1 1 [.int .i64 t, .int .u64 (z : Int)] rfl rfl (World.news_of_block (heap_alloc_new wr _)) ?c2 (by omega) ?c3 ?c4 ?c5 (wr.heap.size + 1) (by simp) ?_)
            case c2 => first | exact ⟨rfl, rfl⟩ | (intro q hq; simp at hq; rcases hq with rfl | rfl <;> rfl)
            case c3 => unfold maxLen; omega
            case c4 => omega
            case c5 => first | omega | (simp; omega)
            intro g1 cap1 w7 hown7 hgrow hat hlt7
            have hb7 := below_grown (by rfl) (by rfl) (by rfl) (by rfl) HBR.out HOWN.out hgrow
            rw [← HST.out] at hown7
            have HOWN7 : Hid (w7.ownsRow w4.heap.size 71 2 (.slice (some ⟨g1, 0, none⟩) (k + 1) cap1) (k + 1) (ptCells TT BB (k + 1))) := hown7
            have HB7 := (show Hid _ from hb7)
            clear hown7 hgrow hat hlt7 hb7 hownA hc1 hc2
            go_wp2
            go_roundw
            case rel => exact ⟨k + 1, _, by omega, by go_num, rfl, HOWN7.out, HB7.out⟩
            case measure => simp [intOf] <;> omega
          · have hke : k = y := by omega
            subst hke
            have hge : (k : Int) ≤ (k : Int) := Int.le_refl _
            go_wp2
            go_ret2
            exact ⟨HB4.out.trans (HBR.out.mono HB4.out.size), .inl ⟨k, ns, ts, vs, u, u2, v, HY120.out, HY.out, by rw [← HDD.out]; exact HRN.out, HTB.out, HTL.out, HALL.out, by rw [← HDD.out]; exact HMRD.out, HVL.out, HVS.out, by rw [← HTT.out, ← HBB.out]; exact own_base HOWN.out HB4.out.size, rfl⟩⟩
      · have HNOT : Hid (¬ IsBody b) := by
          show ¬ IsBody b
          rintro ⟨n, T, B, hn, hTT, hBB, e⟩
          obtain ⟨k0, ns', u', k1, k2, k3⟩ := body_read b n T B hn hTT hBB e
          have hny : n = y := k0.symm.trans HY.out
          subst hny
          rw [← HDD.out] at k1 k3
          have e1 := HRN.out.symm.trans k1
          injection e1 with _ e2
          injection e2 with e3 e4
          rw [← e4] at k3
          rcases hout4 with ⟨h5, _⟩ | ⟨h5, _⟩
          · have := congrArg Prod.fst (h5.symm.trans k3)
            cases this
          · have := congrArg Prod.fst (h5.symm.trans k3)
            cases this
        have HB4 := (show Hid _ from hB4)
        clear hk4 hB4 HMR
        rcases hout4 with ⟨_, rfl⟩ | ⟨_, rfl⟩
        · go_wp2
          go_ret2
          exact ⟨HB4.out, .inr ⟨HNOT.out, ea 4, rfl⟩⟩
        · go_wp2
          go_ret2
          exact ⟨HB4.out, .inr ⟨HNOT.out, ea 0, rfl⟩⟩
    · have HNOT : Hid (¬ IsBody b) := by
        show ¬ IsBody b
        rintro ⟨n, T, B, hn, hTT, hBB, e⟩
        obtain ⟨k0, ns', u', k1, k2, k3⟩ := body_read b n T B hn hTT hBB e
        have hny : n = y := k0.symm.trans HY.out
        subst hny
        rw [← HDD.out] at k1
        rcases hout3 with ⟨h5, _⟩ | ⟨h5, _⟩ | ⟨ns2, u2, h5, h6, _⟩
        · have := congrArg Prod.fst (h5.symm.trans k1)
          cases this
        · have := congrArg Prod.fst (h5.symm.trans k1)
          cases this
        · have e1 := h5.symm.trans k1
          injection e1 with _ e2
          injection e2 with e3 e4
          rw [e3, k2] at h6
          cases h6
      have HB3 := (show Hid _ from HB2.out.trans (hb3.mono hw2))
      clear hb3 HWR
      rcases hout3 with ⟨_, rfl⟩ | ⟨_, rfl⟩ | ⟨_, _, _, _, rfl⟩
      · go_wp2
        go_ret2
        exact ⟨HB3.out, .inr ⟨HNOT.out, ea 4, rfl⟩⟩
      · go_wp2
        go_ret2
        exact ⟨HB3.out, .inr ⟨HNOT.out, ea 0, rfl⟩⟩
      · go_wp2
        go_ret2
        exact ⟨HB3.out, .inr ⟨HNOT.out, ea 1, rfl⟩⟩
end Go.Proofs.YtdlceolmpcjjiaaGreatDoor
/- chunk's Encode and Decode by their contracts. -/
namespace Go.Proofs.YtdlceolmpcjjiaaGreatDoor
open Go.RowKit

theorem encode_many (w : World) (la : Option Addr) (n c : Nat) (hn : 120 < n) (hn2 : (n : Int) ≤ 9223372036854775807) (a : Addr) (hE : w.cell? ⟨0, 0, none⟩ = some (.iface 313 (.pointer (some a)))) :
    Calls Tryz.prog 71 #[.slice la n c] w fun e w' => e = .returned (.tuple #[.string ⟨#[]⟩, .iface 313 (.pointer (some a))]) ∧ w' = w := by
  have HCK := (show Hid _ from check_many w la n c hn hn2 a hE)
  go_enter Tryz.func71, Tryz.ntmps71
  go_wp2_with fail
  refine Calls.mono HCK.out ?_
  rintro e w1 ⟨rfl, hw1⟩
  have hw1' := hw1.symm
  subst hw1'
  go_wp2
  go_ret2
  exact ⟨rfl, rfl⟩

/-- What Encode answers: m is the first point that is not well, or the end. -/
def EncOut (w w' : World) (T : Nat → Int) (B : Nat → Nat) (m n : Nat) (aB aO : Addr) (e : Ending) : Prop :=
  Below w.heap.size w w' ∧ ((m = n ∧ e = .returned (.tuple #[.string ⟨(chunkBytes T B n).toArray⟩, .nilIface])) ∨
    (m < n ∧ ∃ pb : Nat, e = .returned (.tuple #[.string ⟨#[]⟩, .iface 118 (.pointer (some ⟨pb, 0, none⟩))]) ∧ w.heap.size ≤ pb ∧ w'.cell? ⟨pb, 0, none⟩ = some (.int .i64 (m : Int)) ∧ w'.cell? ⟨pb, 1, none⟩ = some (.iface 313 (.pointer (some (if isTick (T m) = true then aO else aB))))))

theorem length_chunk_le (T : Nat → Int) (B : Nat → Nat) (n : Nat) (hn : n ≤ 120) : (BitMath.pack (rowBits T B n)).length ≤ 100000 := by
  have h1 := length_rowBits T B n
  rw [BitMath.length_pack]
  omega

set_option maxRecDepth 1000000 in
theorem encode_any {Bd : Nat} {ea : Nat → Addr} (w : World) (E : Ern Bd ea w) (hF : Forms w) (hT : Tab w) (la : Option Addr) (n c : Nat) (T : Nat → Int) (B : Nat → Nat) (hP : Pts w la n T B) (hn : n ≤ 120) (m : Nat) (hm : m ≤ n) (hok : ∀ i, i < m → ptOk T i = true) (hbad : m < n → ptOk T m = false) :
    Calls Tryz.prog 71 #[.slice la n c] w fun e w' => EncOut w w' T B m n (ea 1) (ea 7) e := by
  have HCK := (show Hid _ from check_any w la n c T B hP hn m hm hok hbad (ea 1) (ea 7) E.c1 E.c7)
  have HF : Hid (Forms w) := hF
  have HT : Hid (Tab w) := hT
  have HP : Hid (Pts w la n T B) := hP
  have HOK := (show Hid _ from hok)
  have hFl := hF.lt
  have hTl := hT.lt
  clear hP hok hbad E hF hT
  go_enter Tryz.func71, Tryz.ntmps71
  go_wp2_with fail
  refine Calls.mono HCK.out ?_
  rintro e w1 ⟨hb1, ⟨hmn, rfl⟩ | ⟨hmn, pb, rfl, hpb, hc0, hc1⟩⟩
  · have HB1 := (show Hid _ from hb1)
    have HPK := (show Hid _ from packed_ok w1 (HF.out.below hb1 hFl) (HT.out.below hb1 hTl) la n c T B (HP.out.below hb1) hn (fun i hi => ptOk_tick T i (HOK.out i (by omega))))
    have hsl : (⟨(BitMath.pack (rowBits T B n)).toArray⟩ : ByteArray).size ≤ 1000000 := by
      have := length_chunk_le T B n hn
      simp [ByteArray.size]
      omega
    have HSE := (show Hid _ from fun w0 => sealed_any ⟨(BitMath.pack (rowBits T B n)).toArray⟩ w0 hsl)
    obtain ⟨z, hz⟩ : ∃ z : ByteArray, z = ⟨(BitMath.pack (rowBits T B n)).toArray⟩ := ⟨_, rfl⟩
    rw [← hz] at HPK HSE
    obtain ⟨q, hq⟩ : ∃ q : ByteArray, q = ⟨(chunkBytes T B n).toArray⟩ := ⟨_, rfl⟩
    have HSE' : Hid (∀ w0, Calls Tryz.prog 102 #[.string z] w0 fun e w' => e = .returned (.string q) ∧ Below w0.heap.size w0 w') := fun w0 => (HSE.out w0).mono (fun e w' h => ⟨by rw [h.1, hq, hz]; rfl, h.2⟩)
    have HQ := (show Hid _ from hq)
    clear hb1 hsl hz hq HSE HCK
    go_wp2_with fail
    refine Calls.mono HPK.out ?_
    rintro e w2 ⟨rfl, hb2⟩
    have HB2 : Hid (Below w.heap.size w w2) := HB1.out.trans (hb2.mono HB1.out.size)
    clear hb2 HPK
    go_wp2_with fail
    refine Calls.mono (HSE'.out _) ?_
    rintro e w3 ⟨rfl, hb3⟩
    have HB3 : Hid (Below w.heap.size w w3) := HB2.out.trans (hb3.mono HB2.out.size)
    clear hb3
    go_wp2
    go_ret2
    exact ⟨HB3.out, .inl ⟨hmn, by rw [← HQ.out]; rfl⟩⟩
  · have HB1 := (show Hid _ from hb1)
    have HC0 := (show Hid _ from hc0)
    have HC1 := (show Hid _ from hc1)
    clear hb1 hc0 hc1 HCK
    go_wp2
    go_ret2
    exact ⟨HB1.out, .inr ⟨hmn, pb, rfl, hpb, HC0.out, HC1.out⟩⟩

/-- What Decode answers. -/
def DecOut (w w' : World) (l : List UInt8) (aT aS : Addr) (e : Ending) : Prop :=
  Below w.heap.size w w' ∧ ((∃ (n : Nat) (T : Nat → Int) (B : Nat → Nat) (v : Value), n ≤ 120 ∧ (∀ i, i < n → ptOk T i = true) ∧ (∀ i, i < n → B i < 18446744073709551616) ∧ l = chunkBytes T B n ∧ w'.ownsRow w.heap.size 71 2 v n (ptCells T B n) ∧ e = .returned (.tuple #[v, .nilIface])) ∨
    (¬ IsChunk l ∧ e = .returned (.tuple #[.slice none 0 0, .iface 313 (.pointer (some (if l.length < 5 then aT else if BitMath.sealOf (l.take (l.length - 4)) = l then aT else aS)))])))
theorem chunk_body (l : List UInt8) (h : IsChunk l) : 5 ≤ l.length ∧ BitMath.sealOf (l.take (l.length - 4)) = l ∧ IsBody (l.take (l.length - 4)) := by
  obtain ⟨n, T, B, hn, hT, hB, e⟩ := h
  obtain ⟨p1, p2, p3, _⟩ := chunk_parse l n T B hn hT hB e
  exact ⟨p1, p3, n, T, B, hn, hT, hB, p2⟩

set_option maxRecDepth 1000000 in
set_option maxHeartbeats 2000000 in
theorem decode_any {Bd : Nat} {ea : Nat → Addr} (w : World) (E : Ern Bd ea w) (hBd : Bd ≤ w.heap.size) (hF : Forms w) (hT : Tab w) (s : ByteArray) (hs : s.size ≤ 10000) :
    Calls Tryz.prog 110 #[.string s] w fun e w' => DecOut w w' s.data.toList (ea 0) (ea 8) e := by
  obtain ⟨l, hl⟩ : ∃ l, l = s.data.toList := ⟨_, rfl⟩
  have hlen : l.length = s.size := by rw [hl]; exact Array.length_toList
  rw [← hl]
  have HL := (show Hid _ from hl)
  have HLEN := (show Hid _ from hlen)
  have hE0 := E.c0
  have hE8 := E.c8
  have hEl := E.low
  have HE := (show Hid _ from E)
  have HF : Hid (Forms w) := hF
  have HT : Hid (Tab w) := hT
  have hFl := hF.lt
  have hTl := hT.lt
  clear hl hlen E hF hT
  by_cases h5 : s.size < 5
  · have HNOT : Hid (¬ IsChunk l) := fun h => by
      have := (chunk_body l h).1
      have := HLEN.out
      omega
    have HIF : Hid ((if l.length < 5 then ea 0 else if BitMath.sealOf (l.take (l.length - 4)) = l then ea 0 else ea 8) = ea 0) := if_pos (by have := HLEN.out; omega)
    have h5I : (s.size : Int) < 5 := by omega
    have hd5 : decide ((s.size : Int) < 5) = true := by simp; omega
    go_enter Tryz.func110, Tryz.ntmps110
    go_wp2_with fail
    go_quiet (fail)
    go_wp2
    go_ret2
    exact ⟨⟨rfl, rfl, rfl, Nat.le_refl _, fun _ _ => rfl⟩, .inr ⟨HNOT.out, by rw [HIF.out]; rfl⟩⟩
  · have hd5 : decide ((s.size : Int) < 5) = false := by simp; omega
    obtain ⟨b, hb⟩ : ∃ b, b = s.extract 0 (s.size - 4) := ⟨_, rfl⟩
    have hbl : b.data.toList = l.take (l.length - 4) := by rw [hb, HL.out]; simp
    have hbs : b.size = s.size - 4 := by rw [hb]; simp
    have hse := fun w0 => sealed_any b w0 (by omega)
    rw [hbl] at hse
    have HBL := (show Hid _ from hbl)
    have HSE := (show Hid _ from hse)
    have hqt := str_beq ⟨(BitMath.sealOf (l.take (l.length - 4))).toArray⟩ s
    have hqd : (⟨(BitMath.sealOf (l.take (l.length - 4))).toArray⟩ : ByteArray).data.toList = BitMath.sealOf (l.take (l.length - 4)) := by simp
    rw [hqd, ← HL.out] at hqt
    obtain ⟨z, hz⟩ : ∃ z : ByteArray, z = ⟨(BitMath.sealOf (l.take (l.length - 4))).toArray⟩ := ⟨_, rfl⟩
    rw [← hz] at hqt
    have HSE' : Hid (∀ w0, Calls Tryz.prog 102 #[.string b] w0 fun e w' => e = .returned (.string z) ∧ Below w0.heap.size w0 w') := by rw [hz]; exact HSE.out
    have hi4 : (0 : Int) ≤ (s.size : Int) - 4 := by omega
    have hi4b : (s.size : Int) - 4 ≤ (s.size : Int) := by omega
    have HBS := (show Hid _ from hbs)
    clear hse hbl hqd hz HSE hbs
    go_enter Tryz.func110, Tryz.ntmps110
    go_wp2_with fail
    rw [← hb]
    clear hb
    refine Calls.mono (HSE'.out _) ?_
    rintro e w1 ⟨rfl, hb1⟩
    have HL5 : Hid (¬ l.length < 5) := by have := HLEN.out; show ¬ l.length < 5; omega
    have HB1 := (show Hid _ from hb1)
    have e0 : w1.cell? ⟨1, 0, none⟩ = some (.iface 313 (.pointer (some (ea 0)))) := (HE.out.below hb1 hBd).c0
    have e8 : w1.cell? ⟨8, 0, none⟩ = some (.iface 313 (.pointer (some (ea 8)))) := (HE.out.below hb1 hBd).c8
    clear hb1 hE0 hE8 HSE'
    by_cases hseal : BitMath.sealOf (l.take (l.length - 4)) = l
    · rw [decide_eq_true hseal] at hqt
      have HIF : Hid ((if l.length < 5 then ea 0 else if BitMath.sealOf (l.take (l.length - 4)) = l then ea 0 else ea 8) = ea 0) := (if_neg HL5.out).trans (if_pos hseal)
      have HSEAL := (show Hid _ from hseal)
      have hun := unpacked_any w1 (HE.out.below HB1.out hBd) (Nat.le_trans hBd HB1.out.size) (HF.out.below HB1.out hFl) (HT.out.below HB1.out hTl) b (by have := HBS.out; omega) (by have := HBS.out; omega)
      rw [HBL.out] at hun
      have HUN := (show Hid _ from hun)
      clear hun hseal e8
      go_wp2_with fail
      refine Calls.mono HUN.out ?_
      rintro e w2 ⟨hb2, ⟨y, ns, ts, vs, u, u2, v, hy, hyv, hrn, htb, htl, hall, hmr, hvl, hvs, hown, rfl⟩ | ⟨hnot, a, rfl⟩⟩
      · have HB2 : Hid (Below w.heap.size w w2) := HB1.out.trans (hb2.mono HB1.out.size)
        obtain ⟨TT, hTT⟩ : ∃ TT : Nat → Int, TT = fun i => ts.getD i 0 := ⟨_, rfl⟩
        obtain ⟨BB, hBB⟩ : ∃ BB, BB = BitMath.vf vs := ⟨_, rfl⟩
        rw [← hTT, ← hBB] at hown
        have hBb : ∀ i, i < y → BB i < 18446744073709551616 := fun i hi => by rw [hBB]; exact vf_lt vs hvs i (by rw [hvl]; exact hi)
        have hTb : ∀ i, i < y → -1099511627776 ≤ TT i ∧ TT i ≤ 1099511627776 := fun i hi => by rw [hTT]; exact hall.at i (by rw [htl]; exact hi)
        obtain ⟨va, vc, rfl, hPts⟩ := pts_own hown (fun i hi => by have := hTb i hi; omega) hBb
        have HSAME : Hid (∀ n T B, n ≤ 120 → (∀ i, i < n → ptOk T i = true) → (∀ i, i < n → B i < 18446744073709551616) → l = chunkBytes T B n → (∀ i, i < y → ptOk TT i = true) ∧ BitMath.pack (rowBits TT BB y) = l.take (l.length - 4)) := by
          intro n T B hn hT' hB' e
          have p2 := (chunk_parse l n T B hn hT' hB' e).2.1
          obtain ⟨rfl, q1, q2⟩ := body_is _ n y T B hn hT' hB' p2 hyv ns ts vs u u2 hrn htb hmr
          have g1 : ∀ i, i < n → TT i = T i := fun i hi => by rw [hTT, q1]; exact getD_firstTicks T n i hi
          have g2 : ∀ i, i < n → BB i = B i := fun i hi => by rw [hBB, q2]; exact BitMath.vf_firstV B n i hi
          exact ⟨fun i hi => by rw [ptOk_congr TT T n g1 i hi]; exact hT' i hi, by rw [rowBits_congr TT T BB B n g1 g2]; exact p2.symm⟩
        have HIP := (show Hid _ from isPacked_any w2 (HE.out.below HB2.out hBd) (Nat.le_trans hBd HB2.out.size) (HF.out.below HB2.out hFl) (HT.out.below HB2.out hTl) va y vc TT BB hPts hy b)
        have HOWN : Hid (w2.ownsRow w1.heap.size 71 2 (.slice va y vc) y (ptCells TT BB y)) := hown
        have HBB := (show Hid _ from hBb)
        have e02 : w2.cell? ⟨1, 0, none⟩ = some (.iface 313 (.pointer (some (ea 0)))) := (HE.out.below HB2.out hBd).c0
        have HY := (show Hid _ from hy)
        clear hb2 hyv hrn htb htl hall hmr hvl hvs hown hTT hBB hBb hTb hPts e0 HUN hy
        go_wp2_with fail
        refine Calls.mono HIP.out ?_
        rintro e w3 ⟨hb3, r, rfl, hr⟩
        rw [HBL.out] at hr
        have HB3 : Hid (Below w.heap.size w w3) := HB2.out.trans (hb3.mono HB2.out.size)
        have HOWN3 : Hid (w3.ownsRow w1.heap.size 71 2 (.slice va y vc) y (ptCells TT BB y)) := own_kept HOWN.out hb3
        have e03 : w3.cell? ⟨1, 0, none⟩ = some (.iface 313 (.pointer (some (ea 0)))) := (HE.out.below HB3.out hBd).c0
        have HR := (show Hid _ from hr)
        clear hb3 hr HIP e02
        cases r with
        | true =>
          have hr := HR.out.1 rfl
          have HOK := (show Hid _ from hr.1)
          have HPK := (show Hid _ from hr.2)
          clear hr HR
          go_wp2
          go_ret2
          exact ⟨HB3.out, .inl ⟨y, TT, BB, _, HY.out, HOK.out, HBB.out, by rw [chunkBytes, HPK.out, HSEAL.out], own_base HOWN3.out HB1.out.size, rfl⟩⟩
        | false =>
          have HNOT : Hid (¬ IsChunk l) := fun h => by
            obtain ⟨n, T, B, hn, hT', hB', e⟩ := h
            have := HR.out.2 (HSAME.out n T B hn hT' hB' e)
            cases this
          clear HR
          go_wp2_with fail
          go_quiet (fail)
          go_wp2
          go_ret2
          exact ⟨below_drewN HB3.out _, .inr ⟨HNOT.out, by rw [HIF.out]; rfl⟩⟩
      · have HB2 : Hid (Below w.heap.size w w2) := HB1.out.trans (hb2.mono HB1.out.size)
        have HNOT : Hid (¬ IsChunk l) := fun h => hnot (chunk_body l h).2.2
        have e02 : w2.cell? ⟨1, 0, none⟩ = some (.iface 313 (.pointer (some (ea 0)))) := (HE.out.below HB2.out hBd).c0
        clear hb2 hnot e0 HUN
        go_wp2_with fail
        go_quiet (fail)
        go_wp2
        go_ret2
        exact ⟨below_drewN HB2.out _, .inr ⟨HNOT.out, by rw [HIF.out]; rfl⟩⟩
    · rw [decide_eq_false hseal] at hqt
      have HIF : Hid ((if l.length < 5 then ea 0 else if BitMath.sealOf (l.take (l.length - 4)) = l then ea 0 else ea 8) = ea 8) := (if_neg HL5.out).trans (if_neg hseal)
      have HNOT : Hid (¬ IsChunk l) := fun h => hseal (chunk_body l h).2.1
      clear hseal e0
      go_wp2_with fail
      go_quiet (fail)
      go_wp2
      go_ret2
      exact ⟨below_drewN HB1.out _, .inr ⟨HNOT.out, by rw [HIF.out]; rfl⟩⟩
end Go.Proofs.YtdlceolmpcjjiaaGreatDoor
