/- chunk's unpacked by its contract: bytes as points; what is behind their bits is not looked at. -/
import Derived.Test.YtgdflopgdlpimaaDoorDecMath
import Derived.Test.YtgdflopgdlpimaaDoorWaveRead
import Derived.Test.YtgdflopgdlpimaaDoorMaskRead2
import Derived.Test.YtgdflopgdlpimaaDoorRefUnchunk
import Derived.Test.YtgdflopgdlpimaaDoorErrAsGroup
import Derived.Test.YtgdflopgdlpimaaDoorRefTicksGroup
import Derived.Laws.MakeOwn
namespace Go.Proofs.YtgdflopgdlpimaaDoor
open Go.RowKit

/-- Bytes that are right points, packed. -/
def IsBody (b : List UInt8) : Prop := ∃ (n : Nat) (T : Nat → Int) (B : Nat → Nat), n ≤ 120 ∧ (∀ i, i < n → ptOk T i = true) ∧ (∀ i, i < n → B i < 18446744073709551616) ∧ b = BitMath.pack (rowBits T B n)
theorem body_read (b : List UInt8) (n : Nat) (T : Nat → Int) (B : Nat → Nat) (hn : n ≤ 120) (hT : ∀ i, i < n → ptOk T i = true) (hB : ∀ i, i < n → B i < 18446744073709551616) (hb : b = BitMath.pack (rowBits T B n)) :
    BitMath.valB ((BitMath.bitsOfBytes b).take 8) = n ∧ ∃ ns u, readNums ((BitMath.bitsOfBytes b).drop 8) n = (0, ns, (ticksTo T n).length) ∧ ticksBy [] ns = some (firstTicks T n) ∧
      BitMath.maskRead (((BitMath.bitsOfBytes b).drop 8).drop (ticksTo T n).length) n = (0, BitMath.firstV B n, u) := by
  have e : (chunkBytes T B n).take ((chunkBytes T B n).length - 4) = b := by rw [hb]; exact sealOf_take _
  obtain ⟨_, _, _, h4, _⟩ := chunk_parse _ n T B hn hT hB rfl
  have h5 := chunk_read _ n T B hn hT hB rfl
  rw [e] at h4 h5
  exact ⟨h4, h5⟩
theorem body_is (b : List UInt8) (n y : Nat) (T : Nat → Int) (B : Nat → Nat) (hn : n ≤ 120) (hT : ∀ i, i < n → ptOk T i = true) (hB : ∀ i, i < n → B i < 18446744073709551616) (hb : b = BitMath.pack (rowBits T B n))
    (hy : BitMath.valB ((BitMath.bitsOfBytes b).take 8) = y) (ns ts : List Int) (vs : List Nat) (u u2 : Nat) (h1 : readNums ((BitMath.bitsOfBytes b).drop 8) y = (0, ns, u)) (h2 : ticksBy [] ns = some ts)
    (h3 : BitMath.maskRead (((BitMath.bitsOfBytes b).drop 8).drop u) y = (0, vs, u2)) : n = y ∧ ts = firstTicks T n ∧ vs = BitMath.firstV B n := by
  obtain ⟨k0, ns', u', k1, k2, k3⟩ := body_read b n T B hn hT hB hb
  have hny : n = y := k0.symm.trans hy
  subst hny
  have e1 := h1.symm.trans k1
  injection e1 with _ e2
  injection e2 with e3 e4
  subst e3 e4
  have e5 := h2.symm.trans k2
  injection e5 with e6
  have e7 := h3.symm.trans k3
  injection e7 with _ e8
  injection e8 with e9 _
  exact ⟨rfl, e6, e9⟩

/-- mask's Read of so many values, none too. -/
theorem mread_all (w : World) (x : Nat) (D : List Bool) (h : RdAt w x D) (hTab : Tab w) (n : Nat) (hn : n ≤ 120) (aN aT : Addr) (hN : w.cell? ⟨4, 0, none⟩ = some (.iface 97 (.pointer (some aN)))) (hT : w.cell? ⟨0, 0, none⟩ = some (.iface 97 (.pointer (some aT)))) (hxN : 4 < x) (hxT : 0 < x) (hxB : 13 < x) :
    Calls Tryd.prog 40 #[.pointer (some ⟨x, 0, none⟩), .int .i64 (n : Int)] w fun e w' => MOut w w' x D n aN aT e := by
  by_cases h0 : n = 0
  · subst h0
    refine (mRead_zero w ⟨x, 0, none⟩).mono ?_
    rintro e w' ⟨rfl, rfl⟩
    exact ⟨Kept.refl _ _, .inl ⟨[], 0, _, rfl, rfl, rfl, ⟨rfl, .inl ⟨rfl, rfl⟩⟩, fun y hy => (by cases hy), h⟩⟩
  · exact mRead_any w x D h hTab n (by omega) hn aN aT hN hT hxN hxT hxB

theorem own_slice {w : World} {base : Nat} {e : TypeId} {sz : Nat} {v : Value} {n : Nat} {xs : List Value} (h : w.ownsRow base e sz v n xs) : ∃ a c, v = .slice a n c := by
  rcases h.2 with ⟨rfl, rfl⟩ | ⟨g, cap, cur, rfl, _⟩
  · exact ⟨_, _, rfl⟩
  · exact ⟨_, _, rfl⟩
/-- What unpacked answers. -/
def UnpOut (w w' : World) (b : List UInt8) (e : Ending) : Prop :=
  Below w.heap.size w w' ∧ ((∃ (y : Nat) (ns ts : List Int) (vs : List Nat) (u u2 : Nat) (v : Value), y ≤ 120 ∧ BitMath.valB ((BitMath.bitsOfBytes b).take 8) = y ∧ readNums ((BitMath.bitsOfBytes b).drop 8) y = (0, ns, u) ∧ ticksBy [] ns = some ts ∧ ts.length = y ∧ AllTicks ts ∧
      BitMath.maskRead (((BitMath.bitsOfBytes b).drop 8).drop u) y = (0, vs, u2) ∧ vs.length = y ∧ (∀ z, z ∈ vs → z < 18446744073709551616) ∧ w'.ownsRow w.heap.size 92 2 v y (ptCells (fun i => ts.getD i 0) (BitMath.vf vs) y) ∧ e = .returned (.tuple #[v, .nilIface])) ∨
    (¬ IsBody b ∧ ∃ a : Addr, e = .returned (.tuple #[.slice none 0 0, .iface 97 (.pointer (some a))])))

set_option maxRecDepth 1000000 in
set_option maxHeartbeats 4000000 in
theorem unpacked_any {Bd : Nat} {ea : Nat → Addr} (w : World) (E : Ern Bd ea w) (hBd : Bd ≤ w.heap.size) (hF : Forms w) (hT : Tab w) (s : ByteArray) (hs1 : 1 ≤ s.size) (hs : s.size ≤ 100000) :
    Calls Tryd.prog 77 #[.string s] w fun e w' => UnpOut w w' s.data.toList e := by
  obtain ⟨b, hb⟩ : ∃ b, b = s.data.toList := ⟨_, rfl⟩
  have hbl : b.length = s.size := by rw [hb]; exact Array.length_toList
  rw [← hb]
  obtain ⟨D, hD⟩ : ∃ D, D = BitMath.bitsOfBytes b := ⟨_, rfl⟩
  have hDl : D.length = 8 * b.length := by rw [hD, BitMath.length_bitsOfBytes]
  have hop := open_ok w s ((s.size : Int) * 8) (by omega) (by omega) (by omega)
  have hto : ((s.size : Int) * 8).toNat = 8 * b.length := by omega
  have htk : b.take ((8 * b.length + 7) / 8) = b := List.take_of_length_le (by omega)
  rw [hto, ← hb, htk] at hop
  have HOP := (show Hid _ from hop)
  have hres : BitMath.restB b 0 (8 * b.length) = D := by
    rw [BitMath.restB, List.drop_zero, hD]
    exact List.take_of_length_le (by rw [BitMath.length_bitsOfBytes]; omega)
  have HRES := (show Hid _ from hres)
  have HDD := (show Hid _ from hD)
  have hmul : IntKind.i64.wrap ((s.size : Int) * 8) = (s.size : Int) * 8 := IntWalk.i64_in _ (by omega)
  have hFl := hF.lt
  have hTl := hT.lt
  have hEl := E.low
  have HE := (show Hid _ from E)
  have HF : Hid (Forms w) := hF
  have HT : Hid (Tab w) := hT
  clear E hF hT hop hto htk hres hD hb
  go_enter Tryd.func77, Tryd.ntmps77
  go_wp2_with fail
  refine Calls.mono HOP.out ?_
  rintro e w1 ⟨x, g, cap, rfl, hrd1, hb1, hg1⟩
  have hxg := hrd1.hg
  have hR1 : RdAt w1 x D := ⟨⟨g, cap, b, 0, 8 * b.length, hrd1, HRES.out⟩⟩
  have HGET := (show Hid _ from rd_ok w1 x D hR1 8 (by omega) (by omega))
  have HB1 := (show Hid _ from hb1)
  clear hrd1 hR1 hb1 HOP
  go_wp2_with fail
  refine Calls.mono HGET.out ?_
  rintro e w2 ⟨rfl, hR2, hk2, hs2⟩
  have hw1 := HB1.out.size
  have hxl : x < w1.heap.size := by have := hR2.lt; omega
  have hB2 : Below w.heap.size w w2 := HB1.out.trans (hk2.below hw1 (fun z hz => by simp at hz; omega))
  have hvl := BitMath.valB_lt (D.take 8)
  rw [show (D.take 8).length = 8 by simp; omega] at hvl
  obtain ⟨y, hy⟩ : ∃ y, y = BitMath.valB (D.take 8) := ⟨_, rfl⟩
  rw [← hy] at hvl ⊢
  have HY : Hid (BitMath.valB ((BitMath.bitsOfBytes b).take 8) = y) := by
    show _ = _
    rw [← HDD.out]
    exact hy.symm
  have HB2 := (show Hid _ from hB2)
  have HR2 : Hid (RdAt w2 x (D.drop 8)) := hR2
  have hyI : (y : Int) ≤ 255 := by omega
  have hyw : wrap64 (y : Int) = (y : Int) := by unfold wrap64; omega
  have hxl2 : x < w2.heap.size := by omega
  have hw2 := hB2.size
  clear HGET hR2 hk2 hB2 hy hs2
  replace hvl : y < 256 := hvl
  clear hmul hDl hbl
  by_cases hbig : 120 < y
  · have HNOT : Hid (¬ IsBody b) := by
      show ¬ IsBody b
      rintro ⟨n, T, B, hn, hT, hB, e⟩
      have := (body_read b n T B hn hT hB e).1
      rw [HY.out] at this
      omega
    have HWR := (show Hid _ from wRead_bound w2 (some ⟨x, 0, none⟩) (y : Int) (ea 1) (HE.out.below HB2.out hBd).c1 (.inr (by omega)))
    go_wp2_with fail
    refine Calls.mono HWR.out ?_
    rintro e w3 ⟨rfl, q, hw3⟩
    have HB3 : Hid (Below w.heap.size w w3) := by rw [hw3]; exact below_drewN HB2.out q
    clear hw3
    go_wp2
    go_ret2
    exact ⟨HB3.out, .inr ⟨HNOT.out, ea 1, rfl⟩⟩
  · have hy120 : y ≤ 120 := by omega
    have HY120 := (show Hid _ from hy120)
    have hWR := wRead_any w2 x (D.drop 8) HR2.out (HF.out.below HB2.out hFl) y (by omega) (ea 4) (ea 0) (ea 1) (HE.out.below HB2.out hBd).c4 (HE.out.below HB2.out hBd).c0 (HE.out.below HB2.out hBd).c1
    have HWR := (show Hid _ from hWR)
    clear hWR
    go_wp2_with fail
    refine Calls.mono HWR.out ?_
    intro e w3 hout3
    rcases hout3 with ⟨hk3, ns, u, ts, vt, hrn, htb, htl, hall, rfl, hown3, hR3⟩ | ⟨hb3, hout3⟩
    · have hB3 : Below w.heap.size w w3 := HB2.out.trans (hk3.below hw2 (fun z hz => by simp at hz; omega))
      have hw3 := hk3.size
      have HMR := (show Hid _ from mread_all w3 x ((D.drop 8).drop u) hR3 (HT.out.below hB3 hTl) y (by omega) (ea 4) (ea 0) (HE.out.below hB3 hBd).c4 (HE.out.below hB3 hBd).c0 (by omega) (by omega) (by omega))
      have HB3 := (show Hid _ from hB3)
      have HOWN3 : Hid (w3.ownsRow w2.heap.size 3 1 vt y (intList ts)) := hown3
      have HRN := (show Hid _ from hrn)
      have HTB := (show Hid _ from htb)
      have HTL := (show Hid _ from htl)
      have HALL := (show Hid _ from hall)
      clear hrn htb htl hall hown3 hR3 hk3 hB3 HWR
      go_wp2_with fail
      refine Calls.mono HMR.out ?_
      rintro e w4 ⟨hk4, hout4⟩
      have hB4 : Below w.heap.size w w4 := HB3.out.trans (hk4.below (by omega) (fun z hz => by simp at hz; omega))
      have hw4 := hk4.size
      rcases hout4 with ⟨vs, u2, vu, hmr, rfl, hvl4, hown4, hvs4, _⟩ | hout4
      · have hot4 : w4.ownsRow w2.heap.size 3 1 vt y (intList ts) := own_keptBy HOWN3.out hk4 (fun z hz hm => by
          simp at hz hm
          have := (own_lt HOWN3.out z hz).2
          omega)
        have HOT : Hid (w4.ownsRow w2.heap.size 3 1 vt y (intList ts)) := hot4
        have HOU : Hid (w4.ownsRow w3.heap.size 39 1 vu y (u64Cells vs)) := hown4
        have HMRD := (show Hid _ from hmr)
        have HVL := (show Hid _ from hvl4)
        have HVS := (show Hid _ from hvs4)
        have HB4 := (show Hid _ from hB4)
        obtain ⟨i0, hi, hz0, hz1, hz2⟩ := info_parts Tryd.infoPoint
        obtain ⟨w5, hmk, hown5, hgr5⟩ := run_make_own (P := Tryd.prog) w4 w4.heap.size 77 92 i0 (.agg #[.int .i64 0, .int .u64 0]) 2 Tryd.underlying77 hi hz0 hz1 .i64 .i64 y (by rw [hz2]; omega) (by unfold maxLen; omega) (Nat.le_refl _)
        have hb5 : Below w4.heap.size w4 w5 := ⟨hgr5.os, hgr5.tape, hgr5.output, hgr5.size, fun k hk => hgr5.block k hk (by simp)⟩
        have HOWN5 : Hid (w5.ownsRow w4.heap.size 92 2 (.slice (some ⟨w4.heap.size, 0, none⟩) 0 y) 0 []) := hown5
        have HB5 := (show Hid _ from hb5)
        clear hk4 hB4 hmr hvl4 hown4 hvs4 hot4 HMR HOWN3 hown5 hgr5 hb5
        obtain ⟨TT, hTT⟩ : ∃ TT : Nat → Int, TT = fun i => ts.getD i 0 := ⟨_, rfl⟩
        obtain ⟨BB, hBB⟩ : ∃ BB, BB = BitMath.vf vs := ⟨_, rfl⟩
        have HTT := (show Hid _ from hTT)
        have HBB := (show Hid _ from hBB)
        clear hTT hBB
        obtain ⟨ta, tc, rfl⟩ := own_slice HOT.out
        obtain ⟨ua, uc, rfl⟩ := own_slice HOU.out
        go_wp2_with fail
        go_loopw [9, 10, 11, 56] (fun l _ _ i wr => ∃ (k : Nat) (v : Value), k ≤ y ∧ i = .int .i64 k ∧ v = l ∧ wr.ownsRow w4.heap.size 92 2 v k (ptCells TT BB k) ∧ Below w4.heap.size w4 wr) (fun _ _ _ i _ => y - (intOf i).toNat)
        case atStart => exact ⟨0, _, Nat.zero_le _, rfl, rfl, HOWN5.out, HB5.out⟩
        case round =>
          obtain ⟨k, v, hk, rfl, rfl, hown, hbr⟩ := hrel
          have HOWN : Hid (wr.ownsRow w4.heap.size 92 2 v k (ptCells TT BB k)) := hown
          have HBR := (show Hid _ from hbr)
          have hwr := hbr.size
          clear hown hbr
          by_cases hky : k < y
          · obtain ⟨gt, ct, hvt, _, hct, hcellt⟩ := own_list HOT.out (by omega) HTL.out
            cases hvt
            obtain ⟨gu, cu, hvu, hgul, _, hcu, hUU⟩ := own_u64s HOU.out HVL.out HVS.out (by omega)
            cases hvu
            have hct1 := hcellt k hky
            obtain ⟨gb, go, hgo, hcs⟩ := hUU.at k hky
            cases hgo
            obtain ⟨hcu1, hyl⟩ := hcs k hky
            rw [Nat.zero_add] at hcu1
            have hgtl : gt < w4.heap.size := World.block_lt_of_cell? w4 ⟨gt, _, none⟩ hct1
            have hst : ptCells TT BB (k + 1) = ptCells TT BB k ++ [.int .i64 (TT k), .int .u64 ((BB k : Nat) : Int)] := rfl
            have ht0 : ts.getD k 0 = TT k := by rw [HTT.out]
            have hz0' : BitMath.vf vs k = BB k := by rw [HBB.out]
            rw [ht0] at hct1
            rw [hz0'] at hcu1
            clear ht0 hz0'
            obtain ⟨t, ht⟩ : ∃ t, TT k = t := ⟨_, rfl⟩
            obtain ⟨z, hz⟩ : ∃ z, BB k = z := ⟨_, rfl⟩
            rw [ht] at hct1 hst
            rw [hz] at hcu1 hst
            have hc1 : wr.cell? ⟨gt, k, none⟩ = some (.int .i64 t) := (HBR.out.cell (p := ⟨gt, k, none⟩) hgtl).trans hct1
            have hc2 : wr.cell? ⟨gu, k, none⟩ = some (.int .u64 (z : Int)) := (HBR.out.cell (p := ⟨gu, k, none⟩) hgul).trans hcu1
            have HST := (show Hid _ from hst)
            have hk0 : (0 : Int) ≤ (k : Int) := by omega
            have hk1 : (k : Int) < (y : Int) := by omega
            have hownA : (wr.alloc (.cells #[.int .i64 t, .int .u64 (z : Int)] 92)).ownsRow w4.heap.size 92 2 v k (ptCells TT BB k) := HOWN.out.alloc _
            clear hcellt hcs hUU hct1 hcu1 hst ht hz
            go_wp2_with (at_builtin; refine wpList_append_lies _ rfl _ _ 77 rfl w4.heap.size 92 i0 (.agg #[.int .i64 0, .int .u64 0]) 2 16 Tryd.underlying77 hi hz0 hz1 hz2 rfl (by decide) _ _ _ rfl hownA ⟨wr.heap.size, 0, none⟩ 1 1 [.int .i64 t, .int .u64 (z : Int)] rfl rfl (World.news_of_block (heap_alloc_new wr _)) ?c2 (by omega) ?c3 ?c4 ?c5 (wr.heap.size + 1) (by simp) ?_)
            case c2 => first | exact ⟨rfl, rfl⟩ | (intro q hq; simp at hq; rcases hq with rfl | rfl <;> rfl)
            case c3 => unfold maxLen; omega
            case c4 => omega
            case c5 => first | omega | (simp; omega)
            intro g1 cap1 w7 hown7 hgrow hat hlt7
            have hb7 := below_grown (by rfl) (by rfl) (by rfl) (by rfl) HBR.out HOWN.out hgrow
            rw [← HST.out] at hown7
            have HOWN7 : Hid (w7.ownsRow w4.heap.size 92 2 (.slice (some ⟨g1, 0, none⟩) (k + 1) cap1) (k + 1) (ptCells TT BB (k + 1))) := hown7
            have HB7 := (show Hid _ from hb7)
            clear hown7 hgrow hat hlt7 hb7 hownA hc1 hc2
            go_wp2
            go_roundw
            case rel => exact ⟨k + 1, _, by omega, by go_num, rfl, HOWN7.out, HB7.out⟩
            case measure => simp [intOf] <;> omega
          · have hke : k = y := by omega
            subst hke
            have hge : (k : Int) ≤ (k : Int) := Int.le_refl _
            go_wp2
            go_ret2
            exact ⟨HB4.out.trans (HBR.out.mono HB4.out.size), .inl ⟨k, ns, ts, vs, u, u2, v, HY120.out, HY.out, by rw [← HDD.out]; exact HRN.out, HTB.out, HTL.out, HALL.out, by rw [← HDD.out]; exact HMRD.out, HVL.out, HVS.out, by rw [← HTT.out, ← HBB.out]; exact own_base HOWN.out HB4.out.size, rfl⟩⟩
      · have HNOT : Hid (¬ IsBody b) := by
          show ¬ IsBody b
          rintro ⟨n, T, B, hn, hTT, hBB, e⟩
          obtain ⟨k0, ns', u', k1, k2, k3⟩ := body_read b n T B hn hTT hBB e
          have hny : n = y := k0.symm.trans HY.out
          subst hny
          rw [← HDD.out] at k1 k3
          have e1 := HRN.out.symm.trans k1
          injection e1 with _ e2
          injection e2 with e3 e4
          rw [← e4] at k3
          rcases hout4 with ⟨h5, _⟩ | ⟨h5, _⟩
          · have := congrArg Prod.fst (h5.symm.trans k3)
            cases this
          · have := congrArg Prod.fst (h5.symm.trans k3)
            cases this
        have HB4 := (show Hid _ from hB4)
        clear hk4 hB4 HMR
        rcases hout4 with ⟨_, rfl⟩ | ⟨_, rfl⟩
        · go_wp2
          go_ret2
          exact ⟨HB4.out, .inr ⟨HNOT.out, ea 4, rfl⟩⟩
        · go_wp2
          go_ret2
          exact ⟨HB4.out, .inr ⟨HNOT.out, ea 0, rfl⟩⟩
    · have HNOT : Hid (¬ IsBody b) := by
        show ¬ IsBody b
        rintro ⟨n, T, B, hn, hTT, hBB, e⟩
        obtain ⟨k0, ns', u', k1, k2, k3⟩ := body_read b n T B hn hTT hBB e
        have hny : n = y := k0.symm.trans HY.out
        subst hny
        rw [← HDD.out] at k1
        rcases hout3 with ⟨h5, _⟩ | ⟨h5, _⟩ | ⟨ns2, u2, h5, h6, _⟩
        · have := congrArg Prod.fst (h5.symm.trans k1)
          cases this
        · have := congrArg Prod.fst (h5.symm.trans k1)
          cases this
        · have e1 := h5.symm.trans k1
          injection e1 with _ e2
          injection e2 with e3 e4
          rw [e3, k2] at h6
          cases h6
      have HB3 := (show Hid _ from HB2.out.trans (hb3.mono hw2))
      clear hb3 HWR
      rcases hout3 with ⟨_, rfl⟩ | ⟨_, rfl⟩ | ⟨_, _, _, _, rfl⟩
      · go_wp2
        go_ret2
        exact ⟨HB3.out, .inr ⟨HNOT.out, ea 4, rfl⟩⟩
      · go_wp2
        go_ret2
        exact ⟨HB3.out, .inr ⟨HNOT.out, ea 0, rfl⟩⟩
      · go_wp2
        go_ret2
        exact ⟨HB3.out, .inr ⟨HNOT.out, ea 1, rfl⟩⟩
end Go.Proofs.YtgdflopgdlpimaaDoor
