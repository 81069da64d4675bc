/- Package mask's Read by its contract. -/
import Derived.Test.YtgdflopgdlpimaaDoorMaskRead
import Derived.Test.YtgdflopgdlpimaaDoorRefReadMask
import Derived.Test.YtgdflopgdlpimaaDoorMaskSizeGroup
namespace Go.Proofs.YtgdflopgdlpimaaDoor
open Go.RowKit

theorem mRead_bound (w : World) (p : Option Addr) (n : Int) (a : Addr) (hE : w.cell? ⟨1, 0, none⟩ = some (.iface 97 (.pointer (some a)))) (h : n < 0 ∨ 120 < n) :
    Calls Tryd.prog 40 #[.pointer p, .int .i64 n] w fun e w' => e = .returned (.tuple #[.slice none 0 0, .iface 97 (.pointer (some a))]) ∧ ∃ q, w' = w.drewN q := by
  rcases h with h | h
  · go_enter Tryd.func40, Tryd.ntmps40
    go_wp2_with fail
    go_quiet (fail)
    go_wp2
    go_ret2
    exact ⟨rfl, _, rfl⟩
  · have h' : ¬ n < 0 := by omega
    go_enter Tryd.func40, Tryd.ntmps40
    go_wp2_with fail
    go_quiet (fail)
    go_wp2
    go_ret2
    exact ⟨rfl, _, rfl⟩
theorem mRead_nil (w : World) (n : Int) (a : Addr) (hE : w.cell? ⟨2, 0, none⟩ = some (.iface 97 (.pointer (some a)))) (h0 : 0 ≤ n) (h1 : n ≤ 120) :
    Calls Tryd.prog 40 #[.pointer none, .int .i64 n] w fun e w' => e = .returned (.tuple #[.slice none 0 0, .iface 97 (.pointer (some a))]) ∧ ∃ q, w' = w.drewN q := by
  have hd0 : decide (n < 0) = false := by simp; omega
  have hd1 : decide (120 < n) = false := by simp; omega
  go_enter Tryd.func40, Tryd.ntmps40
  go_wp2_with fail
  go_quiet (fail)
  go_wp2
  go_ret2
  exact ⟨rfl, _, rfl⟩
theorem mRead_zero (w : World) (p : Addr) :
    Calls Tryd.prog 40 #[.pointer (some p), .int .i64 0] w fun e w' => e = .returned (.tuple #[.slice none 0 0, .nilIface]) ∧ w' = w := by
  go_enter Tryd.func40, Tryd.ntmps40
  go_wp2
  go_ret2
  exact ⟨rfl, rfl⟩

/-- Where Read stands: the values read, the slice that holds them, the window, the reader. -/
structure MRd (w wr : World) (x : Nat) (D : List Bool) (vs : List Nat) (u g cap : Nat) (eN eT : Value) : Prop where
  read : BitMath.maskRead D vs.length = (0, vs, u)
  own : wr.ownsRow w.heap.size 39 1 (.slice (some ⟨g, 0, none⟩) vs.length cap) vs.length (u64Cells vs)
  gq : g ≠ w.heap.size + 1
  vals : ∀ y, y ∈ vs → y < 18446744073709551616
  rd : RdAt wr x (D.drop u)
  win : wr.heap[w.heap.size + 1]? = some (.cells #[.int .i64 ((BitMath.winTo (BitMath.vf vs) vs.length).2.1 : Int), .int .i64 ((BitMath.wideW (BitMath.winTo (BitMath.vf vs) vs.length) : Nat) : Int)] 121 (0, 0))
  kept : Kept [x] w wr
  tab : Tab wr
  noE : wr.cell? ⟨4, 0, none⟩ = some eN
  txE : wr.cell? ⟨0, 0, none⟩ = some eT

/-- What Read answers. -/
def MOut (w w' : World) (x : Nat) (D : List Bool) (n : Nat) (aN aT : Addr) (e : Ending) : Prop :=
  Kept [x] w w' ∧ ((∃ (vs : List Nat) (u : Nat) (v : Value), BitMath.maskRead D n = (0, vs, u) ∧ e = .returned (.tuple #[v, .nilIface]) ∧ vs.length = n ∧ w'.ownsRow w.heap.size 39 1 v n (u64Cells vs) ∧ (∀ y, y ∈ vs → y < 18446744073709551616) ∧ RdAt w' x (D.drop u)) ∨
    (BitMath.maskRead D n = (5, [], 0) ∧ e = .returned (.tuple #[.slice none 0 0, .iface 97 (.pointer (some aN))])) ∨
    (BitMath.maskRead D n = (1, [], 0) ∧ e = .returned (.tuple #[.slice none 0 0, .iface 97 (.pointer (some aT))])))

theorem vf_lt (vs : List Nat) (h : ∀ y, y ∈ vs → y < 18446744073709551616) (i : Nat) (hi : i < vs.length) : BitMath.vf vs i < 18446744073709551616 := by
  have : BitMath.vf vs i = vs[i] := by simp [BitMath.vf, List.getElem?_eq_getElem hi]
  rw [this]
  exact h _ (List.getElem_mem _)

set_option maxRecDepth 1000000 in
set_option maxHeartbeats 4000000 in
theorem mRead_any (w : World) (x : Nat) (D : List Bool) (h : RdAt w x D) (hTab : Tab w) (n : Nat) (hn1 : 1 ≤ n) (hn : n ≤ 120) (aN aT : Addr) (hN : w.cell? ⟨4, 0, none⟩ = some (.iface 97 (.pointer (some aN)))) (hT : w.cell? ⟨0, 0, none⟩ = some (.iface 97 (.pointer (some aT)))) (hxN : 4 < x) (hxT : 0 < x) (hxB : 13 < x) :
    Calls Tryd.prog 40 #[.pointer (some ⟨x, 0, none⟩), .int .i64 (n : Int)] w fun e w' => MOut w w' x D n aN aT e := by
  have hxl := h.lt
  have hd0 : decide ((n : Int) < 0) = false := by simp
  have hd1 : decide (120 < (n : Int)) = false := by simp; omega
  have hd2 : ((n : Int) == 0) = false := by rw [beq_eq_false_iff_ne]; omega
  by_cases h64 : 64 ≤ D.length
  · have hg1 := rd_ok w x D h 64 (by omega) h64
    have hmr := BitMath.maskRead_first D h64
    have hv0 : BitMath.valB (D.take 64) < 18446744073709551616 := by
      have := BitMath.valB_lt (D.take 64)
      rwa [List.length_take, Nat.min_eq_left h64] at this
    generalize BitMath.valB (D.take 64) = v0 at *
    have HG1 := (show Hid _ from hg1)
    have HN := (show Hid _ from hN)
    have HT := (show Hid _ from hT)
    have HTB : Hid (Tab w) := hTab
    have HMR := (show Hid _ from hmr)
    clear hg1 hN hT hTab hmr h
    go_enter Tryd.func40, Tryd.ntmps40
    go_wp2_with fail
    refine Calls.mono HG1.out ?_
    rintro e w1 ⟨rfl, hr1, hk1, hs1⟩
    have HR1 := (show Hid _ from hr1)
    have HK1 := (show Hid _ from hk1)
    clear hr1 hk1 HG1
    go_wp2_with fail
    obtain ⟨wa, hwa⟩ : ∃ wa, wa = (w1.alloc (.cells #[.int .u64 (v0 : Int)] 39)).alloc (.cells #[.int .i64 0, .int .i64 0] 121) := ⟨_, rfl⟩
    have hka : Kept [] w1 wa := by rw [hwa]; exact ((Kept.refl _ _).alloc _).alloc _
    have hsa : wa.heap.size = w.heap.size + 2 := by rw [hwa]; simp; omega
    have hm0 : MRd w wa x D [v0] 64 w.heap.size 1 (.iface 97 (.pointer (some aN))) (.iface 97 (.pointer (some aT))) := by
      refine ⟨HMR.out, ⟨rfl, .inr ⟨w.heap.size, 1, #[.int .u64 (v0 : Int)], rfl, Nat.le_refl _, ?_, Nat.le_refl _, by unfold maxLen; omega, rfl, rfl⟩⟩, by omega, ?_, HR1.out.keptBy hka (fun b hb => by cases hb), ?_, HK1.out.trans hka (fun z hz => by cases hz), fun j hj => hka.cell (HK1.out.cell (HTB.out j hj) (by simp; omega)) (by simp), hka.cell (HK1.out.cell HN.out (by simp; omega)) (by simp), hka.cell (HK1.out.cell HT.out (by simp; omega)) (by simp)⟩
      · rw [hwa, Below.heap_alloc _ _ _ (by simp; omega), ← hs1]
        exact heap_alloc_new _ _
      · intro y hy
        simp at hy
        rw [hy]
        exact hv0
      · rw [hwa]
        have := heap_alloc_new (w1.alloc (.cells #[.int .u64 (v0 : Int)] 39)) (.cells #[.int .i64 0, .int .i64 0] 121)
        rw [World.size_alloc, hs1] at this
        rw [this]
        show some _ = some (Obj.cells #[.int .i64 ((BitMath.winTo (BitMath.vf [v0]) 1).2.1 : Int), .int .i64 ((BitMath.wideW (BitMath.winTo (BitMath.vf [v0]) 1) : Nat) : Int)] 121 (0, 0))
        rw [BitMath.winTo_first]
        rfl
    rw [← hwa]
    have HM0 := (show Hid _ from hm0)
    clear hwa hka hm0 HN HT HTB HMR HR1 HK1
    go_loopw [6, 8, 10, 11, 12] (fun val sl _ _ _ wr => ∃ (vs : List Nat) (u g cap : Nat), 1 ≤ vs.length ∧ vs.length ≤ n ∧ val = .int .u64 ((BitMath.vf vs (vs.length - 1) : Nat) : Int) ∧ sl = .slice (some ⟨g, 0, none⟩) vs.length cap ∧ MRd w wr x D vs u g cap (.iface 97 (.pointer (some aN))) (.iface 97 (.pointer (some aT)))) (fun _ sl _ _ _ _ => n - (match sl with | .slice _ k _ => k | _ => 0))
    case atStart => exact ⟨[v0], 64, w.heap.size, 1, Nat.le_refl _, hn1, rfl, rfl, HM0.out⟩
    case round =>
      obtain ⟨vs, u, g, cap, hl1, hln, rfl, rfl, hm⟩ := hrel
      clear HM0
      by_cases hlt : vs.length < n
      · have hvf := vf_lt vs hm.vals
        have hwo := winTo_OK (BitMath.vf vs) vs.length hvf vs.length (Nat.le_refl _)
        have hgc := getChange_any (BitMath.winTo (BitMath.vf vs) vs.length) hwo wr x (D.drop u) hm.rd hm.tab aN aT hm.noE hm.txE hxN hxT hxB
        have hwin := hm.win
        have hbad : ∀ c, c ≠ 0 → (∀ p, BitMath.readStep (BitMath.winTo (BitMath.vf vs) vs.length) p (D.drop u) = (c, 0, 0)) → BitMath.maskRead D n = (c, [], 0) := fun c hc hs =>
          BitMath.maskRead_err D (vs.length + 1) c hc (BitMath.maskRead_bad D vs.length u vs _ _ c (by omega) hm.read rfl rfl (hs _) hc) n (by omega)
        have hgood : ∀ X b, (∀ p, BitMath.readStep (BitMath.winTo (BitMath.vf vs) vs.length) p (D.drop u) = (0, p ^^^ X, b)) → BitMath.maskRead D (vs.length + 1) = (0, vs ++ [BitMath.vf vs (vs.length - 1) ^^^ X], u + b) := fun X b hs =>
          BitMath.maskRead_good D vs.length u vs _ _ _ b (by omega) hm.read rfl rfl (hs _)
        have hnext : ∀ X, BitMath.winTo (BitMath.vf (vs ++ [BitMath.vf vs (vs.length - 1) ^^^ X])) (vs.length + 1) = BitMath.mNext (BitMath.winTo (BitMath.vf vs) vs.length) X := fun X => (BitMath.maskTo_next vs X (by omega)).2
        have HBAD := (show Hid _ from hbad)
        have HGOOD := (show Hid _ from hgood)
        have HNEXT := (show Hid _ from hnext)
        clear hbad hgood hnext
        obtain ⟨k, hk⟩ : ∃ k, vs.length = k := ⟨_, rfl⟩
        obtain ⟨p, hp⟩ : ∃ p, BitMath.vf vs (vs.length - 1) = p := ⟨_, rfl⟩
        have hpl : p < 18446744073709551616 := by rw [← hp]; exact hvf _ (by omega)
        obtain ⟨L, hL⟩ : ∃ L, (BitMath.winTo (BitMath.vf vs) vs.length).2.1 = L := ⟨_, rfl⟩
        obtain ⟨Wd, hWd⟩ : ∃ Wd, BitMath.wideW (BitMath.winTo (BitMath.vf vs) vs.length) = Wd := ⟨_, rfl⟩
        rw [hL, hWd] at hgc hwin
        rw [hp]
        have q0 : wr.cell? ⟨w.heap.size + 1, 0, none⟩ = some (.int .i64 (L : Int)) := cells_of hwin 0
        have q1 : wr.cell? ⟨w.heap.size + 1, 1, none⟩ = some (.int .i64 (Wd : Int)) := cells_of hwin 1
        unfold winV at hgc
        have HGC := (show Hid _ from hgc)
        have HM := (show Hid _ from hm)
        have HWIN := (show Hid _ from hwin)
        have HP := (show Hid _ from hp)
        have hkI : (k : Int) < (n : Int) := by omega
        rw [hk]
        have HK := (show Hid _ from hk)
        clear hgc hm hwin hL hWd hp hwo hvf hk
        go_wp2_with fail
        refine Calls.mono HGC.out ?_
        rintro e w1 ⟨hk1, hout⟩
        have hblk := (hk1.block _ (lt_of_block HWIN.out) (by simp; omega)).trans HWIN.out
        have hw1l : w.heap.size + 1 < w1.heap.size := lt_of_block hblk
        clear q0 q1 HGC
        rcases hout with ⟨X, b, hXl, hst, rfl, hr1⟩ | ⟨hst, rfl⟩ | ⟨hst, rfl⟩
        · have hrd := HGOOD.out X b hst
          have hnx := HNEXT.out X
          rw [HP.out] at hrd hnx
          have hxor := u64_xor_nat p X hpl hXl
          have hzl := BitMath.xor_lt p X hpl hXl
          obtain ⟨z, hz⟩ : ∃ z, p ^^^ X = z := ⟨_, rfl⟩
          rw [hz] at hrd hnx hxor hzl
          rw [← hnx]
          obtain ⟨U2, hU2⟩ : ∃ U2, BitMath.winTo (BitMath.vf (vs ++ [z])) (vs.length + 1) = U2 := ⟨_, rfl⟩
          rw [hU2]
          obtain ⟨y, hy⟩ : ∃ y, BitMath.wayOf (BitMath.winTo (BitMath.vf vs) vs.length) X = y := ⟨_, rfl⟩
          obtain ⟨L2, hL2⟩ : ∃ L2, U2.2.1 = L2 := ⟨_, rfl⟩
          obtain ⟨W2, hW2⟩ : ∃ W2, BitMath.wideW U2 = W2 := ⟨_, rfl⟩
          rw [hy, hL2, hW2]
          unfold formV
          have z0 : w1.cell? ⟨w.heap.size + 1, 0, none⟩ = some (.int .i64 (L : Int)) := cells_of hblk 0
          have z1 : w1.cell? ⟨w.heap.size + 1, 1, none⟩ = some (.int .i64 (Wd : Int)) := cells_of hblk 1
          have y0 : w1.frozen? ⟨w.heap.size + 1, 0, none⟩ = false := frozen_of hblk 0
          have y1 : w1.frozen? ⟨w.heap.size + 1, 1, none⟩ = false := frozen_of hblk 1
          have hne3 : w.heap.size + 1 ≠ w1.heap.size := by omega
          have hne4 : w1.heap.size ≠ w.heap.size + 1 := by omega
          have HST := (show Hid _ from hst)
          have HRD := (show Hid _ from hrd)
          have HR1 := (show Hid _ from hr1)
          have HK1 := (show Hid _ from hk1)
          have HBLK := (show Hid _ from hblk)
          have HU2 := (show Hid _ from hU2)
          have HL2 := (show Hid _ from hL2)
          have HW2 := (show Hid _ from hW2)
          clear hst hrd hr1 hk1 hblk hU2 hL2 hW2 hnx hz hy HBAD HGOOD HNEXT HWIN
          obtain ⟨w2, hw2⟩ : ∃ w2, w2 = (w1.setCell ⟨w.heap.size + 1, 0, none⟩ (.int .i64 (L2 : Int))).setCell ⟨w.heap.size + 1, 1, none⟩ (.int .i64 (W2 : Int)) := ⟨_, rfl⟩
          have hk2 : Kept [w.heap.size + 1] w1 w2 := by rw [hw2]; exact ((Kept.refl _ _).setCell (.inl (by simp)) _).setCell (.inl (by simp)) _
          have hs2 : w2.heap.size = w1.heap.size := by rw [hw2]; simp
          have hgw : g ≠ x := by
            have := HM.out.own.2
            rcases this with ⟨h, _⟩ | ⟨g', cap', cur, h, hg', _⟩
            · cases h
            · cases h; omega
          have hown2 : w2.ownsRow w.heap.size 39 1 (.slice (some ⟨g, 0, none⟩) vs.length cap) vs.length (u64Cells vs) :=
            own_keptBy (own_keptBy HM.out.own HK1.out (fun b hb => by simp [Value.ownBlock] at hb; subst hb; simpa using hgw)) hk2 (fun b hb => by simp [Value.ownBlock] at hb; subst hb; simpa using HM.out.gq)
          have hwin2 : w2.heap[w.heap.size + 1]? = some (.cells #[.int .i64 (L2 : Int), .int .i64 (W2 : Int)] 121 (0, 0)) := by
            rw [hw2, heap_set (heap_set HBLK.out 0 _) 1 _]
            rfl
          obtain ⟨w3, hw3⟩ : ∃ w3, w3 = (w2.alloc (.cells #[.int .i64 (y : Int), .int .i64 (L2 : Int), .int .i64 (W2 : Int)] 123)).alloc (.cells #[.int .u64 (z : Int)] 39) := ⟨_, rfl⟩
          have hk3 : Kept [] w2 w3 := by rw [hw3]; exact ((Kept.refl _ _).alloc _).alloc _
          have hs3 : w3.heap.size = w1.heap.size + 2 := by rw [hw3]; simp; omega
          have hown3 := own_keptBy hown2 hk3 (fun b hb => by simp)
          have hm3 : ∀ w4 : World, Kept [] w3 w4 ∨ Kept [g] w3 w4 → Kept [x] w w4 ∧ RdAt w4 x ((D.drop u).drop b) ∧ w4.heap[w.heap.size + 1]? = some (.cells #[.int .i64 (L2 : Int), .int .i64 (W2 : Int)] 121 (0, 0)) ∧ Tab w4 ∧ w4.cell? ⟨4, 0, none⟩ = some (.iface 97 (.pointer (some aN))) ∧ w4.cell? ⟨0, 0, none⟩ = some (.iface 97 (.pointer (some aT))) := by
            intro w4 h4
            have hgl : w.heap.size ≤ g := by
              have := HM.out.own.2
              rcases this with ⟨h, _⟩ | ⟨g', cap', cur, h, hg', _⟩
              · cases h
              · cases h; exact hg'
            have h4' : Kept [g] w3 w4 := by
              rcases h4 with h4 | h4
              · exact h4.none
              · exact h4
            have h23 : Kept [w.heap.size + 1, g] w1 w4 := by
              have a1 : Kept [w.heap.size + 1, g] w1 w2 := hk2.trans (T := []) (Kept.refl _ _) (fun z hz => by cases hz) |> fun h => ⟨h.os, h.tape, h.output, h.size, fun b hb hm => h.block b hb (fun hh => hm (by simp at hh; subst hh; simp))⟩
              exact (a1.trans hk3 (fun z hz => by cases hz)).trans h4' (fun z hz => .inl (by simp at hz; subst hz; simp))
            have hrd1 := HR1.out.keptBy h23 (fun b hb => by simp at hb; omega)
            refine ⟨(HM.out.kept.trans HK1.out (fun z hz => .inl hz)).trans h23 (fun z hz => .inr (by simp at hz; omega)), hrd1, ?_, fun j hj => h23.cell (HK1.out.cell (HM.out.tab j hj) (by simp; omega)) (by simp; omega), h23.cell (HK1.out.cell HM.out.noE (by simp; omega)) (by simp; omega), h23.cell (HK1.out.cell HM.out.txE (by simp; omega)) (by simp; omega)⟩
            rw [h4'.block _ (by omega) (by simpa using fun h => HM.out.gq h.symm), hk3.block _ (by omega) (by simp)]
            exact hwin2
          obtain ⟨i0, hi, hz0, hz1, hz2⟩ := info_parts Tryd.infoU64
          rw [hw3, hw2, HK.out] at hown3
          have HM3 := (show Hid _ from hm3)
          have HW3 : Hid (w3 = ((((w1.setCell ⟨w.heap.size + 1, 0, none⟩ (.int .i64 (L2 : Int))).setCell ⟨w.heap.size + 1, 1, none⟩ (.int .i64 (W2 : Int))).alloc (.cells #[.int .i64 (y : Int), .int .i64 (L2 : Int), .int .i64 (W2 : Int)] 123)).alloc (.cells #[.int .u64 (z : Int)] 39))) := by rw [← hw2]; exact hw3
          have hw1l' : w.heap.size ≤ w1.heap.size := by omega
          have hnew : w3.cell? ⟨w1.heap.size + 1, 0, none⟩ = some (.int .u64 (z : Int)) := by
            have h5 := heap_alloc_new (w2.alloc (.cells #[.int .i64 (y : Int), .int .i64 (L2 : Int), .int .i64 (W2 : Int)] 123)) (.cells #[.int .u64 (z : Int)] 39)
            rw [World.size_alloc, hs2, ← hw3] at h5
            exact cells_of h5 0
          rw [hw3, hw2] at hnew
          have HNW := (show Hid _ from hnew)
          clear hnew
          have hk120 : k ≤ 120 := by have := HK.out; omega
          clear hm3 hk3 hown2 hwin2 hk2 hw2 hw3 hs2 hs3
          go_wp2_with (at_builtin; refine wpList_append_lies _ rfl _ _ 66 rfl w.heap.size 39 i0 (.int .u64 0) 1 8 Tryd.underlying66 hi hz0 hz1 hz2 rfl (by decide) _ _ _ rfl hown3 ⟨w1.heap.size + 1, 0, none⟩ 1 1 [.int .u64 (z : Int)] rfl rfl ?c1 ?c2 (by omega) ?c3 ?c4 ?c5 (w1.heap.size + 2) (by simp) ?_)
          case c1 =>
            intro j u hj
            match j, hj with
            | 0, hj =>
              simp at hj
              subst hj
              rw [addr_add]
              exact HNW.out
          try (case c2 => first | rfl | (intro u hu; simp at hu; subst hu; rfl))
          case c3 => unfold maxLen; omega
          case c4 => omega
          case c5 => first | omega | (simp; omega)
          intro g1 cap1 w4 hown4 hgrow hat hlt4
          have hk4 : Kept [g] w3 w4 := by rw [HW3.out]; exact Kept.grown hgrow (fun j hj => by simp [Value.ownBlock] at hj; subst hj; simp)
          obtain ⟨f1, f2, f3, f4, f5, f6⟩ := HM3.out w4 (.inr hk4)
          have hlen : (vs ++ [z]).length = k + 1 := by rw [List.length_append, HK.out]; rfl
          rw [u64Cells_snoc] at hown4
          have hm4 : MRd w w4 x D (vs ++ [z]) (u + b) g1 cap1 (.iface 97 (.pointer (some aN))) (.iface 97 (.pointer (some aT))) := by
            refine ⟨?_, ?_, ?_, ?_, ?_, ?_, f1, f4, f5, f6⟩
            · rw [hlen, ← HK.out]; exact HRD.out
            · rw [hlen]; exact hown4
            · rcases hat with h | h
              · simp [Value.ownBlock] at h
                subst h
                exact HM.out.gq
              · omega
            · intro y hy
              rcases List.mem_append.1 hy with hy | hy
              · exact HM.out.vals y hy
              · simp at hy
                rw [hy]
                exact hzl
            · rw [List.drop_drop] at f2; exact f2
            · rw [hlen, ← HK.out, HU2.out, HL2.out, HW2.out]; exact f3
          have hvz : BitMath.vf (vs ++ [z]) (k + 1 - 1) = z := by
            rw [show k + 1 - 1 = vs.length by rw [HK.out]; omega]
            exact BitMath.vf_last vs z
          have HM4 := (show Hid _ from hm4)
          have HLN := (show Hid _ from hlen)
          have HVZ := (show Hid _ from hvz)
          clear hk4 f1 f2 f3 f4 f5 f6 hlen hown4 hm4 hvz hgrow hat HM3 HW3 HNW hown3 z0 z1 y0 y1
          go_wp2_with fail
          go_roundw
          case rel => exact ⟨vs ++ [z], u + b, g1, cap1, by rw [HLN.out]; omega, by rw [HLN.out]; omega, by rw [HLN.out, HVZ.out], by rw [HLN.out], HM4.out⟩
          case measure => simp; omega
        · have HST := (show Hid _ from HBAD.out 5 (by decide) hst)
          have HKW := (show Hid _ from HM.out.kept.trans hk1 (fun z hz => .inl hz))
          unfold formV
          clear hst hk1 hblk HBAD HGOOD HNEXT
          go_wp2
          go_ret2
          exact ⟨HKW.out.alloc _, .inr (.inl ⟨HST.out, rfl⟩)⟩
        · have HST := (show Hid _ from HBAD.out 1 (by decide) hst)
          have HKW := (show Hid _ from HM.out.kept.trans hk1 (fun z hz => .inl hz))
          unfold formV
          clear hst hk1 hblk HBAD HGOOD HNEXT
          go_wp2
          go_ret2
          exact ⟨HKW.out.alloc _, .inr (.inr ⟨HST.out, rfl⟩)⟩
      · have hk : vs.length = n := by omega
        have HM := (show Hid _ from hm)
        rw [hk]
        have HK := (show Hid _ from hk)
        clear hm hk hlt
        go_wp2
        go_ret2
        refine ⟨HM.out.kept, .inl ⟨vs, u, _, by rw [← HK.out]; exact HM.out.read, rfl, HK.out, by have := HM.out.own; rw [HK.out] at this; exact this, HM.out.vals, HM.out.rd⟩⟩
  · have hg1 := rd_none w x D h 64 aN hN (by omega) (by omega)
    have hmr : BitMath.maskRead D n = (5, [], 0) := BitMath.maskRead_err D 1 5 (by decide) (BitMath.maskRead_first_bad D (by omega)) n hn1
    have HG1 := (show Hid _ from hg1)
    have HMR := (show Hid _ from hmr)
    clear hg1 hN hT hTab hmr h
    go_enter Tryd.func40, Tryd.ntmps40
    go_wp2_with fail
    refine Calls.mono HG1.out ?_
    rintro e w1 ⟨rfl, q, hw1⟩
    have HK1 : Hid (Kept [x] w w1) := by rw [hw1]; exact (Kept.refl _ _).draws q
    clear hw1 HG1
    go_wp2
    go_ret2
    exact ⟨HK1.out, .inr (.inl ⟨HMR.out, rfl⟩)⟩
end Go.Proofs.YtgdflopgdlpimaaDoor
