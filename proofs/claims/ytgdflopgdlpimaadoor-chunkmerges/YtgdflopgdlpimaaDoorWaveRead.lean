/- Package wave's Read by its contract. -/
import Derived.Test.YtgdflopgdlpimaaDoorTicksOf
import Derived.Test.YtgdflopgdlpimaaDoorWaveGet3
import Derived.Test.YtgdflopgdlpimaaDoorMaskGet
namespace Go.Proofs.YtgdflopgdlpimaaDoor
open Go.RowKit

theorem readNums_err (D : List Bool) (k u c : Nat) (ns : List Int) (h : readNums D k = (0, ns, u)) (hs : (BitMath.unwave (D.drop u)).1 = c) (hc : c ≠ 0) : ∀ n, k < n → readNums D n = (c, [], 0)
  | 0, hn => absurd hn (by omega)
  | n + 1, hn => by
    rcases Nat.lt_or_ge k n with h1 | h1
    · have ih := readNums_err D k u c ns h hs hc n h1
      rw [readNums, ih, if_pos hc]
    · have : k = n := by omega
      subst this
      rw [readNums, h, if_neg (by simp), if_pos (by simp only; rw [hs]; exact hc)]
      simp only
      rw [hs]

theorem own_keptIn {w w' : World} {T : List Nat} {base : Nat} {e : TypeId} {s : Nat} {v : Value} {n : Nat} {xs : List Value} (h : w.ownsRow base e s v n xs) (hk : Kept T w w') (hT : ∀ b, b ∈ v.ownBlock.toList → b ∉ T) : w'.ownsRow base e s v n xs := by
  obtain ⟨hl, h2⟩ := h
  refine ⟨hl, ?_⟩
  rcases h2 with h2 | ⟨g, cap, cur, hv, hg, hh, rest⟩
  · exact .inl h2
  · exact .inr ⟨g, cap, cur, hv, hg, (hk.block g (lt_of_block hh) (hT g (by rw [hv]; simp [Value.ownBlock]))).trans hh, rest⟩
theorem wRead_bound (w : World) (p : Option Addr) (n : Int) (a : Addr) (hE : w.cell? ⟨1, 0, none⟩ = some (.iface 97 (.pointer (some a)))) (h : n < 0 ∨ 120 < n) :
    Calls Tryd.prog 97 #[.pointer p, .int .i64 n] w fun e w' => e = .returned (.tuple #[.slice none 0 0, .iface 97 (.pointer (some a))]) ∧ ∃ q, w' = w.drewN q := by
  rcases h with h | h
  · go_enter Tryd.func97, Tryd.ntmps97
    go_wp2_with fail
    go_quiet (fail)
    go_wp2
    go_ret2
    exact ⟨rfl, _, rfl⟩
  · have h' : ¬ n < 0 := by omega
    go_enter Tryd.func97, Tryd.ntmps97
    go_wp2_with fail
    go_quiet (fail)
    go_wp2
    go_ret2
    exact ⟨rfl, _, rfl⟩
theorem wRead_nil (w : World) (n : Int) (a : Addr) (hE : w.cell? ⟨2, 0, none⟩ = some (.iface 97 (.pointer (some a)))) (h0 : 0 ≤ n) (h1 : n ≤ 120) :
    Calls Tryd.prog 97 #[.pointer none, .int .i64 n] w fun e w' => e = .returned (.tuple #[.slice none 0 0, .iface 97 (.pointer (some a))]) ∧ ∃ q, w' = w.drewN q := by
  have hd0 : decide (n < 0) = false := by simp; omega
  have hd1 : decide (120 < n) = false := by simp; omega
  go_enter Tryd.func97, Tryd.ntmps97
  go_wp2_with fail
  go_quiet (fail)
  go_wp2
  go_ret2
  exact ⟨rfl, _, rfl⟩

/-- Where Read stands: the numbers read, the slice that holds them, the reader of its own. -/
structure WRd (w wr : World) (g cap : Nat) (l : List UInt8) (i N n : Nat) (ns : List Int) (k u : Nat) : Prop where
  len : ns.length = k
  read : readNums (BitMath.restB l i N) k = (0, ns, u)
  rng : ∀ j, j < k → -9223372036854775808 ≤ ns.getD j 0 ∧ ns.getD j 0 ≤ 9223372036854775807
  rd : IsReader wr w.heap.size g cap l (i + u) N
  arr : ∃ cur : Array Value, wr.heap[w.heap.size + 1]? = some (.cells cur 3 (0, 0)) ∧ cur.size = n ∧ ∀ j, j < k → cur[j]? = some (.int .i64 (ns.getD j 0))
  bel : Below w.heap.size w wr

/-- What Read answers. -/
def WOut (w w' : World) (x : Nat) (D : List Bool) (n : Nat) (aN aT aB : Addr) (e : Ending) : Prop :=
  (Kept [x] w w' ∧ ∃ (ns : List Int) (u : Nat) (ts : List Int) (v : Value), readNums D n = (0, ns, u) ∧ ticksBy [] ns = some ts ∧ ts.length = n ∧ AllTicks ts ∧ e = .returned (.tuple #[v, .nilIface]) ∧ w'.ownsRow w.heap.size 3 1 v n (intList ts) ∧ RdAt w' x (D.drop u)) ∨
    (Below w.heap.size w w' ∧ ((readNums D n = (5, [], 0) ∧ e = .returned (.tuple #[.slice none 0 0, .iface 97 (.pointer (some aN))])) ∨
      (readNums D n = (1, [], 0) ∧ e = .returned (.tuple #[.slice none 0 0, .iface 97 (.pointer (some aT))])) ∨
      (∃ ns u, readNums D n = (0, ns, u) ∧ ticksBy [] ns = none ∧ e = .returned (.tuple #[.slice none 0 0, .iface 97 (.pointer (some aB))]))))

set_option maxRecDepth 1000000 in
set_option maxHeartbeats 4000000 in
theorem wRead_any (w : World) (x : Nat) (D : List Bool) (h : RdAt w x D) (hF : Forms w) (n : Nat) (hn : n ≤ 120) (aN aT aB : Addr) (hN : w.cell? ⟨4, 0, none⟩ = some (.iface 97 (.pointer (some aN)))) (hT : w.cell? ⟨0, 0, none⟩ = some (.iface 97 (.pointer (some aT)))) (hB : w.cell? ⟨1, 0, none⟩ = some (.iface 97 (.pointer (some aB)))) :
    Calls Tryd.prog 97 #[.pointer (some ⟨x, 0, none⟩), .int .i64 (n : Int)] w fun e w' => WOut w w' x D n aN aT aB e := by
  obtain ⟨⟨g, cap, l, i, N, hrd, rfl⟩⟩ := h
  have hxl := hrd.lt
  have hFl := hF.lt
  have hNl : (4 : Nat) < w.heap.size := lt_of_cell hN
  have hTl : (0 : Nat) < w.heap.size := lt_of_cell hT
  have hBl : (1 : Nat) < w.heap.size := lt_of_cell hB
  have hd0 : decide ((n : Int) < 0) = false := by simp
  have hd1 : decide (120 < (n : Int)) = false := by simp; omega
  have z0 : w.cell? ⟨x, 0, none⟩ = some (.slice (some ⟨g, 0, none⟩) l.length cap) := cells_of hrd.hb 0
  have z1 : w.cell? ⟨x, 1, none⟩ = some (.int .i64 (i : Int)) := cells_of hrd.hb 1
  have z2 : w.cell? ⟨x, 2, none⟩ = some (.int .i64 (N : Int)) := cells_of hrd.hb 2
  have HRD := (show Hid _ from hrd)
  have HF : Hid (Forms w) := hF
  have HN := (show Hid _ from hN)
  have HT := (show Hid _ from hT)
  have HB := (show Hid _ from hB)
  clear hrd hF hN hT hB
  obtain ⟨i0, hi, hz0, hz1, hz2⟩ := info_parts Tryd.infoIntR
  go_enter Tryd.func97, Tryd.ntmps97
  go_upto_region 6 with fail
  obtain ⟨wy, hwy⟩ : ∃ wy, wy = w.alloc (.cells #[.slice (some ⟨g, 0, none⟩) l.length cap, .int .i64 (i : Int), .int .i64 (N : Int)] 104) := ⟨_, rfl⟩
  have hby : Below w.heap.size w wy := by rw [hwy]; exact (Below.refl _ _).alloc (Nat.le_refl _) _
  have hblky : wy.heap[w.heap.size]? = some (.cells #[.slice (some ⟨g, 0, none⟩) l.length cap, .int .i64 (i : Int), .int .i64 (N : Int)] 104 (0, 0)) := by rw [hwy]; exact heap_alloc_new _ _
  have hsy : wy.heap.size = w.heap.size + 1 := by rw [hwy]; simp
  have hry : IsReader wy w.heap.size g cap l i N := ⟨hblky, fun j hj => (hby.cell (p := ⟨g, j, none⟩) (show g < w.heap.size by have := HRD.out.hg; omega)).trans (HRD.out.hc j hj), HRD.out.hcap, by have := HRD.out.hg; omega, HRD.out.hi, HRD.out.hn, HRD.out.hl⟩
  rw [← hwy]
  have HBY := (show Hid _ from hby)
  have HRY := (show Hid _ from hry)
  have HSY := (show Hid _ from hsy)
  clear hwy hby hblky hry z0 z1 z2
  go_wp2_with (at_make; refine wpList_make_full _ rfl _ _ 22 rfl (w.heap.size + 1) 3 i0 (.int .i64 0) 1 Tryd.underlying22 hi hz0 hz1 _ _ _ _ n rfl rfl (by omega) (by omega) ?b2 ?b3 (by omega) ?_)
  case b2 => rw [hz2]; omega
  case b3 => unfold maxLen; omega
  intro w0 hown0 hgrow0
  try rw [hsy] at hown0
  have h00 : WRd w w0 g cap l i N n [] 0 0 := by
    refine ⟨rfl, rfl, fun j hj => absurd hj (by omega), HRY.out.below ⟨hgrow0.os, hgrow0.tape, hgrow0.output, hgrow0.size, fun j hj => hgrow0.block j hj (by simp)⟩, ?_, HBY.out.trans ⟨hgrow0.os, hgrow0.tape, hgrow0.output, hgrow0.size, fun j hj => hgrow0.block j (by omega) (by simp)⟩⟩
    rcases hown0.2 with ⟨h, _⟩ | ⟨g', cap', cur, hv, hg', hh, h1, h2, h3, h4⟩
    · cases h
    · cases hv
      exact ⟨cur, hh, by omega, fun j hj => absurd hj (by omega)⟩
  have H00 := (show Hid _ from h00)
  clear hown0 hgrow0 h00 HBY HRY HSY hsy
  go_wp2_with fail
  go_loopw [4, 5, 8, 9, 10, 30] (fun r4 r5 _ _ _ ii wr => r4 = .slice none 0 0 ∧ r5 = .nilIface ∧ ∃ (k u : Nat) (ns : List Int), k ≤ n ∧ ii = .int .i64 k ∧ WRd w wr g cap l i N n ns k u) (fun _ _ _ _ _ ii _ => n - (intOf ii).toNat)
  case atStart => exact ⟨rfl, rfl, 0, 0, [], Nat.zero_le _, rfl, H00.out⟩
  case round =>
    obtain ⟨rfl, rfl, k, u, ns, hk, rfl, hm⟩ := hrel
    clear H00
    have hNr : wr.cell? ⟨4, 0, none⟩ = some (.iface 97 (.pointer (some aN))) := (hm.bel.cell (p := ⟨4, 0, none⟩) hNl).trans HN.out
    have hTr : wr.cell? ⟨0, 0, none⟩ = some (.iface 97 (.pointer (some aT))) := (hm.bel.cell (p := ⟨0, 0, none⟩) hTl).trans HT.out
    have hBr : wr.cell? ⟨1, 0, none⟩ = some (.iface 97 (.pointer (some aB))) := (hm.bel.cell (p := ⟨1, 0, none⟩) hBl).trans HB.out
    by_cases hlt : k < n
    · have hget := wget_any wr w.heap.size g cap l (i + u) N hm.rd (HF.out.below hm.bel hFl) aN aT hNr hTr (by omega) (by omega) (by omega)
      have hdrop : (BitMath.restB l i N).drop u = BitMath.restB l (i + u) N := by unfold BitMath.restB; rw [List.drop_drop]
      have hbad : ∀ c, c ≠ 0 → BitMath.unwave (BitMath.restB l (i + u) N) = (c, 0, 0) → readNums (BitMath.restB l i N) n = (c, [], 0) := fun c hc hs =>
        readNums_err _ k u c ns hm.read (by rw [hdrop, hs]) hc n hlt
      have hgood : ∀ z b, BitMath.unwave (BitMath.restB l (i + u) N) = (0, z, b) → readNums (BitMath.restB l i N) (k + 1) = (0, ns ++ [z], u + b) := fun z b hs =>
        readNums_good _ k u b ns z hm.read (by rw [hdrop, hs])
      have hrg := unwave_bits (BitMath.restB l (i + u) N)
      obtain ⟨cur, hcur, hcs, hcv⟩ := hm.arr
      have HCUR := (show Hid _ from hcur)
      have HCV := (show Hid _ from hcv)
      generalize BitMath.unwave (BitMath.restB l (i + u) N) = U at *
      obtain ⟨c, z, b⟩ := U
      have HGET := (show Hid _ from hget)
      have HBAD := (show Hid _ from hbad)
      have HGOOD := (show Hid _ from hgood)
      have HM := (show Hid _ from hm)
      have hk0 : (0 : Int) ≤ (k : Int) := by omega
      have hk1 : (k : Int) < (n : Int) := by omega
      have hz0 := hrg.2.2.2.1
      have hz1 := hrg.2.2.2.2
      simp only at hz0 hz1
      clear hget hbad hgood hm hdrop hrg hcur hcv hNr hTr hBr
      go_wp2_with fail
      refine Calls.mono HGET.out ?_
      rintro e w1 ⟨hk1', hout⟩
      have hb1 : Below w.heap.size w w1 := HM.out.bel.trans (hk1'.below HM.out.bel.size (by simp))
      have hcur1 := (hk1'.block _ (lt_of_block HCUR.out) (by simp)).trans HCUR.out
      have HB1 := (show Hid _ from hb1)
      have HCUR1 := (show Hid _ from hcur1)
      clear hk1' hb1 HGET HCUR
      rcases hout with ⟨hc0, rfl, hr1⟩ | ⟨hp, rfl, _⟩ | ⟨hp, rfl, _⟩
      · simp only at hc0 hr1
        subst hc0
        have hrd := HGOOD.out z b rfl
        have HRN := (show Hid _ from hrd)
        have HR1 := (show Hid _ from hr1)
        obtain ⟨old, hold⟩ : ∃ old, cur[k]? = some old := ⟨_, Array.getElem?_eq_getElem (by omega)⟩
        have v0 : w1.cell? ⟨w.heap.size + 1, k, none⟩ = some old := (cells_of hcur1 k).trans hold
        have x0 : w1.frozen? ⟨w.heap.size + 1, k, none⟩ = false := frozen_of hcur1 k
        obtain ⟨w2, hw2⟩ : ∃ w2, w2 = w1.setCell ⟨w.heap.size + 1, k, none⟩ (.int .i64 z) := ⟨_, rfl⟩
        have hof2 : WRd w w2 g cap l i N n (ns ++ [z]) (k + 1) (u + b) := by
          refine ⟨by rw [List.length_append, HM.out.len]; rfl, HRN.out, ?_, ?_, ?_, ?_⟩
          · intro j hj
            rw [List.getD_eq_getElem?_getD]
            rcases Nat.lt_or_ge j k with h1 | h1
            · rw [List.getElem?_append_left (by have := HM.out.len; omega), ← List.getD_eq_getElem?_getD]
              exact HM.out.rng j h1
            · obtain rfl : j = ns.length := by have := HM.out.len; omega
              rw [List.getElem?_append_right (Nat.le_refl _), Nat.sub_self]
              exact ⟨hz0, hz1⟩
          · rw [← Nat.add_assoc]
            have hgl := HR1.out.hg
            refine ⟨?_, fun j hj => ?_, HR1.out.hcap, HR1.out.hg, HR1.out.hi, HR1.out.hn, HR1.out.hl⟩
            · rw [hw2, Below.heap_setCell _ _ _ _ (by simp)]
              exact HR1.out.hb
            · have h1 := HR1.out.hc j hj
              have hbk : w2.heap[g]? = w1.heap[g]? := by rw [hw2]; exact Below.heap_setCell _ _ _ _ (by simp; omega)
              simp only [World.cell?, hbk] at h1 ⊢
              exact h1
          · refine ⟨cur.setIfInBounds k (.int .i64 z), by rw [hw2]; exact heap_set hcur1 k _, by simpa using hcs, fun j hj => ?_⟩
            rw [Array.getElem?_setIfInBounds, List.getD_eq_getElem?_getD]
            rcases Nat.lt_or_ge j k with h1 | h1
            · rw [if_neg (by omega), List.getElem?_append_left (by have := HM.out.len; omega), ← List.getD_eq_getElem?_getD]
              exact HCV.out j h1
            · obtain rfl : k = j := by omega
              rw [if_pos rfl, if_pos (by omega), List.getElem?_append_right (by have := HM.out.len; omega), HM.out.len, Nat.sub_self]
              rfl
          · rw [hw2]
            exact HB1.out.setCell (p := ⟨w.heap.size + 1, k, none⟩) (by simp) _
        have HOF2 := (show Hid _ from hof2)
        have H2 : Hid (∀ w', w' = w1.setCell ⟨w.heap.size + 1, k, none⟩ (.int .i64 z) → w' = w2) := fun w' h => h.trans hw2.symm
        clear hrd hr1 hof2 hw2 hold hcur1 hcs HBAD HGOOD HCUR1 HB1
        go_wp2
        go_roundw
        case rel => exact ⟨rfl, rfl, k + 1, u + b, ns ++ [z], by omega, by go_num, by rw [H2.out _ rfl]; exact HOF2.out⟩
        case measure => simp [intOf]; omega
      · have hfin := HBAD.out 5 (by decide) hp
        have HFIN := (show Hid _ from hfin)
        clear hfin hp hcur1
        go_wp2
        go_ret2
        exact .inr ⟨HB1.out, .inl ⟨HFIN.out, rfl⟩⟩
      · have hfin := HBAD.out 1 (by decide) hp
        have HFIN := (show Hid _ from hfin)
        clear hfin hp hcur1
        go_wp2
        go_ret2
        exact .inr ⟨HB1.out, .inr (.inl ⟨HFIN.out, rfl⟩)⟩
    · have hge : (n : Int) ≤ (k : Int) := by omega
      have hkn : k = n := by omega
      subst hkn
      obtain ⟨cur, hcur, hcs, hcv⟩ := hm.arr
      have hI : Ints wr (some ⟨w.heap.size + 1, 0, none⟩) k (fun j => ns.getD j 0) := .inr ⟨w.heap.size + 1, 0, rfl, fun j hj => by rw [Nat.zero_add]; exact (cells_of hcur j).trans (hcv j hj)⟩
      have htm := ticks_made wr aB hBr (some ⟨w.heap.size + 1, 0, none⟩) k k ns hm.len (by omega) hI hm.rng
      have HTM := (show Hid _ from htm)
      have HM := (show Hid _ from hm)
      clear htm hI hm hcur hcs hcv hNr hTr hBr cur
      go_wp2_with fail
      refine Calls.mono HTM.out ?_
      rintro e w1 ⟨hb1, hout⟩
      have hbw : Below w.heap.size w w1 := HM.out.bel.trans (hb1.mono HM.out.bel.size)
      rcases hout with ⟨ts, v, ht, hl, hall, rfl, hown⟩ | ⟨ht, rfl⟩
      · have hr1 : IsReader w1 w.heap.size g cap l (i + u) N := HM.out.rd.below hb1
        have y0 : w1.cell? ⟨w.heap.size, 0, none⟩ = some (.slice (some ⟨g, 0, none⟩) l.length cap) := cells_of hr1.hb 0
        have y1 : w1.cell? ⟨w.heap.size, 1, none⟩ = some (.int .i64 ((i + u : Nat) : Int)) := cells_of hr1.hb 1
        have y2 : w1.cell? ⟨w.heap.size, 2, none⟩ = some (.int .i64 (N : Int)) := cells_of hr1.hb 2
        have hbx := (hbw.block x hxl).trans HRD.out.hb
        have v0 : w1.cell? ⟨x, 0, none⟩ = some (.slice (some ⟨g, 0, none⟩) l.length cap) := cells_of hbx 0
        have v1 : w1.cell? ⟨x, 1, none⟩ = some (.int .i64 (i : Int)) := cells_of hbx 1
        have v2 : w1.cell? ⟨x, 2, none⟩ = some (.int .i64 (N : Int)) := cells_of hbx 2
        have x0 := frozen_of hbx 0
        have x1 := frozen_of hbx 1
        have x2 := frozen_of hbx 2
        obtain ⟨P, hP⟩ : ∃ P : Int, ((i + u : Nat) : Int) = P := ⟨_, rfl⟩
        rw [hP] at y1
        obtain ⟨w2, hw2⟩ : ∃ w2, w2 = ((w1.setCell ⟨x, 0, none⟩ (.slice (some ⟨g, 0, none⟩) l.length cap)).setCell ⟨x, 1, none⟩ (.int .i64 P)).setCell ⟨x, 2, none⟩ (.int .i64 (N : Int)) := ⟨_, rfl⟩
        have hset := heap_set (heap_set (heap_set hbx 0 (.slice (some ⟨g, 0, none⟩) l.length cap)) 1 (.int .i64 P)) 2 (.int .i64 (N : Int))
        have hk2 : Kept [x] w1 w2 := by rw [hw2]; exact (((Kept.refl _ _).setCell (.inl (by simp)) _).setCell (.inl (by simp)) _).setCell (.inl (by simp)) _
        have hrx : RdAt w2 x ((BitMath.restB l i N).drop u) := by
          refine ⟨g, cap, l, i + u, N, ⟨?_, fun j hj => ?_, hr1.hcap, HRD.out.hg, hr1.hi, hr1.hn, hr1.hl⟩, by unfold BitMath.restB; rw [List.drop_drop]⟩
          · rw [hw2, hP]
            exact hset
          · exact hk2.cell (hr1.hc j hj) (by have := HRD.out.hg; simp; omega)
        have hown2 : w2.ownsRow w.heap.size 3 1 v k (intList ts) := by
          refine own_baseLow (own_keptIn hown hk2 (fun b hb => ?_)) HM.out.bel.size
          have hs := HM.out.bel.size
          rcases hown.2 with ⟨h, _⟩ | ⟨g', cap', cur', h, hg', _⟩
          · rw [h] at hb; simp [Value.ownBlock] at hb
          · rw [h] at hb
            simp [Value.ownBlock] at hb
            simp
            omega
        have hout : WOut w w2 x (BitMath.restB l i N) k aN aT aB (.returned (.tuple #[v, .nilIface])) := .inl ⟨(Kept.of_below hbw).trans hk2 (fun z hz => .inl hz), ns, u, ts, v, HM.out.read, ht, hl, hall, rfl, hown2, hrx⟩
        have HOUT := (show Hid _ from hout)
        have H2 : Hid (∀ w', w' = ((w1.setCell ⟨x, 0, none⟩ (.slice (some ⟨g, 0, none⟩) l.length cap)).setCell ⟨x, 1, none⟩ (.int .i64 P)).setCell ⟨x, 2, none⟩ (.int .i64 (N : Int)) → w' = w2) := fun w' h => h.trans hw2.symm
        clear hr1 hbx hP hw2 hset hk2 hrx hown2 hout ht hl hall hown hbw hb1 HTM
        go_wp2
        go_ret2
        rw [H2.out _ rfl]
        exact HOUT.out
      · have HBW := (show Hid _ from hbw)
        have HTT := (show Hid _ from ht)
        clear hbw hb1 ht HTM
        go_wp2
        go_ret2
        exact .inr ⟨HBW.out, .inr (.inr ⟨ns, u, HM.out.read, HTT.out, rfl⟩)⟩
end Go.Proofs.YtgdflopgdlpimaaDoor
