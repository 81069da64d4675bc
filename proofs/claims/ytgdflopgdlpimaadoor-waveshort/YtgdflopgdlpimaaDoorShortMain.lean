/- The walk of tidegaugelaw1.WaveShort. -/
import Derived.Test.YtgdflopgdlpimaaDoorTicksPut
import Derived.Deep.AppendLies
import Derived.Deep.DeepCutAuto
namespace Go.Proofs.YtgdflopgdlpimaaDoor
open Go.RowKit

/-- The five tests ahead: any of them, and the statement says no more. -/
def Ahead (a b n : Int) : Prop := a < 0 ∨ b < a ∨ 1125899906842624 < b ∨ n < 2 ∨ 60 < n

set_option maxRecDepth 1000000 in
theorem short_ahead (a b f s n : Int) (w : World) (hF : Forms w) (h : Ahead a b n) :
    Calls Tryd.prog 7 #[.int .i64 a, .int .i64 b, .int .i64 f, .int .i64 s, .int .i64 n] w fun e w' => e = .returned (.bool true) ∧ Below w.heap.size w w' := by
  have HW := (show Hid _ from waved_any w hF)
  clear hF
  unfold Ahead at h
  by_cases h0 : a < 0
  · have d0 : decide (a < 0) = true := by simpa using h0
    clear h
    go_enter Tryd.func7, Tryd.ntmps7
    go_wp2_with fail
    refine Calls.mono HW.out ?_
    rintro e w1 ⟨rfl, hb⟩
    go_wp2
    go_ret
    exact ⟨rfl, hb⟩
  · have d0 : decide (a < 0) = false := by simpa using h0
    by_cases h1 : b < a
    · have d1 : decide (b < a) = true := by simpa using h1
      clear h
      go_enter Tryd.func7, Tryd.ntmps7
      go_wp2_with fail
      refine Calls.mono HW.out ?_
      rintro e w1 ⟨rfl, hb⟩
      go_wp2
      go_ret
      exact ⟨rfl, hb⟩
    · have d1 : decide (b < a) = false := by simpa using h1
      by_cases h2 : 1125899906842624 < b
      · have d2 : decide (1125899906842624 < b) = true := by simpa using h2
        clear h
        go_enter Tryd.func7, Tryd.ntmps7
        go_wp2_with fail
        refine Calls.mono HW.out ?_
        rintro e w1 ⟨rfl, hb⟩
        go_wp2
        go_ret
        exact ⟨rfl, hb⟩
      · have d2 : decide (1125899906842624 < b) = false := by simpa using h2
        by_cases h3 : n < 2
        · have d3 : decide (n < 2) = true := by simpa using h3
          clear h
          go_enter Tryd.func7, Tryd.ntmps7
          go_wp2_with fail
          refine Calls.mono HW.out ?_
          rintro e w1 ⟨rfl, hb⟩
          go_wp2
          go_ret
          exact ⟨rfl, hb⟩
        · have d3 : decide (n < 2) = false := by simpa using h3
          have h4 : 60 < n := by omega
          have d4 : decide (60 < n) = true := by simpa using h4
          clear h
          go_enter Tryd.func7, Tryd.ntmps7
          go_wp2_with fail
          refine Calls.mono HW.out ?_
          rintro e w1 ⟨rfl, hb⟩
          go_wp2
          go_ret
          exact ⟨rfl, hb⟩

theorem Tryd.infoInt : (Tryd.prog.info? 3).map (fun i => (i.zero, i.size, i.bytes)) = some (some (.int .i64 0), 1, 8) := by kernel_rfl

/-- The cells of ints. -/
def intCells (G : Nat → Int) (k : Nat) : List Value := (List.range k).map fun i => .int .i64 (G i)
theorem intCells_step (G : Nat → Int) (k : Nat) : intCells G (k + 1) = intCells G k ++ [.int .i64 (G k)] := by simp [intCells, List.range_succ]
theorem own_ints {w : World} {base : Nat} {v : Value} {n : Nat} {G : Nat → Int} (h : w.ownsRow base 3 1 v n (intCells G n)) (hn : 0 < n) : ∃ g cap, v = .slice (some ⟨g, 0, none⟩) n cap ∧ g < w.heap.size ∧ base ≤ g ∧ Ints w (some ⟨g, 0, none⟩) n G := by
  obtain ⟨_, h2⟩ := h
  rcases h2 with ⟨_, h0⟩ | ⟨g, cap, cur, hv, hg, hh, h1, h2, h3, h4⟩
  · omega
  · rw [Nat.mul_one] at h3 h4
    refine ⟨g, cap, hv, lt_of_block hh, hg, .inr ⟨g, 0, rfl, fun k hk => ?_⟩⟩
    rw [Nat.zero_add, cells_of hh k, ← Array.getElem?_toList]
    have e : (cur.toList.take n)[k]? = cur.toList[k]? := by rw [List.getElem?_take_of_lt hk]
    rw [← e, h4, intCells, List.getElem?_map, List.getElem?_range hk]
    rfl

theorem even_mul (s : Int) (i : Nat) (hi : i ≤ 60) (h0 : -1073741824 ≤ s) (h1 : s ≤ 1073741824) : -64424509440 ≤ (i : Int) * s ∧ (i : Int) * s ≤ 64424509440 := by
  have a := Int.mul_le_mul_of_nonneg_left h1 (show (0 : Int) ≤ (i : Int) by omega)
  have b := Int.mul_le_mul_of_nonneg_left h0 (show (0 : Int) ≤ (i : Int) by omega)
  omega

set_option maxRecDepth 1000000 in
set_option maxHeartbeats 4000000 in
theorem short_main (a b f s : Int) (m : Nat) (w : World) (hF : Forms w) (h0 : 0 ≤ a) (h1 : a ≤ b) (h2 : b ≤ 1125899906842624) (h3 : 2 ≤ m) (h4 : m ≤ 60) (hf0 : -9223372036854775808 ≤ f) (hf1 : f ≤ 9223372036854775807) (hs0 : -9223372036854775808 ≤ s) (hs1 : s ≤ 9223372036854775807) :
    Calls Tryd.prog 7 #[.int .i64 a, .int .i64 b, .int .i64 f, .int .i64 s, .int .i64 (m : Int)] w fun e w' => e = .returned (.bool true) ∧ Below w.heap.size w w' := by
  have HF : Hid (Forms w) := hF
  have hFl := hF.lt
  have HW := (show Hid _ from waved_any w hF)
  have d0 : decide (a < 0) = false := by simp; omega
  have d1 : decide (b < a) = false := by simp; omega
  have d2 : decide (1125899906842624 < b) = false := by simp; omega
  have d3 : decide ((m : Int) < 2) = false := by simp; omega
  have d4 : decide (60 < (m : Int)) = false := by simp; omega
  have la := length_by_form a b (form_up a b h0 h1)
  have lb := length_by_form (-a) (-b) (form_down a b h0 h1)
  have lc := length_by_form a (-a) (form_sign a h0)
  have ld := BitMath.length_waveOf_le b
  have hsa := fun w0 hF0 => wsize_any a w0 hF0 (by omega) (by omega)
  have hsb := fun w0 hF0 => wsize_any b w0 hF0 (by omega) (by omega)
  have hna := fun w0 hF0 => wsize_any (-a) w0 hF0 (by omega) (by omega)
  have hnb := fun w0 hF0 => wsize_any (-b) w0 hF0 (by omega) (by omega)
  have e0 : decide (((BitMath.waveOf b).length : Int) < ((BitMath.waveOf a).length : Int)) = false := by simp; omega
  have e1 : decide (((BitMath.waveOf (-b)).length : Int) < ((BitMath.waveOf (-a)).length : Int)) = false := by simp; omega
  have e2 : decide (((BitMath.waveOf (-a)).length : Int) < ((BitMath.waveOf a).length : Int)) = false := by simp; omega
  have e3 : decide (68 < ((BitMath.waveOf b).length : Int)) = false := by simp; omega
  have ha64 : IntKind.i64.wrap (-a) = -a := IntWalk.i64_in _ (by omega)
  have hb64 : IntKind.i64.wrap (-b) = -b := IntWalk.i64_in _ (by omega)
  generalize hla : ((BitMath.waveOf a).length : Int) = ia at *
  generalize hlb : ((BitMath.waveOf b).length : Int) = ib at *
  generalize hlna : ((BitMath.waveOf (-a)).length : Int) = ina at *
  generalize hlnb : ((BitMath.waveOf (-b)).length : Int) = inb at *
  have HSA := (show Hid _ from hsa)
  have HSB := (show Hid _ from hsb)
  have HNA := (show Hid _ from hna)
  have HNB := (show Hid _ from hnb)
  have h0' : 0 ≤ a := h0
  have hb2 : b ≤ 1125899906842624 := h2
  have hbb : 0 ≤ b := by omega
  have ha2 : a ≤ 1125899906842624 := by omega
  clear hF la lb lc ld hsa hsb hna hnb hla hlb hlna hlnb h1 h2 h0
  go_enter Tryd.func7, Tryd.ntmps7
  go_wp2_with fail
  refine Calls.mono HW.out ?_
  rintro e w1 ⟨rfl, hb1⟩
  have H1 := (show Hid _ from HSA.out w1 (HF.out.below hb1 hFl))
  go_wp2_with fail
  refine Calls.mono H1.out ?_
  rintro e w2 ⟨rfl, hb⟩
  replace hb := hb1.trans (hb.mono hb1.size)
  clear hb1 H1 HW
  have H1 := (show Hid _ from HSB.out w2 (HF.out.below hb hFl))
  go_wp2_with fail
  refine Calls.mono H1.out ?_
  rintro e w3 ⟨rfl, hc⟩
  replace hc := hb.trans (hc.mono hb.size)
  clear hb H1
  have H1 := (show Hid _ from HNA.out w3 (HF.out.below hc hFl))
  go_wp2_with fail
  refine Calls.mono H1.out ?_
  rintro e w4 ⟨rfl, hb⟩
  replace hb := hc.trans (hb.mono hc.size)
  clear hc H1
  have H1 := (show Hid _ from HNB.out w4 (HF.out.below hb hFl))
  go_wp2_with fail
  refine Calls.mono H1.out ?_
  rintro e w5 ⟨rfl, hc⟩
  replace hc := hb.trans (hc.mono hb.size)
  clear hb H1
  have H1 := (show Hid _ from HSA.out w5 (HF.out.below hc hFl))
  go_wp2_with fail
  refine Calls.mono H1.out ?_
  rintro e w6 ⟨rfl, hb⟩
  replace hb := hc.trans (hb.mono hc.size)
  clear hc H1
  have H1 := (show Hid _ from HNA.out w6 (HF.out.below hb hFl))
  go_wp2_with fail
  refine Calls.mono H1.out ?_
  rintro e w7 ⟨rfl, hc⟩
  replace hc := hb.trans (hc.mono hb.size)
  clear hb H1
  have H1 := (show Hid _ from HSB.out w7 (HF.out.below hc hFl))
  go_wp2_with fail
  refine Calls.mono H1.out ?_
  rintro e w8 ⟨rfl, hb⟩
  replace hb := hc.trans (hb.mono hc.size)
  clear hc H1 HSA HSB HNA HNB
  by_cases k0 : f < -1073741824
  · have t0 : decide (f < -1073741824) = true := by simpa using k0
    go_wp2
    go_ret
    exact ⟨rfl, hb⟩
  · have t0 : decide (f < -1073741824) = false := by simpa using k0
    by_cases k1 : 1073741824 < f
    · have t1 : decide (1073741824 < f) = true := by simpa using k1
      go_wp2
      go_ret
      exact ⟨rfl, hb⟩
    · have t1 : decide (1073741824 < f) = false := by simpa using k1
      by_cases k2 : s < -1073741824
      · have t2 : decide (s < -1073741824) = true := by simpa using k2
        go_wp2
        go_ret
        exact ⟨rfl, hb⟩
      · have t2 : decide (s < -1073741824) = false := by simpa using k2
        by_cases k3 : 1073741824 < s
        · have t3 : decide (1073741824 < s) = true := by simpa using k3
          go_wp2
          go_ret
          exact ⟨rfl, hb⟩
        · have t3 : decide (1073741824 < s) = false := by simpa using k3
          have HB := (show Hid _ from hb)
          clear hb
          go_wp2_with fail
          go_loopw [12, 13] (fun l i wr => ∃ (k : Nat) (v : Value), k ≤ m ∧ i = .int .i64 k ∧ v = l ∧ wr.ownsRow w.heap.size 3 1 v k (intCells (fun i => f + i * s) k) ∧ Below w.heap.size w wr) (fun _ i _ => m - (intOf i).toNat)
          case atStart => exact ⟨0, _, Nat.zero_le _, rfl, rfl, ⟨rfl, .inl ⟨rfl, rfl⟩⟩, HB.out⟩
          case round =>
            obtain ⟨k, v, hk, rfl, rfl, hown, hbr⟩ := hrel
            clear HB
            by_cases hlt : k < m
            · obtain ⟨hp0, hp1⟩ := even_mul s k (by omega) (by omega) (by omega)
              obtain ⟨i0, hi, hz0, hz1, hz2⟩ := info_parts Tryd.infoInt
              obtain ⟨p, hp⟩ : ∃ p, (k : Int) * s = p := ⟨_, rfl⟩
              rw [hp] at hp0 hp1
              have hownA : (wr.alloc (.cells #[.int .i64 (f + p)] 3)).ownsRow w.heap.size 3 1 v k (intCells (fun i => f + i * s) k) := hown.alloc _
              have hwl := hbr.size
              have hk1 : (k : Int) < (m : Int) := by omega
              have HBR := (show Hid _ from hbr)
              have HP := (show Hid _ from hp)
              have hwp : IntKind.i64.wrap p = p := IntWalk.i64_in _ (by omega)
              have hwf : IntKind.i64.wrap (f + p) = f + p := IntWalk.i64_in _ (by omega)
              have hform : v.ownBlock = none ∨ ∃ g, v.ownBlock = some g ∧ w.heap.size ≤ g := by
                rcases hown.2 with ⟨rfl, _⟩ | ⟨g, cap, cur, rfl, hg, _⟩
                · exact .inl rfl
                · exact .inr ⟨g, rfl, hg⟩
              have HFORM := (show Hid _ from hform)
              clear hbr hown hform
              go_wp2_with (at_builtin; refine wpList_append_lies _ rfl _ _ 22 rfl w.heap.size 3 i0 (.int .i64 0) 1 8 Tryd.underlying22 hi hz0 hz1 hz2 rfl (by decide) _ _ _ rfl hownA ⟨wr.heap.size, 0, none⟩ 1 1 [.int .i64 (f + p)] rfl rfl ?c1 ?c2 (by omega) ?c3 ?c4 ?c5 (wr.heap.size + 1) (by simp) ?_)
              case c1 =>
                intro j u hj
                match j, hj with
                | 0, hj => simp at hj; subst hj; simp [Addr.add]
              case c2 => intro u hu; simp at hu; subst hu; rfl
              case c3 => unfold maxLen; omega
              case c4 => omega
              case c5 => simp; omega
              intro g cap w1 hown1 hgrow hat hlt1
              have hkeep : Kept (v.ownBlock.toList) (wr.alloc (.cells #[.int .i64 (f + p)] 3)) w1 := Kept.grown hgrow (fun y hy => by simp [hy])
              have hb1 : Below w.heap.size w w1 := (HBR.out.alloc hwl _).trans (hkeep.below (by simp; omega) (fun y hy => by
                rcases HFORM.out with h | ⟨g', h, hg'⟩
                · rw [h] at hy; simp at hy
                · rw [h] at hy; simp at hy; omega))
              have hstep : intCells (fun i => f + i * s) k ++ [.int .i64 (f + p)] = intCells (fun i => f + i * s) (k + 1) := by rw [intCells_step, HP.out]
              rw [hstep] at hown1
              have HOWN1 : Hid (w1.ownsRow w.heap.size 3 1 (.slice (some ⟨g, 0, none⟩) (k + 1) cap) (k + 1) (intCells (fun i => f + i * s) (k + 1))) := hown1
              have HB1 := (show Hid _ from hb1)
              clear hown1 hgrow hat hlt1 hkeep hb1 hstep hownA
              go_wp2
              go_roundw
              case rel => exact ⟨k + 1, _, by omega, by go_num, rfl, HOWN1.out, HB1.out⟩
              case measure => simp [intOf]; omega
            · have hkm : k = m := by omega
              subst hkm
              obtain ⟨g, cap, rfl, hgl, hgw, hI⟩ := own_ints hown (by omega)
              have HI : Hid (Ints wr (some ⟨g, 0, none⟩) k (fun i => f + i * s)) := hI
              have HBR := (show Hid _ from hbr)
              have hG : ∀ i, i < k → -1099511627776 ≤ f + (i : Int) * s ∧ f + (i : Int) * s ≤ 1099511627776 := fun i hi => by
                have := even_mul s i (by omega) (by omega) (by omega)
                omega
              have HG := (show Hid _ from hG)
              have hlen := even_length f s (fun i => f + i * s) k (fun _ _ => rfl) k h3 (Nat.le_refl _)
              have hl68 := length_ticksTo (fun i => f + i * s) k
              clear hown hbr hI hG
              go_wp2_with fail
              refine (new_any _).mono ?_
              rintro e w9 ⟨rfl, hr9, hb9, hs9⟩
              have hb9w : Below w.heap.size w w9 := HBR.out.trans (hb9.mono HBR.out.size)
              have hwr := HBR.out.size
              have hFl9 : 12 < wr.heap.size := by omega
              have ht := wticks_ok w9 (HF.out.below hb9w hFl) wr.heap.size hFl9 _ [] hr9 (some ⟨g, 0, none⟩) k cap (fun i => f + i * s) (HI.out.below hb9) (fun x hx => by cases hx; exact hgl) (by omega) HG.out (by simp; omega)
              have HT := (show Hid _ from ht)
              have HB9 := (show Hid _ from hb9w)
              have HR9 := (show Hid _ from hr9)
              clear ht hb9 hb9w hr9 HI HBR
              generalize hrr : wr.heap.size = r at *
              go_wp2_with fail
              refine Calls.mono HT.out ?_
              rintro e w10 ⟨rfl, v10, hr10, hk10, _⟩
              have hb10 : Below w.heap.size w w10 := HB9.out.trans (hk10.below HB9.out.size (fun y hy => Nat.le_trans hwr (HR9.out.own_ge y hy)))
              have HLN := (show Hid _ from len_any w10 r v10 _ hr10)
              have hsf := wsize_any f w10 (HF.out.below hb10 hFl) hf0 hf1
              have HSF := (show Hid _ from hsf)
              have HB10 := (show Hid _ from hb10)
              have hnil : ([] ++ ticksTo (fun i => f + i * s) k).length = (ticksTo (fun i => f + i * s) k).length := by simp
              rw [hnil] at HLN
              clear hr10 hk10 hb10 hsf HT hnil
              generalize (ticksTo (fun i => f + i * s) k).length = T at *
              generalize hlf : (BitMath.waveOf f).length = lf at *
              generalize hls : (BitMath.waveOf s).length = ls at *
              go_wp2_with fail
              refine Calls.mono HLN.out ?_
              rintro e w11 ⟨rfl, hw11⟩
              have hw11' := hw11.symm
              subst hw11'
              go_wp2_with fail
              refine Calls.mono HSF.out ?_
              rintro e w12 ⟨rfl, hb12⟩
              have hb12w : Below w.heap.size w w12 := HB10.out.trans (hb12.mono HB10.out.size)
              have hss := wsize_any s w12 (HF.out.below hb12w hFl) hs0 hs1
              rw [hls] at hss
              have HSS := (show Hid _ from hss)
              have HB12 := (show Hid _ from hb12w)
              have heq : ((T : Int) == (lf : Int) + (ls : Int) + (k : Int) - 2) = true := by rw [beq_iff_eq]; omega
              clear hb12 hb12w hss HSF HLN
              go_wp2_with fail
              refine Calls.mono HSS.out ?_
              rintro e w13 ⟨rfl, hb13⟩
              have HB13 := (show Hid _ from HB12.out.trans (hb13.mono HB12.out.size))
              clear hb13
              go_wp2
              go_ret
              exact ⟨rfl, HB13.out⟩
end Go.Proofs.YtgdflopgdlpimaaDoor
