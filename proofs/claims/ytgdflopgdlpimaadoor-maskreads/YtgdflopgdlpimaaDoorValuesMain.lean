/- The walk of tidegaugelaw1.MaskValues. -/
import Derived.Test.YtgdflopgdlpimaaDoorMaskedFact
import Derived.Test.YtgdflopgdlpimaaDoorMaskRead2
import Derived.Test.YtgdflopgdlpimaaDoorMaths
import Derived.Test.YtgdflopgdlpimaaDoorRefMask2
import Derived.Test.YtgdflopgdlpimaaDoorRefSame
import Derived.Test.YtgdflopgdlpimaaDoorOpenBits
import Derived.Test.YtgdflopgdlpimaaDoorCoded
namespace Go.Proofs.YtgdflopgdlpimaaDoor
open Go.RowKit

theorem U64s.congr {w : World} {a : Option Addr} {n : Nat} {V U : Nat → Nat} (h : U64s w a n V) (e : ∀ i, i < n → V i = U i) : U64s w a n U := by
  rcases h with h | ⟨b, o, h, hc⟩
  · exact .inl h
  · exact .inr ⟨b, o, h, fun k hk => by rw [← e k hk]; exact hc k hk⟩

set_option maxRecDepth 1000000 in
theorem values_long (w : World) (hT : Tab w) (la : Option Addr) (ln lc : Nat) (h : 30 < ln) (_hl : (ln : Int) ≤ 9223372036854775807) :
    Calls Tryd.prog 8 #[.slice la ln lc] w fun e w' => e = .returned (.bool true) ∧ Below w.heap.size w w' := by
  have h1' : decide ((30 : Int) < (ln : Int)) = true := by simp; omega
  have HW := (show Hid _ from masked_any w hT)
  clear hT
  go_enter Tryd.func8, Tryd.ntmps8
  go_wp2_with fail
  refine Calls.mono HW.out ?_
  rintro e w1 ⟨rfl, hb⟩
  go_wp2
  go_ret
  exact ⟨rfl, hb⟩

set_option maxRecDepth 1000000 in
set_option maxHeartbeats 4000000 in
theorem values_main {B : Nat} {ea : Nat → Addr} (w : World) (E : Env B ea w) (hB : B ≤ w.heap.size) (hT : Tab w) (lb lo ln lc : Nat) (V : Nat → Nat) (hV : ∀ i, i < ln → V i < 18446744073709551616) (hvals : ∀ i, i < ln → w.cell? ⟨lb, lo + i, none⟩ = some (.int .u64 (V i : Int))) (h0 : 1 ≤ ln) (h1 : ln ≤ 30) :
    Calls Tryd.prog 8 #[.slice (some ⟨lb, lo, none⟩) ln lc] w fun e w' => e = .returned (.bool true) ∧ Below w.heap.size w w' := by
  have HE : Hid (Env B ea w) := E
  have HT : Hid (Tab w) := hT
  have hU : U64s w (some ⟨lb, lo, none⟩) ln V := .inr ⟨lb, lo, rfl, fun k hk => ⟨hvals k hk, hV k hk⟩⟩
  have HU : Hid (U64s w (some ⟨lb, lo, none⟩) ln V) := hU
  have HV := (show Hid _ from hV)
  have HVALS := (show Hid _ from hvals)
  have HW := (show Hid _ from masked_any w hT)
  have hTl := hT.lt
  have h1' : decide ((30 : Int) < (ln : Int)) = false := by simp; omega
  have hlow := E.low
  have hlb := lt_of_cell (hvals 0 h0)
  obtain ⟨bs, hbs⟩ : ∃ bs, bs = BitMath.maskTo V ln := ⟨_, rfl⟩
  have hbl : bs.length ≤ 2310 := by rw [hbs]; have := BitMath.length_maskTo V ln; omega
  have HBS := (show Hid _ from hbs)
  clear E hT hU hV hvals hbs
  go_enter Tryd.func8, Tryd.ntmps8
  go_wp2_with fail
  refine Calls.mono HW.out ?_
  rintro e w1 ⟨rfl, hb1⟩
  clear HW
  go_wp2_with fail
  refine (new_any _).mono ?_
  rintro e w2 ⟨rfl, hr2, hb2, hs2⟩
  have hwr : w.heap.size ≤ w1.heap.size := hb1.size
  have HR2 := (show Hid _ from hr2)
  have HB2 := (show Hid _ from hb1.trans (hb2.mono hb1.size))
  have hr2l : w1.heap.size < w2.heap.size := by omega
  obtain ⟨r, hr⟩ : ∃ r, r = w1.heap.size := ⟨_, rfl⟩
  rw [← hr] at HR2 hwr hr2l ⊢
  have HMO := (show Hid _ from maskOf_any w2 (some ⟨lb, lo, none⟩) ln lc V (HU.out.below HB2.out) (by omega))
  rw [← HBS.out] at HMO
  clear hb1 hb2 hs2 hr2 hr
  go_wp2_with fail
  refine Calls.mono HMO.out ?_
  rintro e w3 ⟨rfl, hb3⟩
  have hts : (BitMath.txt bs).size = bs.length := BitMath.txt_size bs
  have HB3 := (show Hid _ from HB2.out.trans (hb3.mono HB2.out.size))
  have HR3 := (show Hid _ from HR2.out.below hb3)
  have hr3l : r < w3.heap.size := Nat.lt_of_lt_of_le hr2l hb3.size
  clear HMO HR2 HB2 hb3 hr2l
  obtain ⟨i0, hi, hz0, hz1, hz2⟩ := info_parts Tryd.infoU64
  have hownN : w3.ownsRow w3.heap.size 39 1 (.slice none 0 0) 0 [] := ⟨rfl, .inl ⟨rfl, rfl⟩⟩
  have hfl : (BitMath.firstV V ln).length = ln := by simp [BitMath.firstV]
  have hnews : ∀ (j : Nat) u, (u64Cells (BitMath.firstV V ln))[j]? = some u → w3.cell? ((⟨lb, lo, none⟩ : Addr).add j) = some u := by
    intro j u hj
    have hjl : j < ln := by
      rcases Nat.lt_or_ge j ln with h | h
      · exact h
      · rw [List.getElem?_eq_none (by simp [u64Cells, hfl]; omega)] at hj; cases hj
    have e1 : (u64Cells (BitMath.firstV V ln))[j]? = some (.int .u64 (V j : Int)) := by
      simp [u64Cells, BitMath.firstV, hjl]
    rw [e1] at hj
    cases hj
    have e2 : ((⟨lb, lo, none⟩ : Addr).add j) = ⟨lb, lo + j, none⟩ := by
      unfold Addr.add
      cases j <;> simp
    rw [e2, HB3.out.cell (p := ⟨lb, lo + j, none⟩) hlb]
    exact HVALS.out j hjl
  have HNEWS := (show Hid _ from hnews)
  have HFL := (show Hid _ from hfl)
  have hone : ∀ u ∈ u64Cells (BitMath.firstV V ln), u.oneCell' = true := by
    intro u hu
    simp [u64Cells] at hu
    obtain ⟨y, _, rfl⟩ := hu
    rfl
  have HONE := (show Hid _ from hone)
  have hul : (u64Cells (BitMath.firstV V ln)).length = ln * 1 := by simp [u64Cells, hfl]
  have HUL := (show Hid _ from hul)
  clear hnews hone hul hfl
  go_wp2_with (at_builtin; refine wpList_append_lies _ rfl _ _ 66 rfl w3.heap.size 39 i0 (.int .u64 0) 1 8 Tryd.underlying66 hi hz0 hz1 hz2 rfl (by decide) _ _ _ rfl hownN ⟨lb, lo, none⟩ ln lc (u64Cells (BitMath.firstV V ln)) rfl HUL.out HNEWS.out HONE.out (by omega) ?c3 ?c4 (Nat.le_refl _) w3.heap.size rfl ?_)
  case c3 => unfold maxLen; omega
  case c4 => omega
  intro g cap w4 hown4 hgrow hat hlt4
  have hk4 : Kept [] w3 w4 := Kept.grown hgrow (fun j hj => by simp [Value.ownBlock] at hj)
  obtain ⟨g', cap', hv', hgl', hgw', hcap', hU4⟩ := own_u64s hown4 HFL.out (fun y hy => by
    simp [BitMath.firstV] at hy
    obtain ⟨i, hi, rfl⟩ := hy
    exact HV.out i hi) (by omega)
  cases hv'
  have hU4' : U64s w4 (some ⟨g, 0, none⟩) ln V := hU4.congr (fun i hi => BitMath.vf_firstV V ln i hi)
  have hb4 : Below w3.heap.size w3 w4 := hk4.below (Nat.le_refl _) (fun x hx => by cases hx)
  have hB4 := HB3.out.trans (hb4.mono HB3.out.size)
  have hT4 := HT.out.below hB4 hTl
  have hput := mPut_some g 0 ln cap V w4 h0 (by omega) HV.out (fun i hi => by
    rcases hU4' with h | ⟨b, o, h, hc⟩
    · omega
    · cases h; exact (hc i hi).1) hT4 r (.slice none 0 0) [] (HR3.out.below hb4) (by simp [Value.ownBlock]; omega) (by omega) (by rw [← HBS.out]; simp; omega)
  rw [← HBS.out, List.nil_append] at hput
  have HP := (show Hid _ from hput)
  have HB4 := (show Hid _ from hB4)
  clear hput hB4 hT4 hU4 hU4' hb4 hk4 hown4 hgrow hat hgw' hcap' HNEWS HONE HUL HFL hownN hi hz0 hz1 hz2 HR3
  go_wp2_with fail
  refine Calls.mono HP.out ?_
  rintro e w5 ⟨rfl, v5, hr5, hk5, _⟩
  have hb5 : Below w.heap.size w w5 := HB4.out.trans (hk5.below HB4.out.size (fun x hx => by simp [Value.ownBlock] at hx; omega))
  have HLEN := (show Hid _ from len_any w5 _ v5 _ hr5)
  have HBY := (show Hid _ from bytes_any w5 _ v5 _ hr5)
  have HB5 := (show Hid _ from hb5)
  have HPK := (show Hid _ from fun w0 => pack_any (BitMath.txt bs) bs w0 rfl (by omega))
  clear hr5 hk5 hb5 HP HB4
  generalize hts0 : BitMath.txt bs = ts at *
  have HTS := (show Hid _ from hts0)
  have htsI : (ts.size : Int) = (bs.length : Int) := by omega
  clear hts0
  go_wp2_with fail
  refine Calls.mono HLEN.out ?_
  rintro e w6 ⟨rfl, hw6⟩
  have hw6' := hw6.symm
  subst hw6'
  go_wp2_with fail
  refine Calls.mono HBY.out ?_
  rintro e w7 ⟨rfl, hw7⟩
  have hw7' := hw7.symm
  subst hw7'
  go_wp2_with fail
  refine Calls.mono (HPK.out _) ?_
  rintro e w8 ⟨rfl, hb8⟩
  have HB8 := (show Hid _ from HB5.out.trans (hb8.mono HB5.out.size))
  have hsz := mSize_any (some ⟨lb, lo, none⟩) ln lc V w8 (by omega) (HU.out.below HB8.out) (HT.out.below HB8.out hTl)
  rw [← HBS.out] at hsz
  have HSZ := (show Hid _ from hsz)
  clear hsz hb8 HLEN HBY HPK HB5
  go_wp2_with fail
  refine Calls.mono HSZ.out ?_
  rintro e w9 ⟨rfl, hb9⟩
  have HB9 := (show Hid _ from HB8.out.trans (hb9.mono HB8.out.size))
  have hop := openBits_any bs w9 (by omega)
  rw [HTS.out] at hop
  have HOP := (show Hid _ from hop)
  clear hop hb9 HSZ HB8
  go_wp2_with fail
  refine Calls.mono HOP.out ?_
  rintro e w10 ⟨x, gr, cr, rfl, hrd, hb10, hg10⟩
  have hrd' : RdAt w10 x bs := ⟨gr, cr, _, _, _, hrd, by rw [BitMath.restB_pack]; rfl⟩
  have hxw : w.heap.size ≤ x := by have := hrd.hg; have := HB9.out.size; omega
  have HB10 := (show Hid _ from HB9.out.trans (hb10.mono HB9.out.size))
  have E10 := HE.out.below HB10.out hB
  have hread := mRead_any w10 x bs hrd' (HT.out.below HB10.out hTl) ln h0 (by omega) (ea 4) (ea 0) E10.c4 E10.c0 (by omega) (by omega) (by omega)
  have hmr : BitMath.maskRead bs ln = (0, BitMath.firstV V ln, bs.length) := by
    have := BitMath.maskRead_mask V ln [] HV.out ln (Nat.le_refl _)
    rw [List.append_nil, ← HBS.out] at this
    exact this
  have HREAD := (show Hid _ from hread)
  have HMR := (show Hid _ from hmr)
  clear hread hmr hrd hrd' hb10 hg10 E10 HOP HB9
  go_wp2_with fail
  refine Calls.mono HREAD.out ?_
  rintro e w11 ⟨hk11, hout⟩
  have hb11 : Below w.heap.size w w11 := HB10.out.trans (hk11.below HB10.out.size (fun y hy => by simp at hy; omega))
  rcases hout with ⟨vs, u, v, hm, rfl, hvl, hown, hvv, hr11⟩ | ⟨hm, rfl⟩ | ⟨hm, rfl⟩
  · rw [HMR.out] at hm
    obtain ⟨rfl, rfl⟩ : BitMath.firstV V ln = vs ∧ bs.length = u := by
      have h1 := congrArg (fun t => t.2.1) hm
      have h2 := congrArg (fun t => t.2.2) hm
      exact ⟨h1, h2⟩
    obtain ⟨g2, cap2, rfl, hgl2, hgw2, hcap2, hU11⟩ := own_u64s hown hvl hvv (by omega)
    have hU11' : U64s w11 (some ⟨g2, 0, none⟩) ln V := hU11.congr (fun i hi => BitMath.vf_firstV V ln i hi)
    rw [List.drop_length] at hr11
    have E11 := HE.out.below hb11 hB
    have HNL := (show Hid _ from mRead_nil w11 1 (ea 2) E11.c2 (by omega) (by omega))
    have HU11 : Hid (U64s w11 (some ⟨g2, 0, none⟩) ln V) := hU11'
    have HR11 := (show Hid _ from hr11)
    have HB11 := (show Hid _ from hb11)
    clear hm hown hvv hU11 hU11' hr11 hb11 E11 HREAD HMR hk11 HB10
    go_wp2_with fail
    refine Calls.mono HNL.out ?_
    rintro e w12 ⟨rfl, q12, hw12⟩
    have hb12 : Below w11.heap.size w11 w12 := by rw [hw12]; exact below_draw _ _
    have HB12 := (show Hid _ from HB11.out.trans (hb12.mono HB11.out.size))
    have HSV := (show Hid _ from same_values w12 (some ⟨g2, 0, none⟩) (some ⟨lb, lo, none⟩) ln cap2 lc V (HU11.out.below hb12) (HU.out.below HB12.out) (by omega))
    have HR12 := (show Hid _ from HR11.out.below hb12)
    clear hw12 hb12 HNL HU11 HR11 HB11
    go_wp2_with fail
    refine Calls.mono HSV.out ?_
    rintro e w13 ⟨rfl, q13, hw13⟩
    have hb13 : Below w12.heap.size w12 w13 := by rw [hw13]; exact below_draw _ _
    have HB13 := (show Hid _ from HB12.out.trans (hb13.mono HB12.out.size))
    have HLF := (show Hid _ from rd_left w13 x [] (HR12.out.below hb13))
    clear hw13 hb13 HSV HR12 HB12
    go_wp2_with fail
    refine Calls.mono HLF.out ?_
    rintro e w14 ⟨rfl, q14, hw14⟩
    have hb14 : Below w13.heap.size w13 w14 := by rw [hw14]; exact below_draw _ _
    have HB14 := (show Hid _ from HB13.out.trans (hb14.mono HB13.out.size))
    have HCD := (show Hid _ from coded_es w14 (HE.out.below HB14.out hB) (Nat.le_trans hB HB14.out.size) 2 (by omega) 3 rfl)
    clear hw14 hb14 HLF HB13
    go_wp2_with fail
    refine Calls.mono HCD.out ?_
    rintro e w15 ⟨rfl, hb15⟩
    have HB15 := (show Hid _ from HB14.out.trans (hb15.mono HB14.out.size))
    have HPN := (show Hid _ from mPut_nil (some ⟨lb, lo, none⟩) ln lc w15 (ea 2) (HE.out.below HB15.out hB).c2 (by have := HB15.out.size; omega))
    clear hb15 HCD HB14
    go_wp2_with fail
    refine Calls.mono HPN.out ?_
    rintro e w16 ⟨rfl, hb16⟩
    have HB16 := (show Hid _ from HB15.out.trans (hb16.mono HB15.out.size))
    have HCD2 := (show Hid _ from coded_es w16 (HE.out.below HB16.out hB) (Nat.le_trans hB HB16.out.size) 2 (by omega) 3 rfl)
    clear hb16 HPN HB15
    go_wp2_with fail
    refine Calls.mono HCD2.out ?_
    rintro e w17 ⟨rfl, hb17⟩
    have HB17 := (show Hid _ from HB16.out.trans (hb17.mono HB16.out.size))
    clear hb17 HCD2 HB16
    go_wp2
    go_ret
    exact ⟨rfl, HB17.out⟩
  · rw [HMR.out] at hm; cases hm
  · rw [HMR.out] at hm; cases hm
set_option maxRecDepth 1000000 in
set_option maxHeartbeats 4000000 in
theorem values_none {B : Nat} {ea : Nat → Addr} (w : World) (E : Env B ea w) (hB : B ≤ w.heap.size) (hT : Tab w) (lc : Nat) :
    Calls Tryd.prog 8 #[.slice none 0 lc] w fun e w' => e = .returned (.bool true) ∧ Below w.heap.size w w' := by
  have HE : Hid (Env B ea w) := E
  have HT : Hid (Tab w) := hT
  have HU : Hid (U64s w none 0 (fun _ => 0)) := .inl rfl
  have HW := (show Hid _ from masked_any w hT)
  have hTl := hT.lt
  have hlow := E.low
  obtain ⟨bs, hbs⟩ : ∃ bs : List Bool, bs = BitMath.maskTo (fun _ => 0) 0 := ⟨_, rfl⟩
  have hbl : bs.length = 0 := by rw [hbs]; rfl
  have HBS := (show Hid _ from hbs)
  clear E hT hbs
  go_enter Tryd.func8, Tryd.ntmps8
  go_wp2_with fail
  refine Calls.mono HW.out ?_
  rintro e w1 ⟨rfl, hb1⟩
  clear HW
  go_wp2_with fail
  refine (new_any _).mono ?_
  rintro e w2 ⟨rfl, hr2, hb2, hs2⟩
  have hwr : w.heap.size ≤ w1.heap.size := hb1.size
  have HR2 := (show Hid _ from hr2)
  have HB2 := (show Hid _ from hb1.trans (hb2.mono hb1.size))
  have hr2l : w1.heap.size < w2.heap.size := by omega
  obtain ⟨r, hr⟩ : ∃ r, r = w1.heap.size := ⟨_, rfl⟩
  rw [← hr] at HR2 hwr hr2l ⊢
  have HMO := (show Hid _ from maskOf_any w2 none 0 lc (fun _ => 0) (HU.out.below HB2.out) (by omega))
  rw [← HBS.out] at HMO
  clear hb1 hb2 hs2 hr2 hr
  go_wp2_with fail
  refine Calls.mono HMO.out ?_
  rintro e w3 ⟨rfl, hb3⟩
  have hts : (BitMath.txt bs).size = bs.length := BitMath.txt_size bs
  have HB3 := (show Hid _ from HB2.out.trans (hb3.mono HB2.out.size))
  have HR3 := (show Hid _ from HR2.out.below hb3)
  have hr3l : r < w3.heap.size := Nat.lt_of_lt_of_le hr2l hb3.size
  clear HMO HR2 HB2 hb3 hr2l
  have HP := (show Hid _ from fun w0 la0 c0 => mPut_none la0 c0 w0 ⟨r, 0, none⟩)
  go_wp2_with fail
  refine Calls.mono (HP.out _ _ _) ?_
  rintro e w5 ⟨rfl, hb35⟩
  have hb5 : Below w.heap.size w w5 := HB3.out.trans (hb35.mono HB3.out.size)
  have hr5 : IsRow w5 r (.slice none 0 0) bs := by
    have : bs = [] := List.eq_nil_of_length_eq_zero hbl
    rw [this]
    exact HR3.out.below hb35
  have HLEN := (show Hid _ from len_any w5 _ _ _ hr5)
  have HBY := (show Hid _ from bytes_any w5 _ _ _ hr5)
  have HB5 := (show Hid _ from hb5)
  have HPK := (show Hid _ from fun w0 => pack_any (BitMath.txt bs) bs w0 rfl (by omega))
  clear hr5 hb35 hb5 HP HB3 HR3
  generalize hts0 : BitMath.txt bs = ts at *
  have HTS := (show Hid _ from hts0)
  have htsI : (ts.size : Int) = (bs.length : Int) := by omega
  clear hts0
  go_wp2_with fail
  refine Calls.mono HLEN.out ?_
  rintro e w6 ⟨rfl, hw6⟩
  have hw6' := hw6.symm
  subst hw6'
  go_wp2_with fail
  refine Calls.mono HBY.out ?_
  rintro e w7 ⟨rfl, hw7⟩
  have hw7' := hw7.symm
  subst hw7'
  go_wp2_with fail
  refine Calls.mono (HPK.out _) ?_
  rintro e w8 ⟨rfl, hb8⟩
  have HB8 := (show Hid _ from HB5.out.trans (hb8.mono HB5.out.size))
  have hsz := mSize_any none 0 lc (fun _ => 0) w8 (by omega) (HU.out.below HB8.out) (HT.out.below HB8.out hTl)
  rw [← HBS.out] at hsz
  have HSZ := (show Hid _ from hsz)
  clear hsz hb8 HLEN HBY HPK HB5
  go_wp2_with fail
  refine Calls.mono HSZ.out ?_
  rintro e w9 ⟨rfl, hb9⟩
  have HB9 := (show Hid _ from HB8.out.trans (hb9.mono HB8.out.size))
  have hop := openBits_any bs w9 (by omega)
  rw [HTS.out] at hop
  have HOP := (show Hid _ from hop)
  clear hop hb9 HSZ HB8
  go_wp2_with fail
  refine Calls.mono HOP.out ?_
  rintro e w10 ⟨x, gr, cr, rfl, hrd, hb10, hg10⟩
  have hrd' : RdAt w10 x bs := ⟨gr, cr, _, _, _, hrd, by rw [BitMath.restB_pack]; rfl⟩
  have hxw : w.heap.size ≤ x := by have := hrd.hg; have := HB9.out.size; omega
  have HB10 := (show Hid _ from HB9.out.trans (hb10.mono HB9.out.size))
  have HREAD := (show Hid _ from mRead_zero w10 ⟨x, 0, none⟩)
  have HR10 := (show Hid _ from hrd')
  clear hrd hrd' hb10 hg10 HOP HB9
  go_wp2_with fail
  refine Calls.mono HREAD.out ?_
  rintro e w11 ⟨rfl, hw11⟩
  have hw11' := hw11.symm
  subst hw11'
  · have hbe : bs = [] := List.eq_nil_of_length_eq_zero hbl
    have hr11 := HR10.out
    rw [hbe] at hr11
    have hb11 := HB10.out
    have E11 := HE.out.below hb11 hB
    have HNL := (show Hid _ from mRead_nil w10 1 (ea 2) E11.c2 (by omega) (by omega))
    have HU11 : Hid (U64s w10 none 0 (fun _ => 0)) := .inl rfl
    have HR11 := (show Hid _ from hr11)
    have HB11 := (show Hid _ from hb11)
    clear hr11 hb11 E11 HREAD HB10 HR10 hbe
    go_wp2_with fail
    refine Calls.mono HNL.out ?_
    rintro e w12 ⟨rfl, q12, hw12⟩
    have hb12 : Below w10.heap.size w10 w12 := by rw [hw12]; exact below_draw _ _
    have HB12 := (show Hid _ from HB11.out.trans (hb12.mono HB11.out.size))
    have HSV := (show Hid _ from same_values w12 none none 0 0 lc (fun _ => 0) (HU11.out.below hb12) (HU.out.below HB12.out) (by omega))
    have HR12 := (show Hid _ from HR11.out.below hb12)
    clear hw12 hb12 HNL HU11 HR11 HB11
    go_wp2_with fail
    refine Calls.mono HSV.out ?_
    rintro e w13 ⟨rfl, q13, hw13⟩
    have hb13 : Below w12.heap.size w12 w13 := by rw [hw13]; exact below_draw _ _
    have HB13 := (show Hid _ from HB12.out.trans (hb13.mono HB12.out.size))
    have HLF := (show Hid _ from rd_left w13 x [] (HR12.out.below hb13))
    clear hw13 hb13 HSV HR12 HB12
    go_wp2_with fail
    refine Calls.mono HLF.out ?_
    rintro e w14 ⟨rfl, q14, hw14⟩
    have hb14 : Below w13.heap.size w13 w14 := by rw [hw14]; exact below_draw _ _
    have HB14 := (show Hid _ from HB13.out.trans (hb14.mono HB13.out.size))
    have HCD := (show Hid _ from coded_es w14 (HE.out.below HB14.out hB) (Nat.le_trans hB HB14.out.size) 2 (by omega) 3 rfl)
    clear hw14 hb14 HLF HB13
    go_wp2_with fail
    refine Calls.mono HCD.out ?_
    rintro e w15 ⟨rfl, hb15⟩
    have HB15 := (show Hid _ from HB14.out.trans (hb15.mono HB14.out.size))
    have HPN := (show Hid _ from mPut_nil none 0 lc w15 (ea 2) (HE.out.below HB15.out hB).c2 (by have := HB15.out.size; omega))
    clear hb15 HCD HB14
    go_wp2_with fail
    refine Calls.mono HPN.out ?_
    rintro e w16 ⟨rfl, hb16⟩
    have HB16 := (show Hid _ from HB15.out.trans (hb16.mono HB15.out.size))
    have HCD2 := (show Hid _ from coded_es w16 (HE.out.below HB16.out hB) (Nat.le_trans hB HB16.out.size) 2 (by omega) 3 rfl)
    clear hb16 HPN HB15
    go_wp2_with fail
    refine Calls.mono HCD2.out ?_
    rintro e w17 ⟨rfl, hb17⟩
    have HB17 := (show Hid _ from HB16.out.trans (hb17.mono HB16.out.size))
    clear hb17 HCD2 HB16
    go_wp2
    go_ret
    exact ⟨rfl, HB17.out⟩
set_option maxRecDepth 1000000 in
set_option maxHeartbeats 4000000 in
theorem values_empty {B : Nat} {ea : Nat → Addr} (w : World) (E : Env B ea w) (hB : B ≤ w.heap.size) (hT : Tab w) (a : Addr) (lc : Nat) :
    Calls Tryd.prog 8 #[.slice (some a) 0 lc] w fun e w' => e = .returned (.bool true) ∧ Below w.heap.size w w' := by
  have HE : Hid (Env B ea w) := E
  have HT : Hid (Tab w) := hT
  have HU : Hid (U64s w (some a) 0 (fun _ => 0)) := .inl rfl
  have HW := (show Hid _ from masked_any w hT)
  have hTl := hT.lt
  have hlow := E.low
  obtain ⟨bs, hbs⟩ : ∃ bs : List Bool, bs = BitMath.maskTo (fun _ => 0) 0 := ⟨_, rfl⟩
  have hbl : bs.length = 0 := by rw [hbs]; rfl
  have HBS := (show Hid _ from hbs)
  clear E hT hbs
  go_enter Tryd.func8, Tryd.ntmps8
  go_wp2_with fail
  refine Calls.mono HW.out ?_
  rintro e w1 ⟨rfl, hb1⟩
  clear HW
  go_wp2_with fail
  refine (new_any _).mono ?_
  rintro e w2 ⟨rfl, hr2, hb2, hs2⟩
  have hwr : w.heap.size ≤ w1.heap.size := hb1.size
  have HR2 := (show Hid _ from hr2)
  have HB2 := (show Hid _ from hb1.trans (hb2.mono hb1.size))
  have hr2l : w1.heap.size < w2.heap.size := by omega
  obtain ⟨r, hr⟩ : ∃ r, r = w1.heap.size := ⟨_, rfl⟩
  rw [← hr] at HR2 hwr hr2l ⊢
  have HMO := (show Hid _ from maskOf_any w2 (some a) 0 lc (fun _ => 0) (HU.out.below HB2.out) (by omega))
  rw [← HBS.out] at HMO
  clear hb1 hb2 hs2 hr2 hr
  go_wp2_with fail
  refine Calls.mono HMO.out ?_
  rintro e w3 ⟨rfl, hb3⟩
  have hts : (BitMath.txt bs).size = bs.length := BitMath.txt_size bs
  have HB3 := (show Hid _ from HB2.out.trans (hb3.mono HB2.out.size))
  have HR3 := (show Hid _ from HR2.out.below hb3)
  have hr3l : r < w3.heap.size := Nat.lt_of_lt_of_le hr2l hb3.size
  clear HMO HR2 HB2 hb3 hr2l
  have hpr : ∀ w0, (pure (#[] : Array Value) : Sem (Array Value)).run Tryd.prog w0 = .ok #[] w0 := fun _ => rfl
  have HP := (show Hid _ from fun w0 la0 c0 => mPut_none la0 c0 w0 ⟨r, 0, none⟩)
  go_wp2_with fail
  refine Calls.mono (HP.out _ _ _) ?_
  rintro e w5 ⟨rfl, hb35⟩
  have hb5 : Below w.heap.size w w5 := HB3.out.trans (hb35.mono HB3.out.size)
  have hr5 : IsRow w5 r (.slice none 0 0) bs := by
    have : bs = [] := List.eq_nil_of_length_eq_zero hbl
    rw [this]
    exact HR3.out.below hb35
  have HLEN := (show Hid _ from len_any w5 _ _ _ hr5)
  have HBY := (show Hid _ from bytes_any w5 _ _ _ hr5)
  have HB5 := (show Hid _ from hb5)
  have HPK := (show Hid _ from fun w0 => pack_any (BitMath.txt bs) bs w0 rfl (by omega))
  clear hr5 hb35 hb5 HP HB3 HR3
  generalize hts0 : BitMath.txt bs = ts at *
  have HTS := (show Hid _ from hts0)
  have htsI : (ts.size : Int) = (bs.length : Int) := by omega
  clear hts0
  go_wp2_with fail
  refine Calls.mono HLEN.out ?_
  rintro e w6 ⟨rfl, hw6⟩
  have hw6' := hw6.symm
  subst hw6'
  go_wp2_with fail
  refine Calls.mono HBY.out ?_
  rintro e w7 ⟨rfl, hw7⟩
  have hw7' := hw7.symm
  subst hw7'
  go_wp2_with fail
  refine Calls.mono (HPK.out _) ?_
  rintro e w8 ⟨rfl, hb8⟩
  have HB8 := (show Hid _ from HB5.out.trans (hb8.mono HB5.out.size))
  have hsz := mSize_any (some a) 0 lc (fun _ => 0) w8 (by omega) (HU.out.below HB8.out) (HT.out.below HB8.out hTl)
  rw [← HBS.out] at hsz
  have HSZ := (show Hid _ from hsz)
  clear hsz hb8 HLEN HBY HPK HB5
  go_wp2_with fail
  refine Calls.mono HSZ.out ?_
  rintro e w9 ⟨rfl, hb9⟩
  have HB9 := (show Hid _ from HB8.out.trans (hb9.mono HB8.out.size))
  have hop := openBits_any bs w9 (by omega)
  rw [HTS.out] at hop
  have HOP := (show Hid _ from hop)
  clear hop hb9 HSZ HB8
  go_wp2_with fail
  refine Calls.mono HOP.out ?_
  rintro e w10 ⟨x, gr, cr, rfl, hrd, hb10, hg10⟩
  have hrd' : RdAt w10 x bs := ⟨gr, cr, _, _, _, hrd, by rw [BitMath.restB_pack]; rfl⟩
  have hxw : w.heap.size ≤ x := by have := hrd.hg; have := HB9.out.size; omega
  have HB10 := (show Hid _ from HB9.out.trans (hb10.mono HB9.out.size))
  have HREAD := (show Hid _ from mRead_zero w10 ⟨x, 0, none⟩)
  have HR10 := (show Hid _ from hrd')
  clear hrd hrd' hb10 hg10 HOP HB9
  go_wp2_with fail
  refine Calls.mono HREAD.out ?_
  rintro e w11 ⟨rfl, hw11⟩
  have hw11' := hw11.symm
  subst hw11'
  · have hbe : bs = [] := List.eq_nil_of_length_eq_zero hbl
    have hr11 := HR10.out
    rw [hbe] at hr11
    have hb11 := HB10.out
    have E11 := HE.out.below hb11 hB
    have HNL := (show Hid _ from mRead_nil w10 1 (ea 2) E11.c2 (by omega) (by omega))
    have HU11 : Hid (U64s w10 none 0 (fun _ => 0)) := .inl rfl
    have HR11 := (show Hid _ from hr11)
    have HB11 := (show Hid _ from hb11)
    clear hr11 hb11 E11 HREAD HB10 HR10 hbe
    go_wp2_with fail
    refine Calls.mono HNL.out ?_
    rintro e w12 ⟨rfl, q12, hw12⟩
    have hb12 : Below w10.heap.size w10 w12 := by rw [hw12]; exact below_draw _ _
    have HB12 := (show Hid _ from HB11.out.trans (hb12.mono HB11.out.size))
    have HSV := (show Hid _ from same_values w12 none (some a) 0 0 lc (fun _ => 0) (HU11.out.below hb12) (HU.out.below HB12.out) (by omega))
    have HR12 := (show Hid _ from HR11.out.below hb12)
    clear hw12 hb12 HNL HU11 HR11 HB11
    go_wp2_with fail
    refine Calls.mono HSV.out ?_
    rintro e w13 ⟨rfl, q13, hw13⟩
    have hb13 : Below w12.heap.size w12 w13 := by rw [hw13]; exact below_draw _ _
    have HB13 := (show Hid _ from HB12.out.trans (hb13.mono HB12.out.size))
    have HLF := (show Hid _ from rd_left w13 x [] (HR12.out.below hb13))
    clear hw13 hb13 HSV HR12 HB12
    go_wp2_with fail
    refine Calls.mono HLF.out ?_
    rintro e w14 ⟨rfl, q14, hw14⟩
    have hb14 : Below w13.heap.size w13 w14 := by rw [hw14]; exact below_draw _ _
    have HB14 := (show Hid _ from HB13.out.trans (hb14.mono HB13.out.size))
    have HCD := (show Hid _ from coded_es w14 (HE.out.below HB14.out hB) (Nat.le_trans hB HB14.out.size) 2 (by omega) 3 rfl)
    clear hw14 hb14 HLF HB13
    go_wp2_with fail
    refine Calls.mono HCD.out ?_
    rintro e w15 ⟨rfl, hb15⟩
    have HB15 := (show Hid _ from HB14.out.trans (hb15.mono HB14.out.size))
    have HPN := (show Hid _ from mPut_nil (some a) 0 lc w15 (ea 2) (HE.out.below HB15.out hB).c2 (by have := HB15.out.size; omega))
    clear hb15 HCD HB14
    go_wp2_with fail
    refine Calls.mono HPN.out ?_
    rintro e w16 ⟨rfl, hb16⟩
    have HB16 := (show Hid _ from HB15.out.trans (hb16.mono HB15.out.size))
    have HCD2 := (show Hid _ from coded_es w16 (HE.out.below HB16.out hB) (Nat.le_trans hB HB16.out.size) 2 (by omega) 3 rfl)
    clear hb16 HPN HB15
    go_wp2_with fail
    refine Calls.mono HCD2.out ?_
    rintro e w17 ⟨rfl, hb17⟩
    have HB17 := (show Hid _ from HB16.out.trans (hb17.mono HB16.out.size))
    clear hb17 HCD2 HB16
    go_wp2
    go_ret
    exact ⟨rfl, HB17.out⟩
end Go.Proofs.YtgdflopgdlpimaaDoor
