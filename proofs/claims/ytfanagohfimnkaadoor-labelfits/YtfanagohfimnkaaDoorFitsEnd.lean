/- The end of the statement LabelFits: each number once, by its text. -/
import Derived.Test.YtfanagohfimnkaaDoorLabOrder
import Derived.Test.YtfanagohfimnkaaDoorRefTicksGroup
import Derived.Laws.OwnMore
import Derived.Deep.DeepCutAuto
import Derived.Deep.QuietTactic
import Derived.BigQuiet
namespace Go.Proofs.YtfanagohfimnkaaDoor
open Go.RowKit LabMath SortMath

def tailN : Nat → Code → Code
  | 0, c => c
  | n + 1, .seq _ b => tailN n b
  | _ + 1, c => c
noncomputable def fitsBody : Code := Tryd.f3.body.getD .skip
noncomputable def fitsT14 : Code := tailN 14 fitsBody
theorem Tryd.infoBool : (Tryd.prog.info? 4).map (fun i => (i.zero, i.size, i.bytes)) = some (some (.bool false), 1, 1) := by kernel_rfl
/-- Was number j among the first k? -/
def seenB (D : Nat → Nat) (k j : Nat) : Bool := (List.range k).any fun i => decide (D i = j)
theorem seenB_succ (D : Nat → Nat) (k j : Nat) : seenB D (k + 1) j = (seenB D k j || decide (D k = j)) := by simp [seenB, List.range_succ]
theorem seenB_no {X : Nat → ByteArray} {D : Nat → Nat} {n k : Nat} (h : Srt (ltX X) D 0 n) (hk : k < n) : seenB D k (D k) = false := by
  cases e : seenB D k (D k) with
  | false => rfl
  | true =>
    simp [seenB] at e
    obtain ⟨i, hi, hd⟩ := e
    exact absurd hd (kl_ne (swX X) (h i k (by omega) hi hk))
structure SeenAt (w9 wr : World) (D : Nat → Nat) (q k : Nat) : Prop where
  bel : Below w9.heap.size w9 wr
  row : ∃ cur, wr.heap[w9.heap.size]? = some (.cells cur 4 (0, 0)) ∧ cur.size = q ∧ ∀ j, j < q → cur[j]? = some (.bool (seenB D k j))
theorem SeenAt.put {w9 wr : World} {D : Nat → Nat} {q k : Nat} (h : SeenAt w9 wr D q k) : SeenAt w9 (wr.setCell ⟨w9.heap.size, D k, none⟩ (.bool true)) D q (k + 1) := by
  obtain ⟨hb, cur, h1, h2, h3⟩ := h
  refine ⟨hb.setCell (Nat.le_refl _) _, _, block_set h1 (D k) _, by simpa using h2, fun j hj => ?_⟩
  rw [seenB_succ]
  by_cases e : D k = j
  · subst e
    rw [Array.getElem?_setIfInBounds_self_of_lt (by omega)]
    simp
  · rw [Array.getElem?_setIfInBounds_ne e, h3 j hj]
    simp [e]
theorem SeenAt.cell {w9 wr : World} {D : Nat → Nat} {q k j : Nat} (h : SeenAt w9 wr D q k) (hj : j < q) : wr.cell? ⟨w9.heap.size, j, none⟩ = some (.bool (seenB D k j)) ∧ wr.frozen? ⟨w9.heap.size, j, none⟩ = false := by
  obtain ⟨_, cur, h1, h2, h3⟩ := h
  exact ⟨by simp [World.cell?, h1, h3 j hj], by simp [World.frozen?, h1]⟩
theorem SeenAt.drewN {w9 wr : World} {D : Nat → Nat} {q k : Nat} (h : SeenAt w9 wr D q k) (z : Nat) : SeenAt w9 (wr.drewN z) D q k := ⟨below_draws h.bel z, h.row⟩

set_option maxRecDepth 1000000 in
set_option maxHeartbeats 8000000 in
theorem fits_t14 (w w9 : World) (la lm ll oa : Option Addr) (n c m cm q cq oc : Nat) (A : Nat → Option Addr) (L C : Nat → Nat) (NN VV : Nat → Nat → ByteArray) (D : Nat → Nat) (hQ : Lists w ll q A L C NN VV) (hb : Below w.heap.size w w9) (hq : q ≤ 60) (hsz : ∀ i, i < q → L i ≤ 20 ∧ ∀ j, j < L i → (NN i j).size ≤ 60 ∧ (VV i j).size ≤ 60)
    (ho : q = 0 ∨ ∃ g, oa = some ⟨g, 0, none⟩ ∧ ∀ k, k < q → w9.cell? ⟨g, k, none⟩ = some (.int .i64 (D k : Int))) (hD : ∀ k, k < q → D k < q) (hS : Srt (ltX fun i => textTo (NN i) (VV i) (L i)) D 0 q)
    (x3 x4 x5 x6 x7 x8 x9 x10 x11 x12 x13 x14 x16 x17 x18 x19 x20 x21 x22 x23 x24 x25 x26 x27 x28 x29 x30 x31 x32 x33 x34 x35 x36 x37 x38 x39 x40 x41 x42 x43 x44 x45 x46 x47 x48 x49 x50 x51 x52 x53 x54 x55 x56 x57 x58 x59 x60 x61 x62 x63 x64 x65 x66 x67 x68 x69 x70 x71 x72 x73 x74 x75 x76 x77 x78 x79 x80 x81 x82 x83 x84 x85 x86 x87 x88 x89 x90 x91 x92 x93 x94 x95 x96 x97 x98 x99 x100 x101 x102 x103 x104 x105 x106 x107 x108 x109 x110 x111 x112 x113 x114 x115 x116 x117 x118 x119 x120 x121 x122 x123 x124 x125 x126 x127 x128 x129 x130 x131 x132 x133 x134 x135 x136 x137 x138 x139 x140 x141 x142 x143 x144 x145 x146 x147 x148 x149 x150 x151 x152 x153 x154 x155 x156 x157 x158 x159 x160 x161 x162 x163 x164 x165 x166 x167 x168 x169 x170 x171 x172 x173 x174 x175 x176 x177 x178 x179 x180 x181 x182 x183 x184 x185 x186 x187 x188 x189 x190 x191 x192 x193 x194 x195 x196 x197 x198 x199 x200 x201 x202 x203 x204 x205 x206 x207 x208 x209 x210 x211 x212 x213 x214 x215 x216 x217 x218 x219 x220 x221 x222 x223 x224 x225 x226 x227 x228 x229 x230 : Value) :
    Code.wp Tryd.prog fitsT14 (bodyPost Tryd.prog Tryd.f3 fun e w' => e = .returned (.bool true) ∧ Below w.heap.size w w') ⟨#[.slice la n c, .slice lm m cm, .slice ll q cq, x3, x4, x5, x6, x7, x8, x9, x10, x11, x12, x13, x14, .slice oa q oc, x16, x17, x18, x19, x20, x21, x22, x23, x24, x25, x26, x27, x28, x29, x30, x31, x32, x33, x34, x35, x36, x37, x38, x39, x40, x41, x42, x43, x44, x45, x46, x47, x48, x49, x50, x51, x52, x53, x54, x55, x56, x57, x58, x59, x60, x61, x62, x63, x64, x65, x66, x67, x68, x69, x70, x71, x72, x73, x74, x75, x76, x77, x78, x79, x80, x81, x82, x83, x84, x85, x86, x87, x88, x89, x90, x91, x92, x93, x94, x95, x96, x97, x98, x99, x100, x101, x102, x103, x104, x105, x106, x107, x108, x109, x110, x111, x112, x113, x114, x115, x116, x117, x118, x119, x120, x121, x122, x123, x124, x125, x126, x127, x128, x129, x130, x131, x132, x133, x134, x135, x136, x137, x138, x139, x140, x141, x142, x143, x144, x145, x146, x147, x148, x149, x150, x151, x152, x153, x154, x155, x156, x157, x158, x159, x160, x161, x162, x163, x164, x165, x166, x167, x168, x169, x170, x171, x172, x173, x174, x175, x176, x177, x178, x179, x180, x181, x182, x183, x184, x185, x186, x187, x188, x189, x190, x191, x192, x193, x194, x195, x196, x197, x198, x199, x200, x201, x202, x203, x204, x205, x206, x207, x208, x209, x210, x211, x212, x213, x214, x215, x216, x217, x218, x219, x220, x221, x222, x223, x224, x225, x226, x227, x228, x229, x230], []⟩ w9 := by
  conv => arg 2; whnf
  have HQ : Hid (Lists w ll q A L C NN VV) := hQ
  have HB := (show Hid _ from hb)
  have HSZ := (show Hid _ from hsz)
  have HO := (show Hid _ from ho)
  have HD := (show Hid _ from hD)
  have HS := (show Hid _ from hS)
  clear hQ hb hsz ho hD hS
  obtain ⟨i0, hi, hz0, hz1, hz2⟩ := info_parts Tryd.infoBool
  go_wp2_with (at_make; refine wpList_make_full _ rfl _ _ 46 rfl w9.heap.size 4 i0 (.bool false) 1 Tryd.underlying46 hi hz0 hz1 _ _ _ _ q rfl rfl rfl rfl ?b2 ?b3 (by omega) ?_)
  case b2 => rw [hz2]; omega
  case b3 => unfold maxLen; omega
  intro w10 hown hgrow
  have h0 : SeenAt w9 w10 D q 0 := by
    refine ⟨⟨hgrow.os, hgrow.tape, hgrow.output, hgrow.size, fun j hj => hgrow.block j hj (by simp)⟩, ?_⟩
    rcases hown.2 with ⟨h, _⟩ | ⟨g, cap, cur, h, _, hh, _, _, hs, ht⟩
    · cases h
    · simp at h
      obtain ⟨rfl, rfl⟩ := h
      refine ⟨cur, hh, by omega, fun j hj => ?_⟩
      rw [take_at ht (by omega)]
      show (madeCells #[.bool false] q).toList[j]? = _
      rw [toList_madeCells_one, List.getElem?_replicate, if_pos hj]
      rfl
  have H0 := (show Hid _ from h0)
  clear h0 hown hgrow hi hz0 hz1 hz2
  go_wp2_with fail
  go_loopw [17] (fun i wr => ∃ k : Nat, k ≤ q ∧ i = .int .i64 k ∧ SeenAt w9 wr D q k) (fun i _ => q - (intOf i).toNat)
  case atStart => exact ⟨0, Nat.zero_le _, rfl, H0.out⟩
  case round =>
    obtain ⟨k, hk, rfl, hs⟩ := hrel
    have HSE := (show Hid _ from hs)
    clear hs
    by_cases hkq : k < q
    · rcases HO.out with h | ⟨g, rfl, hcell⟩
      · omega
      have hk0 : (0 : Int) ≤ (k : Int) := by omega
      have hk1 : (k : Int) < (q : Int) := by omega
      have hgl : g < w9.heap.size := World.block_lt_of_cell? w9 ⟨g, _, none⟩ (hcell k hkq)
      have hDk := HD.out k hkq
      obtain ⟨d, hd⟩ : ∃ d, d = D k := ⟨_, rfl⟩
      have ck : wr.cell? ⟨g, k, none⟩ = some (.int .i64 (d : Int)) := by rw [hd]; exact (HSE.out.bel.cell (p := ⟨g, k, none⟩) hgl).trans (hcell k hkq)
      have hd0 : (0 : Int) ≤ (d : Int) := by omega
      have hdq : (d : Int) < (q : Int) := by omega
      have dd0 : decide ((d : Int) < 0) = false := by simp
      have ddq : decide ((q : Int) ≤ (d : Int)) = false := by simp; omega
      have cs : wr.cell? ⟨w9.heap.size, d, none⟩ = some (.bool false) := by rw [hd, (HSE.out.cell hDk).1, seenB_no HS.out hkq]
      have fs : wr.frozen? ⟨w9.heap.size, d, none⟩ = false := by rw [hd]; exact (HSE.out.cell hDk).2
      have HDK := (show Hid _ from hd)
      have HCELL := (show Hid _ from hcell)
      clear hd hcell hDk
      cases k with
      | zero =>
        have HPUT : Hid (SeenAt w9 (wr.setCell ⟨w9.heap.size, d, none⟩ (.bool true)) D q 1) := by rw [HDK.out]; exact HSE.out.put
        go_wp2
        go_roundw
        case rel => exact ⟨1, by omega, by go_num, HPUT.out⟩
        case measure => simp [intOf] <;> omega
      | succ j =>
        obtain ⟨d', hd'⟩ : ∃ d', d' = D j := ⟨_, rfl⟩
        have hDj : d' < q := by rw [hd']; exact HD.out j (by omega)
        have hDk : d < q := by omega
        have hkl := HS.out j (j + 1) (by omega) (by omega) hkq
        rw [← HDK.out, ← hd'] at hkl
        have HPUT : Hid (SeenAt w9 (wr.setCell ⟨w9.heap.size, d, none⟩ (.bool true)) D q (j + 2)) := by rw [HDK.out]; exact HSE.out.put
        obtain ⟨wp, hwp⟩ : ∃ wp, wp = wr.setCell ⟨w9.heap.size, d, none⟩ (.bool true) := ⟨_, rfl⟩
        rw [← hwp] at HPUT
        have hbp := HPUT.out.bel
        have HBP : Hid (Below w.heap.size w wp) := HB.out.trans (hbp.mono HB.out.size)
        have cj : wp.cell? ⟨g, j, none⟩ = some (.int .i64 (d' : Int)) := by rw [hd']; exact (hbp.cell (p := ⟨g, j, none⟩) hgl).trans (HCELL.out j (by omega))
        have ck' : wp.cell? ⟨g, j + 1, none⟩ = some (.int .i64 (d : Int)) := by rw [HDK.out]; exact (hbp.cell (p := ⟨g, j + 1, none⟩) hgl).trans (HCELL.out (j + 1) hkq)
        rcases HQ.out with h | ⟨lb, lo, rfl, hls⟩
        · omega
        obtain ⟨l0, hL0, _, hI0⟩ := hls d' hDj
        obtain ⟨l1, hL1, _, hI1⟩ := hls d hDk
        have hlb : lb < w.heap.size := World.block_lt_of_cell? w ⟨lb, _, none⟩ l0
        have e0 : wp.cell? ⟨lb, lo + d', none⟩ = some (.slice (A d') (L d') (C d')) := (HBP.out.cell (p := ⟨lb, _, none⟩) hlb).trans l0
        have e1 : wp.cell? ⟨lb, lo + d, none⟩ = some (.slice (A d) (L d) (C d)) := (HBP.out.cell (p := ⟨lb, _, none⟩) hlb).trans l1
        have hd'0 : (0 : Int) ≤ (d' : Int) := by omega
        have hd'q : (d' : Int) < (q : Int) := by omega
        have hj0 : (0 : Int) ≤ (j : Int) := by omega
        have hj1 : (j : Int) < (q : Int) := by omega
        have HT0 := (show Hid _ from labels_text wp (A d') (L d') (C d') (NN d') (VV d') (hL0.below HBP.out) (fun i hi => by have := (HSZ.out d' hDj).2 i hi; omega) (by have := (HSZ.out d' hDj).1; omega))
        have HT1 := (show Hid _ from fun z => labels_text (wp.drewN z) (A d) (L d) (C d) (NN d) (VV d) (hL1.below (below_draws HBP.out z)) (fun i hi => by have := (HSZ.out d hDk).2 i hi; omega) (by have := (HSZ.out d hDk).1; omega))
        obtain ⟨ta, hta⟩ : ∃ ta, ta = textTo (NN d') (VV d') (L d') := ⟨_, rfl⟩
        obtain ⟨tb, htb⟩ : ∃ tb, tb = textTo (NN d) (VV d) (L d) := ⟨_, rfl⟩
        rw [← hta] at HT0
        rw [← htb] at HT1
        have HKL : Hid (Op.bytesLess tb.toList ta.toList = false ∧ (ta.toList = tb.toList → d' < d)) := by
          have hlt : ∀ i j, ltX (fun i => textTo (NN i) (VV i) (L i)) i j = Op.bytesLess (textTo (NN i) (VV i) (L i)).toList (textTo (NN j) (VV j) (L j)).toList := fun _ _ => rfl
          rcases hkl with h | ⟨h, h'⟩
          · have h2 := (swX (fun i => textTo (NN i) (VV i) (L i))).asym _ _ h
            rw [hlt] at h h2
            rw [← hta, ← htb] at h h2
            refine ⟨h2, fun e => ?_⟩
            rw [e] at h
            rw [e] at h2
            rw [h] at h2
            cases h2
          · rw [hlt, ← hta, ← htb] at h
            exact ⟨h, fun _ => h'⟩
        have HWP := (show Hid _ from hwp)
        clear hkl hd' hbp l0 hL0 l1 hL1 hls hta htb hwp HDK
        go_upto_region 41 with fail
        rw [← HWP.out]
        clear cs fs ck
        go_wp2_with fail
        refine Calls.mono HT0.out ?_
        rintro e w11 ⟨rfl, z0, hw11⟩
        have hw11' := hw11
        subst hw11'
        go_wp2_with fail
        refine Calls.mono (HT1.out z0) ?_
        rintro e w12 ⟨rfl, z1, hw12⟩
        have hw12' := hw12
        subst hw12'
        go_wp2_with fail
        have b1 := HKL.out.1
        have HLE := (show Hid _ from HKL.out.2)
        by_cases he : ta.toList = tb.toList
        · have b3 : decide (d < d') = false := by have := HLE.out he; simp; omega
          have hab : ta = tb := by
            apply ByteArray.ext
            rw [ByteArray.toList_eq, ByteArray.toList_eq] at he
            exact Array.toList_inj.1 he
          subst hab
          clear he HKL
          go_quiet (fail)
          go_wp2
          refine ⟨⟨j + 2, by omega, by go_num, HPUT.out.drewN _⟩, ?_⟩
          simp [intOf] <;> omega
        · have b2 : (ta.toList == tb.toList) = false := by simpa using he
          have b5 : Op.bytesLess ta.toList tb.toList = true := by
            rw [bytesLess_eq] at b1 ⊢
            have h1 := of_decide_eq_false b1
            rcases List.le_iff_lt_or_eq.1 (List.not_lt.1 h1) with h | h
            · exact decide_eq_true h
            · exact absurd h he
          clear HKL
          go_quiet (fail)
          go_wp2
          refine ⟨⟨j + 2, by omega, by go_num, HPUT.out.drewN _⟩, ?_⟩
          simp [intOf] <;> omega
    · obtain rfl : k = q := by omega
      have HBF : Hid (Below w.heap.size w wr) := HB.out.trans (HSE.out.bel.mono HB.out.size)
      go_wp2
      go_ret
      exact ⟨rfl, HBF.out⟩
end Go.Proofs.YtfanagohfimnkaaDoor
