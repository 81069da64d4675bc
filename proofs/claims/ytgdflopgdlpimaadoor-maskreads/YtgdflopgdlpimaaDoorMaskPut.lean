/- Package mask's forms by contracts: size, put. -/
import Derived.Test.YtgdflopgdlpimaaDoorMaskParts
import Derived.Test.YtgdflopgdlpimaaDoorWavePut
namespace BitMath
theorem bitsP_snoc (l : List (Nat × Nat)) (p : Nat × Nat) : bitsP (l ++ [p]) = bitsP l ++ bitsOf p.1 p.2 := by simp [bitsP]
theorem bitsP_append (a b : List (Nat × Nat)) : bitsP (a ++ b) = bitsP a ++ bitsP b := by simp [bitsP]
/-- The bits between are those of the value, shifted. -/
theorem mid_bits (x L T : Nat) (_h : L + T ≤ 64) : ((bitsOf x 64).drop L).take (64 - T - L) = bitsOf (x / 2 ^ T) (64 - L - T) := by
  have hl := length_bitsOf x 64
  apply List.ext_getElem?
  intro i
  by_cases hi : i < 64 - T - L
  · rw [List.getElem?_take_of_lt hi, List.getElem?_drop, List.getElem?_eq_getElem (by omega), List.getElem?_eq_getElem (by rw [length_bitsOf]; omega), getElem_bitsOf, getElem_bitsOf, Nat.testBit_div_two_pow]
    congr 2
    omega
  · rw [List.getElem?_eq_none (by rw [List.length_take]; omega), List.getElem?_eq_none (by rw [length_bitsOf]; omega)]
theorem mBits_parts {u : Bool × Nat × Nat} (hu : WinOK u) (x : Nat) (hx : x < 18446744073709551616) : mBits u x = bitsP (partsOf (wayOf u x) (mNext u x).2.1 (wideW (mNext u x)) x) := by
  unfold mBits wayOf mNext partsOf bitsP
  by_cases h0 : x = 0
  · simp only [if_pos h0]
    rfl
  · simp only [if_neg h0]
    have hlt := lead_tail x hx h0
    by_cases hf : mFits u x = true
    · simp only [if_pos hf]
      have h1 : u.1 = true := by
        unfold mFits at hf
        simp at hf
        exact hf.1
      have hw : wideW u = 64 - u.2.1 - u.2.2 := by unfold wideW; rw [if_pos h1]
      have hle := hu.2.2
      rw [hw, mid_bits x u.2.1 u.2.2 (by omega), if_neg (by decide), if_pos trivial]
      have e : 64 - u.2.1 - (64 - u.2.1 - u.2.2) = u.2.2 := by omega
      rw [e]
      simp [bitsOf]
      decide
    · simp only [if_neg hf]
      have hw : wideW (true, mLead x, mTail x) = 64 - mLead x - mTail x := by unfold wideW; simp
      rw [hw, mid_bits x (mLead x) (mTail x) (by omega), if_neg (by decide), if_neg (by decide)]
      have e : 64 - mLead x - (64 - mLead x - mTail x) = mTail x := by omega
      show _ = List.flatMap _ [(3, 2), (mLead x, 5), (64 - mLead x - mTail x, 6), (x / 2 ^ (64 - mLead x - (64 - mLead x - mTail x)), 64 - mLead x - mTail x)]
      rw [e]
      simp [bitsOf]
      decide
def sumP (l : List (Nat × Nat)) : Nat := (bitsP l).length
theorem sumP_snoc (l : List (Nat × Nat)) (p : Nat × Nat) : sumP (l ++ [p]) = sumP l + p.2 := by unfold sumP; rw [bitsP_snoc, List.length_append, length_bitsOf]
end BitMath
namespace BitMath
theorem sumP_parts (y L W x : Nat) : sumP (partsOf y L W x) = sumP (partsOf y L W 0) := by
  unfold partsOf sumP bitsP
  split
  · rfl
  · split <;> simp [length_bitsOf]
theorem parts_ok (y L W x : Nat) (h : L + W ≤ 64) (hx : x < 18446744073709551616) : (partsOf y L W x).length ≤ 4 ∧ ∀ p, p ∈ partsOf y L W x → p.1 < 18446744073709551616 ∧ p.2 ≤ 64 := by
  have hd : x / 2 ^ (64 - L - W) < 18446744073709551616 := Nat.lt_of_le_of_lt (Nat.div_le_self _ _) hx
  unfold partsOf
  split
  · simp
  · split
    · simp; omega
    · simp; omega
theorem sumP_take (l : List (Nat × Nat)) (k : Nat) (hk : k < l.length) : sumP (l.take (k + 1)) = sumP (l.take k) + l[k].2 := by
  rw [List.take_succ_eq_append_getElem hk, sumP_snoc]
theorem bitsP_take (l : List (Nat × Nat)) (k : Nat) (hk : k < l.length) : bitsP (l.take (k + 1)) = bitsP (l.take k) ++ bitsOf l[k].1 l[k].2 := by
  rw [List.take_succ_eq_append_getElem hk, bitsP_snoc]
theorem sumP_le (l : List (Nat × Nat)) (h : ∀ p, p ∈ l → p.2 ≤ 64) : sumP l ≤ 64 * l.length := by
  induction l with
  | nil => exact Nat.le_refl _
  | cons a r ih =>
    have h1 := ih (fun p hp => h p (List.mem_cons_of_mem _ hp))
    have h2 := h a (List.mem_cons_self ..)
    have e : sumP (a :: r) = a.2 + sumP r := by simp [sumP, bitsP, length_bitsOf]
    rw [e, List.length_cons]
    omega
end BitMath
namespace Go.Proofs.YtgdflopgdlpimaaDoor
open Go.RowKit

theorem partCells_at : ∀ (l : List (Nat × Nat)) (k : Nat) (hk : k < l.length), (partCells l)[k * 2]? = some (.int .u64 (l[k].1 : Int)) ∧ (partCells l)[k * 2 + 1]? = some (.int .i64 (l[k].2 : Int))
  | [], k, hk => by simp at hk
  | a :: r, 0, _ => by simp [partCells]
  | a :: r, k + 1, hk => by
    have ih := partCells_at r k (by simpa using hk)
    have e : partCells (a :: r) = .int .u64 (a.1 : Int) :: .int .i64 (a.2 : Int) :: partCells r := by simp [partCells]
    rw [e, show (k + 1) * 2 = k * 2 + 1 + 1 by omega]
    simp only [List.getElem?_cons_succ, List.getElem_cons_succ]
    exact ih

set_option maxRecDepth 100000 in
set_option maxHeartbeats 1000000 in
theorem mfsize_any (y L W : Nat) (w : World) (hy : y ≤ 2) (h : L + W ≤ 64) :
    Calls Tryd.prog 71 #[formV y L W] w fun e w' => e = .returned (.int .i64 ((BitMath.sumP (BitMath.partsOf y L W 0) : Nat) : Int)) ∧ Below w.heap.size w w' := by
  have HP := (show Hid _ from fun w0 => parts_any y L W 0 w0 hy h)
  obtain ⟨hl4, hpp⟩ := BitMath.parts_ok y L W 0 h (by decide)
  generalize BitMath.partsOf y L W 0 = l at *
  unfold formV at HP ⊢
  have HPP := (show Hid _ from hpp)
  clear hpp
  go_enter Tryd.func71, Tryd.ntmps71
  go_wp2_with fail
  refine Calls.mono (HP.out _) ?_
  rintro e w1 ⟨g, rfl, hg, hblk, hb1⟩
  have hb : Below w.heap.size w w1 := ((Below.refl _ _).alloc (Nat.le_refl _) _).trans (hb1.mono (by simp))
  have hg1 : g < w1.heap.size := lt_of_block hblk
  have HB := (show Hid _ from hb)
  have HBLK := (show Hid _ from hblk)
  clear hb1 hb hblk HP
  go_wp2_with fail
  go_loopw [3, 5, 9] (fun s _ i wr => ∃ k : Nat, k ≤ l.length ∧ i = .int .i64 k ∧ s = .int .i64 ((BitMath.sumP (l.take k) : Nat) : Int) ∧ Below w1.heap.size w1 wr) (fun _ _ i _ => l.length - (intOf i).toNat)
  case atStart => exact ⟨0, Nat.zero_le _, rfl, rfl, Below.refl _ _⟩
  case round =>
    obtain ⟨k, hk, rfl, rfl, hbr⟩ := hrel
    by_cases hlt : k < l.length
    · have hblk := (hbr.block g hg1).trans HBLK.out
      obtain ⟨p0, p1⟩ := partCells_at l k hlt
      have q0 : wr.cell? ⟨g, k * 2, none⟩ = some (.int .u64 (l[k].1 : Int)) := by rw [cells_of hblk, List.getElem?_toArray]; exact p0
      have q1 : wr.cell? ⟨g, k * 2 + 1, none⟩ = some (.int .i64 (l[k].2 : Int)) := by rw [cells_of hblk, List.getElem?_toArray]; exact p1
      have HS := (show Hid _ from BitMath.sumP_take l k hlt)
      have hb2 := (HPP.out l[k] (List.getElem_mem hlt)).2
      have hsl : BitMath.sumP (l.take k) ≤ 256 := by
        have h1 := BitMath.sumP_le (l.take k) (fun p hp => (HPP.out p (List.mem_of_mem_take hp)).2)
        have h2 : (l.take k).length ≤ 4 := Nat.le_trans (List.length_take_le _ _) (by omega)
        omega
      generalize hc1 : l[k].1 = c1 at *
      generalize hc2 : l[k].2 = c2 at *
      generalize hS : BitMath.sumP (l.take k) = S at *
      have hSI : (S : Int) ≤ 256 := by omega
      have hcI : (c2 : Int) ≤ 64 := by omega
      have hkI : (k : Int) < (l.length : Int) := by omega
      have HBR := (show Hid _ from hbr)
      clear hblk p0 p1 hbr hb2 hsl hc1 hc2 hS
      go_wp2
      go_roundw
      case rel => exact ⟨k + 1, by omega, by go_num, by rw [HS.out]; go_num, HBR.out.alloc HBR.out.size _⟩
      case measure => simp [intOf]; omega
    · have : k = l.length := by omega
      subst this
      have HBR := (show Hid _ from hbr)
      clear hbr
      simp only [List.take_length]
      go_wp2
      go_ret
      exact ⟨rfl, HB.out.trans (HBR.out.mono HB.out.size)⟩

set_option maxRecDepth 100000 in
set_option maxHeartbeats 1000000 in
theorem mfput_any (y L W x : Nat) (w : World) (hy : y ≤ 2) (h : L + W ≤ 64) (hx : x < 18446744073709551616) (r : Nat) (v : Value) (bs : List Bool) (hr : IsRow w r v bs) (hsz : bs.length + BitMath.sumP (BitMath.partsOf y L W x) ≤ 1048576) :
    Calls Tryd.prog 70 #[formV y L W, .pointer (some ⟨r, 0, none⟩), .int .u64 (x : Int)] w fun e w' => e = .returned .nilIface ∧ ∃ v', IsRow w' r v' (bs ++ BitMath.bitsP (BitMath.partsOf y L W x)) ∧ Kept (r :: v.ownBlock.toList) w w' ∧ Grew w v v' := by
  have HP := (show Hid _ from fun w0 => parts_any y L W x w0 hy h)
  obtain ⟨hl4, hpp⟩ := BitMath.parts_ok y L W x h hx
  generalize BitMath.partsOf y L W x = l at *
  unfold formV at HP ⊢
  have HPP := (show Hid _ from hpp)
  have HR := (show Hid _ from hr)
  have HSZ := (show Hid _ from hsz)
  clear hpp hr hsz hx
  go_enter Tryd.func70, Tryd.ntmps70
  go_wp2_with fail
  refine Calls.mono (HP.out _) ?_
  rintro e w1 ⟨g, rfl, hg, hblk, hb1⟩
  have hb : Below w.heap.size w w1 := ((Below.refl _ _).alloc (Nat.le_refl _) _).trans (hb1.mono (by simp))
  have hg1 : g < w1.heap.size := lt_of_block hblk
  have hgw : w.heap.size < g := by simp at hg; omega
  have hgS : g ∉ r :: v.ownBlock.toList := fun hm => by have := HR.out.own_lt g hm; omega
  have HB := (show Hid _ from hb)
  have HBLK := (show Hid _ from hblk)
  have HGS : Hid (g ∉ r :: v.ownBlock.toList) := hgS
  clear hb1 hb hblk HP hgS hg
  go_wp2_with fail
  go_loopw [8, 9, 14] (fun _ _ i wr => ∃ (k : Nat) (vr : Value), k ≤ l.length ∧ i = .int .i64 k ∧ IsRow wr r vr (bs ++ BitMath.bitsP (l.take k)) ∧ Kept (r :: v.ownBlock.toList) w1 wr ∧ Grew w1 v vr) (fun _ _ i _ => l.length - (intOf i).toNat)
  case atStart => exact ⟨0, v, Nat.zero_le _, rfl, by rw [List.take_zero]; simp [BitMath.bitsP]; exact HR.out.below HB.out, Kept.refl _ _, .inl rfl⟩
  case round =>
    obtain ⟨k, vr, hk, rfl, hrow, hkr, hgr⟩ := hrel
    by_cases hlt : k < l.length
    · have hblk := (hkr.block g hg1 HGS.out).trans HBLK.out
      obtain ⟨p0, p1⟩ := partCells_at l k hlt
      have q0 : wr.cell? ⟨g, k * 2, none⟩ = some (.int .u64 (l[k].1 : Int)) := by rw [cells_of hblk, List.getElem?_toArray]; exact p0
      have q1 : wr.cell? ⟨g, k * 2 + 1, none⟩ = some (.int .i64 (l[k].2 : Int)) := by rw [cells_of hblk, List.getElem?_toArray]; exact p1
      have HS := (show Hid _ from BitMath.bitsP_take l k hlt)
      obtain ⟨hb1, hb2⟩ := HPP.out l[k] (List.getElem_mem hlt)
      have hlen : (bs ++ BitMath.bitsP (l.take k)).length + l[k].2 ≤ 1048576 := by
        have h1 := HSZ.out
        have h2 : BitMath.sumP (l.take (k + 1)) ≤ BitMath.sumP l := by
          have e : BitMath.bitsP l = BitMath.bitsP (l.take (k + 1)) ++ BitMath.bitsP (l.drop (k + 1)) := by
            rw [← BitMath.bitsP_append, List.take_append_drop]
          unfold BitMath.sumP
          rw [e, List.length_append]
          omega
        rw [BitMath.sumP_take l k hlt] at h2
        rw [List.length_append]
        unfold BitMath.sumP at h1 h2
        omega
      have hput := fun w0 hr0 => put_grow w0 r vr (bs ++ BitMath.bitsP (l.take k)) hr0 l[k].1 l[k].2 (by omega) (by omega) hlen
      generalize hc1 : l[k].1 = c1 at *
      generalize hc2 : l[k].2 = c2 at *
      have HPUT := (show Hid _ from hput)
      have hkI : (k : Int) < (l.length : Int) := by omega
      have HKR := (show Hid _ from hkr)
      have HGR : Hid (Grew w1 v vr) := hgr
      have HROW := (show Hid _ from hrow)
      clear hblk p0 p1 hkr hb2 hb1 hlen hput hc1 hc2 hgr hrow
      go_wp2_with fail
      refine Calls.mono (HPUT.out _ (HROW.out.below ((Below.refl _ _).alloc (Nat.le_refl _) _))) ?_
      rintro e w3 ⟨rfl, v3, hr3, hk3, hg3⟩
      have hk4 : Kept (r :: v.ownBlock.toList) w1 w3 := (HKR.out.alloc _).trans hk3 (fun z hz => Grew.mem HGR.out z hz)
      have hg4 : Grew w1 v v3 := Grew.trans HGR.out hg3 (by have := HKR.out.size; simp; omega)
      have HK4 := (show Hid _ from hk4)
      have HG4 : Hid (Grew w1 v v3) := hg4
      have hr4 : IsRow w3 r v3 (bs ++ BitMath.bitsP (l.take (k + 1))) := by rw [HS.out, ← List.append_assoc]; exact hr3
      have HR4 := (show Hid _ from hr4)
      clear hk3 hk4 hg3 hg4 hr3 hr4 q0 q1
      go_wp2
      go_roundw
      case rel => exact ⟨k + 1, v3, by omega, by go_num, HR4.out, HK4.out, HG4.out⟩
      case measure => simp [intOf]; omega
    · have : k = l.length := by omega
      subst this
      have HKR := (show Hid _ from hkr)
      have HGR : Hid (Grew w1 v vr) := hgr
      have HROW := (show Hid _ from hrow)
      clear hkr hgr hrow
      go_wp2
      go_ret
      exact ⟨rfl, vr, by rw [List.take_length] at HROW; exact HROW.out, (Kept.of_below HB.out).trans HKR.out (fun z hz => .inl hz), Grew.trans (w := w) (v1 := v) (.inl rfl) HGR.out HB.out.size⟩
end Go.Proofs.YtgdflopgdlpimaaDoor
