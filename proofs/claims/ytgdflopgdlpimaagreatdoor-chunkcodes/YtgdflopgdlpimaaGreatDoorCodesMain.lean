/- ChunkCodes by its walk: any points as a chunk, which is read. -/
import Derived.Test.YtgdflopgdlpimaaGreatDoorIsPackedGroup
import Derived.Test.YtgdflopgdlpimaaGreatDoorPtsOwn
import Derived.Test.YtgdflopgdlpimaaGreatDoorFaulted
import Derived.Test.YtgdflopgdlpimaaGreatDoorRefReadGroup
import Derived.Deep.RegionHeld3
namespace Go.Proofs.YtgdflopgdlpimaaGreatDoor
open Go.RowKit

theorem below_drew {b : Nat} {w w' : World} (h : Below b w w') : Below b w w'.drew := h.trans ⟨rfl, rfl, rfl, Nat.le_refl _, fun _ _ => rfl⟩

set_option maxRecDepth 1000000 in
theorem codes_long {Bd : Nat} {ea : Nat → Addr} (w : World) (E : Env Bd ea w) (hBd : Bd ≤ w.heap.size) (hF : Forms w) (hT : Tab w) (la : Option Addr) (n c : Nat) (hnn : (n : Int) ≤ 9223372036854775807) (h1 : 30 < n) (h2 : n ≠ 121) :
    Calls Tryz.prog 3 #[.slice la n c] w fun e w' => e = .returned (.bool true) ∧ Below w.heap.size w w' := by
  have HCH := (show Hid _ from chunked_any w E.ern hBd hF hT)
  have d1 : decide ((30 : Int) < (n : Int)) = true := by simp; omega
  have d2 : ((n : Int) == 121) = false := by rw [beq_eq_false_iff_ne]; omega
  go_enter Tryz.func3, Tryz.ntmps3
  go_wp2_with fail
  refine Calls.mono HCH.out ?_
  rintro e w1 ⟨rfl, hb1⟩
  have HB1 := (show Hid _ from hb1)
  clear hb1
  go_wp2
  go_ret
  exact ⟨rfl, HB1.out⟩

set_option maxRecDepth 1000000 in
set_option maxHeartbeats 4000000 in
theorem codes_ok {Bd : Nat} {ea : Nat → Addr} (w : World) (E : Env Bd ea w) (hBd : Bd ≤ w.heap.size) (hF : Forms w) (hT : Tab w) (la : Option Addr) (n c : Nat) (T : Nat → Int) (B : Nat → Nat) (hP : Pts w la n T B) (hn : n ≤ 30) (hok : ∀ i, i < n → ptOk T i = true) :
    Calls Tryz.prog 3 #[.slice la n c] w fun e w' => e = .returned (.bool true) ∧ Below w.heap.size w w' := by
  have HCH := (show Hid _ from chunked_any w E.ern hBd hF hT)
  have HE := (show Hid _ from E)
  have HF : Hid (Forms w) := hF
  have HT : Hid (Tab w) := hT
  have HP : Hid (Pts w la n T B) := hP
  have HOK := (show Hid _ from hok)
  have hFl := hF.lt
  have hTl := hT.lt
  have d1 : decide ((30 : Int) < (n : Int)) = false := by simp; omega
  obtain ⟨z, hz⟩ : ∃ z : ByteArray, z = ⟨(chunkBytes T B n).toArray⟩ := ⟨_, rfl⟩
  have hzd : z.data.toList = chunkBytes T B n := by rw [hz]
  have hzz : z.size ≤ 10000 := by
    have h0 : z.size = (chunkBytes T B n).length := by rw [← hzd]; exact Array.length_toList.symm
    have h1 := length_rowBits T B n
    have h3 : (chunkBytes T B n).length = (BitMath.pack (rowBits T B n)).length + 4 := by rw [chunkBytes, BitMath.sealOf, List.length_append, length_fourOf]
    rw [BitMath.length_pack] at h3
    omega
  have HZ := (show Hid _ from hz)
  have HZD := (show Hid _ from hzd)
  clear E hF hT hP hok hz hzd
  go_enter Tryz.func3, Tryz.ntmps3
  go_wp2_with fail
  refine Calls.mono HCH.out ?_
  rintro e w1 ⟨rfl, hb1⟩
  have HB1 := (show Hid _ from hb1)
  have HOW := (show Hid _ from own_points2 w1 la n c T B (HP.out.below hb1) (by omega))
  clear hb1 HCH
  go_wp2_with fail
  refine Calls.mono HOW.out ?_
  rintro e w2 ⟨oa, oc, rfl, hP2, hb2⟩
  have HB2 : Hid (Below w.heap.size w w2) := HB1.out.trans (hb2.mono HB1.out.size)
  have HEN := (show Hid _ from encode_any w2 (HE.out.below HB2.out hBd).ern (HF.out.below HB2.out hFl) (HT.out.below HB2.out hTl) oa n oc T B hP2 (by omega) n (Nat.le_refl _) HOK.out (fun h => absurd h (by omega)))
  clear hb2 hP2 HOW
  go_wp2_with fail
  refine Calls.mono HEN.out ?_
  rintro e w3 ⟨hb3, ⟨_, rfl⟩ | ⟨hlt, _⟩⟩
  · rw [← HZ.out]
    have HB3 : Hid (Below w.heap.size w w3) := HB2.out.trans (hb3.mono HB2.out.size)
    have HPF := (show Hid _ from points_fault w3 la n c T B (HP.out.below HB3.out) (by omega) n (Nat.le_refl _) HOK.out (fun h => absurd h (by omega)) 0 (-1) (by rw [if_neg (by omega)]) (by rw [if_neg (by omega)]))
    clear hb3 HEN
    go_wp2_with fail
    refine Calls.mono HPF.out ?_
    rintro e w4 ⟨rfl, hb4⟩
    have HB4 : Hid (Below w.heap.size w w4) := HB3.out.trans (hb4.mono HB3.out.size)
    clear hb4 HPF
    go_wp2_with fail
    obtain ⟨W5, hW5⟩ : ∃ W5, W5 = w4.alloc (.cells #[.int .i64 (0), .int .i64 (-1)] 30) := ⟨_, rfl⟩
    rw [← hW5]
    have hb5 : Below w4.heap.size w4 W5 := by rw [hW5]; exact (Below.refl _ _).alloc (Nat.le_refl _) _
    have hblk : W5.heap[w4.heap.size]? = some (.cells #[.int .i64 (0), .int .i64 (-1)] 30 (0, 0)) := by rw [hW5]; exact heap_alloc_new _ _
    have h5l : w4.heap.size < W5.heap.size := by rw [hW5]; simp
    have k0 : W5.cell? ⟨w4.heap.size, 0, none⟩ = some (.int .i64 (0)) := cells_of hblk 0
    have k1 : W5.cell? ⟨w4.heap.size, 1, none⟩ = some (.int .i64 (-1)) := cells_of hblk 1
    have HB5 : Hid (Below w.heap.size w W5) := HB4.out.trans (hb5.mono HB4.out.size)
    have HS : Hid (∀ w0, Below W5.heap.size W5 w0 → w0.cell? ⟨w4.heap.size, 0, none⟩ = some (.int .i64 (0)) ∧ w0.cell? ⟨w4.heap.size, 1, none⟩ = some (.int .i64 (-1))) := fun w0 h => ⟨(h.cell (p := ⟨w4.heap.size, 0, none⟩) h5l).trans (cells_of hblk 0), (h.cell (p := ⟨w4.heap.size, 1, none⟩) h5l).trans (cells_of hblk 1)⟩
    have HOW6 : Hid (∀ w0, Below W5.heap.size W5 w0 → Calls Tryz.prog 7 #[.slice la n c] w0 fun e w' => ∃ a c', e = .returned (.slice a n c') ∧ (w'.cell? ⟨w4.heap.size, 0, none⟩ = some (.int .i64 (0)) ∧ w'.cell? ⟨w4.heap.size, 1, none⟩ = some (.int .i64 (-1))) ∧ Below W5.heap.size W5 w' ∧ Pts w' a n T B) := fun w0 h => by
      have hw0 : Below w.heap.size w w0 := HB5.out.trans (h.mono HB5.out.size)
      refine (own_points2 w0 la n c T B (HP.out.below hw0) (by omega)).mono ?_
      rintro e w' ⟨a, c', rfl, hp, hb⟩
      have h2 := h.trans (hb.mono h.size)
      exact ⟨a, c', rfl, HS.out w' h2, h2, hp⟩
    have HCK6 : Hid (∀ w0 a c', Below W5.heap.size W5 w0 → Pts w0 a n T B → Calls Tryz.prog 10 #[.slice a n c'] w0 fun e w' => e = .returned .nilIface ∧ (w'.cell? ⟨w4.heap.size, 0, none⟩ = some (.int .i64 0) ∧ w'.cell? ⟨w4.heap.size, 1, none⟩ = some (.int .i64 (-1))) ∧ Below W5.heap.size W5 w') := fun w0 a c' h hp => by
      have hw0 : Below w.heap.size w w0 := HB5.out.trans (h.mono HB5.out.size)
      refine (check_any w0 a n c' T B hp (by omega) n (Nat.le_refl _) HOK.out (fun h => absurd h (by omega)) (ea 1) (ea 7) (HE.out.below hw0 hBd).c1 (HE.out.below hw0 hBd).c7).mono ?_
      rintro e w' ⟨hb, ⟨_, rfl⟩ | ⟨hlt, _⟩⟩
      · have h2 := h.trans (hb.mono h.size)
        exact ⟨rfl, HS.out w' h2, h2⟩
      · omega
    have HFA6 : Hid (∀ w0, Below W5.heap.size W5 w0 → Calls Tryz.prog 9 #[.nilIface, .agg #[.int .i64 0, .int .i64 (-1)]] w0 fun e w' => e = .returned (.bool true) ∧ (w'.cell? ⟨w4.heap.size, 0, none⟩ = some (.int .i64 0) ∧ w'.cell? ⟨w4.heap.size, 1, none⟩ = some (.int .i64 (-1))) ∧ Below W5.heap.size W5 w') := fun w0 h => by
      refine (faulted_nil w0 (-1)).mono ?_
      rintro e w' ⟨rfl, hb⟩
      have h2 := h.trans (hb.mono h.size)
      exact ⟨rfl, HS.out w' h2, h2⟩
    have HC0 : Hid (Below W5.heap.size W5 W5) := Below.refl _ _
    clear hb5 hblk hW5 h5l
    go_region_held3 (fun w' => w'.cell? ⟨w4.heap.size, 0, none⟩ = some (.int .i64 0) ∧ w'.cell? ⟨w4.heap.size, 1, none⟩ = some (.int .i64 (-1))) (go_keep) ((first | (go_at_call 7; refine Calls.mono (HOW6.out _ (by first | exact HC0.out | exact below_drew HC0.out)) ?_; rintro e w6 ⟨a6, c6, rfl, ⟨k0, k1⟩, hc6, hp6⟩; have HC6 := (show Hid _ from hc6); have HP6 := (show Hid _ from hp6); clear hc6 hp6 HOW6) | (go_at_call 10; refine Calls.mono (HCK6.out _ _ _ (by first | exact HC6.out | exact below_drew HC6.out) (by exact HP6.out)) ?_; rintro e w7 ⟨rfl, ⟨k0, k1⟩, hc7⟩; have HC7 := (show Hid _ from hc7); clear hc7 HCK6 HP6) | (go_at_call 9; refine Calls.mono (HFA6.out _ (by first | exact HC7.out | exact below_drew HC7.out)) ?_; rintro e w8 ⟨rfl, ⟨k0, k1⟩, hc8⟩; have HC8 := (show Hid _ from hc8); clear hc8 HFA6)))
    have HB8 : Hid (Below w.heap.size w w8) := HB5.out.trans (HC8.out.mono HB5.out.size)
    have hde := decode_any w8 (HE.out.below HB8.out hBd).ern (Nat.le_trans hBd HB8.out.size) (HF.out.below HB8.out hFl) (HT.out.below HB8.out hTl) z hzz
    rw [HZD.out] at hde
    have HDE := (show Hid _ from hde)
    clear hde
    go_wp2_with fail
    refine Calls.mono HDE.out ?_
    rintro e w9 ⟨hb9, ⟨n', T', B', v, hn', hok', hB', he, hown, rfl⟩ | ⟨hnot, _⟩⟩
    · have hTB := pts_bounds HP.out
      obtain ⟨hnn', hTT, hBB⟩ := chunk_same T T' B B' n n' (by omega) hn' HOK.out hok' hTB.2 hB' he
      subst hnn'
      rw [← ptCells_congr T T' B B' n hTT hBB] at hown
      obtain ⟨va, vc, rfl, hPv⟩ := pts_own hown hTB.1 hTB.2
      have HB9 : Hid (Below w.heap.size w w9) := HB8.out.trans (hb9.mono HB8.out.size)
      have HPV : Hid (Pts w9 va n T B) := hPv
      have hck := chunkOf_any w9 la n c T B (HP.out.below HB9.out) (by omega) (fun i hi => ptOk_tick T i (HOK.out i hi))
      rw [← HZ.out] at hck
      have HCK9 := (show Hid _ from hck)
      clear hb9 hok' hB' he hown hTT hBB hn' hTB hPv hck HDE
      go_wp2_with fail
      refine Calls.mono HCK9.out ?_
      rintro e w10 ⟨rfl, hb10⟩
      have HB10 : Hid (Below w.heap.size w w10) := HB9.out.trans (hb10.mono HB9.out.size)
      have HSM := (show Hid _ from same_points w10 va la n vc c T B (HPV.out.below hb10) (HP.out.below HB10.out) (by omega))
      clear hb10 HCK9 HPV
      go_wp2_with fail
      refine Calls.mono HSM.out ?_
      rintro e w11 ⟨rfl, q, hw11⟩
      have HB11 : Hid (Below w.heap.size w w11) := by rw [hw11]; exact below_drewN HB10.out q
      clear hw11 HSM
      go_wp2
      go_ret
      exact ⟨by simp, HB11.out⟩
    · exact absurd ⟨n, T, B, by omega, HOK.out, (pts_bounds HP.out).2, rfl⟩ hnot
  · omega

set_option maxRecDepth 1000000 in
set_option maxHeartbeats 4000000 in
theorem codes_bad {Bd : Nat} {ea : Nat → Addr} (w : World) (E : Env Bd ea w) (hBd : Bd ≤ w.heap.size) (hF : Forms w) (hT : Tab w) (la : Option Addr) (n c : Nat) (T : Nat → Int) (B : Nat → Nat) (hP : Pts w la n T B) (hn : n ≤ 30) (m : Nat) (hm : m < n) (hok : ∀ i, i < m → ptOk T i = true) (hbad : ptOk T m = false) :
    Calls Tryz.prog 3 #[.slice la n c] w fun e w' => e = .returned (.bool true) ∧ Below w.heap.size w w' := by
  have HCH := (show Hid _ from chunked_any w E.ern hBd hF hT)
  obtain ⟨x, C, hx, hxe, hC, hC0⟩ : ∃ (x : Nat) (C : Int), x < 11 ∧ (if isTick (T m) = true then ea 7 else ea 1) = ea x ∧ C = (if isTick (T m) = true then 8 else 2) ∧ (x : Int) + 1 = C := by
    cases isTick (T m) with
    | true => exact ⟨7, 8, by omega, rfl, rfl, by omega⟩
    | false => exact ⟨1, 2, by omega, rfl, rfl, by omega⟩
  have HE := (show Hid _ from E)
  have HF : Hid (Forms w) := hF
  have HT : Hid (Tab w) := hT
  have HP : Hid (Pts w la n T B) := hP
  have HOK := (show Hid _ from hok)
  have HBAD : Hid (m < n → ptOk T m = false) := fun _ => hbad
  have hFl := hF.lt
  have hTl := hT.lt
  have d1 : decide ((30 : Int) < (n : Int)) = false := by simp; omega
  have HXE := (show Hid _ from hxe)
  have HC := (show Hid _ from hC)
  have hCp : (0 : Int) < C := by omega
  clear E hF hT hP hok hbad hxe hC
  go_enter Tryz.func3, Tryz.ntmps3
  go_wp2_with fail
  refine Calls.mono HCH.out ?_
  rintro e w1 ⟨rfl, hb1⟩
  have HB1 := (show Hid _ from hb1)
  have HOW := (show Hid _ from own_points2 w1 la n c T B (HP.out.below hb1) (by omega))
  clear hb1 HCH
  go_wp2_with fail
  refine Calls.mono HOW.out ?_
  rintro e w2 ⟨oa, oc, rfl, hP2, hb2⟩
  have HB2 : Hid (Below w.heap.size w w2) := HB1.out.trans (hb2.mono HB1.out.size)
  have HEN := (show Hid _ from encode_any w2 (HE.out.below HB2.out hBd).ern (HF.out.below HB2.out hFl) (HT.out.below HB2.out hTl) oa n oc T B hP2 (by omega) m (by omega) HOK.out HBAD.out)
  clear hb2 hP2 HOW
  go_wp2_with fail
  refine Calls.mono HEN.out ?_
  rintro e w3 ⟨hb3, ⟨hmn, _⟩ | ⟨_, pb, rfl, hpb, hc0, hc1⟩⟩
  · omega
  · rw [HXE.out] at hc1
    have HB3 : Hid (Below w.heap.size w w3) := HB2.out.trans (hb3.mono HB2.out.size)
    have HPF := (show Hid _ from points_fault w3 la n c T B (HP.out.below HB3.out) (by omega) m (by omega) HOK.out HBAD.out C (m : Int) (by rw [if_pos hm]; exact HC.out) (by rw [if_pos hm]))
    have hpl : pb < w3.heap.size := World.block_lt_of_cell? w3 ⟨pb, 0, none⟩ hc0
    have HPB0 := (show Hid _ from hc0)
    have HPB1 := (show Hid _ from hc1)
    clear hb3 HEN hc0 hc1 hpb
    go_wp2_with fail
    refine Calls.mono HPF.out ?_
    rintro e w4 ⟨rfl, hb4⟩
    have HB4 : Hid (Below w.heap.size w w4) := HB3.out.trans (hb4.mono HB3.out.size)
    have hw34 := hb4.size
    have HB34 := (show Hid _ from hb4)
    clear hb4 HPF
    go_wp2_with fail
    obtain ⟨W5, hW5⟩ : ∃ W5, W5 = w4.alloc (.cells #[.int .i64 C, .int .i64 (m : Int)] 30) := ⟨_, rfl⟩
    rw [← hW5]
    have hb5 : Below w4.heap.size w4 W5 := by rw [hW5]; exact (Below.refl _ _).alloc (Nat.le_refl _) _
    have hblk : W5.heap[w4.heap.size]? = some (.cells #[.int .i64 C, .int .i64 (m : Int)] 30 (0, 0)) := by rw [hW5]; exact heap_alloc_new _ _
    have h5l : w4.heap.size < W5.heap.size := by rw [hW5]; simp
    have k0 : W5.cell? ⟨w4.heap.size, 0, none⟩ = some (.int .i64 C) := cells_of hblk 0
    have k1 : W5.cell? ⟨w4.heap.size, 1, none⟩ = some (.int .i64 (m : Int)) := cells_of hblk 1
    have HB35 : Hid (Below w3.heap.size w3 W5) := HB34.out.trans (hb5.mono hw34)
    have HB5 : Hid (Below w.heap.size w W5) := HB4.out.trans (hb5.mono HB4.out.size)
    have HS : Hid (∀ w0, Below W5.heap.size W5 w0 → w0.cell? ⟨w4.heap.size, 0, none⟩ = some (.int .i64 C) ∧ w0.cell? ⟨w4.heap.size, 1, none⟩ = some (.int .i64 (m : Int))) := fun w0 h => ⟨(h.cell (p := ⟨w4.heap.size, 0, none⟩) h5l).trans (cells_of hblk 0), (h.cell (p := ⟨w4.heap.size, 1, none⟩) h5l).trans (cells_of hblk 1)⟩
    have HOW6 : Hid (∀ w0, Below W5.heap.size W5 w0 → Calls Tryz.prog 7 #[.slice la n c] w0 fun e w' => ∃ a c', e = .returned (.slice a n c') ∧ (w'.cell? ⟨w4.heap.size, 0, none⟩ = some (.int .i64 C) ∧ w'.cell? ⟨w4.heap.size, 1, none⟩ = some (.int .i64 (m : Int))) ∧ Below W5.heap.size W5 w' ∧ Pts w' a n T B) := fun w0 h => by
      have hw0 : Below w.heap.size w w0 := HB5.out.trans (h.mono HB5.out.size)
      refine (own_points2 w0 la n c T B (HP.out.below hw0) (by omega)).mono ?_
      rintro e w' ⟨a, c', rfl, hp, hb⟩
      have h2 := h.trans (hb.mono h.size)
      exact ⟨a, c', rfl, HS.out w' h2, h2, hp⟩
    have HCK6 : Hid (∀ w0 a c', Below W5.heap.size W5 w0 → Pts w0 a n T B → Calls Tryz.prog 10 #[.slice a n c'] w0 fun e w' => ∃ p6, e = .returned (.iface 52 (.pointer (some ⟨p6, 0, none⟩))) ∧ (w'.cell? ⟨w4.heap.size, 0, none⟩ = some (.int .i64 C) ∧ w'.cell? ⟨w4.heap.size, 1, none⟩ = some (.int .i64 (m : Int))) ∧ Below W5.heap.size W5 w' ∧ w'.cell? ⟨p6, 0, none⟩ = some (.int .i64 (m : Int)) ∧ w'.cell? ⟨p6, 1, none⟩ = some (.iface 172 (.pointer (some (ea x))))) := fun w0 a c' h hp => by
      have hw0 : Below w.heap.size w w0 := HB5.out.trans (h.mono HB5.out.size)
      refine (check_any w0 a n c' T B hp (by omega) m (by omega) HOK.out HBAD.out (ea 1) (ea 7) (HE.out.below hw0 hBd).c1 (HE.out.below hw0 hBd).c7).mono ?_
      rintro e w' ⟨hb, ⟨hmn, _⟩ | ⟨_, p6, rfl, _, q0, q1⟩⟩
      · omega
      · have h2 := h.trans (hb.mono h.size)
        rw [HXE.out] at q1
        exact ⟨p6, rfl, HS.out w' h2, h2, q0, q1⟩
    have HFA6 : Hid (∀ w0 p6, Below W5.heap.size W5 w0 → w0.cell? ⟨p6, 0, none⟩ = some (.int .i64 (m : Int)) → w0.cell? ⟨p6, 1, none⟩ = some (.iface 172 (.pointer (some (ea x)))) → Calls Tryz.prog 9 #[.iface 52 (.pointer (some ⟨p6, 0, none⟩)), .agg #[.int .i64 C, .int .i64 (m : Int)]] w0 fun e w' => e = .returned (.bool true) ∧ (w'.cell? ⟨w4.heap.size, 0, none⟩ = some (.int .i64 C) ∧ w'.cell? ⟨w4.heap.size, 1, none⟩ = some (.int .i64 (m : Int))) ∧ Below W5.heap.size W5 w') := fun w0 p6 h q0 q1 => by
      have hw0 : Below w.heap.size w w0 := HB5.out.trans (h.mono HB5.out.size)
      refine (faulted_fault w0 (HE.out.below hw0 hBd) (Nat.le_trans hBd hw0.size) p6 0 (m : Int) x hx q0 q1 C hC0).mono ?_
      rintro e w' ⟨rfl, hb⟩
      have h2 := h.trans (hb.mono h.size)
      exact ⟨rfl, HS.out w' h2, h2⟩
    have HFA9 := HFA6
    have HC0 : Hid (Below W5.heap.size W5 W5) := Below.refl _ _
    clear hb5 hblk hW5 h5l
    go_region_held3 (fun w' => w'.cell? ⟨w4.heap.size, 0, none⟩ = some (.int .i64 C) ∧ w'.cell? ⟨w4.heap.size, 1, none⟩ = some (.int .i64 (m : Int))) (go_keep) ((first | (go_at_call 7; refine Calls.mono (HOW6.out _ (by first | exact HC0.out | exact below_drew HC0.out)) ?_; rintro e w6 ⟨a6, c6, rfl, ⟨k0, k1⟩, hc6, hp6⟩; have HC6 := (show Hid _ from hc6); have HP6 := (show Hid _ from hp6); clear hc6 hp6 HOW6) | (go_at_call 10; refine Calls.mono (HCK6.out _ _ _ (by first | exact HC6.out | exact below_drew HC6.out) (by exact HP6.out)) ?_; rintro e w7 ⟨p6, rfl, ⟨k0, k1⟩, hc7, hq0, hq1⟩; have HC7 := (show Hid _ from hc7); have HQ0 := (show Hid _ from hq0); have HQ1 := (show Hid _ from hq1); clear hc7 hq0 hq1 HCK6 HP6) | (go_at_call 9; refine Calls.mono (HFA6.out _ _ (by first | exact HC7.out | exact below_drew HC7.out) (by exact HQ0.out) (by exact HQ1.out)) ?_; rintro e w8 ⟨rfl, ⟨k0, k1⟩, hc8⟩; have HC8 := (show Hid _ from hc8); clear hc8 HFA6)))
    have HB8 : Hid (Below w.heap.size w w8) := HB5.out.trans (HC8.out.mono HB5.out.size)
    have HB38 : Hid (Below w3.heap.size w3 w8) := HB35.out.trans (HC8.out.mono HB35.out.size)
    have HF9 := (show Hid _ from HFA9.out w8 pb HC8.out ((HB38.out.cell (p := ⟨pb, 0, none⟩) hpl).trans HPB0.out) ((HB38.out.cell (p := ⟨pb, 1, none⟩) hpl).trans HPB1.out))
    go_wp2_with fail
    refine Calls.mono HF9.out ?_
    rintro e w9 ⟨rfl, _, hc9⟩
    have HB9 : Hid (Below w.heap.size w w9) := HB5.out.trans (hc9.mono HB5.out.size)
    clear hc9 HF9
    go_wp2
    go_ret
    exact ⟨by simp, HB9.out⟩

set_option maxRecDepth 1000000 in
set_option maxHeartbeats 4000000 in
theorem codes_many {Bd : Nat} {ea : Nat → Addr} (w : World) (E : Env Bd ea w) (hBd : Bd ≤ w.heap.size) (hF : Forms w) (hT : Tab w) (la : Option Addr) (n c : Nat) (T : Nat → Int) (B : Nat → Nat) (hP : Pts w la n T B) (hn : n = 121) :
    Calls Tryz.prog 3 #[.slice la n c] w fun e w' => e = .returned (.bool true) ∧ Below w.heap.size w w' := by
  have HCH := (show Hid _ from chunked_any w E.ern hBd hF hT)
  have HE := (show Hid _ from E)
  have HP : Hid (Pts w la n T B) := hP
  have d1 : decide ((30 : Int) < (n : Int)) = true := by simp; omega
  have d2 : ((n : Int) == 121) = true := by rw [beq_iff_eq]; omega
  have hn120 : 120 < n := by omega
  have hnI : (n : Int) ≤ 9223372036854775807 := by omega
  have hn1000 : n ≤ 1000 := by omega
  clear E hF hT hP hn
  go_enter Tryz.func3, Tryz.ntmps3
  go_wp2_with fail
  refine Calls.mono HCH.out ?_
  rintro e w1 ⟨rfl, hb1⟩
  have HB1 := (show Hid _ from hb1)
  have HOW := (show Hid _ from own_points2 w1 la n c T B (HP.out.below hb1) (by omega))
  clear hb1 HCH
  go_wp2_with fail
  refine Calls.mono HOW.out ?_
  rintro e w2 ⟨oa, oc, rfl, hP2, hb2⟩
  have HB2 : Hid (Below w.heap.size w w2) := HB1.out.trans (hb2.mono HB1.out.size)
  have HEN := (show Hid _ from encode_many w2 oa n oc hn120 hnI (ea 1) (HE.out.below HB2.out hBd).c1)
  clear hb2 hP2 HOW
  go_wp2_with fail
  refine Calls.mono HEN.out ?_
  rintro e w3 ⟨rfl, hw3⟩
  have hw3' := hw3.symm
  subst hw3'
  have HPF := (show Hid _ from points_many w2 la n c hn120 hnI)
  clear HEN
  go_wp2_with fail
  refine Calls.mono HPF.out ?_
  rintro e w4 ⟨rfl, hb4⟩
  have HB4 : Hid (Below w.heap.size w w4) := HB2.out.trans (hb4.mono HB2.out.size)
  clear hb4 HPF
  go_wp2_with fail
  obtain ⟨W5, hW5⟩ : ∃ W5, W5 = w4.alloc (.cells #[.int .i64 2, .int .i64 (-1)] 30) := ⟨_, rfl⟩
  rw [← hW5]
  have hb5 : Below w4.heap.size w4 W5 := by rw [hW5]; exact (Below.refl _ _).alloc (Nat.le_refl _) _
  have hblk : W5.heap[w4.heap.size]? = some (.cells #[.int .i64 2, .int .i64 (-1)] 30 (0, 0)) := by rw [hW5]; exact heap_alloc_new _ _
  have h5l : w4.heap.size < W5.heap.size := by rw [hW5]; simp
  have k0 : W5.cell? ⟨w4.heap.size, 0, none⟩ = some (.int .i64 2) := cells_of hblk 0
  have k1 : W5.cell? ⟨w4.heap.size, 1, none⟩ = some (.int .i64 (-1)) := cells_of hblk 1
  have HB5 : Hid (Below w.heap.size w W5) := HB4.out.trans (hb5.mono HB4.out.size)
  have HS : Hid (∀ w0, Below W5.heap.size W5 w0 → w0.cell? ⟨w4.heap.size, 0, none⟩ = some (.int .i64 2) ∧ w0.cell? ⟨w4.heap.size, 1, none⟩ = some (.int .i64 (-1))) := fun w0 h => ⟨(h.cell (p := ⟨w4.heap.size, 0, none⟩) h5l).trans (cells_of hblk 0), (h.cell (p := ⟨w4.heap.size, 1, none⟩) h5l).trans (cells_of hblk 1)⟩
  have HOW6 : Hid (∀ w0, Below W5.heap.size W5 w0 → Calls Tryz.prog 7 #[.slice la n c] w0 fun e w' => ∃ a c', e = .returned (.slice a n c') ∧ (w'.cell? ⟨w4.heap.size, 0, none⟩ = some (.int .i64 2) ∧ w'.cell? ⟨w4.heap.size, 1, none⟩ = some (.int .i64 (-1))) ∧ Below W5.heap.size W5 w' ∧ Pts w' a n T B) := fun w0 h => by
    have hw0 : Below w.heap.size w w0 := HB5.out.trans (h.mono HB5.out.size)
    refine (own_points2 w0 la n c T B (HP.out.below hw0) (by omega)).mono ?_
    rintro e w' ⟨a, c', rfl, hp, hb⟩
    have h2 := h.trans (hb.mono h.size)
    exact ⟨a, c', rfl, HS.out w' h2, h2, hp⟩
  have HCK6 : Hid (∀ w0 a c', Below W5.heap.size W5 w0 → Pts w0 a n T B → Calls Tryz.prog 10 #[.slice a n c'] w0 fun e w' => e = .returned (.iface 172 (.pointer (some (ea 1)))) ∧ (w'.cell? ⟨w4.heap.size, 0, none⟩ = some (.int .i64 2) ∧ w'.cell? ⟨w4.heap.size, 1, none⟩ = some (.int .i64 (-1))) ∧ Below W5.heap.size W5 w') := fun w0 a c' h _ => by
    have hw0 : Below w.heap.size w w0 := HB5.out.trans (h.mono HB5.out.size)
    refine (check_many w0 a n c' hn120 hnI (ea 1) (HE.out.below hw0 hBd).c1).mono ?_
    rintro e w' ⟨rfl, rfl⟩
    exact ⟨rfl, HS.out _ h, h⟩
  have HFA6 : Hid (∀ w0, Below W5.heap.size W5 w0 → Calls Tryz.prog 9 #[.iface 172 (.pointer (some (ea 1))), .agg #[.int .i64 2, .int .i64 (-1)]] w0 fun e w' => e = .returned (.bool true) ∧ (w'.cell? ⟨w4.heap.size, 0, none⟩ = some (.int .i64 2) ∧ w'.cell? ⟨w4.heap.size, 1, none⟩ = some (.int .i64 (-1))) ∧ Below W5.heap.size W5 w') := fun w0 h => by
    have hw0 : Below w.heap.size w w0 := HB5.out.trans (h.mono HB5.out.size)
    refine (faulted_es w0 (HE.out.below hw0 hBd) (Nat.le_trans hBd hw0.size) 1 (by omega) 2 rfl).mono ?_
    rintro e w' ⟨rfl, hb⟩
    have h2 := h.trans (hb.mono h.size)
    exact ⟨rfl, HS.out w' h2, h2⟩
  have HFA9 := HFA6
  have HC0 : Hid (Below W5.heap.size W5 W5) := Below.refl _ _
  clear hb5 hblk hW5 h5l
  go_region_held3 (fun w' => w'.cell? ⟨w4.heap.size, 0, none⟩ = some (.int .i64 2) ∧ w'.cell? ⟨w4.heap.size, 1, none⟩ = some (.int .i64 (-1))) (go_keep) ((first | (go_at_call 7; refine Calls.mono (HOW6.out _ (by first | exact HC0.out | exact below_drew HC0.out)) ?_; rintro e w6 ⟨a6, c6, rfl, ⟨k0, k1⟩, hc6, hp6⟩; have HC6 := (show Hid _ from hc6); have HP6 := (show Hid _ from hp6); clear hc6 hp6 HOW6) | (go_at_call 10; refine Calls.mono (HCK6.out _ _ _ (by first | exact HC6.out | exact below_drew HC6.out) (by exact HP6.out)) ?_; rintro e w7 ⟨rfl, ⟨k0, k1⟩, hc7⟩; have HC7 := (show Hid _ from hc7); clear hc7 HCK6 HP6) | (go_at_call 9; refine Calls.mono (HFA6.out _ (by first | exact HC7.out | exact below_drew HC7.out)) ?_; rintro e w8 ⟨rfl, ⟨k0, k1⟩, hc8⟩; have HC8 := (show Hid _ from hc8); clear hc8 HFA6)))
  have HF9 := (show Hid _ from HFA9.out w8 HC8.out)
  go_wp2_with fail
  refine Calls.mono HF9.out ?_
  rintro e w9 ⟨rfl, _, hc9⟩
  have HB9 : Hid (Below w.heap.size w w9) := HB5.out.trans (hc9.mono HB5.out.size)
  clear hc9 HF9
  go_wp2
  go_ret
  exact ⟨by simp, HB9.out⟩

theorem codes_main {Bd : Nat} {ea : Nat → Addr} (w : World) (E : Env Bd ea w) (hBd : Bd ≤ w.heap.size) (hF : Forms w) (hT : Tab w) (la : Option Addr) (n c : Nat) (T : Nat → Int) (B : Nat → Nat) (hP : Pts w la n T B) (hnn : (n : Int) ≤ 9223372036854775807) :
    Calls Tryz.prog 3 #[.slice la n c] w fun e w' => e = .returned (.bool true) ∧ Below w.heap.size w w' := by
  by_cases h1 : 30 < n
  · by_cases h2 : n = 121
    · exact codes_many w E hBd hF hT la n c T B hP h2
    · exact codes_long w E hBd hF hT la n c hnn h1 h2
  · obtain ⟨m, hm, hok, hbad⟩ := first_bad (ptOk T) n
    rcases Nat.lt_or_ge m n with h | h
    · exact codes_bad w E hBd hF hT la n c T B hP (by omega) m h hok (hbad h)
    · exact codes_ok w E hBd hF hT la n c T B hP (by omega) (fun i hi => hok i (by omega))
end Go.Proofs.YtgdflopgdlpimaaGreatDoor
