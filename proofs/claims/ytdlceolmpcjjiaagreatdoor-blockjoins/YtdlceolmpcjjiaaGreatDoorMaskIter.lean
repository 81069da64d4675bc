/- Package mask's changes: the function, and the rounds that its iterator gives. -/
import Derived.Test.YtdlceolmpcjjiaaGreatDoorMaskRange
import Derived.Test.YtdlceolmpcjjiaaGreatDoorMaskWinGroup
import Derived.Test.YtdlceolmpcjjiaaGreatDoorSlicesIn
import Derived.Test.YtdlceolmpcjjiaaGreatDoorPutGroup
import Derived.OwnWalkIn
import Derived.TacticsInMore
import Derived.LoopNIn
import Derived.LoopIn
namespace Go.Proofs.YtdlceolmpcjjiaaGreatDoor
open Go.RowKit Go.Shelf
attribute [local go_sem] Oper.semAt_some

theorem changes_any (la : Option Addr) (m c : Nat) (w : World) :
    Calls Tryz.prog 166 #[.slice la m c] w fun e w' => e = .returned (.func (.func 201) #[] #[.pointer (some ⟨w.heap.size, 0, none⟩)]) ∧ w' = w.alloc (.cells #[.slice la m c] 140) := by
  go_enter Tryz.func166, Tryz.ntmps166
  go_wp2
  go_ret
  exact ⟨rfl, rfl⟩

/-- The change at k, and the form's three numbers. -/
def chg (V : Nat → Nat) (k : Nat) : Nat := V k ^^^ V (k - 1)
def chgForm (V : Nat → Nat) (k : Nat) : Value := formV (BitMath.wayOf (BitMath.winTo V k) (chg V k)) (BitMath.winTo V (k + 1)).2.1 (BitMath.wideW (BitMath.winTo V (k + 1)))
def chgArgs (V : Nat → Nat) (k : Nat) : Array Value := #[chgForm V k, .int .u64 (chg V k : Int)]

/-- What the iterator reads, at a world. -/
structure ItAt (wr : World) (Bn lb lo m c : Nat) (V : Nat → Nat) (q k : Nat) : Prop where
  box : wr.cell? ⟨Bn, 0, none⟩ = some (.slice (some ⟨lb, lo, none⟩) m c)
  vals : ∀ i, i < m → wr.cell? ⟨lb, lo + i, none⟩ = some (.int .u64 (V i : Int))
  tab : Tab wr
  win : wr.heap[q]? = some (.cells #[.int .i64 ((BitMath.winTo V k).2.1 : Int), .int .i64 ((BitMath.wideW (BitMath.winTo V k) : Nat) : Int)] 237 (0, 0))
theorem ItAt.kept {wr wr' : World} {Bn lb lo m c : Nat} {V : Nat → Nat} {q k : Nat} (h : ItAt wr Bn lb lo m c V q k) {S : List Nat} (hk : Kept S wr wr') (h1 : Bn ∉ S) (h2 : lb ∉ S) (h3 : 17 ∉ S) (h4 : q ∉ S) : ItAt wr' Bn lb lo m c V q k :=
  ⟨hk.cell h.box h1, fun i hi => hk.cell (h.vals i hi) h2, fun j hj => hk.cell (h.tab j hj) h3, (hk.block q (lt_of_block h.win) h4).trans h.win⟩

theorem winTo_OK (V : Nat → Nat) (n : Nat) (hV : ∀ i, i < n → V i < 18446744073709551616) : ∀ k, k ≤ n → BitMath.WinOK (BitMath.winTo V k)
  | 0, _ => by simp [BitMath.winTo, BitMath.WinOK]
  | k + 1, h => by
    by_cases hk : k = 0
    · subst hk; rw [BitMath.winTo_first]; simp [BitMath.WinOK]
    · rw [BitMath.winTo_step V k hk]
      exact BitMath.winOK_next (winTo_OK V n hV k (by omega)) _ (BitMath.xor_lt _ _ (hV k (by omega)) (hV (k - 1) (by omega)))

set_option maxRecDepth 100000 in
set_option maxHeartbeats 2000000 in
theorem changes1_rounds (Bn lb lo m c : Nat) (V : Nat → Nat) (w : World) (hm1 : 1 ≤ m) (hm : m ≤ 1000) (hV : ∀ i, i < m → V i < 18446744073709551616)
    (hbox : w.cell? ⟨Bn, 0, none⟩ = some (.slice (some ⟨lb, lo, none⟩) m c)) (hvals : ∀ i, i < m → w.cell? ⟨lb, lo + i, none⟩ = some (.int .u64 (V i : Int))) (hT : Tab w) :
    Rounds Tryz.prog 201 #[.pointer (some ⟨Bn, 0, none⟩)] (chgArgs V) m [Bn, lb, 17] w := by
  intro l J S0 W hbW hJlt hJk hJy hJ0 hS0
  have hBn := lt_of_cell hbox
  have hlb := lt_of_cell (hvals 0 hm1)
  have hsW := hbW.size
  have hboxW : W.cell? ⟨Bn, 0, none⟩ = some (.slice (some ⟨lb, lo, none⟩) m c) := (hbW.cell (p := ⟨Bn, 0, none⟩) hBn).trans hbox
  have hvalsW : ∀ i, i < m → W.cell? ⟨lb, lo + i, none⟩ = some (.int .u64 (V i : Int)) := fun i hi => (hbW.cell (p := ⟨lb, lo + i, none⟩) hlb).trans (hvals i hi)
  have hTW : Tab W := hT.below hbW hT.lt
  have hG := hT.lt
  obtain ⟨wa, hwa⟩ : ∃ wa, wa = W.alloc (.cells #[.int .i64 0, .int .i64 0] 237) := ⟨_, rfl⟩
  have hka : Kept [W.heap.size] W wa := by rw [hwa]; exact (Kept.refl _ _).alloc _
  have hsa : wa.heap.size = W.heap.size + 1 := by rw [hwa]; simp
  have hS0q : W.heap.size ∉ S0 := fun h => by have := hJlt 1 S0 W hJ0 _ h; omega
  have hIt : ItAt wa Bn lb lo m c V W.heap.size 1 := by
    refine ⟨hka.cell hboxW (by simp; omega), fun i hi => hka.cell (hvalsW i hi) (by simp; omega), fun j hj => hka.cell (hTW j hj) (by simp; omega), ?_⟩
    rw [hwa, BitMath.winTo_first]
    exact heap_alloc_new _ _
  have HIT := (show Hid _ from hIt)
  have HJA := (show Hid _ from hJk 1 S0 W wa hJ0 hka hS0q)
  have HJlt := (show Hid _ from hJlt)
  have HJk := (show Hid _ from hJk)
  have HJy := (show Hid _ from hJy)
  have HWA : Hid (∀ wx, wx = W.alloc (.cells #[.int .i64 0, .int .i64 0] 237) → wx = wa) := fun wx h => h.trans hwa.symm
  have HS0 : Hid (∀ b, b ∈ S0 → b ∉ [Bn, lb, 17] ∧ b ≠ W.heap.size) := fun b hb => ⟨hS0 b hb, fun e => hS0q (e ▸ hb)⟩
  have HV := (show Hid _ from hV)
  clear hJ0 hJlt hJk hJy hwa hka hIt hvalsW hvals hT hTW hS0 hV hbox hboxW
  refine callsIn_of_wp Tryz.func201 rfl trivial ?_ rfl
  simp only [Tryz.ntmps201, List.size_toArray, List.length_cons, List.length_nil, Nat.reduceAdd, Nat.reduceSub, Array.replicate_succ, Array.replicate_zero, List.push_toArray, List.append_toArray, List.nil_append, List.cons_append]
  gi_wp2
  rw [HWA.out _ rfl]
  gi_loopw [4, 5, 6] (fun i _ _ wr => ∃ (k : Nat) (S : List Nat), 1 ≤ k ∧ k ≤ m ∧ i = .int .i64 k ∧ J k S wr ∧ (∀ b, b ∈ S → b ∉ [Bn, lb, 17] ∧ b ≠ W.heap.size) ∧ ItAt wr Bn lb lo m c V W.heap.size k) (fun i _ _ _ => m - (intOf i).toNat)
  case atStart => exact ⟨1, S0, Nat.le_refl _, hm1, rfl, HJA.out, HS0.out, HIT.out⟩
  case round =>
    obtain ⟨k, S, hk1, hkm, rfl, hJ, hSn, hit⟩ := hrel
    clear HIT HJA
    have hb0 := hit.box
    by_cases hlt : k < m
    · obtain ⟨j, rfl⟩ : ∃ j, k = j + 1 := ⟨k - 1, by omega⟩
      have hc1 : wr.cell? ⟨lb, lo + (j + 1), none⟩ = some (.int .u64 (V (j + 1) : Int)) := hit.vals (j + 1) hlt
      have hc0 : wr.cell? ⟨lb, lo + j, none⟩ = some (.int .u64 (V j : Int)) := hit.vals j (by omega)
      have hv1 := HV.out (j + 1) hlt
      have hv0 := HV.out j (by omega)
      have hxor := u64_xor_nat (V (j + 1)) (V j) hv1 hv0
      have hxl := BitMath.xor_lt (V (j + 1)) (V j) hv1 hv0
      have hxe : chg V (j + 1) = V (j + 1) ^^^ V j := rfl
      have hwo := winTo_OK V m HV.out (j + 1) (by omega)
      have hst := BitMath.winTo_step V (j + 1) (by omega)
      obtain ⟨x, hx⟩ : ∃ x, x = V (j + 1) ^^^ V j := ⟨_, rfl⟩
      have hst' : BitMath.winTo V (j + 1 + 1) = BitMath.mNext (BitMath.winTo V (j + 1)) x := by rw [hst, hx]; rfl
      rw [← hx] at hxor hxl hxe
      have hfo := fun w0 hT0 => mformOf_any (BitMath.winTo V (j + 1)) x w0 hwo hxl hT0
      rw [← hst'] at hfo
      obtain ⟨L, hL⟩ : ∃ L, L = (BitMath.winTo V (j + 1)).2.1 := ⟨_, rfl⟩
      obtain ⟨Wd, hWd⟩ : ∃ Wd, Wd = BitMath.wideW (BitMath.winTo V (j + 1)) := ⟨_, rfl⟩
      have hwin := hit.win
      rw [← hL, ← hWd] at hfo hwin
      unfold winV formV at hfo
      have q0 : wr.cell? ⟨W.heap.size, 0, none⟩ = some (.int .i64 (L : Int)) := cells_of hwin 0
      have q1 : wr.cell? ⟨W.heap.size, 1, none⟩ = some (.int .i64 (Wd : Int)) := cells_of hwin 1
      have hargs : chgArgs V (j + 1) = #[.agg #[.int .i64 ((BitMath.wayOf (BitMath.winTo V (j + 1)) x : Nat) : Int), .int .i64 ((BitMath.winTo V (j + 1 + 1)).2.1 : Int), .int .i64 ((BitMath.wideW (BitMath.winTo V (j + 1 + 1)) : Nat) : Int)], .int .u64 (x : Int)] := by
        unfold chgArgs chgForm formV
        rw [hxe]
      obtain ⟨y, hy0⟩ : ∃ y, y = BitMath.wayOf (BitMath.winTo V (j + 1)) x := ⟨_, rfl⟩
      obtain ⟨L2, hL2⟩ : ∃ L2, L2 = (BitMath.winTo V (j + 1 + 1)).2.1 := ⟨_, rfl⟩
      obtain ⟨W2, hW2⟩ : ∃ W2, W2 = BitMath.wideW (BitMath.winTo V (j + 1 + 1)) := ⟨_, rfl⟩
      rw [← hy0, ← hL2, ← hW2] at hfo hargs
      have HL2 := (show Hid _ from hL2)
      have HW2 := (show Hid _ from hW2)
      generalize hV1 : V (j + 1) = V1 at *
      generalize hV0 : V j = V0 at *
      have HFO := (show Hid _ from hfo)
      have HIT := (show Hid _ from hit)
      have HJ := (show Hid _ from hJ)
      have HSN := (show Hid _ from hSn)
      have HARG := (show Hid _ from hargs)
      have HWIN := (show Hid _ from hwin)
      have hjI : (j : Int) + 1 < (m : Int) := by omega
      clear hfo hit hJ hSn hxe hwin hst hst' hwo hv1 hv0 hx hL hWd hV1 hV0 hxl hy0 hL2 hW2 hargs
      gi_wp2
      refine wpIn_wide.2 ?_
      go_quiet (fail)
      gi_wp2_with fail
      refine ⟨trivial, rfl, ?_⟩
      refine CallsIn.mono (callsIn_wide.2 (HFO.out _ (fun i hi => HIT.out.tab i hi))) ?_
      rintro e w1 ⟨rfl, hb1⟩
      have hs1 : wr.heap.size ≤ w1.heap.size := hb1.size
      have hk1w : Kept [W.heap.size] wr w1 := ⟨hb1.os, hb1.tape, hb1.output, hb1.size, fun b hb _ => hb1.block b hb⟩
      obtain ⟨A, hA⟩ : ∃ A, A = w1.alloc (.cells #[.int .i64 (y : Int), .int .i64 (L2 : Int), .int .i64 (W2 : Int)] 239) := ⟨_, rfl⟩
      have hkA : Kept [W.heap.size] wr A := by rw [hA]; exact hk1w.alloc _
      have hkA0 : Kept [] wr A := by rw [hA]; exact (Kept.of_below (S := []) (⟨hb1.os, hb1.tape, hb1.output, hb1.size, hb1.block⟩ : Below wr.heap.size wr w1)).alloc _
      have hqS : W.heap.size ∉ S := fun h => (HSN.out _ h).2 rfl
      have hJA := HJk.out _ S wr A HJ.out hkA hqS
      have hpA : A.heap[w1.heap.size]? = some (.cells #[.int .i64 (y : Int), .int .i64 (L2 : Int), .int .i64 (W2 : Int)] 239 (0, 0)) := by rw [hA]; exact heap_alloc_new _ _
      have hsA : A.heap.size = w1.heap.size + 1 := by rw [hA]; simp
      have hpS : w1.heap.size ∉ S := fun h => by have := HJlt.out _ S wr HJ.out _ h; omega
      obtain ⟨fn, tmps, assign, body, hy, hR⟩ := HJy.out (j + 1) S A hk1 hlt hJA
      rw [HARG.out] at hy
      rw [hA] at hy
      have HITA := (show Hid _ from HIT.out.kept hkA0 (by simp) (by simp) (by simp) (by simp))
      have HR := (show Hid _ from hR)
      have HPA := (show Hid _ from hpA)
      have HHA := (show Hid _ from hA)
      clear hR hb1 hk1w hkA hkA0 hpA hA hJA q0 q1 hc0 hc1 hb0
      gi_wp2
      refine ⟨rfl, ?_⟩
      rw [← HHA.out]
      refine RoundIn.mono HR.out ?_
      rintro e W3 ⟨rfl, S', hJ3, hk3, hS3⟩
      have hqA : W.heap.size < wr.heap.size := lt_of_block HWIN.out
      have hsA3 := hk3.size
      have hp3 : W3.heap[w1.heap.size]? = some (.cells #[.int .i64 (y : Int), .int .i64 (L2 : Int), .int .i64 (W2 : Int)] 239 (0, 0)) := (hk3.block _ (by omega) hpS).trans HPA.out
      have hit3 : ItAt W3 Bn lb lo m c V W.heap.size (j + 1) := HITA.out.kept hk3 (fun h => (HSN.out _ h).1 (by simp)) (fun h => (HSN.out _ h).1 (by simp)) (fun h => (HSN.out _ h).1 (by simp)) hqS
      have hwin3 : W3.heap[W.heap.size]? = some (.cells #[.int .i64 (L : Int), .int .i64 (Wd : Int)] 237 (0, 0)) := by
        have h1 := HITA.out.win
        have h2 : A.heap[W.heap.size]? = some (.cells #[.int .i64 (L : Int), .int .i64 (Wd : Int)] 237 (0, 0)) := by
          rw [h1, ← HIT.out.win]
          exact HWIN.out
        exact (hk3.block _ (by omega) hqS).trans h2
      have p1 : W3.cell? ⟨w1.heap.size, 1, none⟩ = some (.int .i64 (L2 : Int)) := cells_of hp3 1
      have p2 : W3.cell? ⟨w1.heap.size, 2, none⟩ = some (.int .i64 (W2 : Int)) := cells_of hp3 2
      have z0 : W3.cell? ⟨W.heap.size, 0, none⟩ = some (.int .i64 (L : Int)) := cells_of hwin3 0
      have z1 : W3.cell? ⟨W.heap.size, 1, none⟩ = some (.int .i64 (Wd : Int)) := cells_of hwin3 1
      have y0 : W3.frozen? ⟨W.heap.size, 0, none⟩ = false := frozen_of hwin3 0
      have y1 : W3.frozen? ⟨W.heap.size, 1, none⟩ = false := frozen_of hwin3 1
      have hqS' : W.heap.size ∉ S' := fun h => by rcases hS3 _ h with h | h; exact hqS h; omega
      obtain ⟨B, hB⟩ : ∃ B, B = (W3.setCell ⟨W.heap.size, 0, none⟩ (.int .i64 (L2 : Int))).setCell ⟨W.heap.size, 1, none⟩ (.int .i64 (W2 : Int)) := ⟨_, rfl⟩
      have hkB : Kept [W.heap.size] W3 B := by rw [hB]; exact ((Kept.refl _ _).setCell (.inl (by simp)) _).setCell (.inl (by simp)) _
      have hJB := HJk.out _ S' W3 B hJ3 hkB hqS'
      have hitB : ItAt B Bn lb lo m c V W.heap.size (j + 1 + 1) := by
        refine ⟨hkB.cell hit3.box (by simp; omega), fun i hi => hkB.cell (hit3.vals i hi) (by simp; omega), fun i hi => hkB.cell (hit3.tab i hi) (by simp; omega), ?_⟩
        rw [hB, heap_set (heap_set hwin3 0 _) 1 _, HL2.out, HW2.out]
        rfl
      have hSB : ∀ b, b ∈ S' → b ∉ [Bn, lb, 17] ∧ b ≠ W.heap.size := by
        intro b hb
        rcases hS3 b hb with h | h
        · exact HSN.out b h
        · refine ⟨?_, by omega⟩
          simp
          omega
      have HHB := (show Hid _ from hB)
      have HJB := (show Hid _ from hJB)
      have HITB := (show Hid _ from hitB)
      have HSB := (show Hid _ from hSB)
      clear hp3 hit3 hwin3 hJ3 hk3 hS3 hkB hJB hitB hSB hB HPA HR HITA HWIN HIT HJ HARG hy HFO
      gi_wp2
      go_roundw
      case rel => rw [← HHB.out]; exact ⟨j + 1 + 1, S', by omega, by omega, by go_num, HJB.out, HSB.out, HITB.out⟩
      case measure => simp [intOf]; omega
    · have : k = m := by omega
      subst this
      have HJ := (show Hid _ from hJ)
      clear hJ hit hSn
      gi_wp2
      go_end0
      exact ⟨⟨_, rfl⟩, S, HJ.out⟩
end Go.Proofs.YtdlceolmpcjjiaaGreatDoor
