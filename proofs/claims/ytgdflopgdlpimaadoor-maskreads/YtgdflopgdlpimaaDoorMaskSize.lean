/- Package mask's Size by its contract. -/
import Derived.Test.YtgdflopgdlpimaaDoorMaskIter
import Derived.Shelf.RegionOpen
namespace Go.Proofs.YtgdflopgdlpimaaDoor
open Go.RowKit Go.Shelf
attribute [local go_sem] Oper.semAt_some

theorem mSize_none (la : Option Addr) (c : Nat) (w : World) :
    Calls Tryd.prog 39 #[.slice la 0 c] w fun e w' => e = .returned (.int .i64 0) ∧ w' = w := by
  go_enter Tryd.func39, Tryd.ntmps39
  go_wp2
  go_ret
  exact ⟨rfl, rfl⟩

theorem mBits_len (V : Nat → Nat) (m : Nat) (hV : ∀ i, i < m → V i < 18446744073709551616) (k : Nat) (h1 : 1 ≤ k) (hk : k < m) :
    (BitMath.mBits (BitMath.winTo V k) (chg V k)).length = BitMath.sumP (BitMath.partsOf (BitMath.wayOf (BitMath.winTo V k) (chg V k)) (BitMath.winTo V (k + 1)).2.1 (BitMath.wideW (BitMath.winTo V (k + 1))) (chg V k)) := by
  have hx := BitMath.xor_lt (V k) (V (k - 1)) (hV k hk) (hV (k - 1) (by omega))
  have hu := winTo_OK V m hV k (by omega)
  rw [BitMath.winTo_step V k (by omega)]
  show (BitMath.mBits _ (V k ^^^ V (k - 1))).length = _
  rw [BitMath.mBits_parts hu _ hx]
  rfl

theorem wrap_small (n : Int) (h0 : 0 ≤ n) (h1 : n ≤ 1000000) : IntKind.i64.wrap n = n := by
  rw [IntKind.wrap_i64]
  omega
theorem size_round {w W w2 : World} {a N n : Int} (hbx : W.heap[w.heap.size]? = some (.cells #[.int .i64 a] 3 (0, 0))) (hbel : Below w.heap.size w W) (hb2 : Below W.heap.size W w2) (hn : N = n) :
    (w2.setCell ⟨w.heap.size, 0, none⟩ (.int .i64 n)).heap[w.heap.size]? = some (.cells #[.int .i64 N] 3 (0, 0)) ∧ Below w.heap.size w (w2.setCell ⟨w.heap.size, 0, none⟩ (.int .i64 n)) ∧ Kept [w.heap.size] W (w2.setCell ⟨w.heap.size, 0, none⟩ (.int .i64 n)) := by
  subst hn
  refine ⟨?_, (hbel.trans (hb2.mono hbel.size)).setCell (Nat.le_refl _) _, (Kept.of_below hb2).setCell (.inl (by simp)) _⟩
  rw [heap_set ((hb2.block _ (lt_of_block hbx)).trans hbx) 0 _]
  rfl

set_option maxRecDepth 100000 in
set_option maxHeartbeats 2000000 in
theorem mSize_some (lb lo m c : Nat) (V : Nat → Nat) (w : World) (hm1 : 1 ≤ m) (hm : m ≤ 1000) (hV : ∀ i, i < m → V i < 18446744073709551616)
    (hvals : ∀ i, i < m → w.cell? ⟨lb, lo + i, none⟩ = some (.int .u64 (V i : Int))) (hT : Tab w) :
    Calls Tryd.prog 39 #[.slice (some ⟨lb, lo, none⟩) m c] w fun e w' => e = .returned (.int .i64 ((BitMath.maskTo V m).length : Int)) ∧ Below w.heap.size w w' := by
  have hm0 : ((m : Int) == 0) = false := by rw [beq_eq_false_iff_ne]; omega
  have hlb := lt_of_cell (hvals 0 hm1)
  have HVALS := (show Hid _ from hvals)
  have HV := (show Hid _ from hV)
  have HT : Hid (Tab w) := hT
  have hG := hT.lt
  clear hvals hV hT
  refine callsIn_wide.1 (callsIn_of_wp_marks (n := 0) Tryd.func39 rfl trivial (wpIn_wide.2 ?_))
  simp only [Tryd.ntmps39, List.size_toArray, List.length_cons, List.length_nil, Nat.reduceAdd, Nat.reduceSub, Array.replicate_succ, Array.replicate_zero, List.push_toArray, List.append_toArray, List.nil_append, List.cons_append]
  go_wp2_with fail
  refine Calls.mono (changes_any _ _ _ _) ?_
  rintro e w1 ⟨rfl, rfl⟩
  go_wp2
  obtain ⟨W0, hW0⟩ : ∃ W0, W0 = (w.alloc (.cells #[.int .i64 64] 3)).alloc (.cells #[.slice (some ⟨lb, lo, none⟩) m c] 66) := ⟨_, rfl⟩
  have hs0 : W0.heap.size = w.heap.size + 2 := by rw [hW0]; simp
  have hb0 : Below w.heap.size w W0 := by rw [hW0]; exact ((Below.refl _ _).alloc (Nat.le_refl _) _).alloc (by simp) _
  have hbx : W0.heap[w.heap.size]? = some (.cells #[.int .i64 64] 3 (0, 0)) := by
    rw [hW0, Below.heap_alloc _ _ _ (by simp)]
    exact heap_alloc_new _ _
  have hbn : W0.heap[w.heap.size + 1]? = some (.cells #[.slice (some ⟨lb, lo, none⟩) m c] 66 (0, 0)) := by
    rw [hW0]
    have := heap_alloc_new (w.alloc (.cells #[.int .i64 64] 3)) (.cells #[.slice (some ⟨lb, lo, none⟩) m c] 66)
    simpa using this
  rw [← hW0]
  clear hW0
  refine range_rounds (gf := 89) (lb := #[.pointer (some ⟨w.heap.size + 1, 0, none⟩)]) rfl (enters_of Tryd.func89 (by kernel_rfl) rfl) m (chgArgs V) (fun _ => rfl) [w.heap.size + 1, lb, 13] (fun b hb => by simp at hb; omega)
    (changes1_rounds (w.heap.size + 1) lb lo m c V W0 hm1 hm HV.out (cells_of hbn 0) (fun i hi => (hb0.cell (p := ⟨lb, lo + i, none⟩) hlb).trans (HVALS.out i hi)) (HT.out.below hb0 hG))
    (fun k S W => S = [w.heap.size] ∧ W.heap[w.heap.size]? = some (.cells #[.int .i64 ((BitMath.maskTo V k).length : Int)] 3 (0, 0)) ∧ Below w.heap.size w W)
    ?lt ?abide [w.heap.size] ?start ?apart (fun k => .cells #[.int .i64 ((BitMath.wayOf (BitMath.winTo V k) (chg V k) : Nat) : Int), .int .i64 ((BitMath.winTo V (k + 1)).2.1 : Int), .int .i64 ((BitMath.wideW (BitMath.winTo V (k + 1)) : Nat) : Int)] 123)
    (fun k p => { tmps := #[.slice (some ⟨lb, lo, none⟩) m c, undef, .int .i64 0, .pointer (some ⟨w.heap.size, 0, none⟩), .pointer (some ⟨p, 0, none⟩), .slice (some ⟨lb, lo, none⟩) m c, .int .i64 (m : Int), .bool false, .slice (some ⟨lb, lo, none⟩) m c, .func (.func 89) #[] #[.pointer (some ⟨w.heap.size + 1, 0, none⟩)], chgForm V k, .int .u64 (chg V k : Int), undef, undef, undef, undef, undef], defers := [] })
    ?assign ?body ?done
  case lt =>
    rintro k S A ⟨rfl, hb, _⟩ b hm
    simp at hm
    subst hm
    exact lt_of_block hb
  case abide =>
    rintro k S T A B ⟨rfl, hb, hbel⟩ hk hT
    have hn : w.heap.size ∉ T := fun h => (hT _ h).1 (by simp)
    exact ⟨rfl, (hk.block _ (lt_of_block hb) hn).trans hb, hbel.trans (hk.below hbel.size (fun x hx => by have := (hT x hx).2; omega))⟩
  case start => exact ⟨rfl, by rw [BitMath.maskTo_first, BitMath.length_bitsOf]; exact hbx, hb0⟩
  case apart => intro b hb; simp at hb; subst hb; simp; omega
  case assign =>
    intro l k W K hK
    unfold chgForm formV at hK
    unfold chgArgs chgForm formV
    gi_wp2
    exact hK
  case body =>
    rintro l k S W p hk1 hkm ⟨rfl, hb, hbel⟩ hp hpS
    have hlen := mBits_len V m HV.out k hk1 hkm
    have hstep := BitMath.maskTo_step V k (by omega)
    have hwo := winTo_OK V m HV.out (k + 1) (by omega)
    have hwide := BitMath.wide_le hwo
    have hy : BitMath.wayOf (BitMath.winTo V k) (chg V k) ≤ 2 := by unfold BitMath.wayOf; repeat' split
                                                                    all_goals omega
    have hle := BitMath.length_maskTo V k
    have hle2 := BitMath.length_mBits (BitMath.winTo V k) (chg V k)
    rw [BitMath.sumP_parts] at hlen
    have hsz := fun w0 => mfsize_any (BitMath.wayOf (BitMath.winTo V k) (chg V k)) (BitMath.winTo V (k + 1)).2.1 (BitMath.wideW (BitMath.winTo V (k + 1))) w0 hy hwide
    rw [← hlen] at hsz
    have hnew : ((BitMath.maskTo V (k + 1)).length : Int) = ((BitMath.maskTo V k).length : Int) + ((BitMath.mBits (BitMath.winTo V k) (chg V k)).length : Int) := by
      rw [hstep, List.length_append]
      exact Int.natCast_add _ _
    unfold formV at hsz
    unfold chgForm formV
    generalize BitMath.wayOf (BitMath.winTo V k) (chg V k) = y at *
    generalize (BitMath.winTo V (k + 1)).2.1 = L2 at *
    generalize BitMath.wideW (BitMath.winTo V (k + 1)) = W2 at *
    generalize (BitMath.mBits (BitMath.winTo V k) (chg V k)).length = ad at *
    generalize (BitMath.maskTo V k).length = tot at *
    have HNEW := (show Hid _ from hnew)
    have HSZ := (show Hid _ from hsz)
    have htI : (tot : Int) ≤ 77000 := by omega
    have haI : (ad : Int) ≤ 77 := by omega
    have c0 : W.cell? ⟨w.heap.size, 0, none⟩ = some (.int .i64 (tot : Int)) := cells_of hb 0
    have f0 : W.frozen? ⟨w.heap.size, 0, none⟩ = false := frozen_of hb 0
    have d0 : W.cell? ⟨p, 0, none⟩ = some (.int .i64 (y : Int)) := cells_of hp 0
    have d1 : W.cell? ⟨p, 1, none⟩ = some (.int .i64 (L2 : Int)) := cells_of hp 1
    have d2 : W.cell? ⟨p, 2, none⟩ = some (.int .i64 (W2 : Int)) := cells_of hp 2
    have HBEL := (show Hid _ from hbel)
    have HBX := (show Hid _ from hb)
    have hwl : w.heap.size < W.heap.size := lt_of_block hb
    have hmix : Tryd.prog.follows .mixedOrders = true := by kernel_rfl
    clear hnew hsz hlen hstep hwo hwide hy hle hle2 hbel hb hbx hbn hp
    gi_wp2_with fail
    gi_region_with_o ((refine ⟨trivial, rfl, ?_⟩; refine CallsIn.mono (CallsIn.inRound l (callsIn_wide.2 (HSZ.out _))) ?_; rintro e w2 ⟨rfl, hb2⟩; have k0 : w2.cell? ⟨w.heap.size, 0, none⟩ = some (.int .i64 (tot : Int)) := (hb2.cell (p := ⟨w.heap.size, 0, none⟩) hwl).trans c0; have k1 : w2.frozen? ⟨w.heap.size, 0, none⟩ = false := (hb2.frozen (p := ⟨w.heap.size, 0, none⟩) hwl).trans f0; have HB2 := (show Hid _ from hb2); clear hb2))
    all_goals
      have hend := size_round (w := w) (N := ((BitMath.maskTo V (k + 1)).length : Int)) HBX.out HBEL.out (undrew HB2.out) (HNEW.out.trans (wrap_small _ (by omega) (by omega)).symm)
      exact ⟨[w.heap.size], ⟨rfl, hend.1, hend.2.1⟩, hend.2.2, fun b hb => .inl hb⟩
  case done =>
    rintro D S W hD ⟨rfl, hb, hbel⟩ hDS hK
    have c0 : W.cell? ⟨w.heap.size, 0, none⟩ = some (.int .i64 ((BitMath.maskTo V m).length : Int)) := cells_of hb 0
    have HBEL := (show Hid _ from hbel)
    clear hbel hb
    go_wp2
    refine ⟨by simp, .inl ⟨_, _, rfl, run_takeDeferred hK, ?_⟩⟩
    exact ⟨_, results_tmp rfl _ _ _, rfl, HBEL.out.trans (((Kept.refl [D] W).put _ _ (.inl (by simp))).below HBEL.out.size (fun x hx => by simp at hx; subst hx; omega))⟩

/-- Size of whatever values. -/
theorem mSize_any (la : Option Addr) (m c : Nat) (V : Nat → Nat) (w : World) (hm : m ≤ 1000) (hV : U64s w la m V) (hT : Tab w) :
    Calls Tryd.prog 39 #[.slice la m c] w fun e w' => e = .returned (.int .i64 ((BitMath.maskTo V m).length : Int)) ∧ Below w.heap.size w w' := by
  by_cases h0 : m = 0
  · subst h0
    refine (mSize_none la c w).mono ?_
    rintro e w' ⟨rfl, hw⟩
    exact ⟨rfl, by rw [hw]; exact Below.refl _ _⟩
  · obtain ⟨lb, lo, rfl, hc⟩ := hV.at 0 (by omega)
    exact mSize_some lb lo m c V w (by omega) hm (fun i hi => (hc i hi).2) (fun i hi => (hc i hi).1) hT
end Go.Proofs.YtgdflopgdlpimaaDoor
