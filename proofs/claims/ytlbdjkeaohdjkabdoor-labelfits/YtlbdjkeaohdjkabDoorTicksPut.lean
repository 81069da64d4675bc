/- Package wave's Ticks by its contract, where every tick is in bounds and there is room. -/
import Derived.Test.YtlbdjkeaohdjkabDoorBitMathGroup
import Derived.Test.YtlbdjkeaohdjkabDoorWavePut2
import Derived.Test.YtlbdjkeaohdjkabDoorWaveGet
import Derived.Test.YtlbdjkeaohdjkabDoorSlicesIn
import Derived.Test.YtlbdjkeaohdjkabDoorRows1Group
namespace Go.Proofs.YtlbdjkeaohdjkabDoor
open Go.RowKit

theorem inTime_ok (t : Int) (w : World) (h0 : -1099511627776 ≤ t) (h1 : t ≤ 1099511627776) :
    Calls Tryd.prog 111 #[.int .i64 t] w fun e w' => e = .returned (.bool true) ∧ w' = w := by
  have d0 : decide (-1099511627776 ≤ t) = true := by simpa using h0
  have d1 : decide (t ≤ 1099511627776) = true := by simpa using h1
  go_enter Tryd.func111, Tryd.ntmps111
  go_wp2
  go_ret
  exact ⟨rfl, rfl⟩

theorem change_any (a s t : Int) (b : Bool) (w : World) (ha0 : -1099511627776 ≤ a) (ha1 : a ≤ 1099511627776) (hs0 : -2199023255552 ≤ s) (hs1 : s ≤ 2199023255552) (ht0 : -1099511627776 ≤ t) (ht1 : t ≤ 1099511627776) :
    Calls Tryd.prog 114 #[.agg #[.int .i64 a, .int .i64 s, .bool b], .int .i64 t] w fun e w' => e = .returned (.int .i64 (t - a - s)) ∧ Below w.heap.size w w' := by
  go_enter Tryd.func114, Tryd.ntmps114
  go_wp2
  go_ret
  exact ⟨rfl, (Below.refl _ _).alloc (Nat.le_refl _) _⟩

theorem two_blocks {w : World} {C D : Array Value} {t u : TypeId} : (∀ i, ((w.alloc (.cells C t)).alloc (.cells D u)).cell? ⟨w.heap.size + 1, i, none⟩ = D[i]?) ∧ Below w.heap.size w ((w.alloc (.cells C t)).alloc (.cells D u)) := by
  refine ⟨fun i => ?_, ((Below.refl _ _).alloc (Nat.le_refl _) _).alloc (by simp) _⟩
  have h : ((w.alloc (.cells C t)).alloc (.cells D u)).heap[w.heap.size + 1]? = some (.cells D u (0, 0)) := by
    have := heap_alloc_new (w.alloc (.cells C t)) (.cells D u)
    simpa using this
  exact cells_of h i

theorem moved_first (a s t : Int) (w : World) :
    Calls Tryd.prog 115 #[.agg #[.int .i64 a, .int .i64 s, .bool false], .int .i64 t] w fun e w' => e = .returned (.agg #[.int .i64 t, .int .i64 0, .bool true]) ∧ Below w.heap.size w w' := by
  go_enter Tryd.func115, Tryd.ntmps115
  go_wp2
  refine bodyPost_ret (v := .agg #[.int .i64 t, .int .i64 0, .bool true]) (by simp [results, Tryd.results115, go_sem]) rfl ⟨rfl, ?_⟩
  exact two_blocks.2

theorem moved_next (a s t : Int) (w : World) (ha0 : -1099511627776 ≤ a) (ha1 : a ≤ 1099511627776) (ht0 : -1099511627776 ≤ t) (ht1 : t ≤ 1099511627776) :
    Calls Tryd.prog 115 #[.agg #[.int .i64 a, .int .i64 s, .bool true], .int .i64 t] w fun e w' => e = .returned (.agg #[.int .i64 t, .int .i64 (t - a), .bool true]) ∧ Below w.heap.size w w' := by
  go_enter Tryd.func115, Tryd.ntmps115
  go_wp2
  refine bodyPost_ret (v := .agg #[.int .i64 t, .int .i64 (t - a), .bool true]) (by simp [results, Tryd.results115, go_sem]) rfl ⟨rfl, ?_⟩
  exact two_blocks.2

/-- The course behind k ticks, as a value's three parts. -/
theorem moved_at (G : Nat → Int) (n k : Nat) (hk : k < n) (hok : ∀ i, i < n → -1099511627776 ≤ G i ∧ G i ≤ 1099511627776) (w : World) :
    Calls Tryd.prog 115 #[.agg #[.int .i64 (cAt G k), .int .i64 (cStep G k), .bool (decide (0 < k))], .int .i64 (G k)] w fun e w' => e = .returned (.agg #[.int .i64 (cAt G (k + 1)), .int .i64 (cStep G (k + 1)), .bool true]) ∧ Below w.heap.size w w' := by
  have hb := course_bounds G n k (by omega) hok
  have ht := hok k hk
  by_cases h0 : k = 0
  · subst h0
    rw [(course_first G).1, (course_first G).2]
    exact moved_first _ _ _ w
  · rw [(course_next G k (by omega)).1, (course_next G k (by omega)).2, decide_eq_true (by omega)]
    exact moved_next _ _ _ w hb.1 hb.2.1 ht.1 ht.2
theorem change_at (G : Nat → Int) (n k : Nat) (hk : k < n) (hok : ∀ i, i < n → -1099511627776 ≤ G i ∧ G i ≤ 1099511627776) (w : World) :
    Calls Tryd.prog 114 #[.agg #[.int .i64 (cAt G k), .int .i64 (cStep G k), .bool (decide (0 < k))], .int .i64 (G k)] w fun e w' => e = .returned (.int .i64 (deltaOf G k)) ∧ Below w.heap.size w w' := by
  have hb := course_bounds G n k (by omega) hok
  have ht := hok k hk
  rw [← course_delta]
  exact change_any _ _ _ _ w hb.1 hb.2.1 hb.2.2.1 hb.2.2.2 ht.1 ht.2
theorem delta_bounds (G : Nat → Int) (n k : Nat) (hk : k < n) (hok : ∀ i, i < n → -1099511627776 ≤ G i ∧ G i ≤ 1099511627776) : -9223372036854775808 ≤ deltaOf G k ∧ deltaOf G k ≤ 9223372036854775807 := by
  have hb := course_bounds G n k (by omega) hok
  have ht := hok k hk
  rw [← course_delta]
  omega

/-- Blocks below r stay: what a slice that came in keeps. -/
theorem Ints.low {w w' : World} {a : Option Addr} {n : Nat} {G : Nat → Int} (h : Ints w a n G) {r : Nat} (hb : Below r w w') (hr : ∀ x, a = some x → x.block < r) : Ints w' a n G := by
  rcases h with h | ⟨b, o, h, hc⟩
  · exact .inl h
  · refine .inr ⟨b, o, h, fun k hk => ?_⟩
    exact (hb.cell (p := ⟨b, o + k, none⟩) (show b < r from hr _ h)).trans (hc k hk)

/-- A write elsewhere leaves a row as it is. -/
theorem row_set {w : World} {r : Nat} {v : Value} {bs : List Bool} (h : IsRow w r v bs) (b o : Nat) (hb : b ∉ r :: v.ownBlock.toList) (u : Value) : IsRow (w.setCell ⟨b, o, none⟩ u) r v bs := by
  have hr : r ≠ b := fun e => hb (by rw [e]; simp)
  refine ⟨?_, ?_⟩
  · rw [Below.heap_setCell _ _ _ _ (by simpa using hr)]
    exact h.hb
  · obtain ⟨h1, h2⟩ := h.own
    refine ⟨h1, ?_⟩
    rcases h2 with h2 | ⟨g, cap, cur, hv, hg, hh, t⟩
    · exact .inl h2
    · have hgb : g ≠ b := fun e => hb (by rw [hv, e]; simp [Value.ownBlock])
      exact .inr ⟨g, cap, cur, hv, hg, by rw [Below.heap_setCell _ _ _ _ (by simpa using hgb)]; exact hh, t⟩

set_option maxRecDepth 1000000 in
set_option maxHeartbeats 2000000 in
theorem fit_ok (w : World) (hF : Forms w) (r : Nat) (v : Value) (bs : List Bool) (h : IsRow w r v bs) (la : Option Addr) (n c : Nat) (G : Nat → Int) (hI : Ints w la n G) (hn : n ≤ 10000) (hok : ∀ i, i < n → -1099511627776 ≤ G i ∧ G i ≤ 1099511627776) (hsz : bs.length + (ticksTo G n).length ≤ 1048576) :
    Calls Tryd.prog 112 #[.pointer (some ⟨r, 0, none⟩), .slice la n c] w fun e w' => e = .returned (.bool true) ∧ Below w.heap.size w w' := by
  have HF : Hid (Forms w) := hF
  have hFl := hF.lt
  have HI : Hid (Ints w la n G) := hI
  have HOK := (show Hid _ from hok)
  have hba : Below w.heap.size w (w.alloc (.cells #[.int .i64 0, .int .i64 0, .bool false] 190)) := (Below.refl _ _).alloc (Nat.le_refl _) _
  have HRM := (show Hid _ from room_any _ r v bs (h.below hba) (by omega))
  have hblk : (w.alloc (.cells #[.int .i64 0, .int .i64 0, .bool false] 190)).heap[w.heap.size]? = some (.cells #[.int .i64 0, .int .i64 0, .bool false] 190 (0, 0)) := heap_alloc_new _ _
  have HBLK := (show Hid _ from hblk)
  have HBA := (show Hid _ from hba)
  clear hF hI hok h hba hblk
  go_enter Tryd.func112, Tryd.ntmps112
  go_wp2_with fail
  refine Calls.mono HRM.out ?_
  rintro e w1 ⟨rfl, rfl⟩
  go_wp2_with fail
  go_loopw [4, 6, 8, 13] (fun s4 rm _ i wr => s4 = .bool false ∧ ∃ k : Nat, k ≤ n ∧ i = .int .i64 k ∧ (∃ q : Int, rm = .int .i64 q ∧ q = 1048576 - ((bs.length + (ticksTo G k).length : Nat) : Int)) ∧ wr.heap[w.heap.size]? = some (.cells #[.int .i64 (cAt G k), .int .i64 (cStep G k), .bool (decide (0 < k))] 190 (0, 0)) ∧ Below w.heap.size w wr) (fun _ _ _ i _ => n - (intOf i).toNat)
  case atStart => exact ⟨rfl, 0, Nat.zero_le _, rfl, ⟨_, rfl, rfl⟩, HBLK.out, HBA.out⟩
  case round =>
    obtain ⟨rfl, k, hk, rfl, ⟨q, rfl, hq⟩, hblk, hbr⟩ := hrel
    clear HRM HBLK HBA
    by_cases hlt : k < n
    · obtain ⟨lb, lo, rfl, hc⟩ := HI.out.at k hlt
      have hlb : lb < w.heap.size := lt_of_cell hc
      have hcr : wr.cell? ⟨lb, lo + k, none⟩ = some (.int .i64 (G k)) := (hbr.cell (p := ⟨lb, lo + k, none⟩) hlb).trans hc
      have hch := fun w0 => change_at G n k hlt HOK.out w0
      have hmv := fun w0 => moved_at G n k hlt HOK.out w0
      have hdb := delta_bounds G n k hlt HOK.out
      have hmo := length_ticksTo_mono G (k + 1) n (by omega)
      have hst := length_ticksTo_step G k
      have hwl : (w.heap.size : Nat) < wr.heap.size := lt_of_block hblk
      generalize ha : cAt G k = a at *
      generalize hs : cStep G k = s at *
      generalize hb : decide (0 < k) = b at *
      generalize ht : G k = t at *
      generalize hd : deltaOf G k = d at *
      generalize ha' : cAt G (k + 1) = a' at *
      generalize hs' : cStep G (k + 1) = s' at *
      have HCH := (show Hid _ from hch)
      have HMV := (show Hid _ from hmv)
      have HBR := (show Hid _ from hbr)
      have HBLK := (show Hid _ from hblk)
      have z0 : wr.cell? ⟨w.heap.size, 0, none⟩ = some (.int .i64 a) := cells_of hblk 0
      have z1 : wr.cell? ⟨w.heap.size, 1, none⟩ = some (.int .i64 s) := cells_of hblk 1
      have z2 : wr.cell? ⟨w.heap.size, 2, none⟩ = some (.bool b) := cells_of hblk 2
      have hk0 : (0 : Int) ≤ (k : Int) := by omega
      have hk1 : (k : Int) < (n : Int) := by omega
      obtain ⟨ld, hld⟩ : ∃ ld : Int, ((BitMath.waveOf d).length : Int) = ld := ⟨_, rfl⟩
      have hq1 : q ≤ 1048576 := by omega
      have hq0 : 0 ≤ q - ld := by omega
      have hl0 : 0 ≤ ld := by omega
      have hqn : q - ld = 1048576 - ((bs.length + (ticksTo G (k + 1)).length : Nat) : Int) := by omega
      have HQN := (show Hid _ from hqn)
      have HLD := (show Hid _ from hld)
      have hneg : decide (q - ld < 0) = false := by simp; omega
      have HA' := (show Hid _ from ha')
      have HS' := (show Hid _ from hs')
      clear hch hmv hbr hblk ha hs hb ht hd ha' hs' hc hqn hld hq hmo hst hsz
      go_wp2_with fail
      refine Calls.mono (HCH.out _) ?_
      rintro e w2 ⟨rfl, hb2⟩
      have hb2w := HBR.out.trans (hb2.mono HBR.out.size)
      have hsz2 := wsize_any d w2 (HF.out.below hb2w hFl) hdb.1 hdb.2
      rw [HLD.out] at hsz2
      have HSZ := (show Hid _ from hsz2)
      have HB2 := (show Hid _ from hb2)
      clear hsz2 hb2w hb2 HCH z0 z1 z2 hcr
      go_wp2_with fail
      refine Calls.mono HSZ.out ?_
      rintro e w3 ⟨rfl, hb3⟩
      have hb3r : Below wr.heap.size wr w3 := HB2.out.trans (hb3.mono HB2.out.size)
      have hblk3 := (hb3r.block w.heap.size hwl).trans HBLK.out
      have y0 : w3.cell? ⟨w.heap.size, 0, none⟩ = some (.int .i64 a) := cells_of hblk3 0
      have y1 : w3.cell? ⟨w.heap.size, 1, none⟩ = some (.int .i64 s) := cells_of hblk3 1
      have y2 : w3.cell? ⟨w.heap.size, 2, none⟩ = some (.bool b) := cells_of hblk3 2
      have HB3 := (show Hid _ from hb3r)
      clear hb3 hb3r hblk3 HSZ HB2
      go_wp2_with fail
      refine Calls.mono (HMV.out _) ?_
      rintro e w4 ⟨rfl, hb4⟩
      have hb4r : Below wr.heap.size wr w4 := HB3.out.trans (hb4.mono HB3.out.size)
      have hblk4 := (hb4r.block w.heap.size hwl).trans HBLK.out
      have v0 : w4.cell? ⟨w.heap.size, 0, none⟩ = some (.int .i64 a) := cells_of hblk4 0
      have v1 : w4.cell? ⟨w.heap.size, 1, none⟩ = some (.int .i64 s) := cells_of hblk4 1
      have v2 : w4.cell? ⟨w.heap.size, 2, none⟩ = some (.bool b) := cells_of hblk4 2
      have x0 := frozen_of hblk4 0
      have x1 := frozen_of hblk4 1
      have x2 := frozen_of hblk4 2
      have hset := heap_set (heap_set (heap_set hblk4 0 (.int .i64 a')) 1 (.int .i64 s')) 2 (.bool true)
      have HSET := (show Hid _ from hset)
      have hb4w := HBR.out.trans (hb4r.mono HBR.out.size)
      have HB4 := (show Hid _ from ((hb4w.setCell (p := ⟨w.heap.size, 0, none⟩) (Nat.le_refl _) (.int .i64 a')).setCell (p := ⟨w.heap.size, 1, none⟩) (Nat.le_refl _) (.int .i64 s')).setCell (p := ⟨w.heap.size, 2, none⟩) (Nat.le_refl _) (.bool true))
      clear hb4 hb4r hblk4 hset hb4w y0 y1 y2 HMV
      go_wp2
      go_roundw
      case rel => exact ⟨rfl, k + 1, by omega, by go_num, ⟨_, rfl, HQN.out⟩, by rw [HA'.out, HS'.out, decide_eq_true (by omega)]; exact HSET.out, HB4.out⟩
      case measure => simp [intOf]; omega
    · have hge : (n : Int) ≤ (k : Int) := by omega
      have HBR := (show Hid _ from hbr)
      clear hbr hblk hq hk hlt
      go_wp2
      go_ret
      exact ⟨rfl, HBR.out⟩

theorem Kept.lows {S : List Nat} {w w' : World} {r : Nat} (h : Kept S w w') (hr : r ≤ w.heap.size) (hS : ∀ x, x ∈ S → r ≤ x) : Below r w w' := h.below hr hS

set_option maxRecDepth 1000000 in
set_option maxHeartbeats 4000000 in
theorem wticks_ok (w : World) (hF : Forms w) (r : Nat) (hrF : 7 < r) (v : Value) (bs : List Bool) (h : IsRow w r v bs) (la : Option Addr) (n c : Nat) (G : Nat → Int) (hI : Ints w la n G) (hlr : ∀ x, la = some x → x.block < r) (hn : n ≤ 10000) (hok : ∀ i, i < n → -1099511627776 ≤ G i ∧ G i ≤ 1099511627776) (hsz : bs.length + (ticksTo G n).length ≤ 1048576) :
    Calls Tryd.prog 84 #[.pointer (some ⟨r, 0, none⟩), .slice la n c] w fun e w' => e = .returned .nilIface ∧ ∃ v', IsRow w' r v' (bs ++ ticksTo G n) ∧ Kept (r :: v.ownBlock.toList) w w' ∧ Grew w v v' := by
  have HF : Hid (Forms w) := hF
  have HI : Hid (Ints w la n G) := hI
  have HOK := (show Hid _ from hok)
  have HROW := (show Hid _ from h)
  have HFIT := (show Hid _ from fit_ok w hF r v bs h la n c G hI hn hok hsz)
  have HSZ := (show Hid _ from hsz)
  have hrl := h.lt
  have HLR := (show Hid _ from hlr)
  clear hF hI hok h hsz hlr
  go_enter Tryd.func84, Tryd.ntmps84
  go_wp2_with fail
  go_loop [4, 5, 6, 16] (fun s4 _ _ i => s4 = .nilIface ∧ ∃ k : Nat, k ≤ n ∧ i = .int .i64 k) (fun _ _ _ i => n - (intOf i).toNat)
  case atStart => exact ⟨rfl, 0, Nat.zero_le _, rfl⟩
  case round =>
    obtain ⟨rfl, k, hk, rfl⟩ := hrel
    by_cases hlt : k < n
    · obtain ⟨lb, lo, rfl, hc⟩ := HI.out.at k hlt
      have hit := inTime_ok (G k) w (HOK.out k hlt).1 (HOK.out k hlt).2
      have HIT := (show Hid _ from hit)
      have hk0 : (0 : Int) ≤ (k : Int) := by omega
      have hk1 : (k : Int) < (n : Int) := by omega
      generalize G k = t at *
      clear hit
      go_wp2_with fail
      refine Calls.mono HIT.out ?_
      rintro e w' ⟨rfl, hw'⟩
      have hw'' := hw'.symm
      subst hw''
      go_wp2
      go_round
      case rel => exact ⟨rfl, k + 1, by omega, by go_num⟩
      case measure => simp [intOf]; omega
    · have hge : (n : Int) ≤ (k : Int) := by omega
      clear hlt hk
      go_wp2_with fail
      refine Calls.mono HFIT.out ?_
      rintro e w1 ⟨rfl, hb1⟩
      have hrow1 := HROW.out.below hb1
      have hs1 := hb1.size
      have HOWNL := (show Hid _ from HROW.out.own_lt)
      have hbA : Below w.heap.size w (w1.alloc (.cells #[.int .i64 0, .int .i64 0, .bool false] 190)) := hb1.alloc hb1.size _
      have hblk : (w1.alloc (.cells #[.int .i64 0, .int .i64 0, .bool false] 190)).heap[w1.heap.size]? = some (.cells #[.int .i64 0, .int .i64 0, .bool false] 190 (0, 0)) := heap_alloc_new _ _
      have HBLK := (show Hid _ from hblk)
      have HBA := (show Hid _ from hbA)
      have HROWA := (show Hid _ from HROW.out.below hbA)
      clear hb1 hrow1 hbA hblk HFIT
      go_wp2_with fail
      generalize hcb : w1.heap.size = cb at *
      go_loopw [4, 9, 10, 37] (fun s4 _ _ i wr => s4 = .nilIface ∧ ∃ (k : Nat) (v' : Value), k ≤ n ∧ i = .int .i64 k ∧ IsRow wr r v' (bs ++ ticksTo G k) ∧ wr.heap[cb]? = some (.cells #[.int .i64 (cAt G k), .int .i64 (cStep G k), .bool (decide (0 < k))] 190 (0, 0)) ∧ cb ∉ r :: v'.ownBlock.toList ∧ Kept (r :: v.ownBlock.toList) w wr ∧ Grew w v v') (fun _ _ _ i _ => n - (intOf i).toNat)
      case atStart =>
        refine ⟨rfl, 0, v, Nat.zero_le _, rfl, by rw [ticksTo, List.append_nil]; exact HROWA.out, HBLK.out, fun hm => ?_, Kept.of_below HBA.out, .inl rfl⟩
        have := HOWNL.out _ hm
        omega
      case round =>
        obtain ⟨rfl, k, v', hk, rfl, hrow, hblk, hcbn, hkw, hgw⟩ := hrel
        clear HROWA HBLK HBA
        by_cases hlt : k < n
        · have hlow : Below r w wr := hkw.lows (Nat.le_of_lt hrl) HROW.out.own_ge
          have hFr : Forms wr := HF.out.below hlow hrF
          obtain ⟨lb, lo, rfl, hc⟩ := HI.out.at k hlt
          have hlbr : lb < r := HLR.out _ rfl
          have hcr : wr.cell? ⟨lb, lo + k, none⟩ = some (.int .i64 (G k)) := (hlow.cell (p := ⟨lb, lo + k, none⟩) hlbr).trans hc
          have hch := change_at G n k hlt HOK.out wr
          have hmv := fun w0 => moved_at G n k hlt HOK.out w0
          have hdb := delta_bounds G n k hlt HOK.out
          have hmo := length_ticksTo_mono G (k + 1) n (by omega)
          have hst := length_ticksTo_step G k
          have hstep : bs ++ ticksTo G (k + 1) = bs ++ ticksTo G k ++ BitMath.waveOf (deltaOf G k) := by rw [ticksTo, List.append_assoc]
          have hlen : (bs ++ ticksTo G k).length = bs.length + (ticksTo G k).length := List.length_append
          have hcbl : cb < wr.heap.size := lt_of_block hblk
          have hfit : (bs ++ ticksTo G k).length + (BitMath.waveOf (deltaOf G k)).length ≤ 1048576 := by have := HSZ.out; omega
          have HSTEP := (show Hid _ from hstep)
          generalize hL : bs ++ ticksTo G k = L at *
          generalize ha : cAt G k = a at *
          generalize hs : cStep G k = s at *
          generalize hb : decide (0 < k) = b at *
          generalize ht : G k = t at *
          generalize hd : deltaOf G k = d at *
          generalize ha' : cAt G (k + 1) = a' at *
          generalize hs' : cStep G (k + 1) = s' at *
          have HCH := (show Hid _ from hch)
          have HMV := (show Hid _ from hmv)
          have HBLK := (show Hid _ from hblk)
          have HRW := (show Hid _ from hrow)
          have HKW := (show Hid _ from hkw)
          have HGW : Hid (Grew w v v') := hgw
          have HFR : Hid (Forms wr) := hFr
          have HCBN : Hid (cb ∉ r :: v'.ownBlock.toList) := hcbn
          have z0 : wr.cell? ⟨cb, 0, none⟩ = some (.int .i64 a) := cells_of hblk 0
          have z1 : wr.cell? ⟨cb, 1, none⟩ = some (.int .i64 s) := cells_of hblk 1
          have z2 : wr.cell? ⟨cb, 2, none⟩ = some (.bool b) := cells_of hblk 2
          have hk0 : (0 : Int) ≤ (k : Int) := by omega
          have hk1 : (k : Int) < (n : Int) := by omega
          have HA' := (show Hid _ from ha')
          have HS' := (show Hid _ from hs')
          have HFT := (show Hid _ from hfit)
          have hFl := hFr.lt
          clear hch hmv hblk hrow hkw hgw hFr hcbn hlow hL ha hs hb ht hd ha' hs' hc hmo hst hstep hlen hfit
          go_wp2_with fail
          refine Calls.mono HCH.out ?_
          rintro e w2 ⟨rfl, hb2⟩
          have hrow2 := HRW.out.below hb2
          have hput := wput_ok d w2 (HFR.out.below hb2 hFl) r v' L hrow2 HFT.out hdb.1 hdb.2
          have HPUT := (show Hid _ from hput)
          have HB2 := (show Hid _ from hb2)
          clear hput hrow2 hb2 HCH z0 z1 z2 hcr
          go_wp2_with fail
          refine Calls.mono HPUT.out ?_
          rintro e w3 ⟨rfl, v3, hr3, hk3, hg3⟩
          have hblk3 : w3.heap[cb]? = some (.cells #[.int .i64 a, .int .i64 s, .bool b] 190 (0, 0)) := (hk3.block cb (by have := HB2.out.size; omega) HCBN.out).trans ((HB2.out.block cb hcbl).trans HBLK.out)
          have hcb3 : cb ∉ r :: v3.ownBlock.toList := fun hm => by
            rcases hg3.mem cb hm with h1 | h1
            · exact HCBN.out h1
            · have := HB2.out.size
              omega
          have y0 : w3.cell? ⟨cb, 0, none⟩ = some (.int .i64 a) := cells_of hblk3 0
          have y1 : w3.cell? ⟨cb, 1, none⟩ = some (.int .i64 s) := cells_of hblk3 1
          have y2 : w3.cell? ⟨cb, 2, none⟩ = some (.bool b) := cells_of hblk3 2
          have hkw3 : Kept (r :: v.ownBlock.toList) w w3 := HKW.out.trans ((Kept.of_below (S := r :: v'.ownBlock.toList) HB2.out).trans hk3 (fun x hx => .inl hx)) HGW.out.mem
          have hgw3 : Grew w v v3 := HGW.out.trans (w1 := w2) hg3 (Nat.le_trans HKW.out.size HB2.out.size)
          have HR3 := (show Hid _ from hr3)
          have HK3 := (show Hid _ from hkw3)
          have HG3 : Hid (Grew w v v3) := hgw3
          have HBLK3 := (show Hid _ from hblk3)
          have HCB3 : Hid (cb ∉ r :: v3.ownBlock.toList) := hcb3
          clear hr3 hk3 hg3 hblk3 hcb3 hkw3 hgw3 HPUT HBLK
          go_wp2_with fail
          refine Calls.mono (HMV.out _) ?_
          rintro e w4 ⟨rfl, hb4⟩
          have hblk4 := (hb4.block cb (lt_of_block HBLK3.out)).trans HBLK3.out
          have v0 : w4.cell? ⟨cb, 0, none⟩ = some (.int .i64 a) := cells_of hblk4 0
          have v1 : w4.cell? ⟨cb, 1, none⟩ = some (.int .i64 s) := cells_of hblk4 1
          have v2 : w4.cell? ⟨cb, 2, none⟩ = some (.bool b) := cells_of hblk4 2
          have x0 := frozen_of hblk4 0
          have x1 := frozen_of hblk4 1
          have x2 := frozen_of hblk4 2
          have HSET := (show Hid _ from heap_set (heap_set (heap_set hblk4 0 (.int .i64 a')) 1 (.int .i64 s')) 2 (.bool true))
          have hcbw : w.heap.size ≤ cb := hs1
          have HK4 := (show Hid _ from (((HK3.out.trans (Kept.of_below (S := []) hb4) (fun x hx => by cases hx)).setCell (p := ⟨cb, 0, none⟩) (.inr hcbw) (.int .i64 a')).setCell (p := ⟨cb, 1, none⟩) (.inr hcbw) (.int .i64 s')).setCell (p := ⟨cb, 2, none⟩) (.inr hcbw) (.bool true))
          have HR4 := (show Hid _ from row_set (row_set (row_set (HR3.out.below hb4) cb 0 HCB3.out (.int .i64 a')) cb 1 HCB3.out (.int .i64 s')) cb 2 HCB3.out (.bool true))
          clear hb4 hblk4 y0 y1 y2 HMV HBLK3 HR3 HK3
          go_wp2
          go_roundw
          case rel => exact ⟨rfl, k + 1, v3, by omega, by go_num, by rw [HSTEP.out]; exact HR4.out, by rw [HA'.out, HS'.out, decide_eq_true (by omega)]; exact HSET.out, HCB3.out, HK4.out, HG3.out⟩
          case measure => simp [intOf]; omega
        · have hkn : k = n := by omega
          subst hkn
          have HRW := (show Hid _ from hrow)
          have HKW := (show Hid _ from hkw)
          have HGW : Hid (Grew w v v') := hgw
          clear hrow hkw hgw hblk hcbn
          go_wp2
          go_ret
          exact ⟨rfl, v', HRW.out, HKW.out, HGW.out⟩
end Go.Proofs.YtlbdjkeaohdjkabDoor
