/- Package wave's ticksOf by its contract. -/
import Derived.Test.YtlbdjkeaohdjkabDoorTickMath
import Derived.Test.YtlbdjkeaohdjkabDoorTicksPut
namespace Go.Proofs.YtlbdjkeaohdjkabDoor
open Go.RowKit

def lastOf (ts : List Int) : Int := if 0 < ts.length then ts.getD (ts.length - 1) 0 else 0
def stepOf (ts : List Int) : Int := if 1 < ts.length then ts.getD (ts.length - 1) 0 - ts.getD (ts.length - 2) 0 else 0
theorem nextTick_of (ts : List Int) (t : Int) : nextTick ts t = t + lastOf ts + stepOf ts := rfl
theorem lastOf_snoc (ts : List Int) (t : Int) : lastOf (ts ++ [t]) = t := by
  unfold lastOf
  rw [if_pos (by simp), List.length_append, List.length_singleton, Nat.add_sub_cancel, List.getD_eq_getElem?_getD, List.getElem?_append_right (Nat.le_refl _), Nat.sub_self]
  rfl
theorem stepOf_snoc (ts : List Int) (t : Int) : stepOf (ts ++ [t]) = if 0 < ts.length then t - lastOf ts else 0 := by
  by_cases h : 0 < ts.length
  · rw [if_pos h]
    unfold stepOf
    rw [if_pos (by simp; omega)]
    have h1 := lastOf_snoc ts t
    unfold lastOf at h1
    rw [if_pos (by simp)] at h1
    rw [h1]
    congr 1
    unfold lastOf
    rw [if_pos h, List.getD_eq_getElem?_getD, List.getD_eq_getElem?_getD, List.length_append, List.length_singleton, show ts.length + 1 - 2 = ts.length - 1 by omega, List.getElem?_append_left (by omega)]
  · rw [if_neg h]
    unfold stepOf
    rw [if_neg (by rw [List.length_append, List.length_singleton]; omega)]
theorem lastOf_bounds (ts : List Int) (h : AllTicks ts) : -1099511627776 ≤ lastOf ts ∧ lastOf ts ≤ 1099511627776 := by
  unfold lastOf
  by_cases h0 : 0 < ts.length
  · rw [if_pos h0]; exact h.at _ (by omega)
  · rw [if_neg h0]; omega
theorem stepOf_bounds (ts : List Int) (h : AllTicks ts) : -2199023255552 ≤ stepOf ts ∧ stepOf ts ≤ 2199023255552 := by
  unfold stepOf
  by_cases h0 : 1 < ts.length
  · rw [if_pos h0]
    have h1 := h.at (ts.length - 1) (by omega)
    have h2 := h.at (ts.length - 2) (by omega)
    omega
  · rw [if_neg h0]; omega

theorem moved_of (ts : List Int) (t : Int) (hall : AllTicks ts) (ht : isTick t = true) (w : World) :
    Calls Tryd.prog 115 #[.agg #[.int .i64 (lastOf ts), .int .i64 (stepOf ts), .bool (decide (0 < ts.length))], .int .i64 t] w fun e w' => e = .returned (.agg #[.int .i64 (lastOf (ts ++ [t])), .int .i64 (stepOf (ts ++ [t])), .bool true]) ∧ Below w.heap.size w w' := by
  have hl := lastOf_bounds ts hall
  have ht := (isTick_iff t).1 ht
  rw [lastOf_snoc, stepOf_snoc]
  by_cases h0 : 0 < ts.length
  · rw [if_pos h0, decide_eq_true h0]
    exact moved_next _ _ _ w hl.1 hl.2 ht.1 ht.2
  · rw [if_neg h0, decide_eq_false h0]
    exact moved_first _ _ _ w

theorem inTime_any (t : Int) (w : World) :
    Calls Tryd.prog 111 #[.int .i64 t] w fun e w' => e = .returned (.bool (isTick t)) ∧ w' = w := by
  by_cases h0 : -1099511627776 ≤ t
  · by_cases h1 : t ≤ 1099511627776
    · rw [(isTick_iff t).2 ⟨h0, h1⟩]
      exact inTime_ok t w h0 h1
    · have hf : isTick t = false := by
        cases h : isTick t with
        | false => rfl
        | true => exact absurd ((isTick_iff t).1 h).2 h1
      rw [hf]
      have d0 : decide (-1099511627776 ≤ t) = true := by simpa using h0
      have d1 : decide (t ≤ 1099511627776) = false := by simpa using h1
      clear hf h0 h1
      go_enter Tryd.func111, Tryd.ntmps111
      go_wp2
      go_ret
      exact ⟨rfl, rfl⟩
  · have hf : isTick t = false := by
      cases h : isTick t with
      | false => rfl
      | true => exact absurd ((isTick_iff t).1 h).1 h0
    rw [hf]
    have d0 : decide (-1099511627776 ≤ t) = false := by simpa using h0
    clear hf h0
    go_enter Tryd.func111, Tryd.ntmps111
    go_wp2
    go_ret
    exact ⟨rfl, rfl⟩

theorem wrap_tick (a s t : Int) (ha0 : -1099511627776 ≤ a) (ha1 : a ≤ 1099511627776) (hs0 : -2199023255552 ≤ s) (hs1 : s ≤ 2199023255552) (ht0 : -9223372036854775808 ≤ t) (ht1 : t ≤ 9223372036854775807) :
    isTick (wrap64 (a + s + t)) = isTick (t + a + s) ∧ (isTick (wrap64 (a + s + t)) = true → wrap64 (a + s + t) = t + a + s) := by
  have h : wrap64 (a + s + t) = t + a + s ∨ ((wrap64 (a + s + t) < -1099511627776 ∨ 1099511627776 < wrap64 (a + s + t)) ∧ (t + a + s < -1099511627776 ∨ 1099511627776 < t + a + s)) := by
    unfold wrap64
    omega
  rcases h with h | ⟨h1, h2⟩
  · rw [h]
    exact ⟨rfl, fun _ => rfl⟩
  · have e1 : isTick (wrap64 (a + s + t)) = false := by
      cases h : isTick (wrap64 (a + s + t)) with
      | false => rfl
      | true => have := (isTick_iff _).1 h; omega
    have e2 : isTick (t + a + s) = false := by
      cases h : isTick (t + a + s) with
      | false => rfl
      | true => have := (isTick_iff _).1 h; omega
    rw [e1, e2]
    exact ⟨rfl, fun h => by cases h⟩

theorem tick_any (a s t : Int) (b : Bool) (w : World) (ha0 : -1099511627776 ≤ a) (ha1 : a ≤ 1099511627776) (hs0 : -2199023255552 ≤ s) (hs1 : s ≤ 2199023255552) (ht0 : -9223372036854775808 ≤ t) (ht1 : t ≤ 9223372036854775807) :
    Calls Tryd.prog 166 #[.agg #[.int .i64 a, .int .i64 s, .bool b], .int .i64 t] w fun e w' => (∃ x, e = .returned (.int .i64 x) ∧ isTick x = isTick (t + a + s) ∧ (isTick x = true → x = t + a + s)) ∧ Below w.heap.size w w' := by
  go_enter Tryd.func166, Tryd.ntmps166
  go_wp2
  go_ret
  exact ⟨⟨_, rfl, wrap_tick a s t ha0 ha1 hs0 hs1 ht0 ht1⟩, (Below.refl _ _).alloc (Nat.le_refl _) _⟩
theorem own_baseLow {w : World} {b c : Nat} {e : TypeId} {s : Nat} {v : Value} {n : Nat} {xs : List Value} (h : w.ownsRow b e s v n xs) (hb : c ≤ b) : w.ownsRow c e s v n xs := by
  obtain ⟨h1, h2⟩ := h
  refine ⟨h1, ?_⟩
  rcases h2 with h2 | ⟨g, cap, cur, hv, hg, r⟩
  · exact .inl h2
  · exact .inr ⟨g, cap, cur, hv, Nat.le_trans hb hg, r⟩
theorem own_setLow {w : World} {r : Nat} {e : TypeId} {s : Nat} {v : Value} {n : Nat} {xs : List Value} (h : w.ownsRow (r + 1) e s v n xs) (o : Nat) (u : Value) : (w.setCell ⟨r, o, none⟩ u).ownsRow (r + 1) e s v n xs := by
  obtain ⟨h1, h2⟩ := h
  refine ⟨h1, ?_⟩
  rcases h2 with h2 | ⟨g, cap, cur, hv, hg, hh, t⟩
  · exact .inl h2
  · exact .inr ⟨g, cap, cur, hv, hg, by rw [Below.heap_setCell _ _ _ _ (by simp; omega)]; exact hh, t⟩
theorem ticksBy_at (ts ns : List Int) (k : Nat) (hk : k < ns.length) : ticksBy ts (ns.drop k) = if isTick (nextTick ts (ns.getD k 0)) = true then ticksBy (ts ++ [nextTick ts (ns.getD k 0)]) (ns.drop (k + 1)) else none := by
  rw [List.drop_eq_getElem_cons hk, ticksBy, List.getD_eq_getElem?_getD, List.getElem?_eq_getElem hk]
  rfl

/-- What ticksOf answers. -/
def TicksMade (w w' : World) (ns : List Int) (n : Nat) (aB : Addr) (e : Ending) : Prop :=
  Below w.heap.size w w' ∧ ((∃ (ts : List Int) (v : Value), ticksBy [] ns = some ts ∧ ts.length = n ∧ AllTicks ts ∧ e = .returned (.tuple #[v, .nilIface]) ∧ w'.ownsRow w.heap.size 3 1 v n (intList ts)) ∨
    (ticksBy [] ns = none ∧ e = .returned (.tuple #[.slice none 0 0, .iface 264 (.pointer (some aB))])))

/-- Where ticksOf stands. -/
structure TOf (w wr : World) (ns ts : List Int) (k : Nat) (v : Value) : Prop where
  len : ts.length = k
  all : AllTicks ts
  eq : ticksBy [] ns = ticksBy ts (ns.drop k)
  own : wr.ownsRow (w.heap.size + 1) 3 1 v k (intList ts)
  blk : wr.heap[w.heap.size]? = some (.cells #[.int .i64 (lastOf ts), .int .i64 (stepOf ts), .bool (decide (0 < k))] 190 (0, 0))
  bel : Below w.heap.size w wr

set_option maxRecDepth 1000000 in
set_option maxHeartbeats 4000000 in
theorem ticks_made (w : World) (aB : Addr) (hE : w.cell? ⟨1, 0, none⟩ = some (.iface 264 (.pointer (some aB)))) (la : Option Addr) (c n : Nat) (ns : List Int) (hnl : ns.length = n) (hn : n ≤ 1000) (hI : Ints w la n (fun k => ns.getD k 0)) (hr : ∀ k, k < n → -9223372036854775808 ≤ ns.getD k 0 ∧ ns.getD k 0 ≤ 9223372036854775807) :
    Calls Tryd.prog 146 #[.slice la n c] w fun e w' => TicksMade w w' ns n aB e := by
  have HE := (show Hid _ from hE)
  have HI : Hid (Ints w la n (fun k => ns.getD k 0)) := hI
  have HR := (show Hid _ from hr)
  have HNL := (show Hid _ from hnl)
  have hel : (1 : Nat) < w.heap.size := lt_of_cell hE
  have hba : Below w.heap.size w (w.alloc (.cells #[.int .i64 0, .int .i64 0, .bool false] 190)) := (Below.refl _ _).alloc (Nat.le_refl _) _
  have hblk : (w.alloc (.cells #[.int .i64 0, .int .i64 0, .bool false] 190)).heap[w.heap.size]? = some (.cells #[.int .i64 0, .int .i64 0, .bool false] 190 (0, 0)) := heap_alloc_new _ _
  have HBLK := (show Hid _ from hblk)
  have HBA := (show Hid _ from hba)
  clear hE hI hr hnl hba hblk
  obtain ⟨i0, hi, hz0, hz1, hz2⟩ := info_parts Tryd.infoIntR
  go_enter Tryd.func146, Tryd.ntmps146
  go_wp2_with (at_make; refine wpList_make_own _ rfl _ _ 61 rfl (w.heap.size + 1) 3 i0 (.int .i64 0) 1 Tryd.underlying61 hi hz0 hz1 _ _ _ n rfl rfl (by omega) ?b2 ?b3 (by simp) ?_)
  case b2 => rw [hz2]; omega
  case b3 => unfold maxLen; omega
  intro w0 hown0 hgrow0
  have hsz0 : (w.alloc (.cells #[.int .i64 0, .int .i64 0, .bool false] 190)).heap.size = w.heap.size + 1 := by simp
  have h00 : TOf w w0 ns [] 0 (.slice (some ⟨w.heap.size + 1, 0, none⟩) 0 n) := by
    refine ⟨rfl, fun t ht => absurd ht (by simp), rfl, hown0, ?_, HBA.out.trans ⟨hgrow0.os, hgrow0.tape, hgrow0.output, hgrow0.size, fun j hj => hgrow0.block j (by omega) (by simp)⟩⟩
    exact (hgrow0.block w.heap.size (by omega) (by simp)).trans HBLK.out
  have H00 := (show Hid _ from h00)
  clear hown0 hgrow0 h00 HBLK HBA hsz0
  go_wp2_with fail
  go_loopw [2, 3, 5, 7, 8, 14] (fun r2 r3 l _ _ i wr => r2 = .slice none 0 0 ∧ r3 = .nilIface ∧ ∃ (k : Nat) (ts : List Int) (v : Value), k ≤ n ∧ i = .int .i64 k ∧ v = l ∧ TOf w wr ns ts k v) (fun _ _ _ _ _ i _ => n - (intOf i).toNat)
  case atStart => exact ⟨rfl, rfl, 0, [], _, Nat.zero_le _, rfl, rfl, H00.out⟩
  case round =>
    obtain ⟨rfl, rfl, k, ts, v, hk, rfl, rfl, hof⟩ := hrel
    clear H00
    by_cases hlt : k < n
    · obtain ⟨lb, lo, rfl, hc⟩ := HI.out.at k hlt
      have hlb : lb < w.heap.size := lt_of_cell hc
      have hcr : wr.cell? ⟨lb, lo + k, none⟩ = some (.int .i64 (ns.getD k 0)) := (hof.bel.cell (p := ⟨lb, lo + k, none⟩) hlb).trans hc
      have hrk := HR.out k hlt
      have hst := ticksBy_at ts ns k (by have := HNL.out; omega)
      have hwl : (w.heap.size : Nat) < wr.heap.size := lt_of_block hof.blk
      have hlbd := lastOf_bounds ts hof.all
      have hsbd := stepOf_bounds ts hof.all
      have hmv := fun x hx w0 => moved_of ts x hof.all hx w0
      rw [hof.len] at hmv
      have hblk := hof.blk
      rw [nextTick_of] at hst
      generalize ht : ns.getD k 0 = t at *
      generalize ha : lastOf ts = a at *
      generalize hs : stepOf ts = s at *
      have htk := fun w0 => tick_any a s t (decide (0 < k)) w0 hlbd.1 hlbd.2 hsbd.1 hsbd.2 hrk.1 hrk.2
      generalize hb : decide (0 < k) = b at *
      have HTK := (show Hid _ from htk)
      have HMV := (show Hid _ from hmv)
      have HOF := (show Hid _ from hof)
      have HST := (show Hid _ from hst)
      have HBLK := (show Hid _ from hblk)
      have z0 : wr.cell? ⟨w.heap.size, 0, none⟩ = some (.int .i64 a) := cells_of hblk 0
      have z1 : wr.cell? ⟨w.heap.size, 1, none⟩ = some (.int .i64 s) := cells_of hblk 1
      have z2 : wr.cell? ⟨w.heap.size, 2, none⟩ = some (.bool b) := cells_of hblk 2
      have hk0 : (0 : Int) ≤ (k : Int) := by omega
      have hk1 : (k : Int) < (n : Int) := by omega
      clear htk hmv hof hst hblk ht ha hs hb hc hlbd hsbd hrk
      go_wp2_with fail
      refine Calls.mono (HTK.out _) ?_
      rintro e w2 ⟨⟨x, rfl, hx1, hx2⟩, hb2⟩
      have HX1 := (show Hid _ from hx1)
      have HX2 := (show Hid _ from hx2)
      have HB2 := (show Hid _ from hb2)
      have HIT := (show Hid _ from inTime_any x w2)
      clear hx1 hx2 hb2 HTK z0 z1 z2 hcr
      go_wp2_with fail
      refine Calls.mono HIT.out ?_
      rintro e w3 ⟨rfl, hw3⟩
      have hw3' := hw3.symm
      subst hw3'
      clear HIT
      cases hxt : isTick x with
      | false =>
        have hbw : Below w.heap.size w w2 := HOF.out.bel.trans (HB2.out.mono HOF.out.bel.size)
        have hE2 : w2.cell? ⟨1, 0, none⟩ = some (.iface 264 (.pointer (some aB))) := (hbw.cell (p := ⟨1, 0, none⟩) hel).trans HE.out
        have hfin : ticksBy [] ns = none := by
          rw [HOF.out.eq, HST.out, if_neg]
          rw [← HX1.out, hxt]
          decide
        have HF := (show Hid _ from hfin)
        have HBW := (show Hid _ from hbw)
        clear hfin hbw hxt
        go_wp2_with fail
        go_quiet (fail)
        go_wp2
        go_ret2
        exact ⟨HBW.out.trans ((⟨rfl, rfl, rfl, Nat.le_refl _, fun _ _ => rfl⟩ : Below w2.heap.size w2 (w2.drewN nq)).mono HBW.out.size), .inr ⟨HF.out, rfl⟩⟩
      | true =>
        have hxe := HX2.out hxt
        have hstx := HST.out
        rw [← hxe, if_pos hxt] at hstx
        have hmx := HMV.out x hxt
        have hall2 := HOF.out.all.snoc x hxt
        have hblk2 := (HB2.out.block w.heap.size hwl).trans HBLK.out
        have y0 : w2.cell? ⟨w.heap.size, 0, none⟩ = some (.int .i64 a) := cells_of hblk2 0
        have y1 : w2.cell? ⟨w.heap.size, 1, none⟩ = some (.int .i64 s) := cells_of hblk2 1
        have y2 : w2.cell? ⟨w.heap.size, 2, none⟩ = some (.bool b) := cells_of hblk2 2
        generalize ha' : lastOf (ts ++ [x]) = a' at *
        generalize hs' : stepOf (ts ++ [x]) = s' at *
        have HMX := (show Hid _ from hmx)
        have HSTX := (show Hid _ from hstx)
        have HALL := (show Hid _ from hall2)
        have HA' := (show Hid _ from ha')
        have HS' := (show Hid _ from hs')
        clear hmx hstx hall2 ha' hs' hxe hxt hblk2 HST HMV HX1 HX2
        go_wp2_with fail
        refine Calls.mono (HMX.out _) ?_
        rintro e w4 ⟨rfl, hb4⟩
        have hb4r : Below wr.heap.size wr w4 := HB2.out.trans (hb4.mono HB2.out.size)
        have hblk4 := (hb4r.block w.heap.size hwl).trans HBLK.out
        have v0 : w4.cell? ⟨w.heap.size, 0, none⟩ = some (.int .i64 a) := cells_of hblk4 0
        have v1 : w4.cell? ⟨w.heap.size, 1, none⟩ = some (.int .i64 s) := cells_of hblk4 1
        have v2 : w4.cell? ⟨w.heap.size, 2, none⟩ = some (.bool b) := cells_of hblk4 2
        have x0 := frozen_of hblk4 0
        have x1 := frozen_of hblk4 1
        have x2 := frozen_of hblk4 2
        have hset := heap_set (heap_set (heap_set hblk4 0 (.int .i64 a')) 1 (.int .i64 s')) 2 (.bool true)
        obtain ⟨w5, hw5⟩ : ∃ w5, w5 = ((w4.setCell ⟨w.heap.size, 0, none⟩ (.int .i64 a')).setCell ⟨w.heap.size, 1, none⟩ (.int .i64 s')).setCell ⟨w.heap.size, 2, none⟩ (.bool true) := ⟨_, rfl⟩
        have hb5 : Below w.heap.size w w5 := by
          have hb4w := HOF.out.bel.trans (hb4r.mono HOF.out.bel.size)
          rw [hw5]
          exact ((hb4w.setCell (p := ⟨w.heap.size, 0, none⟩) (Nat.le_refl _) (.int .i64 a')).setCell (p := ⟨w.heap.size, 1, none⟩) (Nat.le_refl _) (.int .i64 s')).setCell (p := ⟨w.heap.size, 2, none⟩) (Nat.le_refl _) (.bool true)
        have hblk5 : w5.heap[w.heap.size]? = some (.cells #[.int .i64 a', .int .i64 s', .bool true] 190 (0, 0)) := by rw [hw5]; exact hset
        have hown5 : w5.ownsRow (w.heap.size + 1) 3 1 v k (intList ts) := by
          have h4 := own_kept HOF.out.own hb4r
          rw [hw5]
          exact own_setLow (own_setLow (own_setLow h4 _ _) _ _) _ _
        have hs5 : w5.heap.size = w4.heap.size := by rw [hw5]; simp
        have h45 := hb4r.size
        have hs5w : w.heap.size + 1 ≤ w5.heap.size := by omega
        have H5 : Hid (∀ w', w' = ((w4.setCell ⟨w.heap.size, 0, none⟩ (.int .i64 a')).setCell ⟨w.heap.size, 1, none⟩ (.int .i64 s')).setCell ⟨w.heap.size, 2, none⟩ (.bool true) → w' = w5) := fun w' h => h.trans hw5.symm
        have HB5 := (show Hid _ from hb5)
        have HBLK5 := (show Hid _ from hblk5)
        have HOWN5 := (show Hid _ from hown5)
        have hownA : (w5.alloc (.cells #[.int .i64 x] 3)).ownsRow (w.heap.size + 1) 3 1 v k (intList ts) := hown5.alloc _
        clear hb4 hb4r hblk4 hset hw5 hb5 hblk5 hown5 hs5 h45 y0 y1 y2 HMX HB2 HBLK
        go_upto_region 10 with fail
        have hww := H5.out _ rfl
        try rw [hww]
        clear hww v0 v1 v2 x0 x1 x2 H5
        go_wp2_with (at_builtin; refine wpList_append_lies _ rfl _ _ 61 rfl (w.heap.size + 1) 3 i0 (.int .i64 0) 1 8 Tryd.underlying61 hi hz0 hz1 hz2 rfl (by decide) _ _ _ rfl hownA ⟨w5.heap.size, 0, none⟩ 1 1 [.int .i64 x] rfl rfl ?c1 ?c2 (by omega) ?c3 ?c4 ?c5 (w5.heap.size + 1) (by simp) ?_)
        try (case c1 => intro j u hj; match j, hj with | 0, hj => simp at hj; subst hj; simp [Addr.add])
        case c2 => first | rfl | (intro u hu; simp at hu; subst hu; rfl)
        case c3 => unfold maxLen; omega
        case c4 => omega
        case c5 => first | omega | (simp; omega)
        intro g6 cap6 w6 hown6 hgrow6 hat6 hlt6
        have hno : ∀ b, b ≤ w.heap.size → v.ownBlock ≠ some b := by
          intro b hb e
          rcases HOWN5.out.2 with ⟨hv0, _⟩ | ⟨g, cap, cur, hv0, hg, _⟩
          · rw [hv0] at e; simp [Value.ownBlock] at e
          · rw [hv0] at e; simp [Value.ownBlock] at e; omega
        have hba : Below w.heap.size w (w5.alloc (.cells #[.int .i64 x] 3)) := HB5.out.alloc HB5.out.size _
        have hb6 : Below w.heap.size w w6 := hba.trans ⟨hgrow6.os, hgrow6.tape, hgrow6.output, hgrow6.size, fun j hj => hgrow6.block j (Nat.lt_of_lt_of_le hj hba.size) (fun e => hno j (by omega) e.symm)⟩
        have hblk6 : w6.heap[w.heap.size]? = some (.cells #[.int .i64 a', .int .i64 s', .bool true] 190 (0, 0)) := by
          refine ((hgrow6.block w.heap.size (by simp; omega) (fun e => hno _ (Nat.le_refl _) e.symm)).trans ?_).trans HBLK5.out
          exact Below.heap_alloc _ _ _ (by omega)
        rw [intList_snoc] at hown6
        have hof6 : TOf w w6 ns (ts ++ [x]) (k + 1) (.slice (some ⟨g6, 0, none⟩) (k + 1) cap6) := ⟨by rw [List.length_append, HOF.out.len]; rfl, HALL.out, HOF.out.eq.trans HSTX.out, hown6, by rw [HA'.out, HS'.out, decide_eq_true (by omega)]; exact hblk6, hb6⟩
        have HOF6 := (show Hid _ from hof6)
        clear hown6 hgrow6 hat6 hlt6 hno hba hb6 hblk6 hof6 hownA
        go_wp2
        go_roundw
        case rel => exact ⟨rfl, rfl, k + 1, ts ++ [x], _, by omega, by go_num, rfl, HOF6.out⟩
        case measure => simp [intOf]; omega
    · have hge : (n : Int) ≤ (k : Int) := by omega
      have hkn : k = n := by omega
      have hmade : TicksMade w wr ns n aB (.returned (.tuple #[v, .nilIface])) := by
        refine ⟨hof.bel, .inl ⟨ts, v, ?_, hof.len.trans hkn, hof.all, rfl, ?_⟩⟩
        · rw [hof.eq, List.drop_of_length_le (by have := HNL.out; omega)]
          rfl
        · rw [← hkn]
          exact own_baseLow hof.own (by omega)
      have HMADE := (show Hid _ from hmade)
      clear hof hkn hmade hlt
      go_wp2
      go_ret2
      exact HMADE.out
end Go.Proofs.YtlbdjkeaohdjkabDoor
