/- The document's ReadTicks, by its contract. -/
import Derived.Test.YtijgolnbbaljlaaGreatDoorRefTicksGroup
import Derived.Deep.AppendLies
import Derived.Deep.DeepCutAuto
import Derived.Test.YtijgolnbbaljlaaGreatDoorRefMask2
import Derived.Test.YtijgolnbbaljlaaGreatDoorBitMathGroup
import Derived.Test.YtijgolnbbaljlaaGreatDoorRefUnwave
import Derived.Test.YtijgolnbbaljlaaGreatDoorRefsGroup
namespace Go.Proofs.YtijgolnbbaljlaaGreatDoor
open Go.RowKit

/-- What a number that was read says of the next tick, behind those that are there. -/
def nextTick (out : List Int) (t : Int) : Int := t + (if 0 < out.length then out.getD (out.length - 1) 0 else 0) + (if 1 < out.length then out.getD (out.length - 1) 0 - out.getD (out.length - 2) 0 else 0)
/-- A difference beyond all ticks. -/
def far (t : Int) : Bool := decide (8796093022208 < t) || decide (t < -8796093022208)
/-- f ticks more from place a on, behind those that are there: an error's number, the ticks, the place. -/
def readTo (bs : List Bool) : Nat → Nat → List Int → Nat × List Int × Nat
  | 0, a, out => (0, out, a)
  | f + 1, a, out =>
    if 0 < (BitMath.unwave (bs.drop a)).1 then ((BitMath.unwave (bs.drop a)).1, [], 0)
    else if (decide (0 < out.length) && far (BitMath.unwave (bs.drop a)).2.1) = true then (2, [], 0)
    else if isTick (nextTick out (BitMath.unwave (bs.drop a)).2.1) = true then readTo bs f (a + (BitMath.unwave (bs.drop a)).2.2) (out ++ [nextTick out (BitMath.unwave (bs.drop a)).2.1])
    else (2, [], 0)
theorem Tryz.infoIntR : (Tryz.prog.info? 3).map (fun i => (i.zero, i.size, i.bytes)) = some (some (.int .i64 0), 1, 8) := by kernel_rfl

theorem num_bound (o v : Nat) (ho : o ≤ 4) (hv : v < 2 ^ BitMath.wideOf o) : -9223372036854775808 ≤ BitMath.numOf o v ∧ BitMath.numOf o v ≤ 9223372036854775807 := by
  obtain rfl | rfl | rfl | rfl | rfl : o = 0 ∨ o = 1 ∨ o = 2 ∨ o = 3 ∨ o = 4 := by omega
  · simp [BitMath.numOf, BitMath.biasOf, BitMath.wideOf] at hv ⊢; omega
  · simp [BitMath.numOf, BitMath.biasOf, BitMath.wideOf] at hv ⊢; omega
  · simp [BitMath.numOf, BitMath.biasOf, BitMath.wideOf] at hv ⊢; omega
  · simp [BitMath.numOf, BitMath.biasOf, BitMath.wideOf] at hv ⊢; omega
  · have hv' : v < 18446744073709551616 := by have : (2 : Nat) ^ BitMath.wideOf 4 = 18446744073709551616 := rfl; omega
    unfold BitMath.numOf
    rw [if_pos rfl]
    split <;> omega
theorem wide_le (o : Nat) : BitMath.wideOf o ≤ 64 := by unfold BitMath.wideOf; split <;> omega
theorem unwave_bits_at (D : List Bool) (o h : Nat) (ho : BitMath.onesOf D 4 = o) (hh : h = if o < 4 then o + 1 else 4) (ho4 : o ≤ 4) : (BitMath.unwave D).2.2 ≤ D.length ∧ (BitMath.unwave D).2.2 ≤ 68 ∧ (BitMath.unwave D).1 ≤ 5 ∧ -9223372036854775808 ≤ (BitMath.unwave D).2.1 ∧ (BitMath.unwave D).2.1 ≤ 9223372036854775807 := by
  have hh4 : h ≤ 4 := by rw [hh]; split <;> omega
  by_cases hl : D.length < h + BitMath.wideOf o
  · rw [BitMath.unwave_short D o h ho hh hl]
    simp
  · have hw := wide_le o
    have hv := BitMath.valB_lt ((D.drop h).take (BitMath.wideOf o))
    have hlen : ((D.drop h).take (BitMath.wideOf o)).length = BitMath.wideOf o := by rw [List.length_take, List.length_drop]; omega
    rw [hlen] at hv
    have hb := num_bound o _ ho4 hv
    rw [BitMath.unwave_long D o h ho hh (by omega) _ rfl]
    generalize BitMath.valB ((D.drop h).take (BitMath.wideOf o)) = v at *
    by_cases he : BitMath.waveOf (BitMath.numOf o v) = D.take (h + BitMath.wideOf o)
    · rw [if_pos he]
      exact ⟨by simp only; omega, by simp only; omega, by simp only; omega, hb.1, hb.2⟩
    · rw [if_neg he]
      simp
theorem unwave_bits (D : List Bool) : (BitMath.unwave D).2.2 ≤ D.length ∧ (BitMath.unwave D).2.2 ≤ 68 ∧ (BitMath.unwave D).1 ≤ 5 ∧ -9223372036854775808 ≤ (BitMath.unwave D).2.1 ∧ (BitMath.unwave D).2.1 ≤ 9223372036854775807 :=
  unwave_bits_at D _ _ rfl rfl (BitMath.onesOf_le D 4)
theorem readTo_succ (bs : List Bool) (f a : Nat) (out : List Int) : readTo bs (f + 1) a out =
    if 0 < (BitMath.unwave (bs.drop a)).1 then ((BitMath.unwave (bs.drop a)).1, [], 0)
    else if (decide (0 < out.length) && far (BitMath.unwave (bs.drop a)).2.1) = true then (2, [], 0)
    else if isTick (nextTick out (BitMath.unwave (bs.drop a)).2.1) = true then readTo bs f (a + (BitMath.unwave (bs.drop a)).2.2) (out ++ [nextTick out (BitMath.unwave (bs.drop a)).2.1])
    else (2, [], 0) := rfl


/-- The cells of ints. -/
def intList (l : List Int) : List Value := l.map (Value.int .i64)
theorem intList_snoc (l : List Int) (x : Int) : intList l ++ [.int .i64 x] = intList (l ++ [x]) := by simp [intList]
theorem own_list {w : World} {base k : Nat} {v : Value} {out : List Int} (h : w.ownsRow base 3 1 v k (intList out)) (hk : 0 < k) (hl : out.length = k) :
    ∃ g cap, v = .slice (some ⟨g, 0, none⟩) k cap ∧ base ≤ g ∧ k ≤ cap ∧ ∀ j, j < k → w.cell? ⟨g, j, none⟩ = some (.int .i64 (out.getD j 0)) := by
  obtain ⟨_, h2⟩ := h
  rcases h2 with ⟨_, h0⟩ | ⟨g, cap, cur, hv, hg, hh, h1, h2, h3, h4⟩
  · omega
  · rw [Nat.mul_one] at h3 h4
    refine ⟨g, cap, hv, hg, h1, fun j hj => ?_⟩
    have e : (cur.toList.take k)[j]? = cur.toList[j]? := by rw [List.getElem?_take_of_lt hj]
    have e2 : w.cell? ⟨g, j, none⟩ = cur[j]? := by simp [World.cell?, hh]
    rw [e2, ← Array.getElem?_toList, ← e, h4, intList, List.getElem?_map, List.getElem?_eq_getElem (by omega), List.getD_eq_getElem?_getD, List.getElem?_eq_getElem (by omega)]
    rfl
theorem own_kept {w w' : World} {base : Nat} {e : TypeId} {s : Nat} {v : Value} {n : Nat} {xs : List Value} (h : w.ownsRow base e s v n xs) (hb : Below w.heap.size w w') : w'.ownsRow base e s v n xs := by
  obtain ⟨h1, h2⟩ := h
  refine ⟨h1, ?_⟩
  rcases h2 with h2 | ⟨g, cap, cur, hv, hg, hh, r⟩
  · exact .inl h2
  · have hl : g < w.heap.size := by
      rcases Nat.lt_or_ge g w.heap.size with h' | h'
      · exact h'
      · rw [Array.getElem?_eq_none h'] at hh; cases hh
    exact .inr ⟨g, cap, cur, hv, hg, (hb.block g hl).trans hh, r⟩
theorem grown_ints {w wr w1 : World} {v : Value} {C : Array Value} {n : Nat} {xs : List Value} (hb : Below w.heap.size w wr) (hown : wr.ownsRow w.heap.size 3 1 v n xs) (hgrow : (wr.alloc (.cells C 3)).grownBy w1 v.ownBlock) : Below w.heap.size w w1 := by
  have hba : Below w.heap.size w (wr.alloc (.cells C 3)) := hb.alloc hb.size _
  refine hba.trans ⟨hgrow.os, hgrow.tape, hgrow.output, hgrow.size, fun k hk => hgrow.block k (Nat.lt_of_lt_of_le hk hba.size) ?_⟩
  intro e
  rcases hown.2 with ⟨rfl, _⟩ | ⟨g, cap, cur, rfl, hg, _⟩
  · simp [Value.ownBlock] at e
  · simp [Value.ownBlock] at e
    omega
theorem getD_in (l : List Int) (i : Nat) (h : i < l.length) : l.getD i 0 ∈ l := by
  rw [List.getD_eq_getElem?_getD, List.getElem?_eq_getElem h, Option.getD_some]
  exact List.getElem_mem h

/-- What ReadTicks answers. -/
def TicksOut (w w' : World) (bs : List Bool) (a0 n : Nat) (e : Ending) : Prop :=
  Below w.heap.size w w' ∧ ((∃ (out : List Int) (a : Nat) (v : Value), readTo bs n a0 [] = (0, out, a) ∧ e = .returned (.tuple #[v, .int .i64 ((a : Int) - (a0 : Int)), .int .i64 0]) ∧ out.length = n ∧ a0 ≤ a ∧ a ≤ bs.length ∧ w'.ownsRow w.heap.size 3 1 v n (intList out) ∧ (∀ x, x ∈ out → isTick x = true)) ∨
    (∃ c : Nat, c ≠ 0 ∧ readTo bs n a0 [] = (c, [], 0) ∧ e = .returned (.tuple #[.slice none 0 0, .int .i64 0, .int .i64 (c : Int)])))

set_option maxRecDepth 1000000 in
set_option maxHeartbeats 4000000 in
theorem read_ticks (bs : List Bool) (a0 n : Nat) (w : World) (ha0 : a0 ≤ bs.length) (hl : bs.length ≤ 100000) (hn : n ≤ 1000) :
    Calls Tryz.prog 81 #[.string (BitMath.txt bs), .int .i64 (a0 : Int), .int .i64 (n : Int)] w fun e w' => TicksOut w w' bs a0 n e := by
  go_enter Tryz.func81, Tryz.ntmps81
  go_wp2_with fail
  go_loopw [1, 6, 7, 8, 9, 11, 12, 13, 14, 15] (fun at_ r6 r7 r8 o i _ _ _ _ wr => r6 = .slice none 0 0 ∧ r7 = .int .i64 0 ∧ r8 = .int .i64 0 ∧ ∃ (k a : Nat) (out : List Int) (v : Value), k ≤ n ∧ i = .int .i64 k ∧ at_ = .int .i64 (a : Int) ∧ v = o ∧ out.length = k ∧ a0 ≤ a ∧ a ≤ bs.length ∧ readTo bs n a0 [] = readTo bs (n - k) a out ∧ (∀ x, x ∈ out → isTick x = true) ∧ wr.ownsRow w.heap.size 3 1 v k (intList out) ∧ Below w.heap.size w wr) (fun _ _ _ _ _ i _ _ _ _ _ => n - (intOf i).toNat)
  case atStart => exact ⟨rfl, rfl, rfl, 0, a0, [], _, Nat.zero_le _, rfl, rfl, rfl, rfl, Nat.le_refl _, ha0, rfl, (fun x hx => by cases hx), ⟨rfl, .inl ⟨rfl, rfl⟩⟩, Below.refl _ _⟩
  case round =>
    obtain ⟨rfl, rfl, rfl, k, a, out, v, hk, rfl, rfl, rfl, hlen, haa, ha, heq, hticks, hown, hb⟩ := hrel
    by_cases hkn : k < n
    · have huw := unwave_any bs a wr ha hl
      obtain ⟨hu1, hu2, hu3, hu4, hu5⟩ := unwave_bits (bs.drop a)
      rw [List.length_drop] at hu1
      have hstep := readTo_succ bs (n - k - 1) a out
      rw [show n - k - 1 + 1 = n - k from by omega] at hstep
      rw [hstep] at heq
      clear hstep
      generalize BitMath.unwave (bs.drop a) = U at *
      obtain ⟨c, t, b⟩ := U
      simp only at heq hu1 hu2 hu3 hu4 hu5
      unfold partOf at huw
      have HUW := (show Hid _ from huw)
      have HEQ := (show Hid _ from heq)
      have HOWN0 : Hid (wr.ownsRow w.heap.size 3 1 v k (intList out)) := hown
      have HB0 := (show Hid _ from hb)
      have HT := (show Hid _ from hticks)
      have HLEN := (show Hid _ from hlen)
      have hk1 : (k : Int) < (n : Int) := by omega
      clear huw heq hown hb hticks hlen
      go_wp2_with fail
      refine Calls.mono HUW.out ?_
      rintro e w1 ⟨rfl, hb1⟩
      simp only
      obtain ⟨w2, hw2⟩ : ∃ w2, w2 = w1.alloc (.cells #[.int .i64 t, .int .u64 0, .int .i64 (b : Int), .int .i64 (c : Int)] 177) := ⟨_, rfl⟩
      have hba : Below w1.heap.size w1 w2 := by rw [hw2]; exact (Below.refl _ _).alloc (Nat.le_refl _) _
      have hb2 : Below w.heap.size w w2 := (HB0.out.trans (hb1.mono HB0.out.size)).trans (hba.mono (HB0.out.trans (hb1.mono HB0.out.size)).size)
      have HB := (show Hid _ from hb2)
      have HOWN : Hid (w2.ownsRow w.heap.size 3 1 v k (intList out)) := own_kept (own_kept HOWN0.out hb1) hba
      have hblk : w2.heap[w1.heap.size]? = some (.cells #[.int .i64 t, .int .u64 0, .int .i64 (b : Int), .int .i64 (c : Int)] 177 (0, 0)) := by rw [hw2]; exact heap_alloc_new _ _
      have z0 : w2.cell? ⟨w1.heap.size, 0, none⟩ = some (.int .i64 t) := by simp [World.cell?, hblk]
      have z2 : w2.cell? ⟨w1.heap.size, 2, none⟩ = some (.int .i64 (b : Int)) := by simp [World.cell?, hblk]
      have z3 : w2.cell? ⟨w1.heap.size, 3, none⟩ = some (.int .i64 (c : Int)) := by simp [World.cell?, hblk]
      have H2 : Hid (∀ (w' : World), w' = w1.alloc (.cells #[.int .i64 t, .int .u64 0, .int .i64 (b : Int), .int .i64 (c : Int)] 177) → w' = w2) := fun w' h => h.trans hw2.symm
      clear hb1 HUW hw2 hba hb2 hblk
      go_upto_if 27 with fail
      have hww := H2.out _ rfl
      try rw [hww]
      clear hww
      by_cases hc0 : 0 < c
      · have hcI : (0 : Int) < (c : Int) := by omega
        have hfin : readTo bs n a0 [] = (c, [], 0) := by rw [HEQ.out, if_pos hc0]
        have HF := (show Hid _ from hfin)
        have HC0 : Hid (c ≠ 0) := (by omega : c ≠ 0)
        clear hfin hc0
        go_wp2_with fail
        go_quiet (fail)
        go_wp2
        go_ret3
        exact ⟨HB.out.trans ((⟨rfl, rfl, rfl, Nat.le_refl _, fun _ _ => rfl⟩ : Below w2.heap.size w2 (w2.drewN nq)).mono HB.out.size), .inr ⟨c, HC0.out, HF.out, rfl⟩⟩
      · obtain rfl : c = 0 := by omega
        have hab : (a : Int) + (b : Int) ≤ 100068 := by omega
        have hheq := HEQ.out.trans (if_neg (by omega))
        have HEQ1 := (show Hid _ from hheq)
        clear hc0 HEQ hheq
        go_upto_region 11 with fail
        go_cut [14] (fun f wx => f = .bool (far t) ∧ wx = w2)
        case first =>
          by_cases hf1 : 8796093022208 < t
          · have d1 : decide (8796093022208 < t) = true := by simpa using hf1
            have HFAR : Hid (far t = true) := by show far t = true; unfold far; rw [d1]; rfl
            go_wp2_with fail
            go_meet
            exact ⟨by rw [HFAR.out], rfl⟩
          · have d1 : decide (8796093022208 < t) = false := by simpa using hf1
            by_cases hf2 : t < -8796093022208
            · have d2 : decide (t < -8796093022208) = true := by simpa using hf2
              have HFAR : Hid (far t = true) := by show far t = true; unfold far; rw [d1, d2]; rfl
              go_wp2_with fail
              go_meet
              exact ⟨by rw [HFAR.out], rfl⟩
            · have d2 : decide (t < -8796093022208) = false := by simpa using hf2
              have HFAR : Hid (far t = false) := by show far t = false; unfold far; rw [d1, d2]; rfl
              go_wp2_with fail
              go_meet
              exact ⟨by rw [HFAR.out], rfl⟩
        case rest =>
          obtain ⟨rfl, hwc⟩ := hcut
          have hwc' := hwc.symm
          subst hwc'
          clear z0 z2 z3 H2
          by_cases hk00 : k = 0
          · subst hk00
            have hcond : ¬ ((decide (0 < out.length) && far t) = true) := by rw [HLEN.out]; simp
            have hnx : nextTick out t = t := by unfold nextTick; rw [HLEN.out]; simp
            have heq2 := HEQ1.out.trans (if_neg hcond)
            rw [hnx] at heq2
            have HEQ2 := (show Hid _ from heq2)
            clear hcond hnx heq2 HEQ1
            generalize far t = F at *
            go_upto_if 57 with fail
            cases hit : isTick (t) with
            | false =>
              have hfin := HEQ2.out.trans (if_neg (by rw [hit]; decide))
              have HF := (show Hid _ from hfin)
              have hist := is_tick (t) w2
              rw [hit] at hist
              have HIST := (show Hid _ from hist)
              clear hfin hist hit
              go_wp2_with fail
              refine Calls.mono HIST.out ?_
              rintro e w6 ⟨rfl, hw6⟩
              have hw6' := hw6.symm
              subst hw6'
              go_wp2
              go_ret3
              exact ⟨HB.out, .inr ⟨2, by decide, HF.out, rfl⟩⟩
            | true =>
              have hnew := HEQ2.out.trans (if_pos hit)
              have HNEW := (show Hid _ from hnew)
              have hist := is_tick (t) w2
              rw [hit] at hist
              have HIST := (show Hid _ from hist)
              have HIT := (show Hid _ from hit)
              obtain ⟨i0, hi, hz0, hz1, hz2⟩ := info_parts Tryz.infoIntR
              have hsz5 := HB.out.size
              have hownA : (w2.alloc (.cells #[.int .i64 (t)] 3)).ownsRow w.heap.size 3 1 v (0) (intList out) := HOWN.out.alloc _
              clear hnew hist hit
              go_wp2_with fail
              refine Calls.mono HIST.out ?_
              rintro e w6 ⟨rfl, hw6⟩
              have hw6' := hw6.symm
              subst hw6'
              go_wp2_with (at_builtin; refine wpList_append_lies _ rfl _ _ 137 rfl w.heap.size 3 i0 (.int .i64 0) 1 8 Tryz.underlying137 hi hz0 hz1 hz2 rfl (by decide) _ _ _ rfl hownA ⟨w2.heap.size, 0, none⟩ 1 1 [.int .i64 (t)] rfl rfl ?c1 ?c2 (by omega) ?c3 ?c4 ?c5 (w2.heap.size + 1) (by simp) ?_)
              try (case c1 => intro j u hj; match j, hj with | 0, hj => simp at hj; subst hj; simp [Addr.add])
              case c2 => first | rfl | (intro u hu; simp at hu; subst hu; rfl)
              case c3 => unfold maxLen; omega
              case c4 => omega
              case c5 => first | omega | (simp; omega)
              intro g4 cap4 w4 hown4 hgrow4 hat4 hlt4
              have hb4 := grown_ints HB.out HOWN.out hgrow4
              rw [intList_snoc] at hown4
              have HOWN4 : Hid (w4.ownsRow w.heap.size 3 1 (.slice (some ⟨g4, 0, none⟩) (0 + 1) cap4) (0 + 1) (intList (out ++ [t]))) := hown4
              have HB4 := (show Hid _ from hb4)
              clear hown4 hgrow4 hat4 hlt4 hb4 hownA
              go_wp2
              go_roundw
              case rel =>
                refine ⟨rfl, rfl, rfl, 0 + 1, a + b, out ++ [t], _, by omega, by go_num, by go_num, rfl, by rw [List.length_append, HLEN.out]; rfl, by omega, by omega, ?_, ?_, HOWN4.out, HB4.out⟩
                · rw [HNEW.out]
                  rfl
                · intro x hx
                  rcases List.mem_append.1 hx with h1 | h1
                  · exact HT.out x h1
                  · rw [List.mem_singleton.1 h1]; exact HIT.out
              case measure => simp [intOf] <;> omega
          · obtain ⟨g, cap, rfl, hgb, hkc, hcell⟩ := own_list HOWN.out (by omega) HLEN.out
            have hcc : (k : Int) ≤ (cap : Int) := by omega
            have hkp : (0 : Int) < (k : Int) := by omega
            have hlp : (decide (0 < out.length) && far t) = far t := by rw [HLEN.out, decide_eq_true (by omega)]; rfl
            cases hfar : far t with
            | true =>
              have hfin := HEQ1.out.trans (if_pos (hlp.trans hfar))
              have HF := (show Hid _ from hfin)
              clear hfin hlp hfar hcell
              go_wp2
              go_ret3
              exact ⟨HB.out, .inr ⟨2, by decide, HF.out, rfl⟩⟩
            | false =>
              have heq2 := HEQ1.out.trans (if_neg (by rw [hlp, hfar]; decide))
              have htb : -8796093022208 ≤ t ∧ t ≤ 8796093022208 := by
                unfold far at hfar
                simp at hfar
                omega
              obtain ⟨ht1, ht2⟩ := htb
              clear hlp hfar HEQ1
              by_cases hk01 : k = 1
              · subst hk01
                have hc1 := hcell 0 (by omega)
                have hnx : nextTick out t = t + out.getD 0 0 := by unfold nextTick; rw [HLEN.out]; simp
                have hg1 := (isTick_iff _).1 (HT.out (out.getD 0 0) (getD_in out 0 (by have := HLEN.out; omega)))
                rw [hnx] at heq2
                clear hcell hnx
                generalize out.getD 0 0 = g1 at *
                obtain ⟨hg1a, hg1b⟩ := hg1
                have HEQ2 := (show Hid _ from heq2)
                clear heq2
                cases hit : isTick (t + g1) with
                | false =>
                  have hfin := HEQ2.out.trans (if_neg (by rw [hit]; decide))
                  have HF := (show Hid _ from hfin)
                  have hist := is_tick (t + g1) w2
                  rw [hit] at hist
                  have HIST := (show Hid _ from hist)
                  clear hfin hist hit
                  go_wp2_with fail
                  refine Calls.mono HIST.out ?_
                  rintro e w6 ⟨rfl, hw6⟩
                  have hw6' := hw6.symm
                  subst hw6'
                  go_wp2
                  go_ret3
                  exact ⟨HB.out, .inr ⟨2, by decide, HF.out, rfl⟩⟩
                | true =>
                  have hnew := HEQ2.out.trans (if_pos hit)
                  have HNEW := (show Hid _ from hnew)
                  have hist := is_tick (t + g1) w2
                  rw [hit] at hist
                  have HIST := (show Hid _ from hist)
                  have HIT := (show Hid _ from hit)
                  obtain ⟨i0, hi, hz0, hz1, hz2⟩ := info_parts Tryz.infoIntR
                  have hsz5 := HB.out.size
                  have hownA : (w2.alloc (.cells #[.int .i64 (t + g1)] 3)).ownsRow w.heap.size 3 1 (.slice (some ⟨g, 0, none⟩) 1 cap) (1) (intList out) := HOWN.out.alloc _
                  clear hnew hist hit
                  go_wp2_with fail
                  refine Calls.mono HIST.out ?_
                  rintro e w6 ⟨rfl, hw6⟩
                  have hw6' := hw6.symm
                  subst hw6'
                  go_wp2_with (at_builtin; refine wpList_append_lies _ rfl _ _ 137 rfl w.heap.size 3 i0 (.int .i64 0) 1 8 Tryz.underlying137 hi hz0 hz1 hz2 rfl (by decide) _ _ _ rfl hownA ⟨w2.heap.size, 0, none⟩ 1 1 [.int .i64 (t + g1)] rfl rfl ?c1 ?c2 (by omega) ?c3 ?c4 ?c5 (w2.heap.size + 1) (by simp) ?_)
                  try (case c1 => intro j u hj; match j, hj with | 0, hj => simp at hj; subst hj; simp [Addr.add])
                  case c2 => first | rfl | (intro u hu; simp at hu; subst hu; rfl)
                  case c3 => unfold maxLen; omega
                  case c4 => omega
                  case c5 => first | omega | (simp; omega)
                  intro g4 cap4 w4 hown4 hgrow4 hat4 hlt4
                  have hb4 := grown_ints HB.out HOWN.out hgrow4
                  rw [intList_snoc] at hown4
                  have HOWN4 : Hid (w4.ownsRow w.heap.size 3 1 (.slice (some ⟨g4, 0, none⟩) (1 + 1) cap4) (1 + 1) (intList (out ++ [t + g1]))) := hown4
                  have HB4 := (show Hid _ from hb4)
                  clear hown4 hgrow4 hat4 hlt4 hb4 hownA
                  go_wp2
                  go_roundw
                  case rel =>
                    refine ⟨rfl, rfl, rfl, 1 + 1, a + b, out ++ [t + g1], _, by omega, by go_num, by go_num, rfl, by rw [List.length_append, HLEN.out]; rfl, by omega, by omega, ?_, ?_, HOWN4.out, HB4.out⟩
                    · rw [HNEW.out]
                      rfl
                    · intro x hx
                      rcases List.mem_append.1 hx with h1 | h1
                      · exact HT.out x h1
                      · rw [List.mem_singleton.1 h1]; exact HIT.out
                  case measure => simp [intOf] <;> omega
              · obtain ⟨j, rfl⟩ : ∃ j, k = j + 2 := ⟨k - 2, by omega⟩
                have hc1 := hcell (j + 1) (by omega)
                have hc2 := hcell j (by omega)
                have hnx : nextTick out t = t + out.getD (j + 1) 0 + (out.getD (j + 1) 0 - out.getD j 0) := by unfold nextTick; rw [HLEN.out]; simp
                have hg1 := (isTick_iff _).1 (HT.out (out.getD (j + 1) 0) (getD_in out (j + 1) (by have := HLEN.out; omega)))
                have hg0 := (isTick_iff _).1 (HT.out (out.getD j 0) (getD_in out j (by have := HLEN.out; omega)))
                rw [hnx] at heq2
                clear hcell hnx
                generalize out.getD (j + 1) 0 = g1 at *
                generalize out.getD j 0 = g0 at *
                obtain ⟨hg1a, hg1b⟩ := hg1
                obtain ⟨hg0a, hg0b⟩ := hg0
                have HEQ2 := (show Hid _ from heq2)
                have i1 : (0 : Int) ≤ (j : Int) + 2 - 1 := by omega
                have i2 : (j : Int) + 2 - 1 < (j : Int) + 2 := by omega
                have i3 : (0 : Int) ≤ (j : Int) + 2 - 2 := by omega
                have i4 : (j : Int) + 2 - 2 < (j : Int) + 2 := by omega
                clear heq2
                go_wp2_with fail
                go_quiet (fail)
                have hbq : Below w2.heap.size w2 (w2.drewN nq) := ⟨rfl, rfl, rfl, Nat.le_refl _, fun _ _ => rfl⟩
                have HB5 := (show Hid _ from HB.out.trans (hbq.mono HB.out.size))
                have HOWN5 : Hid ((w2.drewN nq).ownsRow w.heap.size 3 1 (.slice (some ⟨g, 0, none⟩) (j + 2) cap) (j + 2) (intList out)) := own_kept HOWN.out hbq
                clear hbq hc1 hc2
                generalize w2.drewN nq = w5 at *
                cases hit : isTick (t + g1 + (g1 - g0)) with
                | false =>
                  have hfin := HEQ2.out.trans (if_neg (by rw [hit]; decide))
                  have HF := (show Hid _ from hfin)
                  have hist := is_tick (t + g1 + (g1 - g0)) w5
                  rw [hit] at hist
                  have HIST := (show Hid _ from hist)
                  clear hfin hist hit
                  go_wp2_with fail
                  refine Calls.mono HIST.out ?_
                  rintro e w6 ⟨rfl, hw6⟩
                  have hw6' := hw6.symm
                  subst hw6'
                  go_wp2
                  go_ret3
                  exact ⟨HB5.out, .inr ⟨2, by decide, HF.out, rfl⟩⟩
                | true =>
                  have hnew := HEQ2.out.trans (if_pos hit)
                  have HNEW := (show Hid _ from hnew)
                  have hist := is_tick (t + g1 + (g1 - g0)) w5
                  rw [hit] at hist
                  have HIST := (show Hid _ from hist)
                  have HIT := (show Hid _ from hit)
                  obtain ⟨i0, hi, hz0, hz1, hz2⟩ := info_parts Tryz.infoIntR
                  have hsz5 := HB5.out.size
                  have hownA : (w5.alloc (.cells #[.int .i64 (t + g1 + (g1 - g0))] 3)).ownsRow w.heap.size 3 1 (.slice (some ⟨g, 0, none⟩) (j + 2) cap) (j + 2) (intList out) := HOWN5.out.alloc _
                  clear hnew hist hit
                  go_wp2_with fail
                  refine Calls.mono HIST.out ?_
                  rintro e w6 ⟨rfl, hw6⟩
                  have hw6' := hw6.symm
                  subst hw6'
                  go_wp2_with (at_builtin; refine wpList_append_lies _ rfl _ _ 137 rfl w.heap.size 3 i0 (.int .i64 0) 1 8 Tryz.underlying137 hi hz0 hz1 hz2 rfl (by decide) _ _ _ rfl hownA ⟨w5.heap.size, 0, none⟩ 1 1 [.int .i64 (t + g1 + (g1 - g0))] rfl rfl ?c1 ?c2 (by omega) ?c3 ?c4 ?c5 (w5.heap.size + 1) (by simp) ?_)
                  try (case c1 => intro j u hj; match j, hj with | 0, hj => simp at hj; subst hj; simp [Addr.add])
                  case c2 => first | rfl | (intro u hu; simp at hu; subst hu; rfl)
                  case c3 => unfold maxLen; omega
                  case c4 => omega
                  case c5 => first | omega | (simp; omega)
                  intro g4 cap4 w4 hown4 hgrow4 hat4 hlt4
                  have hb4 := grown_ints HB5.out HOWN5.out hgrow4
                  rw [intList_snoc] at hown4
                  have HOWN4 : Hid (w4.ownsRow w.heap.size 3 1 (.slice (some ⟨g4, 0, none⟩) (j + 2 + 1) cap4) (j + 2 + 1) (intList (out ++ [t + g1 + (g1 - g0)]))) := hown4
                  have HB4 := (show Hid _ from hb4)
                  clear hown4 hgrow4 hat4 hlt4 hb4 hownA
                  go_wp2
                  go_roundw
                  case rel =>
                    refine ⟨rfl, rfl, rfl, j + 2 + 1, a + b, out ++ [t + g1 + (g1 - g0)], _, by omega, by go_num, by go_num, rfl, by rw [List.length_append, HLEN.out]; rfl, by omega, by omega, ?_, ?_, HOWN4.out, HB4.out⟩
                    · rw [HNEW.out]
                      rfl
                    · intro x hx
                      rcases List.mem_append.1 hx with h1 | h1
                      · exact HT.out x h1
                      · rw [List.mem_singleton.1 h1]; exact HIT.out
                  case measure => simp [intOf] <;> omega
    · have hge : (n : Int) ≤ (k : Int) := by omega
      have e : k = n := by omega
      have hfin : readTo bs n a0 [] = (0, out, a) := by rw [heq, show n - k = 0 from by omega]; rfl
      have HF := (show Hid _ from hfin)
      have HO : Hid (wr.ownsRow w.heap.size 3 1 v k (intList out)) := hown
      have HT := (show Hid _ from hticks)
      have HB := (show Hid _ from hb)
      clear hown heq hticks hkn hfin hb
      subst e
      go_wp2
      go_ret3
      exact ⟨HB.out, .inl ⟨out, a, v, HF.out, rfl, hlen, haa, ha, HO.out, HT.out⟩⟩
end Go.Proofs.YtijgolnbbaljlaaGreatDoor
/- The document's ReadMask by its contract. -/
namespace Go.Proofs.YtijgolnbbaljlaaGreatDoor
open Go.RowKit

theorem Tryz.infoU64 : (Tryz.prog.info? 69).map (fun i => (i.zero, i.size, i.bytes)) = some (some (.int .u64 0), 1, 8) := by kernel_rfl

/-- The cells of values. -/
def u64Cells (vs : List Nat) : List Value := vs.map fun (n : Nat) => .int .u64 (n : Int)
theorem u64Cells_snoc (vs : List Nat) (x : Nat) : u64Cells vs ++ [.int .u64 (x : Int)] = u64Cells (vs ++ [x]) := by simp [u64Cells]
theorem own_u64s {w : World} {base : Nat} {v : Value} {n : Nat} {vs : List Nat} (h : w.ownsRow base 69 1 v n (u64Cells vs)) (hl : vs.length = n) (hv : ∀ x, x ∈ vs → x < 18446744073709551616) (hn : 0 < n) :
    ∃ g cap, v = .slice (some ⟨g, 0, none⟩) n cap ∧ g < w.heap.size ∧ base ≤ g ∧ n ≤ cap ∧ U64s w (some ⟨g, 0, none⟩) n (BitMath.vf vs) := by
  obtain ⟨_, h2⟩ := h
  rcases h2 with ⟨_, h0⟩ | ⟨g, cap, cur, hv', hg, hh, h1, h2, h3, h4⟩
  · omega
  · rw [Nat.mul_one] at h3 h4
    have hgl : g < w.heap.size := by
      rcases Nat.lt_or_ge g w.heap.size with h' | h'
      · exact h'
      · rw [Array.getElem?_eq_none h'] at hh; cases hh
    refine ⟨g, cap, hv', hgl, hg, h1, .inr ⟨g, 0, rfl, fun k hk => ⟨?_, ?_⟩⟩⟩
    · have e0 : w.cell? ⟨g, k, none⟩ = cur[k]? := by simp [World.cell?, hh]
      rw [Nat.zero_add, e0, ← Array.getElem?_toList]
      have e : (cur.toList.take n)[k]? = cur.toList[k]? := by rw [List.getElem?_take_of_lt hk]
      rw [← e, h4, u64Cells, List.getElem?_map, List.getElem?_eq_getElem (by omega)]
      simp [BitMath.vf, List.getElem?_eq_getElem (show k < vs.length by omega)]
    · have : BitMath.vf vs k = vs[k]'(by omega) := by simp [BitMath.vf, List.getElem?_eq_getElem (show k < vs.length by omega)]
      rw [this]
      exact hv _ (List.getElem_mem _)

/-- What ReadMask answers. -/
def ReadOut (w w' : World) (D : List Bool) (n : Nat) (e : Ending) : Prop :=
  Below w.heap.size w w' ∧ ((∃ (vs : List Nat) (u : Nat) (v : Value), BitMath.maskRead D n = (0, vs, u) ∧ e = .returned (.tuple #[v, .int .i64 (u : Int), .int .i64 0]) ∧ vs.length = n ∧ u ≤ D.length ∧ w'.ownsRow w.heap.size 69 1 v n (u64Cells vs) ∧ (∀ x, x ∈ vs → x < 18446744073709551616) ∧ BitMath.maskTo (BitMath.vf vs) n = D.take u) ∨
    (∃ c : Nat, c ≠ 0 ∧ BitMath.maskRead D n = (c, [], 0) ∧ e = .returned (.tuple #[.slice none 0 0, .int .i64 0, .int .i64 (c : Int)])))

/-- The append of one value to the row of values, behind it. -/
theorem grown_below {w wr w1 : World} {v : Value} {C : Array Value} {n : Nat} {xs : List Value} (hb : Below w.heap.size w wr) (hown : wr.ownsRow w.heap.size 69 1 v n xs) (hgrow : (wr.alloc (.cells C 69)).grownBy w1 v.ownBlock) : Below w.heap.size w w1 := by
  have hba : Below w.heap.size w (wr.alloc (.cells C 69)) := hb.alloc hb.size _
  refine hba.trans ⟨hgrow.os, hgrow.tape, hgrow.output, hgrow.size, fun k hk => hgrow.block k (Nat.lt_of_lt_of_le hk hba.size) ?_⟩
  intro e
  rcases hown.2 with ⟨rfl, _⟩ | ⟨g, cap, cur, rfl, hg, _⟩
  · simp [Value.ownBlock] at e
  · simp [Value.ownBlock] at e
    omega

theorem own_keep {w w' : World} {base : Nat} {e : TypeId} {sz : Nat} {v : Value} {n : Nat} {xs : List Value} (h : w.ownsRow base e sz v n xs) (hb : Below w.heap.size w w') : w'.ownsRow base e sz v n xs := by
  obtain ⟨h1, h2⟩ := h
  refine ⟨h1, ?_⟩
  rcases h2 with h2 | ⟨g, cap, cur, hv, hg, hh, r⟩
  · exact .inl h2
  · have hl : g < w.heap.size := by
      rcases Nat.lt_or_ge g w.heap.size with h' | h'
      · exact h'
      · rw [Array.getElem?_eq_none h'] at hh; cases hh
    exact .inr ⟨g, cap, cur, hv, hg, (hb.block g hl).trans hh, r⟩
/-- A later value behind its head. -/
theorem readStep_eq (w : Bool × Nat × Nat) (p : Nat) (E : List Bool) (Lh Wd h X : Nat) (e0 : ¬ E.length = 0) (hb0 : E.getD 0 false = true) (e1 : ¬ E.length ≤ 1) (hn13 : ¬ (E.getD 1 false = true ∧ E.length < 13)) (hh : BitMath.headR w E = (Lh, Wd, h)) (hX : X = BitMath.valB ((E.drop h).take Wd) * 2 ^ (64 - Lh - Wd)) :
    BitMath.readStep w p E = if Wd = 0 ∨ 64 < Lh + Wd then (1, 0, 0) else if E.length < h + Wd then (5, 0, 0) else if X = 0 ∨ BitMath.mBits w X ≠ E.take (h + Wd) then (1, 0, 0) else (0, p ^^^ X, h + Wd) := by
  subst hX
  unfold BitMath.readStep
  rw [if_neg e0, if_neg (by rw [hb0]; decide), if_neg e1, if_neg hn13, hh]
theorem two_step (y t W : Nat) (hy : y < 2 ^ W) (ht : W + (t + 1) ≤ 64) : IntKind.u64.wrap (2 * ((y * 2 ^ t : Nat) : Int)) = ((y * 2 ^ (t + 1) : Nat) : Int) := by
  have h1 : y * 2 ^ (t + 1) < 2 ^ W * 2 ^ (t + 1) := Nat.mul_lt_mul_of_pos_right hy (Nat.two_pow_pos _)
  rw [← Nat.pow_add] at h1
  have h2 : 2 ^ (W + (t + 1)) ≤ 2 ^ 64 := Nat.pow_le_pow_right (by omega) ht
  have h3 : (2 : Nat) ^ 64 = 18446744073709551616 := rfl
  have h4 : 2 * (y * 2 ^ t) = y * 2 ^ (t + 1) := by rw [Nat.pow_succ, Nat.mul_comm 2, Nat.mul_assoc]
  rw [IntWalk.u64_in _ (by omega)]
  omega
theorem mul_lt_64 (y t W : Nat) (hy : y < 2 ^ W) (ht : W + t ≤ 64) : y * 2 ^ t < 18446744073709551616 := by
  have h1 : y * 2 ^ t < 2 ^ W * 2 ^ t := Nat.mul_lt_mul_of_pos_right hy (Nat.two_pow_pos _)
  rw [← Nat.pow_add] at h1
  have h2 : 2 ^ (W + t) ≤ 2 ^ 64 := Nat.pow_le_pow_right (by omega) ht
  have h3 : (2 : Nat) ^ 64 = 18446744073709551616 := rfl
  omega

/-- The window behind a value that Put would make so. -/
theorem next_win (w : Bool × Nat × Nat) (E : List Bool) (X Lh Wd h : Nat) (hX : X < 18446744073709551616) (h0 : X ≠ 0) (hb0 : E.getD 0 false = true) (hh : BitMath.headR w E = (Lh, Wd, h)) (hm : BitMath.mBits w X = E.take (h + Wd)) :
    ∃ W' T', BitMath.mNext w X = (W', Lh, T') ∧ BitMath.wideW (W', Lh, T') = Wd := by
  unfold BitMath.headR at hh
  by_cases hf : E.getD 1 false = true
  · rw [if_pos hf] at hh
    simp at hh
    obtain ⟨rfl, rfl, rfl⟩ := hh
    obtain ⟨e1, e2⟩ := BitMath.head_new w X hX E _ (by omega) h0 hf hm
    rw [e1] at e2
    exact ⟨_, _, e1, e2⟩
  · rw [if_neg hf] at hh
    simp at hh
    obtain ⟨rfl, rfl, rfl⟩ := hh
    have e := BitMath.head_old w X E _ (by omega) h0 (by simpa using hf) hb0 hm
    obtain ⟨W, L, T⟩ := w
    exact ⟨W, T, e, rfl⟩

/-- A value more. -/
theorem mask_next {D E : List Bool} {vs : List Nat} {w : Bool × Nat × Nat} {u j p m x : Nat} (hE : E = D.drop u) (hu : u ≤ D.length) (hvl : vs.length = j + 1) (hwin : BitMath.winTo (BitMath.vf vs) (j + 1) = w) (hmask : BitMath.maskTo (BitMath.vf vs) (j + 1) = D.take u) (hp : BitMath.vf vs j = p) (hm : m ≤ E.length) (hb : BitMath.mBits w x = E.take m) :
    (vs ++ [p ^^^ x]).length = j + 2 ∧ BitMath.winTo (BitMath.vf (vs ++ [p ^^^ x])) (j + 2) = BitMath.mNext w x ∧ BitMath.maskTo (BitMath.vf (vs ++ [p ^^^ x])) (j + 2) = D.take (u + m) ∧ u + m ≤ D.length := by
  have h := BitMath.maskTo_next vs x (by omega)
  rw [hvl, Nat.add_sub_cancel, hp, hwin, hmask] at h
  rw [hE, List.length_drop] at hm
  refine ⟨by simp [hvl], h.2, ?_, by omega⟩
  rw [h.1, hb, hE, List.take_add]

set_option maxRecDepth 1000000 in
set_option maxHeartbeats 8000000 in
theorem readMask_any (bs : List Bool) (a0 n : Nat) (w : World) (ha : a0 ≤ bs.length) (hl : bs.length ≤ 100000) (hn : n ≤ 1000) :
    Calls Tryz.prog 82 #[.string (BitMath.txt bs), .int .i64 (a0 : Int), .int .i64 (n : Int)] w fun e w' => ReadOut w w' (bs.drop a0) n e := by
  have hsz := BitMath.txt_size bs
  obtain ⟨s, hs⟩ : ∃ s, s = BitMath.txt bs := ⟨_, rfl⟩
  rw [← hs] at hsz ⊢
  obtain ⟨D, hD⟩ : ∃ D, D = bs.drop a0 := ⟨_, rfl⟩
  have hDl : D.length = bs.length - a0 := by rw [hD, List.length_drop]
  rw [← hD]
  have HS := (show Hid _ from hs)
  have HD := (show Hid _ from hD)
  have HZ := (show Hid _ from hsz)
  have hsl : s.size ≤ 100000 := by omega
  have has : a0 ≤ s.size := by omega
  have HDL := (show Hid _ from (by omega : D.length + a0 = s.size))
  clear hs hD hsz hDl ha hl
  go_enter Tryz.func82, Tryz.ntmps82
  go_wp2_with fail
  go_loopw [1, 6, 7, 8, 9, 11, 12, 13, 14, 15, 16] (fun at_ r6 r7 r8 o l wd i _ _ _ wr => r6 = .slice none 0 0 ∧ r7 = .int .i64 0 ∧ r8 = .int .i64 0 ∧ ∃ (k u : Nat) (vs : List Nat) (W : Bool) (L T : Nat) (v : Value), k ≤ n ∧ i = .int .i64 k ∧ at_ = .int .i64 ((a0 + u : Nat) : Int) ∧ v = o ∧ l = .int .i64 (L : Int) ∧ wd = .int .i64 (BitMath.wideW (W, L, T) : Int) ∧ BitMath.maskRead D k = (0, vs, u) ∧ vs.length = k ∧ BitMath.winTo (BitMath.vf vs) k = (W, L, T) ∧ BitMath.maskTo (BitMath.vf vs) k = D.take u ∧ u ≤ D.length ∧ (∀ x, x ∈ vs → x < 18446744073709551616) ∧ wr.ownsRow w.heap.size 69 1 v k (u64Cells vs) ∧ Below w.heap.size w wr) (fun _ _ _ _ _ _ _ i _ _ _ _ => n - (intOf i).toNat)
  case atStart => exact ⟨rfl, rfl, rfl, 0, 0, [], false, 0, 0, _, Nat.zero_le _, rfl, rfl, rfl, rfl, rfl, rfl, rfl, rfl, rfl, Nat.zero_le _, by simp, ⟨rfl, .inl ⟨rfl, rfl⟩⟩, Below.refl _ _⟩
  case round =>
    obtain ⟨rfl, rfl, rfl, k, u, vs, W, L, T, v, hk, rfl, rfl, rfl, rfl, rfl, hmr, hvl, hwin, hmask, hu, hvs, hown, hb⟩ := hrel
    have HMR := (show Hid _ from hmr)
    have HWIN := (show Hid _ from hwin)
    have HMASK := (show Hid _ from hmask)
    have HVS := (show Hid _ from hvs)
    have HB := (show Hid _ from hb)
    have HOWN : Hid (wr.ownsRow w.heap.size 69 1 v k (u64Cells vs)) := hown
    have HVL := (show Hid _ from hvl)
    have hwl := hb.size
    have hA : a0 + u ≤ s.size := by have := HDL.out; omega
    clear hmr hwin hmask hvs hb hown hvl
    by_cases hkn : k < n
    · have hk1 : (k : Int) < (n : Int) := by omega
      by_cases hz : k = 0
      · subst hz
        obtain ⟨rfl, rfl⟩ : vs = [] ∧ u = 0 := by
          have := HMR.out
          simp [BitMath.maskRead] at this
          exact ⟨this.1, this.2.symm⟩
        obtain ⟨rfl, rfl, rfl⟩ : W = false ∧ L = 0 ∧ T = 0 := by
          have := HWIN.out
          simp [BitMath.winTo] at this
          exact ⟨this.1, this.2.1.symm, this.2.2.symm⟩
        by_cases h64 : D.length < 64
        · have HERR := (show Hid _ from BitMath.maskRead_err D 1 5 (by decide) (BitMath.maskRead_first_bad D h64) n (by omega))
          have hcmp : decide ((s.size : Int) < (a0 : Int) + 64) = true := by have := HDL.out; simp; omega
          clear hwl hA h64 hu
          go_wp2
          go_ret3
          exact ⟨HB.out, .inr ⟨5, by decide, HERR.out, rfl⟩⟩
        · have hcmp : decide ((s.size : Int) < (a0 : Int) + 64) = false := by have := HDL.out; simp; omega
          have hge : (a0 : Int) + 64 ≤ (s.size : Int) := by have := HDL.out; omega
          have hgood := BitMath.maskRead_first D (by omega)
          have hcut : s.extract a0 (a0 + 64) = BitMath.txt (D.take 64) := by rw [HS.out, BitMath.txt_extract, HD.out, Nat.add_sub_cancel_left]
          have hval := fun w0 => value_of (s.extract a0 (a0 + 64)) (D.take 64) w0 hcut (by simp; omega)
          have hvl64 : BitMath.valB (D.take 64) < 18446744073709551616 := valB_64 _ (by simp; omega)
          have hbv : BitMath.bitsOf (BitMath.valB (D.take 64)) 64 = D.take 64 := by
            have := BitMath.bits_val (D.take 64)
            rwa [show (D.take 64).length = 64 by simp; omega] at this
          obtain ⟨y, hy⟩ : ∃ y, y = BitMath.valB (D.take 64) := ⟨_, rfl⟩
          rw [← hy] at hgood hval hvl64 hbv
          have HVAL := (show Hid _ from hval)
          have HGOOD := (show Hid _ from hgood)
          have HBV := (show Hid _ from hbv)
          have HY64 := (show Hid _ from hvl64)
          have hu64 : 64 ≤ D.length := by omega
          obtain ⟨i0, hi, hz0, hz1, hz2⟩ := info_parts Tryz.infoU64
          have hownA : (wr.alloc (.cells #[.int .u64 (y : Int)] 69)).ownsRow w.heap.size 69 1 v 0 (u64Cells []) := HOWN.out.alloc _
          clear hval hgood hbv hvl64 hcut hy h64
          go_wp2_with fail
          refine Calls.mono (HVAL.out _) ?_
          rintro e w0 ⟨rfl, hw0⟩
          have hw0' := hw0.symm
          subst hw0'
          go_wp2_with (at_builtin; refine wpList_append_lies _ rfl _ _ 140 rfl w.heap.size 69 i0 (.int .u64 0) 1 8 Tryz.underlying140 hi hz0 hz1 hz2 rfl (by decide) _ _ _ rfl hownA ⟨wr.heap.size, 0, none⟩ 1 1 [.int .u64 (y : Int)] rfl rfl ?c1 ?c2 (by omega) ?c3 ?c4 ?c5 (wr.heap.size + 1) (by simp) ?_)
          case c1 =>
            intro j u hj
            match j, hj with
            | 0, hj => simp at hj; subst hj; simp [Addr.add]
          case c2 => intro u hu; simp at hu; subst hu; rfl
          case c3 => unfold maxLen; omega
          case c4 => omega
          case c5 => simp; omega
          intro g cap w1 hown1 hgrow hat hlt1
          have hb1 := grown_below HB.out HOWN.out hgrow
          rw [u64Cells_snoc] at hown1
          have HOWN1 : Hid (w1.ownsRow w.heap.size 69 1 (.slice (some ⟨g, 0, none⟩) (0 + 1) cap) (0 + 1) (u64Cells ([] ++ [y]))) := hown1
          have HB1 := (show Hid _ from hb1)
          clear hown1 hgrow hat hlt1 hb1 hownA
          go_wp2
          go_roundw
          case rel =>
            refine ⟨rfl, rfl, rfl, 1, 64, [y], false, 0, 0, _, by omega, by go_num, by go_num, rfl, rfl, rfl, HGOOD.out, rfl, BitMath.winTo_first _, ?_, hu64, ?_, HOWN1.out, HB1.out⟩
            · rw [BitMath.maskTo_first]
              exact HBV.out
            · intro x hx
              simp at hx
              rw [hx]
              exact HY64.out
          case measure => simp [intOf] <;> omega
      · obtain ⟨j, rfl⟩ : ∃ j, k = j + 1 := ⟨k - 1, by omega⟩
        obtain ⟨g, cap, rfl, hgl, hgw, hcap, hU⟩ := own_u64s HOWN.out HVL.out HVS.out (by omega)
        obtain ⟨gb, go, hgo, hcs⟩ := hU.at j (by omega)
        cases hgo
        obtain ⟨hcp, hpl⟩ := hcs j (by omega)
        rw [Nat.zero_add] at hcp
        obtain ⟨p, hp⟩ : ∃ p, p = BitMath.vf vs j := ⟨_, rfl⟩
        rw [← hp] at hcp hpl
        have HP := (show Hid _ from hp.symm)
        obtain ⟨A, hAe⟩ : ∃ A, A = a0 + u := ⟨_, rfl⟩
        have HAE := (show Hid _ from hAe)
        have hAI : ((a0 + u : Nat) : Int) = (A : Int) := by rw [hAe]
        obtain ⟨E, hE⟩ : ∃ E, E = D.drop u := ⟨_, rfl⟩
        have hEl : E.length + A = s.size := by rw [hE, List.length_drop]; have := HDL.out; omega
        have HEL := (show Hid _ from hEl)
        have hbit : ∀ i, i < E.length → bs[A + i]? = some (E.getD i false) := fun i hi => by
          have : E[i]? = bs[A + i]? := by rw [hE, HD.out, List.drop_drop, List.getElem?_drop, ← hAe]
          rw [← this, List.getD_eq_getElem?_getD, List.getElem?_eq_getElem hi]
          rfl
        have HBIT := (show Hid _ from hbit)
        have HEE := (show Hid _ from hE)
        have hbad : ∀ c, c ≠ 0 → BitMath.readStep (W, L, T) p E = (c, 0, 0) → BitMath.maskRead D n = (c, [], 0) := fun c hc hr => by
          have := BitMath.maskRead_bad D (j + 1) u vs (W, L, T) p c (by omega) HMR.out HWIN.out (by rw [Nat.add_sub_cancel]; exact HP.out) (by rw [← hE]; exact hr) hc
          exact BitMath.maskRead_err D (j + 2) c hc this n (by omega)
        have HBAD := (show Hid _ from hbad)
        have hgood : ∀ v' m, BitMath.readStep (W, L, T) p E = (0, v', m) → BitMath.maskRead D (j + 2) = (0, vs ++ [v'], u + m) := fun v' m hr =>
          BitMath.maskRead_good D (j + 1) u vs (W, L, T) p v' m (by omega) HMR.out HWIN.out (by rw [Nat.add_sub_cancel]; exact HP.out) (by rw [← hE]; exact hr)
        have HGOOD := (show Hid _ from hgood)
        have hA' : A ≤ s.size := by omega
        have HOK31 : Hid (L ≤ 31) := by
          have := BitMath.winTo_ok (BitMath.vf vs) (j + 1) (fun i hi => hU.lt i hi) (j + 1) (Nat.le_refl _)
          rw [HWIN.out] at this
          exact this.1
        rw [hAI]
        clear hbad hgood hbit hE hp hAe hcs hU hA hEl hAI hz
        have i1 : (0 : Int) ≤ (j : Int) + 1 - 1 := by omega
        have i2 : (j : Int) + 1 - 1 < (j : Int) + 1 := by omega
        have i3 : (j : Int) + 1 ≤ (cap : Int) := by omega
        by_cases e0 : E.length = 0
        · have hr : BitMath.readStep (W, L, T) p E = (5, 0, 0) := by unfold BitMath.readStep; rw [if_pos e0]
          have HERR := (show Hid _ from HBAD.out 5 (by decide) hr)
          have hcmp : decide ((s.size : Int) ≤ (A : Int)) = true := by have := HEL.out; simp; omega
          have hcmpn : decide (s.size ≤ A) = true := by have := HEL.out; simp; omega
          clear hr e0
          go_wp2
          go_ret3
          exact ⟨HB.out, .inr ⟨5, by decide, HERR.out, rfl⟩⟩
        · have hlt : A < s.size := by have := HEL.out; omega
          have hcmp : decide ((s.size : Int) ≤ (A : Int)) = false := by simp; omega
          have hcmpn : decide (s.size ≤ A) = false := by simp; omega
          have hA0 : (0 : Int) ≤ (A : Int) := by omega
          have hA1 : (A : Int) < (s.size : Int) := by omega
          cases hb0 : E.getD 0 false with
          | false =>
            have hbt := bit_48 s bs HS.out A hlt false (by have := HBIT.out 0 (by omega); rw [hb0] at this; exact this)
            have hr : BitMath.readStep (W, L, T) p E = (0, p, 1) := by unfold BitMath.readStep; rw [if_neg e0, if_pos hb0]
            have HGD := (show Hid _ from HGOOD.out _ _ hr)
            have he1 : E.take 1 = [false] := by
              match E, e0, hb0 with
              | [], e0, _ => exact absurd rfl e0
              | b :: r, _, hb => simp at hb; subst hb; rfl
            have hnx := mask_next (x := 0) HEE.out hu HVL.out HWIN.out HMASK.out HP.out (m := 1) (by omega) (by rw [he1]; rfl)
            rw [Nat.xor_zero] at hnx
            have HNX := (show Hid _ from hnx)
            clear he1
            obtain ⟨i0, hi, hz0, hz1, hz2⟩ := info_parts Tryz.infoU64
            have hownA : (wr.alloc (.cells #[.int .u64 (p : Int)] 69)).ownsRow w.heap.size 69 1 (.slice (some ⟨g, 0, none⟩) (j + 1) cap) (j + 1) (u64Cells vs) := HOWN.out.alloc _
            clear hr hb0 e0 hnx
            go_wp2_with (at_builtin; refine wpList_append_lies _ rfl _ _ 140 rfl w.heap.size 69 i0 (.int .u64 0) 1 8 Tryz.underlying140 hi hz0 hz1 hz2 rfl (by decide) _ _ _ rfl hownA ⟨wr.heap.size, 0, none⟩ 1 1 [.int .u64 (p : Int)] rfl rfl ?c1 ?c2 (by omega) ?c3 ?c4 ?c5 (wr.heap.size + 1) (by simp) ?_)
            case c1 =>
              intro j u hj
              match j, hj with
              | 0, hj => simp at hj; subst hj; simp [Addr.add]
            case c2 => intro u hu; simp at hu; subst hu; rfl
            case c3 => unfold maxLen; omega
            case c4 => omega
            case c5 => simp; omega
            intro g1 cap1 w1 hown1 hgrow hat hlt1
            have hb1 := grown_below HB.out HOWN.out hgrow
            rw [u64Cells_snoc] at hown1
            have HOWN1 : Hid (w1.ownsRow w.heap.size 69 1 (.slice (some ⟨g1, 0, none⟩) (j + 1 + 1) cap1) (j + 1 + 1) (u64Cells (vs ++ [p]))) := hown1
            have HB1 := (show Hid _ from hb1)
            clear hown1 hgrow hat hlt1 hb1 hownA hcp
            go_wp2
            go_roundw
            case rel =>
              refine ⟨rfl, rfl, rfl, j + 2, u + 1, vs ++ [p], W, L, T, _, by omega, by go_num, congrArg (Value.int .i64) (by have := HAE.out; omega), rfl, rfl, rfl, HGD.out, HNX.out.1, ?_, HNX.out.2.2.1, HNX.out.2.2.2, ?_, HOWN1.out, HB1.out⟩
              · rw [HNX.out.2.1]
                unfold BitMath.mNext
                rw [if_pos rfl]
              · intro x hx
                rcases List.mem_append.1 hx with hx | hx
                · exact HVS.out x hx
                · simp at hx
                  rw [hx]
                  exact hpl
            case measure => simp [intOf] <;> omega
          | true =>
            have hbt := bit_48 s bs HS.out A hlt true (by have := HBIT.out 0 (by omega); rw [hb0] at this; exact this)
            by_cases e1 : E.length ≤ 1
            · have hr : BitMath.readStep (W, L, T) p E = (5, 0, 0) := by unfold BitMath.readStep; rw [if_neg e0, if_neg (by rw [hb0]; decide), if_pos e1]
              have HERR := (show Hid _ from HBAD.out 5 (by decide) hr)
              have hcmp2 : decide ((s.size : Int) ≤ (A : Int) + 1) = true := by have := HEL.out; simp; omega
              have hcmp2n : decide (s.size ≤ A + 1) = true := by have := HEL.out; simp; omega
              clear hr e0 hb0 e1
              go_wp2
              go_ret3
              exact ⟨HB.out, .inr ⟨5, by decide, HERR.out, rfl⟩⟩
            · have hcmp2 : decide ((s.size : Int) ≤ (A : Int) + 1) = false := by have := HEL.out; simp; omega
              have hcmp2n : decide (s.size ≤ A + 1) = false := by have := HEL.out; simp; omega
              have hA2 : (A : Int) + 1 < (s.size : Int) := by have := HEL.out; omega
              obtain ⟨f, hf⟩ : ∃ f, f = E.getD 1 false := ⟨_, rfl⟩
              have hlt1 : A + 1 < s.size := by have := HEL.out; omega
              have hbf := bit_at s bs HS.out (A + 1) hlt1 f (by rw [List.getD_eq_getElem?_getD, HBIT.out 1 (by omega), hf]; rfl)
              have HFF := (show Hid _ from hf)
              clear hf
              go_upto_if 71 with fail
              go_cut [1, 6, 7, 8, 11, 12] (fun at_ r6 r7 r8 l wd wx => r6 = .slice none 0 0 ∧ r7 = .int .i64 0 ∧ r8 = .int .i64 0 ∧ wx = wr ∧ ∃ (Lh Wd h : Nat), at_ = .int .i64 ((A + h : Nat) : Int) ∧ l = .int .i64 (Lh : Int) ∧ wd = .int .i64 (Wd : Int) ∧ BitMath.headR (W, L, T) E = (Lh, Wd, h) ∧ A + h ≤ s.size ∧ h ≤ 13 ∧ Lh ≤ 31 ∧ Wd ≤ 64 ∧ ¬ (E.getD 1 false = true ∧ E.length < 13))
              case first =>
                cases f with
                | false =>
                  have hh : BitMath.headR (W, L, T) E = (L, BitMath.wideW (W, L, T), 2) := by unfold BitMath.headR; rw [← HFF.out, if_neg (by decide)]
                  have HH := (show Hid _ from hh)
                  have HF1 : Hid (E.getD 1 false = false) := HFF.out.symm
                  clear hh
                  go_wp2_with fail
                  go_meet
                  exact ⟨rfl, rfl, rfl, rfl, L, BitMath.wideW (W, L, T), 2, rfl, rfl, rfl, HH.out, by omega, by omega, by have := HOK31.out; omega, by unfold BitMath.wideW; split <;> omega, fun h => by rw [HF1.out] at h; exact absurd h.1 (by decide)⟩
                | true =>
                  by_cases e13 : E.length < 13
                  · have hr : BitMath.readStep (W, L, T) p E = (5, 0, 0) := by unfold BitMath.readStep; rw [if_neg e0, if_neg (by rw [hb0]; decide), if_neg e1, if_pos ⟨HFF.out.symm, e13⟩]
                    have HERR := (show Hid _ from HBAD.out 5 (by decide) hr)
                    have hcmp3 : decide ((s.size : Int) < (A : Int) + 2 + 11) = true := by have := HEL.out; simp; omega
                    have hcmp3m : (s.size : Int) < (A : Int) + 2 + 11 := by have := HEL.out; omega
                    clear hr
                    go_wp2
                    go_ret3
                    exact ⟨HB.out, .inr ⟨5, by decide, HERR.out, rfl⟩⟩
                  · have hcmp3 : decide ((s.size : Int) < (A : Int) + 2 + 11) = false := by have := HEL.out; simp; omega
                    have hcmp3m : (A : Int) + 2 + 11 ≤ (s.size : Int) := by have := HEL.out; omega
                    have hcut5 : s.extract (A + 2) (A + 2 + 5) = BitMath.txt ((E.drop 2).take 5) := by rw [HS.out, BitMath.txt_extract, HEE.out, HD.out, List.drop_drop, List.drop_drop, HAE.out, Nat.add_sub_cancel_left, Nat.add_assoc]
                    have hcut6 : s.extract (A + 2 + 5) (A + 2 + 11) = BitMath.txt ((E.drop 7).take 6) := by rw [HS.out, BitMath.txt_extract, HEE.out, HD.out, List.drop_drop, List.drop_drop, HAE.out, show a0 + u + 2 + 11 - (a0 + u + 2 + 5) = 6 by omega, show a0 + u + 2 + 5 = a0 + (u + 7) by omega]
                    have hv5 := fun w0 => value_of (s.extract (A + 2) (A + 2 + 5)) ((E.drop 2).take 5) w0 hcut5 (by simp; omega)
                    have hv6 := fun w0 => value_of (s.extract (A + 2 + 5) (A + 2 + 11)) ((E.drop 7).take 6) w0 hcut6 (by simp; omega)
                    have hl5 := BitMath.valB_lt ((E.drop 2).take 5)
                    have hl6 := BitMath.valB_lt ((E.drop 7).take 6)
                    rw [show ((E.drop 2).take 5).length = 5 by simp; omega] at hl5
                    rw [show ((E.drop 7).take 6).length = 6 by simp; omega] at hl6
                    have hh : BitMath.headR (W, L, T) E = (BitMath.valB ((E.drop 2).take 5), BitMath.fixW (BitMath.valB ((E.drop 7).take 6)), 13) := by unfold BitMath.headR; rw [if_pos HFF.out.symm]
                    generalize BitMath.valB ((E.drop 2).take 5) = y5 at *
                    generalize BitMath.valB ((E.drop 7).take 6) = y6 at *
                    have hy5 : (y5 : Int) ≤ 31 := by omega
                    have hy6 : (y6 : Int) ≤ 63 := by omega
                    have hw5 : wrap64 (y5 : Int) = (y5 : Int) := by unfold wrap64; omega
                    have hw6 : wrap64 (y6 : Int) = (y6 : Int) := by unfold wrap64; omega
                    have HV5 := (show Hid _ from hv5)
                    have HV6 := (show Hid _ from hv6)
                    have HH := (show Hid _ from hh)
                    have HE13 : Hid (¬ E.length < 13) := e13
                    clear hcut5 hcut6 hv5 hv6 hh e13 hcmp hcmpn hcmp2 hcmp2n hbt hbf hcp hpl i1 i2 i3 hgl hgw hcap hwl hk1 hu hA' hl5 hl6 hlt hlt1 e0 e1 hb0 hkn hk has
                    go_wp2_with fail
                    refine Calls.mono (HV5.out _) ?_
                    rintro e w5 ⟨rfl, hw5'⟩
                    have hw5'' := hw5'.symm
                    subst hw5''
                    go_wp2_with fail
                    refine Calls.mono (HV6.out _) ?_
                    rintro e w6 ⟨rfl, hw6'⟩
                    have hw6'' := hw6'.symm
                    subst hw6''
                    by_cases hy0 : y6 = 0
                    · have hb6 : ((y6 : Int) == 0) = true := by simp; omega
                      have hb6w : (wrap64 (y6 : Int) == 0) = true := by rw [hw6]; exact hb6
                      have HFX : Hid (BitMath.fixW y6 = 64) := by show BitMath.fixW y6 = 64; unfold BitMath.fixW; rw [if_pos hy0]
                      clear hy0
                      go_wp2_with fail
                      go_meet
                      exact ⟨rfl, rfl, rfl, rfl, y5, 64, 13, congrArg (Value.int .i64) (by omega), rfl, rfl, by rw [HH.out, HFX.out], by omega, by omega, by omega, by omega, fun h => HE13.out h.2⟩
                    · have hb6 : ((y6 : Int) == 0) = false := by simp; omega
                      have hb6w : (wrap64 (y6 : Int) == 0) = false := by rw [hw6]; exact hb6
                      have HW6 := (show Hid _ from hw6)
                      have HFX : Hid (BitMath.fixW y6 = y6) := by show BitMath.fixW y6 = y6; unfold BitMath.fixW; rw [if_neg hy0]
                      clear hy0
                      go_wp2_with fail
                      go_meet
                      exact ⟨rfl, rfl, rfl, rfl, y5, y6, 13, congrArg (Value.int .i64) (by omega), rfl, congrArg (Value.int .i64) (by first | rfl | exact HW6.out), by rw [HH.out, HFX.out], by omega, by omega, by omega, by omega, fun h => HE13.out h.2⟩
              case rest =>
                obtain ⟨rfl, rfl, rfl, hwc, Lh, Wd, h, rfl, rfl, rfl, hh, hAh, hh13, hLh, hWd, hn13⟩ := hcut
                have hwc' := hwc.symm
                subst hwc'
                obtain ⟨X, hX⟩ : ∃ X, X = BitMath.valB ((E.drop h).take Wd) * 2 ^ (64 - Lh - Wd) := ⟨_, rfl⟩
                have hrs := readStep_eq (W, L, T) p E Lh Wd h X e0 hb0 e1 hn13 hh hX
                have HX := (show Hid _ from hX)
                have HH := (show Hid _ from hh)
                have HN13 : Hid (¬ (E.getD 1 false = true ∧ E.length < 13)) := hn13
                have HRS := (show Hid _ from hrs)
                have HB0 := (show Hid _ from hb0)
                have HE0 : Hid (¬ E.length = 0) := e0
                clear hX hh hn13 hrs hb0 e0 e1 hcmp hcmpn hcmp2 hcmp2n hbt hbf hA2 hlt hlt1
                obtain ⟨B, hB⟩ : ∃ B, A + h = B := ⟨_, rfl⟩
                rw [hB] at hAh ⊢
                have HBe := (show Hid _ from hB)
                clear hB
                have hB0 : (0 : Int) ≤ (B : Int) := by omega
                by_cases hW0 : Wd = 0
                · have HERR := (show Hid _ from HBAD.out 1 (by decide) (HRS.out.trans (if_pos (.inl hW0))))
                  subst hW0
                  go_wp2
                  go_ret3
                  exact ⟨HB.out, .inr ⟨1, by decide, HERR.out, rfl⟩⟩
                · have hWb : ((Wd : Int) == 0) = false := by simp; omega
                  have hLb : (Lh : Int) ≤ 31 := by omega
                  by_cases hbig : 64 < Lh + Wd
                  · have HERR := (show Hid _ from HBAD.out 1 (by decide) (HRS.out.trans (if_pos (.inr hbig))))
                    have hd : decide ((64 : Int) < (Lh : Int) + (Wd : Int)) = true := by simp; omega
                    have hdI : (64 : Int) < (Lh : Int) + (Wd : Int) := by omega
                    have hdW : (Wd : Int) ≤ 64 := by omega
                    go_wp2
                    go_ret3
                    exact ⟨HB.out, .inr ⟨1, by decide, HERR.out, rfl⟩⟩
                  · have hd : decide ((64 : Int) < (Lh : Int) + (Wd : Int)) = false := by simp; omega
                    have hLW : (Lh : Int) + (Wd : Int) ≤ 64 := by omega
                    have hrs2 := HRS.out.trans (if_neg (by omega))
                    by_cases hsh : s.size < B + Wd
                    · have hsE : E.length < h + Wd := by have := HEL.out; have := HBe.out; omega
                      have HERR := (show Hid _ from HBAD.out 5 (by decide) (hrs2.trans (if_pos hsE)))
                      have hd2 : decide ((s.size : Int) < (B : Int) + (Wd : Int)) = true := by simp; omega
                      have hd2I : (s.size : Int) < (B : Int) + (Wd : Int) := by omega
                      have hd2n : decide (s.size < B + Wd) = true := by simp; omega
                      clear hrs2
                      go_wp2
                      go_ret3
                      exact ⟨HB.out, .inr ⟨5, by decide, HERR.out, rfl⟩⟩
                    · have hd2 : decide ((s.size : Int) < (B : Int) + (Wd : Int)) = false := by simp; omega
                      have hd2n : decide (s.size < B + Wd) = false := by simp; omega
                      have hle : (B : Int) + (Wd : Int) ≤ (s.size : Int) := by omega
                      have hsE : ¬ E.length < h + Wd := by have := HEL.out; have := HBe.out; omega
                      have hrs3 := hrs2.trans (if_neg hsE)
                      have HRS3 := (show Hid _ from hrs3)
                      have hcut : s.extract B (B + Wd) = BitMath.txt ((E.drop h).take Wd) := by rw [HS.out, BitMath.txt_extract, HEE.out, HD.out, List.drop_drop, List.drop_drop, ← HBe.out, HAE.out, Nat.add_sub_cancel_left, Nat.add_assoc]
                      have hval := fun w0 => value_of (s.extract B (B + Wd)) ((E.drop h).take Wd) w0 hcut (by simp; omega)
                      have hyl := BitMath.valB_lt ((E.drop h).take Wd)
                      rw [show ((E.drop h).take Wd).length = Wd by simp; omega] at hyl
                      obtain ⟨y, hy⟩ : ∃ y, y = BitMath.valB ((E.drop h).take Wd) := ⟨_, rfl⟩
                      rw [← hy] at hval hyl
                      have HXY : Hid (X = y * 2 ^ (64 - Lh - Wd)) := by show X = _; rw [HX.out, hy]
                      have HVAL := (show Hid _ from hval)
                      have HYL := (show Hid _ from hyl)
                      have HSE : Hid (h + Wd ≤ E.length) := (by omega : h + Wd ≤ E.length)
                      clear hrs2 hrs3 hsE hcut hval hyl hy hsh hbig
                      go_wp2_with fail
                      refine Calls.mono (HVAL.out _) ?_
                      rintro e w7 ⟨rfl, hw7⟩
                      have hw7' := hw7.symm
                      subst hw7'
                      go_wp2_with fail
                      go_loop [15, 16] (fun x k => ∃ t : Nat, Lh + Wd + t ≤ 64 ∧ k = .int .i64 ((Lh + Wd + t : Nat) : Int) ∧ x = .int .u64 ((y * 2 ^ t : Nat) : Int)) (fun _ k => 64 - (intOf k).toNat)
                      case atStart => exact ⟨0, by omega, by simp, by simp⟩
                      case round =>
                        obtain ⟨t, ht, rfl, rfl⟩ := hrel
                        by_cases ht64 : Lh + Wd + t < 64
                        · have hmul := two_step y t Wd HYL.out (by omega)
                          have hk64 : (Lh : Int) + (Wd : Int) + (t : Int) < 64 := by omega
                          obtain ⟨q, hq⟩ : ∃ q : Int, ((y * 2 ^ t : Nat) : Int) = q := ⟨_, rfl⟩
                          rw [hq] at hmul ⊢
                          clear hq
                          go_wp2
                          go_round
                          case rel => exact ⟨t + 1, by omega, by go_num, rfl⟩
                          case measure => simp [intOf]; omega
                        · have hte : t = 64 - Lh - Wd := by omega
                          have hXt : y * 2 ^ t = X := by rw [HXY.out, hte]
                          have hge : (64 : Int) ≤ (Lh : Int) + (Wd : Int) + (t : Int) := by omega
                          rw [hXt]
                          have hXl : X < 18446744073709551616 := by rw [← hXt]; exact mul_lt_64 y t Wd HYL.out (by omega)
                          clear hXt hte ht ht64
                          have hxor := u64_xor_nat p X hpl hXl
                          have hxx := BitMath.xor_lt p X hpl hXl
                          obtain ⟨z, hz⟩ : ∃ z, p ^^^ X = z := ⟨_, rfl⟩
                          rw [hz] at hxor hxx
                          have HZZ := (show Hid _ from hz)
                          obtain ⟨i0, hi, hz0, hz1, hz2⟩ := info_parts Tryz.infoU64
                          have hownA : (wr.alloc (.cells #[.int .u64 (z : Int)] 69)).ownsRow w.heap.size 69 1 (.slice (some ⟨g, 0, none⟩) (j + 1) cap) (j + 1) (u64Cells vs) := HOWN.out.alloc _
                          have hBW : B + Wd ≤ s.size := by omega
                          have HXL := (show Hid _ from hXl)
                          have HXX := (show Hid _ from hxx)
                          clear hz hXl hxx hd hd2 hd2n hWb
                          go_wp2_with (at_builtin; refine wpList_append_lies _ rfl _ _ 140 rfl w.heap.size 69 i0 (.int .u64 0) 1 8 Tryz.underlying140 hi hz0 hz1 hz2 rfl (by decide) _ _ _ rfl hownA ⟨wr.heap.size, 0, none⟩ 1 1 [.int .u64 (z : Int)] rfl rfl ?c1 ?c2 (by omega) ?c3 ?c4 ?c5 (wr.heap.size + 1) (by simp) ?_)
                          try (case c1 => intro j u hj; match j, hj with | 0, hj => simp at hj; subst hj; simp [Addr.add])
                          case c2 => first | rfl | (intro u hu; simp at hu; subst hu; rfl)
                          case c3 => unfold maxLen; omega
                          case c4 => omega
                          case c5 => first | omega | (simp; omega)
                          intro g1 cap1 w1 hown1 hgrow hat hlt1
                          have hb1 := grown_below HB.out HOWN.out hgrow
                          rw [u64Cells_snoc] at hown1
                          have hvs1 : ∀ x, x ∈ vs ++ [z] → x < 18446744073709551616 := by
                            intro x hx
                            rcases List.mem_append.1 hx with hx | hx
                            · exact HVS.out x hx
                            · simp at hx
                              rw [hx]
                              exact HXX.out
                          have hln1 : (vs ++ [z]).length = j + 1 + 1 := by simp [HVL.out]
                          obtain ⟨g2, cap2, hv2, hgl2, hgw2, hcap2, hU2⟩ := own_u64s hown1 hln1 hvs1 (by omega)
                          cases hv2
                          have HOWN1 : Hid (w1.ownsRow w.heap.size 69 1 (.slice (some ⟨g1, 0, none⟩) (j + 1 + 1) cap1) (j + 1 + 1) (u64Cells (vs ++ [z]))) := hown1
                          have HB1 := (show Hid _ from hb1)
                          have HVS1 := (show Hid _ from hvs1)
                          have HU2 : Hid (U64s w1 (some ⟨g1, 0, none⟩) (j + 1 + 1) (BitMath.vf (vs ++ [z]))) := hU2
                          have hsw := hb1.size
                          clear hown1 hgrow hat hlt1 hb1 hownA hcp hvs1 hln1 hU2
                          by_cases hX0 : X = 0
                          · have HERR := (show Hid _ from HBAD.out 1 (by decide) (HRS3.out.trans (if_pos (.inl hX0))))
                            have hXb : ((X : Int) == 0) = true := by simp; omega
                            clear hX0
                            go_wp2_with fail
                            go_quiet (fail)
                            go_wp2
                            go_ret3
                            exact ⟨HB1.out.trans ((⟨rfl, rfl, rfl, Nat.le_refl _, fun _ _ => rfl⟩ : Below w1.heap.size w1 (w1.drewN nq)).mono HB1.out.size), .inr ⟨1, by decide, HERR.out, rfl⟩⟩
                          · have hXb : ((X : Int) == 0) = false := by simp; omega
                            have hmk := maskOf_any w1.drew (some ⟨g1, 0, none⟩) (j + 1 + 1) cap1 (BitMath.vf (vs ++ [z])) HU2.out (by omega)
                            have HMK := (show Hid _ from hmk)
                            have hnx := BitMath.maskTo_next vs X (by have := HVL.out; omega)
                            rw [HVL.out, Nat.add_sub_cancel, HP.out, HZZ.out, HWIN.out, HMASK.out] at hnx
                            have hext : s.extract a0 (B + Wd) = BitMath.txt (D.take (u + (h + Wd))) := by
                              rw [HS.out, BitMath.txt_extract, HD.out]
                              congr 2
                              have := HBe.out
                              have := HAE.out
                              omega
                            have hqt := txt_beq (BitMath.maskTo (BitMath.vf (vs ++ [z])) (j + 1 + 1)) (D.take (u + (h + Wd))) (s.extract a0 ((B : Int) + (Wd : Int)).toNat) (by rw [show ((B : Int) + (Wd : Int)).toNat = B + Wd by omega]; exact hext)
                            have hiff : (BitMath.maskTo (BitMath.vf (vs ++ [z])) (j + 1 + 1) = D.take (u + (h + Wd))) = (BitMath.mBits (W, L, T) X = E.take (h + Wd)) := by
                              rw [hnx.1, List.take_add, ← HEE.out]
                              exact List.append_cancel_left_eq _ _ _
                            have hga : (a0 : Int) ≤ (B : Int) + (Wd : Int) := by have := HBe.out; have := HAE.out; omega
                            have ha00 : (0 : Int) ≤ (a0 : Int) := by omega
                            clear hmk hext hnx
                            by_cases heq : BitMath.mBits (W, L, T) X = E.take (h + Wd)
                            · rw [decide_eq_true (hiff.mpr heq)] at hqt
                              have hgd := HGOOD.out _ _ (HRS3.out.trans (if_neg (by intro hc; rcases hc with hc | hc; exact hX0 hc; exact hc heq)))
                              rw [HZZ.out] at hgd
                              have HGD := (show Hid _ from hgd)
                              obtain ⟨W', T', hn1, hn2⟩ := next_win (W, L, T) E X Lh Wd h HXL.out hX0 HB0.out HH.out heq
                              have hnn := mask_next (x := X) HEE.out hu HVL.out HWIN.out HMASK.out HP.out HSE.out heq
                              rw [HZZ.out, hn1] at hnn
                              have HNN := (show Hid _ from hnn)
                              have HN2 := (show Hid _ from hn2)
                              clear hgd hn1 hn2 hnn heq hiff hX0
                              go_wp2_with fail
                              go_region_held3 (fun _ => True) (trivial) ((go_at_call 109; refine Calls.mono HMK.out ?_; rintro e w8 ⟨rfl, hb8⟩))
                              have hb8' : Below w1.heap.size w1 w8 := Below.trans (b := w1.drew) ⟨rfl, rfl, rfl, Nat.le_refl _, fun _ _ => rfl⟩ hb8
                              have HB8 := (show Hid _ from HB1.out.trans (hb8'.mono HB1.out.size))
                              have HOWN8 : Hid (w8.ownsRow w.heap.size 69 1 (.slice (some ⟨g1, 0, none⟩) (j + 1 + 1) cap1) (j + 1 + 1) (u64Cells (vs ++ [z]))) := own_keep HOWN1.out hb8'
                              clear hb8 hb8'
                              go_wp2
                              go_roundw
                              case rel =>
                                exact ⟨rfl, rfl, rfl, j + 2, u + (h + Wd), vs ++ [z], W', Lh, T', _, by omega, by go_num, congrArg (Value.int .i64) (by have := HBe.out; have := HAE.out; omega), rfl, rfl, by rw [HN2.out], HGD.out, HNN.out.1, HNN.out.2.1, HNN.out.2.2.1, HNN.out.2.2.2, HVS1.out, HOWN8.out, HB8.out⟩
                              case measure => simp [intOf] <;> omega
                            · rw [decide_eq_false (fun hc => heq (hiff.mp hc))] at hqt
                              have HERR := (show Hid _ from HBAD.out 1 (by decide) (HRS3.out.trans (if_pos (.inr heq))))
                              clear heq hiff hX0
                              go_wp2_with fail
                              go_region_held3 (fun _ => True) (trivial) ((go_at_call 109; refine Calls.mono HMK.out ?_; rintro e w8 ⟨rfl, hb8⟩))
                              have hb8' : Below w1.heap.size w1 w8 := Below.trans (b := w1.drew) ⟨rfl, rfl, rfl, Nat.le_refl _, fun _ _ => rfl⟩ hb8
                              have HB8 := (show Hid _ from HB1.out.trans (hb8'.mono HB1.out.size))
                              clear hb8 hb8'
                              go_wp2
                              go_ret3
                              exact ⟨HB8.out, .inr ⟨1, by decide, HERR.out, rfl⟩⟩
    · have hke : k = n := by omega
      have hge : (n : Int) ≤ (k : Int) := by omega
      have hsub : (a0 : Int) + (u : Int) - (a0 : Int) = (u : Int) := by omega
      have HSUB := (show Hid _ from hsub)
      clear hsub
      subst hke
      clear hk hkn
      go_wp2
      go_ret3
      exact ⟨HB.out, .inl ⟨vs, u, v, HMR.out, congrArg (fun y => Ending.returned (.tuple #[v, .int .i64 y, .int .i64 0])) HSUB.out, HVL.out, hu, HOWN.out, HVS.out, HMASK.out⟩⟩
end Go.Proofs.YtijgolnbbaljlaaGreatDoor
/- The document's row of a chunk and its chunk, by contracts: RowOf, ChunkOf. -/
namespace Go.Proofs.YtijgolnbbaljlaaGreatDoor
open Go.RowKit

/-- A row that another one's growth leaves. -/
theorem own_far {w w' : World} {base : Nat} {e : TypeId} {s : Nat} {v : Value} {n : Nat} {xs : List Value} {row : Option Nat} (h : w.ownsRow base e s v n xs) (hg : w.grownBy w' row) (hne : ∀ g, v.ownBlock = some g → row ≠ some g) : w'.ownsRow base e s v n xs := by
  obtain ⟨h1, h2⟩ := h
  refine ⟨h1, ?_⟩
  rcases h2 with h2 | ⟨g, cap, cur, hv, hgb, hh, r⟩
  · exact .inl h2
  · have hl : g < w.heap.size := by
      rcases Nat.lt_or_ge g w.heap.size with h' | h'
      · exact h'
      · rw [Array.getElem?_eq_none h'] at hh; cases hh
    have hx := hne g (by rw [hv]; rfl)
    exact .inr ⟨g, cap, cur, hv, hgb, (hg.block g hl (fun e => hx e.symm)).trans hh, r⟩
theorem own_lt {w : World} {base : Nat} {e : TypeId} {s : Nat} {v : Value} {n : Nat} {xs : List Value} (h : w.ownsRow base e s v n xs) : ∀ g, v.ownBlock = some g → g < w.heap.size ∧ base ≤ g := by
  intro g hg
  rcases h.2 with ⟨rfl, _⟩ | ⟨g', cap, cur, rfl, hgb, hh, _⟩
  · simp [Value.ownBlock] at hg
  · simp [Value.ownBlock] at hg
    subst hg
    refine ⟨?_, hgb⟩
    rcases Nat.lt_or_ge g' w.heap.size with h' | h'
    · exact h'
    · rw [Array.getElem?_eq_none h'] at hh; cases hh
theorem grown_far {w wr w1 : World} {v : Value} {o : Obj} {e : TypeId} {s n : Nat} {xs : List Value} (hb : Below w.heap.size w wr) (hown : wr.ownsRow w.heap.size e s v n xs) (hgrow : (wr.alloc o).grownBy w1 v.ownBlock) : Below w.heap.size w w1 := by
  have hba : Below w.heap.size w (wr.alloc o) := hb.alloc hb.size _
  refine hba.trans ⟨hgrow.os, hgrow.tape, hgrow.output, hgrow.size, fun k hk => hgrow.block k (Nat.lt_of_lt_of_le hk hba.size) ?_⟩
  intro he
  have := (own_lt hown k he.symm).2
  omega
/-- The bits of a chunk. -/
def rowBits (T : Nat → Int) (B : Nat → Nat) (n : Nat) : List Bool := BitMath.bitsOf n 8 ++ ticksTo T n ++ BitMath.maskTo B n
theorem length_rowBits (T : Nat → Int) (B : Nat → Nat) (n : Nat) : (rowBits T B n).length ≤ 8 + 145 * n := by
  have h1 := length_ticksTo T n
  have h2 := BitMath.length_maskTo B n
  simp only [rowBits, List.length_append, BitMath.length_bitsOf]
  omega
def firstInts (T : Nat → Int) (n : Nat) : List Int := (List.range n).map T
def firstNats (B : Nat → Nat) (n : Nat) : List Nat := (List.range n).map B
theorem firstInts_step (T : Nat → Int) (k : Nat) : firstInts T (k + 1) = firstInts T k ++ [T k] := by simp [firstInts, List.range_succ]
theorem firstNats_step (B : Nat → Nat) (k : Nat) : firstNats B (k + 1) = firstNats B k ++ [B k] := by simp [firstNats, List.range_succ]
theorem vf_first (B : Nat → Nat) (n i : Nat) (h : i < n) : BitMath.vf (firstNats B n) i = B i := by simp [BitMath.vf, firstNats, h]
theorem ints_own {w : World} {base n : Nat} {v : Value} {T : Nat → Int} (h : w.ownsRow base 3 1 v n (intList (firstInts T n))) : ∃ a c, v = .slice a n c ∧ Ints w a n T := by
  by_cases hn : n = 0
  · subst hn
    rcases h.2 with ⟨rfl, _⟩ | ⟨g, cap, cur, rfl, _⟩
    · exact ⟨none, 0, rfl, .inl rfl⟩
    · exact ⟨_, _, rfl, .inl rfl⟩
  · obtain ⟨g, cap, rfl, _, _, hc⟩ := own_list h (by omega) (by simp [firstInts])
    refine ⟨_, _, rfl, .inr ⟨g, 0, rfl, fun k hk => ?_⟩⟩
    rw [Nat.zero_add, hc k hk]
    simp [firstInts, hk]
theorem u64s_own {w : World} {base n : Nat} {v : Value} {B : Nat → Nat} (h : w.ownsRow base 69 1 v n (u64Cells (firstNats B n))) (hB : ∀ i, i < n → B i < 18446744073709551616) : ∃ a c, v = .slice a n c ∧ U64s w a n B := by
  by_cases hn : n = 0
  · subst hn
    rcases h.2 with ⟨rfl, _⟩ | ⟨g, cap, cur, rfl, _⟩
    · exact ⟨none, 0, rfl, .inl rfl⟩
    · exact ⟨_, _, rfl, .inl rfl⟩
  · obtain ⟨g, cap, rfl, _, _, _, hU⟩ := own_u64s h (by simp [firstNats]) (by
      intro x hx
      simp [firstNats] at hx
      obtain ⟨i, hi, rfl⟩ := hx
      exact hB i hi) (by omega)
    refine ⟨_, _, rfl, ?_⟩
    rcases hU with h0 | ⟨b, o, e, hc⟩
    · omega
    · refine .inr ⟨b, o, e, fun k hk => ?_⟩
      have := hc k hk
      rw [vf_first B n k hk] at this
      exact this

set_option maxRecDepth 1000000 in
set_option maxHeartbeats 2000000 in
theorem rowOf_any (w : World) (la : Option Addr) (n c : Nat) (T : Nat → Int) (B : Nat → Nat) (hP : Pts w la n T B) (hn : n ≤ 500) (hok : ∀ i, i < n → -1099511627776 ≤ T i ∧ T i ≤ 1099511627776) :
    Calls Tryz.prog 77 #[.slice la n c] w fun e w' => e = .returned (.string (BitMath.txt (rowBits T B n))) ∧ Below w.heap.size w w' := by
  have HP : Hid (Pts w la n T B) := hP
  have HOK := (show Hid _ from hok)
  clear hP hok
  go_enter Tryz.func77, Tryz.ntmps77
  go_wp2_with fail
  go_loopw [3, 4, 5] (fun t u i wr => ∃ (k : Nat) (vt vu : Value), k ≤ n ∧ i = .int .i64 k ∧ vt = t ∧ vu = u ∧ wr.ownsRow w.heap.size 3 1 vt k (intList (firstInts T k)) ∧ wr.ownsRow w.heap.size 69 1 vu k (u64Cells (firstNats B k)) ∧ (∀ g, vt.ownBlock = some g → vu.ownBlock ≠ some g) ∧ Below w.heap.size w wr) (fun _ _ i _ => n - (intOf i).toNat)
  case atStart => exact ⟨0, _, _, Nat.zero_le _, rfl, rfl, rfl, ⟨rfl, .inl ⟨rfl, rfl⟩⟩, ⟨rfl, .inl ⟨rfl, rfl⟩⟩, fun g hg => by simp [Value.ownBlock] at hg, Below.refl _ _⟩
  case round =>
    obtain ⟨k, vt, vu, hk, rfl, rfl, rfl, hot, hou, hne, hb⟩ := hrel
    by_cases hkn : k < n
    · obtain ⟨lb, lo, rfl, hcs⟩ := HP.out.at k hkn
      obtain ⟨hc0, hc1, hT0, hT1, hB⟩ := hcs k hkn
      have hlb : lb < w.heap.size := World.block_lt_of_cell? w ⟨lb, _, none⟩ hc0
      have hst := firstInts_step T k
      have hsu := firstNats_step B k
      have hcr0 : wr.cell? ⟨lb, lo + k * 2, none⟩ = some (.int .i64 (T k)) := (hb.cell (p := ⟨lb, _, none⟩) hlb).trans hc0
      generalize T k = t at *
      generalize B k = y at *
      have HC1 := (show Hid _ from hc1)
      have hk0 : (0 : Int) ≤ (k : Int) := by omega
      have hk1 : (k : Int) < (n : Int) := by omega
      obtain ⟨i0, hi, hz0, hz1, hz2⟩ := info_parts Tryz.infoIntR
      obtain ⟨j0, hj, hy0, hy1, hy2⟩ := info_parts Tryz.infoU64
      have hotA : (wr.alloc (.cells #[.int .i64 t] 3)).ownsRow w.heap.size 3 1 vt k (intList (firstInts T k)) := hot.alloc _
      have hwl := hb.size
      have HOT : Hid (wr.ownsRow w.heap.size 3 1 vt k (intList (firstInts T k))) := hot
      have HOU : Hid (wr.ownsRow w.heap.size 69 1 vu k (u64Cells (firstNats B k))) := hou
      have HNE := (show Hid _ from hne)
      have HB := (show Hid _ from hb)
      have HST := (show Hid _ from hst)
      have HSU := (show Hid _ from hsu)
      clear hot hou hne hb hst hsu hc0 hc1 hcs
      go_wp2_with (at_builtin; refine wpList_append_lies _ rfl _ _ 137 rfl w.heap.size 3 i0 (.int .i64 0) 1 8 Tryz.underlying137 hi hz0 hz1 hz2 rfl (by decide) _ _ _ rfl hotA ⟨wr.heap.size, 0, none⟩ 1 1 [.int .i64 t] rfl rfl ?c1 ?c2 (by omega) ?c3 ?c4 ?c5 (wr.heap.size + 1) (by simp) ?_)
      try (case c1 => intro j u hj; match j, hj with | 0, hj => simp at hj; subst hj; simp [Addr.add])
      case c2 => first | rfl | (intro u hu; simp at hu; subst hu; rfl)
      case c3 => unfold maxLen; omega
      case c4 => omega
      case c5 => first | omega | (simp; omega)
      intro g1 cap1 w1 hown1 hgrow hat hlt1
      have hb1 := grown_far HB.out HOT.out hgrow
      have hou1 : w1.ownsRow w.heap.size 69 1 vu k (u64Cells (firstNats B k)) := own_far (HOU.out.alloc _) hgrow (fun g hg h => HNE.out g h hg)
      rw [intList_snoc, ← HST.out] at hown1
      have hne1 : vu.ownBlock ≠ some g1 := by
        intro h
        rcases hat with h1 | h1
        · exact HNE.out g1 h1 h
        · have := (own_lt HOU.out g1 h).1
          omega
      have hcr1 : w1.cell? ⟨lb, lo + k * 2 + 1, none⟩ = some (.int .u64 (y : Int)) := (hb1.cell (p := ⟨lb, _, none⟩) hlb).trans HC1.out
      have houA : (w1.alloc (.cells #[.int .u64 (y : Int)] 69)).ownsRow w.heap.size 69 1 vu k (u64Cells (firstNats B k)) := hou1.alloc _
      have hs1 := hb1.size
      have HOT1 : Hid (w1.ownsRow w.heap.size 3 1 (.slice (some ⟨g1, 0, none⟩) (k + 1) cap1) (k + 1) (intList (firstInts T (k + 1)))) := hown1
      have HOU1 : Hid (w1.ownsRow w.heap.size 69 1 vu k (u64Cells (firstNats B k))) := hou1
      have HB1 := (show Hid _ from hb1)
      have HNE1 := (show Hid _ from (fun h => hne1 h : vu.ownBlock = some g1 → False))
      have HLT1 := (show Hid _ from hlt1)
      clear hown1 hgrow hat hlt1 hb1 hou1 hotA hcr0 hne1
      go_wp2_with (at_builtin; refine wpList_append_lies _ rfl _ _ 140 rfl w.heap.size 69 j0 (.int .u64 0) 1 8 Tryz.underlying140 hj hy0 hy1 hy2 rfl (by decide) _ _ _ rfl houA ⟨w1.heap.size, 0, none⟩ 1 1 [.int .u64 (y : Int)] rfl rfl ?d1 ?d2 (by omega) ?d3 ?d4 ?d5 (w1.heap.size + 1) (by simp) ?_)
      try (case d1 => intro j u hj; match j, hj with | 0, hj => simp at hj; subst hj; simp [Addr.add])
      case d2 => first | rfl | (intro u hu; simp at hu; subst hu; rfl)
      case d3 => unfold maxLen; omega
      case d4 => omega
      case d5 => first | omega | (simp; omega)
      intro g2 cap2 w2 hown2 hgrow2 hat2 hlt2
      have hb2 := grown_far HB1.out HOU1.out hgrow2
      have hot2 := own_far (HOT1.out.alloc _) hgrow2 (fun g hg h => by
        simp [Value.ownBlock] at hg
        subst hg
        exact HNE1.out h)
      rw [u64Cells_snoc, ← HSU.out] at hown2
      have hne2 : ∀ g, (Value.slice (some ⟨g1, 0, none⟩) (k + 1) cap1).ownBlock = some g → (Value.slice (some ⟨g2, 0, none⟩) (k + 1) cap2).ownBlock ≠ some g := by
        intro g hg h
        simp [Value.ownBlock] at hg h
        subst hg
        rcases hat2 with h1 | h1
        · rw [h] at h1
          exact HNE1.out h1
        · have := HLT1.out
          omega
      have HOT2 : Hid (w2.ownsRow w.heap.size 3 1 (.slice (some ⟨g1, 0, none⟩) (k + 1) cap1) (k + 1) (intList (firstInts T (k + 1)))) := hot2
      have HOU2 : Hid (w2.ownsRow w.heap.size 69 1 (.slice (some ⟨g2, 0, none⟩) (k + 1) cap2) (k + 1) (u64Cells (firstNats B (k + 1)))) := hown2
      have HB2 := (show Hid _ from hb2)
      have HNE2 := (show Hid _ from hne2)
      clear hown2 hgrow2 hat2 hlt2 hb2 hot2 houA hcr1 hne2
      go_wp2
      go_roundw
      case rel => exact ⟨k + 1, _, _, by omega, by go_num, rfl, rfl, HOT2.out, HOU2.out, HNE2.out, HB2.out⟩
      case measure => simp [intOf] <;> omega
    · have hke : k = n := by omega
      subst hke
      obtain ⟨at_, ct, rfl, hI⟩ := ints_own hot
      obtain ⟨au, cu, rfl, hU⟩ := u64s_own hou (fun i hi => by
        obtain ⟨_, _, _, hcs⟩ := HP.out.at i hi
        exact (hcs i hi).2.2.2.2)
      have hbt := bits_any k 8 wr (by omega) (by omega) (by omega)
      have HBT := (show Hid _ from hbt)
      have HI : Hid (Ints wr at_ k T) := hI
      have HU : Hid (U64s wr au k B) := hU
      have HB := (show Hid _ from hb)
      have hge : (k : Int) ≤ (k : Int) := Int.le_refl _
      have hku : IntKind.u64.wrap (k : Int) = (k : Int) := IntWalk.u64_in _ (by omega)
      have hlt := length_ticksTo T k
      have hlm := BitMath.length_maskTo B k
      obtain ⟨M1, hM1⟩ : ∃ M1, BitMath.bitsOf k 8 = M1 := ⟨_, rfl⟩
      obtain ⟨M2, hM2⟩ : ∃ M2, M1 ++ ticksTo T k = M2 := ⟨_, rfl⟩
      have hl1 : M1.length = 8 := by rw [← hM1, BitMath.length_bitsOf]
      have hl2 : M2.length = 8 + (ticksTo T k).length := by rw [← hM2, List.length_append, hl1]
      have hadd1 := add_txt Tryz.prog M1 (ticksTo T k) (by omega)
      have hadd2 := add_txt Tryz.prog M2 (BitMath.maskTo B k) (by omega)
      rw [hM2] at hadd1
      have hfin : rowBits T B k = M2 ++ BitMath.maskTo B k := by rw [← hM2, ← hM1]; rfl
      rw [← hfin] at hadd2
      have HBT' : Hid (Calls Tryz.prog 107 #[.int .u64 (k : Int), .int .i64 8] wr fun e w' => e = .returned (.string (BitMath.txt M1)) ∧ Below wr.heap.size wr w') := by
        rw [← hM1]
        exact HBT.out
      clear hot hou hne hb hI hU hbt HBT hM1 hM2 hl1 hl2 hfin hlt hlm
      obtain ⟨R, hR⟩ : ∃ R, rowBits T B k = R := ⟨_, rfl⟩
      rw [hR] at hadd2
      have HRR := (show Hid _ from hR)
      clear hR
      go_wp2_with fail
      refine Calls.mono HBT'.out ?_
      rintro e w1 ⟨rfl, hb1⟩
      have htk := ticks_of w1 at_ k ct T (HI.out.below hb1) (by omega) HOK.out
      have HTK := (show Hid _ from htk)
      have HU1 : Hid (U64s w1 au k B) := HU.out.below hb1
      have HB1 := (show Hid _ from HB.out.trans (hb1.mono HB.out.size))
      clear htk hb1 HBT' HI HU HB
      go_wp2_with fail
      refine Calls.mono HTK.out ?_
      rintro e w2 ⟨rfl, hb2⟩
      have hmk := maskOf_any w2 au k cu B (HU1.out.below hb2) (by omega)
      have HMK := (show Hid _ from hmk)
      have HB2 := (show Hid _ from HB1.out.trans (hb2.mono HB1.out.size))
      clear hmk hb2 HTK HU1 HB1
      go_wp2_with fail
      refine Calls.mono HMK.out ?_
      rintro e w3 ⟨rfl, hb3⟩
      have HB3 := (show Hid _ from HB2.out.trans (hb3.mono HB2.out.size))
      clear hb3
      go_wp2
      go_ret
      exact ⟨by rw [HRR.out]; rfl, HB3.out⟩

/-- The bytes of a chunk. -/
def chunkBytes (T : Nat → Int) (B : Nat → Nat) (n : Nat) : List UInt8 := BitMath.sealOf (BitMath.pack (rowBits T B n))
set_option maxRecDepth 1000000 in
theorem chunkOf_any (w : World) (la : Option Addr) (n c : Nat) (T : Nat → Int) (B : Nat → Nat) (hP : Pts w la n T B) (hn : n ≤ 500) (hok : ∀ i, i < n → -1099511627776 ≤ T i ∧ T i ≤ 1099511627776) :
    Calls Tryz.prog 52 #[.slice la n c] w fun e w' => e = .returned (.string ⟨(chunkBytes T B n).toArray⟩) ∧ Below w.heap.size w w' := by
  have hl := length_rowBits T B n
  have HR := (show Hid _ from rowOf_any w la n c T B hP hn hok)
  have HK := (show Hid _ from fun w0 => pack_any (BitMath.txt (rowBits T B n)) (rowBits T B n) w0 rfl (by omega))
  have hsz : (⟨(BitMath.pack (rowBits T B n)).toArray⟩ : ByteArray).size = (BitMath.pack (rowBits T B n)).length := by simp [ByteArray.size]
  have hlp := BitMath.length_pack (rowBits T B n)
  have hse := fun w0 => seal_any ⟨(BitMath.pack (rowBits T B n)).toArray⟩ w0 (by omega)
  have hd : (⟨(BitMath.pack (rowBits T B n)).toArray⟩ : ByteArray).data.toList = BitMath.pack (rowBits T B n) := by simp
  rw [hd] at hse
  have HS : Hid (∀ w0, Calls Tryz.prog 75 #[.string ⟨(BitMath.pack (rowBits T B n)).toArray⟩] w0 fun e w' => e = .returned (.string ⟨(chunkBytes T B n).toArray⟩) ∧ Below w0.heap.size w0 w') := hse
  clear hl hsz hlp hse hd hP hok
  generalize (⟨(BitMath.pack (rowBits T B n)).toArray⟩ : ByteArray) = q at *
  generalize BitMath.txt (rowBits T B n) = r at *
  generalize (⟨(chunkBytes T B n).toArray⟩ : ByteArray) = z at *
  go_enter Tryz.func52, Tryz.ntmps52
  go_wp2_with fail
  refine Calls.mono HR.out ?_
  rintro e w1 ⟨rfl, hb1⟩
  go_wp2_with fail
  refine Calls.mono (HK.out _) ?_
  rintro e w2 ⟨rfl, hb2⟩
  replace hb2 := hb1.trans (hb2.mono hb1.size)
  go_wp2_with fail
  refine Calls.mono (HS.out _) ?_
  rintro e w3 ⟨rfl, hb3⟩
  replace hb3 := hb2.trans (hb3.mono hb2.size)
  clear hb1 hb2
  go_wp2
  go_ret
  exact ⟨rfl, hb3⟩
end Go.Proofs.YtijgolnbbaljlaaGreatDoor
/- Ticks that were put are read: mathematics over the document's ReadTicks. -/
namespace Go.Proofs.YtijgolnbbaljlaaGreatDoor

/-- The first k of ticks. -/
def firstTicks (G : Nat → Int) (k : Nat) : List Int := (List.range k).map G
theorem length_firstTicks (G : Nat → Int) (k : Nat) : (firstTicks G k).length = k := by simp [firstTicks]
theorem firstTicks_step (G : Nat → Int) (k : Nat) : firstTicks G (k + 1) = firstTicks G k ++ [G k] := by simp [firstTicks, List.range_succ]
theorem getD_firstTicks (G : Nat → Int) (k i : Nat) (h : i < k) : (firstTicks G k).getD i 0 = G i := by simp [firstTicks, h]
theorem ticksTo_split (G : Nat → Int) (k : Nat) : ∀ n, k < n → ∃ R, ticksTo G n = ticksTo G k ++ (BitMath.waveOf (deltaOf G k) ++ R)
  | 0, h => absurd h (by omega)
  | n + 1, h => by
    rcases Nat.lt_or_ge k n with h1 | h1
    · obtain ⟨R, hR⟩ := ticksTo_split G k n h1
      exact ⟨R ++ BitMath.waveOf (deltaOf G n), by rw [ticksTo, hR]; simp [List.append_assoc]⟩
    · have : k = n := by omega
      subst this
      exact ⟨[], by rw [ticksTo, List.append_nil]⟩
theorem next_first (G : Nat → Int) (k : Nat) : nextTick (firstTicks G k) (deltaOf G k) = G k := by
  unfold nextTick
  rw [length_firstTicks]
  by_cases h0 : k = 0
  · subst h0
    simp [deltaOf]
  · by_cases h1 : k = 1
    · subst h1
      rw [if_pos (by omega), if_neg (by omega), getD_firstTicks G 1 (1 - 1) (by omega)]
      simp [deltaOf]
    · rw [if_pos (by omega), if_pos (by omega), getD_firstTicks G k (k - 1) (by omega), getD_firstTicks G k (k - 2) (by omega)]
      unfold deltaOf
      rw [if_neg h0, if_neg h1]
      omega

theorem readTo_ticks (G : Nat → Int) (n : Nat) (P R : List Bool) (hok : ∀ i, i < n → -1099511627776 ≤ G i ∧ G i ≤ 1099511627776) : ∀ m k, k + m = n →
    readTo (P ++ (ticksTo G n ++ R)) m (P.length + (ticksTo G k).length) (firstTicks G k) = (0, firstTicks G n, P.length + (ticksTo G n).length)
  | 0, k, h => by
    have : k = n := by omega
    subst this
    rfl
  | m + 1, k, h => by
    have ih := readTo_ticks G n P R hok m (k + 1) (by omega)
    obtain ⟨Q, hQ⟩ := ticksTo_split G k n (by omega)
    have hd : (P ++ (ticksTo G n ++ R)).drop (P.length + (ticksTo G k).length) = BitMath.waveOf (deltaOf G k) ++ (Q ++ R) := by
      rw [← List.drop_drop, List.drop_left, hQ, List.append_assoc, List.drop_left, List.append_assoc]
    have hb := course_bounds G n k (by omega) hok
    have hk := hok k (by omega)
    have hde := course_delta G k
    have hu := BitMath.unwave_wave (deltaOf G k) (Q ++ R) (by omega) (by omega)
    rw [readTo_succ, hd, hu]
    simp only
    have hfar : far (deltaOf G k) = false := by
      unfold far
      rw [decide_eq_false (by omega), decide_eq_false (by omega)]
      rfl
    rw [if_neg (by omega), hfar, Bool.and_false, if_neg (by decide), next_first, if_pos ((isTick_iff _).2 hk), ← firstTicks_step]
    rw [length_ticksTo_step] at ih
    rw [Nat.add_assoc]
    exact ih
end Go.Proofs.YtijgolnbbaljlaaGreatDoor
/- What is a chunk, and how it parts: mathematics over the document's answers. -/
namespace Go.Proofs.YtijgolnbbaljlaaGreatDoor

/-- Bytes that are a chunk of right points. -/
def IsChunk (l : List UInt8) : Prop := ∃ (n : Nat) (T : Nat → Int) (B : Nat → Nat), n ≤ 120 ∧ (∀ i, i < n → ptOk T i = true) ∧ (∀ i, i < n → B i < 18446744073709551616) ∧ l = chunkBytes T B n

theorem ptOk_tick (T : Nat → Int) (i : Nat) (h : ptOk T i = true) : -1099511627776 ≤ T i ∧ T i ≤ 1099511627776 := by
  unfold ptOk at h
  simp only [Bool.and_eq_true] at h
  exact (isTick_iff _).1 h.1
theorem length_fourOf (n : Nat) : (BitMath.fourOf n).length = 4 := rfl
theorem sealOf_take (b : List UInt8) : (BitMath.sealOf b).take ((BitMath.sealOf b).length - 4) = b := by
  unfold BitMath.sealOf
  rw [List.length_append, length_fourOf, Nat.add_sub_cancel, List.take_left]

theorem bits_bytes_pack (bs : List Bool) : ∃ Z, BitMath.bitsOfBytes (BitMath.pack bs) = bs ++ Z := by
  refine ⟨(BitMath.bitsOfBytes (BitMath.pack bs)).drop bs.length, ?_⟩
  have := BitMath.bytes_pack bs
  exact ((congrArg (fun x => x ++ (BitMath.bitsOfBytes (BitMath.pack bs)).drop bs.length) this).symm.trans (List.take_append_drop _ _)).symm

/-- A chunk's parts, one behind the other. -/
theorem chunk_parse (l : List UInt8) (n : Nat) (T : Nat → Int) (B : Nat → Nat) (hn : n ≤ 120) (hT : ∀ i, i < n → ptOk T i = true) (hB : ∀ i, i < n → B i < 18446744073709551616) (hl : l = chunkBytes T B n) :
    5 ≤ l.length ∧ l.take (l.length - 4) = BitMath.pack (rowBits T B n) ∧ BitMath.sealOf (l.take (l.length - 4)) = l ∧
    BitMath.valB ((BitMath.bitsOfBytes (l.take (l.length - 4))).take 8) = n ∧
    readTo (BitMath.bitsOfBytes (l.take (l.length - 4))) n 8 [] = (0, firstTicks T n, 8 + (ticksTo T n).length) ∧
    ∃ u, BitMath.maskRead ((BitMath.bitsOfBytes (l.take (l.length - 4))).drop (8 + (ticksTo T n).length)) n = (0, BitMath.firstV B n, u) := by
  have hb : l.take (l.length - 4) = BitMath.pack (rowBits T B n) := by rw [hl]; exact sealOf_take _
  have hlr : 8 ≤ (rowBits T B n).length := by simp only [rowBits, List.length_append, BitMath.length_bitsOf]; omega
  have hlp := BitMath.length_pack (rowBits T B n)
  have hll : l.length = (BitMath.pack (rowBits T B n)).length + 4 := by rw [hl, chunkBytes, BitMath.sealOf, List.length_append, length_fourOf]
  obtain ⟨Z, hZ⟩ := bits_bytes_pack (rowBits T B n)
  have hD : BitMath.bitsOfBytes (l.take (l.length - 4)) = BitMath.bitsOf n 8 ++ (ticksTo T n ++ (BitMath.maskTo B n ++ Z)) := by
    rw [hb, hZ, rowBits]
    simp only [List.append_assoc]
  have h8 : (BitMath.bitsOf n 8).length = 8 := BitMath.length_bitsOf _ _
  refine ⟨by omega, hb, by rw [hb, hl]; rfl, ?_, ?_, ?_⟩
  · rw [hD, List.take_left' h8, BitMath.valB_bitsOf]
    exact Nat.mod_eq_of_lt (by omega)
  · have := readTo_ticks T n (BitMath.bitsOf n 8) (BitMath.maskTo B n ++ Z) (fun i hi => ptOk_tick T i (hT i hi)) n 0 (by omega)
    rw [h8] at this
    rw [hD]
    exact this
  · refine ⟨(BitMath.maskTo B n).length, ?_⟩
    have hd : (BitMath.bitsOfBytes (l.take (l.length - 4))).drop (8 + (ticksTo T n).length) = BitMath.maskTo B n ++ Z := by
      rw [hD, ← List.drop_drop, List.drop_left' h8, List.drop_left]
    rw [hd]
    exact BitMath.maskRead_mask B n Z hB n (Nat.le_refl _)

theorem ticksTo_congr (T U : Nat → Int) : ∀ k, (∀ i, i < k → T i = U i) → ticksTo T k = ticksTo U k
  | 0, _ => rfl
  | k + 1, h => by
    have hd : deltaOf T k = deltaOf U k := by
      unfold deltaOf
      by_cases h0 : k = 0
      · subst h0
        rw [if_pos rfl, if_pos rfl, h 0 (by omega)]
      · by_cases h1 : k = 1
        · subst h1
          rw [if_neg h0, if_pos rfl, if_neg h0, if_pos rfl, h 0 (by omega), h 1 (by omega)]
        · rw [if_neg h0, if_neg h1, if_neg h0, if_neg h1, h k (by omega), h (k - 1) (by omega), h (k - 2) (by omega)]
    rw [ticksTo, ticksTo, ticksTo_congr T U k (fun i hi => h i (by omega)), hd]
theorem rowBits_congr (T U : Nat → Int) (B C : Nat → Nat) (n : Nat) (hT : ∀ i, i < n → T i = U i) (hB : ∀ i, i < n → B i = C i) : rowBits T B n = rowBits U C n := by
  unfold rowBits
  rw [ticksTo_congr T U n hT, BitMath.maskTo_congr B C n hB]
theorem ptOk_congr (T U : Nat → Int) (n : Nat) (hT : ∀ i, i < n → T i = U i) (i : Nat) (hi : i < n) : ptOk T i = ptOk U i := by
  unfold ptOk
  rw [hT i hi, hT (i - 1) (by omega)]
end Go.Proofs.YtijgolnbbaljlaaGreatDoor
/- The document's Unchunk by its contract. -/
namespace Go.Proofs.YtijgolnbbaljlaaGreatDoor
open Go.RowKit

theorem Tryz.infoPoint : (Tryz.prog.info? 71).map (fun i => (i.zero, i.size, i.bytes)) = some (some (.agg #[.int .i64 0, .int .u64 0]), 2, 16) := by kernel_rfl
/-- The cells of points. -/
def ptCells (T : Nat → Int) (B : Nat → Nat) : Nat → List Value
  | 0 => []
  | k + 1 => ptCells T B k ++ [.int .i64 (T k), .int .u64 (B k : Int)]
theorem length_ptCells (T : Nat → Int) (B : Nat → Nat) : ∀ n, (ptCells T B n).length = n * 2
  | 0 => rfl
  | n + 1 => by rw [ptCells, List.length_append, length_ptCells T B n]; simp; omega
theorem ptCells_at (T : Nat → Int) (B : Nat → Nat) : ∀ n k, k < n → (ptCells T B n)[k * 2]? = some (.int .i64 (T k)) ∧ (ptCells T B n)[k * 2 + 1]? = some (.int .u64 (B k : Int))
  | 0, k, h => absurd h (by omega)
  | n + 1, k, h => by
    have hl := length_ptCells T B n
    rcases Nat.lt_or_ge k n with h1 | h1
    · obtain ⟨a, b⟩ := ptCells_at T B n k h1
      rw [ptCells, List.getElem?_append_left (by omega), List.getElem?_append_left (by omega)]
      exact ⟨a, b⟩
    · have : k = n := by omega
      subst this
      rw [ptCells, List.getElem?_append_right (by omega), List.getElem?_append_right (by omega), hl]
      simp
theorem pts_own {w : World} {base n : Nat} {v : Value} {T : Nat → Int} {B : Nat → Nat} (h : w.ownsRow base 71 2 v n (ptCells T B n)) (hT : ∀ i, i < n → -9223372036854775808 ≤ T i ∧ T i ≤ 9223372036854775807) (hB : ∀ i, i < n → B i < 18446744073709551616) : ∃ a c, v = .slice a n c ∧ Pts w a n T B := by
  obtain ⟨_, h2⟩ := h
  rcases h2 with ⟨rfl, h0⟩ | ⟨g, cap, cur, hv, hg, hh, h1, h2, h3, h4⟩
  · subst h0
    exact ⟨none, 0, rfl, .inl rfl⟩
  · refine ⟨_, _, hv, .inr ⟨g, 0, rfl, fun k hk => ?_⟩⟩
    obtain ⟨c0, c1⟩ := ptCells_at T B n k hk
    rw [← h4] at c0 c1
    rw [List.getElem?_take_of_lt (by omega)] at c0 c1
    rw [Array.getElem?_toList] at c0 c1
    refine ⟨?_, ?_, (hT k hk).1, (hT k hk).2, hB k hk⟩
    · simp only [World.cell?, hh, Nat.zero_add]
      exact c0
    · simp only [World.cell?, hh, Nat.zero_add]
      exact c1

/-- What Unchunk answers. -/
def Unch (w w' : World) (l : List UInt8) (e : Ending) : Prop :=
  Below w.heap.size w w' ∧ ((∃ (n : Nat) (T : Nat → Int) (B : Nat → Nat) (v : Value), n ≤ 120 ∧ (∀ i, i < n → ptOk T i = true) ∧ (∀ i, i < n → B i < 18446744073709551616) ∧ l = chunkBytes T B n ∧ w'.ownsRow w.heap.size 71 2 v n (ptCells T B n) ∧ e = .returned (.tuple #[v, .int .i64 0])) ∨
    (∃ c : Nat, ¬ IsChunk l ∧ c = (if l.length < 5 then 1 else if BitMath.sealOf (l.take (l.length - 4)) = l then 1 else 9) ∧ e = .returned (.tuple #[.slice none 0 0, .int .i64 (c : Int)])))

theorem str_beq (a b : ByteArray) : (a.toList == b.toList) = decide (a.data.toList = b.data.toList) := by
  rw [ByteArray.toList_eq, ByteArray.toList_eq]
  by_cases h : a.data.toList = b.data.toList
  · simp [h]
  · rw [decide_eq_false h, beq_eq_false_iff_ne]
    exact h

theorem first_bad (p : Nat → Bool) : ∀ n, ∃ m, m ≤ n ∧ (∀ i, i < m → p i = true) ∧ (m < n → p m = false)
  | 0 => ⟨0, Nat.le_refl _, fun i hi => absurd hi (by omega), fun h => absurd h (by omega)⟩
  | n + 1 => by
    obtain ⟨m, hm, h1, h2⟩ := first_bad p n
    rcases Nat.lt_or_ge m n with h | h
    · exact ⟨m, by omega, h1, fun _ => h2 h⟩
    · have : m = n := by omega
      subst this
      cases hp : p m with
      | true =>
        refine ⟨m + 1, Nat.le_refl _, fun i hi => ?_, fun h => absurd h (by omega)⟩
        rcases Nat.lt_or_ge i m with h3 | h3
        · exact h1 i h3
        · have : i = m := by omega
          subst this
          exact hp
      | false => exact ⟨m, by omega, h1, fun _ => hp⟩
theorem own_base {w : World} {base base' : Nat} {e : TypeId} {s : Nat} {v : Value} {n : Nat} {xs : List Value} (h : w.ownsRow base e s v n xs) (hb : base' ≤ base) : w.ownsRow base' e s v n xs := by
  obtain ⟨h1, h2⟩ := h
  refine ⟨h1, ?_⟩
  rcases h2 with h2 | ⟨g, cap, cur, hv, hg, r⟩
  · exact .inl h2
  · exact .inr ⟨g, cap, cur, hv, Nat.le_trans hb hg, r⟩
/-- A cell below a row's base, behind the row's growth. -/
theorem cell_grown {wr X w7 : World} {o : Obj} {g k base n sz : Nat} {c v : Value} {e : TypeId} {xs : List Value} (hX : X.heap = (wr.alloc o).heap) (hown : wr.ownsRow base e sz v n xs) (hgrow : X.grownBy w7 v.ownBlock) (hg : g < base) (hc : wr.cell? ⟨g, k, none⟩ = some c) : w7.cell? ⟨g, k, none⟩ = some c := by
  have hl : g < wr.heap.size := World.block_lt_of_cell? wr ⟨g, k, none⟩ hc
  have h1 : w7.heap[g]? = wr.heap[g]? := by
    rw [hgrow.block g (by rw [hX]; simp; omega) (fun h => by have := (own_lt hown g h.symm).2; omega), hX]
    exact Below.heap_alloc wr o g hl
  simp only [World.cell?, h1] at hc ⊢
  exact hc
/-- What grew, behind a draw. -/
theorem below_grown {w5 wr X w7 : World} {o : Obj} {n sz : Nat} {v : Value} {e : TypeId} {xs : List Value} (hX : X.heap = (wr.alloc o).heap) (ho : X.os = wr.os) (ht : X.tape = wr.tape) (hu : X.output = wr.output) (hb : Below w5.heap.size w5 wr) (hown : wr.ownsRow w5.heap.size e sz v n xs) (hgrow : X.grownBy w7 v.ownBlock) : Below w5.heap.size w5 w7 := by
  have hs := hb.size
  have hsz : wr.heap.size ≤ X.heap.size := by rw [hX]; simp
  refine hb.trans ⟨hgrow.os.trans ho, hgrow.tape.trans ht, hgrow.output.trans hu, Nat.le_trans hsz hgrow.size, fun k hk => ?_⟩
  rw [hgrow.block k (by omega) (fun h => by have := (own_lt hown k h.symm).2; omega), hX]
  exact Below.heap_alloc wr o k (by omega)

set_option maxRecDepth 1000000 in
set_option maxHeartbeats 4000000 in
theorem unchunk_any (s : ByteArray) (w : World) (hs : s.size ≤ 10000) :
    Calls Tryz.prog 56 #[.string s] w fun e w' => Unch w w' s.data.toList e := by
  obtain ⟨l, hl⟩ : ∃ l, l = s.data.toList := ⟨_, rfl⟩
  have hlen : l.length = s.size := by rw [hl]; exact Array.length_toList
  rw [← hl]
  have HL := (show Hid _ from hl)
  have HLEN := (show Hid _ from hlen)
  clear hl hlen
  by_cases h5 : s.size < 5
  · have hnot : ¬ IsChunk l := by
      rintro ⟨n, T, B, hn, hT, hB, e⟩
      have := (chunk_parse l n T B hn hT hB e).1
      have := HLEN.out
      omega
    have HNOT : Hid (¬ IsChunk l) := hnot
    have h5I : (s.size : Int) < 5 := by omega
    have hd5 : decide ((s.size : Int) < 5) = true := by simp; omega
    clear hnot
    go_enter Tryz.func56, Tryz.ntmps56
    go_wp2
    go_ret2
    exact ⟨Below.refl _ _, .inr ⟨1, HNOT.out, by rw [if_pos (by have := HLEN.out; omega)], rfl⟩⟩
  · have hd5 : decide ((s.size : Int) < 5) = false := by simp; omega
    obtain ⟨b, hb⟩ : ∃ b, b = s.extract 0 (s.size - 4) := ⟨_, rfl⟩
    have hbl : b.data.toList = l.take (l.length - 4) := by rw [hb, HL.out]; simp
    have hbs : b.size = s.size - 4 := by rw [hb]; simp
    have hse := fun w0 => seal_any b w0 (by omega)
    rw [hbl] at hse
    have HBL := (show Hid _ from hbl)
    have HB := (show Hid _ from hb)
    have HSE := (show Hid _ from hse)
    have hqt := str_beq ⟨(BitMath.sealOf (l.take (l.length - 4))).toArray⟩ s
    have hqd : (⟨(BitMath.sealOf (l.take (l.length - 4))).toArray⟩ : ByteArray).data.toList = BitMath.sealOf (l.take (l.length - 4)) := by simp
    rw [hqd, ← HL.out] at hqt
    obtain ⟨z, hz⟩ : ∃ z : ByteArray, z = ⟨(BitMath.sealOf (l.take (l.length - 4))).toArray⟩ := ⟨_, rfl⟩
    rw [← hz] at hqt
    have HSE' : Hid (∀ w0, Calls Tryz.prog 75 #[.string b] w0 fun e w' => e = .returned (.string z) ∧ Below w0.heap.size w0 w') := by rw [hz]; exact HSE.out
    have hi4 : (0 : Int) ≤ (s.size : Int) - 4 := by omega
    have hi4b : (s.size : Int) - 4 ≤ (s.size : Int) := by omega
    clear hse hbl hqd hz HSE
    go_enter Tryz.func56, Tryz.ntmps56
    go_wp2_with fail
    rw [← hb]
    clear hb
    refine Calls.mono (HSE'.out _) ?_
    rintro e w1 ⟨rfl, hb1⟩
    have HL5 : Hid (¬ l.length < 5) := by have := HLEN.out; show ¬ l.length < 5; omega
    by_cases hseal : BitMath.sealOf (l.take (l.length - 4)) = l
    · rw [decide_eq_true hseal] at hqt
      have HSEAL := (show Hid _ from hseal)
      obtain ⟨D, hD⟩ : ∃ D, D = BitMath.bitsOfBytes (l.take (l.length - 4)) := ⟨_, rfl⟩
      have hparse : ∀ n T B, n ≤ 120 → (∀ i, i < n → ptOk T i = true) → (∀ i, i < n → B i < 18446744073709551616) → l = chunkBytes T B n → l.take (l.length - 4) = BitMath.pack (rowBits T B n) ∧ BitMath.valB (D.take 8) = n ∧ readTo D n 8 [] = (0, firstTicks T n, 8 + (ticksTo T n).length) ∧ ∃ u, BitMath.maskRead (D.drop (8 + (ticksTo T n).length)) n = (0, BitMath.firstV B n, u) := by
        intro n T B hn hT hB e
        obtain ⟨p1, p2, p3, p4, p5, p6⟩ := chunk_parse l n T B hn hT hB e
        rw [← hD] at p4 p5 p6
        exact ⟨p2, p4, p5, p6⟩
      have HPARSE := (show Hid _ from hparse)
      have hun := unpack_any b w1 (by omega)
      rw [HBL.out, ← hD] at hun
      have HUN := (show Hid _ from hun)
      have hDl : D.length = 8 * b.size := by
        rw [hD, BitMath.length_bitsOfBytes, ← HBL.out]
        have : b.data.toList.length = b.size := Array.length_toList
        omega
      have hcut : (BitMath.txt D).extract 0 8 = BitMath.txt (D.take 8) := by rw [BitMath.txt_extract]; rfl
      have hval := fun w0 => value_of ((BitMath.txt D).extract 0 8) (D.take 8) w0 hcut (by simp; omega)
      have hvl := BitMath.valB_lt (D.take 8)
      rw [show (D.take 8).length = 8 by simp; omega] at hvl
      obtain ⟨y, hy⟩ : ∃ y, y = BitMath.valB (D.take 8) := ⟨_, rfl⟩
      rw [← hy] at hval hvl
      have HVAL := (show Hid _ from hval)
      have HY := (show Hid _ from hy.symm)
      have hyI : (y : Int) ≤ 255 := by omega
      have hyw : wrap64 (y : Int) = (y : Int) := by unfold wrap64; omega
      have hts : (BitMath.txt D).size = D.length := BitMath.txt_size D
      have h8 : (8 : Int) ≤ ((BitMath.txt D).size : Int) := by omega
      have HB1 := (show Hid _ from hb1)
      have HDD := (show Hid _ from hD)
      clear hparse hun hcut hval hvl hy hseal hb1 HSE' hD
      go_wp2_with fail
      refine Calls.mono HUN.out ?_
      rintro e w2 ⟨rfl, hb2⟩
      have HB2 := (show Hid _ from HB1.out.trans (hb2.mono HB1.out.size))
      clear hb2 HUN HB1
      go_wp2_with fail
      refine Calls.mono (HVAL.out _) ?_
      rintro e w3 ⟨rfl, hw3⟩
      have hw3' := hw3.symm
      subst hw3'
      by_cases hbig : 120 < y
      · have HNOT : Hid (¬ IsChunk l) := by
          show ¬ IsChunk l
          rintro ⟨n, T, B, hn, hT, hB, e⟩
          have := (HPARSE.out n T B hn hT hB e).2.1
          rw [HY.out] at this
          omega
        have hbI : (120 : Int) < (y : Int) := by omega
        have hbd : decide ((120 : Int) < (y : Int)) = true := by simp; omega
        go_wp2
        go_ret2
        exact ⟨HB2.out, .inr ⟨1, HNOT.out, by rw [if_neg HL5.out, if_pos HSEAL.out], rfl⟩⟩
      · have hbd : decide ((120 : Int) < (y : Int)) = false := by simp; omega
        have hrt : Calls Tryz.prog 81 #[.string (BitMath.txt D), .int .i64 8, .int .i64 (y : Int)] w2 fun e w' => TicksOut w2 w' D 8 y e := read_ticks D 8 y w2 (by omega) (by omega) (by omega)
        have HRT := (show Hid _ from hrt)
        clear hrt
        go_wp2_with fail
        refine Calls.mono HRT.out ?_
        rintro e w4 ⟨hb4, ⟨out, a, vt, hr4, rfl, ho4, ha8, haD, hown4, htick4⟩ | ⟨c4, hc4, hr4, rfl⟩⟩
        · have HB4 := (show Hid _ from HB2.out.trans (hb4.mono HB2.out.size))
          have hrm : Calls Tryz.prog 82 #[.string (BitMath.txt D), .int .i64 (a : Int), .int .i64 (y : Int)] w4 fun e w' => ReadOut w4 w' (D.drop a) y e := readMask_any D a y w4 (by omega) (by omega) (by omega)
          have HRM := (show Hid _ from hrm)
          have haI : 8 + ((a : Int) - 8) = (a : Int) := by omega
          have haw : IntKind.i64.wrap ((a : Int) - 8) = (a : Int) - 8 := IntWalk.i64_in _ (by omega)
          have HOWN4 : Hid (w4.ownsRow w2.heap.size 3 1 vt y (intList out)) := hown4
          have HT4 := (show Hid _ from htick4)
          have HR4 := (show Hid _ from hr4)
          have HO4 := (show Hid _ from ho4)
          have ha1 : (a : Int) ≤ 100000 := by omega
          have ha2 : (8 : Int) ≤ (a : Int) := by omega
          clear hrm hb4 hown4 htick4 hr4 ho4 HRT
          go_wp2_with fail
          refine Calls.mono HRM.out ?_
          rintro e w5 ⟨hb5, ⟨vs, u5, vu, hr5, rfl, ho5, huD, hown5, hvs5, hmask5⟩ | ⟨c5, hc5, hr5, rfl⟩⟩
          · have HB5 := (show Hid _ from HB4.out.trans (hb5.mono HB4.out.size))
            have HOT : Hid (w5.ownsRow w2.heap.size 3 1 vt y (intList out)) := own_kept HOWN4.out hb5
            have HOU : Hid (w5.ownsRow w4.heap.size 69 1 vu y (u64Cells vs)) := hown5
            have HR5 := (show Hid _ from hr5)
            have HO5 := (show Hid _ from ho5)
            have HVS := (show Hid _ from hvs5)
            clear hb5 hr5 ho5 hown5 hvs5 hmask5 HOWN4 huD HRM haI haw
            go_wp2_with fail
            go_loopw [12, 13] (fun o i wr => ∃ (k : Nat) (v : Value), k ≤ y ∧ i = .int .i64 k ∧ v = o ∧ wr.ownsRow w5.heap.size 71 2 v k (ptCells (fun i => out.getD i 0) (BitMath.vf vs) k) ∧ Below w5.heap.size w5 wr) (fun _ i _ => y - (intOf i).toNat)
            case atStart => exact ⟨0, _, Nat.zero_le _, rfl, rfl, ⟨rfl, .inl ⟨rfl, rfl⟩⟩, Below.refl _ _⟩
            case round =>
              obtain ⟨k, v, hk, rfl, rfl, hown, hbr⟩ := hrel
              have HOWN : Hid (wr.ownsRow w5.heap.size 71 2 v k (ptCells (fun i => out.getD i 0) (BitMath.vf vs) k)) := hown
              have HBR := (show Hid _ from hbr)
              have hwr := hbr.size
              clear hown hbr
              by_cases hky : k < y
              · obtain ⟨gt, ct, rfl, _, hct, hcellt⟩ := own_list HOT.out (by omega) HO4.out
                obtain ⟨gu, cu, rfl, hgul, _, hcu, hUU⟩ := own_u64s HOU.out HO5.out HVS.out (by omega)
                have hct1 := hcellt k hky
                obtain ⟨gb, go, hgo, hcs⟩ := hUU.at k hky
                cases hgo
                obtain ⟨hcu1, hyl⟩ := hcs k hky
                rw [Nat.zero_add] at hcu1
                have hgtl : gt < w5.heap.size := World.block_lt_of_cell? w5 ⟨gt, _, none⟩ hct1
                have hst : ptCells (fun i => out.getD i 0) (BitMath.vf vs) (k + 1) = ptCells (fun i => out.getD i 0) (BitMath.vf vs) k ++ [.int .i64 (out.getD k 0), .int .u64 ((BitMath.vf vs k : Nat) : Int)] := rfl
                obtain ⟨t, ht⟩ : ∃ t, out.getD k 0 = t := ⟨_, rfl⟩
                obtain ⟨x, hx⟩ : ∃ x, BitMath.vf vs k = x := ⟨_, rfl⟩
                rw [ht] at hct1 hst
                rw [hx] at hcu1 hst
                have hc1 : wr.cell? ⟨gt, k, none⟩ = some (.int .i64 t) := (HBR.out.cell (p := ⟨gt, k, none⟩) hgtl).trans hct1
                have hc2 : wr.cell? ⟨gu, k, none⟩ = some (.int .u64 (x : Int)) := (HBR.out.cell (p := ⟨gu, k, none⟩) hgul).trans hcu1
                have HST := (show Hid _ from hst)
                have hk0 : (0 : Int) ≤ (k : Int) := by omega
                have hk1 : (k : Int) < (y : Int) := by omega
                have hctI : (y : Int) ≤ (ct : Int) := by omega
                have hcuI : (y : Int) ≤ (cu : Int) := by omega
                obtain ⟨i0, hi, hz0, hz1, hz2⟩ := info_parts Tryz.infoPoint
                have HOWNA : Hid ((wr.alloc (.cells #[.int .i64 t, .int .u64 (x : Int)] 71)).ownsRow w5.heap.size 71 2 v k (ptCells (fun i => out.getD i 0) (BitMath.vf vs) k)) := HOWN.out.alloc _
                have hnews : ∀ j u, ([.int .i64 t, .int .u64 (x : Int)] : List Value)[j]? = some u → (wr.alloc (.cells #[.int .i64 t, .int .u64 (x : Int)] 71)).cell? ((⟨wr.heap.size, 0, none⟩ : Addr).add j) = some u := World.news_of_block (heap_alloc_new wr _)
                have HNEWS := (show Hid _ from hnews)
                have h1c : ∀ u ∈ ([.int .i64 t, .int .u64 (x : Int)] : List Value), u.oneCell' = true := by
                  intro u hu
                  simp at hu
                  rcases hu with rfl | rfl <;> rfl
                have H1C := (show Hid _ from h1c)
                clear hcellt hcs hUU hct1 hcu1 hst ht hx hnews h1c
                go_wp2_with fail
                go_region_held3 (fun w' => w'.cell? ⟨gt, k, none⟩ = some (.int .i64 t) ∧ w'.cell? ⟨gu, k, none⟩ = some (.int .u64 (x : Int))) (first | go_keep | trivial) ((refine step_append_lies _ (by rfl) _ _ 48 (by rfl) w5.heap.size 71 i0 (.agg #[.int .i64 0, .int .u64 0]) 2 16 Tryz.underlying48 hi hz0 hz1 hz2 (by rfl) (by decide) _ _ _ (by rfl) (by exact HOWNA.out) ⟨wr.heap.size, 0, none⟩ 1 1 [.int .i64 t, .int .u64 (x : Int)] (by rfl) (by rfl) (by exact HNEWS.out) H1C.out (by omega) (by unfold maxLen; omega) (by omega) (by simp; omega) (wr.heap.size + 1) (by simp) ?_; intro g1 cap1 w7 hown7 hgrow hat hlt7; have hk1t := cell_grown (by rfl) HOWN.out hgrow hgtl hc1; have hk1u := cell_grown (by rfl) HOWN.out hgrow hgul hc2))
                have hb7 := below_grown (by rfl) (by rfl) (by rfl) (by rfl) HBR.out HOWN.out hgrow
                rw [← HST.out] at hown7
                have HOWN7 : Hid (w7.ownsRow w5.heap.size 71 2 (.slice (some ⟨g1, 0, none⟩) (k + 1) cap1) (k + 1) (ptCells (fun i => out.getD i 0) (BitMath.vf vs) (k + 1))) := hown7
                have HB7 := (show Hid _ from hb7)
                clear hown7 hgrow hat hlt7 hb7
                go_wp2
                go_roundw
                case rel => exact ⟨k + 1, _, by omega, by go_num, rfl, HOWN7.out, HB7.out⟩
                case measure => simp [intOf] <;> omega
              · have hke : k = y := by omega
                subst hke
                obtain ⟨T, hT0⟩ : ∃ T : Nat → Int, T = fun i => out.getD i 0 := ⟨_, rfl⟩
                obtain ⟨B, hB0⟩ : ∃ B, B = BitMath.vf vs := ⟨_, rfl⟩
                have hownF := HOWN.out
                rw [← hT0, ← hB0] at hownF
                have hTk : ∀ i, i < k → isTick (T i) = true := fun i hi => by rw [hT0]; exact HT4.out _ (getD_in out i (by rw [HO4.out]; exact hi))
                have hBk : ∀ i, i < k → B i < 18446744073709551616 := fun i hi => by
                  rw [hB0]
                  obtain ⟨_, _, _, _, _, _, hUU⟩ := own_u64s HOU.out HO5.out HVS.out (by omega)
                  exact hUU.lt i hi
                obtain ⟨av, cv, hvv, hPts⟩ := pts_own hownF (fun i hi => by have := (isTick_iff _).1 (hTk i hi); omega) hBk
                subst hvv
                have hsame : ∀ n T' B', n ≤ 120 → (∀ i, i < n → ptOk T' i = true) → (∀ i, i < n → B' i < 18446744073709551616) → l = chunkBytes T' B' n → n = k ∧ (∀ i, i < k → T i = T' i) ∧ (∀ i, i < k → B i = B' i) ∧ l.take (l.length - 4) = BitMath.pack (rowBits T' B' k) := by
                  intro n T' B' hn hT' hB' e
                  obtain ⟨p1, p2, p3, u, p4⟩ := HPARSE.out n T' B' hn hT' hB' e
                  have hn' : n = k := by rw [← p2]; exact HY.out
                  subst hn'
                  rw [HR4.out] at p3
                  have ha' : a = 8 + (ticksTo T' n).length := congrArg (fun q => q.2.2) p3
                  have ho' : out = firstTicks T' n := congrArg (fun q => q.2.1) p3
                  rw [← ha', HR5.out] at p4
                  have hv' : vs = BitMath.firstV B' n := congrArg (fun q => q.2.1) p4
                  refine ⟨rfl, fun i hi => ?_, fun i hi => ?_, p1⟩
                  · rw [hT0, ho']
                    exact getD_firstTicks T' n i hi
                  · rw [hB0, hv']
                    exact BitMath.vf_firstV B' n i hi
                have HSAME := (show Hid _ from hsame)
                obtain ⟨m, hm, hok, hbad⟩ := first_bad (ptOk T) k
                obtain ⟨C, hC⟩ : ∃ C : Int, C = if m < k then (if isTick (T m) = true then 8 else 2) else 0 := ⟨_, rfl⟩
                obtain ⟨A, hA⟩ : ∃ A : Int, A = if m < k then (m : Int) else -1 := ⟨_, rfl⟩
                have hpf := points_fault wr av k cv T B hPts (by omega) m hm hok hbad C A hC hA
                have HPF := (show Hid _ from hpf)
                have HP : Hid (Pts wr av k T B) := hPts
                have HOWNF : Hid (wr.ownsRow w5.heap.size 71 2 (.slice av k cv) k (ptCells T B k)) := hownF
                have HBWR := (show Hid _ from HB5.out.trans (HBR.out.mono HB5.out.size))
                have HC := (show Hid _ from hC)
                have HOK := (show Hid _ from hok)
                have HBAD := (show Hid _ from hbad)
                have HTK := (show Hid _ from hTk)
                have HBK := (show Hid _ from hBk)
                have hkk : (k : Int) ≤ (k : Int) := Int.le_refl _
                clear hpf hPts hownF hsame hok hbad hC hA hTk hBk hT0 hB0
                go_wp2_with fail
                refine Calls.mono HPF.out ?_
                rintro e w8 ⟨rfl, hb8⟩
                by_cases hmk : m < k
                · have hCp : (0 : Int) < C := by
                    rw [HC.out, if_pos hmk]
                    split <;> omega
                  have HNOT : Hid (¬ IsChunk l) := by
                    show ¬ IsChunk l
                    rintro ⟨n, T', B', hn, hT', hB', e⟩
                    obtain ⟨q1, q2, _, _⟩ := HSAME.out n T' B' hn hT' hB' e
                    subst q1
                    have h1 := HBAD.out hmk
                    rw [ptOk_congr T T' n q2 m hmk, hT' m hmk] at h1
                    cases h1
                  have hba : Below w8.heap.size w8 (w8.alloc (.cells #[.int .i64 C, .int .i64 A] 32)) := (Below.refl _ _).alloc (Nat.le_refl _) _
                  have hbw8 := HBWR.out.trans (hb8.mono HBWR.out.size)
                  have HBF := (show Hid _ from hbw8.trans (hba.mono hbw8.size))
                  clear hba hbw8 hb8
                  go_wp2
                  go_ret2
                  exact ⟨HBF.out, .inr ⟨1, HNOT.out, by rw [if_neg HL5.out, if_pos HSEAL.out], rfl⟩⟩
                · have hC0 : C = 0 := by rw [HC.out, if_neg hmk]
                  subst hC0
                  have hmke : m = k := by omega
                  subst hmke
                  obtain ⟨w9, hw9⟩ : ∃ w9, w9 = w8.alloc (.cells #[.int .i64 0, .int .i64 A] 32) := ⟨_, rfl⟩
                  have hba : Below w8.heap.size w8 w9 := by rw [hw9]; exact (Below.refl _ _).alloc (Nat.le_refl _) _
                  have hb9 : Below wr.heap.size wr w9 := hb8.trans (hba.mono hb8.size)
                  have hro := rowOf_any w9 av m cv T B (HP.out.below hb9) (by omega) (fun i hi => ptOk_tick T i (HOK.out i hi))
                  have HRO := (show Hid _ from hro)
                  have hrl := length_rowBits T B m
                  have hpk := fun w0 => pack_any (BitMath.txt (rowBits T B m)) (rowBits T B m) w0 rfl (by omega)
                  have hqp := str_beq ⟨(BitMath.pack (rowBits T B m)).toArray⟩ b
                  have hqd : (⟨(BitMath.pack (rowBits T B m)).toArray⟩ : ByteArray).data.toList = BitMath.pack (rowBits T B m) := by simp
                  rw [hqd, HBL.out] at hqp
                  obtain ⟨pz, hpz⟩ : ∃ pz : ByteArray, pz = ⟨(BitMath.pack (rowBits T B m)).toArray⟩ := ⟨_, rfl⟩
                  rw [← hpz] at hqp
                  have HPK : Hid (∀ w0, Calls Tryz.prog 76 #[.string (BitMath.txt (rowBits T B m))] w0 fun e w' => e = .returned (.string pz) ∧ Below w0.heap.size w0 w') := by rw [hpz]; exact hpk
                  clear hpz
                  have HB9 := (show Hid _ from hb9)
                  have H9 : Hid (∀ (w' : World), w' = w8.alloc (.cells #[.int .i64 0, .int .i64 A] 32) → w' = w9) := fun w' h => h.trans hw9.symm
                  have z0 : w9.cell? ⟨w8.heap.size, 0, none⟩ = some (.int .i64 0) := by rw [hw9]; simp
                  clear hro hpk hba hb8 hb9 hw9 hqd HPF
                  by_cases heq : BitMath.pack (rowBits T B m) = l.take (l.length - 4)
                  · rw [decide_eq_true heq] at hqp
                    have HCH : Hid (l = chunkBytes T B m) := by
                      show l = chunkBytes T B m
                      rw [chunkBytes, heq, HSEAL.out]
                    clear heq
                    go_wp2_with fail
                    have hww := H9.out _ rfl
                    rw [hww]
                    clear hww
                    refine Calls.mono HRO.out ?_
                    rintro e w10 ⟨rfl, hb10⟩
                    have HB10 := (show Hid _ from HB9.out.trans (hb10.mono HB9.out.size))
                    clear hb10 z0
                    go_wp2_with fail
                    refine Calls.mono (HPK.out _) ?_
                    rintro e w11 ⟨rfl, hb11⟩
                    have hb11r : Below wr.heap.size wr w11 := HB10.out.trans (hb11.mono HB10.out.size)
                    have HBF := (show Hid _ from HBWR.out.trans (hb11r.mono HBWR.out.size))
                    have HOWN11 : Hid (w11.ownsRow w.heap.size 71 2 (.slice av m cv) m (ptCells T B m)) := own_base (own_kept HOWNF.out hb11r) HB5.out.size
                    clear hb11 hb11r
                    go_wp2
                    go_ret2
                    exact ⟨HBF.out, .inl ⟨m, T, B, _, by omega, HOK.out, HBK.out, HCH.out, HOWN11.out, rfl⟩⟩
                  · rw [decide_eq_false heq] at hqp
                    have HNOT : Hid (¬ IsChunk l) := by
                      show ¬ IsChunk l
                      rintro ⟨n, T', B', hn, hT', hB', e⟩
                      obtain ⟨q1, q2, q3, q4⟩ := HSAME.out n T' B' hn hT' hB' e
                      subst q1
                      rw [← rowBits_congr T T' B B' n q2 q3] at q4
                      exact heq q4.symm
                    clear heq
                    go_wp2_with fail
                    have hww := H9.out _ rfl
                    rw [hww]
                    clear hww
                    refine Calls.mono HRO.out ?_
                    rintro e w10 ⟨rfl, hb10⟩
                    have HB10 := (show Hid _ from HB9.out.trans (hb10.mono HB9.out.size))
                    clear hb10 z0
                    go_wp2_with fail
                    refine Calls.mono (HPK.out _) ?_
                    rintro e w11 ⟨rfl, hb11⟩
                    have hb11r : Below wr.heap.size wr w11 := HB10.out.trans (hb11.mono HB10.out.size)
                    have HBF := (show Hid _ from HBWR.out.trans (hb11r.mono HBWR.out.size))
                    clear hb11 hb11r
                    go_wp2
                    go_ret2
                    exact ⟨HBF.out, .inr ⟨1, HNOT.out, by rw [if_neg HL5.out, if_pos HSEAL.out], rfl⟩⟩
          · have HNOT : Hid (¬ IsChunk l) := by
              show ¬ IsChunk l
              rintro ⟨n, T, B, hn, hT, hB, e⟩
              obtain ⟨_, p2, p3, u, p4⟩ := HPARSE.out n T B hn hT hB e
              have hn' : n = y := by rw [← p2]; exact HY.out
              subst hn'
              rw [HR4.out] at p3
              have ha' : a = 8 + (ticksTo T n).length := congrArg (fun q => q.2.2) p3
              rw [← ha', hr5] at p4
              exact hc5 (congrArg Prod.fst p4)
            have hcI : (0 : Int) < (c5 : Int) := by omega
            have HB5 := (show Hid _ from HB4.out.trans (hb5.mono HB4.out.size))
            clear hb5 hr5 HRM
            go_wp2
            go_ret2
            exact ⟨HB5.out, .inr ⟨1, HNOT.out, by rw [if_neg HL5.out, if_pos HSEAL.out], rfl⟩⟩
        · have HNOT : Hid (¬ IsChunk l) := by
            show ¬ IsChunk l
            rintro ⟨n, T, B, hn, hT, hB, e⟩
            have hp := HPARSE.out n T B hn hT hB e
            have hn' : n = y := by rw [← hp.2.1]; exact HY.out
            subst hn'
            rw [hr4] at hp
            have := congrArg Prod.fst hp.2.2.1
            exact hc4 this
          have hcI : (0 : Int) < (c4 : Int) := by omega
          have HB4 := (show Hid _ from HB2.out.trans (hb4.mono HB2.out.size))
          clear hb4 hr4 HRT
          go_wp2
          go_ret2
          exact ⟨HB4.out, .inr ⟨1, HNOT.out, by rw [if_neg HL5.out, if_pos HSEAL.out], rfl⟩⟩
    · rw [decide_eq_false hseal] at hqt
      have HSEAL : Hid (¬ BitMath.sealOf (l.take (l.length - 4)) = l) := hseal
      have HNOT : Hid (¬ IsChunk l) := by
        show ¬ IsChunk l
        rintro ⟨n, T, B, hn, hT, hB, e⟩
        exact HSEAL.out (chunk_parse l n T B hn hT hB e).2.2.1
      clear hseal
      go_wp2
      go_ret2
      exact ⟨hb1, .inr ⟨9, HNOT.out, by rw [if_neg HL5.out, if_neg HSEAL.out], rfl⟩⟩
end Go.Proofs.YtijgolnbbaljlaaGreatDoor
/- Numbers read first, then made ticks: what package wave does, against the document's way, tick by tick. -/
namespace Go.Proofs.YtijgolnbbaljlaaGreatDoor

/-- k numbers: an error's number, the numbers, how many bits. -/
def readNums (D : List Bool) : Nat → Nat × List Int × Nat
  | 0 => (0, [], 0)
  | k + 1 =>
    if (readNums D k).1 ≠ 0 then readNums D k
    else if (BitMath.unwave (D.drop (readNums D k).2.2)).1 ≠ 0 then ((BitMath.unwave (D.drop (readNums D k).2.2)).1, [], 0)
    else (0, (readNums D k).2.1 ++ [(BitMath.unwave (D.drop (readNums D k).2.2)).2.1], (readNums D k).2.2 + (BitMath.unwave (D.drop (readNums D k).2.2)).2.2)
theorem readNums_bad (D : List Bool) (k u : Nat) (ns : List Int) (c : Nat) (h : readNums D k = (0, ns, u)) (hs : (BitMath.unwave (D.drop u)).1 = c) (hc : c ≠ 0) : ∀ n, k < n → (readNums D n).1 ≠ 0
  | 0, hn => absurd hn (by omega)
  | n + 1, hn => by
    rcases Nat.lt_or_ge k n with h1 | h1
    · have ih := readNums_bad D k u ns c h hs hc n h1
      rw [readNums, if_pos ih]
      exact ih
    · have : k = n := by omega
      subst this
      rw [readNums, h, if_neg (by simp), if_pos (by simp only; rw [hs]; exact hc)]
      simp only
      rw [hs]
      exact hc
theorem readNums_good (D : List Bool) (k u b : Nat) (ns : List Int) (x : Int) (h : readNums D k = (0, ns, u)) (hs : BitMath.unwave (D.drop u) = (0, x, b)) : readNums D (k + 1) = (0, ns ++ [x], u + b) := by
  rw [readNums, h, if_neg (by simp)]
  simp only
  rw [hs, if_neg (by simp)]

/-- Numbers as ticks, behind those that are there; none where one is out of bounds. -/
def ticksBy : List Int → List Int → Option (List Int)
  | out, [] => some out
  | out, x :: r => if isTick (nextTick out x) = true then ticksBy (out ++ [nextTick out x]) r else none
theorem ticksBy_snoc : ∀ (l out : List Int) (x : Int), ticksBy out (l ++ [x]) = (ticksBy out l).bind fun o => if isTick (nextTick o x) = true then some (o ++ [nextTick o x]) else none
  | [], out, x => by
    simp only [List.nil_append, ticksBy, Option.bind_some]
  | y :: r, out, x => by
    simp only [List.cons_append, ticksBy]
    split
    · exact ticksBy_snoc r _ x
    · rfl

def AllTicks (l : List Int) : Prop := ∀ t, t ∈ l → -1099511627776 ≤ t ∧ t ≤ 1099511627776
theorem AllTicks.at {l : List Int} (h : AllTicks l) (i : Nat) (hi : i < l.length) : -1099511627776 ≤ l.getD i 0 ∧ l.getD i 0 ≤ 1099511627776 := by
  rw [List.getD_eq_getElem?_getD, List.getElem?_eq_getElem hi]
  exact h _ (List.getElem_mem hi)
theorem AllTicks.snoc {l : List Int} (h : AllTicks l) (x : Int) (hx : isTick x = true) : AllTicks (l ++ [x]) := by
  intro t ht
  rcases List.mem_append.1 ht with h1 | h1
  · exact h t h1
  · simp at h1
    rw [h1]
    exact (isTick_iff x).1 hx
/-- What is beyond all ticks makes none. -/
theorem far_none (out : List Int) (t : Int) (h : AllTicks out) (h0 : 0 < out.length) (hf : far t = true) : isTick (nextTick out t) = false := by
  have h1 := h.at (out.length - 1) (by omega)
  have hb : ∃ d : Int, nextTick out t = t + out.getD (out.length - 1) 0 + d ∧ -2199023255552 ≤ d ∧ d ≤ 2199023255552 := by
    unfold nextTick
    rw [if_pos h0]
    by_cases h2 : 1 < out.length
    · have h3 := h.at (out.length - 2) (by omega)
      rw [if_pos h2]
      exact ⟨_, rfl, by omega, by omega⟩
    · rw [if_neg h2]
      exact ⟨0, rfl, by omega, by omega⟩
  obtain ⟨d, e, hd⟩ := hb
  unfold far at hf
  simp at hf
  unfold isTick
  rw [e]
  generalize out.getD (out.length - 1) 0 = z at *
  simp
  omega

theorem good_or_bad (D : List Bool) : ∀ n, (∃ ns u ts, readNums D n = (0, ns, u) ∧ ticksBy [] ns = some ts ∧ AllTicks ts ∧ ts.length = n ∧ ns.length = n ∧ ∀ f, readTo D (f + n) 0 [] = readTo D f u ts) ∨
    ((∀ f, (readTo D (f + n) 0 []).1 ≠ 0) ∧ ((readNums D n).1 ≠ 0 ∨ ∃ ns u, readNums D n = (0, ns, u) ∧ ticksBy [] ns = none))
  | 0 => .inl ⟨[], 0, [], rfl, rfl, fun t ht => absurd ht (by simp), rfl, rfl, fun _ => rfl⟩
  | n + 1 => by
    rcases good_or_bad D n with ⟨ns, u, ts, hn, ht, hall, hl, hln, hr⟩ | ⟨hbad, hwhy⟩
    · have hr1 : ∀ f, readTo D (f + (n + 1)) 0 [] = readTo D (f + 1) u ts := fun f => by rw [show f + (n + 1) = (f + 1) + n by omega]; exact hr (f + 1)
      obtain ⟨c, x, b, hp⟩ : ∃ c x b, BitMath.unwave (D.drop u) = (c, x, b) := ⟨_, _, _, rfl⟩
      by_cases hc : c = 0
      · subst hc
        have hng := readNums_good D n u b ns x hn hp
        have hts : ticksBy [] (ns ++ [x]) = if isTick (nextTick ts x) = true then some (ts ++ [nextTick ts x]) else none := by rw [ticksBy_snoc, ht]; rfl
        by_cases hi : isTick (nextTick ts x) = true
        · have hnf : ¬ (decide (0 < ts.length) && far x) = true := by
            intro h
            simp at h
            have := far_none ts x hall (by omega) h.2
            rw [hi] at this
            cases this
          rw [if_pos hi] at hts
          refine .inl ⟨_, _, _, hng, hts, hall.snoc _ hi, by simp [hl], by simp [hln], fun f => ?_⟩
          rw [hr1 f, readTo_succ, hp]
          simp only
          rw [if_neg (by omega), if_neg hnf, if_pos hi]
        · rw [if_neg hi] at hts
          refine .inr ⟨fun f => ?_, .inr ⟨_, _, hng, hts⟩⟩
          rw [hr1 f, readTo_succ, hp]
          simp only
          rw [if_neg (by omega)]
          rw [if_neg hi]
          split <;> simp
      · refine .inr ⟨fun f => ?_, .inl (readNums_bad D n u ns c hn (by rw [hp]) hc (n + 1) (by omega))⟩
        rw [hr1 f, readTo_succ, hp]
        simp only
        rw [if_pos (by omega)]
        exact hc
    · refine .inr ⟨fun f => by rw [show f + (n + 1) = (f + 1) + n by omega]; exact hbad (f + 1), ?_⟩
      rcases hwhy with h | ⟨ns, u, hn, ht⟩
      · refine .inl ?_
        rw [readNums, if_pos h]
        exact h
      · obtain ⟨c, x, b, hp⟩ : ∃ c x b, BitMath.unwave (D.drop u) = (c, x, b) := ⟨_, _, _, rfl⟩
        by_cases hc : c = 0
        · subst hc
          exact .inr ⟨_, _, readNums_good D n u b ns x hn hp, by rw [ticksBy_snoc, ht]; rfl⟩
        · exact .inl (readNums_bad D n u ns c hn (by rw [hp]) hc (n + 1) (by omega))
end Go.Proofs.YtijgolnbbaljlaaGreatDoor
/- A chunk's parts as packages wave and mask read them: numbers first, then ticks, then values. Mathematics. -/
namespace Go.Proofs.YtijgolnbbaljlaaGreatDoor

theorem chunk_read (l : List UInt8) (n : Nat) (T : Nat → Int) (B : Nat → Nat) (hn : n ≤ 120) (hT : ∀ i, i < n → ptOk T i = true) (hB : ∀ i, i < n → B i < 18446744073709551616) (hl : l = chunkBytes T B n) :
    ∃ ns u, readNums ((BitMath.bitsOfBytes (l.take (l.length - 4))).drop 8) n = (0, ns, (ticksTo T n).length) ∧ ticksBy [] ns = some (firstTicks T n) ∧
      BitMath.maskRead (((BitMath.bitsOfBytes (l.take (l.length - 4))).drop 8).drop (ticksTo T n).length) n = (0, BitMath.firstV B n, u) := by
  obtain ⟨_, hb, _, _, _, u, hu⟩ := chunk_parse l n T B hn hT hB hl
  obtain ⟨Z, hZ⟩ := bits_bytes_pack (rowBits T B n)
  have hD : (BitMath.bitsOfBytes (l.take (l.length - 4))).drop 8 = ticksTo T n ++ (BitMath.maskTo B n ++ Z) := by
    rw [hb, hZ, rowBits]
    simp only [List.append_assoc]
    exact List.drop_left' (BitMath.length_bitsOf _ _)
  have hr := readTo_ticks T n [] (BitMath.maskTo B n ++ Z) (fun i hi => ptOk_tick T i (hT i hi)) n 0 (by omega)
  simp only [List.nil_append, List.length_nil, ticksTo, Nat.zero_add] at hr
  rw [← hD] at hr
  rw [← List.drop_drop] at hu
  rcases good_or_bad ((BitMath.bitsOfBytes (l.take (l.length - 4))).drop 8) n with ⟨ns, u1, ts, h1, h2, _, _, _, h3⟩ | ⟨h1, _⟩
  · have h4 := h3 0
    rw [Nat.zero_add] at h4
    have h5 : readTo ((BitMath.bitsOfBytes (l.take (l.length - 4))).drop 8) 0 u1 ts = (0, ts, u1) := rfl
    have h6 : (0, firstTicks T n, (ticksTo T n).length) = (0, ts, u1) := hr.symm.trans (h4.trans h5)
    injection h6 with _ h7
    injection h7 with h8 h9
    rw [← h9] at h1
    rw [← h8] at h2
    exact ⟨ns, u, h1, h2, hu⟩
  · have h4 := h1 0
    rw [Nat.zero_add] at h4
    exact absurd (congrArg Prod.fst hr) h4

/-- What is read of a chunk is what was put. -/
theorem chunk_is (l : List UInt8) (n : Nat) (T : Nat → Int) (B : Nat → Nat) (hn : n ≤ 120) (hT : ∀ i, i < n → ptOk T i = true) (hB : ∀ i, i < n → B i < 18446744073709551616) (hl : l = chunkBytes T B n)
    (ns ts : List Int) (vs : List Nat) (u u2 : Nat) (h1 : readNums ((BitMath.bitsOfBytes (l.take (l.length - 4))).drop 8) n = (0, ns, u)) (h2 : ticksBy [] ns = some ts)
    (h3 : BitMath.maskRead (((BitMath.bitsOfBytes (l.take (l.length - 4))).drop 8).drop u) n = (0, vs, u2)) :
    ts = firstTicks T n ∧ vs = BitMath.firstV B n := by
  obtain ⟨ns', u', k1, k2, k3⟩ := chunk_read l n T B hn hT hB hl
  have e1 := h1.symm.trans k1
  injection e1 with _ e2
  injection e2 with e3 e4
  subst e3 e4
  have e5 := h2.symm.trans k2
  injection e5 with e6
  have e7 := h3.symm.trans k3
  injection e7 with _ e8
  injection e8 with e9 _
  exact ⟨e6, e9⟩
theorem chunk_same (T U : Nat → Int) (B C : Nat → Nat) (n m : Nat) (hn : n ≤ 120) (hm : m ≤ 120) (hT : ∀ i, i < n → ptOk T i = true) (hU : ∀ i, i < m → ptOk U i = true) (hB : ∀ i, i < n → B i < 18446744073709551616) (hC : ∀ i, i < m → C i < 18446744073709551616) (h : chunkBytes T B n = chunkBytes U C m) :
    n = m ∧ (∀ i, i < n → T i = U i) ∧ ∀ i, i < n → B i = C i := by
  obtain ⟨_, _, _, a4, _⟩ := chunk_parse _ n T B hn hT hB rfl
  obtain ⟨_, _, _, b4, _⟩ := chunk_parse _ m U C hm hU hC rfl
  rw [h] at a4
  have hnm : n = m := a4.symm.trans b4
  subst hnm
  obtain ⟨ns, u, k1, k2, k3⟩ := chunk_read _ n T B hn hT hB rfl
  rw [h] at k1 k3
  obtain ⟨e1, e2⟩ := chunk_is _ n U C hm hU hC rfl ns _ _ _ _ k1 k2 k3
  refine ⟨rfl, fun i hi => ?_, fun i hi => ?_⟩
  · have := congrArg (fun z => z.getD i 0) e1
    simp only [getD_firstTicks _ _ _ hi] at this
    exact this
  · have := congrArg (fun z => BitMath.vf z i) e2
    simpa [BitMath.vf, BitMath.firstV, hi] using this
end Go.Proofs.YtijgolnbbaljlaaGreatDoor
