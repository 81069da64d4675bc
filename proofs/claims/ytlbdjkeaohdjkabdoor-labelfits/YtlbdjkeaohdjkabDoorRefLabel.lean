/- The document's fault of labels, by its contract. -/
import Derived.Test.YtlbdjkeaohdjkabDoorRefTicksGroup
import Derived.Test.YtlbdjkeaohdjkabDoorRefWord
namespace Go.Proofs.YtlbdjkeaohdjkabDoor
open Go.RowKit LabMath

theorem below_draws {b : Nat} {w w' : World} (h : Below b w w') (q : Nat) : Below b w (w'.drewN q) := h.trans ⟨rfl, rfl, rfl, Nat.le_refl _, fun _ _ => rfl⟩

/-- A slice that holds labels. -/
def Labs (w : World) (a : Option Addr) (n : Nat) (N V : Nat → ByteArray) : Prop :=
  n = 0 ∨ ∃ b o, a = some ⟨b, o, none⟩ ∧ ∀ k, k < n → w.cell? ⟨b, o + k * 2, none⟩ = some (.string (N k)) ∧ w.cell? ⟨b, o + k * 2 + 1, none⟩ = some (.string (V k))
theorem Labs.at {w : World} {a : Option Addr} {n : Nat} {N V : Nat → ByteArray} (h : Labs w a n N V) (k : Nat) (hk : k < n) :
    ∃ b o, a = some ⟨b, o, none⟩ ∧ ∀ k, k < n → w.cell? ⟨b, o + k * 2, none⟩ = some (.string (N k)) ∧ w.cell? ⟨b, o + k * 2 + 1, none⟩ = some (.string (V k)) := by
  rcases h with h | h
  · omega
  · exact h
theorem Labs.below {w w' : World} {a : Option Addr} {n : Nat} {N V : Nat → ByteArray} (h : Labs w a n N V) (hb : Below w.heap.size w w') : Labs w' a n N V := by
  rcases h with h | ⟨b, o, h, hc⟩
  · exact .inl h
  · refine .inr ⟨b, o, h, fun k hk => ?_⟩
    obtain ⟨h1, h2⟩ := hc k hk
    have hl : b < w.heap.size := World.block_lt_of_cell? w ⟨b, _, none⟩ h1
    exact ⟨(hb.cell (p := ⟨b, _, none⟩) hl).trans h1, (hb.cell (p := ⟨b, _, none⟩) hl).trans h2⟩
/-- Is a text no more than another, byte by byte? -/
def leS (a b : ByteArray) : Bool := Op.bytesLess a.toList b.toList || a.toList == b.toList
/-- Is the i-th label well behind the one ahead? -/
def labOk (N V : Nat → ByteArray) (i : Nat) : Bool := (isName (N i) && isWord (V i)) && (decide (i = 0) || !leS (N i) (N (i - 1)))

set_option maxRecDepth 1000000 in
theorem labels_none (w : World) (la : Option Addr) (c : Nat) :
    Calls Tryd.prog 16 #[.slice la 0 c] w fun e w' => e = .returned (.agg #[.int .i64 5, .int .i64 (-1)]) ∧ Below w.heap.size w w' := by
  go_enter Tryd.func16, Tryd.ntmps16
  go_wp2_with fail
  refine (bare_any 5 _).mono ?_
  rintro e w1 ⟨rfl, hb1⟩
  obtain ⟨hc, hz, hbb⟩ := one_block hb1
  have c0 := hc 0
  have c1 := hc 1
  have z0 := hz 0
  have z1 := hz 1
  simp only [List.getElem?_toArray] at c0 c1
  clear hc hz hb1
  go_wp2
  refine bodyPost_ret (v := .agg #[.int .i64 5, .int .i64 (-1)]) (by simp [results, Tryd.results16, go_sem, c0, c1]) rfl ⟨rfl, ?_⟩
  exact (hbb.setCell (Nat.le_refl _) _).setCell (Nat.le_refl _) _

set_option maxRecDepth 1000000 in
theorem labels_many (w : World) (la : Option Addr) (n c : Nat) (hn : 6 < n) (hn2 : (n : Int) ≤ 9223372036854775807) :
    Calls Tryd.prog 16 #[.slice la n c] w fun e w' => e = .returned (.agg #[.int .i64 2, .int .i64 (-1)]) ∧ Below w.heap.size w w' := by
  have hd : decide ((6 : Int) < (n : Int)) = true := by simp; omega
  have hd0 : ((n : Int) == 0) = false := by rw [beq_eq_false_iff_ne]; omega
  go_enter Tryd.func16, Tryd.ntmps16
  go_wp2_with fail
  refine (bare_any 2 _).mono ?_
  rintro e w1 ⟨rfl, hb1⟩
  obtain ⟨hc, hz, hbb⟩ := one_block hb1
  have c0 := hc 0
  have c1 := hc 1
  have z0 := hz 0
  have z1 := hz 1
  simp only [List.getElem?_toArray] at c0 c1
  clear hc hz hb1
  go_wp2
  refine bodyPost_ret (v := .agg #[.int .i64 2, .int .i64 (-1)]) (by simp [results, Tryd.results16, go_sem, c0, c1]) rfl ⟨rfl, ?_⟩
  exact (hbb.setCell (Nat.le_refl _) _).setCell (Nat.le_refl _) _

set_option maxRecDepth 1000000 in
set_option maxHeartbeats 2000000 in
/-- LabelsFault: up to m all are well; m is the first that is not, or the end. -/
theorem labels_fault (w : World) (la : Option Addr) (n c : Nat) (N V : Nat → ByteArray) (hP : Labs w la n N V) (hsz : ∀ i, i < n → (N i).size ≤ 1000000 ∧ (V i).size ≤ 1000000) (h0 : 1 ≤ n) (hn : n ≤ 6) (m : Nat) (hm : m ≤ n) (hok : ∀ i, i < m → labOk N V i = true) (hbad : m < n → labOk N V m = false) (C A : Int) (hC : C = if m < n then (if (isName (N m) && isWord (V m)) = true then 3 else 4) else 0) (hA : A = if m < n then (m : Int) else -1) :
    Calls Tryd.prog 16 #[.slice la n c] w fun e w' => e = .returned (.agg #[.int .i64 C, .int .i64 A]) ∧ Below w.heap.size w w' := by
  have HC := (show Hid _ from hC)
  have HA := (show Hid _ from hA)
  clear hC hA
  obtain ⟨W, hW⟩ : ∃ W, W = w.alloc (.cells #[.int .i64 0, .int .i64 0] 39) := ⟨_, rfl⟩
  have hb0 : Below w.heap.size w W := by rw [hW]; exact (Below.refl _ _).alloc (Nat.le_refl _) _
  have hblk : W.heap[w.heap.size]? = some (.cells #[.int .i64 0, .int .i64 0] 39 (0, 0)) := by rw [hW]; exact heap_alloc_new _ _
  have HP : Hid (Labs W la n N V) := hP.below hb0
  have HB0 := (show Hid _ from hb0)
  have HBLK := (show Hid _ from hblk)
  have HOK := (show Hid _ from hok)
  have HBAD := (show Hid _ from hbad)
  have HSZ := (show Hid _ from hsz)
  have hd : decide ((6 : Int) < (n : Int)) = false := by simp; omega
  have hd0 : ((n : Int) == 0) = false := by rw [beq_eq_false_iff_ne]; omega
  have H2 : Hid (∀ (w' : World), w' = w.alloc (.cells #[.int .i64 0, .int .i64 0] 39) → w' = W) := fun w' h => h.trans hW.symm
  have hWs : W.heap.size = w.heap.size + 1 := by rw [hW]; simp
  have HWS := (show Hid _ from hWs)
  clear hP hok hbad hb0 hblk hW hsz hWs
  go_enter Tryd.func16, Tryd.ntmps16
  go_wp2_with fail
  have hww := H2.out _ rfl
  rw [hww]
  clear hww H2
  go_loopw [3, 4, 5] (fun i _ _ wr => ∃ k q : Nat, k ≤ m ∧ i = .int .i64 k ∧ wr = W.drewN q) (fun i _ _ _ => n - (intOf i).toNat)
  case atStart => exact ⟨0, 0, Nat.zero_le _, rfl, rfl⟩
  case round =>
    obtain ⟨k, q, hk, rfl, rfl⟩ := hrel
    have hx0 : (W.drewN q).cell? ⟨w.heap.size, 0, none⟩ = some (.int .i64 0) := by show W.cell? _ = _; simp [World.cell?, HBLK.out]
    have hx1 : (W.drewN q).cell? ⟨w.heap.size, 1, none⟩ = some (.int .i64 0) := by show W.cell? _ = _; simp [World.cell?, HBLK.out]
    have hy0 : (W.drewN q).frozen? ⟨w.heap.size, 0, none⟩ = false := by show W.frozen? _ = _; simp [World.frozen?, HBLK.out]
    have hy1 : (W.drewN q).frozen? ⟨w.heap.size, 1, none⟩ = false := by show W.frozen? _ = _; simp [World.frozen?, HBLK.out]
    by_cases hkn : k < n
    · obtain ⟨lb, lo, rfl, hcs⟩ := HP.out.at k hkn
      obtain ⟨hck, hcv⟩ := hcs k hkn
      have hk0 : (0 : Int) ≤ (k : Int) := by omega
      have hk1 : (k : Int) < (n : Int) := by omega
      have hin := isName_any (N k) (W.drewN q) (HSZ.out k hkn).1
      have hiw := isWord_any (V k) (W.drewN q) (HSZ.out k hkn).2
      have hpk : labOk N V k = ((isName (N k) && isWord (V k)) && (decide (k = 0) || !leS (N k) (N (k - 1)))) := rfl
      obtain ⟨bn, hbn⟩ : ∃ bn, isName (N k) = bn := ⟨_, rfl⟩
      obtain ⟨bw, hbw⟩ : ∃ bw, isWord (V k) = bw := ⟨_, rfl⟩
      rw [hbn] at hin hpk
      rw [hbw] at hiw hpk
      have HIN := (show Hid _ from hin)
      have HIW := (show Hid _ from hiw)
      have HPK := (show Hid _ from hpk)
      have HBN := (show Hid _ from hbn)
      have HBW := (show Hid _ from hbw)
      clear hin hiw hpk hbn hbw
      cases hbb : (bn && bw) with
      | false =>
        have hkm : k = m := by
          rcases Nat.lt_or_ge k m with h | h
          · have := HOK.out k h
            rw [HPK.out, hbb] at this
            cases this
          · omega
        subst hkm
        have HFIN : Hid (C = 4 ∧ A = (k : Int)) := ⟨by rw [HC.out, if_pos hkn, HBN.out, HBW.out, hbb]; rfl, by rw [HA.out, if_pos hkn]⟩
        have hor : (!bn || !bw) = true := by revert hbb; cases bn <;> cases bw <;> decide
        clear hcs hbb
        go_wp2_with fail
        refine Calls.mono HIN.out ?_
        rintro e w1 ⟨rfl, hw1⟩
        have hw1' := hw1.symm
        subst hw1'
        go_wp2_with fail
        refine Calls.mono HIW.out ?_
        rintro e w1 ⟨rfl, hw1⟩
        have hw1' := hw1.symm
        subst hw1'
        cases bn with
        | false =>
          go_wp2
          refine bodyPost_ret (v := .agg #[.int .i64 4, .int .i64 (k : Int)]) (by simp [results, Tryd.results16, go_sem, hx0, hx1]) rfl ⟨by rw [HFIN.out.1, HFIN.out.2], ?_⟩
          exact ((below_draws HB0.out q).setCell (Nat.le_refl _) _).setCell (Nat.le_refl _) _
        | true =>
          cases bw with
          | false =>
            go_wp2
            refine bodyPost_ret (v := .agg #[.int .i64 4, .int .i64 (k : Int)]) (by simp [results, Tryd.results16, go_sem, hx0, hx1]) rfl ⟨by rw [HFIN.out.1, HFIN.out.2], ?_⟩
            exact ((below_draws HB0.out q).setCell (Nat.le_refl _) _).setCell (Nat.le_refl _) _
          | true => simp at hor
      | true =>
        have hbn1 : bn = true := by revert hbb; cases bn <;> simp
        have hbw1 : bw = true := by revert hbb; cases bw <;> simp
        subst hbn1 hbw1
        by_cases hz : k = 0
        · subst hz
          have hm0 : 0 < m := by
            rcases Nat.lt_or_ge 0 m with h | h
            · exact h
            · exfalso
              have hm00 : m = 0 := by omega
              have := HBAD.out (by omega)
              rw [hm00, HPK.out] at this
              simp at this
          have hck0 : W.cell? ⟨lb, lo, none⟩ = some (.string (N 0)) := by simpa using hck
          have hcv0 : W.cell? ⟨lb, lo + 1, none⟩ = some (.string (V 0)) := by simpa using hcv
          clear hcs hck hcv hbb
          go_wp2_with fail
          refine Calls.mono HIN.out ?_
          rintro e w1 ⟨rfl, hw1⟩
          have hw1' := hw1.symm
          subst hw1'
          go_wp2_with fail
          refine Calls.mono HIW.out ?_
          rintro e w1 ⟨rfl, hw1⟩
          have hw1' := hw1.symm
          subst hw1'
          go_wp2_with fail
          go_quiet (fail)
          go_wp2
          go_roundw
          case rel => exact ⟨1, _, by omega, by go_num, by first | rfl | (rw [World.drewN_drewN])⟩
          case measure => simp [intOf] <;> omega
        · obtain ⟨j, rfl⟩ : ∃ j, k = j + 1 := ⟨k - 1, by omega⟩
          have hcj := (hcs j (by omega)).1
          have i1 : (0 : Int) ≤ (j : Int) + 1 - 1 := by omega
          have i2 : (j : Int) + 1 - 1 < (n : Int) := by omega
          have i3 : (0 : Int) < (j : Int) + 1 := by omega
          have hpk : labOk N V (j + 1) = !leS (N (j + 1)) (N j) := by
            rw [HPK.out]
            simp
          have hle : leS (N (j + 1)) (N j) = (Op.bytesLess (N (j + 1)).toList (N j).toList || (N (j + 1)).toList == (N j).toList) := rfl
          cases hll : leS (N (j + 1)) (N j) with
          | false =>
            have hkm : j + 1 < m := by
              rcases Nat.lt_or_ge (j + 1) m with h | h
              · exact h
              · exfalso
                have hme : m = j + 1 := by omega
                have := HBAD.out (by omega)
                rw [hme, hpk, hll] at this
                cases this
            rw [hll] at hle
            have hle' := hle.symm
            clear hcs hpk hll hle hbb
            generalize N (j + 1) = t1 at *
            generalize N j = t0 at *
            go_wp2_with fail
            refine Calls.mono HIN.out ?_
            rintro e w1 ⟨rfl, hw1⟩
            have hw1' := hw1.symm
            subst hw1'
            go_wp2_with fail
            refine Calls.mono HIW.out ?_
            rintro e w1 ⟨rfl, hw1⟩
            have hw1' := hw1.symm
            subst hw1'
            go_wp2_with fail
            go_quiet (fail)
            go_wp2
            go_roundw
            case rel => exact ⟨j + 2, _, by omega, by go_num, by first | rfl | (rw [World.drewN_drewN])⟩
            case measure => simp [intOf] <;> omega
          | true =>
            have hkm : j + 1 = m := by
              rcases Nat.lt_or_ge (j + 1) m with h | h
              · have := HOK.out (j + 1) h
                rw [hpk, hll] at this
                cases this
              · omega
            subst hkm
            rw [hll] at hle
            have hle' := hle.symm
            have HFIN : Hid (C = 3 ∧ A = ((j + 1 : Nat) : Int)) := ⟨by rw [HC.out, if_pos hkn, HBN.out, HBW.out]; rfl, by rw [HA.out, if_pos hkn]⟩
            clear hcs hpk hll hle hbb
            obtain ⟨t1, hg1⟩ : ∃ t1, N (j + 1) = t1 := ⟨_, rfl⟩
            obtain ⟨t0, hg0⟩ : ∃ t0, N j = t0 := ⟨_, rfl⟩
            rw [hg1] at hck HIN hle'
            rw [hg0] at hcj hle'
            clear hg1 hg0
            go_wp2_with fail
            refine Calls.mono HIN.out ?_
            rintro e w1 ⟨rfl, hw1⟩
            have hw1' := hw1.symm
            subst hw1'
            go_wp2_with fail
            refine Calls.mono HIW.out ?_
            rintro e w1 ⟨rfl, hw1⟩
            have hw1' := hw1.symm
            subst hw1'
            go_wp2_with fail
            go_quiet (fail)
            have hv0 : (W.drewN (q + nq)).frozen? ⟨w.heap.size, 0, none⟩ = false := hy0
            have hv1 : (W.drewN (q + nq)).frozen? ⟨w.heap.size, 1, none⟩ = false := hy1
            have hv2 : (W.drewN (q + nq)).cell? ⟨w.heap.size, 0, none⟩ = some (.int .i64 0) := hx0
            have hv3 : (W.drewN (q + nq)).cell? ⟨w.heap.size, 1, none⟩ = some (.int .i64 0) := hx1
            go_wp2
            refine bodyPost_ret (v := .agg #[.int .i64 3, .int .i64 ((j : Int) + 1)]) (by simp [results, Tryd.results16, go_sem, hv2, hv3]) rfl ⟨by rw [HFIN.out.1, HFIN.out.2]; rfl, ?_⟩
            exact ((below_draws HB0.out _).setCell (Nat.le_refl _) _).setCell (Nat.le_refl _) _
    · have hmn : ¬ m < n := by omega
      have hge : (n : Int) ≤ (k : Int) := by omega
      have HMN : Hid (¬ m < n) := hmn
      clear hkn hmn hx0 hx1 hy0 hy1
      go_wp2_with fail
      refine (fine_any _).mono ?_
      rintro e w1 ⟨rfl, hb1⟩
      have hblk1 : w1.heap[w.heap.size]? = some (.cells #[.int .i64 0, .int .i64 0] 39 (0, 0)) := by
        rw [hb1.block w.heap.size (by show w.heap.size < W.heap.size; have := HWS.out; omega)]
        exact HBLK.out
      have c0 : w1.cell? ⟨w.heap.size, 0, none⟩ = some (.int .i64 0) := by simp [World.cell?, hblk1]
      have c1 : w1.cell? ⟨w.heap.size, 1, none⟩ = some (.int .i64 0) := by simp [World.cell?, hblk1]
      have z0 : w1.frozen? ⟨w.heap.size, 0, none⟩ = false := by simp [World.frozen?, hblk1]
      have z1 : w1.frozen? ⟨w.heap.size, 1, none⟩ = false := by simp [World.frozen?, hblk1]
      have hbb : Below w.heap.size w w1 := (below_draws HB0.out q).trans (hb1.mono (by show w.heap.size ≤ W.heap.size; have := HWS.out; omega))
      clear hb1 hblk1
      go_wp2
      refine bodyPost_ret (v := .agg #[.int .i64 0, .int .i64 (-1)]) (by simp [results, Tryd.results16, go_sem, c0, c1]) rfl ⟨by rw [HC.out, HA.out, if_neg HMN.out, if_neg HMN.out], ?_⟩
      exact (hbb.setCell (Nat.le_refl _) _).setCell (Nat.le_refl _) _
end Go.Proofs.YtlbdjkeaohdjkabDoor
