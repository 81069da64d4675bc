/- The document's fault of labels, by its contract. -/
import Derived.Test.YtnjmplmogibgfabDoorRefTicksGroup
import Derived.Test.YtnjmplmogibgfabDoorRefWordGroup
import Derived.Lib.Builder
import Derived.Lib.AppendStr
import Derived.Lib.UnsafeStr
import Derived.Laws.Externs
import Derived.Test.YtnjmplmogibgfabDoorRefsGroup
namespace Go.Proofs.YtnjmplmogibgfabDoor
open Go.RowKit LabMath

theorem below_draws {b : Nat} {w w' : World} (h : Below b w w') (q : Nat) : Below b w (w'.drewN q) := h.trans ⟨rfl, rfl, rfl, Nat.le_refl _, fun _ _ => rfl⟩

/-- A slice that holds labels. -/
def Labs (w : World) (a : Option Addr) (n : Nat) (N V : Nat → ByteArray) : Prop :=
  n = 0 ∨ ∃ b o, a = some ⟨b, o, none⟩ ∧ ∀ k, k < n → w.cell? ⟨b, o + k * 2, none⟩ = some (.string (N k)) ∧ w.cell? ⟨b, o + k * 2 + 1, none⟩ = some (.string (V k))
theorem Labs.at {w : World} {a : Option Addr} {n : Nat} {N V : Nat → ByteArray} (h : Labs w a n N V) (k : Nat) (hk : k < n) :
    ∃ b o, a = some ⟨b, o, none⟩ ∧ ∀ k, k < n → w.cell? ⟨b, o + k * 2, none⟩ = some (.string (N k)) ∧ w.cell? ⟨b, o + k * 2 + 1, none⟩ = some (.string (V k)) := by
  rcases h with h | h
  · omega
  · exact h
theorem Labs.below {w w' : World} {a : Option Addr} {n : Nat} {N V : Nat → ByteArray} (h : Labs w a n N V) (hb : Below w.heap.size w w') : Labs w' a n N V := by
  rcases h with h | ⟨b, o, h, hc⟩
  · exact .inl h
  · refine .inr ⟨b, o, h, fun k hk => ?_⟩
    obtain ⟨h1, h2⟩ := hc k hk
    have hl : b < w.heap.size := World.block_lt_of_cell? w ⟨b, _, none⟩ h1
    exact ⟨(hb.cell (p := ⟨b, _, none⟩) hl).trans h1, (hb.cell (p := ⟨b, _, none⟩) hl).trans h2⟩
/-- Is a text no more than another, byte by byte? -/
def leS (a b : ByteArray) : Bool := Op.bytesLess a.toList b.toList || a.toList == b.toList
/-- Is the i-th label well behind the one ahead? -/
def labOk (N V : Nat → ByteArray) (i : Nat) : Bool := (isName (N i) && isWord (V i)) && (decide (i = 0) || !leS (N i) (N (i - 1)))

set_option maxRecDepth 1000000 in
theorem labels_none (w : World) (la : Option Addr) (c : Nat) :
    Calls Tryd.prog 18 #[.slice la 0 c] w fun e w' => e = .returned (.agg #[.int .i64 5, .int .i64 (-1)]) ∧ Below w.heap.size w w' := by
  go_enter Tryd.func18, Tryd.ntmps18
  go_wp2_with fail
  refine (bare_any 5 _).mono ?_
  rintro e w1 ⟨rfl, hb1⟩
  obtain ⟨hc, hz, hbb⟩ := one_block hb1
  have c0 := hc 0
  have c1 := hc 1
  have z0 := hz 0
  have z1 := hz 1
  simp only [List.getElem?_toArray] at c0 c1
  clear hc hz hb1
  go_wp2
  refine bodyPost_ret (v := .agg #[.int .i64 5, .int .i64 (-1)]) (by simp [results, Tryd.results18, go_sem, c0, c1]) rfl ⟨rfl, ?_⟩
  exact (hbb.setCell (Nat.le_refl _) _).setCell (Nat.le_refl _) _

set_option maxRecDepth 1000000 in
theorem labels_many (w : World) (la : Option Addr) (n c : Nat) (hn : 6 < n) (hn2 : (n : Int) ≤ 9223372036854775807) :
    Calls Tryd.prog 18 #[.slice la n c] w fun e w' => e = .returned (.agg #[.int .i64 2, .int .i64 (-1)]) ∧ Below w.heap.size w w' := by
  have hd : decide ((6 : Int) < (n : Int)) = true := by simp; omega
  have hd0 : ((n : Int) == 0) = false := by rw [beq_eq_false_iff_ne]; omega
  go_enter Tryd.func18, Tryd.ntmps18
  go_wp2_with fail
  refine (bare_any 2 _).mono ?_
  rintro e w1 ⟨rfl, hb1⟩
  obtain ⟨hc, hz, hbb⟩ := one_block hb1
  have c0 := hc 0
  have c1 := hc 1
  have z0 := hz 0
  have z1 := hz 1
  simp only [List.getElem?_toArray] at c0 c1
  clear hc hz hb1
  go_wp2
  refine bodyPost_ret (v := .agg #[.int .i64 2, .int .i64 (-1)]) (by simp [results, Tryd.results18, go_sem, c0, c1]) rfl ⟨rfl, ?_⟩
  exact (hbb.setCell (Nat.le_refl _) _).setCell (Nat.le_refl _) _

set_option maxRecDepth 1000000 in
set_option maxHeartbeats 2000000 in
/-- LabelsFault: up to m all are well; m is the first that is not, or the end. -/
theorem labels_fault (w : World) (la : Option Addr) (n c : Nat) (N V : Nat → ByteArray) (hP : Labs w la n N V) (hsz : ∀ i, i < n → (N i).size ≤ 1000000 ∧ (V i).size ≤ 1000000) (h0 : 1 ≤ n) (hn : n ≤ 6) (m : Nat) (hm : m ≤ n) (hok : ∀ i, i < m → labOk N V i = true) (hbad : m < n → labOk N V m = false) (C A : Int) (hC : C = if m < n then (if (isName (N m) && isWord (V m)) = true then 3 else 4) else 0) (hA : A = if m < n then (m : Int) else -1) :
    Calls Tryd.prog 18 #[.slice la n c] w fun e w' => e = .returned (.agg #[.int .i64 C, .int .i64 A]) ∧ Below w.heap.size w w' := by
  have HC := (show Hid _ from hC)
  have HA := (show Hid _ from hA)
  clear hC hA
  obtain ⟨W, hW⟩ : ∃ W, W = w.alloc (.cells #[.int .i64 0, .int .i64 0] 39) := ⟨_, rfl⟩
  have hb0 : Below w.heap.size w W := by rw [hW]; exact (Below.refl _ _).alloc (Nat.le_refl _) _
  have hblk : W.heap[w.heap.size]? = some (.cells #[.int .i64 0, .int .i64 0] 39 (0, 0)) := by rw [hW]; exact heap_alloc_new _ _
  have HP : Hid (Labs W la n N V) := hP.below hb0
  have HB0 := (show Hid _ from hb0)
  have HBLK := (show Hid _ from hblk)
  have HOK := (show Hid _ from hok)
  have HBAD := (show Hid _ from hbad)
  have HSZ := (show Hid _ from hsz)
  have hd : decide ((6 : Int) < (n : Int)) = false := by simp; omega
  have hd0 : ((n : Int) == 0) = false := by rw [beq_eq_false_iff_ne]; omega
  have H2 : Hid (∀ (w' : World), w' = w.alloc (.cells #[.int .i64 0, .int .i64 0] 39) → w' = W) := fun w' h => h.trans hW.symm
  have hWs : W.heap.size = w.heap.size + 1 := by rw [hW]; simp
  have HWS := (show Hid _ from hWs)
  clear hP hok hbad hb0 hblk hW hsz hWs
  go_enter Tryd.func18, Tryd.ntmps18
  go_wp2_with fail
  have hww := H2.out _ rfl
  rw [hww]
  clear hww H2
  go_loopw [3, 4, 5] (fun i _ _ wr => ∃ k q : Nat, k ≤ m ∧ i = .int .i64 k ∧ wr = W.drewN q) (fun i _ _ _ => n - (intOf i).toNat)
  case atStart => exact ⟨0, 0, Nat.zero_le _, rfl, rfl⟩
  case round =>
    obtain ⟨k, q, hk, rfl, rfl⟩ := hrel
    have hx0 : (W.drewN q).cell? ⟨w.heap.size, 0, none⟩ = some (.int .i64 0) := by show W.cell? _ = _; simp [World.cell?, HBLK.out]
    have hx1 : (W.drewN q).cell? ⟨w.heap.size, 1, none⟩ = some (.int .i64 0) := by show W.cell? _ = _; simp [World.cell?, HBLK.out]
    have hy0 : (W.drewN q).frozen? ⟨w.heap.size, 0, none⟩ = false := by show W.frozen? _ = _; simp [World.frozen?, HBLK.out]
    have hy1 : (W.drewN q).frozen? ⟨w.heap.size, 1, none⟩ = false := by show W.frozen? _ = _; simp [World.frozen?, HBLK.out]
    by_cases hkn : k < n
    · obtain ⟨lb, lo, rfl, hcs⟩ := HP.out.at k hkn
      obtain ⟨hck, hcv⟩ := hcs k hkn
      have hk0 : (0 : Int) ≤ (k : Int) := by omega
      have hk1 : (k : Int) < (n : Int) := by omega
      have hin := isName_any (N k) (W.drewN q) (HSZ.out k hkn).1
      have hiw := isWord_any (V k) (W.drewN q) (HSZ.out k hkn).2
      have hpk : labOk N V k = ((isName (N k) && isWord (V k)) && (decide (k = 0) || !leS (N k) (N (k - 1)))) := rfl
      obtain ⟨bn, hbn⟩ : ∃ bn, isName (N k) = bn := ⟨_, rfl⟩
      obtain ⟨bw, hbw⟩ : ∃ bw, isWord (V k) = bw := ⟨_, rfl⟩
      rw [hbn] at hin hpk
      rw [hbw] at hiw hpk
      have HIN := (show Hid _ from hin)
      have HIW := (show Hid _ from hiw)
      have HPK := (show Hid _ from hpk)
      have HBN := (show Hid _ from hbn)
      have HBW := (show Hid _ from hbw)
      clear hin hiw hpk hbn hbw
      cases hbb : (bn && bw) with
      | false =>
        have hkm : k = m := by
          rcases Nat.lt_or_ge k m with h | h
          · have := HOK.out k h
            rw [HPK.out, hbb] at this
            cases this
          · omega
        subst hkm
        have HFIN : Hid (C = 4 ∧ A = (k : Int)) := ⟨by rw [HC.out, if_pos hkn, HBN.out, HBW.out, hbb]; rfl, by rw [HA.out, if_pos hkn]⟩
        have hor : (!bn || !bw) = true := by revert hbb; cases bn <;> cases bw <;> decide
        clear hcs hbb
        go_wp2_with fail
        refine Calls.mono HIN.out ?_
        rintro e w1 ⟨rfl, hw1⟩
        have hw1' := hw1.symm
        subst hw1'
        go_wp2_with fail
        refine Calls.mono HIW.out ?_
        rintro e w1 ⟨rfl, hw1⟩
        have hw1' := hw1.symm
        subst hw1'
        cases bn with
        | false =>
          go_wp2
          refine bodyPost_ret (v := .agg #[.int .i64 4, .int .i64 (k : Int)]) (by simp [results, Tryd.results18, go_sem, hx0, hx1]) rfl ⟨by rw [HFIN.out.1, HFIN.out.2], ?_⟩
          exact ((below_draws HB0.out q).setCell (Nat.le_refl _) _).setCell (Nat.le_refl _) _
        | true =>
          cases bw with
          | false =>
            go_wp2
            refine bodyPost_ret (v := .agg #[.int .i64 4, .int .i64 (k : Int)]) (by simp [results, Tryd.results18, go_sem, hx0, hx1]) rfl ⟨by rw [HFIN.out.1, HFIN.out.2], ?_⟩
            exact ((below_draws HB0.out q).setCell (Nat.le_refl _) _).setCell (Nat.le_refl _) _
          | true => simp at hor
      | true =>
        have hbn1 : bn = true := by revert hbb; cases bn <;> simp
        have hbw1 : bw = true := by revert hbb; cases bw <;> simp
        subst hbn1 hbw1
        by_cases hz : k = 0
        · subst hz
          have hm0 : 0 < m := by
            rcases Nat.lt_or_ge 0 m with h | h
            · exact h
            · exfalso
              have hm00 : m = 0 := by omega
              have := HBAD.out (by omega)
              rw [hm00, HPK.out] at this
              simp at this
          have hck0 : W.cell? ⟨lb, lo, none⟩ = some (.string (N 0)) := by simpa using hck
          have hcv0 : W.cell? ⟨lb, lo + 1, none⟩ = some (.string (V 0)) := by simpa using hcv
          clear hcs hck hcv hbb
          go_wp2_with fail
          refine Calls.mono HIN.out ?_
          rintro e w1 ⟨rfl, hw1⟩
          have hw1' := hw1.symm
          subst hw1'
          go_wp2_with fail
          refine Calls.mono HIW.out ?_
          rintro e w1 ⟨rfl, hw1⟩
          have hw1' := hw1.symm
          subst hw1'
          go_wp2_with fail
          go_quiet (fail)
          go_wp2
          go_roundw
          case rel => exact ⟨1, _, by omega, by go_num, by first | rfl | (rw [World.drewN_drewN])⟩
          case measure => simp [intOf] <;> omega
        · obtain ⟨j, rfl⟩ : ∃ j, k = j + 1 := ⟨k - 1, by omega⟩
          have hcj := (hcs j (by omega)).1
          have i1 : (0 : Int) ≤ (j : Int) + 1 - 1 := by omega
          have i2 : (j : Int) + 1 - 1 < (n : Int) := by omega
          have i3 : (0 : Int) < (j : Int) + 1 := by omega
          have hpk : labOk N V (j + 1) = !leS (N (j + 1)) (N j) := by
            rw [HPK.out]
            simp
          have hle : leS (N (j + 1)) (N j) = (Op.bytesLess (N (j + 1)).toList (N j).toList || (N (j + 1)).toList == (N j).toList) := rfl
          cases hll : leS (N (j + 1)) (N j) with
          | false =>
            have hkm : j + 1 < m := by
              rcases Nat.lt_or_ge (j + 1) m with h | h
              · exact h
              · exfalso
                have hme : m = j + 1 := by omega
                have := HBAD.out (by omega)
                rw [hme, hpk, hll] at this
                cases this
            rw [hll] at hle
            have hle' := hle.symm
            clear hcs hpk hll hle hbb
            generalize N (j + 1) = t1 at *
            generalize N j = t0 at *
            go_wp2_with fail
            refine Calls.mono HIN.out ?_
            rintro e w1 ⟨rfl, hw1⟩
            have hw1' := hw1.symm
            subst hw1'
            go_wp2_with fail
            refine Calls.mono HIW.out ?_
            rintro e w1 ⟨rfl, hw1⟩
            have hw1' := hw1.symm
            subst hw1'
            go_wp2_with fail
            go_quiet (fail)
            go_wp2
            go_roundw
            case rel => exact ⟨j + 2, _, by omega, by go_num, by first | rfl | (rw [World.drewN_drewN])⟩
            case measure => simp [intOf] <;> omega
          | true =>
            have hkm : j + 1 = m := by
              rcases Nat.lt_or_ge (j + 1) m with h | h
              · have := HOK.out (j + 1) h
                rw [hpk, hll] at this
                cases this
              · omega
            subst hkm
            rw [hll] at hle
            have hle' := hle.symm
            have HFIN : Hid (C = 3 ∧ A = ((j + 1 : Nat) : Int)) := ⟨by rw [HC.out, if_pos hkn, HBN.out, HBW.out]; rfl, by rw [HA.out, if_pos hkn]⟩
            clear hcs hpk hll hle hbb
            obtain ⟨t1, hg1⟩ : ∃ t1, N (j + 1) = t1 := ⟨_, rfl⟩
            obtain ⟨t0, hg0⟩ : ∃ t0, N j = t0 := ⟨_, rfl⟩
            rw [hg1] at hck HIN hle'
            rw [hg0] at hcj hle'
            clear hg1 hg0
            go_wp2_with fail
            refine Calls.mono HIN.out ?_
            rintro e w1 ⟨rfl, hw1⟩
            have hw1' := hw1.symm
            subst hw1'
            go_wp2_with fail
            refine Calls.mono HIW.out ?_
            rintro e w1 ⟨rfl, hw1⟩
            have hw1' := hw1.symm
            subst hw1'
            go_wp2_with fail
            go_quiet (fail)
            have hv0 : (W.drewN (q + nq)).frozen? ⟨w.heap.size, 0, none⟩ = false := hy0
            have hv1 : (W.drewN (q + nq)).frozen? ⟨w.heap.size, 1, none⟩ = false := hy1
            have hv2 : (W.drewN (q + nq)).cell? ⟨w.heap.size, 0, none⟩ = some (.int .i64 0) := hx0
            have hv3 : (W.drewN (q + nq)).cell? ⟨w.heap.size, 1, none⟩ = some (.int .i64 0) := hx1
            go_wp2
            refine bodyPost_ret (v := .agg #[.int .i64 3, .int .i64 ((j : Int) + 1)]) (by simp [results, Tryd.results18, go_sem, hv2, hv3]) rfl ⟨by rw [HFIN.out.1, HFIN.out.2]; rfl, ?_⟩
            exact ((below_draws HB0.out _).setCell (Nat.le_refl _) _).setCell (Nat.le_refl _) _
    · have hmn : ¬ m < n := by omega
      have hge : (n : Int) ≤ (k : Int) := by omega
      have HMN : Hid (¬ m < n) := hmn
      clear hkn hmn hx0 hx1 hy0 hy1
      go_wp2_with fail
      refine (fine_any _).mono ?_
      rintro e w1 ⟨rfl, hb1⟩
      have hblk1 : w1.heap[w.heap.size]? = some (.cells #[.int .i64 0, .int .i64 0] 39 (0, 0)) := by
        rw [hb1.block w.heap.size (by show w.heap.size < W.heap.size; have := HWS.out; omega)]
        exact HBLK.out
      have c0 : w1.cell? ⟨w.heap.size, 0, none⟩ = some (.int .i64 0) := by simp [World.cell?, hblk1]
      have c1 : w1.cell? ⟨w.heap.size, 1, none⟩ = some (.int .i64 0) := by simp [World.cell?, hblk1]
      have z0 : w1.frozen? ⟨w.heap.size, 0, none⟩ = false := by simp [World.frozen?, hblk1]
      have z1 : w1.frozen? ⟨w.heap.size, 1, none⟩ = false := by simp [World.frozen?, hblk1]
      have hbb : Below w.heap.size w w1 := (below_draws HB0.out q).trans (hb1.mono (by show w.heap.size ≤ W.heap.size; have := HWS.out; omega))
      clear hb1 hblk1
      go_wp2
      refine bodyPost_ret (v := .agg #[.int .i64 0, .int .i64 (-1)]) (by simp [results, Tryd.results18, go_sem, c0, c1]) rfl ⟨by rw [HC.out, HA.out, if_neg HMN.out, if_neg HMN.out], ?_⟩
      exact (hbb.setCell (Nat.le_refl _) _).setCell (Nat.le_refl _) _
end Go.Proofs.YtnjmplmogibgfabDoor
/- label's Check by its contract. -/
namespace Go.Proofs.YtnjmplmogibgfabDoor
open Go.RowKit LabMath

theorem cell_new {W : World} {C : Array Value} {t : TypeId} {s : Nat} (hs : W.heap.size = s) (i : Nat) : (W.alloc (.cells C t)).cell? ⟨s, i, none⟩ = C[i]? := by
  subst hs
  have hb : (W.alloc (.cells C t)).heap[W.heap.size]? = some (.cells C t (0, 0)) := heap_alloc_new _ _
  simp only [World.cell?, hb]
  exact if_neg (by decide)
/-- What Check answers: m is the first label that is not well, or the end. -/
def LChkOut (w w' : World) (N V : Nat → ByteArray) (m n : Nat) (aN aS : Addr) (e : Ending) : Prop :=
  Below w.heap.size w w' ∧ ((m = n ∧ e = .returned .nilIface) ∨ (m < n ∧ ∃ pb : Nat, e = .returned (.iface 140 (.pointer (some ⟨pb, 0, none⟩))) ∧ w.heap.size ≤ pb ∧ w'.cell? ⟨pb, 0, none⟩ = some (.int .i64 (m : Int)) ∧ w'.cell? ⟨pb, 1, none⟩ = some (.iface 321 (.pointer (some (if (isName (N m) && isWord (V m)) = true then aS else aN))))))
theorem lcheck_none (w : World) (la : Option Addr) (c : Nat) (a : Addr) (hE : w.cell? ⟨0, 0, none⟩ = some (.iface 321 (.pointer (some a)))) :
    Calls Tryd.prog 20 #[.slice la 0 c] w fun e w' => e = .returned (.iface 321 (.pointer (some a))) ∧ w' = w := by
  go_enter Tryd.func20, Tryd.ntmps20
  go_wp2
  go_ret
  exact ⟨rfl, rfl⟩
theorem lcheck_many (w : World) (la : Option Addr) (n c : Nat) (hn : 6 < n) (hn2 : (n : Int) ≤ 9223372036854775807) (a : Addr) (hE : w.cell? ⟨1, 0, none⟩ = some (.iface 321 (.pointer (some a)))) :
    Calls Tryd.prog 20 #[.slice la n c] w fun e w' => e = .returned (.iface 321 (.pointer (some a))) ∧ w' = w := by
  have hd : decide ((6 : Int) < (n : Int)) = true := by simp; omega
  have hd0 : ((n : Int) == 0) = false := by rw [beq_eq_false_iff_ne]; omega
  go_enter Tryd.func20, Tryd.ntmps20
  go_wp2
  go_ret
  exact ⟨rfl, rfl⟩

set_option maxRecDepth 1000000 in
set_option maxHeartbeats 2000000 in
/-- Check: up to m all are well; m is the first that is not, or the end. -/
theorem lcheck_any (w : World) (la : Option Addr) (n c : Nat) (N V : Nat → ByteArray) (hP : Labs w la n N V) (hsz : ∀ i, i < n → (N i).size ≤ 1000000 ∧ (V i).size ≤ 1000000) (h0 : 1 ≤ n) (hn : n ≤ 6) (m : Nat) (hm : m ≤ n) (hok : ∀ i, i < m → labOk N V i = true) (hbad : m < n → labOk N V m = false)
    (aN aS : Addr) (hEN : w.cell? ⟨2, 0, none⟩ = some (.iface 321 (.pointer (some aN)))) (hES : w.cell? ⟨3, 0, none⟩ = some (.iface 321 (.pointer (some aS)))) :
    Calls Tryd.prog 20 #[.slice la n c] w fun e w' => LChkOut w w' N V m n aN aS e := by
  have HP : Hid (Labs w la n N V) := hP
  have HOK := (show Hid _ from hok)
  have HBAD := (show Hid _ from hbad)
  have HSZ := (show Hid _ from hsz)
  have HEN := (show Hid _ from hEN)
  have HES := (show Hid _ from hES)
  have hGN : 2 < w.heap.size := World.block_lt_of_cell? w ⟨2, 0, none⟩ hEN
  have hGS : 3 < w.heap.size := World.block_lt_of_cell? w ⟨3, 0, none⟩ hES
  have hd : decide ((6 : Int) < (n : Int)) = false := by simp; omega
  have hd0 : ((n : Int) == 0) = false := by rw [beq_eq_false_iff_ne]; omega
  clear hP hok hbad hEN hES hsz
  go_enter Tryd.func20, Tryd.ntmps20
  go_wp2_with fail
  go_loopw [3, 4, 15] (fun _ _ i wr => ∃ k : Nat, k ≤ m ∧ i = .int .i64 k ∧ Below w.heap.size w wr) (fun _ _ i _ => n - (intOf i).toNat)
  case atStart => exact ⟨0, Nat.zero_le _, rfl, Below.refl _ _⟩
  case round =>
    obtain ⟨k, hk, rfl, hbr⟩ := hrel
    by_cases hkn : k < n
    · obtain ⟨lb, lo, rfl, hcs⟩ := HP.out.at k hkn
      obtain ⟨c0, c1⟩ := hcs k hkn
      have hlb : lb < w.heap.size := World.block_lt_of_cell? w ⟨lb, _, none⟩ c0
      have hk0 : (0 : Int) ≤ (k : Int) := by omega
      have hk1 : (k : Int) < (n : Int) := by omega
      have e0 : wr.cell? ⟨lb, lo + k * 2, none⟩ = some (.string (N k)) := (hbr.cell (p := ⟨lb, _, none⟩) hlb).trans c0
      have e1 : wr.cell? ⟨lb, lo + k * 2 + 1, none⟩ = some (.string (V k)) := (hbr.cell (p := ⟨lb, _, none⟩) hlb).trans c1
      have HBR := (show Hid _ from hbr)
      have hwl := hbr.size
      have hlw : lb ≠ wr.heap.size := by omega
      have gN : wr.cell? ⟨2, 0, none⟩ = some (.iface 321 (.pointer (some aN))) := (hbr.cell (p := ⟨2, 0, none⟩) hGN).trans HEN.out
      have gS : wr.cell? ⟨3, 0, none⟩ = some (.iface 321 (.pointer (some aS))) := (hbr.cell (p := ⟨3, 0, none⟩) hGS).trans HES.out
      have hG1 : 2 < wr.heap.size := by omega
      have hG7 : 3 < wr.heap.size := by omega
      have hin := fun w0 => lisName_any (N k) w0 (HSZ.out k hkn).1
      have hiw := fun w0 => lisValue_any (V k) w0 (HSZ.out k hkn).2
      have hpk : labOk N V k = ((isName (N k) && isWord (V k)) && (decide (k = 0) || !leS (N k) (N (k - 1)))) := rfl
      have HIF : Hid ((if (isName (N k) && isWord (V k)) = true then aS else aN) = (if (isName (N k) && isWord (V k)) = true then aS else aN)) := rfl
      obtain ⟨bn, hbn⟩ : ∃ bn, isName (N k) = bn := ⟨_, rfl⟩
      obtain ⟨bw, hbw⟩ : ∃ bw, isWord (V k) = bw := ⟨_, rfl⟩
      rw [hbn] at hin hpk
      rw [hbw] at hiw hpk
      have HIN := (show Hid _ from hin)
      have HIW := (show Hid _ from hiw)
      have HPK := (show Hid _ from hpk)
      have HBN := (show Hid _ from hbn)
      have HBW := (show Hid _ from hbw)
      clear hin hiw hpk hbn hbw hbr c0 c1 HIF
      cases hbb : (bn && bw) with
      | false =>
        have hkm : k = m := by
          rcases Nat.lt_or_ge k m with h | h
          · have := HOK.out k h
            rw [HPK.out, hbb] at this
            cases this
          · omega
        subst hkm
        have HIF : Hid ((if (isName (N k) && isWord (V k)) = true then aS else aN) = aN) := by show _ = _; rw [HBN.out, HBW.out, hbb]; rfl
        have hor : (!bn || !bw) = true := by revert hbb; cases bn <;> cases bw <;> decide
        clear hcs hbb
        obtain ⟨t1, ht1⟩ : ∃ t1, N k = t1 := ⟨_, rfl⟩
        obtain ⟨t2, ht2⟩ : ∃ t2, V k = t2 := ⟨_, rfl⟩
        rw [ht1] at e0 HIN
        rw [ht2] at e1 HIW
        have HT1 := (show Hid _ from ht1)
        have HT2 := (show Hid _ from ht2)
        clear ht1 ht2
        go_wp2_with fail
        refine Calls.mono (HIN.out _) ?_
        rintro e w1 ⟨rfl, hw1⟩
        have hw1' := hw1
        subst hw1'
        cases bn with
        | false =>
          go_wp2
          go_ret
          exact ⟨(HBR.out.alloc hwl _).alloc (by simp; omega) _, .inr ⟨hkn, wr.heap.size + 1, by simp, by omega, (cell_new (by simp) 0).trans (by simp), (cell_new (by simp) 1).trans (by rw [HIF.out]; simp)⟩⟩
        | true =>
          cases bw with
          | false =>
            go_wp2_with fail
            refine Calls.mono (HIW.out _) ?_
            rintro e w1 ⟨rfl, hw1⟩
            have hw1' := hw1
            subst hw1'
            go_wp2
            go_ret
            exact ⟨(HBR.out.alloc hwl _).alloc (by simp; omega) _, .inr ⟨hkn, wr.heap.size + 1, by simp, by omega, (cell_new (by simp) 0).trans (by simp), (cell_new (by simp) 1).trans (by rw [HIF.out]; simp)⟩⟩
          | true => simp at hor
      | true =>
        have hbn1 : bn = true := by revert hbb; cases bn <;> simp
        have hbw1 : bw = true := by revert hbb; cases bw <;> simp
        subst hbn1 hbw1
        by_cases hz : k = 0
        · subst hz
          have hm0 : 0 < m := by
            rcases Nat.lt_or_ge 0 m with h | h
            · exact h
            · exfalso
              have hm00 : m = 0 := by omega
              have := HBAD.out (by omega)
              rw [hm00, HPK.out] at this
              simp at this
          have e00 : wr.cell? ⟨lb, lo, none⟩ = some (.string (N 0)) := by simpa using e0
          have e11 : wr.cell? ⟨lb, lo + 1, none⟩ = some (.string (V 0)) := by simpa using e1
          clear hcs e0 e1 hbb
          go_wp2_with fail
          refine Calls.mono (HIN.out _) ?_
          rintro e w1 ⟨rfl, hw1⟩
          have hw1' := hw1
          subst hw1'
          go_wp2_with fail
          refine Calls.mono (HIW.out _) ?_
          rintro e w1 ⟨rfl, hw1⟩
          have hw1' := hw1
          subst hw1'
          go_wp2_with fail
          go_quiet (fail)
          go_wp2
          go_roundw
          case rel => exact ⟨1, by omega, by go_num, below_draws (HBR.out.alloc hwl _) _⟩
          case measure => simp [intOf] <;> omega
        · obtain ⟨j, rfl⟩ : ∃ j, k = j + 1 := ⟨k - 1, by omega⟩
          have hcj := (hcs j (by omega)).1
          have ej : wr.cell? ⟨lb, lo + j * 2, none⟩ = some (.string (N j)) := (HBR.out.cell (p := ⟨lb, _, none⟩) hlb).trans hcj
          have hll : lb < wr.heap.size := by omega
          have ejA : ∀ o : Obj, (wr.alloc o).cell? ⟨lb, lo + j * 2, none⟩ = some (.string (N j)) := fun o => (World.cell?_alloc_lt wr o ⟨lb, _, none⟩ hll).trans ej
          have i1 : (0 : Int) ≤ (j : Int) + 1 - 1 := by omega
          have i2 : (j : Int) + 1 - 1 < (n : Int) := by omega
          have i3 : (0 : Int) < (j : Int) + 1 := by omega
          have hpk : labOk N V (j + 1) = !leS (N (j + 1)) (N j) := by
            rw [HPK.out]
            simp
          have hle : leS (N (j + 1)) (N j) = (Op.bytesLess (N (j + 1)).toList (N j).toList || (N (j + 1)).toList == (N j).toList) := rfl
          cases hll2 : leS (N (j + 1)) (N j) with
          | false =>
            have hkm : j + 1 < m := by
              rcases Nat.lt_or_ge (j + 1) m with h | h
              · exact h
              · exfalso
                have hme : m = j + 1 := by omega
                have := HBAD.out (by omega)
                rw [hme, hpk, hll2] at this
                cases this
            rw [hll2] at hle
            have hle' := hle.symm
            clear hcs hpk hll2 hle hbb hcj
            generalize N (j + 1) = t1 at *
            generalize N j = t0 at *
            generalize V (j + 1) = t2 at *
            go_wp2_with fail
            refine Calls.mono (HIN.out _) ?_
            rintro e w1 ⟨rfl, hw1⟩
            have hw1' := hw1
            subst hw1'
            go_wp2_with fail
            refine Calls.mono (HIW.out _) ?_
            rintro e w1 ⟨rfl, hw1⟩
            have hw1' := hw1
            subst hw1'
            go_wp2_with fail
            go_quiet (fail)
            go_wp2
            go_roundw
            case rel => exact ⟨j + 2, by omega, by go_num, below_draws (HBR.out.alloc hwl _) _⟩
            case measure => simp [intOf] <;> omega
          | true =>
            have hkm : j + 1 = m := by
              rcases Nat.lt_or_ge (j + 1) m with h | h
              · have := HOK.out (j + 1) h
                rw [hpk, hll2] at this
                cases this
              · omega
            subst hkm
            rw [hll2] at hle
            have hle' := hle.symm
            have HIF : Hid ((if (isName (N (j + 1)) && isWord (V (j + 1))) = true then aS else aN) = aS) := by show _ = _; rw [HBN.out, HBW.out]; rfl
            clear hcs hpk hll2 hle hbb hcj HP HOK HBAD
            obtain ⟨t1, ht1⟩ : ∃ t1, N (j + 1) = t1 := ⟨_, rfl⟩
            obtain ⟨t0, ht0⟩ : ∃ t0, N j = t0 := ⟨_, rfl⟩
            obtain ⟨t2, ht2⟩ : ∃ t2, V (j + 1) = t2 := ⟨_, rfl⟩
            rw [ht1] at e0 hle' HIN
            rw [ht0] at ej ejA hle'
            rw [ht2] at e1 HIW
            clear ht1 ht0 ht2
            go_wp2_with fail
            refine Calls.mono (HIN.out _) ?_
            rintro e w1 ⟨rfl, hw1⟩
            have hw1' := hw1
            subst hw1'
            go_wp2_with fail
            refine Calls.mono (HIW.out _) ?_
            rintro e w1 ⟨rfl, hw1⟩
            have hw1' := hw1
            subst hw1'
            go_wp2_with fail
            go_quiet (fail)
            go_wp2
            go_ret
            exact ⟨(below_draws (HBR.out.alloc hwl _) _).alloc (by simp; omega) _, .inr ⟨hkn, wr.heap.size + 1, by simp, by omega, (cell_new (by show (wr.alloc _).heap.size = _; simp) 0).trans (by simp), (cell_new (by show (wr.alloc _).heap.size = _; simp) 1).trans (by rw [HIF.out]; simp)⟩⟩
    · have hkm : k = m := by omega
      have hmn : m = n := by omega
      have hge : (n : Int) ≤ (k : Int) := by omega
      have HBR := (show Hid _ from hbr)
      clear hbr
      go_wp2
      go_ret
      exact ⟨HBR.out, .inl ⟨hmn, rfl⟩⟩
end Go.Proofs.YtnjmplmogibgfabDoor
/- strings.Builder's WriteString and String by contracts, over this program. -/
namespace Go.Proofs.YtnjmplmogibgfabDoor
open Go.RowKit

theorem sizeBuilder : (Tryd.prog.info? 135).map (·.size) = some 2 := by kernel_rfl
theorem liesBuilder : liesAt Tryd.prog Tryd.prog.depth 135 (2 / Tryd.prog.cellsOf 135) 0 135 1 = true := by kernel_rfl
theorem infoByte : (Tryd.prog.info? 5).map (fun i => (i.zero, i.size, i.bytes)) = some (some (.int .u8 0), 1, 1) := by kernel_rfl
theorem cellsByte : Tryd.prog.cellsOf 5 = 1 := by kernel_rfl

set_option maxRecDepth 1000000 in
theorem bCopy_used (b : Nat) (w : World) (h0 : w.cell? ⟨b, 0, none⟩ = some (.pointer (some ⟨b, 0, none⟩))) :
    Calls Tryd.prog 113 #[.pointer (some ⟨b, 0, none⟩)] w fun e w' => e = .returned (.tuple #[]) ∧ w' = w := by
  obtain ⟨j, hj, _⟩ := Option.map_eq_some_iff.1 sizeBuilder
  go_enter Tryd.func113, Tryd.ntmps113
  go_wp2
  rw [Lib.run_neq_ptr_same w _ Tryd.underlying132 hj]
  go_wp2
  go_end0
  exact ⟨rfl, rfl⟩

set_option maxRecDepth 1000000 in
theorem bCopy_fresh (b : Nat) (w : World) (h0 : w.cell? ⟨b, 0, none⟩ = some (.pointer none)) (hsh : w.shape? b = some (135, 2)) (hfz : w.frozen? ⟨b, 0, none⟩ = false) :
    Calls Tryd.prog 113 #[.pointer (some ⟨b, 0, none⟩)] w fun e w' => e = .returned (.tuple #[]) ∧ w' = w.setCell ⟨b, 0, none⟩ (.pointer (some ⟨b, 0, none⟩)) := by
  obtain ⟨j, hj, hjs⟩ := Option.map_eq_some_iff.1 sizeBuilder
  have hc := @run_callFunc_extern Tryd.prog 147 _ Extern.AbiNoEscape.same Tryd.func147 (by kernel_rfl) (by kernel_rfl) (by kernel_rfl) (by kernel_rfl)
  have HC := (show Hid _ from hc)
  clear hc
  go_enter Tryd.func113, Tryd.ntmps113
  go_wp2
  rw [Lib.run_to_unsafe w ⟨b, 0, none⟩ Tryd.underlying132 Tryd.underlying227 hj (by rw [hjs]; decide) hsh (Nat.zero_lt_succ 1)]
  simp only [Result.andThen]
  rw [Oper.upon_value]
  go_wp2
  rw [HC.out, Lib.run_noEscape]
  simp only [Result.andThen]
  rw [Oper.upon_value]
  go_wp2
  rw [Lib.run_from_unsafe w ⟨b, 0, none⟩ Tryd.underlying227 Tryd.underlying132 hj hsh liesBuilder]
  simp only [Result.andThen]
  rw [Oper.upon_value]
  go_wp2
  go_end0
  exact ⟨rfl, rfl⟩

/-- What is no builder's, and no row of bytes, stays. -/
def Others (w w' : World) : Prop := ∀ (k : Nat) (cs : Array Value) (t : TypeId) (fr : Nat × Nat), w.heap[k]? = some (.cells cs t fr) → t ≠ 5 → t ≠ 135 → w'.heap[k]? = some (.cells cs t fr)
theorem bCopy_any (B b : Nat) (bs : List Value) (w : World) (h : Lib.IsBuilder 135 5 B b bs w) :
    Calls Tryd.prog 113 #[.pointer (some ⟨b, 0, none⟩)] w fun e w' => e = .returned (.tuple #[]) ∧ (Lib.BuilderAt 135 5 B b (.pointer (some ⟨b, 0, none⟩)) bs w' ∧ Below B w w' ∧ Others w w') := by
  rcases h with h | h
  · refine (bCopy_fresh b w h.cell0 h.shape h.frozen0).mono ?_
    rintro e w' ⟨rfl, rfl⟩
    refine ⟨rfl, h.used _, (Below.refl B w).setCell (p := ⟨b, 0, none⟩) h.1 _, ?_⟩
    intro k cs t fr hk _ ht
    obtain ⟨_, v, hb, _⟩ := h
    rw [Below.heap_setCell _ _ _ _ (fun e => ?_)]
    · exact hk
    · have e' : k = b := e
      subst e'
      rw [hb] at hk
      injection hk with hk
      injection hk with h1 h2 h3
      exact ht h2.symm
  · refine (bCopy_used b w h.cell0).mono ?_
    rintro e w' ⟨rfl, rfl⟩
    exact ⟨rfl, h, Below.refl B _, fun k cs t fr hk _ _ => hk⟩

set_option maxRecDepth 1000000 in
set_option maxHeartbeats 1000000 in
theorem bWrite_any (B b : Nat) (bs : List Value) (s : ByteArray) (w : World) (h : Lib.IsBuilder 135 5 B b bs w) (hlen : bs.length + s.size ≤ 140737488355328) (hBw : B ≤ w.heap.size) :
    Calls Tryd.prog 66 #[.pointer (some ⟨b, 0, none⟩), .string s] w fun e w' => e = .returned (.tuple #[.int .i64 s.size, .nilIface]) ∧ (Lib.BuilderAt 135 5 B b (.pointer (some ⟨b, 0, none⟩)) (bs ++ Lib.strCells s) w' ∧ Below B w w' ∧ Others w w') := by
  obtain ⟨i0, hi, hz0, hz1, hz2⟩ := info_parts infoByte
  have HI := (show Hid _ from hi)
  have HC : Hid _ := bCopy_any B b bs w h
  clear h hi
  go_enter Tryd.func66, Tryd.ntmps66
  go_wp2_with fail
  refine Calls.mono HC.out ?_
  rintro e w1 ⟨rfl, h1, hb1, ho1⟩
  have HO1 := (show Hid _ from ho1)
  clear ho1
  obtain ⟨hB, v, hbk, hown, hne⟩ := h1
  have c0 : w1.cell? ⟨b, 0, none⟩ = some (.pointer (some ⟨b, 0, none⟩)) := by rw [Lib.cell_of_heap hbk]; rfl
  have c1 : w1.cell? ⟨b, 1, none⟩ = some v := by rw [Lib.cell_of_heap hbk]; rfl
  go_wp2_with (at_builtin; refine Lib.wpList_append_own_string _ rfl _ _ 133 9 rfl B 5 i0 Tryd.underlying133 Tryd.underlying9 HI.out hz0 hz1 hz2 _ _ _ rfl hown s rfl ?c3 ?c4 ?c5 ?_)
  case c3 => unfold maxLen; omega
  case c4 => omega
  case c5 => have := hb1.size; omega
  intro v' w2 hown' hgrow _
  have hlt : b < w1.heap.size := by
    rcases Nat.lt_or_ge b w1.heap.size with h' | h'
    · exact h'
    · simp [Array.getElem?_eq_none h'] at hbk
  have hb2 : w2.heap[b]? = some (.cells #[.pointer (some ⟨b, 0, none⟩), v] 135 (0, 0)) := by
    rw [hgrow.block b hlt (fun e => hne e.symm)]
    exact hbk
  have d0 : w2.cell? ⟨b, 0, none⟩ = some (.pointer (some ⟨b, 0, none⟩)) := by rw [Lib.cell_of_heap hb2]; rfl
  have d1 : w2.cell? ⟨b, 1, none⟩ = some v := by rw [Lib.cell_of_heap hb2]; rfl
  have f1 : w2.frozen? ⟨b, 1, none⟩ = false := Lib.frozen_of_heap hb2 1
  obtain ⟨ao, n', cap, rfl⟩ : ∃ ao n' cap, v' = .slice ao n' cap := by
    rcases hown'.2 with ⟨hv, _⟩ | ⟨g, cap, cur, hv, _⟩
    · exact ⟨_, _, _, hv⟩
    · exact ⟨_, _, _, hv⟩
  go_wp2
  go_ret2
  refine ⟨rfl, ?_, ?_, ?_⟩
  · exact Lib.BuilderAt.put (T := 135) (e := 5) hB hb2 (bs' := bs ++ Lib.strCells s) (by simpa [Lib.strCells_length] using hown') (by decide)
  · exact (hb1.grown hgrow (by have := hb1.size; omega) (fun k hk => (hown.lt k hk).1)).setCell (p := ⟨b, 1, none⟩) hB _
  · intro k cs t fr hk h8 hT
    have hk1 := HO1.out k cs t fr hk h8 hT
    have hkl : k < w1.heap.size := by
      rcases Nat.lt_or_ge k w1.heap.size with h' | h'
      · exact h'
      · simp [Array.getElem?_eq_none h'] at hk1
    have hk2 : w2.heap[k]? = some (.cells cs t fr) := (hgrow.block k hkl (fun e => Lib.ownBlock_ne hown hk1 h8 e.symm)).trans hk1
    rw [Below.heap_setCell _ _ _ _ (fun e => ?_)]
    · exact hk2
    · have e' : k = b := e
      subst e'
      rw [hbk] at hk1
      injection hk1 with hk1
      injection hk1 with h1 h2 h3
      exact hT h2.symm

theorem builder_alloc {T e : TypeId} {B b : Nat} {bs : List Value} {w : World} (h : Lib.IsBuilder T e B b bs w) (o : Obj) : Lib.IsBuilder T e B b bs (w.alloc o) := by
  have key : ∀ p, Lib.BuilderAt T e B b p bs w → Lib.BuilderAt T e B b p bs (w.alloc o) := by
    rintro p ⟨hB, v, hb, hown, hne⟩
    have hlt : b < w.heap.size := by
      rcases Nat.lt_or_ge b w.heap.size with h' | h'
      · exact h'
      · simp [Array.getElem?_eq_none h'] at hb
    refine ⟨hB, v, (Below.heap_alloc _ _ _ hlt).trans hb, ?_, hne⟩
    exact hown.kept (row := none) ⟨rfl, rfl, rfl, by simp, fun k hk _ => Below.heap_alloc _ _ _ hk⟩ (Classical.em _)
  rcases h with h | h
  · exact .inl (key _ h)
  · exact .inr (key _ h)

set_option maxRecDepth 1000000 in
set_option maxHeartbeats 1000000 in
theorem bString_any (B b : Nat) (l : List UInt8) (w : World) (h : Lib.IsBuilder 135 5 B b (Lib.byteCells l) w) (h0 : l ≠ []) :
    Calls Tryd.prog 67 #[.pointer (some ⟨b, 0, none⟩)] w fun e w' => e = .returned (.string ⟨l.toArray⟩) ∧ Below B w w' := by
  obtain ⟨p, hB, v, hbk, hown, hne⟩ : ∃ p, Lib.BuilderAt 135 5 B b p (Lib.byteCells l) w := by
    rcases h with h | h
    · exact ⟨_, h⟩
    · exact ⟨_, h⟩
  have hl0 : l.length ≠ 0 := by simpa using h0
  rw [Lib.byteCells_length] at hown
  obtain ⟨g, cap, cur, rfl, hbg, hg, hnc, hcm, hcs, htake⟩ : ∃ g cap cur, v = .slice (some ⟨g, 0, none⟩) l.length cap ∧ B ≤ g ∧ w.heap[g]? = some (.cells cur 5 (0, 0)) ∧ l.length ≤ cap ∧ cap ≤ maxLen ∧ cur.size = cap * 1 ∧ cur.toList.take (l.length * 1) = Lib.byteCells l := by
    rcases hown.2 with ⟨_, hz⟩ | ⟨g, cap, cur, hv, r⟩
    · exact absurd hz hl0
    · exact ⟨g, cap, cur, hv, r⟩
  have c1 : w.drew.cell? ⟨b, 1, none⟩ = some (.slice (some ⟨g, 0, none⟩) l.length cap) := by
    have : w.drew.heap[b]? = some (.cells #[p, .slice (some ⟨g, 0, none⟩) l.length cap] 135 (0, 0)) := hbk
    rw [Lib.cell_of_heap this]; rfl
  have hSD : (Builtin.unsafeSliceData_ #[133] 190 #[.slice (some ⟨g, 0, none⟩) l.length cap]).run Tryd.prog w.drew = .ok (.pointer (some ⟨g, 0, none⟩)) w.drew :=
    Lib.run_unsafeSliceData_row _ _ _ _ _ _ (by omega)
  have hUS : (Builtin.unsafeString_ #[190, 3] 9 #[.pointer (some ⟨g, 0, none⟩), .int .i64 l.length]).run Tryd.prog w.drew = .ok (.string ⟨l.toArray⟩) (w.drew.freeze ⟨g, 0, none⟩ l.length) := by
    refine Lib.run_unsafeString_row w.drew 190 3 9 5 Tryd.underlying190 cellsByte g cur.size (by have hg' : w.drew.heap[g]? = some (.cells cur 5 (0, 0)) := hg; simp [World.shape?, hg']) l h0 (by omega) (by unfold maxLen at hcm; omega) ?_
    intro j x hx
    exact hown.cells (g := g) rfl j (.int .u8 x.toNat) (by simp [Lib.byteCells, hx])
  clear hg hcs htake hown h hbk
  go_enter Tryd.func67, Tryd.ntmps67
  go_wp2
  go_region
  all_goals (go_wp2; go_ret; exact ⟨rfl, Lib.below_freeze (Below.drew (Below.refl B w)) (p := ⟨g, 0, none⟩) hbg _⟩)
end Go.Proofs.YtnjmplmogibgfabDoor
/- The document's text of labels, by its contract. -/
namespace LabMath

/-- The text of the first k labels. -/
def textTo (N V : Nat → ByteArray) : Nat → ByteArray
  | 0 => ⟨#[]⟩
  | k + 1 => (if k = 0 then textTo N V k else textTo N V k ++ ⟨#[44]⟩) ++ N k ++ ⟨#[61]⟩ ++ V k
theorem textTo_size (N V : Nat → ByteArray) (n B : Nat) (h : ∀ i, i < n → (N i).size ≤ B ∧ (V i).size ≤ B) : ∀ k, k ≤ n → (textTo N V k).size ≤ k * (2 * B + 2)
  | 0, _ => by show 0 ≤ _; omega
  | k + 1, hk => by
    have ih := textTo_size N V n B h k (by omega)
    have hb := h k (by omega)
    have h1 : (⟨#[44]⟩ : ByteArray).size = 1 := rfl
    have h2 : (⟨#[61]⟩ : ByteArray).size = 1 := rfl
    rw [textTo]
    split
    · simp only [ByteArray.size_append, h2]
      rw [Nat.add_mul]
      omega
    · simp only [ByteArray.size_append, h1, h2]
      rw [Nat.add_mul]
      omega
end LabMath
namespace Go.Proofs.YtnjmplmogibgfabDoor
open Go.RowKit LabMath

set_option maxRecDepth 1000000 in
set_option maxHeartbeats 1000000 in
theorem labels_text (w : World) (la : Option Addr) (n c : Nat) (N V : Nat → ByteArray) (hP : Labs w la n N V) (hsz : ∀ i, i < n → (N i).size ≤ 1000 ∧ (V i).size ≤ 1000) (hn : n ≤ 100) :
    Calls Tryd.prog 22 #[.slice la n c] w fun e w' => e = .returned (.string (textTo N V n)) ∧ ∃ q, w' = w.drewN q := by
  have HP : Hid (Labs w la n N V) := hP
  have HSZ := (show Hid _ from hsz)
  clear hP hsz
  go_enter Tryd.func22, Tryd.ntmps22
  go_wp2_with fail
  go_loopw [3, 4] (fun o i wr => ∃ k q : Nat, k ≤ n ∧ i = .int .i64 k ∧ o = .string (textTo N V k) ∧ wr = w.drewN q) (fun _ i _ => n - (intOf i).toNat)
  case atStart => exact ⟨0, 0, Nat.zero_le _, rfl, rfl, rfl⟩
  case round =>
    obtain ⟨k, q, hk, rfl, rfl, rfl⟩ := hrel
    by_cases hkn : k < n
    · obtain ⟨lb, lo, rfl, hcs⟩ := HP.out.at k hkn
      obtain ⟨c0, c1⟩ := hcs k hkn
      have hk0 : (0 : Int) ≤ (k : Int) := by omega
      have hk1 : (k : Int) < (n : Int) := by omega
      have hts := textTo_size N V n 1000 HSZ.out k (by omega)
      have hbs := HSZ.out k hkn
      have hst : textTo N V (k + 1) = (if k = 0 then textTo N V k else textTo N V k ++ ⟨#[44]⟩) ++ N k ++ ⟨#[61]⟩ ++ V k := rfl
      generalize textTo N V k = t at *
      generalize N k = x at *
      generalize V k = y at *
      have HST := (show Hid _ from hst)
      have h1 : (⟨#[44]⟩ : ByteArray).size = 1 := rfl
      have h2 : (⟨#[61]⟩ : ByteArray).size = 1 := rfl
      have htl : t.size ≤ 1000000 := by
        have : k * (2 * 1000 + 2) ≤ 100 * (2 * 1000 + 2) := Nat.mul_le_mul_right _ (by omega)
        omega
      clear hcs hst hts
      by_cases hz : k = 0
      · subst hz
        have c00 : w.cell? ⟨lb, lo, none⟩ = some (.string x) := by simpa using c0
        have c11 : w.cell? ⟨lb, lo + 1, none⟩ = some (.string y) := by simpa using c1
        have a1 := add_str Tryd.prog t x (by omega)
        have a2 := add_str Tryd.prog (t ++ x) ⟨#[61]⟩ (by rw [ByteArray.size_append]; omega)
        have a3 := add_str Tryd.prog (t ++ x ++ ⟨#[61]⟩) y (by rw [ByteArray.size_append, ByteArray.size_append]; omega)
        have HFIN : Hid (textTo N V 1 = t ++ x ++ ⟨#[61]⟩ ++ y) := by show _ = _; rw [HST.out, if_pos rfl]
        clear c0 c1 h1 h2
        generalize t ++ x ++ ⟨#[61]⟩ ++ y = r3 at *
        generalize t ++ x ++ ⟨#[61]⟩ = r2 at *
        generalize t ++ x = r1 at *
        go_wp2_with fail
        go_quiet (fail)
        go_wp2
        go_roundw
        case rel => exact ⟨1, _, by omega, by go_num, by rw [HFIN.out], by first | rfl | (rw [World.drewN_drewN])⟩
        case measure => simp [intOf] <;> omega
      · have i0 : (0 : Int) < (k : Int) := by omega
        have a0 := add_str Tryd.prog t ⟨#[44]⟩ (by omega)
        have a1 := add_str Tryd.prog (t ++ ⟨#[44]⟩) x (by rw [ByteArray.size_append]; omega)
        have a2 := add_str Tryd.prog (t ++ ⟨#[44]⟩ ++ x) ⟨#[61]⟩ (by rw [ByteArray.size_append, ByteArray.size_append]; omega)
        have a3 := add_str Tryd.prog (t ++ ⟨#[44]⟩ ++ x ++ ⟨#[61]⟩) y (by rw [ByteArray.size_append, ByteArray.size_append, ByteArray.size_append]; omega)
        have HFIN : Hid (textTo N V (k + 1) = t ++ ⟨#[44]⟩ ++ x ++ ⟨#[61]⟩ ++ y) := by show _ = _; rw [HST.out, if_neg hz]
        clear h1 h2
        generalize t ++ ⟨#[44]⟩ ++ x ++ ⟨#[61]⟩ ++ y = r4 at *
        generalize t ++ ⟨#[44]⟩ ++ x ++ ⟨#[61]⟩ = r3 at *
        generalize t ++ ⟨#[44]⟩ ++ x = r2 at *
        generalize t ++ ⟨#[44]⟩ = r1 at *
        go_wp2_with fail
        go_quiet (fail)
        go_wp2
        go_roundw
        case rel => exact ⟨k + 1, _, by omega, by go_num, by rw [HFIN.out], by first | rfl | (rw [World.drewN_drewN])⟩
        case measure => simp [intOf] <;> omega
    · have hke : k = n := by omega
      subst hke
      have hge : (k : Int) ≤ (k : Int) := Int.le_refl _
      obtain ⟨z, hz⟩ : ∃ z, textTo N V k = z := ⟨_, rfl⟩
      rw [hz]
      have HZ := (show Hid _ from hz)
      clear hz
      go_wp2
      go_ret
      exact ⟨by rw [HZ.out]; rfl, q, rfl⟩
end Go.Proofs.YtnjmplmogibgfabDoor
/- label's Text by its contract. -/
namespace Go.Proofs.YtnjmplmogibgfabDoor
open Go.RowKit LabMath

set_option maxRecDepth 1000000 in
theorem ltext_none (w : World) (la : Option Addr) (c : Nat) (a : Addr) (hE : w.cell? ⟨0, 0, none⟩ = some (.iface 321 (.pointer (some a)))) :
    Calls Tryd.prog 17 #[.slice la 0 c] w fun e w' => e = .returned (.tuple #[.string ⟨#[]⟩, .iface 321 (.pointer (some a))]) ∧ w' = w := by
  have HC : Hid _ := lcheck_none w la c a hE
  go_enter Tryd.func17, Tryd.ntmps17
  go_wp2_with fail
  refine Calls.mono HC.out ?_
  rintro e w1 ⟨rfl, hw1⟩
  have hw1' := hw1.symm
  subst hw1'
  go_wp2
  go_ret2
  exact ⟨rfl, rfl⟩
set_option maxRecDepth 1000000 in
theorem ltext_many (w : World) (la : Option Addr) (n c : Nat) (hn : 6 < n) (hn2 : (n : Int) ≤ 9223372036854775807) (a : Addr) (hE : w.cell? ⟨1, 0, none⟩ = some (.iface 321 (.pointer (some a)))) :
    Calls Tryd.prog 17 #[.slice la n c] w fun e w' => e = .returned (.tuple #[.string ⟨#[]⟩, .iface 321 (.pointer (some a))]) ∧ w' = w := by
  have HC : Hid _ := lcheck_many w la n c hn hn2 a hE
  go_enter Tryd.func17, Tryd.ntmps17
  go_wp2_with fail
  refine Calls.mono HC.out ?_
  rintro e w1 ⟨rfl, hw1⟩
  have hw1' := hw1.symm
  subst hw1'
  go_wp2
  go_ret2
  exact ⟨rfl, rfl⟩

/-- What Text answers of one to six labels. -/
def LTxtOut (w w' : World) (N V : Nat → ByteArray) (m n : Nat) (aN aS : Addr) (e : Ending) : Prop :=
  Below w.heap.size w w' ∧ ((m = n ∧ e = .returned (.tuple #[.string (textTo N V n), .nilIface])) ∨ (m < n ∧ ∃ pb : Nat, e = .returned (.tuple #[.string ⟨#[]⟩, .iface 140 (.pointer (some ⟨pb, 0, none⟩))]) ∧ w.heap.size ≤ pb ∧ w'.cell? ⟨pb, 0, none⟩ = some (.int .i64 (m : Int)) ∧ w'.cell? ⟨pb, 1, none⟩ = some (.iface 321 (.pointer (some (if (isName (N m) && isWord (V m)) = true then aS else aN))))))

theorem lab_size (N V : Nat → ByteArray) (i : Nat) (h : labOk N V i = true) : (N i).size ≤ 12 ∧ (V i).size ≤ 12 := by
  unfold labOk at h
  rw [Bool.and_eq_true, Bool.and_eq_true] at h
  have hn : isWord (N i) = true := by
    have h1 := h.1.1
    unfold isName at h1
    rw [Bool.and_eq_true] at h1
    exact h1.1
  exact ⟨(word_size _ hn).2, (word_size _ h.1.2).2⟩

set_option maxRecDepth 1000000 in
set_option maxHeartbeats 2000000 in
theorem ltext_any (w : World) (la : Option Addr) (n c : Nat) (N V : Nat → ByteArray) (hP : Labs w la n N V) (hsz : ∀ i, i < n → (N i).size ≤ 1000000 ∧ (V i).size ≤ 1000000) (h0 : 1 ≤ n) (hn : n ≤ 6) (m : Nat) (hm : m ≤ n) (hok : ∀ i, i < m → labOk N V i = true) (hbad : m < n → labOk N V m = false)
    (aN aS : Addr) (hEN : w.cell? ⟨2, 0, none⟩ = some (.iface 321 (.pointer (some aN)))) (hES : w.cell? ⟨3, 0, none⟩ = some (.iface 321 (.pointer (some aS)))) :
    Calls Tryd.prog 17 #[.slice la n c] w fun e w' => LTxtOut w w' N V m n aN aS e := by
  have HC : Hid _ := lcheck_any w la n c N V hP hsz h0 hn m hm hok hbad aN aS hEN hES
  have HP : Hid (Labs w la n N V) := hP
  have HSZ : Hid (m = n → ∀ i, i < n → (N i).size ≤ 12 ∧ (V i).size ≤ 12) := fun e i hi => lab_size N V i (hok i (by omega))
  clear hP hsz hok hbad hEN hES
  go_enter Tryd.func17, Tryd.ntmps17
  go_wp2_with fail
  refine Calls.mono HC.out ?_
  rintro e w1 ⟨hb1, ⟨hmn, rfl⟩ | ⟨hmn, pb, rfl, hpb, p0, p1⟩⟩
  · subst hmn
    have HB1 := (show Hid _ from hb1)
    have hs1 := hb1.size
    obtain ⟨W, hW⟩ : ∃ W, W = w1.alloc (.cells #[.pointer none, .slice none 0 0] 135) := ⟨_, rfl⟩
    have HW : Hid (∀ wx, wx = w1.alloc (.cells #[.pointer none, .slice none 0 0] 135) → wx = W) := fun wx h => h.trans hW.symm
    have hWs : W.heap.size = w1.heap.size + 1 := by rw [hW]; simp
    have hWB : Below w1.heap.size w1 W := by rw [hW]; exact (Below.refl _ _).alloc (Nat.le_refl _) _
    have HIB : Hid (Lib.IsBuilder 135 5 w1.heap.size w1.heap.size (Lib.strCells (textTo N V 0)) W) := by
      refine .inl ⟨Nat.le_refl _, .slice none 0 0, ?_, ?_, by simp [Value.ownBlock]⟩
      · rw [hW]; exact heap_alloc_new _ _
      · exact ⟨by simp [Lib.strCells, textTo], .inl ⟨rfl, rfl⟩⟩
    have HWB : Hid (Below w.heap.size w W) := hb1.trans (hWB.mono hs1)
    have HZ := HSZ.out rfl
    have HSZ' := (show Hid _ from HZ)
    clear hW hb1 hWB HZ HSZ HC
    go_wp2_with fail
    rw [HW.out _ rfl]
    go_loopw [6, 7, 15] (fun _ _ i wr => ∃ k : Nat, k ≤ m ∧ i = .int .i64 k ∧ Below w.heap.size w wr ∧ Lib.IsBuilder 135 5 w1.heap.size w1.heap.size (Lib.strCells (textTo N V k)) wr ∧ w1.heap.size < wr.heap.size) (fun _ _ i _ => m - (intOf i).toNat)
    case atStart => exact ⟨0, Nat.zero_le _, rfl, HWB.out, HIB.out, by omega⟩
    case round =>
      obtain ⟨k, hk, rfl, hbr, hib, hlt1⟩ := hrel
      by_cases hkn : k < m
      · obtain ⟨lb, lo, rfl, hcs⟩ := HP.out.at k hkn
        obtain ⟨c0, c1⟩ := hcs k hkn
        have hlb : lb < w.heap.size := World.block_lt_of_cell? w ⟨lb, _, none⟩ c0
        have hk0 : (0 : Int) ≤ (k : Int) := by omega
        have hk1 : (k : Int) < (m : Int) := by omega
        have e0 : wr.cell? ⟨lb, lo + k * 2, none⟩ = some (.string (N k)) := (hbr.cell (p := ⟨lb, _, none⟩) hlb).trans c0
        have e1 : wr.cell? ⟨lb, lo + k * 2 + 1, none⟩ = some (.string (V k)) := (hbr.cell (p := ⟨lb, _, none⟩) hlb).trans c1
        have hz := HSZ'.out k hkn
        have hts := textTo_size N V m 12 HSZ'.out k (by omega)
        have hbl : (Lib.strCells (textTo N V k)).length = (textTo N V k).size := Lib.strCells_length _
        have hlw : lb ≠ wr.heap.size := by omega
        have hst : textTo N V (k + 1) = (if k = 0 then textTo N V k else textTo N V k ++ ⟨#[44]⟩) ++ N k ++ ⟨#[61]⟩ ++ V k := rfl
        have HST := (show Hid _ from hst)
        have HBR := (show Hid _ from hbr)
        have HIB2 := (show Hid _ from hib)
        have h61 : (⟨#[61]⟩ : ByteArray).size = 1 := rfl
        have h44 : (⟨#[44]⟩ : ByteArray).size = 1 := rfl
        clear hcs c0 c1 hst hbr hib HIB HWB
        obtain ⟨L, hL⟩ : ∃ L, L = wr.alloc (.cells #[.string (N k), .string (V k)] 49) := ⟨_, rfl⟩
        have HL := (show Hid _ from hL)
        have hLs : L.heap.size = wr.heap.size + 1 := by rw [hL]; simp
        have hLb : L.heap[wr.heap.size]? = some (.cells #[.string (N k), .string (V k)] 49 (0, 0)) := by rw [hL]; exact heap_alloc_new _ _
        have HLB := (show Hid _ from hLb)
        have HLI : Hid (Lib.IsBuilder 135 5 w1.heap.size w1.heap.size (Lib.strCells (textTo N V k)) L) := by rw [hL]; exact builder_alloc HIB2.out _
        have HLW : Hid (Below w.heap.size w L) := by rw [hL]; exact HBR.out.alloc (by omega) _
        clear hL hLb
        by_cases hz0 : k = 0
        · subst hz0
          have e00 : wr.cell? ⟨lb, lo, none⟩ = some (.string (N 0)) := by simpa using e0
          have e11 : wr.cell? ⟨lb, lo + 1, none⟩ = some (.string (V 0)) := by simpa using e1
          clear e0 e1
          have HWR : Hid _ := bWrite_any w1.heap.size w1.heap.size _ (N 0 ++ ⟨#[61]⟩ ++ V 0) L HLI.out (by rw [hbl]; simp only [ByteArray.size_append, h61]; omega) (by omega)
          go_wp2_with fail
          rw [← HL.out]
          refine Calls.mono HWR.out ?_
          rintro e w2 ⟨rfl, hbu, hb2, ho2⟩
          have hs2 := hb2.size
          have HB2 := (show Hid _ from hb2)
          have HBU := (show Hid _ from hbu)
          clear hb2 hbu ho2
          go_wp2
          go_roundw
          case rel =>
            refine ⟨1, by omega, by go_num, HLW.out.trans (HB2.out.mono hs1), .inr ?_, by omega⟩
            have : Lib.strCells (textTo N V 1) = Lib.strCells (textTo N V 0) ++ Lib.strCells (N 0 ++ ⟨#[61]⟩ ++ V 0) := by
              rw [HST.out]
              simp [Lib.strCells, ByteArray.data_append]
            rw [this]
            exact HBU.out
          case measure => simp [intOf] <;> omega
        · have d0 : decide ((0 : Int) < (k : Int)) = true := by simp; omega
          have HWR1 : Hid _ := bWrite_any w1.heap.size w1.heap.size _ ⟨#[44]⟩ L HLI.out (by rw [hbl, h44]; omega) (by omega)
          go_wp2_with fail
          rw [← HL.out]
          refine Calls.mono HWR1.out ?_
          rintro e w2 ⟨rfl, hbu, hb2, ho2⟩
          have hs2 := hb2.size
          have hl2 := ho2 _ _ _ _ HLB.out (by decide) (by decide)
          have f0 : w2.cell? ⟨wr.heap.size, 0, none⟩ = some (.string (N k)) := by simp [World.cell?, hl2]
          have f1 : w2.cell? ⟨wr.heap.size, 1, none⟩ = some (.string (V k)) := by simp [World.cell?, hl2]
          have HB2 := (show Hid _ from hb2)
          have HWR2 : Hid _ := bWrite_any w1.heap.size w1.heap.size _ (N k ++ ⟨#[61]⟩ ++ V k) w2 (.inr hbu) (by rw [List.length_append, hbl, Lib.strCells_length]; simp only [ByteArray.size_append, h61, h44]; omega) (by omega)
          clear hb2 hbu ho2 hl2
          go_wp2_with fail
          refine Calls.mono HWR2.out ?_
          rintro e w3 ⟨rfl, hbu, hb3, ho3⟩
          have hs3 := hb3.size
          have HB3 := (show Hid _ from hb3)
          have HBU := (show Hid _ from hbu)
          clear hb3 hbu ho3
          go_wp2
          go_roundw
          case rel =>
            refine ⟨k + 1, by omega, by go_num, (HLW.out.trans (HB2.out.mono hs1)).trans (HB3.out.mono hs1), .inr ?_, by omega⟩
            have : Lib.strCells (textTo N V (k + 1)) = Lib.strCells (textTo N V k) ++ Lib.strCells ⟨#[44]⟩ ++ Lib.strCells (N k ++ ⟨#[61]⟩ ++ V k) := by
              rw [HST.out, if_neg hz0]
              simp [Lib.strCells, ByteArray.data_append]
            rw [this]
            exact HBU.out
          case measure => simp [intOf] <;> omega
      · have hkm : k = m := by omega
        subst hkm
        have hge : (k : Int) ≤ (k : Int) := by omega
        have hne : (textTo N V k).data.toList ≠ [] := by
          obtain ⟨j, rfl⟩ : ∃ j, k = j + 1 := ⟨k - 1, by omega⟩
          rw [textTo]
          simp [ByteArray.data_append]
        have HS : Hid _ := bString_any w1.heap.size w1.heap.size (textTo N V k).data.toList wr hib hne
        have HBR := (show Hid _ from hbr)
        clear hbr hib HIB HWB
        go_wp2_with fail
        refine Calls.mono HS.out ?_
        rintro e w2 ⟨rfl, hb2⟩
        have HB2 := (show Hid _ from hb2)
        clear hb2
        go_wp2
        go_ret2
        exact ⟨HBR.out.trans (HB2.out.mono hs1), .inl ⟨rfl, rfl⟩⟩
  · have HB1 := (show Hid _ from hb1)
    have HX := (show Hid _ from And.intro hpb (And.intro p0 p1))
    clear hb1 p0 p1
    go_wp2
    go_ret2
    exact ⟨HB1.out, .inr ⟨hmn, pb, rfl, HX.out.1, HX.out.2.1, HX.out.2.2⟩⟩
end Go.Proofs.YtnjmplmogibgfabDoor
/- The document's fault of matches, and whether labels fit, by contracts. -/
namespace Go.Proofs.YtnjmplmogibgfabDoor
open Go.RowKit LabMath

/-- A slice that holds matches. -/
def Mats (w : World) (a : Option Addr) (n : Nat) (K : Nat → Nat) (N V : Nat → ByteArray) : Prop :=
  n = 0 ∨ ∃ b o, a = some ⟨b, o, none⟩ ∧ ∀ k, k < n → w.cell? ⟨b, o + k * 3, none⟩ = some (.int .u8 (K k : Int)) ∧ w.cell? ⟨b, o + k * 3 + 1, none⟩ = some (.string (N k)) ∧ w.cell? ⟨b, o + k * 3 + 2, none⟩ = some (.string (V k)) ∧ K k < 256
theorem Mats.at {w : World} {a : Option Addr} {n : Nat} {K : Nat → Nat} {N V : Nat → ByteArray} (h : Mats w a n K N V) (k : Nat) (hk : k < n) :
    ∃ b o, a = some ⟨b, o, none⟩ ∧ ∀ k, k < n → w.cell? ⟨b, o + k * 3, none⟩ = some (.int .u8 (K k : Int)) ∧ w.cell? ⟨b, o + k * 3 + 1, none⟩ = some (.string (N k)) ∧ w.cell? ⟨b, o + k * 3 + 2, none⟩ = some (.string (V k)) ∧ K k < 256 := by
  rcases h with h | h
  · omega
  · exact h
theorem Mats.below {w w' : World} {a : Option Addr} {n : Nat} {K : Nat → Nat} {N V : Nat → ByteArray} (h : Mats w a n K N V) (hb : Below w.heap.size w w') : Mats w' a n K N V := by
  rcases h with h | ⟨b, o, h, hc⟩
  · exact .inl h
  · refine .inr ⟨b, o, h, fun k hk => ?_⟩
    obtain ⟨h1, h2, h3, h4⟩ := hc k hk
    have hl : b < w.heap.size := World.block_lt_of_cell? w ⟨b, _, none⟩ h1
    exact ⟨(hb.cell (p := ⟨b, _, none⟩) hl).trans h1, (hb.cell (p := ⟨b, _, none⟩) hl).trans h2, (hb.cell (p := ⟨b, _, none⟩) hl).trans h3, h4⟩
def kindOk (k : Nat) : Bool := decide (k = 61 ∨ k = 33 ∨ k = 126)
def matOk (K : Nat → Nat) (N : Nat → ByteArray) (i : Nat) : Bool := kindOk (K i) && isName (N i)

set_option maxRecDepth 1000000 in
theorem matches_many (w : World) (la : Option Addr) (n c : Nat) (hn : 6 < n) (hn2 : (n : Int) ≤ 9223372036854775807) :
    Calls Tryd.prog 25 #[.slice la n c] w fun e w' => e = .returned (.agg #[.int .i64 2, .int .i64 (-1)]) ∧ Below w.heap.size w w' := by
  have hd : decide ((6 : Int) < (n : Int)) = true := by simp; omega
  go_enter Tryd.func25, Tryd.ntmps25
  go_wp2_with fail
  refine (bare_any 2 _).mono ?_
  rintro e w1 ⟨rfl, hb1⟩
  obtain ⟨hc, hz, hbb⟩ := one_block hb1
  have c0 := hc 0
  have c1 := hc 1
  have z0 := hz 0
  have z1 := hz 1
  simp only [List.getElem?_toArray] at c0 c1
  clear hc hz hb1
  go_wp2
  refine bodyPost_ret (v := .agg #[.int .i64 2, .int .i64 (-1)]) (by simp [results, Tryd.results25, go_sem, c0, c1]) rfl ⟨rfl, ?_⟩
  exact (hbb.setCell (Nat.le_refl _) _).setCell (Nat.le_refl _) _

set_option maxRecDepth 1000000 in
set_option maxHeartbeats 2000000 in
theorem matches_fault (w : World) (la : Option Addr) (n c : Nat) (K : Nat → Nat) (N V : Nat → ByteArray) (hP : Mats w la n K N V) (hsz : ∀ i, i < n → (N i).size ≤ 1000000) (hn : n ≤ 6) (m : Nat) (hm : m ≤ n) (hok : ∀ i, i < m → matOk K N i = true) (hbad : m < n → matOk K N m = false) (C A : Int) (hC : C = if m < n then (if kindOk (K m) = true then 4 else 11) else 0) (hA : A = if m < n then (m : Int) else -1) :
    Calls Tryd.prog 25 #[.slice la n c] w fun e w' => e = .returned (.agg #[.int .i64 C, .int .i64 A]) ∧ Below w.heap.size w w' := by
  have HC := (show Hid _ from hC)
  have HA := (show Hid _ from hA)
  clear hC hA
  obtain ⟨W, hW⟩ : ∃ W, W = w.alloc (.cells #[.int .i64 0, .int .i64 0] 39) := ⟨_, rfl⟩
  have hb0 : Below w.heap.size w W := by rw [hW]; exact (Below.refl _ _).alloc (Nat.le_refl _) _
  have hblk : W.heap[w.heap.size]? = some (.cells #[.int .i64 0, .int .i64 0] 39 (0, 0)) := by rw [hW]; exact heap_alloc_new _ _
  have HP : Hid (Mats W la n K N V) := hP.below hb0
  have HB0 := (show Hid _ from hb0)
  have HBLK := (show Hid _ from hblk)
  have HOK := (show Hid _ from hok)
  have HBAD := (show Hid _ from hbad)
  have HSZ := (show Hid _ from hsz)
  have hd : decide ((6 : Int) < (n : Int)) = false := by simp; omega
  have H2 : Hid (∀ (w' : World), w' = w.alloc (.cells #[.int .i64 0, .int .i64 0] 39) → w' = W) := fun w' h => h.trans hW.symm
  have hx0 : W.cell? ⟨w.heap.size, 0, none⟩ = some (.int .i64 0) := by simp [World.cell?, hblk]
  have hx1 : W.cell? ⟨w.heap.size, 1, none⟩ = some (.int .i64 0) := by simp [World.cell?, hblk]
  have hy0 : W.frozen? ⟨w.heap.size, 0, none⟩ = false := by simp [World.frozen?, hblk]
  have hy1 : W.frozen? ⟨w.heap.size, 1, none⟩ = false := by simp [World.frozen?, hblk]
  have HWL : Hid (w.heap.size < W.heap.size) := by show w.heap.size < W.heap.size; rw [hW]; simp
  clear hP hok hbad hb0 hblk hW hsz
  go_enter Tryd.func25, Tryd.ntmps25
  go_wp2_with fail
  have hww := H2.out _ rfl
  rw [hww]
  clear hww H2
  go_loopw [3, 4] (fun i _ wr => ∃ k : Nat, k ≤ m ∧ i = .int .i64 k ∧ wr = W) (fun i _ _ => n - (intOf i).toNat)
  case atStart => exact ⟨0, Nat.zero_le _, rfl, rfl⟩
  case round =>
    obtain ⟨k, hk, rfl, hwr⟩ := hrel
    have hwr' := hwr.symm
    subst hwr'
    by_cases hkn : k < n
    · obtain ⟨lb, lo, rfl, hcs⟩ := HP.out.at k hkn
      obtain ⟨ck, cn, _, hkb⟩ := hcs k hkn
      have hk0 : (0 : Int) ≤ (k : Int) := by omega
      have hk1 : (k : Int) < (n : Int) := by omega
      have HIN := (show Hid _ from isName_any (N k) W (HSZ.out k hkn))
      have HPK : Hid (matOk K N k = (kindOk (K k) && isName (N k))) := rfl
      clear hcs
      by_cases hkd : K k = 61 ∨ K k = 33 ∨ K k = 126
      · have HKO : Hid (kindOk (K k) = true) := by show _ = _; unfold kindOk; exact decide_eq_true hkd
        have hcond : ((K k : Nat) : Int) = 61 ∨ (((K k : Nat) : Int) ≠ 61 ∧ ((K k : Nat) : Int) = 33) ∨ (((K k : Nat) : Int) ≠ 61 ∧ ((K k : Nat) : Int) ≠ 33 ∧ ((K k : Nat) : Int) = 126) := by omega
        obtain ⟨kk, hkk⟩ : ∃ kk, K k = kk := ⟨_, rfl⟩
        rw [hkk] at ck hcond
        clear hkb
        cases hbn : isName (N k) with
        | true =>
          rw [hbn] at HIN
          have hkm : k < m := by
            rcases Nat.lt_or_ge k m with h | h
            · exact h
            · exfalso
              have hme : m = k := by omega
              have := HBAD.out (by omega)
              rw [hme, HPK.out, HKO.out, hbn] at this
              cases this
          clear hbn hkd hkk
          rcases hcond with d1 | ⟨d1, d2⟩ | ⟨d1, d2, d3⟩
          all_goals
            go_wp2_with fail
            refine Calls.mono HIN.out ?_
            rintro e w1 ⟨rfl, hw1⟩
            have hw1' := hw1.symm
            subst hw1'
            go_wp2
            go_roundw
            case rel => exact ⟨k + 1, by omega, by go_num, by first | rfl | trivial⟩
            case measure => simp [intOf] <;> omega
        | false =>
          rw [hbn] at HIN
          have hkm : k = m := by
            rcases Nat.lt_or_ge k m with h | h
            · have := HOK.out k h
              rw [HPK.out, hbn, Bool.and_false] at this
              cases this
            · omega
          subst hkm
          have HFIN : Hid (C = 4 ∧ A = (k : Int)) := ⟨by rw [HC.out, if_pos hkn, HKO.out]; rfl, by rw [HA.out, if_pos hkn]⟩
          clear hbn hkd hkk
          rcases hcond with d1 | ⟨d1, d2⟩ | ⟨d1, d2, d3⟩
          all_goals
            go_wp2_with fail
            refine Calls.mono HIN.out ?_
            rintro e w1 ⟨rfl, hw1⟩
            have hw1' := hw1.symm
            subst hw1'
            go_wp2
            refine bodyPost_ret (v := .agg #[.int .i64 4, .int .i64 (k : Int)]) (by simp [results, Tryd.results25, go_sem, hx0, hx1]) rfl ⟨by rw [HFIN.out.1, HFIN.out.2], ?_⟩
            exact (HB0.out.setCell (Nat.le_refl _) _).setCell (Nat.le_refl _) _
      · have HKO : Hid (kindOk (K k) = false) := by show _ = _; unfold kindOk; exact decide_eq_false hkd
        have d1 : ((K k : Nat) : Int) ≠ 61 := by omega
        have d2 : ((K k : Nat) : Int) ≠ 33 := by omega
        have d3 : ((K k : Nat) : Int) ≠ 126 := by omega
        have hkm : k = m := by
          rcases Nat.lt_or_ge k m with h | h
          · have := HOK.out k h
            rw [HPK.out, HKO.out, Bool.false_and] at this
            cases this
          · omega
        subst hkm
        have HFIN : Hid (C = 11 ∧ A = (k : Int)) := ⟨by rw [HC.out, if_pos hkn, HKO.out]; rfl, by rw [HA.out, if_pos hkn]⟩
        obtain ⟨kk, hkk⟩ : ∃ kk, K k = kk := ⟨_, rfl⟩
        rw [hkk] at ck d1 d2 d3
        have e1 : ((kk : Int) != 61) = true := by rw [bne_iff_ne]; exact d1
        have e2 : ((kk : Int) != 33) = true := by rw [bne_iff_ne]; exact d2
        have e3 : ((kk : Int) != 126) = true := by rw [bne_iff_ne]; exact d3
        clear hkd hkk hkb d1 d2 d3
        go_wp2
        refine bodyPost_ret (v := .agg #[.int .i64 11, .int .i64 (k : Int)]) (by simp [results, Tryd.results25, go_sem, hx0, hx1]) rfl ⟨by rw [HFIN.out.1, HFIN.out.2], ?_⟩
        exact (HB0.out.setCell (Nat.le_refl _) _).setCell (Nat.le_refl _) _
    · have hmn : ¬ m < n := by omega
      have hge : (n : Int) ≤ (k : Int) := by omega
      have HMN : Hid (¬ m < n) := hmn
      clear hkn hmn hx0 hx1 hy0 hy1
      go_wp2_with fail
      refine (fine_any _).mono ?_
      rintro e w1 ⟨rfl, hb1⟩
      have hblk1 : w1.heap[w.heap.size]? = some (.cells #[.int .i64 0, .int .i64 0] 39 (0, 0)) := (hb1.block w.heap.size HWL.out).trans HBLK.out
      have c0 : w1.cell? ⟨w.heap.size, 0, none⟩ = some (.int .i64 0) := by simp [World.cell?, hblk1]
      have c1 : w1.cell? ⟨w.heap.size, 1, none⟩ = some (.int .i64 0) := by simp [World.cell?, hblk1]
      have z0 : w1.frozen? ⟨w.heap.size, 0, none⟩ = false := by simp [World.frozen?, hblk1]
      have z1 : w1.frozen? ⟨w.heap.size, 1, none⟩ = false := by simp [World.frozen?, hblk1]
      have hbb : Below w.heap.size w w1 := HB0.out.trans (hb1.mono (Nat.le_of_lt HWL.out))
      clear hb1 hblk1
      go_wp2
      refine bodyPost_ret (v := .agg #[.int .i64 0, .int .i64 (-1)]) (by simp [results, Tryd.results25, go_sem, c0, c1]) rfl ⟨by rw [HC.out, HA.out, if_neg HMN.out, if_neg HMN.out], ?_⟩
      exact (hbb.setCell (Nat.le_refl _) _).setCell (Nat.le_refl _) _
end Go.Proofs.YtnjmplmogibgfabDoor
/- The document's FitsOf by its contract: do right labels fit right matches? -/
namespace LabMath

/-- The value of a name; empty if there is none. -/
def valTo (N V : Nat → ByteArray) (x : ByteArray) : Nat → ByteArray
  | 0 => ⟨#[]⟩
  | k + 1 => if ((N k).toList == x.toList) = true then V k else valTo N V x k
def fitB (k : Nat) (v w : ByteArray) : Bool :=
  if k = 33 then !(v.toList == w.toList) else if k = 126 then decide (w.size ≤ v.size) && ((v.extract 0 w.size).toList == w.toList) else v.toList == w.toList
def fitsTo (N V : Nat → ByteArray) (n : Nat) (K : Nat → Nat) (X Y : Nat → ByteArray) : Nat → Bool
  | 0 => true
  | k + 1 => fitsTo N V n K X Y k && fitB (K k) (valTo N V (X k) n) (Y k)
theorem fits_no (N V : Nat → ByteArray) (n : Nat) (K : Nat → Nat) (X Y : Nat → ByteArray) (k : Nat) (h : fitB (K k) (valTo N V (X k) n) (Y k) = false) : ∀ m, k < m → fitsTo N V n K X Y m = false
  | 0, hk => absurd hk (by omega)
  | m + 1, hk => by
    rw [fitsTo]
    rcases Nat.lt_or_ge k m with h1 | h1
    · rw [fits_no N V n K X Y k h m h1, Bool.false_and]
    · have : k = m := by omega
      subst this
      rw [h, Bool.and_false]
end LabMath
namespace Go.Proofs.YtnjmplmogibgfabDoor
open Go.RowKit LabMath

set_option maxRecDepth 1000000 in
set_option maxHeartbeats 4000000 in
theorem fits_of (w : World) (la lm : Option Addr) (n c m cm : Nat) (N V : Nat → ByteArray) (K : Nat → Nat) (X Y : Nat → ByteArray) (hL : Labs w la n N V) (hM : Mats w lm m K X Y) (hn : n ≤ 1000) (hm : m ≤ 1000) :
    Calls Tryd.prog 26 #[.slice la n c, .slice lm m cm] w fun e w' => e = .returned (.bool (fitsTo N V n K X Y m)) ∧ ∃ q, w' = w.drewN q := by
  have HL : Hid (Labs w la n N V) := hL
  have HM : Hid (Mats w lm m K X Y) := hM
  clear hL hM
  go_enter Tryd.func26, Tryd.ntmps26
  go_wp2_with fail
  go_loopw [5] (fun i wr => ∃ k q : Nat, k ≤ m ∧ i = .int .i64 k ∧ fitsTo N V n K X Y k = true ∧ wr = w.drewN q) (fun i _ => m - (intOf i).toNat)
  case atStart => exact ⟨0, 0, Nat.zero_le _, rfl, rfl, rfl⟩
  case round =>
    obtain ⟨k, q, hk, rfl, hft, rfl⟩ := hrel
    by_cases hkm : k < m
    · obtain ⟨mb, mo, rfl, hcs⟩ := HM.out.at k hkm
      obtain ⟨ck, cx, cy, hkb⟩ := hcs k hkm
      have hk0 : (0 : Int) ≤ (k : Int) := by omega
      have hk1 : (k : Int) < (m : Int) := by omega
      have HNO := (show Hid _ from fits_no N V n K X Y k)
      have HYES : Hid (fitB (K k) (valTo N V (X k) n) (Y k) = true → fitsTo N V n K X Y (k + 1) = true) := fun h => by rw [fitsTo, hft, h]; rfl
      generalize K k = kk at *
      generalize X k = x at *
      generalize Y k = y at *
      clear hcs hft
      go_wp2_with fail
      go_loopw [6, 7] (fun t i wr => ∃ j p : Nat, j ≤ n ∧ i = .int .i64 j ∧ t = .string (valTo N V x j) ∧ wr = w.drewN p) (fun _ i _ => n - (intOf i).toNat)
      case atStart => exact ⟨0, q, Nat.zero_le _, rfl, rfl, rfl⟩
      case round =>
        obtain ⟨j, p, hj, rfl, rfl, rfl⟩ := hrel
        by_cases hjn : j < n
        · obtain ⟨lb, lo, rfl, hcl⟩ := HL.out.at j hjn
          obtain ⟨c0, c1⟩ := hcl j hjn
          have hj0 : (0 : Int) ≤ (j : Int) := by omega
          have hj1 : (j : Int) < (n : Int) := by omega
          have hst : valTo N V x (j + 1) = if ((N j).toList == x.toList) = true then V j else valTo N V x j := rfl
          generalize N j = nj at *
          generalize V j = vj at *
          clear hcl
          cases hq : (nj.toList == x.toList) with
          | true =>
            rw [hq, if_pos rfl] at hst
            have HST := (show Hid _ from hst)
            clear hst
            go_wp2_with fail
            go_quiet (fail)
            go_wp2
            go_roundw
            case rel => exact ⟨j + 1, _, by omega, by go_num, by rw [HST.out], by first | rfl | (rw [World.drewN_drewN])⟩
            case measure => simp [intOf] <;> omega
          | false =>
            rw [hq, if_neg (by decide)] at hst
            have HST := (show Hid _ from hst)
            clear hst
            go_wp2_with fail
            go_quiet (fail)
            go_wp2
            go_roundw
            case rel => exact ⟨j + 1, _, by omega, by go_num, by rw [HST.out], by first | rfl | (rw [World.drewN_drewN])⟩
            case measure => simp [intOf] <;> omega
        · have hje : j = n := by omega
          subst hje
          have hge : (j : Int) ≤ (j : Int) := Int.le_refl _
          generalize valTo N V x j = v at *
          by_cases h33 : kk = 33
          · subst h33
            cases hq : (v.toList == y.toList) with
            | true =>
              have HF := (show Hid _ from HNO.out (by unfold fitB; rw [if_pos rfl, hq]; rfl) m hkm)
              go_wp2
              go_ret
              exact ⟨by rw [HF.out]; rfl, p, rfl⟩
            | false =>
              have HF := (show Hid _ from HYES.out (by unfold fitB; rw [if_pos rfl, hq]; rfl))
              go_wp2
              go_roundw
              case rel => exact ⟨k + 1, p, by omega, by go_num, HF.out, by first | rfl | trivial⟩
              case measure => simp [intOf] <;> omega
          · have e33 : ((kk : Int) == 33) = false := by rw [beq_eq_false_iff_ne]; omega
            by_cases h126 : kk = 126
            · subst h126
              by_cases hsz : y.size ≤ v.size
              · have d1 : decide ((y.size : Int) ≤ (v.size : Int)) = true := by simp; omega
                have i1 : (y.size : Int) ≤ (v.size : Int) := by omega
                cases hq : ((v.extract 0 y.size).toList == y.toList) with
                | true =>
                  have HF := (show Hid _ from HYES.out (by unfold fitB; rw [if_neg (by decide), if_pos rfl, decide_eq_true hsz, hq]; rfl))
                  go_wp2
                  go_roundw
                  case rel => exact ⟨k + 1, p, by omega, by go_num, HF.out, by first | rfl | trivial⟩
                  case measure => simp [intOf] <;> omega
                | false =>
                  have HF := (show Hid _ from HNO.out (by unfold fitB; rw [if_neg (by decide), if_pos rfl, decide_eq_true hsz, hq]; rfl) m hkm)
                  go_wp2
                  go_ret
                  exact ⟨by rw [HF.out]; rfl, p, rfl⟩
              · have d1 : decide ((y.size : Int) ≤ (v.size : Int)) = false := by simp; omega
                have HF := (show Hid _ from HNO.out (by unfold fitB; rw [if_neg (by decide), if_pos rfl, decide_eq_false hsz]; rfl) m hkm)
                go_wp2
                go_ret
                exact ⟨by rw [HF.out]; rfl, p, rfl⟩
            · have e126 : ((kk : Int) == 126) = false := by rw [beq_eq_false_iff_ne]; omega
              cases hq : (v.toList == y.toList) with
              | true =>
                have HF := (show Hid _ from HYES.out (by unfold fitB; rw [if_neg h33, if_neg h126, hq]))
                go_wp2
                go_roundw
                case rel => exact ⟨k + 1, p, by omega, by go_num, HF.out, by first | rfl | trivial⟩
                case measure => simp [intOf] <;> omega
              | false =>
                have HF := (show Hid _ from HNO.out (by unfold fitB; rw [if_neg h33, if_neg h126, hq]) m hkm)
                go_wp2
                go_ret
                exact ⟨by rw [HF.out]; rfl, p, rfl⟩
    · have hke : k = m := by omega
      subst hke
      have hge : (k : Int) ≤ (k : Int) := Int.le_refl _
      have HFT := (show Hid _ from hft)
      clear hft
      go_wp2
      go_ret
      exact ⟨by rw [HFT.out]; rfl, q, rfl⟩
end Go.Proofs.YtnjmplmogibgfabDoor
/- The statements' LongLabels by its contract: are labels too long for a statement? -/
namespace Go.Proofs.YtnjmplmogibgfabDoor
open Go.RowKit LabMath

/-- What LongLabels answers: 1, or 0 of few and short labels. -/
def LongOut (w w' : World) (N V : Nat → ByteArray) (n : Nat) (e : Ending) : Prop :=
  w' = w ∧ (e = .returned (.int .i64 1) ∨ (e = .returned (.int .i64 0) ∧ n ≤ 20 ∧ ∀ i, i < n → (N i).size ≤ 60 ∧ (V i).size ≤ 60))

set_option maxRecDepth 1000000 in
set_option maxHeartbeats 1000000 in
theorem long_labels (w : World) (la : Option Addr) (n c : Nat) (N V : Nat → ByteArray) (hP : Labs w la n N V) (hn : (n : Int) ≤ 9223372036854775807) :
    Calls Tryd.prog 16 #[.slice la n c] w fun e w' => LongOut w w' N V n e := by
  have HP : Hid (Labs w la n N V) := hP
  clear hP
  by_cases h20 : 20 < n
  · have hd : decide ((20 : Int) < (n : Int)) = true := by simp; omega
    go_enter Tryd.func16, Tryd.ntmps16
    go_wp2
    go_ret
    exact ⟨rfl, .inl rfl⟩
  · have hd : decide ((20 : Int) < (n : Int)) = false := by simp; omega
    have hn20 : n ≤ 20 := by omega
    go_enter Tryd.func16, Tryd.ntmps16
    go_wp2_with fail
    go_loop [3] (fun i => ∃ k : Nat, k ≤ n ∧ i = .int .i64 k ∧ ∀ j, j < k → (N j).size ≤ 60 ∧ (V j).size ≤ 60) (fun i => n - (intOf i).toNat)
    case atStart => exact ⟨0, Nat.zero_le _, rfl, fun j h => absurd h (by omega)⟩
    case round =>
      obtain ⟨k, hk, rfl, hall⟩ := hrel
      have HALL := (show Hid _ from hall)
      clear hall
      by_cases hkn : k < n
      · obtain ⟨lb, lo, rfl, hcs⟩ := HP.out.at k hkn
        obtain ⟨c0, c1⟩ := hcs k hkn
        have hk0 : (0 : Int) ≤ (k : Int) := by omega
        have hk1 : (k : Int) < (n : Int) := by omega
        have HNX : Hid ((N k).size ≤ 60 → (V k).size ≤ 60 → ∀ j, j < k + 1 → (N j).size ≤ 60 ∧ (V j).size ≤ 60) := fun h1 h2 j hj => by
          rcases Nat.lt_or_ge j k with h | h
          · exact HALL.out j h
          · have : j = k := by omega
            subst this
            exact ⟨h1, h2⟩
        clear hcs
        generalize N k = x at *
        generalize V k = y at *
        by_cases h1 : 60 < x.size
        · have d1 : decide ((60 : Int) < (x.size : Int)) = true := by simp; omega
          go_wp2
          go_ret
          exact ⟨rfl, .inl rfl⟩
        · have d1 : decide ((60 : Int) < (x.size : Int)) = false := by simp; omega
          by_cases h2 : 60 < y.size
          · have d2 : decide ((60 : Int) < (y.size : Int)) = true := by simp; omega
            go_wp2
            go_ret
            exact ⟨rfl, .inl rfl⟩
          · have d2 : decide ((60 : Int) < (y.size : Int)) = false := by simp; omega
            have HN := (show Hid _ from HNX.out (by omega) (by omega))
            go_wp2
            go_round
            case rel => exact ⟨k + 1, by omega, by go_num, HN.out⟩
            case measure => simp [intOf]; omega
      · have hge : (n : Int) ≤ (k : Int) := by omega
        have HF : Hid (∀ i, i < n → (N i).size ≤ 60 ∧ (V i).size ≤ 60) := fun i hi => HALL.out i (by omega)
        go_wp2
        go_ret
        exact ⟨rfl, .inr ⟨rfl, hn20, HF.out⟩⟩
end Go.Proofs.YtnjmplmogibgfabDoor
