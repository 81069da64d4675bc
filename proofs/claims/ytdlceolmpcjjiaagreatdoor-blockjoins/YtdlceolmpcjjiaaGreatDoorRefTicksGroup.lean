/- The document's answers on ticks, by contracts: IsTick, Fine, TicksFault, TicksOf. -/
import Derived.Test.YtdlceolmpcjjiaaGreatDoorRefUnwave
import Derived.Test.YtdlceolmpcjjiaaGreatDoorSlicesIn
import Derived.Deep.QuietTactic
import Derived.BigQuiet
import Derived.Test.YtdlceolmpcjjiaaGreatDoorBitMathGroup
import Derived.Test.YtdlceolmpcjjiaaGreatDoorRefsGroup
import Derived.Lib.Builder
import Derived.Lib.AppendStr
import Derived.Lib.UnsafeStr
import Derived.Laws.Externs
import Derived.Deep.RegionHeld3
namespace Go.Proofs.YtdlceolmpcjjiaaGreatDoor
open Go.RowKit

/-- Is it a tick? -/
def isTick (t : Int) : Bool := decide (-1099511627776 ≤ t) && decide (t ≤ 1099511627776)
theorem isTick_iff (t : Int) : isTick t = true ↔ -1099511627776 ≤ t ∧ t ≤ 1099511627776 := by simp [isTick]

end Go.Proofs.YtdlceolmpcjjiaaGreatDoor
/- The document's answers on points, by contracts: Bare, PointsFault, SamePoints. -/
namespace Go.Proofs.YtdlceolmpcjjiaaGreatDoor
open Go.RowKit
/-- Is the i-th point well behind the one ahead? -/
def ptOk (T : Nat → Int) (i : Nat) : Bool := isTick (T i) && (decide (i = 0) || decide (T (i - 1) < T i))

set_option maxRecDepth 1000000 in
theorem same_points (w : World) (a b : Option Addr) (n ca cb : Nat) (T : Nat → Int) (B : Nat → Nat) (ha : Pts w a n T B) (hb : Pts w b n T B) (hn : (n : Int) ≤ 100000) :
    Calls Tryz.prog 21 #[.slice a n ca, .slice b n cb] w fun e w' => e = .returned (.bool true) ∧ ∃ q, w' = w.drewN q := by
  have HA : Hid (Pts w a n T B) := ha
  have HB : Hid (Pts w b n T B) := hb
  clear ha hb
  go_enter Tryz.func21, Tryz.ntmps21
  go_wp2_with fail
  go_loopw [4, 5] (fun s4 i wr => s4 = .bool false ∧ ∃ k q : Nat, k ≤ n ∧ i = .int .i64 k ∧ wr = w.drewN q) (fun _ i _ => n - (intOf i).toNat)
  case atStart => exact ⟨rfl, 0, 0, Nat.zero_le _, rfl, rfl⟩
  case round =>
    obtain ⟨rfl, k, q, hk, rfl, rfl⟩ := hrel
    by_cases hlt : k < n
    · obtain ⟨b1, o1, rfl, h1⟩ := HA.out.at k hlt
      obtain ⟨b2, o2, rfl, h2⟩ := HB.out.at k hlt
      obtain ⟨hc1, hd1, _⟩ := h1 k hlt
      obtain ⟨hc2, hd2, _⟩ := h2 k hlt
      have hk0 : (0 : Int) ≤ (k : Int) := by omega
      have hk1 : (k : Int) < (n : Int) := by omega
      generalize T k = t at *
      generalize B k = v at *
      clear h1 h2
      go_wp2_with fail
      go_quiet (fail)
      go_wp2
      go_roundw
      case rel => exact ⟨rfl, k + 1, _, by omega, by go_num, by first | rfl | (rw [World.drewN_drewN])⟩
      case measure => simp [intOf] <;> omega
    · have hge : (n : Int) ≤ (k : Int) := by omega
      go_wp2
      go_ret
      exact ⟨rfl, q, rfl⟩
end Go.Proofs.YtdlceolmpcjjiaaGreatDoor
/- The document's fault of labels, by its contract. -/
namespace Go.Proofs.YtdlceolmpcjjiaaGreatDoor
open Go.RowKit LabMath

theorem below_draws {b : Nat} {w w' : World} (h : Below b w w') (q : Nat) : Below b w (w'.drewN q) := h.trans ⟨rfl, rfl, rfl, Nat.le_refl _, fun _ _ => rfl⟩

/-- A slice that holds labels. -/
def Labs (w : World) (a : Option Addr) (n : Nat) (N V : Nat → ByteArray) : Prop :=
  n = 0 ∨ ∃ b o, a = some ⟨b, o, none⟩ ∧ ∀ k, k < n → w.cell? ⟨b, o + k * 2, none⟩ = some (.string (N k)) ∧ w.cell? ⟨b, o + k * 2 + 1, none⟩ = some (.string (V k))
theorem Labs.at {w : World} {a : Option Addr} {n : Nat} {N V : Nat → ByteArray} (h : Labs w a n N V) (k : Nat) (hk : k < n) :
    ∃ b o, a = some ⟨b, o, none⟩ ∧ ∀ k, k < n → w.cell? ⟨b, o + k * 2, none⟩ = some (.string (N k)) ∧ w.cell? ⟨b, o + k * 2 + 1, none⟩ = some (.string (V k)) := by
  rcases h with h | h
  · omega
  · exact h
/-- Is a text no more than another, byte by byte? -/
def leS (a b : ByteArray) : Bool := Op.bytesLess a.toList b.toList || a.toList == b.toList
/-- Is the i-th label well behind the one ahead? -/
def labOk (N V : Nat → ByteArray) (i : Nat) : Bool := (isName (N i) && isWord (V i)) && (decide (i = 0) || !leS (N i) (N (i - 1)))

end Go.Proofs.YtdlceolmpcjjiaaGreatDoor
/- label's Check by its contract. -/
namespace Go.Proofs.YtdlceolmpcjjiaaGreatDoor
open Go.RowKit LabMath

theorem cell_new {W : World} {C : Array Value} {t : TypeId} {s : Nat} (hs : W.heap.size = s) (i : Nat) : (W.alloc (.cells C t)).cell? ⟨s, i, none⟩ = C[i]? := by
  subst hs
  have hb : (W.alloc (.cells C t)).heap[W.heap.size]? = some (.cells C t (0, 0)) := heap_alloc_new _ _
  simp only [World.cell?, hb]
  exact if_neg (by decide)
/-- What Check answers: m is the first label that is not well, or the end. -/
def LChkOut (w w' : World) (N V : Nat → ByteArray) (m n : Nat) (aN aS : Addr) (e : Ending) : Prop :=
  Below w.heap.size w w' ∧ ((m = n ∧ e = .returned .nilIface) ∨ (m < n ∧ ∃ pb : Nat, e = .returned (.iface 118 (.pointer (some ⟨pb, 0, none⟩))) ∧ w.heap.size ≤ pb ∧ w'.cell? ⟨pb, 0, none⟩ = some (.int .i64 (m : Int)) ∧ w'.cell? ⟨pb, 1, none⟩ = some (.iface 313 (.pointer (some (if (isName (N m) && isWord (V m)) = true then aS else aN))))))
theorem lcheck_many (w : World) (la : Option Addr) (n c : Nat) (hn : 6 < n) (hn2 : (n : Int) ≤ 9223372036854775807) (a : Addr) (hE : w.cell? ⟨0, 0, none⟩ = some (.iface 313 (.pointer (some a)))) :
    Calls Tryz.prog 126 #[.slice la n c] w fun e w' => e = .returned (.iface 313 (.pointer (some a))) ∧ w' = w := by
  have hd : decide ((6 : Int) < (n : Int)) = true := by simp; omega
  have hd0 : ((n : Int) == 0) = false := by rw [beq_eq_false_iff_ne]; omega
  go_enter Tryz.func126, Tryz.ntmps126
  go_wp2
  go_ret
  exact ⟨rfl, rfl⟩

set_option maxRecDepth 1000000 in
set_option maxHeartbeats 2000000 in
/-- Check: up to m all are well; m is the first that is not, or the end. -/
theorem lcheck_any (w : World) (la : Option Addr) (n c : Nat) (N V : Nat → ByteArray) (hP : Labs w la n N V) (hsz : ∀ i, i < n → (N i).size ≤ 1000000 ∧ (V i).size ≤ 1000000) (h0 : 1 ≤ n) (hn : n ≤ 6) (m : Nat) (hm : m ≤ n) (hok : ∀ i, i < m → labOk N V i = true) (hbad : m < n → labOk N V m = false)
    (aN aS : Addr) (hEN : w.cell? ⟨3, 0, none⟩ = some (.iface 313 (.pointer (some aN)))) (hES : w.cell? ⟨2, 0, none⟩ = some (.iface 313 (.pointer (some aS)))) :
    Calls Tryz.prog 126 #[.slice la n c] w fun e w' => LChkOut w w' N V m n aN aS e := by
  have HP : Hid (Labs w la n N V) := hP
  have HOK := (show Hid _ from hok)
  have HBAD := (show Hid _ from hbad)
  have HSZ := (show Hid _ from hsz)
  have HEN := (show Hid _ from hEN)
  have HES := (show Hid _ from hES)
  have hGN : 3 < w.heap.size := World.block_lt_of_cell? w ⟨3, 0, none⟩ hEN
  have hGS : 2 < w.heap.size := World.block_lt_of_cell? w ⟨2, 0, none⟩ hES
  have hd : decide ((6 : Int) < (n : Int)) = false := by simp; omega
  have hd0 : ((n : Int) == 0) = false := by rw [beq_eq_false_iff_ne]; omega
  clear hP hok hbad hEN hES hsz
  go_enter Tryz.func126, Tryz.ntmps126
  go_wp2_with fail
  go_loopw [3, 4, 15] (fun _ _ i wr => ∃ k : Nat, k ≤ m ∧ i = .int .i64 k ∧ Below w.heap.size w wr) (fun _ _ i _ => n - (intOf i).toNat)
  case atStart => exact ⟨0, Nat.zero_le _, rfl, Below.refl _ _⟩
  case round =>
    obtain ⟨k, hk, rfl, hbr⟩ := hrel
    by_cases hkn : k < n
    · obtain ⟨lb, lo, rfl, hcs⟩ := HP.out.at k hkn
      obtain ⟨c0, c1⟩ := hcs k hkn
      have hlb : lb < w.heap.size := World.block_lt_of_cell? w ⟨lb, _, none⟩ c0
      have hk0 : (0 : Int) ≤ (k : Int) := by omega
      have hk1 : (k : Int) < (n : Int) := by omega
      have e0 : wr.cell? ⟨lb, lo + k * 2, none⟩ = some (.string (N k)) := (hbr.cell (p := ⟨lb, _, none⟩) hlb).trans c0
      have e1 : wr.cell? ⟨lb, lo + k * 2 + 1, none⟩ = some (.string (V k)) := (hbr.cell (p := ⟨lb, _, none⟩) hlb).trans c1
      have HBR := (show Hid _ from hbr)
      have hwl := hbr.size
      have hlw : lb ≠ wr.heap.size := by omega
      have gN : wr.cell? ⟨3, 0, none⟩ = some (.iface 313 (.pointer (some aN))) := (hbr.cell (p := ⟨3, 0, none⟩) hGN).trans HEN.out
      have gS : wr.cell? ⟨2, 0, none⟩ = some (.iface 313 (.pointer (some aS))) := (hbr.cell (p := ⟨2, 0, none⟩) hGS).trans HES.out
      have hG1 : 3 < wr.heap.size := by omega
      have hG7 : 2 < wr.heap.size := by omega
      have hin := fun w0 => lisName_any (N k) w0 (HSZ.out k hkn).1
      have hiw := fun w0 => lisValue_any (V k) w0 (HSZ.out k hkn).2
      have hpk : labOk N V k = ((isName (N k) && isWord (V k)) && (decide (k = 0) || !leS (N k) (N (k - 1)))) := rfl
      have HIF : Hid ((if (isName (N k) && isWord (V k)) = true then aS else aN) = (if (isName (N k) && isWord (V k)) = true then aS else aN)) := rfl
      obtain ⟨bn, hbn⟩ : ∃ bn, isName (N k) = bn := ⟨_, rfl⟩
      obtain ⟨bw, hbw⟩ : ∃ bw, isWord (V k) = bw := ⟨_, rfl⟩
      rw [hbn] at hin hpk
      rw [hbw] at hiw hpk
      have HIN := (show Hid _ from hin)
      have HIW := (show Hid _ from hiw)
      have HPK := (show Hid _ from hpk)
      have HBN := (show Hid _ from hbn)
      have HBW := (show Hid _ from hbw)
      clear hin hiw hpk hbn hbw hbr c0 c1 HIF
      cases hbb : (bn && bw) with
      | false =>
        have hkm : k = m := by
          rcases Nat.lt_or_ge k m with h | h
          · have := HOK.out k h
            rw [HPK.out, hbb] at this
            cases this
          · omega
        subst hkm
        have HIF : Hid ((if (isName (N k) && isWord (V k)) = true then aS else aN) = aN) := by show _ = _; rw [HBN.out, HBW.out, hbb]; rfl
        have hor : (!bn || !bw) = true := by revert hbb; cases bn <;> cases bw <;> decide
        clear hcs hbb
        obtain ⟨t1, ht1⟩ : ∃ t1, N k = t1 := ⟨_, rfl⟩
        obtain ⟨t2, ht2⟩ : ∃ t2, V k = t2 := ⟨_, rfl⟩
        rw [ht1] at e0 HIN
        rw [ht2] at e1 HIW
        have HT1 := (show Hid _ from ht1)
        have HT2 := (show Hid _ from ht2)
        clear ht1 ht2
        go_wp2_with fail
        refine Calls.mono (HIN.out _) ?_
        rintro e w1 ⟨rfl, hw1⟩
        have hw1' := hw1
        subst hw1'
        cases bn with
        | false =>
          go_wp2
          go_ret
          exact ⟨(HBR.out.alloc hwl _).alloc (by simp; omega) _, .inr ⟨hkn, wr.heap.size + 1, by simp, by omega, (cell_new (by simp) 0).trans (by simp), (cell_new (by simp) 1).trans (by rw [HIF.out]; simp)⟩⟩
        | true =>
          cases bw with
          | false =>
            go_wp2_with fail
            refine Calls.mono (HIW.out _) ?_
            rintro e w1 ⟨rfl, hw1⟩
            have hw1' := hw1
            subst hw1'
            go_wp2
            go_ret
            exact ⟨(HBR.out.alloc hwl _).alloc (by simp; omega) _, .inr ⟨hkn, wr.heap.size + 1, by simp, by omega, (cell_new (by simp) 0).trans (by simp), (cell_new (by simp) 1).trans (by rw [HIF.out]; simp)⟩⟩
          | true => simp at hor
      | true =>
        have hbn1 : bn = true := by revert hbb; cases bn <;> simp
        have hbw1 : bw = true := by revert hbb; cases bw <;> simp
        subst hbn1 hbw1
        by_cases hz : k = 0
        · subst hz
          have hm0 : 0 < m := by
            rcases Nat.lt_or_ge 0 m with h | h
            · exact h
            · exfalso
              have hm00 : m = 0 := by omega
              have := HBAD.out (by omega)
              rw [hm00, HPK.out] at this
              simp at this
          have e00 : wr.cell? ⟨lb, lo, none⟩ = some (.string (N 0)) := by simpa using e0
          have e11 : wr.cell? ⟨lb, lo + 1, none⟩ = some (.string (V 0)) := by simpa using e1
          clear hcs e0 e1 hbb
          go_wp2_with fail
          refine Calls.mono (HIN.out _) ?_
          rintro e w1 ⟨rfl, hw1⟩
          have hw1' := hw1
          subst hw1'
          go_wp2_with fail
          refine Calls.mono (HIW.out _) ?_
          rintro e w1 ⟨rfl, hw1⟩
          have hw1' := hw1
          subst hw1'
          go_wp2_with fail
          go_quiet (fail)
          go_wp2
          go_roundw
          case rel => exact ⟨1, by omega, by go_num, below_draws (HBR.out.alloc hwl _) _⟩
          case measure => simp [intOf] <;> omega
        · obtain ⟨j, rfl⟩ : ∃ j, k = j + 1 := ⟨k - 1, by omega⟩
          have hcj := (hcs j (by omega)).1
          have ej : wr.cell? ⟨lb, lo + j * 2, none⟩ = some (.string (N j)) := (HBR.out.cell (p := ⟨lb, _, none⟩) hlb).trans hcj
          have hll : lb < wr.heap.size := by omega
          have ejA : ∀ o : Obj, (wr.alloc o).cell? ⟨lb, lo + j * 2, none⟩ = some (.string (N j)) := fun o => (World.cell?_alloc_lt wr o ⟨lb, _, none⟩ hll).trans ej
          have i1 : (0 : Int) ≤ (j : Int) + 1 - 1 := by omega
          have i2 : (j : Int) + 1 - 1 < (n : Int) := by omega
          have i3 : (0 : Int) < (j : Int) + 1 := by omega
          have hpk : labOk N V (j + 1) = !leS (N (j + 1)) (N j) := by
            rw [HPK.out]
            simp
          have hle : leS (N (j + 1)) (N j) = (Op.bytesLess (N (j + 1)).toList (N j).toList || (N (j + 1)).toList == (N j).toList) := rfl
          cases hll2 : leS (N (j + 1)) (N j) with
          | false =>
            have hkm : j + 1 < m := by
              rcases Nat.lt_or_ge (j + 1) m with h | h
              · exact h
              · exfalso
                have hme : m = j + 1 := by omega
                have := HBAD.out (by omega)
                rw [hme, hpk, hll2] at this
                cases this
            rw [hll2] at hle
            have hle' := hle.symm
            clear hcs hpk hll2 hle hbb hcj
            generalize N (j + 1) = t1 at *
            generalize N j = t0 at *
            generalize V (j + 1) = t2 at *
            go_wp2_with fail
            refine Calls.mono (HIN.out _) ?_
            rintro e w1 ⟨rfl, hw1⟩
            have hw1' := hw1
            subst hw1'
            go_wp2_with fail
            refine Calls.mono (HIW.out _) ?_
            rintro e w1 ⟨rfl, hw1⟩
            have hw1' := hw1
            subst hw1'
            go_wp2_with fail
            go_quiet (fail)
            go_wp2
            go_roundw
            case rel => exact ⟨j + 2, by omega, by go_num, below_draws (HBR.out.alloc hwl _) _⟩
            case measure => simp [intOf] <;> omega
          | true =>
            have hkm : j + 1 = m := by
              rcases Nat.lt_or_ge (j + 1) m with h | h
              · have := HOK.out (j + 1) h
                rw [hpk, hll2] at this
                cases this
              · omega
            subst hkm
            rw [hll2] at hle
            have hle' := hle.symm
            have HIF : Hid ((if (isName (N (j + 1)) && isWord (V (j + 1))) = true then aS else aN) = aS) := by show _ = _; rw [HBN.out, HBW.out]; rfl
            clear hcs hpk hll2 hle hbb hcj HP HOK HBAD
            obtain ⟨t1, ht1⟩ : ∃ t1, N (j + 1) = t1 := ⟨_, rfl⟩
            obtain ⟨t0, ht0⟩ : ∃ t0, N j = t0 := ⟨_, rfl⟩
            obtain ⟨t2, ht2⟩ : ∃ t2, V (j + 1) = t2 := ⟨_, rfl⟩
            rw [ht1] at e0 hle' HIN
            rw [ht0] at ej ejA hle'
            rw [ht2] at e1 HIW
            clear ht1 ht0 ht2
            go_wp2_with fail
            refine Calls.mono (HIN.out _) ?_
            rintro e w1 ⟨rfl, hw1⟩
            have hw1' := hw1
            subst hw1'
            go_wp2_with fail
            refine Calls.mono (HIW.out _) ?_
            rintro e w1 ⟨rfl, hw1⟩
            have hw1' := hw1
            subst hw1'
            go_wp2_with fail
            go_quiet (fail)
            go_wp2
            go_ret
            exact ⟨(below_draws (HBR.out.alloc hwl _) _).alloc (by simp; omega) _, .inr ⟨hkn, wr.heap.size + 1, by simp, by omega, (cell_new (by show (wr.alloc _).heap.size = _; simp) 0).trans (by simp), (cell_new (by show (wr.alloc _).heap.size = _; simp) 1).trans (by rw [HIF.out]; simp)⟩⟩
    · have hkm : k = m := by omega
      have hmn : m = n := by omega
      have hge : (n : Int) ≤ (k : Int) := by omega
      have HBR := (show Hid _ from hbr)
      clear hbr
      go_wp2
      go_ret
      exact ⟨HBR.out, .inl ⟨hmn, rfl⟩⟩
end Go.Proofs.YtdlceolmpcjjiaaGreatDoor
/- strings.Builder's WriteString and String by contracts, over this program. -/
namespace Go.Proofs.YtdlceolmpcjjiaaGreatDoor
open Go.RowKit
end Go.Proofs.YtdlceolmpcjjiaaGreatDoor
/- The document's text of labels, by its contract. -/
namespace LabMath
end LabMath
namespace Go.Proofs.YtdlceolmpcjjiaaGreatDoor
open Go.RowKit LabMath
end Go.Proofs.YtdlceolmpcjjiaaGreatDoor
/- label's Text by its contract. -/
namespace Go.Proofs.YtdlceolmpcjjiaaGreatDoor
open Go.RowKit LabMath
end Go.Proofs.YtdlceolmpcjjiaaGreatDoor
/- The document's answer on masks, by contracts: zeros, turned, MaskOf. -/
namespace Go.Proofs.YtdlceolmpcjjiaaGreatDoor
open Go.RowKit
end Go.Proofs.YtdlceolmpcjjiaaGreatDoor
/- chunk's Check by its contract. -/
namespace Go.Proofs.YtdlceolmpcjjiaaGreatDoor
open Go.RowKit

theorem below_drewN {b : Nat} {w w' : World} (h : Below b w w') (q : Nat) : Below b w (w'.drewN q) := h.trans ⟨rfl, rfl, rfl, Nat.le_refl _, fun _ _ => rfl⟩

theorem new_cell {W : World} {C : Array Value} {t : TypeId} {s : Nat} (hs : W.heap.size = s) (i : Nat) : (W.alloc (.cells C t)).cell? ⟨s, i, none⟩ = C[i]? := by
  subst hs
  have hb : (W.alloc (.cells C t)).heap[W.heap.size]? = some (.cells C t (0, 0)) := heap_alloc_new _ _
  simp only [World.cell?, hb]
  exact if_neg (by decide)
/-- What Check answers: m is the first point that is not well, or the end. -/
def ChkOut (w w' : World) (T : Nat → Int) (m n : Nat) (aB aO : Addr) (e : Ending) : Prop :=
  Below w.heap.size w w' ∧ ((m = n ∧ e = .returned .nilIface) ∨ (m < n ∧ ∃ pb : Nat, e = .returned (.iface 118 (.pointer (some ⟨pb, 0, none⟩))) ∧ w.heap.size ≤ pb ∧ w'.cell? ⟨pb, 0, none⟩ = some (.int .i64 (m : Int)) ∧ w'.cell? ⟨pb, 1, none⟩ = some (.iface 313 (.pointer (some (if isTick (T m) = true then aO else aB))))))
theorem check_many (w : World) (la : Option Addr) (n c : Nat) (hn : 120 < n) (hn2 : (n : Int) ≤ 9223372036854775807) (a : Addr) (hE : w.cell? ⟨0, 0, none⟩ = some (.iface 313 (.pointer (some a)))) :
    Calls Tryz.prog 100 #[.slice la n c] w fun e w' => e = .returned (.iface 313 (.pointer (some a))) ∧ w' = w := by
  have hd : decide ((120 : Int) < (n : Int)) = true := by simp; omega
  go_enter Tryz.func100, Tryz.ntmps100
  go_wp2
  go_ret
  exact ⟨rfl, rfl⟩

set_option maxRecDepth 1000000 in
set_option maxHeartbeats 1000000 in
/-- Check: up to m all are well; m is the first that is not, or the end. -/
theorem check_any (w : World) (la : Option Addr) (n c : Nat) (T : Nat → Int) (B : Nat → Nat) (hP : Pts w la n T B) (hn : n ≤ 120) (m : Nat) (hm : m ≤ n) (hok : ∀ i, i < m → ptOk T i = true) (hbad : m < n → ptOk T m = false)
    (aB aO : Addr) (hEB : w.cell? ⟨0, 0, none⟩ = some (.iface 313 (.pointer (some aB)))) (hEO : w.cell? ⟨7, 0, none⟩ = some (.iface 313 (.pointer (some aO)))) :
    Calls Tryz.prog 100 #[.slice la n c] w fun e w' => ChkOut w w' T m n aB aO e := by
  have HP : Hid (Pts w la n T B) := hP
  have HOK := (show Hid _ from hok)
  have HBAD := (show Hid _ from hbad)
  have HEB := (show Hid _ from hEB)
  have HEO := (show Hid _ from hEO)
  have hGB : 0 < w.heap.size := World.block_lt_of_cell? w ⟨0, 0, none⟩ hEB
  have hGO : 7 < w.heap.size := World.block_lt_of_cell? w ⟨7, 0, none⟩ hEO
  have hd : decide ((120 : Int) < (n : Int)) = false := by simp; omega
  clear hP hok hbad hEB hEO
  go_enter Tryz.func100, Tryz.ntmps100
  go_wp2_with fail
  go_loopw [3, 4, 11] (fun _ _ i wr => ∃ k : Nat, k ≤ m ∧ i = .int .i64 k ∧ Below w.heap.size w wr) (fun _ _ i _ => n - (intOf i).toNat)
  case atStart => exact ⟨0, Nat.zero_le _, rfl, Below.refl _ _⟩
  case round =>
    obtain ⟨k, hk, rfl, hbr⟩ := hrel
    by_cases hkn : k < n
    · obtain ⟨lb, lo, rfl, hcs⟩ := HP.out.at k hkn
      obtain ⟨c0, c1, _⟩ := hcs k hkn
      have hlb : lb < w.heap.size := World.block_lt_of_cell? w ⟨lb, _, none⟩ c0
      have hk0 : (0 : Int) ≤ (k : Int) := by omega
      have hk1 : (k : Int) < (n : Int) := by omega
      have e0 : wr.cell? ⟨lb, lo + k * 2, none⟩ = some (.int .i64 (T k)) := (hbr.cell (p := ⟨lb, _, none⟩) hlb).trans c0
      have e1 : wr.cell? ⟨lb, lo + k * 2 + 1, none⟩ = some (.int .u64 (B k : Int)) := (hbr.cell (p := ⟨lb, _, none⟩) hlb).trans c1
      have HBR := (show Hid _ from hbr)
      have hwl := hbr.size
      have hlw : lb ≠ wr.heap.size := by omega
      have g1 : wr.cell? ⟨0, 0, none⟩ = some (.iface 313 (.pointer (some aB))) := (hbr.cell (p := ⟨0, 0, none⟩) hGB).trans HEB.out
      have g7 : wr.cell? ⟨7, 0, none⟩ = some (.iface 313 (.pointer (some aO))) := (hbr.cell (p := ⟨7, 0, none⟩) hGO).trans HEO.out
      have hG1 : 0 < wr.heap.size := by omega
      have hG7 : 7 < wr.heap.size := by omega
      clear hbr c0 c1
      cases htk : isTick (T k) with
      | false =>
        have hkm : k = m := by
          rcases Nat.lt_or_ge k m with h | h
          · have := HOK.out k h
            unfold ptOk at this
            rw [htk] at this
            cases this
          · omega
        subst hkm
        have HTK := (show Hid _ from htk)
        have HIF : Hid ((if isTick (T k) = true then aO else aB) = aB) := by show _ = _; rw [htk]; rfl
        have hout : T k < -1099511627776 ∨ 1099511627776 < T k := by
          unfold isTick at htk
          simp at htk
          omega
        clear htk HTK hcs HP HOK HBAD
        obtain ⟨t, ht⟩ : ∃ t, T k = t := ⟨_, rfl⟩
        rw [ht] at e0 hout
        have HTT := (show Hid _ from ht)
        clear ht
        generalize B k = y at *
        rcases hout with h | h
        · have d1 : decide (t < -1099511627776) = true := decide_eq_true h
          go_wp2
          go_ret
          exact ⟨(HBR.out.alloc hwl _).alloc (by simp; omega) _, .inr ⟨hkn, wr.heap.size + 1, by simp, by omega, by simp, by rw [HIF.out]; simp⟩⟩
        · have d1 : decide (t < -1099511627776) = false := decide_eq_false (by omega)
          have d2 : decide (1099511627776 < t) = true := decide_eq_true h
          go_wp2
          go_ret
          exact ⟨(HBR.out.alloc hwl _).alloc (by simp; omega) _, .inr ⟨hkn, wr.heap.size + 1, by simp, by omega, by simp, by rw [HIF.out]; simp⟩⟩
      | true =>
        have hin := (isTick_iff _).1 htk
        have d1 : decide (T k < -1099511627776) = false := decide_eq_false (by omega)
        have d2 : decide (1099511627776 < T k) = false := decide_eq_false (by omega)
        by_cases hz : k = 0
        · subst hz
          have hm0 : 0 < m := by
            rcases Nat.lt_or_ge 0 m with h | h
            · exact h
            · exfalso
              have hm00 : m = 0 := by omega
              have := HBAD.out (by omega)
              rw [hm00] at this
              unfold ptOk at this
              rw [htk] at this
              simp at this
          have e00 : wr.cell? ⟨lb, lo, none⟩ = some (.int .i64 (T 0)) := by simpa using e0
          have e11 : wr.cell? ⟨lb, lo + 1, none⟩ = some (.int .u64 (B 0 : Int)) := by simpa using e1
          clear htk hcs e0 e1
          go_wp2_with fail
          go_quiet (fail)
          go_wp2
          go_roundw
          case rel => exact ⟨1, by omega, by go_num, below_drewN (HBR.out.alloc hwl _) _⟩
          case measure => simp [intOf] <;> omega
        · obtain ⟨j, rfl⟩ : ∃ j, k = j + 1 := ⟨k - 1, by omega⟩
          have hcj := (hcs j (by omega)).1
          have ej : wr.cell? ⟨lb, lo + j * 2, none⟩ = some (.int .i64 (T j)) := (HBR.out.cell (p := ⟨lb, _, none⟩) hlb).trans hcj
          have hll : lb < wr.heap.size := by omega
          have ejA : ∀ o : Obj, (wr.alloc o).cell? ⟨lb, lo + j * 2, none⟩ = some (.int .i64 (T j)) := fun o => (World.cell?_alloc_lt wr o ⟨lb, _, none⟩ hll).trans ej
          have hpk : ptOk T (j + 1) = decide (T j < T (j + 1)) := by unfold ptOk; rw [htk]; simp
          have i1 : (0 : Int) ≤ (j : Int) + 1 - 1 := by omega
          have i2 : (j : Int) + 1 - 1 < (n : Int) := by omega
          have i3 : (0 : Int) < (j : Int) + 1 := by omega
          by_cases hlt : T j < T (j + 1)
          · have hkm : j + 1 < m := by
              rcases Nat.lt_or_ge (j + 1) m with h | h
              · exact h
              · exfalso
                have hme : m = j + 1 := by omega
                have := HBAD.out (by omega)
                rw [hme, hpk] at this
                simp at this
                omega
            have hdec : decide (T (j + 1) ≤ T j) = false := by simp; omega
            clear hcs htk hpk hlt hcj
            generalize T (j + 1) = t1 at *
            generalize T j = t0 at *
            generalize B (j + 1) = y1 at *
            go_wp2_with fail
            go_quiet (fail)
            go_wp2
            go_roundw
            case rel => exact ⟨j + 2, by omega, by go_num, below_drewN (HBR.out.alloc hwl _) _⟩
            case measure => simp [intOf] <;> omega
          · have hkm : j + 1 = m := by
              rcases Nat.lt_or_ge (j + 1) m with h | h
              · have := HOK.out (j + 1) h
                rw [hpk] at this
                simp at this
                omega
              · omega
            have hle : T (j + 1) ≤ T j := by omega
            have hdec : decide (T (j + 1) ≤ T j) = true := by simpa using hle
            subst hkm
            have HIF : Hid ((if isTick (T (j + 1)) = true then aO else aB) = aO) := by show _ = _; rw [htk]; rfl
            clear hcs htk hpk hlt hcj HP HOK HBAD
            obtain ⟨t1, ht1⟩ : ∃ t1, T (j + 1) = t1 := ⟨_, rfl⟩
            rw [ht1] at e0 hdec d1 d2 hin hle
            generalize T j = t0 at *
            have HTT := (show Hid _ from ht1)
            clear ht1
            generalize B (j + 1) = y1 at *
            go_wp2_with fail
            go_quiet (fail)
            go_wp2
            go_ret
            exact ⟨(below_drewN (HBR.out.alloc hwl _) _).alloc (by simp; omega) _, .inr ⟨hkn, wr.heap.size + 1, by simp, by omega, (new_cell (by show (wr.alloc _).heap.size = _; simp) 0).trans (by simp), (new_cell (by show (wr.alloc _).heap.size = _; simp) 1).trans (by rw [HIF.out]; simp)⟩⟩
    · have hkm : k = m := by omega
      have hmn : m = n := by omega
      have hge : (n : Int) ≤ (k : Int) := by omega
      have HBR := (show Hid _ from hbr)
      clear hbr
      go_wp2
      go_ret
      exact ⟨HBR.out, .inl ⟨hmn, rfl⟩⟩
end Go.Proofs.YtdlceolmpcjjiaaGreatDoor
