/- The document's answers on ticks, by contracts: IsTick, Fine, TicksFault, TicksOf. -/
import Derived.Test.YtgdflopgdlpimabDoorRefUnwave
import Derived.Test.YtgdflopgdlpimabDoorSlicesIn
import Derived.Deep.QuietTactic
import Derived.BigQuiet
import Derived.Test.YtgdflopgdlpimabDoorBitMathGroup
import Derived.Test.YtgdflopgdlpimabDoorRefsGroup
import Derived.Deep.RegionHeld3
namespace Go.Proofs.YtgdflopgdlpimabDoor
open Go.RowKit

/-- Is it a tick? -/
def isTick (t : Int) : Bool := decide (-1099511627776 ≤ t) && decide (t ≤ 1099511627776)
theorem isTick_iff (t : Int) : isTick t = true ↔ -1099511627776 ≤ t ∧ t ≤ 1099511627776 := by simp [isTick]

/-- The variable of the result, behind what makes memory. -/
theorem one_block {w w2 : World} {C : Array Value} {t : TypeId} (h : Below (w.alloc (.cells C t)).heap.size (w.alloc (.cells C t)) w2) :
    (∀ i, w2.cell? ⟨w.heap.size, i, none⟩ = C[i]?) ∧ (∀ i, w2.frozen? ⟨w.heap.size, i, none⟩ = false) ∧ Below w.heap.size w w2 := by
  have hb : w2.heap[w.heap.size]? = some (.cells C t (0, 0)) := by
    rw [h.block w.heap.size (by simp)]
    exact heap_alloc_new _ _
  have hb0 : Below w.heap.size w (w.alloc (.cells C t)) := (Below.refl _ _).alloc (Nat.le_refl _) _
  exact ⟨fun i => by simp [World.cell?, hb], fun i => by simp [World.frozen?, hb], hb0.trans (h.mono (by simp))⟩

end Go.Proofs.YtgdflopgdlpimabDoor
/- The document's answer on masks, by contracts: zeros, turned, MaskOf. -/
namespace Go.Proofs.YtgdflopgdlpimabDoor
open Go.RowKit

theorem bit_48 (s : ByteArray) (bs : List Bool) (hs : s = BitMath.txt bs) (i : Nat) (h : i < s.size) (b : Bool) (hb : bs[i]? = some b) : (((s[i]).toNat : Int) == 48) = !b := by
  subst hs
  rw [BitMath.txt_get bs i h]
  have h' : i < bs.length := by rw [BitMath.txt_size] at h; exact h
  rw [List.getElem?_eq_getElem h'] at hb
  rw [Option.some.inj hb]
  cases b <;> rfl

theorem turned_step (P : Program) (bs : List Bool) (k : Nat) (s : ByteArray) (hs : s = BitMath.txt bs) (hk : k < bs.length) (hl : bs.length ≤ 1000) (w : World) :
    (Op.stringOp .add (s.extract k (k + 1)) (BitMath.txt (bs.take k).reverse)).run P w = .ok (.string (BitMath.txt (bs.take (k + 1)).reverse)) w := by
  subst hs
  have e : (BitMath.txt bs).extract k (k + 1) = BitMath.txt [bs[k]] := by
    rw [BitMath.txt_extract, show k + 1 - k = 1 by omega, List.drop_eq_getElem_cons hk]
    rfl
  rw [e, add_txt P [bs[k]] (bs.take k).reverse (by simp; omega) w, List.take_succ_eq_append_getElem hk, List.reverse_append]
  rfl

end Go.Proofs.YtgdflopgdlpimabDoor
/- The document's answers on points, by contracts: Bare, PointsFault, SamePoints. -/
namespace Go.Proofs.YtgdflopgdlpimabDoor
open Go.RowKit
/-- Is the i-th point well behind the one ahead? -/
def ptOk (T : Nat → Int) (i : Nat) : Bool := isTick (T i) && (decide (i = 0) || decide (T (i - 1) < T i))

end Go.Proofs.YtgdflopgdlpimabDoor
/- chunk's Check by its contract. -/
namespace Go.Proofs.YtgdflopgdlpimabDoor
open Go.RowKit

theorem below_drewN {b : Nat} {w w' : World} (h : Below b w w') (q : Nat) : Below b w (w'.drewN q) := h.trans ⟨rfl, rfl, rfl, Nat.le_refl _, fun _ _ => rfl⟩

theorem new_cell {W : World} {C : Array Value} {t : TypeId} {s : Nat} (hs : W.heap.size = s) (i : Nat) : (W.alloc (.cells C t)).cell? ⟨s, i, none⟩ = C[i]? := by
  subst hs
  have hb : (W.alloc (.cells C t)).heap[W.heap.size]? = some (.cells C t (0, 0)) := heap_alloc_new _ _
  simp only [World.cell?, hb]
  exact if_neg (by decide)
/-- What Check answers: m is the first point that is not well, or the end. -/
def ChkOut (w w' : World) (T : Nat → Int) (m n : Nat) (aB aO : Addr) (e : Ending) : Prop :=
  Below w.heap.size w w' ∧ ((m = n ∧ e = .returned .nilIface) ∨ (m < n ∧ ∃ pb : Nat, e = .returned (.iface 54 (.pointer (some ⟨pb, 0, none⟩))) ∧ w.heap.size ≤ pb ∧ w'.cell? ⟨pb, 0, none⟩ = some (.int .i64 (m : Int)) ∧ w'.cell? ⟨pb, 1, none⟩ = some (.iface 141 (.pointer (some (if isTick (T m) = true then aO else aB))))))
theorem check_many (w : World) (la : Option Addr) (n c : Nat) (hn : 120 < n) (hn2 : (n : Int) ≤ 9223372036854775807) (a : Addr) (hE : w.cell? ⟨2, 0, none⟩ = some (.iface 141 (.pointer (some a)))) :
    Calls Tryd.prog 10 #[.slice la n c] w fun e w' => e = .returned (.iface 141 (.pointer (some a))) ∧ w' = w := by
  have hd : decide ((120 : Int) < (n : Int)) = true := by simp; omega
  go_enter Tryd.func10, Tryd.ntmps10
  go_wp2
  go_ret
  exact ⟨rfl, rfl⟩

set_option maxRecDepth 1000000 in
set_option maxHeartbeats 1000000 in
/-- Check: up to m all are well; m is the first that is not, or the end. -/
theorem check_any (w : World) (la : Option Addr) (n c : Nat) (T : Nat → Int) (B : Nat → Nat) (hP : Pts w la n T B) (hn : n ≤ 120) (m : Nat) (hm : m ≤ n) (hok : ∀ i, i < m → ptOk T i = true) (hbad : m < n → ptOk T m = false)
    (aB aO : Addr) (hEB : w.cell? ⟨2, 0, none⟩ = some (.iface 141 (.pointer (some aB)))) (hEO : w.cell? ⟨3, 0, none⟩ = some (.iface 141 (.pointer (some aO)))) :
    Calls Tryd.prog 10 #[.slice la n c] w fun e w' => ChkOut w w' T m n aB aO e := by
  have HP : Hid (Pts w la n T B) := hP
  have HOK := (show Hid _ from hok)
  have HBAD := (show Hid _ from hbad)
  have HEB := (show Hid _ from hEB)
  have HEO := (show Hid _ from hEO)
  have hGB : 2 < w.heap.size := World.block_lt_of_cell? w ⟨2, 0, none⟩ hEB
  have hGO : 3 < w.heap.size := World.block_lt_of_cell? w ⟨3, 0, none⟩ hEO
  have hd : decide ((120 : Int) < (n : Int)) = false := by simp; omega
  clear hP hok hbad hEB hEO
  go_enter Tryd.func10, Tryd.ntmps10
  go_wp2_with fail
  go_loopw [3, 4, 11] (fun _ _ i wr => ∃ k : Nat, k ≤ m ∧ i = .int .i64 k ∧ Below w.heap.size w wr) (fun _ _ i _ => n - (intOf i).toNat)
  case atStart => exact ⟨0, Nat.zero_le _, rfl, Below.refl _ _⟩
  case round =>
    obtain ⟨k, hk, rfl, hbr⟩ := hrel
    by_cases hkn : k < n
    · obtain ⟨lb, lo, rfl, hcs⟩ := HP.out.at k hkn
      obtain ⟨c0, c1, _⟩ := hcs k hkn
      have hlb : lb < w.heap.size := World.block_lt_of_cell? w ⟨lb, _, none⟩ c0
      have hk0 : (0 : Int) ≤ (k : Int) := by omega
      have hk1 : (k : Int) < (n : Int) := by omega
      have e0 : wr.cell? ⟨lb, lo + k * 2, none⟩ = some (.int .i64 (T k)) := (hbr.cell (p := ⟨lb, _, none⟩) hlb).trans c0
      have e1 : wr.cell? ⟨lb, lo + k * 2 + 1, none⟩ = some (.int .u64 (B k : Int)) := (hbr.cell (p := ⟨lb, _, none⟩) hlb).trans c1
      have HBR := (show Hid _ from hbr)
      have hwl := hbr.size
      have hlw : lb ≠ wr.heap.size := by omega
      have g1 : wr.cell? ⟨2, 0, none⟩ = some (.iface 141 (.pointer (some aB))) := (hbr.cell (p := ⟨2, 0, none⟩) hGB).trans HEB.out
      have g7 : wr.cell? ⟨3, 0, none⟩ = some (.iface 141 (.pointer (some aO))) := (hbr.cell (p := ⟨3, 0, none⟩) hGO).trans HEO.out
      have hG1 : 2 < wr.heap.size := by omega
      have hG7 : 3 < wr.heap.size := by omega
      clear hbr c0 c1
      cases htk : isTick (T k) with
      | false =>
        have hkm : k = m := by
          rcases Nat.lt_or_ge k m with h | h
          · have := HOK.out k h
            unfold ptOk at this
            rw [htk] at this
            cases this
          · omega
        subst hkm
        have HTK := (show Hid _ from htk)
        have HIF : Hid ((if isTick (T k) = true then aO else aB) = aB) := by show _ = _; rw [htk]; rfl
        have hout : T k < -1099511627776 ∨ 1099511627776 < T k := by
          unfold isTick at htk
          simp at htk
          omega
        clear htk HTK hcs HP HOK HBAD
        obtain ⟨t, ht⟩ : ∃ t, T k = t := ⟨_, rfl⟩
        rw [ht] at e0 hout
        have HTT := (show Hid _ from ht)
        clear ht
        generalize B k = y at *
        rcases hout with h | h
        · have d1 : decide (t < -1099511627776) = true := decide_eq_true h
          go_wp2
          go_ret
          exact ⟨(HBR.out.alloc hwl _).alloc (by simp; omega) _, .inr ⟨hkn, wr.heap.size + 1, by simp, by omega, by simp, by rw [HIF.out]; simp⟩⟩
        · have d1 : decide (t < -1099511627776) = false := decide_eq_false (by omega)
          have d2 : decide (1099511627776 < t) = true := decide_eq_true h
          go_wp2
          go_ret
          exact ⟨(HBR.out.alloc hwl _).alloc (by simp; omega) _, .inr ⟨hkn, wr.heap.size + 1, by simp, by omega, by simp, by rw [HIF.out]; simp⟩⟩
      | true =>
        have hin := (isTick_iff _).1 htk
        have d1 : decide (T k < -1099511627776) = false := decide_eq_false (by omega)
        have d2 : decide (1099511627776 < T k) = false := decide_eq_false (by omega)
        by_cases hz : k = 0
        · subst hz
          have hm0 : 0 < m := by
            rcases Nat.lt_or_ge 0 m with h | h
            · exact h
            · exfalso
              have hm00 : m = 0 := by omega
              have := HBAD.out (by omega)
              rw [hm00] at this
              unfold ptOk at this
              rw [htk] at this
              simp at this
          have e00 : wr.cell? ⟨lb, lo, none⟩ = some (.int .i64 (T 0)) := by simpa using e0
          have e11 : wr.cell? ⟨lb, lo + 1, none⟩ = some (.int .u64 (B 0 : Int)) := by simpa using e1
          clear htk hcs e0 e1
          go_wp2_with fail
          go_quiet (fail)
          go_wp2
          go_roundw
          case rel => exact ⟨1, by omega, by go_num, below_drewN (HBR.out.alloc hwl _) _⟩
          case measure => simp [intOf] <;> omega
        · obtain ⟨j, rfl⟩ : ∃ j, k = j + 1 := ⟨k - 1, by omega⟩
          have hcj := (hcs j (by omega)).1
          have ej : wr.cell? ⟨lb, lo + j * 2, none⟩ = some (.int .i64 (T j)) := (HBR.out.cell (p := ⟨lb, _, none⟩) hlb).trans hcj
          have hll : lb < wr.heap.size := by omega
          have ejA : ∀ o : Obj, (wr.alloc o).cell? ⟨lb, lo + j * 2, none⟩ = some (.int .i64 (T j)) := fun o => (World.cell?_alloc_lt wr o ⟨lb, _, none⟩ hll).trans ej
          have hpk : ptOk T (j + 1) = decide (T j < T (j + 1)) := by unfold ptOk; rw [htk]; simp
          have i1 : (0 : Int) ≤ (j : Int) + 1 - 1 := by omega
          have i2 : (j : Int) + 1 - 1 < (n : Int) := by omega
          have i3 : (0 : Int) < (j : Int) + 1 := by omega
          by_cases hlt : T j < T (j + 1)
          · have hkm : j + 1 < m := by
              rcases Nat.lt_or_ge (j + 1) m with h | h
              · exact h
              · exfalso
                have hme : m = j + 1 := by omega
                have := HBAD.out (by omega)
                rw [hme, hpk] at this
                simp at this
                omega
            have hdec : decide (T (j + 1) ≤ T j) = false := by simp; omega
            clear hcs htk hpk hlt hcj
            generalize T (j + 1) = t1 at *
            generalize T j = t0 at *
            generalize B (j + 1) = y1 at *
            go_wp2_with fail
            go_quiet (fail)
            go_wp2
            go_roundw
            case rel => exact ⟨j + 2, by omega, by go_num, below_drewN (HBR.out.alloc hwl _) _⟩
            case measure => simp [intOf] <;> omega
          · have hkm : j + 1 = m := by
              rcases Nat.lt_or_ge (j + 1) m with h | h
              · have := HOK.out (j + 1) h
                rw [hpk] at this
                simp at this
                omega
              · omega
            have hle : T (j + 1) ≤ T j := by omega
            have hdec : decide (T (j + 1) ≤ T j) = true := by simpa using hle
            subst hkm
            have HIF : Hid ((if isTick (T (j + 1)) = true then aO else aB) = aO) := by show _ = _; rw [htk]; rfl
            clear hcs htk hpk hlt hcj HP HOK HBAD
            obtain ⟨t1, ht1⟩ : ∃ t1, T (j + 1) = t1 := ⟨_, rfl⟩
            rw [ht1] at e0 hdec d1 d2 hin hle
            generalize T j = t0 at *
            have HTT := (show Hid _ from ht1)
            clear ht1
            generalize B (j + 1) = y1 at *
            go_wp2_with fail
            go_quiet (fail)
            go_wp2
            go_ret
            exact ⟨(below_drewN (HBR.out.alloc hwl _) _).alloc (by simp; omega) _, .inr ⟨hkn, wr.heap.size + 1, by simp, by omega, (new_cell (by show (wr.alloc _).heap.size = _; simp) 0).trans (by simp), (new_cell (by show (wr.alloc _).heap.size = _; simp) 1).trans (by rw [HIF.out]; simp)⟩⟩
    · have hkm : k = m := by omega
      have hmn : m = n := by omega
      have hge : (n : Int) ≤ (k : Int) := by omega
      have HBR := (show Hid _ from hbr)
      clear hbr
      go_wp2
      go_ret
      exact ⟨HBR.out, .inl ⟨hmn, rfl⟩⟩
end Go.Proofs.YtgdflopgdlpimabDoor
