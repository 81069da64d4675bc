/- The walk of tidegaugelaw1.BitsRows: it returns true and writes nothing that was there. -/
import Derived.Test.YtgdflopgdlpimaaDoorLaw1
import Derived.Test.YtgdflopgdlpimaaDoorCoded
import Derived.Test.YtgdflopgdlpimaaDoorSlicesIn
import Derived.Deep.DeepCutAuto
namespace Go.Proofs.YtgdflopgdlpimaaDoor
open Go.RowKit

/-- Put, in the statement's round. -/
theorem put_round {w wr : World} {r lb oV oN : Nat} {v : Value} {bs : List Bool} {x nn : Int} (hrow : IsRow wr r v bs) (hb : Below w.heap.size w wr) (hr : w.heap.size ≤ r) (hlb : lb < w.heap.size)
    (hx0 : 0 ≤ x) (hx1 : x ≤ 18446744073709551615) (h0 : 0 ≤ nn) (h1 : nn ≤ 64) (hs : bs.length ≤ 4000)
    (hV : wr.cell? ⟨lb, oV, none⟩ = some (.int .u64 x)) (hN : wr.cell? ⟨lb, oN, none⟩ = some (.int .i64 nn)) :
    Calls Tryd.prog 18 #[.pointer (some ⟨r, 0, none⟩), .int .u64 x, .int .i64 nn] wr.drew fun e w' => e = .returned .nilIface ∧ (w'.cell? ⟨lb, oV, none⟩ = some (.int .u64 x) ∧ w'.cell? ⟨lb, oN, none⟩ = some (.int .i64 nn)) ∧ (∃ v', IsRow w' r v' (bs ++ BitMath.bitsOf x.toNat nn.toNat)) ∧ Below w.heap.size w w' := by
  have hrow' : IsRow wr.drew r v bs := ⟨hrow.hb, hrow.own⟩
  have h := put_ok wr.drew r v bs hrow' x.toNat nn.toNat (by omega) (by omega) (by omega)
  rw [Int.toNat_of_nonneg hx0, Int.toNat_of_nonneg h0] at h
  refine h.mono ?_
  rintro e w' ⟨he, v', hr', hk⟩
  have hb1 : Below w.heap.size wr.drew w' := hk.below hb.size (fun y hy => Nat.le_trans hr (hrow.own_ge y hy))
  have hb2 : Below w.heap.size w w' := hb.drew.trans hb1
  exact ⟨he, ⟨(hb1.cell (p := ⟨lb, oV, none⟩) hlb).trans hV, (hb1.cell (p := ⟨lb, oN, none⟩) hlb).trans hN⟩, ⟨v', hr'⟩, hb2⟩
/-- Bits, in the statement's round. -/
theorem bits_round {w wr : World} {r lb oV oN : Nat} {v : Value} {bs : List Bool} {x nn : Int} (hrow : IsRow wr r v bs) (hb : Below w.heap.size w wr) (hlb : lb < w.heap.size)
    (hx0 : 0 ≤ x) (hx1 : x ≤ 18446744073709551615) (h0 : 0 ≤ nn) (h1 : nn ≤ 64)
    (hV : wr.cell? ⟨lb, oV, none⟩ = some (.int .u64 x)) (hN : wr.cell? ⟨lb, oN, none⟩ = some (.int .i64 nn)) :
    Calls Tryd.prog 19 #[.int .u64 x, .int .i64 nn] wr.drew fun e w' => e = .returned (.string (BitMath.txt (BitMath.bitsOf x.toNat nn.toNat))) ∧ (w'.cell? ⟨lb, oV, none⟩ = some (.int .u64 x) ∧ w'.cell? ⟨lb, oN, none⟩ = some (.int .i64 nn)) ∧ IsRow w' r v bs ∧ Below w.heap.size w w' := by
  have h := bits_any x.toNat nn wr.drew (by omega) h0 h1
  rw [Int.toNat_of_nonneg hx0] at h
  refine h.mono ?_
  rintro e w' ⟨he, hb1⟩
  have hb1' : Below wr.heap.size wr w' := (below_draw wr 1).trans hb1
  have hl : lb < wr.heap.size := Nat.lt_of_lt_of_le hlb hb.size
  exact ⟨he, ⟨(hb1'.cell (p := ⟨lb, oV, none⟩) hl).trans hV, (hb1'.cell (p := ⟨lb, oN, none⟩) hl).trans hN⟩, hrow.below hb1', hb.trans (hb1'.mono hb.size)⟩

set_option maxRecDepth 1000000 in
theorem rows_long (w : World) (la ga : Option Addr) (ln lc gn gc : Nat) (n : Int) (h : 60 < ln ∨ 60 < gn) (hl : (ln : Int) ≤ 9223372036854775807) (hg : (gn : Int) ≤ 9223372036854775807) :
    Calls Tryd.prog 4 #[.slice la ln lc, .slice ga gn gc, .int .i64 n] w fun e w' => e = .returned (.bool true) ∧ Below w.heap.size w w' := by
  by_cases h1 : 60 < ln
  · have h1' : decide ((60 : Int) < (ln : Int)) = true := by simp; omega
    go_enter Tryd.func4, Tryd.ntmps4
    go_wp2_with fail
    refine (rowed_any _).mono ?_
    rintro e w1 ⟨rfl, hb⟩
    go_wp2
    go_ret
    exact ⟨rfl, hb⟩
  · have h1' : decide ((60 : Int) < (ln : Int)) = false := by simp; omega
    have h2 : 60 < gn := by omega
    have h2' : decide ((60 : Int) < (gn : Int)) = true := by simp; omega
    go_enter Tryd.func4, Tryd.ntmps4
    go_wp2_with fail
    refine (rowed_any _).mono ?_
    rintro e w1 ⟨rfl, hb⟩
    go_wp2
    go_ret
    exact ⟨rfl, hb⟩
end Go.Proofs.YtgdflopgdlpimaaDoor
