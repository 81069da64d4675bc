/- The statement HeadRises, walked. -/
import Derived.Test.YtfanagohfimnkaaDoorHeadStGroup
import Derived.Test.YtfanagohfimnkaaDoorActsIn
import Derived.Deep.RegionHeld3
import Derived.Deep.CutBlock
namespace Go.Proofs.YtfanagohfimnkaaDoor
open Go.RowKit Go.Maps HeadMath LabMath PtMath

theorem HdSt.drew {w wr : World} {hb : Nat} {S : List Sr} (h : HdSt w wr hb S) : HdSt w wr.drew hb S := h.below ⟨rfl, rfl, rfl, Nat.le_refl _, fun _ _ => rfl⟩
set_option maxRecDepth 1000000 in
set_option maxHeartbeats 4000000 in
theorem rises_main {Bd : Nat} {ea : Nat → Addr} (w : World) (E : EnvH Bd ea w) (hBd : Bd ≤ w.heap.size) (la : Option Addr) (n c : Nat) (K X : Nat → ByteArray) (T : Nat → Int) (U : Nat → Nat) (M : Nat → Int) (hP : ActsA w la n K X T U M) (hnI : (n : Int) ≤ 9223372036854775807) (t : Int) :
    Calls Tryd.prog 5 #[.slice la n c, .int .i64 t] w fun e w' => e = .returned (.bool true) ∧ Below w.heap.size w w' := by
  have HCH := (show Hid _ from headed_any w E hBd)
  have HE := (show Hid _ from E)
  have HP : Hid (ActsA w la n K X T U M) := hP
  clear E hP
  go_enter Tryd.func5, Tryd.ntmps5
  go_wp2_with fail
  refine Calls.mono HCH.out ?_
  rintro e w1 ⟨rfl, hb1⟩
  have HB1 : Hid (Below w.heap.size w w1) := hb1
  have HN := (show Hid _ from hd_new w w1 hb1)
  clear hb1 HCH
  dsimp only
  by_cases hbig : 100 < n
  · have d0 : decide ((100 : Int) < (n : Int)) = true := by simp; omega
    go_wp2
    go_ret
    exact ⟨rfl, HB1.out⟩
  have d0 : decide ((100 : Int) < (n : Int)) = false := by simp; omega
  go_wp2_with fail
  refine Calls.mono HN.out ?_
  rintro e w2 ⟨hb, rfl, h2, _⟩
  have H2 : Hid (HdSt w w2 hb []) := h2
  clear h2 HN
  dsimp only
  go_upto_block 0 with fail
  go_cut [7, 8] (fun z _ wx => ∃ S : List Sr, z = .int .i64 (countS S : Int) ∧ HdSt w wx hb S ∧ S.length ≤ 1000 ∧ countS S ≤ 1000)
  case first =>
    go_wp2_with fail
    go_loopw [7, 8] (fun z i wr => ∃ (k : Nat) (S : List Sr), k ≤ n ∧ i = .int .i64 (k : Int) ∧ z = .int .i64 (countS S : Int) ∧ HdSt w wr hb S ∧ S.length ≤ k ∧ countS S ≤ k) (fun _ i _ => n - (intOf i).toNat)
    case atStart => exact ⟨0, [], Nat.zero_le _, rfl, rfl, H2.out, Nat.le_refl _, Nat.le_refl _⟩
    case round =>
      obtain ⟨k, S, hk, rfl, rfl, hst, hsl, hcl⟩ := hrel
      have HST := (show Hid _ from hst)
      clear hst H2
      by_cases hkn : k < n
      · rcases HP.out with h0 | ⟨lb, lo, rfl, hcs⟩
        · omega
        obtain ⟨c0, c1, c2, c3, c4, hbt⟩ := hcs k hkn
        have hlb : lb < w.heap.size := World.block_lt_of_cell? w ⟨lb, _, none⟩ c0
        have hbw := HST.out.bel
        have e1 : wr.cell? ⟨lb, lo + k * 5 + 1, none⟩ = some (.string (X k)) := (hbw.cell (p := ⟨lb, _, none⟩) hlb).trans c1
        have e2 : wr.cell? ⟨lb, lo + k * 5 + 2, none⟩ = some (.int .i64 (T k)) := (hbw.cell (p := ⟨lb, _, none⟩) hlb).trans c2
        have e3 : wr.cell? ⟨lb, lo + k * 5 + 3, none⟩ = some (.int .u64 (U k : Int)) := (hbw.cell (p := ⟨lb, _, none⟩) hlb).trans c3
        have HCS : Hid (∀ z, Below w.heap.size w z → z.cell? ⟨lb, lo + k * 5 + 1, none⟩ = some (.string (X k)) ∧ z.cell? ⟨lb, lo + k * 5 + 2, none⟩ = some (.int .i64 (T k)) ∧ z.cell? ⟨lb, lo + k * 5 + 3, none⟩ = some (.int .u64 (U k : Int))) := fun z hz => ⟨(hz.cell (p := ⟨lb, _, none⟩) hlb).trans c1, (hz.cell (p := ⟨lb, _, none⟩) hlb).trans c2, (hz.cell (p := ⟨lb, _, none⟩) hlb).trans c3⟩
        have HBR := (show Hid _ from hbw)
        have hk0 : (0 : Int) ≤ (k : Int) := by omega
        have hk1 : (k : Int) < (n : Int) := by omega
        obtain ⟨xk, hxk⟩ : ∃ xk, xk = X k := ⟨_, rfl⟩
        obtain ⟨tk, htk⟩ : ∃ tk, tk = T k := ⟨_, rfl⟩
        obtain ⟨uk, huk⟩ : ∃ uk, uk = U k := ⟨_, rfl⟩
        rw [← hxk] at e1 HCS
        rw [← htk] at e2 HCS
        rw [← huk] at e3 HCS
        have hu64 : uk < 18446744073709551616 := by rw [huk]; exact hbt.2.2.1
        clear hcs c0 c1 c2 c3 c4 hbw hxk htk huk hbt
        by_cases hx : 200 < xk.size
        · have d1 : decide ((200 : Int) < (xk.size : Int)) = true := by simp; omega
          go_wp2
          go_ret
          exact ⟨rfl, HBR.out⟩
        · have d1 : decide ((200 : Int) < (xk.size : Int)) = false := by simp; omega
          have hadd := hd_add w HE.out hBd wr.drew hb S HST.out.drew (by omega) (by omega) xk (by omega) tk uk hu64
          obtain ⟨cs, hcs⟩ : ∃ cs, cs = countS S := ⟨_, rfl⟩
          have HCN := (show Hid _ from hcs)
          rw [← hcs] at hcl ⊢
          clear hcs
          by_cases hz : addC S xk.data.toList tk = 0
          · have HA : Hid (Calls Tryd.prog 20 #[.pointer (some ⟨hb, 0, none⟩), .string xk, .agg #[.int .i64 tk, .int .u64 (uk : Int)]] wr.drew fun e w' => e = .returned .nilIface ∧ HdSt w w' hb (addS S xk.data.toList (tk, uk))) := hadd.mono fun e w' hh => by
              obtain ⟨v, rfl, hf, _, h0⟩ := hh
              exact ⟨by rw [hf.none hz], h0 hz⟩
            clear hadd hz
            go_wp2_with fail
            go_region_held3 (fun w' => w'.cell? ⟨lb, lo + k * 5 + 1, none⟩ = some (.string xk) ∧ w'.cell? ⟨lb, lo + k * 5 + 2, none⟩ = some (.int .i64 tk) ∧ w'.cell? ⟨lb, lo + k * 5 + 3, none⟩ = some (.int .u64 (uk : Int))) (go_keep) ((go_at_call 20; refine Calls.mono HA.out ?_; rintro e w3 ⟨rfl, h3⟩; have H3 := (show Hid _ from h3); obtain ⟨q1, q2, q3⟩ := HCS.out w3 h3.bel; clear h3))
            all_goals (
              have HL : Hid ((addS S xk.data.toList (tk, uk)).length ≤ k + 1) := by
                show _ ≤ _
                rw [length_addS _ _ _ HST.out.well.sorted]
                split <;> omega
              have HC1 : Hid (countS (addS S xk.data.toList (tk, uk)) = cs + 1) := by show _ = _; rw [count_addS, HCN.out]
              go_wp2
              go_roundw)
            all_goals first
              | exact ⟨k + 1, _, by omega, by go_num, by rw [HC1.out]; go_num, H3.out, HL.out, by rw [HC1.out]; omega⟩
              | (simp [intOf] <;> omega)
          · have HA : Hid (Calls Tryd.prog 20 #[.pointer (some ⟨hb, 0, none⟩), .string xk, .agg #[.int .i64 tk, .int .u64 (uk : Int)]] wr.drew fun e w' => ∃ ty p, e = .returned (.iface ty (.pointer (some p))) ∧ HdSt w w' hb S) := hadd.mono fun e w' hh => by
              obtain ⟨v, rfl, hf, hp, _⟩ := hh
              have hpos : 0 < addC S xk.data.toList tk := by
                rcases hf with ⟨_, h0⟩ | ⟨m, _, _, h0, _⟩ | ⟨pb, m, _, _, _, _, h0⟩
                · exact absurd h0 hz
                · omega
                · omega
              rcases hf.iface with h1 | ⟨ty, p, h1⟩
              · rcases hf with ⟨_, h0⟩ | ⟨m, _, h2, _⟩ | ⟨pb, m, _, h2, _⟩
                · exact absurd h0 hz
                · rw [h1] at h2; cases h2
                · rw [h1] at h2; cases h2
              · exact ⟨ty, p, by rw [h1], (hp hpos).1⟩
            clear hadd hz
            go_wp2_with fail
            go_region_held3 (fun w' => w'.cell? ⟨lb, lo + k * 5 + 1, none⟩ = some (.string xk) ∧ w'.cell? ⟨lb, lo + k * 5 + 2, none⟩ = some (.int .i64 tk) ∧ w'.cell? ⟨lb, lo + k * 5 + 3, none⟩ = some (.int .u64 (uk : Int))) (go_keep) ((go_at_call 20; refine Calls.mono HA.out ?_; rintro e w3 ⟨ty, p, rfl, h3⟩; have H3 := (show Hid _ from h3); obtain ⟨q1, q2, q3⟩ := HCS.out w3 h3.bel; clear h3))
            all_goals (
              go_wp2
              go_roundw)
            all_goals first
              | exact ⟨k + 1, S, by omega, by go_num, by rw [HCN.out], H3.out, by omega, by rw [← HCN.out]; omega⟩
              | (simp [intOf] <;> omega)
      · have hge : (n : Int) ≤ (k : Int) := by omega
        go_wp2_with fail
        go_meet
        case rel => exact ⟨S, by first | rfl | trivial, HST.out, by omega, by omega⟩
  case rest =>
    obtain ⟨S, rfl, h3, h4, h5⟩ := hcut
    apply_assumption
    exact rises_t7 w HE.out hBd _ hb S h3 h4 h5 la n c t _ _ _ _ _ _ _ _ _ _ _ _ _ _ _ _ _ _ _ _ _ _ _ _ _ _ _ _ _ _ _ _ _ _ _ _ _ _ _ _ _ _ _ _ _ _ _ _ _ _ _ _ _ _ _ _ _ _ _ _ _ _ _ _ _ _ _ _ _ _ _ _ _ _ _ _ _ _ _ _ _ _ _ _ _ _ _ _ _ _ _ _ _ _ _ _ _ _ _ _ _ _ _ _ _ _ _ _ _ _ _ _ _ _ _ _ _ _ _ _ _ _ _ _ _ _ _ _ _ _ _ _ _ _ _ _ _ _ _ _ _ _ _ _ _ _ _ _ _ _ _ _ _ _ _ _ _ _
end Go.Proofs.YtfanagohfimnkaaDoor
