/- Package wave's Get by its contract, third part: Get. -/
import Derived.Test.YtgdflopgdlpimaaDoorWaveGet2
import Derived.Test.YtgdflopgdlpimaaDoorWavePut2
namespace Go.Proofs.YtgdflopgdlpimaaDoor
open Go.RowKit

theorem formOf_held (n : Int) (k : Nat) (hf : BitMath.formOf n = k) (w : World) (hF : Forms w) (h0 : -9223372036854775808 ≤ n) (h1 : n ≤ 9223372036854775807) (b : Nat) (c0 c1 c2 c3 : Value)
    (q0 : w.cell? ⟨b, 0, none⟩ = some c0) (q1 : w.cell? ⟨b, 1, none⟩ = some c1) (q2 : w.cell? ⟨b, 2, none⟩ = some c2) (q3 : w.cell? ⟨b, 3, none⟩ = some c3) :
    Calls Tryd.prog 58 #[.int .i64 n] w fun e w' => e = .returned (formVal k) ∧ (w'.cell? ⟨b, 0, none⟩ = some c0 ∧ w'.cell? ⟨b, 1, none⟩ = some c1 ∧ w'.cell? ⟨b, 2, none⟩ = some c2 ∧ w'.cell? ⟨b, 3, none⟩ = some c3) ∧ Below w.heap.size w w' := by
  refine (formOf_any n w hF h0 h1).mono ?_
  rintro e w' ⟨rfl, hb⟩
  have hl := lt_of_cell q0
  exact ⟨by rw [hf], ⟨(hb.cell (p := ⟨b, 0, none⟩) hl).trans q0, (hb.cell (p := ⟨b, 1, none⟩) hl).trans q1, (hb.cell (p := ⟨b, 2, none⟩) hl).trans q2, (hb.cell (p := ⟨b, 3, none⟩) hl).trans q3⟩, hb⟩

theorem wget_nil (w : World) (a : Addr) (hE : w.cell? ⟨2, 0, none⟩ = some (.iface 97 (.pointer (some a)))) :
    Calls Tryd.prog 33 #[.pointer none] w fun e w' => e = .returned (.tuple #[.int .i64 0, .iface 97 (.pointer (some a))]) ∧ ∃ q, w' = w.drewN q := by
  go_enter Tryd.func33, Tryd.ntmps33
  go_wp2_with fail
  go_quiet (fail)
  go_wp2
  go_ret2
  exact ⟨rfl, _, rfl⟩

theorem num_range (k v : Nat) (hk : k ≤ 4) (hv : v < 2 ^ BitMath.wideOf k) : -9223372036854775808 ≤ BitMath.numOf k v ∧ BitMath.numOf k v ≤ 9223372036854775807 := by
  unfold BitMath.numOf
  match k, hk with
  | 0, _ => simp [BitMath.wideOf, BitMath.biasOf] at *; omega
  | 1, _ => simp [BitMath.wideOf, BitMath.biasOf] at *; omega
  | 2, _ => simp [BitMath.wideOf, BitMath.biasOf] at *; omega
  | 3, _ => simp [BitMath.wideOf, BitMath.biasOf] at *; omega
  | 4, _ => simp [BitMath.wideOf] at *; split <;> omega

/-- What Get answers of the bits D. -/
def Got (w w' : World) (x g cap : Nat) (l : List UInt8) (i N : Nat) (aN aT : Addr) (p : Nat × Int × Nat) (e : Ending) : Prop :=
  Kept [x] w w' ∧ ((p.1 = 0 ∧ e = .returned (.tuple #[.int .i64 p.2.1, .nilIface]) ∧ IsReader w' x g cap l (i + p.2.2) N) ∨
    (p = (5, 0, 0) ∧ e = .returned (.tuple #[.int .i64 0, .iface 97 (.pointer (some aN))]) ∧ ∃ j, i ≤ j ∧ IsReader w' x g cap l j N) ∨
    (p = (1, 0, 0) ∧ e = .returned (.tuple #[.int .i64 0, .iface 97 (.pointer (some aT))]) ∧ ∃ j, i ≤ j ∧ IsReader w' x g cap l j N))

theorem kept_form {w w1 w2 : World} {x : Nat} {C : Array Value} {t : TypeId} (h1 : Kept [x] w w1) (hxl : x < w.heap.size) (h2 : Kept [x] (w1.alloc (.cells C t)) w2) :
    w2.heap[w1.heap.size]? = some (.cells C t (0, 0)) ∧ Kept [x] w w2 := by
  have hs := h1.size
  refine ⟨?_, (h1.alloc _).trans h2 (fun y hy => .inl hy)⟩
  rw [h2.block w1.heap.size (by simp) (by simp; omega)]
  exact heap_alloc_new _ _

set_option maxRecDepth 1000000 in
set_option maxHeartbeats 8000000 in
theorem wget_any (w : World) (x g cap : Nat) (l : List UInt8) (i N : Nat) (h : IsReader w x g cap l i N) (hF : Forms w) (aN aT : Addr) (hN : w.cell? ⟨4, 0, none⟩ = some (.iface 97 (.pointer (some aN)))) (hT : w.cell? ⟨0, 0, none⟩ = some (.iface 97 (.pointer (some aT)))) (hxF : x ≠ 12) (hxN : x ≠ 4) (hxT : x ≠ 0) :
    Calls Tryd.prog 33 #[.pointer (some ⟨x, 0, none⟩)] w fun e w' => Got w w' x g cap l i N aN aT (BitMath.unwave (BitMath.restB l i N)) e := by
  have hgf := getForm_any w x g cap l i N h hF aN hN hxF hxN
  have hxl := h.lt
  have hlD := BitMath.length_restB l i N h.hn
  have hN8 := h.hn
  have hiN := h.hi
  have HF : Hid (Forms w) := hF
  have HN := (show Hid _ from hN)
  have HT := (show Hid _ from hT)
  obtain ⟨o, ho⟩ : ∃ o, BitMath.onesOf (BitMath.restB l i N) 4 = o := ⟨_, rfl⟩
  have ho4 : o ≤ 4 := by rw [← ho]; exact BitMath.onesOf_le _ _
  rw [ho] at hgf
  have hread : ∀ s n, i + s + n ≤ N → BitMath.readB l (i + s) n = ((BitMath.restB l i N).drop s).take n := fun s n hs => by rw [BitMath.readB_rest l (i + s) n N hs, BitMath.restB_drop]
  obtain ⟨D, hD⟩ : ∃ D, D = BitMath.restB l i N := ⟨_, rfl⟩
  rw [← hD] at hgf ho hlD hread ⊢
  have HREAD := (show Hid _ from hread)
  clear h hF hN hT hread hD
  rcases (by omega : o = 0 ∨ o = 1 ∨ o = 2 ∨ o = 3 ∨ o = 4) with rfl | rfl | rfl | rfl | rfl
  · have hgf' : Calls Tryd.prog 61 #[.pointer (some ⟨x, 0, none⟩)] w fun e w' => Kept [x] w w' ∧ ((e = .returned (.tuple #[.agg #[.int .u64 0, .int .i64 1, .int .i64 0, .int .i64 0], .nilIface]) ∧ 1 ≤ D.length ∧ IsReader w' x g cap l (i + 1) N) ∨ (e = .returned (.tuple #[.agg #[.int .u64 0, .int .i64 0, .int .i64 0, .int .i64 0], .iface 97 (.pointer (some aN))]) ∧ D.length < 1 ∧ ∃ j, i ≤ j ∧ IsReader w' x g cap l j N)) := hgf
    have HGF := (show Hid _ from hgf')
    have HO := (show Hid _ from ho)
    clear hgf hgf' ho
    go_enter Tryd.func33, Tryd.ntmps33
    go_wp2_with fail
    refine Calls.mono HGF.out ?_
    rintro e w1 ⟨hk1, ⟨rfl, hl, hr1⟩ | ⟨rfl, hl, j, hij, hr1⟩⟩
    · have hka := hk1.alloc (.cells #[.int .u64 0, .int .i64 1, .int .i64 0, .int .i64 0] 106)
      have hra : IsReader (w1.alloc (.cells #[.int .u64 0, .int .i64 1, .int .i64 0, .int .i64 0] 106)) x g cap l (i + 1) N := hr1.below ((Below.refl _ _).alloc (Nat.le_refl _) _)
      have hfg := fget_at 0 (by omega) (w1.alloc (.cells #[.int .u64 0, .int .i64 1, .int .i64 0, .int .i64 0] 106)) x g cap l (i + 1) N hra aN (hka.cell HN.out (by simp; omega)) hxN
      have HFG := (show Hid _ from hfg)
      have HK1 := (show Hid _ from hk1)
      have HL := (show Hid _ from hl)
      clear hfg hra hka hk1 hl hr1 HGF
      go_wp2_with fail
      refine Calls.mono HFG.out ?_
      rintro e w2 ⟨hk2, ⟨hfit, rfl, hr2⟩ | ⟨hfit, rfl, hr2⟩⟩
      · have hfit' : i + 1 + 0 ≤ N := hfit
        have hv := HREAD.out 1 0 hfit'
        have hvl := read_lt l (i + 1) 0 N hN8 hfit'
        rw [show BitMath.wideOf 0 = 0 from rfl]
        obtain ⟨v, hv0⟩ : ∃ v, v = BitMath.valB (BitMath.readB l (i + 1) 0) := ⟨_, rfl⟩
        rw [← hv0] at hvl ⊢
        rw [hv] at hv0
        have hun := BitMath.unwave_long D 0 1 HO.out rfl (show 1 + 0 ≤ D.length by omega) v hv0
        have how : (BitMath.waveOf (BitMath.numOf 0 v) = D.take (1 + BitMath.wideOf 0)) = (BitMath.formOf (BitMath.numOf 0 v) = 0) := BitMath.wave_own D 0 HO.out (show 1 + 0 ≤ D.length by omega) v hv0
        have hrg := num_range 0 v (by omega) hvl
        obtain ⟨n, hn⟩ : ∃ n, n = BitMath.numOf 0 v := ⟨_, rfl⟩
        rw [← hn] at hun how hrg ⊢
        obtain ⟨hn0, hn1⟩ := hrg
        obtain ⟨hblk, hkw⟩ := kept_form HK1.out hxl hk2
        have z0 : w2.cell? ⟨w1.heap.size, 0, none⟩ = some (.int .u64 0) := cells_of hblk 0
        have z1 : w2.cell? ⟨w1.heap.size, 1, none⟩ = some (.int .i64 1) := cells_of hblk 1
        have z2 : w2.cell? ⟨w1.heap.size, 2, none⟩ = some (.int .i64 0) := cells_of hblk 2
        have z3 : w2.cell? ⟨w1.heap.size, 3, none⟩ = some (.int .i64 0) := cells_of hblk 3
        have HF2 : Hid (Forms w2) := HF.out.kept hkw (by simp; omega)
        have HT2 := (show Hid _ from hkw.cell HT.out (by simp; omega))
        have HK2 := (show Hid _ from hkw)
        have HR2 := (show Hid _ from hr2)
        clear hv hv0 hvl hn hblk hkw hk2 hr2 HFG hfit hfit'
        go_wp2_with fail
        by_cases hown : BitMath.formOf n = 0
        · have HUN := (show Hid _ from hun.trans (if_pos (how.mpr hown)))
          have hfn := hown
          clear hun hown how
          have HFO := (show Hid _ from formOf_held n 0 hfn w2.drew HF2.out hn0 hn1 w1.heap.size _ _ _ _ z0 z1 z2 z3)
          unfold formVal at HFO
          clear hfn
          go_region_held3 (fun w' => w'.cell? ⟨w1.heap.size, 0, none⟩ = some (.int .u64 0) ∧ w'.cell? ⟨w1.heap.size, 1, none⟩ = some (.int .i64 1) ∧ w'.cell? ⟨w1.heap.size, 2, none⟩ = some (.int .i64 0) ∧ w'.cell? ⟨w1.heap.size, 3, none⟩ = some (.int .i64 0)) (go_keep) ((go_at_call 58; refine Calls.mono HFO.out ?_; rintro e w3 ⟨rfl, ⟨q0, q1, q2, q3⟩, hb3⟩))
          replace hb3 := (below_draw w2 1).trans hb3
          have HK3 := (show Hid _ from HK2.out.trans (Kept.of_below (S := []) hb3) (fun y hy => by cases hy))
          have HR3 := (show Hid _ from HR2.out.below hb3)
          clear q0 q1 q2 q3 hb3 z0 z1 z2 z3
          go_wp2
          go_ret2
          exact ⟨HK3.out, .inl ⟨by rw [HUN.out], by rw [HUN.out]; rfl, by rw [HUN.out]; have := HR3.out; rw [Nat.add_assoc] at this; exact this⟩⟩
        · have HUN := (show Hid _ from hun.trans (if_neg (fun c => hown (how.mp c))))
          have hfl := BitMath.formOf_le n
          clear hun how
          rcases (by omega : BitMath.formOf n = 1 ∨ BitMath.formOf n = 2 ∨ BitMath.formOf n = 3 ∨ BitMath.formOf n = 4) with hfn | hfn | hfn | hfn
          · clear hown hfl
            have HFO := (show Hid _ from formOf_held n 1 hfn w2.drew HF2.out hn0 hn1 w1.heap.size _ _ _ _ z0 z1 z2 z3)
            unfold formVal at HFO
            clear hfn
            go_region_held3 (fun w' => w'.cell? ⟨w1.heap.size, 0, none⟩ = some (.int .u64 0) ∧ w'.cell? ⟨w1.heap.size, 1, none⟩ = some (.int .i64 1) ∧ w'.cell? ⟨w1.heap.size, 2, none⟩ = some (.int .i64 0) ∧ w'.cell? ⟨w1.heap.size, 3, none⟩ = some (.int .i64 0)) (go_keep) ((go_at_call 58; refine Calls.mono HFO.out ?_; rintro e w3 ⟨rfl, ⟨q0, q1, q2, q3⟩, hb3⟩))
            replace hb3 := (below_draw w2 1).trans hb3
            have HK3 := (show Hid _ from HK2.out.trans (Kept.of_below (S := []) hb3) (fun y hy => by cases hy))
            have HR3 := (show Hid _ from HR2.out.below hb3)
            have hT3 : w3.cell? ⟨0, 0, none⟩ = some (.iface 97 (.pointer (some aT))) := (hb3.cell (p := ⟨0, 0, none⟩) (lt_of_cell HT2.out)).trans HT2.out
            clear q0 q1 q2 q3 hb3 z0 z1 z2 z3
            go_wp2_with fail
            go_quiet (fail)
            go_wp2
            go_ret2
            exact ⟨HK3.out.draws _, .inr (.inr ⟨HUN.out, rfl, i + 1 + 0, by omega, HR3.out.drewN _⟩)⟩
          · clear hown hfl
            have HFO := (show Hid _ from formOf_held n 2 hfn w2.drew HF2.out hn0 hn1 w1.heap.size _ _ _ _ z0 z1 z2 z3)
            unfold formVal at HFO
            clear hfn
            go_region_held3 (fun w' => w'.cell? ⟨w1.heap.size, 0, none⟩ = some (.int .u64 0) ∧ w'.cell? ⟨w1.heap.size, 1, none⟩ = some (.int .i64 1) ∧ w'.cell? ⟨w1.heap.size, 2, none⟩ = some (.int .i64 0) ∧ w'.cell? ⟨w1.heap.size, 3, none⟩ = some (.int .i64 0)) (go_keep) ((go_at_call 58; refine Calls.mono HFO.out ?_; rintro e w3 ⟨rfl, ⟨q0, q1, q2, q3⟩, hb3⟩))
            replace hb3 := (below_draw w2 1).trans hb3
            have HK3 := (show Hid _ from HK2.out.trans (Kept.of_below (S := []) hb3) (fun y hy => by cases hy))
            have HR3 := (show Hid _ from HR2.out.below hb3)
            have hT3 : w3.cell? ⟨0, 0, none⟩ = some (.iface 97 (.pointer (some aT))) := (hb3.cell (p := ⟨0, 0, none⟩) (lt_of_cell HT2.out)).trans HT2.out
            clear q0 q1 q2 q3 hb3 z0 z1 z2 z3
            go_wp2_with fail
            go_quiet (fail)
            go_wp2
            go_ret2
            exact ⟨HK3.out.draws _, .inr (.inr ⟨HUN.out, rfl, i + 1 + 0, by omega, HR3.out.drewN _⟩)⟩
          · clear hown hfl
            have HFO := (show Hid _ from formOf_held n 3 hfn w2.drew HF2.out hn0 hn1 w1.heap.size _ _ _ _ z0 z1 z2 z3)
            unfold formVal at HFO
            clear hfn
            go_region_held3 (fun w' => w'.cell? ⟨w1.heap.size, 0, none⟩ = some (.int .u64 0) ∧ w'.cell? ⟨w1.heap.size, 1, none⟩ = some (.int .i64 1) ∧ w'.cell? ⟨w1.heap.size, 2, none⟩ = some (.int .i64 0) ∧ w'.cell? ⟨w1.heap.size, 3, none⟩ = some (.int .i64 0)) (go_keep) ((go_at_call 58; refine Calls.mono HFO.out ?_; rintro e w3 ⟨rfl, ⟨q0, q1, q2, q3⟩, hb3⟩))
            replace hb3 := (below_draw w2 1).trans hb3
            have HK3 := (show Hid _ from HK2.out.trans (Kept.of_below (S := []) hb3) (fun y hy => by cases hy))
            have HR3 := (show Hid _ from HR2.out.below hb3)
            have hT3 : w3.cell? ⟨0, 0, none⟩ = some (.iface 97 (.pointer (some aT))) := (hb3.cell (p := ⟨0, 0, none⟩) (lt_of_cell HT2.out)).trans HT2.out
            clear q0 q1 q2 q3 hb3 z0 z1 z2 z3
            go_wp2_with fail
            go_quiet (fail)
            go_wp2
            go_ret2
            exact ⟨HK3.out.draws _, .inr (.inr ⟨HUN.out, rfl, i + 1 + 0, by omega, HR3.out.drewN _⟩)⟩
          · clear hown hfl
            have HFO := (show Hid _ from formOf_held n 4 hfn w2.drew HF2.out hn0 hn1 w1.heap.size _ _ _ _ z0 z1 z2 z3)
            unfold formVal at HFO
            clear hfn
            go_region_held3 (fun w' => w'.cell? ⟨w1.heap.size, 0, none⟩ = some (.int .u64 0) ∧ w'.cell? ⟨w1.heap.size, 1, none⟩ = some (.int .i64 1) ∧ w'.cell? ⟨w1.heap.size, 2, none⟩ = some (.int .i64 0) ∧ w'.cell? ⟨w1.heap.size, 3, none⟩ = some (.int .i64 0)) (go_keep) ((go_at_call 58; refine Calls.mono HFO.out ?_; rintro e w3 ⟨rfl, ⟨q0, q1, q2, q3⟩, hb3⟩))
            replace hb3 := (below_draw w2 1).trans hb3
            have HK3 := (show Hid _ from HK2.out.trans (Kept.of_below (S := []) hb3) (fun y hy => by cases hy))
            have HR3 := (show Hid _ from HR2.out.below hb3)
            have hT3 : w3.cell? ⟨0, 0, none⟩ = some (.iface 97 (.pointer (some aT))) := (hb3.cell (p := ⟨0, 0, none⟩) (lt_of_cell HT2.out)).trans HT2.out
            clear q0 q1 q2 q3 hb3 z0 z1 z2 z3
            go_wp2_with fail
            go_quiet (fail)
            go_wp2
            go_ret2
            exact ⟨HK3.out.draws _, .inr (.inr ⟨HUN.out, rfl, i + 1 + 0, by omega, HR3.out.drewN _⟩)⟩
      · have hun := BitMath.unwave_short D 0 1 HO.out rfl (show D.length < 1 + 0 by have : N < i + 1 + 0 := hfit; omega)
        have HUN := (show Hid _ from hun)
        have HK2 := (show Hid _ from (kept_form HK1.out hxl hk2).2)
        have HR2 := (show Hid _ from hr2)
        clear hun hfit hk2 hr2 HFG
        go_wp2
        go_ret2
        exact ⟨HK2.out, .inr (.inl ⟨HUN.out, rfl, i + 1, by omega, HR2.out⟩)⟩
    · have hun := BitMath.unwave_short D 0 1 HO.out rfl (by omega)
      have HUN := (show Hid _ from hun)
      have HK1 := (show Hid _ from hk1)
      have HR1 := (show Hid _ from hr1)
      clear hun hk1 hr1 HGF hl
      go_wp2
      go_ret2
      exact ⟨HK1.out.alloc _, .inr (.inl ⟨HUN.out, rfl, j, hij, HR1.out.below ((Below.refl _ _).alloc (Nat.le_refl _) _)⟩)⟩
  · have hgf' : Calls Tryd.prog 61 #[.pointer (some ⟨x, 0, none⟩)] w fun e w' => Kept [x] w w' ∧ ((e = .returned (.tuple #[.agg #[.int .u64 2, .int .i64 2, .int .i64 7, .int .i64 63], .nilIface]) ∧ 2 ≤ D.length ∧ IsReader w' x g cap l (i + 2) N) ∨ (e = .returned (.tuple #[.agg #[.int .u64 0, .int .i64 0, .int .i64 0, .int .i64 0], .iface 97 (.pointer (some aN))]) ∧ D.length < 2 ∧ ∃ j, i ≤ j ∧ IsReader w' x g cap l j N)) := hgf
    have HGF := (show Hid _ from hgf')
    have HO := (show Hid _ from ho)
    clear hgf hgf' ho
    go_enter Tryd.func33, Tryd.ntmps33
    go_wp2_with fail
    refine Calls.mono HGF.out ?_
    rintro e w1 ⟨hk1, ⟨rfl, hl, hr1⟩ | ⟨rfl, hl, j, hij, hr1⟩⟩
    · have hka := hk1.alloc (.cells #[.int .u64 2, .int .i64 2, .int .i64 7, .int .i64 63] 106)
      have hra : IsReader (w1.alloc (.cells #[.int .u64 2, .int .i64 2, .int .i64 7, .int .i64 63] 106)) x g cap l (i + 2) N := hr1.below ((Below.refl _ _).alloc (Nat.le_refl _) _)
      have hfg := fget_at 1 (by omega) (w1.alloc (.cells #[.int .u64 2, .int .i64 2, .int .i64 7, .int .i64 63] 106)) x g cap l (i + 2) N hra aN (hka.cell HN.out (by simp; omega)) hxN
      have HFG := (show Hid _ from hfg)
      have HK1 := (show Hid _ from hk1)
      have HL := (show Hid _ from hl)
      clear hfg hra hka hk1 hl hr1 HGF
      go_wp2_with fail
      refine Calls.mono HFG.out ?_
      rintro e w2 ⟨hk2, ⟨hfit, rfl, hr2⟩ | ⟨hfit, rfl, hr2⟩⟩
      · have hfit' : i + 2 + 7 ≤ N := hfit
        have hv := HREAD.out 2 7 hfit'
        have hvl := read_lt l (i + 2) 7 N hN8 hfit'
        rw [show BitMath.wideOf 1 = 7 from rfl]
        obtain ⟨v, hv0⟩ : ∃ v, v = BitMath.valB (BitMath.readB l (i + 2) 7) := ⟨_, rfl⟩
        rw [← hv0] at hvl ⊢
        rw [hv] at hv0
        have hun := BitMath.unwave_long D 1 2 HO.out rfl (show 2 + 7 ≤ D.length by omega) v hv0
        have how : (BitMath.waveOf (BitMath.numOf 1 v) = D.take (2 + BitMath.wideOf 1)) = (BitMath.formOf (BitMath.numOf 1 v) = 1) := BitMath.wave_own D 1 HO.out (show 2 + 7 ≤ D.length by omega) v hv0
        have hrg := num_range 1 v (by omega) hvl
        obtain ⟨n, hn⟩ : ∃ n, n = BitMath.numOf 1 v := ⟨_, rfl⟩
        rw [← hn] at hun how hrg ⊢
        obtain ⟨hn0, hn1⟩ := hrg
        obtain ⟨hblk, hkw⟩ := kept_form HK1.out hxl hk2
        have z0 : w2.cell? ⟨w1.heap.size, 0, none⟩ = some (.int .u64 2) := cells_of hblk 0
        have z1 : w2.cell? ⟨w1.heap.size, 1, none⟩ = some (.int .i64 2) := cells_of hblk 1
        have z2 : w2.cell? ⟨w1.heap.size, 2, none⟩ = some (.int .i64 7) := cells_of hblk 2
        have z3 : w2.cell? ⟨w1.heap.size, 3, none⟩ = some (.int .i64 63) := cells_of hblk 3
        have HF2 : Hid (Forms w2) := HF.out.kept hkw (by simp; omega)
        have HT2 := (show Hid _ from hkw.cell HT.out (by simp; omega))
        have HK2 := (show Hid _ from hkw)
        have HR2 := (show Hid _ from hr2)
        clear hv hv0 hvl hn hblk hkw hk2 hr2 HFG hfit hfit'
        go_wp2_with fail
        by_cases hown : BitMath.formOf n = 1
        · have HUN := (show Hid _ from hun.trans (if_pos (how.mpr hown)))
          have hfn := hown
          clear hun hown how
          have HFO := (show Hid _ from formOf_held n 1 hfn w2.drew HF2.out hn0 hn1 w1.heap.size _ _ _ _ z0 z1 z2 z3)
          unfold formVal at HFO
          clear hfn
          go_region_held3 (fun w' => w'.cell? ⟨w1.heap.size, 0, none⟩ = some (.int .u64 2) ∧ w'.cell? ⟨w1.heap.size, 1, none⟩ = some (.int .i64 2) ∧ w'.cell? ⟨w1.heap.size, 2, none⟩ = some (.int .i64 7) ∧ w'.cell? ⟨w1.heap.size, 3, none⟩ = some (.int .i64 63)) (go_keep) ((go_at_call 58; refine Calls.mono HFO.out ?_; rintro e w3 ⟨rfl, ⟨q0, q1, q2, q3⟩, hb3⟩))
          replace hb3 := (below_draw w2 1).trans hb3
          have HK3 := (show Hid _ from HK2.out.trans (Kept.of_below (S := []) hb3) (fun y hy => by cases hy))
          have HR3 := (show Hid _ from HR2.out.below hb3)
          clear q0 q1 q2 q3 hb3 z0 z1 z2 z3
          go_wp2
          go_ret2
          exact ⟨HK3.out, .inl ⟨by rw [HUN.out], by rw [HUN.out]; rfl, by rw [HUN.out]; have := HR3.out; rw [Nat.add_assoc] at this; exact this⟩⟩
        · have HUN := (show Hid _ from hun.trans (if_neg (fun c => hown (how.mp c))))
          have hfl := BitMath.formOf_le n
          clear hun how
          rcases (by omega : BitMath.formOf n = 0 ∨ BitMath.formOf n = 2 ∨ BitMath.formOf n = 3 ∨ BitMath.formOf n = 4) with hfn | hfn | hfn | hfn
          · clear hown hfl
            have HFO := (show Hid _ from formOf_held n 0 hfn w2.drew HF2.out hn0 hn1 w1.heap.size _ _ _ _ z0 z1 z2 z3)
            unfold formVal at HFO
            clear hfn
            go_region_held3 (fun w' => w'.cell? ⟨w1.heap.size, 0, none⟩ = some (.int .u64 2) ∧ w'.cell? ⟨w1.heap.size, 1, none⟩ = some (.int .i64 2) ∧ w'.cell? ⟨w1.heap.size, 2, none⟩ = some (.int .i64 7) ∧ w'.cell? ⟨w1.heap.size, 3, none⟩ = some (.int .i64 63)) (go_keep) ((go_at_call 58; refine Calls.mono HFO.out ?_; rintro e w3 ⟨rfl, ⟨q0, q1, q2, q3⟩, hb3⟩))
            replace hb3 := (below_draw w2 1).trans hb3
            have HK3 := (show Hid _ from HK2.out.trans (Kept.of_below (S := []) hb3) (fun y hy => by cases hy))
            have HR3 := (show Hid _ from HR2.out.below hb3)
            have hT3 : w3.cell? ⟨0, 0, none⟩ = some (.iface 97 (.pointer (some aT))) := (hb3.cell (p := ⟨0, 0, none⟩) (lt_of_cell HT2.out)).trans HT2.out
            clear q0 q1 q2 q3 hb3 z0 z1 z2 z3
            go_wp2_with fail
            go_quiet (fail)
            go_wp2
            go_ret2
            exact ⟨HK3.out.draws _, .inr (.inr ⟨HUN.out, rfl, i + 2 + 7, by omega, HR3.out.drewN _⟩)⟩
          · clear hown hfl
            have HFO := (show Hid _ from formOf_held n 2 hfn w2.drew HF2.out hn0 hn1 w1.heap.size _ _ _ _ z0 z1 z2 z3)
            unfold formVal at HFO
            clear hfn
            go_region_held3 (fun w' => w'.cell? ⟨w1.heap.size, 0, none⟩ = some (.int .u64 2) ∧ w'.cell? ⟨w1.heap.size, 1, none⟩ = some (.int .i64 2) ∧ w'.cell? ⟨w1.heap.size, 2, none⟩ = some (.int .i64 7) ∧ w'.cell? ⟨w1.heap.size, 3, none⟩ = some (.int .i64 63)) (go_keep) ((go_at_call 58; refine Calls.mono HFO.out ?_; rintro e w3 ⟨rfl, ⟨q0, q1, q2, q3⟩, hb3⟩))
            replace hb3 := (below_draw w2 1).trans hb3
            have HK3 := (show Hid _ from HK2.out.trans (Kept.of_below (S := []) hb3) (fun y hy => by cases hy))
            have HR3 := (show Hid _ from HR2.out.below hb3)
            have hT3 : w3.cell? ⟨0, 0, none⟩ = some (.iface 97 (.pointer (some aT))) := (hb3.cell (p := ⟨0, 0, none⟩) (lt_of_cell HT2.out)).trans HT2.out
            clear q0 q1 q2 q3 hb3 z0 z1 z2 z3
            go_wp2_with fail
            go_quiet (fail)
            go_wp2
            go_ret2
            exact ⟨HK3.out.draws _, .inr (.inr ⟨HUN.out, rfl, i + 2 + 7, by omega, HR3.out.drewN _⟩)⟩
          · clear hown hfl
            have HFO := (show Hid _ from formOf_held n 3 hfn w2.drew HF2.out hn0 hn1 w1.heap.size _ _ _ _ z0 z1 z2 z3)
            unfold formVal at HFO
            clear hfn
            go_region_held3 (fun w' => w'.cell? ⟨w1.heap.size, 0, none⟩ = some (.int .u64 2) ∧ w'.cell? ⟨w1.heap.size, 1, none⟩ = some (.int .i64 2) ∧ w'.cell? ⟨w1.heap.size, 2, none⟩ = some (.int .i64 7) ∧ w'.cell? ⟨w1.heap.size, 3, none⟩ = some (.int .i64 63)) (go_keep) ((go_at_call 58; refine Calls.mono HFO.out ?_; rintro e w3 ⟨rfl, ⟨q0, q1, q2, q3⟩, hb3⟩))
            replace hb3 := (below_draw w2 1).trans hb3
            have HK3 := (show Hid _ from HK2.out.trans (Kept.of_below (S := []) hb3) (fun y hy => by cases hy))
            have HR3 := (show Hid _ from HR2.out.below hb3)
            have hT3 : w3.cell? ⟨0, 0, none⟩ = some (.iface 97 (.pointer (some aT))) := (hb3.cell (p := ⟨0, 0, none⟩) (lt_of_cell HT2.out)).trans HT2.out
            clear q0 q1 q2 q3 hb3 z0 z1 z2 z3
            go_wp2_with fail
            go_quiet (fail)
            go_wp2
            go_ret2
            exact ⟨HK3.out.draws _, .inr (.inr ⟨HUN.out, rfl, i + 2 + 7, by omega, HR3.out.drewN _⟩)⟩
          · clear hown hfl
            have HFO := (show Hid _ from formOf_held n 4 hfn w2.drew HF2.out hn0 hn1 w1.heap.size _ _ _ _ z0 z1 z2 z3)
            unfold formVal at HFO
            clear hfn
            go_region_held3 (fun w' => w'.cell? ⟨w1.heap.size, 0, none⟩ = some (.int .u64 2) ∧ w'.cell? ⟨w1.heap.size, 1, none⟩ = some (.int .i64 2) ∧ w'.cell? ⟨w1.heap.size, 2, none⟩ = some (.int .i64 7) ∧ w'.cell? ⟨w1.heap.size, 3, none⟩ = some (.int .i64 63)) (go_keep) ((go_at_call 58; refine Calls.mono HFO.out ?_; rintro e w3 ⟨rfl, ⟨q0, q1, q2, q3⟩, hb3⟩))
            replace hb3 := (below_draw w2 1).trans hb3
            have HK3 := (show Hid _ from HK2.out.trans (Kept.of_below (S := []) hb3) (fun y hy => by cases hy))
            have HR3 := (show Hid _ from HR2.out.below hb3)
            have hT3 : w3.cell? ⟨0, 0, none⟩ = some (.iface 97 (.pointer (some aT))) := (hb3.cell (p := ⟨0, 0, none⟩) (lt_of_cell HT2.out)).trans HT2.out
            clear q0 q1 q2 q3 hb3 z0 z1 z2 z3
            go_wp2_with fail
            go_quiet (fail)
            go_wp2
            go_ret2
            exact ⟨HK3.out.draws _, .inr (.inr ⟨HUN.out, rfl, i + 2 + 7, by omega, HR3.out.drewN _⟩)⟩
      · have hun := BitMath.unwave_short D 1 2 HO.out rfl (show D.length < 2 + 7 by have : N < i + 2 + 7 := hfit; omega)
        have HUN := (show Hid _ from hun)
        have HK2 := (show Hid _ from (kept_form HK1.out hxl hk2).2)
        have HR2 := (show Hid _ from hr2)
        clear hun hfit hk2 hr2 HFG
        go_wp2
        go_ret2
        exact ⟨HK2.out, .inr (.inl ⟨HUN.out, rfl, i + 2, by omega, HR2.out⟩)⟩
    · have hun := BitMath.unwave_short D 1 2 HO.out rfl (by omega)
      have HUN := (show Hid _ from hun)
      have HK1 := (show Hid _ from hk1)
      have HR1 := (show Hid _ from hr1)
      clear hun hk1 hr1 HGF hl
      go_wp2
      go_ret2
      exact ⟨HK1.out.alloc _, .inr (.inl ⟨HUN.out, rfl, j, hij, HR1.out.below ((Below.refl _ _).alloc (Nat.le_refl _) _)⟩)⟩
  · have hgf' : Calls Tryd.prog 61 #[.pointer (some ⟨x, 0, none⟩)] w fun e w' => Kept [x] w w' ∧ ((e = .returned (.tuple #[.agg #[.int .u64 6, .int .i64 3, .int .i64 9, .int .i64 255], .nilIface]) ∧ 3 ≤ D.length ∧ IsReader w' x g cap l (i + 3) N) ∨ (e = .returned (.tuple #[.agg #[.int .u64 0, .int .i64 0, .int .i64 0, .int .i64 0], .iface 97 (.pointer (some aN))]) ∧ D.length < 3 ∧ ∃ j, i ≤ j ∧ IsReader w' x g cap l j N)) := hgf
    have HGF := (show Hid _ from hgf')
    have HO := (show Hid _ from ho)
    clear hgf hgf' ho
    go_enter Tryd.func33, Tryd.ntmps33
    go_wp2_with fail
    refine Calls.mono HGF.out ?_
    rintro e w1 ⟨hk1, ⟨rfl, hl, hr1⟩ | ⟨rfl, hl, j, hij, hr1⟩⟩
    · have hka := hk1.alloc (.cells #[.int .u64 6, .int .i64 3, .int .i64 9, .int .i64 255] 106)
      have hra : IsReader (w1.alloc (.cells #[.int .u64 6, .int .i64 3, .int .i64 9, .int .i64 255] 106)) x g cap l (i + 3) N := hr1.below ((Below.refl _ _).alloc (Nat.le_refl _) _)
      have hfg := fget_at 2 (by omega) (w1.alloc (.cells #[.int .u64 6, .int .i64 3, .int .i64 9, .int .i64 255] 106)) x g cap l (i + 3) N hra aN (hka.cell HN.out (by simp; omega)) hxN
      have HFG := (show Hid _ from hfg)
      have HK1 := (show Hid _ from hk1)
      have HL := (show Hid _ from hl)
      clear hfg hra hka hk1 hl hr1 HGF
      go_wp2_with fail
      refine Calls.mono HFG.out ?_
      rintro e w2 ⟨hk2, ⟨hfit, rfl, hr2⟩ | ⟨hfit, rfl, hr2⟩⟩
      · have hfit' : i + 3 + 9 ≤ N := hfit
        have hv := HREAD.out 3 9 hfit'
        have hvl := read_lt l (i + 3) 9 N hN8 hfit'
        rw [show BitMath.wideOf 2 = 9 from rfl]
        obtain ⟨v, hv0⟩ : ∃ v, v = BitMath.valB (BitMath.readB l (i + 3) 9) := ⟨_, rfl⟩
        rw [← hv0] at hvl ⊢
        rw [hv] at hv0
        have hun := BitMath.unwave_long D 2 3 HO.out rfl (show 3 + 9 ≤ D.length by omega) v hv0
        have how : (BitMath.waveOf (BitMath.numOf 2 v) = D.take (3 + BitMath.wideOf 2)) = (BitMath.formOf (BitMath.numOf 2 v) = 2) := BitMath.wave_own D 2 HO.out (show 3 + 9 ≤ D.length by omega) v hv0
        have hrg := num_range 2 v (by omega) hvl
        obtain ⟨n, hn⟩ : ∃ n, n = BitMath.numOf 2 v := ⟨_, rfl⟩
        rw [← hn] at hun how hrg ⊢
        obtain ⟨hn0, hn1⟩ := hrg
        obtain ⟨hblk, hkw⟩ := kept_form HK1.out hxl hk2
        have z0 : w2.cell? ⟨w1.heap.size, 0, none⟩ = some (.int .u64 6) := cells_of hblk 0
        have z1 : w2.cell? ⟨w1.heap.size, 1, none⟩ = some (.int .i64 3) := cells_of hblk 1
        have z2 : w2.cell? ⟨w1.heap.size, 2, none⟩ = some (.int .i64 9) := cells_of hblk 2
        have z3 : w2.cell? ⟨w1.heap.size, 3, none⟩ = some (.int .i64 255) := cells_of hblk 3
        have HF2 : Hid (Forms w2) := HF.out.kept hkw (by simp; omega)
        have HT2 := (show Hid _ from hkw.cell HT.out (by simp; omega))
        have HK2 := (show Hid _ from hkw)
        have HR2 := (show Hid _ from hr2)
        clear hv hv0 hvl hn hblk hkw hk2 hr2 HFG hfit hfit'
        go_wp2_with fail
        by_cases hown : BitMath.formOf n = 2
        · have HUN := (show Hid _ from hun.trans (if_pos (how.mpr hown)))
          have hfn := hown
          clear hun hown how
          have HFO := (show Hid _ from formOf_held n 2 hfn w2.drew HF2.out hn0 hn1 w1.heap.size _ _ _ _ z0 z1 z2 z3)
          unfold formVal at HFO
          clear hfn
          go_region_held3 (fun w' => w'.cell? ⟨w1.heap.size, 0, none⟩ = some (.int .u64 6) ∧ w'.cell? ⟨w1.heap.size, 1, none⟩ = some (.int .i64 3) ∧ w'.cell? ⟨w1.heap.size, 2, none⟩ = some (.int .i64 9) ∧ w'.cell? ⟨w1.heap.size, 3, none⟩ = some (.int .i64 255)) (go_keep) ((go_at_call 58; refine Calls.mono HFO.out ?_; rintro e w3 ⟨rfl, ⟨q0, q1, q2, q3⟩, hb3⟩))
          replace hb3 := (below_draw w2 1).trans hb3
          have HK3 := (show Hid _ from HK2.out.trans (Kept.of_below (S := []) hb3) (fun y hy => by cases hy))
          have HR3 := (show Hid _ from HR2.out.below hb3)
          clear q0 q1 q2 q3 hb3 z0 z1 z2 z3
          go_wp2
          go_ret2
          exact ⟨HK3.out, .inl ⟨by rw [HUN.out], by rw [HUN.out]; rfl, by rw [HUN.out]; have := HR3.out; rw [Nat.add_assoc] at this; exact this⟩⟩
        · have HUN := (show Hid _ from hun.trans (if_neg (fun c => hown (how.mp c))))
          have hfl := BitMath.formOf_le n
          clear hun how
          rcases (by omega : BitMath.formOf n = 0 ∨ BitMath.formOf n = 1 ∨ BitMath.formOf n = 3 ∨ BitMath.formOf n = 4) with hfn | hfn | hfn | hfn
          · clear hown hfl
            have HFO := (show Hid _ from formOf_held n 0 hfn w2.drew HF2.out hn0 hn1 w1.heap.size _ _ _ _ z0 z1 z2 z3)
            unfold formVal at HFO
            clear hfn
            go_region_held3 (fun w' => w'.cell? ⟨w1.heap.size, 0, none⟩ = some (.int .u64 6) ∧ w'.cell? ⟨w1.heap.size, 1, none⟩ = some (.int .i64 3) ∧ w'.cell? ⟨w1.heap.size, 2, none⟩ = some (.int .i64 9) ∧ w'.cell? ⟨w1.heap.size, 3, none⟩ = some (.int .i64 255)) (go_keep) ((go_at_call 58; refine Calls.mono HFO.out ?_; rintro e w3 ⟨rfl, ⟨q0, q1, q2, q3⟩, hb3⟩))
            replace hb3 := (below_draw w2 1).trans hb3
            have HK3 := (show Hid _ from HK2.out.trans (Kept.of_below (S := []) hb3) (fun y hy => by cases hy))
            have HR3 := (show Hid _ from HR2.out.below hb3)
            have hT3 : w3.cell? ⟨0, 0, none⟩ = some (.iface 97 (.pointer (some aT))) := (hb3.cell (p := ⟨0, 0, none⟩) (lt_of_cell HT2.out)).trans HT2.out
            clear q0 q1 q2 q3 hb3 z0 z1 z2 z3
            go_wp2_with fail
            go_quiet (fail)
            go_wp2
            go_ret2
            exact ⟨HK3.out.draws _, .inr (.inr ⟨HUN.out, rfl, i + 3 + 9, by omega, HR3.out.drewN _⟩)⟩
          · clear hown hfl
            have HFO := (show Hid _ from formOf_held n 1 hfn w2.drew HF2.out hn0 hn1 w1.heap.size _ _ _ _ z0 z1 z2 z3)
            unfold formVal at HFO
            clear hfn
            go_region_held3 (fun w' => w'.cell? ⟨w1.heap.size, 0, none⟩ = some (.int .u64 6) ∧ w'.cell? ⟨w1.heap.size, 1, none⟩ = some (.int .i64 3) ∧ w'.cell? ⟨w1.heap.size, 2, none⟩ = some (.int .i64 9) ∧ w'.cell? ⟨w1.heap.size, 3, none⟩ = some (.int .i64 255)) (go_keep) ((go_at_call 58; refine Calls.mono HFO.out ?_; rintro e w3 ⟨rfl, ⟨q0, q1, q2, q3⟩, hb3⟩))
            replace hb3 := (below_draw w2 1).trans hb3
            have HK3 := (show Hid _ from HK2.out.trans (Kept.of_below (S := []) hb3) (fun y hy => by cases hy))
            have HR3 := (show Hid _ from HR2.out.below hb3)
            have hT3 : w3.cell? ⟨0, 0, none⟩ = some (.iface 97 (.pointer (some aT))) := (hb3.cell (p := ⟨0, 0, none⟩) (lt_of_cell HT2.out)).trans HT2.out
            clear q0 q1 q2 q3 hb3 z0 z1 z2 z3
            go_wp2_with fail
            go_quiet (fail)
            go_wp2
            go_ret2
            exact ⟨HK3.out.draws _, .inr (.inr ⟨HUN.out, rfl, i + 3 + 9, by omega, HR3.out.drewN _⟩)⟩
          · clear hown hfl
            have HFO := (show Hid _ from formOf_held n 3 hfn w2.drew HF2.out hn0 hn1 w1.heap.size _ _ _ _ z0 z1 z2 z3)
            unfold formVal at HFO
            clear hfn
            go_region_held3 (fun w' => w'.cell? ⟨w1.heap.size, 0, none⟩ = some (.int .u64 6) ∧ w'.cell? ⟨w1.heap.size, 1, none⟩ = some (.int .i64 3) ∧ w'.cell? ⟨w1.heap.size, 2, none⟩ = some (.int .i64 9) ∧ w'.cell? ⟨w1.heap.size, 3, none⟩ = some (.int .i64 255)) (go_keep) ((go_at_call 58; refine Calls.mono HFO.out ?_; rintro e w3 ⟨rfl, ⟨q0, q1, q2, q3⟩, hb3⟩))
            replace hb3 := (below_draw w2 1).trans hb3
            have HK3 := (show Hid _ from HK2.out.trans (Kept.of_below (S := []) hb3) (fun y hy => by cases hy))
            have HR3 := (show Hid _ from HR2.out.below hb3)
            have hT3 : w3.cell? ⟨0, 0, none⟩ = some (.iface 97 (.pointer (some aT))) := (hb3.cell (p := ⟨0, 0, none⟩) (lt_of_cell HT2.out)).trans HT2.out
            clear q0 q1 q2 q3 hb3 z0 z1 z2 z3
            go_wp2_with fail
            go_quiet (fail)
            go_wp2
            go_ret2
            exact ⟨HK3.out.draws _, .inr (.inr ⟨HUN.out, rfl, i + 3 + 9, by omega, HR3.out.drewN _⟩)⟩
          · clear hown hfl
            have HFO := (show Hid _ from formOf_held n 4 hfn w2.drew HF2.out hn0 hn1 w1.heap.size _ _ _ _ z0 z1 z2 z3)
            unfold formVal at HFO
            clear hfn
            go_region_held3 (fun w' => w'.cell? ⟨w1.heap.size, 0, none⟩ = some (.int .u64 6) ∧ w'.cell? ⟨w1.heap.size, 1, none⟩ = some (.int .i64 3) ∧ w'.cell? ⟨w1.heap.size, 2, none⟩ = some (.int .i64 9) ∧ w'.cell? ⟨w1.heap.size, 3, none⟩ = some (.int .i64 255)) (go_keep) ((go_at_call 58; refine Calls.mono HFO.out ?_; rintro e w3 ⟨rfl, ⟨q0, q1, q2, q3⟩, hb3⟩))
            replace hb3 := (below_draw w2 1).trans hb3
            have HK3 := (show Hid _ from HK2.out.trans (Kept.of_below (S := []) hb3) (fun y hy => by cases hy))
            have HR3 := (show Hid _ from HR2.out.below hb3)
            have hT3 : w3.cell? ⟨0, 0, none⟩ = some (.iface 97 (.pointer (some aT))) := (hb3.cell (p := ⟨0, 0, none⟩) (lt_of_cell HT2.out)).trans HT2.out
            clear q0 q1 q2 q3 hb3 z0 z1 z2 z3
            go_wp2_with fail
            go_quiet (fail)
            go_wp2
            go_ret2
            exact ⟨HK3.out.draws _, .inr (.inr ⟨HUN.out, rfl, i + 3 + 9, by omega, HR3.out.drewN _⟩)⟩
      · have hun := BitMath.unwave_short D 2 3 HO.out rfl (show D.length < 3 + 9 by have : N < i + 3 + 9 := hfit; omega)
        have HUN := (show Hid _ from hun)
        have HK2 := (show Hid _ from (kept_form HK1.out hxl hk2).2)
        have HR2 := (show Hid _ from hr2)
        clear hun hfit hk2 hr2 HFG
        go_wp2
        go_ret2
        exact ⟨HK2.out, .inr (.inl ⟨HUN.out, rfl, i + 3, by omega, HR2.out⟩)⟩
    · have hun := BitMath.unwave_short D 2 3 HO.out rfl (by omega)
      have HUN := (show Hid _ from hun)
      have HK1 := (show Hid _ from hk1)
      have HR1 := (show Hid _ from hr1)
      clear hun hk1 hr1 HGF hl
      go_wp2
      go_ret2
      exact ⟨HK1.out.alloc _, .inr (.inl ⟨HUN.out, rfl, j, hij, HR1.out.below ((Below.refl _ _).alloc (Nat.le_refl _) _)⟩)⟩
  · have hgf' : Calls Tryd.prog 61 #[.pointer (some ⟨x, 0, none⟩)] w fun e w' => Kept [x] w w' ∧ ((e = .returned (.tuple #[.agg #[.int .u64 14, .int .i64 4, .int .i64 12, .int .i64 2047], .nilIface]) ∧ 4 ≤ D.length ∧ IsReader w' x g cap l (i + 4) N) ∨ (e = .returned (.tuple #[.agg #[.int .u64 0, .int .i64 0, .int .i64 0, .int .i64 0], .iface 97 (.pointer (some aN))]) ∧ D.length < 4 ∧ ∃ j, i ≤ j ∧ IsReader w' x g cap l j N)) := hgf
    have HGF := (show Hid _ from hgf')
    have HO := (show Hid _ from ho)
    clear hgf hgf' ho
    go_enter Tryd.func33, Tryd.ntmps33
    go_wp2_with fail
    refine Calls.mono HGF.out ?_
    rintro e w1 ⟨hk1, ⟨rfl, hl, hr1⟩ | ⟨rfl, hl, j, hij, hr1⟩⟩
    · have hka := hk1.alloc (.cells #[.int .u64 14, .int .i64 4, .int .i64 12, .int .i64 2047] 106)
      have hra : IsReader (w1.alloc (.cells #[.int .u64 14, .int .i64 4, .int .i64 12, .int .i64 2047] 106)) x g cap l (i + 4) N := hr1.below ((Below.refl _ _).alloc (Nat.le_refl _) _)
      have hfg := fget_at 3 (by omega) (w1.alloc (.cells #[.int .u64 14, .int .i64 4, .int .i64 12, .int .i64 2047] 106)) x g cap l (i + 4) N hra aN (hka.cell HN.out (by simp; omega)) hxN
      have HFG := (show Hid _ from hfg)
      have HK1 := (show Hid _ from hk1)
      have HL := (show Hid _ from hl)
      clear hfg hra hka hk1 hl hr1 HGF
      go_wp2_with fail
      refine Calls.mono HFG.out ?_
      rintro e w2 ⟨hk2, ⟨hfit, rfl, hr2⟩ | ⟨hfit, rfl, hr2⟩⟩
      · have hfit' : i + 4 + 12 ≤ N := hfit
        have hv := HREAD.out 4 12 hfit'
        have hvl := read_lt l (i + 4) 12 N hN8 hfit'
        rw [show BitMath.wideOf 3 = 12 from rfl]
        obtain ⟨v, hv0⟩ : ∃ v, v = BitMath.valB (BitMath.readB l (i + 4) 12) := ⟨_, rfl⟩
        rw [← hv0] at hvl ⊢
        rw [hv] at hv0
        have hun := BitMath.unwave_long D 3 4 HO.out rfl (show 4 + 12 ≤ D.length by omega) v hv0
        have how : (BitMath.waveOf (BitMath.numOf 3 v) = D.take (4 + BitMath.wideOf 3)) = (BitMath.formOf (BitMath.numOf 3 v) = 3) := BitMath.wave_own D 3 HO.out (show 4 + 12 ≤ D.length by omega) v hv0
        have hrg := num_range 3 v (by omega) hvl
        obtain ⟨n, hn⟩ : ∃ n, n = BitMath.numOf 3 v := ⟨_, rfl⟩
        rw [← hn] at hun how hrg ⊢
        obtain ⟨hn0, hn1⟩ := hrg
        obtain ⟨hblk, hkw⟩ := kept_form HK1.out hxl hk2
        have z0 : w2.cell? ⟨w1.heap.size, 0, none⟩ = some (.int .u64 14) := cells_of hblk 0
        have z1 : w2.cell? ⟨w1.heap.size, 1, none⟩ = some (.int .i64 4) := cells_of hblk 1
        have z2 : w2.cell? ⟨w1.heap.size, 2, none⟩ = some (.int .i64 12) := cells_of hblk 2
        have z3 : w2.cell? ⟨w1.heap.size, 3, none⟩ = some (.int .i64 2047) := cells_of hblk 3
        have HF2 : Hid (Forms w2) := HF.out.kept hkw (by simp; omega)
        have HT2 := (show Hid _ from hkw.cell HT.out (by simp; omega))
        have HK2 := (show Hid _ from hkw)
        have HR2 := (show Hid _ from hr2)
        clear hv hv0 hvl hn hblk hkw hk2 hr2 HFG hfit hfit'
        go_wp2_with fail
        by_cases hown : BitMath.formOf n = 3
        · have HUN := (show Hid _ from hun.trans (if_pos (how.mpr hown)))
          have hfn := hown
          clear hun hown how
          have HFO := (show Hid _ from formOf_held n 3 hfn w2.drew HF2.out hn0 hn1 w1.heap.size _ _ _ _ z0 z1 z2 z3)
          unfold formVal at HFO
          clear hfn
          go_region_held3 (fun w' => w'.cell? ⟨w1.heap.size, 0, none⟩ = some (.int .u64 14) ∧ w'.cell? ⟨w1.heap.size, 1, none⟩ = some (.int .i64 4) ∧ w'.cell? ⟨w1.heap.size, 2, none⟩ = some (.int .i64 12) ∧ w'.cell? ⟨w1.heap.size, 3, none⟩ = some (.int .i64 2047)) (go_keep) ((go_at_call 58; refine Calls.mono HFO.out ?_; rintro e w3 ⟨rfl, ⟨q0, q1, q2, q3⟩, hb3⟩))
          replace hb3 := (below_draw w2 1).trans hb3
          have HK3 := (show Hid _ from HK2.out.trans (Kept.of_below (S := []) hb3) (fun y hy => by cases hy))
          have HR3 := (show Hid _ from HR2.out.below hb3)
          clear q0 q1 q2 q3 hb3 z0 z1 z2 z3
          go_wp2
          go_ret2
          exact ⟨HK3.out, .inl ⟨by rw [HUN.out], by rw [HUN.out]; rfl, by rw [HUN.out]; have := HR3.out; rw [Nat.add_assoc] at this; exact this⟩⟩
        · have HUN := (show Hid _ from hun.trans (if_neg (fun c => hown (how.mp c))))
          have hfl := BitMath.formOf_le n
          clear hun how
          rcases (by omega : BitMath.formOf n = 0 ∨ BitMath.formOf n = 1 ∨ BitMath.formOf n = 2 ∨ BitMath.formOf n = 4) with hfn | hfn | hfn | hfn
          · clear hown hfl
            have HFO := (show Hid _ from formOf_held n 0 hfn w2.drew HF2.out hn0 hn1 w1.heap.size _ _ _ _ z0 z1 z2 z3)
            unfold formVal at HFO
            clear hfn
            go_region_held3 (fun w' => w'.cell? ⟨w1.heap.size, 0, none⟩ = some (.int .u64 14) ∧ w'.cell? ⟨w1.heap.size, 1, none⟩ = some (.int .i64 4) ∧ w'.cell? ⟨w1.heap.size, 2, none⟩ = some (.int .i64 12) ∧ w'.cell? ⟨w1.heap.size, 3, none⟩ = some (.int .i64 2047)) (go_keep) ((go_at_call 58; refine Calls.mono HFO.out ?_; rintro e w3 ⟨rfl, ⟨q0, q1, q2, q3⟩, hb3⟩))
            replace hb3 := (below_draw w2 1).trans hb3
            have HK3 := (show Hid _ from HK2.out.trans (Kept.of_below (S := []) hb3) (fun y hy => by cases hy))
            have HR3 := (show Hid _ from HR2.out.below hb3)
            have hT3 : w3.cell? ⟨0, 0, none⟩ = some (.iface 97 (.pointer (some aT))) := (hb3.cell (p := ⟨0, 0, none⟩) (lt_of_cell HT2.out)).trans HT2.out
            clear q0 q1 q2 q3 hb3 z0 z1 z2 z3
            go_wp2_with fail
            go_quiet (fail)
            go_wp2
            go_ret2
            exact ⟨HK3.out.draws _, .inr (.inr ⟨HUN.out, rfl, i + 4 + 12, by omega, HR3.out.drewN _⟩)⟩
          · clear hown hfl
            have HFO := (show Hid _ from formOf_held n 1 hfn w2.drew HF2.out hn0 hn1 w1.heap.size _ _ _ _ z0 z1 z2 z3)
            unfold formVal at HFO
            clear hfn
            go_region_held3 (fun w' => w'.cell? ⟨w1.heap.size, 0, none⟩ = some (.int .u64 14) ∧ w'.cell? ⟨w1.heap.size, 1, none⟩ = some (.int .i64 4) ∧ w'.cell? ⟨w1.heap.size, 2, none⟩ = some (.int .i64 12) ∧ w'.cell? ⟨w1.heap.size, 3, none⟩ = some (.int .i64 2047)) (go_keep) ((go_at_call 58; refine Calls.mono HFO.out ?_; rintro e w3 ⟨rfl, ⟨q0, q1, q2, q3⟩, hb3⟩))
            replace hb3 := (below_draw w2 1).trans hb3
            have HK3 := (show Hid _ from HK2.out.trans (Kept.of_below (S := []) hb3) (fun y hy => by cases hy))
            have HR3 := (show Hid _ from HR2.out.below hb3)
            have hT3 : w3.cell? ⟨0, 0, none⟩ = some (.iface 97 (.pointer (some aT))) := (hb3.cell (p := ⟨0, 0, none⟩) (lt_of_cell HT2.out)).trans HT2.out
            clear q0 q1 q2 q3 hb3 z0 z1 z2 z3
            go_wp2_with fail
            go_quiet (fail)
            go_wp2
            go_ret2
            exact ⟨HK3.out.draws _, .inr (.inr ⟨HUN.out, rfl, i + 4 + 12, by omega, HR3.out.drewN _⟩)⟩
          · clear hown hfl
            have HFO := (show Hid _ from formOf_held n 2 hfn w2.drew HF2.out hn0 hn1 w1.heap.size _ _ _ _ z0 z1 z2 z3)
            unfold formVal at HFO
            clear hfn
            go_region_held3 (fun w' => w'.cell? ⟨w1.heap.size, 0, none⟩ = some (.int .u64 14) ∧ w'.cell? ⟨w1.heap.size, 1, none⟩ = some (.int .i64 4) ∧ w'.cell? ⟨w1.heap.size, 2, none⟩ = some (.int .i64 12) ∧ w'.cell? ⟨w1.heap.size, 3, none⟩ = some (.int .i64 2047)) (go_keep) ((go_at_call 58; refine Calls.mono HFO.out ?_; rintro e w3 ⟨rfl, ⟨q0, q1, q2, q3⟩, hb3⟩))
            replace hb3 := (below_draw w2 1).trans hb3
            have HK3 := (show Hid _ from HK2.out.trans (Kept.of_below (S := []) hb3) (fun y hy => by cases hy))
            have HR3 := (show Hid _ from HR2.out.below hb3)
            have hT3 : w3.cell? ⟨0, 0, none⟩ = some (.iface 97 (.pointer (some aT))) := (hb3.cell (p := ⟨0, 0, none⟩) (lt_of_cell HT2.out)).trans HT2.out
            clear q0 q1 q2 q3 hb3 z0 z1 z2 z3
            go_wp2_with fail
            go_quiet (fail)
            go_wp2
            go_ret2
            exact ⟨HK3.out.draws _, .inr (.inr ⟨HUN.out, rfl, i + 4 + 12, by omega, HR3.out.drewN _⟩)⟩
          · clear hown hfl
            have HFO := (show Hid _ from formOf_held n 4 hfn w2.drew HF2.out hn0 hn1 w1.heap.size _ _ _ _ z0 z1 z2 z3)
            unfold formVal at HFO
            clear hfn
            go_region_held3 (fun w' => w'.cell? ⟨w1.heap.size, 0, none⟩ = some (.int .u64 14) ∧ w'.cell? ⟨w1.heap.size, 1, none⟩ = some (.int .i64 4) ∧ w'.cell? ⟨w1.heap.size, 2, none⟩ = some (.int .i64 12) ∧ w'.cell? ⟨w1.heap.size, 3, none⟩ = some (.int .i64 2047)) (go_keep) ((go_at_call 58; refine Calls.mono HFO.out ?_; rintro e w3 ⟨rfl, ⟨q0, q1, q2, q3⟩, hb3⟩))
            replace hb3 := (below_draw w2 1).trans hb3
            have HK3 := (show Hid _ from HK2.out.trans (Kept.of_below (S := []) hb3) (fun y hy => by cases hy))
            have HR3 := (show Hid _ from HR2.out.below hb3)
            have hT3 : w3.cell? ⟨0, 0, none⟩ = some (.iface 97 (.pointer (some aT))) := (hb3.cell (p := ⟨0, 0, none⟩) (lt_of_cell HT2.out)).trans HT2.out
            clear q0 q1 q2 q3 hb3 z0 z1 z2 z3
            go_wp2_with fail
            go_quiet (fail)
            go_wp2
            go_ret2
            exact ⟨HK3.out.draws _, .inr (.inr ⟨HUN.out, rfl, i + 4 + 12, by omega, HR3.out.drewN _⟩)⟩
      · have hun := BitMath.unwave_short D 3 4 HO.out rfl (show D.length < 4 + 12 by have : N < i + 4 + 12 := hfit; omega)
        have HUN := (show Hid _ from hun)
        have HK2 := (show Hid _ from (kept_form HK1.out hxl hk2).2)
        have HR2 := (show Hid _ from hr2)
        clear hun hfit hk2 hr2 HFG
        go_wp2
        go_ret2
        exact ⟨HK2.out, .inr (.inl ⟨HUN.out, rfl, i + 4, by omega, HR2.out⟩)⟩
    · have hun := BitMath.unwave_short D 3 4 HO.out rfl (by omega)
      have HUN := (show Hid _ from hun)
      have HK1 := (show Hid _ from hk1)
      have HR1 := (show Hid _ from hr1)
      clear hun hk1 hr1 HGF hl
      go_wp2
      go_ret2
      exact ⟨HK1.out.alloc _, .inr (.inl ⟨HUN.out, rfl, j, hij, HR1.out.below ((Below.refl _ _).alloc (Nat.le_refl _) _)⟩)⟩
  · have hgf' : Calls Tryd.prog 61 #[.pointer (some ⟨x, 0, none⟩)] w fun e w' => Kept [x] w w' ∧ ((e = .returned (.tuple #[.agg #[.int .u64 15, .int .i64 4, .int .i64 64, .int .i64 0], .nilIface]) ∧ 4 ≤ D.length ∧ IsReader w' x g cap l (i + 4) N) ∨ (e = .returned (.tuple #[.agg #[.int .u64 0, .int .i64 0, .int .i64 0, .int .i64 0], .iface 97 (.pointer (some aN))]) ∧ D.length < 4 ∧ ∃ j, i ≤ j ∧ IsReader w' x g cap l j N)) := hgf
    have HGF := (show Hid _ from hgf')
    have HO := (show Hid _ from ho)
    clear hgf hgf' ho
    go_enter Tryd.func33, Tryd.ntmps33
    go_wp2_with fail
    refine Calls.mono HGF.out ?_
    rintro e w1 ⟨hk1, ⟨rfl, hl, hr1⟩ | ⟨rfl, hl, j, hij, hr1⟩⟩
    · have hka := hk1.alloc (.cells #[.int .u64 15, .int .i64 4, .int .i64 64, .int .i64 0] 106)
      have hra : IsReader (w1.alloc (.cells #[.int .u64 15, .int .i64 4, .int .i64 64, .int .i64 0] 106)) x g cap l (i + 4) N := hr1.below ((Below.refl _ _).alloc (Nat.le_refl _) _)
      have hfg := fget_at 4 (by omega) (w1.alloc (.cells #[.int .u64 15, .int .i64 4, .int .i64 64, .int .i64 0] 106)) x g cap l (i + 4) N hra aN (hka.cell HN.out (by simp; omega)) hxN
      have HFG := (show Hid _ from hfg)
      have HK1 := (show Hid _ from hk1)
      have HL := (show Hid _ from hl)
      clear hfg hra hka hk1 hl hr1 HGF
      go_wp2_with fail
      refine Calls.mono HFG.out ?_
      rintro e w2 ⟨hk2, ⟨hfit, rfl, hr2⟩ | ⟨hfit, rfl, hr2⟩⟩
      · have hfit' : i + 4 + 64 ≤ N := hfit
        have hv := HREAD.out 4 64 hfit'
        have hvl := read_lt l (i + 4) 64 N hN8 hfit'
        rw [show BitMath.wideOf 4 = 64 from rfl]
        obtain ⟨v, hv0⟩ : ∃ v, v = BitMath.valB (BitMath.readB l (i + 4) 64) := ⟨_, rfl⟩
        rw [← hv0] at hvl ⊢
        rw [hv] at hv0
        have hun := BitMath.unwave_long D 4 4 HO.out rfl (show 4 + 64 ≤ D.length by omega) v hv0
        have how : (BitMath.waveOf (BitMath.numOf 4 v) = D.take (4 + BitMath.wideOf 4)) = (BitMath.formOf (BitMath.numOf 4 v) = 4) := BitMath.wave_own D 4 HO.out (show 4 + 64 ≤ D.length by omega) v hv0
        have hrg := num_range 4 v (by omega) hvl
        obtain ⟨n, hn⟩ : ∃ n, n = BitMath.numOf 4 v := ⟨_, rfl⟩
        rw [← hn] at hun how hrg ⊢
        obtain ⟨hn0, hn1⟩ := hrg
        obtain ⟨hblk, hkw⟩ := kept_form HK1.out hxl hk2
        have z0 : w2.cell? ⟨w1.heap.size, 0, none⟩ = some (.int .u64 15) := cells_of hblk 0
        have z1 : w2.cell? ⟨w1.heap.size, 1, none⟩ = some (.int .i64 4) := cells_of hblk 1
        have z2 : w2.cell? ⟨w1.heap.size, 2, none⟩ = some (.int .i64 64) := cells_of hblk 2
        have z3 : w2.cell? ⟨w1.heap.size, 3, none⟩ = some (.int .i64 0) := cells_of hblk 3
        have HF2 : Hid (Forms w2) := HF.out.kept hkw (by simp; omega)
        have HT2 := (show Hid _ from hkw.cell HT.out (by simp; omega))
        have HK2 := (show Hid _ from hkw)
        have HR2 := (show Hid _ from hr2)
        clear hv hv0 hvl hn hblk hkw hk2 hr2 HFG hfit hfit'
        go_wp2_with fail
        by_cases hown : BitMath.formOf n = 4
        · have HUN := (show Hid _ from hun.trans (if_pos (how.mpr hown)))
          have hfn := hown
          clear hun hown how
          have HFO := (show Hid _ from formOf_held n 4 hfn w2.drew HF2.out hn0 hn1 w1.heap.size _ _ _ _ z0 z1 z2 z3)
          unfold formVal at HFO
          clear hfn
          go_region_held3 (fun w' => w'.cell? ⟨w1.heap.size, 0, none⟩ = some (.int .u64 15) ∧ w'.cell? ⟨w1.heap.size, 1, none⟩ = some (.int .i64 4) ∧ w'.cell? ⟨w1.heap.size, 2, none⟩ = some (.int .i64 64) ∧ w'.cell? ⟨w1.heap.size, 3, none⟩ = some (.int .i64 0)) (go_keep) ((go_at_call 58; refine Calls.mono HFO.out ?_; rintro e w3 ⟨rfl, ⟨q0, q1, q2, q3⟩, hb3⟩))
          replace hb3 := (below_draw w2 1).trans hb3
          have HK3 := (show Hid _ from HK2.out.trans (Kept.of_below (S := []) hb3) (fun y hy => by cases hy))
          have HR3 := (show Hid _ from HR2.out.below hb3)
          clear q0 q1 q2 q3 hb3 z0 z1 z2 z3
          go_wp2
          go_ret2
          exact ⟨HK3.out, .inl ⟨by rw [HUN.out], by rw [HUN.out]; rfl, by rw [HUN.out]; have := HR3.out; rw [Nat.add_assoc] at this; exact this⟩⟩
        · have HUN := (show Hid _ from hun.trans (if_neg (fun c => hown (how.mp c))))
          have hfl := BitMath.formOf_le n
          clear hun how
          rcases (by omega : BitMath.formOf n = 0 ∨ BitMath.formOf n = 1 ∨ BitMath.formOf n = 2 ∨ BitMath.formOf n = 3) with hfn | hfn | hfn | hfn
          · clear hown hfl
            have HFO := (show Hid _ from formOf_held n 0 hfn w2.drew HF2.out hn0 hn1 w1.heap.size _ _ _ _ z0 z1 z2 z3)
            unfold formVal at HFO
            clear hfn
            go_region_held3 (fun w' => w'.cell? ⟨w1.heap.size, 0, none⟩ = some (.int .u64 15) ∧ w'.cell? ⟨w1.heap.size, 1, none⟩ = some (.int .i64 4) ∧ w'.cell? ⟨w1.heap.size, 2, none⟩ = some (.int .i64 64) ∧ w'.cell? ⟨w1.heap.size, 3, none⟩ = some (.int .i64 0)) (go_keep) ((go_at_call 58; refine Calls.mono HFO.out ?_; rintro e w3 ⟨rfl, ⟨q0, q1, q2, q3⟩, hb3⟩))
            replace hb3 := (below_draw w2 1).trans hb3
            have HK3 := (show Hid _ from HK2.out.trans (Kept.of_below (S := []) hb3) (fun y hy => by cases hy))
            have HR3 := (show Hid _ from HR2.out.below hb3)
            have hT3 : w3.cell? ⟨0, 0, none⟩ = some (.iface 97 (.pointer (some aT))) := (hb3.cell (p := ⟨0, 0, none⟩) (lt_of_cell HT2.out)).trans HT2.out
            clear q0 q1 q2 q3 hb3 z0 z1 z2 z3
            go_wp2_with fail
            go_quiet (fail)
            go_wp2
            go_ret2
            exact ⟨HK3.out.draws _, .inr (.inr ⟨HUN.out, rfl, i + 4 + 64, by omega, HR3.out.drewN _⟩)⟩
          · clear hown hfl
            have HFO := (show Hid _ from formOf_held n 1 hfn w2.drew HF2.out hn0 hn1 w1.heap.size _ _ _ _ z0 z1 z2 z3)
            unfold formVal at HFO
            clear hfn
            go_region_held3 (fun w' => w'.cell? ⟨w1.heap.size, 0, none⟩ = some (.int .u64 15) ∧ w'.cell? ⟨w1.heap.size, 1, none⟩ = some (.int .i64 4) ∧ w'.cell? ⟨w1.heap.size, 2, none⟩ = some (.int .i64 64) ∧ w'.cell? ⟨w1.heap.size, 3, none⟩ = some (.int .i64 0)) (go_keep) ((go_at_call 58; refine Calls.mono HFO.out ?_; rintro e w3 ⟨rfl, ⟨q0, q1, q2, q3⟩, hb3⟩))
            replace hb3 := (below_draw w2 1).trans hb3
            have HK3 := (show Hid _ from HK2.out.trans (Kept.of_below (S := []) hb3) (fun y hy => by cases hy))
            have HR3 := (show Hid _ from HR2.out.below hb3)
            have hT3 : w3.cell? ⟨0, 0, none⟩ = some (.iface 97 (.pointer (some aT))) := (hb3.cell (p := ⟨0, 0, none⟩) (lt_of_cell HT2.out)).trans HT2.out
            clear q0 q1 q2 q3 hb3 z0 z1 z2 z3
            go_wp2_with fail
            go_quiet (fail)
            go_wp2
            go_ret2
            exact ⟨HK3.out.draws _, .inr (.inr ⟨HUN.out, rfl, i + 4 + 64, by omega, HR3.out.drewN _⟩)⟩
          · clear hown hfl
            have HFO := (show Hid _ from formOf_held n 2 hfn w2.drew HF2.out hn0 hn1 w1.heap.size _ _ _ _ z0 z1 z2 z3)
            unfold formVal at HFO
            clear hfn
            go_region_held3 (fun w' => w'.cell? ⟨w1.heap.size, 0, none⟩ = some (.int .u64 15) ∧ w'.cell? ⟨w1.heap.size, 1, none⟩ = some (.int .i64 4) ∧ w'.cell? ⟨w1.heap.size, 2, none⟩ = some (.int .i64 64) ∧ w'.cell? ⟨w1.heap.size, 3, none⟩ = some (.int .i64 0)) (go_keep) ((go_at_call 58; refine Calls.mono HFO.out ?_; rintro e w3 ⟨rfl, ⟨q0, q1, q2, q3⟩, hb3⟩))
            replace hb3 := (below_draw w2 1).trans hb3
            have HK3 := (show Hid _ from HK2.out.trans (Kept.of_below (S := []) hb3) (fun y hy => by cases hy))
            have HR3 := (show Hid _ from HR2.out.below hb3)
            have hT3 : w3.cell? ⟨0, 0, none⟩ = some (.iface 97 (.pointer (some aT))) := (hb3.cell (p := ⟨0, 0, none⟩) (lt_of_cell HT2.out)).trans HT2.out
            clear q0 q1 q2 q3 hb3 z0 z1 z2 z3
            go_wp2_with fail
            go_quiet (fail)
            go_wp2
            go_ret2
            exact ⟨HK3.out.draws _, .inr (.inr ⟨HUN.out, rfl, i + 4 + 64, by omega, HR3.out.drewN _⟩)⟩
          · clear hown hfl
            have HFO := (show Hid _ from formOf_held n 3 hfn w2.drew HF2.out hn0 hn1 w1.heap.size _ _ _ _ z0 z1 z2 z3)
            unfold formVal at HFO
            clear hfn
            go_region_held3 (fun w' => w'.cell? ⟨w1.heap.size, 0, none⟩ = some (.int .u64 15) ∧ w'.cell? ⟨w1.heap.size, 1, none⟩ = some (.int .i64 4) ∧ w'.cell? ⟨w1.heap.size, 2, none⟩ = some (.int .i64 64) ∧ w'.cell? ⟨w1.heap.size, 3, none⟩ = some (.int .i64 0)) (go_keep) ((go_at_call 58; refine Calls.mono HFO.out ?_; rintro e w3 ⟨rfl, ⟨q0, q1, q2, q3⟩, hb3⟩))
            replace hb3 := (below_draw w2 1).trans hb3
            have HK3 := (show Hid _ from HK2.out.trans (Kept.of_below (S := []) hb3) (fun y hy => by cases hy))
            have HR3 := (show Hid _ from HR2.out.below hb3)
            have hT3 : w3.cell? ⟨0, 0, none⟩ = some (.iface 97 (.pointer (some aT))) := (hb3.cell (p := ⟨0, 0, none⟩) (lt_of_cell HT2.out)).trans HT2.out
            clear q0 q1 q2 q3 hb3 z0 z1 z2 z3
            go_wp2_with fail
            go_quiet (fail)
            go_wp2
            go_ret2
            exact ⟨HK3.out.draws _, .inr (.inr ⟨HUN.out, rfl, i + 4 + 64, by omega, HR3.out.drewN _⟩)⟩
      · have hun := BitMath.unwave_short D 4 4 HO.out rfl (show D.length < 4 + 64 by have : N < i + 4 + 64 := hfit; omega)
        have HUN := (show Hid _ from hun)
        have HK2 := (show Hid _ from (kept_form HK1.out hxl hk2).2)
        have HR2 := (show Hid _ from hr2)
        clear hun hfit hk2 hr2 HFG
        go_wp2
        go_ret2
        exact ⟨HK2.out, .inr (.inl ⟨HUN.out, rfl, i + 4, by omega, HR2.out⟩)⟩
    · have hun := BitMath.unwave_short D 4 4 HO.out rfl (by omega)
      have HUN := (show Hid _ from hun)
      have HK1 := (show Hid _ from hk1)
      have HR1 := (show Hid _ from hr1)
      clear hun hk1 hr1 HGF hl
      go_wp2
      go_ret2
      exact ⟨HK1.out.alloc _, .inr (.inl ⟨HUN.out, rfl, j, hij, HR1.out.below ((Below.refl _ _).alloc (Nat.le_refl _) _)⟩)⟩
end Go.Proofs.YtgdflopgdlpimaaDoor
