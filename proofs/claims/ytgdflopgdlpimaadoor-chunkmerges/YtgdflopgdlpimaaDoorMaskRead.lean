/- Package mask's getChange by its contract. -/
import Derived.Test.YtgdflopgdlpimaaDoorMaskWinGroup
import Derived.Test.YtgdflopgdlpimaaDoorMaskGet2
import Derived.Deep.RegionHeld3
namespace Go.Proofs.YtgdflopgdlpimaaDoor
open Go.RowKit

/-- What getChange answers of the bits D. -/
def ChangeOut (w w' : World) (x : Nat) (u : Bool × Nat × Nat) (D : List Bool) (aN aT : Addr) (e : Ending) : Prop :=
  Kept [x] w w' ∧
    ((∃ X b : Nat, X < 18446744073709551616 ∧ (∀ p, BitMath.readStep u p D = (0, p ^^^ X, b)) ∧ e = .returned (.tuple #[formV (BitMath.wayOf u X) (BitMath.mNext u X).2.1 (BitMath.wideW (BitMath.mNext u X)), .int .u64 (X : Int), .nilIface]) ∧ RdAt w' x (D.drop b)) ∨
     ((∀ p, BitMath.readStep u p D = (5, 0, 0)) ∧ e = .returned (.tuple #[formV 0 0 0, .int .u64 0, .iface 97 (.pointer (some aN))])) ∨
     ((∀ p, BitMath.readStep u p D = (1, 0, 0)) ∧ e = .returned (.tuple #[formV 0 0 0, .int .u64 0, .iface 97 (.pointer (some aT))])))

/-- What a form's get answers, where its bits say D in all. -/
def ToldOut (u : Bool × Nat × Nat) (D : List Bool) (y A F : Nat) (w0 w' : World) (x : Nat) (aN : Addr) (e : Ending) : Prop :=
  Kept [x] w0 w' ∧
    ((∃ X b : Nat, e = .returned (.tuple #[.int .u64 (X : Int), .nilIface]) ∧ RdAt w' x (D.drop b) ∧ X < 18446744073709551616 ∧
        ((BitMath.wayOf u X = y ∧ (BitMath.mNext u X).2.1 = A ∧ BitMath.wideW (BitMath.mNext u X) = F) → ∀ p, BitMath.readStep u p D = (0, p ^^^ X, b)) ∧
        (¬ (BitMath.wayOf u X = y ∧ (BitMath.mNext u X).2.1 = A ∧ BitMath.wideW (BitMath.mNext u X) = F) → ∀ p, BitMath.readStep u p D = (1, 0, 0))) ∨
     ((∀ p, BitMath.readStep u p D = (5, 0, 0)) ∧ e = .returned (.tuple #[.int .u64 0, .iface 97 (.pointer (some aN))])))
/-- getForm, with what get will answer of the form that it finds. -/
theorem find_any (u : Bool × Nat × Nat) (hu : BitMath.WinOK u) (w : World) (x : Nat) (D : List Bool) (h : RdAt w x D) (aN aT : Addr) (hN : w.cell? ⟨4, 0, none⟩ = some (.iface 97 (.pointer (some aN)))) (hT : w.cell? ⟨0, 0, none⟩ = some (.iface 97 (.pointer (some aT)))) (hxN : 4 < x) (hxT : 0 < x) :
    Calls Tryd.prog 92 #[.pointer (some ⟨x, 0, none⟩), winV u.2.1 (BitMath.wideW u)] w fun e w' => Kept [x] w w' ∧
      ((∃ y A F, y ≤ 2 ∧ e = .returned (.tuple #[formV y A F, .nilIface]) ∧ ∀ w0, Kept [] w' w0 → Calls Tryd.prog 93 #[formV y A F, .pointer (some ⟨x, 0, none⟩)] w0 fun e w2 => ToldOut u D y A F w0 w2 x aN e) ∨
       ((∀ p, BitMath.readStep u p D = (5, 0, 0)) ∧ e = .returned (.tuple #[formV 0 0 0, .iface 97 (.pointer (some aN))])) ∨
       ((∀ p, BitMath.readStep u p D = (1, 0, 0)) ∧ e = .returned (.tuple #[formV 0 0 0, .iface 97 (.pointer (some aT))]))) := by
  have hwl := BitMath.wide_le hu
  refine (mgetForm_any u.2.1 (BitMath.wideW u) w x D h aN aT hN hT hxN hxT).mono ?_
  rintro e w1 ⟨hk1, hout⟩
  refine ⟨hk1, ?_⟩
  have hN1 := hk1.cell hN (by simp; omega)
  rcases hout with ⟨h0, rfl, hr⟩ | ⟨h0, h1, rfl, hr⟩ | ⟨h0, h1, h13, hs, rfl, hr⟩ | ⟨hs, rfl⟩ | ⟨h0, h1, h13, hs, rfl⟩
  · refine .inl ⟨0, _, _, by omega, rfl, fun w0 hk0 => (mfget_same _ _ _ _).mono ?_⟩
    rintro e w2 ⟨rfl, hb2⟩
    refine ⟨Kept.of_below hb2, .inl ⟨0, 1, rfl, (hr.keptBy hk0 (fun b hb => by cases hb)).below hb2, by omega, fun _ p => BitMath.step_zero u p D h0, fun hn => absurd ?_ hn⟩⟩
    refine ⟨by unfold BitMath.wayOf; rw [if_pos rfl], ?_, ?_⟩
    · unfold BitMath.mNext; rw [if_pos rfl]
    · unfold BitMath.mNext; rw [if_pos rfl]
  · obtain ⟨hsh, hgd⟩ := BitMath.step_old u D hu h0 h1
    refine .inl ⟨1, _, _, by omega, rfl, fun w0 hk0 => (mfget_any 1 _ _ w0 x (D.drop 2) (hr.keptBy hk0 (fun b hb => by cases hb)) aN (hk0.cell hN1 (by simp)) (by omega) hwl).mono ?_⟩
    rintro e w2 ⟨hk2, ⟨hle, rfl, hr2⟩ | ⟨hlt, rfl⟩⟩
    · have hbl : ((D.drop 2).take (BitMath.wideW u)).length = BitMath.wideW u := by rw [List.length_take, Nat.min_eq_left hle]
      have hy := BitMath.valB_lt ((D.drop 2).take (BitMath.wideW u))
      rw [hbl] at hy
      have hXl := BitMath.mul_lt64 _ (64 - u.2.1 - BitMath.wideW u) _ hy (by omega)
      rw [Nat.mod_eq_of_lt hXl]
      obtain ⟨hz, hnz⟩ := hgd hle _ rfl hXl
      generalize BitMath.valB ((D.drop 2).take (BitMath.wideW u)) * 2 ^ (64 - u.2.1 - BitMath.wideW u) = X at *
      refine ⟨hk2, .inl ⟨X, 2 + BitMath.wideW u, rfl, by rw [List.drop_drop] at hr2; exact hr2, hXl, fun hw => ?_, fun hw => ?_⟩⟩
      · by_cases hX0 : X = 0
        · exfalso
          have := hw.1
          unfold BitMath.wayOf at this
          rw [if_pos hX0] at this
          omega
        · exact (hnz hX0).2
      · by_cases hX0 : X = 0
        · exact hz hX0
        · exfalso
          apply hw
          have hfit := (hnz hX0).1
          refine ⟨by unfold BitMath.wayOf; rw [if_neg hX0, if_pos hfit], ?_, ?_⟩
          · unfold BitMath.mNext; rw [if_neg hX0, if_pos hfit]
          · unfold BitMath.mNext; rw [if_neg hX0, if_pos hfit]
    · exact ⟨hk2, .inr ⟨hsh hlt, rfl⟩⟩
  · obtain ⟨hwd, hsh, hgd⟩ := BitMath.step_new u D _ _ h0 h1 h13 rfl rfl
    refine .inl ⟨2, _, _, by omega, rfl, fun w0 hk0 => (mfget_any 2 _ _ w0 x (D.drop 13) (hr.keptBy hk0 (fun b hb => by cases hb)) aN (hk0.cell hN1 (by simp)) (by omega) hs).mono ?_⟩
    rintro e w2 ⟨hk2, ⟨hle, rfl, hr2⟩ | ⟨hlt, rfl⟩⟩
    · generalize BitMath.valB ((D.drop 2).take 5) = A at *
      generalize BitMath.fixW (BitMath.valB ((D.drop 7).take 6)) = F at *
      have hbl : ((D.drop 13).take F).length = F := by rw [List.length_take, Nat.min_eq_left hle]
      have hy := BitMath.valB_lt ((D.drop 13).take F)
      rw [hbl] at hy
      have hXl := BitMath.mul_lt64 _ (64 - A - F) _ hy (by omega)
      rw [Nat.mod_eq_of_lt hXl]
      obtain ⟨hyes, hno⟩ := hgd hs hle _ rfl hXl
      exact ⟨hk2, .inl ⟨_, 13 + F, rfl, by rw [List.drop_drop] at hr2; exact hr2, hXl, hyes, hno⟩⟩
    · exact ⟨hk2, .inr ⟨hsh hs hlt, rfl⟩⟩
  · exact .inr (.inl ⟨fun p => BitMath.step_short u p D hs, rfl⟩)
  · obtain ⟨hwd, hsh, hgd⟩ := BitMath.step_new u D _ _ h0 h1 h13 rfl rfl
    exact .inr (.inr ⟨hwd hs, rfl⟩)

theorem set3_here {a : World} {b : Nat} {p q r : Value} {t : TypeId} (h : a.heap[b]? = some (.cells #[p, q, r] t (0, 0))) (u v s : Value) :
    (((a.setCell ⟨b, 0, none⟩ u).setCell ⟨b, 1, none⟩ v).setCell ⟨b, 2, none⟩ s).cell? ⟨b, 0, none⟩ = some u ∧ (((a.setCell ⟨b, 0, none⟩ u).setCell ⟨b, 1, none⟩ v).setCell ⟨b, 2, none⟩ s).cell? ⟨b, 1, none⟩ = some v ∧
    (((a.setCell ⟨b, 0, none⟩ u).setCell ⟨b, 1, none⟩ v).setCell ⟨b, 2, none⟩ s).cell? ⟨b, 2, none⟩ = some s := by
  have h3 := heap_set (heap_set (heap_set h 0 u) 1 v) 2 s
  exact ⟨cells_of h3 0, cells_of h3 1, cells_of h3 2⟩
/-- What getChange holds behind get: the two blocks that it made, the form, the reader, the library's table. -/
structure ChAt (w w' : World) (x L W f : Nat) (y A F : Nat) (E : List Bool) (t : Value) : Prop where
  two : FAt w w' x L W
  form : w'.heap[f]? = some (.cells #[.int .i64 (y : Int), .int .i64 (A : Int), .int .i64 (F : Int)] 123 (0, 0))
  tab : Tab w'
  rd : RdAt w' x E
  txt : w'.cell? ⟨0, 0, none⟩ = some t
theorem ChAt.below {w a b : World} {x L W f y A F : Nat} {E : List Bool} {t : Value} (h : ChAt w a x L W f y A F E t) (hx : x < w.heap.size) (hb : Below a.heap.size a b) : ChAt w b x L W f y A F E t :=
  ⟨h.two.step hx (Kept.of_below hb), (hb.block _ (lt_of_block h.form)).trans h.form, h.tab.below hb h.tab.lt, h.rd.below hb, (hb.cell (p := ⟨0, 0, none⟩) (lt_of_cell h.txt)).trans h.txt⟩
theorem ChAt.drew {w a : World} {x L W f y A F : Nat} {E : List Bool} {t : Value} (h : ChAt w a x L W f y A F E t) (hx : x < w.heap.size) : ChAt w a.drew x L W f y A F E t :=
  h.below hx ⟨rfl, rfl, rfl, Nat.le_refl _, fun _ _ => rfl⟩

set_option maxRecDepth 1000000 in
set_option maxHeartbeats 2000000 in
theorem getChange_any (u : Bool × Nat × Nat) (hu : BitMath.WinOK u) (w : World) (x : Nat) (D : List Bool) (h : RdAt w x D) (hTab : Tab w) (aN aT : Addr) (hN : w.cell? ⟨4, 0, none⟩ = some (.iface 97 (.pointer (some aN)))) (hT : w.cell? ⟨0, 0, none⟩ = some (.iface 97 (.pointer (some aT)))) (hxN : 4 < x) (hxT : 0 < x) (hxB : 13 < x) :
    Calls Tryd.prog 72 #[.pointer (some ⟨x, 0, none⟩), winV u.2.1 (BitMath.wideW u)] w fun e w' => ChangeOut w w' x u D aN aT e := by
  have hxl := h.lt
  have hwl := BitMath.wide_le hu
  obtain ⟨L, hL⟩ : ∃ L, u.2.1 = L := ⟨_, rfl⟩
  obtain ⟨W, hW⟩ : ∃ W, BitMath.wideW u = W := ⟨_, rfl⟩
  have hfo := fun X (hX : X < 18446744073709551616) w0 hT0 => mformOf_any u X w0 hu hX hT0
  rw [hL, hW] at hfo hwl ⊢
  obtain ⟨wa, hwa⟩ : ∃ wa, wa = (w.alloc (.cells #[.int .i64 (L : Int), .int .i64 (W : Int)] 121)).alloc (.cells #[.int .i64 0, .int .i64 0, .int .i64 0] 123) := ⟨_, rfl⟩
  have hka : Kept [] w wa := by rw [hwa]; exact ((Kept.refl _ _).alloc _).alloc _
  have hra : RdAt wa x D := h.keptBy hka (fun b hb => by cases hb)
  have hfa : FAt w wa x L W := by
    refine ⟨?_, ?_, hka.none⟩
    · rw [hwa, Below.heap_alloc _ _ _ (by simp)]
      exact heap_alloc_new _ _
    · rw [hwa]
      have := heap_alloc_new (w.alloc (.cells #[.int .i64 (L : Int), .int .i64 (W : Int)] 121)) (.cells #[.int .i64 0, .int .i64 0, .int .i64 0] 123)
      simpa using this
  have hNa := hka.cell hN (by simp)
  have hTa := hka.cell hT (by simp)
  have hBa : Tab wa := fun j hj => hka.cell (hTab j hj) (by simp)
  have hgf := find_any u hu wa x D hra aN aT hNa hTa hxN hxT
  rw [hL, hW] at hgf
  have HGF := (show Hid _ from hgf)
  have HWA := (show Hid _ from hwa)
  have HFA := (show Hid _ from hfa)
  have HNA := (show Hid _ from hNa)
  have HTA := (show Hid _ from hTa)
  have HBA : Hid (Tab wa) := hBa
  have HFO := (show Hid _ from hfo)
  have c0 : wa.cell? ⟨w.heap.size, 0, none⟩ = some (.int .i64 (L : Int)) := cells_of hfa.win 0
  have c1 : wa.cell? ⟨w.heap.size, 1, none⟩ = some (.int .i64 (W : Int)) := cells_of hfa.win 1
  unfold winV at HGF ⊢
  clear hN hT h hwa hka hfa hNa hTa hBa hgf hfo hTab hra
  go_enter Tryd.func72, Tryd.ntmps72
  go_wp2_with fail
  rw [← HWA.out]
  refine Calls.mono HGF.out ?_
  rintro e w1 ⟨hk1, hout⟩
  have hf := HFA.out.step hxl hk1
  clear c0 c1 HGF HWA
  rcases hout with ⟨y, A, F, hy, rfl, hget⟩ | ⟨hst, rfl⟩ | ⟨hst, rfl⟩
  · have hlt3 : w.heap.size + 1 < w1.heap.size := lt_of_block hf.res
    have hne3 : w.heap.size + 1 ≠ w1.heap.size := by omega
    have hne4 : w1.heap.size ≠ w.heap.size + 1 := by omega
    obtain ⟨wb, hwb⟩ : ∃ wb, wb = w1.alloc (.cells #[.int .i64 (y : Int), .int .i64 (A : Int), .int .i64 (F : Int)] 123) := ⟨_, rfl⟩
    have hkb : Kept [] w1 wb := by rw [hwb]; exact (Kept.refl _ _).alloc _
    have hfb := hf.step hxl hkb.none
    have hblk : wb.heap[w1.heap.size]? = some (.cells #[.int .i64 (y : Int), .int .i64 (A : Int), .int .i64 (F : Int)] 123 (0, 0)) := by rw [hwb]; exact heap_alloc_new _ _
    have htb : Tab wb := fun j hj => hkb.cell (hk1.cell (HBA.out j hj) (by simp; omega)) (by simp)
    have hTb := hkb.cell (hk1.cell HTA.out (by simp; omega)) (by simp)
    have HG := (show Hid _ from hget wb hkb)
    have HWB := (show Hid _ from hwb)
    have HFB := (show Hid _ from hfb)
    have HBLK := (show Hid _ from hblk)
    have HTB : Hid (Tab wb) := htb
    have HTT := (show Hid _ from hTb)
    unfold formV at HG ⊢
    clear hf hk1 hget hwb hkb hfb hblk htb hTb HNA HTA HBA HFA
    go_wp2_with fail
    rw [← HWB.out]
    refine Calls.mono HG.out ?_
    rintro e w2 ⟨hk2, hout⟩
    have hf2 := HFB.out.step hxl hk2
    have hblk2 := (hk2.block w1.heap.size (lt_of_block HBLK.out) (by simp; omega)).trans HBLK.out
    have htb2 : Tab w2 := fun j hj => hk2.cell (HTB.out j hj) (by simp; omega)
    have hTT2 := hk2.cell HTT.out (by simp; omega)
    have hs2 : w1.heap.size < w2.heap.size := lt_of_block hblk2
    clear HG HWB HFB HBLK HTB HTT hk2
    have z0 : w2.cell? ⟨w.heap.size + 1, 0, none⟩ = some (.int .i64 0) := cells_of hf2.res 0
    have z1 : w2.cell? ⟨w.heap.size + 1, 1, none⟩ = some (.int .i64 0) := cells_of hf2.res 1
    have z2 : w2.cell? ⟨w.heap.size + 1, 2, none⟩ = some (.int .i64 0) := cells_of hf2.res 2
    have y0 : w2.frozen? ⟨w.heap.size + 1, 0, none⟩ = false := frozen_of hf2.res 0
    have y1 : w2.frozen? ⟨w.heap.size + 1, 1, none⟩ = false := frozen_of hf2.res 1
    have y2 : w2.frozen? ⟨w.heap.size + 1, 2, none⟩ = false := frozen_of hf2.res 2
    rcases hout with ⟨X, b, rfl, hr2, hXl, hyes, hno⟩ | ⟨hst, rfl⟩
    · have hch : ChAt w w2 x L W w1.heap.size y A F (D.drop b) (.iface 97 (.pointer (some aT))) := ⟨hf2, hblk2, htb2, hr2, hTT2⟩
      have hfo := fun w0 (h0 : ChAt w w0 x L W w1.heap.size y A F (D.drop b) (.iface 97 (.pointer (some aT)))) => (HFO.out X hXl w0 h0.tab).mono (R' := fun e w' => e = .returned (formV (BitMath.wayOf u X) (BitMath.mNext u X).2.1 (BitMath.wideW (BitMath.mNext u X))) ∧ (w'.cell? ⟨w.heap.size, 0, none⟩ = some (.int .i64 (L : Int)) ∧ w'.cell? ⟨w.heap.size, 1, none⟩ = some (.int .i64 (W : Int)) ∧ w'.cell? ⟨w1.heap.size, 0, none⟩ = some (.int .i64 (y : Int)) ∧ w'.cell? ⟨w1.heap.size, 1, none⟩ = some (.int .i64 (A : Int)) ∧ w'.cell? ⟨w1.heap.size, 2, none⟩ = some (.int .i64 (F : Int))) ∧ ChAt w w' x L W w1.heap.size y A F (D.drop b) (.iface 97 (.pointer (some aT)))) (by
        rintro e w' ⟨rfl, hb⟩
        have h1 := h0.below hxl hb
        exact ⟨rfl, ⟨cells_of h1.two.win 0, cells_of h1.two.win 1, cells_of h1.form 0, cells_of h1.form 1, cells_of h1.form 2⟩, h1⟩)
      obtain ⟨y', hy'⟩ : ∃ y', BitMath.wayOf u X = y' := ⟨_, rfl⟩
      obtain ⟨A', hA'⟩ : ∃ A', (BitMath.mNext u X).2.1 = A' := ⟨_, rfl⟩
      obtain ⟨F', hF'⟩ : ∃ F', BitMath.wideW (BitMath.mNext u X) = F' := ⟨_, rfl⟩
      simp only [hy', hA', hF'] at hfo
      unfold winV formV at hfo
      have HFO2 := (show Hid _ from hfo)
      have HCH := (show Hid _ from hch)
      have c0 : w2.cell? ⟨w.heap.size, 0, none⟩ = some (.int .i64 (L : Int)) := cells_of hf2.win 0
      have c1 : w2.cell? ⟨w.heap.size, 1, none⟩ = some (.int .i64 (W : Int)) := cells_of hf2.win 1
      have d0 : w2.cell? ⟨w1.heap.size, 0, none⟩ = some (.int .i64 (y : Int)) := cells_of hblk2 0
      have d1 : w2.cell? ⟨w1.heap.size, 1, none⟩ = some (.int .i64 (A : Int)) := cells_of hblk2 1
      have d2 : w2.cell? ⟨w1.heap.size, 2, none⟩ = some (.int .i64 (F : Int)) := cells_of hblk2 2
      have HY := (show Hid _ from hy')
      have HA := (show Hid _ from hA')
      have HF' := (show Hid _ from hF')
      have HYES := (show Hid _ from hyes)
      have HNO := (show Hid _ from hno)
      clear hfo hch hf2 hblk2 htb2 hr2 hy' hA' hF' hyes hno HFO
      by_cases hye : y' = y
      · by_cases hAe : A' = A
        · by_cases hFe : F' = F
          · have q1 := hye.symm
            have q2 := hAe.symm
            have q3 := hFe.symm
            subst q1 q2 q3
            have HST := (show Hid _ from HYES.out ⟨HY.out, HA.out, HF'.out⟩)
            clear HYES HNO
            go_wp2_with fail
            go_region_held3 (fun w' => w'.cell? ⟨w.heap.size, 0, none⟩ = some (.int .i64 (L : Int)) ∧ w'.cell? ⟨w.heap.size, 1, none⟩ = some (.int .i64 (W : Int)) ∧ w'.cell? ⟨w1.heap.size, 0, none⟩ = some (.int .i64 (y : Int)) ∧ w'.cell? ⟨w1.heap.size, 1, none⟩ = some (.int .i64 (A : Int)) ∧ w'.cell? ⟨w1.heap.size, 2, none⟩ = some (.int .i64 (F : Int))) (go_keep) ((go_at_call 90; refine Calls.mono (HFO2.out _ (by first | exact HCH.out | exact HCH.out.drew hxl)) ?_; rintro e w3 ⟨rfl, ⟨k0, k1, k2, k3, k4⟩, hch3⟩; have HCH3 := (show Hid _ from hch3); clear hch3 HCH))
            have z0 : w3.cell? ⟨w.heap.size + 1, 0, none⟩ = some (.int .i64 0) := cells_of HCH3.out.two.res 0
            have z1 : w3.cell? ⟨w.heap.size + 1, 1, none⟩ = some (.int .i64 0) := cells_of HCH3.out.two.res 1
            have z2 : w3.cell? ⟨w.heap.size + 1, 2, none⟩ = some (.int .i64 0) := cells_of HCH3.out.two.res 2
            have y0 : w3.frozen? ⟨w.heap.size + 1, 0, none⟩ = false := frozen_of HCH3.out.two.res 0
            have y1 : w3.frozen? ⟨w.heap.size + 1, 1, none⟩ = false := frozen_of HCH3.out.two.res 1
            have y2 : w3.frozen? ⟨w.heap.size + 1, 2, none⟩ = false := frozen_of HCH3.out.two.res 2
            obtain ⟨f0, f1, f2⟩ := set3_here HCH3.out.two.res (.int .i64 (y : Int)) (.int .i64 (A : Int)) (.int .i64 (F : Int))
            go_wp2_with fail
            exact bodyPost_ret (v := .tuple #[.agg #[.int .i64 (y : Int), .int .i64 (A : Int), .int .i64 (F : Int)], .int .u64 (X : Int), .nilIface]) (by simp [results, Tryd.results72, go_sem, f0, f1, f2]) rfl ⟨HCH3.out.two.set _ _ _, .inl ⟨X, b, hXl, HST.out, by unfold formV; rw [HY.out, HA.out, HF'.out], HCH3.out.rd.set3 (by omega) _ _ _⟩⟩
          · have q1 := hye.symm
            have q2 := hAe.symm
            subst q1 q2
            have eF : ((F' : Int) == (F : Int)) = false := by rw [beq_eq_false_iff_ne]; omega
            have HST := (show Hid _ from HNO.out (fun hc => hFe (HF'.out.symm.trans hc.2.2)))
            clear HYES HNO
            go_wp2_with fail
            go_region_held3 (fun w' => w'.cell? ⟨w.heap.size, 0, none⟩ = some (.int .i64 (L : Int)) ∧ w'.cell? ⟨w.heap.size, 1, none⟩ = some (.int .i64 (W : Int)) ∧ w'.cell? ⟨w1.heap.size, 0, none⟩ = some (.int .i64 (y : Int)) ∧ w'.cell? ⟨w1.heap.size, 1, none⟩ = some (.int .i64 (A : Int)) ∧ w'.cell? ⟨w1.heap.size, 2, none⟩ = some (.int .i64 (F : Int))) (go_keep) ((go_at_call 90; refine Calls.mono (HFO2.out _ (by first | exact HCH.out | exact HCH.out.drew hxl)) ?_; rintro e w3 ⟨rfl, ⟨k0, k1, k2, k3, k4⟩, hch3⟩; have HCH3 := (show Hid _ from hch3); clear hch3 HCH))
            have hE3 : w3.cell? ⟨0, 0, none⟩ = some (.iface 97 (.pointer (some aT))) := HCH3.out.txt
            have z0 : w3.cell? ⟨w.heap.size + 1, 0, none⟩ = some (.int .i64 0) := cells_of HCH3.out.two.res 0
            have z1 : w3.cell? ⟨w.heap.size + 1, 1, none⟩ = some (.int .i64 0) := cells_of HCH3.out.two.res 1
            have z2 : w3.cell? ⟨w.heap.size + 1, 2, none⟩ = some (.int .i64 0) := cells_of HCH3.out.two.res 2
            have y0 : w3.frozen? ⟨w.heap.size + 1, 0, none⟩ = false := frozen_of HCH3.out.two.res 0
            have y1 : w3.frozen? ⟨w.heap.size + 1, 1, none⟩ = false := frozen_of HCH3.out.two.res 1
            have y2 : w3.frozen? ⟨w.heap.size + 1, 2, none⟩ = false := frozen_of HCH3.out.two.res 2
            go_wp2_with fail
            go_region
            all_goals
              go_wp2
              exact bodyPost_ret (v := .tuple #[.agg #[.int .i64 0, .int .i64 0, .int .i64 0], .int .u64 0, .iface 97 (.pointer (some aT))]) (by simp [results, Tryd.results72, go_sem, z0, z1, z2]) rfl ⟨(HCH3.out.drew hxl).two.set _ _ _, .inr (.inr ⟨HST.out, rfl⟩)⟩
        · have q1 := hye.symm
          subst q1
          have eA : ((A' : Int) == (A : Int)) = false := by rw [beq_eq_false_iff_ne]; omega
          have HST := (show Hid _ from HNO.out (fun hc => hAe (HA.out.symm.trans hc.2.1)))
          clear HYES HNO
          go_wp2_with fail
          go_region_held3 (fun w' => w'.cell? ⟨w.heap.size, 0, none⟩ = some (.int .i64 (L : Int)) ∧ w'.cell? ⟨w.heap.size, 1, none⟩ = some (.int .i64 (W : Int)) ∧ w'.cell? ⟨w1.heap.size, 0, none⟩ = some (.int .i64 (y : Int)) ∧ w'.cell? ⟨w1.heap.size, 1, none⟩ = some (.int .i64 (A : Int)) ∧ w'.cell? ⟨w1.heap.size, 2, none⟩ = some (.int .i64 (F : Int))) (go_keep) ((go_at_call 90; refine Calls.mono (HFO2.out _ (by first | exact HCH.out | exact HCH.out.drew hxl)) ?_; rintro e w3 ⟨rfl, ⟨k0, k1, k2, k3, k4⟩, hch3⟩; have HCH3 := (show Hid _ from hch3); clear hch3 HCH))
          have hE3 : w3.cell? ⟨0, 0, none⟩ = some (.iface 97 (.pointer (some aT))) := HCH3.out.txt
          have z0 : w3.cell? ⟨w.heap.size + 1, 0, none⟩ = some (.int .i64 0) := cells_of HCH3.out.two.res 0
          have z1 : w3.cell? ⟨w.heap.size + 1, 1, none⟩ = some (.int .i64 0) := cells_of HCH3.out.two.res 1
          have z2 : w3.cell? ⟨w.heap.size + 1, 2, none⟩ = some (.int .i64 0) := cells_of HCH3.out.two.res 2
          have y0 : w3.frozen? ⟨w.heap.size + 1, 0, none⟩ = false := frozen_of HCH3.out.two.res 0
          have y1 : w3.frozen? ⟨w.heap.size + 1, 1, none⟩ = false := frozen_of HCH3.out.two.res 1
          have y2 : w3.frozen? ⟨w.heap.size + 1, 2, none⟩ = false := frozen_of HCH3.out.two.res 2
          go_wp2_with fail
          go_region
          all_goals
            go_wp2
            exact bodyPost_ret (v := .tuple #[.agg #[.int .i64 0, .int .i64 0, .int .i64 0], .int .u64 0, .iface 97 (.pointer (some aT))]) (by simp [results, Tryd.results72, go_sem, z0, z1, z2]) rfl ⟨(HCH3.out.drew hxl).two.set _ _ _, .inr (.inr ⟨HST.out, rfl⟩)⟩
      · have ey : ((y' : Int) == (y : Int)) = false := by rw [beq_eq_false_iff_ne]; omega
        have HST := (show Hid _ from HNO.out (fun hc => hye (HY.out.symm.trans hc.1)))
        clear HYES HNO
        go_wp2_with fail
        go_region_held3 (fun w' => w'.cell? ⟨w.heap.size, 0, none⟩ = some (.int .i64 (L : Int)) ∧ w'.cell? ⟨w.heap.size, 1, none⟩ = some (.int .i64 (W : Int)) ∧ w'.cell? ⟨w1.heap.size, 0, none⟩ = some (.int .i64 (y : Int)) ∧ w'.cell? ⟨w1.heap.size, 1, none⟩ = some (.int .i64 (A : Int)) ∧ w'.cell? ⟨w1.heap.size, 2, none⟩ = some (.int .i64 (F : Int))) (go_keep) ((go_at_call 90; refine Calls.mono (HFO2.out _ (by first | exact HCH.out | exact HCH.out.drew hxl)) ?_; rintro e w3 ⟨rfl, ⟨k0, k1, k2, k3, k4⟩, hch3⟩; have HCH3 := (show Hid _ from hch3); clear hch3 HCH))
        have hE3 : w3.cell? ⟨0, 0, none⟩ = some (.iface 97 (.pointer (some aT))) := HCH3.out.txt
        have z0 : w3.cell? ⟨w.heap.size + 1, 0, none⟩ = some (.int .i64 0) := cells_of HCH3.out.two.res 0
        have z1 : w3.cell? ⟨w.heap.size + 1, 1, none⟩ = some (.int .i64 0) := cells_of HCH3.out.two.res 1
        have z2 : w3.cell? ⟨w.heap.size + 1, 2, none⟩ = some (.int .i64 0) := cells_of HCH3.out.two.res 2
        have y0 : w3.frozen? ⟨w.heap.size + 1, 0, none⟩ = false := frozen_of HCH3.out.two.res 0
        have y1 : w3.frozen? ⟨w.heap.size + 1, 1, none⟩ = false := frozen_of HCH3.out.two.res 1
        have y2 : w3.frozen? ⟨w.heap.size + 1, 2, none⟩ = false := frozen_of HCH3.out.two.res 2
        go_wp2_with fail
        go_region
        all_goals
          go_wp2
          exact bodyPost_ret (v := .tuple #[.agg #[.int .i64 0, .int .i64 0, .int .i64 0], .int .u64 0, .iface 97 (.pointer (some aT))]) (by simp [results, Tryd.results72, go_sem, z0, z1, z2]) rfl ⟨(HCH3.out.drew hxl).two.set _ _ _, .inr (.inr ⟨HST.out, rfl⟩)⟩
    · have HF2 := (show Hid _ from hf2)
      have HST := (show Hid _ from hst)
      clear hf2 hst hblk2 htb2 hTT2 HFO
      obtain ⟨f0, f1, f2⟩ := set3_here HF2.out.res (.int .i64 0) (.int .i64 0) (.int .i64 0)
      go_wp2_with fail
      exact bodyPost_ret (v := .tuple #[.agg #[.int .i64 0, .int .i64 0, .int .i64 0], .int .u64 0, .iface 97 (.pointer (some aN))]) (by simp [results, Tryd.results72, go_sem, f0, f1, f2]) rfl ⟨HF2.out.set _ _ _, .inr (.inl ⟨HST.out, rfl⟩)⟩
  · unfold formV
    have z0 : w1.cell? ⟨w.heap.size + 1, 0, none⟩ = some (.int .i64 0) := cells_of hf.res 0
    have z1 : w1.cell? ⟨w.heap.size + 1, 1, none⟩ = some (.int .i64 0) := cells_of hf.res 1
    have z2 : w1.cell? ⟨w.heap.size + 1, 2, none⟩ = some (.int .i64 0) := cells_of hf.res 2
    have y0 : w1.frozen? ⟨w.heap.size + 1, 0, none⟩ = false := frozen_of hf.res 0
    have y1 : w1.frozen? ⟨w.heap.size + 1, 1, none⟩ = false := frozen_of hf.res 1
    have y2 : w1.frozen? ⟨w.heap.size + 1, 2, none⟩ = false := frozen_of hf.res 2
    have hlt3 : w.heap.size + 1 < w1.heap.size := lt_of_block hf.res
    have hne3 : w.heap.size + 1 ≠ w1.heap.size := by omega
    have hne4 : w1.heap.size ≠ w.heap.size + 1 := by omega
    have HF := (show Hid _ from hf)
    have HST := (show Hid _ from hst)
    clear hf hk1 hst HFO
    go_wp2_with fail
    obtain ⟨f0, f1, f2⟩ := set3_cells HF.out.res (.int .i64 0) (.int .i64 0) (.int .i64 0) (.cells #[.int .i64 0, .int .i64 0, .int .i64 0] 123)
    exact bodyPost_ret (v := .tuple #[.agg #[.int .i64 0, .int .i64 0, .int .i64 0], .int .u64 0, .iface 97 (.pointer (some aN))]) (by simp [results, Tryd.results72, go_sem, f0, f1, f2]) rfl ⟨(HF.out.set _ _ _).alloc _, .inr (.inl ⟨HST.out, rfl⟩)⟩
  · unfold formV
    have z0 : w1.cell? ⟨w.heap.size + 1, 0, none⟩ = some (.int .i64 0) := cells_of hf.res 0
    have z1 : w1.cell? ⟨w.heap.size + 1, 1, none⟩ = some (.int .i64 0) := cells_of hf.res 1
    have z2 : w1.cell? ⟨w.heap.size + 1, 2, none⟩ = some (.int .i64 0) := cells_of hf.res 2
    have y0 : w1.frozen? ⟨w.heap.size + 1, 0, none⟩ = false := frozen_of hf.res 0
    have y1 : w1.frozen? ⟨w.heap.size + 1, 1, none⟩ = false := frozen_of hf.res 1
    have y2 : w1.frozen? ⟨w.heap.size + 1, 2, none⟩ = false := frozen_of hf.res 2
    have hlt3 : w.heap.size + 1 < w1.heap.size := lt_of_block hf.res
    have hne3 : w.heap.size + 1 ≠ w1.heap.size := by omega
    have hne4 : w1.heap.size ≠ w.heap.size + 1 := by omega
    have HF := (show Hid _ from hf)
    have HST := (show Hid _ from hst)
    clear hf hk1 hst HFO
    go_wp2_with fail
    obtain ⟨f0, f1, f2⟩ := set3_cells HF.out.res (.int .i64 0) (.int .i64 0) (.int .i64 0) (.cells #[.int .i64 0, .int .i64 0, .int .i64 0] 123)
    exact bodyPost_ret (v := .tuple #[.agg #[.int .i64 0, .int .i64 0, .int .i64 0], .int .u64 0, .iface 97 (.pointer (some aT))]) (by simp [results, Tryd.results72, go_sem, f0, f1, f2]) rfl ⟨(HF.out.set _ _ _).alloc _, .inr (.inr ⟨HST.out, rfl⟩)⟩
end Go.Proofs.YtgdflopgdlpimaaDoor
