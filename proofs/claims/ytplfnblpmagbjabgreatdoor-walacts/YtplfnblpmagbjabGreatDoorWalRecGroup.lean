/- What a log's record is: wal's check, digits and record by contracts. -/
import Derived.Test.YtplfnblpmagbjabGreatDoorWalLib
import Derived.Test.YtplfnblpmagbjabGreatDoorHeadAtGroup
import Derived.Test.YtplfnblpmagbjabGreatDoorRefLabOfGroup
import Derived.Test.YtplfnblpmagbjabGreatDoorRefsGroup
import Derived.Lib.AppendIntMem
import Derived.Deep.RegionHeld3
import Derived.Deep.QuietTactic
import Derived.BigQuiet
import Derived.Test.YtplfnblpmagbjabGreatDoorRefReadGroup
import Derived.Deep.AppendLies
import Derived.Test.YtplfnblpmagbjabGreatDoorWalMathGroup
import Derived.Test.YtplfnblpmagbjabGreatDoorRefTicksGroup
import Derived.Test.YtplfnblpmagbjabGreatDoorLabFaultGroup
namespace Go.Proofs.YtplfnblpmagbjabGreatDoor
open Go.Shelf Go.RowKit LabMath WalMath

/-- The variables that a log's code reads. -/
structure EnvW (B : Nat) (ea : Nat → Addr) (w : World) : Prop where
  c0 : w.cell? ⟨4, 0, none⟩ = some (.iface 186 (.pointer (some (ea 0))))
  c1 : w.cell? ⟨0, 0, none⟩ = some (.iface 186 (.pointer (some (ea 1))))
  c2 : w.cell? ⟨1, 0, none⟩ = some (.iface 186 (.pointer (some (ea 2))))
  c3 : w.cell? ⟨5, 0, none⟩ = some (.iface 186 (.pointer (some (ea 3))))
  c4 : w.cell? ⟨6, 0, none⟩ = some (.iface 186 (.pointer (some (ea 4))))
  c6 : w.cell? ⟨2, 0, none⟩ = some (.iface 186 (.pointer (some (ea 6))))
  c9 : w.cell? ⟨3, 0, none⟩ = some (.iface 186 (.pointer (some (ea 9))))
  tab : Tab w
  pow : Lib.TabBelow Tryz.prog B w "internal/strconv.uint64pow10" .u64 Lib.pow10Tab
  str : EnvS w
  low : 4 < B ∧ 0 < B ∧ 1 < B ∧ 5 < B ∧ 6 < B ∧ 2 < B ∧ 3 < B ∧ 17 < B ∧ 14 < B ∧ 15 < B
theorem EnvW.below {B : Nat} {ea : Nat → Addr} {w w' : World} (E : EnvW B ea w) {B' : Nat} (h : Below B' w w') (hB : B ≤ B') : EnvW B ea w' := by
  have hl := E.low
  have hc : ∀ g, g < B → w'.cell? ⟨g, 0, none⟩ = w.cell? ⟨g, 0, none⟩ := fun g hg => h.cell (p := ⟨g, 0, none⟩) (by show g < B'; omega)
  exact ⟨(hc _ (by omega)).trans E.c0, (hc _ (by omega)).trans E.c1, (hc _ (by omega)).trans E.c2, (hc _ (by omega)).trans E.c3, (hc _ (by omega)).trans E.c4, (hc _ (by omega)).trans E.c6, (hc _ (by omega)).trans E.c9, E.tab.below h (by omega), E.pow.on (h.mono hB), E.str.below h ⟨by omega, by omega⟩, hl⟩
theorem add_two (P : Program) (a b : List UInt8) (h : a.length + b.length ≤ 9223372036854775807) (w : World) : (Op.stringOp .add (txt a) (txt b)).run P w = .ok (.string (txt (a ++ b))) w := by
  rw [add_str P _ _ (by rw [txt_size, txt_size]; exact h), txt_append]

set_option maxRecDepth 1000000 in
theorem digits_any (u : Nat) (hu : u < 18446744073709551616) (w : World) (hT : Tab w) :
    Calls Tryz.prog 42 #[.int .u64 (u : Int)] w fun e w' => e = .returned (.string (txt (hexN 16 u))) ∧ Below w.heap.size w w' := by
  obtain ⟨p1, p2, p3⟩ := hexDigits_pad 15 u (by omega)
  have H1 : Hid (Calls Tryz.prog 61 #[.int .u64 (u : Int), .int .i64 16] w fun e w' => e = .returned (.string (txt (hexDigits u))) ∧ Below w.heap.size w w') := formatUint_16 u hu w hT
  obtain ⟨l, hl⟩ : ∃ l, l = hexDigits u := ⟨_, rfl⟩
  rw [← hl] at p1 p2 p3 H1
  have hsz : (txt l).size = l.length := txt_size l
  have hsub : (16 : Int) - (l.length : Int) = ((16 - l.length : Nat) : Int) := by omega
  have HR : Hid (∀ w, Calls Tryz.prog 62 #[.string ⟨#[48]⟩, .int .i64 ((16 - l.length : Nat) : Int)] w fun e w' => e = .returned (.string (txt (List.replicate (16 - l.length) 48))) ∧ Below w.heap.size w w') := fun w => repeat_any (16 - l.length) (by omega) w
  have hadd : ∀ w, (Op.stringOp .add (txt (List.replicate (16 - l.length) 48)) (txt l)).run Tryz.prog w = .ok (.string (txt (hexN 16 u))) w := fun w => by
    rw [add_two _ _ _ (by simp; omega), p3]
  obtain ⟨t, ht⟩ : ∃ t, t = txt l := ⟨_, rfl⟩
  obtain ⟨t2, ht2⟩ : ∃ t2, t2 = txt (List.replicate (16 - l.length) 48) := ⟨_, rfl⟩
  obtain ⟨t3, ht3⟩ : ∃ t3, t3 = txt (hexN 16 u) := ⟨_, rfl⟩
  obtain ⟨k, hk⟩ : ∃ k, k = 16 - l.length := ⟨_, rfl⟩
  rw [← ht] at H1 hsz hadd
  rw [← ht2] at HR hadd
  rw [← ht3] at hadd ⊢
  rw [← hk] at HR hsub
  have hsub' : (16 : Int) - (t.size : Int) = (k : Int) := by rw [hsz]; exact hsub
  have hb1 : (t.size : Int) ≤ 16 := by omega
  clear hl p1 p2 p3 hsz hsub ht ht2 ht3 hk hT
  go_enter Tryz.func42, Tryz.ntmps42
  go_wp2_with fail
  refine Calls.mono H1.out ?_
  rintro e w1 ⟨rfl, hb⟩
  have HB := (show Hid _ from hb)
  clear hb H1
  dsimp only
  go_wp2_with fail
  refine Calls.mono (HR.out _) ?_
  rintro e w2 ⟨rfl, hb2⟩
  have HB2 := (show Hid _ from HB.out.trans (hb2.mono HB.out.size))
  clear hb2
  dsimp only
  go_wp2
  go_ret
  exact ⟨rfl, HB2.out⟩
/-- The fault of a point in a record. -/
noncomputable def chkC (s : List UInt8) (t : Int) : Int := if 0 < readC s then readC s else if -1099511627776 ≤ t ∧ t ≤ 1099511627776 then 0 else 2
noncomputable def chkA (s : List UInt8) : Int := if 0 < readC s then readA s else -1
theorem chk_zero {s : List UInt8} {t : Int} : chkC s t = 0 ↔ readC s = 0 ∧ -1099511627776 ≤ t ∧ t ≤ 1099511627776 := by
  have := readC_nonneg s
  unfold chkC
  split
  · constructor
    · intro h; omega
    · intro h; omega
  · split
    · constructor
      · intro _; refine ⟨by omega, ?_⟩; assumption
      · intro _; rfl
    · constructor
      · intro h; cases h
      · intro h; exact absurd h.2 ‹_›
theorem chk_nonneg (s : List UInt8) (t : Int) : 0 ≤ chkC s t := by
  have := readC_nonneg s
  unfold chkC
  split
  · omega
  · split <;> omega

set_option maxRecDepth 1000000 in
theorem lgcheck_any {B : Nat} {ea : Nat → Addr} (w : World) (E : EnvW B ea w) (hB : B ≤ w.heap.size) (s : ByteArray) (hs : s.size ≤ 100000) (t : Int) (u : Int) :
    Calls Tryz.prog 23 #[.string s, .agg #[.int .i64 t, .int .u64 u]] w fun e w' => ∃ v, e = .returned v ∧ FaultV ea w' v (chkC s.data.toList t) (chkA s.data.toList) ∧ Below w.heap.size w w' := by
  obtain ⟨W, hW⟩ : ∃ W, W = w.alloc (.cells #[.int .i64 t, .int .u64 u] 34) := ⟨_, rfl⟩
  have hbW : Below w.heap.size w W := by rw [hW]; exact (Below.refl _ _).alloc (Nat.le_refl _) _
  have hac : W.heap[w.heap.size]? = some (.cells #[.int .i64 t, .int .u64 u] 34 (0, 0)) := by rw [hW]; exact heap_alloc_new _ _
  have E1 := E.below hbW hB
  have HL : Hid (Calls Tryz.prog 40 #[.string s] W fun e w' => ∃ x v, e = .returned (.tuple #[x, v]) ∧ FaultV ea w' v (readC s.data.toList) (readA s.data.toList) ∧ Below W.heap.size W w') := (lread_f4 W E1.c0 E1.c1 E1.c2 E1.c3 s hs).mono fun e w' h => by
    obtain ⟨x, v, rfl, hb, ⟨hn, _, hf⟩ | ⟨out, hsc, hf, _⟩⟩ := h
    · refine ⟨x, v, rfl, ?_, hb⟩
      unfold readC readA
      rw [hn]
      exact hf
    · refine ⟨x, v, rfl, ?_, hb⟩
      unfold readC readA
      rw [hsc]
      exact hf
  have HBW := (show Hid _ from hbW)
  have HAC := (show Hid _ from hac)
  have HE := (show Hid _ from E)
  clear E E1 hac hbW
  go_enter Tryz.func23, Tryz.ntmps23
  go_upto_region 1 with fail
  rw [← hW]
  clear hW
  go_wp2_with fail
  refine Calls.mono HL.out ?_
  rintro e w1 ⟨x, v, rfl, hf, hb⟩
  have hb1 := HBW.out.trans (hb.mono HBW.out.size)
  have z0 : w1.cell? ⟨w.heap.size, 0, none⟩ = some (.int .i64 t) := cells_of ((hb.block w.heap.size (blk_lt HAC.out)).trans HAC.out) 0
  have hc1 := (HE.out.below hb1 hB).c1
  have HB1 := (show Hid _ from hb1)
  clear HL hb hb1 HAC
  dsimp only
  have hcase : 0 < readC s.data.toList ∨ readC s.data.toList = 0 := by have := readC_nonneg s.data.toList; omega
  rcases hcase with h0 | h0
  · have hch : chkC s.data.toList t = readC s.data.toList ∧ chkA s.data.toList = readA s.data.toList := ⟨if_pos h0, if_pos h0⟩
    have HCH := (show Hid _ from hch)
    have HF := (show Hid _ from hf)
    obtain hn | ⟨ti, p, rfl⟩ := hf.iface
    · exfalso
      rcases hf with ⟨_, h⟩ | ⟨m, _, h, _⟩ | ⟨pb, m, _, h, _⟩
      · omega
      · rw [hn] at h; cases h
      · rw [hn] at h; cases h
    · clear hch h0 hf
      go_wp2
      go_ret
      exact ⟨_, rfl, by rw [HCH.out.1, HCH.out.2]; exact HF.out, HB1.out⟩
  · obtain rfl := hf.none h0
    have hA : chkA s.data.toList = -1 := if_neg (by omega)
    have HA := (show Hid _ from hA)
    by_cases ht : -1099511627776 ≤ t ∧ t ≤ 1099511627776
    · have hC : chkC s.data.toList t = 0 := chk_zero.2 ⟨h0, ht⟩
      have HC := (show Hid _ from hC)
      have d1 : decide (t < -1099511627776) = false := by simp; omega
      have d2 : decide (1099511627776 < t) = false := by simp; omega
      clear hC hA h0 hf ht
      go_wp2
      go_ret
      exact ⟨_, rfl, by rw [HC.out]; exact .inl ⟨rfl, rfl⟩, HB1.out⟩
    · have hC : chkC s.data.toList t = 2 := by unfold chkC; rw [if_neg (by omega), if_neg ht]
      have HC := (show Hid _ from hC)
      have hc : t < -1099511627776 ∨ (decide (t < -1099511627776) = false ∧ 1099511627776 < t) := by
        rcases (by omega : t < -1099511627776 ∨ 1099511627776 < t) with h | h
        · exact .inl h
        · exact .inr ⟨by simp; omega, h⟩
      clear hC hA h0 hf ht
      rcases hc with d1 | ⟨d1, d2⟩
      · go_wp2
        go_ret
        exact ⟨_, rfl, by rw [HC.out, HA.out]; exact .inr (.inl ⟨1, by omega, rfl, rfl, rfl⟩), HB1.out⟩
      · go_wp2
        go_ret
        exact ⟨_, rfl, by rw [HC.out, HA.out]; exact .inr (.inl ⟨1, by omega, rfl, rfl, rfl⟩), HB1.out⟩
end Go.Proofs.YtplfnblpmagbjabGreatDoor
/- wal's record by its contract. -/
namespace Go.Proofs.YtplfnblpmagbjabGreatDoor
open Go.Shelf Go.RowKit LabMath WalMath

/-- Bytes of a call's own, just made, as a text. -/
theorem conv_fresh (z : World) (l : List UInt8) (C : Array Value) (n : Nat) (hn : n = l.length) (hC : ∀ j (hj : j < l.length), C[j]? = some (.int .u8 (l[j].toNat : Int))) :
    (convert 61 9 (.slice (some ⟨z.heap.size, 0, none⟩) n n)).run Tryz.prog (z.alloc (.cells C 5)) = .ok (.string (txt l)) (z.alloc (.cells C 5)) := by
  subst hn
  refine run_convert_bytes_back (P := Tryz.prog) _ 61 9 5 ⟨z.heap.size, 0, none⟩ l.length l Tryz.underlying61 Tryz.underlying5 Tryz.underlying9 (fun m hm => ?_)
  have ea : (⟨z.heap.size, 0, none⟩ : Addr).add m = ⟨z.heap.size, m, none⟩ := by
    unfold Addr.add
    split
    · simp_all
    · simp
  rw [ea, World.cell?, heap_alloc_new]
  exact hC m hm
theorem byte_of (n : Nat) (h : n < 256) : ((UInt8.ofNat n).toNat : Int) = (n : Int) := by
  simp
  omega

set_option maxRecDepth 1000000 in
set_option maxHeartbeats 2000000 in
theorem record_any {B : Nat} {ea : Nat → Addr} (w : World) (E : EnvW B ea w) (hB : B ≤ w.heap.size) (s : ByteArray) (hs : s.size ≤ 1000) (t : Int) (h0 : -1099511627776 ≤ t) (h1 : t ≤ 1099511627776) (u : Nat) (hu : u < 18446744073709551616) :
    Calls Tryz.prog 24 #[.string s, .agg #[.int .i64 t, .int .u64 (u : Int)]] w fun e w' => e = .returned (.string (txt (recL (s.data.toList, t, u)))) ∧ Below w.heap.size w w' := by
  have hil := itoa_len t h0 h1
  have hbl : (bodyL (s.data.toList, t, u)).length = s.size + (Lib.itoa t).length + 18 := by
    simp [bodyL, hexN_length]
    omega
  obtain ⟨W, hW⟩ : ∃ W, W = w.alloc (.cells #[.int .i64 t, .int .u64 (u : Int)] 34) := ⟨_, rfl⟩
  have hbW : Below w.heap.size w W := by rw [hW]; exact (Below.refl _ _).alloc (Nat.le_refl _) _
  have hac : W.heap[w.heap.size]? = some (.cells #[.int .i64 t, .int .u64 (u : Int)] 34 (0, 0)) := by rw [hW]; exact heap_alloc_new _ _
  have hst : s = txt s.data.toList := by rfl
  have e1 : ∀ w, (Op.stringOp .add s ⟨#[64]⟩).run Tryz.prog w = .ok (.string (txt (s.data.toList ++ [64]))) w := fun w => add_two _ s.data.toList [64] (by simp; omega) w
  have e2 : ∀ w, (Op.stringOp .add (txt (s.data.toList ++ [64])) (txt (Lib.itoa t))).run Tryz.prog w = .ok (.string (txt (s.data.toList ++ [64] ++ Lib.itoa t))) w := fun w => add_two _ _ _ (by simp; omega) w
  have e3 : ∀ w, (Op.stringOp .add (txt (s.data.toList ++ [64] ++ Lib.itoa t)) ⟨#[61]⟩).run Tryz.prog w = .ok (.string (txt (s.data.toList ++ [64] ++ Lib.itoa t ++ [61]))) w := fun w => add_two _ _ [61] (by simp; omega) w
  have e4 : ∀ w, (Op.stringOp .add (txt (s.data.toList ++ [64] ++ Lib.itoa t ++ [61])) (txt (hexN 16 u))).run Tryz.prog w = .ok (.string (txt (bodyL (s.data.toList, t, u)))) w := fun w => by
    rw [add_two _ _ _ (by simp [hexN_length]; omega)]
    simp [bodyL]
  have HI : Hid (∀ z, Below W.heap.size W z → Calls Tryz.prog 41 #[.int .i64 t] z fun e w' => e = .returned (.string (txt (Lib.itoa t))) ∧ Below z.heap.size z w') := fun z hz => itoa_any t (by omega) (by omega) z ((E.below hbW hB).below hz (Nat.le_trans hB hbW.size)).pow.here
  have HD : Hid (∀ z, Below W.heap.size W z → Calls Tryz.prog 42 #[.int .u64 (u : Int)] z fun e w' => e = .returned (.string (txt (hexN 16 u))) ∧ Below z.heap.size z w') := fun z hz => digits_any u hu z ((E.below hbW hB).below hz (Nat.le_trans hB hbW.size)).tab
  have HBW := (show Hid _ from hbW)
  have HAC := (show Hid _ from hac)
  have HCL : Hid (∀ z, Below W.heap.size W z → z.cell? ⟨w.heap.size, 0, none⟩ = some (.int .i64 t) ∧ z.cell? ⟨w.heap.size, 1, none⟩ = some (.int .u64 (u : Int))) := fun z hz => by
    have hb := (hz.block w.heap.size (blk_lt hac)).trans hac
    exact ⟨cells_of hb 0, cells_of hb 1⟩
  have z0 : W.cell? ⟨w.heap.size, 0, none⟩ = some (.int .i64 t) := cells_of hac 0
  have z1 : W.cell? ⟨w.heap.size, 1, none⟩ = some (.int .u64 (u : Int)) := cells_of hac 1
  obtain ⟨b1, hb1⟩ : ∃ b, b = txt (s.data.toList ++ [64]) := ⟨_, rfl⟩
  obtain ⟨b2, hb2⟩ : ∃ b, b = txt (s.data.toList ++ [64] ++ Lib.itoa t) := ⟨_, rfl⟩
  obtain ⟨b3, hb3⟩ : ∃ b, b = txt (s.data.toList ++ [64] ++ Lib.itoa t ++ [61]) := ⟨_, rfl⟩
  obtain ⟨d1, hd1⟩ : ∃ b, b = txt (Lib.itoa t) := ⟨_, rfl⟩
  obtain ⟨d2, hd2⟩ : ∃ b, b = txt (hexN 16 u) := ⟨_, rfl⟩
  obtain ⟨D, hD⟩ : ∃ D, D = bodyL (s.data.toList, t, u) := ⟨_, rfl⟩
  have hrec : recL (s.data.toList, t, u) = recOf D := by rw [hD]; rfl
  rw [hrec]
  rw [← hD] at e4 hbl
  rw [← hb1] at e1 e2
  rw [← hb2] at e2 e3
  rw [← hb3] at e3 e4
  rw [← hd1] at e2 HI
  rw [← hd2] at e4 HD
  have hDl : D.length ≤ 1100 := by omega
  obtain ⟨bd, hbd⟩ : ∃ b, b = txt D := ⟨_, rfl⟩
  rw [← hbd] at e4
  have hbs : bd.size = D.length := by rw [hbd]; exact txt_size D
  have HS : Hid (∀ z, Calls Tryz.prog 43 #[.string bd] z fun e w' => e = .returned (.int .u32 (BitMath.crcOf D : Int)) ∧ w' = z) := fun z => by
    have := sum_any bd z (by omega)
    rw [show bd.data.toList = D by rw [hbd]; rfl] at this
    exact this
  have HBD := (show Hid _ from hbd)
  clear hb1 hb2 hb3 hd1 hd2 hD hrec hbd hil hbl hbW hac hst E
  go_enter Tryz.func24, Tryz.ntmps24
  go_upto_region 1 with fail
  rw [← hW]
  clear hW
  have hdr : Below W.heap.size W W.drew := ⟨rfl, rfl, rfl, Nat.le_refl _, fun _ _ => rfl⟩
  go_region_held3 (fun w' => Below W.heap.size W w' ∧ w'.cell? ⟨w.heap.size, 0, none⟩ = some (.int .i64 t) ∧ w'.cell? ⟨w.heap.size, 1, none⟩ = some (.int .u64 (u : Int))) (go_keep) (first
    | (go_at_call 41; refine Calls.mono (HI.out _ (by assumption)) ?_; rintro e w3 ⟨rfl, h3⟩; have k3 := Below.trans (by assumption) (h3.mono (Below.size (by assumption))); obtain ⟨q1, q2⟩ := HCL.out _ k3; clear h3)
    | (go_at_call 42; refine Calls.mono (HD.out _ (by assumption)) ?_; rintro e w4 ⟨rfl, h4⟩; have k4 := Below.trans (by assumption) (h4.mono (Below.size (by assumption))); obtain ⟨r1, r2⟩ := HCL.out _ k4; clear h4))
  have HB4 : Hid (Below w.heap.size w w4) := HBW.out.trans (k4.mono HBW.out.size)
  clear k4 k3 q1 q2 r1 r2 z0 z1 hdr e1 e2 e3 e4 HI HD HCL HAC HBW
  go_wp2_with fail
  refine Calls.mono (HS.out _) ?_
  rintro e w5 ⟨rfl, hw5⟩
  have hw5' := hw5.symm
  subst hw5'
  clear HS
  dsimp only
  obtain ⟨cr, hcr⟩ : ∃ cr, cr = BitMath.crcOf D := ⟨_, rfl⟩
  rw [← hcr]
  have HCR := (show Hid _ from hcr)
  have hcl : cr < 4294967296 := by rw [hcr]; exact BitMath.crcOf_lt D
  have hc1 := conv_fresh w4 [UInt8.ofNat (D.length / 256), UInt8.ofNat (D.length % 256)] #[.int .u8 ((D.length : Int) / 256), .int .u8 ((D.length : Int) % 256)] 2 rfl (fun j hj => by
    rcases (by simp at hj; omega : j = 0 ∨ j = 1) with rfl | rfl
    · show some (Value.int .u8 ((D.length : Int) / 256)) = some (.int .u8 ((UInt8.ofNat (D.length / 256)).toNat : Int))
      rw [byte_of _ (by omega), Int.natCast_ediv]; rfl
    · show some (Value.int .u8 ((D.length : Int) % 256)) = some (.int .u8 ((UInt8.ofNat (D.length % 256)).toNat : Int))
      rw [byte_of _ (by omega), Int.natCast_emod]; rfl)
  obtain ⟨W5, hW5⟩ : ∃ W5, W5 = w4.alloc (.cells #[.int .u8 ((D.length : Int) / 256), .int .u8 ((D.length : Int) % 256)] 5) := ⟨_, rfl⟩
  rw [← hW5] at hc1
  have HB5 : Hid (Below w.heap.size w W5) := by rw [hW5]; exact HB4.out.alloc HB4.out.size _
  have hc2 := conv_fresh W5 (crc4 cr) #[.int .u8 ((cr : Int) % 256), .int .u8 ((cr : Int) / 256 % 256), .int .u8 ((cr : Int) / 65536 % 256), .int .u8 ((cr : Int) / 16777216)] 4 rfl (fun j hj => by
    rcases (by simp [crc4] at hj; omega : j = 0 ∨ j = 1 ∨ j = 2 ∨ j = 3) with rfl | rfl | rfl | rfl
    · show some (Value.int .u8 ((cr : Int) % 256)) = some (.int .u8 ((UInt8.ofNat (cr % 256)).toNat : Int))
      rw [byte_of _ (by omega), Int.natCast_emod]; rfl
    · show some (Value.int .u8 ((cr : Int) / 256 % 256)) = some (.int .u8 ((UInt8.ofNat (cr / 256 % 256)).toNat : Int))
      rw [byte_of _ (by omega)]
      rfl
    · show some (Value.int .u8 ((cr : Int) / 65536 % 256)) = some (.int .u8 ((UInt8.ofNat (cr / 65536 % 256)).toNat : Int))
      rw [byte_of _ (by omega)]
      rfl
    · show some (Value.int .u8 ((cr : Int) / 16777216)) = some (.int .u8 ((UInt8.ofNat (cr / 16777216 % 256)).toNat : Int))
      rw [byte_of _ (by omega)]; congr 2; omega)
  have e5 : ∀ w, (Op.stringOp .add (txt [UInt8.ofNat (D.length / 256), UInt8.ofNat (D.length % 256)]) bd).run Tryz.prog w = .ok (.string (txt (UInt8.ofNat (D.length / 256) :: UInt8.ofNat (D.length % 256) :: D))) w := fun w => by
    rw [HBD.out]
    exact add_two _ _ _ (by simp; omega) w
  have e6 : ∀ w, (Op.stringOp .add (txt (UInt8.ofNat (D.length / 256) :: UInt8.ofNat (D.length % 256) :: D)) (txt (crc4 cr))).run Tryz.prog w = .ok (.string (txt (recOf D))) w := fun w => by
    rw [add_two _ _ _ (by simp [crc4]; omega)]
    simp [recOf, HCR.out]
  obtain ⟨r1, hr1⟩ : ∃ r, r = txt [UInt8.ofNat (D.length / 256), UInt8.ofNat (D.length % 256)] := ⟨_, rfl⟩
  obtain ⟨r2, hr2⟩ : ∃ r, r = txt (UInt8.ofNat (D.length / 256) :: UInt8.ofNat (D.length % 256) :: D) := ⟨_, rfl⟩
  obtain ⟨r3, hr3⟩ : ∃ r, r = txt (crc4 cr) := ⟨_, rfl⟩
  obtain ⟨r4, hr4⟩ : ∃ r, r = txt (recOf D) := ⟨_, rfl⟩
  rw [← hr1] at hc1 e5
  rw [← hr2] at e5 e6
  rw [← hr3] at hc2 e6
  rw [← hr4] at e6
  have HR4 := (show Hid _ from hr4)
  have hW5' : w4.alloc (.cells #[.int .u8 ((D.length : Int) / 256), .int .u8 ((D.length : Int) % 256)] 5) = W5 := hW5.symm
  clear hr1 hr2 hr3 hr4 hcr hW5
  go_wp2_with fail
  go_ret
  exact ⟨by rw [HR4.out]; rfl, HB5.out.alloc HB5.out.size _⟩
end Go.Proofs.YtplfnblpmagbjabGreatDoor
/- A disk of a log, as it lies in memory: its bytes (which may be those of a text, converted), its power, its cut. -/
namespace Go.Proofs.YtplfnblpmagbjabGreatDoor
open Go.Shelf Go.RowKit LabMath WalMath

/-- Bytes of a slice's own, with nothing frozen within. -/
def BytesAt (w : World) (base : Nat) (v : Value) (L : List UInt8) : Prop :=
  ∃ g cap cur mk, v = .slice (some ⟨g, 0, none⟩) L.length cap ∧ base ≤ g ∧ w.heap[g]? = some (.cells cur 5 mk) ∧ (mk = (0, 0) ∨ cur.size ≤ mk.1) ∧ L.length ≤ cap ∧ cap ≤ maxLen ∧ cur.size = cap ∧ cur.toList.take L.length = byteCells L
theorem BytesAt.same {w w' : World} {base : Nat} {v : Value} {L : List UInt8} (h : BytesAt w base v L) (he : ∀ g, v.ownBlock = some g → w'.heap[g]? = w.heap[g]?) : BytesAt w' base v L := by
  obtain ⟨g, cap, cur, mk, rfl, h1, h2, h3⟩ := h
  exact ⟨g, cap, cur, mk, rfl, h1, (he g rfl).trans h2, h3⟩
theorem BytesAt.blk {w : World} {base : Nat} {v : Value} {L : List UInt8} (h : BytesAt w base v L) : ∃ g, v.ownBlock = some g ∧ base ≤ g ∧ g < w.heap.size := by
  obtain ⟨g, cap, cur, mk, rfl, h1, h2, _⟩ := h
  exact ⟨g, rfl, h1, blk_lt h2⟩
theorem BytesAt.cell {w : World} {base : Nat} {v : Value} {L : List UInt8} (h : BytesAt w base v L) {g : Nat} (hg : v.ownBlock = some g) (j : Nat) (u : Value) (hu : (byteCells L)[j]? = some u) : w.cell? ((⟨g, 0, none⟩ : Addr).add j) = some u := by
  obtain ⟨g', cap, cur, mk, rfl, h1, h2, _, _, _, _, h8⟩ := h
  simp only [Value.ownBlock, Option.some.injEq] at hg
  subst hg
  have hadd : (⟨g', 0, none⟩ : Addr).add j = ⟨g', j, none⟩ := by unfold Addr.add; split <;> simp_all
  have e0 : w.cell? ⟨g', j, none⟩ = cur[j]? := by simp [World.cell?, h2]
  rw [hadd, e0]
  rw [← h8, List.getElem?_take] at hu
  split at hu
  · simpa using hu
  · cases hu
theorem byteCells_len (L : List UInt8) : (byteCells L).length = L.length := by simp [byteCells]
theorem byteCells_snoc (L : List UInt8) (c : UInt8) : byteCells L ++ [.int .u8 (c.toNat : Int)] = byteCells (L ++ [c]) := by simp [byteCells]
/-- The first bytes alone. -/
theorem BytesAt.take {w : World} {base : Nat} {g n cap : Nat} {L : List UInt8} (h : BytesAt w base (.slice (some ⟨g, 0, none⟩) n cap) L) (k : Nat) (hk : k ≤ L.length) : BytesAt w base (.slice (some ⟨g, 0, none⟩) k cap) (L.take k) := by
  obtain ⟨g', cap', cur, mk, e, h1, h2, h3, h4, h5, h6, h7⟩ := h
  obtain ⟨e1, e2, rfl⟩ := Value.slice.inj e
  simp only [Option.some.injEq, Addr.mk.injEq, and_true] at e1
  subst e1
  have hl : (L.take k).length = k := by simp; omega
  refine ⟨g, cap, cur, mk, by rw [hl], h1, h2, h3, by omega, h5, h6, ?_⟩
  rw [hl]
  have := congrArg (List.take k) h7
  rw [List.take_take, Nat.min_eq_left hk] at this
  rw [this]
  simp [byteCells, List.map_take]
/-- The text that the bytes are. -/
theorem BytesAt.text {w : World} {base : Nat} {v : Value} {L : List UInt8} (h : BytesAt w base v L) : (convert 61 9 v).run Tryz.prog w = .ok (.string (txt L)) w := by
  obtain ⟨g, cap, cur, mk, rfl, h1, h2, h3, h4, h5, h6, h7⟩ := id h
  refine run_convert_bytes_back (P := Tryz.prog) w 61 9 5 ⟨g, 0, none⟩ cap L Tryz.underlying61 Tryz.underlying5 Tryz.underlying9 (fun j hj => ?_)
  exact h.cell (g := g) rfl j _ (by simp [byteCells, hj])

/-- One byte more. -/
theorem run_append_byte (w : World) (base : Nat) (v : Value) (L : List UInt8) (h : BytesAt w base v L) (ty : TypeId) (b cp : Nat) (c : UInt8) (hc : w.cell? ⟨b, 0, none⟩ = some (.int .u8 (c.toNat : Int))) (hl : L.length ≤ 1000000) (hbase : base ≤ w.heap.size) :
    ∃ v' w', (Builtin.append_ #[61, 61] ty #[v, .slice (some ⟨b, 0, none⟩) 1 cp]).run Tryz.prog w = .ok v' w' ∧ BytesAt w' base v' (L ++ [c]) ∧ w.grownBy w' v.ownBlock ∧ (v'.ownBlock = v.ownBlock ∨ v'.ownBlock = some w.heap.size) := by
  have hcells : ∀ g, v.ownBlock = some g → ∀ j u, (byteCells L)[j]? = some u → w.cell? ((⟨g, 0, none⟩ : Addr).add j) = some u := fun g hg j u hu => h.cell hg j u hu
  obtain ⟨g, cap, cur, mk, rfl, h1, h2, h3, h4, h5, h6, h7⟩ := h
  obtain ⟨i, hi⟩ : ∃ i, Tryz.prog.info? 5 = some i := by
    cases hq : Tryz.prog.info? 5 with
    | none => have := Tryz.infoU8; rw [hq] at this; cases this
    | some i => exact ⟨i, rfl⟩
  have hii := Tryz.infoU8
  rw [hi] at hii
  simp only [Option.map_some, Option.some.injEq, Prod.mk.injEq] at hii
  obtain ⟨hz, hs1, hby⟩ := hii
  have hnews : ∀ j u, ([.int .u8 (c.toNat : Int)] : List Value)[j]? = some u → w.cell? ((⟨b, 0, none⟩ : Addr).add j) = some u := fun j u hu => by
    cases j with
    | zero =>
      have ha : (⟨b, 0, none⟩ : Addr).add 0 = ⟨b, 0, none⟩ := by simp [Addr.add]
      rw [ha, hc]
      simpa using hu
    | succ j => simp at hu
  have hlen : (L ++ [c]).length = L.length + 1 := by simp
  by_cases hroom : L.length + 1 ≤ cap
  · have hf := run_firstCells_some (P := Tryz.prog) w i.size 1 ⟨b, 0, none⟩ 1 cp [.int .u8 (c.toNat : Int)] (by rw [hs1]; rfl) hnews
    rw [hs1] at hf
    have hcell : w.cell? ⟨g, L.length, none⟩ = some (cur[L.length]'(by omega)) := by simp [World.cell?, h2, (by omega : L.length < cur.size)]
    have hfro : w.frozen? ⟨g, L.length, none⟩ = false := by
      obtain ⟨lo, hi'⟩ := mk
      simp only [World.frozen?, h2, Bool.and_eq_false_iff, decide_eq_false_iff_not]
      rcases h3 with h3 | h3
      · cases h3
        right
        omega
      · left
        simp only at h3
        omega
    have hadd0 : (⟨g, L.length, none⟩ : Addr).add 0 = ⟨g, L.length, none⟩ := by simp [Addr.add]
    have hst : (storeCells ⟨g, L.length, none⟩ [.int .u8 (c.toNat : Int)] 0).run Tryz.prog w = .ok () (w.setRow g (cur.setIfInBounds L.length (.int .u8 (c.toNat : Int)))) := by
      have hst1 : (store ((⟨g, L.length, none⟩ : Addr).add 0) (.int .u8 (c.toNat : Int))).run Tryz.prog w = .ok () (w.setRow g (cur.setIfInBounds L.length (.int .u8 (c.toNat : Int)))) := by
        rw [hadd0, run_store Tryz.prog w _ _ _ rfl, hcell]
        simp [hfro, setCell_eq_setRow w g L.length cur 5 mk _ h2]
      simp only [storeCells, Sem.run_bind, hst1, Result.andThen_ok]
      rfl
    refine ⟨.slice (some ⟨g, 0, none⟩) (L.length + 1) cap, w.setRow g (cur.setIfInBounds L.length (.int .u8 (c.toNat : Int))), ?_, ⟨g, cap, _, mk, by rw [hlen], h1, setRow_heap w g cur _ 5 _ h2, by simpa using h3, by omega, h5, by simpa using h6, ?_⟩, ⟨rfl, rfl, rfl, by simp, fun k _ hk => setRow_other w g k _ (fun e => hk (by simp [Value.ownBlock, e]))⟩, .inl rfl⟩
    · simp [Builtin.append_, run_underlying Tryz.underlying61, sizeOf, typeInfo, hi, Builtin.lenOf, hroom, hf, Addr.add_lit, hs1, hst]
    · rw [hlen, ← byteCells_snoc, ← h7, Array.toList_setIfInBounds]
      rw [List.take_add_one, List.getElem?_set_self (by simpa using (by omega : L.length < cur.size)), List.take_set_of_le (Nat.le_refl _)]
      rfl
  · have hr := run_append_grow (P := Tryz.prog) w 61 ty 5 i (.int .u8 0) Tryz.underlying61 hi hz ⟨g, 0, none⟩ L.length cap (byteCells L) (by rw [byteCells_len, hs1]; omega) (hcells g rfl) ⟨b, 0, none⟩ 1 cp [.int .u8 (c.toNat : Int)] (by rw [hs1]; rfl) hnews (by omega) (by omega) (growslice_fits (by omega) (by rw [hby]; omega))
    have hge := grownCap_ge w (L.length + 1) cap 5
    have hcm : grownCap w (L.length + 1) cap 5 ≤ maxLen := grownCap_le_maxLen w (L.length + 1) cap 5 (by unfold maxLen; omega)
    refine ⟨_, _, hr, ⟨w.heap.size, _, _, (0, 0), by rw [hlen], hbase, heap_alloc_new w.drew _, .inl rfl, by rw [hlen]; exact hge, hcm, ?_, ?_⟩, ⟨rfl, rfl, rfl, by simp, fun k hk _ => heap_alloc_old w.drew _ hk⟩, .inr rfl⟩
    · simp only [Array.size_append, List.size_toArray, size_zeroCells, byteCells_len]
      simp [Value.cells]
      omega
    · rw [hlen, ← byteCells_snoc]
      simp only [Array.toList_append, List.append_assoc]
      rw [← List.append_assoc]
      have : L.length + 1 = (byteCells L ++ [Value.int .u8 (c.toNat : Int)]).length := by simp [byteCells_len]
      rw [this]
      exact List.take_left
end Go.Proofs.YtplfnblpmagbjabGreatDoor
/- wal's Disk by contracts: put, write and the small ones. -/
namespace WalMath
/-- A disk: its bytes, has power failed, does a cut wait, in how many bytes. -/
structure Dk where
  L : List UInt8
  off : Bool
  waits : Bool
  left : Nat
def putD (d : Dk) (c : UInt8) : Dk × Bool :=
  if (d.off || (d.waits && d.left == 0)) = true then ({ d with off := true }, false)
  else ({ d with L := d.L ++ [c], left := if d.waits = true then d.left - 1 else d.left }, true)
def writeD : Dk → List UInt8 → Dk × Bool
  | d, [] => (d, true)
  | d, c :: r => if (putD d c).2 = true then writeD (putD d c).1 r else ((putD d c).1, false)
end WalMath
namespace Go.Proofs.YtplfnblpmagbjabGreatDoor
open Go.Shelf Go.RowKit LabMath WalMath

/-- A disk in memory. -/
structure DiskAt (w : World) (base db : Nat) (v : Value) (d : Dk) : Prop where
  blk : w.heap[db]? = some (.cells #[v, .bool d.off, .bool d.waits, .int .i64 (d.left : Int)] 63 (0, 0))
  bytes : BytesAt w base v d.L
  low : base ≤ db
  room : d.left ≤ 9223372036854775807
theorem DiskAt.lt {w : World} {base db : Nat} {v : Value} {d : Dk} (h : DiskAt w base db v d) : db < w.heap.size := blk_lt h.blk
theorem DiskAt.ne {w : World} {base db : Nat} {v : Value} {d : Dk} (h : DiskAt w base db v d) : v.ownBlock ≠ some db := by
  obtain ⟨g, cap, cur, mk, rfl, h1, h2, _⟩ := h.bytes
  intro e
  simp only [Value.ownBlock, Option.some.injEq] at e
  subst e
  rw [h.blk] at h2
  simp at h2
theorem DiskAt.same {w w' : World} {base db : Nat} {v : Value} {d : Dk} (h : DiskAt w base db v d) (he : ∀ g, g ∈ db :: v.ownBlock.toList → w'.heap[g]? = w.heap[g]?) : DiskAt w' base db v d :=
  ⟨(he db (by simp)).trans h.blk, h.bytes.same fun g hg => he g (by simp [hg]), h.low, h.room⟩
theorem DiskAt.below {w w' : World} {base db : Nat} {v : Value} {d : Dk} (h : DiskAt w base db v d) (hw : Below w.heap.size w w') : DiskAt w' base db v d :=
  h.same fun g hg => hw.block g (by
    rcases List.mem_cons.1 hg with rfl | hg
    · exact h.lt
    · obtain ⟨g', h1, _, h3⟩ := h.bytes.blk
      rw [h1] at hg
      simp at hg
      omega)

theorem wpList_append_byte {w : World} {ops : Array Oper} {rest : List Oper} {o : Oper} {a : Act} {Q : Exit → Act → World → Prop} (hgd : o.guard = none) (s x : Operand)
    (ho : o.op = .call { callee := .builtin .append, args := #[s, x], argTypes := #[61, 61] }) (base : Nat) (v : Value) (L : List UInt8) (hs : a.eval s = v) (h : BytesAt w base v L) (b cp : Nat) (c : UInt8)
    (hx : a.eval x = .slice (some ⟨b, 0, none⟩) 1 cp) (hc : w.cell? ⟨b, 0, none⟩ = some (.int .u8 (c.toNat : Int))) (hl : L.length ≤ 1000000) (hbase : base ≤ w.heap.size)
    (k : ∀ v' w', BytesAt w' base v' (L ++ [c]) → w.grownBy w' v.ownBlock → (v'.ownBlock = v.ownBlock ∨ v'.ownBlock = some w.heap.size) → wpList Tryz.prog ops Q rest (a.put o.dst v') w') : wpList Tryz.prog ops Q (o :: rest) a w :=
  wpList_plain hgd fun _ hK => by
    obtain ⟨v', w', hr, h2, h3, h4⟩ := run_append_byte w base v L h o.type b cp c hc hl hbase
    unfold Oper.wp execOp
    simp only [ho, resolve, invoke, builtin, Sem.run_bind, Sem.run_pure, Result.andThen_ok, List.map_toArray, List.map_cons, List.map_nil, hs, hx, hr]
    exact hK _ _ (k v' w' h2 h3 h4)
theorem heap_other (w : World) (a : Addr) (u : Value) {k : Nat} (hne : k ≠ a.block) : (w.setCell a u).heap[k]? = w.heap[k]? := by
  simp [World.setCell, Array.getElem?_modify, Ne.symm hne]
theorem DiskAt.setOff {w : World} {base db : Nat} {v : Value} {d : Dk} (h : DiskAt w base db v d) (b : Bool) : DiskAt (w.setCell ⟨db, 1, none⟩ (.bool b)) base db v { d with off := b } :=
  ⟨heap_set h.blk 1 _, h.bytes.same fun g hg => heap_other _ _ _ (fun e => h.ne (by rw [hg, e])), h.low, h.room⟩
theorem DiskAt.setWaits {w : World} {base db : Nat} {v : Value} {d : Dk} (h : DiskAt w base db v d) (b : Bool) : DiskAt (w.setCell ⟨db, 2, none⟩ (.bool b)) base db v { d with waits := b } :=
  ⟨heap_set h.blk 2 _, h.bytes.same fun g hg => heap_other _ _ _ (fun e => h.ne (by rw [hg, e])), h.low, h.room⟩
theorem DiskAt.setLeft {w : World} {base db : Nat} {v : Value} {d : Dk} (h : DiskAt w base db v d) (n : Nat) (hn : n ≤ 9223372036854775807) : DiskAt (w.setCell ⟨db, 3, none⟩ (.int .i64 (n : Int))) base db v { d with left := n } :=
  ⟨heap_set h.blk 3 _, h.bytes.same fun g hg => heap_other _ _ _ (fun e => h.ne (by rw [hg, e])), h.low, hn⟩
theorem DiskAt.keep {w : World} {base db : Nat} {v : Value} {d : Dk} (h : DiskAt w base db v d) (v' : Value) (L' : List UInt8) (hb : BytesAt w base v' L') (hv : v'.ownBlock = v.ownBlock) : DiskAt (w.setCell ⟨db, 0, none⟩ v') base db v' { d with L := L' } :=
  ⟨heap_set h.blk 0 _, hb.same fun g hg => heap_other _ _ _ (fun e => h.ne (by rw [← hv, hg, e])), h.low, h.room⟩
theorem Kept.set1 {w : World} {db : Nat} (F : List Nat) (j : Nat) (u : Value) : Kept (db :: F) w (w.setCell ⟨db, j, none⟩ u) := (Kept.refl _ _).setCell (.inl (by simp)) _
/-- A byte more: what is behind the append, and the store. -/
theorem DiskAt.fin {w0 w2 : World} {base db : Nat} {v v' : Value} {d : Dk} (h : DiskAt w0 base db v d) (L' : List UInt8) (o : Obj) (hb : BytesAt w2 base v' L') (hg : (w0.alloc o).grownBy w2 v.ownBlock) (ho : v'.ownBlock = v.ownBlock ∨ v'.ownBlock = some (w0.alloc o).heap.size) :
    DiskAt (w2.setCell ⟨db, 0, none⟩ v') base db v' { d with L := L' } ∧ Kept (db :: v.ownBlock.toList) w0 (w2.setCell ⟨db, 0, none⟩ v') ∧ (∀ x, x ∈ v'.ownBlock.toList → x ∈ v.ownBlock.toList ∨ w0.heap.size ≤ x) ∧ w2.heap[db]? = w0.heap[db]? := by
  have hlt := h.lt
  have hs1 : (w0.alloc o).heap.size = w0.heap.size + 1 := by simp
  have hdb : w2.heap[db]? = w0.heap[db]? := (hg.block db (by omega) (fun e => h.ne e.symm)).trans (heap_alloc_old _ _ hlt)
  have hne' : v'.ownBlock ≠ some db := by
    rcases ho with e | e
    · rw [e]; exact h.ne
    · rw [e]; intro e'; simp only [Option.some.injEq] at e'; omega
  refine ⟨⟨heap_set (hdb.trans h.blk) 0 _, hb.same fun g hg' => heap_other _ _ _ (fun e => hne' (by rw [hg', e])), h.low, h.room⟩, ?_, fun x hx => ?_, hdb⟩
  · refine Kept.setCell (a := w0) (S := db :: v.ownBlock.toList) (p := ⟨db, 0, none⟩) ⟨hg.os, hg.tape, hg.output, Nat.le_trans (by omega) hg.size, fun k hk hne => ?_⟩ (.inl (by simp)) _
    refine (hg.block k (by omega) (fun e => hne ?_)).trans (heap_alloc_old _ _ hk)
    rw [← e]
    simp
  · rcases ho with e | e
    · exact .inl (by rw [← e]; exact hx)
    · rw [e] at hx
      simp only [Option.toList_some, List.mem_singleton] at hx
      exact .inr (by omega)
/-- The outcome of a byte's put. -/
def PutOut (ea : Nat → Addr) (w : World) (base db : Nat) (v : Value) (d : Dk × Bool) (e : Ending) (w' : World) : Prop :=
  ∃ v', e = .returned (if d.2 = true then .nilIface else .iface 186 (.pointer (some (ea 9)))) ∧ DiskAt w' base db v' d.1 ∧ Kept (db :: v.ownBlock.toList) w w' ∧ ∀ x, x ∈ v'.ownBlock.toList → x ∈ v.ownBlock.toList ∨ w.heap.size ≤ x

set_option maxRecDepth 1000000 in
set_option maxHeartbeats 2000000 in
theorem put_any {B : Nat} {ea : Nat → Addr} (w : World) (E : EnvW B ea w) (base db : Nat) (hB : B ≤ base) (v : Value) (d : Dk) (h : DiskAt w base db v d) (hl : d.L.length ≤ 900000) (hbs : base ≤ w.heap.size) (c : UInt8) :
    Calls Tryz.prog 44 #[.pointer (some ⟨db, 0, none⟩), .int .u8 (c.toNat : Int)] w fun e w' => PutOut ea w base db v (putD d c) e w' := by
  obtain ⟨L, off, waits, left⟩ := d
  have HD := (show Hid _ from h)
  have z0 : w.cell? ⟨db, 0, none⟩ = some v := cells_of h.blk 0
  have z1 : w.cell? ⟨db, 1, none⟩ = some (.bool off) := cells_of h.blk 1
  have z2 : w.cell? ⟨db, 2, none⟩ = some (.bool waits) := cells_of h.blk 2
  have z3 : w.cell? ⟨db, 3, none⟩ = some (.int .i64 (left : Int)) := cells_of h.blk 3
  have f1 : w.frozen? ⟨db, 1, none⟩ = false := by simp [World.frozen?, h.blk]
  have f3 : w.frozen? ⟨db, 3, none⟩ = false := by simp [World.frozen?, h.blk]
  have hdb := h.lt
  have hlow := h.low
  have hlw := E.low
  have c9 : w.cell? ⟨3, 0, none⟩ = some (.iface 186 (.pointer (some (ea 9)))) := E.c9
  have c9s : (w.setCell ⟨db, 1, none⟩ (.bool true)).cell? ⟨3, 0, none⟩ = some (.iface 186 (.pointer (some (ea 9)))) := (World.cell?_of_block (a := ⟨3, 0, none⟩) (heap_other _ _ _ (by show 3 ≠ db; omega))).trans c9
  have s1 : (w.setCell ⟨db, 1, none⟩ (.bool true)).cell? ⟨db, 1, none⟩ = some (.bool true) := cells_of (h.setOff true).blk 1
  have hrm : (left : Int) ≤ 9223372036854775807 := by have := h.room; simp only at this; omega
  have HLN : Hid (L.length ≤ 900000) := hl
  clear h E hlow hlw hl
  have HENT : Hid True := trivial
  cases off with
  | true =>
    cases waits with
    | false =>
      go_enter Tryz.func44, Tryz.ntmps44
      go_wp2
      go_ret
      exact ⟨v, rfl, HD.out, Kept.refl _ _, fun x hx => .inl hx⟩
    | true =>
      cases left with
      | zero =>
        go_enter Tryz.func44, Tryz.ntmps44
        go_wp2
        go_ret
        exact ⟨v, rfl, HD.out.setOff true, Kept.set1 _ _ _, fun x hx => .inl hx⟩
      | succ n =>
        have hz : (((n : Int) + 1) == 0) = false := by rw [beq_eq_false_iff_ne]; omega
        have z3' : w.cell? ⟨db, 3, none⟩ = some (.int .i64 ((n : Int) + 1)) := z3
        have HP : Hid (putD ⟨L, true, true, n + 1⟩ c = (⟨L, true, true, n + 1⟩, false)) := by simp [Hid, putD]
        clear z3
        go_enter Tryz.func44, Tryz.ntmps44
        go_wp2
        go_ret
        rw [HP.out]
        exact ⟨v, rfl, HD.out, Kept.refl _ _, fun x hx => .inl hx⟩
  | false =>
    cases waits with
    | false =>
      have hbA : ∀ o, BytesAt (w.alloc o) base v L := fun o => HD.out.bytes.same fun g hg => heap_alloc_old _ _ (by obtain ⟨g', e, _, h3⟩ := HD.out.bytes.blk; rw [hg] at e; cases e; exact h3)
      go_enter Tryz.func44, Tryz.ntmps44
      have hcA : (w.alloc (.cells #[.int .u8 (c.toNat : Int)] 5)).cell? ⟨w.heap.size, 0, none⟩ = some (.int .u8 (c.toNat : Int)) := by rw [World.cell?, heap_alloc_new]; rfl
      go_wp2_with (at_builtin; refine wpList_append_byte rfl _ _ rfl base v L rfl (hbA _) w.heap.size 1 c rfl hcA (by have := HLN.out; omega) (by simp; omega) ?_; intro v' w2 hb2 hg2 ho2; have hf := HD.out.fin (L ++ [c]) _ hb2 hg2 ho2; have q0 : w2.cell? ⟨db, 0, none⟩ = some v := cells_of (hf.2.2.2.trans HD.out.blk) 0; have q1 : w2.frozen? ⟨db, 0, none⟩ = false := (by simp [World.frozen?, hf.2.2.2, HD.out.blk]); have HF := (show Hid _ from hf); clear hg2 ho2 hf; obtain ⟨g9, cap9, _, _, rfl, _⟩ := hb2)
      go_wp2
      go_ret
      have hf := HF.out
      rw [show (L ++ [c]).length = L.length + 1 by simp] at hf
      exact ⟨_, rfl, hf.1, hf.2.1, hf.2.2.1⟩
    | true =>
      cases left with
      | zero =>
        go_enter Tryz.func44, Tryz.ntmps44
        go_wp2
        go_ret
        exact ⟨v, rfl, HD.out.setOff true, Kept.set1 _ _ _, fun x hx => .inl hx⟩
      | succ n =>
        obtain ⟨m, hm⟩ : ∃ m : Int, m = (n : Int) := ⟨_, rfl⟩
        have hz : ((m + 1) == 0) = false := by rw [beq_eq_false_iff_ne]; omega
        have z3' : w.cell? ⟨db, 3, none⟩ = some (.int .i64 (m + 1)) := by rw [hm]; exact z3
        have hn0 : m + 1 ≤ 9223372036854775807 := by rw [hm]; exact hrm
        have hn1 : 0 ≤ m := by omega
        obtain ⟨W, hW⟩ : ∃ W, W = w.setCell ⟨db, 3, none⟩ (.int .i64 m) := ⟨_, rfl⟩
        have hd2 : DiskAt W base db v ⟨L, false, true, n⟩ := by rw [hW, hm]; exact HD.out.setLeft n (by omega)
        have HK : Hid (Kept (db :: v.ownBlock.toList) w W) := by rw [hW]; exact Kept.set1 _ _ _
        have hsz : W.heap.size = w.heap.size := by rw [hW]; simp
        have HSZ := (show Hid _ from hsz)
        have y0 : W.cell? ⟨db, 0, none⟩ = some v := cells_of hd2.blk 0
        have hbW : base ≤ W.heap.size := by omega
        have HD2 := (show Hid _ from hd2)
        have hbA : ∀ o, BytesAt (W.alloc o) base v L := fun o => hd2.bytes.same fun g hg => heap_alloc_old _ _ (by obtain ⟨g', e, _, h3⟩ := hd2.bytes.blk; rw [hg] at e; cases e; exact h3)
        have hcA : (W.alloc (.cells #[.int .u8 (c.toNat : Int)] 5)).cell? ⟨W.heap.size, 0, none⟩ = some (.int .u8 (c.toNat : Int)) := by rw [World.cell?, heap_alloc_new]; rfl
        clear z3 hd2 hsz hrm hm
        go_enter Tryz.func44, Tryz.ntmps44
        go_upto_region 7 with fail
        rw [← hW]
        clear hW
        go_wp2_with (at_builtin; refine wpList_append_byte rfl _ _ rfl base v L rfl (hbA _) W.heap.size 1 c rfl hcA (by have := HLN.out; omega) (by simp; omega) ?_; intro v' w2 hb2 hg2 ho2; have hf := HD2.out.fin (L ++ [c]) _ hb2 hg2 ho2; have q0 : w2.cell? ⟨db, 0, none⟩ = some v := cells_of (hf.2.2.2.trans HD2.out.blk) 0; have q1 : w2.frozen? ⟨db, 0, none⟩ = false := (by simp [World.frozen?, hf.2.2.2, HD2.out.blk]); have HF := (show Hid _ from hf); clear hg2 ho2 hf; obtain ⟨g9, cap9, _, _, rfl, _⟩ := hb2)
        go_wp2
        go_ret
        have hf := HF.out
        rw [show (L ++ [c]).length = L.length + 1 by simp] at hf
        refine ⟨_, rfl, hf.1, HK.out.trans hf.2.1 (fun x hx => .inl hx), fun x hx => ?_⟩
        have := hf.2.2.1 x hx
        rw [HSZ.out] at this
        exact this
end Go.Proofs.YtplfnblpmagbjabGreatDoor
/- wal's write and Append by contracts. -/
namespace WalMath
theorem putD_stop {d : Dk} (c : UInt8) (h : (d.off || (d.waits && d.left == 0)) = true) : putD d c = ({ d with off := true }, false) := if_pos h
theorem writeD_off {d : Dk} {s : List UInt8} (h : d.off = true) (hs : s ≠ []) : writeD d s = (d, false) := by
  cases s with
  | nil => exact absurd rfl hs
  | cons c r =>
    rw [writeD, putD_stop c (by rw [h]; rfl), if_neg (by simp)]
    obtain ⟨L, off, waits, left⟩ := d
    simp only at h
    subst h
    rfl
theorem writeD_cut : ∀ (s : List UInt8) (L : List UInt8) (n : Nat), n < s.length → writeD ⟨L, false, true, n⟩ s = (⟨L ++ s.take n, true, true, 0⟩, false)
  | [], L, n, h => absurd h (by simp)
  | c :: r, L, 0, _ => by
    rw [writeD, putD_stop c (by rfl), if_neg (by simp)]
    simp
  | c :: r, L, n + 1, h => by
    have hp : putD ⟨L, false, true, n + 1⟩ c = (⟨L ++ [c], false, true, n⟩, true) := by simp [putD]
    rw [writeD, hp, if_pos rfl, writeD_cut r (L ++ [c]) n (by simpa using h)]
    simp
theorem writeD_fits : ∀ (s : List UInt8) (L : List UInt8) (n : Nat), s.length ≤ n → writeD ⟨L, false, true, n⟩ s = (⟨L ++ s, false, true, n - s.length⟩, true)
  | [], L, n, _ => by simp [writeD]
  | c :: r, L, 0, h => absurd h (by simp)
  | c :: r, L, n + 1, h => by
    have hp : putD ⟨L, false, true, n + 1⟩ c = (⟨L ++ [c], false, true, n⟩, true) := by simp [putD]
    rw [writeD, hp, if_pos rfl, writeD_fits r (L ++ [c]) n (by simpa using h)]
    simp
theorem writeD_free : ∀ (s : List UInt8) (L : List UInt8) (n : Nat), writeD ⟨L, false, false, n⟩ s = (⟨L ++ s, false, false, n⟩, true)
  | [], L, n => by simp [writeD]
  | c :: r, L, n => by
    have hp : putD ⟨L, false, false, n⟩ c = (⟨L ++ [c], false, false, n⟩, true) := by simp [putD]
    rw [writeD, hp, if_pos rfl, writeD_free r (L ++ [c]) n]
    simp
theorem putD_len (d : Dk) (c : UInt8) : (putD d c).1.L.length ≤ d.L.length + 1 := by
  unfold putD
  split <;> simp
end WalMath
namespace Go.Proofs.YtplfnblpmagbjabGreatDoor
open Go.Shelf Go.RowKit LabMath WalMath

/-- A disk whose blocks are F, none of them elder than w. -/
structure DkF (w wr : World) (db : Nat) (d : Dk) (F : List Nat) : Prop where
  ex : ∃ v, F = db :: v.ownBlock.toList ∧ DiskAt wr w.heap.size db v d
  bel : Below w.heap.size w wr
theorem DkF.mem {w wr : World} {db : Nat} {d : Dk} {F : List Nat} (h : DkF w wr db d F) {x : Nat} (hx : x ∈ F) : w.heap.size ≤ x ∧ x < wr.heap.size := by
  obtain ⟨v, rfl, h1⟩ := h.ex
  rcases List.mem_cons.1 hx with rfl | hx
  · exact ⟨h1.low, h1.lt⟩
  · obtain ⟨g, e, h2, h3⟩ := h1.bytes.blk
    rw [e] at hx
    simp at hx
    omega
theorem DkF.below {w wr w' : World} {db : Nat} {d : Dk} {F : List Nat} (h : DkF w wr db d F) (hw : Below wr.heap.size wr w') : DkF w w' db d F := by
  obtain ⟨v, rfl, h1⟩ := h.ex
  exact ⟨⟨v, rfl, h1.below hw⟩, h.bel.trans (hw.mono h.bel.size)⟩
theorem DkF.same {w wr w' : World} {db : Nat} {d : Dk} {F : List Nat} (h : DkF w wr db d F) (hb : Below w.heap.size w w') (he : ∀ x, x ∈ F → w'.heap[x]? = wr.heap[x]?) : DkF w w' db d F := by
  obtain ⟨v, rfl, h1⟩ := h.ex
  exact ⟨⟨v, rfl, h1.same he⟩, hb⟩
theorem DkF.step {w wr w' : World} {db : Nat} {d d' : Dk} {F : List Nat} {v v' : Value} (h : DkF w wr db d F) (hF : F = db :: v.ownBlock.toList) (h1 : DiskAt w' w.heap.size db v' d') (k : Kept (db :: v.ownBlock.toList) wr w') (s : ∀ x, x ∈ v'.ownBlock.toList → x ∈ v.ownBlock.toList ∨ wr.heap.size ≤ x) :
    ∃ F', DkF w w' db d' F' ∧ Kept F wr w' ∧ ∀ x, x ∈ F' → x ∈ F ∨ wr.heap.size ≤ x := by
  subst hF
  refine ⟨db :: v'.ownBlock.toList, ⟨⟨v', rfl, h1⟩, h.bel.trans (k.below h.bel.size fun x hx => (h.mem hx).1)⟩, k, fun x hx => ?_⟩
  rcases List.mem_cons.1 hx with rfl | hx
  · exact .inl (by simp)
  · exact (s x hx).imp (fun h => by simp at h ⊢; exact .inr h) id
theorem dk_put {B : Nat} {ea : Nat → Addr} (w : World) (E : EnvW B ea w) (hB : B ≤ w.heap.size) (wr : World) (db : Nat) (d : Dk) (F : List Nat) (h : DkF w wr db d F) (hl : d.L.length ≤ 900000) (c : UInt8) :
    Calls Tryz.prog 44 #[.pointer (some ⟨db, 0, none⟩), .int .u8 (c.toNat : Int)] wr fun e w' => e = .returned (if (putD d c).2 = true then .nilIface else .iface 186 (.pointer (some (ea 9)))) ∧ ∃ F', DkF w w' db (putD d c).1 F' ∧ Kept F wr w' ∧ ∀ x, x ∈ F' → x ∈ F ∨ wr.heap.size ≤ x := by
  obtain ⟨v, rfl, h1⟩ := h.ex
  refine (put_any wr (E.below h.bel hB) w.heap.size db hB v d h1 hl h.bel.size c).mono ?_
  rintro e w' ⟨v', rfl, h2, k2, s2⟩
  exact ⟨rfl, h.step rfl h2 k2 s2⟩

/-- The outcome of a write. -/
def DkOut (ea : Nat → Addr) (w w1 : World) (db : Nat) (F : List Nat) (R : Dk × Bool) (e : Ending) (w' : World) : Prop :=
  e = .returned (if R.2 = true then .nilIface else .iface 186 (.pointer (some (ea 9)))) ∧ ∃ F', DkF w w' db R.1 F' ∧ Kept F w1 w' ∧ ∀ x, x ∈ F' → x ∈ F ∨ w1.heap.size ≤ x

set_option maxRecDepth 1000000 in
set_option maxHeartbeats 2000000 in
theorem dk_write {B : Nat} {ea : Nat → Addr} (w : World) (E : EnvW B ea w) (hB : B ≤ w.heap.size) (w1 : World) (db : Nat) (d : Dk) (F : List Nat) (h : DkF w w1 db d F) (hl : d.L.length ≤ 700000) (s : ByteArray) (hs : s.size ≤ 100000) :
    Calls Tryz.prog 26 #[.pointer (some ⟨db, 0, none⟩), .string s] w1 fun e w' => DkOut ea w w1 db F (writeD d s.data.toList) e w' := by
  have HP : Hid (∀ wr d F c, DkF w wr db d F → d.L.length ≤ 900000 → Calls Tryz.prog 44 #[.pointer (some ⟨db, 0, none⟩), .int .u8 ((c : UInt8).toNat : Int)] wr fun e w' => e = .returned (if (putD d c).2 = true then .nilIface else .iface 186 (.pointer (some (ea 9)))) ∧ ∃ F', DkF w w' db (putD d c).1 F' ∧ Kept F wr w' ∧ ∀ x, x ∈ F' → x ∈ F ∨ wr.heap.size ≤ x) := fun wr d F c h hl => dk_put w E hB wr db d F h hl c
  obtain ⟨R, hR⟩ : ∃ R, R = writeD d s.data.toList := ⟨_, rfl⟩
  rw [← hR]
  have HDR : Hid (∀ k (hk : k < s.size), s.data.toList.drop k = s[k] :: s.data.toList.drop (k + 1)) := scan_drop s
  have HST : Hid (R = writeD d (s.data.toList.drop 0)) := hR
  obtain ⟨l, hll⟩ : ∃ l, l = s.data.toList := ⟨_, rfl⟩
  have HEN : Hid (l.drop s.size = []) := by
    show _ = _
    rw [hll]
    exact List.drop_eq_nil_of_le (by rw [Array.length_toList]; exact Nat.le_refl _)
  rw [← hll] at HDR HST
  have HD := (show Hid _ from h)
  have HL : Hid (d.L.length ≤ 700000) := hl
  clear hR h E hll hl
  go_enter Tryz.func26, Tryz.ntmps26
  go_wp2_with fail
  go_loopw [9] (fun i wr => ∃ (k : Nat) (dk : Dk) (Fk : List Nat), k ≤ s.size ∧ i = .int .i64 (k : Int) ∧ Hid (R = writeD dk (l.drop k) ∧ dk.L.length ≤ d.L.length + k) ∧ DkF w wr db dk Fk ∧ Kept F w1 wr ∧ ∀ x, x ∈ Fk → x ∈ F ∨ w1.heap.size ≤ x) (fun i _ => s.size - (intOf i).toNat)
  case atStart => exact ⟨0, d, F, Nat.zero_le _, rfl, ⟨HST.out, Nat.le_refl _⟩, HD.out, Kept.refl _ _, fun x hx => .inl hx⟩
  case round =>
    obtain ⟨k, dk, Fk, hk, rfl, hh, hdk, hkp, hsub⟩ := hrel
    clear HST HD
    by_cases hks : k < s.size
    · have hk0 : (0 : Int) ≤ (k : Int) := by omega
      have hk1 : (k : Int) < (s.size : Int) := by omega
      obtain ⟨c, hc⟩ : ∃ c, c = s[k] := ⟨_, rfl⟩
      have HC : Hid (l.drop k = c :: l.drop (k + 1)) := by rw [hc]; exact HDR.out k hks
      have HPK := (show Hid _ from HP.out wr dk Fk c hdk (by have := hh.out.2; have := HL.out; omega))
      have HHH := hh
      have HKP := (show Hid _ from hkp)
      have HSB := (show Hid _ from hsub)
      clear hh hdk hkp hsub
      go_wp2_with fail
      rw [← hc]
      refine Calls.mono HPK.out ?_
      rintro e w2 ⟨rfl, F2, h2, k2, s2⟩
      have HR2 : Hid (R = if (putD dk c).2 = true then writeD (putD dk c).1 (l.drop (k + 1)) else ((putD dk c).1, false)) := by
        have := HHH.out.1
        rw [HC.out, writeD] at this
        exact this
      have hlen := putD_len dk c
      have H2 := (show Hid _ from And.intro h2 (And.intro (HKP.out.trans k2 HSB.out) (fun x hx => (s2 x hx).elim (fun h => HSB.out x h) (fun h => .inr (Nat.le_trans HKP.out.size h)) : ∀ x, x ∈ F2 → x ∈ F ∨ w1.heap.size ≤ x)))
      have HLN : Hid ((putD dk c).1.L.length ≤ d.L.length + (k + 1)) := by
        show _ ≤ _
        have := HHH.out.2
        omega
      obtain ⟨q, hq⟩ : ∃ q, q = putD dk c := ⟨_, rfl⟩
      rw [← hq] at HR2 H2 HLN ⊢
      clear h2 k2 s2 hlen hq HPK HHH HKP HSB HC hc
      obtain ⟨d2, b2⟩ := q
      dsimp only at HR2 H2 HLN ⊢
      cases b2 with
      | true =>
        go_wp2
        go_roundw
        case rel => exact ⟨k + 1, d2, F2, by omega, by go_num, ⟨HR2.out, HLN.out⟩, H2.out.1, H2.out.2.1, H2.out.2.2⟩
        case measure => simp [intOf] <;> omega
      | false =>
        have HRR : Hid (R = (d2, false)) := HR2.out
        go_wp2
        go_ret
        rw [HRR.out]
        exact ⟨rfl, F2, H2.out.1, H2.out.2.1, H2.out.2.2⟩
    · have hke : k = s.size := by omega
      subst hke
      have hr : R = (dk, true) := by
        have := hh.out.1
        rw [HEN.out, writeD] at this
        exact this
      have HHH := (show Hid _ from And.intro hdk (And.intro hkp hsub))
      have HRR := (show Hid _ from hr)
      clear hh hdk hkp hsub hr
      go_wp2
      go_ret
      rw [HRR.out]
      exact ⟨rfl, Fk, HHH.out.1, HHH.out.2.1, HHH.out.2.2⟩
end Go.Proofs.YtplfnblpmagbjabGreatDoor
/- wal's Append by its contract. -/
namespace Go.Proofs.YtplfnblpmagbjabGreatDoor
open Go.Shelf Go.RowKit LabMath WalMath

noncomputable def appD (d : Dk) (s : List UInt8) (t : Int) (u : Nat) : Dk := if 0 < chkC s t then d else if 65536 < d.L.length + (recL (s, t, u)).length then d else (writeD d (recL (s, t, u))).1
noncomputable def appC (d : Dk) (s : List UInt8) (t : Int) (u : Nat) : Int := if 0 < chkC s t then chkC s t else if 65536 < d.L.length + (recL (s, t, u)).length then 7 else if (writeD d (recL (s, t, u))).2 = true then 0 else 10
noncomputable def appA (s : List UInt8) (t : Int) : Int := if 0 < chkC s t then chkA s else -1
set_option maxRecDepth 1000000 in
theorem dk_room (w w1 : World) (db : Nat) (d : Dk) (F : List Nat) (h : DkF w w1 db d F) (hl : d.L.length ≤ 65536) :
    Calls Tryz.prog 25 #[.pointer (some ⟨db, 0, none⟩)] w1 fun e w' => e = .returned (.int .i64 (65536 - (d.L.length : Int))) ∧ w' = w1 := by
  obtain ⟨v, rfl, h1⟩ := h.ex
  have z0 : w1.cell? ⟨db, 0, none⟩ = some v := cells_of h1.blk 0
  obtain ⟨g, cap, cur, mk, rfl, _⟩ := h1.bytes
  obtain ⟨n, hn⟩ : ∃ n, n = d.L.length := ⟨_, rfl⟩
  rw [← hn] at z0 ⊢
  have hn1 : (n : Int) ≤ 65536 := by omega
  clear h h1 hn hl
  go_enter Tryz.func25, Tryz.ntmps25
  go_wp2
  go_ret
  exact ⟨rfl, rfl⟩
/-- The outcome of an append. -/
def AOut (ea : Nat → Addr) (w w1 : World) (db : Nat) (F : List Nat) (d' : Dk) (C A : Int) (e : Ending) (w' : World) : Prop :=
  ∃ v F', e = .returned v ∧ FaultV ea w' v C A ∧ DkF w w' db d' F' ∧ Kept F w1 w' ∧ ∀ x, x ∈ F' → x ∈ F ∨ w1.heap.size ≤ x

set_option maxRecDepth 1000000 in
set_option maxHeartbeats 2000000 in
theorem dk_append {B : Nat} {ea : Nat → Addr} (w : World) (E : EnvW B ea w) (hB : B ≤ w.heap.size) (w1 : World) (db : Nat) (d : Dk) (F : List Nat) (h : DkF w w1 db d F) (hl : d.L.length ≤ 65536) (s : ByteArray) (hs : s.size ≤ 100000) (t : Int) (u : Nat) (hu : u < 18446744073709551616) :
    Calls Tryz.prog 7 #[.pointer (some ⟨db, 0, none⟩), .string s, .agg #[.int .i64 t, .int .u64 (u : Int)]] w1 fun e w' => AOut ea w w1 db F (appD d s.data.toList t u) (appC d s.data.toList t u) (appA s.data.toList t) e w' := by
  obtain ⟨W, hW⟩ : ∃ W, W = w1.alloc (.cells #[.int .i64 t, .int .u64 (u : Int)] 34) := ⟨_, rfl⟩
  have hbW : Below w1.heap.size w1 W := by rw [hW]; exact (Below.refl _ _).alloc (Nat.le_refl _) _
  have hac : W.heap[w1.heap.size]? = some (.cells #[.int .i64 t, .int .u64 (u : Int)] 34 (0, 0)) := by rw [hW]; exact heap_alloc_new _ _
  have hfr : ∀ z, Below W.heap.size W z → z.cell? ⟨w1.heap.size, 0, none⟩ = some (.int .i64 t) ∧ z.cell? ⟨w1.heap.size, 1, none⟩ = some (.int .u64 (u : Int)) := fun z hz => by
    have hb := (hz.block w1.heap.size (blk_lt hac)).trans hac
    exact ⟨cells_of hb 0, cells_of hb 1⟩
  obtain ⟨a0, a1⟩ := hfr W (Below.refl _ _)
  have HFR := (show Hid _ from hfr)
  have HD : Hid (DkF w W db d F) := h.below hbW
  have HBW := (show Hid _ from hbW)
  have HE := (show Hid _ from E)
  have HCK := (show Hid _ from lgcheck_any W (E.below HD.out.bel hB) (Nat.le_trans hB HD.out.bel.size) s hs t (u : Int))
  obtain ⟨D', hD'⟩ : ∃ D', D' = appD d s.data.toList t u := ⟨_, rfl⟩
  obtain ⟨C', hC'⟩ : ∃ C', C' = appC d s.data.toList t u := ⟨_, rfl⟩
  obtain ⟨A', hA'⟩ : ∃ A', A' = appA s.data.toList t := ⟨_, rfl⟩
  rw [← hD', ← hC', ← hA']
  have HV : Hid (D' = appD d s.data.toList t u ∧ C' = appC d s.data.toList t u ∧ A' = appA s.data.toList t) := ⟨hD', hC', hA'⟩
  clear hD' hC' hA' hbW hac hfr E h
  go_enter Tryz.func7, Tryz.ntmps7
  go_upto_region 1 with fail
  rw [← hW]
  clear hW
  go_wp2_with fail
  refine Calls.mono HCK.out ?_
  rintro e w2 ⟨v, rfl, hf, hb2⟩
  have HF := (show Hid _ from hf)
  have HB2 := (show Hid _ from hb2)
  have HD2 := (show Hid _ from HD.out.below hb2)
  obtain ⟨b0, b1⟩ := HFR.out w2 hb2
  clear HCK hb2 a0 a1
  dsimp only
  have hkeep : ∀ z, Below w2.heap.size w2 z → Kept F w1 z := fun z hz => Kept.of_below ((HBW.out.trans (HB2.out.mono HBW.out.size)).trans (hz.mono (Nat.le_trans HBW.out.size HB2.out.size)))
  have HKP := (show Hid _ from hkeep)
  clear hkeep
  rcases (by have := chk_nonneg s.data.toList t; omega : 0 < chkC s.data.toList t ∨ chkC s.data.toList t = 0) with h0 | h0
  · have HQ : Hid (D' = d ∧ C' = chkC s.data.toList t ∧ A' = chkA s.data.toList) := ⟨HV.out.1.trans (if_pos h0), HV.out.2.1.trans (if_pos h0), HV.out.2.2.trans (if_pos h0)⟩
    obtain hn | ⟨ti, p, rfl⟩ := hf.iface
    · exfalso
      rcases hf with ⟨_, h⟩ | ⟨m, _, h, _⟩ | ⟨pb, m, _, h, _⟩
      · omega
      · rw [hn] at h; cases h
      · rw [hn] at h; cases h
    · clear hf h0
      go_wp2
      go_ret
      obtain ⟨e1, e2, e3⟩ := HQ.out
      rw [e1, e2, e3]
      exact ⟨_, F, rfl, HF.out, HD2.out, HKP.out _ (Below.refl _ _), fun x hx => .inl hx⟩
  · obtain rfl := hf.none h0
    obtain ⟨hr0, ht0, ht1⟩ := chk_zero.1 h0
    have hll : s.data.toList.length = s.size := Array.length_toList
    have hlab := lab_is _ hr0
    have HRC := (show Hid _ from record_any w2 (HE.out.below HD2.out.bel hB) (Nat.le_trans hB HD2.out.bel.size) s (by omega) t ht0 ht1 u hu)
    have hok : OkE (fun s => readC s = 0) (s.data.toList, t, u) := ⟨hr0, ht0, ht1, hu⟩
    have hrl := (body_length lab_is hok).1
    have hrl2 := recL_length (s.data.toList, t, u)
    have HV2 : Hid (D' = (if 65536 < d.L.length + (recL (s.data.toList, t, u)).length then d else (writeD d (recL (s.data.toList, t, u))).1) ∧ C' = (if 65536 < d.L.length + (recL (s.data.toList, t, u)).length then 7 else if (writeD d (recL (s.data.toList, t, u))).2 = true then 0 else 10) ∧ A' = -1) := ⟨HV.out.1.trans (if_neg (by omega)), HV.out.2.1.trans (if_neg (by omega)), HV.out.2.2.trans (if_neg (by omega))⟩
    obtain ⟨r, hr⟩ : ∃ r, r = recL (s.data.toList, t, u) := ⟨_, rfl⟩
    rw [← hr] at HRC HV2 hrl2
    have hrs : (txt r).size = r.length := txt_size r
    have hrb : r.length ≤ 1100 := by omega
    clear hf h0 hr0 ht0 ht1 hll hlab hok hrl hrl2 hr HV hs
    go_wp2_with fail
    refine Calls.mono HRC.out ?_
    rintro e w3 ⟨rfl, hb3⟩
    have HB3 := (show Hid _ from hb3)
    have HD3 := (show Hid _ from HD2.out.below hb3)
    clear hb3 HRC b0 b1
    dsimp only
    have HRM := (show Hid _ from dk_room w w3 db d F HD3.out hl)
    have HWR := (show Hid _ from dk_write w HE.out hB w3 db d F HD3.out (by omega) (txt r) (by omega))
    have c6 := (HE.out.below HD3.out.bel hB).c6
    obtain ⟨n, hn⟩ : ∃ n, n = d.L.length := ⟨_, rfl⟩
    rw [← hn] at HRM HV2 hl
    obtain ⟨rt, hrt⟩ : ∃ rt, rt = txt r := ⟨_, rfl⟩
    rw [← hrt] at HWR hrs ⊢
    have HRT : Hid (rt.data.toList = r) := by rw [hrt]; rfl
    have HRS : Hid (rt.size = r.length) := hrs
    clear hn hrt hrs
    go_wp2_with fail
    refine Calls.mono HRM.out ?_
    rintro e w4 ⟨rfl, hw4⟩
    have hw4' := hw4.symm
    subst hw4'
    clear HRM
    dsimp only
    have hrs := HRS.out
    by_cases hbig : 65536 < n + r.length
    · have d1 : 65536 - (n : Int) < (rt.size : Int) := by omega
      clear hrs
      go_wp2
      go_ret
      obtain ⟨e1, e2, e3⟩ := HV2.out
      rw [if_pos hbig] at e1 e2
      rw [e1, e2, e3]
      exact ⟨_, F, rfl, .inr (.inl ⟨6, by omega, rfl, rfl, rfl⟩), HD3.out, HKP.out _ HB3.out, fun x hx => .inl hx⟩
    · have d1 : decide (65536 - (n : Int) < (rt.size : Int)) = false := by simp; omega
      have HV3 : Hid (D' = (writeD d r).1 ∧ C' = (if (writeD d r).2 = true then 0 else 10) ∧ A' = -1) := by
        obtain ⟨e1, e2, e3⟩ := HV2.out
        rw [if_neg hbig] at e1 e2
        exact ⟨e1, e2, e3⟩
      clear HV2 hbig hrs
      go_wp2_with fail
      refine Calls.mono HWR.out ?_
      rintro e w5 ⟨rfl, F', h5, k5, s5⟩
      rw [HRT.out] at h5 ⊢
      have H5 := (show Hid _ from And.intro h5 (And.intro k5 s5))
      obtain ⟨q, hq⟩ : ∃ q, q = writeD d r := ⟨_, rfl⟩
      rw [← hq] at H5 HV3 ⊢
      clear hq h5 k5 s5 HWR
      obtain ⟨d2, b2⟩ := q
      have hsz3 : w1.heap.size ≤ w3.heap.size := Nat.le_trans HBW.out.size (Nat.le_trans HB2.out.size HB3.out.size)
      have HEND : Hid (Kept F w1 w5 ∧ ∀ x, x ∈ F' → x ∈ F ∨ w1.heap.size ≤ x) := ⟨(HKP.out _ HB3.out).trans H5.out.2.1 (fun x hx => .inl hx), fun x hx => (H5.out.2.2 x hx).imp id (fun h => Nat.le_trans hsz3 h)⟩
      dsimp only at HV3 H5 ⊢
      clear hsz3
      cases b2 with
      | true =>
        go_wp2
        go_ret
        obtain ⟨e1, e2, e3⟩ := HV3.out
        rw [e1, e2, e3]
        exact ⟨_, F', rfl, .inl ⟨rfl, rfl⟩, H5.out.1, HEND.out.1, HEND.out.2⟩
      | false =>
        go_wp2
        go_ret
        obtain ⟨e1, e2, e3⟩ := HV3.out
        rw [e1, e2, e3]
        exact ⟨_, F', rfl, .inr (.inl ⟨9, by omega, rfl, rfl, rfl⟩), H5.out.1, HEND.out.1, HEND.out.2⟩
end Go.Proofs.YtplfnblpmagbjabGreatDoor
/- wal's firstBody, entry and first by contracts. -/
namespace Go.Proofs.YtplfnblpmagbjabGreatDoor
open Go.Shelf Go.RowKit LabMath WalMath

set_option maxRecDepth 1000000 in
theorem firstBody_any (b : ByteArray) (hb : b.size ≤ 100000) (w : World) :
    Calls Tryz.prog 46 #[.string b] w fun e w' => ((b.size < 2 + lenOf b.data.toList ∧ e = .returned (.tuple #[.string ⟨#[]⟩, .bool false])) ∨ (2 + lenOf b.data.toList ≤ b.size ∧ e = .returned (.tuple #[.string (txt ((b.data.toList.drop 2).take (lenOf b.data.toList))), .bool true]))) ∧ ∃ q, w' = w.drewN q := by
  have hll : b.data.toList.length = b.size := Array.length_toList
  by_cases h2 : b.size < 2
  · have d1 : (b.size : Int) < 2 := by omega
    have HN : Hid (b.size < 2 + lenOf b.data.toList) := by show _ < _; omega
    clear hll h2
    go_enter Tryz.func46, Tryz.ntmps46
    go_wp2
    go_ret2
    exact ⟨.inl ⟨HN.out, rfl⟩, 0, rfl⟩
  · have d1 : decide ((b.size : Int) < 2) = false := by simp; omega
    have hi0 : (0 : Int) < (b.size : Int) := by omega
    have hi1 : (1 : Int) < (b.size : Int) := by omega
    have hlen : lenOf b.data.toList = (b[0]'(by omega)).toNat * 256 + (b[1]'(by omega)).toNat := by
      unfold lenOf
      have e0 : b.data.toList.getD 0 0 = b[0]'(by omega) := by
        rw [List.getD_eq_getElem?_getD, List.getElem?_eq_getElem (by omega)]
        rfl
      have e1 : b.data.toList.getD 1 0 = b[1]'(by omega) := by
        rw [List.getD_eq_getElem?_getD, List.getElem?_eq_getElem (by omega)]
        rfl
      rw [e0, e1]
    have hb0 := (b[0]'(by omega)).toNat_lt
    have hb1 := (b[1]'(by omega)).toNat_lt
    obtain ⟨n, hn⟩ : ∃ n, n = lenOf b.data.toList := ⟨_, rfl⟩
    have hend : 2 + ((b[0]'(by omega)).toNat : Int) * 256 + ((b[1]'(by omega)).toNat : Int) = ((2 + n : Nat) : Int) := by omega
    rw [← hn]
    have n0 : 0 < b.size := by omega
    have n1 : 1 < b.size := by omega
    obtain ⟨x0, hx0⟩ : ∃ x0, x0 = b[0]'n0 := ⟨_, rfl⟩
    obtain ⟨x1, hx1⟩ : ∃ x1, x1 = b[1]'n1 := ⟨_, rfl⟩
    have HN := (show Hid _ from hn)
    rw [← hx0, ← hx1] at hend
    rw [← hx0] at hb0
    rw [← hx1] at hb1
    have HEND := (show Hid _ from hend)
    have HB01 : Hid (x0.toNat < 256 ∧ x1.toNat < 256) := ⟨hb0, hb1⟩
    clear hlen hn hend hll h2 hb0 hb1
    go_enter Tryz.func46, Tryz.ntmps46
    go_wp2_with fail
    go_quiet (fail)
    rw [← hx0, ← hx1]
    clear hx0 hx1
    have hw : wrap64 (wrap64 (2 + wrap64 (wrap64 (x0.toNat : Int) * 256)) + wrap64 (x1.toNat : Int)) = ((2 + n : Nat) : Int) := by
      have h1 := HEND.out
      have h2 := HB01.out
      unfold wrap64
      omega
    rw [hw]
    clear hw
    obtain ⟨en, hen⟩ : ∃ en, en = 2 + n := ⟨_, rfl⟩
    rw [← hen]
    by_cases hsh : b.size < 2 + n
    · have d2 : (b.size : Int) < (en : Int) := by omega
      have HSH : Hid (b.size < 2 + n) := hsh
      clear hsh hen
      go_wp2
      go_ret2
      exact ⟨.inl ⟨HSH.out, rfl⟩, _, rfl⟩
    · have d2 : decide ((b.size : Int) < (en : Int)) = false := by simp; omega
      have HSH : Hid (2 + n ≤ b.size) := by show _ ≤ _; omega
      have e0 : (0 : Int) ≤ 2 := by omega
      have e1 : (2 : Int) ≤ (en : Int) := by omega
      have e2 : (en : Int) ≤ (b.size : Int) := by omega
      have HX : Hid (b.extract 2 en = txt ((b.data.toList.drop 2).take n)) := by
        show _ = _
        apply ByteArray.ext
        apply Array.ext'
        rw [Lib.extract_data, hen, Nat.add_sub_cancel_left]
        rfl
      clear hsh hen
      go_wp2
      go_ret2
      refine ⟨.inr ⟨HSH.out, ?_⟩, _, rfl⟩
      rw [← HX.out]
      rfl
end Go.Proofs.YtplfnblpmagbjabGreatDoor
/- wal's entry by its contract. -/
namespace WalMath
open Go.Lib LabMath
theorem parseB_ok {b : List UInt8} {t : Int} {u : Nat} (h1 : atoiAll (cutL 61 (cutL 64 b).2.1).1 = .ok t) (h2 : (cutL 61 (cutL 64 b).2.1).2.1 ≠ []) (h3 : parse16 0 (cutL 61 (cutL 64 b).2.1).2.1 = some u) : parseB b = some ((cutL 64 b).1, t, u) := by
  unfold parseB
  rw [h1]
  dsimp only
  rw [if_neg h2, h3]
theorem parseB_no1 {b : List UInt8} (h1 : ∀ t, atoiAll (cutL 61 (cutL 64 b).2.1).1 ≠ .ok t) : parseB b = none := by
  unfold parseB
  split
  · exact absurd ‹_› (h1 _)
  · rfl
theorem parseB_no2 {b : List UInt8} (h2 : (cutL 61 (cutL 64 b).2.1).2.1 = [] ∨ parse16 0 (cutL 61 (cutL 64 b).2.1).2.1 = none) : parseB b = none := by
  unfold parseB
  split
  · split
    · rfl
    · rcases h2 with h2 | h2
      · exact absurd h2 ‹_›
      · rw [h2]
  · rfl
end WalMath
namespace Go.Proofs.YtplfnblpmagbjabGreatDoor
open Go.Shelf Go.RowKit LabMath WalMath

/-- An entry as a value. -/
def eV (e : E) : Value := .agg #[.string (txt e.1), .int .i64 e.2.1, .int .u64 (e.2.2 : Int)]
def eZ : Value := .agg #[.string ⟨#[]⟩, .int .i64 0, .int .u64 0]
/-- What entry answers. -/
def EntOut (l : List UInt8) (e : Ending) : Prop := (parseB l = none ∧ e = .returned (.tuple #[eZ, .bool false])) ∨ ∃ x, parseB l = some x ∧ e = .returned (.tuple #[eV x, .bool true])

theorem three_here {a : World} {b : Nat} {p q r : Value} {t : TypeId} (h : a.heap[b]? = some (.cells #[p, q, r] t (0, 0))) (u v s : Value) :
    (((a.setCell ⟨b, 0, none⟩ u).setCell ⟨b, 1, none⟩ v).setCell ⟨b, 2, none⟩ s).cell? ⟨b, 0, none⟩ = some u ∧ (((a.setCell ⟨b, 0, none⟩ u).setCell ⟨b, 1, none⟩ v).setCell ⟨b, 2, none⟩ s).cell? ⟨b, 1, none⟩ = some v ∧
    (((a.setCell ⟨b, 0, none⟩ u).setCell ⟨b, 1, none⟩ v).setCell ⟨b, 2, none⟩ s).cell? ⟨b, 2, none⟩ = some s := by
  have h3 := heap_set (heap_set (heap_set h 0 u) 1 v) 2 s
  exact ⟨cells_of h3 0, cells_of h3 1, cells_of h3 2⟩
theorem three_below {w a : World} {b : Nat} (h : Below w.heap.size w a) (hb : w.heap.size ≤ b) (u v s : Value) : Below w.heap.size w (((a.setCell ⟨b, 0, none⟩ u).setCell ⟨b, 1, none⟩ v).setCell ⟨b, 2, none⟩ s) :=
  ((h.setCell hb _).setCell hb _).setCell hb _

set_option maxRecDepth 1000000 in
set_option maxHeartbeats 2000000 in
theorem entry_any (b : ByteArray) (hb : b.size ≤ 100000) (w : World) (hE : EnvS w) :
    Calls Tryz.prog 47 #[.string b] w fun e w' => EntOut b.data.toList e ∧ Below w.heap.size w w' := by
  have hll : b.data.toList.length = b.size := Array.length_toList
  obtain ⟨l, hl⟩ : ∃ l, l = b.data.toList := ⟨_, rfl⟩
  rw [← hl] at hll ⊢
  obtain ⟨W, hW⟩ : ∃ W, W = w.alloc (.cells #[.string ⟨#[]⟩, .int .i64 0, .int .u64 0] 59) := ⟨_, rfl⟩
  have hbW : Below w.heap.size w W := by rw [hW]; exact (Below.refl _ _).alloc (Nat.le_refl _) _
  have hac : W.heap[w.heap.size]? = some (.cells #[.string ⟨#[]⟩, .int .i64 0, .int .u64 0] 59 (0, 0)) := by rw [hW]; exact heap_alloc_new _ _
  have HBW := (show Hid _ from hbW)
  have HAC := (show Hid _ from hac)
  have HE := (show Hid _ from hE)
  have c1 := LabMath.cutL_len 64 l
  have c2 := LabMath.cutL_len 61 (cutL 64 l).2.1
  have HC1 : Hid (∀ z, Calls Tryz.prog 58 #[.string b, .string ⟨#[64]⟩] z fun e w' => e = .returned (.tuple #[.string (txt (cutL 64 l).1), .string (txt (cutL 64 l).2.1), .bool (cutL 64 l).2.2]) ∧ ∃ q, w' = z.drewN q) := fun z => by rw [hl]; exact sCut_64 b z (by omega)
  have HC2 : Hid (∀ z, Calls Tryz.prog 58 #[.string (txt (cutL 64 l).2.1), .string ⟨#[61]⟩] z fun e w' => e = .returned (.tuple #[.string (txt (cutL 61 (cutL 64 l).2.1).1), .string (txt (cutL 61 (cutL 64 l).2.1).2.1), .bool (cutL 61 (cutL 64 l).2.1).2.2]) ∧ ∃ q, w' = z.drewN q) := fun z => sCut_61 (txt (cutL 64 l).2.1) z (by rw [txt_size]; omega)
  have HA : Hid (∀ z, EnvS z → Calls Tryz.prog 66 #[.string (txt (cutL 61 (cutL 64 l).2.1).1)] z fun e w' => ((∃ v, Lib.atoiAll (cutL 61 (cutL 64 l).2.1).1 = .ok v ∧ e = .returned (.tuple #[.int .i64 v, .nilIface])) ∨ ((∀ v, Lib.atoiAll (cutL 61 (cutL 64 l).2.1).1 ≠ .ok v) ∧ ∃ x tp p, e = .returned (.tuple #[.int .i64 x, .iface tp p]))) ∧ Below z.heap.size z w') := fun z hz => atoi_any (txt (cutL 61 (cutL 64 l).2.1).1) (by rw [txt_size]; omega) z hz
  have HU : Hid (∀ z, EnvS z → Calls Tryz.prog 67 #[.string (txt (cutL 61 (cutL 64 l).2.1).2.1), .int .i64 16, .int .i64 64] z fun e w' => (((cutL 61 (cutL 64 l).2.1).2.1 ≠ [] ∧ ∃ v : Nat, parse16 0 (cutL 61 (cutL 64 l).2.1).2.1 = some v ∧ e = .returned (.tuple #[.int .u64 (v : Int), .nilIface])) ∨ (((cutL 61 (cutL 64 l).2.1).2.1 = [] ∨ parse16 0 (cutL 61 (cutL 64 l).2.1).2.1 = none) ∧ ∃ x tp p, e = .returned (.tuple #[.int .u64 x, .iface tp p]))) ∧ Below z.heap.size z w') := fun z hz => parseUint_16 (txt (cutL 61 (cutL 64 l).2.1).2.1) (by rw [txt_size]; omega) z hz
  have HPK : Hid (∀ t u, Lib.atoiAll (cutL 61 (cutL 64 l).2.1).1 = .ok t → (cutL 61 (cutL 64 l).2.1).2.1 ≠ [] → parse16 0 (cutL 61 (cutL 64 l).2.1).2.1 = some u → parseB l = some ((cutL 64 l).1, t, u)) := fun t u h1 h2 h3 => parseB_ok h1 h2 h3
  have HP1 : Hid ((∀ t, Lib.atoiAll (cutL 61 (cutL 64 l).2.1).1 ≠ .ok t) → parseB l = none) := fun h => parseB_no1 h
  have HP2 : Hid (((cutL 61 (cutL 64 l).2.1).2.1 = [] ∨ parse16 0 (cutL 61 (cutL 64 l).2.1).2.1 = none) → parseB l = none) := fun h => parseB_no2 h
  obtain ⟨x1, hx1⟩ : ∃ x, x = (cutL 64 l).1 := ⟨_, rfl⟩
  obtain ⟨x4, hx4⟩ : ∃ x, x = (cutL 61 (cutL 64 l).2.1).1 := ⟨_, rfl⟩
  obtain ⟨x5, hx5⟩ : ∃ x, x = (cutL 61 (cutL 64 l).2.1).2.1 := ⟨_, rfl⟩
  obtain ⟨x6, hx6⟩ : ∃ x, x = (cutL 61 (cutL 64 l).2.1).2.2 := ⟨_, rfl⟩
  obtain ⟨x2, hx2⟩ : ∃ x, x = (cutL 64 l).2.1 := ⟨_, rfl⟩
  obtain ⟨x3, hx3⟩ : ∃ x, x = (cutL 64 l).2.2 := ⟨_, rfl⟩
  rw [← hx1] at HC1 HPK
  rw [← hx4] at HC2 HA HPK HP1
  rw [← hx5] at HC2 HU HPK HP2
  rw [← hx6] at HC2
  rw [← hx2] at HC1 HC2
  rw [← hx3] at HC1
  clear hx1 hx2 hx3 hx4 hx5 hx6 c1 c2 hl hll hb hbW hac hE
  go_enter Tryz.func47, Tryz.ntmps47
  go_upto_region 1 with fail
  rw [← hW]
  clear hW
  go_wp2_with fail
  refine Calls.mono (HC1.out _) ?_
  rintro e w1 ⟨rfl, q1, hw1⟩
  have HB1 : Hid (Below W.heap.size W w1) := by rw [hw1]; exact below_draws (Below.refl _ _) _
  clear hw1 HC1
  dsimp only
  go_wp2_with fail
  refine Calls.mono (HC2.out _) ?_
  rintro e w2 ⟨rfl, q2, hw2⟩
  have HB2 : Hid (Below W.heap.size W w2) := by rw [hw2]; exact below_draws HB1.out _
  have HE2 : Hid (EnvS w2) := (HE.out.below HBW.out HE.out.lt).below HB2.out (by have := HE.out.lt; have := HBW.out.size; omega)
  clear hw2 HC2 HB1
  dsimp only
  go_wp2_with fail
  refine Calls.mono (HA.out _ HE2.out) ?_
  rintro e w3 ⟨ha, hb3⟩
  have HB3 := (show Hid _ from HB2.out.trans (hb3.mono HB2.out.size))
  have HE3 : Hid (EnvS w3) := HE2.out.below hb3 HE2.out.lt
  clear hb3 HA HB2 HE2
  have hcell : ∀ z, Below W.heap.size W z → z.heap[w.heap.size]? = some (.cells #[.string ⟨#[]⟩, .int .i64 0, .int .u64 0] 59 (0, 0)) := fun z hz => (hz.block w.heap.size (blk_lt HAC.out)).trans HAC.out
  have HCE := (show Hid _ from hcell)
  clear hcell
  rcases ha with ⟨t, ht, rfl⟩ | ⟨hno, x, tp, p, rfl⟩
  · have HT := (show Hid _ from ht)
    clear ht
    dsimp only
    go_wp2_with fail
    refine Calls.mono (HU.out _ HE3.out) ?_
    rintro e w4 ⟨hu, hb4⟩
    have HB4 := (show Hid _ from HB3.out.trans (hb4.mono HB3.out.size))
    have hc4 := HCE.out w4 HB4.out
    have f0 : w4.frozen? ⟨w.heap.size, 0, none⟩ = false := by simp [World.frozen?, hc4]
    have f1 : w4.frozen? ⟨w.heap.size, 1, none⟩ = false := by simp [World.frozen?, hc4]
    have f2 : w4.frozen? ⟨w.heap.size, 2, none⟩ = false := by simp [World.frozen?, hc4]
    have z0 : w4.cell? ⟨w.heap.size, 0, none⟩ = some (.string ⟨#[]⟩) := cells_of hc4 0
    have z1 : w4.cell? ⟨w.heap.size, 1, none⟩ = some (.int .i64 0) := cells_of hc4 1
    have z2 : w4.cell? ⟨w.heap.size, 2, none⟩ = some (.int .u64 0) := cells_of hc4 2
    have HC4 := (show Hid _ from hc4)
    clear hb4 HU HB3 HE3
    rcases hu with ⟨hne, u, hu, rfl⟩ | ⟨hno, x, tp, p, rfl⟩
    · have HR : Hid (parseB l = some (x1, t, u)) := HPK.out t u HT.out hne hu
      clear hne hu
      dsimp only
      go_wp2_with fail
      obtain ⟨g0, g1, g2⟩ := three_here HC4.out (.string (txt x1)) (.int .i64 t) (.int .u64 (u : Int))
      exact bodyPost_ret (v := .tuple #[.agg #[.string (txt x1), .int .i64 t, .int .u64 (u : Int)], .bool true]) (by simp [results, Tryz.results47, go_sem, g0, g1, g2]) rfl ⟨.inr ⟨(x1, t, u), HR.out, rfl⟩, three_below (HBW.out.trans (HB4.out.mono HBW.out.size)) (Nat.le_refl _) _ _ _⟩
    · have HR : Hid (parseB l = none) := HP2.out hno
      clear hno
      dsimp only
      go_wp2_with fail
      obtain ⟨g0, g1, g2⟩ := three_here HC4.out (.string ⟨#[]⟩) (.int .i64 0) (.int .u64 0)
      exact bodyPost_ret (v := .tuple #[.agg #[.string ⟨#[]⟩, .int .i64 0, .int .u64 0], .bool false]) (by simp [results, Tryz.results47, go_sem, g0, g1, g2]) rfl ⟨.inl ⟨HR.out, rfl⟩, three_below (HBW.out.trans (HB4.out.mono HBW.out.size)) (Nat.le_refl _) _ _ _⟩
  · have HR : Hid (parseB l = none) := HP1.out hno
    have hc4 := HCE.out w3 HB3.out
    have f0 : w3.frozen? ⟨w.heap.size, 0, none⟩ = false := by simp [World.frozen?, hc4]
    have f1 : w3.frozen? ⟨w.heap.size, 1, none⟩ = false := by simp [World.frozen?, hc4]
    have f2 : w3.frozen? ⟨w.heap.size, 2, none⟩ = false := by simp [World.frozen?, hc4]
    have z0 : w3.cell? ⟨w.heap.size, 0, none⟩ = some (.string ⟨#[]⟩) := cells_of hc4 0
    have z1 : w3.cell? ⟨w.heap.size, 1, none⟩ = some (.int .i64 0) := cells_of hc4 1
    have z2 : w3.cell? ⟨w.heap.size, 2, none⟩ = some (.int .u64 0) := cells_of hc4 2
    have HC4 := (show Hid _ from hc4)
    clear hno
    dsimp only
    go_wp2_with fail
    obtain ⟨g0, g1, g2⟩ := three_here HC4.out (.string ⟨#[]⟩) (.int .i64 0) (.int .u64 0)
    exact bodyPost_ret (v := .tuple #[.agg #[.string ⟨#[]⟩, .int .i64 0, .int .u64 0], .bool false]) (by simp [results, Tryz.results47, go_sem, g0, g1, g2]) rfl ⟨.inl ⟨HR.out, rfl⟩, three_below (HBW.out.trans (HB3.out.mono HBW.out.size)) (Nat.le_refl _) _ _ _⟩
end Go.Proofs.YtplfnblpmagbjabGreatDoor
/- wal's first by its contract. -/
namespace WalMath
open Go.Lib LabMath
theorem parseB_lt {b : List UInt8} {e : E} (h : parseB b = some e) : e.2.2 < 18446744073709551616 := by
  unfold parseB at h
  split at h
  · split at h
    · cases h
    · split at h
      · rename_i u hu
        cases h
        exact parse16_lt _ _ _ (by omega) hu
      · cases h
  · cases h
theorem parseB_len {b : List UInt8} {e : E} (h : parseB b = some e) : e.1.length ≤ b.length := by
  unfold parseB at h
  split at h
  · split at h
    · cases h
    · split at h
      · cases h
        exact (LabMath.cutL_len 64 b).1
      · cases h
  · cases h
theorem parseB_int {b : List UInt8} {e : E} (h : parseB b = some e) : -9223372036854775808 ≤ e.2.1 ∧ e.2.1 ≤ 9223372036854775807 := by
  unfold parseB at h
  split at h
  · rename_i t ht
    split at h
    · cases h
    · split at h
      · cases h
        have := atoiAll_bounds ht
        omega
      · cases h
  · cases h
end WalMath
namespace Go.Proofs.YtplfnblpmagbjabGreatDoor
open Go.Shelf Go.RowKit LabMath WalMath

/-- A right series. -/
def okL (s : List UInt8) : Prop := readC s = 0
/-- What first answers. -/
def FstOut (l : List UInt8) (e : Ending) : Prop :=
  (∃ x, FirstIs okL l x ∧ e = .returned (.tuple #[eV x, .int .i64 ((recL x).length : Int), .bool true])) ∨ ((∀ x, ¬ FirstIs okL l x) ∧ e = .returned (.tuple #[eZ, .int .i64 0, .bool false]))
theorem prefix_iff (b : ByteArray) (r : List UInt8) : (decide ((txt r).size ≤ b.size) && ((b.extract 0 (txt r).size).toList == (txt r).toList)) = true ↔ r <+: b.data.toList := by
  have hll : b.data.toList.length = b.size := Array.length_toList
  rw [Bool.and_eq_true, decide_eq_true_eq, beq_iff_eq, txt_size, ext_take, ByteArray.toList_eq, ByteArray.toList_eq]
  show (r.length ≤ b.size ∧ b.data.toList.take r.length = r) ↔ _
  constructor
  · rintro ⟨_, h⟩
    rw [← h]
    exact List.take_prefix _ _
  · intro h
    refine ⟨by rw [← hll]; exact h.length_le, ?_⟩
    obtain ⟨t, ht⟩ := h
    rw [← ht]
    simp

set_option maxRecDepth 1000000 in
set_option maxHeartbeats 2000000 in
theorem first_any {B : Nat} {ea : Nat → Addr} (w : World) (E : EnvW B ea w) (hB : B ≤ w.heap.size) (b : ByteArray) (hb : b.size ≤ 100000) :
    Calls Tryz.prog 32 #[.string b] w fun e w' => FstOut b.data.toList e ∧ Below w.heap.size w w' := by
  have hll : b.data.toList.length = b.size := Array.length_toList
  obtain ⟨W, hW⟩ : ∃ W, W = w.alloc (.cells #[.string ⟨#[]⟩, .int .i64 0, .int .u64 0] 59) := ⟨_, rfl⟩
  have hbW : Below w.heap.size w W := by rw [hW]; exact (Below.refl _ _).alloc (Nat.le_refl _) _
  have hac : W.heap[w.heap.size]? = some (.cells #[.string ⟨#[]⟩, .int .i64 0, .int .u64 0] 59 (0, 0)) := by rw [hW]; exact heap_alloc_new _ _
  have HBW := (show Hid _ from hbW)
  have HE := (show Hid _ from E)
  have HCE : Hid (∀ z, Below W.heap.size W z → z.heap[w.heap.size]? = some (.cells #[.string ⟨#[]⟩, .int .i64 0, .int .u64 0] 59 (0, 0))) := fun z hz => (hz.block w.heap.size (blk_lt hac)).trans hac
  have HF := (show Hid _ from firstBody_any b hb W)
  have HNO1 : Hid (b.size < 2 + lenOf b.data.toList → ∀ x, ¬ FirstIs okL b.data.toList x) := fun h x hx => by
    have := (first_parse lab_is hx).1
    omega
  have HPR : Hid (∀ x, FirstIs okL b.data.toList x → parseB ((b.data.toList.drop 2).take (lenOf b.data.toList)) = some x) := fun x hx => (first_parse lab_is hx).2.1
  have HPX : Hid (∀ r, (decide ((txt r).size ≤ b.size) && ((b.extract 0 (txt r).size).toList == (txt r).toList)) = true ↔ r <+: b.data.toList) := prefix_iff b
  obtain ⟨l, hl⟩ : ∃ l, l = b.data.toList := ⟨_, rfl⟩
  rw [← hl] at HF HNO1 HPR HPX hll ⊢
  obtain ⟨bd, hbd⟩ : ∃ bd, bd = (l.drop 2).take (lenOf l) := ⟨_, rfl⟩
  rw [← hbd] at HF HPR
  have hbl : bd.length ≤ 100000 := by
    rw [hbd, List.length_take, List.length_drop]
    omega
  have HEN : Hid (∀ z, EnvS z → Calls Tryz.prog 47 #[.string (txt bd)] z fun e w' => EntOut bd e ∧ Below z.heap.size z w') := fun z hz => entry_any (txt bd) (by rw [txt_size]; exact hbl) z hz
  have HBL := (show Hid _ from hbl)
  clear hl hbd hbl hll hac hbW E hb
  go_enter Tryz.func32, Tryz.ntmps32
  go_upto_region 1 with fail
  rw [← hW]
  clear hW
  go_wp2_with fail
  refine Calls.mono HF.out ?_
  rintro e w1 ⟨hfb, q1, hw1⟩
  have HB1 : Hid (Below W.heap.size W w1) := by rw [hw1]; exact below_draws (Below.refl _ _) _
  clear hw1 HF
  rcases hfb with ⟨hsh, rfl⟩ | ⟨hsh, rfl⟩
  · have HR : Hid (∀ x, ¬ FirstIs okL l x) := HNO1.out hsh
    have hc4 := HCE.out w1 HB1.out
    have f0 : w1.frozen? ⟨w.heap.size, 0, none⟩ = false := by simp [World.frozen?, hc4]
    have f1 : w1.frozen? ⟨w.heap.size, 1, none⟩ = false := by simp [World.frozen?, hc4]
    have f2 : w1.frozen? ⟨w.heap.size, 2, none⟩ = false := by simp [World.frozen?, hc4]
    have z0 : w1.cell? ⟨w.heap.size, 0, none⟩ = some (.string ⟨#[]⟩) := cells_of hc4 0
    have z1 : w1.cell? ⟨w.heap.size, 1, none⟩ = some (.int .i64 0) := cells_of hc4 1
    have z2 : w1.cell? ⟨w.heap.size, 2, none⟩ = some (.int .u64 0) := cells_of hc4 2
    have HC4 := (show Hid _ from hc4)
    clear hsh
    dsimp only
    go_wp2_with fail
    obtain ⟨g0, g1, g2⟩ := three_here HC4.out (.string ⟨#[]⟩) (.int .i64 0) (.int .u64 0)
    exact bodyPost_ret (v := .tuple #[.agg #[.string ⟨#[]⟩, .int .i64 0, .int .u64 0], .int .i64 0, .bool false]) (by simp [results, Tryz.results32, go_sem, g0, g1, g2]) rfl ⟨.inr ⟨HR.out, rfl⟩, three_below (HBW.out.trans (HB1.out.mono HBW.out.size)) (Nat.le_refl _) _ _ _⟩
  · have HE1 : Hid (EnvW B ea w1) := (HE.out.below HBW.out hB).below HB1.out (Nat.le_trans hB HBW.out.size)
    clear hsh
    dsimp only
    go_wp2_with fail
    refine Calls.mono (HEN.out _ HE1.out.str) ?_
    rintro e w2 ⟨hen, hb2⟩
    have HB2 := (show Hid _ from HB1.out.trans (hb2.mono HB1.out.size))
    have hc2 := HCE.out w2 HB2.out
    have HE2 : Hid (EnvW B ea w2) := HE1.out.below hb2 (Nat.le_trans hB (Nat.le_trans HBW.out.size HB1.out.size))
    clear hb2 HEN
    have hW3 : ∀ C, Below W.heap.size W (w2.alloc (.cells C 59)) := fun C => HB2.out.alloc HB2.out.size _
    rcases hen with ⟨hpn, rfl⟩ | ⟨x, hpx, rfl⟩
    · have HR : Hid (∀ x, ¬ FirstIs okL l x) := fun x hx => by
        have := HPR.out x hx
        rw [hpn] at this
        cases this
      clear hpn
      unfold eZ
      dsimp only
      obtain ⟨W3, hW3e⟩ : ∃ W3, W3 = w2.alloc (.cells #[.string ⟨#[]⟩, .int .i64 0, .int .u64 0] 59) := ⟨_, rfl⟩
      have HB3 : Hid (Below W.heap.size W W3) := by rw [hW3e]; exact hW3 _
      have hcR := HCE.out W3 HB3.out
      have f0 : W3.frozen? ⟨w.heap.size, 0, none⟩ = false := by simp [World.frozen?, hcR]
      have f1 : W3.frozen? ⟨w.heap.size, 1, none⟩ = false := by simp [World.frozen?, hcR]
      have f2 : W3.frozen? ⟨w.heap.size, 2, none⟩ = false := by simp [World.frozen?, hcR]
      have z0 : W3.cell? ⟨w.heap.size, 0, none⟩ = some (.string ⟨#[]⟩) := cells_of hcR 0
      have z1 : W3.cell? ⟨w.heap.size, 1, none⟩ = some (.int .i64 0) := cells_of hcR 1
      have z2 : W3.cell? ⟨w.heap.size, 2, none⟩ = some (.int .u64 0) := cells_of hcR 2
      have HC4 := (show Hid _ from hcR)
      clear hcR
      go_upto_region 6 with fail
      rw [← hW3e]
      clear hW3e hW3 HE2 HE1
      go_wp2_with fail
      obtain ⟨g0, g1, g2⟩ := three_here HC4.out (.string ⟨#[]⟩) (.int .i64 0) (.int .u64 0)
      exact bodyPost_ret (v := .tuple #[.agg #[.string ⟨#[]⟩, .int .i64 0, .int .u64 0], .int .i64 0, .bool false]) (by simp [results, Tryz.results32, go_sem, g0, g1, g2]) rfl ⟨.inr ⟨HR.out, rfl⟩, three_below (HBW.out.trans (HB3.out.mono HBW.out.size)) (Nat.le_refl _) _ _ _⟩
    · obtain ⟨s, t, u⟩ := x
      have hu := parseB_lt hpx
      have hsl := parseB_len hpx
      have hti := parseB_int hpx
      dsimp only at hu hsl hti
      unfold eV
      dsimp only
      obtain ⟨W3, hW3e⟩ : ∃ W3, W3 = w2.alloc (.cells #[.string (txt s), .int .i64 t, .int .u64 (u : Int)] 59) := ⟨_, rfl⟩
      have HB3 : Hid (Below W.heap.size W W3) := by rw [hW3e]; exact hW3 _
      have hb23 : Below w2.heap.size w2 W3 := by rw [hW3e]; exact (Below.refl _ _).alloc (Nat.le_refl _) _
      have hec : W3.heap[w2.heap.size]? = some (.cells #[.string (txt s), .int .i64 t, .int .u64 (u : Int)] 59 (0, 0)) := by rw [hW3e]; exact heap_alloc_new _ _
      have y0 : W3.cell? ⟨w2.heap.size, 0, none⟩ = some (.string (txt s)) := cells_of hec 0
      have y1 : W3.cell? ⟨w2.heap.size, 1, none⟩ = some (.int .i64 t) := cells_of hec 1
      have y2 : W3.cell? ⟨w2.heap.size, 2, none⟩ = some (.int .u64 (u : Int)) := cells_of hec 2
      have HB2' : Hid (B ≤ w2.heap.size) := Nat.le_trans hB (Nat.le_trans HBW.out.size HB2.out.size)
      have HE3 : Hid (EnvW B ea W3) := HE2.out.below hb23 HB2'.out
      have HEC := (show Hid _ from hec)
      have hsz3 : w2.heap.size ≤ W3.heap.size := hb23.size
      have HCK := (show Hid _ from lgcheck_any W3 HE3.out (Nat.le_trans HB2'.out hsz3) (txt s) (by rw [txt_size]; have := HBL.out; omega) t (u : Int))
      have HPA : Hid (∀ x, FirstIs okL l x → x = (s, t, u)) := fun x hx => by
        have := HPR.out x hx
        rw [hpx] at this
        exact (Option.some.inj this).symm
      have HHU : Hid (u < 18446744073709551616) := hu
      clear hec hb23 hsz3 hpx hsl hti hu
      go_upto_region 5 with fail
      rw [← hW3e]
      clear hW3e hW3
      go_wp2_with fail
      refine Calls.mono HCK.out ?_
      rintro e w4 ⟨v, rfl, hf, hb4⟩
      have HB4 := (show Hid _ from HB3.out.trans (hb4.mono HB3.out.size))
      have hce4 := (hb4.block w2.heap.size (blk_lt HEC.out)).trans HEC.out
      have HE4 : Hid (EnvW B ea w4) := HE3.out.below hb4 (Nat.le_trans HB2'.out (Nat.le_of_lt (blk_lt HEC.out)))
      have HZ4 : Hid (B ≤ w4.heap.size) := Nat.le_trans HB2'.out (Nat.le_trans (Nat.le_of_lt (blk_lt HEC.out)) hb4.size)
      have hcR := HCE.out w4 HB4.out
      have f0 : w4.frozen? ⟨w.heap.size, 0, none⟩ = false := by simp [World.frozen?, hcR]
      have f1 : w4.frozen? ⟨w.heap.size, 1, none⟩ = false := by simp [World.frozen?, hcR]
      have f2 : w4.frozen? ⟨w.heap.size, 2, none⟩ = false := by simp [World.frozen?, hcR]
      have z0 : w4.cell? ⟨w.heap.size, 0, none⟩ = some (.string ⟨#[]⟩) := cells_of hcR 0
      have z1 : w4.cell? ⟨w.heap.size, 1, none⟩ = some (.int .i64 0) := cells_of hcR 1
      have z2 : w4.cell? ⟨w.heap.size, 2, none⟩ = some (.int .u64 0) := cells_of hcR 2
      have HC4 := (show Hid _ from hcR)
      clear hcR
      have x0 : w4.cell? ⟨w2.heap.size, 0, none⟩ = some (.string (txt s)) := cells_of hce4 0
      have x1 : w4.cell? ⟨w2.heap.size, 1, none⟩ = some (.int .i64 t) := cells_of hce4 1
      have x2 : w4.cell? ⟨w2.heap.size, 2, none⟩ = some (.int .u64 (u : Int)) := cells_of hce4 2
      have HCE4 := (show Hid _ from hce4)
      clear hb4 y0 y1 y2 HCK hce4
      have hll' : (txt s).data.toList = s := by rfl
      rw [hll'] at hf
      dsimp only
      rcases (by have := chk_nonneg s t; omega : 0 < chkC s t ∨ chkC s t = 0) with h0 | h0
      · have HR : Hid (∀ x, ¬ FirstIs okL l x) := fun x hx => by
          have e := HPA.out x hx
          subst e
          have hz : chkC s t = 0 := chk_zero.2 ⟨hx.1.lab, hx.1.lo, hx.1.hi⟩
          omega
        obtain hn | ⟨ti, p, rfl⟩ := hf.iface
        · exfalso
          rcases hf with ⟨_, h⟩ | ⟨m, _, h, _⟩ | ⟨pb, m, _, h, _⟩
          · omega
          · rw [hn] at h; cases h
          · rw [hn] at h; cases h
        · clear hf h0
          go_wp2_with fail
          obtain ⟨g0, g1, g2⟩ := three_here HC4.out (.string ⟨#[]⟩) (.int .i64 0) (.int .u64 0)
          exact bodyPost_ret (v := .tuple #[.agg #[.string ⟨#[]⟩, .int .i64 0, .int .u64 0], .int .i64 0, .bool false]) (by simp [results, Tryz.results32, go_sem, g0, g1, g2]) rfl ⟨.inr ⟨HR.out, rfl⟩, three_below (HBW.out.trans (HB4.out.mono HBW.out.size)) (Nat.le_refl _) _ _ _⟩
      · obtain rfl := hf.none h0
        obtain ⟨hr0, ht0, ht1⟩ := chk_zero.1 h0
        have hok : OkE okL (s, t, u) := ⟨hr0, ht0, ht1, HHU.out⟩
        have hsl := (lab_is s hr0).2
        have HRC : Hid (Calls Tryz.prog 24 #[.string (txt s), .agg #[.int .i64 t, .int .u64 (u : Int)]] w4 fun e w' => e = .returned (.string (txt (recL (s, t, u)))) ∧ Below w4.heap.size w4 w') := record_any w4 HE4.out HZ4.out (txt s) (by rw [txt_size]; exact hsl) t ht0 ht1 u HHU.out
        have HOK := (show Hid _ from hok)
        clear hf h0 hr0 ht0 ht1 hok hsl
        go_wp2_with fail
        refine Calls.mono HRC.out ?_
        rintro e w5 ⟨rfl, hb5⟩
        have HB5 := (show Hid _ from HB4.out.trans (hb5.mono HB4.out.size))
        have hce5 := (hb5.block w2.heap.size (blk_lt HCE4.out)).trans HCE4.out
        clear hb5 HRC f0 f1 f2 z0 z1 z2 HC4 x0 x1 x2
        have hcR := HCE.out w5 HB5.out
        have f0 : w5.frozen? ⟨w.heap.size, 0, none⟩ = false := by simp [World.frozen?, hcR]
        have f1 : w5.frozen? ⟨w.heap.size, 1, none⟩ = false := by simp [World.frozen?, hcR]
        have f2 : w5.frozen? ⟨w.heap.size, 2, none⟩ = false := by simp [World.frozen?, hcR]
        have z0 : w5.cell? ⟨w.heap.size, 0, none⟩ = some (.string ⟨#[]⟩) := cells_of hcR 0
        have z1 : w5.cell? ⟨w.heap.size, 1, none⟩ = some (.int .i64 0) := cells_of hcR 1
        have z2 : w5.cell? ⟨w.heap.size, 2, none⟩ = some (.int .u64 0) := cells_of hcR 2
        have HC4 := (show Hid _ from hcR)
        clear hcR
        have x0 : w5.cell? ⟨w2.heap.size, 0, none⟩ = some (.string (txt s)) := cells_of hce5 0
        have x1 : w5.cell? ⟨w2.heap.size, 1, none⟩ = some (.int .i64 t) := cells_of hce5 1
        have x2 : w5.cell? ⟨w2.heap.size, 2, none⟩ = some (.int .u64 (u : Int)) := cells_of hce5 2
        clear hce5
        dsimp only
        have HPF := (show Hid _ from sPrefix_any b (txt (recL (s, t, u))) w5)
        have HPI := (show Hid _ from HPX.out (recL (s, t, u)))
        obtain ⟨pb, hpb⟩ : ∃ pb, pb = (decide ((txt (recL (s, t, u))).size ≤ b.size) && ((b.extract 0 (txt (recL (s, t, u))).size).toList == (txt (recL (s, t, u))).toList)) := ⟨_, rfl⟩
        rw [← hpb] at HPF HPI
        have hrs : (txt (recL (s, t, u))).size = (recL (s, t, u)).length := txt_size _
        obtain ⟨rt, hrt⟩ : ∃ rt, rt = txt (recL (s, t, u)) := ⟨_, rfl⟩
        rw [← hrt] at HPF hrs ⊢
        have HRS := (show Hid _ from hrs)
        clear hpb hrt hrs
        go_wp2_with fail
        refine Calls.mono HPF.out ?_
        rintro e w6 ⟨rfl, hw6⟩
        have hw6' := hw6.symm
        subst hw6'
        clear HPF
        dsimp only
        cases pb with
        | false =>
          have HR : Hid (∀ x, ¬ FirstIs okL l x) := fun x hx => by
            have e := HPA.out x hx
            subst e
            have := HPI.out.2 hx.2
            cases this
          go_wp2_with fail
          obtain ⟨g0, g1, g2⟩ := three_here HC4.out (.string ⟨#[]⟩) (.int .i64 0) (.int .u64 0)
          exact bodyPost_ret (v := .tuple #[.agg #[.string ⟨#[]⟩, .int .i64 0, .int .u64 0], .int .i64 0, .bool false]) (by simp [results, Tryz.results32, go_sem, g0, g1, g2]) rfl ⟨.inr ⟨HR.out, rfl⟩, three_below (HBW.out.trans (HB5.out.mono HBW.out.size)) (Nat.le_refl _) _ _ _⟩
        | true =>
          have HR : Hid (FirstIs okL l (s, t, u)) := ⟨HOK.out, HPI.out.1 rfl⟩
          go_wp2_with fail
          obtain ⟨g0, g1, g2⟩ := three_here HC4.out (.string (txt s)) (.int .i64 t) (.int .u64 (u : Int))
          exact bodyPost_ret (v := .tuple #[.agg #[.string (txt s), .int .i64 t, .int .u64 (u : Int)], .int .i64 (rt.size : Int), .bool true]) (by simp [results, Tryz.results32, go_sem, g0, g1, g2]) rfl ⟨.inl ⟨(s, t, u), HR.out, by rw [HRS.out]; rfl⟩, three_below (HBW.out.trans (HB5.out.mono HBW.out.size)) (Nat.le_refl _) _ _ _⟩
end Go.Proofs.YtplfnblpmagbjabGreatDoor
/- wal's Read by its contract. -/
namespace Go.Proofs.YtplfnblpmagbjabGreatDoor
open Go.Shelf Go.RowKit LabMath WalMath

/-- Entries as cells. -/
def entCells (L : List E) : List Value := L.flatMap fun e => [.string (txt e.1), .int .i64 e.2.1, .int .u64 (e.2.2 : Int)]
theorem entCells_snoc (L : List E) (x : E) : entCells L ++ [.string (txt x.1), .int .i64 x.2.1, .int .u64 (x.2.2 : Int)] = entCells (L ++ [x]) := by simp [entCells]
theorem Tryz.infoEntry : (Tryz.prog.info? 59).map (fun i => (i.zero, i.size, i.bytes)) = some (some (.agg #[.string ⟨#[]⟩, .int .i64 0, .int .u64 0]), 3, 32) := by kernel_rfl
theorem recs_len (L : List E) : L.length ≤ (recs L).length := by
  induction L with
  | nil => simp [recs]
  | cons x L ih =>
    rw [recs, List.length_append, recL_length, List.length_cons]
    omega
/-- What Read answers. -/
def LogOut (w w' : World) (l : List UInt8) (e : Ending) : Prop :=
  ∃ (L : List E) (v : Value), Reads okL l L ∧ e = .returned (.tuple #[v, .int .i64 ((recs L).length : Int)]) ∧ w'.ownsRow w.heap.size 59 3 v L.length (entCells L)

set_option maxRecDepth 1000000 in
set_option maxHeartbeats 2000000 in
theorem read_any {B : Nat} {ea : Nat → Addr} (w : World) (E0 : EnvW B ea w) (hB : B ≤ w.heap.size) (b : ByteArray) (hb : b.size ≤ 100000) :
    Calls Tryz.prog 19 #[.string b] w fun e w' => LogOut w w' b.data.toList e ∧ Below w.heap.size w w' := by
  have hll : b.data.toList.length = b.size := Array.length_toList
  have HE := (show Hid _ from E0)
  have HX : Hid (∀ n, b.extract n b.size = txt (b.data.toList.drop n)) := fun n => ext_drop b n
  obtain ⟨l, hl⟩ : ∃ l, l = b.data.toList := ⟨_, rfl⟩
  rw [← hl] at hll HX ⊢
  have HLL := (show Hid _ from hll)
  clear hl hll E0
  go_enter Tryz.func19, Tryz.ntmps19
  go_wp2_with fail
  go_loopw [4, 5] (fun sv n wr => ∃ (L : List E) (v : Value) (k : Nat), v = sv ∧ n = .int .i64 (k : Int) ∧ Hid (k = (recs L).length ∧ (∀ e, e ∈ L → OkE okL e) ∧ recs L <+: l) ∧ wr.ownsRow w.heap.size 59 3 v L.length (entCells L) ∧ Below w.heap.size w wr) (fun _ n _ => b.size - (intOf n).toNat)
  case atStart => exact ⟨[], _, 0, rfl, rfl, ⟨rfl, fun e he => (by cases he), List.nil_prefix⟩, ⟨rfl, .inl ⟨rfl, rfl⟩⟩, Below.refl _ _⟩
  case round =>
    obtain ⟨L, v, k, rfl, rfl, hh, hown, hbr⟩ := hrel
    obtain ⟨hk, hall, hpre⟩ := hh.out
    have hkl : k ≤ b.size := by
      have := hpre.length_le
      have := HLL.out
      omega
    have hLk := recs_len L
    have hL1 : L.length ≤ 100000 := by omega
    have k0 : (0 : Int) ≤ (k : Int) := by omega
    have k1 : (k : Int) ≤ (b.size : Int) := by omega
    have HFI : Hid (Calls Tryz.prog 32 #[.string (txt (l.drop k))] wr fun e w' => FstOut (l.drop k) e ∧ Below wr.heap.size wr w') := first_any wr (HE.out.below hbr hB) (Nat.le_trans hB hbr.size) (txt (l.drop k)) (by rw [txt_size, List.length_drop]; have := HLL.out; omega)
    have HXK : Hid (b.extract k b.size = txt (l.drop k)) := HX.out k
    have HH := (show Hid _ from And.intro hk (And.intro hall hpre))
    have HOW := (show Hid _ from hown)
    have HBR := (show Hid _ from hbr)
    clear hh hk hall hpre hown hbr hLk
    go_wp2_with fail
    rw [HXK.out]
    refine Calls.mono HFI.out ?_
    rintro e w1 ⟨hfo, hb1⟩
    have HB1 := (show Hid _ from HBR.out.trans (hb1.mono HBR.out.size))
    have ho1 : w1.ownsRow w.heap.size 59 3 v L.length (entCells L) := own_same HOW.out fun g hg => hb1.block g (own_blk HOW.out hg).2.1
    have HO1 : Hid (w1.ownsRow w.heap.size 59 3 v L.length (entCells L)) := ho1
    clear hb1 HFI HXK ho1 HOW HBR
    rcases hfo with ⟨x, hx, rfl⟩ | ⟨hno, rfl⟩
    · obtain ⟨s, t, u⟩ := x
      unfold eV
      dsimp only
      have hrl := recL_length (s, t, u)
      obtain ⟨m, hm⟩ : ∃ m, m = (recL (s, t, u)).length := ⟨_, rfl⟩
      rw [← hm] at hrl ⊢
      have hkm : k + m ≤ b.size := by
        have h1 := hx.2.length_le
        rw [List.length_drop, ← hm] at h1
        have := HLL.out
        omega
      have HNX : Hid (k + m = (recs (L ++ [(s, t, u)])).length ∧ (∀ e, e ∈ L ++ [(s, t, u)] → OkE okL e) ∧ recs (L ++ [(s, t, u)]) <+: l) := by
        obtain ⟨h1, h2, h3⟩ := HH.out
        refine ⟨?_, ?_, ?_⟩
        · rw [recs_app, List.length_append, ← h1, hm]
          simp [recs]
        · intro e he
          rcases List.mem_append.1 he with he | he
          · exact h2 e he
          · rw [List.mem_singleton] at he
            rw [he]
            exact hx.1
        · obtain ⟨r, hr⟩ := h3
          obtain ⟨r2, hr2⟩ := hx.2
          refine ⟨r2, ?_⟩
          rw [recs_app]
          have e1 : l.drop k = r := by rw [← hr, h1, List.drop_left]
          rw [e1] at hr2
          rw [← hr, ← hr2]
          simp [recs]
      have hm0 : 0 < m := by omega
      obtain ⟨W, hW⟩ : ∃ W, W = w1.alloc (.cells #[.string (txt s), .int .i64 t, .int .u64 (u : Int)] 59) := ⟨_, rfl⟩
      have hWc : W.heap[w1.heap.size]? = some (.cells #[.string (txt s), .int .i64 t, .int .u64 (u : Int)] 59 (0, 0)) := by rw [hW]; exact heap_alloc_new _ _
      have a0 : W.cell? ⟨w1.heap.size, 0, none⟩ = some (.string (txt s)) := cells_of hWc 0
      have a1 : W.cell? ⟨w1.heap.size, 1, none⟩ = some (.int .i64 t) := cells_of hWc 1
      have a2 : W.cell? ⟨w1.heap.size, 2, none⟩ = some (.int .u64 (u : Int)) := cells_of hWc 2
      have hOW : W.ownsRow w.heap.size 59 3 v L.length (entCells L) := by rw [hW]; exact World.ownsRow.alloc HO1.out _
      have HBW : Hid (Below w.heap.size w W) := by rw [hW]; exact HB1.out.alloc HB1.out.size _
      have hsW : w.heap.size ≤ W.heap.size := HBW.out.size
      have HOW : Hid (W.ownsRow w.heap.size 59 3 v L.length (entCells L)) := hOW
      have hownA : (W.alloc (.cells #[.string (txt s), .int .i64 t, .int .u64 (u : Int)] 59)).ownsRow w.heap.size 59 3 v L.length (entCells L) := hOW.alloc _
      obtain ⟨i0, hi, hz0, hz1, hz2⟩ := info_parts Tryz.infoEntry
      have hkm1 : (k : Int) + (m : Int) ≤ 100000 := by omega
      have hkm0 : (0 : Int) ≤ (k : Int) + (m : Int) := by omega
      clear hWc hx hrl hm HO1 HB1 HH
      go_upto_region 4 with fail
      rw [← hW]
      clear hW
      go_wp2_with (at_builtin; refine wpList_append_lies _ rfl _ _ 46 rfl w.heap.size 59 i0 (.agg #[.string ⟨#[]⟩, .int .i64 0, .int .u64 0]) 3 32 Tryz.underlying46 hi hz0 hz1 hz2 rfl (by decide) _ _ _ rfl hownA ⟨W.heap.size, 0, none⟩ 1 1 [.string (txt s), .int .i64 t, .int .u64 (u : Int)] rfl rfl (World.news_of_block (heap_alloc_new W _)) ?c2 (by omega) ?c3 ?c4 ?c5 (W.heap.size + 1) (by simp) ?_)
      case c2 => intro q hq; simp at hq; rcases hq with rfl | rfl | rfl <;> rfl
      case c3 => unfold maxLen; omega
      case c4 => omega
      case c5 => first | omega | (simp; omega)
      intro g1 cap1 w2 hown1 hgrow hat hlt1
      rw [entCells_snoc L (s, t, u)] at hown1
      have hle : (L ++ [(s, t, u)]).length = L.length + 1 := by simp
      have HB2 : Hid (Below w.heap.size w w2) := grown_far HBW.out HOW.out hgrow
      have HO2 : Hid (w2.ownsRow w.heap.size 59 3 (.slice (some ⟨g1, 0, none⟩) (L.length + 1) cap1) (L ++ [(s, t, u)]).length (entCells (L ++ [(s, t, u)]))) := by rw [hle]; exact hown1
      clear hown1 hgrow hat hlt1 hownA hle hOW
      go_wp2
      go_roundw
      case rel => exact ⟨L ++ [(s, t, u)], _, k + m, rfl, by go_num, HNX.out, HO2.out, HB2.out⟩
      case measure => simp [intOf] <;> omega
    · have HR : Hid (Reads okL l L) := by
        obtain ⟨h1, h2, h3⟩ := HH.out
        exact ⟨h2, h3, by rw [← h1]; exact hno⟩
      have HKK : Hid (k = (recs L).length) := HH.out.1
      clear hno
      unfold eZ
      dsimp only
      go_wp2
      go_ret2
      refine ⟨⟨L, v, HR.out, by rw [← HKK.out]; rfl, ?_⟩, ?_⟩
      · exact World.ownsRow.alloc HO1.out _
      · exact HB1.out.alloc HB1.out.size _
end Go.Proofs.YtplfnblpmagbjabGreatDoor
/- wal's NewDisk, Cut, On, Power, Bytes, Clear, keep and Recover by contracts. -/
namespace Go.Proofs.YtplfnblpmagbjabGreatDoor
open Go.Shelf Go.RowKit LabMath WalMath

theorem DkF.stay {w wr w' : World} {db : Nat} {d d' : Dk} {F : List Nat} {v v' : Value} (h : DkF w wr db d F) (hF : F = db :: v.ownBlock.toList) (h1 : DiskAt w' w.heap.size db v' d') (hv : v'.ownBlock = v.ownBlock) (k : Kept (db :: v.ownBlock.toList) wr w') : DkF w w' db d' F ∧ Kept F wr w' := by
  subst hF
  exact ⟨⟨⟨v', by rw [hv], h1⟩, h.bel.trans (k.below h.bel.size fun x hx => (h.mem hx).1)⟩, k⟩
theorem bytesAt_conv (w : World) (base : Nat) (hb : base ≤ w.heap.size) (s : ByteArray) (hs : s.size ≤ 1000000) :
    BytesAt (Lib.bytesWorld w 5 s) base (.slice (some ⟨w.heap.size, 0, none⟩) s.size (grownCap w s.size 0 5)) s.data.toList := by
  have hll : s.data.toList.length = s.size := Array.length_toList
  have hge := grownCap_ge w s.size 0 5
  have hcs : (Lib.bytesCells w 5 s).size = grownCap w s.size 0 5 := by
    unfold Lib.bytesCells
    rw [Array.size_append, Array.size_map, Array.size_replicate]
    show s.size + _ = _
    omega
  refine ⟨w.heap.size, _, _, _, by rw [hll], hb, Lib.bytesWorld_at_new w 5 s, .inr (Nat.le_refl _), by rw [hll]; exact hge, grownCap_le_maxLen w s.size 0 5 (by unfold maxLen; omega), hcs, ?_⟩
  unfold Lib.bytesCells byteCells
  rw [Array.toList_append, Array.toList_map]
  rw [show s.data.toList.length = (s.data.toList.map fun b => Value.int .u8 (b.toNat : Int)).length by simp]
  exact List.take_left

set_option maxRecDepth 1000000 in
theorem dk_new (w w1 : World) (hw : Below w.heap.size w w1) (b : ByteArray) (hb : b.size ≤ 65536) :
    Calls Tryz.prog 5 #[.string b] w1 fun e w' => ∃ db F, e = .returned (.tuple #[.pointer (some ⟨db, 0, none⟩), .nilIface]) ∧ DkF w w' db ⟨b.data.toList, false, false, 0⟩ F ∧ Below w1.heap.size w1 w' ∧ ∀ x, x ∈ F → w1.heap.size ≤ x := by
  have hcv := Lib.run_convert_string_bytes (P := Tryz.prog) w1 9 61 5 b (u := .string) Tryz.underlying9 Tryz.underlying61 Tryz.underlying5
  have hba := bytesAt_conv w1 w.heap.size hw.size b (by omega)
  have hbb : Below w1.heap.size w1 (Lib.bytesWorld w1 5 b) := Lib.bytesWorld_below _ _ _
  obtain ⟨cap, hcap⟩ : ∃ cap, cap = grownCap w1 b.size 0 5 := ⟨_, rfl⟩
  obtain ⟨W, hW⟩ : ∃ W, W = Lib.bytesWorld w1 5 b := ⟨_, rfl⟩
  rw [← hcap, ← hW] at hcv hba
  rw [← hW] at hbb
  have HBA : Hid (BytesAt W w.heap.size (.slice (some ⟨w1.heap.size, 0, none⟩) b.size cap) b.data.toList) := hba
  have HBB := (show Hid _ from hbb)
  have HW := (show Hid _ from hw)
  have d1 : decide ((65536 : Int) < (b.size : Int)) = false := by simp; omega
  clear hcap hW hba hbb hw
  go_enter Tryz.func5, Tryz.ntmps5
  go_wp2
  go_ret2
  have hbl : BytesAt (W.alloc (.cells #[.slice (some ⟨w1.heap.size, 0, none⟩) b.size cap, .bool false, .bool false, .int .i64 0] 63)) w.heap.size (.slice (some ⟨w1.heap.size, 0, none⟩) b.size cap) b.data.toList := HBA.out.same fun g hg => heap_alloc_old _ _ (by
    obtain ⟨g', e, _, h3⟩ := HBA.out.blk
    rw [hg] at e
    cases e
    exact h3)
  refine ⟨W.heap.size, [W.heap.size, w1.heap.size], rfl, ⟨⟨_, rfl, heap_alloc_new _ _, hbl, Nat.le_trans HW.out.size HBB.out.size, by simp⟩, ?_⟩, HBB.out.alloc HBB.out.size _, fun x hx => ?_⟩
  · have := HW.out.trans (HBB.out.mono HW.out.size)
    exact this.alloc this.size _
  · simp at hx
    rcases hx with rfl | rfl
    · exact HBB.out.size
    · exact Nat.le_refl _

set_option maxRecDepth 1000000 in
theorem dk_power (w w1 : World) (db : Nat) (d : Dk) (F : List Nat) (h : DkF w w1 db d F) :
    Calls Tryz.prog 18 #[.pointer (some ⟨db, 0, none⟩)] w1 fun e w' => e = .returned (.bool (!d.off)) ∧ w' = w1 := by
  obtain ⟨v, rfl, h1⟩ := h.ex
  have z1 : w1.cell? ⟨db, 1, none⟩ = some (.bool d.off) := cells_of h1.blk 1
  obtain ⟨o, ho⟩ : ∃ o, o = d.off := ⟨_, rfl⟩
  rw [← ho] at z1 ⊢
  clear h h1 ho
  go_enter Tryz.func18, Tryz.ntmps18
  go_wp2
  go_ret
  exact ⟨rfl, rfl⟩

set_option maxRecDepth 1000000 in
theorem dk_bytes (w w1 : World) (db : Nat) (d : Dk) (F : List Nat) (h : DkF w w1 db d F) :
    Calls Tryz.prog 17 #[.pointer (some ⟨db, 0, none⟩)] w1 fun e w' => e = .returned (.string (txt d.L)) ∧ w' = w1 := by
  obtain ⟨v, rfl, h1⟩ := h.ex
  have z0 : w1.cell? ⟨db, 0, none⟩ = some v := cells_of h1.blk 0
  have hcv := h1.bytes.text
  obtain ⟨g, cap, cur, mk, rfl, _⟩ := h1.bytes
  obtain ⟨n, hn⟩ : ∃ n, n = d.L.length := ⟨_, rfl⟩
  rw [← hn] at z0 hcv
  obtain ⟨t, ht⟩ : ∃ t, t = txt d.L := ⟨_, rfl⟩
  rw [← ht] at hcv ⊢
  clear h h1 hn ht
  go_enter Tryz.func17, Tryz.ntmps17
  go_wp2
  go_ret
  exact ⟨rfl, rfl⟩

set_option maxRecDepth 1000000 in
theorem dk_on (w w1 : World) (db : Nat) (d : Dk) (F : List Nat) (h : DkF w w1 db d F) :
    Calls Tryz.prog 12 #[.pointer (some ⟨db, 0, none⟩)] w1 fun e w' => e = .returned (.tuple #[]) ∧ DkF w w' db ⟨d.L, false, false, 0⟩ F ∧ Kept F w1 w' := by
  obtain ⟨v, rfl, h1⟩ := id h.ex
  have z1 : w1.cell? ⟨db, 1, none⟩ = some (.bool d.off) := cells_of h1.blk 1
  have z2 : w1.cell? ⟨db, 2, none⟩ = some (.bool d.waits) := cells_of h1.blk 2
  have z3 : w1.cell? ⟨db, 3, none⟩ = some (.int .i64 (d.left : Int)) := cells_of h1.blk 3
  have f1 : w1.frozen? ⟨db, 1, none⟩ = false := by simp [World.frozen?, h1.blk]
  have f2 : w1.frozen? ⟨db, 2, none⟩ = false := by simp [World.frozen?, h1.blk]
  have f3 : w1.frozen? ⟨db, 3, none⟩ = false := by simp [World.frozen?, h1.blk]
  have HN : Hid (DiskAt (((w1.setCell ⟨db, 1, none⟩ (.bool false)).setCell ⟨db, 2, none⟩ (.bool false)).setCell ⟨db, 3, none⟩ (.int .i64 0)) w.heap.size db v ⟨d.L, false, false, 0⟩) := ((h1.setOff false).setWaits false).setLeft 0 (by omega)
  have HK : Hid (∀ a b c, Kept (db :: v.ownBlock.toList) w1 (((w1.setCell ⟨db, 1, none⟩ a).setCell ⟨db, 2, none⟩ b).setCell ⟨db, 3, none⟩ c)) := fun a b c => (((Kept.refl _ _).setCell (.inl (by simp)) _).setCell (.inl (by simp)) _).setCell (.inl (by simp)) _
  have HH := (show Hid _ from h)
  obtain ⟨o, ho⟩ : ∃ o, o = d.off := ⟨_, rfl⟩
  obtain ⟨p, hp⟩ : ∃ p, p = d.waits := ⟨_, rfl⟩
  obtain ⟨q, hq⟩ : ∃ q, q = d.left := ⟨_, rfl⟩
  rw [← ho] at z1
  rw [← hp] at z2
  rw [← hq] at z3
  clear h h1 ho hp hq
  go_enter Tryz.func12, Tryz.ntmps12
  go_wp2
  go_end0
  exact ⟨rfl, HH.out.stay rfl HN.out rfl (HK.out _ _ _)⟩

set_option maxRecDepth 1000000 in
theorem dk_keep (w w1 : World) (db : Nat) (d : Dk) (F : List Nat) (h : DkF w w1 db d F) (k : Nat) (hk : k ≤ d.L.length) :
    Calls Tryz.prog 31 #[.pointer (some ⟨db, 0, none⟩), .int .i64 (k : Int)] w1 fun e w' => e = .returned (.tuple #[]) ∧ DkF w w' db ⟨d.L.take k, d.off, d.waits, d.left⟩ F ∧ Kept F w1 w' := by
  obtain ⟨v, rfl, h1⟩ := id h.ex
  have z0 : w1.cell? ⟨db, 0, none⟩ = some v := cells_of h1.blk 0
  have f0 : w1.frozen? ⟨db, 0, none⟩ = false := by simp [World.frozen?, h1.blk]
  obtain ⟨g, cap, cur, mk, rfl, hr⟩ := id h1.bytes
  have hcap := hr.2.2.2.1
  have HB := (show Hid _ from h1.keep (.slice (some ⟨g, 0, none⟩) k cap) (d.L.take k) (h1.bytes.take k hk) rfl)
  have HH := (show Hid _ from h)
  have k0 : (0 : Int) ≤ (k : Int) := by omega
  have k1 : (k : Int) ≤ (cap : Int) := by omega
  obtain ⟨n, hn⟩ : ∃ n, n = d.L.length := ⟨_, rfl⟩
  rw [← hn] at z0 HH
  clear h h1 hr hcap
  go_enter Tryz.func31, Tryz.ntmps31
  go_wp2
  go_end0
  refine ⟨rfl, HH.out.stay (v := .slice (some ⟨g, 0, none⟩) n cap) rfl HB.out rfl (Kept.set1 _ _ _)⟩

set_option maxRecDepth 1000000 in
/-- Cut with a number that is not below 0, where power is there. -/
theorem dk_cut (w w1 : World) (db : Nat) (d : Dk) (F : List Nat) (h : DkF w w1 db d F) (n : Nat) (hn : n ≤ 9223372036854775807) (ho : d.off = false) :
    Calls Tryz.prog 10 #[.pointer (some ⟨db, 0, none⟩), .int .i64 (n : Int)] w1 fun e w' => e = .returned .nilIface ∧ DkF w w' db ⟨d.L, false, true, n⟩ F ∧ Kept F w1 w' := by
  obtain ⟨v, rfl, h1⟩ := id h.ex
  have z1 : w1.cell? ⟨db, 1, none⟩ = some (.bool false) := by rw [← ho]; exact cells_of h1.blk 1
  have z2 : w1.cell? ⟨db, 2, none⟩ = some (.bool d.waits) := cells_of h1.blk 2
  have z3 : w1.cell? ⟨db, 3, none⟩ = some (.int .i64 (d.left : Int)) := cells_of h1.blk 3
  have f2 : w1.frozen? ⟨db, 2, none⟩ = false := by simp [World.frozen?, h1.blk]
  have f3 : w1.frozen? ⟨db, 3, none⟩ = false := by simp [World.frozen?, h1.blk]
  have hd2 := (h1.setWaits true).setLeft n hn
  have HN : Hid (DiskAt ((w1.setCell ⟨db, 2, none⟩ (.bool true)).setCell ⟨db, 3, none⟩ (.int .i64 (n : Int))) w.heap.size db v ⟨d.L, false, true, n⟩) := by
    simp only [ho] at hd2
    exact hd2
  have HK : Hid (∀ b c, Kept (db :: v.ownBlock.toList) w1 ((w1.setCell ⟨db, 2, none⟩ b).setCell ⟨db, 3, none⟩ c)) := fun b c => ((Kept.refl _ _).setCell (.inl (by simp)) _).setCell (.inl (by simp)) _
  have HH := (show Hid _ from h)
  obtain ⟨p, hp⟩ : ∃ p, p = d.waits := ⟨_, rfl⟩
  obtain ⟨q, hq⟩ : ∃ q, q = d.left := ⟨_, rfl⟩
  obtain ⟨m, hm⟩ : ∃ m : Int, m = (n : Int) := ⟨_, rfl⟩
  have dn : decide (m < 0) = false := by simp; omega
  rw [← hp] at z2
  rw [← hq] at z3
  rw [← hm] at HN ⊢
  clear h h1 ho hp hq hd2 hm hn
  go_enter Tryz.func10, Tryz.ntmps10
  go_wp2
  go_ret
  exact ⟨rfl, HH.out.stay rfl HN.out rfl (HK.out _ _)⟩
/-- What Recover answers. -/
def RcvOut (w w1 : World) (db : Nat) (F : List Nat) (d : Dk) (e : Ending) (w' : World) : Prop :=
  ∃ (L : List E) (v : Value), Reads okL d.L L ∧ e = .returned (.tuple #[v, .nilIface]) ∧ DkF w w' db ⟨recs L, false, false, 0⟩ F ∧ Kept F w1 w' ∧ w'.ownsRow w1.heap.size 59 3 v L.length (entCells L)

set_option maxRecDepth 1000000 in
set_option maxHeartbeats 2000000 in
theorem dk_recover {B : Nat} {ea : Nat → Addr} (w : World) (E0 : EnvW B ea w) (hB : B ≤ w.heap.size) (w1 : World) (db : Nat) (d : Dk) (F : List Nat) (h : DkF w w1 db d F) (hl : d.L.length ≤ 100000) :
    Calls Tryz.prog 14 #[.pointer (some ⟨db, 0, none⟩)] w1 fun e w' => RcvOut w w1 db F d e w' := by
  have HON := (show Hid _ from dk_on w w1 db d F h)
  have HE := (show Hid _ from E0)
  have HH := (show Hid _ from h)
  clear h E0
  go_enter Tryz.func14, Tryz.ntmps14
  go_wp2_with fail
  refine Calls.mono HON.out ?_
  rintro e w2 ⟨rfl, h2, k2⟩
  have H2 := (show Hid _ from And.intro h2 k2)
  have HBY := (show Hid _ from dk_bytes w w2 db _ F h2)
  clear h2 k2 HON
  dsimp only at HBY ⊢
  go_wp2_with fail
  refine Calls.mono HBY.out ?_
  rintro e w3 ⟨rfl, hw3⟩
  have hw3' := hw3.symm
  subst hw3'
  clear HBY
  have HRD : Hid (Calls Tryz.prog 19 #[.string (txt d.L)] w2 fun e w' => LogOut w2 w' d.L e ∧ Below w2.heap.size w2 w') := read_any w2 (HE.out.below H2.out.1.bel hB) (Nat.le_trans hB H2.out.1.bel.size) (txt d.L) (by rw [txt_size]; exact hl)
  dsimp only
  go_wp2_with fail
  refine Calls.mono HRD.out ?_
  rintro e w4 ⟨⟨L, v, hR, rfl, hown⟩, hb4⟩
  have H4 : Hid (DkF w w4 db ⟨d.L, false, false, 0⟩ F) := H2.out.1.below hb4
  have HR := (show Hid _ from hR)
  have HOW : Hid (w4.ownsRow w2.heap.size 59 3 v L.length (entCells L)) := hown
  have HB4 := (show Hid _ from hb4)
  have hkl : (recs L).length ≤ d.L.length := hR.pre.length_le
  have HTK : Hid (d.L.take (recs L).length = recs L) := by
    obtain ⟨r, hr⟩ := hR.pre
    show _ = _
    rw [← hr]
    simp
  have HKE := (show Hid _ from dk_keep w w4 db ⟨d.L, false, false, 0⟩ F H4.out (recs L).length hkl)
  dsimp only at HKE ⊢
  obtain ⟨k, hk⟩ : ∃ k, k = (recs L).length := ⟨_, rfl⟩
  rw [← hk] at HKE HTK ⊢
  clear hR hown hb4 hkl HRD hk
  go_wp2_with fail
  refine Calls.mono HKE.out ?_
  rintro e w5 ⟨rfl, h5, k5⟩
  rw [HTK.out] at h5
  have H5 := (show Hid _ from And.intro h5 k5)
  have hsz2 : w1.heap.size ≤ w2.heap.size := H2.out.2.size
  have HOW5 : Hid (w5.ownsRow w1.heap.size 59 3 v L.length (entCells L)) := by
    have h6 : w5.ownsRow w2.heap.size 59 3 v L.length (entCells L) := own_same HOW.out fun g hg => k5.block g (own_blk HOW.out hg).2.1 fun hx => by
      have := (H2.out.1.mem hx).2
      have := (own_blk HOW.out hg).1
      omega
    refine ⟨h6.1, h6.2.imp id ?_⟩
    rintro ⟨g, cap, cur, e1, e2, r⟩
    exact ⟨g, cap, cur, e1, by omega, r⟩
  have HKF : Hid (Kept F w1 w5) := (H2.out.2.trans (Kept.of_below HB4.out) (fun x hx => .inl hx)).trans k5 (fun x hx => .inl hx)
  clear h5 k5 hsz2 HKE
  dsimp only
  go_wp2
  go_ret2
  exact ⟨L, v, HR.out, rfl, H5.out.1, HKF.out, HOW5.out⟩
end Go.Proofs.YtplfnblpmagbjabGreatDoor
/- The document's numbers in decimal digits, and bytes in digits 0 to 9 and a to f, by contracts. -/
namespace Go.Proofs.YtplfnblpmagbjabGreatDoor
open Go.Shelf Go.RowKit LabMath WalMath

theorem str_dec (n : Int) (i : Nat) (h : n = 48 + (i : Int)) : byteStr n = txt [UInt8.ofNat (48 + i)] := by
  subst h
  unfold byteStr
  rw [show (48 + (i : Int)).toNat = 48 + i by omega]
  rfl

set_option maxRecDepth 1000000 in
theorem below_ten (i : Nat) (hi : i < 10) (w : World) :
    Calls Tryz.prog 50 #[.int .i64 (-(i : Int))] w fun e w' => e = .returned (.string (txt (Lib.decDigits i))) ∧ Below w.heap.size w w' := by
  have HB := (show Hid _ from byte_any (48 + (i : Int)) w (by omega) (by omega))
  have hd : decide ((-10 : Int) < -(i : Int)) = true := by simp; omega
  have he : Lib.decDigits i = [UInt8.ofNat (48 + i)] := by rw [Lib.decDigits, dif_pos hi]
  rw [he]
  have hs : (48 : Int) - -(i : Int) = 48 + (i : Int) := by omega
  go_enter Tryz.func50, Tryz.ntmps50
  go_wp2_with fail
  refine Calls.mono HB.out ?_
  rintro e w1 ⟨rfl, hb1⟩
  have HB1 := (show Hid _ from hb1)
  clear hb1
  go_wp2
  go_ret
  exact ⟨by rw [← str_dec _ i rfl]; rfl, HB1.out⟩

set_option maxRecDepth 1000000 in
theorem below_more (i : Nat) (h10 : 10 ≤ i) (hi : i ≤ 2000000000000) (w : World) (ih : Calls Tryz.prog 50 #[.int .i64 (-((i / 10 : Nat) : Int))] w fun e w' => e = .returned (.string (txt (Lib.decDigits (i / 10)))) ∧ Below w.heap.size w w') :
    Calls Tryz.prog 50 #[.int .i64 (-(i : Int))] w fun e w' => e = .returned (.string (txt (Lib.decDigits i))) ∧ Below w.heap.size w w' := by
  have HL := (show Hid _ from ih)
  have HB := (show Hid _ from fun w' => byte_any (48 + ((i % 10 : Nat) : Int)) w' (by omega) (by omega))
  have e18 : (10 : Nat) ^ (17 + 1) = 1000000000000000000 := by decide
  have hlen := decDigits_len 17 (i / 10) (by omega)
  clear e18
  have HT : Hid (txt (Lib.decDigits i) = txt (Lib.decDigits (i / 10) ++ [UInt8.ofNat (48 + i % 10)])) := by
    show _ = _
    conv => lhs; rw [Lib.decDigits, dif_neg (by omega)]
  have hadd : ∀ w, (Op.stringOp .add (txt (Lib.decDigits (i / 10))) (byteStr (48 + ((i % 10 : Nat) : Int)))).run Tryz.prog w = .ok (.string (txt (Lib.decDigits (i / 10) ++ [UInt8.ofNat (48 + i % 10)]))) w := fun w => by
    rw [str_dec _ (i % 10) rfl]
    exact add_two _ _ _ (by simp; omega) w
  obtain ⟨A, hA⟩ : ∃ A : ByteArray, A = txt (Lib.decDigits (i / 10)) := ⟨_, rfl⟩
  obtain ⟨C, hC⟩ : ∃ C : ByteArray, C = byteStr (48 + ((i % 10 : Nat) : Int)) := ⟨_, rfl⟩
  obtain ⟨D, hD⟩ : ∃ D : ByteArray, D = txt (Lib.decDigits (i / 10) ++ [UInt8.ofNat (48 + i % 10)]) := ⟨_, rfl⟩
  rw [← hA] at HL hadd
  rw [← hC] at HB hadd
  rw [← hD] at HT hadd
  have eq : -((i / 10 : Nat) : Int) = -((i : Int) / 10) := by omega
  have er : 48 + ((i % 10 : Nat) : Int) = 48 + (i : Int) % 10 := by omega
  rw [eq] at HL
  rw [er] at HB
  have hd2 : decide ((i : Int) < 10) = false := by simp; omega
  have hmod : (48 : Int) - -((i : Int) % 10) = 48 + (i : Int) % 10 := by omega
  have hi2 : (i : Int) ≤ 2000000000000 := by omega
  clear hA hC hD eq er hlen ih hi
  go_enter Tryz.func50, Tryz.ntmps50
  go_wp2_with fail
  refine Calls.mono HL.out ?_
  rintro e w1 ⟨rfl, hb1⟩
  have HB1 := (show Hid _ from hb1)
  clear hb1
  dsimp only
  go_wp2_with fail
  refine Calls.mono (HB.out _) ?_
  rintro e w2 ⟨rfl, hb2⟩
  have HB2 := (show Hid _ from HB1.out.trans (hb2.mono HB1.out.size))
  clear hb2
  dsimp only
  go_wp2
  go_ret
  exact ⟨by rw [HT.out]; rfl, HB2.out⟩
theorem below_dec (i : Nat) (hi : i ≤ 2000000000000) (w : World) :
    Calls Tryz.prog 50 #[.int .i64 (-(i : Int))] w fun e w' => e = .returned (.string (txt (Lib.decDigits i))) ∧ Below w.heap.size w w' := by
  induction i using Nat.strongRecOn generalizing w with
  | _ i ih =>
    rcases Nat.lt_or_ge i 10 with h | h
    · exact below_ten i h w
    · exact below_more i h hi w (ih (i / 10) (by omega) (by omega) w)

set_option maxRecDepth 1000000 in
theorem decimal_all (t : Int) (h0 : -1099511627776 ≤ t) (h1 : t ≤ 1099511627776) (w : World) :
    Calls Tryz.prog 35 #[.int .i64 t] w fun e w' => e = .returned (.string (txt (Lib.itoa t))) ∧ Below w.heap.size w w' := by
  by_cases hn : t < 0
  · have HB : Hid (Calls Tryz.prog 50 #[.int .i64 t] w fun e w' => e = .returned (.string (txt (Lib.decDigits t.natAbs))) ∧ Below w.heap.size w w') := by
      have := below_dec t.natAbs (by omega) w
      rw [show -((t.natAbs : Nat) : Int) = t by omega] at this
      exact this
    have HT : Hid (txt (Lib.itoa t) = txt ([45] ++ Lib.decDigits t.natAbs)) := by
      show _ = _
      unfold Lib.itoa
      rw [if_pos hn]
      rfl
    have e18 : (10 : Nat) ^ (17 + 1) = 1000000000000000000 := by decide
    have hlen := decDigits_len 17 t.natAbs (by omega)
    clear e18
    have hadd : ∀ w, (Op.stringOp .add ⟨#[45]⟩ (txt (Lib.decDigits t.natAbs))).run Tryz.prog w = .ok (.string (txt ([45] ++ Lib.decDigits t.natAbs))) w := fun w => add_two _ [45] _ (by simp; omega) w
    obtain ⟨C, hC⟩ : ∃ C : ByteArray, C = txt (Lib.decDigits t.natAbs) := ⟨_, rfl⟩
    obtain ⟨D, hD⟩ : ∃ D : ByteArray, D = txt ([45] ++ Lib.decDigits t.natAbs) := ⟨_, rfl⟩
    rw [← hC] at HB hadd
    rw [← hD] at HT hadd
    clear hC hD hlen h0 h1
    go_enter Tryz.func35, Tryz.ntmps35
    go_wp2_with fail
    refine Calls.mono HB.out ?_
    rintro e w1 ⟨rfl, hb1⟩
    have HB1 := (show Hid _ from hb1)
    clear hb1
    dsimp only
    go_wp2
    go_ret
    exact ⟨by rw [HT.out]; rfl, HB1.out⟩
  · obtain ⟨n, rfl⟩ := Int.eq_ofNat_of_zero_le (by omega : 0 ≤ t)
    have HB := (show Hid _ from below_dec n (by omega) w)
    have HT : Hid (txt (Lib.itoa (n : Int)) = txt (Lib.decDigits n)) := by
      show _ = _
      unfold Lib.itoa
      rw [if_neg hn]
      rfl
    have hd : decide ((n : Int) < 0) = false := by simp
    have hb : (n : Int) ≤ 1099511627776 := by omega
    clear hn h0 h1
    go_enter Tryz.func35, Tryz.ntmps35
    go_wp2_with fail
    refine Calls.mono HB.out ?_
    rintro e w1 ⟨rfl, hb1⟩
    have HB1 := (show Hid _ from hb1)
    clear hb1
    dsimp only
    go_wp2
    go_ret
    exact ⟨by rw [HT.out]; rfl, HB1.out⟩
end Go.Proofs.YtplfnblpmagbjabGreatDoor
/- The document's Hex and Record by contracts. -/
namespace WalMath
def hexL (l : List UInt8) : List UInt8 := l.flatMap fun c => [hexd (c.toNat / 16), hexd (c.toNat % 16)]
theorem hexL_snoc (l : List UInt8) (c : UInt8) : hexL (l ++ [c]) = hexL l ++ [hexd (c.toNat / 16), hexd (c.toNat % 16)] := by simp [hexL]
theorem hexL_len (l : List UInt8) : (hexL l).length = 2 * l.length := by
  induction l with
  | nil => rfl
  | cons c l ih => simp [hexL] at ih ⊢; omega
/-- The first so many bytes of a value, the highest first. -/
def beL (u : Nat) : Nat → List UInt8
  | 0 => []
  | k + 1 => beL u k ++ [UInt8.ofNat (u / 2 ^ (56 - 8 * k) % 256)]
theorem beL_len (u : Nat) : ∀ k, (beL u k).length = k
  | 0 => rfl
  | k + 1 => by simp [beL, beL_len u k]
theorem hex_be (u : Nat) (hu : u < 18446744073709551616) : hexL (beL u 8) = hexN 16 u := by
  have hb : ∀ n, n < 256 → (UInt8.ofNat n).toNat = n := fun n h => by simp; omega
  simp only [beL, List.nil_append, hexL_snoc, hexN]
  simp only [List.append_assoc, List.cons_append, List.nil_append]
  have h0 : ∀ c : UInt8, hexL [c] = [hexd (c.toNat / 16), hexd (c.toNat % 16)] := fun _ => rfl
  rw [h0]
  simp only [List.cons_append, List.nil_append]
  simp only [hb _ (Nat.mod_lt _ (by decide : 0 < 256)), Nat.reducePow, Nat.reduceMul, Nat.reduceSub, Nat.div_div_eq_div_mul]
  congr 1
  · congr 1; omega
  congr 1
  · congr 1; omega
  congr 1
  · congr 1; omega
  congr 1
  · congr 1; omega
  congr 1
  · congr 1; omega
  congr 1
  · congr 1; omega
  congr 1
  · congr 1; omega
  congr 1
  · congr 1; omega
  congr 1
  · congr 1; omega
  congr 1
  · congr 1; omega
  congr 1
  · congr 1; omega
  congr 1
  · congr 1; omega
  congr 1
  · congr 1; omega
  congr 1
  · congr 1; omega
  congr 1
  · congr 1; omega
  congr 1
  congr 1; omega
end WalMath
namespace Go.Proofs.YtplfnblpmagbjabGreatDoor
open Go.Shelf Go.RowKit LabMath WalMath

def hexS : ByteArray := ⟨#[48, 49, 50, 51, 52, 53, 54, 55, 56, 57, 97, 98, 99, 100, 101, 102]⟩
theorem hexS_at (a : Nat) (h : a < 16) : (ByteArray.mk #[48, 49, 50, 51, 52, 53, 54, 55, 56, 57, 97, 98, 99, 100, 101, 102]).extract a (a + 1) = txt [hexd a] := by
  rcases (by omega : a = 0 ∨ a = 1 ∨ a = 2 ∨ a = 3 ∨ a = 4 ∨ a = 5 ∨ a = 6 ∨ a = 7 ∨ a = 8 ∨ a = 9 ∨ a = 10 ∨ a = 11 ∨ a = 12 ∨ a = 13 ∨ a = 14 ∨ a = 15) with rfl | rfl | rfl | rfl | rfl | rfl | rfl | rfl | rfl | rfl | rfl | rfl | rfl | rfl | rfl | rfl
  all_goals rfl

set_option maxRecDepth 1000000 in
set_option maxHeartbeats 2000000 in
theorem hex_any (s : ByteArray) (hs : s.size ≤ 100000) (w : World) :
    Calls Tryz.prog 36 #[.string s] w fun e w' => e = .returned (.string (txt (hexL s.data.toList))) ∧ ∃ q, w' = w.drewN q := by
  have HDR : Hid (∀ k (hk : k < s.size), s.data.toList.take (k + 1) = s.data.toList.take k ++ [s[k]]) := fun k hk => by
    rw [List.take_add_one, List.getElem?_eq_getElem (by rw [Array.length_toList]; exact hk)]
    rfl
  have HTA : Hid (s.data.toList.take s.size = s.data.toList) := List.take_of_length_le (by rw [Array.length_toList]; exact Nat.le_refl _)
  have HTL : Hid (∀ k, k ≤ s.size → (s.data.toList.take k).length = k) := fun k hk => by
    rw [List.length_take, Array.length_toList]
    exact Nat.min_eq_left hk
  obtain ⟨l, hl⟩ : ∃ l, l = s.data.toList := ⟨_, rfl⟩
  rw [← hl] at HDR HTA HTL ⊢
  clear hl
  go_enter Tryz.func36, Tryz.ntmps36
  go_wp2_with fail
  go_loopw [3, 4] (fun o i wr => ∃ (k q : Nat), k ≤ s.size ∧ i = .int .i64 (k : Int) ∧ o = .string (txt (hexL (l.take k))) ∧ wr = w.drewN q) (fun _ i _ => s.size - (intOf i).toNat)
  case atStart => exact ⟨0, 0, Nat.zero_le _, rfl, rfl, rfl⟩
  case round =>
    obtain ⟨k, q, hk, rfl, rfl, rfl⟩ := hrel
    by_cases hks : k < s.size
    · have k0 : (0 : Int) ≤ (k : Int) := by omega
      have k1 : (k : Int) < (s.size : Int) := by omega
      obtain ⟨c, hc⟩ : ∃ c, c = s[k] := ⟨_, rfl⟩
      have hc256 := c.toNat_lt
      have ht := HDR.out k hks
      rw [← hc] at ht
      have hlen := HTL.out k hk
      have HNX : Hid (hexL (l.take (k + 1)) = hexL (l.take k) ++ [hexd (c.toNat / 16)] ++ [hexd (c.toNat % 16)]) := by
        show _ = _
        rw [ht, hexL_snoc, List.append_assoc]
        rfl
      have e1 := hexS_at (c.toNat / 16) (by omega)
      have e2 := hexS_at (c.toNat % 16) (by omega)
      have hl1 := hexL_len (l.take k)
      have a1 : ∀ w, (Op.stringOp .add (txt (hexL (l.take k))) (txt [hexd (c.toNat / 16)])).run Tryz.prog w = .ok (.string (txt (hexL (l.take k) ++ [hexd (c.toNat / 16)]))) w := fun w => add_two _ _ _ (by simp; omega) w
      have a2 : ∀ w, (Op.stringOp .add (txt (hexL (l.take k) ++ [hexd (c.toNat / 16)])) (txt [hexd (c.toNat % 16)])).run Tryz.prog w = .ok (.string (txt (hexL (l.take (k + 1))))) w := fun w => by
        rw [add_two _ _ _ (by simp; omega), HNX.out]
      obtain ⟨a, ha⟩ : ∃ a, a = c.toNat / 16 := ⟨_, rfl⟩
      obtain ⟨b, hb⟩ : ∃ b, b = c.toNat % 16 := ⟨_, rfl⟩
      have ha' : (c.toNat : Int) / 16 = (a : Int) := by omega
      have hb' : (c.toNat : Int) % 16 = (b : Int) := by omega
      rw [← ha] at e1 a1 a2
      rw [← hb] at e2 a2
      have HAB := (show Hid _ from And.intro ha' hb')
      have ba : (a : Int) < 16 := by omega
      have bb : (b : Int) < 16 := by omega
      obtain ⟨o1, ho1⟩ : ∃ o, o = txt (hexL (l.take k) ++ [hexd a]) := ⟨_, rfl⟩
      obtain ⟨o2, ho2⟩ : ∃ o, o = txt (hexL (l.take (k + 1))) := ⟨_, rfl⟩
      obtain ⟨o0, ho0⟩ : ∃ o, o = txt (hexL (l.take k)) := ⟨_, rfl⟩
      rw [← ho1] at a1 a2
      rw [← ho2] at a2
      rw [← ho0] at a1 ⊢
      rw [← e1] at a1
      rw [← e2] at a2
      have HO2 := (show Hid _ from ho2)
      have HC := (show Hid _ from hc)
      clear ha hb ha' hb' e1 e2 hl1 hlen ht ho1 ho2 ho0 hc256 hc
      go_upto_region 7 with fail
      rw [← HC.out, HAB.out.1, HAB.out.2]
      have ham : (a : Int) % 256 = (a : Int) := by omega
      simp only [ham]
      clear ham
      go_quiet (fail)
      go_wp2
      go_roundw
      case rel => exact ⟨k + 1, _, by omega, by go_num, by rw [← HO2.out], by first | rfl | (rw [World.drewN_drewN])⟩
      case measure => simp [intOf] <;> omega
    · have hke : k = s.size := by omega
      subst hke
      go_wp2
      go_ret
      exact ⟨by rw [HTA.out]; rfl, q, rfl⟩

theorem byte_txt (n : Nat) (hn : n < 256) (w : World) : Calls Tryz.prog 34 #[.int .i64 (n : Int)] w fun e w' => e = .returned (.string (txt [UInt8.ofNat n])) ∧ Below w.heap.size w w' := by
  refine (byte_any (n : Int) w (by omega) (by omega)).mono ?_
  rintro e w' ⟨rfl, hb⟩
  exact ⟨rfl, hb⟩

set_option maxRecDepth 1000000 in
set_option maxHeartbeats 4000000 in
/-- Record's loop over the value's bytes, and the rest. -/
theorem ref_record (w : World) (s : ByteArray) (hs : s.size ≤ 1000) (t : Int) (h0 : -1099511627776 ≤ t) (h1 : t ≤ 1099511627776) (u : Nat) (hu : u < 18446744073709551616) :
    Calls Tryz.prog 21 #[.string s, .agg #[.int .i64 t, .int .u64 (u : Int)]] w fun e w' => e = .returned (.string (txt (recL (s.data.toList, t, u)))) ∧ Below w.heap.size w w' := by
  obtain ⟨W, hW⟩ : ∃ W, W = w.alloc (.cells #[.int .i64 t, .int .u64 (u : Int)] 34) := ⟨_, rfl⟩
  have hbW : Below w.heap.size w W := by rw [hW]; exact (Below.refl _ _).alloc (Nat.le_refl _) _
  have hac : W.heap[w.heap.size]? = some (.cells #[.int .i64 t, .int .u64 (u : Int)] 34 (0, 0)) := by rw [hW]; exact heap_alloc_new _ _
  have HFR : Hid (∀ z, Below W.heap.size W z → z.cell? ⟨w.heap.size, 0, none⟩ = some (.int .i64 t) ∧ z.cell? ⟨w.heap.size, 1, none⟩ = some (.int .u64 (u : Int))) := fun z hz => by
    have hb := (hz.block w.heap.size (blk_lt hac)).trans hac
    exact ⟨cells_of hb 0, cells_of hb 1⟩
  have HBW := (show Hid _ from hbW)
  have HSH : Hid (∀ k, k < 8 → ∃ n : Nat, n < 256 ∧ beL u (k + 1) = beL u k ++ [UInt8.ofNat n] ∧ n = u / 2 ^ (56 - 8 * k) % 256) := fun k hk => ⟨_, Nat.mod_lt _ (by decide), rfl, rfl⟩
  clear hbW hac
  go_enter Tryz.func21, Tryz.ntmps21
  go_upto_region 1 with fail
  rw [← hW]
  clear hW
  go_wp2_with fail
  go_loopw [5, 6] (fun o i wr => ∃ k : Nat, k ≤ 8 ∧ i = .int .i64 (k : Int) ∧ o = .string (txt (beL u k)) ∧ Below W.heap.size W wr) (fun _ i _ => 8 - (intOf i).toNat)
  case atStart => exact ⟨0, Nat.zero_le _, rfl, rfl, Below.refl _ _⟩
  case round =>
    obtain ⟨k, hk, rfl, rfl, hbr⟩ := hrel
    obtain ⟨z0, z1⟩ := HFR.out wr hbr
    have HBR := (show Hid _ from hbr)
    clear hbr
    by_cases hk8 : k < 8
    · rcases (by omega : k = 0 ∨ k = 1 ∨ k = 2 ∨ k = 3 ∨ k = 4 ∨ k = 5 ∨ k = 6 ∨ k = 7) with rfl | rfl | rfl | rfl | rfl | rfl | rfl | rfl
      · obtain ⟨n, hn⟩ : ∃ n, n = u / 72057594037927936 % 256 := ⟨_, rfl⟩
        have hI : (u : Int) / 72057594037927936 % 256 = (n : Int) := by omega
        have hn256 : n < 256 := by omega
        have HST : Hid (beL u 1 = beL u 0 ++ [UInt8.ofNat n]) := by
          show _ = _
          rw [hn]
          simp [beL]
        have hadd : ∀ w, (Op.stringOp .add (txt (beL u 0)) (txt [UInt8.ofNat n])).run Tryz.prog w = .ok (.string (txt (beL u 1))) w := fun w => by
          rw [add_two _ _ _ (by rw [beL_len]; simp), HST.out]
        have HBY := (show Hid _ from byte_txt n hn256 wr)
        clear hn hk hk8
        go_wp2_with fail
        clear hI
        refine Calls.mono HBY.out ?_
        rintro e w2 ⟨rfl, hb2⟩
        have HB2 := (show Hid _ from HBR.out.trans (hb2.mono HBR.out.size))
        clear hb2
        dsimp only
        go_wp2
        go_roundw
        case rel => exact ⟨1, by omega, by first | rfl | go_num, rfl, HB2.out⟩
        case measure => simp [intOf] <;> omega
      · obtain ⟨n, hn⟩ : ∃ n, n = u / 281474976710656 % 256 := ⟨_, rfl⟩
        have hI : (u : Int) / 281474976710656 % 256 = (n : Int) := by omega
        have hn256 : n < 256 := by omega
        have HST : Hid (beL u 2 = beL u 1 ++ [UInt8.ofNat n]) := by
          show _ = _
          rw [hn]
          simp [beL]
        have hadd : ∀ w, (Op.stringOp .add (txt (beL u 1)) (txt [UInt8.ofNat n])).run Tryz.prog w = .ok (.string (txt (beL u 2))) w := fun w => by
          rw [add_two _ _ _ (by rw [beL_len]; simp), HST.out]
        have HBY := (show Hid _ from byte_txt n hn256 wr)
        clear hn hk hk8
        go_wp2_with fail
        clear hI
        refine Calls.mono HBY.out ?_
        rintro e w2 ⟨rfl, hb2⟩
        have HB2 := (show Hid _ from HBR.out.trans (hb2.mono HBR.out.size))
        clear hb2
        dsimp only
        go_wp2
        go_roundw
        case rel => exact ⟨2, by omega, by first | rfl | go_num, rfl, HB2.out⟩
        case measure => simp [intOf] <;> omega
      · obtain ⟨n, hn⟩ : ∃ n, n = u / 1099511627776 % 256 := ⟨_, rfl⟩
        have hI : (u : Int) / 1099511627776 % 256 = (n : Int) := by omega
        have hn256 : n < 256 := by omega
        have HST : Hid (beL u 3 = beL u 2 ++ [UInt8.ofNat n]) := by
          show _ = _
          rw [hn]
          simp [beL]
        have hadd : ∀ w, (Op.stringOp .add (txt (beL u 2)) (txt [UInt8.ofNat n])).run Tryz.prog w = .ok (.string (txt (beL u 3))) w := fun w => by
          rw [add_two _ _ _ (by rw [beL_len]; simp), HST.out]
        have HBY := (show Hid _ from byte_txt n hn256 wr)
        clear hn hk hk8
        go_wp2_with fail
        clear hI
        refine Calls.mono HBY.out ?_
        rintro e w2 ⟨rfl, hb2⟩
        have HB2 := (show Hid _ from HBR.out.trans (hb2.mono HBR.out.size))
        clear hb2
        dsimp only
        go_wp2
        go_roundw
        case rel => exact ⟨3, by omega, by first | rfl | go_num, rfl, HB2.out⟩
        case measure => simp [intOf] <;> omega
      · obtain ⟨n, hn⟩ : ∃ n, n = u / 4294967296 % 256 := ⟨_, rfl⟩
        have hI : (u : Int) / 4294967296 % 256 = (n : Int) := by omega
        have hn256 : n < 256 := by omega
        have HST : Hid (beL u 4 = beL u 3 ++ [UInt8.ofNat n]) := by
          show _ = _
          rw [hn]
          simp [beL]
        have hadd : ∀ w, (Op.stringOp .add (txt (beL u 3)) (txt [UInt8.ofNat n])).run Tryz.prog w = .ok (.string (txt (beL u 4))) w := fun w => by
          rw [add_two _ _ _ (by rw [beL_len]; simp), HST.out]
        have HBY := (show Hid _ from byte_txt n hn256 wr)
        clear hn hk hk8
        go_wp2_with fail
        clear hI
        refine Calls.mono HBY.out ?_
        rintro e w2 ⟨rfl, hb2⟩
        have HB2 := (show Hid _ from HBR.out.trans (hb2.mono HBR.out.size))
        clear hb2
        dsimp only
        go_wp2
        go_roundw
        case rel => exact ⟨4, by omega, by first | rfl | go_num, rfl, HB2.out⟩
        case measure => simp [intOf] <;> omega
      · obtain ⟨n, hn⟩ : ∃ n, n = u / 16777216 % 256 := ⟨_, rfl⟩
        have hI : (u : Int) / 16777216 % 256 = (n : Int) := by omega
        have hn256 : n < 256 := by omega
        have HST : Hid (beL u 5 = beL u 4 ++ [UInt8.ofNat n]) := by
          show _ = _
          rw [hn]
          simp [beL]
        have hadd : ∀ w, (Op.stringOp .add (txt (beL u 4)) (txt [UInt8.ofNat n])).run Tryz.prog w = .ok (.string (txt (beL u 5))) w := fun w => by
          rw [add_two _ _ _ (by rw [beL_len]; simp), HST.out]
        have HBY := (show Hid _ from byte_txt n hn256 wr)
        clear hn hk hk8
        go_wp2_with fail
        clear hI
        refine Calls.mono HBY.out ?_
        rintro e w2 ⟨rfl, hb2⟩
        have HB2 := (show Hid _ from HBR.out.trans (hb2.mono HBR.out.size))
        clear hb2
        dsimp only
        go_wp2
        go_roundw
        case rel => exact ⟨5, by omega, by first | rfl | go_num, rfl, HB2.out⟩
        case measure => simp [intOf] <;> omega
      · obtain ⟨n, hn⟩ : ∃ n, n = u / 65536 % 256 := ⟨_, rfl⟩
        have hI : (u : Int) / 65536 % 256 = (n : Int) := by omega
        have hn256 : n < 256 := by omega
        have HST : Hid (beL u 6 = beL u 5 ++ [UInt8.ofNat n]) := by
          show _ = _
          rw [hn]
          simp [beL]
        have hadd : ∀ w, (Op.stringOp .add (txt (beL u 5)) (txt [UInt8.ofNat n])).run Tryz.prog w = .ok (.string (txt (beL u 6))) w := fun w => by
          rw [add_two _ _ _ (by rw [beL_len]; simp), HST.out]
        have HBY := (show Hid _ from byte_txt n hn256 wr)
        clear hn hk hk8
        go_wp2_with fail
        clear hI
        refine Calls.mono HBY.out ?_
        rintro e w2 ⟨rfl, hb2⟩
        have HB2 := (show Hid _ from HBR.out.trans (hb2.mono HBR.out.size))
        clear hb2
        dsimp only
        go_wp2
        go_roundw
        case rel => exact ⟨6, by omega, by first | rfl | go_num, rfl, HB2.out⟩
        case measure => simp [intOf] <;> omega
      · obtain ⟨n, hn⟩ : ∃ n, n = u / 256 % 256 := ⟨_, rfl⟩
        have hI : (u : Int) / 256 % 256 = (n : Int) := by omega
        have hn256 : n < 256 := by omega
        have HST : Hid (beL u 7 = beL u 6 ++ [UInt8.ofNat n]) := by
          show _ = _
          rw [hn]
          simp [beL]
        have hadd : ∀ w, (Op.stringOp .add (txt (beL u 6)) (txt [UInt8.ofNat n])).run Tryz.prog w = .ok (.string (txt (beL u 7))) w := fun w => by
          rw [add_two _ _ _ (by rw [beL_len]; simp), HST.out]
        have HBY := (show Hid _ from byte_txt n hn256 wr)
        clear hn hk hk8
        go_wp2_with fail
        clear hI
        refine Calls.mono HBY.out ?_
        rintro e w2 ⟨rfl, hb2⟩
        have HB2 := (show Hid _ from HBR.out.trans (hb2.mono HBR.out.size))
        clear hb2
        dsimp only
        go_wp2
        go_roundw
        case rel => exact ⟨7, by omega, by first | rfl | go_num, rfl, HB2.out⟩
        case measure => simp [intOf] <;> omega
      · obtain ⟨n, hn⟩ : ∃ n, n = u % 256 := ⟨_, rfl⟩
        have hI : (u : Int) % 256 = (n : Int) := by omega
        have hn256 : n < 256 := by omega
        have HST : Hid (beL u 8 = beL u 7 ++ [UInt8.ofNat n]) := by
          show _ = _
          rw [hn]
          simp [beL]
        have hadd : ∀ w, (Op.stringOp .add (txt (beL u 7)) (txt [UInt8.ofNat n])).run Tryz.prog w = .ok (.string (txt (beL u 8))) w := fun w => by
          rw [add_two _ _ _ (by rw [beL_len]; simp), HST.out]
        have HBY := (show Hid _ from byte_txt n hn256 wr)
        clear hn hk hk8
        go_wp2_with fail
        clear hI
        refine Calls.mono HBY.out ?_
        rintro e w2 ⟨rfl, hb2⟩
        have HB2 := (show Hid _ from HBR.out.trans (hb2.mono HBR.out.size))
        clear hb2
        dsimp only
        go_wp2
        go_roundw
        case rel => exact ⟨8, by omega, by first | rfl | go_num, rfl, HB2.out⟩
        case measure => simp [intOf] <;> omega
    · have hke : k = 8 := by omega
      subst hke
      clear hk hk8 HSH
      have hil := itoa_len t h0 h1
      have e1 : ∀ w, (Op.stringOp .add s ⟨#[64]⟩).run Tryz.prog w = .ok (.string (txt (s.data.toList ++ [64]))) w := fun w => add_two _ s.data.toList [64] (by simp; omega) w
      have e2 : ∀ w, (Op.stringOp .add (txt (s.data.toList ++ [64])) (txt (Lib.itoa t))).run Tryz.prog w = .ok (.string (txt (s.data.toList ++ [64] ++ Lib.itoa t))) w := fun w => add_two _ _ _ (by simp; omega) w
      have e3 : ∀ w, (Op.stringOp .add (txt (s.data.toList ++ [64] ++ Lib.itoa t)) ⟨#[61]⟩).run Tryz.prog w = .ok (.string (txt (s.data.toList ++ [64] ++ Lib.itoa t ++ [61]))) w := fun w => add_two _ _ [61] (by simp; omega) w
      have e4 : ∀ w, (Op.stringOp .add (txt (s.data.toList ++ [64] ++ Lib.itoa t ++ [61])) (txt (hexN 16 u))).run Tryz.prog w = .ok (.string (txt (bodyL (s.data.toList, t, u)))) w := fun w => by
        rw [add_two _ _ _ (by simp [hexN_length]; omega)]
        simp [bodyL]
      have hbl : (bodyL (s.data.toList, t, u)).length = s.size + (Lib.itoa t).length + 18 := by
        simp [bodyL, hexN_length]
        omega
      have HDE := (show Hid _ from decimal_all t h0 h1 wr)
      have HHX : Hid (∀ z, Calls Tryz.prog 36 #[.string (txt (beL u 8))] z fun e w' => e = .returned (.string (txt (hexN 16 u))) ∧ ∃ q, w' = z.drewN q) := fun z => by
        have := hex_any (txt (beL u 8)) (by rw [txt_size, beL_len]; omega) z
        rw [show (txt (beL u 8)).data.toList = beL u 8 by rfl, hex_be u hu] at this
        exact this
      obtain ⟨b1, hb1⟩ : ∃ b, b = txt (s.data.toList ++ [64]) := ⟨_, rfl⟩
      obtain ⟨b2, hb2⟩ : ∃ b, b = txt (s.data.toList ++ [64] ++ Lib.itoa t) := ⟨_, rfl⟩
      obtain ⟨b3, hb3⟩ : ∃ b, b = txt (s.data.toList ++ [64] ++ Lib.itoa t ++ [61]) := ⟨_, rfl⟩
      obtain ⟨d1, hd1⟩ : ∃ b, b = txt (Lib.itoa t) := ⟨_, rfl⟩
      obtain ⟨d2, hd2⟩ : ∃ b, b = txt (hexN 16 u) := ⟨_, rfl⟩
      obtain ⟨d3, hd3⟩ : ∃ b, b = txt (beL u 8) := ⟨_, rfl⟩
      obtain ⟨D, hD⟩ : ∃ D, D = bodyL (s.data.toList, t, u) := ⟨_, rfl⟩
      have HREC : Hid (recL (s.data.toList, t, u) = recOf D) := by rw [hD]; exact rfl
      rw [← hD] at e4 hbl
      rw [← hb1] at e1 e2
      rw [← hb2] at e2 e3
      rw [← hb3] at e3 e4
      rw [← hd1] at e2 HDE
      rw [← hd2] at e4 HHX
      rw [← hd3] at HHX ⊢
      have hDl : D.length ≤ 1100 := by omega
      obtain ⟨bd, hbd⟩ : ∃ b, b = txt D := ⟨_, rfl⟩
      rw [← hbd] at e4
      have hbs : bd.size = D.length := by rw [hbd]; exact txt_size D
      have HCR : Hid (∀ z, Calls Tryz.prog 37 #[.string bd] z fun e w' => e = .returned (.int .i64 (BitMath.crcOf D : Int)) ∧ w' = z) := fun z => by
        have := crc_any bd z (by omega)
        rw [show bd.data.toList = D by rw [hbd]; rfl] at this
        exact this
      have hcl := BitMath.crcOf_lt D
      have HRO : Hid (recOf D = UInt8.ofNat (D.length / 256) :: UInt8.ofNat (D.length % 256) :: (D ++ crc4 (BitMath.crcOf D))) := rfl
      obtain ⟨cr, hcr⟩ : ∃ cr, cr = BitMath.crcOf D := ⟨_, rfl⟩
      rw [← hcr] at HCR hcl HRO
      have HBD := (show Hid _ from hbd)
      clear hb1 hb2 hb3 hd1 hd2 hd3 hD hbd hil hbl hcr hs h0 h1
      go_wp2_with fail
      refine Calls.mono HDE.out ?_
      rintro e w2 ⟨rfl, hx2⟩
      have HB2 := (show Hid _ from HBR.out.trans (hx2.mono HBR.out.size))
      clear hx2 HDE z0 z1
      dsimp only
      go_wp2_with fail
      refine Calls.mono (HHX.out _) ?_
      rintro e w3 ⟨rfl, q3, hw3⟩
      have HB3 : Hid (Below W.heap.size W w3) := by rw [hw3]; exact below_draws HB2.out _
      clear hw3 HHX HB2
      dsimp only
      go_wp2_with fail
      refine Calls.mono (HCR.out _) ?_
      rintro e w4 ⟨rfl, hw4⟩
      have hw4' := hw4.symm
      subst hw4'
      clear HCR e1 e2 e3 e4
      have HBS : Hid (bd.size = D.length) := hbs
      obtain ⟨n1, hn1⟩ : ∃ n, n = D.length / 256 := ⟨_, rfl⟩
      obtain ⟨n2, hn2⟩ : ∃ n, n = D.length % 256 := ⟨_, rfl⟩
      obtain ⟨n3, hn3⟩ : ∃ n, n = cr % 256 := ⟨_, rfl⟩
      obtain ⟨n4, hn4⟩ : ∃ n, n = cr / 256 % 256 := ⟨_, rfl⟩
      obtain ⟨n5, hn5⟩ : ∃ n, n = cr / 65536 % 256 := ⟨_, rfl⟩
      obtain ⟨n6, hn6⟩ : ∃ n, n = cr / 16777216 := ⟨_, rfl⟩
      have i1 : (bd.size : Int) / 256 = (n1 : Int) := by omega
      have i2 : (bd.size : Int) % 256 = (n2 : Int) := by omega
      have i3 : (cr : Int) % 256 = (n3 : Int) := by omega
      have i4 : (cr : Int) / 256 % 256 = (n4 : Int) := by omega
      have i5 : (cr : Int) / 65536 % 256 = (n5 : Int) := by omega
      have i6 : (cr : Int) / 16777216 = (n6 : Int) := by omega
      have HI := (show Hid _ from And.intro i1 (And.intro i2 (And.intro i3 (And.intro i4 (And.intro i5 i6)))))
      have HBY1 := (show Hid _ from fun z => byte_txt n1 (by omega) z)
      have HBY2 := (show Hid _ from fun z => byte_txt n2 (by omega) z)
      have HBY3 := (show Hid _ from fun z => byte_txt n3 (by omega) z)
      have HBY4 := (show Hid _ from fun z => byte_txt n4 (by omega) z)
      have HBY5 := (show Hid _ from fun z => byte_txt n5 (by omega) z)
      have HBY6 := (show Hid _ from fun z => byte_txt n6 (by omega) z)
      have m6 : n6 = cr / 16777216 % 256 := by omega
      have a1 : ∀ w, (Op.stringOp .add (txt [UInt8.ofNat n1]) (txt [UInt8.ofNat n2])).run Tryz.prog w = .ok (.string (txt ([UInt8.ofNat n1] ++ [UInt8.ofNat n2]))) w := fun w => add_two _ _ _ (by simp) w
      have a2 : ∀ w, (Op.stringOp .add (txt ([UInt8.ofNat n1] ++ [UInt8.ofNat n2])) bd).run Tryz.prog w = .ok (.string (txt ([UInt8.ofNat n1] ++ [UInt8.ofNat n2] ++ D))) w := fun w => by rw [HBD.out]; exact add_two _ _ _ (by simp; omega) w
      have a3 : ∀ w, (Op.stringOp .add (txt ([UInt8.ofNat n1] ++ [UInt8.ofNat n2] ++ D)) (txt [UInt8.ofNat n3])).run Tryz.prog w = .ok (.string (txt ([UInt8.ofNat n1] ++ [UInt8.ofNat n2] ++ D ++ [UInt8.ofNat n3]))) w := fun w => add_two _ _ _ (by simp; omega) w
      have a4 : ∀ w, (Op.stringOp .add (txt ([UInt8.ofNat n1] ++ [UInt8.ofNat n2] ++ D ++ [UInt8.ofNat n3])) (txt [UInt8.ofNat n4])).run Tryz.prog w = .ok (.string (txt ([UInt8.ofNat n1] ++ [UInt8.ofNat n2] ++ D ++ [UInt8.ofNat n3] ++ [UInt8.ofNat n4]))) w := fun w => add_two _ _ _ (by simp; omega) w
      have a5 : ∀ w, (Op.stringOp .add (txt ([UInt8.ofNat n1] ++ [UInt8.ofNat n2] ++ D ++ [UInt8.ofNat n3] ++ [UInt8.ofNat n4])) (txt [UInt8.ofNat n5])).run Tryz.prog w = .ok (.string (txt ([UInt8.ofNat n1] ++ [UInt8.ofNat n2] ++ D ++ [UInt8.ofNat n3] ++ [UInt8.ofNat n4] ++ [UInt8.ofNat n5]))) w := fun w => add_two _ _ _ (by simp; omega) w
      have a6 : ∀ w, (Op.stringOp .add (txt ([UInt8.ofNat n1] ++ [UInt8.ofNat n2] ++ D ++ [UInt8.ofNat n3] ++ [UInt8.ofNat n4] ++ [UInt8.ofNat n5])) (txt [UInt8.ofNat n6])).run Tryz.prog w = .ok (.string (txt (recOf D))) w := fun w => by
        rw [add_two _ _ _ (by simp; omega), HRO.out, hn1, hn2, hn3, hn4, hn5, m6]
        simp [crc4]
      obtain ⟨r1, hr1⟩ : ∃ r, r = txt ([UInt8.ofNat n1] ++ [UInt8.ofNat n2]) := ⟨_, rfl⟩
      obtain ⟨r2, hr2⟩ : ∃ r, r = txt ([UInt8.ofNat n1] ++ [UInt8.ofNat n2] ++ D) := ⟨_, rfl⟩
      obtain ⟨r3, hr3⟩ : ∃ r, r = txt ([UInt8.ofNat n1] ++ [UInt8.ofNat n2] ++ D ++ [UInt8.ofNat n3]) := ⟨_, rfl⟩
      obtain ⟨r4, hr4⟩ : ∃ r, r = txt ([UInt8.ofNat n1] ++ [UInt8.ofNat n2] ++ D ++ [UInt8.ofNat n3] ++ [UInt8.ofNat n4]) := ⟨_, rfl⟩
      obtain ⟨r5, hr5⟩ : ∃ r, r = txt ([UInt8.ofNat n1] ++ [UInt8.ofNat n2] ++ D ++ [UInt8.ofNat n3] ++ [UInt8.ofNat n4] ++ [UInt8.ofNat n5]) := ⟨_, rfl⟩
      obtain ⟨r6, hr6⟩ : ∃ r, r = txt (recOf D) := ⟨_, rfl⟩
      rw [← hr1] at a1 a2
      rw [← hr2] at a2 a3
      rw [← hr3] at a3 a4
      rw [← hr4] at a4 a5
      rw [← hr5] at a5 a6
      rw [← hr6] at a6
      obtain ⟨y1, hy1⟩ : ∃ r, r = txt [UInt8.ofNat n1] := ⟨_, rfl⟩
      obtain ⟨y2, hy2⟩ : ∃ r, r = txt [UInt8.ofNat n2] := ⟨_, rfl⟩
      obtain ⟨y3, hy3⟩ : ∃ r, r = txt [UInt8.ofNat n3] := ⟨_, rfl⟩
      obtain ⟨y4, hy4⟩ : ∃ r, r = txt [UInt8.ofNat n4] := ⟨_, rfl⟩
      obtain ⟨y5, hy5⟩ : ∃ r, r = txt [UInt8.ofNat n5] := ⟨_, rfl⟩
      obtain ⟨y6, hy6⟩ : ∃ r, r = txt [UInt8.ofNat n6] := ⟨_, rfl⟩
      rw [← hy1] at a1 HBY1
      rw [← hy2] at a1 HBY2
      rw [← hy3] at a3 HBY3
      rw [← hy4] at a4 HBY4
      rw [← hy5] at a5 HBY5
      rw [← hy6] at a6 HBY6
      have HR6 : Hid (r6 = txt (recL (s.data.toList, t, u))) := by rw [HREC.out]; exact hr6
      have hbz : (bd.size : Int) ≤ 1100 := by omega
      have hcz : (cr : Int) < 4294967296 := by omega
      clear hr1 hr2 hr3 hr4 hr5 hr6 hy1 hy2 hy3 hy4 hy5 hy6 hn1 hn2 hn3 hn4 hn5 hn6 i1 i2 i3 i4 i5 i6 m6 hbs hcl hDl
      dsimp only
      go_wp2_with fail
      rw [HI.out.1]
      refine Calls.mono (HBY1.out _) ?_
      rintro e v1 ⟨rfl, hv1⟩
      have HV1 := (show Hid _ from HB3.out.trans (hv1.mono HB3.out.size))
      clear hv1
      dsimp only
      go_wp2_with fail
      rw [HI.out.2.1]
      refine Calls.mono (HBY2.out _) ?_
      rintro e v2 ⟨rfl, hv2⟩
      have HV2 := (show Hid _ from HV1.out.trans (hv2.mono HV1.out.size))
      clear hv2
      dsimp only
      go_wp2_with fail
      rw [HI.out.2.2.1]
      refine Calls.mono (HBY3.out _) ?_
      rintro e v3 ⟨rfl, hv3⟩
      have HV3 := (show Hid _ from HV2.out.trans (hv3.mono HV2.out.size))
      clear hv3
      dsimp only
      go_wp2_with fail
      rw [HI.out.2.2.2.1]
      refine Calls.mono (HBY4.out _) ?_
      rintro e v4 ⟨rfl, hv4⟩
      have HV4 := (show Hid _ from HV3.out.trans (hv4.mono HV3.out.size))
      clear hv4
      dsimp only
      go_wp2_with fail
      rw [HI.out.2.2.2.2.1]
      refine Calls.mono (HBY5.out _) ?_
      rintro e v5 ⟨rfl, hv5⟩
      have HV5 := (show Hid _ from HV4.out.trans (hv5.mono HV4.out.size))
      clear hv5
      dsimp only
      go_wp2_with fail
      rw [HI.out.2.2.2.2.2]
      refine Calls.mono (HBY6.out _) ?_
      rintro e v6 ⟨rfl, hv6⟩
      have HV6 := (show Hid _ from HV5.out.trans (hv6.mono HV5.out.size))
      clear hv6
      dsimp only
      go_wp2_with fail
      go_ret
      exact ⟨by rw [← HR6.out]; rfl, HBW.out.trans (HV6.out.mono HBW.out.size)⟩
end Go.Proofs.YtplfnblpmagbjabGreatDoor
/- Entries side by side, and the closed fact of the statements on logs. -/
namespace Go.Proofs.YtplfnblpmagbjabGreatDoor
open Go.Shelf Go.RowKit LabMath WalMath

/-- Entries in a slice. -/
def Ents (w : World) (a : Option Addr) (L : List E) : Prop :=
  ∀ i (hi : i < L.length), ∃ b o, a = some ⟨b, o, none⟩ ∧ w.cell? ⟨b, o + i * 3, none⟩ = some (.string (txt (L[i]).1)) ∧ w.cell? ⟨b, o + i * 3 + 1, none⟩ = some (.int .i64 (L[i]).2.1) ∧ w.cell? ⟨b, o + i * 3 + 2, none⟩ = some (.int .u64 ((L[i]).2.2 : Int))
theorem Ents.below {w w' : World} {a : Option Addr} {L : List E} (h : Ents w a L) (hb : Below w.heap.size w w') : Ents w' a L := fun i hi => by
  obtain ⟨b, o, rfl, h1, h2, h3⟩ := h i hi
  have hl : b < w.heap.size := World.block_lt_of_cell? w ⟨b, _, none⟩ h1
  exact ⟨b, o, rfl, (hb.cell (p := ⟨b, _, none⟩) hl).trans h1, (hb.cell (p := ⟨b, _, none⟩) hl).trans h2, (hb.cell (p := ⟨b, _, none⟩) hl).trans h3⟩
theorem entCells_at : ∀ (L : List E) (i : Nat) (hi : i < L.length), (entCells L)[i * 3]? = some (.string (txt (L[i]).1)) ∧ (entCells L)[i * 3 + 1]? = some (.int .i64 (L[i]).2.1) ∧ (entCells L)[i * 3 + 2]? = some (.int .u64 ((L[i]).2.2 : Int))
  | [], i, hi => absurd hi (by simp)
  | x :: L, 0, _ => ⟨rfl, rfl, rfl⟩
  | x :: L, i + 1, hi => by
    have ih := entCells_at L i (by simpa using hi)
    have e : entCells (x :: L) = [.string (txt x.1), .int .i64 x.2.1, .int .u64 (x.2.2 : Int)] ++ entCells L := by simp [entCells]
    rw [e]
    refine ⟨?_, ?_, ?_⟩
    · rw [List.getElem?_append_right (by simp; omega)]
      have : (i + 1) * 3 - 3 = i * 3 := by omega
      simpa [this] using ih.1
    · rw [List.getElem?_append_right (by simp; omega)]
      have : (i + 1) * 3 + 1 - 3 = i * 3 + 1 := by omega
      simpa [this] using ih.2.1
    · rw [List.getElem?_append_right (by simp; omega)]
      have : (i + 1) * 3 + 2 - 3 = i * 3 + 2 := by omega
      simpa [this] using ih.2.2
theorem own_ents {w : World} {base : Nat} {T : TypeId} {v : Value} {L : List E} (h : w.ownsRow base T 3 v L.length (entCells L)) : ∃ a c, v = .slice a L.length c ∧ L.length ≤ c ∧ Ents w a L := by
  rcases h.2 with ⟨hv, h0⟩ | ⟨g, cap, cur, hv, _, hh, hn, _, _, ht⟩
  · exact ⟨none, 0, by rw [h0]; exact hv, by omega, fun i hi => absurd hi (by omega)⟩
  · refine ⟨some ⟨g, 0, none⟩, cap, hv, hn, fun i hi => ⟨g, 0, rfl, ?_⟩⟩
    have hcell : ∀ j, j < L.length * 3 → w.cell? ⟨g, 0 + j, none⟩ = (entCells L)[j]? := fun j hj => by
      have e0 : w.cell? ⟨g, 0 + j, none⟩ = cur[j]? := by simp [World.cell?, hh]
      rw [e0, ← Array.getElem?_toList, ← ht, List.getElem?_take_of_lt hj]
    obtain ⟨h1, h2, h3⟩ := entCells_at L i hi
    exact ⟨(hcell _ (by omega)).trans h1, (hcell (i * 3 + 1) (by omega)).trans h2, (hcell (i * 3 + 2) (by omega)).trans h3⟩

set_option maxRecDepth 1000000 in
theorem same_entries (w : World) (a b : Option Addr) (ca cb : Nat) (L : List E) (ha : Ents w a L) (hb : Ents w b L) (hn : L.length ≤ 100000) :
    Calls Tryz.prog 16 #[.slice a L.length ca, .slice b L.length cb] w fun e w' => e = .returned (.bool true) ∧ ∃ q, w' = w.drewN q := by
  have HA : Hid (Ents w a L) := ha
  have HB : Hid (Ents w b L) := hb
  obtain ⟨n, hn'⟩ : ∃ n, n = L.length := ⟨_, rfl⟩
  have HN := (show Hid _ from hn')
  rw [← hn'] at hn ⊢
  clear ha hb hn'
  go_enter Tryz.func16, Tryz.ntmps16
  go_wp2_with fail
  go_loopw [5] (fun i wr => ∃ k q : Nat, k ≤ n ∧ i = .int .i64 (k : Int) ∧ wr = w.drewN q) (fun i _ => n - (intOf i).toNat)
  case atStart => exact ⟨0, 0, Nat.zero_le _, rfl, rfl⟩
  case round =>
    obtain ⟨k, q, hk, rfl, rfl⟩ := hrel
    by_cases hlt : k < n
    · obtain ⟨b1, o1, rfl, p1, p2, p3⟩ := HA.out k (by rw [← HN.out]; exact hlt)
      obtain ⟨b2, o2, rfl, q1, q2, q3⟩ := HB.out k (by rw [← HN.out]; exact hlt)
      have hk0 : (0 : Int) ≤ (k : Int) := by omega
      have hk1 : (k : Int) < (n : Int) := by omega
      generalize txt (L[k]'(by rw [← HN.out]; exact hlt)).1 = s at *
      generalize (L[k]'(by rw [← HN.out]; exact hlt)).2.1 = t at *
      generalize (L[k]'(by rw [← HN.out]; exact hlt)).2.2 = u at *
      go_wp2_with fail
      go_quiet (fail)
      go_wp2
      go_roundw
      case rel => exact ⟨k + 1, _, by omega, by go_num, by first | rfl | (rw [World.drewN_drewN])⟩
      case measure => simp [intOf] <;> omega
    · have hge : (n : Int) ≤ (k : Int) := by omega
      go_wp2
      go_ret
      exact ⟨rfl, q, rfl⟩
theorem read_one {l nm vl : List UInt8} (h : scan l [] [] [] false = some [(nm, vl)]) (h1 : isName (nameAt [(nm, vl)] 0) = true) (h2 : isWord (valueAt [(nm, vl)] 0) = true) : readC l = 0 := by
  unfold readC
  rw [h]
  refine fC_zero _ _ 1 (by omega) (by omega) fun i hi => ?_
  obtain rfl : i = 0 := by omega
  unfold labOk
  rw [h1, h2]
  rfl
theorem na_ok : OkE okL ([110, 61, 97], 3, 7) := ⟨read_one (nm := [110]) (vl := [97]) (by decide) (by decide) (by decide), by decide, by decide, by decide⟩
theorem z9_ok : OkE okL ([122, 61, 57], 1, 2) := ⟨read_one (nm := [122]) (vl := [57]) (by decide) (by decide) (by decide), by decide, by decide, by decide⟩
/-- A right entry on a disk with power and room. -/
theorem app_free {L : List UInt8} {n : Nat} {e : E} (h : OkE okL e) (hl : L.length + (recL e).length ≤ 65536) : appD ⟨L, false, false, n⟩ e.1 e.2.1 e.2.2 = ⟨L ++ recL e, false, false, n⟩ ∧ appC ⟨L, false, false, n⟩ e.1 e.2.1 e.2.2 = 0 := by
  obtain ⟨s, t, u⟩ := e
  have hz : chkC s t = 0 := chk_zero.2 ⟨h.lab, h.lo, h.hi⟩
  have hc : ¬ 0 < chkC s t := by omega
  have hb : ¬ 65536 < L.length + (recL (s, t, u)).length := by omega
  have hw := writeD_free (recL (s, t, u)) L n
  refine ⟨?_, ?_⟩
  · show (if 0 < chkC s t then _ else if 65536 < L.length + (recL (s, t, u)).length then _ else (writeD ⟨L, false, false, n⟩ (recL (s, t, u))).1) = _
    rw [if_neg hc, if_neg hb, hw]
  · show (if 0 < chkC s t then chkC s t else if 65536 < L.length + (recL (s, t, u)).length then 7 else if (writeD ⟨L, false, false, n⟩ (recL (s, t, u))).2 = true then 0 else 10) = 0
    rw [if_neg hc, if_neg hb, hw, if_pos rfl]
theorem rec_small {e : E} (h : OkE okL e) : (recL e).length ≤ 1100 := by
  have := (body_length lab_is h).1
  rw [recL_length]
  omega

set_option maxRecDepth 1000000 in
set_option maxHeartbeats 2000000 in
theorem logged_any {B : Nat} {ea : Nat → Addr} (w : World) (E0 : EnvW B ea w) (hB : B ≤ w.heap.size) :
    Calls Tryz.prog 4 #[] w fun e w' => e = .returned (.bool true) ∧ Below w.heap.size w w' := by
  have HE := (show Hid _ from E0)
  have HN := (show Hid _ from dk_new w w (Below.refl _ _) ⟨#[]⟩ (by decide))
  clear E0
  go_enter Tryz.func4, Tryz.ntmps4
  go_wp2_with fail
  refine Calls.mono HN.out ?_
  rintro e w1 ⟨db, F, rfl, h1, _, _⟩
  have hrs := rec_small na_ok
  have hap := app_free (L := []) (n := 0) na_ok (by simp; omega)
  have HAP : Hid (Calls Tryz.prog 7 #[.pointer (some ⟨db, 0, none⟩), .string ⟨#[110, 61, 97]⟩, .agg #[.int .i64 3, .int .u64 7]] w1 fun e w' => e = .returned .nilIface ∧ ∃ F', DkF w w' db ⟨recs [([110, 61, 97], 3, 7)], false, false, 0⟩ F') := (dk_append w HE.out hB w1 db _ F h1 (by decide) ⟨#[110, 61, 97]⟩ (by decide) 3 7 (by decide)).mono fun e w' h => by
    obtain ⟨v, F', rfl, hf, hd, _, _⟩ := h
    have e1 : appD ⟨(ByteArray.mk #[]).data.toList, false, false, 0⟩ (ByteArray.mk #[110, 61, 97]).data.toList 3 7 = ⟨recs [([110, 61, 97], 3, 7)], false, false, 0⟩ := by
      have := hap.1
      simp only [List.nil_append] at this
      rw [show recs [(([110, 61, 97] : List UInt8), (3 : Int), 7)] = recL ([110, 61, 97], 3, 7) by simp [recs]]
      exact this
    rw [e1] at hd
    rw [hf.none hap.2]
    exact ⟨rfl, F', hd⟩
  clear h1 HN hap
  dsimp only
  go_wp2_with fail
  refine Calls.mono HAP.out ?_
  rintro e w2 ⟨rfl, F2, h2⟩
  have H2 := (show Hid _ from h2)
  have HRL : Hid ((recs [(([110, 61, 97] : List UInt8), (3 : Int), 7)]).length ≤ 100000) := by
    show _ ≤ _
    simp [recs]
    omega
  have HRV := (show Hid _ from dk_recover w HE.out hB w2 db _ F2 h2 HRL.out)
  clear h2 HAP hrs
  dsimp only
  go_wp2_with fail
  refine Calls.mono HRV.out ?_
  rintro e w3 ⟨L, v, hR, rfl, h3, _, hown⟩
  have hL : L = [([110, 61, 97], 3, 7)] := by
    have hr := reads_of lab_is [([110, 61, 97], 3, 7)] [] (fun e he => by rw [List.mem_singleton] at he; rw [he]; exact na_ok) (.inl rfl)
    rw [List.append_nil] at hr
    exact reads_unique lab_is _ _ _ hR hr
  subst hL
  obtain ⟨a, c, rfl, hc, he⟩ := own_ents hown
  obtain ⟨b, o, rfl, c1, c2, c3⟩ := he 0 (by simp)
  have H3 := (show Hid _ from h3)
  have HBY := (show Hid _ from dk_bytes w w3 db _ F2 h3)
  have HRC := (show Hid _ from fun z => ref_record z ⟨#[110, 61, 97]⟩ (by decide) 3 (by decide) (by decide) 7 (by decide))
  have x2 : w3.cell? ⟨b, o + 1, none⟩ = some (.int .i64 3) := c2
  clear hR hown he c1 c2 c3 h3 HRV H2 hc
  have hrt : txt (recs [(([110, 61, 97] : List UInt8), (3 : Int), 7)]) = txt (recL ((ByteArray.mk #[110, 61, 97]).data.toList, 3, 7)) := by simp [recs]
  rw [hrt] at HBY
  obtain ⟨rt, hr⟩ : ∃ rt, rt = txt (recL ((ByteArray.mk #[110, 61, 97]).data.toList, 3, 7)) := ⟨_, rfl⟩
  rw [← hr] at HBY HRC
  clear hrt hr
  dsimp only
  go_wp2_with fail
  refine Calls.mono HBY.out ?_
  rintro e w4 ⟨rfl, hw4⟩
  have hw4' := hw4.symm
  subst hw4'
  dsimp only
  go_wp2_with fail
  refine Calls.mono (HRC.out _) ?_
  rintro e w5 ⟨rfl, hb5⟩
  have HB5 := (show Hid _ from H3.out.bel.trans (hb5.mono H3.out.bel.size))
  clear hb5
  dsimp only
  go_wp2
  go_ret
  exact ⟨by simp, HB5.out⟩
end Go.Proofs.YtplfnblpmagbjabGreatDoor
/- What the document's bodyOf calls, by contracts. -/
namespace Go.Proofs.YtplfnblpmagbjabGreatDoor
open Go.Shelf Go.RowKit LabMath WalMath

theorem ref_labels (w : World) (s : ByteArray) (hs : s.size ≤ 100000) :
    Calls Tryz.prog 27 #[.string s] w fun e w' => Below w.heap.size w w' ∧ ∃ x, e = .returned (.tuple #[x, .agg #[.int .i64 (readC s.data.toList), .int .i64 (readA s.data.toList)]]) := by
  refine (labels_of s w hs).mono ?_
  rintro e w' ⟨hb, ⟨hn, rfl⟩ | ⟨out, C, A, hsc, _, hf, hrest⟩⟩
  · refine ⟨hb, .slice none 0 0, ?_⟩
    unfold readC readA
    rw [hn]
  · obtain ⟨hC, hA⟩ := fault_is hf
    refine ⟨hb, ?_⟩
    unfold readC readA
    rw [hsc]
    simp only
    rw [← hC, ← hA]
    rcases hrest with ⟨_, rfl⟩ | ⟨_, v, rfl, _⟩
    · exact ⟨_, rfl⟩
    · exact ⟨_, rfl⟩

set_option maxRecDepth 1000000 in
theorem hexDigit_any (c : Nat) (hc : c < 256) (w : World) : Calls Tryz.prog 49 #[.int .u8 (c : Int)] w fun e w' => ((∃ d : Nat, hexW c = some d ∧ e = .returned (.int .i64 (d : Int))) ∨ (hexW c = none ∧ e = .returned (.int .i64 (-1)))) ∧ w' = w := by
  by_cases h1 : 48 ≤ c ∧ c ≤ 57
  · obtain ⟨a, b⟩ := h1
    have HR : Hid (hexW c = some (c - 48)) := if_pos ⟨a, b⟩
    have i1 : (48 : Int) ≤ (c : Int) := by omega
    have i2 : (c : Int) ≤ 57 := by omega
    go_enter Tryz.func49, Tryz.ntmps49
    go_wp2
    go_ret
    refine ⟨.inl ⟨c - 48, HR.out, ?_⟩, rfl⟩
    show Ending.returned (.int .i64 ((c : Int) - 48)) = _
    rw [Int.ofNat_sub a]
    rfl
  · have hdg : decide ((48 : Int) ≤ (c : Int)) = false ∨ ((48 : Int) ≤ (c : Int) ∧ decide ((c : Int) ≤ 57) = false) := by
      rcases (by omega : c < 48 ∨ 57 < c) with h | h
      · exact .inl (by simp; omega)
      · exact .inr ⟨by omega, by simp; omega⟩
    by_cases h2 : 97 ≤ c ∧ c ≤ 102
    · obtain ⟨a, b⟩ := h2
      have HR : Hid (hexW c = some (c - 87)) := by
        show _ = _
        unfold hexW
        rw [if_neg h1, if_pos ⟨a, b⟩]
      have i1 : (97 : Int) ≤ (c : Int) := by omega
      have i2 : (c : Int) ≤ 102 := by omega
      have HX : Hid ((c : Int) - 97 + 10 = ((c - 87 : Nat) : Int)) := by show _ = _; omega
      clear h1
      rcases hdg with d48 | ⟨d48, d57⟩
      · go_enter Tryz.func49, Tryz.ntmps49
        go_wp2
        go_ret
        exact ⟨.inl ⟨c - 87, HR.out, by rw [← HX.out]; rfl⟩, rfl⟩
      · go_enter Tryz.func49, Tryz.ntmps49
        go_wp2
        go_ret
        exact ⟨.inl ⟨c - 87, HR.out, by rw [← HX.out]; rfl⟩, rfl⟩
    · have HR : Hid (hexW c = none) := by
        show _ = _
        unfold hexW
        rw [if_neg h1, if_neg h2]
      have hlt : decide ((97 : Int) ≤ (c : Int)) = false ∨ ((97 : Int) ≤ (c : Int) ∧ decide ((c : Int) ≤ 102) = false) := by
        rcases (by omega : c < 97 ∨ 102 < c) with h | h
        · exact .inl (by simp; omega)
        · exact .inr ⟨by omega, by simp; omega⟩
      clear h1 h2
      rcases hdg with d48 | ⟨d48, d57⟩ <;> rcases hlt with d97 | ⟨d97, d102⟩
      all_goals (go_enter Tryz.func49, Tryz.ntmps49; go_wp2; go_ret; exact ⟨.inr ⟨HR.out, rfl⟩, rfl⟩)

/-- What bodyOf answers. -/
def BdyOut (l : List UInt8) (e : Ending) : Prop :=
  ∃ (x : E) (flag : Bool), e = .returned (.tuple #[eV x, .bool flag]) ∧ (flag = true → OkE okL x) ∧ ∀ y, OkE okL y → l = bodyL y → flag = true ∧ x = y

end Go.Proofs.YtplfnblpmagbjabGreatDoor
/- The document's bodyOf: its last part, the value's digits and the tick. -/
namespace Go.Proofs.YtplfnblpmagbjabGreatDoor
open Go.Shelf Go.RowKit LabMath WalMath

def tailB : Nat → Code → Code
  | 0, c => c
  | n + 1, .seq _ b => tailB n b
  | _ + 1, c => c
noncomputable def bodyT24 : Code := tailB 13 (Tryz.f33.body.getD .skip)

set_option maxRecDepth 1000000 in
set_option maxHeartbeats 4000000 in
theorem body_t24 (b : ByteArray) (l : List UInt8) (hb : b.size ≤ 100000) (w W W3 : World) (hbw : Below w.heap.size w W) (hce : ∀ z, Below W.heap.size W z → z.heap[w.heap.size]? = some (.cells #[.string ⟨#[]⟩, .int .i64 0, .int .u64 0] 76 (0, 0))) (hb3 : Below W.heap.size W W3) (k : Nat) (hk : k + 19 ≤ b.size) (hxt : b.extract 0 k = txt (l.take k)) (hlb : okL (l.take k)) (t : Int) (hx : List UInt8) (hhx : hx.length = 16 ∧ ∀ j (hj : j < 16), hx.drop j = b[b.size - 16 + j]'(by omega) :: hx.drop (j + 1))
    (hy : ∀ y, OkE okL y → l = bodyL y → l.take k = y.1 ∧ hx = hexN 16 y.2.2 ∧ t = y.2.1) (x1 x3 x5 x6 x7 x8 x10 x11 x12 x13 x14 x15 x16 x17 x18 x19 x20 x21 x22 x23 x24 x25 x26 x27 x28 x29 x30 x31 x32 x33 x34 x35 x36 x37 x38 x39 x40 x41 x42 x43 x44 x45 x46 x47 x48 x49 x50 x51 x52 x53 x54 x55 x56 x57 x58 x59 x60 x61 x62 x63 x64 x65 x66 x67 x68 x69 x70 x71 x72 x73 x74 x75 x76 x77 x78 x79 x80 x81 x82 x83 x84 x85 x86 x87 x88 x89 x90 x91 x92 x93 x94 x95 x96 x97 x98 x99 x100 x101 x102 x103 x104 x105 x106 x107 x108 x109 x110 x111 x112 x113 x114 x115 x116 x117 x118 x119 x120 x121 x122 x123 x124 x125 x126 x127 x128 x129 x130 x131 x132 x133 x134 x135 x136 x137 x138 : Value) :
    Code.wp Tryz.prog bodyT24 (bodyPost Tryz.prog Tryz.f33 fun e w' => BdyOut l e ∧ Below w.heap.size w w') ⟨#[.string b, x1, .pointer (some ⟨w.heap.size, 0, none⟩), x3, .int .i64 (k : Int), x5, x6, x7, x8, .int .i64 t, x10, x11, x12, x13, x14, x15, x16, x17, x18, x19, x20, x21, x22, x23, x24, x25, x26, x27, x28, x29, x30, x31, x32, x33, x34, x35, x36, x37, x38, x39, x40, x41, x42, x43, x44, x45, x46, x47, x48, x49, x50, x51, x52, x53, x54, x55, x56, x57, x58, x59, x60, x61, x62, x63, x64, x65, x66, x67, x68, x69, x70, x71, x72, x73, x74, x75, x76, x77, x78, x79, x80, x81, x82, x83, x84, x85, x86, x87, x88, x89, x90, x91, x92, x93, x94, x95, x96, x97, x98, x99, x100, x101, x102, x103, x104, x105, x106, x107, x108, x109, x110, x111, x112, x113, x114, x115, x116, x117, x118, x119, x120, x121, x122, x123, x124, x125, x126, x127, x128, x129, x130, x131, x132, x133, x134, x135, x136, x137, x138], []⟩ W3 := by
  conv => arg 2; whnf
  have HCE := (show Hid _ from hce)
  have HBW := (show Hid _ from hbw)
  have HB3 := (show Hid _ from hb3)
  have HXT := (show Hid _ from hxt)
  have HLB := (show Hid (okL (l.take k)) from hlb)
  have HY := (show Hid _ from hy)
  obtain ⟨m, hm⟩ : ∃ m : Nat, m = b.size - 16 := ⟨_, rfl⟩
  have hmI : (b.size : Int) - 16 = (m : Int) := by omega
  have HDR : Hid (∀ j (_ : j < 16) (h : m + j < b.size), hx.drop j = b[m + j]'h :: hx.drop (j + 1)) := by
    subst hm
    exact fun j hj _ => hhx.2 j hj
  have H16 : Hid (hx.length = 16) := hhx.1
  have hms : m + 16 = b.size := by omega
  have HTK := (show Hid _ from is_tick t W3)
  have kk1 : (k : Int) ≤ (b.size : Int) := by omega
  have kk0 : (0 : Int) ≤ (k : Int) := by omega
  clear hm hce hbw hb3 hxt hlb hhx hy
  go_wp2_with fail
  go_loopw [11, 12] (fun vv vi wr => wr = W3 ∧ ∃ (j acc : Nat), vv = .int .u64 (acc : Int) ∧ vi = .int .i64 ((m : Int) + (j : Int)) ∧ j ≤ 16 ∧ Hid (acc < 16 ^ j ∧ hexVL 0 hx = hexVL acc (hx.drop j))) (fun _ vi _ => b.size - (intOf vi).toNat)
  case atStart => exact ⟨rfl, 0, 0, rfl, by simp, by omega, by decide, rfl⟩
  case round =>
    obtain ⟨hwr, j, acc, rfl, rfl, hj, hh⟩ := hrel
    subst hwr
    obtain ⟨hacc, hdec⟩ := hh.out
    have hp : 16 ^ j ≤ 16 ^ 16 := Nat.pow_le_pow_right (by decide) hj
    have e16 : (16 : Nat) ^ 16 = 18446744073709551616 := by decide
    have HVAL : Hid (acc < 18446744073709551616) := by show _ < _; omega
    clear hh
    by_cases hj16 : j < 16
    · have q0 : (0 : Int) ≤ (m : Int) + (j : Int) := by omega
      have q1 : (m : Int) + (j : Int) < (b.size : Int) := by omega
      have nq : m + j < b.size := by omega
      obtain ⟨c, hc⟩ : ∃ c, c = b[m + j] := ⟨_, rfl⟩
      have hdr := HDR.out j hj16 nq
      rw [← hc] at hdr
      rw [hdr, hexVL] at hdec
      have hp15 : 16 ^ j ≤ 16 ^ 15 := Nat.pow_le_pow_right (by decide) (by omega)
      have e15 : (16 : Nat) ^ 15 = 1152921504606846976 := by decide
      have HHD := (show Hid _ from hexDigit_any c.toNat c.toNat_lt wr)
      have HACC : Hid (acc < 16 ^ j ∧ acc < 1152921504606846976) := ⟨hacc, by omega⟩
      have HDEC := (show Hid _ from hdec)
      obtain ⟨ai, hai⟩ : ∃ ai : Int, ai = (acc : Int) := ⟨_, rfl⟩
      have hb1 : ai < 1152921504606846976 := by rw [hai]; omega
      have hb0 : 0 ≤ ai := by omega
      have HAI := (show Hid _ from hai)
      rw [← hai]
      clear hdr hdec hp e16 hp15 e15 hacc hai
      go_wp2_with fail
      rw [← hc]
      refine Calls.mono HHD.out ?_
      rintro e w4 ⟨hhd, hw4⟩
      have hw4' := hw4.symm
      subst hw4'
      rcases hhd with ⟨dv, hdv, rfl⟩ | ⟨hdv, rfl⟩
      · have hd16 := hexW_lt hdv
        have HNX : Hid (acc * 16 + dv < 16 ^ (j + 1) ∧ hexVL 0 hx = hexVL (acc * 16 + dv) (hx.drop (j + 1))) := by
          have h1 := HDEC.out
          rw [hdv] at h1
          refine ⟨?_, h1⟩
          rw [Nat.pow_succ]
          have := HACC.out.1
          omega
        have hv0 : decide ((dv : Int) < 0) = false := by simp
        have hd1 : (dv : Int) < 16 := by omega
        have HCV : Hid (16 * ai + (dv : Int) = ((acc * 16 + dv : Nat) : Int)) := by
          show _ = _
          rw [HAI.out]
          omega
        clear hdv hd16
        dsimp only
        go_wp2
        go_roundw
        case rel => exact ⟨by first | rfl | trivial, j + 1, acc * 16 + dv, by rw [← HCV.out], by go_num, by omega, HNX⟩
        case measure => simp [intOf] <;> omega
      · have HNO : Hid (∀ y, OkE okL y → ¬ l = bodyL y) := fun y hy hl => by
          have h1 := HDEC.out
          have e16 : (16 : Nat) ^ 16 = 18446744073709551616 := by decide
          rw [hdv, (HY.out y hy hl).2.1, hexVL_N 16 _ (by have := hy.val; omega)] at h1
          cases h1
        clear hdv
        dsimp only
        have hcR := HCE.out wr HB3.out
        have f0 : wr.frozen? ⟨w.heap.size, 0, none⟩ = false := by simp [World.frozen?, hcR]
        have f1 : wr.frozen? ⟨w.heap.size, 1, none⟩ = false := by simp [World.frozen?, hcR]
        have f2 : wr.frozen? ⟨w.heap.size, 2, none⟩ = false := by simp [World.frozen?, hcR]
        have z0 : wr.cell? ⟨w.heap.size, 0, none⟩ = some (.string ⟨#[]⟩) := cells_of hcR 0
        have z1 : wr.cell? ⟨w.heap.size, 1, none⟩ = some (.int .i64 0) := cells_of hcR 1
        have z2 : wr.cell? ⟨w.heap.size, 2, none⟩ = some (.int .u64 0) := cells_of hcR 2
        have HC4 := (show Hid _ from hcR)
        clear hcR
        go_wp2_with fail
        obtain ⟨g0, g1, g2⟩ := three_here HC4.out (.string ⟨#[]⟩) (.int .i64 0) (.int .u64 0)
        exact bodyPost_ret (v := .tuple #[.agg #[.string ⟨#[]⟩, .int .i64 0, .int .u64 0], .bool false]) (by simp [results, Tryz.results33, go_sem, g0, g1, g2]) rfl ⟨⟨([], 0, 0), false, rfl, (fun h => by cases h), fun y hy hl => absurd hl (HNO.out y hy)⟩, three_below (HBW.out.trans (HB3.out.mono HBW.out.size)) (Nat.le_refl _) _ _ _⟩
    · have hje : j = 16 := by omega
      subst hje
      have HDE : Hid (hexVL 0 hx = some acc) := by
        show _ = _
        rw [hdec, List.drop_eq_nil_of_le (by rw [H16.out]; exact Nat.le_refl _)]
        rfl
      have hge : decide ((m : Int) + ((16 : Nat) : Int) < (b.size : Int)) = false := by simp; omega
      clear hdec hp e16 hacc
      have hcR := HCE.out wr HB3.out
      have f0 : wr.frozen? ⟨w.heap.size, 0, none⟩ = false := by simp [World.frozen?, hcR]
      have f1 : wr.frozen? ⟨w.heap.size, 1, none⟩ = false := by simp [World.frozen?, hcR]
      have f2 : wr.frozen? ⟨w.heap.size, 2, none⟩ = false := by simp [World.frozen?, hcR]
      have z0 : wr.cell? ⟨w.heap.size, 0, none⟩ = some (.string ⟨#[]⟩) := cells_of hcR 0
      have z1 : wr.cell? ⟨w.heap.size, 1, none⟩ = some (.int .i64 0) := cells_of hcR 1
      have z2 : wr.cell? ⟨w.heap.size, 2, none⟩ = some (.int .u64 0) := cells_of hcR 2
      have HC4 := (show Hid _ from hcR)
      clear hcR
      go_wp2_with fail
      refine Calls.mono HTK.out ?_
      rintro e w4 ⟨rfl, hw4⟩
      have hw4' := hw4.symm
      subst hw4'
      dsimp only
      obtain ⟨fl, hfl⟩ : ∃ fl, fl = isTick t := ⟨_, rfl⟩
      rw [← hfl]
      have HFL := (show Hid _ from hfl)
      obtain ⟨st, hst⟩ : ∃ st, st = b.extract 0 k := ⟨_, rfl⟩
      have HSTT : Hid (st = txt (l.take k)) := by rw [hst]; exact HXT.out
      clear hfl
      go_wp2_with fail
      rw [← hst]
      obtain ⟨g0, g1, g2⟩ := three_here HC4.out (.string st) (.int .i64 t) (.int .u64 (acc : Int))
      refine bodyPost_ret (v := .tuple #[.agg #[.string st, .int .i64 t, .int .u64 (acc : Int)], .bool fl]) (by simp [results, Tryz.results33, go_sem, g0, g1, g2]) rfl ⟨⟨(l.take k, t, acc), fl, by rw [HSTT.out]; rfl, fun h => ?_, fun y hy hl => ?_⟩, three_below (HBW.out.trans (HB3.out.mono HBW.out.size)) (Nat.le_refl _) _ _ _⟩
      · rw [HFL.out] at h
        have := (isTick_iff t).1 h
        exact ⟨HLB.out, this.1, this.2, HVAL.out⟩
      · obtain ⟨h1, h2, h3⟩ := HY.out y hy hl
        have e16 : (16 : Nat) ^ 16 = 18446744073709551616 := by decide
        have h4 := HDE.out
        rw [h2, hexVL_N 16 _ (by have := hy.val; omega)] at h4
        refine ⟨?_, ?_⟩
        · rw [HFL.out, isTick_iff, h3]
          exact ⟨hy.lo, hy.hi⟩
        · rw [h1, h3, ← Option.some.inj h4]
end Go.Proofs.YtplfnblpmagbjabGreatDoor
/- The document's bodyOf: the tick's digits. -/
namespace Go.Proofs.YtplfnblpmagbjabGreatDoor
open Go.Shelf Go.RowKit LabMath WalMath

noncomputable def bodyT13 : Code := tailB 9 (Tryz.f33.body.getD .skip)

set_option maxRecDepth 1000000 in
set_option maxHeartbeats 4000000 in
theorem body_t13 (b : ByteArray) (l : List UInt8) (hb : b.size ≤ 100000) (w W W3 : World) (hbw : Below w.heap.size w W) (hce : ∀ z, Below W.heap.size W z → z.heap[w.heap.size]? = some (.cells #[.string ⟨#[]⟩, .int .i64 0, .int .u64 0] 76 (0, 0))) (hb3 : Below W.heap.size W W3) (k : Nat) (hk : k + 19 ≤ b.size) (hxt : b.extract 0 k = txt (l.take k)) (hlb : okL (l.take k)) (mn : Bool) (dd : List UInt8) (ddt : ByteArray) (hdt : ddt = txt dd) (hx : List UInt8) (hhx : hx.length = 16 ∧ ∀ j (hj : j < 16), hx.drop j = b[b.size - 16 + j]'(by omega) :: hx.drop (j + 1))
    (hy : ∀ y, OkE okL y → l = bodyL y → l.take k = y.1 ∧ hx = hexN 16 y.2.2 ∧ dd = Lib.decDigits y.2.1.natAbs ∧ (mn = true ↔ y.2.1 < 0)) (x1 x3 x5 x6 x9 x10 x11 x12 x13 x14 x15 x16 x17 x18 x19 x20 x21 x22 x23 x24 x25 x26 x27 x28 x29 x30 x31 x32 x33 x34 x35 x36 x37 x38 x39 x40 x41 x42 x43 x44 x45 x46 x47 x48 x49 x50 x51 x52 x53 x54 x55 x56 x57 x58 x59 x60 x61 x62 x63 x64 x65 x66 x67 x68 x69 x70 x71 x72 x73 x74 x75 x76 x77 x78 x79 x80 x81 x82 x83 x84 x85 x86 x87 x88 x89 x90 x91 x92 x93 x94 x95 x96 x97 x98 x99 x100 x101 x102 x103 x104 x105 x106 x107 x108 x109 x110 x111 x112 x113 x114 x115 x116 x117 x118 x119 x120 x121 x122 x123 x124 x125 x126 x127 x128 x129 x130 x131 x132 x133 x134 x135 x136 x137 x138 : Value) :
    Code.wp Tryz.prog bodyT13 (bodyPost Tryz.prog Tryz.f33 fun e w' => BdyOut l e ∧ Below w.heap.size w w') ⟨#[.string b, x1, .pointer (some ⟨w.heap.size, 0, none⟩), x3, .int .i64 (k : Int), x5, x6, .string ddt, .bool mn, x9, x10, x11, x12, x13, x14, x15, x16, x17, x18, x19, x20, x21, x22, x23, x24, x25, x26, x27, x28, x29, x30, x31, x32, x33, x34, x35, x36, x37, x38, x39, x40, x41, x42, x43, x44, x45, x46, x47, x48, x49, x50, x51, x52, x53, x54, x55, x56, x57, x58, x59, x60, x61, x62, x63, x64, x65, x66, x67, x68, x69, x70, x71, x72, x73, x74, x75, x76, x77, x78, x79, x80, x81, x82, x83, x84, x85, x86, x87, x88, x89, x90, x91, x92, x93, x94, x95, x96, x97, x98, x99, x100, x101, x102, x103, x104, x105, x106, x107, x108, x109, x110, x111, x112, x113, x114, x115, x116, x117, x118, x119, x120, x121, x122, x123, x124, x125, x126, x127, x128, x129, x130, x131, x132, x133, x134, x135, x136, x137, x138], []⟩ W3 := by
  conv => arg 2; whnf
  have HCE := (show Hid _ from hce)
  have HBW := (show Hid _ from hbw)
  have HB3 := (show Hid _ from hb3)
  have HXT := (show Hid _ from hxt)
  have HLB := (show Hid (okL (l.take k)) from hlb)
  have HY := (show Hid _ from hy)
  have HHX := (show Hid _ from hhx)
  have HDS : Hid (ddt.size = dd.length) := by rw [hdt]; exact txt_size dd
  have HDG : Hid (∀ j (hj : j < ddt.size), dd.drop j = ddt[j] :: dd.drop (j + 1)) := by
    subst hdt
    intro j hj
    have hj' : j < dd.length := by rw [← txt_size dd]; exact hj
    rw [List.drop_eq_getElem_cons hj']
    rfl
  clear hce hbw hb3 hxt hlb hhx hy hdt
  by_cases hlen : 1 ≤ dd.length ∧ dd.length ≤ 14
  · obtain ⟨hl1, hl14⟩ := hlen
    have hdds := HDS.out
    have s1 : decide ((ddt.size : Int) < 1) = false := by simp; omega
    have s2 : decide ((14 : Int) < (ddt.size : Int)) = false := by simp; omega
    have HS14 : Hid (ddt.size ≤ 14) := by show _ ≤ _; omega
    clear hdds hl1 hl14
    go_wp2_with fail
    go_loop [9, 10] (fun vn vi => ∃ (j acc : Nat) (a : Int), vn = .int .i64 a ∧ vi = .int .i64 (j : Int) ∧ j ≤ ddt.size ∧ Hid (a = (acc : Int) ∧ acc < 10 ^ j ∧ decV 0 dd = decV acc (dd.drop j))) (fun _ vi => ddt.size - (intOf vi).toNat)
    case atStart => exact ⟨0, 0, 0, rfl, rfl, Nat.zero_le _, rfl, by decide, rfl⟩
    case round =>
      obtain ⟨j, acc, a, rfl, rfl, hj, hh⟩ := hrel
      obtain ⟨ha, hacc, hdec⟩ := hh.out
      clear hh
      have hp : 10 ^ j ≤ 10 ^ 14 := Nat.pow_le_pow_right (by decide) (Nat.le_trans hj HS14.out)
      have e14 : (10 : Nat) ^ 14 = 100000000000000 := by decide
      have a0 : 0 ≤ a := by omega
      have a1 : a ≤ 100000000000000 := by omega
      by_cases hjs : j < ddt.size
      · have j0 : (0 : Int) ≤ (j : Int) := by omega
        have j1 : (j : Int) < (ddt.size : Int) := by omega
        obtain ⟨cj, hcj⟩ : ∃ cj, cj = ddt[j] := ⟨_, rfl⟩
        have hdr := HDG.out j hjs
        rw [← hcj] at hdr
        rw [hdr, decV] at hdec
        by_cases hdig : 48 ≤ cj.toNat ∧ cj.toNat ≤ 57
        · rw [if_pos hdig] at hdec
          obtain ⟨q0, q1⟩ := hdig
          have t1 : decide (((ddt[j]).toNat : Int) < 48) = false := by rw [← hcj]; simp; omega
          have t2 : decide ((57 : Int) < ((ddt[j]).toNat : Int)) = false := by rw [← hcj]; simp; omega
          have t3 : (48 : Int) ≤ ((ddt[j]).toNat : Int) := by rw [← hcj]; omega
          have t4 : ((ddt[j]).toNat : Int) ≤ 57 := by rw [← hcj]; omega
          have HNX : Hid (10 * a + (((ddt[j]).toNat : Int) - 48) = ((acc * 10 + (cj.toNat - 48) : Nat) : Int) ∧ acc * 10 + (cj.toNat - 48) < 10 ^ (j + 1) ∧ decV 0 dd = decV (acc * 10 + (cj.toNat - 48)) (dd.drop (j + 1))) := by
            refine ⟨by rw [← hcj]; omega, ?_, hdec⟩
            rw [Nat.pow_succ]
            omega
          have HJS : Hid (j < ddt.size) := hjs
          have j14 : (j : Int) ≤ 14 := by have := HS14.out; omega
          clear hdr hdec ha hacc hp e14 q0 q1 hcj
          go_wp2
          have hjs' := HJS.out
          refine ⟨⟨j + 1, acc * 10 + (cj.toNat - 48), 10 * a + (((ddt[j]).toNat : Int) - 48), rfl, by go_num, hjs', HNX⟩, ?_⟩
          simp [intOf]
          omega
        · rw [if_neg hdig] at hdec
          have HNO : Hid (∀ y, OkE okL y → ¬ l = bodyL y) := fun y hy hl => by
            have h1 := (HY.out y hy hl).2.2.1
            rw [h1, decV_dec] at hdec
            cases hdec
          have htt : (((ddt[j]).toNat : Int) < 48) ∨ (decide (((ddt[j]).toNat : Int) < 48) = false ∧ (57 : Int) < ((ddt[j]).toNat : Int)) := by
            rw [← hcj]
            rcases (by omega : cj.toNat < 48 ∨ 57 < cj.toNat) with h | h
            · exact .inl (by omega)
            · exact .inr ⟨by simp; omega, by omega⟩
          clear hdr hdec hdig ha hacc hp e14 hcj
          have hcR := HCE.out W3 HB3.out
          have f0 : W3.frozen? ⟨w.heap.size, 0, none⟩ = false := by simp [World.frozen?, hcR]
          have f1 : W3.frozen? ⟨w.heap.size, 1, none⟩ = false := by simp [World.frozen?, hcR]
          have f2 : W3.frozen? ⟨w.heap.size, 2, none⟩ = false := by simp [World.frozen?, hcR]
          have z0 : W3.cell? ⟨w.heap.size, 0, none⟩ = some (.string ⟨#[]⟩) := cells_of hcR 0
          have z1 : W3.cell? ⟨w.heap.size, 1, none⟩ = some (.int .i64 0) := cells_of hcR 1
          have z2 : W3.cell? ⟨w.heap.size, 2, none⟩ = some (.int .u64 0) := cells_of hcR 2
          have HC4 := (show Hid _ from hcR)
          clear hcR
          rcases htt with t1 | ⟨t1, t2⟩
          · go_wp2_with fail
            obtain ⟨g0, g1, g2⟩ := three_here HC4.out (.string ⟨#[]⟩) (.int .i64 0) (.int .u64 0)
            exact bodyPost_ret (v := .tuple #[.agg #[.string ⟨#[]⟩, .int .i64 0, .int .u64 0], .bool false]) (by simp [results, Tryz.results33, go_sem, g0, g1, g2]) rfl ⟨⟨([], 0, 0), false, rfl, (fun h => by cases h), fun y hy hl => absurd hl (HNO.out y hy)⟩, three_below (HBW.out.trans (HB3.out.mono HBW.out.size)) (Nat.le_refl _) _ _ _⟩
          · go_wp2_with fail
            obtain ⟨g0, g1, g2⟩ := three_here HC4.out (.string ⟨#[]⟩) (.int .i64 0) (.int .u64 0)
            exact bodyPost_ret (v := .tuple #[.agg #[.string ⟨#[]⟩, .int .i64 0, .int .u64 0], .bool false]) (by simp [results, Tryz.results33, go_sem, g0, g1, g2]) rfl ⟨⟨([], 0, 0), false, rfl, (fun h => by cases h), fun y hy hl => absurd hl (HNO.out y hy)⟩, three_below (HBW.out.trans (HB3.out.mono HBW.out.size)) (Nat.le_refl _) _ _ _⟩
      · have hje : j = ddt.size := by omega
        have HDE : Hid (decV 0 dd = some acc) := by
          show _ = _
          rw [hdec, List.drop_eq_nil_of_le (by rw [hje, HDS.out]; exact Nat.le_refl _)]
          rfl
        have HACC : Hid (a = (acc : Int)) := ha
        have hge : decide ((j : Int) < (ddt.size : Int)) = false := by simp; omega
        clear hje hdec ha hacc hp e14
        obtain ⟨t, ht⟩ : ∃ t : Int, t = if mn = true then -a else a := ⟨_, rfl⟩
        have HT := (show Hid _ from ht)
        have HYT : Hid (∀ y, OkE okL y → l = bodyL y → l.take k = y.1 ∧ hx = hexN 16 y.2.2 ∧ t = y.2.1) := fun y hy hl => by
          obtain ⟨h1, h2, h3, h4⟩ := HY.out y hy hl
          refine ⟨h1, h2, ?_⟩
          have h5 := HDE.out
          rw [h3, decV_dec] at h5
          have h6 := Option.some.inj h5
          rw [ht, HACC.out, ← h6]
          cases mn with
          | true =>
            have := h4.1 rfl
            rw [if_pos rfl]
            omega
          | false =>
            have : ¬ y.2.1 < 0 := fun h => by have := h4.2 h; cases this
            rw [if_neg (by decide)]
            omega
        clear ht
        go_upto_if 105 with fail
        go_cut [9] from 105 to 107 (fun v9 wz => wz = W3 ∧ v9 = .int .i64 t)
        case first =>
          cases mn with
          | true =>
            have hte : t = -a := HT.out
            go_wp2
            go_meet
            exact ⟨rfl, by rw [hte]⟩
          | false =>
            have hte : t = a := HT.out
            go_wp2
            go_meet
            exact ⟨rfl, by rw [hte]⟩
        case rest =>
          obtain ⟨hwz, rfl⟩ := hcut
          apply_assumption
          rw [hwz]
          exact body_t24 b l hb w W W3 HBW.out HCE.out HB3.out k hk HXT.out HLB.out t hx HHX.out HYT.out _ _ _ _ _ _ _ _ _ _ _ _ _ _ _ _ _ _ _ _ _ _ _ _ _ _ _ _ _ _ _ _ _ _ _ _ _ _ _ _ _ _ _ _ _ _ _ _ _ _ _ _ _ _ _ _ _ _ _ _ _ _ _ _ _ _ _ _ _ _ _ _ _ _ _ _ _ _ _ _ _ _ _ _ _ _ _ _ _ _ _ _ _ _ _ _ _ _ _ _ _ _ _ _ _ _ _ _ _ _ _ _ _ _ _ _ _ _ _ _ _ _ _ _ _ _ _ _ _ _ _ _ _ _ _
  · have HNO : Hid (∀ y, OkE okL y → ¬ l = bodyL y) := fun y hy hl => by
      have h1 := (HY.out y hy hl).2.2.1
      refine hlen ?_
      rw [h1]
      have e13 : (10 : Nat) ^ (12 + 1) = 10000000000000 := by decide
      have h2 := decDigits_len 12 y.2.1.natAbs (by have := hy.lo; have := hy.hi; omega)
      refine ⟨?_, by omega⟩
      cases h : Lib.decDigits y.2.1.natAbs with
      | nil => exact absurd h (decDigits_ne _)
      | cons => simp
    have hss : ((ddt.size : Int) < 1) ∨ (decide ((ddt.size : Int) < 1) = false ∧ (14 : Int) < (ddt.size : Int)) := by
      have := HDS.out
      rcases (by omega : dd.length < 1 ∨ 14 < dd.length) with h | h
      · exact .inl (by omega)
      · exact .inr ⟨by simp; omega, by omega⟩
    clear hlen
    have hcR := HCE.out W3 HB3.out
    have f0 : W3.frozen? ⟨w.heap.size, 0, none⟩ = false := by simp [World.frozen?, hcR]
    have f1 : W3.frozen? ⟨w.heap.size, 1, none⟩ = false := by simp [World.frozen?, hcR]
    have f2 : W3.frozen? ⟨w.heap.size, 2, none⟩ = false := by simp [World.frozen?, hcR]
    have z0 : W3.cell? ⟨w.heap.size, 0, none⟩ = some (.string ⟨#[]⟩) := cells_of hcR 0
    have z1 : W3.cell? ⟨w.heap.size, 1, none⟩ = some (.int .i64 0) := cells_of hcR 1
    have z2 : W3.cell? ⟨w.heap.size, 2, none⟩ = some (.int .u64 0) := cells_of hcR 2
    have HC4 := (show Hid _ from hcR)
    clear hcR
    rcases hss with t1 | ⟨t1, t2⟩
    · go_wp2_with fail
      obtain ⟨g0, g1, g2⟩ := three_here HC4.out (.string ⟨#[]⟩) (.int .i64 0) (.int .u64 0)
      exact bodyPost_ret (v := .tuple #[.agg #[.string ⟨#[]⟩, .int .i64 0, .int .u64 0], .bool false]) (by simp [results, Tryz.results33, go_sem, g0, g1, g2]) rfl ⟨⟨([], 0, 0), false, rfl, (fun h => by cases h), fun y hy hl => absurd hl (HNO.out y hy)⟩, three_below (HBW.out.trans (HB3.out.mono HBW.out.size)) (Nat.le_refl _) _ _ _⟩
    · go_wp2_with fail
      obtain ⟨g0, g1, g2⟩ := three_here HC4.out (.string ⟨#[]⟩) (.int .i64 0) (.int .u64 0)
      exact bodyPost_ret (v := .tuple #[.agg #[.string ⟨#[]⟩, .int .i64 0, .int .u64 0], .bool false]) (by simp [results, Tryz.results33, go_sem, g0, g1, g2]) rfl ⟨⟨([], 0, 0), false, rfl, (fun h => by cases h), fun y hy hl => absurd hl (HNO.out y hy)⟩, three_below (HBW.out.trans (HB3.out.mono HBW.out.size)) (Nat.le_refl _) _ _ _⟩
end Go.Proofs.YtplfnblpmagbjabGreatDoor
/- The document's bodyOf by its contract. -/
namespace Go.Proofs.YtplfnblpmagbjabGreatDoor
open Go.Shelf Go.RowKit LabMath WalMath

set_option maxRecDepth 1000000 in
set_option maxHeartbeats 4000000 in
theorem bodyOf_any (b : ByteArray) (hb : b.size ≤ 100000) (w : World) :
    Calls Tryz.prog 33 #[.string b] w fun e w' => BdyOut b.data.toList e ∧ Below w.heap.size w w' := by
  have hll : b.data.toList.length = b.size := Array.length_toList
  obtain ⟨W, hW⟩ : ∃ W, W = w.alloc (.cells #[.string ⟨#[]⟩, .int .i64 0, .int .u64 0] 76) := ⟨_, rfl⟩
  have hbW : Below w.heap.size w W := by rw [hW]; exact (Below.refl _ _).alloc (Nat.le_refl _) _
  have hac : W.heap[w.heap.size]? = some (.cells #[.string ⟨#[]⟩, .int .i64 0, .int .u64 0] 76 (0, 0)) := by rw [hW]; exact heap_alloc_new _ _
  have HBW := (show Hid _ from hbW)
  have HCE : Hid (∀ z, Below W.heap.size W z → z.heap[w.heap.size]? = some (.cells #[.string ⟨#[]⟩, .int .i64 0, .int .u64 0] 76 (0, 0))) := fun z hz => (hz.block w.heap.size (blk_lt hac)).trans hac
  have HGE : Hid (∀ j (hj : j < b.size), b.data.toList[j]'(by rw [hll]; exact hj) = b[j]) := fun j hj => rfl
  have HXT : Hid (∀ i, b.extract 0 i = txt (b.data.toList.take i)) := ext_take b
  have HXM : Hid (∀ i j, i ≤ j → b.extract i j = txt ((b.data.toList.drop i).take (j - i))) := fun i j hij => by
    apply ByteArray.ext
    apply Array.ext'
    rw [Lib.extract_data]
    rfl
  obtain ⟨l, hl⟩ : ∃ l, l = b.data.toList := ⟨_, rfl⟩
  obtain ⟨n, hn⟩ : ∃ n, n = b.size := ⟨_, rfl⟩
  have HLL : Hid (l.length = b.size) := by rw [hl]; exact hll
  have HGL : Hid (∀ j (hj : j < b.size), l[j]'(by rw [HLL.out]; exact hj) = b[j]) := by
    subst hl
    exact HGE.out
  rw [← hl] at HXT HXM ⊢
  clear hl hll hac hbW hn HGE
  have HB0 : Hid (Below W.heap.size W W) := Below.refl _ _
  go_enter Tryz.func33, Tryz.ntmps33
  go_upto_region 1 with fail
  rw [← hW]
  clear hW
  go_wp2_with fail
  go_loop [4] (fun i => ∃ k : Nat, k ≤ b.size ∧ i = .int .i64 (k : Int) ∧ Hid (∀ j (hj : j < b.size), j < k → b[j] ≠ 64)) (fun i => b.size - (intOf i).toNat)
  case atStart => exact ⟨0, Nat.zero_le _, rfl, fun j hj h => absurd h (by omega)⟩
  case round =>
    obtain ⟨k, hk, rfl, hh⟩ := hrel
    by_cases hks : k < b.size
    · have k0 : (0 : Int) ≤ (k : Int) := by omega
      have k1 : (k : Int) < (b.size : Int) := by omega
      obtain ⟨c, hc⟩ : ∃ c, c = b[k] := ⟨_, rfl⟩
      by_cases hc64 : c = 64
      · have d64 : ((c.toNat : Int) != 64) = false := by rw [hc64]; rfl
        have HK : Hid (∀ y, OkE okL y → l = bodyL y → l.take k = y.1 ∧ k + 19 ≤ l.length ∧ l[l.length - 17]? = some 61 ∧ (l.drop (k + 1)).take (l.length - 17 - (k + 1)) = Lib.itoa y.2.1 ∧ l.drop (l.length - 16) = hexN 16 y.2.2) := fun y hy hl => by
          refine body_parts lab_is hy hl k (by rw [HLL.out]; exact hks) (fun j hj => ?_) ?_
          · rw [HGL.out j (by omega)]
            exact hh.out j (by omega) hj
          · rw [HGL.out k hks, ← hc]
            exact hc64
        clear hh hc64
        have HCK : Hid (c = b[k]) := hc
        by_cases h19 : k + 19 ≤ b.size
        · obtain ⟨m, hm⟩ : ∃ m : Nat, m = b.size - 17 := ⟨_, rfl⟩
          have hmI : (b.size : Int) - 17 = (m : Int) := by omega
          have m0 : (0 : Int) ≤ (m : Int) := by omega
          have m1 : (m : Int) < (b.size : Int) := by omega
          have nm1 : m < b.size := by omega
          have g1 : ((k : Int) == (b.size : Int)) = false := by rw [beq_eq_false_iff_ne]; omega
          have g2 : decide ((b.size : Int) - (k : Int) < 19) = false := by simp; omega
          obtain ⟨c17, hc17⟩ : ∃ c17, c17 = b[m] := ⟨_, rfl⟩
          have hkm : k + 2 ≤ m := by omega
          have HM : Hid (m = b.size - 17 ∧ k + 2 ≤ m) := ⟨hm, hkm⟩
          by_cases hc61 : c17 = 61
          · have d61 : ((c17.toNat : Int) != 61) = false := by rw [hc61]; rfl
            have HLB := (show Hid _ from ref_labels W (txt (l.take k)) (by rw [txt_size, List.length_take, HLL.out]; omega))
            have e0 : (txt (l.take k)).data.toList = l.take k := by rfl
            rw [e0] at HLB
            have kk1 : (k : Int) ≤ (b.size : Int) := by omega
            have hq1 : (0 : Int) ≤ (k : Int) + 1 := by omega
            have hq2 : (k : Int) + 1 ≤ (m : Int) := by omega
            have hq3 : (m : Int) ≤ (b.size : Int) := by omega
            rw [hc] at d64
            rw [hc17] at d61
            clear hc61 hm
            go_wp2_with fail
            rw [HXT.out]
            refine Calls.mono HLB.out ?_
            rintro e w2 ⟨hb2, x2, rfl⟩
            have HB2 := (show Hid _ from hb2)
            clear hb2 HLB
            dsimp only
            obtain ⟨C, hC⟩ : ∃ C, C = readC (l.take k) := ⟨_, rfl⟩
            obtain ⟨A, hA⟩ : ∃ A, A = readA (l.take k) := ⟨_, rfl⟩
            rw [← hC, ← hA]
            have HC := (show Hid _ from hC)
            have hC0 : 0 ≤ C := by rw [hC]; exact readC_nonneg _
            obtain ⟨W3, hW3⟩ : ∃ W3, W3 = w2.alloc (.cells #[.int .i64 C, .int .i64 A] 40) := ⟨_, rfl⟩
            have hfc : W3.heap[w2.heap.size]? = some (.cells #[.int .i64 C, .int .i64 A] 40 (0, 0)) := by rw [hW3]; exact heap_alloc_new _ _
            have y0 : W3.cell? ⟨w2.heap.size, 0, none⟩ = some (.int .i64 C) := cells_of hfc 0
            have HB3 : Hid (Below W.heap.size W W3) := by rw [hW3]; exact HB2.out.alloc HB2.out.size _
            clear hC hA hfc d64 d61
            go_upto_region 7 with fail
            rw [← hW3]
            clear hW3
            by_cases hCp : 0 < C
            · have HNO : Hid (∀ y, OkE okL y → ¬ l = bodyL y) := fun y hy hl => by
                have h1 := (HK.out y hy hl).1
                have h2 : readC y.1 = 0 := hy.lab
                rw [← h1, ← HC.out] at h2
                omega
              have hcR := HCE.out W3 HB3.out
              have f0 : W3.frozen? ⟨w.heap.size, 0, none⟩ = false := by simp [World.frozen?, hcR]
              have f1 : W3.frozen? ⟨w.heap.size, 1, none⟩ = false := by simp [World.frozen?, hcR]
              have f2 : W3.frozen? ⟨w.heap.size, 2, none⟩ = false := by simp [World.frozen?, hcR]
              have z0 : W3.cell? ⟨w.heap.size, 0, none⟩ = some (.string ⟨#[]⟩) := cells_of hcR 0
              have z1 : W3.cell? ⟨w.heap.size, 1, none⟩ = some (.int .i64 0) := cells_of hcR 1
              have z2 : W3.cell? ⟨w.heap.size, 2, none⟩ = some (.int .u64 0) := cells_of hcR 2
              have HC4 := (show Hid _ from hcR)
              clear hcR
              go_wp2_with fail
              obtain ⟨g0, g1, g2⟩ := three_here HC4.out (.string ⟨#[]⟩) (.int .i64 0) (.int .u64 0)
              exact bodyPost_ret (v := .tuple #[.agg #[.string ⟨#[]⟩, .int .i64 0, .int .u64 0], .bool false]) (by simp [results, Tryz.results33, go_sem, g0, g1, g2]) rfl ⟨⟨([], 0, 0), false, rfl, (fun h => by cases h), fun y hy hl => absurd hl (HNO.out y hy)⟩, three_below (HBW.out.trans (HB3.out.mono HBW.out.size)) (Nat.le_refl _) _ _ _⟩
            · have hCz : C = 0 := by omega
              have HLBL : Hid (okL (l.take k)) := by
                show readC (l.take k) = 0
                rw [← HC.out]
                exact hCz
              obtain ⟨dg, hdg⟩ : ∃ dg, dg = (l.drop (k + 1)).take (m - (k + 1)) := ⟨_, rfl⟩
              have HXD : Hid (b.extract (k + 1) m = txt dg) := by rw [hdg]; exact HXM.out (k + 1) m (by omega)
              have hdl : dg.length = m - (k + 1) := by rw [hdg, List.length_take, List.length_drop, HLL.out]; omega
              obtain ⟨hx, hhx⟩ : ∃ hx, hx = l.drop (b.size - 16) := ⟨_, rfl⟩
              have HY : Hid (∀ y, OkE okL y → l = bodyL y → l.take k = y.1 ∧ dg = Lib.itoa y.2.1 ∧ hx = hexN 16 y.2.2) := fun y hy hl => by
                obtain ⟨h1, _, _, h4, h5⟩ := HK.out y hy hl
                rw [HLL.out] at h4 h5
                rw [HM.out.1] at hdg
                exact ⟨h1, by rw [hdg]; exact h4, by rw [hhx]; exact h5⟩
              obtain ⟨dt, hdt⟩ : ∃ dt, dt = txt dg := ⟨_, rfl⟩
              have hds : dt.size = dg.length := by rw [hdt]; exact txt_size dg
              have n0 : 0 < dt.size := by omega
              have i0 : (0 : Int) < (dt.size : Int) := by omega
              obtain ⟨c0, hc0⟩ : ∃ c0, c0 = dt[0] := ⟨_, rfl⟩
              have HHD : Hid (dg.head? = some c0) := by
                subst hdt
                show _ = _
                rw [hc0]
                cases dg with
                | nil => simp at hdl; omega
                | cons x r => rfl
              obtain ⟨dd, hdd⟩ : ∃ dd, dd = unsign dg := ⟨_, rfl⟩
              obtain ⟨ddt, hddt⟩ : ∃ ddt, ddt = txt dd := ⟨_, rfl⟩
              have HT1 : Hid (c0 = 45 → dt.extract 1 dt.size = ddt) := fun h => by
                rw [hddt, hdd, hdt, ext_drop]
                unfold unsign
                rw [if_pos (by rw [HHD.out, h])]
                rfl
              have HT0 : Hid (c0 ≠ 45 → dt = ddt) := fun h => by
                rw [hddt, hdd, hdt]
                unfold unsign
                rw [if_neg (by rw [HHD.out]; intro e; exact h (Option.some.inj e))]
              have HDD := (show Hid _ from hdd)
              have HDDT : Hid (ddt = txt dd) := hddt
              have HD1 : Hid (1 ≤ dt.size) := n0
              have hc1 : (1 : Int) ≤ (dt.size : Int) := by omega
              have hCt : decide ((0 : Int) < C) = false := by rw [hCz]; rfl
              have HHX : Hid (hx.length = 16 ∧ ∀ j (hj : j < 16), hx.drop j = b[b.size - 16 + j]'(by omega) :: hx.drop (j + 1)) := by
                have h16 : hx.length = 16 := by rw [hhx, List.length_drop, HLL.out]; omega
                refine ⟨h16, fun j hj => ?_⟩
                rw [List.drop_eq_getElem_cons (by omega)]
                congr 1
                rw [← HGL.out (b.size - 16 + j) (by omega)]
                simp only [hhx, List.getElem_drop]
              have HDT : Hid (dt = txt dg) := hdt
              clear hdg hhx hdt hds hddt hdd hdl hCp hCz
              go_upto_region 10 with fail
              rw [HXD.out, ← HDT.out]
              go_upto_if 68 with fail
              rw [← hc0]
              go_cut [7] from 68 to 70 (fun v7 wz => wz = W3 ∧ v7 = .string ddt)
              case first =>
                by_cases h45 : c0 = 45
                · have e45 : ((c0.toNat : Int) == 45) = true := by rw [h45]; rfl
                  have hex := HT1.out h45
                  clear h45
                  go_wp2
                  go_meet
                  exact ⟨rfl, by first | rfl | rw [hex]⟩
                · have e45 : ((c0.toNat : Int) == 45) = false := by
                    rw [beq_eq_false_iff_ne]
                    intro e
                    refine h45 (UInt8.toNat_inj.1 ?_)
                    show c0.toNat = 45
                    omega
                  have hex := HT0.out h45
                  clear h45
                  go_wp2
                  go_meet
                  exact ⟨rfl, by first | rfl | rw [hex]⟩
              case rest =>
                obtain ⟨hwz, rfl⟩ := hcut
                apply_assumption
                rw [hwz]
                have HYF : ∀ y, OkE okL y → l = bodyL y → l.take k = y.1 ∧ hx = hexN 16 y.2.2 ∧ dd = Lib.decDigits y.2.1.natAbs ∧ (((c0.toNat : Int) == 45) = true ↔ y.2.1 < 0) := fun y hy hl => by
                  obtain ⟨h1, h2, h3⟩ := HY.out y hy hl
                  have h4 := unsign_itoa y.2.1
                  rw [← h2, ← HDD.out, HHD.out] at h4
                  refine ⟨h1, h3, h4.1, ⟨fun h => h4.2.1 ?_, fun h => ?_⟩⟩
                  · congr 1
                    rw [beq_iff_eq] at h
                    refine UInt8.toNat_inj.1 ?_
                    show c0.toNat = 45
                    omega
                  · have e := Option.some.inj (h4.2.2 h)
                    rw [e]
                    rfl
                exact body_t13 b l hb w W W3 HBW.out HCE.out HB3.out k h19 (HXT.out k) HLBL.out _ dd ddt HDDT.out hx HHX.out HYF _ _ _ _ _ _ _ _ _ _ _ _ _ _ _ _ _ _ _ _ _ _ _ _ _ _ _ _ _ _ _ _ _ _ _ _ _ _ _ _ _ _ _ _ _ _ _ _ _ _ _ _ _ _ _ _ _ _ _ _ _ _ _ _ _ _ _ _ _ _ _ _ _ _ _ _ _ _ _ _ _ _ _ _ _ _ _ _ _ _ _ _ _ _ _ _ _ _ _ _ _ _ _ _ _ _ _ _ _ _ _ _ _ _ _ _ _ _ _ _ _ _ _ _ _ _ _ _ _ _ _ _ _ _
          · have HNO : Hid (∀ y, OkE okL y → ¬ l = bodyL y) := fun y hy hl => by
              have h1 := (HK.out y hy hl).2.2.1
              rw [HLL.out, ← HM.out.1, List.getElem?_eq_getElem (by rw [HLL.out]; exact nm1), HGL.out m nm1, ← hc17] at h1
              exact hc61 (Option.some.inj h1)
            have d61 : ((c17.toNat : Int) != 61) = true := by
              rw [bne_iff_ne]
              intro e
              refine hc61 (UInt8.toNat_inj.1 ?_)
              show c17.toNat = 61
              omega
            rw [hc] at d64
            rw [hc17] at d61
            clear hm hc61
            have hcR := HCE.out W HB0.out
            have f0 : W.frozen? ⟨w.heap.size, 0, none⟩ = false := by simp [World.frozen?, hcR]
            have f1 : W.frozen? ⟨w.heap.size, 1, none⟩ = false := by simp [World.frozen?, hcR]
            have f2 : W.frozen? ⟨w.heap.size, 2, none⟩ = false := by simp [World.frozen?, hcR]
            have z0 : W.cell? ⟨w.heap.size, 0, none⟩ = some (.string ⟨#[]⟩) := cells_of hcR 0
            have z1 : W.cell? ⟨w.heap.size, 1, none⟩ = some (.int .i64 0) := cells_of hcR 1
            have z2 : W.cell? ⟨w.heap.size, 2, none⟩ = some (.int .u64 0) := cells_of hcR 2
            have HC4 := (show Hid _ from hcR)
            clear hcR
            go_wp2_with fail
            obtain ⟨g0, g1, g2⟩ := three_here HC4.out (.string ⟨#[]⟩) (.int .i64 0) (.int .u64 0)
            exact bodyPost_ret (v := .tuple #[.agg #[.string ⟨#[]⟩, .int .i64 0, .int .u64 0], .bool false]) (by simp [results, Tryz.results33, go_sem, g0, g1, g2]) rfl ⟨⟨([], 0, 0), false, rfl, (fun h => by cases h), fun y hy hl => absurd hl (HNO.out y hy)⟩, three_below (HBW.out.trans (HB0.out.mono HBW.out.size)) (Nat.le_refl _) _ _ _⟩
        · have HNO : Hid (∀ y, OkE okL y → ¬ l = bodyL y) := fun y hy hl => by
            have h1 := (HK.out y hy hl).2.1
            rw [HLL.out] at h1
            omega
          have g1 : ((k : Int) == (b.size : Int)) = false := by rw [beq_eq_false_iff_ne]; omega
          have g2 : (b.size : Int) - (k : Int) < 19 := by omega
          rw [hc] at d64
          have hcR := HCE.out W HB0.out
          have f0 : W.frozen? ⟨w.heap.size, 0, none⟩ = false := by simp [World.frozen?, hcR]
          have f1 : W.frozen? ⟨w.heap.size, 1, none⟩ = false := by simp [World.frozen?, hcR]
          have f2 : W.frozen? ⟨w.heap.size, 2, none⟩ = false := by simp [World.frozen?, hcR]
          have z0 : W.cell? ⟨w.heap.size, 0, none⟩ = some (.string ⟨#[]⟩) := cells_of hcR 0
          have z1 : W.cell? ⟨w.heap.size, 1, none⟩ = some (.int .i64 0) := cells_of hcR 1
          have z2 : W.cell? ⟨w.heap.size, 2, none⟩ = some (.int .u64 0) := cells_of hcR 2
          have HC4 := (show Hid _ from hcR)
          clear hcR
          go_wp2_with fail
          obtain ⟨g0, g1, g2⟩ := three_here HC4.out (.string ⟨#[]⟩) (.int .i64 0) (.int .u64 0)
          exact bodyPost_ret (v := .tuple #[.agg #[.string ⟨#[]⟩, .int .i64 0, .int .u64 0], .bool false]) (by simp [results, Tryz.results33, go_sem, g0, g1, g2]) rfl ⟨⟨([], 0, 0), false, rfl, (fun h => by cases h), fun y hy hl => absurd hl (HNO.out y hy)⟩, three_below (HBW.out.trans (HB0.out.mono HBW.out.size)) (Nat.le_refl _) _ _ _⟩
      · have d64 : ((c.toNat : Int) != 64) = true := by
          rw [bne_iff_ne]
          intro e
          refine hc64 (UInt8.toNat_inj.1 ?_)
          show c.toNat = 64
          omega
        have HH : Hid (∀ j (hj : j < b.size), j < k + 1 → b[j] ≠ 64) := fun j hj hjk => by
          rcases Nat.lt_or_ge j k with h | h
          · exact hh.out j hj h
          · obtain rfl : j = k := by omega
            rw [← hc]
            exact hc64
        clear hh hc64
        rw [hc] at d64
        go_wp2_with fail
        exact ⟨⟨k + 1, by omega, by go_num, HH⟩, by simp [intOf]; omega⟩
    · have hke : k = b.size := by omega
      subst hke
      have HNO : Hid (∀ y, OkE okL y → ¬ l = bodyL y) := fun y hy hl => by
        have h64 : (64 : UInt8) ∈ l := by rw [hl]; exact body_has
        obtain ⟨j, hj, e⟩ := List.mem_iff_getElem.1 h64
        have hj' : j < b.size := by rw [← HLL.out]; exact hj
        rw [HGL.out j hj'] at e
        exact hh.out j hj' hj' e
      clear hh
      have hcR := HCE.out W HB0.out
      have f0 : W.frozen? ⟨w.heap.size, 0, none⟩ = false := by simp [World.frozen?, hcR]
      have f1 : W.frozen? ⟨w.heap.size, 1, none⟩ = false := by simp [World.frozen?, hcR]
      have f2 : W.frozen? ⟨w.heap.size, 2, none⟩ = false := by simp [World.frozen?, hcR]
      have z0 : W.cell? ⟨w.heap.size, 0, none⟩ = some (.string ⟨#[]⟩) := cells_of hcR 0
      have z1 : W.cell? ⟨w.heap.size, 1, none⟩ = some (.int .i64 0) := cells_of hcR 1
      have z2 : W.cell? ⟨w.heap.size, 2, none⟩ = some (.int .u64 0) := cells_of hcR 2
      have HC4 := (show Hid _ from hcR)
      clear hcR
      go_wp2_with fail
      obtain ⟨g0, g1, g2⟩ := three_here HC4.out (.string ⟨#[]⟩) (.int .i64 0) (.int .u64 0)
      exact bodyPost_ret (v := .tuple #[.agg #[.string ⟨#[]⟩, .int .i64 0, .int .u64 0], .bool false]) (by simp [results, Tryz.results33, go_sem, g0, g1, g2]) rfl ⟨⟨([], 0, 0), false, rfl, (fun h => by cases h), fun y hy hl => absurd hl (HNO.out y hy)⟩, three_below (HBW.out.trans (HB0.out.mono HBW.out.size)) (Nat.le_refl _) _ _ _⟩
end Go.Proofs.YtplfnblpmagbjabGreatDoor
/- The document's ReadLog by its contract. -/
namespace Go.Proofs.YtplfnblpmagbjabGreatDoor
open Go.Shelf Go.RowKit LabMath WalMath

theorem Tryz.infoMEnt : (Tryz.prog.info? 76).map (fun i => (i.zero, i.size, i.bytes)) = some (some (.agg #[.string ⟨#[]⟩, .int .i64 0, .int .u64 0]), 3, 32) := by kernel_rfl
theorem len_wrap (c0 c1 : UInt8) (n : Nat) (h : n = c0.toNat * 256 + c1.toNat) : wrap64 (wrap64 (wrap64 (c0.toNat : Int) * 256) + wrap64 (c1.toNat : Int)) = (n : Int) := by
  have h0 := c0.toNat_lt
  have h1 := c1.toNat_lt
  unfold wrap64
  omega
/-- What ReadLog answers. -/
def MLogOut (w w' : World) (l : List UInt8) (e : Ending) : Prop :=
  ∃ (L : List E) (v : Value), Reads okL l L ∧ e = .returned (.tuple #[v, .int .i64 ((recs L).length : Int)]) ∧ w'.ownsRow w.heap.size 76 3 v L.length (entCells L)

set_option maxRecDepth 1000000 in
set_option maxHeartbeats 4000000 in
theorem readLog_any (b : ByteArray) (hb : b.size ≤ 100000) (w : World) :
    Calls Tryz.prog 20 #[.string b] w fun e w' => MLogOut w w' b.data.toList e ∧ Below w.heap.size w w' := by
  have hll : b.data.toList.length = b.size := Array.length_toList
  have HXM : Hid (∀ i j, i ≤ j → b.extract i j = txt ((b.data.toList.drop i).take (j - i))) := fun i j hij => by
    apply ByteArray.ext
    apply Array.ext'
    rw [Lib.extract_data]
    rfl
  have HLN : Hid (∀ k (h0 : k < b.size) (h1 : k + 1 < b.size), lenOf (b.data.toList.drop k) = (b[k]).toNat * 256 + (b[k + 1]).toNat) := fun k h0 h1 => by
    unfold lenOf
    have e0 : (b.data.toList.drop k).getD 0 0 = b[k] := by
      rw [List.getD_eq_getElem?_getD, List.getElem?_drop, List.getElem?_eq_getElem (by omega)]
      rfl
    have e1 : (b.data.toList.drop k).getD 1 0 = b[k + 1] := by
      rw [List.getD_eq_getElem?_getD, List.getElem?_drop, List.getElem?_eq_getElem (by omega)]
      rfl
    rw [e0, e1]
  obtain ⟨l, hl⟩ : ∃ l, l = b.data.toList := ⟨_, rfl⟩
  rw [← hl] at hll HXM HLN ⊢
  have HLL := (show Hid _ from hll)
  clear hl hll
  go_enter Tryz.func20, Tryz.ntmps20
  go_wp2_with fail
  go_loopw [4, 5] (fun sv n wr => ∃ (L : List E) (v : Value) (k : Nat), v = sv ∧ n = .int .i64 (k : Int) ∧ Hid (k = (recs L).length ∧ (∀ e, e ∈ L → OkE okL e) ∧ recs L <+: l) ∧ wr.ownsRow w.heap.size 76 3 v L.length (entCells L) ∧ Below w.heap.size w wr) (fun _ n _ => b.size - (intOf n).toNat)
  case atStart => exact ⟨[], _, 0, rfl, rfl, ⟨rfl, fun e he => (by cases he), List.nil_prefix⟩, ⟨rfl, .inl ⟨rfl, rfl⟩⟩, Below.refl _ _⟩
  case round =>
    obtain ⟨L, v, k, rfl, rfl, hh, hown, hbr⟩ := hrel
    obtain ⟨hk, hall, hpre⟩ := hh.out
    have hkl : k ≤ b.size := by
      have := hpre.length_le
      have := HLL.out
      omega
    have hLk := recs_len L
    have hL1 : L.length ≤ 100000 := by omega
    have k0 : (0 : Int) ≤ (k : Int) := by omega
    have k1 : (k : Int) ≤ (b.size : Int) := by omega
    have hbz : (b.size : Int) ≤ 100000 := by omega
    have HEND : Hid ((∀ x, ¬ FirstIs okL (l.drop k) x) → Reads okL l L) := fun h => ⟨hall, hpre, by rw [← hk]; exact h⟩
    have HKK : Hid (k = (recs L).length) := hk
    have HH := (show Hid _ from And.intro hk (And.intro hall hpre))
    have HOW : Hid (wr.ownsRow w.heap.size 76 3 v L.length (entCells L)) := hown
    have HBR := (show Hid _ from hbr)
    have HFP : Hid (∀ x, FirstIs okL (l.drop k) x → k + 2 + lenOf (l.drop k) + 4 ≤ b.size ∧ lenOf (l.drop k) = (bodyL x).length ∧ ((l.drop k).drop 2).take (lenOf (l.drop k)) = bodyL x) := fun x hx => by
      obtain ⟨h1, _, h3, h4⟩ := first_parse lab_is hx
      rw [List.length_drop, HLL.out] at h1
      exact ⟨by omega, h3, h4⟩
    clear hh hk hall hpre hown hbr hLk
    by_cases h2 : k + 2 ≤ b.size
    · have d1 : (k : Int) + 2 ≤ (b.size : Int) := by omega
      have n0 : k < b.size := by omega
      have n1 : k + 1 < b.size := by omega
      have i0 : (k : Int) < (b.size : Int) := by omega
      have i1 : (k : Int) + 1 < (b.size : Int) := by omega
      have hlen := HLN.out k n0 n1
      obtain ⟨n, hn⟩ : ∃ n, n = lenOf (l.drop k) := ⟨_, rfl⟩
      rw [← hn] at hlen HFP
      obtain ⟨c0, hc0⟩ : ∃ c, c = b[k] := ⟨_, rfl⟩
      obtain ⟨kp, hkp⟩ : ∃ kp, kp = k + 1 := ⟨_, rfl⟩
      have hkpI : (k : Int) + 1 = (kp : Int) := by omega
      have p0 : (0 : Int) ≤ (kp : Int) := by omega
      have p1 : (kp : Int) < (b.size : Int) := by omega
      have np1 : kp < b.size := by omega
      obtain ⟨c1, hc1⟩ : ∃ c, c = b[kp] := ⟨_, rfl⟩
      have hc1' : c1 = b[k + 1] := by subst hkp; exact hc1
      rw [← hc0, ← hc1'] at hlen
      clear hc1' hkp
      have hcc0 := c0.toNat_lt
      have hcc1 := c1.toNat_lt
      have HNW : Hid (wrap64 (wrap64 (wrap64 (c0.toNat : Int) * 256) + wrap64 (c1.toNat : Int)) = (n : Int)) := len_wrap c0 c1 n hlen
      have hnl : n ≤ 65535 := by omega
      clear hn hlen hcc0 hcc1
      go_wp2_with fail
      go_quiet (fail)
      rw [← hc0, ← hc1, HNW.out]
      clear hc0 hc1 HNW hkpI
      obtain ⟨W, hW⟩ : ∃ W, W = wr.drewN nq := ⟨_, rfl⟩
      have HBW : Hid (Below w.heap.size w W) := by rw [hW]; exact below_draws HBR.out _
      have HOW2 : Hid (W.ownsRow w.heap.size 76 3 v L.length (entCells L)) := by rw [hW]; exact own_same HOW.out fun g hg => rfl
      rw [← hW]
      clear hW HBR HOW
      by_cases h6 : k + 2 + n + 4 ≤ b.size
      · have d6 : decide ((b.size : Int) < (k : Int) + 2 + (n : Int) + 4) = false := by simp; omega
        obtain ⟨ka, hka⟩ : ∃ ka, ka = k + 2 := ⟨_, rfl⟩
        obtain ⟨kb, hkb⟩ : ∃ kb, kb = k + 2 + n := ⟨_, rfl⟩
        obtain ⟨ke, hke⟩ : ∃ ke, ke = k + n + 6 := ⟨_, rfl⟩
        have hkaI : (k : Int) + 2 = (ka : Int) := by omega
        have hkbI : (ka : Int) + (n : Int) = (kb : Int) := by omega
        have hkcI : (kb : Int) + 4 ≤ (b.size : Int) := by omega
        have d6' : decide ((b.size : Int) < (kb : Int) + 4) = false := by simp; omega
        have ka0 : (0 : Int) ≤ (ka : Int) := by omega
        have kab : (ka : Int) ≤ (kb : Int) := by omega
        have kbs : (kb : Int) ≤ (b.size : Int) := by omega
        have HKN : Hid (ka = k + 2 ∧ kb = k + 2 + n ∧ ke = k + n + 6) := ⟨hka, hkb, hke⟩
        obtain ⟨bd, hbd⟩ : ∃ bd, bd = ((l.drop k).drop 2).take n := ⟨_, rfl⟩
        have HXB : Hid (b.extract ka kb = txt bd) := by
          rw [HXM.out ka kb (by omega), hbd, hka, hkb, List.drop_drop]
          congr 2
          · omega
        have hbdl : bd.length ≤ 100000 := by rw [hbd, List.length_take]; omega
        have HBO := (show Hid _ from bodyOf_any (txt bd) (by rw [txt_size]; exact hbdl) W)
        have e0 : (txt bd).data.toList = bd := by rfl
        rw [e0] at HBO
        have HBD := (show Hid _ from hbd)
        clear hka hkb hke hbd hbdl h6 d6 e0 h2
        go_wp2_with fail
        rw [HXB.out]
        refine Calls.mono HBO.out ?_
        rintro e w3 ⟨⟨x, fl, rfl, hok, huq⟩, hb3⟩
        have HB3 := (show Hid _ from HBW.out.trans (hb3.mono HBW.out.size))
        have HO3 : Hid (w3.ownsRow w.heap.size 76 3 v L.length (entCells L)) := own_same HOW2.out fun g hg => hb3.block g (own_blk HOW2.out hg).2.1
        have HUQ : Hid (∀ y, FirstIs okL (l.drop k) y → fl = true ∧ x = y) := fun y hy => huq y hy.1 (by rw [HBD.out]; exact (HFP.out y hy).2.2)
        clear hb3 HBO huq HOW2 HBW HXB
        obtain ⟨s, t, u⟩ := x
        unfold eV
        dsimp only
        obtain ⟨W4, hW4⟩ : ∃ W4, W4 = w3.alloc (.cells #[.string (txt s), .int .i64 t, .int .u64 (u : Int)] 76) := ⟨_, rfl⟩
        have hec : W4.heap[w3.heap.size]? = some (.cells #[.string (txt s), .int .i64 t, .int .u64 (u : Int)] 76 (0, 0)) := by rw [hW4]; exact heap_alloc_new _ _
        have HB4 : Hid (Below w.heap.size w W4) := by rw [hW4]; exact HB3.out.alloc HB3.out.size _
        have HO4 : Hid (W4.ownsRow w.heap.size 76 3 v L.length (entCells L)) := by rw [hW4]; exact World.ownsRow.alloc HO3.out _
        have HEC := (show Hid _ from hec)
        clear hec
        cases fl with
        | false =>
          have HRD : Hid (Reads okL l L) := HEND.out fun y hy => by
            have := (HUQ.out y hy).1
            cases this
          go_upto_region 7 with fail
          rw [← hW4]
          clear hW4
          go_wp2
          go_ret2
          exact ⟨⟨L, v, HRD.out, by rw [← HKK.out]; rfl, HO4.out⟩, HB4.out⟩
        | true =>
          have hokx := hok rfl
          have HOK := (show Hid _ from hokx)
          have hlab := (lab_is s hokx.lab).2
          have HRC : Hid (∀ z, Calls Tryz.prog 21 #[.string (txt s), .agg #[.int .i64 t, .int .u64 (u : Int)]] z fun e w' => e = .returned (.string (txt (recL (s, t, u)))) ∧ Below z.heap.size z w') := fun z => ref_record z (txt s) (by rw [txt_size]; exact hlab) t hokx.lo hokx.hi u hokx.val
          have HCX : Hid (∀ z, Below W4.heap.size W4 z → z.cell? ⟨w3.heap.size, 0, none⟩ = some (.string (txt s)) ∧ z.cell? ⟨w3.heap.size, 1, none⟩ = some (.int .i64 t) ∧ z.cell? ⟨w3.heap.size, 2, none⟩ = some (.int .u64 (u : Int))) := fun z hz => by
            have hb := (hz.block w3.heap.size (blk_lt HEC.out)).trans HEC.out
            exact ⟨cells_of hb 0, cells_of hb 1, cells_of hb 2⟩
          have kke : (k : Int) ≤ (k : Int) + (n : Int) + 6 := by omega
          have kes : (k : Int) + (n : Int) + 6 ≤ (b.size : Int) := by have := HKN.out; omega
          have hw1 : IntKind.i64.wrap ((k : Int) + (n : Int)) = (k : Int) + (n : Int) := IntWalk.i64_in _ (by omega)
          have hw2 : IntKind.i64.wrap ((k : Int) + (n : Int) + 6) = (k : Int) + (n : Int) + 6 := IntWalk.i64_in _ (by omega)
          have HXE : Hid (b.extract k (k + n + 6) = txt ((l.drop k).take (n + 6))) := by
            rw [HXM.out k (k + n + 6) (by omega)]
            congr 2
            omega
          have HKE : Hid (ke = k + n + 6) := HKN.out.2.2
          obtain ⟨ts, hts⟩ : ∃ ts, ts = txt s := ⟨_, rfl⟩
          have HTS := (show Hid _ from hts)
          obtain ⟨rt, hrt⟩ : ∃ rt, rt = txt (recL (s, t, u)) := ⟨_, rfl⟩
          have HRT := (show Hid _ from hrt)
          rw [← hts] at HRC HCX hW4 ⊢
          rw [← hrt] at HRC
          have hdr : Below W4.heap.size W4 W4.drew := ⟨rfl, rfl, rfl, Nat.le_refl _, fun _ _ => rfl⟩
          obtain ⟨x0, x1, x2⟩ := HCX.out W4.drew hdr
          clear hokx hlab hts hrt hok hkaI hkbI
          go_upto_region 7 with fail
          rw [← hW4]
          clear hW4
          by_cases heq : recL (s, t, u) = (l.drop k).take (n + 6)
          · have htn : ((k : Int) + (n : Int) + 6).toNat = k + n + 6 := by omega
            have hcmp : (rt.toList == (b.extract k ((k : Int) + (n : Int) + 6).toNat).toList) = true := by
              rw [htn]
              rw [beq_iff_eq, HXE.out, HRT.out, heq]
            have HFI : Hid (FirstIs okL (l.drop k) (s, t, u)) := ⟨HOK.out, by rw [heq]; exact List.take_prefix _ _⟩
            have hm : (recL (s, t, u)).length = n + 6 := by
              rw [recL_length]
              have := (HFP.out (s, t, u) HFI.out).2.1
              omega
            have HNX : Hid (ke = (recs (L ++ [(s, t, u)])).length ∧ (∀ e, e ∈ L ++ [(s, t, u)] → OkE okL e) ∧ recs (L ++ [(s, t, u)]) <+: l) := by
              obtain ⟨h1, h2, h3⟩ := HH.out
              refine ⟨?_, ?_, ?_⟩
              · rw [recs_app, List.length_append, ← h1, HKE.out]
                simp [recs]
                omega
              · intro e he
                rcases List.mem_append.1 he with he | he
                · exact h2 e he
                · rw [List.mem_singleton] at he
                  rw [he]
                  exact HOK.out
              · obtain ⟨r, hr⟩ := h3
                obtain ⟨r2, hr2⟩ := HFI.out.2
                refine ⟨r2, ?_⟩
                rw [recs_app]
                have e1 : l.drop k = r := by rw [← hr, h1, List.drop_left]
                rw [e1] at hr2
                rw [← hr, ← hr2]
                simp [recs]
            have hke0 : k < ke := by have := HKE.out; omega
            clear heq hm htn
            go_wp2_with fail
            go_region_held3 (fun w' => Below W4.heap.size W4 w' ∧ w'.cell? ⟨w3.heap.size, 0, none⟩ = some (.string ts) ∧ w'.cell? ⟨w3.heap.size, 1, none⟩ = some (.int .i64 t) ∧ w'.cell? ⟨w3.heap.size, 2, none⟩ = some (.int .u64 (u : Int))) (go_keep) (first
              | (go_at_call 21; refine Calls.mono (HRC.out _) ?_; rintro e w9 ⟨rfl, h9⟩; have k9 := Below.trans (by assumption) (h9.mono (Below.size (by assumption))); obtain ⟨q1, q2, q3⟩ := HCX.out _ k9; clear h9))
            all_goals (
              have HB9 : Hid (Below w.heap.size w w9) := HB4.out.trans (k9.mono HB4.out.size)
              have HO9 : Hid (w9.ownsRow w.heap.size 76 3 v L.length (entCells L)) := own_same HO4.out fun g hg => k9.block g (own_blk HO4.out hg).2.1
              have hownA : (w9.alloc (.cells #[.string ts, .int .i64 t, .int .u64 (u : Int)] 76)).ownsRow w.heap.size 76 3 v L.length (entCells L) := World.ownsRow.alloc HO9.out _
              have hs9 : w.heap.size ≤ w9.heap.size := HB9.out.size
              obtain ⟨j0, hi, hz0, hz1, hz2⟩ := info_parts Tryz.infoMEnt
              go_wp2_with (at_builtin; refine wpList_append_lies _ rfl _ _ 49 rfl w.heap.size 76 j0 (.agg #[.string ⟨#[]⟩, .int .i64 0, .int .u64 0]) 3 32 Tryz.underlying49 hi hz0 hz1 hz2 rfl (by decide) _ _ _ rfl hownA ⟨w9.heap.size, 0, none⟩ 1 1 [.string ts, .int .i64 t, .int .u64 (u : Int)] rfl rfl (World.news_of_block (heap_alloc_new w9 _)) ?c2 (by omega) ?c3 ?c4 ?c5 (w9.heap.size + 1) (by simp) ?_)
              case c2 => intro q hq; simp at hq; rcases hq with rfl | rfl | rfl <;> rfl
              case c3 => unfold maxLen; omega
              case c4 => omega
              case c5 => first | omega | (simp; omega)
              intro g1 cap1 w5 hown1 hgrow hat hlt1
              rw [HTS.out, show [Value.string (txt s), .int .i64 t, .int .u64 (u : Int)] = [Value.string (txt ((s, t, u) : E).1), .int .i64 ((s, t, u) : E).2.1, .int .u64 ((((s, t, u) : E).2.2 : Nat) : Int)] from rfl, entCells_snoc L (s, t, u)] at hown1
              have hle : (L ++ [(s, t, u)]).length = L.length + 1 := by simp
              have HB5 : Hid (Below w.heap.size w w5) := grown_far HB9.out HO9.out hgrow
              have HO5 : Hid (w5.ownsRow w.heap.size 76 3 (.slice (some ⟨g1, 0, none⟩) (L.length + 1) cap1) (L ++ [(s, t, u)]).length (entCells (L ++ [(s, t, u)]))) := by rw [hle]; exact hown1
              clear hown1 hgrow hat hlt1 hownA hle hs9
              go_wp2
              go_roundw
              case rel => exact ⟨L ++ [(s, t, u)], _, ke, rfl, by rw [HKE.out]; first | rfl | go_num | (congr 1; omega), HNX.out, HO5.out, HB5.out⟩
              case measure => simp [intOf] <;> omega)
          · have htn : ((k : Int) + (n : Int) + 6).toNat = k + n + 6 := by omega
            have hcmp : (rt.toList == (b.extract k ((k : Int) + (n : Int) + 6).toNat).toList) = false := by
              rw [htn]
              rw [beq_eq_false_iff_ne]
              intro e
              rw [HXE.out, HRT.out, ByteArray.toList_eq, ByteArray.toList_eq] at e
              exact heq e
            have HRD : Hid (Reads okL l L) := HEND.out fun y hy => by
              have e1 := (HUQ.out y hy).2
              subst e1
              refine heq ?_
              obtain ⟨r, hr⟩ := hy.2
              have hm : (recL (s, t, u)).length = n + 6 := by
                rw [recL_length]
                have := (HFP.out (s, t, u) hy).2.1
                omega
              rw [← hr, ← hm]
              simp
            clear heq htn
            go_wp2_with fail
            go_region_held3 (fun w' => Below W4.heap.size W4 w' ∧ w'.cell? ⟨w3.heap.size, 0, none⟩ = some (.string ts) ∧ w'.cell? ⟨w3.heap.size, 1, none⟩ = some (.int .i64 t) ∧ w'.cell? ⟨w3.heap.size, 2, none⟩ = some (.int .u64 (u : Int))) (go_keep) (first
              | (go_at_call 21; refine Calls.mono (HRC.out _) ?_; rintro e w9 ⟨rfl, h9⟩; have k9 := Below.trans (by assumption) (h9.mono (Below.size (by assumption))); obtain ⟨q1, q2, q3⟩ := HCX.out _ k9; clear h9))
            all_goals (
              go_wp2
              go_ret2
              exact ⟨⟨L, v, HRD.out, by rw [← HKK.out]; rfl, own_same HO4.out fun g hg => k9.block g (own_blk HO4.out hg).2.1⟩, HB4.out.trans (k9.mono HB4.out.size)⟩)
      · have d6 : (b.size : Int) < (k : Int) + 2 + (n : Int) + 4 := by omega
        have HRD : Hid (Reads okL l L) := HEND.out fun y hy => by
          have := (HFP.out y hy).1
          omega
        go_wp2
        go_ret2
        exact ⟨⟨L, v, HRD.out, by rw [← HKK.out]; rfl, HOW2.out⟩, HBW.out⟩
    · have d1 : decide ((k : Int) + 2 ≤ (b.size : Int)) = false := by simp; omega
      have HRD : Hid (Reads okL l L) := HEND.out fun y hy => by
        have := (HFP.out y hy).1
        omega
      go_wp2
      go_ret2
      exact ⟨⟨L, v, HRD.out, by rw [← HKK.out]; rfl, HOW.out⟩, HBR.out⟩
end Go.Proofs.YtplfnblpmagbjabGreatDoor
/- The document's disk by contracts. -/
namespace Go.Proofs.YtplfnblpmagbjabGreatDoor
open Go.Shelf Go.RowKit LabMath WalMath

/-- The document's disk. -/
def MDAt (w : World) (mb : Nat) (B : List UInt8) (off : Bool) (cut : Int) : Prop := w.heap[mb]? = some (.cells #[.string (txt B), .bool off, .int .i64 cut] 31 (0, 0))
/-- How its cut stands to the program's. -/
def RelC (d : Dk) (cut : Int) : Prop := d.off = false → cut = if d.waits = true then (d.left : Int) else -1
structure ApBox (w wz : World) (mb : Nat) (t : Int) (u : Nat) (B : List UInt8) (off : Bool) (cut : Int) : Prop where
  kept : Kept [mb] w wz
  pt : wz.heap[w.heap.size]? = some (.cells #[.int .i64 t, .int .u64 (u : Int)] 34 (0, 0))
  rs : wz.heap[w.heap.size + 1]? = some (.cells #[.int .i64 0, .int .i64 0] 40 (0, 0))
  md : MDAt wz mb B off cut
  lt : mb < w.heap.size
theorem ApBox.below {w wz wy : World} {mb : Nat} {t : Int} {u : Nat} {B : List UInt8} {off : Bool} {cut : Int} (h : ApBox w wz mb t u B off cut) (hb : Below wz.heap.size wz wy) : ApBox w wy mb t u B off cut :=
  ⟨h.kept.trans (Kept.of_below hb) (fun _ hx => .inl hx), (hb.block _ (blk_lt h.pt)).trans h.pt, (hb.block _ (blk_lt h.rs)).trans h.rs, (hb.block _ (blk_lt h.md)).trans h.md, h.lt⟩
theorem ApBox.setMd {w wz : World} {mb : Nat} {t : Int} {u : Nat} {B B' : List UInt8} {off off' : Bool} {cut cut' : Int} (h : ApBox w wz mb t u B off cut) {wy : World} (hk : Kept [mb] wz wy) (hm : MDAt wy mb B' off' cut') : ApBox w wy mb t u B' off' cut' :=
  ⟨h.kept.trans hk (fun _ hx => .inl hx), (hk.block _ (blk_lt h.pt) (by have := h.lt; simp; omega)).trans h.pt, (hk.block _ (blk_lt h.rs) (by have := h.lt; simp; omega)).trans h.rs, hm, h.lt⟩
theorem two_here {a : World} {b : Nat} {p q : Value} {t : TypeId} (h : a.heap[b]? = some (.cells #[p, q] t (0, 0))) (u v : Value) :
    ((a.setCell ⟨b, 0, none⟩ u).setCell ⟨b, 1, none⟩ v).cell? ⟨b, 0, none⟩ = some u ∧ ((a.setCell ⟨b, 0, none⟩ u).setCell ⟨b, 1, none⟩ v).cell? ⟨b, 1, none⟩ = some v := by
  have h3 := heap_set (heap_set h 0 u) 1 v
  exact ⟨cells_of h3 0, cells_of h3 1⟩
theorem ApBox.fin {w wz : World} {mb : Nat} {t : Int} {u : Nat} {B : List UInt8} {off : Bool} {cut : Int} (h : ApBox w wz mb t u B off cut) (C A : Value) :
    Kept [mb] w ((wz.setCell ⟨w.heap.size + 1, 0, none⟩ C).setCell ⟨w.heap.size + 1, 1, none⟩ A) ∧ MDAt ((wz.setCell ⟨w.heap.size + 1, 0, none⟩ C).setCell ⟨w.heap.size + 1, 1, none⟩ A) mb B off cut :=
  ⟨(h.kept.setCell (.inr (by simp)) _).setCell (.inr (by simp)) _, by
    have := h.lt
    show _ = _
    rw [heap_other _ _ _ (by show mb ≠ w.heap.size + 1; omega), heap_other _ _ _ (by show mb ≠ w.heap.size + 1; omega)]
    exact h.md⟩
theorem MDAt.setB {w : World} {mb : Nat} {B : List UInt8} {off : Bool} {cut : Int} (h : MDAt w mb B off cut) (B' : List UInt8) : MDAt (w.setCell ⟨mb, 0, none⟩ (.string (txt B'))) mb B' off cut := heap_set h 0 _
theorem MDAt.setOff {w : World} {mb : Nat} {B : List UInt8} {off : Bool} {cut : Int} (h : MDAt w mb B off cut) (o : Bool) : MDAt (w.setCell ⟨mb, 1, none⟩ (.bool o)) mb B o cut := heap_set h 1 _
theorem MDAt.setCut {w : World} {mb : Nat} {B : List UInt8} {off : Bool} {cut : Int} (h : MDAt w mb B off cut) (c : Int) : MDAt (w.setCell ⟨mb, 2, none⟩ (.int .i64 c)) mb B off c := heap_set h 2 _

/-- What the document's SetCut answers. -/
def ScOut (w : World) (mb : Nat) (B : List UInt8) (off : Bool) (n : Int) (e : Ending) (w' : World) : Prop :=
  (n < 0 ∧ e = .returned (.int .i64 2) ∧ w' = w) ∨ (¬ n < 0 ∧ off = true ∧ e = .returned (.int .i64 10) ∧ w' = w) ∨ (¬ n < 0 ∧ off = false ∧ e = .returned (.int .i64 0) ∧ MDAt w' mb B off n ∧ Kept [mb] w w')

set_option maxRecDepth 1000000 in
theorem md_setCut (w : World) (mb : Nat) (B : List UInt8) (off : Bool) (cut : Int) (h : MDAt w mb B off cut) (n : Int) :
    Calls Tryz.prog 11 #[.pointer (some ⟨mb, 0, none⟩), .int .i64 n] w fun e w' => ScOut w mb B off n e w' := by
  have z1 : w.cell? ⟨mb, 1, none⟩ = some (.bool off) := cells_of h 1
  have z2 : w.cell? ⟨mb, 2, none⟩ = some (.int .i64 cut) := cells_of h 2
  have f2 : w.frozen? ⟨mb, 2, none⟩ = false := by unfold MDAt at h; simp [World.frozen?, h]
  have HM : Hid (MDAt w mb B off cut) := h
  clear h
  by_cases hn : n < 0
  · go_enter Tryz.func11, Tryz.ntmps11
    go_wp2
    go_ret
    exact .inl ⟨hn, rfl, rfl⟩
  · have d1 : decide (n < 0) = false := by simp; omega
    cases off with
    | true =>
      go_enter Tryz.func11, Tryz.ntmps11
      go_wp2
      go_ret
      exact .inr (.inl ⟨by omega, rfl, rfl, rfl⟩)
    | false =>
      go_enter Tryz.func11, Tryz.ntmps11
      go_wp2
      go_ret
      exact .inr (.inr ⟨by omega, rfl, rfl, HM.out.setCut n, Kept.set1 _ _ _⟩)

set_option maxRecDepth 1000000 in
theorem md_recover (w : World) (mb : Nat) (B : List UInt8) (off : Bool) (cut : Int) (h : MDAt w mb B off cut) (hl : B.length ≤ 100000) :
    Calls Tryz.prog 15 #[.pointer (some ⟨mb, 0, none⟩)] w fun e w' => ∃ (L : List E) (v : Value), Reads okL B L ∧ e = .returned v ∧ MDAt w' mb (recs L) false (-1) ∧ Kept [mb] w w' ∧ w'.ownsRow w.heap.size 76 3 v L.length (entCells L) := by
  have z0 : w.cell? ⟨mb, 0, none⟩ = some (.string (txt B)) := cells_of h 0
  have HM : Hid (MDAt w mb B off cut) := h
  have HR : Hid (Calls Tryz.prog 20 #[.string (txt B)] w fun e w' => MLogOut w w' B e ∧ Below w.heap.size w w') := readLog_any (txt B) (by rw [txt_size]; exact hl) w
  have hlt : mb < w.heap.size := blk_lt h
  have HSZ : Hid ((txt B).size = B.length) := txt_size B
  have HXT : Hid (∀ i, (txt B).extract 0 i = txt (B.take i)) := fun i => ext_take (txt B) i
  obtain ⟨bt, hbt⟩ : ∃ bt, bt = txt B := ⟨_, rfl⟩
  rw [← hbt] at z0 HR HSZ HXT
  have HBT := (show Hid _ from hbt)
  clear h hbt
  go_enter Tryz.func15, Tryz.ntmps15
  go_wp2_with fail
  refine Calls.mono HR.out ?_
  rintro e w2 ⟨⟨L, v, hRd, rfl, hown⟩, hb2⟩
  have hm2 : w2.heap[mb]? = some (.cells #[.string bt, .bool off, .int .i64 cut] 31 (0, 0)) := by
    rw [HBT.out]
    exact (hb2.block mb hlt).trans HM.out
  have y0 : w2.cell? ⟨mb, 0, none⟩ = some (.string bt) := cells_of hm2 0
  have y1 : w2.cell? ⟨mb, 1, none⟩ = some (.bool off) := cells_of hm2 1
  have y2 : w2.cell? ⟨mb, 2, none⟩ = some (.int .i64 cut) := cells_of hm2 2
  have f0 : w2.frozen? ⟨mb, 0, none⟩ = false := by simp [World.frozen?, hm2]
  have f1 : w2.frozen? ⟨mb, 1, none⟩ = false := by simp [World.frozen?, hm2]
  have f2 : w2.frozen? ⟨mb, 2, none⟩ = false := by simp [World.frozen?, hm2]
  have hpl := hRd.pre.length_le
  have HXE : Hid (bt.extract 0 (recs L).length = txt (recs L)) := by
    rw [HXT.out]
    congr 1
    obtain ⟨r, hr⟩ := hRd.pre
    rw [← hr]
    simp
  have k0 : (0 : Int) ≤ ((recs L).length : Int) := by omega
  have k1 : ((recs L).length : Int) ≤ (bt.size : Int) := by rw [HSZ.out]; omega
  have HRD := (show Hid _ from hRd)
  have HOW : Hid (w2.ownsRow w.heap.size 76 3 v L.length (entCells L)) := hown
  have HB2 := (show Hid _ from hb2)
  have HM2 : Hid (MDAt w2 mb B off cut) := by
    show _ = _
    rw [hm2, HBT.out]
  obtain ⟨k, hk⟩ : ∃ k, k = (recs L).length := ⟨_, rfl⟩
  rw [← hk] at k0 k1 HXE ⊢
  clear hRd hown hb2 hm2 hpl hk HR
  dsimp only
  go_wp2
  go_ret
  rw [HXE.out]
  refine ⟨L, v, HRD.out, rfl, ((HM2.out.setB (recs L)).setOff false).setCut (-1), ?_, ?_⟩
  · refine (Kept.of_below HB2.out).trans (T := [mb]) ?_ (fun x hx => .inl hx)
    exact (((Kept.refl _ _).setCell (.inl (by simp)) _).setCell (.inl (by simp)) _).setCell (.inl (by simp)) _
  · refine own_same HOW.out fun g hg => ?_
    have hge := (own_blk HOW.out hg).1
    rw [heap_other _ _ _ (by show g ≠ mb; omega), heap_other _ _ _ (by show g ≠ mb; omega), heap_other _ _ _ (by show g ≠ mb; omega)]
end Go.Proofs.YtplfnblpmagbjabGreatDoor
/- The document's Append on a disk by its contract. -/
namespace Go.Proofs.YtplfnblpmagbjabGreatDoor
open Go.Shelf Go.RowKit LabMath WalMath

/-- What the document's Append answers. -/
def MaOut (w : World) (mb : Nat) (d : Dk) (s : List UInt8) (t : Int) (u : Nat) (e : Ending) (w' : World) : Prop :=
  e = .returned (.agg #[.int .i64 (appC d s t u), .int .i64 (appA s t)]) ∧ ∃ cut', MDAt w' mb (appD d s t u).L (appD d s t u).off cut' ∧ RelC (appD d s t u) cut' ∧ Kept [mb] w w'

set_option maxRecDepth 1000000 in
set_option maxHeartbeats 4000000 in
theorem md_append (w : World) (mb : Nat) (d : Dk) (cut : Int) (h : MDAt w mb d.L d.off cut) (hrel : RelC d cut) (hl : d.L.length ≤ 65536) (hlf : d.left ≤ 9223372036854775807) (s : ByteArray) (hs : s.size ≤ 100000) (t : Int) (u : Nat) (hu : u < 18446744073709551616) :
    Calls Tryz.prog 8 #[.pointer (some ⟨mb, 0, none⟩), .string s, .agg #[.int .i64 t, .int .u64 (u : Int)]] w fun e w' => MaOut w mb d s.data.toList t u e w' := by
  have hlt : mb < w.heap.size := blk_lt h
  obtain ⟨W, hW⟩ : ∃ W, W = (w.alloc (.cells #[.int .i64 t, .int .u64 (u : Int)] 34)).alloc (.cells #[.int .i64 0, .int .i64 0] 40) := ⟨_, rfl⟩
  have hs1 : (w.alloc (.cells #[.int .i64 t, .int .u64 (u : Int)] 34)).heap.size = w.heap.size + 1 := by simp
  have hbx : ApBox w W mb t u d.L d.off cut := by
    subst hW
    refine ⟨Kept.of_below (((Below.refl _ _).alloc (Nat.le_refl _) _).alloc (by simp) _), ?_, ?_, ?_, hlt⟩
    · exact (heap_alloc_old _ _ (by rw [hs1]; omega)).trans (heap_alloc_new _ _)
    · rw [← hs1]
      exact heap_alloc_new _ _
    · exact ((heap_alloc_old _ _ (by rw [hs1]; omega)).trans (heap_alloc_old _ _ hlt)).trans h
  have HBX := (show Hid _ from hbx)
  have HLB := (show Hid _ from ref_labels W s hs)
  have HRL := (show Hid (RelC d cut) from hrel)
  obtain ⟨L, off, waits, left⟩ := d
  dsimp only at hl hlf HBX
  clear h hbx hs1 hrel
  go_enter Tryz.func8, Tryz.ntmps8
  go_upto_region 1 with fail
  rw [← hW]
  clear hW
  go_wp2_with fail
  refine Calls.mono HLB.out ?_
  rintro e w2 ⟨hb2, x2, rfl⟩
  have HB2 := (show Hid _ from HBX.out.below hb2)
  clear hb2 HLB HBX
  dsimp only
  obtain ⟨C, hC⟩ : ∃ C, C = readC s.data.toList := ⟨_, rfl⟩
  obtain ⟨A, hA⟩ : ∃ A, A = readA s.data.toList := ⟨_, rfl⟩
  rw [← hC, ← hA]
  have HC := (show Hid _ from And.intro hC hA)
  have hC0 : 0 ≤ C := by rw [hC]; exact readC_nonneg _
  obtain ⟨W3, hW3⟩ : ∃ W3, W3 = w2.alloc (.cells #[.int .i64 C, .int .i64 A] 40) := ⟨_, rfl⟩
  have hfc : W3.heap[w2.heap.size]? = some (.cells #[.int .i64 C, .int .i64 A] 40 (0, 0)) := by rw [hW3]; exact heap_alloc_new _ _
  have y0 : W3.cell? ⟨w2.heap.size, 0, none⟩ = some (.int .i64 C) := cells_of hfc 0
  have y1 : W3.cell? ⟨w2.heap.size, 1, none⟩ = some (.int .i64 A) := cells_of hfc 1
  have HB3 : Hid (ApBox w W3 mb t u L off cut) := HB2.out.below (by rw [hW3]; exact (Below.refl _ _).alloc (Nat.le_refl _) _)
  clear hC hA hfc HB2
  go_upto_region 2 with fail
  rw [← hW3]
  clear hW3
  by_cases hCp : 0 < C
  · have HEQ : Hid (appC ⟨L, off, waits, left⟩ s.data.toList t u = C ∧ appA s.data.toList t = A ∧ appD ⟨L, off, waits, left⟩ s.data.toList t u = ⟨L, off, waits, left⟩) := by
      have hr : 0 < readC s.data.toList := by rw [← HC.out.1]; exact hCp
      have hk : chkC s.data.toList t = readC s.data.toList := if_pos hr
      have hk0 : 0 < chkC s.data.toList t := by rw [hk]; exact hr
      refine ⟨?_, ?_, ?_⟩
      · unfold appC; rw [if_pos hk0, hk, HC.out.1]
      · unfold appA chkA; rw [if_pos hk0, if_pos hr, HC.out.2]
      · unfold appD; rw [if_pos hk0]
    have hzr := HB3.out.rs
    have f0 : W3.frozen? ⟨w.heap.size + 1, 0, none⟩ = false := by simp [World.frozen?, hzr]
    have z0 : W3.cell? ⟨w.heap.size + 1, 0, none⟩ = some (.int .i64 0) := cells_of hzr 0
    have f1 : W3.frozen? ⟨w.heap.size + 1, 1, none⟩ = false := by simp [World.frozen?, hzr]
    have z1 : W3.cell? ⟨w.heap.size + 1, 1, none⟩ = some (.int .i64 0) := cells_of hzr 1
    have HZR := (show Hid _ from hzr)
    clear hzr
    go_wp2_with fail
    obtain ⟨g0, g1⟩ := two_here HZR.out (.int .i64 C) (.int .i64 A)
    have hfin := HB3.out.fin (.int .i64 C) (.int .i64 A)
    refine bodyPost_ret (v := .agg #[.int .i64 C, .int .i64 A]) (by simp [results, Tryz.results8, go_sem, g0, g1]) rfl ⟨?_, cut, ?_, ?_, hfin.1⟩
    · rw [HEQ.out.1, HEQ.out.2.1]
    · rw [HEQ.out.2.2]
      exact hfin.2
    · rw [HEQ.out.2.2]
      exact HRL.out
  · have hCz : C = 0 := by omega
    have hr0 : readC s.data.toList = 0 := by rw [← HC.out.1]; exact hCz
    have HR0 : Hid (readC s.data.toList = 0) := hr0
    have HTK := (show Hid _ from is_tick t W3)
    have hCd : decide ((0 : Int) < C) = false := by rw [hCz]; rfl
    have hpt := HB3.out.pt
    have p0 : W3.cell? ⟨w.heap.size, 0, none⟩ = some (.int .i64 t) := cells_of hpt 0
    clear hCp hCz hr0 y1 hpt
    go_wp2_with fail
    refine Calls.mono HTK.out ?_
    rintro e w4 ⟨rfl, hw4⟩
    have hw4' := hw4.symm
    subst hw4'
    clear HTK
    obtain ⟨fl, hfl⟩ : ∃ fl, fl = isTick t := ⟨_, rfl⟩
    rw [← hfl]
    dsimp only
    cases fl with
    | false =>
      have hnt : ¬ (-1099511627776 ≤ t ∧ t ≤ 1099511627776) := fun h => by
        have := (isTick_iff t).2 h
        rw [← hfl] at this
        cases this
      have HEQ : Hid (appC ⟨L, off, waits, left⟩ s.data.toList t u = 2 ∧ appA s.data.toList t = -1 ∧ appD ⟨L, off, waits, left⟩ s.data.toList t u = ⟨L, off, waits, left⟩) := by
        have hk : chkC s.data.toList t = 2 := by unfold chkC; rw [if_neg (by rw [HR0.out]; decide), if_neg hnt]
        have hk0 : 0 < chkC s.data.toList t := by rw [hk]; decide
        refine ⟨?_, ?_, ?_⟩
        · unfold appC; rw [if_pos hk0, hk]
        · unfold appA chkA; rw [if_pos hk0, if_neg (by rw [HR0.out]; decide)]
        · unfold appD; rw [if_pos hk0]
      have HBA := (show Hid _ from bare_any 2 W3)
      clear hfl hnt
      go_wp2_with fail
      refine Calls.mono HBA.out ?_
      rintro e w5 ⟨rfl, hb5⟩
      have HB5 := (show Hid _ from HB3.out.below hb5)
      clear hb5 HBA
      dsimp only
      have hzr := HB5.out.rs
      have f0 : w5.frozen? ⟨w.heap.size + 1, 0, none⟩ = false := by simp [World.frozen?, hzr]
      have z0 : w5.cell? ⟨w.heap.size + 1, 0, none⟩ = some (.int .i64 0) := cells_of hzr 0
      have f1 : w5.frozen? ⟨w.heap.size + 1, 1, none⟩ = false := by simp [World.frozen?, hzr]
      have z1 : w5.cell? ⟨w.heap.size + 1, 1, none⟩ = some (.int .i64 0) := cells_of hzr 1
      have HZR := (show Hid _ from hzr)
      clear hzr
      go_wp2_with fail
      obtain ⟨g0, g1⟩ := two_here HZR.out (.int .i64 2) (.int .i64 (-1))
      have hfin := HB5.out.fin (.int .i64 2) (.int .i64 (-1))
      refine bodyPost_ret (v := .agg #[.int .i64 2, .int .i64 (-1)]) (by simp [results, Tryz.results8, go_sem, g0, g1]) rfl ⟨?_, cut, ?_, ?_, hfin.1⟩
      · rw [HEQ.out.1, HEQ.out.2.1]
      · rw [HEQ.out.2.2]
        exact hfin.2
      · rw [HEQ.out.2.2]
        exact HRL.out
    | true =>
      have htt := (isTick_iff t).1 hfl.symm
      have hok : OkE okL (s.data.toList, t, u) := ⟨HR0.out, htt.1, htt.2, hu⟩
      have hz : chkC s.data.toList t = 0 := chk_zero.2 ⟨HR0.out, htt⟩
      have hlab := (lab_is _ HR0.out).2
      have hll : s.data.toList.length = s.size := Array.length_toList
      have HRC := (show Hid _ from ref_record W3 s (by omega) t htt.1 htt.2 u hu)
      have hrl := (body_length lab_is hok).1
      have hrl2 := recL_length (s.data.toList, t, u)
      obtain ⟨r, hr⟩ : ∃ r, r = recL (s.data.toList, t, u) := ⟨_, rfl⟩
      have HV : Hid (appC ⟨L, off, waits, left⟩ s.data.toList t u = (if 65536 < L.length + r.length then 7 else if (writeD ⟨L, off, waits, left⟩ r).2 = true then 0 else 10) ∧ appA s.data.toList t = -1 ∧ appD ⟨L, off, waits, left⟩ s.data.toList t u = (if 65536 < L.length + r.length then ⟨L, off, waits, left⟩ else (writeD ⟨L, off, waits, left⟩ r).1)) := by
        have hk0 : ¬ 0 < chkC s.data.toList t := by omega
        subst hr
        refine ⟨?_, ?_, ?_⟩
        · unfold appC; rw [if_neg hk0]
        · unfold appA; rw [if_neg hk0]
        · unfold appD; rw [if_neg hk0]
      rw [← hr] at HRC hrl2
      have hrs : (txt r).size = r.length := txt_size r
      have hrb : r.length ≤ 1100 := by omega
      have HRN : Hid (r ≠ []) := by rw [hr]; exact rec_ne
      have p1 : W3.cell? ⟨w.heap.size, 1, none⟩ = some (.int .u64 (u : Int)) := cells_of HB3.out.pt 1
      obtain ⟨rt, hrt⟩ : ∃ rt, rt = txt r := ⟨_, rfl⟩
      rw [← hrt] at HRC hrs
      have HRT := (show Hid _ from hrt)
      have HRS := (show Hid _ from hrs)
      clear hfl htt hok hz hlab hll hrl hrl2 hr hrs hrt HR0 HC
      go_wp2_with fail
      refine Calls.mono HRC.out ?_
      rintro e w5 ⟨rfl, hb5⟩
      have HB5 := (show Hid _ from HB3.out.below hb5)
      clear hb5 HRC HB3 p0 p1 y0
      dsimp only
      obtain ⟨lt, hlt'⟩ : ∃ lt, lt = txt L := ⟨_, rfl⟩
      have hls : lt.size = L.length := by rw [hlt']; exact txt_size L
      have hmd : w5.heap[mb]? = some (.cells #[.string lt, .bool off, .int .i64 cut] 31 (0, 0)) := by rw [hlt']; exact HB5.out.md
      have m0 : w5.cell? ⟨mb, 0, none⟩ = some (.string lt) := cells_of hmd 0
      have m1 : w5.cell? ⟨mb, 1, none⟩ = some (.bool off) := cells_of hmd 1
      have m2 : w5.cell? ⟨mb, 2, none⟩ = some (.int .i64 cut) := cells_of hmd 2
      have fm0 : w5.frozen? ⟨mb, 0, none⟩ = false := by simp [World.frozen?, hmd]
      have fm1 : w5.frozen? ⟨mb, 1, none⟩ = false := by simp [World.frozen?, hmd]
      have fm2 : w5.frozen? ⟨mb, 2, none⟩ = false := by simp [World.frozen?, hmd]
      have hrs := HRS.out
      have b1 : (lt.size : Int) ≤ 65536 := by omega
      have b2 : (rt.size : Int) ≤ 1100 := by omega
      have HLT := (show Hid _ from hlt')
      have HMD := (show Hid _ from hmd)
      by_cases hbig : 65536 < L.length + r.length
      · have HEQ : Hid (appC ⟨L, off, waits, left⟩ s.data.toList t u = 7 ∧ appA s.data.toList t = -1 ∧ appD ⟨L, off, waits, left⟩ s.data.toList t u = ⟨L, off, waits, left⟩) := by
          obtain ⟨e1, e2, e3⟩ := HV.out
          rw [if_pos hbig] at e1 e3
          exact ⟨e1, e2, e3⟩
        have db : (65536 : Int) < (lt.size : Int) + (rt.size : Int) := by omega
        have HBA := (show Hid _ from bare_any 7 w5)
        clear hbig hls hrs hlt' hmd hrb
        go_wp2_with fail
        refine Calls.mono HBA.out ?_
        rintro e w6 ⟨rfl, hb6⟩
        have HB6 := (show Hid _ from HB5.out.below hb6)
        clear hb6 HBA
        dsimp only
        have hzr := HB6.out.rs
        have f0 : w6.frozen? ⟨w.heap.size + 1, 0, none⟩ = false := by simp [World.frozen?, hzr]
        have z0 : w6.cell? ⟨w.heap.size + 1, 0, none⟩ = some (.int .i64 0) := cells_of hzr 0
        have f1 : w6.frozen? ⟨w.heap.size + 1, 1, none⟩ = false := by simp [World.frozen?, hzr]
        have z1 : w6.cell? ⟨w.heap.size + 1, 1, none⟩ = some (.int .i64 0) := cells_of hzr 1
        have HZR := (show Hid _ from hzr)
        clear hzr
        go_wp2_with fail
        obtain ⟨g0, g1⟩ := two_here HZR.out (.int .i64 7) (.int .i64 (-1))
        have hfin := HB6.out.fin (.int .i64 7) (.int .i64 (-1))
        refine bodyPost_ret (v := .agg #[.int .i64 7, .int .i64 (-1)]) (by simp [results, Tryz.results8, go_sem, g0, g1]) rfl ⟨?_, cut, ?_, ?_, hfin.1⟩
        · rw [HEQ.out.1, HEQ.out.2.1]
        · rw [HEQ.out.2.2]
          exact hfin.2
        · rw [HEQ.out.2.2]
          exact HRL.out
      · have HV2 : Hid (appC ⟨L, off, waits, left⟩ s.data.toList t u = (if (writeD ⟨L, off, waits, left⟩ r).2 = true then 0 else 10) ∧ appA s.data.toList t = -1 ∧ appD ⟨L, off, waits, left⟩ s.data.toList t u = (writeD ⟨L, off, waits, left⟩ r).1) := by
          obtain ⟨e1, e2, e3⟩ := HV.out
          rw [if_neg hbig] at e1 e3
          exact ⟨e1, e2, e3⟩
        have db : decide ((65536 : Int) < (lt.size : Int) + (rt.size : Int)) = false := by simp; omega
        clear HV
        cases off with
        | true =>
          have HEQ : Hid (appC ⟨L, true, waits, left⟩ s.data.toList t u = 10 ∧ appA s.data.toList t = -1 ∧ appD ⟨L, true, waits, left⟩ s.data.toList t u = ⟨L, true, waits, left⟩) := by
            obtain ⟨e1, e2, e3⟩ := HV2.out
            rw [writeD_off (d := ⟨L, true, waits, left⟩) rfl HRN.out] at e1 e3
            exact ⟨e1, e2, e3⟩
          have HBA := (show Hid _ from bare_any 10 w5)
          clear hbig hls hrs hlt' hmd hrb
          go_wp2_with fail
          refine Calls.mono HBA.out ?_
          rintro e w6 ⟨rfl, hb6⟩
          have HB6 := (show Hid _ from HB5.out.below hb6)
          clear hb6 HBA
          dsimp only
          have hzr := HB6.out.rs
          have f0 : w6.frozen? ⟨w.heap.size + 1, 0, none⟩ = false := by simp [World.frozen?, hzr]
          have z0 : w6.cell? ⟨w.heap.size + 1, 0, none⟩ = some (.int .i64 0) := cells_of hzr 0
          have f1 : w6.frozen? ⟨w.heap.size + 1, 1, none⟩ = false := by simp [World.frozen?, hzr]
          have z1 : w6.cell? ⟨w.heap.size + 1, 1, none⟩ = some (.int .i64 0) := cells_of hzr 1
          have HZR := (show Hid _ from hzr)
          clear hzr
          go_wp2_with fail
          obtain ⟨g0, g1⟩ := two_here HZR.out (.int .i64 10) (.int .i64 (-1))
          have hfin := HB6.out.fin (.int .i64 10) (.int .i64 (-1))
          refine bodyPost_ret (v := .agg #[.int .i64 10, .int .i64 (-1)]) (by simp [results, Tryz.results8, go_sem, g0, g1]) rfl ⟨?_, cut, ?_, ?_, hfin.1⟩
          · rw [HEQ.out.1, HEQ.out.2.1]
          · rw [HEQ.out.2.2]
            exact hfin.2
          · rw [HEQ.out.2.2]
            exact HRL.out
        | false =>
          have hcut := HRL.out rfl
          dsimp only at hcut
          have hfb : L.length + r.length ≤ 65536 := by omega
          have e18 : ∀ w, (Op.stringOp .add lt rt).run Tryz.prog w = .ok (.string (txt (L ++ r))) w := fun w => by rw [hlt', HRT.out]; exact add_two _ _ _ (by omega) w
          obtain ⟨lr, hlr⟩ : ∃ lr, lr = txt (L ++ r) := ⟨_, rfl⟩
          rw [← hlr] at e18
          have HLR := (show Hid _ from hlr)
          cases waits with
          | false =>
            rw [if_neg (by decide)] at hcut
            subst hcut
            have HEQ : Hid (appC ⟨L, false, false, left⟩ s.data.toList t u = 0 ∧ appA s.data.toList t = -1 ∧ appD ⟨L, false, false, left⟩ s.data.toList t u = ⟨L ++ r, false, false, left⟩) := by
              obtain ⟨e1, e2, e3⟩ := HV2.out
              rw [writeD_free] at e1 e3
              exact ⟨e1, e2, e3⟩
            obtain ⟨W6, hW6⟩ : ∃ W6, W6 = w5.setCell ⟨mb, 0, none⟩ (.string lr) := ⟨_, rfl⟩
            have HB6 : Hid (ApBox w W6 mb t u (L ++ r) false (-1)) := by
              rw [hW6, HLR.out]
              exact HB5.out.setMd (Kept.set1 _ _ _) (HB5.out.md.setB (L ++ r))
            have HFN := (show Hid _ from fine_any W6)
            have HRE : Hid (RelC ⟨L ++ r, false, false, left⟩ (-1)) := fun _ => rfl
            clear hbig hls hrs hlt' hmd hrb hlr hfb
            go_upto_region 19 with fail
            rw [← hW6]
            clear hW6
            go_wp2_with fail
            refine Calls.mono HFN.out ?_
            rintro e w7 ⟨rfl, hb7⟩
            have HB7 := (show Hid _ from HB6.out.below hb7)
            clear hb7 HFN
            dsimp only
            have hzr := HB7.out.rs
            have f0 : w7.frozen? ⟨w.heap.size + 1, 0, none⟩ = false := by simp [World.frozen?, hzr]
            have z0 : w7.cell? ⟨w.heap.size + 1, 0, none⟩ = some (.int .i64 0) := cells_of hzr 0
            have f1 : w7.frozen? ⟨w.heap.size + 1, 1, none⟩ = false := by simp [World.frozen?, hzr]
            have z1 : w7.cell? ⟨w.heap.size + 1, 1, none⟩ = some (.int .i64 0) := cells_of hzr 1
            have HZR := (show Hid _ from hzr)
            clear hzr
            go_wp2_with fail
            obtain ⟨g0, g1⟩ := two_here HZR.out (.int .i64 0) (.int .i64 (-1))
            have hfin := HB7.out.fin (.int .i64 0) (.int .i64 (-1))
            refine bodyPost_ret (v := .agg #[.int .i64 0, .int .i64 (-1)]) (by simp [results, Tryz.results8, go_sem, g0, g1]) rfl ⟨?_, (-1), ?_, ?_, hfin.1⟩
            · rw [HEQ.out.1, HEQ.out.2.1]
            · rw [HEQ.out.2.2]
              exact hfin.2
            · rw [HEQ.out.2.2]
              exact HRE.out
          | true =>
            rw [if_pos rfl] at hcut
            subst hcut
            have hl0 : (0 : Int) ≤ (left : Int) := by omega
            rcases Nat.lt_or_ge left r.length with hcl | hcl
            · have HEQ : Hid (appC ⟨L, false, true, left⟩ s.data.toList t u = 10 ∧ appA s.data.toList t = -1 ∧ appD ⟨L, false, true, left⟩ s.data.toList t u = ⟨L ++ r.take left, true, true, 0⟩) := by
                obtain ⟨e1, e2, e3⟩ := HV2.out
                rw [writeD_cut _ _ _ hcl] at e1 e3
                exact ⟨e1, e2, e3⟩
              have hc1 : (left : Int) < (rt.size : Int) := by omega
              have hc2 : (left : Int) ≤ (rt.size : Int) := by omega
              have hxr : rt.extract 0 left = txt (r.take left) := by rw [HRT.out]; exact ext_take (txt r) left
              have e13 : ∀ w, (Op.stringOp .add lt (rt.extract 0 left)).run Tryz.prog w = .ok (.string (txt (L ++ r.take left))) w := fun w => by rw [hlt', hxr]; exact add_two _ _ _ (by rw [List.length_take]; omega) w
              obtain ⟨lq, hlq⟩ : ∃ lq, lq = txt (L ++ r.take left) := ⟨_, rfl⟩
              rw [← hlq] at e13
              have HLQ := (show Hid _ from hlq)
              obtain ⟨W6, hW6⟩ : ∃ W6, W6 = ((w5.setCell ⟨mb, 0, none⟩ (.string lq)).setCell ⟨mb, 1, none⟩ (.bool true)).drew := ⟨_, rfl⟩
              have hq : MDAt (w5.setCell ⟨mb, 0, none⟩ (.string lq)) mb (L ++ r.take left) false (left : Int) := by rw [hlq]; exact HB5.out.md.setB (L ++ r.take left)
              have hqd : ((w5.setCell ⟨mb, 0, none⟩ (.string lq)).drew).heap[mb]? = some (.cells #[.string (txt (L ++ r.take left)), .bool false, .int .i64 (left : Int)] 31 (0, 0)) := hq
              have q1 : ((w5.setCell ⟨mb, 0, none⟩ (.string lq)).drew).cell? ⟨mb, 1, none⟩ = some (.bool false) := cells_of hqd 1
              have qf1 : ((w5.setCell ⟨mb, 0, none⟩ (.string lq)).drew).frozen? ⟨mb, 1, none⟩ = false := by simp only [World.frozen?, hqd]; rfl
              have HB6 : Hid (ApBox w W6 mb t u (L ++ r.take left) true (left : Int)) := by
                rw [hW6]
                have hz : MDAt (((w5.setCell ⟨mb, 0, none⟩ (.string lq)).setCell ⟨mb, 1, none⟩ (.bool true)).drew) mb (L ++ r.take left) true (left : Int) := hq.setOff true
                exact HB5.out.setMd (((Kept.refl _ _).setCell (.inl (by simp)) _).setCell (.inl (by simp)) _).drew hz
              have HBA := (show Hid _ from bare_any 10 W6)
              have HRE : Hid (RelC ⟨L ++ r.take left, true, true, 0⟩ (left : Int)) := fun h => by cases h
              have n0 : (w5.drew).cell? ⟨mb, 0, none⟩ = some (.string lt) := m0
              have n2 : (w5.drew).cell? ⟨mb, 2, none⟩ = some (.int .i64 (left : Int)) := m2
              have nf0 : (w5.drew).frozen? ⟨mb, 0, none⟩ = false := fm0
              clear hbig hls hrs hlt' hmd hrb hlr hfb hlq hxr hcl hq hqd
              go_wp2_with fail
              go_region
              go_upto_region 15 with fail
              rw [← hW6]
              clear hW6
              go_wp2_with fail
              refine Calls.mono HBA.out ?_
              rintro e w7 ⟨rfl, hb7⟩
              have HB7 := (show Hid _ from HB6.out.below hb7)
              clear hb7 HBA
              dsimp only
              have hzr := HB7.out.rs
              have f0 : w7.frozen? ⟨w.heap.size + 1, 0, none⟩ = false := by simp [World.frozen?, hzr]
              have z0 : w7.cell? ⟨w.heap.size + 1, 0, none⟩ = some (.int .i64 0) := cells_of hzr 0
              have f1 : w7.frozen? ⟨w.heap.size + 1, 1, none⟩ = false := by simp [World.frozen?, hzr]
              have z1 : w7.cell? ⟨w.heap.size + 1, 1, none⟩ = some (.int .i64 0) := cells_of hzr 1
              have HZR := (show Hid _ from hzr)
              clear hzr
              go_wp2_with fail
              obtain ⟨g0, g1⟩ := two_here HZR.out (.int .i64 10) (.int .i64 (-1))
              have hfin := HB7.out.fin (.int .i64 10) (.int .i64 (-1))
              refine bodyPost_ret (v := .agg #[.int .i64 10, .int .i64 (-1)]) (by simp [results, Tryz.results8, go_sem, g0, g1]) rfl ⟨?_, (left : Int), ?_, ?_, hfin.1⟩
              · rw [HEQ.out.1, HEQ.out.2.1]
              · rw [HEQ.out.2.2]
                exact hfin.2
              · rw [HEQ.out.2.2]
                exact HRE.out
            · have HEQ : Hid (appC ⟨L, false, true, left⟩ s.data.toList t u = 0 ∧ appA s.data.toList t = -1 ∧ appD ⟨L, false, true, left⟩ s.data.toList t u = ⟨L ++ r, false, true, left - r.length⟩) := by
                obtain ⟨e1, e2, e3⟩ := HV2.out
                rw [writeD_fits _ _ _ hcl] at e1 e3
                exact ⟨e1, e2, e3⟩
              have hc1 : (rt.size : Int) ≤ (left : Int) := by omega
              have w1 : (left : Int) - (rt.size : Int) = ((left - r.length : Nat) : Int) := by omega
              obtain ⟨W6, hW6⟩ : ∃ W6, W6 = (w5.setCell ⟨mb, 2, none⟩ (.int .i64 ((left - r.length : Nat) : Int))).setCell ⟨mb, 0, none⟩ (.string lr) := ⟨_, rfl⟩
              have HB6 : Hid (ApBox w W6 mb t u (L ++ r) false ((left - r.length : Nat) : Int)) := by
                rw [hW6, HLR.out]
                exact HB5.out.setMd (((Kept.refl _ _).setCell (.inl (by simp)) _).setCell (.inl (by simp)) _) ((HB5.out.md.setCut _).setB (L ++ r))
              have HFN := (show Hid _ from fine_any W6)
              have HRE : Hid (RelC ⟨L ++ r, false, true, left - r.length⟩ ((left - r.length : Nat) : Int)) := fun _ => rfl
              obtain ⟨lx, hlx⟩ : ∃ lx, lx = left - r.length := ⟨_, rfl⟩
              rw [← hlx] at w1 hW6 HB6 HRE HEQ
              have HW1 := (show Hid _ from w1)
              clear hbig hls hrs hlt' hmd hrb hlr hfb hcl hlx w1
              go_upto_region 19 with fail
              rw [HW1.out, ← hW6]
              clear hW6
              go_wp2_with fail
              refine Calls.mono HFN.out ?_
              rintro e w7 ⟨rfl, hb7⟩
              have HB7 := (show Hid _ from HB6.out.below hb7)
              clear hb7 HFN
              dsimp only
              have hzr := HB7.out.rs
              have f0 : w7.frozen? ⟨w.heap.size + 1, 0, none⟩ = false := by simp [World.frozen?, hzr]
              have z0 : w7.cell? ⟨w.heap.size + 1, 0, none⟩ = some (.int .i64 0) := cells_of hzr 0
              have f1 : w7.frozen? ⟨w.heap.size + 1, 1, none⟩ = false := by simp [World.frozen?, hzr]
              have z1 : w7.cell? ⟨w.heap.size + 1, 1, none⟩ = some (.int .i64 0) := cells_of hzr 1
              have HZR := (show Hid _ from hzr)
              clear hzr
              go_wp2_with fail
              obtain ⟨g0, g1⟩ := two_here HZR.out (.int .i64 0) (.int .i64 (-1))
              have hfin := HB7.out.fin (.int .i64 0) (.int .i64 (-1))
              refine bodyPost_ret (v := .agg #[.int .i64 0, .int .i64 (-1)]) (by simp [results, Tryz.results8, go_sem, g0, g1]) rfl ⟨?_, (lx : Int), ?_, ?_, hfin.1⟩
              · rw [HEQ.out.1, HEQ.out.2.1]
              · rw [HEQ.out.2.2]
                exact hfin.2
              · rw [HEQ.out.2.2]
                exact HRE.out

end Go.Proofs.YtplfnblpmagbjabGreatDoor
/- Both disks, the program's and the document's, step by step. -/
namespace Go.Proofs.YtplfnblpmagbjabGreatDoor
open Go.Shelf Go.RowKit LabMath WalMath

theorem appD_len (d : Dk) (s : List UInt8) (t : Int) (u : Nat) (h : d.L.length ≤ 65536) : (appD d s t u).L.length ≤ 65536 := by
  unfold appD
  split
  · exact h
  · split
    · exact h
    · rename_i _ hf
      obtain ⟨L, off, waits, left⟩ := d
      dsimp only at h hf
      cases off with
      | true => rw [writeD_off (d := ⟨L, true, waits, left⟩) rfl rec_ne]; exact h
      | false =>
        cases waits with
        | false => rw [writeD_free]; show (L ++ _).length ≤ _; rw [List.length_append]; omega
        | true =>
          rcases Nat.lt_or_ge left (recL (s, t, u)).length with hl | hl
          · rw [writeD_cut _ _ _ hl]
            show (L ++ (recL (s, t, u)).take left).length ≤ _
            rw [List.length_append, List.length_take]
            omega
          · rw [writeD_fits _ _ _ hl]
            show (L ++ _).length ≤ _
            rw [List.length_append]
            omega
structure TwoD (w wr : World) (db mb : Nat) (d : Dk) (F : List Nat) (cut : Int) : Prop where
  dk : DkF w wr db d F
  md : MDAt wr mb d.L d.off cut
  rel : RelC d cut
  nin : mb ∉ F
  low : w.heap.size ≤ mb
  len : d.L.length ≤ 65536
theorem TwoD.below {w wr w' : World} {db mb : Nat} {d : Dk} {F : List Nat} {cut : Int} (h : TwoD w wr db mb d F cut) (hb : Below wr.heap.size wr w') : TwoD w w' db mb d F cut :=
  ⟨h.dk.below hb, (hb.block mb (blk_lt h.md)).trans h.md, h.rel, h.nin, h.low, h.len⟩
theorem TwoD.mdSet {w wr w' : World} {db mb : Nat} {d d' : Dk} {F : List Nat} {cut' : Int} (h : DkF w wr db d F) (nin : mb ∉ F) (low : w.heap.size ≤ mb) (len : d.L.length ≤ 65536) (hd : d' = d) (k : Kept [mb] wr w') (m : MDAt w' mb d'.L d'.off cut') (r : RelC d' cut') : TwoD w w' db mb d' F cut' := by
  subst hd
  refine ⟨h.same (h.bel.trans (k.below h.bel.size (by simpa using low))) fun x hx => k.block x (h.mem hx).2 (fun e => nin ?_), m, r, nin, low, len⟩
  simp at e
  rw [← e]
  exact hx
/-- Behind the program's step: the document's disk is as it was. -/
structure HalfD (ea : Nat → Addr) (w w0 w1 : World) (db mb ab : Nat) (d d' : Dk) (F' : List Nat) (cut : Int) (v : Value) (C A : Int) : Prop where
  fv : FaultV ea w1 v C A
  dk : DkF w w1 db d' F'
  md : MDAt w1 mb d.L d.off cut
  nin : mb ∉ F'
  blk : w1.heap[ab]? = w0.heap[ab]?
  sz : w0.heap.size ≤ w1.heap.size
structure BothD (ea : Nat → Addr) (w w0 w1 : World) (db mb ab : Nat) (d' : Dk) (F' : List Nat) (cut : Int) (v : Value) (C A : Int) : Prop where
  fv : FaultV ea w1 v C A
  two : TwoD w w1 db mb d' F' cut
  blk : w1.heap[ab]? = w0.heap[ab]?
  sz : w0.heap.size ≤ w1.heap.size
theorem faultV_md {ea : Nat → Addr} {w w' : World} {mb : Nat} {B : List UInt8} {off : Bool} {cut : Int} {v : Value} {C A : Int} (h : FaultV ea w v C A) (m : MDAt w mb B off cut) (k : Kept [mb] w w') : FaultV ea w' v C A := by
  rcases h with h | h | ⟨pb, n, hn, hv, c0, c1, hc⟩
  · exact .inl h
  · exact .inr (.inl h)
  · have hne : pb ≠ mb := fun e => by
      have z0 : w.cell? ⟨mb, 0, none⟩ = some (.string (txt B)) := cells_of m 0
      rw [e, z0] at c0
      cases c0
    have hb : w'.heap[pb]? = w.heap[pb]? := k.block pb (World.block_lt_of_cell? w ⟨pb, 0, none⟩ c0) (by simpa using hne)
    exact .inr (.inr ⟨pb, n, hn, hv, (World.cell?_of_block (a := ⟨pb, 0, none⟩) hb).trans c0, (World.cell?_of_block (a := ⟨pb, 1, none⟩) hb).trans c1, hc⟩)
theorem HalfD.step {ea : Nat → Addr} {w w0 w1 w2 : World} {db mb ab : Nat} {d d' : Dk} {F' : List Nat} {cut cut' : Int} {v : Value} {C A : Int} (h : HalfD ea w w0 w1 db mb ab d d' F' cut v C A) (low : w.heap.size ≤ mb) (len : d'.L.length ≤ 65536) (hab : ab ≠ mb ∧ ab < w0.heap.size) (k : Kept [mb] w1 w2) (m : MDAt w2 mb d'.L d'.off cut') (r : RelC d' cut') : BothD ea w w0 w2 db mb ab d' F' cut' v C A :=
  ⟨faultV_md h.fv h.md k, TwoD.mdSet h.dk h.nin low len rfl k m r, (k.block ab (Nat.lt_of_lt_of_le hab.2 h.sz) (by simpa using hab.1)).trans h.blk, Nat.le_trans h.sz k.size⟩
theorem TwoD.half {ea : Nat → Addr} {w w0 w1 : World} {db mb ab : Nat} {d d' : Dk} {F F' : List Nat} {cut : Int} {v : Value} {C A : Int} (h : TwoD w w0 db mb d F cut) (hab : ab ∉ F ∧ ab < w0.heap.size) (fv : FaultV ea w1 v C A) (dk : DkF w w1 db d' F') (k : Kept F w0 w1) (s : ∀ x, x ∈ F' → x ∈ F ∨ w0.heap.size ≤ x) : HalfD ea w w0 w1 db mb ab d d' F' cut v C A :=
  ⟨fv, dk, (k.block mb (blk_lt h.md) h.nin).trans h.md, fun hx => by
    rcases s mb hx with h1 | h1
    · exact h.nin h1
    · exact absurd (blk_lt h.md) (Nat.not_lt.2 h1), k.block ab hab.2 hab.1, k.size⟩
theorem ap_first {B : Nat} {ea : Nat → Addr} (w w0 : World) (E : EnvW B ea w) (hB : B ≤ w.heap.size) (db mb ab : Nat) (d : Dk) (F : List Nat) (cut : Int) (h : TwoD w w0 db mb d F cut) (s : ByteArray) (hs : s.size ≤ 100000) (t : Int) (u : Nat) (hu : u < 18446744073709551616) (hab : ab ∉ F ∧ ab < w0.heap.size) :
    Calls Tryz.prog 7 #[.pointer (some ⟨db, 0, none⟩), .string s, .agg #[.int .i64 t, .int .u64 (u : Int)]] w0 fun e w1 => ∃ v F', e = .returned v ∧ HalfD ea w w0 w1 db mb ab d (appD d s.data.toList t u) F' cut v (appC d s.data.toList t u) (appA s.data.toList t) := by
  refine (dk_append w E hB w0 db d F h.dk h.len s hs t u hu).mono ?_
  rintro e w1 ⟨v, F', rfl, fv, dk, k, sb⟩
  exact ⟨v, F', rfl, h.half hab fv dk k sb⟩
theorem ap_second {ea : Nat → Addr} (w w0 w1 : World) (db mb ab : Nat) (d : Dk) (F F' : List Nat) (cut : Int) (v : Value) (h0 : TwoD w w0 db mb d F cut) (s : ByteArray) (hs : s.size ≤ 100000) (t : Int) (u : Nat) (hu : u < 18446744073709551616) (hab : ab ≠ mb ∧ ab < w0.heap.size)
    (h : HalfD ea w w0 w1 db mb ab d (appD d s.data.toList t u) F' cut v (appC d s.data.toList t u) (appA s.data.toList t)) :
    Calls Tryz.prog 8 #[.pointer (some ⟨mb, 0, none⟩), .string s, .agg #[.int .i64 t, .int .u64 (u : Int)]] w1 fun e w2 => e = .returned (.agg #[.int .i64 (appC d s.data.toList t u), .int .i64 (appA s.data.toList t)]) ∧ ∃ cut', BothD ea w w0 w2 db mb ab (appD d s.data.toList t u) F' cut' v (appC d s.data.toList t u) (appA s.data.toList t) := by
  obtain ⟨vv, _, hda⟩ := h0.dk.ex
  refine (md_append w1 mb d cut h.md h0.rel h0.len hda.room s hs t u hu).mono ?_
  rintro e w2 ⟨rfl, cut', m, r, k⟩
  exact ⟨rfl, cut', h.step h0.low (appD_len _ _ _ _ h0.len) hab k m r⟩
theorem ap_third {B : Nat} {ea : Nat → Addr} (w w0 w2 : World) (E : Env B ea w) (hB : B ≤ w.heap.size) (db mb ab : Nat) (d' : Dk) (F' : List Nat) (cut : Int) (v : Value) (C A : Int) (hab : ab < w0.heap.size) (h : BothD ea w w0 w2 db mb ab d' F' cut v C A) :
    Calls Tryz.prog 6 #[v, .agg #[.int .i64 C, .int .i64 A]] w2 fun e w3 => e = .returned (.bool true) ∧ TwoD w w3 db mb d' F' cut ∧ w3.heap[ab]? = w0.heap[ab]? := by
  refine (faulted2_v w2 (E.below h.two.dk.bel hB) (Nat.le_trans hB h.two.dk.bel.size) v C A h.fv).mono ?_
  rintro e w3 ⟨rfl, h3⟩
  exact ⟨rfl, h.two.below h3, (h3.block ab (Nat.lt_of_lt_of_le hab h.sz)).trans h.blk⟩

theorem coded2_nil (w : World) : Calls Tryz.prog 9 #[.nilIface, .int .i64 0] w fun e w' => e = .returned (.bool true) ∧ Below w.heap.size w w' := by
  go_enter Tryz.func9, Tryz.ntmps9
  go_wp2_with (go_at_call 22; refine (code_nil _).mono ?_; rintro e w' ⟨rfl, rfl⟩)
  go_ret
  exact ⟨rfl, Below.refl _ _⟩
/-- The disk behind Cut. -/
def cutD (d : Dk) (n : Int) : Dk := if n < 0 then d else if d.off = true then d else ⟨d.L, false, true, n.toNat⟩
def cutC (d : Dk) (n : Int) : Int := if n < 0 then 2 else if d.off = true then 10 else 0
theorem cutD_L (d : Dk) (n : Int) : (cutD d n).L = d.L := by unfold cutD; split; rfl; split <;> rfl
set_option maxRecDepth 1000000 in
theorem dk_cut_bound {B : Nat} {ea : Nat → Addr} (w1 : World) (E : EnvW B ea w1) (db : Nat) (n : Int) (hn : n < 0) :
    Calls Tryz.prog 10 #[.pointer (some ⟨db, 0, none⟩), .int .i64 n] w1 fun e w' => e = .returned (.iface 186 (.pointer (some (ea 1)))) ∧ w' = w1 := by
  have g1 := E.c1
  clear E
  go_enter Tryz.func10, Tryz.ntmps10
  go_wp2
  go_ret
  exact ⟨rfl, rfl⟩
set_option maxRecDepth 1000000 in
theorem dk_cut_off {B : Nat} {ea : Nat → Addr} (w w1 : World) (E : EnvW B ea w1) (db : Nat) (d : Dk) (F : List Nat) (h : DkF w w1 db d F) (ho : d.off = true) (n : Int) (hn : ¬ n < 0) :
    Calls Tryz.prog 10 #[.pointer (some ⟨db, 0, none⟩), .int .i64 n] w1 fun e w' => e = .returned (.iface 186 (.pointer (some (ea 9)))) ∧ w' = w1 := by
  obtain ⟨v, rfl, h1⟩ := h.ex
  have z1 : w1.cell? ⟨db, 1, none⟩ = some (.bool true) := by rw [← ho]; exact cells_of h1.blk 1
  have g9 := E.c9
  have d1 : decide (n < 0) = false := by simp; omega
  clear E h h1
  go_enter Tryz.func10, Tryz.ntmps10
  go_wp2
  go_ret
  exact ⟨rfl, rfl⟩
set_option maxRecDepth 1000000 in
theorem dk_clear_off {B : Nat} {ea : Nat → Addr} (w w1 : World) (E : EnvW B ea w1) (db : Nat) (d : Dk) (F : List Nat) (h : DkF w w1 db d F) (ho : d.off = true) :
    Calls Tryz.prog 13 #[.pointer (some ⟨db, 0, none⟩)] w1 fun e w' => e = .returned (.iface 186 (.pointer (some (ea 9)))) ∧ w' = w1 := by
  obtain ⟨v, rfl, h1⟩ := h.ex
  have z1 : w1.cell? ⟨db, 1, none⟩ = some (.bool true) := by rw [← ho]; exact cells_of h1.blk 1
  have g9 := E.c9
  clear E h h1
  go_enter Tryz.func13, Tryz.ntmps13
  go_wp2
  go_ret
  exact ⟨rfl, rfl⟩
set_option maxRecDepth 1000000 in
theorem dk_clear (w w1 : World) (db : Nat) (d : Dk) (F : List Nat) (h : DkF w w1 db d F) (ho : d.off = false) :
    Calls Tryz.prog 13 #[.pointer (some ⟨db, 0, none⟩)] w1 fun e w' => e = .returned .nilIface ∧ DkF w w' db ⟨[], false, d.waits, d.left⟩ F ∧ Kept F w1 w' := by
  obtain ⟨v, hF, h1⟩ := h.ex
  have z1 : w1.cell? ⟨db, 1, none⟩ = some (.bool false) := by rw [← ho]; exact cells_of h1.blk 1
  have HK := (show Hid _ from dk_keep w w1 db d F h 0 (Nat.zero_le _))
  have HO : Hid (d.off = false) := ho
  clear h h1 ho
  go_enter Tryz.func13, Tryz.ntmps13
  go_wp2_with fail
  refine Calls.mono HK.out ?_
  rintro e w2 ⟨rfl, h2, k2⟩
  have H2 : Hid (DkF w w2 db ⟨[], false, d.waits, d.left⟩ F ∧ Kept F w1 w2) := by
    rw [List.take_zero, HO.out] at h2
    exact ⟨h2, k2⟩
  clear h2 k2 HK
  dsimp only
  go_wp2
  go_ret
  exact ⟨rfl, H2.out⟩
theorem ct_first {B : Nat} {ea : Nat → Addr} (w w0 : World) (E : EnvW B ea w) (hB : B ≤ w.heap.size) (db mb ab : Nat) (d : Dk) (F : List Nat) (cut : Int) (h : TwoD w w0 db mb d F cut) (n : Int) (hn : n ≤ 9223372036854775807) (hab : ab ∉ F ∧ ab < w0.heap.size) :
    Calls Tryz.prog 10 #[.pointer (some ⟨db, 0, none⟩), .int .i64 n] w0 fun e w1 => ∃ v, e = .returned v ∧ HalfD ea w w0 w1 db mb ab d (cutD d n) F cut v (cutC d n) (-1) := by
  have E0 := E.below h.dk.bel hB
  by_cases h1 : n < 0
  · refine (dk_cut_bound w0 E0 db n h1).mono ?_
    rintro e w1 ⟨rfl, rfl⟩
    refine ⟨_, rfl, ?_⟩
    rw [show cutD d n = d from if_pos h1, show cutC d n = 2 from if_pos h1]
    exact h.half hab (.inr (.inl ⟨1, by omega, rfl, by omega, rfl⟩)) h.dk (Kept.refl _ _) fun _ hx => .inl hx
  · by_cases h2 : d.off = true
    · refine (dk_cut_off w w0 E0 db d F h.dk h2 n h1).mono ?_
      rintro e w1 ⟨rfl, rfl⟩
      refine ⟨_, rfl, ?_⟩
      rw [show cutD d n = d by unfold cutD; rw [if_neg h1, if_pos h2], show cutC d n = 10 by unfold cutC; rw [if_neg h1, if_pos h2]]
      exact h.half hab (.inr (.inl ⟨9, by omega, rfl, by omega, rfl⟩)) h.dk (Kept.refl _ _) fun _ hx => .inl hx
    · obtain ⟨m, rfl⟩ : ∃ m : Nat, n = (m : Int) := ⟨n.toNat, by omega⟩
      refine (dk_cut w w0 db d F h.dk m (by omega) (by simpa using h2)).mono ?_
      rintro e w1 ⟨rfl, h3, k3⟩
      refine ⟨_, rfl, ?_⟩
      rw [show cutD d (m : Int) = ⟨d.L, false, true, m⟩ by unfold cutD; rw [if_neg h1, if_neg h2]; rfl, show cutC d (m : Int) = 0 by unfold cutC; rw [if_neg h1, if_neg h2]]
      exact h.half hab (.inl ⟨rfl, rfl⟩) h3 k3 fun _ hx => .inl hx
theorem ct_second {ea : Nat → Addr} (w w0 w1 : World) (db mb ab : Nat) (d : Dk) (F : List Nat) (cut : Int) (v : Value) (h0 : TwoD w w0 db mb d F cut) (n : Int) (hab : ab ≠ mb ∧ ab < w0.heap.size)
    (h : HalfD ea w w0 w1 db mb ab d (cutD d n) F cut v (cutC d n) (-1)) :
    Calls Tryz.prog 11 #[.pointer (some ⟨mb, 0, none⟩), .int .i64 n] w1 fun e w2 => e = .returned (.int .i64 (cutC d n)) ∧ ∃ cut', BothD ea w w0 w2 db mb ab (cutD d n) F cut' v (cutC d n) (-1) := by
  refine (md_setCut w1 mb d.L d.off cut h.md n).mono ?_
  have hl : (cutD d n).L.length ≤ 65536 := by rw [cutD_L]; exact h0.len
  rintro e w2 (⟨h1, rfl, rfl⟩ | ⟨h1, h2, rfl, rfl⟩ | ⟨h1, h2, rfl, m, k⟩)
  · have e1 : cutD d n = d := if_pos h1
    have e2 : cutC d n = 2 := if_pos h1
    refine ⟨by rw [e2], cut, h.step h0.low hl hab (Kept.refl _ _) ?_ ?_⟩
    · rw [e1]; exact h.md
    · rw [e1]; exact h0.rel
  · have e1 : cutD d n = d := by unfold cutD; rw [if_neg h1, if_pos h2]
    have e2 : cutC d n = 10 := by unfold cutC; rw [if_neg h1, if_pos h2]
    refine ⟨by rw [e2], cut, h.step h0.low hl hab (Kept.refl _ _) ?_ ?_⟩
    · rw [e1]; exact h.md
    · rw [e1]; exact h0.rel
  · have h3 : ¬ d.off = true := by rw [h2]; decide
    have e1 : cutD d n = ⟨d.L, false, true, n.toNat⟩ := by unfold cutD; rw [if_neg h1, if_neg h3]
    have e2 : cutC d n = 0 := by unfold cutC; rw [if_neg h1, if_neg h3]
    refine ⟨by rw [e2], n, h.step h0.low hl hab k ?_ ?_⟩
    · rw [e1]
      rw [h2] at m
      exact m
    · rw [e1]
      intro _
      show n = if true = true then ((n.toNat : Nat) : Int) else -1
      rw [if_pos rfl]
      omega
theorem ct_third {B : Nat} {ea : Nat → Addr} (w w0 w2 : World) (E : Env B ea w) (hB : B ≤ w.heap.size) (db mb ab : Nat) (d' : Dk) (F' : List Nat) (cut : Int) (v : Value) (C : Int) (hC : 0 ≤ C) (hab : ab < w0.heap.size) (h : BothD ea w w0 w2 db mb ab d' F' cut v C (-1)) :
    Calls Tryz.prog 9 #[v, .int .i64 C] w2 fun e w3 => e = .returned (.bool true) ∧ TwoD w w3 db mb d' F' cut ∧ w3.heap[ab]? = w0.heap[ab]? := by
  have hc : Calls Tryz.prog 9 #[v, .int .i64 C] w2 fun e w3 => e = .returned (.bool true) ∧ Below w2.heap.size w2 w3 := by
    by_cases h0 : C = 0
    · rw [h.fv.none h0, h0]
      exact coded2_nil w2
    · exact coded2_v w2 (E.below h.two.dk.bel hB) (Nat.le_trans hB h.two.dk.bel.size) v C h.fv (by omega)
  refine hc.mono ?_
  rintro e w3 ⟨rfl, h3⟩
  exact ⟨rfl, h.two.below h3, (h3.block ab (Nat.lt_of_lt_of_le hab h.sz)).trans h.blk⟩
theorem cutC_nonneg (d : Dk) (n : Int) : 0 ≤ cutC d n := by unfold cutC; split; decide; split <;> decide
end Go.Proofs.YtplfnblpmagbjabGreatDoor
