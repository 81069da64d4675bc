/- The document's answer on masks, by contracts: zeros, turned, MaskOf. -/
import Derived.Test.YtfanagohfimnkaaDoorRefsGroup
import Derived.Test.YtfanagohfimnkaaDoorHeadMathGroup
import Derived.Test.YtfanagohfimnkaaDoorSlicesIn
import Derived.Deep.RegionHeld3
import Derived.Deep.QuietTactic
import Derived.BigQuiet
import Derived.Test.YtfanagohfimnkaaDoorRefTicksGroup
namespace Go.Proofs.YtfanagohfimnkaaDoor
open Go.RowKit

theorem bit_48 (s : ByteArray) (bs : List Bool) (hs : s = BitMath.txt bs) (i : Nat) (h : i < s.size) (b : Bool) (hb : bs[i]? = some b) : (((s[i]).toNat : Int) == 48) = !b := by
  subst hs
  rw [BitMath.txt_get bs i h]
  have h' : i < bs.length := by rw [BitMath.txt_size] at h; exact h
  rw [List.getElem?_eq_getElem h'] at hb
  rw [Option.some.inj hb]
  cases b <;> rfl

theorem turned_step (P : Program) (bs : List Bool) (k : Nat) (s : ByteArray) (hs : s = BitMath.txt bs) (hk : k < bs.length) (hl : bs.length ≤ 1000) (w : World) :
    (Op.stringOp .add (s.extract k (k + 1)) (BitMath.txt (bs.take k).reverse)).run P w = .ok (.string (BitMath.txt (bs.take (k + 1)).reverse)) w := by
  subst hs
  have e : (BitMath.txt bs).extract k (k + 1) = BitMath.txt [bs[k]] := by
    rw [BitMath.txt_extract, show k + 1 - k = 1 by omega, List.drop_eq_getElem_cons hk]
    rfl
  rw [e, add_txt P [bs[k]] (bs.take k).reverse (by simp; omega) w, List.take_succ_eq_append_getElem hk, List.reverse_append]
  rfl

end Go.Proofs.YtfanagohfimnkaaDoor
/- The document's fault of matches, and whether labels fit, by contracts. -/
namespace Go.Proofs.YtfanagohfimnkaaDoor
open Go.RowKit LabMath

/-- A slice that holds matches. -/
def Mats (w : World) (a : Option Addr) (n : Nat) (K : Nat → Nat) (N V : Nat → ByteArray) : Prop :=
  n = 0 ∨ ∃ b o, a = some ⟨b, o, none⟩ ∧ ∀ k, k < n → w.cell? ⟨b, o + k * 3, none⟩ = some (.int .u8 (K k : Int)) ∧ w.cell? ⟨b, o + k * 3 + 1, none⟩ = some (.string (N k)) ∧ w.cell? ⟨b, o + k * 3 + 2, none⟩ = some (.string (V k)) ∧ K k < 256
theorem Mats.at {w : World} {a : Option Addr} {n : Nat} {K : Nat → Nat} {N V : Nat → ByteArray} (h : Mats w a n K N V) (k : Nat) (hk : k < n) :
    ∃ b o, a = some ⟨b, o, none⟩ ∧ ∀ k, k < n → w.cell? ⟨b, o + k * 3, none⟩ = some (.int .u8 (K k : Int)) ∧ w.cell? ⟨b, o + k * 3 + 1, none⟩ = some (.string (N k)) ∧ w.cell? ⟨b, o + k * 3 + 2, none⟩ = some (.string (V k)) ∧ K k < 256 := by
  rcases h with h | h
  · omega
  · exact h
theorem Mats.below {w w' : World} {a : Option Addr} {n : Nat} {K : Nat → Nat} {N V : Nat → ByteArray} (h : Mats w a n K N V) (hb : Below w.heap.size w w') : Mats w' a n K N V := by
  rcases h with h | ⟨b, o, h, hc⟩
  · exact .inl h
  · refine .inr ⟨b, o, h, fun k hk => ?_⟩
    obtain ⟨h1, h2, h3, h4⟩ := hc k hk
    have hl : b < w.heap.size := World.block_lt_of_cell? w ⟨b, _, none⟩ h1
    exact ⟨(hb.cell (p := ⟨b, _, none⟩) hl).trans h1, (hb.cell (p := ⟨b, _, none⟩) hl).trans h2, (hb.cell (p := ⟨b, _, none⟩) hl).trans h3, h4⟩
def kindOk (k : Nat) : Bool := decide (k = 61 ∨ k = 33 ∨ k = 126)
def matOk (K : Nat → Nat) (N : Nat → ByteArray) (i : Nat) : Bool := kindOk (K i) && isName (N i)

set_option maxRecDepth 1000000 in
theorem matches_many (w : World) (la : Option Addr) (n c : Nat) (hn : 6 < n) (hn2 : (n : Int) ≤ 9223372036854775807) :
    Calls Tryd.prog 11 #[.slice la n c] w fun e w' => e = .returned (.agg #[.int .i64 2, .int .i64 (-1)]) ∧ Below w.heap.size w w' := by
  have hd : decide ((6 : Int) < (n : Int)) = true := by simp; omega
  go_enter Tryd.func11, Tryd.ntmps11
  go_wp2_with fail
  refine (bare_any 2 _).mono ?_
  rintro e w1 ⟨rfl, hb1⟩
  obtain ⟨hc, hz, hbb⟩ := one_block hb1
  have c0 := hc 0
  have c1 := hc 1
  have z0 := hz 0
  have z1 := hz 1
  simp only [List.getElem?_toArray] at c0 c1
  clear hc hz hb1
  go_wp2
  refine bodyPost_ret (v := .agg #[.int .i64 2, .int .i64 (-1)]) (by simp [results, Tryd.results11, go_sem, c0, c1]) rfl ⟨rfl, ?_⟩
  exact (hbb.setCell (Nat.le_refl _) _).setCell (Nat.le_refl _) _

set_option maxRecDepth 1000000 in
set_option maxHeartbeats 2000000 in
theorem matches_fault (w : World) (la : Option Addr) (n c : Nat) (K : Nat → Nat) (N V : Nat → ByteArray) (hP : Mats w la n K N V) (hsz : ∀ i, i < n → (N i).size ≤ 1000000) (hn : n ≤ 6) (m : Nat) (hm : m ≤ n) (hok : ∀ i, i < m → matOk K N i = true) (hbad : m < n → matOk K N m = false) (C A : Int) (hC : C = if m < n then (if kindOk (K m) = true then 4 else 11) else 0) (hA : A = if m < n then (m : Int) else -1) :
    Calls Tryd.prog 11 #[.slice la n c] w fun e w' => e = .returned (.agg #[.int .i64 C, .int .i64 A]) ∧ Below w.heap.size w w' := by
  have HC := (show Hid _ from hC)
  have HA := (show Hid _ from hA)
  clear hC hA
  obtain ⟨W, hW⟩ : ∃ W, W = w.alloc (.cells #[.int .i64 0, .int .i64 0] 36) := ⟨_, rfl⟩
  have hb0 : Below w.heap.size w W := by rw [hW]; exact (Below.refl _ _).alloc (Nat.le_refl _) _
  have hblk : W.heap[w.heap.size]? = some (.cells #[.int .i64 0, .int .i64 0] 36 (0, 0)) := by rw [hW]; exact heap_alloc_new _ _
  have HP : Hid (Mats W la n K N V) := hP.below hb0
  have HB0 := (show Hid _ from hb0)
  have HBLK := (show Hid _ from hblk)
  have HOK := (show Hid _ from hok)
  have HBAD := (show Hid _ from hbad)
  have HSZ := (show Hid _ from hsz)
  have hd : decide ((6 : Int) < (n : Int)) = false := by simp; omega
  have H2 : Hid (∀ (w' : World), w' = w.alloc (.cells #[.int .i64 0, .int .i64 0] 36) → w' = W) := fun w' h => h.trans hW.symm
  have hx0 : W.cell? ⟨w.heap.size, 0, none⟩ = some (.int .i64 0) := by simp [World.cell?, hblk]
  have hx1 : W.cell? ⟨w.heap.size, 1, none⟩ = some (.int .i64 0) := by simp [World.cell?, hblk]
  have hy0 : W.frozen? ⟨w.heap.size, 0, none⟩ = false := by simp [World.frozen?, hblk]
  have hy1 : W.frozen? ⟨w.heap.size, 1, none⟩ = false := by simp [World.frozen?, hblk]
  have HWL : Hid (w.heap.size < W.heap.size) := by show w.heap.size < W.heap.size; rw [hW]; simp
  clear hP hok hbad hb0 hblk hW hsz
  go_enter Tryd.func11, Tryd.ntmps11
  go_wp2_with fail
  have hww := H2.out _ rfl
  rw [hww]
  clear hww H2
  go_loopw [3, 4] (fun i _ wr => ∃ k : Nat, k ≤ m ∧ i = .int .i64 k ∧ wr = W) (fun i _ _ => n - (intOf i).toNat)
  case atStart => exact ⟨0, Nat.zero_le _, rfl, rfl⟩
  case round =>
    obtain ⟨k, hk, rfl, hwr⟩ := hrel
    have hwr' := hwr.symm
    subst hwr'
    by_cases hkn : k < n
    · obtain ⟨lb, lo, rfl, hcs⟩ := HP.out.at k hkn
      obtain ⟨ck, cn, _, hkb⟩ := hcs k hkn
      have hk0 : (0 : Int) ≤ (k : Int) := by omega
      have hk1 : (k : Int) < (n : Int) := by omega
      have HIN := (show Hid _ from isName_any (N k) W (HSZ.out k hkn))
      have HPK : Hid (matOk K N k = (kindOk (K k) && isName (N k))) := rfl
      clear hcs
      by_cases hkd : K k = 61 ∨ K k = 33 ∨ K k = 126
      · have HKO : Hid (kindOk (K k) = true) := by show _ = _; unfold kindOk; exact decide_eq_true hkd
        have hcond : ((K k : Nat) : Int) = 61 ∨ (((K k : Nat) : Int) ≠ 61 ∧ ((K k : Nat) : Int) = 33) ∨ (((K k : Nat) : Int) ≠ 61 ∧ ((K k : Nat) : Int) ≠ 33 ∧ ((K k : Nat) : Int) = 126) := by omega
        obtain ⟨kk, hkk⟩ : ∃ kk, K k = kk := ⟨_, rfl⟩
        rw [hkk] at ck hcond
        clear hkb
        cases hbn : isName (N k) with
        | true =>
          rw [hbn] at HIN
          have hkm : k < m := by
            rcases Nat.lt_or_ge k m with h | h
            · exact h
            · exfalso
              have hme : m = k := by omega
              have := HBAD.out (by omega)
              rw [hme, HPK.out, HKO.out, hbn] at this
              cases this
          clear hbn hkd hkk
          rcases hcond with d1 | ⟨d1, d2⟩ | ⟨d1, d2, d3⟩
          all_goals
            go_wp2_with fail
            refine Calls.mono HIN.out ?_
            rintro e w1 ⟨rfl, hw1⟩
            have hw1' := hw1.symm
            subst hw1'
            go_wp2
            go_roundw
            case rel => exact ⟨k + 1, by omega, by go_num, by first | rfl | trivial⟩
            case measure => simp [intOf] <;> omega
        | false =>
          rw [hbn] at HIN
          have hkm : k = m := by
            rcases Nat.lt_or_ge k m with h | h
            · have := HOK.out k h
              rw [HPK.out, hbn, Bool.and_false] at this
              cases this
            · omega
          subst hkm
          have HFIN : Hid (C = 4 ∧ A = (k : Int)) := ⟨by rw [HC.out, if_pos hkn, HKO.out]; rfl, by rw [HA.out, if_pos hkn]⟩
          clear hbn hkd hkk
          rcases hcond with d1 | ⟨d1, d2⟩ | ⟨d1, d2, d3⟩
          all_goals
            go_wp2_with fail
            refine Calls.mono HIN.out ?_
            rintro e w1 ⟨rfl, hw1⟩
            have hw1' := hw1.symm
            subst hw1'
            go_wp2
            refine bodyPost_ret (v := .agg #[.int .i64 4, .int .i64 (k : Int)]) (by simp [results, Tryd.results11, go_sem, hx0, hx1]) rfl ⟨by rw [HFIN.out.1, HFIN.out.2], ?_⟩
            exact (HB0.out.setCell (Nat.le_refl _) _).setCell (Nat.le_refl _) _
      · have HKO : Hid (kindOk (K k) = false) := by show _ = _; unfold kindOk; exact decide_eq_false hkd
        have d1 : ((K k : Nat) : Int) ≠ 61 := by omega
        have d2 : ((K k : Nat) : Int) ≠ 33 := by omega
        have d3 : ((K k : Nat) : Int) ≠ 126 := by omega
        have hkm : k = m := by
          rcases Nat.lt_or_ge k m with h | h
          · have := HOK.out k h
            rw [HPK.out, HKO.out, Bool.false_and] at this
            cases this
          · omega
        subst hkm
        have HFIN : Hid (C = 11 ∧ A = (k : Int)) := ⟨by rw [HC.out, if_pos hkn, HKO.out]; rfl, by rw [HA.out, if_pos hkn]⟩
        obtain ⟨kk, hkk⟩ : ∃ kk, K k = kk := ⟨_, rfl⟩
        rw [hkk] at ck d1 d2 d3
        have e1 : ((kk : Int) != 61) = true := by rw [bne_iff_ne]; exact d1
        have e2 : ((kk : Int) != 33) = true := by rw [bne_iff_ne]; exact d2
        have e3 : ((kk : Int) != 126) = true := by rw [bne_iff_ne]; exact d3
        clear hkd hkk hkb d1 d2 d3
        go_wp2
        refine bodyPost_ret (v := .agg #[.int .i64 11, .int .i64 (k : Int)]) (by simp [results, Tryd.results11, go_sem, hx0, hx1]) rfl ⟨by rw [HFIN.out.1, HFIN.out.2], ?_⟩
        exact (HB0.out.setCell (Nat.le_refl _) _).setCell (Nat.le_refl _) _
    · have hmn : ¬ m < n := by omega
      have hge : (n : Int) ≤ (k : Int) := by omega
      have HMN : Hid (¬ m < n) := hmn
      clear hkn hmn hx0 hx1 hy0 hy1
      go_wp2_with fail
      refine (fine_any _).mono ?_
      rintro e w1 ⟨rfl, hb1⟩
      have hblk1 : w1.heap[w.heap.size]? = some (.cells #[.int .i64 0, .int .i64 0] 36 (0, 0)) := (hb1.block w.heap.size HWL.out).trans HBLK.out
      have c0 : w1.cell? ⟨w.heap.size, 0, none⟩ = some (.int .i64 0) := by simp [World.cell?, hblk1]
      have c1 : w1.cell? ⟨w.heap.size, 1, none⟩ = some (.int .i64 0) := by simp [World.cell?, hblk1]
      have z0 : w1.frozen? ⟨w.heap.size, 0, none⟩ = false := by simp [World.frozen?, hblk1]
      have z1 : w1.frozen? ⟨w.heap.size, 1, none⟩ = false := by simp [World.frozen?, hblk1]
      have hbb : Below w.heap.size w w1 := HB0.out.trans (hb1.mono (Nat.le_of_lt HWL.out))
      clear hb1 hblk1
      go_wp2
      refine bodyPost_ret (v := .agg #[.int .i64 0, .int .i64 (-1)]) (by simp [results, Tryd.results11, go_sem, c0, c1]) rfl ⟨by rw [HC.out, HA.out, if_neg HMN.out, if_neg HMN.out], ?_⟩
      exact (hbb.setCell (Nat.le_refl _) _).setCell (Nat.le_refl _) _
end Go.Proofs.YtfanagohfimnkaaDoor
