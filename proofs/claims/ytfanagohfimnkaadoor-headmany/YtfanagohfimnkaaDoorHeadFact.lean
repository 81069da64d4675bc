/- Closed texts as labels; the statement's closed fact on a head; numbers as texts. -/
import Derived.Test.YtfanagohfimnkaaDoorHeadSt
import Derived.Test.YtfanagohfimnkaaDoorCoded2
import Derived.Test.YtfanagohfimnkaaDoorRefsGroup
namespace Go.Proofs.YtfanagohfimnkaaDoor
open Go.RowKit Go.Maps HeadMath LabMath PtMath

/-- Digits of a number below a hundred. -/
def dec2 (i : Nat) : List UInt8 := if i < 10 then [UInt8.ofNat (48 + i)] else [UInt8.ofNat (48 + i / 10), UInt8.ofNat (48 + i % 10)]
def numK (i : Nat) : List UInt8 := [110, 61] ++ dec2 i
theorem numK_read : ∀ i, i < 60 → readC (numK i) = 0 := fun i hi => by
  have h : ∀ i, i < 60 → scan (numK i) [] [] [] false = some [([110], dec2 i)] ∧ isName (nameAt [([110], dec2 i)] 0) = true ∧ isWord (valueAt [([110], dec2 i)] 0) = true := by decide
  exact readC_one (h i hi).1 (h i hi).2.1 (h i hi).2.2
theorem numK_inj : ∀ i, i < 60 → ∀ j, j < 60 → numK i = numK j → i = j := by decide
def moreK : List UInt8 := [110, 61, 109, 111, 114, 101]
theorem moreK_read : readC moreK = 0 := readC_one (nm := [110]) (vl := [109, 111, 114, 101]) (by decide) (by decide) (by decide)
theorem moreK_ne : ∀ i, i < 60 → numK i ≠ moreK := by decide
theorem addC_fine {S : List Sr} {k : List UInt8} {t : Int} (h1 : readC k = 0) (h2 : -1099511627776 ≤ t) (h3 : t ≤ 1099511627776) (h4 : oldB S k t = false) (h5 : known S k = true ∨ S.length < 60) : addC S k t = 0 := by
  unfold addC
  rw [if_neg (by omega), if_neg (by omega), h4, if_neg (by decide), if_neg]
  rintro ⟨a, b⟩
  rcases h5 with h5 | h5
  · rw [a] at h5; cases h5
  · omega

set_option maxRecDepth 1000000 in
theorem headed_any {B : Nat} {ea : Nat → Addr} (w : World) (E : EnvH B ea w) (hB : B ≤ w.heap.size) :
    Calls Tryd.prog 18 #[] w fun e w' => e = .returned (.bool true) ∧ Below w.heap.size w w' := by
  have HN := (show Hid _ from hd_new w w (Below.refl _ _))
  have HE := (show Hid _ from E)
  clear E
  go_enter Tryd.func18, Tryd.ntmps18
  go_wp2_with fail
  refine Calls.mono HN.out ?_
  rintro e w1 ⟨h, rfl, h1, _⟩
  have HA := (show Hid _ from hd_add w HE.out hB w1 h [] h1 (by simp) (by simp [countS]) ⟨#[110, 61, 97]⟩ (by decide) 3 7 (by omega))
  clear h1 HN
  dsimp only
  go_wp2_with fail
  refine Calls.mono HA.out ?_
  rintro e w2 ⟨v, rfl, hf, _, hz⟩
  have h0 : addC [] [110, 61, 97] 3 = 0 := addC_fine naK_read (by omega) (by omega) rfl (.inr (by simp))
  have h2 := hz h0
  have hv := hf.none h0
  subst hv
  have hc1 : countS (addS [] (⟨#[110, 61, 97]⟩ : ByteArray).data.toList (3, 7)) = 1 := by decide
  have hcc := hd_count w w2 h _ h2 (by rw [hc1]; omega)
  rw [hc1] at hcc
  have HC := (show Hid _ from hcc)
  clear hcc hc1
  have HH2 := (show Hid _ from h2)
  clear hf hz h0 h2 HA
  dsimp only
  go_wp2_with fail
  refine Calls.mono HC.out ?_
  rintro e w3 ⟨rfl, hb3⟩
  have h3 := HH2.out.below hb3
  have HS := (show Hid _ from hd_series w w3 h _ h3 (by simp [addS]))
  have HB3 := (show Hid _ from h3.bel)
  clear hb3 h3 HC
  dsimp only
  go_wp2_with fail
  refine Calls.mono HS.out ?_
  rintro e w4 ⟨v, rfl, hb4, hown⟩
  have HB4 : Hid (Below w.heap.size w w4) := HB3.out.trans (hb4.mono HB3.out.size)
  have hl : (seriesS (addS [] [110, 61, 97] (3, 7))).length = 1 := by decide
  obtain ⟨a, c, hv⟩ : ∃ a c, v = .slice a 1 c := by
    have h5 : (seriesS (addS [] (⟨#[110, 61, 97]⟩ : ByteArray).data.toList (3, 7))).length = 1 := hl
    rcases hown.2 with ⟨_, hz⟩ | ⟨g, cap, cur, hv, _⟩
    · rw [h5] at hz; cases hz
    · rw [h5] at hv; exact ⟨_, _, hv⟩
  subst hv
  clear hown hb4 HS hl
  dsimp only
  go_wp2
  go_ret
  exact ⟨rfl, HB4.out⟩

theorem dec_str (n : Int) (i : Nat) (h : n = 48 + (i : Int)) : byteStr n = ⟨#[UInt8.ofNat (48 + i)]⟩ := by
  subst h
  unfold byteStr
  rw [show (48 + (i : Int)).toNat = 48 + i by omega]

set_option maxRecDepth 1000000 in
theorem below_low (i : Nat) (hi : i < 10) (w : World) :
    Calls Tryd.prog 48 #[.int .i64 (-(i : Int))] w fun e w' => e = .returned (.string ⟨(dec2 i).toArray⟩) ∧ Below w.heap.size w w' := by
  have HB := (show Hid _ from byte_any (48 + (i : Int)) w (by omega) (by omega))
  have hd : decide ((-10 : Int) < -(i : Int)) = true := by simp; omega
  have he : dec2 i = [UInt8.ofNat (48 + i)] := by unfold dec2; rw [if_pos hi]
  rw [he]
  have hs : (48 : Int) - -(i : Int) = 48 + (i : Int) := by omega
  go_enter Tryd.func48, Tryd.ntmps48
  go_wp2_with fail
  refine Calls.mono HB.out ?_
  rintro e w1 ⟨rfl, hb1⟩
  have HB1 := (show Hid _ from hb1)
  clear hb1
  go_wp2
  go_ret
  exact ⟨by rw [← dec_str _ i rfl]; rfl, HB1.out⟩

set_option maxRecDepth 1000000 in
theorem below_two (i : Nat) (h10 : 10 ≤ i) (hi : i < 60) (w : World) :
    Calls Tryd.prog 48 #[.int .i64 (-(i : Int))] w fun e w' => e = .returned (.string ⟨(dec2 i).toArray⟩) ∧ Below w.heap.size w w' := by
  have HL := (show Hid _ from below_low (i / 10) (by omega) w)
  have HB := (show Hid _ from fun w' => byte_any (48 + ((i % 10 : Nat) : Int)) w' (by omega) (by omega))
  have hd : decide ((-10 : Int) < -(i : Int)) = false := by simp; omega
  have hq : (-(i : Int)).tdiv 10 = -((i / 10 : Nat) : Int) := by rw [Int.neg_tdiv]; rfl
  have hr : (-(i : Int)).tmod 10 = -((i % 10 : Nat) : Int) := by rw [Int.neg_tmod]; rfl
  have hs : (48 : Int) - -((i % 10 : Nat) : Int) = 48 + ((i % 10 : Nat) : Int) := by omega
  have HT : Hid ((⟨(dec2 (i / 10)).toArray⟩ : ByteArray) ++ ⟨#[UInt8.ofNat (48 + i % 10)]⟩ = ⟨(dec2 i).toArray⟩) := by
    show _ = _
    have e1 : dec2 (i / 10) = [UInt8.ofNat (48 + i / 10)] := by unfold dec2; rw [if_pos (by omega)]
    have e2 : dec2 i = [UInt8.ofNat (48 + i / 10), UInt8.ofNat (48 + i % 10)] := by unfold dec2; rw [if_neg (by omega)]
    rw [e1, e2]
    apply ByteArray.ext
    rw [ByteArray.data_append]
    simp
  have HBS : Hid (byteStr (48 + ((i % 10 : Nat) : Int)) = ⟨#[UInt8.ofNat (48 + i % 10)]⟩) := dec_str _ (i % 10) rfl
  obtain ⟨A, hA⟩ : ∃ A : ByteArray, A = ⟨(dec2 (i / 10)).toArray⟩ := ⟨_, rfl⟩
  obtain ⟨C, hC⟩ : ∃ C : ByteArray, C = byteStr (48 + ((i % 10 : Nat) : Int)) := ⟨_, rfl⟩
  rw [← hA] at HL HT
  rw [← hC] at HB HBS
  have eq : -((i / 10 : Nat) : Int) = -((i : Int) / 10) := by omega
  have er : 48 + ((i % 10 : Nat) : Int) = 48 + (i : Int) % 10 := by omega
  rw [eq] at HL
  rw [er] at HB
  have hadd : ∀ w, (Op.stringOp .add A C).run Tryd.prog w = .ok (.string (A ++ C)) w := fun w => run_string_add_sum w _ _ (by
    rw [hA, hC]
    have : (dec2 (i / 10)).length = 1 := by unfold dec2; rw [if_pos (by omega)]; rfl
    simp [byteStr, ByteArray.size, this])
  have hd2 : decide ((i : Int) < 10) = false := by simp; omega
  have hmod : (48 : Int) - -((i : Int) % 10) = 48 + (i : Int) % 10 := by omega
  clear hA hC hq hr hs eq er hd
  go_enter Tryd.func48, Tryd.ntmps48
  go_wp2_with fail
  refine Calls.mono HL.out ?_
  rintro e w1 ⟨rfl, hb1⟩
  have HB1 := (show Hid _ from hb1)
  clear hb1
  dsimp only
  go_wp2_with fail
  refine Calls.mono (HB.out _) ?_
  rintro e w2 ⟨rfl, hb2⟩
  have HB2 := (show Hid _ from HB1.out.trans (hb2.mono HB1.out.size))
  clear hb2
  dsimp only
  go_wp2
  go_ret
  exact ⟨by rw [← HT.out, ← HBS.out]; rfl, HB2.out⟩
theorem below_any (i : Nat) (hi : i < 60) (w : World) :
    Calls Tryd.prog 48 #[.int .i64 (-(i : Int))] w fun e w' => e = .returned (.string ⟨(dec2 i).toArray⟩) ∧ Below w.heap.size w w' := by
  rcases Nat.lt_or_ge i 10 with h | h
  · exact below_low i h w
  · exact below_two i h hi w

set_option maxRecDepth 1000000 in
theorem decimal_any (i : Nat) (hi : i < 60) (w : World) :
    Calls Tryd.prog 21 #[.int .i64 (i : Int)] w fun e w' => e = .returned (.string ⟨(dec2 i).toArray⟩) ∧ Below w.heap.size w w' := by
  have HB := (show Hid _ from below_any i hi w)
  have hd : decide ((i : Int) < 0) = false := by simp
  go_enter Tryd.func21, Tryd.ntmps21
  go_wp2_with fail
  refine Calls.mono HB.out ?_
  rintro e w1 ⟨rfl, hb1⟩
  have HB1 := (show Hid _ from hb1)
  clear hb1
  dsimp only
  go_wp2
  go_ret
  exact ⟨rfl, HB1.out⟩
end Go.Proofs.YtfanagohfimnkaaDoor
