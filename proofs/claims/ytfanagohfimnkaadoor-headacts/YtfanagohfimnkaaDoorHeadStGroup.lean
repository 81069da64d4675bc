/- A head as a statement holds it: its state alone; its calls by contracts on it. -/
import Derived.Test.YtfanagohfimnkaaDoorHeadAdd
import Derived.Test.YtfanagohfimnkaaDoorHeadCut
import Derived.Test.YtfanagohfimnkaaDoorCoded2
import Derived.Test.YtfanagohfimnkaaDoorRefsGroup
import Derived.Deep.DeepCutAuto
import Derived.Deep.CutRange
namespace Go.Proofs.YtfanagohfimnkaaDoor
open Go.RowKit Go.Maps HeadMath LabMath PtMath

/-- Since w a head was made, whose series are S. -/
structure HdSt (w wr : World) (hb : Nat) (S : List Sr) : Prop where
  ex : ∃ mb bl sv, HeadAt wr hb mb S bl sv ∧ (∀ x, x ∈ foot mb S bl sv → w.heap.size ≤ x) ∧ Well S ∧ Below w.heap.size w wr
theorem HdSt.well {w wr : World} {hb : Nat} {S : List Sr} (h : HdSt w wr hb S) : Well S := by obtain ⟨_, _, _, _, _, h, _⟩ := h.ex; exact h
theorem HdSt.bel {w wr : World} {hb : Nat} {S : List Sr} (h : HdSt w wr hb S) : Below w.heap.size w wr := by obtain ⟨_, _, _, _, _, _, h⟩ := h.ex; exact h
theorem HdSt.below {w wr w' : World} {hb : Nat} {S : List Sr} (h : HdSt w wr hb S) (hb' : Below wr.heap.size wr w') : HdSt w w' hb S := by
  obtain ⟨mb, bl, sv, h1, h2, h3, h4⟩ := h.ex
  exact ⟨⟨mb, bl, sv, h1.below hb', h2, h3, h4.trans (hb'.mono h4.size)⟩⟩
theorem len_count {S : List Sr} {l : Sr} (h : l ∈ S) : l.pts.length ≤ countS S := by
  induction S with
  | nil => cases h
  | cons a r ih =>
    simp only [countS, List.map_cons, List.sum_cons] at ih ⊢
    rcases List.mem_cons.1 h with rfl | h'
    · omega
    · have := ih h'
      omega
theorem well_nil : Well [] := ⟨List.Pairwise.nil, fun _ h => (nomatch h), fun _ h => (nomatch h), fun _ h => (nomatch h), fun _ h => (nomatch h)⟩
theorem hd_new (w wr : World) (hb : Below w.heap.size w wr) :
    Calls Tryd.prog 19 #[] wr fun e w' => ∃ h, e = .returned (.pointer (some ⟨h, 0, none⟩)) ∧ HdSt w w' h [] ∧ Below wr.heap.size wr w' := by
  refine (hNew_any wr).mono ?_
  rintro e w' ⟨h, mb, rfl, h1, h2, h3, h4⟩
  refine ⟨h, rfl, ⟨⟨mb, _, _, h1, fun x hx => ?_, well_nil, hb.trans (h2.mono hb.size)⟩⟩, h2⟩
  rcases mem_foot hx with rfl | ⟨l, hl, _⟩ | ⟨l, hl, _⟩
  · exact Nat.le_trans hb.size h4
  · cases hl
  · cases hl
theorem addC_zero {S : List Sr} (hS : S.Pairwise fun a b => a.key < b.key) {k : List UInt8} {t : Int} (h : addC S k t = 0) : readC k = 0 ∧ -1099511627776 ≤ t ∧ t ≤ 1099511627776 ∧ (∀ l, l ∈ S → l.key = k → l.last < t) ∧ (known S k = true ∨ S.length < 60) := by
  unfold addC at h
  have h0 := readC_nonneg k
  by_cases c1 : 0 < readC k
  · rw [if_pos c1] at h; omega
  · rw [if_neg c1] at h
    by_cases c2 : t < -1099511627776 ∨ 1099511627776 < t
    · rw [if_pos c2] at h; omega
    · rw [if_neg c2] at h
      by_cases c3 : oldB S k t = true
      · rw [if_pos c3] at h; omega
      · rw [if_neg c3] at h
        by_cases c4 : known S k = false ∧ 60 ≤ S.length
        · rw [if_pos c4] at h; omega
        · refine ⟨by omega, by omega, by omega, fun l hl hk => ?_, ?_⟩
          · rw [oldB_some hS hl hk] at c3
            simpa using c3
          · cases hkn : known S k with
            | true => exact .inl rfl
            | false => exact .inr (Nat.lt_of_not_le fun hle => c4 ⟨hkn, hle⟩)
theorem hd_add {B : Nat} {ea : Nat → Addr} (w : World) (E : EnvH B ea w) (hB : B ≤ w.heap.size) (wr : World) (hb : Nat) (S : List Sr) (h : HdSt w wr hb S) (hn : S.length ≤ 900) (hc : countS S ≤ 900) (s : ByteArray) (hs : s.size ≤ 1000) (t : Int) (u : Nat) (hu : u < 18446744073709551616) :
    Calls Tryd.prog 20 #[.pointer (some ⟨hb, 0, none⟩), .string s, .agg #[.int .i64 t, .int .u64 (u : Int)]] wr fun e w' => ∃ v, e = .returned v ∧ FaultV ea w' v (addC S s.data.toList t) (addA s.data.toList) ∧ (0 < addC S s.data.toList t → HdSt w w' hb S ∧ Below wr.heap.size wr w') ∧ (addC S s.data.toList t = 0 → HdSt w w' hb (addS S s.data.toList (t, u))) := by
  obtain ⟨mb, bl, sv, h1, h2, h3, h4⟩ := h.ex
  have hwr := h4.size
  refine (hAdd_any wr (E.below h4 hB) (Nat.le_trans hB hwr) hb mb S bl sv h1 (fun x hx => Nat.le_trans hB (h2 x hx)) h3.sorted hn (fun l hl => Nat.le_trans (len_count hl) hc) s hs t u).mono ?_
  rintro e w' ⟨v, rfl, hf, hpos, hz⟩
  refine ⟨v, rfl, hf, fun hp => ⟨⟨⟨mb, bl, sv, h1.below (hpos hp), h2, h3, h4.trans ((hpos hp).mono hwr)⟩⟩, hpos hp⟩, fun h0 => ?_⟩
  obtain ⟨bl', sv', q1, q2, q3⟩ := hz h0
  obtain ⟨_, a1, a2, a3, _⟩ := addC_zero h3.sorted h0
  refine ⟨⟨mb, bl', sv', q1, fun x hx => ?_, h3.add ⟨a1, a2, hu⟩ a3, h4.trans (q2.below hwr h2)⟩⟩
  rcases q3 x hx with h5 | h5
  · exact h2 x h5
  · exact Nat.le_trans hwr h5
theorem hd_count (w wr : World) (hb : Nat) (S : List Sr) (h : HdSt w wr hb S) (hc : countS S ≤ 100000) :
    Calls Tryd.prog 24 #[.pointer (some ⟨hb, 0, none⟩)] wr fun e w' => e = .returned (.int .i64 (countS S : Int)) ∧ Below wr.heap.size wr w' := by
  obtain ⟨mb, bl, sv, h1, h2, h3, h4⟩ := h.ex
  exact hCount_any wr hb mb S bl sv h1 h3.sorted hc
theorem hd_series (w wr : World) (hb : Nat) (S : List Sr) (h : HdSt w wr hb S) (hn : S.length ≤ 1000) :
    Calls Tryd.prog 25 #[.pointer (some ⟨hb, 0, none⟩)] wr fun e w' => ∃ v, e = .returned v ∧ Below wr.heap.size wr w' ∧ w'.ownsRow wr.heap.size 9 1 v (seriesS S).length ((seriesS S).map encStr) := by
  obtain ⟨mb, bl, sv, h1, h2, h3, h4⟩ := h.ex
  exact hSeries_any wr hb mb S bl sv h1 h3.sorted hn
theorem hd_points (w wr : World) (hb : Nat) (S : List Sr) (h : HdSt w wr hb S) (hc : countS S ≤ 1000) (s : ByteArray) (hs : s.size ≤ 1000) (x y : Int) :
    Calls Tryd.prog 26 #[.pointer (some ⟨hb, 0, none⟩), .string s, .int .i64 x, .int .i64 y] wr fun e w' => ∃ v, e = .returned v ∧ w'.ownsRow wr.heap.size 55 2 v (betweenL x y (ptsOf S s.data.toList)).length (pairCells (betweenL x y (ptsOf S s.data.toList))) ∧ Below wr.heap.size wr w' := by
  obtain ⟨mb, bl, sv, h1, h2, h3, h4⟩ := h.ex
  exact hPoints_any wr hb mb S bl sv h1 h3.sorted (fun l hl => Nat.le_trans (len_count hl) hc) s hs x y
theorem hd_cut {B : Nat} {ea : Nat → Addr} (w : World) (E : EnvH B ea w) (hB : B ≤ w.heap.size) (wr : World) (hb : Nat) (S : List Sr) (h : HdSt w wr hb S) (hn : S.length ≤ 1000) (hc : countS S ≤ 1000) (t : Int) :
    Calls Tryd.prog 23 #[.pointer (some ⟨hb, 0, none⟩), .int .i64 t] wr fun e w' => HdSt w w' hb (cutS t S) ∧
      ((rowsS t S = [] ∧ e = .returned (.tuple #[.slice none 0 0, .iface 197 (.pointer (some (ea 4)))])) ∨ (rowsS t S ≠ [] ∧ ∃ r xs, e = .returned (.tuple #[r, .nilIface]) ∧ w'.ownsRow wr.heap.size 70 2 r (rowsS t S).length xs ∧ RowsC w' wr.heap.size xs (rowsS t S))) := by
  obtain ⟨mb, bl, sv, h1, h2, h3, h4⟩ := h.ex
  have hwr := h4.size
  have hE := E.below h4 hB
  refine (hCut_any wr (ea 4) hE.c4 hb mb S bl sv h1 (fun hx => ?_) h3 hn (fun l hl => Nat.le_trans (len_count hl) hc) t).mono ?_
  · have := h2 _ hx
    have := E.low 1 (by simp)
    omega
  · rintro e w' ⟨sv', q1, q2, q3, q4⟩
    refine ⟨⟨⟨mb, bl, sv', q1, fun x hx => ?_, h3.cut t, h4.trans (q3.below hwr h2)⟩⟩, q4⟩
    rcases q2 x hx with h5 | h5
    · exact h2 x h5
    · exact Nat.le_trans hwr h5
end Go.Proofs.YtfanagohfimnkaaDoor
/- Closed texts as labels; the statement's closed fact on a head; numbers as texts. -/
namespace Go.Proofs.YtfanagohfimnkaaDoor
open Go.RowKit Go.Maps HeadMath LabMath PtMath

/-- Digits of a number below a hundred. -/
def dec2 (i : Nat) : List UInt8 := if i < 10 then [UInt8.ofNat (48 + i)] else [UInt8.ofNat (48 + i / 10), UInt8.ofNat (48 + i % 10)]
def numK (i : Nat) : List UInt8 := [110, 61] ++ dec2 i
theorem numK_read : ∀ i, i < 60 → readC (numK i) = 0 := fun i hi => by
  have h : ∀ i, i < 60 → scan (numK i) [] [] [] false = some [([110], dec2 i)] ∧ isName (nameAt [([110], dec2 i)] 0) = true ∧ isWord (valueAt [([110], dec2 i)] 0) = true := by decide
  exact readC_one (h i hi).1 (h i hi).2.1 (h i hi).2.2
theorem numK_inj : ∀ i, i < 60 → ∀ j, j < 60 → numK i = numK j → i = j := by decide
def moreK : List UInt8 := [110, 61, 109, 111, 114, 101]
theorem moreK_read : readC moreK = 0 := readC_one (nm := [110]) (vl := [109, 111, 114, 101]) (by decide) (by decide) (by decide)
theorem moreK_ne : ∀ i, i < 60 → numK i ≠ moreK := by decide
theorem addC_fine {S : List Sr} {k : List UInt8} {t : Int} (h1 : readC k = 0) (h2 : -1099511627776 ≤ t) (h3 : t ≤ 1099511627776) (h4 : oldB S k t = false) (h5 : known S k = true ∨ S.length < 60) : addC S k t = 0 := by
  unfold addC
  rw [if_neg (by omega), if_neg (by omega), h4, if_neg (by decide), if_neg]
  rintro ⟨a, b⟩
  rcases h5 with h5 | h5
  · rw [a] at h5; cases h5
  · omega

set_option maxRecDepth 1000000 in
theorem headed_any {B : Nat} {ea : Nat → Addr} (w : World) (E : EnvH B ea w) (hB : B ≤ w.heap.size) :
    Calls Tryd.prog 18 #[] w fun e w' => e = .returned (.bool true) ∧ Below w.heap.size w w' := by
  have HN := (show Hid _ from hd_new w w (Below.refl _ _))
  have HE := (show Hid _ from E)
  clear E
  go_enter Tryd.func18, Tryd.ntmps18
  go_wp2_with fail
  refine Calls.mono HN.out ?_
  rintro e w1 ⟨h, rfl, h1, _⟩
  have HA := (show Hid _ from hd_add w HE.out hB w1 h [] h1 (by simp) (by simp [countS]) ⟨#[110, 61, 97]⟩ (by decide) 3 7 (by omega))
  clear h1 HN
  dsimp only
  go_wp2_with fail
  refine Calls.mono HA.out ?_
  rintro e w2 ⟨v, rfl, hf, _, hz⟩
  have h0 : addC [] [110, 61, 97] 3 = 0 := addC_fine naK_read (by omega) (by omega) rfl (.inr (by simp))
  have h2 := hz h0
  have hv := hf.none h0
  subst hv
  have hc1 : countS (addS [] (⟨#[110, 61, 97]⟩ : ByteArray).data.toList (3, 7)) = 1 := by decide
  have hcc := hd_count w w2 h _ h2 (by rw [hc1]; omega)
  rw [hc1] at hcc
  have HC := (show Hid _ from hcc)
  clear hcc hc1
  have HH2 := (show Hid _ from h2)
  clear hf hz h0 h2 HA
  dsimp only
  go_wp2_with fail
  refine Calls.mono HC.out ?_
  rintro e w3 ⟨rfl, hb3⟩
  have h3 := HH2.out.below hb3
  have HS := (show Hid _ from hd_series w w3 h _ h3 (by simp [addS]))
  have HB3 := (show Hid _ from h3.bel)
  clear hb3 h3 HC
  dsimp only
  go_wp2_with fail
  refine Calls.mono HS.out ?_
  rintro e w4 ⟨v, rfl, hb4, hown⟩
  have HB4 : Hid (Below w.heap.size w w4) := HB3.out.trans (hb4.mono HB3.out.size)
  have hl : (seriesS (addS [] [110, 61, 97] (3, 7))).length = 1 := by decide
  obtain ⟨a, c, hv⟩ : ∃ a c, v = .slice a 1 c := by
    have h5 : (seriesS (addS [] (⟨#[110, 61, 97]⟩ : ByteArray).data.toList (3, 7))).length = 1 := hl
    rcases hown.2 with ⟨_, hz⟩ | ⟨g, cap, cur, hv, _⟩
    · rw [h5] at hz; cases hz
    · rw [h5] at hv; exact ⟨_, _, hv⟩
  subst hv
  clear hown hb4 HS hl
  dsimp only
  go_wp2
  go_ret
  exact ⟨rfl, HB4.out⟩

theorem dec_str (n : Int) (i : Nat) (h : n = 48 + (i : Int)) : byteStr n = ⟨#[UInt8.ofNat (48 + i)]⟩ := by
  subst h
  unfold byteStr
  rw [show (48 + (i : Int)).toNat = 48 + i by omega]

set_option maxRecDepth 1000000 in
theorem below_low (i : Nat) (hi : i < 10) (w : World) :
    Calls Tryd.prog 48 #[.int .i64 (-(i : Int))] w fun e w' => e = .returned (.string ⟨(dec2 i).toArray⟩) ∧ Below w.heap.size w w' := by
  have HB := (show Hid _ from byte_any (48 + (i : Int)) w (by omega) (by omega))
  have hd : decide ((-10 : Int) < -(i : Int)) = true := by simp; omega
  have he : dec2 i = [UInt8.ofNat (48 + i)] := by unfold dec2; rw [if_pos hi]
  rw [he]
  have hs : (48 : Int) - -(i : Int) = 48 + (i : Int) := by omega
  go_enter Tryd.func48, Tryd.ntmps48
  go_wp2_with fail
  refine Calls.mono HB.out ?_
  rintro e w1 ⟨rfl, hb1⟩
  have HB1 := (show Hid _ from hb1)
  clear hb1
  go_wp2
  go_ret
  exact ⟨by rw [← dec_str _ i rfl]; rfl, HB1.out⟩

set_option maxRecDepth 1000000 in
theorem below_two (i : Nat) (h10 : 10 ≤ i) (hi : i < 60) (w : World) :
    Calls Tryd.prog 48 #[.int .i64 (-(i : Int))] w fun e w' => e = .returned (.string ⟨(dec2 i).toArray⟩) ∧ Below w.heap.size w w' := by
  have HL := (show Hid _ from below_low (i / 10) (by omega) w)
  have HB := (show Hid _ from fun w' => byte_any (48 + ((i % 10 : Nat) : Int)) w' (by omega) (by omega))
  have hd : decide ((-10 : Int) < -(i : Int)) = false := by simp; omega
  have hq : (-(i : Int)).tdiv 10 = -((i / 10 : Nat) : Int) := by rw [Int.neg_tdiv]; rfl
  have hr : (-(i : Int)).tmod 10 = -((i % 10 : Nat) : Int) := by rw [Int.neg_tmod]; rfl
  have hs : (48 : Int) - -((i % 10 : Nat) : Int) = 48 + ((i % 10 : Nat) : Int) := by omega
  have HT : Hid ((⟨(dec2 (i / 10)).toArray⟩ : ByteArray) ++ ⟨#[UInt8.ofNat (48 + i % 10)]⟩ = ⟨(dec2 i).toArray⟩) := by
    show _ = _
    have e1 : dec2 (i / 10) = [UInt8.ofNat (48 + i / 10)] := by unfold dec2; rw [if_pos (by omega)]
    have e2 : dec2 i = [UInt8.ofNat (48 + i / 10), UInt8.ofNat (48 + i % 10)] := by unfold dec2; rw [if_neg (by omega)]
    rw [e1, e2]
    apply ByteArray.ext
    rw [ByteArray.data_append]
    simp
  have HBS : Hid (byteStr (48 + ((i % 10 : Nat) : Int)) = ⟨#[UInt8.ofNat (48 + i % 10)]⟩) := dec_str _ (i % 10) rfl
  obtain ⟨A, hA⟩ : ∃ A : ByteArray, A = ⟨(dec2 (i / 10)).toArray⟩ := ⟨_, rfl⟩
  obtain ⟨C, hC⟩ : ∃ C : ByteArray, C = byteStr (48 + ((i % 10 : Nat) : Int)) := ⟨_, rfl⟩
  rw [← hA] at HL HT
  rw [← hC] at HB HBS
  have eq : -((i / 10 : Nat) : Int) = -((i : Int) / 10) := by omega
  have er : 48 + ((i % 10 : Nat) : Int) = 48 + (i : Int) % 10 := by omega
  rw [eq] at HL
  rw [er] at HB
  have hadd : ∀ w, (Op.stringOp .add A C).run Tryd.prog w = .ok (.string (A ++ C)) w := fun w => run_string_add_sum w _ _ (by
    rw [hA, hC]
    have : (dec2 (i / 10)).length = 1 := by unfold dec2; rw [if_pos (by omega)]; rfl
    simp [byteStr, ByteArray.size, this])
  have hd2 : decide ((i : Int) < 10) = false := by simp; omega
  have hmod : (48 : Int) - -((i : Int) % 10) = 48 + (i : Int) % 10 := by omega
  clear hA hC hq hr hs eq er hd
  go_enter Tryd.func48, Tryd.ntmps48
  go_wp2_with fail
  refine Calls.mono HL.out ?_
  rintro e w1 ⟨rfl, hb1⟩
  have HB1 := (show Hid _ from hb1)
  clear hb1
  dsimp only
  go_wp2_with fail
  refine Calls.mono (HB.out _) ?_
  rintro e w2 ⟨rfl, hb2⟩
  have HB2 := (show Hid _ from HB1.out.trans (hb2.mono HB1.out.size))
  clear hb2
  dsimp only
  go_wp2
  go_ret
  exact ⟨by rw [← HT.out, ← HBS.out]; rfl, HB2.out⟩
theorem below_any (i : Nat) (hi : i < 60) (w : World) :
    Calls Tryd.prog 48 #[.int .i64 (-(i : Int))] w fun e w' => e = .returned (.string ⟨(dec2 i).toArray⟩) ∧ Below w.heap.size w w' := by
  rcases Nat.lt_or_ge i 10 with h | h
  · exact below_low i h w
  · exact below_two i h hi w

set_option maxRecDepth 1000000 in
theorem decimal_any (i : Nat) (hi : i < 60) (w : World) :
    Calls Tryd.prog 21 #[.int .i64 (i : Int)] w fun e w' => e = .returned (.string ⟨(dec2 i).toArray⟩) ∧ Below w.heap.size w w' := by
  have HB := (show Hid _ from below_any i hi w)
  have hd : decide ((i : Int) < 0) = false := by simp
  go_enter Tryd.func21, Tryd.ntmps21
  go_wp2_with fail
  refine Calls.mono HB.out ?_
  rintro e w1 ⟨rfl, hb1⟩
  have HB1 := (show Hid _ from hb1)
  clear hb1
  dsimp only
  go_wp2
  go_ret
  exact ⟨rfl, HB1.out⟩
end Go.Proofs.YtfanagohfimnkaaDoor
/- The statement HeadRises, walked: its last part, what is cut. -/
namespace Go.Proofs.YtfanagohfimnkaaDoor
open Go.RowKit Go.Maps HeadMath LabMath PtMath

def tailR : Nat → Code → Code
  | 0, c => c
  | n + 1, .seq _ b => tailR n b
  | _ + 1, c => c
noncomputable def risesT11 : Code := tailR 11 (Tryd.f5.body.getD .skip)
/-- Rows of points, as a slice holds them. -/
def RowsAt (w : World) (r : Value) (rows : List (List UInt8 × List (Int × Nat))) : Prop :=
  ∃ a c, r = .slice a rows.length c ∧ ∀ i (hi : i < rows.length), ∃ g, a = some ⟨g, 0, none⟩ ∧ w.cell? ⟨g, i * 2, none⟩ = some (encStr (rows[i]).1) ∧ ∃ ap cp, w.cell? ⟨g, i * 2 + 1, none⟩ = some (.slice ap (rows[i]).2.length cp) ∧ PtsL w ap (rows[i]).2
theorem rowsAt_nil (w : World) : RowsAt w (.slice none 0 0) [] := ⟨none, 0, rfl, fun i hi => absurd hi (by simp)⟩
theorem rowsAt_of {w : World} {base : Nat} {r : Value} {xs : List Value} {rows : List (List UInt8 × List (Int × Nat))} (h : w.ownsRow base 70 2 r rows.length xs) (hc : RowsC w base xs rows) : RowsAt w r rows := by
  rcases h.2 with ⟨hv, h0⟩ | ⟨g, cap, cur, hv, _, hh, _, _, _, ht⟩
  · exact ⟨none, 0, by rw [h0]; exact hv, fun i hi => absurd hi (by omega)⟩
  · refine ⟨some ⟨g, 0, none⟩, cap, hv, fun i hi => ?_⟩
    obtain ⟨h1, s, h2, h3⟩ := hc.at i hi
    have hcell : ∀ j, j < rows.length * 2 → w.cell? ⟨g, j, none⟩ = xs[j]? := fun j hj => by
      have e0 : w.cell? ⟨g, j, none⟩ = cur[j]? := by simp [World.cell?, hh]
      rw [e0, ← Array.getElem?_toList, ← ht, List.getElem?_take_of_lt hj]
    obtain ⟨ap, cp, hs, _, hp, _⟩ := own_pairs h3
    exact ⟨g, rfl, (hcell _ (by omega)).trans h1, ap, cp, (hcell _ (by omega)).trans (by rw [h2, hs]), hp⟩
def sumR (rows : List (List UInt8 × List (Int × Nat))) (j : Nat) : Nat := ((rows.take j).map fun x => x.2.length).sum
theorem sumR_succ (rows : List (List UInt8 × List (Int × Nat))) (j : Nat) (h : j < rows.length) : sumR rows (j + 1) = sumR rows j + (rows[j]).2.length := by
  rw [sumR, take_succ h, List.map_append, List.sum_append]
  show sumR rows j + ((rows[j]).2.length + 0) = _
  omega
theorem sumR_all (rows : List (List UInt8 × List (Int × Nat))) : sumR rows rows.length = (rows.map fun x => x.2.length).sum := by simp [sumR]
theorem sumR_le (rows : List (List UInt8 × List (Int × Nat))) (j : Nat) : sumR rows j ≤ (rows.map fun x => x.2.length).sum := by
  have : ∀ (l : List Nat) j, (l.take j).sum ≤ l.sum := by
    intro l
    induction l with
    | nil => intro j; simp
    | cons a r ih =>
      intro j
      cases j with
      | zero => simp
      | succ j => have := ih j; simp; omega
  have := this (rows.map fun x => x.2.length) j
  rw [← List.map_take] at this
  exact this
theorem rows_less {t : Int} {S : List Sr} {i : Nat} (hi : i < (rowsS t S).length) : ∀ p, p ∈ ((rowsS t S)[i]).2 → p.1 < t := fun p hp => by
  have hm := List.getElem_mem hi
  obtain ⟨h1, _⟩ := List.mem_filter.1 hm
  obtain ⟨l, _, e⟩ := List.mem_map.1 h1
  rw [← e] at hp
  simpa using (List.mem_filter.1 hp).2

set_option maxRecDepth 1000000 in
set_option maxHeartbeats 4000000 in
theorem rises_t11 {B : Nat} {ea : Nat → Addr} (w : World) (E : EnvH B ea w) (hB : B ≤ w.heap.size) (wr : World) (hb : Nat) (S : List Sr) (h : HdSt w wr hb S) (hn : S.length ≤ 1000) (hc : countS S ≤ 1000) (la : Option Addr) (n c : Nat) (t : Int) (x2 x3 x4 x5 x7 x8 x9 x11 x12 x13 x14 x15 x16 x17 x18 x19 x20 x21 x22 x23 x24 x25 x26 x27 x28 x29 x30 x31 x32 x33 x34 x35 x36 x37 x38 x39 x40 x41 x42 x43 x44 x45 x46 x47 x48 x49 x50 x51 x52 x53 x54 x55 x56 x57 x58 x59 x60 x61 x62 x63 x64 x65 x66 x67 x68 x69 x70 x71 x72 x73 x74 x75 x76 x77 x78 x79 x80 x81 x82 x83 x84 x85 x86 x87 x88 x89 x90 x91 x92 x93 x94 x95 x96 x97 x98 x99 x100 x101 x102 x103 x104 x105 x106 x107 x108 x109 x110 x111 x112 x113 x114 x115 x116 x117 x118 x119 x120 x121 x122 x123 x124 x125 x126 x127 x128 x129 x130 x131 x132 x133 x134 x135 x136 x137 x138 x139 x140 x141 x142 x143 x144 x145 x146 x147 x148 x149 x150 x151 x152 x153 x154 x155 x156 x157 x158 x159 x160 x161 : Value) :
    Code.wp Tryd.prog risesT11 (bodyPost Tryd.prog Tryd.f5 fun e w' => e = .returned (.bool true) ∧ Below w.heap.size w w') ⟨#[.slice la n c, .int .i64 t, x2, x3, x4, x5, .pointer (some ⟨hb, 0, none⟩), x7, x8, x9, .int .i64 (countS S : Int), x11, x12, x13, x14, x15, x16, x17, x18, x19, x20, x21, x22, x23, x24, x25, x26, x27, x28, x29, x30, x31, x32, x33, x34, x35, x36, x37, x38, x39, x40, x41, x42, x43, x44, x45, x46, x47, x48, x49, x50, x51, x52, x53, x54, x55, x56, x57, x58, x59, x60, x61, x62, x63, x64, x65, x66, x67, x68, x69, x70, x71, x72, x73, x74, x75, x76, x77, x78, x79, x80, x81, x82, x83, x84, x85, x86, x87, x88, x89, x90, x91, x92, x93, x94, x95, x96, x97, x98, x99, x100, x101, x102, x103, x104, x105, x106, x107, x108, x109, x110, x111, x112, x113, x114, x115, x116, x117, x118, x119, x120, x121, x122, x123, x124, x125, x126, x127, x128, x129, x130, x131, x132, x133, x134, x135, x136, x137, x138, x139, x140, x141, x142, x143, x144, x145, x146, x147, x148, x149, x150, x151, x152, x153, x154, x155, x156, x157, x158, x159, x160, x161], []⟩ wr := by
  conv => arg 2; whnf
  have HCU := (show Hid _ from hd_cut w E hB wr hb S h hn hc t)
  obtain ⟨cs, hcs⟩ : ∃ cs, cs = countS S := ⟨_, rfl⟩
  have HCS := (show Hid _ from hcs)
  rw [← hcs]
  rw [← hcs] at hc
  clear E h hcs
  go_wp2_with fail
  refine Calls.mono HCU.out ?_
  intro e w5 hout
  have hex : ∃ r v, e = .returned (.tuple #[r, v]) ∧ HdSt w w5 hb (cutS t S) ∧ RowsAt w5 r (rowsS t S) := by
    obtain ⟨h5, ⟨hz, rfl⟩ | ⟨_, r, xs, rfl, hrow, hrc⟩⟩ := hout
    · exact ⟨_, _, rfl, h5, by rw [hz]; exact rowsAt_nil _⟩
    · exact ⟨_, _, rfl, h5, rowsAt_of hrow hrc⟩
  clear hout
  obtain ⟨r, v, rfl, h5, a, cr, rfl, hrows⟩ := hex
  have H5 := (show Hid _ from h5)
  have HRO := (show Hid _ from hrows)
  obtain ⟨rows, hrw⟩ : ∃ rows, rows = rowsS t S := ⟨_, rfl⟩
  have HRW := (show Hid _ from hrw)
  rw [← hrw] at HRO ⊢
  have hsumle : (rows.map fun x => x.2.length).sum ≤ cs := by rw [hrw, HCS.out]; have := count_cut t S; omega
  obtain ⟨m, hm⟩ : ∃ m, m = rows.length := ⟨_, rfl⟩
  have HM := (show Hid _ from hm)
  rw [← hm]
  have HSL := (show Hid _ from hsumle)
  have hm1 : (m : Int) ≤ 9223372036854775807 := by
    have : rows.length ≤ S.length := by rw [hrw]; exact Nat.le_trans (List.length_filter_le ..) (by rw [List.length_map]; exact Nat.le_refl _)
    omega
  clear h5 hrows hrw hm HCU hsumle
  dsimp only
  go_wp2_with fail
  go_loopw [10, 16] (fun z i wq => wq = w5 ∧ ∃ j : Nat, j ≤ m ∧ i = .int .i64 (j : Int) ∧ z = .int .i64 ((cs : Int) - (sumR rows j : Int))) (fun _ i _ => m - (intOf i).toNat)
  case atStart => exact ⟨rfl, 0, Nat.zero_le _, rfl, by simp [sumR]⟩
  case round =>
    obtain ⟨rfl, j, hj, rfl, rfl⟩ := hrel
    by_cases hjm : j < m
    · have hjr : j < rows.length := by rw [← HM.out]; exact hjm
      obtain ⟨g, rfl, _, ap, cp, hcell, hpts⟩ := HRO.out j hjr
      obtain ⟨pl, hpl⟩ : ∃ pl, pl = (rows[j]).2 := ⟨_, rfl⟩
      rw [← hpl] at hcell hpts
      have hless : ∀ p, p ∈ pl → p.1 < t := by
        intro p hp
        have := HRW.out
        subst this
        exact rows_less hjr p (by rw [← hpl]; exact hp)
      have hsuc := sumR_succ rows j hjr
      rw [← hpl] at hsuc
      have hsl := sumR_le rows (j + 1)
      have hsl2 := HSL.out
      obtain ⟨q, hq⟩ : ∃ q, q = pl.length := ⟨_, rfl⟩
      rw [← hq] at hcell hsuc
      obtain ⟨s0, hs0⟩ : ∃ s0, s0 = sumR rows j := ⟨_, rfl⟩
      rw [← hs0] at hsuc ⊢
      have HQ := (show Hid _ from And.intro hq (And.intro hpts (And.intro hless hsuc)))
      have hb1 : s0 + q ≤ cs := by omega
      have hj0 : (0 : Int) ≤ (j : Int) := by omega
      have hj1 : (j : Int) < (m : Int) := by omega
      have HS0 := (show Hid _ from hs0)
      clear hpl hless hsuc hsl hsl2 hq hs0 hpts
      go_wp2_with fail
      go_loopw [17] (fun z wq => wq = wr ∧ ∃ k : Nat, k ≤ q ∧ z = .int .i64 (k : Int)) (fun z _ => q - (intOf z).toNat)
      case atStart => exact ⟨rfl, 0, Nat.zero_le _, rfl⟩
      case round =>
        obtain ⟨hwq, k, hk, rfl⟩ := hrel
        have hwq' := hwq
        subst hwq'
        by_cases hkq : k < q
        · obtain ⟨hq, hpts, hless, _⟩ := HQ.out
          have hkp : k < pl.length := by omega
          have hat := hless (pl[k]) (List.getElem_mem hkp)
          rcases hpts with h0 | ⟨b, o, rfl, hcs⟩
          · rw [h0] at hkp; simp at hkp
          have c0 := (hcs k hkp).1
          obtain ⟨tk, htk⟩ : ∃ tk, tk = (pl[k]).1 := ⟨_, rfl⟩
          rw [← htk] at c0 hat
          have d0 : decide (t ≤ tk) = false := decide_eq_false (by omega)
          have hk0 : (0 : Int) ≤ (k : Int) := by omega
          have hk1 : (k : Int) < (q : Int) := by omega
          clear hcs hless htk hkp hq
          go_wp2
          go_roundw
          case rel => exact ⟨by first | rfl | trivial, k + 1, by omega, by go_num⟩
          case measure => simp [intOf] <;> omega
        · obtain rfl : k = q := by omega
          have HNX : Hid ((cs : Int) - (s0 : Int) - (k : Int) = (cs : Int) - (sumR rows (j + 1) : Int)) := by
            have := HQ.out.2.2.2
            show _ = _
            omega
          go_wp2
          go_roundw
          case rel => exact ⟨by first | rfl | trivial, j + 1, by omega, by go_num, by rw [← HNX.out]⟩
          case measure => simp [intOf] <;> omega
    · obtain rfl : j = m := by omega
      have HFIN : Hid ((cs : Int) - (sumR rows j : Int) = (countS (cutS t S) : Int)) := by
        show _ = _
        rw [HM.out, sumR_all, HRW.out, HCS.out]
        have := count_cut t S
        omega
      have HCN := (show Hid _ from hd_count w wr hb _ H5.out (by have := count_cut t S; have := HCS.out; omega))
      have HB5 := (show Hid _ from H5.out.bel)
      rw [HFIN.out]
      go_wp2_with fail
      refine Calls.mono HCN.out ?_
      rintro e w6 ⟨rfl, hb6⟩
      have HB6 := (show Hid _ from HB5.out.trans (hb6.mono HB5.out.size))
      clear hb6
      dsimp only
      go_wp2
      go_ret
      exact ⟨by simp, HB6.out⟩
end Go.Proofs.YtfanagohfimnkaaDoor
