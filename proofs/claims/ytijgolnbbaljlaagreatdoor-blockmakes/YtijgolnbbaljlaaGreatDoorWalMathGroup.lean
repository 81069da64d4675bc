/- Plain mathematics of a log's records: digits, bodies, sums, and what is read from the beginning. Nothing of Go's memory. -/
import Derived.Test.YtijgolnbbaljlaaGreatDoorLabCutGroup
import Derived.Lib.ItoaNum
import Derived.Lib.AtoiAll
import Derived.Test.YtijgolnbbaljlaaGreatDoorRefTicksGroup
import Derived.Deep.AppendLies
namespace WalMath
open Go.Lib LabMath

/-! Digits 0 to 9 and a to f. -/
def hexd (d : Nat) : UInt8 := UInt8.ofNat (if d < 10 then 48 + d else 87 + d)
/-! Decimal digits. -/
theorem pu_app : ∀ (l r : List UInt8) (acc v : Nat), parseUint10 acc l = .ok v → parseUint10 acc (l ++ r) = parseUint10 v r
  | [], r, acc, v, h => by simp [parseUint10] at h; subst h; rfl
  | c :: l, r, acc, v, h => by
    rw [List.cons_append, parseUint10]
    rw [parseUint10] at h
    split
    · rw [if_pos ‹_›] at h
      split
      · rw [if_pos ‹_›] at h; cases h
      · rw [if_neg ‹_›] at h
        split
        · rw [if_pos ‹_›] at h; cases h
        · rw [if_neg ‹_›] at h
          exact pu_app l r _ v h
    · rw [if_neg ‹_›] at h; cases h
def isDig (c : UInt8) : Prop := 48 ≤ c.toNat ∧ c.toNat ≤ 57
theorem dig_of (d : Nat) (h : d < 10) : (UInt8.ofNat (48 + d)).toNat = 48 + d := by
  simp
  omega
theorem decDigits_dig (u : Nat) : ∀ c, c ∈ decDigits u → isDig c := by
  induction u using Nat.strongRecOn with
  | _ u ih =>
    rw [decDigits]
    split
    · intro c hc
      rw [List.mem_singleton] at hc
      subst hc
      rw [isDig, dig_of _ ‹_›]
      omega
    · intro c hc
      rcases List.mem_append.1 hc with hc | hc
      · exact ih _ (by omega) c hc
      · simp only [List.mem_singleton] at hc
        subst hc
        rw [isDig, dig_of _ (Nat.mod_lt _ (by decide))]
        omega
theorem decDigits_ne (u : Nat) : decDigits u ≠ [] := by
  rw [decDigits]
  split <;> simp
theorem decDigits_len : ∀ (k u : Nat), u < 10 ^ (k + 1) → (decDigits u).length ≤ k + 1
  | 0, u, h => by
    rw [decDigits, dif_pos (by simpa using h)]
    simp
  | k + 1, u, h => by
    rw [decDigits]
    split
    · simp
    · have := decDigits_len k (u / 10) (by rw [Nat.pow_succ] at h; omega)
      simp
      omega
theorem pu_dec (u : Nat) (h : u < 1000000000000000000) : parseUint10 0 (decDigits u) = .ok u := by
  induction u using Nat.strongRecOn with
  | _ u ih =>
    rw [decDigits]
    split
    · have := dig_of u ‹_›
      rw [parseUint10, if_pos (by omega), if_neg (by omega), if_neg (by omega), parseUint10, this]
      congr 1
      omega
    · have := dig_of (u % 10) (Nat.mod_lt _ (by decide))
      rw [pu_app _ _ _ _ (ih (u / 10) (by omega) (by omega)), parseUint10, if_pos (by omega), if_neg (by omega), if_neg (by omega), parseUint10, this]
      congr 1
      omega
theorem head_dig {l : List UInt8} (h : ∀ c, c ∈ l → isDig c) (hne : l ≠ []) : ∃ c r, l = c :: r ∧ c.toNat ≠ 43 ∧ c.toNat ≠ 45 := by
  cases l with
  | nil => exact absurd rfl hne
  | cons c r =>
    have := h c (by simp)
    unfold isDig at this
    exact ⟨c, r, rfl, by omega, by omega⟩
theorem atoi_itoa (t : Int) (h0 : -1099511627776 ≤ t) (h1 : t ≤ 1099511627776) : atoiAll (itoa t) = .ok t := by
  unfold itoa
  split
  · have hp : parseMag (decDigits t.natAbs) = .ok t.natAbs := by
      unfold parseMag
      rw [if_neg (decDigits_ne _), pu_dec _ (by omega)]
    unfold atoiAll
    simp only [show (45 : UInt8).toNat = 45 from rfl, or_true, if_true, hp, not_true, false_and, if_false, true_and]
    rw [if_neg (by omega)]
    congr 1
    omega
  · obtain ⟨c, r, hl, hc1, hc2⟩ := head_dig (decDigits_dig t.toNat) (decDigits_ne _)
    have hp : parseMag (c :: r) = .ok t.toNat := by
      unfold parseMag
      rw [if_neg (by simp), ← hl, pu_dec _ (by omega)]
    rw [hl]
    unfold atoiAll
    simp only [hc1, hc2, or_self, if_false, hp, not_false_iff, true_and, false_and]
    rw [if_neg (by omega)]
    congr 1
    omega
theorem itoa_signs (t : Int) : ∀ c, c ∈ itoa t → isDig c ∨ c = 45 := by
  unfold itoa
  split
  · intro c hc
    rcases List.mem_cons.1 hc with rfl | hc
    · exact .inr rfl
    · exact .inl (decDigits_dig _ c hc)
  · intro c hc
    exact .inl (decDigits_dig _ c hc)
theorem itoa_len (t : Int) (h0 : -1099511627776 ≤ t) (h1 : t ≤ 1099511627776) : (itoa t).length ≤ 14 := by
  have e13 : (10 : Nat) ^ (12 + 1) = 10000000000000 := by decide
  unfold itoa
  split
  · have := decDigits_len 12 t.natAbs (by omega)
    simp
    omega
  · have := decDigits_len 12 t.toNat (by omega)
    omega

/-! Records. -/
abbrev E := List UInt8 × Int × Nat
theorem cutL_at (c : UInt8) : ∀ (a r : List UInt8), (∀ x, x ∈ a → x ≠ c) → cutL c (a ++ c :: r) = (a, r, true)
  | [], r, _ => by simp [cutL]
  | b :: a, r, h => by
    have hb : (b == c) = false := by simpa using h b (by simp)
    rw [List.cons_append, cutL, hb, cutL_at c a r fun x hx => h x (by simp [hx])]
    simp
/-- What stands at the beginning: how long the first body is, and the body. -/
def lenOf (b : List UInt8) : Nat := (b.getD 0 0).toNat * 256 + (b.getD 1 0).toNat
omit hok in
end WalMath
/- strings.Builder's WriteByte, and block's digits, by contracts. -/
namespace Go.Proofs.YtijgolnbbaljlaaGreatDoor
open Go.RowKit LabMath WalMath

set_option maxRecDepth 1000000 in
set_option maxHeartbeats 1000000 in
theorem bWriteB_any (B b : Nat) (bs : List Value) (c : Nat) (w : World) (h : Lib.IsBuilder 86 5 B b bs w) (hlen : bs.length + 1 ≤ 1000000) (hBw : B ≤ w.heap.size) :
    Calls Tryz.prog 69 #[.pointer (some ⟨b, 0, none⟩), .int .u8 (c : Int)] w fun e w' => e = .returned .nilIface ∧ (Lib.BuilderAt 86 5 B b (.pointer (some ⟨b, 0, none⟩)) (bs ++ [.int .u8 (c : Int)]) w' ∧ Below B w w' ∧ Others w w') := by
  obtain ⟨i0, hi, hz0, hz1, hz2⟩ := info_parts infoByte
  have HI := (show Hid _ from hi)
  have HC : Hid _ := bCopy_any B b bs w h
  clear h hi
  go_enter Tryz.func69, Tryz.ntmps69
  go_wp2_with fail
  refine Calls.mono HC.out ?_
  rintro e w1 ⟨rfl, h1, hb1, ho1⟩
  have HO1 := (show Hid _ from ho1)
  clear ho1
  obtain ⟨hB, v, hbk, hown, hne⟩ := h1
  have c0 : w1.cell? ⟨b, 0, none⟩ = some (.pointer (some ⟨b, 0, none⟩)) := by rw [Lib.cell_of_heap hbk]; rfl
  have c1 : w1.cell? ⟨b, 1, none⟩ = some v := by rw [Lib.cell_of_heap hbk]; rfl
  have hlt : b < w1.heap.size := by
    rcases Nat.lt_or_ge b w1.heap.size with h' | h'
    · exact h'
    · simp [Array.getElem?_eq_none h'] at hbk
  have hw1 : w.heap.size ≤ w1.heap.size := hb1.size
  have HB1 := (show Hid _ from hb1)
  have HOW := (show Hid _ from hown)
  have HBK := (show Hid _ from hbk)
  have HNE := (show Hid _ from hne)
  have HOA : Hid ((w1.alloc (.cells #[.int .u8 (c : Int)] 5)).ownsRow B 5 1 v bs.length bs) := hown.alloc _
  have HNW : Hid (∀ i z, ([.int .u8 (c : Int)] : List Value)[i]? = some z → (w1.alloc (.cells #[.int .u8 (c : Int)] 5)).cell? ((⟨w1.heap.size, 0, none⟩ : Addr).add i) = some z) := World.news_of_block (heap_alloc_new w1 _)
  have H1C : Hid (∀ z ∈ ([.int .u8 (c : Int)] : List Value), z.oneCell' = true) := by
    intro z hz
    simp at hz
    subst hz
    rfl
  clear hown hbk hne hb1
  go_wp2_with (at_builtin; refine wpList_append_lies _ rfl _ _ 84 rfl B 5 i0 (.int .u8 0) 1 1 Tryz.underlying84 HI.out hz0 hz1 hz2 rfl (by decide) _ _ _ rfl HOA.out ⟨w1.heap.size, 0, none⟩ 1 1 [.int .u8 (c : Int)] rfl rfl HNW.out H1C.out (by omega) (by unfold maxLen; omega) (by omega) (by simp; omega) _ rfl ?_)
  intro g7 cap7 w7 hown7 hgrow7 hat7 hlt7
  have hbA : (w1.alloc (.cells #[.int .u8 (c : Int)] 5)).heap[b]? = some (.cells #[.pointer (some ⟨b, 0, none⟩), v] 86 (0, 0)) := (heap_alloc_old _ _ hlt).trans HBK.out
  have hb7 : w7.heap[b]? = some (.cells #[.pointer (some ⟨b, 0, none⟩), v] 86 (0, 0)) := (hgrow7.block b (by simp; omega) (fun e => HNE.out e.symm)).trans hbA
  have d0 : w7.cell? ⟨b, 0, none⟩ = some (.pointer (some ⟨b, 0, none⟩)) := by rw [Lib.cell_of_heap hb7]; rfl
  have d1 : w7.cell? ⟨b, 1, none⟩ = some v := by rw [Lib.cell_of_heap hb7]; rfl
  have f1 : w7.frozen? ⟨b, 1, none⟩ = false := Lib.frozen_of_heap hb7 1
  have HFIN : Hid (Lib.BuilderAt 86 5 B b (.pointer (some ⟨b, 0, none⟩)) (bs ++ [.int .u8 (c : Int)]) (w7.setCell ⟨b, 1, none⟩ (.slice (some ⟨g7, 0, none⟩) (bs.length + 1) cap7)) ∧ Below B w (w7.setCell ⟨b, 1, none⟩ (.slice (some ⟨g7, 0, none⟩) (bs.length + 1) cap7)) ∧ Others w (w7.setCell ⟨b, 1, none⟩ (.slice (some ⟨g7, 0, none⟩) (bs.length + 1) cap7))) := by
    refine ⟨Lib.BuilderAt.put (T := 86) (e := 5) hB hb7 (bs' := bs ++ [.int .u8 (c : Int)]) (by simpa using hown7) (by decide), ?_, ?_⟩
    · exact ((HB1.out.alloc (by omega) _).grown hgrow7 (by simp; omega) (fun k hk => (HOA.out.lt k hk).1)).setCell (p := ⟨b, 1, none⟩) hB _
    · intro k cs t fr hk h8 hT
      have hk1 := HO1.out k cs t fr hk h8 hT
      have hkl : k < w1.heap.size := by
        rcases Nat.lt_or_ge k w1.heap.size with h' | h'
        · exact h'
        · simp [Array.getElem?_eq_none h'] at hk1
      have hk2 : w7.heap[k]? = some (.cells cs t fr) := (hgrow7.block k (by simp; omega) (fun e => Lib.ownBlock_ne HOW.out hk1 h8 e.symm)).trans ((heap_alloc_old _ _ hkl).trans hk1)
      rw [Below.heap_setCell _ _ _ _ (fun e => ?_)]
      · exact hk2
      · have e' : k = b := e
        subst e'
        rw [HBK.out] at hk1
        injection hk1 with hk1
        injection hk1 with h1 h2 h3
        exact hT h2.symm
  clear hown7 hgrow7 hat7 hlt7 hbA hb7
  go_wp2
  go_ret
  exact ⟨rfl, HFIN.out⟩
theorem byteCells_snoc (l : List UInt8) (c : UInt8) : Lib.byteCells l ++ [.int .u8 (c.toNat : Int)] = Lib.byteCells (l ++ [c]) := by simp [Lib.byteCells]
theorem ba_len (s : ByteArray) : s.data.toList.length = s.size := Array.length_toList
theorem hexAt (a : Nat) (h : a < 16) : ((⟨#[48, 49, 50, 51, 52, 53, 54, 55, 56, 57, 97, 98, 99, 100, 101, 102]⟩ : ByteArray)[a]'h).toNat = (hexd a).toNat := by
  rcases (by omega : a = 0 ∨ a = 1 ∨ a = 2 ∨ a = 3 ∨ a = 4 ∨ a = 5 ∨ a = 6 ∨ a = 7 ∨ a = 8 ∨ a = 9 ∨ a = 10 ∨ a = 11 ∨ a = 12 ∨ a = 13 ∨ a = 14 ∨ a = 15) with rfl | rfl | rfl | rfl | rfl | rfl | rfl | rfl | rfl | rfl | rfl | rfl | rfl | rfl | rfl | rfl
  all_goals rfl
/-- The hex digits of a text's first bytes. -/
def hexTo (l : List UInt8) (k : Nat) : List UInt8 := (l.take k).flatMap fun c => [hexd (c.toNat / 16), hexd (c.toNat % 16)]
theorem hexTo_len (l : List UInt8) : ∀ k, k ≤ l.length → (hexTo l k).length = 2 * k
  | 0, _ => rfl
  | k + 1, h => by
    have ih := hexTo_len l k (by omega)
    unfold hexTo at ih ⊢
    rw [List.take_succ_eq_append_getElem (by omega), List.flatMap_append, List.length_append, ih]
    simp
    omega

set_option maxRecDepth 1000000 in
set_option maxHeartbeats 1000000 in
theorem bldigits_any (w : World) (s : ByteArray) (h0 : 1 ≤ s.size) (hs : s.size ≤ 10000) :
    Calls Tryz.prog 42 #[.string s] w fun e w' => e = .returned (.string ⟨(hexTo s.data.toList s.size).toArray⟩) ∧ Below w.heap.size w w' := by
  obtain ⟨W, hW⟩ : ∃ W, W = w.alloc (.cells #[.pointer none, .slice none 0 0] 86) := ⟨_, rfl⟩
  have HW : Hid (∀ wx, wx = w.alloc (.cells #[.pointer none, .slice none 0 0] 86) → wx = W) := fun wx h => h.trans hW.symm
  have HIB : Hid (Lib.IsBuilder 86 5 w.heap.size w.heap.size (Lib.byteCells (hexTo s.data.toList 0)) W) := by
    refine .inl ⟨Nat.le_refl _, .slice none 0 0, ?_, ?_, by simp [Value.ownBlock]⟩
    · rw [hW]; exact heap_alloc_new _ _
    · exact ⟨by simp [Lib.byteCells, hexTo], .inl ⟨rfl, rfl⟩⟩
  have HWB : Hid (Below w.heap.size w W) := by rw [hW]; exact (Below.refl _ _).alloc (Nat.le_refl _) _
  have hWs : w.heap.size ≤ W.heap.size := HWB.out.size
  clear hW
  go_enter Tryz.func42, Tryz.ntmps42
  go_wp2_with fail
  rw [HW.out _ rfl]
  go_loopw [7] (fun i wr => ∃ k : Nat, k ≤ s.size ∧ i = .int .i64 k ∧ Below w.heap.size w wr ∧ Lib.IsBuilder 86 5 w.heap.size w.heap.size (Lib.byteCells (hexTo s.data.toList k)) wr) (fun i _ => s.size - (intOf i).toNat)
  case atStart => exact ⟨0, Nat.zero_le _, rfl, HWB.out, HIB.out⟩
  case round =>
    obtain ⟨k, hk, rfl, hbr, hib⟩ := hrel
    have HBR := (show Hid _ from hbr)
    have HIB2 := (show Hid _ from hib)
    have hwr := hbr.size
    clear hbr hib
    by_cases hkn : k < s.size
    · have k0 : (0 : Int) ≤ (k : Int) := by omega
      have k1 : (k : Int) < (s.size : Int) := by omega
      have hc := s[k].toNat_lt
      have hq1 : (s[k].toNat : Int) / 16 < 16 := by omega
      have hq2 : s[k].toNat / 16 < 16 := by omega
      have hq3 : s[k].toNat % 16 < 16 := by omega
      have hq4 : (s[k].toNat : Int) % 16 < 16 := by omega
      have hl2 := hexTo_len s.data.toList k (by rw [ba_len]; exact hk)
      have hbl : (Lib.byteCells (hexTo s.data.toList k)).length = 2 * k := by simp [Lib.byteCells, hl2]
      have HWR := fun c => (show Hid _ from bWriteB_any w.heap.size w.heap.size _ c wr HIB2.out (by omega) hwr)
      have HTK : Hid (hexTo s.data.toList (k + 1) = hexTo s.data.toList k ++ [hexd (s[k].toNat / 16), hexd (s[k].toNat % 16)]) := by
        have hkl : k < s.data.toList.length := by rw [ba_len]; exact hkn
        have hgt : s.data.toList[k] = s[k] := by simp [ByteArray.getElem_eq_getElem_data]
        show _ = _
        unfold hexTo
        rw [List.take_succ_eq_append_getElem hkl, List.flatMap_append, hgt]
        simp
      clear hl2 hc
      go_wp2_with fail
      refine Calls.mono (HWR _).out ?_
      rintro e w2 ⟨rfl, hb2, hbe2, _⟩
      rw [hexAt _ hq2] at hb2
      rw [byteCells_snoc] at hb2
      have HB2 := (show Hid _ from HBR.out.trans hbe2)
      have hw2 := HB2.out.size
      have hbl2 : (Lib.byteCells (hexTo s.data.toList k ++ [hexd (s[k].toNat / 16)])).length = 2 * k + 1 := by
        have : (hexTo s.data.toList k).length = 2 * k := by simpa [Lib.byteCells] using hbl
        simp [Lib.byteCells, this]
      have HWR2 := fun c => (show Hid _ from bWriteB_any w.heap.size w.heap.size _ c w2 (.inr hb2) (by omega) hw2)
      clear hb2 hbe2 HWR hbl
      dsimp only
      go_wp2_with fail
      refine Calls.mono (HWR2 _).out ?_
      rintro e w3 ⟨rfl, hb3, hbe3, _⟩
      rw [hexAt _ hq3] at hb3
      rw [byteCells_snoc, List.append_assoc] at hb3
      have HB3 := (show Hid _ from HB2.out.trans hbe3)
      have HFIN : Hid (Lib.IsBuilder 86 5 w.heap.size w.heap.size (Lib.byteCells (hexTo s.data.toList (k + 1))) w3) := by
        rw [HTK.out]
        exact .inr hb3
      clear hb3 hbe3 HWR2
      dsimp only
      go_wp2
      go_roundw
      case rel => exact ⟨k + 1, by omega, by go_num, HB3.out, HFIN.out⟩
      case measure => simp [intOf] <;> omega
    · obtain rfl : k = s.size := by omega
      have hne : hexTo s.data.toList s.size ≠ [] := fun e => by
        have := hexTo_len s.data.toList s.size (by rw [ba_len]; exact Nat.le_refl _)
        rw [e] at this
        simp at this
        omega
      have HST := (show Hid _ from bString_any w.heap.size w.heap.size _ wr HIB2.out hne)
      clear hne
      go_wp2_with fail
      refine Calls.mono HST.out ?_
      rintro e w2 ⟨rfl, hb2⟩
      have HB2 := (show Hid _ from HBR.out.trans hb2)
      clear hb2
      go_wp2
      go_ret
      exact ⟨rfl, HB2.out⟩
end Go.Proofs.YtijgolnbbaljlaaGreatDoor
