/- A block's text and what is read of it: each is the other's. -/
import Derived.Test.YtijgolnbbaljlaaGreatDoorBlkHeadGroup
import Derived.Test.YtijgolnbbaljlaaGreatDoorMdAtGroup
import Derived.Test.YtijgolnbbaljlaaGreatDoorHeadAtGroup
namespace Go.Proofs.YtijgolnbbaljlaaGreatDoor
open Go.RowKit LabMath WalMath

theorem word_sign {s : ByteArray} (h : isWord s = true) : ∀ c, c ∈ s.data.toList → c ≠ 32 ∧ c ≠ 10 := fun c hc => by
  unfold isWord at h
  rw [Bool.and_eq_true, List.all_eq_true] at h
  have := h.1 c hc
  constructor
  · rintro rfl; revert this; decide
  · rintro rfl; revert this; decide
theorem lab_signs (s : List UInt8) (h : readC s = 0) : ∀ c, c ∈ s → c ≠ 32 ∧ c ≠ 10 := by
  unfold readC at h
  cases hs : scan s [] [] [] false with
  | none => rw [hs] at h; cases h
  | some out =>
    rw [hs] at h
    dsimp only at h
    obtain ⟨h1, h6, _, hall⟩ := (fC_cases _ _ _).2 h
    have hb := scan_back s out hs
    intro c hc
    rw [← hb] at hc
    rcases textL_mem out c hc with rfl | rfl | ⟨p, hp, hcp⟩
    · decide
    · decide
    · obtain ⟨i, hi, rfl⟩ := List.mem_iff_getElem.1 hp
      have hk := hall i hi
      simp only [labOk, Bool.and_eq_true] at hk
      have e1 : (nameAt out i).data.toList = out[i].1 := by simp [nameAt, hi, txt]
      have e2 : (valueAt out i).data.toList = out[i].2 := by simp [valueAt, hi, txt]
      have hn : isWord (nameAt out i) = true := by
        have := hk.1.1
        simp only [isName, Bool.and_eq_true] at this
        exact this.1
      rcases hcp with hcp | hcp
      · exact word_sign hn c (by rw [e1]; exact hcp)
      · exact word_sign hk.1.2 c (by rw [e2]; exact hcp)

/-! Digits, two each. -/
def hexA (l : List UInt8) : List UInt8 := l.flatMap fun c => [hexd (c.toNat / 16), hexd (c.toNat % 16)]
theorem hexTo_all (l : List UInt8) : hexTo l l.length = hexA l := by unfold hexTo hexA; rw [List.take_length]
theorem hexA_cons (c : UInt8) (r : List UInt8) : hexA (c :: r) = hexd (c.toNat / 16) :: hexd (c.toNat % 16) :: hexA r := by simp [hexA]
set_option maxRecDepth 100000 in
theorem digI_hexd : ∀ d : Fin 16, digI (hexd d.val) = (d.val : Int) := by decide
theorem unhex_hex : ∀ l : List UInt8, unhexL (hexA l) = some l
  | [] => rfl
  | c :: r => by
    have h1 := digI_hexd ⟨c.toNat / 16, by have := c.toNat_lt; omega⟩
    have h2 := digI_hexd ⟨c.toNat % 16, by omega⟩
    simp only at h1 h2
    rw [hexA_cons, unhexL, h1, h2, if_neg (by omega), unhex_hex r, Option.map_some]
    congr 2
    rw [Int.toNat_natCast, Int.toNat_natCast, show 16 * (c.toNat / 16) + c.toNat % 16 = c.toNat by omega]
    simp
theorem hexA_signs (l : List UInt8) : ∀ c, c ∈ hexA l → c ≠ 32 ∧ c ≠ 10 := by
  have h : ∀ d : Fin 16, hexd d.val ≠ 32 ∧ hexd d.val ≠ 10 := by decide
  intro c hc
  simp only [hexA, List.mem_flatMap, List.mem_cons, List.not_mem_nil, or_false] at hc
  obtain ⟨b, _, rfl | rfl⟩ := hc
  · exact h ⟨b.toNat / 16, by have := b.toNat_lt; omega⟩
  · exact h ⟨b.toNat % 16, by omega⟩

/-! Lines. -/
theorem lineL_is (nm c : List UInt8) : lineL nm c = (nm ++ 32 :: hexA c) ++ 10 :: [] := by simp [lineL, hexTo_all]
theorem ser_line (nm c : List UInt8) (h : ∀ x, x ∈ nm → x ≠ 32) : serL (nm ++ 32 :: hexA c) = some (nm, c) := by
  unfold serL
  rw [cutL_at 32 nm _ h]
  simp [unhex_hex]
def linesL (P : List (List UInt8 × List UInt8)) : List UInt8 := P.flatMap fun p => lineL p.1 p.2
theorem linesL_len (P : List (List UInt8 × List UInt8)) : P.length ≤ (linesL P).length := by
  induction P with
  | nil => simp
  | cons p P ih =>
    have : linesL (p :: P) = lineL p.1 p.2 ++ linesL P := by simp [linesL]
    rw [this, List.length_append, lineL_len]
    simp
    omega
theorem lns_lines : ∀ (P : List (List UInt8 × List UInt8)) (n : Nat), P.length < n → (∀ p, p ∈ P → ∀ x, x ∈ p.1 → x ≠ 32 ∧ x ≠ 10) → lnsF n (linesL P) = some (P.map Prod.fst, P.map Prod.snd)
  | [], n, hn, _ => by
    obtain ⟨m, rfl⟩ : ∃ m, n = m + 1 := ⟨n - 1, by simp at hn; omega⟩
    simp [linesL, lnsF]
  | p :: P, n, hn, h => by
    obtain ⟨m, rfl⟩ : ∃ m, n = m + 1 := ⟨n - 1, by simp at hn; omega⟩
    have ih := lns_lines P m (by simp at hn; omega) fun q hq => h q (by simp [hq])
    have h1 := h p (by simp)
    have hl : linesL (p :: P) = (p.1 ++ 32 :: hexA p.2) ++ 10 :: linesL P := by
      have : linesL (p :: P) = lineL p.1 p.2 ++ linesL P := by simp [linesL]
      rw [this, lineL_is]
      simp
    have hc : cutL 10 (linesL (p :: P)) = (p.1 ++ 32 :: hexA p.2, linesL P, true) := by
      rw [hl]
      refine cutL_at 10 _ _ fun x hx => ?_
      rcases List.mem_append.1 hx with hx | hx
      · exact (h1 x hx).2
      · rcases List.mem_cons.1 hx with rfl | hx
        · decide
        · exact (hexA_signs _ x hx).2
    rw [lnsF, if_neg (by rw [hl]; simp), hc]
    simp only
    rw [if_neg (by simp), ser_line p.1 p.2 fun x hx => (h1 x hx).1, ih]
    simp
/-! The first line. -/
theorem itoa_numV (v : Int) (h0 : -1099511627776 ≤ v) (h1 : v ≤ 1099511627776) : numV (Lib.itoa v) = some v := by
  unfold numV
  rw [atoi_itoa v h0 h1]
  simp only
  rw [if_pos ⟨by have := itoa_len v h0 h1; omega, trivial⟩]
theorem itoa_plain (v : Int) : ∀ c, c ∈ Lib.itoa v → c ≠ 32 ∧ c ≠ 10 := fun c hc => by
  rcases itoa_signs v c hc with h | rfl
  · unfold isDig at h
    constructor
    · rintro rfl; revert h; decide
    · rintro rfl; revert h; decide
  · decide
/-- The first line without its end. -/
def headW (f s n : Int) : List UInt8 := [98, 108, 111, 99, 107] ++ 32 :: (Lib.itoa f ++ 32 :: (Lib.itoa s ++ 32 :: Lib.itoa n))
theorem head_read (f s n : Int) (hf : numV (Lib.itoa f) = some f) (hs : numV (Lib.itoa s) = some s) (hn : numV (Lib.itoa n) = some n) : headP (headW f s n) = some (f, s, n) := by
  unfold headP headW
  rw [pcs_some 32 _ [98, 108, 111, 99, 107] [] (by decide), pcs_some 32 _ (Lib.itoa f) [] (fun b hb => (itoa_plain f b hb).1), pcs_some 32 _ (Lib.itoa s) [] (fun b hb => (itoa_plain s b hb).1), pcs_none 32 (Lib.itoa n) [] (fun b hb => (itoa_plain n b hb).1)]
  simp only [List.nil_append]
  rw [if_pos trivial, hf, hs, hn]
theorem headL_is (f s : Int) (n : Nat) : headL f s n = headW f s n ++ 10 :: [] := by simp [headL, headW]
theorem textB_is {f s : Int} {ss cs : List (List UInt8)} (hl : cs.length = ss.length) : textB f s ss cs = headW f s ss.length ++ 10 :: linesL (ss.zip cs) := by
  unfold textB textK
  rw [headL_is, List.take_of_length_le (by simp [hl])]
  simp [linesL]
theorem par_text {f s : Int} {ss cs : List (List UInt8)} (hf : numV (Lib.itoa f) = some f) (hs : numV (Lib.itoa s) = some s) (hn : numV (Lib.itoa (ss.length : Int)) = some (ss.length : Int)) (hl : cs.length = ss.length) (hnm : ∀ x, x ∈ ss → ∀ c, c ∈ x → c ≠ 32 ∧ c ≠ 10) : parP (textB f s ss cs) = some (f, s, ss, cs) := by
  have hc : cutL 10 (textB f s ss cs) = (headW f s ss.length, linesL (ss.zip cs), true) := by
    rw [textB_is hl]
    refine cutL_at 10 _ _ fun x hx => ?_
    simp only [headW, List.mem_append, List.mem_cons, List.not_mem_nil, or_false] at hx
    rcases hx with (rfl | rfl | rfl | rfl | rfl) | rfl | hx | rfl | hx | rfl | hx
    · decide
    · decide
    · decide
    · decide
    · decide
    · decide
    · exact (itoa_plain _ x hx).2
    · decide
    · exact (itoa_plain _ x hx).2
    · decide
    · exact (itoa_plain _ x hx).2
  have hz1 : (ss.zip cs).map Prod.fst = ss := List.map_fst_zip (by omega)
  have hz2 : (ss.zip cs).map Prod.snd = cs := List.map_snd_zip (by omega)
  have hli := lns_lines (ss.zip cs) ((textB f s ss cs).length + 1) (by
    have := linesL_len (ss.zip cs)
    rw [textB_is hl]
    simp only [List.length_append, List.length_cons]
    omega) fun p hp x hx => hnm p.1 (by rw [← hz1]; exact List.mem_map_of_mem hp) x hx
  rw [hz1, hz2] at hli
  unfold parP
  rw [hc]
  simp only
  rw [if_neg (by simp), head_read f s _ hf hs hn]
  simp only
  rw [hli]
  simp
/-! The document's pieces. -/
end Go.Proofs.YtijgolnbbaljlaaGreatDoor
