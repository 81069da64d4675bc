/- What is read of a text by package label and by the document: both alike. -/
import Derived.Test.YtfgbphoiliiifabDoorLabelled
namespace Go.Proofs.YtfgbphoiliiifabDoor
open Go.RowKit LabMath

/-- A text that is none, and its fault; one that is labels. -/
def BadL (l : List UInt8) (C A : Int) : Prop := (scan l [] [] [] false = none ∧ C = 1 ∧ A = -1) ∨ ∃ out, scan l [] [] [] false = some out ∧ C = fC (nameAt out) (valueAt out) out.length ∧ A = fA (nameAt out) (valueAt out) out.length ∧ 0 < C
def GoodL (l : List UInt8) (out : List (List UInt8 × List UInt8)) : Prop := scan l [] [] [] false = some out ∧ fC (nameAt out) (valueAt out) out.length = 0
theorem bad_or_good (l : List UInt8) : (∃ C A, BadL l C A ∧ 0 < C) ∨ ∃ out, GoodL l out := by
  cases h : scan l [] [] [] false with
  | none => exact .inl ⟨1, -1, .inl ⟨h, rfl, rfl⟩, by omega⟩
  | some out =>
    have h0 := (fC_cases (nameAt out) (valueAt out) out.length).1
    rcases Int.lt_or_eq_of_le h0 with h1 | h1
    · exact .inl ⟨_, _, .inr ⟨out, h, rfl, rfl, h1⟩, h1⟩
    · exact .inr ⟨out, h, h1.symm⟩
theorem lread_bad {B : Nat} {ea : Nat → Addr} (w : World) (E : Env B ea w) (s : ByteArray) (hs : s.size ≤ 1000) (C A : Int) (h : BadL s.data.toList C A) :
    Calls Tryd.prog 16 #[.string s] w fun e w' => ∃ v, e = .returned (.tuple #[.slice none 0 0, v]) ∧ Below w.heap.size w w' ∧ FaultV ea w' v C A := by
  refine (lread_f w E s hs).mono ?_
  rintro e w' ⟨x, v, rfl, hb, ⟨hn, rfl, hf⟩ | ⟨out, hsc, hf, _, _, hx⟩⟩
  · rcases h with ⟨_, rfl, rfl⟩ | ⟨out', hsc', _⟩
    · exact ⟨v, rfl, hb, hf⟩
    · rw [hn] at hsc'; cases hsc'
  · rcases h with ⟨hn, _⟩ | ⟨out', hsc', rfl, rfl, hp⟩
    · rw [hn] at hsc; cases hsc
    · rw [hsc] at hsc'
      injection hsc' with hsc'
      subst hsc'
      have := hx hp
      subst this
      exact ⟨v, rfl, hb, hf⟩
theorem lread_good {B : Nat} {ea : Nat → Addr} (w : World) (E : Env B ea w) (s : ByteArray) (hs : s.size ≤ 1000) (out : List (List UInt8 × List UInt8)) (h : GoodL s.data.toList out) :
    Calls Tryd.prog 16 #[.string s] w fun e w' => ∃ x c, e = .returned (.tuple #[.slice x out.length c, .nilIface]) ∧ Below w.heap.size w w' ∧ Labs w' x out.length (nameAt out) (valueAt out) := by
  refine (lread_f w E s hs).mono ?_
  rintro e w' ⟨x, v, rfl, hb, ⟨hn, rfl, hf⟩ | ⟨out', hsc, hf, _, ho, _⟩⟩
  · rw [h.1] at hn; cases hn
  · rw [h.1] at hsc
    injection hsc with hsc
    subst hsc
    have hv := hf.none h.2
    subst hv
    obtain ⟨a, c, rfl, _, hl⟩ := labs_own (ho h.2)
    exact ⟨a, c, rfl, hb, hl⟩
theorem lof_bad (w : World) (s : ByteArray) (hs : s.size ≤ 1000) (C A : Int) (h : BadL s.data.toList C A) :
    Calls Tryd.prog 18 #[.string s] w fun e w' => e = .returned (.tuple #[.slice none 0 0, .agg #[.int .i64 C, .int .i64 A]]) ∧ Below w.heap.size w w' := by
  refine (labels_of s w hs).mono ?_
  rintro e w' ⟨hb, ⟨hn, rfl⟩ | ⟨out, C', A', hsc, _, hfo, he⟩⟩
  · rcases h with ⟨_, rfl, rfl⟩ | ⟨out', hsc', _⟩
    · exact ⟨rfl, hb⟩
    · rw [hn] at hsc'; cases hsc'
  · rcases h with ⟨hn, _⟩ | ⟨out', hsc', rfl, rfl, hp⟩
    · rw [hn] at hsc; cases hsc
    · rw [hsc] at hsc'
      injection hsc' with hsc'
      subst hsc'
      obtain ⟨rfl, rfl⟩ := fault_is hfo
      rcases he with ⟨_, rfl⟩ | ⟨hz, _⟩
      · exact ⟨rfl, hb⟩
      · omega
theorem lof_good (w : World) (s : ByteArray) (hs : s.size ≤ 1000) (out : List (List UInt8 × List UInt8)) (h : GoodL s.data.toList out) :
    Calls Tryd.prog 18 #[.string s] w fun e w' => ∃ x c, e = .returned (.tuple #[.slice x out.length c, .agg #[.int .i64 0, .int .i64 (-1)]]) ∧ Below w.heap.size w w' ∧ Labs w' x out.length (nameAt out) (valueAt out) := by
  refine (labels_of s w hs).mono ?_
  rintro e w' ⟨hb, ⟨hn, rfl⟩ | ⟨out', C', A', hsc, _, hfo, he⟩⟩
  · rw [h.1] at hn; cases hn
  · rw [h.1] at hsc
    injection hsc with hsc
    subst hsc
    obtain ⟨rfl, rfl⟩ := fault_is hfo
    rcases he with ⟨hp, _⟩ | ⟨_, v, rfl, ho⟩
    · have := h.2; omega
    · obtain ⟨a, c, rfl, _, hl⟩ := labs_own ho
      refine ⟨a, c, ?_, hb, hl⟩
      rw [h.2, ((fC_cases _ _ _).2 h.2).2.2.1]
theorem good_text (l : List UInt8) (out : List (List UInt8 × List UInt8)) (h : GoodL l out) : textTo (nameAt out) (valueAt out) out.length = txt l := by
  have e : labsOf (nameAt out) (valueAt out) out.length = out := by
    apply List.ext_getElem
    · rw [length_labsOf]
    · intro i h1 h2
      simp [labsOf, nameAt, valueAt, txt, h2]
  rw [textTo_list, e, scan_back l out h.1]
theorem good_size (out : List (List UInt8 × List UInt8)) (h : fC (nameAt out) (valueAt out) out.length = 0) : 1 ≤ out.length ∧ out.length ≤ 6 ∧ ∀ i, i < out.length → (nameAt out i).size ≤ 12 ∧ (valueAt out i).size ≤ 12 := by
  obtain ⟨h1, h2, _, h4⟩ := (fC_cases _ _ _).2 h
  exact ⟨h1, h2, fun i hi => lab_size _ _ i (h4 i hi)⟩
/-- Right labels: their text is good, as them. -/
theorem text_good (N V : Nat → ByteArray) (n : Nat) (h : fC N V n = 0) : GoodL (textTo N V n).data.toList (labsOf N V n) ∧ (labsOf N V n).length = n := by
  obtain ⟨h1, h2, _, h4⟩ := (fC_cases _ _ _).2 h
  have hl := length_labsOf N V n
  refine ⟨⟨?_, ?_⟩, hl⟩
  · rw [textTo_list]
    exact right_text N V n h1 h4
  · rw [hl]
    exact fC_zero _ _ _ h1 h2 (fun i hi => by
      rw [labOk_congr _ _ N V n (fun j hj => (labsOf_at N V n j hj).1) (fun j hj => (labsOf_at N V n j hj).2) i hi]
      exact h4 i hi)
theorem labs_congr {w : World} {a : Option Addr} {n : Nat} {N V N' V' : Nat → ByteArray} (h : Labs w a n N V) (hN : ∀ i, i < n → N i = N' i) (hV : ∀ i, i < n → V i = V' i) : Labs w a n N' V' := by
  rcases h with h | ⟨b, o, h, hc⟩
  · exact .inl h
  · exact .inr ⟨b, o, h, fun k hk => by rw [← hN k hk, ← hV k hk]; exact hc k hk⟩
set_option maxRecDepth 100000 in
/-- Labels are copied into memory of the call's own. -/
theorem wpList_append_labs {w : World} {ops : Array Oper} {rest : List Oper} {o : Oper} {a : Act} {Q : Exit → Act → World → Prop} (hgd : o.guard = none) (s x : Operand)
    (ho : o.op = .call { callee := .builtin .append, args := #[s, x], argTypes := #[35, 35] })
    (hs : a.eval s = .slice none 0 0) (y : Option Addr) (n cy : Nat) (N V : Nat → ByteArray) (hx : a.eval x = .slice y n cy) (hP : Labs w y n N V) (hlen : n ≤ 1000)
    (h : ∀ a' c' w1, Labs w1 a' n N V → Below w.heap.size w w1 → wpList Tryd.prog ops Q rest (a.put o.dst (.slice a' n c')) w1) : wpList Tryd.prog ops Q (o :: rest) a w := by
  obtain ⟨i0, hi, hz0, hz1, hz2⟩ := info_parts Tryd.infoLabel
  have hown : w.ownsRow w.heap.size 49 2 (.slice none 0 0) 0 [] := ⟨rfl, .inl ⟨rfl, rfl⟩⟩
  by_cases h0 : n = 0
  · subst h0
    refine wpList_append_zero hgd s x 35 ho w.heap.size 49 i0 2 Tryd.underlying35 hi (.slice none 0 0) 0 [] hs hown y cy hx ?_
    exact h none 0 w (.inl rfl) (Below.refl _ _)
  · rcases hP with h1 | ⟨b, p, rfl, hc⟩
    · exact absurd h1 h0
    · have hl := length_labsOf N V n
      refine wpList_append_lies _ hgd s x 35 ho w.heap.size 49 i0 (.agg #[.string ⟨#[]⟩, .string ⟨#[]⟩]) 2 32 Tryd.underlying35 hi hz0 hz1 hz2 rfl (by decide) (.slice none 0 0) 0 [] hs hown ⟨b, p, none⟩ n cy (labCells (labsOf N V n)) hx (by rw [length_labCells, hl]) ?news ?one (by omega) (by unfold maxLen; omega) (by omega) (Nat.le_refl _) w.heap.size rfl ?_
      case news =>
        intro j u hu
        have hj : j < n * 2 := by
          have := (List.getElem?_eq_some_iff.1 hu).1
          rw [length_labCells, hl] at this
          exact this
        have hk : j / 2 < n := by omega
        obtain ⟨p0, p1⟩ := labCells_at (labsOf N V n) (j / 2) (by rw [hl]; exact hk)
        obtain ⟨q0, q1⟩ := hc (j / 2) hk
        have e : (labsOf N V n)[j / 2]'(by rw [hl]; exact hk) = ((N (j / 2)).data.toList, (V (j / 2)).data.toList) := by simp [labsOf]
        rw [e] at p0 p1
        rcases Nat.mod_two_eq_zero_or_one j with hm | hm
        · have ej : j / 2 * 2 = j := by omega
          rw [ej] at p0 q0
          rw [p0] at hu
          injection hu with hu
          subst hu
          rw [show (⟨b, p, none⟩ : Addr).add j = ⟨b, p + j, none⟩ by simp [Addr.add] <;> omega]
          exact q0
        · have ej : j / 2 * 2 + 1 = j := by omega
          have ej2 : p + j / 2 * 2 + 1 = p + j := by omega
          rw [ej] at p1
          rw [ej2] at q1
          rw [p1] at hu
          injection hu with hu
          subst hu
          rw [show (⟨b, p, none⟩ : Addr).add j = ⟨b, p + j, none⟩ by simp [Addr.add] <;> omega]
          exact q1
      case one =>
        intro u hu
        simp [labCells] at hu
        obtain ⟨a1, b1, _, rfl | rfl⟩ := hu <;> rfl
      intro g1 cap1 w1 hown1 hgrow hat hlt1
      have hb : Below w.heap.size w w1 := ⟨hgrow.os, hgrow.tape, hgrow.output, hgrow.size, fun j hj => hgrow.block j hj (fun e => by simp [Value.ownBlock] at e)⟩
      rw [List.nil_append] at hown1
      have hown2 : w1.ownsRow w.heap.size 49 2 (.slice (some ⟨g1, 0, none⟩) (0 + n) cap1) (labsOf N V n).length (labCells (labsOf N V n)) := by
        rw [hl]
        have : 0 + n = n := by omega
        rw [this] at hown1 ⊢
        exact hown1
      obtain ⟨a', c', hv, _, hL⟩ := labs_own hown2
      rw [hl] at hv hL
      rw [hv]
      exact h a' c' w1 (labs_congr hL (fun i hi => (labsOf_at N V n i hi).1) (fun i hi => (labsOf_at N V n i hi).2)) hb
end Go.Proofs.YtfgbphoiliiifabDoor
