/- Labels as a text, and back: mathematics. -/
import Derived.Test.YtlbdjkeaohdjkabDoorRefLabOf
namespace LabMath

/-- The text of labels. -/
def textL : List (List UInt8 × List UInt8) → List UInt8
  | [] => []
  | [p] => p.1 ++ 61 :: p.2
  | p :: q :: r => p.1 ++ 61 :: p.2 ++ 44 :: textL (q :: r)
theorem textL_snoc : ∀ (l : List (List UInt8 × List UInt8)) (p : List UInt8 × List UInt8), textL (l ++ [p]) = textL l ++ ((if l = [] then [] else [44]) ++ (p.1 ++ 61 :: p.2))
  | [], p => by simp [textL]
  | [a], p => by simp [textL]
  | a :: b :: r, p => by
    have ih := textL_snoc (b :: r) p
    rw [List.cons_append, List.cons_append, textL, ← List.cons_append, ih, textL]
    simp
/-- What was scanned, as a text. -/
def seen (out : List (List UInt8 × List UInt8)) (nm vl : List UInt8) (fl : Bool) : List UInt8 := textL out ++ ((if out = [] then [] else [44]) ++ (nm ++ (if fl = true then 61 :: vl else [])))
theorem seen_push (out : List (List UInt8 × List UInt8)) (nm vl : List UInt8) : seen (out ++ [(nm, vl)]) [] [] false = seen out nm vl true ++ [44] := by
  unfold seen
  rw [textL_snoc]
  simp
/-- Labels of a text make that text. -/
theorem scan_text : ∀ (l : List UInt8) (out : List (List UInt8 × List UInt8)) (nm vl : List UInt8) (fl : Bool) (res : List (List UInt8 × List UInt8)), (fl = false → vl = []) → scan l out nm vl fl = some res → textL res = seen out nm vl fl ++ l
  | [], out, nm, vl, fl, res, _, h => by
    unfold scan at h
    split at h
    · rename_i hf
      have e : out ++ [(nm, vl)] = res := by simpa using h
      rw [← e, textL_snoc, List.append_nil]
      unfold seen
      rw [hf, if_pos rfl]
    · cases h
  | c :: r, out, nm, vl, fl, res, hv, h => by
    unfold scan at h
    split at h
    · rename_i hc
      split at h
      · rename_i hf
        have ih := scan_text r _ _ _ _ res (fun _ => rfl) h
        have hc' : c = 44 := UInt8.toNat_inj.1 (by simpa using hc)
        rw [ih, seen_push, hf, hc']
        simp
      · cases h
    · split at h
      · rename_i hf
        have ih := scan_text r _ _ _ _ res (fun h => by cases h) h
        rw [ih, hf]
        unfold seen
        simp
      · rename_i hf
        have hff : fl = false := by simpa using hf
        have hvl := hv hff
        split at h
        · rename_i hc
          have ih := scan_text r _ _ _ _ res (fun h => by cases h) h
          have hc' : c = 61 := UInt8.toNat_inj.1 (by simpa using hc)
          rw [ih, hff, hvl, hc']
          unfold seen
          simp
        · have ih := scan_text r _ _ _ _ res (fun _ => hvl) h
          rw [ih, hff]
          unfold seen
          simp
theorem scan_back (l : List UInt8) (out : List (List UInt8 × List UInt8)) (h : scan l [] [] [] false = some out) : textL out = l := by
  have := scan_text l [] [] [] false out (fun _ => rfl) h
  simpa [seen, textL] using this

/-- Signs that are neither ',' nor '='. -/
def plainL (l : List UInt8) : Prop := ∀ c, c ∈ l → c.toNat ≠ 44 ∧ c.toNat ≠ 61
theorem scan_name : ∀ (a r : List UInt8) (out : List (List UInt8 × List UInt8)) (nm vl : List UInt8), plainL a → scan (a ++ r) out nm vl false = scan r out (nm ++ a) vl false
  | [], r, out, nm, vl, _ => by simp
  | c :: a, r, out, nm, vl, h => by
    have hc := h c (by simp)
    rw [List.cons_append, scan, if_neg hc.1, if_neg (by decide), if_neg hc.2, scan_name a r out (nm ++ [c]) vl (fun x hx => h x (by simp [hx]))]
    simp
theorem scan_value : ∀ (a r : List UInt8) (out : List (List UInt8 × List UInt8)) (nm vl : List UInt8), plainL a → scan (a ++ r) out nm vl true = scan r out nm (vl ++ a) true
  | [], r, out, nm, vl, _ => by simp
  | c :: a, r, out, nm, vl, h => by
    have hc := h c (by simp)
    rw [List.cons_append, scan, if_neg hc.1, if_pos rfl, scan_value a r out nm (vl ++ [c]) (fun x hx => h x (by simp [hx]))]
    simp
theorem scan_label (p : List UInt8 × List UInt8) (r : List UInt8) (out : List (List UInt8 × List UInt8)) (h1 : plainL p.1) (h2 : plainL p.2) : scan (p.1 ++ 61 :: p.2 ++ r) out [] [] false = scan r out p.1 p.2 true := by
  have e : p.1 ++ 61 :: p.2 ++ r = p.1 ++ (61 :: (p.2 ++ r)) := by simp
  rw [e, scan_name p.1 _ out [] [] h1, List.nil_append, scan, if_neg (by decide), if_neg (by decide), if_pos (by decide), scan_value p.2 r out p.1 [] h2, List.nil_append]
/-- Plain labels, as a text, are read. -/
theorem text_scan : ∀ (l out : List (List UInt8 × List UInt8)), l ≠ [] → (∀ p, p ∈ l → plainL p.1 ∧ plainL p.2) → scan (textL l) out [] [] false = some (out ++ l)
  | [], _, h, _ => absurd rfl h
  | [p], out, _, h => by
    have hp := h p (by simp)
    have := scan_label p [] out hp.1 hp.2
    rw [List.append_nil] at this
    rw [textL, this]
    rfl
  | p :: q :: r, out, _, h => by
    have hp := h p (by simp)
    rw [textL, scan_label p _ out hp.1 hp.2, scan, if_pos (by decide), if_pos rfl, text_scan (q :: r) _ (by simp) (fun x hx => h x (by simp [hx]))]
    simp
theorem word_plain (s : ByteArray) (h : isWord s = true) : plainL s.data.toList := by
  intro c hc
  unfold isWord at h
  rw [Bool.and_eq_true, List.all_eq_true] at h
  have := h.1 c hc
  unfold wordB at this
  simp at this
  omega
end LabMath
