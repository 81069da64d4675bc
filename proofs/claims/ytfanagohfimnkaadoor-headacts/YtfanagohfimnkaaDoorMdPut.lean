/- The document's head: a line put in, a line turned. -/
import Derived.Test.YtfanagohfimnkaaDoorMdAtGroup
import Derived.Test.YtfanagohfimnkaaDoorCMergeGroup
import Derived.Test.YtfanagohfimnkaaDoorHeadCutL
import Derived.Lib.SmallJoins
namespace Go.Proofs.YtfanagohfimnkaaDoor
open Go.RowKit Go.Maps HeadMath LabMath PtMath

theorem lineCells_congr {S : List Sr} {sv sv' : List UInt8 → Value} (h : ∀ l, l ∈ S → sv' l.key = sv l.key) : lineCells S sv' = lineCells S sv := by
  induction S with
  | nil => rfl
  | cons a r ih =>
    have e := ih fun l hl => h l (List.mem_cons_of_mem _ hl)
    have e1 := h a (List.mem_cons_self ..)
    simp only [lineCells, List.flatMap_cons] at e ⊢
    rw [e, e1]
theorem lineCells_set : ∀ (S : List Sr) (i : Nat) (_ : i < S.length) (sv sv' : List UInt8 → Value) (l : Sr), (∀ j (hj : j < S.length), j ≠ i → sv' (S[j]).key = sv (S[j]).key) → lineCells (S.set i l) sv' = (((lineCells S sv).set (i * 3) (encStr l.key)).set (i * 3 + 1) (sv' l.key)).set (i * 3 + 2) (.int .i64 l.last)
  | [], i, hi, _, _, _, _ => absurd hi (by simp)
  | a :: r, 0, _, sv, sv', l, h => by
    have e : lineCells r sv' = lineCells r sv := lineCells_congr fun m hm => by
      obtain ⟨j, hj, rfl⟩ := List.mem_iff_getElem.1 hm
      exact h (j + 1) (by simpa using hj) (by omega)
    have e2 : lineCells (a :: r) sv = encStr a.key :: sv a.key :: .int .i64 a.last :: lineCells r sv := by simp [lineCells]
    have e3 : lineCells (l :: r) sv' = encStr l.key :: sv' l.key :: .int .i64 l.last :: lineCells r sv' := by simp [lineCells]
    rw [List.set_cons_zero, e3, e2, e]
    rfl
  | a :: r, i + 1, hi, sv, sv', l, h => by
    have ih := lineCells_set r i (by simpa using hi) sv sv' l (fun j hj hne => h (j + 1) (by simpa using hj) (by omega))
    have e0 : sv' a.key = sv a.key := h 0 (by simp) (by omega)
    have e2 : lineCells (a :: r) sv = encStr a.key :: sv a.key :: .int .i64 a.last :: lineCells r sv := by simp [lineCells]
    have e3 : lineCells (a :: r.set i l) sv' = encStr a.key :: sv' a.key :: .int .i64 a.last :: lineCells (r.set i l) sv' := by simp [lineCells]
    rw [List.set_cons_succ, e3, e2, ih, e0, show (i + 1) * 3 = i * 3 + 3 by omega]
    rfl
theorem addS_set : ∀ {S : List Sr} {i : Nat} (hi : i < S.length) {k : List UInt8} {p : Int × Nat}, (S.Pairwise fun a b => a.key < b.key) → (S[i]).key = k → addS S k p = S.set i ⟨k, (S[i]).pts ++ [p], p.1⟩
  | [], i, hi, _, _, _, _ => absurd hi (by simp)
  | a :: r, 0, _, k, p, h, hk => by
    have : a.key = k := hk
    rw [addS, if_pos this]
    rfl
  | a :: r, i + 1, hi, k, p, h, hk => by
    obtain ⟨h1, h2⟩ := List.pairwise_cons.1 h
    have hi' : i < r.length := by simpa using hi
    have hk' : (r[i]).key = k := hk
    have h3 := h1 _ (List.getElem_mem hi')
    rw [hk'] at h3
    have hne : a.key ≠ k := fun e => absurd (e ▸ h3) (List.lt_irrefl _)
    have hnl : ¬ k < a.key := fun e => absurd (List.lt_trans h3 e) (List.lt_irrefl _)
    rw [addS, if_neg hne, if_neg hnl, addS_set hi' h2 hk']
    rfl
theorem insE_at : ∀ {S : List Sr} {k : List UInt8} {m : Nat}, (S.Pairwise fun a b => a.key < b.key) → known S k = false → m ≤ S.length → (∀ j (hj : j < S.length), j < m → (S[j]).key < k) → (∀ hm : m < S.length, ¬ (S[m]).key < k) → insE S k = S.take m ++ ⟨k, [], 0⟩ :: S.drop m
  | [], k, m, _, _, hm, _, _ => by
    obtain rfl : m = 0 := by simpa using hm
    rfl
  | a :: r, k, 0, h, hk, _, _, h2 => by
    have hn := h2 (by simp)
    have hne : a.key ≠ k := fun e => by rw [known_iff.2 ⟨a, List.mem_cons_self .., e⟩] at hk; cases hk
    have : k < a.key := by
      rcases List.le_iff_lt_or_eq.1 (List.not_lt.1 hn) with h3 | h3
      · exact h3
      · exact absurd h3.symm hne
    rw [insE, if_pos this]
    rfl
  | a :: r, k, m + 1, h, hk, hm, h1, h2 => by
    have ha : a.key < k := h1 0 (by simp) (by omega)
    have hnl : ¬ k < a.key := fun e => absurd (List.lt_trans ha e) (List.lt_irrefl _)
    have hkr : known r k = false := by
      cases h3 : known r k with
      | false => rfl
      | true =>
        obtain ⟨x, hx, hxk⟩ := known_iff.1 h3
        rw [known_iff.2 ⟨x, List.mem_cons_of_mem _ hx, hxk⟩] at hk
        cases hk
    rw [insE, if_neg hnl, insE_at (List.pairwise_cons.1 h).2 hkr (by simpa using hm) (fun j hj hjm => h1 (j + 1) (by simpa using hj) (by omega)) (fun hm' => h2 (by simpa using hm'))]
    rfl
theorem getElem_insE {S : List Sr} {k : List UInt8} {m : Nat} (hm : m ≤ S.length) (h : insE S k = S.take m ++ ⟨k, [], 0⟩ :: S.drop m) : ∃ hi : m < (insE S k).length, (insE S k)[m] = ⟨k, [], 0⟩ := by
  have hi : m < (insE S k).length := by rw [length_insE]; omega
  refine ⟨hi, ?_⟩
  have : (insE S k)[m]? = some ⟨k, [], 0⟩ := by
    rw [h, List.getElem?_append_right (by rw [List.length_take]; omega), List.length_take, show m - min m S.length = 0 by omega]
    rfl
  rw [List.getElem?_eq_getElem hi] at this
  injection this
/-- A cell of one's own row is turned. -/
theorem own_set1 {w : World} {base g cap n sz : Nat} {e : TypeId} {xs : List Value} (h : w.ownsRow base e sz (.slice (some ⟨g, 0, none⟩) n cap) n xs) (j : Nat) (x : Value) : (w.setCell ⟨g, j, none⟩ x).ownsRow base e sz (.slice (some ⟨g, 0, none⟩) n cap) n (xs.set j x) := by
  obtain ⟨h1, h2⟩ := h
  refine ⟨by rw [List.length_set]; exact h1, .inr ?_⟩
  rcases h2 with ⟨hv, _⟩ | ⟨g', cap', cur, hv, hg, hh, hl, hm, hs, ht⟩
  · cases hv
  · injection hv with hv1 hv2 hv3
    injection hv1 with hv1
    injection hv1 with hv1
    subst hv1 hv3
    refine ⟨g, cap, cur.setIfInBounds j x, rfl, hg, ?_, hl, hm, by simpa using hs, ?_⟩
    · exact Go.Joins.block_setCell hh x
    · rw [Array.toList_setIfInBounds, List.take_set, ht]
/-- A slice of rows, or nothing, is appended to a row of one's own. -/
theorem wpList_append_gen {wr : World} {ops : Array Oper} {rest : List Oper} {o : Oper} {a : Act} {Q : Exit → Act → World → Prop} (hgd : o.guard = none) (s x : Operand) (t : TypeId)
    (ho : o.op = .call { callee := .builtin .append, args := #[s, x], argTypes := #[t, t] })
    (base : Nat) (e : TypeId) (i : TypeInfo) (z : Value) (size bytes : Nat) (ht : Tryd.prog.underlying t = some (.slice e)) (hi : Tryd.prog.info? e = some i) (hz0 : i.zero = some z) (hz1 : i.size = size) (hz2 : i.bytes = bytes) (hz3 : z.cells.size = size) (hsz : 0 < size)
    (v : Value) (n : Nat) (xs : List Value) (hs : a.eval s = v) (hown : wr.ownsRow base e size v n xs) (y : Option Addr) (m cy : Nat) (ys : List Value) (hx : a.eval x = .slice y m cy) (hlen : ys.length = m * size)
    (hP : m = 0 ∨ ∃ b p, y = some ⟨b, p, none⟩ ∧ ∀ j u, ys[j]? = some u → wr.cell? ((⟨b, p, none⟩ : Addr).add j) = some u) (h1c : ∀ u ∈ ys, u.oneCell' = true) (hle : n + m ≤ 100000) (hbs : bytes ≤ 1000) (hbase : base ≤ wr.heap.size)
    (h : ∀ v' w1, w1.ownsRow base e size v' (n + m) (xs ++ ys) → wr.grownBy w1 v.ownBlock → (v'.ownBlock = v.ownBlock ∨ v'.ownBlock = some wr.heap.size) → wpList Tryd.prog ops Q rest (a.put o.dst v') w1) : wpList Tryd.prog ops Q (o :: rest) a wr := by
  by_cases h0 : m = 0
  · subst h0
    have hy : ys = [] := List.eq_nil_of_length_eq_zero (by rw [hlen]; omega)
    subst hy
    refine wpList_append_zero hgd s x t ho base e i size ht hi v n xs hs hown y cy hx ?_
    exact h v wr (by rw [List.append_nil]; exact hown) ⟨rfl, rfl, rfl, Nat.le_refl _, fun _ _ _ => rfl⟩ (.inl rfl)
  · rcases hP with h1 | ⟨b, p, rfl, hc⟩
    · exact absurd h1 h0
    · refine wpList_append_lies _ hgd s x t ho base e i z size bytes ht hi hz0 hz1 hz2 hz3 hsz v n xs hs hown ⟨b, p, none⟩ m cy ys hx hlen hc h1c (by omega) (by unfold maxLen; omega) (Nat.le_trans (Nat.mul_le_mul hle hbs) (by decide)) hbase wr.heap.size rfl ?_
      intro g1 cap1 w1 hown1 hgrow hat hlt1
      refine h _ w1 hown1 hgrow ?_
      rcases hat with hat | hat
      · exact .inl hat.symm
      · exact .inr (by rw [hat]; rfl)
theorem Tryd.infoMLine : (Tryd.prog.info? 109).map (fun i => (i.zero, i.size, i.bytes)) = some (some (.agg #[.string ⟨#[]⟩, .slice none 0 0, .int .i64 0]), 3, 48) := by kernel_rfl
end Go.Proofs.YtfanagohfimnkaaDoor
