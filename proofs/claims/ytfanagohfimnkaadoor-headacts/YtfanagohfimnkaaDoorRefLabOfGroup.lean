/- The document's labels of a text, by its contract. -/
import Derived.Test.YtfanagohfimnkaaDoorRefTicksGroup
import Derived.Deep.AppendLies
import Derived.Test.YtfanagohfimnkaaDoorRefsGroup
import Derived.Deep.RegionHeld3
import Derived.Deep.QuietTactic
import Derived.BigQuiet
import Derived.Test.YtfanagohfimnkaaDoorBitMathGroup
namespace LabMath

/-- Labels of bytes, sign by sign: those that are done, a name and a value under way, whether it is the value; none where a label has no '='. -/
def scan : List UInt8 → List (List UInt8 × List UInt8) → List UInt8 → List UInt8 → Bool → Option (List (List UInt8 × List UInt8))
  | [], out, nm, vl, fl => if fl = true then some (out ++ [(nm, vl)]) else none
  | c :: r, out, nm, vl, fl =>
    if c.toNat = 44 then (if fl = true then scan r (out ++ [(nm, vl)]) [] [] false else none)
    else if fl = true then scan r out nm (vl ++ [c]) true
    else if c.toNat = 61 then scan r out nm vl true
    else scan r out (nm ++ [c]) vl false
def txt (l : List UInt8) : ByteArray := ⟨l.toArray⟩
theorem txt_size (l : List UInt8) : (txt l).size = l.length := by simp [txt, ByteArray.size]
theorem txt_snoc (l : List UInt8) (s : ByteArray) (k : Nat) (hk : k < s.size) : txt l ++ s.extract k (k + 1) = txt (l ++ [s[k]]) := by
  apply ByteArray.ext
  rw [ByteArray.data_append]
  apply Array.ext'
  have he : (s.extract k (k + 1)).data.toList = [s[k]] := by
    rw [ByteArray.data_extract]
    have hk' : k < s.data.size := hk
    simp only [Array.toList_extract]
    rw [List.extract_eq_take_drop]
    rw [show k + 1 - k = 1 by omega]
    have : s.data.toList.drop k = s.data[k] :: s.data.toList.drop (k + 1) := by
      rw [List.drop_eq_getElem_cons (by simpa using hk')]
      simp
    rw [this]
    rfl
  rw [Array.toList_append, he]
  simp [txt]
end LabMath
namespace Go.Proofs.YtfanagohfimnkaaDoor
open Go.RowKit LabMath

theorem Tryd.infoLabel : (Tryd.prog.info? 28).map (fun i => (i.zero, i.size, i.bytes)) = some (some (.agg #[.string ⟨#[]⟩, .string ⟨#[]⟩]), 2, 32) := by kernel_rfl
/-- The cells of labels. -/
def labCells (l : List (List UInt8 × List UInt8)) : List Value := l.flatMap fun p => [.string (txt p.1), .string (txt p.2)]
theorem labCells_snoc (l : List (List UInt8 × List UInt8)) (p : List UInt8 × List UInt8) : labCells l ++ [.string (txt p.1), .string (txt p.2)] = labCells (l ++ [p]) := by simp [labCells]
theorem length_labCells (l : List (List UInt8 × List UInt8)) : (labCells l).length = l.length * 2 := by
  induction l with
  | nil => rfl
  | cons a r ih =>
    have e : labCells (a :: r) = .string (txt a.1) :: .string (txt a.2) :: labCells r := by simp [labCells]
    rw [e, List.length_cons, List.length_cons, ih, List.length_cons]
    omega
theorem labCells_at : ∀ (l : List (List UInt8 × List UInt8)) (k : Nat) (hk : k < l.length), (labCells l)[k * 2]? = some (.string (txt l[k].1)) ∧ (labCells l)[k * 2 + 1]? = some (.string (txt l[k].2))
  | [], k, hk => by simp at hk
  | a :: r, 0, _ => by simp [labCells]
  | a :: r, k + 1, hk => by
    have ih := labCells_at r k (by simpa using hk)
    have e : labCells (a :: r) = .string (txt a.1) :: .string (txt a.2) :: labCells r := by simp [labCells]
    rw [e, show (k + 1) * 2 = k * 2 + 1 + 1 by omega]
    simp only [List.getElem?_cons_succ, List.getElem_cons_succ]
    exact ih
def nameAt (l : List (List UInt8 × List UInt8)) (i : Nat) : ByteArray := txt (l.getD i ([], [])).1
def valueAt (l : List (List UInt8 × List UInt8)) (i : Nat) : ByteArray := txt (l.getD i ([], [])).2
theorem labs_own {w : World} {base : Nat} {v : Value} {l : List (List UInt8 × List UInt8)} (h : w.ownsRow base 28 2 v l.length (labCells l)) : ∃ a c, v = .slice a l.length c ∧ l.length ≤ c ∧ Labs w a l.length (nameAt l) (valueAt l) := by
  obtain ⟨_, h2⟩ := h
  rcases h2 with ⟨hv, h0⟩ | ⟨g, cap, cur, hv, hg, hh, h1, h2, h3, h4⟩
  · have hl := List.eq_nil_of_length_eq_zero h0
    subst hl
    exact ⟨none, 0, hv, Nat.le_refl _, .inl rfl⟩
  · refine ⟨some ⟨g, 0, none⟩, cap, hv, h1, .inr ⟨g, 0, rfl, fun k hk => ?_⟩⟩
    have hc : ∀ j, j < l.length * 2 → w.cell? ⟨g, j, none⟩ = (labCells l)[j]? := by
      intro j hj
      have e0 : w.cell? ⟨g, j, none⟩ = cur[j]? := by simp [World.cell?, hh]
      rw [e0, ← Array.getElem?_toList, ← h4, List.getElem?_take_of_lt hj]
    obtain ⟨p0, p1⟩ := labCells_at l k hk
    have e : l.getD k ([], []) = l[k] := by simp [List.getD_eq_getElem?_getD, hk]
    unfold nameAt valueAt
    rw [e]
    refine ⟨?_, ?_⟩
    · rw [Nat.zero_add, hc _ (by omega)]; exact p0
    · rw [Nat.zero_add, hc _ (by omega)]; exact p1
/-- What the scan owns and reads, block by block. -/
structure ScanAt (w wr : World) (v : Value) (out : List (List UInt8 × List UInt8)) (nm vl : List UInt8) : Prop where
  bel : Below w.heap.size w wr
  res : wr.heap[w.heap.size]? = some (.cells #[.int .i64 0, .int .i64 0] 36 (0, 0))
  lab : wr.heap[w.heap.size + 1]? = some (.cells #[.string (txt nm), .string (txt vl)] 28 (0, 0))
  own : wr.ownsRow (w.heap.size + 2) 28 2 v out.length (labCells out)
theorem block_set {w : World} {b : Nat} {cs : Array Value} {t : TypeId} {f : Nat × Nat} (h : w.heap[b]? = some (.cells cs t f)) (i : Nat) (v : Value) :
    (w.setCell ⟨b, i, none⟩ v).heap[b]? = some (.cells (cs.setIfInBounds i v) t f) := by
  simp [World.setCell, Array.getElem?_modify, h]
theorem own_setFar {w : World} {base : Nat} {e : TypeId} {sz : Nat} {v : Value} {n : Nat} {xs : List Value} (h : w.ownsRow base e sz v n xs) (b o : Nat) (hb : b < base) (u : Value) : (w.setCell ⟨b, o, none⟩ u).ownsRow base e sz v n xs := by
  obtain ⟨h1, h2⟩ := h
  refine ⟨h1, ?_⟩
  rcases h2 with h2 | ⟨g, cap, cur, hv, hg, hh, t⟩
  · exact .inl h2
  · exact .inr ⟨g, cap, cur, hv, hg, by rw [Below.heap_setCell _ _ _ _ (by show g ≠ b; omega)]; exact hh, t⟩
theorem ScanAt.drewN {w wr : World} {v : Value} {out : List (List UInt8 × List UInt8)} {nm vl : List UInt8} (h : ScanAt w wr v out nm vl) (q : Nat) : ScanAt w (wr.drewN q) v out nm vl := ⟨below_draws h.bel q, h.res, h.lab, h.own⟩
theorem ScanAt.drew {w wr : World} {v : Value} {out : List (List UInt8 × List UInt8)} {nm vl : List UInt8} (h : ScanAt w wr v out nm vl) : ScanAt w wr.drew v out nm vl := ⟨h.bel.trans ⟨rfl, rfl, rfl, Nat.le_refl _, fun _ _ => rfl⟩, h.res, h.lab, h.own⟩
theorem ScanAt.set0 {w wr : World} {v : Value} {out : List (List UInt8 × List UInt8)} {nm vl : List UInt8} (h : ScanAt w wr v out nm vl) (nm' : List UInt8) : ScanAt w (wr.setCell ⟨w.heap.size + 1, 0, none⟩ (.string (txt nm'))) v out nm' vl :=
  ⟨h.bel.setCell (by simp) _, by rw [Below.heap_setCell _ _ _ _ (by show w.heap.size ≠ w.heap.size + 1; omega)]; exact h.res, block_set h.lab 0 _, own_setFar h.own _ _ (by omega) _⟩
theorem ScanAt.set1 {w wr : World} {v : Value} {out : List (List UInt8 × List UInt8)} {nm vl : List UInt8} (h : ScanAt w wr v out nm vl) (vl' : List UInt8) : ScanAt w (wr.setCell ⟨w.heap.size + 1, 1, none⟩ (.string (txt vl'))) v out nm vl' :=
  ⟨h.bel.setCell (by simp) _, by rw [Below.heap_setCell _ _ _ _ (by show w.heap.size ≠ w.heap.size + 1; omega)]; exact h.res, block_set h.lab 1 _, own_setFar h.own _ _ (by omega) _⟩
theorem blk_lt {w : World} {b : Nat} {o : Obj} (h : w.heap[b]? = some o) : b < w.heap.size := by
  rcases Nat.lt_or_ge b w.heap.size with h' | h'
  · exact h'
  · rw [Array.getElem?_eq_none h'] at h; cases h
/-- A label more. -/
theorem ScanAt.grow {w wr X w2 : World} {o : Obj} {v v' : Value} {out out' : List (List UInt8 × List UInt8)} {nm vl : List UInt8} (h : ScanAt w wr v out nm vl) (hX : X.heap = (wr.alloc o).heap) (ho : X.os = wr.os) (ht : X.tape = wr.tape) (hu : X.output = wr.output) (hg : X.grownBy w2 v.ownBlock) (hown : w2.ownsRow (w.heap.size + 2) 28 2 v' out'.length (labCells out')) : ScanAt w w2 v' out' nm vl := by
  have hs : X.heap.size = wr.heap.size + 1 := by rw [hX]; simp
  have hl := blk_lt h.lab
  have hb : ∀ k, k < w.heap.size + 2 → w2.heap[k]? = wr.heap[k]? := fun k hk => by
    rw [hg.block k (by omega) ?_, hX, Below.heap_alloc _ _ _ (by omega)]
    intro e
    rcases h.own.2 with ⟨hv, _⟩ | ⟨g, cap, cur, hv, hgb, _⟩
    · rw [hv] at e; simp [Value.ownBlock] at e
    · rw [hv] at e; simp [Value.ownBlock] at e; omega
  exact ⟨⟨hg.os.trans (ho.trans h.bel.os), hg.tape.trans (ht.trans h.bel.tape), hg.output.trans (hu.trans h.bel.output), Nat.le_trans h.bel.size (by have := hg.size; omega), fun k hk => (hb k (by omega)).trans (h.bel.block k hk)⟩, (hb _ (by omega)).trans h.res, (hb _ (by omega)).trans h.lab, hown⟩
theorem scan_drop (s : ByteArray) (k : Nat) (hk : k < s.size) : s.data.toList.drop k = s[k] :: s.data.toList.drop (k + 1) := by
  have hk' : k < s.data.toList.length := by simpa using hk
  rw [List.drop_eq_getElem_cons hk']
  congr 1

/-- The fault of labels: its number and its place. -/
def FaultOf (out : List (List UInt8 × List UInt8)) (C A : Int) : Prop :=
  (out.length = 0 ∧ C = 5 ∧ A = -1) ∨ (6 < out.length ∧ C = 2 ∧ A = -1) ∨
    (1 ≤ out.length ∧ out.length ≤ 6 ∧ ∃ m, m ≤ out.length ∧ (∀ i, i < m → labOk (nameAt out) (valueAt out) i = true) ∧ (m < out.length → labOk (nameAt out) (valueAt out) m = false) ∧ C = (if m < out.length then (if (isName (nameAt out m) && isWord (valueAt out m)) = true then 3 else 4) else 0) ∧ A = (if m < out.length then (m : Int) else -1))
theorem first_no (p : Nat → Bool) : ∀ n, ∃ m, m ≤ n ∧ (∀ i, i < m → p i = true) ∧ (m < n → p m = false)
  | 0 => ⟨0, Nat.le_refl _, fun i hi => absurd hi (by omega), fun h => absurd h (by omega)⟩
  | n + 1 => by
    obtain ⟨m, hm, h1, h2⟩ := first_no p n
    rcases Nat.lt_or_ge m n with h | h
    · exact ⟨m, by omega, h1, fun _ => h2 h⟩
    · have : m = n := by omega
      subst this
      cases hp : p m with
      | true =>
        refine ⟨m + 1, Nat.le_refl _, fun i hi => ?_, fun h => absurd h (by omega)⟩
        rcases Nat.lt_or_ge i m with h3 | h3
        · exact h1 i h3
        · have : i = m := by omega
          subst this
          exact hp
      | false => exact ⟨m, by omega, h1, fun _ => hp⟩
/-- What LabelsOf answers. -/
def LabsOut (w w' : World) (l : List UInt8) (e : Ending) : Prop :=
  Below w.heap.size w w' ∧ ((scan l [] [] [] false = none ∧ e = .returned (.tuple #[.slice none 0 0, .agg #[.int .i64 1, .int .i64 (-1)]])) ∨
    ∃ (out : List (List UInt8 × List UInt8)) (C A : Int), scan l [] [] [] false = some out ∧ (∀ p, p ∈ out → p.1.length ≤ 100000 ∧ p.2.length ≤ 100000) ∧ FaultOf out C A ∧
      ((0 < C ∧ e = .returned (.tuple #[.slice none 0 0, .agg #[.int .i64 C, .int .i64 A]])) ∨ (C = 0 ∧ ∃ v, e = .returned (.tuple #[v, .agg #[.int .i64 C, .int .i64 A]]) ∧ w'.ownsRow w.heap.size 28 2 v out.length (labCells out))))

set_option maxRecDepth 1000000 in
set_option maxHeartbeats 4000000 in
theorem labels_of (s : ByteArray) (w : World) (hs : s.size ≤ 100000) :
    Calls Tryd.prog 69 #[.string s] w fun e w' => LabsOut w w' s.data.toList e := by
  obtain ⟨l, hl⟩ : ∃ l, l = s.data.toList := ⟨_, rfl⟩
  have hll : l.length = s.size := by rw [hl]; exact Array.length_toList
  have HDR : Hid (∀ k (hk : k < s.size), l.drop k = s[k] :: l.drop (k + 1)) := by rw [hl]; exact scan_drop s
  rw [← hl]
  have HEND : Hid (l.drop s.size = []) := List.drop_of_length_le (by omega)
  clear hl hll
  go_enter Tryd.func69, Tryd.ntmps69
  go_wp2_with fail
  go_loopw [4, 6, 7] (fun o fl i wr => ∃ (k : Nat) (out : List (List UInt8 × List UInt8)) (nm vl : List UInt8) (b : Bool) (v : Value), k ≤ s.size + 1 ∧ i = .int .i64 k ∧ fl = .bool b ∧ v = o ∧ out.length ≤ k ∧ nm.length ≤ k ∧ vl.length ≤ k ∧ (∀ p, p ∈ out → p.1.length ≤ 100000 ∧ p.2.length ≤ 100000) ∧ ScanAt w wr v out nm vl ∧ (k ≤ s.size → scan (l.drop k) out nm vl b = scan l [] [] [] false) ∧ (k = s.size + 1 → scan l [] [] [] false = some out)) (fun _ _ i _ => s.size + 2 - (intOf i).toNat)
  case atStart =>
    refine ⟨0, [], [], [], false, _, Nat.zero_le _, rfl, rfl, rfl, Nat.le_refl _, Nat.le_refl _, Nat.le_refl _, fun p hp => (by cases hp), ⟨((Below.refl _ _).alloc (Nat.le_refl _) _).alloc (by simp) _, ?_, ?_, ⟨rfl, .inl ⟨rfl, rfl⟩⟩⟩, fun _ => rfl, fun h => absurd h (by omega)⟩
    · rw [Below.heap_alloc _ _ _ (by simp)]
      exact heap_alloc_new _ _
    · have := heap_alloc_new (w.alloc (.cells #[.int .i64 0, .int .i64 0] 36)) (.cells #[.string ⟨#[]⟩, .string ⟨#[]⟩] 28)
      rw [show txt [] = ⟨#[]⟩ from rfl]
      simpa using this
  case round =>
    obtain ⟨k, out, nm, vl, b, v, hk, rfl, rfl, rfl, hlo, hln, hlv, hin, hsc, hrest, hfin⟩ := hrel
    have x0 : wr.cell? ⟨w.heap.size + 1, 0, none⟩ = some (.string (txt nm)) := by simp [World.cell?, hsc.lab]
    have x1 : wr.cell? ⟨w.heap.size + 1, 1, none⟩ = some (.string (txt vl)) := by simp [World.cell?, hsc.lab]
    have y0 : wr.frozen? ⟨w.heap.size + 1, 0, none⟩ = false := by simp [World.frozen?, hsc.lab]
    have y1 : wr.frozen? ⟨w.heap.size + 1, 1, none⟩ = false := by simp [World.frozen?, hsc.lab]
    have r0 : wr.cell? ⟨w.heap.size, 0, none⟩ = some (.int .i64 0) := by simp [World.cell?, hsc.res]
    have r1 : wr.cell? ⟨w.heap.size, 1, none⟩ = some (.int .i64 0) := by simp [World.cell?, hsc.res]
    have HSC := (show Hid _ from hsc)
    have HIN := (show Hid _ from hin)
    have HREST := (show Hid _ from hrest)
    have HFIN := (show Hid _ from hfin)
    have hwl := hsc.bel.size
    have hrl : w.heap.size + 1 < wr.heap.size := blk_lt hsc.lab
    clear hin hsc hrest hfin
    by_cases hke : k = s.size + 1
    · have hlen := HFIN.out hke
      have HSCAN := (show Hid _ from hlen)
      have hge : (s.size : Int) < (k : Int) := by omega
      have hdk : decide ((k : Int) ≤ (s.size : Int)) = false := by simp; omega
      obtain ⟨va, vc, rfl, hvc, hL⟩ := labs_own HSC.out.own
      have hsz : ∀ i, i < out.length → (nameAt out i).size ≤ 1000000 ∧ (valueAt out i).size ≤ 1000000 := fun i hi => by
        have e : out.getD i ([], []) = out[i] := by simp [List.getD_eq_getElem?_getD, hi]
        have := HIN.out out[i] (List.getElem_mem hi)
        unfold nameAt valueAt
        rw [e, txt_size, txt_size]
        omega
      obtain ⟨C, A, hfo, hcall⟩ : ∃ C A : Int, FaultOf out C A ∧ Calls Tryd.prog 10 #[.slice va out.length vc] wr fun e w' => e = .returned (.agg #[.int .i64 C, .int .i64 A]) ∧ Below wr.heap.size wr w' := by
        by_cases h0 : out.length = 0
        · refine ⟨5, -1, .inl ⟨h0, rfl, rfl⟩, ?_⟩
          rw [h0]
          exact labels_none wr va vc
        · by_cases h6 : 6 < out.length
          · exact ⟨2, -1, .inr (.inl ⟨h6, rfl, rfl⟩), labels_many wr va out.length vc h6 (by omega)⟩
          · obtain ⟨m, hm, hok, hbad⟩ := first_no (labOk (nameAt out) (valueAt out)) out.length
            exact ⟨_, _, .inr (.inr ⟨by omega, by omega, m, hm, hok, hbad, rfl, rfl⟩), labels_fault wr va out.length vc _ _ hL hsz (by omega) (by omega) m hm hok hbad _ _ rfl rfl⟩
      have HFO := (show Hid _ from hfo)
      have HCALL := (show Hid _ from hcall)
      clear hlen hcall hfo hsz hL
      go_wp2_with fail
      refine Calls.mono HCALL.out ?_
      rintro e w2 ⟨rfl, hb2⟩
      have hres := (hb2.block _ (by omega)).trans HSC.out.res
      have hown2 := HSC.out.own
      have HOWN2 : Hid (w2.ownsRow (w.heap.size + 2) 28 2 (.slice va out.length vc) out.length (labCells out)) := by
        obtain ⟨h1, h2⟩ := hown2
        refine ⟨h1, ?_⟩
        rcases h2 with h2 | ⟨g, cap, cur, hv, hg, hh, t⟩
        · exact .inl h2
        · exact .inr ⟨g, cap, cur, hv, hg, (hb2.block _ (blk_lt hh)).trans hh, t⟩
      have HB2 := (show Hid _ from HSC.out.bel.trans (hb2.mono hwl))
      have hrl2 : w.heap.size + 1 < w2.heap.size := by have := hb2.size; omega
      have c0 : w2.cell? ⟨w.heap.size, 0, none⟩ = some (.int .i64 0) := by simp [World.cell?, hres]
      have c1 : w2.cell? ⟨w.heap.size, 1, none⟩ = some (.int .i64 0) := by simp [World.cell?, hres]
      have z0 : w2.frozen? ⟨w.heap.size, 0, none⟩ = false := by simp [World.frozen?, hres]
      have z1 : w2.frozen? ⟨w.heap.size, 1, none⟩ = false := by simp [World.frozen?, hres]
      have hres3 : ∀ o : Obj, (w2.alloc o).heap[w.heap.size]? = some (.cells #[.int .i64 0, .int .i64 0] 36 (0, 0)) := fun o => (Below.heap_alloc w2 o _ (by omega)).trans hres
      have c30 : ∀ o : Obj, (w2.alloc o).cell? ⟨w.heap.size, 0, none⟩ = some (.int .i64 0) := fun o => by simp only [World.cell?, hres3 o]; rfl
      have c31 : ∀ o : Obj, (w2.alloc o).cell? ⟨w.heap.size, 1, none⟩ = some (.int .i64 0) := fun o => by simp only [World.cell?, hres3 o]; rfl
      have z30 : ∀ o : Obj, (w2.alloc o).frozen? ⟨w.heap.size, 0, none⟩ = false := fun o => by simp only [World.frozen?, hres3 o]; rfl
      have z31 : ∀ o : Obj, (w2.alloc o).frozen? ⟨w.heap.size, 1, none⟩ = false := fun o => by simp only [World.frozen?, hres3 o]; rfl
      clear hb2 hres hown2 HCALL hres3 c0 c1 z0 z1
      by_cases hC : 0 < C
      · have dC : decide (0 < C) = true := decide_eq_true hC
        go_wp2_with fail
        go_region
        go_wp2
        refine bodyPost_ret (v := .tuple #[.slice none 0 0, .agg #[.int .i64 C, .int .i64 A]]) (by simp [results, Tryd.results69, go_sem, c30, c31]) rfl ⟨?_, .inr ⟨out, C, A, HSCAN.out, HIN.out, HFO.out, .inl ⟨hC, rfl⟩⟩⟩
        exact (((HB2.out.alloc HB2.out.size _).setCell (Nat.le_refl _) _).setCell (Nat.le_refl _) _).trans ⟨rfl, rfl, rfl, Nat.le_refl _, fun _ _ => rfl⟩
      · have dC : decide (0 < C) = false := decide_eq_false hC
        have hC0 : C = 0 := by
          rcases HFO.out with ⟨_, h, _⟩ | ⟨_, h, _⟩ | ⟨_, _, m, _, _, _, h, _⟩
          · omega
          · omega
          · rw [h] at hC ⊢
            split
            · rename_i h1
              rw [if_pos h1] at hC
              split at hC <;> omega
            · rfl
        subst hC0
        go_wp2_with fail
        go_region
        go_wp2
        refine bodyPost_ret (v := .tuple #[.slice va out.length vc, .agg #[.int .i64 0, .int .i64 A]]) (by simp [results, Tryd.results69, go_sem, c30, c31]) rfl ⟨?_, .inr ⟨out, 0, A, HSCAN.out, HIN.out, HFO.out, .inr ⟨rfl, _, rfl, ?_⟩⟩⟩
        · exact (((HB2.out.alloc HB2.out.size _).setCell (Nat.le_refl _) _).setCell (Nat.le_refl _) _).trans ⟨rfl, rfl, rfl, Nat.le_refl _, fun _ _ => rfl⟩
        · have h3 := own_setFar (own_setFar (HOWN2.out.alloc (.cells #[.int .i64 0, .int .i64 A] 36)) w.heap.size 0 (by omega) (.int .i64 0)) w.heap.size 1 (by omega) (.int .i64 A)
          obtain ⟨q1, q2⟩ := h3
          refine ⟨q1, ?_⟩
          rcases q2 with q2 | ⟨g, cap, cur, hv, hg, t⟩
          · exact .inl q2
          · exact .inr ⟨g, cap, cur, hv, by omega, t⟩
    · have hks : k ≤ s.size := by omega
      have hksI : (k : Int) ≤ (s.size : Int) := by omega
      by_cases hend : k = s.size ∨ ∃ hk : k < s.size, (s[k]).toNat = 44
      · have hstep := HREST.out hks
        have HNX : Hid ((b = false → scan l [] [] [] false = none) ∧ (b = true → (k + 1 ≤ s.size → scan (l.drop (k + 1)) (out ++ [(nm, vl)]) [] [] false = scan l [] [] [] false) ∧ (k + 1 = s.size + 1 → scan l [] [] [] false = some (out ++ [(nm, vl)])))) := by
          rcases hend with h | ⟨hlt, h⟩
          · rw [h, HEND.out] at hstep
            refine ⟨fun hb => ?_, fun hb => ⟨fun hh => absurd hh (by omega), fun _ => ?_⟩⟩
            · rw [← hstep, hb]; rfl
            · rw [← hstep, hb]; rfl
          · rw [HDR.out k hlt] at hstep
            refine ⟨fun hb => ?_, fun hb => ⟨fun _ => ?_, fun hh => absurd hh (by omega)⟩⟩
            · rw [← hstep, hb]
              unfold scan
              rw [if_pos h, if_neg (by decide)]
            · rw [← hstep, hb]
              conv => rhs; unfold scan
              rw [if_pos h, if_pos rfl]
        have hguard : ((k : Int) == (s.size : Int)) = true ∨ (((k : Int) == (s.size : Int)) = false ∧ ∃ hk : k < s.size, (((s[k]).toNat : Int) == 44) = true) := by
          rcases hend with h | ⟨hlt, h⟩
          · exact .inl (by rw [beq_iff_eq]; omega)
          · exact .inr ⟨by rw [beq_eq_false_iff_ne]; omega, hlt, by rw [beq_iff_eq]; omega⟩
        have hk0 : (0 : Int) ≤ (k : Int) := by omega
        clear hstep hend
        cases b with
        | false =>
          have HNONE := (show Hid _ from HNX.out.1 rfl)
          have HBA := (show Hid _ from bare_any 1 wr)
          rcases hguard with d1 | ⟨d1, hlt, d2⟩
          · go_wp2_with fail
            refine Calls.mono HBA.out ?_
            rintro e w2 ⟨rfl, hb2⟩
            have hres := (hb2.block _ (by omega)).trans HSC.out.res
            have HB2 := (show Hid _ from HSC.out.bel.trans (hb2.mono hwl))
            have c0 : w2.cell? ⟨w.heap.size, 0, none⟩ = some (.int .i64 0) := by simp [World.cell?, hres]
            have c1 : w2.cell? ⟨w.heap.size, 1, none⟩ = some (.int .i64 0) := by simp [World.cell?, hres]
            have z0 : w2.frozen? ⟨w.heap.size, 0, none⟩ = false := by simp [World.frozen?, hres]
            have z1 : w2.frozen? ⟨w.heap.size, 1, none⟩ = false := by simp [World.frozen?, hres]
            clear hb2 hres
            go_wp2
            refine bodyPost_ret (v := .tuple #[.slice none 0 0, .agg #[.int .i64 1, .int .i64 (-1)]]) (by simp [results, Tryd.results69, go_sem, c0, c1]) rfl ⟨(HB2.out.setCell (Nat.le_refl _) _).setCell (Nat.le_refl _) _, .inl ⟨HNONE.out, rfl⟩⟩
          · have hk1 : (k : Int) < (s.size : Int) := by omega
            go_wp2_with fail
            refine Calls.mono HBA.out ?_
            rintro e w2 ⟨rfl, hb2⟩
            have hres := (hb2.block _ (by omega)).trans HSC.out.res
            have HB2 := (show Hid _ from HSC.out.bel.trans (hb2.mono hwl))
            have c0 : w2.cell? ⟨w.heap.size, 0, none⟩ = some (.int .i64 0) := by simp [World.cell?, hres]
            have c1 : w2.cell? ⟨w.heap.size, 1, none⟩ = some (.int .i64 0) := by simp [World.cell?, hres]
            have z0 : w2.frozen? ⟨w.heap.size, 0, none⟩ = false := by simp [World.frozen?, hres]
            have z1 : w2.frozen? ⟨w.heap.size, 1, none⟩ = false := by simp [World.frozen?, hres]
            clear hb2 hres
            go_wp2
            refine bodyPost_ret (v := .tuple #[.slice none 0 0, .agg #[.int .i64 1, .int .i64 (-1)]]) (by simp [results, Tryd.results69, go_sem, c0, c1]) rfl ⟨(HB2.out.setCell (Nat.le_refl _) _).setCell (Nat.le_refl _) _, .inl ⟨HNONE.out, rfl⟩⟩
        | true =>
          have HNT := (show Hid _ from HNX.out.2 rfl)
          have HIN2 : Hid (∀ p, p ∈ out ++ [(nm, vl)] → p.1.length ≤ 100000 ∧ p.2.length ≤ 100000) := fun p hp => by
            rcases List.mem_append.1 hp with h | h
            · exact HIN.out p h
            · simp at h
              subst h
              exact ⟨by show nm.length ≤ 100000; omega, by show vl.length ≤ 100000; omega⟩
          rcases hguard with d1 | ⟨d1, hlt, d2⟩
          · obtain ⟨i0, hi, hz0, hz1, hz2⟩ := info_parts Tryd.infoLabel
            have hownA : (wr.alloc (.cells #[.string (txt nm), .string (txt vl)] 28)).ownsRow (w.heap.size + 2) 28 2 v out.length (labCells out) := HSC.out.own.alloc _
            go_wp2_with (at_builtin; refine wpList_append_lies _ rfl _ _ 22 rfl (w.heap.size + 2) 28 i0 (.agg #[.string ⟨#[]⟩, .string ⟨#[]⟩]) 2 32 Tryd.underlying22 hi hz0 hz1 hz2 rfl (by decide) _ _ _ rfl hownA ⟨wr.heap.size, 0, none⟩ 1 1 [.string (txt nm), .string (txt vl)] rfl rfl (World.news_of_block (heap_alloc_new wr _)) ?c2 (by omega) ?c3 ?c4 ?c5 (wr.heap.size + 1) (by simp) ?_)
            case c2 => first | exact ⟨rfl, rfl⟩ | (intro q hq; simp at hq; rcases hq with rfl | rfl <;> rfl)
            case c3 => unfold maxLen; omega
            case c4 => omega
            case c5 => first | omega | (simp; omega)
            intro g1 cap1 w2 hown1 hgrow hat hlt1
            rw [labCells_snoc out (nm, vl)] at hown1
            have hle : (out ++ [(nm, vl)]).length = out.length + 1 := by simp
            have hsc2 : ScanAt w w2 (.slice (some ⟨g1, 0, none⟩) (out.length + 1) cap1) (out ++ [(nm, vl)]) nm vl := HSC.out.grow (by rfl) (by rfl) (by rfl) (by rfl) hgrow (by rw [hle]; exact hown1)
            have e0 : w2.cell? ⟨w.heap.size + 1, 0, none⟩ = some (.string (txt nm)) := by simp [World.cell?, hsc2.lab]
            have e1 : w2.cell? ⟨w.heap.size + 1, 1, none⟩ = some (.string (txt vl)) := by simp [World.cell?, hsc2.lab]
            have f0 : w2.frozen? ⟨w.heap.size + 1, 0, none⟩ = false := by simp [World.frozen?, hsc2.lab]
            have f1 : w2.frozen? ⟨w.heap.size + 1, 1, none⟩ = false := by simp [World.frozen?, hsc2.lab]
            have HSC2 := (show Hid _ from hsc2)
            clear hown1 hgrow hat hlt1 hownA hsc2 hle
            go_wp2
            go_roundw
            case rel => exact ⟨k + 1, out ++ [(nm, vl)], [], [], false, _, by omega, by go_num, rfl, rfl, by simp; omega, by simp, by simp, HIN2.out, (HSC2.out.set0 []).set1 [], HNT.out.1, HNT.out.2⟩
            case measure => simp [intOf]; omega
          · have hk1 : (k : Int) < (s.size : Int) := by omega
            obtain ⟨i0, hi, hz0, hz1, hz2⟩ := info_parts Tryd.infoLabel
            have hownA : (wr.alloc (.cells #[.string (txt nm), .string (txt vl)] 28)).ownsRow (w.heap.size + 2) 28 2 v out.length (labCells out) := HSC.out.own.alloc _
            go_wp2_with (at_builtin; refine wpList_append_lies _ rfl _ _ 22 rfl (w.heap.size + 2) 28 i0 (.agg #[.string ⟨#[]⟩, .string ⟨#[]⟩]) 2 32 Tryd.underlying22 hi hz0 hz1 hz2 rfl (by decide) _ _ _ rfl hownA ⟨wr.heap.size, 0, none⟩ 1 1 [.string (txt nm), .string (txt vl)] rfl rfl (World.news_of_block (heap_alloc_new wr _)) ?c2 (by omega) ?c3 ?c4 ?c5 (wr.heap.size + 1) (by simp) ?_)
            case c2 => first | exact ⟨rfl, rfl⟩ | (intro q hq; simp at hq; rcases hq with rfl | rfl <;> rfl)
            case c3 => unfold maxLen; omega
            case c4 => omega
            case c5 => first | omega | (simp; omega)
            intro g1 cap1 w2 hown1 hgrow hat hlt1
            rw [labCells_snoc out (nm, vl)] at hown1
            have hle : (out ++ [(nm, vl)]).length = out.length + 1 := by simp
            have hsc2 : ScanAt w w2 (.slice (some ⟨g1, 0, none⟩) (out.length + 1) cap1) (out ++ [(nm, vl)]) nm vl := HSC.out.grow (by rfl) (by rfl) (by rfl) (by rfl) hgrow (by rw [hle]; exact hown1)
            have e0 : w2.cell? ⟨w.heap.size + 1, 0, none⟩ = some (.string (txt nm)) := by simp [World.cell?, hsc2.lab]
            have e1 : w2.cell? ⟨w.heap.size + 1, 1, none⟩ = some (.string (txt vl)) := by simp [World.cell?, hsc2.lab]
            have f0 : w2.frozen? ⟨w.heap.size + 1, 0, none⟩ = false := by simp [World.frozen?, hsc2.lab]
            have f1 : w2.frozen? ⟨w.heap.size + 1, 1, none⟩ = false := by simp [World.frozen?, hsc2.lab]
            have HSC2 := (show Hid _ from hsc2)
            clear hown1 hgrow hat hlt1 hownA hsc2 hle
            go_wp2
            go_roundw
            case rel => exact ⟨k + 1, out ++ [(nm, vl)], [], [], false, _, by omega, by go_num, rfl, rfl, by simp; omega, by simp, by simp, HIN2.out, (HSC2.out.set0 []).set1 [], HNT.out.1, HNT.out.2⟩
            case measure => simp [intOf]; omega
      · have hlt : k < s.size := by omega
        have hne : (s[k]).toNat ≠ 44 := fun h => hend (.inr ⟨hlt, h⟩)
        have hstep := HREST.out hks
        rw [HDR.out k hlt] at hstep
        have d1 : ((k : Int) == (s.size : Int)) = false := by rw [beq_eq_false_iff_ne]; omega
        have hk0 : (0 : Int) ≤ (k : Int) := by omega
        have hk1 : (k : Int) < (s.size : Int) := by omega
        have hk2 : (k : Int) + 1 ≤ (s.size : Int) := by omega
        have hk3 : (k : Int) ≤ (k : Int) + 1 := by omega
        have hbl := (s[k]).toNat_lt
        have d2 : (((s[k]).toNat : Int) == 44) = false := by rw [beq_eq_false_iff_ne]; omega
        have hap0 := add_str Tryd.prog (txt nm) (s.extract k (k + 1)) (by rw [txt_size]; simp; omega)
        have hap1 := add_str Tryd.prog (txt vl) (s.extract k (k + 1)) (by rw [txt_size]; simp; omega)
        rw [txt_snoc nm s k hlt] at hap0
        rw [txt_snoc vl s k hlt] at hap1
        cases b with
        | true =>
          have HST : Hid (scan (l.drop (k + 1)) out nm (vl ++ [s[k]]) true = scan l [] [] [] false) := by
            show _ = _
            rw [← hstep]
            conv => rhs; unfold scan
            rw [if_neg hne, if_pos rfl]
          clear hstep hend
          go_wp2_with fail
          go_region
          go_wp2
          go_roundw
          case rel => exact ⟨k + 1, out, nm, vl ++ [s[k]], true, v, by omega, by go_num, rfl, rfl, by omega, by omega, by simp; omega, HIN.out, (HSC.out.set1 _).drew, fun _ => HST.out, fun h => absurd h (by omega)⟩
          case measure => simp [intOf]; omega
        | false =>
          by_cases h61 : (s[k]).toNat = 61
          · have d3 : (((s[k]).toNat : Int) == 61) = true := by rw [beq_iff_eq]; omega
            have HST : Hid (scan (l.drop (k + 1)) out nm vl true = scan l [] [] [] false) := by
              show _ = _
              rw [← hstep]
              conv => rhs; unfold scan
              rw [if_neg hne, if_neg (by decide), if_pos h61]
            clear hstep hend
            go_wp2
            go_roundw
            case rel => exact ⟨k + 1, out, nm, vl, true, v, by omega, by go_num, rfl, rfl, by omega, by omega, by omega, HIN.out, HSC.out, fun _ => HST.out, fun h => absurd h (by omega)⟩
            case measure => simp [intOf]; omega
          · have d3 : (((s[k]).toNat : Int) == 61) = false := by rw [beq_eq_false_iff_ne]; omega
            have HST : Hid (scan (l.drop (k + 1)) out (nm ++ [s[k]]) vl false = scan l [] [] [] false) := by
              show _ = _
              rw [← hstep]
              conv => rhs; unfold scan
              rw [if_neg hne, if_neg (by decide), if_neg h61]
            clear hstep hend
            go_wp2_with fail
            go_region
            go_wp2
            go_roundw
            case rel => exact ⟨k + 1, out, nm ++ [s[k]], vl, false, v, by omega, by go_num, rfl, rfl, by omega, by simp; omega, by omega, HIN.out, (HSC.out.set0 _).drew, fun _ => HST.out, fun h => absurd h (by omega)⟩
            case measure => simp [intOf]; omega
end Go.Proofs.YtfanagohfimnkaaDoor
/- Labels as a text, and back: mathematics. -/
namespace LabMath

/-- The text of labels. -/
def textL : List (List UInt8 × List UInt8) → List UInt8
  | [] => []
  | [p] => p.1 ++ 61 :: p.2
  | p :: q :: r => p.1 ++ 61 :: p.2 ++ 44 :: textL (q :: r)
theorem textL_snoc : ∀ (l : List (List UInt8 × List UInt8)) (p : List UInt8 × List UInt8), textL (l ++ [p]) = textL l ++ ((if l = [] then [] else [44]) ++ (p.1 ++ 61 :: p.2))
  | [], p => by simp [textL]
  | [a], p => by simp [textL]
  | a :: b :: r, p => by
    have ih := textL_snoc (b :: r) p
    rw [List.cons_append, List.cons_append, textL, ← List.cons_append, ih, textL]
    simp
/-- What was scanned, as a text. -/
def seen (out : List (List UInt8 × List UInt8)) (nm vl : List UInt8) (fl : Bool) : List UInt8 := textL out ++ ((if out = [] then [] else [44]) ++ (nm ++ (if fl = true then 61 :: vl else [])))
theorem seen_push (out : List (List UInt8 × List UInt8)) (nm vl : List UInt8) : seen (out ++ [(nm, vl)]) [] [] false = seen out nm vl true ++ [44] := by
  unfold seen
  rw [textL_snoc]
  simp
/-- Labels of a text make that text. -/
theorem scan_text : ∀ (l : List UInt8) (out : List (List UInt8 × List UInt8)) (nm vl : List UInt8) (fl : Bool) (res : List (List UInt8 × List UInt8)), (fl = false → vl = []) → scan l out nm vl fl = some res → textL res = seen out nm vl fl ++ l
  | [], out, nm, vl, fl, res, _, h => by
    unfold scan at h
    split at h
    · rename_i hf
      have e : out ++ [(nm, vl)] = res := by simpa using h
      rw [← e, textL_snoc, List.append_nil]
      unfold seen
      rw [hf, if_pos rfl]
    · cases h
  | c :: r, out, nm, vl, fl, res, hv, h => by
    unfold scan at h
    split at h
    · rename_i hc
      split at h
      · rename_i hf
        have ih := scan_text r _ _ _ _ res (fun _ => rfl) h
        have hc' : c = 44 := UInt8.toNat_inj.1 (by simpa using hc)
        rw [ih, seen_push, hf, hc']
        simp
      · cases h
    · split at h
      · rename_i hf
        have ih := scan_text r _ _ _ _ res (fun h => by cases h) h
        rw [ih, hf]
        unfold seen
        simp
      · rename_i hf
        have hff : fl = false := by simpa using hf
        have hvl := hv hff
        split at h
        · rename_i hc
          have ih := scan_text r _ _ _ _ res (fun h => by cases h) h
          have hc' : c = 61 := UInt8.toNat_inj.1 (by simpa using hc)
          rw [ih, hff, hvl, hc']
          unfold seen
          simp
        · have ih := scan_text r _ _ _ _ res (fun _ => hvl) h
          rw [ih, hff]
          unfold seen
          simp
theorem scan_back (l : List UInt8) (out : List (List UInt8 × List UInt8)) (h : scan l [] [] [] false = some out) : textL out = l := by
  have := scan_text l [] [] [] false out (fun _ => rfl) h
  simpa [seen, textL] using this

/-- Signs that are neither ',' nor '='. -/
def plainL (l : List UInt8) : Prop := ∀ c, c ∈ l → c.toNat ≠ 44 ∧ c.toNat ≠ 61
theorem scan_name : ∀ (a r : List UInt8) (out : List (List UInt8 × List UInt8)) (nm vl : List UInt8), plainL a → scan (a ++ r) out nm vl false = scan r out (nm ++ a) vl false
  | [], r, out, nm, vl, _ => by simp
  | c :: a, r, out, nm, vl, h => by
    have hc := h c (by simp)
    rw [List.cons_append, scan, if_neg hc.1, if_neg (by decide), if_neg hc.2, scan_name a r out (nm ++ [c]) vl (fun x hx => h x (by simp [hx]))]
    simp
theorem scan_value : ∀ (a r : List UInt8) (out : List (List UInt8 × List UInt8)) (nm vl : List UInt8), plainL a → scan (a ++ r) out nm vl true = scan r out nm (vl ++ a) true
  | [], r, out, nm, vl, _ => by simp
  | c :: a, r, out, nm, vl, h => by
    have hc := h c (by simp)
    rw [List.cons_append, scan, if_neg hc.1, if_pos rfl, scan_value a r out nm (vl ++ [c]) (fun x hx => h x (by simp [hx]))]
    simp
theorem scan_label (p : List UInt8 × List UInt8) (r : List UInt8) (out : List (List UInt8 × List UInt8)) (h1 : plainL p.1) (h2 : plainL p.2) : scan (p.1 ++ 61 :: p.2 ++ r) out [] [] false = scan r out p.1 p.2 true := by
  have e : p.1 ++ 61 :: p.2 ++ r = p.1 ++ (61 :: (p.2 ++ r)) := by simp
  rw [e, scan_name p.1 _ out [] [] h1, List.nil_append, scan, if_neg (by decide), if_neg (by decide), if_pos (by decide), scan_value p.2 r out p.1 [] h2, List.nil_append]
/-- Plain labels, as a text, are read. -/
theorem text_scan : ∀ (l out : List (List UInt8 × List UInt8)), l ≠ [] → (∀ p, p ∈ l → plainL p.1 ∧ plainL p.2) → scan (textL l) out [] [] false = some (out ++ l)
  | [], _, h, _ => absurd rfl h
  | [p], out, _, h => by
    have hp := h p (by simp)
    have := scan_label p [] out hp.1 hp.2
    rw [List.append_nil] at this
    rw [textL, this]
    rfl
  | p :: q :: r, out, _, h => by
    have hp := h p (by simp)
    rw [textL, scan_label p _ out hp.1 hp.2, scan, if_pos (by decide), if_pos rfl, text_scan (q :: r) _ (by simp) (fun x hx => h x (by simp [hx]))]
    simp
theorem word_plain (s : ByteArray) (h : isWord s = true) : plainL s.data.toList := by
  intro c hc
  unfold isWord at h
  rw [Bool.and_eq_true, List.all_eq_true] at h
  have := h.1 c hc
  unfold wordB at this
  simp at this
  omega
end LabMath
/- The text of labels as the walk makes it, and as a list of signs. -/
namespace Go.Proofs.YtfanagohfimnkaaDoor
open LabMath

def labsOf (N V : Nat → ByteArray) (n : Nat) : List (List UInt8 × List UInt8) := (List.range n).map fun i => ((N i).data.toList, (V i).data.toList)
theorem labsOf_step (N V : Nat → ByteArray) (n : Nat) : labsOf N V (n + 1) = labsOf N V n ++ [((N n).data.toList, (V n).data.toList)] := by simp [labsOf, List.range_succ]
theorem length_labsOf (N V : Nat → ByteArray) (n : Nat) : (labsOf N V n).length = n := by simp [labsOf]
theorem labsOf_at (N V : Nat → ByteArray) (n i : Nat) (h : i < n) : nameAt (labsOf N V n) i = N i ∧ valueAt (labsOf N V n) i = V i := by
  have e : (labsOf N V n).getD i ([], []) = ((N i).data.toList, (V i).data.toList) := by simp [labsOf, h]
  unfold nameAt valueAt
  rw [e]
  exact ⟨rfl, rfl⟩
theorem txt_append (a b : List UInt8) : txt a ++ txt b = txt (a ++ b) := by
  apply ByteArray.ext
  rw [ByteArray.data_append]
  apply Array.ext'
  simp [txt]
theorem txt_list (s : ByteArray) : txt s.data.toList = s := rfl
theorem textTo_list (N V : Nat → ByteArray) : ∀ n, textTo N V n = txt (textL (labsOf N V n))
  | 0 => rfl
  | n + 1 => by
    rw [textTo, labsOf_step, textL_snoc, textTo_list N V n]
    have e44 : (⟨#[44]⟩ : ByteArray) = txt [44] := rfl
    have e61 : (⟨#[61]⟩ : ByteArray) = txt [61] := rfl
    have hl : labsOf N V n = [] ↔ n = 0 := by
      constructor
      · intro h
        have := congrArg List.length h
        rw [length_labsOf] at this
        simpa using this
      · intro h
        subst h
        rfl
    have en : N n = txt (N n).data.toList := rfl
    have ev : V n = txt (V n).data.toList := rfl
    rw [e44, e61, en, ev]
    by_cases h0 : n = 0
    · rw [if_pos h0, if_pos (hl.2 h0), txt_append, txt_append, txt_append]
      congr 1
      simp [txt]
    · rw [if_neg h0, if_neg (fun h => h0 (hl.1 h)), txt_append, txt_append, txt_append, txt_append]
      congr 1
      simp [txt]
/-- Right labels: their text is read as them. -/
theorem right_text (N V : Nat → ByteArray) (n : Nat) (h0 : 1 ≤ n) (hok : ∀ i, i < n → labOk N V i = true) : scan (textL (labsOf N V n)) [] [] [] false = some (labsOf N V n) := by
  have := text_scan (labsOf N V n) [] (fun h => by have := congrArg List.length h; rw [length_labsOf] at this; simp at this; omega) (fun p hp => by
    simp [labsOf] at hp
    obtain ⟨i, hi, rfl⟩ := hp
    have h := hok i hi
    unfold labOk at h
    rw [Bool.and_eq_true, Bool.and_eq_true] at h
    have hn : isWord (N i) = true := by
      have h1 := h.1.1
      unfold isName at h1
      rw [Bool.and_eq_true] at h1
      exact h1.1
    exact ⟨word_plain _ hn, word_plain _ h.1.2⟩)
  simpa using this
theorem labOk_congr (N V N' V' : Nat → ByteArray) (n : Nat) (hN : ∀ i, i < n → N i = N' i) (hV : ∀ i, i < n → V i = V' i) (i : Nat) (hi : i < n) : labOk N V i = labOk N' V' i := by
  unfold labOk
  rw [hN i hi, hV i hi, hN (i - 1) (by omega)]
end Go.Proofs.YtfanagohfimnkaaDoor
/- bits.New, (*Row).Len, (*Row).Bytes, last, by contracts. -/
namespace Go.Proofs.YtfanagohfimnkaaDoor
open Go.RowKit

theorem last_eq (x t : Nat) (hx : (x : Int) ≤ 18446744073709551615) (ht : t ≤ 8) : bits .and .u64 (x : Int) (IntKind.u64.wrap (IntKind.u64.wrap (2 ^ t) - 1)) = ((x % 2 ^ t : Nat) : Int) := by
  have hp : 2 ^ t ≤ 2 ^ 8 := Nat.pow_le_pow_right (by omega) ht
  have h8 : (2 : Nat) ^ 8 = 256 := rfl
  have hp1 : 1 ≤ 2 ^ t := Nat.one_le_two_pow
  have e0 : ((2 : Int) ^ t) = ((2 ^ t : Nat) : Int) := by simp
  have e1 : IntKind.u64.wrap (IntKind.u64.wrap (2 ^ t) - 1) = ((2 ^ t - 1 : Nat) : Int) := by
    rw [IntKind.wrap_u64, IntKind.wrap_u64, e0]
    omega
  rw [e1, u64_and_nat _ _ (by omega) (by omega), Nat.and_two_pow_sub_one_eq_mod]

/-- What stays as it was: every block but those of S. -/
structure Kept (S : List Nat) (w w' : World) : Prop where
  os : w'.os = w.os
  tape : w'.tape = w.tape
  output : w'.output = w.output
  size : w.heap.size ≤ w'.heap.size
  block : ∀ k, k < w.heap.size → k ∉ S → w'.heap[k]? = w.heap[k]?
theorem Kept.refl (S : List Nat) (w : World) : Kept S w w := ⟨rfl, rfl, rfl, Nat.le_refl _, fun _ _ _ => rfl⟩
theorem Kept.trans {S T : List Nat} {a b c : World} (h : Kept S a b) (k : Kept T b c) (hT : ∀ x, x ∈ T → x ∈ S ∨ a.heap.size ≤ x) : Kept S a c :=
  ⟨k.os.trans h.os, k.tape.trans h.tape, k.output.trans h.output, Nat.le_trans h.size k.size, fun x hx hS => (k.block x (Nat.lt_of_lt_of_le hx h.size) (fun hm => by rcases hT x hm with h1 | h1; exact hS h1; omega)).trans (h.block x hx hS)⟩
theorem Kept.of_below {S : List Nat} {w w' : World} (h : Below w.heap.size w w') : Kept S w w' := ⟨h.os, h.tape, h.output, h.size, fun k hk _ => h.block k hk⟩
theorem Kept.below {S : List Nat} {B : Nat} {w w' : World} (h : Kept S w w') (hB : B ≤ w.heap.size) (hS : ∀ x, x ∈ S → B ≤ x) : Below B w w' :=
  ⟨h.os, h.tape, h.output, h.size, fun k hk => h.block k (Nat.lt_of_lt_of_le hk hB) (fun hm => by have := hS k hm; omega)⟩
theorem Kept.grown {S : List Nat} {w w' : World} {row : Option Nat} (h : w.grownBy w' row) (hS : ∀ k, row = some k → k ∈ S) : Kept S w w' :=
  ⟨h.os, h.tape, h.output, h.size, fun k hk hm => h.block k hk (fun e => hm (hS k e.symm))⟩
theorem Kept.setCell {S : List Nat} {a w : World} (h : Kept S a w) {p : Addr} (hp : p.block ∈ S ∨ a.heap.size ≤ p.block) (u : Value) : Kept S a (w.setCell p u) :=
  h.trans (T := [p.block]) ⟨rfl, rfl, rfl, by simp, fun k _ hm => Below.heap_setCell w p u k (by simpa using hm)⟩ (fun x hx => by simp at hx; subst hx; exact hp)
theorem Kept.alloc {S : List Nat} {a w : World} (h : Kept S a w) (o : Obj) : Kept S a (w.alloc o) :=
  h.trans (T := []) ⟨rfl, rfl, rfl, by simp, fun k hk _ => Below.heap_alloc w o k hk⟩ (fun x hx => by cases hx)
theorem Kept.drew {S : List Nat} {a w : World} (h : Kept S a w) : Kept S a w.drew := ⟨h.os, h.tape, h.output, h.size, h.block⟩

/-- The cells of bytes. -/
def byteCells (l : List UInt8) : List Value := l.map fun b => .int .u8 (b.toNat : Int)

theorem cells_of {w : World} {r : Nat} {cs : Array Value} {t : TypeId} (h : w.heap[r]? = some (.cells cs t (0, 0))) (i : Nat) : w.cell? ⟨r, i, none⟩ = cs[i]? := by
  simp [World.cell?, h]
theorem frozen_of {w : World} {r : Nat} {cs : Array Value} {t : TypeId} (h : w.heap[r]? = some (.cells cs t (0, 0))) (i : Nat) : w.frozen? ⟨r, i, none⟩ = false := by
  simp [World.frozen?, h]

theorem addr_add (g j : Nat) : (⟨g, 0, none⟩ : Addr).add j = ⟨g, j, none⟩ := by
  unfold Addr.add
  cases j <;> simp

theorem own_cases {w : World} {base : Nat} {v : Value} {n : Nat} {l : List UInt8} (h : w.ownsRow base 5 1 v n (byteCells l)) :
    (v = .slice none 0 0 ∧ n = 0 ∧ l = []) ∨ ∃ g cap, v = .slice (some ⟨g, 0, none⟩) n cap ∧ base ≤ g ∧ n ≤ cap ∧ l.length = n ∧ (∀ j (hj : j < l.length), w.cell? ⟨g, j, none⟩ = some (.int .u8 (l[j].toNat : Int))) ∧ ∃ cur, w.heap[g]? = some (.cells cur 5 (0, 0)) ∧ cur.size = cap ∧ cap ≤ maxLen ∧ cur.toList.take n = byteCells l := by
  obtain ⟨hl, h2⟩ := h
  have hlen : l.length = n := by simpa [byteCells] using hl
  rcases h2 with ⟨hv, h0⟩ | ⟨g, cap, cur, hv, hg, hh, h1, h2, h3, h4⟩
  · exact .inl ⟨hv, h0, List.eq_nil_of_length_eq_zero (hlen.trans h0)⟩
  · rw [Nat.mul_one] at h3 h4
    refine .inr ⟨g, cap, hv, hg, h1, hlen, fun j hj => ?_, cur, hh, h3, h2, h4⟩
    rw [cells_of hh j, ← Array.getElem?_toList]
    have e : (cur.toList.take n)[j]? = cur.toList[j]? := by rw [List.getElem?_take_of_lt (by omega)]
    rw [← e, h4, byteCells, List.getElem?_map, List.getElem?_eq_getElem hj]
    rfl
theorem own_cell {w : World} {base : Nat} {v : Value} {n : Nat} {l : List UInt8} (h : w.ownsRow base 5 1 v n (byteCells l)) (hn : 0 < n) :
    ∃ g cap, v = .slice (some ⟨g, 0, none⟩) n cap ∧ base ≤ g ∧ n ≤ cap ∧ l.length = n ∧ (∀ j (hj : j < l.length), w.cell? ⟨g, j, none⟩ = some (.int .u8 (l[j].toNat : Int))) ∧ ∃ cur, w.heap[g]? = some (.cells cur 5 (0, 0)) ∧ cur.size = cap ∧ cap ≤ maxLen ∧ cur.toList.take n = byteCells l := by
  rcases own_cases h with ⟨_, h0, _⟩ | h
  · omega
  · exact h

theorem string_of_nil (w : World) : (convert 111 9 (.slice none 0 0)).run Tryd.prog w = .ok (.string ⟨#[]⟩) w := by kernel_rfl
theorem string_of_own {w : World} {base : Nat} {v : Value} {n : Nat} {l : List UInt8} (h : w.ownsRow base 5 1 v n (byteCells l)) :
    (convert 111 9 v).run Tryd.prog w = .ok (.string ⟨l.toArray⟩) w := by
  rcases own_cases h with ⟨rfl, _, rfl⟩ | ⟨g, cap, rfl, hg, hcap, hlen, hc, -⟩
  · exact string_of_nil w
  · rw [← hlen]
    exact run_convert_bytes_back (P := Tryd.prog) w 111 9 5 ⟨g, 0, none⟩ cap l Tryd.underlying111 Tryd.underlying5 Tryd.underlying9 (fun j hj => by rw [addr_add]; exact hc j hj)

end Go.Proofs.YtfanagohfimnkaaDoor
/- What the parts of a round of Put do to the row: outside the walk. -/
namespace Go.Proofs.YtfanagohfimnkaaDoor
open Go.RowKit

theorem heap_set {w : World} {b : Nat} {cs : Array Value} {t : TypeId} {f : Nat × Nat} (h : w.heap[b]? = some (.cells cs t f)) (i : Nat) (v : Value) :
    (w.setCell ⟨b, i, none⟩ v).heap[b]? = some (.cells (cs.setIfInBounds i v) t f) := by
  simp [World.setCell, Array.getElem?_modify, h]

theorem ofNat_lt (n : Nat) (h : n < 256) : (UInt8.ofNat n).toNat = n := by simp [Nat.mod_eq_of_lt h]

/-- A byte of an owned row is written. -/
theorem own_set {w : World} {base g n cap : Nat} {l : List UInt8} (h : w.ownsRow base 5 1 (.slice (some ⟨g, 0, none⟩) n cap) n (byteCells l)) (k : Nat) (c : UInt8) :
    (w.setCell ⟨g, k, none⟩ (.int .u8 (c.toNat : Int))).ownsRow base 5 1 (.slice (some ⟨g, 0, none⟩) n cap) n (byteCells (l.set k c)) := by
  obtain ⟨hl, h2⟩ := h
  refine ⟨by simpa [byteCells] using hl, ?_⟩
  rcases h2 with ⟨hv, _⟩ | ⟨g', cap', cur, hv, hg, hh, h1, h2, h3, h4⟩
  · cases hv
  · cases hv
    refine .inr ⟨g, cap, cur.setIfInBounds k (.int .u8 (c.toNat : Int)), rfl, hg, heap_set hh k _, h1, h2, by simpa using h3, ?_⟩
    rw [Array.toList_setIfInBounds, List.take_set, h4]
    simp [byteCells, List.map_set]

theorem or_eq (b z s : Nat) (hb : b < 256) (hz : z * 2 ^ s < 256) : bits .or .u8 (b : Int) (IntKind.u8.wrap (IntKind.u64.wrap ((z : Int) * 2 ^ s))) = ((b ||| (z <<< s) : Nat) : Int) := by
  have e0 : ((z : Int) * 2 ^ s) = ((z * 2 ^ s : Nat) : Int) := by simp
  have e1 : IntKind.u8.wrap (IntKind.u64.wrap ((z : Int) * 2 ^ s)) = ((z <<< s : Nat) : Int) := by
    rw [e0, Nat.shiftLeft_eq, IntWalk.u64_in _ (by omega), IntWalk.u8_in _ (by omega)]
  rw [e1, u8_or_nat _ _ hb (by rw [Nat.shiftLeft_eq]; exact hz)]

end Go.Proofs.YtfanagohfimnkaaDoor
