/- The document's head, as it lies in memory: a row of lines; what it tells, by contracts. -/
import Derived.Test.YtfanagohfimnkaaDoorHeadAtGroup
import Derived.Test.YtfanagohfimnkaaDoorSortStr
import Derived.Test.YtfanagohfimnkaaDoorRefTicksGroup
import Derived.Test.YtfanagohfimnkaaDoorRefLabOfGroup
import Derived.Test.YtfanagohfimnkaaDoorHeadCount
import Derived.Deep.AppendLies
namespace Go.Proofs.YtfanagohfimnkaaDoor
open Go.RowKit Go.Maps HeadMath LabMath PtMath

/-- The cells of lines. -/
def lineCells (S : List Sr) (sv : List UInt8 → Value) : List Value := S.flatMap fun l => [encStr l.key, sv l.key, .int .i64 l.last]
theorem length_lineCells (S : List Sr) (sv : List UInt8 → Value) : (lineCells S sv).length = S.length * 3 := by
  induction S with
  | nil => rfl
  | cons a r ih =>
    have e : lineCells (a :: r) sv = encStr a.key :: sv a.key :: .int .i64 a.last :: lineCells r sv := by simp [lineCells]
    rw [e, List.length_cons, List.length_cons, List.length_cons, ih, List.length_cons]
    omega
theorem lineCells_at : ∀ (S : List Sr) (sv : List UInt8 → Value) (k : Nat) (hk : k < S.length), (lineCells S sv)[k * 3]? = some (encStr S[k].key) ∧ (lineCells S sv)[k * 3 + 1]? = some (sv S[k].key) ∧ (lineCells S sv)[k * 3 + 2]? = some (.int .i64 S[k].last)
  | [], _, k, hk => by simp at hk
  | a :: r, sv, 0, _ => by simp [lineCells]
  | a :: r, sv, k + 1, hk => by
    have ih := lineCells_at r sv k (by simpa using hk)
    have e : lineCells (a :: r) sv = encStr a.key :: sv a.key :: .int .i64 a.last :: lineCells r sv := by simp [lineCells]
    rw [e, show (k + 1) * 3 = k * 3 + 1 + 1 + 1 by omega]
    simp only [List.getElem?_cons_succ, List.getElem_cons_succ]
    exact ih
theorem lineCells_append (S T : List Sr) (sv : List UInt8 → Value) : lineCells (S ++ T) sv = lineCells S sv ++ lineCells T sv := by simp [lineCells]
structure MAt (w : World) (mh : Nat) (v : Value) (S : List Sr) (sv : List UInt8 → Value) : Prop where
  head : w.heap[mh]? = some (.cells #[v] 75 (0, 0))
  row : w.ownsRow 0 109 3 v S.length (lineCells S sv)
  pts : ∀ l, l ∈ S → w.ownsRow 0 55 2 (sv l.key) l.pts.length (pairCells l.pts)
theorem MAt.cell {w : World} {mh : Nat} {v : Value} {S : List Sr} {sv : List UInt8 → Value} (h : MAt w mh v S sv) : w.cell? ⟨mh, 0, none⟩ = some v := by simp [World.cell?, h.head]
/-- The lines, one by one. -/
theorem MAt.open {w : World} {mh : Nat} {v : Value} {S : List Sr} {sv : List UInt8 → Value} (h : MAt w mh v S sv) : ∃ a c, v = .slice a S.length c ∧ S.length ≤ c ∧ ∀ i (hi : i < S.length), ∃ g, a = some ⟨g, 0, none⟩ ∧ w.cell? ⟨g, i * 3, none⟩ = some (encStr S[i].key) ∧ w.cell? ⟨g, i * 3 + 1, none⟩ = some (sv S[i].key) ∧ w.cell? ⟨g, i * 3 + 2, none⟩ = some (.int .i64 S[i].last) := by
  rcases h.row.2 with ⟨hv, h0⟩ | ⟨g, cap, cur, hv, _, hh, hl, _, _, ht⟩
  · exact ⟨none, 0, by rw [h0]; exact hv, by omega, fun i hi => absurd hi (by omega)⟩
  · refine ⟨some ⟨g, 0, none⟩, cap, hv, hl, fun i hi => ⟨g, rfl, ?_⟩⟩
    have hcell : ∀ j, j < S.length * 3 → w.cell? ⟨g, j, none⟩ = (lineCells S sv)[j]? := fun j hj => by
      have e0 : w.cell? ⟨g, j, none⟩ = cur[j]? := by simp [World.cell?, hh]
      rw [e0, ← Array.getElem?_toList, ← ht, List.getElem?_take_of_lt hj]
    obtain ⟨h1, h2, h3⟩ := lineCells_at S sv i hi
    exact ⟨(hcell _ (by omega)).trans h1, (hcell _ (by omega)).trans h2, (hcell _ (by omega)).trans h3⟩
/-- The blocks that the document's head lies in. -/
def mfoot (mh : Nat) (v : Value) (S : List Sr) (sv : List UInt8 → Value) : List Nat := mh :: v.ownBlock.toList ++ S.flatMap fun l => (sv l.key).ownBlock.toList
theorem MAt.same {w w' : World} {mh : Nat} {v : Value} {S : List Sr} {sv : List UInt8 → Value} (h : MAt w mh v S sv) (he : ∀ b, b ∈ mfoot mh v S sv → w'.heap[b]? = w.heap[b]?) : MAt w' mh v S sv :=
  ⟨(he mh (by simp [mfoot])).trans h.head, own_same h.row fun g hg => he g (by simp [mfoot, hg]), fun l hl => own_same (h.pts l hl) fun g hg => he g (by
    simp only [mfoot, List.cons_append, List.mem_cons, List.mem_append, List.mem_flatMap]
    exact .inr (.inr ⟨l, hl, by simp [hg]⟩))⟩
theorem MAt.lt {w : World} {mh : Nat} {v : Value} {S : List Sr} {sv : List UInt8 → Value} (h : MAt w mh v S sv) {b : Nat} (hb : b ∈ mfoot mh v S sv) : b < w.heap.size := by
  simp only [mfoot, List.cons_append, List.mem_cons, List.mem_append, List.mem_flatMap] at hb
  rcases hb with rfl | hb | ⟨l, hl, hb⟩
  · exact blk_lt h.head
  · exact (own_blk h.row (by simpa using hb)).2.1
  · exact (own_blk (h.pts l hl) (by simpa using hb)).2.1
theorem MAt.below {w w' : World} {mh : Nat} {v : Value} {S : List Sr} {sv : List UInt8 → Value} (h : MAt w mh v S sv) (hw : Below w.heap.size w w') : MAt w' mh v S sv := h.same fun _ hx => hw.block _ (h.lt hx)

theorem enc_eq (k : List UInt8) : encStr k = .string ⟨k.toArray⟩ := rfl
theorem key_eq (k : List UInt8) (s : ByteArray) : ((⟨k.toArray⟩ : ByteArray).toList == s.toList) = decide (k = s.data.toList) := by
  rw [ByteArray.toList_eq, ByteArray.toList_eq]
  by_cases h : k = s.data.toList
  · simp [h]
  · rw [decide_eq_false h, beq_eq_false_iff_ne]
    simpa using h

set_option maxRecDepth 1000000 in
theorem mfind_any (w : World) (mh : Nat) (v : Value) (S : List Sr) (sv : List UInt8 → Value) (h : MAt w mh v S sv) (hn : S.length ≤ 1000) (s : ByteArray) :
    Calls Tryd.prog 53 #[.pointer (some ⟨mh, 0, none⟩), .string s] w fun e w' => w' = w ∧ ((known S s.data.toList = false ∧ e = .returned (.int .i64 (-1))) ∨ ∃ i, ∃ hi : i < S.length, (S[i]).key = s.data.toList ∧ e = .returned (.int .i64 (i : Int))) := by
  have c0 := h.cell
  obtain ⟨a, c, rfl, hlc, hat⟩ := h.open
  have HAT := (show Hid _ from hat)
  obtain ⟨n, hnn⟩ : ∃ n, S.length = n := ⟨_, rfl⟩
  rw [hnn] at c0 hn
  have HN := (show Hid _ from hnn)
  clear h hat hnn hlc
  go_enter Tryd.func53, Tryd.ntmps53
  go_wp2_with fail
  go_loopw [4, 5] (fun s4 i wr => s4 = .int .i64 0 ∧ wr = w ∧ ∃ k : Nat, k ≤ n ∧ i = .int .i64 k ∧ ∀ j (hj : j < S.length), j < k → (S[j]).key ≠ s.data.toList) (fun _ i _ => n - (intOf i).toNat)
  case atStart => exact ⟨rfl, rfl, 0, Nat.zero_le _, rfl, fun j hj h0 => absurd h0 (by omega)⟩
  case round =>
    obtain ⟨rfl, rfl, k, hk, rfl, hno⟩ := hrel
    have HNO := (show Hid _ from hno)
    clear hno
    by_cases hlt : k < n
    · have hk' : k < S.length := by rw [HN.out]; exact hlt
      obtain ⟨g, rfl, h1, _⟩ := HAT.out k hk'
      have hq := key_eq (S[k]).key s
      obtain ⟨kb, hkb⟩ : ∃ kb : ByteArray, kb = ⟨(S[k]).key.toArray⟩ := ⟨_, rfl⟩
      rw [enc_eq, ← hkb] at h1
      rw [← hkb] at hq
      clear hkb
      have hk0 : (0 : Int) ≤ (k : Int) := by omega
      have hk1 : (k : Int) < (n : Int) := by omega
      by_cases hkey : (S[k]).key = s.data.toList
      · have HK := (show Hid _ from hkey)
        rw [decide_eq_true hkey] at hq
        clear hkey
        go_wp2
        go_ret
        exact ⟨rfl, .inr ⟨k, hk', HK.out, by rfl⟩⟩
      · rw [decide_eq_false hkey] at hq
        have HNO2 : Hid (∀ j (hj : j < S.length), j < k + 1 → (S[j]).key ≠ s.data.toList) := fun j hj hjk => by
          rcases Nat.lt_or_ge j k with h1 | h1
          · exact HNO.out j hj h1
          · obtain rfl : j = k := by omega
            exact hkey
        clear hkey
        go_wp2
        go_roundw
        case rel => exact ⟨rfl, by first | rfl | trivial, k + 1, by omega, by go_num, HNO2.out⟩
        case measure => simp [intOf] <;> omega
    · have hge : (n : Int) ≤ (k : Int) := by omega
      obtain rfl : k = n := by omega
      go_wp2
      go_ret
      refine ⟨rfl, .inl ⟨?_, by rfl⟩⟩
      cases e : known S s.data.toList with
      | false => rfl
      | true =>
        obtain ⟨l, hl, hlk⟩ := known_iff.1 e
        obtain ⟨j, hj, rfl⟩ := List.mem_iff_getElem.1 hl
        exact absurd hlk (HNO.out j hj (by rw [← HN.out]; exact hj))
end Go.Proofs.YtfanagohfimnkaaDoor
/- The document's head: the fault of what is to be added, by its contract. -/
namespace Go.Proofs.YtfanagohfimnkaaDoor
open Go.RowKit Go.Maps HeadMath LabMath PtMath

theorem labels_c (w : World) (s : ByteArray) (hs : s.size ≤ 100000) :
    Calls Tryd.prog 69 #[.string s] w fun e w' => Below w.heap.size w w' ∧ ∃ x, e = .returned (.tuple #[x, .agg #[.int .i64 (readC s.data.toList), .int .i64 (readA s.data.toList)]]) := by
  refine (labels_of s w hs).mono ?_
  rintro e w' ⟨hb, ⟨hn, rfl⟩ | ⟨out, C, A, hsc, _, hf, hrest⟩⟩
  · refine ⟨hb, .slice none 0 0, ?_⟩
    unfold readC readA
    rw [hn]
  · obtain ⟨hC, hA⟩ := fault_is hf
    refine ⟨hb, ?_⟩
    unfold readC readA
    rw [hsc]
    simp only
    rw [← hC, ← hA]
    rcases hrest with ⟨_, rfl⟩ | ⟨_, v, rfl, _⟩
    · exact ⟨_, rfl⟩
    · exact ⟨_, rfl⟩
/-- The blocks of a function that has a point and a fault of its own. -/
structure FBox (w wz : World) (t : Int) (u : Nat) : Prop where
  bel : Below w.heap.size w wz
  pt : wz.heap[w.heap.size]? = some (.cells #[.int .i64 t, .int .u64 (u : Int)] 55 (0, 0))
  rt : wz.heap[w.heap.size + 1]? = some (.cells #[.int .i64 0, .int .i64 0] 36 (0, 0))
theorem FBox.more {w wz wy : World} {t : Int} {u : Nat} (h : FBox w wz t u) (hb : Below wz.heap.size wz wy) : FBox w wy t u :=
  ⟨h.bel.trans (hb.mono h.bel.size), (hb.block _ (blk_lt h.pt)).trans h.pt, (hb.block _ (blk_lt h.rt)).trans h.rt⟩
theorem FBox.c0 {w wz : World} {t : Int} {u : Nat} (h : FBox w wz t u) : wz.cell? ⟨w.heap.size, 0, none⟩ = some (.int .i64 t) := by simp [World.cell?, h.pt]
theorem FBox.c1 {w wz : World} {t : Int} {u : Nat} (h : FBox w wz t u) : wz.cell? ⟨w.heap.size, 1, none⟩ = some (.int .u64 (u : Int)) := by simp [World.cell?, h.pt]
theorem FBox.r0 {w wz : World} {t : Int} {u : Nat} (h : FBox w wz t u) : wz.cell? ⟨w.heap.size + 1, 0, none⟩ = some (.int .i64 0) := by simp [World.cell?, h.rt]
theorem FBox.r1 {w wz : World} {t : Int} {u : Nat} (h : FBox w wz t u) : wz.cell? ⟨w.heap.size + 1, 1, none⟩ = some (.int .i64 0) := by simp [World.cell?, h.rt]
theorem FBox.z0 {w wz : World} {t : Int} {u : Nat} (h : FBox w wz t u) : wz.frozen? ⟨w.heap.size + 1, 0, none⟩ = false := by simp [World.frozen?, h.rt]
theorem FBox.z1 {w wz : World} {t : Int} {u : Nat} (h : FBox w wz t u) : wz.frozen? ⟨w.heap.size + 1, 1, none⟩ = false := by simp [World.frozen?, h.rt]
theorem FBox.start (w : World) (t : Int) (u : Nat) : FBox w ((w.alloc (.cells #[.int .i64 t, .int .u64 (u : Int)] 55)).alloc (.cells #[.int .i64 0, .int .i64 0] 36)) t u := by
  have e1 := heap_alloc_new w (.cells #[.int .i64 t, .int .u64 (u : Int)] 55)
  have e2 := heap_alloc_new (w.alloc (.cells #[.int .i64 t, .int .u64 (u : Int)] 55)) (.cells #[.int .i64 0, .int .i64 0] 36)
  have hs : (w.alloc (.cells #[.int .i64 t, .int .u64 (u : Int)] 55)).heap.size = w.heap.size + 1 := by simp
  have hb2 : Below (w.alloc (.cells #[.int .i64 t, .int .u64 (u : Int)] 55)).heap.size _ ((w.alloc (.cells #[.int .i64 t, .int .u64 (u : Int)] 55)).alloc (.cells #[.int .i64 0, .int .i64 0] 36)) := (Below.refl _ _).alloc (Nat.le_refl _) _
  refine ⟨((Below.refl _ _).alloc (Nat.le_refl _) _).alloc (by simp) _, (hb2.block _ (by rw [hs]; omega)).trans e1, ?_⟩
  rw [hs] at e2
  exact e2
theorem FBox.fin {w wz : World} {t : Int} {u : Nat} (h : FBox w wz t u) (C A : Value) : Below w.heap.size w ((wz.setCell ⟨w.heap.size + 1, 0, none⟩ C).setCell ⟨w.heap.size + 1, 1, none⟩ A) :=
  (h.bel.setCell (p := ⟨w.heap.size + 1, 0, none⟩) (Nat.le_succ _) _).setCell (p := ⟨w.heap.size + 1, 1, none⟩) (Nat.le_succ _) _

set_option maxRecDepth 1000000 in
set_option maxHeartbeats 2000000 in
theorem mFault_any (w : World) (mh : Nat) (v : Value) (S : List Sr) (sv : List UInt8 → Value) (h : MAt w mh v S sv) (hS : S.Pairwise fun a b => a.key < b.key) (hn : S.length ≤ 1000) (s : ByteArray) (hs : s.size ≤ 1000) (t : Int) (u : Nat) :
    Calls Tryd.prog 52 #[.pointer (some ⟨mh, 0, none⟩), .string s, .agg #[.int .i64 t, .int .u64 (u : Int)]] w fun e w' => e = .returned (.agg #[.int .i64 (addC S s.data.toList t), .int .i64 (addA s.data.toList)]) ∧ Below w.heap.size w w' := by
  have HH := (show Hid _ from h)
  have HS := (show Hid _ from hS)
  obtain ⟨W, hW⟩ : ∃ W, W = (w.alloc (.cells #[.int .i64 t, .int .u64 (u : Int)] 55)).alloc (.cells #[.int .i64 0, .int .i64 0] 36) := ⟨_, rfl⟩
  have HBX : Hid (FBox w W t u) := by rw [hW]; exact FBox.start w t u
  have HW : Hid (∀ wx, wx = (w.alloc (.cells #[.int .i64 t, .int .u64 (u : Int)] 55)).alloc (.cells #[.int .i64 0, .int .i64 0] 36) → wx = W) := fun wx hx => hx.trans hW.symm
  have HL := (show Hid _ from labels_c W s (by omega))
  have hr0 := readC_nonneg s.data.toList
  obtain ⟨RC, hRC⟩ : ∃ RC, RC = readC s.data.toList := ⟨_, rfl⟩
  obtain ⟨RA, hRA⟩ : ∃ RA, RA = readA s.data.toList := ⟨_, rfl⟩
  have HC : Hid (addC S s.data.toList t = if 0 < RC then RC else if t < -1099511627776 ∨ 1099511627776 < t then 2 else if oldB S s.data.toList t = true then 8 else if known S s.data.toList = false ∧ 60 ≤ S.length then 7 else 0) := by rw [hRC]; rfl
  have HA : Hid (addA s.data.toList = if 0 < RC then RA else -1) := by rw [hRC, hRA]; rfl
  rw [← hRC, ← hRA] at HL
  rw [← hRC] at hr0
  clear h hS hW hRC hRA
  go_enter Tryd.func52, Tryd.ntmps52
  go_wp2_with fail
  rw [HW.out _ rfl]
  refine Calls.mono HL.out ?_
  rintro e w1 ⟨hb1, x, rfl⟩
  have hb := HBX.out.more hb1
  have HB1 := (show Hid _ from hb)
  have hlt := blk_lt hb.rt
  have c0 := hb.c0
  have c1 := hb.c1
  have r0 := hb.r0
  have r1 := hb.r1
  have z0 := hb.z0
  have z1 := hb.z1
  clear hb hb1 HL HBX HW
  dsimp only
  by_cases hc : 0 < RC
  · have d0 : decide (0 < RC) = true := decide_eq_true hc
    have HFC : Hid (addC S s.data.toList t = RC ∧ addA s.data.toList = RA) := by rw [HC.out, HA.out, if_pos hc, if_pos hc]; exact ⟨rfl, rfl⟩
    clear HC HA
    go_wp2
    refine bodyPost_ret (v := .agg #[.int .i64 RC, .int .i64 RA]) (by simp [results, Tryd.results52, go_sem, r0, r1, hlt]) rfl ⟨by rw [HFC.out.1, HFC.out.2], ?_⟩
    exact (HB1.out.fin _ _).alloc (HB1.out.fin _ _).size _
  · have d0 : decide (0 < RC) = false := decide_eq_false hc
    have HA2 : Hid (addA s.data.toList = -1) := by rw [HA.out, if_neg hc]; rfl
    have hC := HC.out
    rw [if_neg hc] at hC
    obtain ⟨W2, hW2⟩ : ∃ W2, W2 = w1.alloc (.cells #[.int .i64 RC, .int .i64 RA] 36) := ⟨_, rfl⟩
    have hb2 : FBox w W2 t u := by rw [hW2]; exact HB1.out.more ((Below.refl _ _).alloc (Nat.le_refl _) _)
    have HW2 : Hid (∀ wx, wx = w1.alloc (.cells #[.int .i64 RC, .int .i64 RA] 36) → wx = W2) := fun wx hx => hx.trans hW2.symm
    have HB2 := (show Hid _ from hb2)
    have HT := (show Hid _ from is_tick t W2)
    have hM2 := HH.out.below hb2.bel
    have HF := (show Hid _ from mfind_any W2 mh v S sv hM2 hn s)
    clear hW2 HC HA hc hr0
    have p0 := hb2.c0
    have p1 := hb2.c1
    go_upto_region 4 with fail
    rw [HW2.out _ rfl]
    go_wp2_with fail
    refine Calls.mono HT.out ?_
    rintro e w2 ⟨rfl, rfl⟩
    have q0 := hb2.r0
    have q1 := hb2.r1
    have y0 := hb2.z0
    have y1 := hb2.z1
    have m0 := hM2.cell
    have FIN : Hid (∀ (C A : Int) (wz : World), addC S s.data.toList t = C → A = -1 → FBox w wz t u → (Value.agg #[.int .i64 C, .int .i64 A] = .agg #[.int .i64 (addC S s.data.toList t), .int .i64 (addA s.data.toList)] ∧ Below w.heap.size w ((wz.setCell ⟨w.heap.size + 1, 0, none⟩ (.int .i64 C)).setCell ⟨w.heap.size + 1, 1, none⟩ (.int .i64 A)))) := by
      rintro C A wz rfl rfl hz
      exact ⟨by rw [HA2.out], hz.fin _ _⟩
    clear HW2 HT HB1 c0 c1 r0 r1 z0 z1 hlt
    dsimp only
    by_cases hti : isTick t = true
    · rw [hti]
      rw [if_neg (by have := (isTick_iff t).1 hti; omega)] at hC
      clear hti
      go_wp2_with fail
      refine Calls.mono HF.out ?_
      rintro e w3 ⟨rfl, ⟨hk, rfl⟩ | ⟨i, hi, hik, rfl⟩⟩
      · rw [oldB_none hk, if_neg (by decide)] at hC
        obtain ⟨a, c, hv, _, _⟩ := hM2.open
        subst hv
        obtain ⟨n, hnn⟩ : ∃ n, S.length = n := ⟨_, rfl⟩
        rw [hnn] at m0 hC
        clear HF hM2
        dsimp only
        by_cases h60 : 60 ≤ n
        · have d2 : decide ((60 : Int) ≤ (n : Int)) = true := by simp; omega
          rw [if_pos ⟨hk, h60⟩] at hC
          clear hk hnn
          have HC2 := (show Hid _ from hC)
          clear hC
          go_wp2_with fail
          go_quiet (fail)
          go_wp2_with fail
          refine Calls.mono (bare_any 7 _) ?_
          rintro e w4 ⟨rfl, hb4⟩
          have hb4 := (hb2.more (below_draws (Below.refl _ _) _)).more hb4
          have q0 := hb4.r0
          have q1 := hb4.r1
          have y0 := hb4.z0
          have y1 := hb4.z1
          have HB4 := (show Hid _ from hb4)
          clear hb4
          dsimp only
          go_wp2
          refine bodyPost_ret (v := .agg #[.int .i64 7, .int .i64 (-1)]) (by simp [results, Tryd.results52, go_sem, q0, q1]) rfl ?_
          obtain ⟨e1, e2⟩ := FIN.out 7 (-1) _ HC2.out rfl HB4.out
          exact ⟨by rw [e1], e2⟩
        · have d2 : decide ((60 : Int) ≤ (n : Int)) = false := by simp; omega
          rw [if_neg (fun h => h60 h.2)] at hC
          clear hk hnn
          have HC2 := (show Hid _ from hC)
          clear hC
          go_wp2_with fail
          go_quiet (fail)
          go_wp2_with fail
          refine Calls.mono (fine_any _) ?_
          rintro e w4 ⟨rfl, hb4⟩
          have hb4 := (hb2.more (below_draws (Below.refl _ _) _)).more hb4
          have q0 := hb4.r0
          have q1 := hb4.r1
          have y0 := hb4.z0
          have y1 := hb4.z1
          have HB4 := (show Hid _ from hb4)
          clear hb4
          dsimp only
          go_wp2
          refine bodyPost_ret (v := .agg #[.int .i64 0, .int .i64 (-1)]) (by simp [results, Tryd.results52, go_sem, q0, q1]) rfl ?_
          obtain ⟨e1, e2⟩ := FIN.out 0 (-1) _ HC2.out rfl HB4.out
          exact ⟨by rw [e1], e2⟩
      · obtain ⟨a, c, hv, _, hat⟩ := hM2.open
        subst hv
        obtain ⟨g, rfl, _, _, l0⟩ := hat i hi
        rw [oldB_some HS.out (List.getElem_mem hi) hik t, known_iff.2 ⟨_, List.getElem_mem hi, hik⟩] at hC
        obtain ⟨la, hla⟩ : ∃ la, la = (S[i]).last := ⟨_, rfl⟩
        rw [← hla] at hC l0
        obtain ⟨n, hnn⟩ : ∃ n, S.length = n := ⟨_, rfl⟩
        rw [hnn] at m0
        have hi0 : (0 : Int) ≤ (i : Int) := by omega
        have hi1 : (i : Int) < (n : Int) := by omega
        have hlz : decide ((i : Int) < 0) = false := decide_eq_false (by omega)
        clear HF hM2 hat hik hla
        dsimp only
        by_cases hol : t ≤ la
        · have d2 : decide (t ≤ la) = true := decide_eq_true hol
          rw [if_pos d2] at hC
          clear hnn
          have HC2 := (show Hid _ from hC)
          clear hC
          go_wp2_with fail
          go_quiet (fail)
          go_wp2_with fail
          refine Calls.mono (bare_any 8 _) ?_
          rintro e w4 ⟨rfl, hb4⟩
          have hb4 := (hb2.more (below_draws (Below.refl _ _) _)).more hb4
          have q0 := hb4.r0
          have q1 := hb4.r1
          have y0 := hb4.z0
          have y1 := hb4.z1
          have HB4 := (show Hid _ from hb4)
          clear hb4
          dsimp only
          go_wp2
          refine bodyPost_ret (v := .agg #[.int .i64 8, .int .i64 (-1)]) (by simp [results, Tryd.results52, go_sem, q0, q1]) rfl ?_
          obtain ⟨e1, e2⟩ := FIN.out 8 (-1) _ HC2.out rfl HB4.out
          exact ⟨by rw [e1], e2⟩
        · have d2 : decide (t ≤ la) = false := decide_eq_false hol
          rw [if_neg (by rw [d2]; decide), if_neg (fun h => (by cases h.1))] at hC
          clear hnn
          have HC2 := (show Hid _ from hC)
          clear hC
          go_wp2_with fail
          go_quiet (fail)
          go_wp2_with fail
          refine Calls.mono (fine_any _) ?_
          rintro e w4 ⟨rfl, hb4⟩
          have hb4 := (hb2.more (below_draws (Below.refl _ _) _)).more hb4
          have q0 := hb4.r0
          have q1 := hb4.r1
          have y0 := hb4.z0
          have y1 := hb4.z1
          have HB4 := (show Hid _ from hb4)
          clear hb4
          dsimp only
          go_wp2
          refine bodyPost_ret (v := .agg #[.int .i64 0, .int .i64 (-1)]) (by simp [results, Tryd.results52, go_sem, q0, q1]) rfl ?_
          obtain ⟨e1, e2⟩ := FIN.out 0 (-1) _ HC2.out rfl HB4.out
          exact ⟨by rw [e1], e2⟩
    · have hti' : isTick t = false := by simpa using hti
      rw [hti']
      rw [if_pos (by have := mt (isTick_iff t).2 hti; omega)] at hC
      have HC2 := (show Hid _ from hC)
      have HBA := (show Hid _ from bare_any 2 w2)
      clear HF hC hti hti'
      go_wp2_with fail
      refine Calls.mono HBA.out ?_
      rintro e w3 ⟨rfl, hb3⟩
      have hb3 := hb2.more hb3
      have q0 := hb3.r0
      have q1 := hb3.r1
      have y0 := hb3.z0
      have y1 := hb3.z1
      have HB3 := (show Hid _ from hb3)
      dsimp only
      go_wp2
      refine bodyPost_ret (v := .agg #[.int .i64 2, .int .i64 (-1)]) (by simp [results, Tryd.results52, go_sem, q0, q1]) rfl ?_
      obtain ⟨e1, e2⟩ := FIN.out 2 (-1) _ HC2.out rfl HB3.out
      exact ⟨by rw [e1], e2⟩
end Go.Proofs.YtfanagohfimnkaaDoor
/- head's Series by its contract. -/
namespace Go.Proofs.YtfanagohfimnkaaDoor
open Go.RowKit Go.Maps HeadMath LabMath PtMath

/-- What has been collected: the texts that have come, of series that have points, none twice. -/
structure Coll (S : List Sr) (left : Lit → Bool) (ss : List (List UInt8)) : Prop where
  nodup : ss.Nodup
  mem : ∀ k, k ∈ ss ↔ k ∈ seriesS S ∧ left (.string k) = false
theorem Coll.start (S : List Sr) (left : Lit → Bool) (h : ∀ l, l ∈ S → left (.string l.key) = true) : Coll S left [] := by
  refine ⟨List.nodup_nil, fun k => ⟨fun h1 => absurd h1 List.not_mem_nil, fun h1 => ?_⟩⟩
  obtain ⟨l, hl, rfl, _⟩ := mem_seriesS.1 h1.1
  have h2 := h1.2
  rw [h l hl] at h2
  cases h2
theorem Coll.skip {S : List Sr} {left : Lit → Bool} {ss : List (List UInt8)} (h : Coll S left ss) {x : List UInt8} (hx : x ∉ seriesS S) : Coll S (fun z => left z && !z.sameKey (.string x)) ss := by
  refine ⟨h.nodup, fun k => ?_⟩
  rw [h.mem, sameKey_str]
  by_cases e : k = x
  · subst e
    exact ⟨fun h => absurd h.1 hx, fun h => absurd h.1 hx⟩
  · simp [e]
theorem Coll.put {S : List Sr} {left : Lit → Bool} {ss : List (List UInt8)} (h : Coll S left ss) {x : List UInt8} (hx : x ∈ seriesS S) (hl : left (.string x) = true) : Coll S (fun z => left z && !z.sameKey (.string x)) (ss ++ [x]) := by
  have hn : x ∉ ss := fun e => by
    have := ((h.mem x).1 e).2
    rw [hl] at this
    cases this
  refine ⟨List.nodup_append.2 ⟨h.nodup, List.pairwise_singleton .., fun a ha b hb => ?_⟩, fun k => ?_⟩
  · simp at hb
    subst hb
    intro e
    subst e
    exact hn ha
  · rw [List.mem_append, h.mem, sameKey_str]
    by_cases e : k = x
    · subst e
      simp [hx]
    · simp [e]
theorem Coll.sorted {S : List Sr} {left : Lit → Bool} {ss : List (List UInt8)} (h : Coll S left ss) (hS : S.Pairwise fun a b => a.key < b.key) (hl : ∀ kl, left kl = false) : ss.mergeSort leB = seriesS S := by
  have hp : ss.Perm (seriesS S) := (List.perm_ext_iff_of_nodup h.nodup (nodup_seriesS hS)).2 fun k => by rw [h.mem, hl]; simp
  have tr : ∀ a b c : List UInt8, leB a b = true → leB b c = true → leB a c = true := fun a b c h1 h2 => by simp only [leB, decide_eq_true_eq] at *; exact List.le_trans h1 h2
  have tot : ∀ a b : List UInt8, (leB a b || leB b a) = true := fun a b => by simp only [leB, Bool.or_eq_true, decide_eq_true_eq]; exact List.le_total a b
  refine List.Perm.eq_of_pairwise (le := fun a b => leB a b = true) (fun a b _ _ h1 h2 => ?_) (List.pairwise_mergeSort tr tot ss) ((sorted_seriesS hS).imp fun {a b} hab => by simp only [leB, decide_eq_true_eq]; exact List.le_of_lt hab) ((List.mergeSort_perm ss leB).trans hp)
  simp only [leB, decide_eq_true_eq] at h1 h2
  exact List.le_antisymm h1 h2

theorem Tryd.infoStr2 : (Tryd.prog.info? 9).map (fun i => (i.zero, i.size, i.bytes)) = some (some (.string ⟨#[]⟩), 1, 16) := by kernel_rfl

set_option maxRecDepth 1000000 in
set_option maxHeartbeats 1000000 in
theorem hSeries_any (w : World) (hb mb : Nat) (S : List Sr) (bl : List UInt8 → Nat) (sv : List UInt8 → Value) (h : HeadAt w hb mb S bl sv) (hS : S.Pairwise fun a b => a.key < b.key) (hn : S.length ≤ 1000) :
    Calls Tryd.prog 25 #[.pointer (some ⟨hb, 0, none⟩)] w fun e w' => ∃ v, e = .returned v ∧ Below w.heap.size w w' ∧ w'.ownsRow w.heap.size 9 1 v (seriesS S).length ((seriesS S).map encStr) := by
  have HH : Hid (HeadAt w hb mb S bl sv) := h
  have c0 := h.cell
  obtain ⟨D, h1, h2, h3, h4⟩ := h.map
  have HD : Hid (w.ownsMap Tryd.prog 9 heldE mb S.length D ∧ Maps.size D = S.length ∧ (∀ k, Maps.has D (.string k) = known S k) ∧ ∀ l, l ∈ S → ∀ z, D.atKey (.string l.key) z = .held (.pointer (some ⟨bl l.key, 0, none⟩))) := ⟨h1, h2, h3, h4⟩
  have HS := (show Hid _ from hS)
  have hml : mb < w.heap.size := h1.lt
  obtain ⟨iS, hI, hI0, hI1, hI2⟩ := info_parts Tryd.infoStr2
  have HII := (show Hid _ from hI)
  clear h h1 h2 h3 h4 hS hI
  go_enter Tryd.func25, Tryd.ntmps25
  go_wp2_with (at_range; refine wpList_range_own _ rfl _ 98 rfl 9 101 lawS Tryd.underlying98 _ mb S.length D rfl HD.out.1 ?_; intro w0 hrg0 hg0 hs0)
  go_frame
  have H0 : Hid (w0.ranges Tryd.prog 9 heldE mb w.heap.size S.length D (Maps.has D) (Maps.size D) ∧ Below w.heap.size w w0) := ⟨hrg0, ⟨hg0.os, hg0.tape, hg0.output, hg0.size, fun b hb' => hg0.block b hb' (by simp)⟩⟩
  clear hrg0 hg0 hs0
  go_loopw [3] (fun v wr => ∃ left cnt ss, Coll S left ss ∧ (ss = [] → v = .slice none 0 0) ∧ ss.length + cnt ≤ S.length ∧ wr.ownsRow w.heap.size 9 1 v ss.length (ss.map encStr) ∧ wr.ranges Tryd.prog 9 heldE mb w.heap.size S.length D left cnt ∧ Below w.heap.size w wr) (fun _ wr => wr.rangeLeft mb w.heap.size)
  case atStart => exact ⟨Maps.has D, Maps.size D, [], Coll.start _ _ fun l hl => by rw [HD.out.2.2.1]; exact known_iff.2 ⟨l, hl, rfl⟩, fun _ => rfl, by rw [HD.out.2.1]; simp, ⟨rfl, .inl ⟨rfl, rfl⟩⟩, H0.out.1, H0.out.2⟩
  case round =>
    obtain ⟨left, cnt, ss, hco, hz, hcn, hown, hrg, hbr⟩ := hrel
    have HRG := (show Hid _ from hrg)
    have HBR := (show Hid _ from hbr)
    have HCO := (show Hid _ from hco)
    have HZ := (show Hid _ from hz)
    have HOW := (show Hid _ from hown)
    clear hrg hbr hco hz hown
    go_wp2_with (at_next; refine wpList_next_ranges _ rfl _ rfl 9 lawS heldE encStr (fun v : Value => v) (fun key kl hk => by obtain ⟨x, hx, _⟩ := Maps.keyOf_str Tryd.underlying9 hk; exact ⟨x, hx⟩) (fun v y hv => ⟨v, rfl⟩) mb w.heap.size S.length _ _ _ rfl HRG.out ?_ ?_)
    · intro _ hl0
      have HEQ : Hid (ss.mergeSort leB = seriesS S) := HCO.out.sorted HS.out hl0
      have HST := (show Hid _ from sortStr_any wr w.heap.size _ ss HOW.out (by omega) HZ.out)
      clear hl0
      go_wp2_with fail
      refine Calls.mono HST.out ?_
      rintro e w3 ⟨rfl, hown3, hgr3⟩
      have hlen : ss.length = (seriesS S).length := by rw [← HEQ.out]; simp
      rw [HEQ.out, hlen] at hown3
      have HB3 : Hid (Below w.heap.size w w3) := HBR.out.trans ⟨hgr3.os, hgr3.tape, hgr3.output, hgr3.size, fun b hb' => hgr3.block b (Nat.lt_of_lt_of_le hb' HBR.out.size) (fun e => row_ne_low HOW.out hb' e)⟩
      have HO3 := (show Hid _ from hown3)
      clear hown3 hgr3 hlen
      go_wp2
      go_ret
      exact ⟨_, by rfl, HB3.out, HO3.out⟩
    · intro x c kl yd yp w2 cnt2 hkey hlk hv hat hrg2 hlt hg2 hs2 hen
      obtain ⟨x', ex, rfl, _⟩ := Maps.keyOf_str Tryd.underlying9 hkey
      obtain rfl : x = x' := encStr_inj ex
      have hkn : known S x = true := by rw [← HD.out.2.2.1]; exact has_true_of_atKey hat
      obtain ⟨l, hl, hlx⟩ := known_iff.1 hkn
      have hcv : c = .pointer (some ⟨bl l.key, 0, none⟩) := by
        have h5 := HD.out.2.2.2 l hl .nil
        rw [hlx] at h5
        rw [hat .nil] at h5
        simp only [heldE, Option.some.injEq, Prod.mk.injEq] at hv
        rw [hlx]
        have := hv.1.trans h5
        injection this
      subst hcv
      have hln := HH.out.line l hl
      obtain ⟨a, cc, hsv, _⟩ := own_pairs (HH.out.row l hl)
      rw [hsv] at hln
      have HB2 : Hid (Below w.heap.size w w2) := HBR.out.trans ⟨hg2.os, hg2.tape, hg2.output, hg2.size, fun b hb' => hg2.block b (Nat.lt_of_lt_of_le hb' HBR.out.size) (fun e => by injection e with e; omega)⟩
      have q0 : w2.cell? ⟨bl l.key, 0, none⟩ = some (.slice a l.pts.length cc) := (HB2.out.cell (p := ⟨bl l.key, 0, none⟩) (blk_lt hln)).trans (by simp [World.cell?, hln])
      have HO2 : Hid (w2.ownsRow w.heap.size 9 1 u3 ss.length (ss.map encStr)) := own_same HOW.out fun g hg => hg2.block g (own_blk HOW.out hg).2.1 (fun e => row_ne_iter HOW.out HRG.out (by rw [hg]; exact e.symm))
      have HRG2 := (show Hid _ from And.intro hrg2 hlt)
      have hw2 : w.heap.size ≤ w2.heap.size := HB2.out.size
      have hcn2 : cnt2 < cnt := hlt
      have HLK := (show Hid _ from hlk)
      have HPT : Hid (x ∈ seriesS S ↔ 0 < l.pts.length) := by
        constructor
        · intro hx
          obtain ⟨m, hm, hmk, hmp⟩ := mem_seriesS.1 hx
          have := uniq HS.out hm hl (hmk.trans hlx.symm)
          subst this
          exact List.length_pos_iff.2 hmp
        · exact fun hx => mem_seriesS.2 ⟨l, hl, hlx, List.length_pos_iff.1 hx⟩
      clear hkey ex hv hat hrg2 hlt hg2 hs2 hkn hlx hln hsv hlk
      by_cases hp : 0 < l.pts.length
      · have hp' : decide ((0 : Int) < (l.pts.length : Int)) = true := decide_eq_true (by omega)
        have HOA : Hid ((w2.alloc (.cells #[encStr x] 9)).ownsRow w.heap.size 9 1 u3 ss.length (ss.map encStr)) := HO2.out.alloc _
        have HNW : Hid (∀ j u, [encStr x][j]? = some u → (w2.alloc (.cells #[encStr x] 9)).cell? ((⟨w2.heap.size, 0, none⟩ : Addr).add j) = some u) := World.news_of_block (cs := #[encStr x]) (heap_alloc_new _ _)
        have H1C : Hid (∀ u ∈ [encStr x], u.oneCell' = true) := fun u hu => by simp at hu; subst hu; rfl
        go_wp2_with (at_builtin; refine wpList_append_lies _ rfl _ _ 61 rfl w.heap.size 9 iS (.string ⟨#[]⟩) 1 16 Tryd.underlying61 HII.out hI0 hI1 hI2 rfl (by decide) _ _ _ rfl HOA.out ⟨w2.heap.size, 0, none⟩ 1 1 [encStr x] rfl rfl HNW.out H1C.out (by omega) (by unfold maxLen; omega) (by omega) (by simp; omega) _ rfl ?_)
        intro g7 cap7 w7 hown7 hgrow7 _ _
        have HR7 : Hid (w7.ranges Tryd.prog 9 heldE mb w.heap.size S.length D (fun z => left z && !z.sameKey (.string x)) cnt2) := (HRG2.out.1.alloc _).kept hgrow7 (row_ne_low HO2.out hml) (row_ne_iter HO2.out HRG2.out.1)
        have HB7 : Hid (Below w.heap.size w w7) := (HB2.out.alloc hw2 _).trans ⟨hgrow7.os, hgrow7.tape, hgrow7.output, hgrow7.size, fun b hb' => hgrow7.block b (by simp; omega) (row_ne_low HO2.out hb')⟩
        have HO7 : Hid (w7.ownsRow w.heap.size 9 1 (.slice (some ⟨g7, 0, none⟩) (ss.length + 1) cap7) (ss ++ [x]).length ((ss ++ [x]).map encStr)) := by
          have e1 : (ss ++ [x]).length = ss.length + 1 := by simp
          have e2 : (ss ++ [x]).map encStr = ss.map encStr ++ [encStr x] := by simp
          show World.ownsRow _ _ _ _ _ _ _
          rw [e1, e2]
          exact hown7
        have HC7 := (show Hid _ from HCO.out.put (HPT.out.2 hp) HLK.out)
        clear hown7 hgrow7
        go_wp2
        go_roundw
        case rel => exact ⟨_, cnt2, ss ++ [x], HC7.out, fun e => absurd e (by simp), by simp; omega, HO7.out, HR7.out, HB7.out⟩
        case measure => rw [World.ranges.left_eq HR7.out, World.ranges.left_eq HRG.out]; exact HRG2.out.2
      · have hp' : decide ((0 : Int) < (l.pts.length : Int)) = false := decide_eq_false (by omega)
        have HSK : Hid (x ∉ seriesS S) := fun e => hp (HPT.out.1 e)
        go_wp2
        go_roundw
        case rel => exact ⟨_, cnt2, ss, HCO.out.skip HSK.out, HZ.out, by omega, HO2.out, HRG2.out.1, HB2.out⟩
        case measure => rw [World.ranges.left_eq HRG2.out.1, World.ranges.left_eq HRG.out]; exact HRG2.out.2
end Go.Proofs.YtfanagohfimnkaaDoor
/- What the document's head tells: how many points, the series, a series' points; two lists of texts. -/
namespace Go.Proofs.YtfanagohfimnkaaDoor
open Go.RowKit Go.Maps HeadMath LabMath PtMath

theorem countS_take {S : List Sr} {k : Nat} (h : k < S.length) : countS (S.take (k + 1)) = countS (S.take k) + (S[k]).pts.length := by
  rw [List.take_succ_eq_append_getElem h]
  simp only [countS, List.map_append, List.sum_append, List.map_cons, List.map_nil, List.sum_cons, List.sum_nil, Nat.add_zero]
theorem countS_take_le (S : List Sr) (k : Nat) : countS (S.take k) ≤ countS S := by
  have e : S = S.take k ++ S.drop k := (List.take_append_drop k S).symm
  have : countS S = countS (S.take k) + countS (S.drop k) := by
    conv => lhs; rw [e]
    simp only [countS, List.map_append, List.sum_append]
  omega
theorem seriesS_take {S : List Sr} {k : Nat} (h : k < S.length) : seriesS (S.take (k + 1)) = seriesS (S.take k) ++ if (S[k]).pts = [] then [] else [(S[k]).key] := by
  rw [List.take_succ_eq_append_getElem h]
  simp only [seriesS, List.filter_append, List.map_append, List.filter_cons, List.filter_nil]
  by_cases e : (S[k]).pts = []
  · simp [e]
  · simp [e]
theorem seriesS_len (S : List Sr) : (seriesS S).length ≤ S.length := by rw [seriesS, List.length_map]; exact List.length_filter_le ..

set_option maxRecDepth 1000000 in
theorem mCount_any (w : World) (mh : Nat) (v : Value) (S : List Sr) (sv : List UInt8 → Value) (h : MAt w mh v S sv) (hn : S.length ≤ 1000) (hc : countS S ≤ 100000) :
    Calls Tryd.prog 32 #[.pointer (some ⟨mh, 0, none⟩)] w fun e w' => w' = w ∧ e = .returned (.int .i64 (countS S : Int)) := by
  have c0 := h.cell
  have HPT : Hid (∀ i (hi : i < S.length), ∃ a c, sv (S[i]).key = .slice a (S[i]).pts.length c) := fun i hi => by
    obtain ⟨a, c, e, _⟩ := own_pairs (h.pts _ (List.getElem_mem hi))
    exact ⟨a, c, e⟩
  obtain ⟨a, c, rfl, hlc, hat⟩ := h.open
  have HAT := (show Hid _ from hat)
  obtain ⟨n, hnn⟩ : ∃ n, S.length = n := ⟨_, rfl⟩
  rw [hnn] at c0 hn
  have HN := (show Hid _ from hnn)
  clear h hat hnn hlc
  go_enter Tryd.func32, Tryd.ntmps32
  go_wp2_with fail
  go_loopw [3, 4] (fun z i wr => wr = w ∧ ∃ k : Nat, k ≤ n ∧ i = .int .i64 k ∧ z = .int .i64 (countS (S.take k) : Int)) (fun _ i _ => n - (intOf i).toNat)
  case atStart => exact ⟨rfl, 0, Nat.zero_le _, rfl, rfl⟩
  case round =>
    obtain ⟨rfl, k, hk, rfl, rfl⟩ := hrel
    by_cases hlt : k < n
    · have hk' : k < S.length := by rw [HN.out]; exact hlt
      obtain ⟨g, rfl, _, h1, _⟩ := HAT.out k hk'
      obtain ⟨ap, cp, hp⟩ := HPT.out k hk'
      rw [hp] at h1
      have hk0 : (0 : Int) ≤ (k : Int) := by omega
      have hk1 : (k : Int) < (n : Int) := by omega
      have hsu := countS_take hk'
      have hle := countS_take_le S (k + 1)
      obtain ⟨q, hq⟩ : ∃ q, q = (S[k]).pts.length := ⟨_, rfl⟩
      obtain ⟨cs, hcs⟩ : ∃ cs, cs = countS (S.take k) := ⟨_, rfl⟩
      rw [← hq] at h1 hsu
      rw [← hcs] at hsu ⊢
      have HSU := (show Hid _ from hsu)
      have hb1 : cs + q ≤ 100000 := by omega
      clear hp hsu hle hq hcs
      go_wp2
      go_roundw
      case rel => exact ⟨by first | rfl | trivial, k + 1, by omega, by go_num, by rw [HSU.out]; go_num⟩
      case measure => simp [intOf] <;> omega
    · have hge : (n : Int) ≤ (k : Int) := by omega
      obtain rfl : k = n := by omega
      have HE : Hid (S.take k = S) := by rw [← HN.out]; exact List.take_length
      rw [HE.out]
      go_wp2
      go_ret
      exact ⟨by first | rfl | trivial, by rfl⟩

set_option maxRecDepth 1000000 in
theorem mPoints_any (w : World) (mh : Nat) (v : Value) (S : List Sr) (sv : List UInt8 → Value) (h : MAt w mh v S sv) (hS : S.Pairwise fun a b => a.key < b.key) (hn : S.length ≤ 1000) (hc : ∀ l, l ∈ S → l.pts.length ≤ 1000) (s : ByteArray) (x y : Int) :
    Calls Tryd.prog 31 #[.pointer (some ⟨mh, 0, none⟩), .string s, .int .i64 x, .int .i64 y] w fun e w' => ∃ v, e = .returned v ∧ w'.ownsRow w.heap.size 55 2 v (betweenL x y (ptsOf S s.data.toList)).length (pairCells (betweenL x y (ptsOf S s.data.toList))) ∧ Below w.heap.size w w' := by
  have c0 := h.cell
  have HF := (show Hid _ from mfind_any w mh v S sv h hn s)
  have HPT : Hid (∀ i (hi : i < S.length), ∃ a c, sv (S[i]).key = .slice a (S[i]).pts.length c ∧ PtsL w a (S[i]).pts) := fun i hi => by
    obtain ⟨a, c, e, _, hp, _⟩ := own_pairs (h.pts _ (List.getElem_mem hi))
    exact ⟨a, c, e, hp⟩
  obtain ⟨a, c, rfl, hlc, hat⟩ := h.open
  have HAT := (show Hid _ from hat)
  have HS := (show Hid _ from And.intro hS hc)
  obtain ⟨n, hnn⟩ : ∃ n, S.length = n := ⟨_, rfl⟩
  rw [hnn] at c0 hn
  have HN := (show Hid _ from hnn)
  clear h hat hnn hlc hS hc
  go_enter Tryd.func31, Tryd.ntmps31
  go_wp2_with fail
  refine Calls.mono HF.out ?_
  rintro e w1 ⟨rfl, ⟨hk, rfl⟩ | ⟨i, hi, hik, rfl⟩⟩
  · have HP : Hid (ptsOf S s.data.toList = []) := ptsOf_none hk
    clear hk HF
    dsimp only
    go_wp2
    go_ret
    exact ⟨_, by rfl, by rw [HP.out]; exact ⟨rfl, .inl ⟨by simp, rfl⟩⟩, Below.refl _ _⟩
  · have HP : Hid (ptsOf S s.data.toList = (S[i]).pts) := ptsOf_some HS.out.1 (List.getElem_mem hi) hik
    obtain ⟨g, rfl, _, h1, _⟩ := HAT.out i hi
    obtain ⟨ap, cp, hp, hpl⟩ := HPT.out i hi
    rw [hp] at h1
    have HB := (show Hid _ from between_any w1 ap cp (S[i]).pts x y hpl (HS.out.2 _ (List.getElem_mem hi)))
    have hi0 : (0 : Int) ≤ (i : Int) := by omega
    have hi1 : (i : Int) < (n : Int) := by have := HN.out; omega
    clear hik hp hpl HF
    dsimp only
    go_wp2_with fail
    refine Calls.mono HB.out ?_
    rintro e w2 ⟨v, rfl, hown, hbl⟩
    have HO := (show Hid _ from And.intro hown hbl)
    clear hown hbl
    dsimp only
    go_wp2
    go_ret
    exact ⟨v, by rfl, by rw [HP.out]; exact HO.out.1, HO.out.2⟩

set_option maxRecDepth 1000000 in
theorem mSeries_any (w : World) (mh : Nat) (v : Value) (S : List Sr) (sv : List UInt8 → Value) (h : MAt w mh v S sv) (hn : S.length ≤ 1000) :
    Calls Tryd.prog 34 #[.pointer (some ⟨mh, 0, none⟩)] w fun e w' => ∃ v, e = .returned v ∧ Below w.heap.size w w' ∧ w'.ownsRow w.heap.size 9 1 v (seriesS S).length ((seriesS S).map encStr) := by
  have HH := (show Hid _ from h)
  obtain ⟨n, hnn⟩ : ∃ n, S.length = n := ⟨_, rfl⟩
  rw [hnn] at hn
  have HN := (show Hid _ from hnn)
  obtain ⟨iS, hI, hI0, hI1, hI2⟩ := info_parts Tryd.infoStr2
  have HII := (show Hid _ from hI)
  clear h hnn hI
  go_enter Tryd.func34, Tryd.ntmps34
  go_wp2_with fail
  go_loopw [3, 4] (fun r i wr => Below w.heap.size w wr ∧ ∃ k : Nat, k ≤ n ∧ i = .int .i64 k ∧ wr.ownsRow w.heap.size 9 1 r (seriesS (S.take k)).length ((seriesS (S.take k)).map encStr)) (fun _ i _ => n - (intOf i).toNat)
  case atStart => exact ⟨Below.refl _ _, 0, Nat.zero_le _, rfl, ⟨rfl, .inl ⟨rfl, rfl⟩⟩⟩
  case round =>
    obtain ⟨hbr, k, hk, rfl, hown⟩ := hrel
    have hMA := HH.out.below hbr
    have c0 := hMA.cell
    have HBR := (show Hid _ from hbr)
    have hwr : w.heap.size ≤ wr.heap.size := hbr.size
    have HOW : Hid (wr.ownsRow w.heap.size 9 1 u3 (seriesS (S.take k)).length ((seriesS (S.take k)).map encStr)) := hown
    by_cases hlt : k < n
    · have hk' : k < S.length := by rw [HN.out]; exact hlt
      obtain ⟨a, c, rfl, _, hat⟩ := hMA.open
      rw [HN.out] at c0
      obtain ⟨g, rfl, h0, h1, _⟩ := hat k hk'
      obtain ⟨ap, cp, hp, _⟩ := own_pairs (hMA.pts _ (List.getElem_mem hk'))
      rw [hp] at h1
      have hk0 : (0 : Int) ≤ (k : Int) := by omega
      have hk1 : (k : Int) < (n : Int) := by omega
      have hsu := seriesS_take hk'
      obtain ⟨ss, hss⟩ : ∃ ss, ss = seriesS (S.take k) := ⟨_, rfl⟩
      rw [← hss] at hsu
      rw [← hss] at HOW
      have hsl : ss.length ≤ 1000 := by
        rw [hss]
        refine Nat.le_trans (seriesS_len _) ?_
        rw [List.length_take]
        omega
      obtain ⟨q, hq⟩ : ∃ q, q = (S[k]).pts.length := ⟨_, rfl⟩
      obtain ⟨x, hx⟩ : ∃ x, x = (S[k]).key := ⟨_, rfl⟩
      rw [← hq] at h1
      rw [← hx] at h0
      have HX : Hid (q = (S[k]).pts.length ∧ x = (S[k]).key) := ⟨hq, hx⟩
      have HSU := (show Hid _ from hsu)
      clear hp hsu hq hx hss hown hbr hMA hat
      by_cases hp0 : 0 < q
      · have hp' : decide ((0 : Int) < (q : Int)) = true := decide_eq_true (by omega)
        have HSN : Hid (seriesS (S.take (k + 1)) = ss ++ [x]) := by
          show _ = _
          rw [HSU.out, if_neg, ← HX.out.2]
          intro e
          have := HX.out.1
          rw [e] at this
          simp at this
          omega
        have HOA : Hid ((wr.alloc (.cells #[encStr x] 9)).ownsRow w.heap.size 9 1 u3 ss.length (ss.map encStr)) := HOW.out.alloc _
        have HNW : Hid (∀ j u, [encStr x][j]? = some u → (wr.alloc (.cells #[encStr x] 9)).cell? ((⟨wr.heap.size, 0, none⟩ : Addr).add j) = some u) := World.news_of_block (cs := #[encStr x]) (heap_alloc_new _ _)
        have H1C : Hid (∀ u ∈ [encStr x], u.oneCell' = true) := fun u hu => by simp at hu; subst hu; rfl
        go_wp2_with (at_builtin; refine wpList_append_lies _ rfl _ _ 61 rfl w.heap.size 9 iS (.string ⟨#[]⟩) 1 16 Tryd.underlying61 HII.out hI0 hI1 hI2 rfl (by decide) _ _ _ rfl HOA.out ⟨wr.heap.size, 0, none⟩ 1 1 [encStr x] rfl rfl HNW.out H1C.out (by omega) (by unfold maxLen; omega) (by omega) (by simp; omega) _ rfl ?_)
        intro g7 cap7 w7 hown7 hgrow7 _ _
        have HB7 : Hid (Below w.heap.size w w7) := (HBR.out.alloc hwr _).trans ⟨hgrow7.os, hgrow7.tape, hgrow7.output, hgrow7.size, fun b hb' => hgrow7.block b (by simp; omega) (row_ne_low HOW.out hb')⟩
        have HO7 : Hid (w7.ownsRow w.heap.size 9 1 (.slice (some ⟨g7, 0, none⟩) (ss.length + 1) cap7) (seriesS (S.take (k + 1))).length ((seriesS (S.take (k + 1))).map encStr)) := by
          have e1 : (ss ++ [x]).length = ss.length + 1 := by simp
          have e2 : (ss ++ [x]).map encStr = ss.map encStr ++ [encStr x] := by simp
          show World.ownsRow _ _ _ _ _ _ _
          rw [HSN.out, e1, e2]
          exact hown7
        clear hown7 hgrow7
        go_wp2
        go_roundw
        case rel => exact ⟨HB7.out, k + 1, by omega, by go_num, HO7.out⟩
        case measure => simp [intOf] <;> omega
      · have hp' : decide ((0 : Int) < (q : Int)) = false := decide_eq_false (by omega)
        have HSN : Hid (seriesS (S.take (k + 1)) = ss) := by
          show _ = _
          rw [HSU.out, if_pos, List.append_nil]
          exact List.eq_nil_of_length_eq_zero (by have := HX.out.1; omega)
        go_wp2
        go_roundw
        case rel => exact ⟨HBR.out, k + 1, by omega, by go_num, by rw [HSN.out]; exact HOW.out⟩
        case measure => simp [intOf] <;> omega
    · obtain ⟨a, c, rfl, _, _⟩ := hMA.open
      rw [HN.out] at c0
      have hge : (n : Int) ≤ (k : Int) := by omega
      obtain rfl : k = n := by omega
      have HE : Hid (S.take k = S) := by rw [← HN.out]; exact List.take_length
      clear hMA hown hbr
      go_wp2
      go_ret
      exact ⟨_, by rfl, HBR.out, by have := HOW.out; rw [HE.out] at this; exact this⟩

set_option maxRecDepth 1000000 in
theorem same_texts (w : World) (b1 b2 : Nat) (v1 v2 : Value) (ss : List (List UInt8)) (h1 : w.ownsRow b1 9 1 v1 ss.length (ss.map encStr)) (h2 : w.ownsRow b2 9 1 v2 ss.length (ss.map encStr)) (hn : ss.length ≤ 1000) :
    Calls Tryd.prog 33 #[v1, v2] w fun e w' => e = .returned (.bool true) ∧ ∃ q, w' = w.drewN q := by
  have key : ∀ b v, w.ownsRow b 9 1 v ss.length (ss.map encStr) → ∃ a c, v = .slice a ss.length c ∧ ∀ i (hi : i < ss.length), ∃ g, a = some ⟨g, 0, none⟩ ∧ w.cell? ⟨g, i, none⟩ = some (encStr (ss[i])) := by
    intro b v h
    rcases h.2 with ⟨hv, h0⟩ | ⟨g, cap, cur, hv, _, hh, _, _, _, ht⟩
    · exact ⟨none, 0, by rw [h0]; exact hv, fun i hi => absurd hi (by omega)⟩
    · refine ⟨some ⟨g, 0, none⟩, cap, hv, fun i hi => ⟨g, rfl, ?_⟩⟩
      have : cur[i]? = (ss.map encStr)[i]? := by rw [← ht, List.getElem?_take_of_lt (by omega)]; simp
      rw [List.getElem?_map, List.getElem?_eq_getElem hi] at this
      simp [World.cell?, hh, this]
  obtain ⟨a1, c1, rfl, hc1⟩ := key _ _ h1
  obtain ⟨a2, c2, rfl, hc2⟩ := key _ _ h2
  have HC1 := (show Hid _ from hc1)
  have HC2 := (show Hid _ from hc2)
  obtain ⟨n, hnn⟩ : ∃ n, ss.length = n := ⟨_, rfl⟩
  have HN := (show Hid _ from hnn)
  rw [hnn] at hn ⊢
  clear h1 h2 hc1 hc2 key hnn
  go_enter Tryd.func33, Tryd.ntmps33
  go_wp2_with fail
  go_loopw [4, 5] (fun s4 i wr => s4 = .bool false ∧ ∃ k q : Nat, k ≤ n ∧ i = .int .i64 k ∧ wr = w.drewN q) (fun _ i _ => n - (intOf i).toNat)
  case atStart => exact ⟨rfl, 0, 0, Nat.zero_le _, rfl, rfl⟩
  case round =>
    obtain ⟨rfl, k, q, hk, rfl, rfl⟩ := hrel
    by_cases hlt : k < n
    · have hk' : k < ss.length := by rw [HN.out]; exact hlt
      obtain ⟨g1, rfl, e1⟩ := HC1.out k hk'
      obtain ⟨g2, rfl, e2⟩ := HC2.out k hk'
      have hk0 : (0 : Int) ≤ (k : Int) := by omega
      have hk1 : (k : Int) < (n : Int) := by omega
      obtain ⟨kb, hkb⟩ : ∃ kb : ByteArray, kb = ⟨(ss[k]).toArray⟩ := ⟨_, rfl⟩
      rw [enc_eq, ← hkb] at e1 e2
      clear hkb
      go_wp2_with fail
      go_quiet (fail)
      go_wp2
      go_roundw
      case rel => exact ⟨rfl, k + 1, _, by omega, by go_num, by first | rfl | (rw [World.drewN_drewN])⟩
      case measure => simp [intOf] <;> omega
    · have hge : (n : Int) ≤ (k : Int) := by omega
      go_wp2
      go_ret
      exact ⟨rfl, q, rfl⟩
end Go.Proofs.YtfanagohfimnkaaDoor
