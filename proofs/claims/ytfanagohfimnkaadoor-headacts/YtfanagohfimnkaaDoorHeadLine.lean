/- head's cut of a line by its contract. -/
import Derived.Test.YtfanagohfimnkaaDoorHeadAtGroup
import Derived.Test.YtfanagohfimnkaaDoorCMergeGroup
import Derived.Deep.DeepCutAuto
import Derived.Deep.CutBlock
namespace Go.Proofs.YtfanagohfimnkaaDoor
open Go.RowKit Go.Maps HeadMath LabMath PtMath

/-- What cut leaves: two new rows, the line's and the answer's. -/
def LCOut (w w' : World) (lb : Nat) (last t : Int) (pts : List (Int × Nat)) (e : Ending) : Prop :=
  ∃ v1 v2, e = .returned v1 ∧ Kept [lb] w w' ∧ w'.heap[lb]? = some (.cells #[v2, .int .i64 last] 103 (0, 0)) ∧ w'.ownsRow w.heap.size 55 2 v1 (goneP t pts).length (pairCells (goneP t pts)) ∧ w'.ownsRow w.heap.size 55 2 v2 (leftP t pts).length (pairCells (leftP t pts)) ∧ (v1.ownBlock = none ∨ v1.ownBlock ≠ v2.ownBlock) ∧ (leftP t pts = [] → v2 = .slice none 0 0)
def tailL : Nat → Code → Code
  | 0, c => c
  | n + 1, .seq _ b => tailL n b
  | _ + 1, c => c
noncomputable def lineT : Code := tailL 3 (Tryd.f49.body.getD .skip)
theorem ptsL_take {w : World} {a : Option Addr} {l : List (Int × Nat)} (h : PtsL w a l) (k : Nat) : PtsL w a (l.take k) := by
  rcases h with h | ⟨b, o, h, hc⟩
  · exact .inl (by rw [h]; simp)
  · refine .inr ⟨b, o, h, fun j hj => ?_⟩
    have hj' : j < l.length := by simp at hj; omega
    have := hc j hj'
    rw [List.getElem_take]
    exact this
theorem ptsL_drop {w : World} {b o : Nat} {l : List (Int × Nat)} (h : PtsL w (some ⟨b, o, none⟩) l) (k : Nat) : PtsL w (some ⟨b, o + k * 2, none⟩) (l.drop k) := by
  rcases h with h | ⟨b', o', h, hc⟩
  · exact .inl (by rw [h]; simp)
  · injection h with h
    injection h with h1 h2
    subst h1 h2
    refine .inr ⟨b, o + k * 2, rfl, fun j hj => ?_⟩
    have hj' : k + j < l.length := by simp at hj; omega
    have := hc (k + j) hj'
    rw [List.getElem_drop]
    rw [show o + (k + j) * 2 = o + k * 2 + j * 2 by omega] at this
    exact this
theorem outAt_none (w : World) : OutAt w w (.slice none 0 0) [] := ⟨⟨rfl, .inl ⟨rfl, rfl⟩⟩, Below.refl _ _⟩
/-- A list of points is appended to nothing: a copy; nil, if there are none. -/
theorem wpList_app_nil {wr : World} {ops : Array Oper} {rest : List Oper} {o : Oper} {a : Act} {Q : Exit → Act → World → Prop} (hgd : o.guard = none) (s x : Operand)
    (ho : o.op = .call { callee := .builtin .append, args := #[s, x], argTypes := #[67, 67] })
    (hs : a.eval s = .slice none 0 0) (y : Option Addr) (n cy : Nat) (l : List (Int × Nat)) (hn : l.length = n) (hx : a.eval x = .slice y n cy) (hP : PtsL wr y l) (hlen : l.length ≤ 100000)
    (h : ∀ v' w1, OutAt wr w1 v' l → (l = [] → v' = .slice none 0 0) → wpList Tryd.prog ops Q rest (a.put o.dst v') w1) : wpList Tryd.prog ops Q (o :: rest) a wr := by
  by_cases h0 : l = []
  · subst h0
    have : n = 0 := hn.symm
    subst this
    obtain ⟨i0, hi, hz0, hz1, hz2⟩ := info_parts Tryd.infoPt
    refine wpList_append_zero hgd s x 67 ho 0 55 i0 2 Tryd.underlying67 hi (.slice none 0 0) 0 [] hs ⟨rfl, .inl ⟨rfl, rfl⟩⟩ y cy hx ?_
    exact h _ wr (outAt_none _) (fun _ => rfl)
  · refine wpList_append_pts hgd s x ho _ [] hs (outAt_none _) y n cy l hn hx hP (by simpa using hlen) (fun v' w1 hv => ?_)
    exact h v' w1 (by simpa using hv) (fun e => absurd e h0)
theorem lcut_fin {w w1 w2 : World} {lb : Nat} {v v1 v2 : Value} {last t : Int} {pts : List (Int × Nat)} {k : Nat} (hln : w.heap[lb]? = some (.cells #[v, .int .i64 last] 103 (0, 0))) (h1 : OutAt w w1 v1 (pts.take k)) (h2 : OutAt w1 w2 v2 (pts.drop k)) (hnil : pts.drop k = [] → v2 = .slice none 0 0) (hg : goneP t pts = pts.take k) (hl : leftP t pts = pts.drop k) :
    LCOut w (w2.setCell ⟨lb, 0, none⟩ v2) lb last t pts (.returned v1) := by
  have hlb := blk_lt hln
  have hb12 : Below w.heap.size w w2 := h1.bel.trans (h2.bel.mono h1.bel.size)
  have o1 := h1.own
  have o2 := h2.own
  refine ⟨v1, v2, rfl, (Kept.of_below hb12).setCell (.inl (by simp)) _, (block_set ((hb12.block lb hlb).trans hln) 0 _).trans (by simp), ?_, ?_, ?_, by rw [hl]; exact hnil⟩
  · rw [hg]
    refine own_same (own_same o1 fun g hg' => h2.bel.block g (own_blk o1 hg').2.1) fun g hg' => Below.heap_setCell _ _ _ _ (fun e => ?_)
    have := (own_blk o1 hg').1
    simp at e
    omega
  · rw [hl]
    obtain ⟨q1, q2⟩ := o2
    have hw : w1.heap.size ≥ w.heap.size := h1.bel.size
    refine own_same ⟨q1, ?_⟩ fun g hg' => Below.heap_setCell _ _ _ _ (fun e => ?_)
    · rcases q2 with q2 | ⟨g, cap, cur, hv, hg', rest⟩
      · exact .inl q2
      · exact .inr ⟨g, cap, cur, hv, Nat.le_trans hw hg', rest⟩
    · have := (own_blk h2.own hg').1
      simp at e
      omega
  · cases e1 : v1.ownBlock with
    | none => exact .inl rfl
    | some g =>
      refine .inr (fun e2 => ?_)
      have a1 := (own_blk h1.own e1).2.1
      have a2 := (own_blk h2.own e2.symm).1
      omega

set_option maxRecDepth 1000000 in
set_option maxHeartbeats 1000000 in
theorem line_tail (w : World) (lb : Nat) (v : Value) (last t : Int) (pts : List (Int × Nat)) (hln : w.heap[lb]? = some (.cells #[v, .int .i64 last] 103 (0, 0))) (hrow : w.ownsRow 0 55 2 v pts.length (pairCells pts)) (hnil : pts = [] → v = .slice none 0 0) (hn : pts.length ≤ 1000) (k : Nat) (hk : k ≤ pts.length) (hg : goneP t pts = pts.take k) (hl : leftP t pts = pts.drop k) (x2 x3 x4 x6 x7 x8 x9 x10 x11 x12 x13 x14 x15 x16 x17 x18 x19 x20 x21 x22 x23 x24 x25 x26 x27 x28 x29 x30 x31 x32 x33 x34 x35 x36 x37 x38 x39 x40 x41 x42 x43 x44 x45 : Value) :
    Code.wp Tryd.prog lineT (bodyPost Tryd.prog Tryd.f49 fun e w' => LCOut w w' lb last t pts e) ⟨#[.pointer (some ⟨lb, 0, none⟩), .int .i64 t, x2, x3, x4, .int .i64 (k : Int), x6, x7, x8, x9, x10, x11, x12, x13, x14, x15, x16, x17, x18, x19, x20, x21, x22, x23, x24, x25, x26, x27, x28, x29, x30, x31, x32, x33, x34, x35, x36, x37, x38, x39, x40, x41, x42, x43, x44, x45], []⟩ w := by
  conv => arg 2; whnf
  have HLN := (show Hid _ from hln)
  have HGL := (show Hid _ from And.intro hg hl)
  have c0 : w.cell? ⟨lb, 0, none⟩ = some v := by simp [World.cell?, hln]
  have hlb := blk_lt hln
  by_cases hp : pts = []
  · have hv := hnil hp
    subst hp hv
    have hk0 : k = 0 := by simpa using hk
    subst hk0
    clear hrow hln hg hl hnil
    go_wp2_with (at_builtin; refine wpList_app_nil rfl _ _ rfl rfl none 0 0 (([] : List (Int × Nat)).take 0) rfl rfl (.inl rfl) (by simp) ?_)
    intro v1 w1 ho1 hv1
    have hv1' : v1 = .slice none 0 0 := hv1
    clear hv1
    subst hv1'
    have HO1 := (show Hid _ from ho1)
    have c1 : w1.cell? ⟨lb, 0, none⟩ = some (.slice none 0 0) := (ho1.bel.cell (p := ⟨lb, 0, none⟩) hlb).trans c0
    clear ho1
    go_wp2_with (at_builtin; refine wpList_app_nil rfl _ _ rfl rfl none 0 0 (([] : List (Int × Nat)).drop 0) rfl rfl (.inl rfl) (by simp) ?_)
    intro v2 w2 ho2 hn2
    have hl2 := ((HO1.out.bel.trans (ho2.bel.mono HO1.out.bel.size)).block lb hlb).trans HLN.out
    have c2 : w2.cell? ⟨lb, 0, none⟩ = some (.slice none 0 0) := by simp [World.cell?, hl2]
    have f2 : w2.frozen? ⟨lb, 0, none⟩ = false := by simp [World.frozen?, hl2]
    obtain ⟨a2, n2, cc2, hv2⟩ : ∃ a2 n2 cc2, v2 = .slice a2 n2 cc2 := by obtain ⟨a2, c2', h', _⟩ := own_pairs ho2.own; exact ⟨_, _, _, h'⟩
    have HFIN := (show Hid _ from lcut_fin HLN.out HO1.out ho2 (fun _ => hn2) HGL.out.1 HGL.out.2)
    subst hv2
    clear ho2 hl2 hn2
    go_wp2
    go_ret
    exact HFIN.out
  · obtain ⟨a', cap, hv, hlc, hpt, hsome⟩ := own_pairs hrow
    obtain ⟨g, rfl, _, _⟩ := hsome hp
    subst hv
    obtain ⟨n0, hn0⟩ : ∃ n0, n0 = pts.length := ⟨_, rfl⟩
    have hpos : 0 < n0 := by rw [hn0]; exact List.length_pos_iff.2 hp
    have HN0 := (show Hid _ from hn0)
    have HPT := (show Hid _ from hpt)
    rw [← hn0] at hlc hk hn c0 HLN
    have hcap0 : cap ≠ 0 := by omega
    have hcapI : (cap : Int) ≠ 0 := by omega
    clear hrow hln hg hl hpt hn0 hp hnil hsome
    by_cases hkz : k = 0
    · subst hkz
      go_wp2_with (at_builtin; refine wpList_app_nil rfl _ _ rfl rfl (some ⟨g, 0, none⟩) 0 cap (pts.take 0) (by simp) rfl (.inl (by simp)) (by simp) ?_)
      intro v1 w1 ho1 hv1
      have hv1' : v1 = .slice none 0 0 := hv1
      clear hv1
      subst hv1'
      have HO1 := (show Hid _ from ho1)
      have c1 : w1.cell? ⟨lb, 0, none⟩ = some (.slice (some ⟨g, 0, none⟩) n0 cap) := (ho1.bel.cell (p := ⟨lb, 0, none⟩) hlb).trans c0
      have HPT1 : Hid (PtsL w1 (some ⟨g, 0, none⟩) (pts.drop 0)) := by rw [List.drop_zero]; exact PtsL.below HPT.out ho1.bel
      clear ho1
      go_wp2_with (at_builtin; refine wpList_app_nil rfl _ _ rfl rfl (some ⟨g, 0, none⟩) n0 cap (pts.drop 0) (by rw [List.drop_zero]; exact HN0.out.symm) rfl HPT1.out (by rw [List.drop_zero, ← HN0.out]; omega) ?_)
      intro v2 w2 ho2 hn2
      have hl2 := ((HO1.out.bel.trans (ho2.bel.mono HO1.out.bel.size)).block lb hlb).trans HLN.out
      have c2 : w2.cell? ⟨lb, 0, none⟩ = some (.slice (some ⟨g, 0, none⟩) n0 cap) := by simp [World.cell?, hl2]
      have f2 : w2.frozen? ⟨lb, 0, none⟩ = false := by simp [World.frozen?, hl2]
      obtain ⟨a2, n2, cc2, hv2⟩ : ∃ a2 n2 cc2, v2 = .slice a2 n2 cc2 := by obtain ⟨a2, c2', h', _⟩ := own_pairs ho2.own; exact ⟨_, _, _, h'⟩
      have HFIN := (show Hid _ from lcut_fin HLN.out HO1.out ho2 (fun h => hn2 (by simpa using h)) HGL.out.1 HGL.out.2)
      subst hv2
      clear ho2 hl2 hn2
      go_wp2
      go_ret
      exact HFIN.out
    · have hk0 : (0 : Int) ≤ (k : Int) := by omega
      have hk1 : (k : Int) ≤ (n0 : Int) := by omega
      have hkc : (k : Int) ≤ (cap : Int) := by omega
      go_wp2_with (at_builtin; refine wpList_app_nil rfl _ _ rfl rfl (some ⟨g, 0, none⟩) k cap (pts.take k) (by rw [List.length_take]; have := HN0.out; omega) rfl (ptsL_take HPT.out k) (by rw [List.length_take]; have := HN0.out; omega) ?_)
      intro v1 w1 ho1 _
      have HO1 := (show Hid _ from ho1)
      have c1 : w1.cell? ⟨lb, 0, none⟩ = some (.slice (some ⟨g, 0, none⟩) n0 cap) := (ho1.bel.cell (p := ⟨lb, 0, none⟩) hlb).trans c0
      have HPT1 : Hid (PtsL w1 (some ⟨g, 0 + k * 2, none⟩) (pts.drop k)) := ptsL_drop (PtsL.below HPT.out ho1.bel) k
      have HNK : Hid ((pts.drop k).length = n0 - k) := by show _ = _; rw [List.length_drop, HN0.out]
      clear ho1
      by_cases hkcap : k = cap
      · have hn0k : n0 = k := by omega
        subst hkcap hn0k
        have HDN : Hid (pts.drop n0 = []) := by rw [HN0.out]; exact List.drop_length
        go_wp2_with (at_builtin; refine wpList_app_nil rfl _ _ rfl rfl (some ⟨g, 0, none⟩) 0 0 (pts.drop n0) (by rw [HDN.out]; rfl) rfl (.inl HDN.out) (by rw [HDN.out]; simp) ?_)
        intro v2 w2 ho2 hn2
        have hl2 := ((HO1.out.bel.trans (ho2.bel.mono HO1.out.bel.size)).block lb hlb).trans HLN.out
        have c2 : w2.cell? ⟨lb, 0, none⟩ = some (.slice (some ⟨g, 0, none⟩) n0 n0) := by simp [World.cell?, hl2]
        have f2 : w2.frozen? ⟨lb, 0, none⟩ = false := by simp [World.frozen?, hl2]
        obtain ⟨a2, n2, cc2, hv2⟩ : ∃ a2 n2 cc2, v2 = .slice a2 n2 cc2 := by obtain ⟨a2, c2', h', _⟩ := own_pairs ho2.own; exact ⟨_, _, _, h'⟩
        have HFIN := (show Hid _ from lcut_fin HLN.out HO1.out ho2 (fun h => hn2 (by simpa using h)) HGL.out.1 HGL.out.2)
        subst hv2
        clear ho2 hl2 hn2
        go_wp2
        go_ret
        exact HFIN.out
      · have hkcI : (k : Int) ≠ (cap : Int) := by omega
        go_wp2_with (at_builtin; refine wpList_app_nil rfl _ _ rfl rfl (some ⟨g, k * 2, none⟩) (n0 - k) (cap - k) (pts.drop k) HNK.out rfl (by have := HPT1.out; rw [Nat.zero_add] at this; exact this) (by rw [HNK.out]; omega) ?_)
        intro v2 w2 ho2 hn2
        have hl2 := ((HO1.out.bel.trans (ho2.bel.mono HO1.out.bel.size)).block lb hlb).trans HLN.out
        have c2 : w2.cell? ⟨lb, 0, none⟩ = some (.slice (some ⟨g, 0, none⟩) n0 cap) := by simp [World.cell?, hl2]
        have f2 : w2.frozen? ⟨lb, 0, none⟩ = false := by simp [World.frozen?, hl2]
        obtain ⟨a2, n2, cc2, hv2⟩ : ∃ a2 n2 cc2, v2 = .slice a2 n2 cc2 := by obtain ⟨a2, c2', h', _⟩ := own_pairs ho2.own; exact ⟨_, _, _, h'⟩
        have HFIN := (show Hid _ from lcut_fin HLN.out HO1.out ho2 (fun h => hn2 (by simpa using h)) HGL.out.1 HGL.out.2)
        subst hv2
        clear ho2 hl2 hn2
        go_wp2
        go_ret
        exact HFIN.out

set_option maxRecDepth 1000000 in
set_option maxHeartbeats 1000000 in
theorem lineCut_any (w : World) (lb : Nat) (v : Value) (last t : Int) (pts : List (Int × Nat)) (hln : w.heap[lb]? = some (.cells #[v, .int .i64 last] 103 (0, 0))) (hrow : w.ownsRow 0 55 2 v pts.length (pairCells pts)) (hnil : pts = [] → v = .slice none 0 0) (hn : pts.length ≤ 1000) (hr : pts.Pairwise fun p q => p.1 < q.1) :
    Calls Tryd.prog 49 #[.pointer (some ⟨lb, 0, none⟩), .int .i64 t] w fun e w' => LCOut w w' lb last t pts e := by
  have HLN := (show Hid _ from And.intro hln (And.intro hrow hnil))
  have HR := (show Hid _ from hr)
  have c0 : w.cell? ⟨lb, 0, none⟩ = some v := by simp [World.cell?, hln]
  obtain ⟨a', cap, hv, hlc, hpt, hsome⟩ := own_pairs hrow
  subst hv
  have HPT := (show Hid _ from And.intro hpt hsome)
  obtain ⟨n0, hn0⟩ : ∃ n0, n0 = pts.length := ⟨_, rfl⟩
  have HN0 := (show Hid _ from hn0)
  rw [← hn0] at hlc hn c0
  clear hln hrow hnil hr hpt hsome hn0
  go_enter Tryd.func49, Tryd.ntmps49
  go_upto_block 0 with fail
  go_cut [5] (fun z wx => wx = w ∧ ∃ k : Nat, z = .int .i64 (k : Int) ∧ k ≤ n0 ∧ (∀ i (hi : i < pts.length), i < k → (pts[i]).1 < t) ∧ (∀ hk : k < pts.length, t ≤ (pts[k]).1))
  case first =>
    go_wp2_with fail
    go_loopw [5] (fun z wr => wr = w ∧ ∃ k : Nat, z = .int .i64 (k : Int) ∧ k ≤ n0 ∧ (∀ i (hi : i < pts.length), i < k → (pts[i]).1 < t)) (fun z _ => n0 - (intOf z).toNat)
    case atStart => exact ⟨rfl, 0, rfl, Nat.zero_le _, fun i _ h => absurd h (by omega)⟩
    case round =>
      obtain ⟨rfl, k, rfl, hk, hlt⟩ := hrel
      have HLT := (show Hid _ from hlt)
      clear hlt
      by_cases hkn : k < n0
      · have hkp : k < pts.length := by rw [← HN0.out]; exact hkn
        have hpe : pts ≠ [] := fun e => by rw [e] at hkp; simp at hkp
        obtain ⟨g, rfl, _, _⟩ := HPT.out.2 hpe
        have hcell : wr.cell? ⟨g, k * 2, none⟩ = some (.int .i64 (pts[k]).1) := by
          rcases HPT.out.1 with h | ⟨b, o, h, hc⟩
          · exact absurd h hpe
          · injection h with h
            injection h with h1 h2
            subst h1 h2
            have := (hc k hkp).1
            rwa [Nat.zero_add] at this
        have hk0 : (0 : Int) ≤ (k : Int) := by omega
        have hk1 : (k : Int) < (n0 : Int) := by omega
        obtain ⟨pk, hpk⟩ : ∃ pk, pk = (pts[k]).1 := ⟨_, rfl⟩
        rw [← hpk] at hcell
        have HPK := (show Hid _ from hpk)
        clear hpk
        by_cases hd : pk < t
        · have d0 : decide (pk < t) = true := decide_eq_true hd
          go_wp2
          go_roundw
          case rel => exact ⟨by first | rfl | trivial, k + 1, by go_num, by omega, fun i hi h => if h' : i < k then HLT.out i hi h' else (by have e := (show i = k by omega); subst e; rw [← HPK.out]; exact hd)⟩
          case measure => simp [intOf] <;> omega
        · have d0 : decide (pk < t) = false := decide_eq_false hd
          go_wp2_with fail
          go_meet
          case rel => exact ⟨by first | rfl | trivial, k, by first | rfl | trivial, hk, HLT.out, fun _ => by rw [← HPK.out]; omega⟩
      · have hge : (n0 : Int) ≤ (k : Int) := by omega
        go_wp2_with fail
        go_meet
        case rel => exact ⟨by first | rfl | trivial, k, by first | rfl | trivial, hk, HLT.out, fun h => absurd h (by rw [← HN0.out]; omega)⟩
  case rest =>
    obtain ⟨rfl, k, rfl, hk, h1, h2⟩ := hcut
    rw [HN0.out] at hk
    obtain ⟨e1, e2⟩ := split_at t pts HR.out k hk (fun i hi hl => h1 i hl hi) h2
    have hno := HN0.out
    apply_assumption
    exact line_tail _ lb _ last t pts (by have := HLN.out.1; exact this) HLN.out.2.1 HLN.out.2.2 (by omega) k hk e1 e2 _ _ _ _ _ _ _ _ _ _ _ _ _ _ _ _ _ _ _ _ _ _ _ _ _ _ _ _ _ _ _ _ _ _ _ _ _ _ _ _ _ _ _
end Go.Proofs.YtfanagohfimnkaaDoor
