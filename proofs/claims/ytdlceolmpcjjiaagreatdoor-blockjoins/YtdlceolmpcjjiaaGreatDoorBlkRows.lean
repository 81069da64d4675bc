/- block's rows by their contract. -/
import Derived.Test.YtdlceolmpcjjiaaGreatDoorBlkChkGroup
import Derived.Test.YtdlceolmpcjjiaaGreatDoorRowsAt
import Derived.Deep.RegionHeld3
namespace Go.Proofs.YtdlceolmpcjjiaaGreatDoor
open Go.RowKit Go.Maps PtMath

theorem own_strs {w : World} {base : Nat} {v : Value} {ss : List (List UInt8)} (h : w.ownsRow base 9 1 v ss.length (ss.map encStr)) : ∃ a c, v = .slice a ss.length c ∧ ∀ k (hk : k < ss.length), ∃ g, a = some ⟨g, 0, none⟩ ∧ w.cell? ⟨g, k, none⟩ = some (encStr ss[k]) := by
  obtain ⟨_, h2⟩ := h
  rcases h2 with ⟨hv, h0⟩ | ⟨g, cap, cur, hv, hg, hh, h1, h2, h3, h4⟩
  · exact ⟨none, 0, by rw [hv, h0], fun k hk => by omega⟩
  · refine ⟨_, _, hv, fun k hk => ⟨g, rfl, ?_⟩⟩
    have e0 : w.cell? ⟨g, k, none⟩ = cur[k]? := by simp [World.cell?, hh]
    rw [e0, ← Array.getElem?_toList, ← List.getElem?_take_of_lt (show k < ss.length * 1 by omega), h4]
    simp [hk]
/-- What rows answers. -/
def RowsOut (ea : Nat → Addr) (w w' : World) (f s : Int) (ss cs : List (List UInt8)) (e : Ending) : Prop :=
  ∃ x v, e = .returned (.tuple #[x, v]) ∧ Below w.heap.size w w' ∧ FaultV ea w' v (bkC f s ss cs) (bkA f s ss cs) ∧ (bkC f s ss cs = 0 → ∃ xs, w'.ownsRow w.heap.size 61 2 x ss.length xs ∧ RowsC w' w.heap.size xs (rowsOf ss cs)) ∧ (bkC f s ss cs ≠ 0 → x = .slice none 0 0)
/-- The rows so far. -/
structure RowsTo (w W wr : World) (f s : Int) (ss cs : List (List UInt8)) (k : Nat) (v5 v6 : Value) (xs : List Value) : Prop where
  le : k ≤ ss.length
  ah : v6 = .string ⟨(prev ss k).toArray⟩
  ok : ∀ j, j < k → serAt f s ss cs j = 0
  own : wr.ownsRow (w.heap.size + 1) 61 2 v5 k xs
  rows : RowsC wr (w.heap.size + 1) xs ((rowsOf ss cs).take k)
  bel : Below W.heap.size W wr
  zero : k = 0 → v5 = .slice none 0 0
theorem prev_succ {ss : List (List UInt8)} {k : Nat} (hk : k < ss.length) : prev ss (k + 1) = ss[k] := by
  simp [prev, List.getD_eq_getElem?_getD, hk]

set_option maxRecDepth 1000000 in
set_option maxHeartbeats 1000000 in
theorem blrows_any {B : Nat} {ea : Nat → Addr} (w : World) (E : EnvK B ea w) (hB : B ≤ w.heap.size) (f s : Int) (b1 b2 : Nat) (v1 v2 : Value) (ss cs : List (List UInt8)) (h1 : w.ownsRow b1 9 1 v1 ss.length (ss.map encStr)) (h2 : w.ownsRow b2 9 1 v2 cs.length (cs.map encStr)) (hss : ∀ x, x ∈ ss → x.length ≤ 100000) (hcs : ∀ x, x ∈ cs → x.length ≤ 10000) (hn : ss.length ≤ 100000) (hm : cs.length ≤ 100000) :
    Calls Tryz.prog 54 #[.agg #[.int .i64 f, .int .i64 s, v1, v2]] w fun e w' => RowsOut ea w w' f s ss cs e := by
  obtain ⟨a1, c1, rfl, hc1⟩ := own_strs h1
  obtain ⟨a2, c2, rfl, hc2⟩ := own_strs h2
  obtain ⟨W, hW⟩ : ∃ W, W = w.alloc (.cells #[.int .i64 f, .int .i64 s, .slice a1 ss.length c1, .slice a2 cs.length c2] 25) := ⟨_, rfl⟩
  have hbW : Below w.heap.size w W := by rw [hW]; exact (Below.refl _ _).alloc (Nat.le_refl _) _
  have hx : W.heap[w.heap.size]? = some (.cells #[.int .i64 f, .int .i64 s, .slice a1 ss.length c1, .slice a2 cs.length c2] 25 (0, 0)) := by rw [hW]; exact heap_alloc_new _ _
  have hWs : W.heap.size = w.heap.size + 1 := by rw [hW]; simp
  have HW := (show Hid _ from hW)
  have HBW := (show Hid _ from hbW)
  have HE := (show Hid _ from E.below hbW hB)
  have HEE := (show Hid _ from E.below hbW hB)
  have HWS := (show Hid _ from hWs)
  have hBW : B ≤ W.heap.size := Nat.le_trans hB hbW.size
  have HC1 : Hid (∀ k (hk : k < ss.length), ∃ g, a1 = some ⟨g, 0, none⟩ ∧ ∀ w', Below W.heap.size W w' → w'.cell? ⟨g, k, none⟩ = some (encStr ss[k])) := fun k hk => by
    obtain ⟨g, e, hc⟩ := hc1 k hk
    have hl : g < w.heap.size := World.block_lt_of_cell? w ⟨g, k, none⟩ hc
    exact ⟨g, e, fun w' h => (h.cell (p := ⟨g, k, none⟩) (Nat.lt_of_lt_of_le hl hbW.size)).trans ((hbW.cell (p := ⟨g, k, none⟩) hl).trans hc)⟩
  have HC2 : Hid (∀ k (hk : k < cs.length), ∃ g, a2 = some ⟨g, 0, none⟩ ∧ ∀ w', Below W.heap.size W w' → w'.cell? ⟨g, k, none⟩ = some (encStr cs[k])) := fun k hk => by
    obtain ⟨g, e, hc⟩ := hc2 k hk
    have hl : g < w.heap.size := World.block_lt_of_cell? w ⟨g, k, none⟩ hc
    exact ⟨g, e, fun w' h => (h.cell (p := ⟨g, k, none⟩) (Nat.lt_of_lt_of_le hl hbW.size)).trans ((hbW.cell (p := ⟨g, k, none⟩) hl).trans hc)⟩
  have HSZ := (show Hid _ from And.intro hss hcs)
  have x0 : W.cell? ⟨w.heap.size, 0, none⟩ = some (.int .i64 f) := cells_of hx 0
  have x1 : W.cell? ⟨w.heap.size, 1, none⟩ = some (.int .i64 s) := cells_of hx 1
  have x2 : W.cell? ⟨w.heap.size, 2, none⟩ = some (.slice a1 ss.length c1) := cells_of hx 2
  have x3 : W.cell? ⟨w.heap.size, 3, none⟩ = some (.slice a2 cs.length c2) := cells_of hx 3
  have HX : Hid (∀ w', Below W.heap.size W w' → w'.cell? ⟨w.heap.size, 0, none⟩ = some (.int .i64 f) ∧ w'.cell? ⟨w.heap.size, 1, none⟩ = some (.int .i64 s) ∧ w'.cell? ⟨w.heap.size, 2, none⟩ = some (.slice a1 ss.length c1) ∧ w'.cell? ⟨w.heap.size, 3, none⟩ = some (.slice a2 cs.length c2)) := fun w' h => by
    have := (h.block _ (blk_lt hx)).trans hx
    exact ⟨cells_of this 0, cells_of this 1, cells_of this 2, cells_of this 3⟩
  have kb := HE.out.ern.c1
  have ks := HE.out.c2
  clear hW hbW hx E h1 h2 hss hcs hc1 hc2 hWs
  obtain ⟨n, hnn⟩ : ∃ n, n = ss.length := ⟨_, rfl⟩
  obtain ⟨m, hmm⟩ : ∃ m, m = cs.length := ⟨_, rfl⟩
  have HN := (show Hid _ from hnn.symm)
  have HM := (show Hid _ from hmm.symm)
  rw [← hnn] at HW HX x2 hn ⊢
  rw [← hmm] at HW HX x3 hm ⊢
  clear hnn hmm
  go_enter Tryz.func54, Tryz.ntmps54
  go_upto_region 1 with fail
  rw [← HW.out]
  by_cases hbad : bdE f s ≠ 0 ∨ 60 < n
  · have HBB := (show Hid _ from blbounds_bad W f s n (by omega) hbad (ea 1) kb)
    obtain ⟨hC, hA⟩ := bk_bound (cs := cs) (f := f) (s := s) (ss := ss) (by rw [HN.out]; exact hbad)
    have HC := (show Hid _ from And.intro hC hA)
    clear hC hA hbad
    go_wp2_with fail
    refine Calls.mono HBB.out ?_
    rintro e w1 ⟨rfl, hw1⟩
    have hw1' := hw1
    subst hw1'
    go_wp2
    go_ret2
    exact ⟨_, _, rfl, HBW.out, by rw [HC.out.1, HC.out.2]; exact FaultV.es 1 (by decide) (by decide), fun h => absurd (HC.out.1.symm.trans h) (by decide), fun _ => rfl⟩
  · have HBD := (show Hid _ from hbad)
    have hbd : bdE f s = 0 := Decidable.not_not.1 fun h => hbad (.inl h)
    have hn60 : n ≤ 60 := by
      rcases Nat.lt_or_ge 60 n with h | h
      · exact absurd (.inr h) hbad
      · exact h
    have HBB := (show Hid _ from blbounds_ok W f s n hbd hn60)
    clear hbad
    go_wp2_with fail
    refine Calls.mono HBB.out ?_
    rintro e w1 ⟨rfl, hw1⟩
    have hw1' := hw1
    subst hw1'
    clear HBB
    by_cases hmn : m = n
    · subst hmn
      have hmq : ((m : Int) == (m : Int)) = true := by simp
      obtain ⟨iR, hI, hI0, hI1, hI2⟩ := info_parts Tryz.infoARow
      have HII := (show Hid _ from hI)
      clear hI
      go_wp2_with fail
      go_loopw [5, 6, 33] (fun v5 v6 i wr => ∃ (k : Nat) (xs : List Value), i = .int .i64 (k : Int) ∧ RowsTo w w1 wr f s ss cs k v5 v6 xs) (fun _ _ i _ => m - (intOf i).toNat)
      case atStart => exact ⟨0, [], rfl, ⟨Nat.zero_le _, rfl, fun j h => absurd h (Nat.not_lt_zero _), ⟨rfl, .inl ⟨rfl, rfl⟩⟩, by simp [RowsC], Below.refl _ _, fun _ => rfl⟩⟩
      case round =>
        obtain ⟨k, xs, rfl, hr⟩ := hrel
        have HR := (show Hid _ from hr)
        have hah := hr.ah
        subst hah
        clear hr x0 x1 x2 x3 kb ks
        by_cases hkn : k < m
        · have hks : k < ss.length := by rw [HN.out]; exact hkn
          have hkc : k < cs.length := by rw [HM.out]; exact hkn
          obtain ⟨g1, q1, hg1⟩ := HC1.out k hks
          obtain ⟨g2, q2, hg2⟩ := HC2.out k hkc
          subst q1 q2
          have e1 := hg1 wr HR.out.bel
          have e2 := hg2 wr HR.out.bel
          obtain ⟨x0, x1, x2, x3⟩ := HX.out wr HR.out.bel
          have k0 : (0 : Int) ≤ (k : Int) := by omega
          have k1 : (k : Int) < (m : Int) := by omega
          have k2 : k < m := hkn
          obtain ⟨nm, hnm⟩ : ∃ nm : ByteArray, nm = ⟨(ss[k]).toArray⟩ := ⟨_, rfl⟩
          obtain ⟨ch, hch⟩ : ∃ ch : ByteArray, ch = ⟨(cs[k]).toArray⟩ := ⟨_, rfl⟩
          obtain ⟨ah, hah⟩ : ∃ ah : ByteArray, ah = ⟨(prev ss k).toArray⟩ := ⟨_, rfl⟩
          have e1' : wr.cell? ⟨g1, k, none⟩ = some (.string nm) := by rw [hnm]; exact e1
          have e2' : wr.cell? ⟨g2, k, none⟩ = some (.string ch) := by rw [hch]; exact e2
          rw [← hah]
          have hwl : w.heap.size + 1 ≤ wr.heap.size := by have := HR.out.bel.size; have := HWS.out; omega
          have hEr := HE.out.below HR.out.bel hBW
          have hBr : B ≤ wr.heap.size := Nat.le_trans hBW HR.out.bel.size
          have hl1 : nm.data.toList = ss[k] := by rw [hnm]
          have hl2 : ch.data.toList = cs[k] := by rw [hch]
          have hl3 : ah.data.toList = prev ss k := by rw [hah]
          have hsA : serAt f s ss cs k = serC f s ah.data.toList nm.data.toList ch.data.toList := by
            unfold serAt
            rw [hl1, hl2, hl3]
            simp [List.getD_eq_getElem?_getD, hks, hkc]
          have HSA := (show Hid _ from hsA)
          have HNM := (show Hid _ from And.intro hnm (And.intro hl1 hl2))
          have HUP : Hid (∀ w', Below wr.heap.size wr w' → w'.heap.size = wr.heap.size → Calls Tryz.prog 78 #[.agg #[.int .i64 f, .int .i64 s, .slice (some ⟨g1, 0, none⟩) m c1, .slice (some ⟨g2, 0, none⟩) m c2], .string nm, .string ch, .string ah] w' fun e w2 => ∃ x v A, e = .returned (.tuple #[x, v]) ∧ (w2.cell? ⟨w.heap.size, 0, none⟩ = some (.int .i64 f) ∧ w2.cell? ⟨w.heap.size, 1, none⟩ = some (.int .i64 s) ∧ w2.cell? ⟨w.heap.size, 2, none⟩ = some (.slice (some ⟨g1, 0, none⟩) m c1) ∧ w2.cell? ⟨w.heap.size, 3, none⟩ = some (.slice (some ⟨g2, 0, none⟩) m c2) ∧ w2.cell? ⟨g2, k, none⟩ = some (.string ch)) ∧ Below wr.heap.size wr w2 ∧ FaultV ea w2 v (serAt f s ss cs k) A ∧ (serAt f s ss cs k = 0 → w2.ownsRow wr.heap.size 71 2 x (unP cs[k]).length (pairCells (unP cs[k])))) := fun w' hbw hsz => by
            refine (blunpacked_any w' (hEr.below hbw hBr) (by rw [hsz]; exact hBr) (some ⟨g1, 0, none⟩) (some ⟨g2, 0, none⟩) m c1 m c2 f s hbd nm ch ah ?_ ?_).mono ?_
            · have : nm.size = (ss[k]).length := by rw [hnm]; simp [ByteArray.size]
              rw [this]
              exact HSZ.out.1 _ (List.getElem_mem hks)
            · have : ch.size = (cs[k]).length := by rw [hch]; simp [ByteArray.size]
              rw [this]
              exact HSZ.out.2 _ (List.getElem_mem hkc)
            · rintro e w2 ⟨x, v, A, rfl, hb2, hf2, ho2⟩
              have hbb : Below wr.heap.size wr w2 := hbw.trans (by rw [hsz] at hb2; exact hb2)
              have hbW2 := HR.out.bel.trans (hbb.mono HR.out.bel.size)
              obtain ⟨z0, z1, z2, z3⟩ := HX.out w2 hbW2
              refine ⟨x, v, A, rfl, ⟨z0, z1, z2, z3, by rw [hch]; exact hg2 w2 hbW2⟩, hbb, by rw [hsA]; exact hf2, fun h0 => ?_⟩
              rw [hsA] at h0
              have := ho2 h0
              rw [hl2, hsz] at this
              exact this
          clear hnm hch hah e1 e2 hg1 hg2 hEr hl1 hl2 hl3 hsA HE HC1 HC2
          go_wp2_with fail
          go_region_held3 (fun w' => w'.cell? ⟨w.heap.size, 0, none⟩ = some (.int .i64 f) ∧ w'.cell? ⟨w.heap.size, 1, none⟩ = some (.int .i64 s) ∧ w'.cell? ⟨w.heap.size, 2, none⟩ = some (.slice (some ⟨g1, 0, none⟩) m c1) ∧ w'.cell? ⟨w.heap.size, 3, none⟩ = some (.slice (some ⟨g2, 0, none⟩) m c2) ∧ w'.cell? ⟨g2, k, none⟩ = some (.string ch)) (go_keep) ((go_at_call 78; refine Calls.mono (HUP.out _ (by first | exact Below.refl _ _ | exact below_drew2 (Below.refl _ _)) (by rfl)) ?_; rintro e w2 ⟨x, v, A, rfl, ⟨j0, j1, j2, j3, j4⟩, hb2, hf2, ho2⟩; have HB2 := (show Hid _ from hb2); have HF2 : Hid (FaultV ea w2 v (serAt f s ss cs k) A) := hf2; have HO2 := (show Hid _ from ho2); clear hb2 hf2 ho2 HUP))
          have hwl2 : w.heap.size + 1 ≤ w2.heap.size := Nat.le_trans hwl HB2.out.size
          have HBW2 := (show Hid _ from HR.out.bel.trans (HB2.out.mono HR.out.bel.size))
          by_cases hs0 : serAt f s ss cs k = 0
          · have hv := HF2.out.none hs0
            subst hv
            have hown := HO2.out hs0
            obtain ⟨a3, c3, rfl⟩ := own_slice1 hown
            have HOW := (show Hid _ from own_mono2 hown hwl)
            have HRO : Hid (w2.ownsRow (w.heap.size + 1) 61 2 u5 k xs) := own_same HR.out.own fun g hg => HB2.out.block g (own_blk HR.out.own hg).2.1
            have HRC : Hid (RowsC w2 (w.heap.size + 1) xs ((rowsOf ss cs).take k)) := HR.out.rows.map fun v n ys hv => own_same hv fun g hg => HB2.out.block g (own_blk hv hg).2.1
            generalize hpl : (unP cs[k]).length = np at *
            have HPL := (show Hid _ from hpl)
            have HRA : Hid ((w2.alloc (.cells #[.string nm, .slice a3 np c3] 61)).ownsRow (w.heap.size + 1) 61 2 u5 k xs) := HRO.out.alloc _
            have HNW : Hid (∀ i z, ([.string nm, .slice a3 np c3] : List Value)[i]? = some z → (w2.alloc (.cells #[.string nm, .slice a3 np c3] 61)).cell? ((⟨w2.heap.size, 0, none⟩ : Addr).add i) = some z) := World.news_of_block (heap_alloc_new w2 _)
            have H1C : Hid (∀ z ∈ ([.string nm, .slice a3 np c3] : List Value), z.oneCell' = true) := by
              intro z hz
              simp at hz
              rcases hz with rfl | rfl <;> rfl
            have hk64 : k ≤ 1000 := by omega
            clear hown hpl HO2 HF2
            go_wp2_with (at_builtin; refine wpList_append_lies _ rfl _ _ 41 rfl (w.heap.size + 1) 61 iR (.agg #[.string ⟨#[]⟩, .slice none 0 0]) 2 40 Tryz.underlying41 HII.out hI0 hI1 hI2 rfl (by decide) _ _ _ rfl HRA.out ⟨w2.heap.size, 0, none⟩ 1 1 [.string nm, .slice a3 np c3] rfl rfl HNW.out H1C.out (by omega) (by unfold maxLen; omega) (by omega) (by simp; omega) _ rfl ?_)
            intro g7 cap7 w7 hown7 hgrow7 _ _
            have hal : ∀ v n ys, w2.ownsRow (w.heap.size + 1) 71 2 v n ys → w7.ownsRow (w.heap.size + 1) 71 2 v n ys := fun v n ys hv => own_grown (hv.alloc _) HRA.out hgrow7 (by decide)
            have HFIN : Hid (RowsTo w w1 w7 f s ss cs (k + 1) (.slice (some ⟨g7, 0, none⟩) (k + 1) cap7) (.string nm) (xs ++ [.string nm, .slice a3 np c3])) := by
              refine ⟨by omega, by rw [prev_succ hks, HNM.out.1], fun j hj => ?_, hown7, ?_, ?_, fun h => absurd h (by omega)⟩
              · rcases Nat.lt_or_ge j k with h | h
                · exact HR.out.ok j h
                · obtain rfl : j = k := by omega
                  exact hs0
              · have hrl : k < (rowsOf ss cs).length := by rw [rowsOf_len (by rw [HN.out, HM.out])]; exact hks
                have hgt : (rowsOf ss cs)[k] = (ss[k], unP cs[k]) := by simp [rowsOf]
                rw [List.take_succ_eq_append_getElem hrl, hgt, HNM.out.1]
                refine RowsC.snoc (row := (ss[k], unP cs[k])) ?_ (HRC.out.map hal)
                have := hal _ _ _ HOW.out
                show World.ownsRow _ _ _ _ _ (unP cs[k]).length _
                rw [HPL.out]
                exact this
              · have hb2 : Below w1.heap.size w1 (w2.alloc (.cells #[.string nm, .slice a3 np c3] 61)) := HBW2.out.alloc HBW2.out.size _
                exact below_grown2 hb2 HRA.out (by have := HWS.out; omega) (by have := HWS.out; simp; omega) hgrow7
            clear hown7 hgrow7 hal
            go_wp2
            go_roundw
            case rel => exact ⟨k + 1, _, by go_num, HFIN.out⟩
            case measure => simp [intOf] <;> omega
          · obtain ⟨t, p, hv⟩ := HF2.out.pos hs0
            have hpos : 0 < serAt f s ss cs k := by
              have : 0 ≤ serAt f s ss cs k := serC_nonneg ..
              omega
            have HFA := (show Hid _ from fat_v w2 (HEE.out.below HBW2.out hBW).types (Nat.le_trans hBW HBW2.out.size) (k : Int) v _ _ HF2.out hpos)
            obtain ⟨hC, hA⟩ := bk_at (f := f) (s := s) (ss := ss) (cs := cs) (by rw [HN.out]; exact HBD.out) (by rw [HN.out, HM.out]) hks HR.out.ok hs0
            have HC := (show Hid _ from And.intro hC hA)
            have HS0 := (show Hid _ from hs0)
            subst hv
            clear hC hA HF2 HO2 hs0
            go_wp2_with fail
            refine Calls.mono HFA.out ?_
            rintro e w3 ⟨pb, mm, rfl, hb3, hmm, z0, z1, hcm⟩
            have HFV : Hid (FaultV ea w3 (.iface 118 (.pointer (some ⟨pb, 0, none⟩))) (bkC f s ss cs) (bkA f s ss cs)) := by
              show FaultV _ _ _ _ _
              rw [HC.out.1, HC.out.2]
              exact .inr (.inr ⟨pb, mm, hmm, rfl, z0, z1, hcm⟩)
            have HB3 := (show Hid _ from HBW.out.trans ((HBW2.out.trans (hb3.mono HBW2.out.size)).mono HBW.out.size))
            clear hb3 z0 z1 hcm HFA
            go_wp2
            go_ret2
            exact ⟨_, _, rfl, HB3.out, HFV.out, fun h => absurd (HC.out.1.symm.trans h) HS0.out, fun _ => rfl⟩
        · obtain rfl : k = m := by have := HR.out.le; have := HN.out; omega
          obtain ⟨hC, hA⟩ := bk_good (f := f) (s := s) (ss := ss) (cs := cs) (by rw [HN.out]; exact HBD.out) (by rw [HN.out, HM.out]) (by rw [HN.out]; exact HR.out.ok)
          have HC := (show Hid _ from And.intro hC hA)
          clear hC hA
          go_wp2
          go_ret2
          refine ⟨_, _, rfl, HBW.out.trans (HR.out.bel.mono HBW.out.size), .inl ⟨rfl, HC.out.1⟩, fun _ => ⟨xs, ?_, ?_⟩, fun h => absurd HC.out.1 h⟩
          · rw [HN.out]
            exact own_mono2 HR.out.own (by omega)
          · have := HR.out.rows
            rw [List.take_of_length_le (by rw [rowsOf_len (by rw [HN.out, HM.out]), HN.out]; omega)] at this
            exact this.map2 (fun v n ys hv => own_mono2 hv (by omega))
    · have hmq : ((m : Int) == (n : Int)) = false := by simp; omega
      obtain ⟨hC, hA⟩ := bk_shape (cs := cs) (f := f) (s := s) (ss := ss) (by rw [HN.out]; exact HBD.out) (by rw [HN.out, HM.out]; exact hmn)
      have HC := (show Hid _ from And.intro hC hA)
      have HB1 : Hid (∀ q, Below w.heap.size w (w1.drewN q)) := fun q => below_draws HBW.out q
      clear hC hA
      go_wp2_with fail
      go_quiet (fail)
      go_wp2
      go_ret2
      exact ⟨_, _, rfl, HB1.out _, by rw [HC.out.1, HC.out.2]; exact FaultV.es 2 (by decide) (by decide), fun h => absurd (HC.out.1.symm.trans h) (by decide), fun _ => rfl⟩
end Go.Proofs.YtdlceolmpcjjiaaGreatDoor
