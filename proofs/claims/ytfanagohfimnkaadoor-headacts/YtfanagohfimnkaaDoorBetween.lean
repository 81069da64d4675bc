/- chunk's Between by its contract. -/
import Derived.Test.YtfanagohfimnkaaDoorPtList
namespace Go.Proofs.YtfanagohfimnkaaDoor
open Go.RowKit PtMath

set_option maxRecDepth 1000000 in
set_option maxHeartbeats 2000000 in
theorem cbetween_any (w : World) (la : Option Addr) (c : Nat) (l : List (Int × Nat)) (x y : Int) (hP : PtsL w la l) (hn : l.length ≤ 1000) :
    Calls Tryd.prog 51 #[.slice la l.length c, .int .i64 x, .int .i64 y] w fun e w' => ∃ v, e = .returned v ∧ w'.ownsRow w.heap.size 55 2 v (betweenL x y l).length (pairCells (betweenL x y l)) ∧ Below w.heap.size w w' := by
  have HP : Hid (PtsL w la l) := hP
  clear hP
  obtain ⟨n, hnn⟩ : ∃ n, l.length = n := ⟨_, rfl⟩
  rw [hnn]
  have hn' : n ≤ 1000 := by omega
  have HN := (show Hid _ from hnn)
  clear hnn hn
  go_enter Tryd.func51, Tryd.ntmps51
  go_wp2_with fail
  go_loopw [7, 9, 12] (fun sl _ i wr => ∃ (k m : Nat) (v : Value), sl = v ∧ k ≤ n ∧ m = (betweenL x y (l.take k)).length ∧ i = .int .i64 k ∧ wr.ownsRow w.heap.size 55 2 v m (pairCells (betweenL x y (l.take k))) ∧ Below w.heap.size w wr) (fun _ _ i _ => n - (intOf i).toNat)
  case atStart => exact ⟨0, 0, _, rfl, Nat.zero_le _, rfl, rfl, ⟨rfl, .inl ⟨rfl, rfl⟩⟩, Below.refl _ _⟩
  case round =>
    obtain ⟨k, m, v, hv, hk, hm, rfl, hown, hbr⟩ := hrel
    have hv' := hv.symm
    subst hv'
    by_cases hlt : k < n
    · have hkl : k < l.length := by have := HN.out; omega
      have hst : l.take (k + 1) = l.take k ++ [l[k]] := List.take_succ_eq_append_getElem hkl
      have hbs := betweenL_snoc x y (l.take k) l[k]
      rw [← hst] at hbs
      rcases HP.out with h | ⟨b, o, rfl, hc⟩
      · rw [h] at hkl; simp at hkl
      · obtain ⟨c0, c1⟩ := hc k hkl
        have hbl := World.block_lt_of_cell? w ⟨b, _, none⟩ c0
        rw [← hbr.cell (p := ⟨b, o + k * 2, none⟩) hbl] at c0
        rw [← hbr.cell (p := ⟨b, o + k * 2 + 1, none⟩) hbl] at c1
        have hml : m ≤ 1000 := by
          have h1 := betweenL_len x y (l.take k)
          have h2 := List.length_take_le k l
          omega
        have HPC := (show Hid _ from pairCells_snoc (betweenL x y (l.take k)) l[k])
        generalize l[k] = p at *
        obtain ⟨t, u⟩ := p
        simp only at c0 c1 hbs
        have hkI : (k : Int) < (n : Int) := by omega
        have hk0 : (0 : Int) ≤ (k : Int) := by omega
        have HM := (show Hid _ from hm)
        have hwl := hbr.size
        obtain ⟨W1, hW1⟩ : ∃ W1, W1 = wr.alloc (.cells #[.int .i64 t, .int .u64 (u : Int)] 55) := ⟨_, rfl⟩
        have hown1 : W1.ownsRow w.heap.size 55 2 v m (pairCells (betweenL x y (l.take k))) := by rw [hW1]; exact World.ownsRow.alloc hown _
        have hbr1 : Below w.heap.size w W1 := by rw [hW1]; exact hbr.alloc hwl _
        have HOWN : Hid (W1.ownsRow w.heap.size 55 2 v m (pairCells (betweenL x y (l.take k)))) := hown1
        have HBR := (show Hid _ from hbr1)
        have HBS := (show Hid _ from hbs)
        have HW1 := (show Hid _ from hW1)
        clear hc hst hm hown hbr hbs hown1 hbr1 hW1
        by_cases hx : x ≤ t
        · have d1 : decide (x ≤ t) = true := decide_eq_true hx
          by_cases hy : t ≤ y
          · have d2 : decide (t ≤ y) = true := decide_eq_true hy
            have hbe : betweenL x y (l.take (k + 1)) = betweenL x y (l.take k) ++ [(t, u)] := by rw [HBS.out, d1, d2]; rfl
            have HBE := (show Hid _ from hbe)
            obtain ⟨i0, hi, hz0, hz1, hz2⟩ := info_parts Tryd.infoPt
            have hownA : ((wr.alloc (.cells #[.int .i64 t, .int .u64 (u : Int)] 55)).alloc (.cells #[.int .i64 t, .int .u64 (u : Int)] 55)).ownsRow w.heap.size 55 2 v m (pairCells (betweenL x y (l.take k))) := by
              rw [← HW1.out]
              exact World.ownsRow.alloc HOWN.out _
            clear hbe
            go_wp2_with (at_builtin; refine wpList_append_lies _ rfl _ _ 67 rfl w.heap.size 55 i0 (.agg #[.int .i64 0, .int .u64 0]) 2 16 Tryd.underlying67 hi hz0 hz1 hz2 rfl (by decide) _ _ _ rfl hownA ⟨wr.heap.size + 1, 0, none⟩ 1 1 [.int .i64 t, .int .u64 (u : Int)] rfl rfl (World.news_of_block (by have := heap_alloc_new (wr.alloc (.cells #[.int .i64 t, .int .u64 (u : Int)] 55)) (.cells #[.int .i64 t, .int .u64 (u : Int)] 55); simpa using this)) ?c2 (by omega) ?c3 ?c4 ?c5 (wr.heap.size + 2) (by simp) ?_)
            case c2 => exact ⟨rfl, rfl⟩
            case c3 => unfold maxLen; omega
            case c4 => omega
            case c5 => first | omega | (simp; omega)
            intro g1 cap1 w1 hown1 hgrow hat hlt1
            rw [← HW1.out] at hgrow
            have hb1 := grown_pts rfl rfl rfl rfl HBR.out HOWN.out hgrow
            rw [HPC.out, ← HBE.out] at hown1
            have HOWN1 : Hid (w1.ownsRow w.heap.size 55 2 (.slice (some ⟨g1, 0, none⟩) (m + 1) cap1) (m + 1) (pairCells (betweenL x y (l.take (k + 1))))) := hown1
            have HB1 := (show Hid _ from hb1)
            have HM1 : Hid (m + 1 = (betweenL x y (l.take (k + 1))).length) := by rw [HBE.out, List.length_append, ← HM.out]; rfl
            clear hown1 hgrow hat hlt1 hb1 hownA c0 c1
            go_wp2
            go_roundw
            case rel => exact ⟨k + 1, m + 1, _, rfl, by omega, HM1.out, by go_num, HOWN1.out, HB1.out⟩
            case measure => simp [intOf] <;> omega
          · have d2 : decide (t ≤ y) = false := decide_eq_false hy
            have hbe : betweenL x y (l.take (k + 1)) = betweenL x y (l.take k) := by rw [HBS.out, d1, d2]; rfl
            have HBE := (show Hid _ from hbe)
            clear hbe
            go_wp2
            go_roundw
            case rel => exact ⟨k + 1, m, v, rfl, by omega, by rw [HBE.out]; exact HM.out, by go_num, by rw [HBE.out, ← HW1.out]; exact HOWN.out, by rw [← HW1.out]; exact HBR.out⟩
            case measure => simp [intOf] <;> omega
        · have d1 : decide (x ≤ t) = false := decide_eq_false hx
          have hbe : betweenL x y (l.take (k + 1)) = betweenL x y (l.take k) := by rw [HBS.out, d1]; rfl
          have HBE := (show Hid _ from hbe)
          clear hbe
          go_wp2
          go_roundw
          case rel => exact ⟨k + 1, m, v, rfl, by omega, by rw [HBE.out]; exact HM.out, by go_num, by rw [HBE.out, ← HW1.out]; exact HOWN.out, by rw [← HW1.out]; exact HBR.out⟩
          case measure => simp [intOf] <;> omega
    · have hke : k = n := by omega
      subst hke
      have ht : l.take k = l := List.take_of_length_le (by have := HN.out; omega)
      rw [ht] at hm hown
      have HM := (show Hid _ from hm)
      have HOWN : Hid (wr.ownsRow w.heap.size 55 2 v m (pairCells (betweenL x y l))) := hown
      have HBR := (show Hid _ from hbr)
      clear hm hown hbr ht
      go_wp2
      go_ret
      exact ⟨v, rfl, by rw [← HM.out]; exact HOWN.out, HBR.out⟩
end Go.Proofs.YtfanagohfimnkaaDoor
