/- sums.Total by its contract; an append to a row of one's own. -/
import Derived.Test.YtegcalkeopkhfaaSmDoc
import Derived.Test.YtegcalkeopkhfaaRowsDef
namespace SmMath
/-- The points of rows, one behind the other. -/
def flat (l : List (List UInt8 × List (Int × Nat))) : List (Int × Nat) := l.flatMap Prod.snd
theorem flat_snoc (l : List (List UInt8 × List (Int × Nat))) (r : List UInt8 × List (Int × Nat)) : flat (l ++ [r]) = flat l ++ r.2 := by simp [flat]
theorem flat_take (l : List (List UInt8 × List (Int × Nat))) (k : Nat) : (flat (l.take k)).length ≤ (flat l).length := by
  have h : flat l = flat (l.take k) ++ flat (l.drop k) := by
    unfold flat
    rw [← List.flatMap_append, List.take_append_drop]
  rw [h, List.length_append]
  omega
theorem mem_flat {l : List (List UInt8 × List (Int × Nat))} {p : Int × Nat} (h : p ∈ flat l) : ∃ r, r ∈ l ∧ p ∈ r.2 := by simpa [flat] using h
theorem ofM_flat (l : List (List UInt8 × List (Int × Nat))) (r : List UInt8 × List (Int × Nat)) : ofM (flat (l ++ [r])) = addM (ofM (flat l)) (ofM r.2) := by rw [flat_snoc, ofM_append]
end SmMath
namespace Go.Proofs.Ytegcalkeopkhfaa
open Go.RowKit PtMath SmMath

/-- A slice of rows, or nothing, is appended to a row of one's own. -/
theorem wpList_append_any {wr : World} {ops : Array Oper} {rest : List Oper} {o : Oper} {a : Act} {Q : Exit → Act → World → Prop} (hgd : o.guard = none) (s x : Operand) (t : TypeId)
    (ho : o.op = .call { callee := .builtin .append, args := #[s, x], argTypes := #[t, t] })
    (base : Nat) (e : TypeId) (i : TypeInfo) (z : Value) (size bytes : Nat) (ht : Try.prog.underlying t = some (.slice e)) (hi : Try.prog.info? e = some i) (hz0 : i.zero = some z) (hz1 : i.size = size) (hz2 : i.bytes = bytes) (hz3 : z.cells.size = size) (hsz : 0 < size)
    (v : Value) (n : Nat) (xs : List Value) (hs : a.eval s = v) (hown : wr.ownsRow base e size v n xs) (y : Option Addr) (m cy : Nat) (ys : List Value) (hx : a.eval x = .slice y m cy) (hlen : ys.length = m * size)
    (hP : m = 0 ∨ ∃ b p, y = some ⟨b, p, none⟩ ∧ ∀ j u, ys[j]? = some u → wr.cell? ((⟨b, p, none⟩ : Addr).add j) = some u) (h1c : ∀ u ∈ ys, u.oneCell' = true) (hle : n + m ≤ 100000) (hbs : bytes ≤ 1000) (hbase : base ≤ wr.heap.size)
    (h : ∀ v' w1, w1.ownsRow base e size v' (n + m) (xs ++ ys) → wr.grownBy w1 v.ownBlock → (v'.ownBlock = v.ownBlock ∨ v'.ownBlock = some wr.heap.size) → wpList Try.prog ops Q rest (a.put o.dst v') w1) : wpList Try.prog ops Q (o :: rest) a wr := by
  by_cases h0 : m = 0
  · subst h0
    have hy : ys = [] := List.eq_nil_of_length_eq_zero (by rw [hlen]; omega)
    subst hy
    refine wpList_append_zero hgd s x t ho base e i size ht hi v n xs hs hown y cy hx ?_
    exact h v wr (by rw [List.append_nil]; exact hown) ⟨rfl, rfl, rfl, Nat.le_refl _, fun _ _ _ => rfl⟩ (.inl rfl)
  · rcases hP with h1 | ⟨b, p, rfl, hc⟩
    · exact absurd h1 h0
    · refine wpList_append_lies _ hgd s x t ho base e i z size bytes ht hi hz0 hz1 hz2 hz3 hsz v n xs hs hown ⟨b, p, none⟩ m cy ys hx hlen hc h1c (by omega) (by unfold maxLen; omega) (Nat.le_trans (Nat.mul_le_mul hle hbs) (by decide)) hbase wr.heap.size rfl ?_
      intro g1 cap1 w1 hown1 hgrow hat hlt1
      refine h _ w1 hown1 hgrow ?_
      rcases hat with hat | hat
      · exact .inl hat.symm
      · exact .inr (by rw [hat]; rfl)

set_option maxRecDepth 1000000 in
set_option maxHeartbeats 2000000 in
theorem smTotal_any (w : World) (la : Option Addr) (c : Nat) (rows : List (List UInt8 × List (Int × Nat))) (hP : RowsP w la rows) (hI : ∀ r, r ∈ rows → PtsIn r.2) (hn : rows.length ≤ 1000) (hf : (flat rows).length ≤ 1000) :
    Calls Try.prog 8 #[.slice la rows.length c] w fun e w' => e = .returned (smV (ofM (flat rows))) ∧ Below w.heap.size w w' := by
  have HP : Hid (RowsP w la rows) := hP
  have HI := (show Hid _ from hI)
  have HF := (show Hid _ from hf)
  clear hP hI hf
  obtain ⟨n, hnn⟩ : ∃ n, rows.length = n := ⟨_, rfl⟩
  rw [hnn]
  have hn' : n ≤ 1000 := by omega
  have HN := (show Hid _ from hnn)
  clear hnn hn
  go_enter Try.func8, Try.ntmps8
  go_wp2_with fail
  go_loopw [5, 8] (fun _ i wr => ∃ k : Nat, k ≤ n ∧ i = .int .i64 k ∧ wr.heap[w.heap.size]? = some (.cells #[.int .i64 0, .int .u64 0, .int .u64 0, .int .u64 0, .int .u64 0] 27 (0, 0)) ∧ wr.heap[w.heap.size + 1]? = some (.cells #[.int .i64 (ofM (flat (rows.take k))).c, .int .u64 (ofM (flat (rows.take k))).l, .int .u64 (ofM (flat (rows.take k))).m, .int .u64 (ofM (flat (rows.take k))).t, .int .u64 (ofM (flat (rows.take k))).s] 27 (0, 0)) ∧ Below w.heap.size w wr) (fun _ i _ => n - (intOf i).toNat)
  case atStart =>
    refine ⟨0, Nat.zero_le _, rfl, ?_, ?_, ((Below.refl _ _).alloc (Nat.le_refl _) _).alloc (by simp) _⟩
    · rw [Below.heap_alloc _ _ _ (by simp)]
      exact heap_alloc_new _ _
    · have := heap_alloc_new (w.alloc (.cells #[.int .i64 0, .int .u64 0, .int .u64 0, .int .u64 0, .int .u64 0] 27)) (.cells #[.int .i64 0, .int .u64 0, .int .u64 0, .int .u64 0, .int .u64 0] 27)
      rw [show (w.alloc (.cells #[.int .i64 0, .int .u64 0, .int .u64 0, .int .u64 0, .int .u64 0] 27)).heap.size = w.heap.size + 1 by simp] at this
      exact this
  case round =>
    obtain ⟨k, hk, rfl, h0, h1, hbr⟩ := hrel
    by_cases hlt : k < n
    · have hkl : k < rows.length := by have := HN.out; omega
      have hst : rows.take (k + 1) = rows.take k ++ [rows[k]] := List.take_succ_eq_append_getElem hkl
      have hIk : In (ofM (flat (rows.take k))) := in_of (fun p hp => by
        obtain ⟨r, hr, hp⟩ := mem_flat hp
        exact HI.out r (List.mem_of_mem_take hr) p hp)
      have hIp : PtsIn rows[k].2 := HI.out rows[k] (List.getElem_mem hkl)
      have hIs : In (ofM rows[k].2) := in_of hIp
      have hle : (flat (rows.take k)).length + rows[k].2.length ≤ 1000 := by
        have h2 := flat_take rows (k + 1)
        rw [hst, flat_snoc, List.length_append] at h2
        have := HF.out
        omega
      have hsn : ofM (flat (rows.take (k + 1))) = addM (ofM (flat (rows.take k))) (ofM rows[k].2) := by rw [hst, ofM_flat]
      rcases HP.out with h | ⟨b, o, rfl, hc⟩
      · rw [h] at hkl; simp at hkl
      · obtain ⟨c0, A, C, c1, hPk⟩ := hc k hkl
        have hbl := World.block_lt_of_cell? w ⟨b, _, none⟩ c0
        rw [← hbr.cell (p := ⟨b, o + k * 2, none⟩) hbl] at c0
        rw [← hbr.cell (p := ⟨b, o + k * 2 + 1, none⟩) hbl] at c1
        have hkI : (k : Int) < (n : Int) := by omega
        have hk0 : (0 : Int) ≤ (k : Int) := by omega
        have hwl := hbr.size
        have hs1 : w.heap.size + 1 < wr.heap.size := lt_of_block h1
        obtain ⟨nm, hnm⟩ : ∃ nm : Value, nm = encStr rows[k].1 := ⟨_, rfl⟩
        have hns : ∃ s, nm = .string s := ⟨_, hnm⟩
        rw [← hnm] at c0
        have hADD : ∀ w0, Calls Try.prog 6 #[smV (ofM (flat (rows.take k))), smV (ofM rows[k].2)] w0 fun e w' => e = .returned (smV (ofM (flat (rows.take (k + 1))))) ∧ Below w0.heap.size w0 w' := fun w0 => by
          rw [hsn]
          exact smAdd_any w0 _ _ (by rw [ofM_c, ofM_c]; omega) hIk hIs
        have hOF : ∀ w0, Below wr.heap.size wr w0 → Calls Try.prog 5 #[.slice A rows[k].2.length C] w0 fun e w' => e = .returned (smV (ofM rows[k].2)) ∧ Below w0.heap.size w0 w' := fun w0 h => smOf_any w0 A C rows[k].2 (hPk.below (hbr.trans (h.mono hbr.size))) hIp (by omega)
        generalize rows[k].2.length = m at *
        obtain ⟨S', hS'⟩ : ∃ S', ofM (flat (rows.take (k + 1))) = S' := ⟨_, rfl⟩
        rw [hS'] at hADD
        generalize ofM (flat (rows.take k)) = S at *
        generalize ofM rows[k].2 = SA at *
        obtain ⟨q1, q2, q3, q4, q5⟩ := S
        obtain ⟨r1, r2, r3, r4, r5⟩ := S'
        obtain ⟨a1, a2, a3, a4, a5⟩ := SA
        have HS' : Hid (ofM (flat (rows.take (k + 1))) = ⟨r1, r2, r3, r4, r5⟩) := hS'
        have HAD : Hid (∀ w0, Calls Try.prog 6 #[.agg #[.int .i64 q1, .int .u64 q2, .int .u64 q3, .int .u64 q4, .int .u64 q5], .agg #[.int .i64 a1, .int .u64 a2, .int .u64 a3, .int .u64 a4, .int .u64 a5]] w0 fun e w' => e = .returned (.agg #[.int .i64 r1, .int .u64 r2, .int .u64 r3, .int .u64 r4, .int .u64 r5]) ∧ Below w0.heap.size w0 w') := hADD
        simp only at h1
        have HH0 := (show Hid _ from h0)
        have HH1 := (show Hid _ from h1)
        have HBR := (show Hid _ from hbr)
        obtain ⟨W0, hW0⟩ : ∃ W0, W0 = wr.alloc (.cells #[nm, .slice A m C] 30) := ⟨_, rfl⟩
        have hs0 : W0.heap.size = wr.heap.size + 1 := by rw [hW0]; simp
        have hbW : Below wr.heap.size wr W0 := by rw [hW0]; exact (Below.refl _ _).alloc (Nat.le_refl _) _
        have HOF : Hid (∀ w0, Below W0.heap.size W0 w0 → Calls Try.prog 5 #[.slice A m C] w0 fun e w' => e = .returned (.agg #[.int .i64 a1, .int .u64 a2, .int .u64 a3, .int .u64 a4, .int .u64 a5]) ∧ Below w0.heap.size w0 w') := fun w0 h => hOF w0 (hbW.trans (h.mono hbW.size))
        have hk1 : W0.heap[w.heap.size + 1]? = some (.cells #[.int .i64 q1, .int .u64 q2, .int .u64 q3, .int .u64 q4, .int .u64 q5] 27 (0, 0)) := by rw [hW0, Below.heap_alloc _ _ _ hs1]; exact HH1.out
        have hkp : W0.heap[wr.heap.size]? = some (.cells #[nm, .slice A m C] 30 (0, 0)) := by rw [hW0]; exact heap_alloc_new _ _
        have HSO : Hid (∀ z, Below W0.heap.size W0 z → (z.cell? ⟨w.heap.size + 1, 0, none⟩ = some (.int .i64 q1) ∧ z.cell? ⟨w.heap.size + 1, 1, none⟩ = some (.int .u64 q2) ∧ z.cell? ⟨w.heap.size + 1, 2, none⟩ = some (.int .u64 q3) ∧ z.cell? ⟨w.heap.size + 1, 3, none⟩ = some (.int .u64 q4) ∧ z.cell? ⟨w.heap.size + 1, 4, none⟩ = some (.int .u64 q5)) ∧ z.cell? ⟨wr.heap.size, 1, none⟩ = some (.slice A m C)) := fun z hz => by
          have h1 := (hz.block _ (by omega)).trans hk1
          have h2 := (hz.block _ (by omega)).trans hkp
          exact ⟨⟨cells_of h1 0, cells_of h1 1, cells_of h1 2, cells_of h1 3, cells_of h1 4⟩, cells_of h2 1⟩
        have HK1 := (show Hid _ from hk1)
        clear hc hst hbr h0 h1 hsn hIk hS' hADD hOF hIp hIs hle hbW hs0 hk1 hkp hPk hnm
        obtain ⟨sn, rfl⟩ := hns
        go_wp2_with fail
        rw [← hW0]
        have HW0 := (show Hid _ from hW0)
        clear hW0
        refine wp_region_S (S := fun z => (z.cell? ⟨w.heap.size + 1, 0, none⟩ = some (.int .i64 q1) ∧ z.cell? ⟨w.heap.size + 1, 1, none⟩ = some (.int .u64 q2) ∧ z.cell? ⟨w.heap.size + 1, 2, none⟩ = some (.int .u64 q3) ∧ z.cell? ⟨w.heap.size + 1, 3, none⟩ = some (.int .u64 q4) ∧ z.cell? ⟨w.heap.size + 1, 4, none⟩ = some (.int .u64 q5)) ∧ z.cell? ⟨wr.heap.size, 1, none⟩ = some (.slice A m C)) (by kernel_rfl) 5 (HSO.out _ ((Below.refl _ _).drew)) (fun hHeld => ?_)
        refine wpAnyS_take (i := 0) (v := .agg #[.int .i64 q1, .int .u64 q2, .int .u64 q3, .int .u64 q4, .int .u64 q5]) rfl (by kernel_rfl) (by kernel_rfl) (by kernel_rfl) (by kernel_rfl) (by kernel_rfl) (by kernel_rfl) (fun _ _ _ h => h) (Or.inl ⟨by rfl, ?_⟩) hHeld ?_
        · intro w hSw
          obtain ⟨⟨j0, j1, j2, j3, j4⟩, j5⟩ := hSw
          go_simp
        try simp only [Act.put]
        refine wpAnyS_take0 (i := 1) (v := .pointer (some ⟨wr.heap.size, 1, none⟩)) rfl (by kernel_rfl) (by kernel_rfl) (by kernel_rfl) (by kernel_rfl) (fun _ _ _ h => h) (Or.inl ⟨by rfl, ?_⟩) (fun _ => hHeld) ?_
        · intro w _
          go_simp
        try simp only [Act.put]
        refine wpAnyS_take (i := 2) (v := .slice A m C) rfl (by kernel_rfl) (by kernel_rfl) (by kernel_rfl) (by kernel_rfl) (by kernel_rfl) (by kernel_rfl) (fun _ _ _ h => h) (Or.inl ⟨by rfl, ?_⟩) hHeld ?_
        · intro w hSw
          obtain ⟨⟨j0, j1, j2, j3, j4⟩, j5⟩ := hSw
          go_simp
        try simp only [Act.put]
        refine wpAnyS_ready (rs := [3]) (by kernel_rfl) (by simp) ?_
        refine AllReadyS.cons rfl (fun K hK => ?_) AllReadyS.nil
        go_simp
        refine Calls.mono (HOF.out _ ((Below.refl _ _).drew)) ?_
        rintro e w1 ⟨rfl, hw1⟩
        dsimp only
        have Hw1 : Hid (Below W0.heap.size W0 w1) := ((Below.refl _ _).drew).trans (hw1.mono (by simp))
        refine hK.out _ _ (HSO.out _ Hw1.out) ?_
        clear hK K
        try simp only [Act.put]
        refine wpAnyS_ready (rs := [4]) (by kernel_rfl) (by simp) ?_
        refine AllReadyS.cons rfl (fun K hK => ?_) AllReadyS.nil
        go_simp
        refine Calls.mono (HAD.out _) ?_
        rintro e w2 ⟨rfl, hw2⟩
        dsimp only
        have Hw2 : Hid (Below W0.heap.size W0 w2) := Hw1.out.trans (hw2.mono Hw1.out.size)
        refine hK.out _ _ (HSO.out _ Hw2.out) ?_
        clear hK K
        try simp only [Act.put]
        have hkk := (Hw2.out.block _ (lt_of_block HK1.out)).trans HK1.out
        have z0 := cells_of hkk 0
        have z1 := cells_of hkk 1
        have z2 := cells_of hkk 2
        have z3 := cells_of hkk 3
        have z4 := cells_of hkk 4
        simp at z0 z1 z2 z3 z4
        have f0 := frozen_of hkk 0
        have f1 := frozen_of hkk 1
        have f2 := frozen_of hkk 2
        have f3 := frozen_of hkk 3
        have f4 := frozen_of hkk 4
        have HS5 := (show Hid _ from set5 hkk (.int .i64 r1) (.int .u64 r2) (.int .u64 r3) (.int .u64 r4) (.int .u64 r5))
        clear hkk hw2 hw1
        refine wpAnyS_ready (rs := [5]) (by kernel_rfl) (by simp) ?_
        refine AllReadyS.last rfl (by kernel_rfl) (fun K hK => ?_) AllReadyS.nil
        go_simp
        refine hK.out _ _ ?_
        clear hK K
        refine wpAnyS_done (by kernel_rfl) ?_ _
        go_wp2
        go_roundw
        case rel =>
          have hbW : Below w.heap.size w W0 := by rw [HW0.out]; exact HBR.out.alloc hwl _
          refine ⟨k + 1, by omega, by go_num, ?_, by rw [HS'.out]; exact HS5.out, bel5 (hbW.trans (Hw2.out.mono hbW.size)) (by omega) _ _ _ _ _⟩
          rw [oth5 (by omega), Hw2.out.block _ (by rw [HW0.out]; simp; omega), HW0.out, Below.heap_alloc _ _ _ (by omega)]
          exact HH0.out
        case measure => simp [intOf] <;> omega
    · have hke : k = n := by omega
      subst hke
      have ht : rows.take k = rows := List.take_of_length_le (by have := HN.out; omega)
      rw [ht] at h1
      obtain ⟨S, hS⟩ : ∃ S, ofM (flat rows) = S := ⟨_, rfl⟩
      rw [hS] at h1
      have HS := (show Hid _ from hS)
      clear hS
      obtain ⟨q1, q2, q3, q4, q5⟩ := S
      simp only at h1
      have e0 := cells_of h1 0
      have e1 := cells_of h1 1
      have e2 := cells_of h1 2
      have e3 := cells_of h1 3
      have e4 := cells_of h1 4
      simp at e0 e1 e2 e3 e4
      have f0 := frozen_of h0 0
      have f1 := frozen_of h0 1
      have f2 := frozen_of h0 2
      have f3 := frozen_of h0 3
      have f4 := frozen_of h0 4
      have g0 := cells_of h0 0
      have g1 := cells_of h0 1
      have g2 := cells_of h0 2
      have g3 := cells_of h0 3
      have g4 := cells_of h0 4
      simp at g0 g1 g2 g3 g4
      have HS5 := (show Hid _ from set5 h0 (.int .i64 q1) (.int .u64 q2) (.int .u64 q3) (.int .u64 q4) (.int .u64 q5))
      have HBR := (show Hid _ from hbr)
      clear h0 h1 hbr
      go_wp2
      have y0 := cells_of HS5.out 0
      have y1 := cells_of HS5.out 1
      have y2 := cells_of HS5.out 2
      have y3 := cells_of HS5.out 3
      have y4 := cells_of HS5.out 4
      simp at y0 y1 y2 y3 y4
      exact bodyPost_ret (v := .agg #[.int .i64 q1, .int .u64 q2, .int .u64 q3, .int .u64 q4, .int .u64 q5]) (by simp [results, Try.results8, go_sem, y0, y1, y2, y3, y4]) rfl ⟨by rw [HS.out]; rfl, bel5 HBR.out (Nat.le_refl _) _ _ _ _ _⟩
end Go.Proofs.Ytegcalkeopkhfaa
