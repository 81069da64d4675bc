/- block's both by its contract. -/
import Derived.Test.YtdlceolmpcjjiaaGreatDoorBlkTake
import Derived.Test.YtdlceolmpcjjiaaGreatDoorRowsAt
import Derived.Test.YtdlceolmpcjjiaaGreatDoorBlkTwoGroup
import Derived.Test.YtdlceolmpcjjiaaGreatDoorHeadPutGroup
import Derived.Test.YtdlceolmpcjjiaaGreatDoorHeadAtGroup
import Derived.Test.YtdlceolmpcjjiaaGreatDoorSortStr
import Derived.Shelf.SlIter.Nil
namespace Go.Proofs.YtdlceolmpcjjiaaGreatDoor
open Go.RowKit Go.Maps Go.Sort Go.Shelf
def keysL_ren : Go.Shelf.Ren := ⟨fun | 7 => 86 | 10 => 114 | n => n, fun | 23 => 143 | 26 => 9 | 3 => 48 | 28 => 147 | 0 => 0 | 27 => 146 | 33 => 40 | 4 => 4 | n => n, fun | n => n⟩
theorem keysL : Go.Proofs.SlLaysZ.n7 Tryz.prog keysL_ren := {
  mixed := by kernel_rfl
  f7 := ⟨Tryz.f86.name, by decide, Tryz.func86.trans (congrArg some (by kernel_rfl))⟩
  f10 := ⟨Tryz.f114.name, by decide, Tryz.func114.trans (congrArg some (by kernel_rfl))⟩
  t0 := Tryz.underlying0
  a0 := Tryz.isAgg0
  z0 := Tryz.sizeOf0
  v0 := Tryz.zeroValue0
  t4 := Tryz.underlying4
  a4 := Tryz.isAgg4
  z4 := Tryz.sizeOf4
  v4 := Tryz.zeroValue4
  t23 := Tryz.underlying143
  a23 := Tryz.isAgg143
  z23 := Tryz.sizeOf143
  v23 := Tryz.zeroValue143
  t26 := Tryz.underlying9
  a26 := Tryz.isAgg9
  z26 := Tryz.sizeOf9
  v26 := Tryz.zeroValue9
  t27 := Tryz.underlying146
  a27 := Tryz.isAgg146
  z27 := Tryz.sizeOf146
  v27 := Tryz.zeroValue146
  t28 := Tryz.underlying147
  a28 := Tryz.isAgg147
  z28 := Tryz.sizeOf147
  v28 := Tryz.zeroValue147
  t33 := Tryz.underlying40
  a33 := Tryz.isAgg40
  z33 := Tryz.sizeOf40
  v33 := Tryz.zeroValue40 }
def sortedL_ren : Go.Shelf.Ren := ⟨fun | 6 => 85 | 8 => 112 | 9 => 113 | 11 => 138 | 13 => 140 | 12 => 139 | 23 => 182 | 24 => 151 | 14 => 173 | 15 => 174 | 16 => 175 | 17 => 176 | 18 => 177 | 19 => 178 | 20 => 179 | 21 => 180 | 22 => 181 | 25 => 208 | 26 => 209 | 27 => 210 | 28 => 211 | 29 => 212 | 30 => 213 | 31 => 227 | n => n, fun | 26 => 9 | 28 => 147 | 24 => 23 | 0 => 0 | 3 => 3 | 37 => 126 | 48 => 210 | 50 => 69 | 4 => 4 | 40 => 253 | 39 => 252 | 45 => 76 | 5 => 5 | 9 => 9 | 51 => 286 | 55 => 290 | 57 => 306 | 58 => 80 | 33 => 40 | n => n, fun | n => n⟩
theorem sortedL : Go.Proofs.SlLaysZ.n6 Tryz.prog sortedL_ren := {
  mixed := by kernel_rfl
  f6 := ⟨Tryz.f85.name, by decide, Tryz.func85.trans (congrArg some (by kernel_rfl))⟩
  f8 := ⟨Tryz.f112.name, by decide, Tryz.func112.trans (congrArg some (by kernel_rfl))⟩
  f11 := ⟨Tryz.f138.name, by decide, Tryz.func138.trans (congrArg some (by kernel_rfl))⟩
  t0 := Tryz.underlying0
  a0 := Tryz.isAgg0
  z0 := Tryz.sizeOf0
  v0 := Tryz.zeroValue0
  t24 := Tryz.underlying23
  a24 := Tryz.isAgg23
  z24 := Tryz.sizeOf23
  v24 := Tryz.zeroValue23
  t26 := Tryz.underlying9
  a26 := Tryz.isAgg9
  z26 := Tryz.sizeOf9
  v26 := Tryz.zeroValue9
  t28 := Tryz.underlying147
  a28 := Tryz.isAgg147
  z28 := Tryz.sizeOf147
  v28 := Tryz.zeroValue147
  i26 := by kernel_rfl }

set_option maxRecDepth 1000000 in
theorem sortStr_zero (p : Option Addr) (cap : Nat) (w : World) :
    Calls Tryz.prog 113 #[.slice p 0 cap] w fun e w' => e = .returned (.tuple #[]) ∧ w' = w := by
  have HI : Hid (∀ w, Calls Tryz.prog 173 #[.slice p 0 cap, .int .i64 0, .int .i64 0] w fun e w' => e = .returned (.tuple #[]) ∧ w' = w) := fun w => by
    go_enter Tryz.func173, Tryz.ntmps173
    go_wp2
    refine wp_loop_rounds 1 ?_
    rw [rounds_succ]
    go_wp2
    go_end0
    exact ⟨rfl, rfl⟩
  have HP : Hid (∀ w, Calls Tryz.prog 139 #[.slice p 0 cap, .int .i64 0, .int .i64 0, .int .i64 0] w fun e w' => e = .returned (.tuple #[]) ∧ w' = w) := fun w => by
    go_enter Tryz.func139, Tryz.ntmps139
    go_wp2
    refine wp_loop_rounds 1 ?_
    rw [rounds_succ]
    go_wp2_with fail
    refine Calls.mono (HI.out _) ?_
    rintro e w1 ⟨rfl, hw1⟩
    have hw1' := hw1
    subst hw1'
    go_wp2
    refine bodyPost_ret (results_none rfl _ _ _) rfl ?_
    exact ⟨rfl, rfl⟩
  have HL : Hid (∀ w, Calls Tryz.prog 140 #[.int .u64 0] w fun e w' => e = .returned (.int .i64 0) ∧ w' = w) := fun w => Any.bits_Len lays125 0 w (by omega) (by omega)
  go_enter Tryz.func113, Tryz.ntmps113
  go_wp2_with fail
  refine Calls.mono (HL.out _) ?_
  rintro e w1 ⟨rfl, hw1⟩
  have hw1' := hw1
  subst hw1'
  go_wp2_with fail
  refine Calls.mono (HP.out _) ?_
  rintro e w1 ⟨rfl, hw1⟩
  have hw1' := hw1
  subst hw1'
  go_wp2
  go_end0
  exact ⟨rfl, rfl⟩

theorem sortsL (m : Nat) : AnyZ.SortsIn Tryz.prog sortedL_ren Fence.wide m :=
  ⟨fun blk off cap ss W hH hblk hsz => callsIn_wide.2 (Any.slices_Sort_string lays190 blk off cap ss W hH hblk hsz), fun p cap W => callsIn_wide.2 (sortStr_zero p cap W)⟩
/-- maps.Keys: a function value over one new block that holds the map. -/
theorem mapsKeys_any (mb : Option Nat) (W : World) : Calls Tryz.prog 86 #[.map mb] W fun e w' => e = .returned (.func (.func 114) #[] #[.pointer (some ⟨W.heap.size, 0, none⟩)]) ∧ w' = W.alloc (.cells #[.map mb] 143) :=
  callsIn_wide.1 (AnyZ.keys_in keysL Fence.wide 5 trivial rfl mb W)

set_option maxHeartbeats 1000000 in
/-- slices.Sorted of what maps.Keys handed back: a new slice of the keys, sorted. -/
theorem sortedKeys_any {H : Type} (b nn : Nat) (D0 : DataW H) (R : Value → Option (DataW H × List MemPlace)) (w : World) (hown : w.ownsMap Tryz.prog 9 R b nn D0) (hmax : Maps.size D0 ≤ maxLen) (hbytes : Maps.size D0 * 16 ≤ 140737488355328) :
    Calls Tryz.prog 85 #[.func (.func 114) #[] #[.pointer (some ⟨w.heap.size, 0, none⟩)]] (w.alloc (.cells #[.map (some b)] 143)) fun e w' => ∃ (v : Value) (ss : List (List UInt8)), e = .returned v ∧ ss.Perm (strKeys D0) ∧
      w'.ownsRow (w.alloc (.cells #[.map (some b)] 143)).heap.size 9 1 v ss.length ((ss.mergeSort (fun x y => decide (x ≤ y))).map encStr) ∧ (v = .slice none 0 0 ↔ ss = []) ∧ Below (w.alloc (.cells #[.map (some b)] 143)).heap.size (w.alloc (.cells #[.map (some b)] 143)) w' := by
  have hbl := hown.lt
  have hseq : SeqGives Fence.wide 2 Tryz.prog 114 #[.pointer (some ⟨w.heap.size, 0, none⟩)] encStr (fun ss => ss.Perm (strKeys D0)) (Maps.size D0) (w.alloc (.cells #[.map (some b)] 143)) :=
    AnyZ.keys_gives (ρ := keysL_ren) { keysL with } Fence.wide _ trivial rfl (by omega) w.heap.size b nn D0 _ (by simp) (by simp) (by
      obtain ⟨es, clock, hb, Ft, hs, hD⟩ := hown
      exact ⟨es, clock, (Below.heap_alloc _ _ b hbl).trans hb, Ft, hs, hD⟩)
  exact callsIn_wide.1 (AnyZ.sorted_in sortedL Fence.wide 5 trivial trivial trivial trivial rfl (by omega) (sortsL _) (enters_of Tryz.func113 (by kernel_rfl) rfl) 114 #[.pointer (some ⟨w.heap.size, 0, none⟩)] trivial (enters_of Tryz.func114 (by kernel_rfl) rfl) _ _ hmax hbytes _ hseq)
end Go.Proofs.YtdlceolmpcjjiaaGreatDoor
namespace Go.Proofs.YtdlceolmpcjjiaaGreatDoor
open Go.RowKit Go.Maps LabMath PtMath JoinMath

theorem TkAt.grown {wE y w' : World} {mb pb nb base m : Nat} {S : List Rw} {sv : List UInt8 → Value} {r : Value} {ys : List Value} (h : TkAt wE y mb pb nb S sv) (hr : y.ownsRow base 61 2 r m ys) (hg : y.grownBy w' r.ownBlock) (hb : wE.heap.size ≤ base) : TkAt wE w' mb pb nb S sv := by
  obtain ⟨D, h1, h2⟩ := h.pm.map
  have hmb : some mb ≠ r.ownBlock := fun e => by
    obtain ⟨_, _, cur, hc⟩ := own_blk hr e.symm
    exact h.pm.ne_map hc rfl
  refine ⟨⟨⟨D, ownsMap_same h1 (hg.block mb h1.lt hmb), h2⟩, fun q hq => own_grown (h.pm.row q hq) hr hg (by decide), h.pm.apart, h.pm.up⟩, ?_, ?_, h.len⟩
  · refine (hg.block pb (blk_lt h.var) fun e => ?_).trans h.var
    obtain ⟨_, _, cur, hc⟩ := own_blk hr e.symm
    exact cells_ne h.var hc (by decide) rfl
  · exact h.bel.trans ⟨hg.os, hg.tape, hg.output, hg.size, fun q hq => hg.block q (Nat.lt_of_lt_of_le hq h.bel.size) (fun e => by have := (own_blk hr e.symm).1; omega)⟩
/-- The keys, sorted. -/
theorem PmAt.keys {w : World} {mb nb : Nat} {S : List Rw} {D : DataW Value} (hown : w.ownsMap Tryz.prog 9 heldE mb nb D) (hh : ∀ k, Maps.has D (.string k) = hasR S k) (hu : Up S) {ss : List (List UInt8)} (hp : ss.Perm (strKeys D)) : ss.mergeSort leB = S.map Prod.fst ∧ ss.length = S.length := by
  have hs : (S.map Prod.fst).Pairwise (· < ·) := List.pairwise_map.2 hu
  have hnd : (S.map Prod.fst).Nodup := hs.imp fun {a b} hab e => absurd (e ▸ hab) (List.lt_irrefl _)
  have hc : Collected D (fun _ => false) (S.map Prod.fst) := ⟨hnd, fun x => by
    rw [hh x, hasR_iff, List.mem_map]
    simp⟩
  have hp2 : ss.Perm (S.map Prod.fst) := hp.trans (hc.perm hown lawS Tryz.underlying9 fun _ => rfl).symm
  refine ⟨?_, by rw [hp2.length_eq, List.length_map]⟩
  have tr : ∀ a b c : List UInt8, leB a b = true → leB b c = true → leB a c = true := fun a b c h1 h2 => by simp only [leB, decide_eq_true_eq] at *; exact List.le_trans h1 h2
  have tot : ∀ a b : List UInt8, (leB a b || leB b a) = true := fun a b => by simp only [leB, Bool.or_eq_true, decide_eq_true_eq]; exact List.le_total a b
  refine List.Perm.eq_of_pairwise (le := fun a b => leB a b = true) (fun a b _ _ h1 h2 => ?_) (List.pairwise_mergeSort tr tot ss) (hs.imp fun {a b} hab => by simp only [leB, decide_eq_true_eq]; exact List.le_of_lt hab) ((List.mergeSort_perm ss leB).trans hp2)
  simp only [leB, decide_eq_true_eq] at h1 h2
  exact List.le_antisymm h1 h2

set_option maxRecDepth 1000000 in
set_option maxHeartbeats 4000000 in
theorem both_any (w : World) (la lb : Option Addr) (ca cb : Nat) (F1 F2 : List Rw) (h1 : RowsP w la F1) (h2 : RowsP w lb F2) (c1 : ∀ r, r ∈ F1 → r.2 ≠ [] ∧ r.2.length ≤ 120 ∧ r.1.length ≤ 1000) (c2 : ∀ r, r ∈ F2 → r.2 ≠ [] ∧ r.2.length ≤ 120 ∧ r.1.length ≤ 1000) (n1 : F1.length ≤ 60) (n2 : F2.length ≤ 60) (u1 : Up F1) (u2 : Up F2) :
    Calls Tryz.prog 59 #[.slice la F1.length ca, .slice lb F2.length cb] w fun e w' => ∃ v xs, e = .returned v ∧ Below w.heap.size w w' ∧ w'.ownsRow w.heap.size 61 2 v (mergeR F1 F2).length xs ∧ RowsC w' w.heap.size xs (mergeR F1 F2) := by
  obtain ⟨W1, hW1⟩ : ∃ W1, W1 = (w.alloc (.map #[] 0)).alloc (.cells #[.map (some w.heap.size)] 143) := ⟨_, rfl⟩
  have hs1 : (w.alloc (.map #[] 0)).heap.size = w.heap.size + 1 := by simp
  have hT1 : TkAt w W1 w.heap.size (w.heap.size + 1) 0 [] (fun _ => .slice none 0 0) := by
    refine ⟨⟨⟨.map [], ?_, rfl, fun _ => rfl, (fun _ hl => nomatch hl)⟩, (fun _ hl => nomatch hl), (fun _ _ hl => nomatch hl), List.Pairwise.nil⟩, ?_, ?_, (fun _ hl => nomatch hl)⟩
    · rw [hW1]; exact (World.ownsMap_made w _ _ _).alloc _
    · rw [hW1, ← hs1]; exact heap_alloc_new _ _
    · rw [hW1]; exact ((Below.refl _ _).alloc (Nat.le_refl _) _).alloc (by simp) _
  have HT1 := (show Hid _ from both1_any w W1 la ca F1 h1 c1 n1 w.heap.size (w.heap.size + 1) 0 [] _ hT1 (Nat.le_refl _) (Nat.le_succ _) (by omega))
  have HT2 : Hid (∀ (w2 : World) sv2, TkAt w w2 w.heap.size (w.heap.size + 1) (0 + F1.length) (takeR [] F1) sv2 → Calls Tryz.prog 84 #[.slice lb F2.length cb, .pointer (some ⟨w.heap.size + 1, 0, none⟩)] w2 fun e w' => e = .returned (.tuple #[]) ∧ ∃ sv', TkAt w w' w.heap.size (w.heap.size + 1) (0 + F1.length + F2.length) (takeR (takeR [] F1) F2) sv') := fun w2 sv2 h => both1_any w w2 lb cb F2 h2 c2 n2 w.heap.size (w.heap.size + 1) (0 + F1.length) (takeR [] F1) sv2 h (Nat.le_refl _) (Nat.le_succ _) (by omega)
  have HM : Hid (takeR (takeR [] F1) F2 = mergeR F1 F2) := both_is F1 F2 u1 u2
  have HML : Hid ((mergeR F1 F2).length ≤ 120) := by
    show _ ≤ _
    have hl : ∀ (l S : List Rw), Up S → (takeR S l).length ≤ S.length + l.length := fun l => by
      induction l with
      | nil => intro S _; exact Nat.le_refl _
      | cons r l ih =>
        intro S hS
        have h1 := ih (insR S r) (insR_up hS)
        have h2 := @insR_len S r hS
        have h3 : takeR S (r :: l) = takeR (insR S r) l := rfl
        rw [h3, List.length_cons]
        split at h2 <;> omega
    have h3 := hl F2 (takeR [] F1) (takeR_up List.Pairwise.nil)
    have h4 := hl F1 [] List.Pairwise.nil
    rw [← HM.out]
    simp at h4
    omega
  have hmm := @run_makeMap Tryz.prog
  generalize mergeR F1 F2 = M at *
  obtain ⟨f1, hf1⟩ : ∃ f1, F1.length = f1 := ⟨_, rfl⟩
  obtain ⟨f2, hf2⟩ : ∃ f2, F2.length = f2 := ⟨_, rfl⟩
  rw [hf1, hf2] at HT2 ⊢
  rw [hf1] at HT1
  have hf1' : f1 ≤ 60 := by omega
  have hf2' : f2 ≤ 60 := by omega
  obtain ⟨iR, hI, hI0, hI1, hI2⟩ := info_parts Tryz.infoARow
  have HII := (show Hid _ from hI)
  have HW1 : Hid (∀ z, z = (w.alloc (.map #[] 0)).alloc (.cells #[.map (some w.heap.size)] 143) → z = W1) := fun z h => h.trans hW1.symm
  have HW0 := (show Hid _ from hW1)
  clear hW1 hs1 hT1 h1 h2 c1 c2 n1 n2 u1 u2 hf1 hf2 hI
  go_enter Tryz.func59, Tryz.ntmps59
  go_wp2_with fail
  rw [← HW0.out]
  refine Calls.mono HT1.out ?_
  rintro e w2 ⟨rfl, sv2, ht2⟩
  have HC2 := (show Hid _ from HT2.out w2 sv2 ht2)
  clear ht2 HT1 HT2
  dsimp only
  go_wp2_with fail
  refine Calls.mono HC2.out ?_
  rintro e w3 ⟨rfl, sv3, ht3⟩
  rw [HM.out] at ht3
  obtain ⟨D, hD1, hD2, hD3, hD4⟩ := ht3.pm.map
  have c5 : w3.cell? ⟨w.heap.size + 1, 0, none⟩ = some (.map (some w.heap.size)) := cells_of ht3.var 0
  have HD := (show Hid _ from And.intro hD1 hD3)
  have HSK := (show Hid _ from sortedKeys_any w.heap.size _ D heldE w3 hD1 (by rw [hD2]; unfold maxLen; have := HML.out; omega) (by rw [hD2]; have := HML.out; omega))
  have HMK := (show Hid _ from mapsKeys_any (some w.heap.size) w3)
  have HT3 := (show Hid _ from ht3)
  clear ht3 hD1 hD2 hD3 hD4 HC2
  dsimp only
  go_wp2_with fail
  refine Calls.mono HMK.out ?_
  rintro e w4 ⟨rfl, hw4⟩
  subst hw4
  dsimp only
  go_wp2_with fail
  refine Calls.mono HSK.out ?_
  rintro e w5 ⟨v5, ss, rfl, hperm, hown5, _, hb5⟩
  obtain ⟨hsrt, hsl⟩ := PmAt.keys HD.out.1 HD.out.2 HT3.out.pm.up hperm
  have hsrt' : ss.mergeSort (fun x y => decide (x ≤ y)) = M.map Prod.fst := hsrt
  rw [hsrt', hsl] at hown5
  have hb35 : Below w3.heap.size w3 w5 := ((Below.refl _ _).alloc (Nat.le_refl _) _).trans (hb5.mono (by simp))
  have HT5 : Hid (TkAt w w5 w.heap.size (w.heap.size + 1) (0 + f1 + f2) M sv3) := HT3.out.below hb35
  obtain ⟨a5, cp5, rfl⟩ := own_slice1 hown5
  obtain ⟨n, hn⟩ : ∃ n, M.length = n := ⟨_, rfl⟩
  rw [hn] at hown5 ⊢
  have HN := (show Hid _ from hn)
  have hnl : n ≤ 120 := by rw [← hn]; exact HML.out
  have HO5 := (show Hid _ from hown5)
  have HB5 : Hid (w.heap.size ≤ (w3.alloc (.cells #[.map (some w.heap.size)] 143)).heap.size) := by
    have := HT3.out.bel.size
    show _ ≤ _
    simp
    omega
  clear hperm hown5 hsrt hsrt' hsl hb5 hb35 hn HT3 HD HSK HMK c5
  dsimp only
  go_wp2_with fail
  go_loopw [7, 9, 22] (fun vl _ ii wr => ∃ (k : Nat) (xs : List Value), k ≤ n ∧ ii = .int .i64 k ∧ TkAt w wr w.heap.size (w.heap.size + 1) (0 + f1 + f2) M sv3 ∧ wr.ownsRow (w3.alloc (.cells #[.map (some w.heap.size)] 143)).heap.size 9 1 (.slice a5 n cp5) n ((M.map Prod.fst).map encStr) ∧ wr.ownsRow w.heap.size 61 2 vl k xs ∧ RowsC wr w.heap.size xs (M.take k)) (fun _ _ ii _ => n - (intOf ii).toNat)
  case atStart => exact ⟨0, [], Nat.zero_le _, rfl, HT5.out, HO5.out, ⟨rfl, .inl ⟨rfl, rfl⟩⟩, by simp [RowsC]⟩
  case round =>
    obtain ⟨k, xs, hk, rfl, ht, hks, hown, hrc⟩ := hrel
    clear HT5 HO5
    have hwl : w.heap.size ≤ wr.heap.size := ht.bel.size
    by_cases hkn : k < n
    · have hkr : k < M.length := by rw [HN.out]; exact hkn
      have hmem := List.getElem_mem hkr
      obtain ⟨xk, hxk⟩ : ∃ xk : ByteArray, xk = ⟨(M[k].1).toArray⟩ := ⟨_, rfl⟩
      have hxd : xk.data.toList = M[k].1 := by rw [hxk]
      obtain ⟨g5, e5, hgc⟩ : ∃ g5, a5 = some ⟨g5, 0, none⟩ ∧ wr.cell? ⟨g5, k, none⟩ = some (.string xk) := by
        rcases hks.2 with ⟨_, hz⟩ | ⟨g, cap, cur, hv, _, hh, _, _, hs, hc⟩
        · omega
        · injection hv with hv
          refine ⟨g, hv, ?_⟩
          have e1 : wr.cell? ⟨g, k, none⟩ = cur[k]? := by simp [World.cell?, hh]
          have e2 : cur[k]? = (cur.toList.take (n * 1))[k]? := by rw [List.getElem?_take_of_lt (by omega)]; simp
          rw [e1, e2, hc, hxk]
          simp [hkr, encStr]
      subst e5
      have hns : xk.size ≤ 1000 := by
        have e : xk.size = M[k].1.length := by rw [hxk]; simp [ByteArray.size]
        have := (ht.len M[k] hmem).2
        omega
      have hc0 : wr.cell? ⟨w.heap.size + 1, 0, none⟩ = some (.map (some w.heap.size)) := cells_of ht.var 0
      obtain ⟨v0, old, hfd, hlook⟩ := ht.pm.look xk hns
      have hlk := hlook wr rfl
      obtain ⟨rfl, hold⟩ : v0 = sv3 M[k].1 ∧ old = M[k].2 := by
        rw [hxd] at hfd
        rcases hfd with ⟨hf, _, _⟩ | ⟨r, hr, hrk, hv, ho⟩
        · rw [hasR_iff.2 ⟨M[k], hmem, rfl⟩] at hf
          cases hf
        · obtain rfl := uniqR ht.pm.up hr hmem hrk
          exact ⟨hv, ho⟩
      have hrow := ht.pm.row M[k] hmem
      obtain ⟨a3, c3, hsv⟩ := own_slice1 hrow
      obtain ⟨nk, hnk⟩ : ∃ nk, nk = M[k].2.length := ⟨_, rfl⟩
      rw [← hnk] at hsv
      rw [hsv] at hlk hrow
      have k0 : (0 : Int) ≤ (k : Int) := by omega
      have k1 : (k : Int) < (n : Int) := by omega
      have HT := (show Hid _ from ht)
      have HKS := (show Hid _ from hks)
      have HRC : Hid (RowsC wr w.heap.size xs (M.take k)) := hrc
      have HRW := (show Hid _ from hrow)
      have HX := (show Hid _ from hxk)
      have HNK := (show Hid _ from hnk)
      have HRA : Hid ((wr.alloc (.cells #[.string xk, .slice a3 nk c3] 61)).ownsRow w.heap.size 61 2 u7 k xs) := hown.alloc _
      have HNW : Hid (∀ i z, ([.string xk, .slice a3 nk c3] : List Value)[i]? = some z → (wr.alloc (.cells #[.string xk, .slice a3 nk c3] 61)).cell? ((⟨wr.heap.size, 0, none⟩ : Addr).add i) = some z) := World.news_of_block (heap_alloc_new wr _)
      have H1C : Hid (∀ z ∈ ([.string xk, .slice a3 nk c3] : List Value), z.oneCell' = true) := by
        intro z hz
        simp at hz
        rcases hz with rfl | rfl <;> rfl
      clear ht hks hown hrc hfd hlook hold hrow hxk hxd hnk hsv hns
      go_wp2_with (at_builtin; refine wpList_append_lies _ rfl _ _ 41 rfl w.heap.size 61 iR (.agg #[.string ⟨#[]⟩, .slice none 0 0]) 2 40 Tryz.underlying41 HII.out hI0 hI1 hI2 rfl (by decide) _ _ _ rfl HRA.out ⟨wr.heap.size, 0, none⟩ 1 1 [.string xk, .slice a3 nk c3] rfl rfl HNW.out H1C.out (by omega) (by unfold maxLen; omega) (by omega) (by simp; omega) _ rfl ?_)
      intro g7 cap7 w7 hown7 hgrow7 _ _
      have hbA : Below wr.heap.size wr (wr.alloc (.cells #[.string xk, .slice a3 nk c3] 61)) := (Below.refl _ _).alloc (Nat.le_refl _) _
      have HFIN : Hid (TkAt w w7 w.heap.size (w.heap.size + 1) (0 + f1 + f2) M sv3 ∧ w7.ownsRow (w3.alloc (.cells #[.map (some w.heap.size)] 143)).heap.size 9 1 (.slice (some ⟨g5, 0, none⟩) n cp5) n ((M.map Prod.fst).map encStr) ∧ w7.ownsRow w.heap.size 61 2 (.slice (some ⟨g7, 0, none⟩) (k + 1) cap7) (k + 1) (xs ++ [.string xk, .slice a3 nk c3]) ∧ RowsC w7 w.heap.size (xs ++ [.string xk, .slice a3 nk c3]) (M.take (k + 1))) := by
        have hal : ∀ v n ys, wr.ownsRow w.heap.size 71 2 v n ys → w7.ownsRow w.heap.size 71 2 v n ys := fun v n ys hv => own_grown (hv.alloc _) HRA.out hgrow7 (by decide)
        refine ⟨(HT.out.below hbA).grown HRA.out hgrow7 (Nat.le_refl _), own_grown (World.ownsRow.alloc HKS.out _) HRA.out hgrow7 (by decide), hown7, ?_⟩
        rw [List.take_succ_eq_append_getElem hkr, HX.out]
        refine RowsC.snoc (row := M[k]) ?_ (HRC.out.map hal)
        have := hal _ _ _ HRW.out
        rw [← HNK.out]
        rw [← HNK.out] at this
        exact this
      clear hown7 hgrow7 hbA hlk hgc hc0
      go_wp2
      go_roundw
      case rel => exact ⟨k + 1, _, by omega, by go_num, HFIN.out.1, HFIN.out.2.1, HFIN.out.2.2.1, HFIN.out.2.2.2⟩
      case measure => simp [intOf] <;> omega
    · obtain rfl : k = n := by omega
      have hge : (k : Int) ≤ (k : Int) := Int.le_refl _
      rw [List.take_of_length_le (by rw [HN.out]; omega)] at hrc
      have HFIN := (show Hid _ from And.intro ht.bel (And.intro hown hrc))
      clear ht hks hown hrc
      go_wp2
      go_ret
      refine ⟨_, xs, rfl, HFIN.out.1, ?_, HFIN.out.2.2⟩
      rw [HN.out]
      exact HFIN.out.2.1
end Go.Proofs.YtdlceolmpcjjiaaGreatDoor
/- block's Join by its contract. -/
namespace Go.Proofs.YtdlceolmpcjjiaaGreatDoor
open Go.RowKit Go.Maps PtMath LabMath JoinMath

/-- The code and the place of what Join refuses. -/
noncomputable def jnC (f s : Int) (ss cs : List (List UInt8)) (f' s' : Int) (ss' cs' : List (List UInt8)) : Int := if bkC f s ss cs ≠ 0 then bkC f s ss cs else if bkC f' s' ss' cs' ≠ 0 then bkC f' s' ss' cs' else if f + s ≠ f' then 3 else mkC f (s + s') (mergeR (rowsOf ss cs) (rowsOf ss' cs'))
noncomputable def jnA (f s : Int) (ss cs : List (List UInt8)) (f' s' : Int) (ss' cs' : List (List UInt8)) : Int := if bkC f s ss cs ≠ 0 then bkA f s ss cs else if bkC f' s' ss' cs' ≠ 0 then bkA f' s' ss' cs' else -1
/-- What Join answers. -/
def JnOut (ea : Nat → Addr) (w w' : World) (f s : Int) (ss cs : List (List UInt8)) (f' s' : Int) (ss' cs' : List (List UInt8)) (e : Ending) : Prop :=
  ∃ v, Below w.heap.size w w' ∧ FaultV ea w' v (jnC f s ss cs f' s' ss' cs') (jnA f s ss cs f' s' ss' cs') ∧
    ((jnC f s ss cs f' s' ss' cs' = 0 ∧ ∃ u1 u2, e = .returned (.tuple #[.agg #[.int .i64 f, .int .i64 (s + s'), u1, u2], v]) ∧ w'.ownsRow w.heap.size 9 1 u1 (mergeR (rowsOf ss cs) (rowsOf ss' cs')).length (((mergeR (rowsOf ss cs) (rowsOf ss' cs')).map Prod.fst).map encStr) ∧ w'.ownsRow w.heap.size 9 1 u2 (mergeR (rowsOf ss cs) (rowsOf ss' cs')).length (((mergeR (rowsOf ss cs) (rowsOf ss' cs')).map fun r => chk r.2).map encStr)) ∨
      (jnC f s ss cs f' s' ss' cs' ≠ 0 ∧ e = .returned (.tuple #[.agg #[.int .i64 0, .int .i64 0, .slice none 0 0, .slice none 0 0], v])))

theorem blk_oth {z : World} {b c : Nat} (h : b ≠ c) (i : Nat) (v : Value) : (z.setCell ⟨b, i, none⟩ v).heap[c]? = z.heap[c]? := by
  simp [World.setCell, Array.getElem?_modify, h]
theorem fault_set4 {ea : Nat → Addr} {z : World} {v : Value} {C A : Int} (hf : FaultV ea z v C A) {b : Nat} {p0 p2 p3 : Value} {k : Int} (hz : z.heap[b]? = some (.cells #[p0, .int .i64 k, p2, p3] 25 (0, 0))) (v0 v1 v2 v3 : Value) : FaultV ea ((((z.setCell ⟨b, 0, none⟩ v0).setCell ⟨b, 1, none⟩ v1).setCell ⟨b, 2, none⟩ v2).setCell ⟨b, 3, none⟩ v3) v C A := by
  rcases hf with h | h | ⟨pb, m, hm, hv, c0, c1, hc⟩
  · exact .inl h
  · exact .inr (.inl h)
  · have hne2 : pb ≠ b := fun e => by
      rw [e, cells_of hz 1] at c1
      simp at c1
    have hcc : ∀ o, World.cell? ((((z.setCell ⟨b, 0, none⟩ v0).setCell ⟨b, 1, none⟩ v1).setCell ⟨b, 2, none⟩ v2).setCell ⟨b, 3, none⟩ v3) ⟨pb, o, none⟩ = z.cell? ⟨pb, o, none⟩ := fun o => by
      unfold World.cell?
      rw [blk_oth (Ne.symm hne2), blk_oth (Ne.symm hne2), blk_oth (Ne.symm hne2), blk_oth (Ne.symm hne2)]
    exact .inr (.inr ⟨pb, m, hm, hv, (hcc 0).trans c0, (hcc 1).trans c1, hc⟩)
set_option maxRecDepth 1000000 in
theorem lbare_nil (w : World) : Calls Tryz.prog 60 #[.nilIface] w fun e w' => e = .returned .nilIface ∧ Below w.heap.size w w' := by
  obtain ⟨W, hW⟩ : ∃ W, W = w.alloc (.cells #[.pointer none] 118) := ⟨_, rfl⟩
  have HB : Hid (Below w.heap.size w W) := by rw [hW]; exact (Below.refl _ _).alloc (Nat.le_refl _) _
  have HW := (show Hid _ from hW)
  clear hW
  go_enter Tryz.func60, Tryz.ntmps60
  go_wp2_with fail
  rw [← HW.out]
  refine Calls.mono (as_nil _ W) ?_
  rintro e w1 ⟨rfl, rfl⟩
  go_wp2
  go_ret
  exact ⟨rfl, HB.out⟩
/-- Bare of whatever error, or of none. -/
theorem lbare_any {B : Nat} {ea : Nat → Addr} (w : World) (E : Typ B w) (hB : B ≤ w.heap.size) (v : Value) (C A : Int) (h : FaultV ea w v C A) (hC : 0 ≤ C) :
    Calls Tryz.prog 60 #[v] w fun e w' => ∃ v', e = .returned v' ∧ Below w.heap.size w w' ∧ FaultV ea w' v' C (-1) := by
  by_cases h0 : C = 0
  · have hv := h.none h0
    subst hv
    refine (lbare_nil w).mono ?_
    rintro e w' ⟨rfl, hb⟩
    exact ⟨_, rfl, hb, .inl ⟨rfl, h0⟩⟩
  · refine (lbare_v w E hB v C A h (by omega)).mono ?_
    rintro e w' ⟨m, hm, hc, rfl, hb⟩
    exact ⟨_, rfl, hb, .es m hm hc⟩
/-- What Make told of the rows of both. -/
structure JnZ (ea : Nat → Addr) (w2 z : World) (f t : Int) (M : List Rw) (p q : Int) (u1 u2 v3 : Value) : Prop where
  bel : Below w2.heap.size w2 z
  flt : FaultV ea z v3 (mkC f t M) (mkA f t M)
  res : (mkC f t M = 0 ∧ p = f ∧ q = t ∧ z.ownsRow w2.heap.size 9 1 u1 M.length ((M.map Prod.fst).map encStr) ∧ z.ownsRow w2.heap.size 9 1 u2 M.length ((M.map fun r => chk r.2).map encStr)) ∨ (mkC f t M ≠ 0 ∧ p = 0 ∧ q = 0 ∧ u1 = .slice none 0 0 ∧ u2 = .slice none 0 0)
theorem JnZ.below {ea : Nat → Addr} {w2 z z' : World} {f t : Int} {M : List Rw} {p q : Int} {u1 u2 v3 : Value} (h : JnZ ea w2 z f t M p q u1 u2 v3) (hb : Below z.heap.size z z') : JnZ ea w2 z' f t M p q u1 u2 v3 :=
  ⟨h.bel.trans (hb.mono h.bel.size), h.flt.below hb, h.res.imp (fun g => ⟨g.1, g.2.1, g.2.2.1, own_bel3 g.2.2.2.1 hb, own_bel3 g.2.2.2.2 hb⟩) id⟩
theorem JnZ.set4 {ea : Nat → Addr} {w2 z : World} {f t : Int} {M : List Rw} {p q : Int} {u1 u2 v3 : Value} (h : JnZ ea w2 z f t M p q u1 u2 v3) {b : Nat} {p0 p2 p3 : Value} {k : Int} (hz : z.heap[b]? = some (.cells #[p0, .int .i64 k, p2, p3] 25 (0, 0))) (hb : w2.heap.size ≤ b) (x0 x1 x2 x3 : Value) : JnZ ea w2 ((((z.setCell ⟨b, 0, none⟩ x0).setCell ⟨b, 1, none⟩ x1).setCell ⟨b, 2, none⟩ x2).setCell ⟨b, 3, none⟩ x3) f t M p q u1 u2 v3 :=
  ⟨set4_below h.bel hb _ _ _ _, fault_set4 h.flt hz _ _ _ _, h.res.imp (fun g => ⟨g.1, g.2.1, g.2.2.1, own_set4 g.2.2.2.1 hz (by decide) _ _ _ _, own_set4 g.2.2.2.2 hz (by decide) _ _ _ _⟩) id⟩
/-- The joined block in its own memory, wherever that was made. -/
def JnCut (ea : Nat → Addr) (w2 z : World) (f t : Int) (M : List Rw) (v7 v9 : Value) : Prop :=
  ∃ (jb : Nat) (p q : Int) (g1 g2 : Option Addr) (n1 n2 c1 c2 : Nat), v9 = .pointer (some ⟨jb, 0, none⟩) ∧ z.heap[jb]? = some (.cells #[.int .i64 p, .int .i64 q, .slice g1 n1 c1, .slice g2 n2 c2] 25 (0, 0)) ∧ w2.heap.size ≤ jb ∧ JnZ ea w2 z f t M p q (.slice g1 n1 c1) (.slice g2 n2 c2) v7

set_option maxRecDepth 1000000 in
set_option maxHeartbeats 4000000 in
theorem blJoin_any {B : Nat} {ea : Nat → Addr} (w : World) (E : EnvK B ea w) (hB : B ≤ w.heap.size) (f s f' s' : Int) (b1 b2 b3 b4 : Nat) (v1 v2 v3 v4 : Value) (ss cs ss' cs' : List (List UInt8)) (h1 : w.ownsRow b1 9 1 v1 ss.length (ss.map encStr)) (h2 : w.ownsRow b2 9 1 v2 cs.length (cs.map encStr)) (h3 : w.ownsRow b3 9 1 v3 ss'.length (ss'.map encStr)) (h4 : w.ownsRow b4 9 1 v4 cs'.length (cs'.map encStr))
    (hss : ∀ x, x ∈ ss → x.length ≤ 100000) (hcs : ∀ x, x ∈ cs → x.length ≤ 10000) (hss' : ∀ x, x ∈ ss' → x.length ≤ 100000) (hcs' : ∀ x, x ∈ cs' → x.length ≤ 10000) (hn : ss.length ≤ 100000) (hm : cs.length ≤ 100000) (hn' : ss'.length ≤ 100000) (hm' : cs'.length ≤ 100000) :
    Calls Tryz.prog 26 #[.agg #[.int .i64 f, .int .i64 s, v1, v2], .agg #[.int .i64 f', .int .i64 s', v3, v4]] w fun e w' => JnOut ea w w' f s ss cs f' s' ss' cs' e := by
  obtain ⟨a1, k1, rfl⟩ := own_slice1 h1
  obtain ⟨a2, k2, rfl⟩ := own_slice1 h2
  obtain ⟨d1, e1, rfl⟩ := own_slice1 h3
  obtain ⟨d2, e2, rfl⟩ := own_slice1 h4
  obtain ⟨n1, hn1⟩ : ∃ n1, n1 = ss.length := ⟨_, rfl⟩
  obtain ⟨n2, hn2⟩ : ∃ n2, n2 = cs.length := ⟨_, rfl⟩
  obtain ⟨m1, hm1⟩ : ∃ m1, m1 = ss'.length := ⟨_, rfl⟩
  obtain ⟨m2, hm2⟩ : ∃ m2, m2 = cs'.length := ⟨_, rfl⟩
  have HN := (show Hid _ from And.intro hn1.symm (And.intro hn2.symm (And.intro hm1.symm hm2.symm)))
  obtain ⟨W, hW⟩ : ∃ W, W = ((w.alloc (.cells #[.int .i64 f, .int .i64 s, .slice a1 n1 k1, .slice a2 n2 k2] 25)).alloc (.cells #[.int .i64 f', .int .i64 s', .slice d1 m1 e1, .slice d2 m2 e2] 25)).alloc (.cells #[.int .i64 0, .int .i64 0, .slice none 0 0, .slice none 0 0] 25) := ⟨_, rfl⟩
  have hsA : (w.alloc (.cells #[.int .i64 f, .int .i64 s, .slice a1 n1 k1, .slice a2 n2 k2] 25)).heap.size = w.heap.size + 1 := by simp
  have hsB : ((w.alloc (.cells #[.int .i64 f, .int .i64 s, .slice a1 n1 k1, .slice a2 n2 k2] 25)).alloc (.cells #[.int .i64 f', .int .i64 s', .slice d1 m1 e1, .slice d2 m2 e2] 25)).heap.size = w.heap.size + 2 := by simp
  have hbW : Below w.heap.size w W := by rw [hW]; exact (((Below.refl _ _).alloc (Nat.le_refl _) _).alloc (by simp) _).alloc (by simp; omega) _
  have hxA : W.heap[w.heap.size]? = some (.cells #[.int .i64 f, .int .i64 s, .slice a1 n1 k1, .slice a2 n2 k2] 25 (0, 0)) := by
    rw [hW, heap_alloc_old _ _ (by rw [hsB]; omega), heap_alloc_old _ _ (by rw [hsA]; omega)]
    exact heap_alloc_new _ _
  have hxB : W.heap[w.heap.size + 1]? = some (.cells #[.int .i64 f', .int .i64 s', .slice d1 m1 e1, .slice d2 m2 e2] 25 (0, 0)) := by
    rw [hW, heap_alloc_old _ _ (by rw [hsB]; omega), ← hsA]
    exact heap_alloc_new _ _
  have hxR : W.heap[w.heap.size + 2]? = some (.cells #[.int .i64 0, .int .i64 0, .slice none 0 0, .slice none 0 0] 25 (0, 0)) := by
    rw [hW, ← hsB]
    exact heap_alloc_new _ _
  have HZ : Hid (∀ (v : Value) (z : World) (C A : Int), z.heap[w.heap.size + 2]? = some (.cells #[.int .i64 0, .int .i64 0, .slice none 0 0, .slice none 0 0] 25 (0, 0)) → Below w.heap.size w z → FaultV ea z v C A → jnC f s ss cs f' s' ss' cs' = C → jnA f s ss cs f' s' ss' cs' = A → C ≠ 0 → ∀ (q : Nat) (a : Act), a.tmps[4]?.getD undef = .pointer (some ⟨w.heap.size + 2, 0, none⟩) → a.tmps[5]?.getD undef = v → a.defers = [] → bodyPost Tryz.prog Tryz.f26 (fun e w' => JnOut ea w w' f s ss cs f' s' ss' cs' e) Exit.ret a (((((z.setCell ⟨w.heap.size + 2, 0, none⟩ (.int .i64 0)).setCell ⟨w.heap.size + 2, 1, none⟩ (.int .i64 0)).setCell ⟨w.heap.size + 2, 2, none⟩ (.slice none 0 0)).setCell ⟨w.heap.size + 2, 3, none⟩ (.slice none 0 0)).drewN q)) := fun v z C A hz hb hf hC hA hne q a h2 h3 hd => by
    obtain ⟨Z, hZ⟩ : ∃ Z, Z = ((((z.setCell ⟨w.heap.size + 2, 0, none⟩ (.int .i64 0)).setCell ⟨w.heap.size + 2, 1, none⟩ (.int .i64 0)).setCell ⟨w.heap.size + 2, 2, none⟩ (.slice none 0 0)).setCell ⟨w.heap.size + 2, 3, none⟩ (.slice none 0 0)).drewN q := ⟨_, rfl⟩
    rw [← hZ]
    have hz4 : Z.heap[w.heap.size + 2]? = some (.cells #[.int .i64 0, .int .i64 0, .slice none 0 0, .slice none 0 0] 25 (0, 0)) := by rw [hZ]; exact set4 hz _ _ _ _
    have hzb : Below w.heap.size w Z := by rw [hZ]; exact below_draws (set4_below hb (by omega) _ _ _ _) q
    have hfz : FaultV ea Z v C A := by rw [hZ]; exact (fault_set4 hf hz _ _ _ _).below (below_draws (Below.refl _ _) q)
    have z0 : Z.cell? ⟨w.heap.size + 2, 0, none⟩ = some (.int .i64 0) := cells_of hz4 0
    have z1 : Z.cell? ⟨w.heap.size + 2, 1, none⟩ = some (.int .i64 0) := cells_of hz4 1
    have z2 : Z.cell? ⟨w.heap.size + 2, 2, none⟩ = some (.slice none 0 0) := cells_of hz4 2
    have z3 : Z.cell? ⟨w.heap.size + 2, 3, none⟩ = some (.slice none 0 0) := cells_of hz4 3
    clear hZ hz4
    refine bodyPost_ret (v := .tuple #[.agg #[.int .i64 0, .int .i64 0, .slice none 0 0, .slice none 0 0], v]) (by simp [results, Tryz.results26, go_sem, z0, z1, z2, z3, h2, h3]) hd ?_
    rw [← hC, ← hA] at hfz
    exact ⟨v, hzb, hfz, .inr ⟨by rw [hC]; exact hne, rfl⟩⟩
  have hr1 := blrows_any W (E.below hbW hB) (Nat.le_trans hB hbW.size) f s _ _ _ _ ss cs (own_below h1 hbW) (own_below h2 hbW) hss hcs hn hm
  rw [← hn1, ← hn2] at hr1
  have HR1 := (show Hid _ from hr1)
  have HR2 : Hid (∀ z, Below w.heap.size w z → Calls Tryz.prog 54 #[.agg #[.int .i64 f', .int .i64 s', .slice d1 m1 e1, .slice d2 m2 e2]] z fun e w' => RowsOut ea z w' f' s' ss' cs' e) := fun z hz => by
    have := blrows_any z (E.below hz hB) (Nat.le_trans hB hz.size) f' s' _ _ _ _ ss' cs' (own_below h3 hz) (own_below h4 hz) hss' hcs' hn' hm'
    rw [← hm1, ← hm2] at this
    exact this
  have HE := (show Hid _ from E)
  have HBW := (show Hid _ from hbW)
  have HX := (show Hid _ from And.intro hxA (And.intro hxB hxR))
  have x0 := cells_of hxA 0
  have x1 := cells_of hxA 1
  have x2 := cells_of hxA 2
  have x3 := cells_of hxA 3
  simp at x0 x1 x2 x3
  rw [← hn1, ← hn2, ← hm1, ← hm2]
  have HW := (show Hid _ from hW)
  clear hsA hsB hbW hxA hxB hxR hr1 h1 h2 h3 h4 hss hcs hss' hcs' hn hm hn' hm' hn1 hn2 hm1 hm2 E hW
  go_enter Tryz.func26, Tryz.ntmps26
  go_upto_region 1 with fail
  rw [← HW.out]
  go_wp2_with fail
  refine Calls.mono HR1.out ?_
  rintro e w1 ⟨x, v, rfl, hb1, hf1, hg1, hz1⟩
  have HB1 := (show Hid _ from HBW.out.trans (hb1.mono HBW.out.size))
  have hA1 := (hb1.block _ (blk_lt HX.out.1)).trans HX.out.1
  have hB1 := (hb1.block _ (blk_lt HX.out.2.1)).trans HX.out.2.1
  have hR1 := (hb1.block _ (blk_lt HX.out.2.2)).trans HX.out.2.2
  have HX1 := (show Hid _ from And.intro hA1 (And.intro hB1 hR1))
  have HF1 : Hid (FaultV ea w1 v (bkC f s ss cs) (bkA f s ss cs)) := hf1
  by_cases hc1 : bkC f s ss cs = 0
  · obtain rfl := hf1.none hc1
    obtain ⟨xs1, ho1, hrc1⟩ := hg1 hc1
    have HC1 := (show Hid _ from hc1)
    clear x0 x1 x2 x3
    have y0 := cells_of hB1 0
    have y1 := cells_of hB1 1
    have y2 := cells_of hB1 2
    have y3 := cells_of hB1 3
    simp at y0 y1 y2 y3
    have HC2 := (show Hid _ from HR2.out w1 HB1.out)
    have HO1 := (show Hid _ from And.intro ho1 hrc1)
    clear hf1 hg1 hz1 hc1 hA1 hB1 hR1 hb1 HR1 HR2
    dsimp only
    go_wp2_with fail
    refine Calls.mono HC2.out ?_
    rintro e w2 ⟨x', v', rfl, hb2, hf2, hg2, hz2⟩
    have HB2 := (show Hid _ from HB1.out.trans (hb2.mono HB1.out.size))
    have hA2 := (hb2.block _ (blk_lt HX1.out.1)).trans HX1.out.1
    have hB2 := (hb2.block _ (blk_lt HX1.out.2.1)).trans HX1.out.2.1
    have hR2 := (hb2.block _ (blk_lt HX1.out.2.2)).trans HX1.out.2.2
    have HX2 := (show Hid _ from And.intro hA2 (And.intro hB2 hR2))
    have HF2 : Hid (FaultV ea w2 v' (bkC f' s' ss' cs') (bkA f' s' ss' cs')) := hf2
    have p0 := cells_of hR2 0
    have p1 := cells_of hR2 1
    have p2 := cells_of hR2 2
    have p3 := cells_of hR2 3
    simp at p0 p1 p2 p3
    have pf : ∀ k, w2.frozen? ⟨w.heap.size + 2, k, none⟩ = false := fun k => by simp [World.frozen?, hR2]
    by_cases hc2 : bkC f' s' ss' cs' = 0
    · obtain rfl := hf2.none hc2
      obtain ⟨xs2, ho2, hrc2⟩ := hg2 hc2
      obtain ⟨t1, _, t3, t4⟩ := bdE_zero (bk_zero HC1.out).1
      obtain ⟨_, t6, _, _⟩ := bdE_zero (bk_zero hc2).1
      obtain ⟨_, t2, _, _⟩ := bdE_zero (bk_zero HC1.out).1
      obtain ⟨t5, _, _, _⟩ := bdE_zero (bk_zero hc2).1
      clear y0 y1 y2 y3
      have q0 := cells_of hA2 0
      have q1 := cells_of hA2 1
      have r0 := cells_of hB2 0
      have r1 := cells_of hB2 1
      simp at q0 q1 r0 r1
      have HC2' := (show Hid _ from hc2)
      by_cases hfe : f + s = f'
      · have dE : ((f + s) != f') = false := by simpa using hfe
        have HFE := (show Hid _ from hfe)
        obtain ⟨wl1, wf1, wn1, _⟩ := bk_well HC1.out
        obtain ⟨wl2, wf2, wn2, _⟩ := bk_well HC2'.out
        rw [← rowsOf_len wl1] at HO1
        rw [← rowsOf_len wl2] at ho2
        obtain ⟨a6, c6, rfl, P1⟩ := rowsP_of HO1.out.1 HO1.out.2
        obtain ⟨a8, c8, rfl, P2⟩ := rowsP_of ho2 hrc2
        rw [← HFE.out] at wf2
        have hcc : ∀ {g t : Int} {F : List Rw}, WellR g t F → (∀ r, r ∈ F → r.2 ≠ [] ∧ BitsIn r.2) → ∀ r, r ∈ F → r.2 ≠ [] ∧ r.2.length ≤ 120 ∧ r.1.length ≤ 1000 := fun hw hne r hr => ⟨(hne r hr).1, (ptsC_zero (hw.each r hr).2.1).1, (lab_is _ (hw.each r hr).1).2⟩
        have hjr := jn_row wf1 wf2
        have hjl := jn_len wf1 wf2 wn1 wn2
        have hin : ∀ r, r ∈ mergeR (rowsOf ss cs) (rowsOf ss' cs') → PtsIn r.2 ∧ r.1.length ≤ 1000 ∧ r.2.length ≤ 1000 := fun r hr => ⟨fun p hp => by
          have i1 := insB_true.1 (hjr r hr).2.2 p hp
          have i2 := (hjl r hr).2.1 p hp
          omega, (lab_is _ (hjr r hr).1).2, by have := (hjl r hr).2.2; omega⟩
        have HSW : Hid (∀ z, Below w2.heap.size w2 z → z.cell? ⟨w.heap.size, 0, none⟩ = some (.int .i64 f) ∧ z.cell? ⟨w.heap.size, 1, none⟩ = some (.int .i64 s) ∧ z.cell? ⟨w.heap.size + 1, 1, none⟩ = some (.int .i64 s')) := fun z hz => by
          have e1 := (hz.block _ (blk_lt HX2.out.1)).trans HX2.out.1
          have e2 := (hz.block _ (blk_lt HX2.out.2.1)).trans HX2.out.2.1
          exact ⟨cells_of e1 0, cells_of e1 1, cells_of e2 1⟩
        have hfl : full (mergeR (rowsOf ss cs) (rowsOf ss' cs')) = (mergeR (rowsOf ss cs) (rowsOf ss' cs')) := full_full fun r hr => (hjl r hr).1
        have HBO : Hid (∀ z, Below w2.heap.size w2 z → Calls Tryz.prog 59 #[.slice a6 (rowsOf ss cs).length c6, .slice a8 (rowsOf ss' cs').length c8] z fun e z' => ∃ ab cb, e = .returned (.slice ab (mergeR (rowsOf ss cs) (rowsOf ss' cs')).length cb) ∧ Below w2.heap.size w2 z' ∧ Below z.heap.size z z' ∧ RowsP z' ab (mergeR (rowsOf ss cs) (rowsOf ss' cs'))) := fun z hz => by
          refine (both_any z a6 a8 c6 c8 (rowsOf ss cs) (rowsOf ss' cs') ((P1.below hb2).below hz) (P2.below hz) (hcc wf1 wn1) (hcc wf2 wn2) wf1.len wf2.len (List.pairwise_map.1 wf1.up) (List.pairwise_map.1 wf2.up)).mono ?_
          rintro e z' ⟨vb, xb, rfl, hbb, hob, hrb⟩
          obtain ⟨ab, cb, rfl, hpb⟩ := rowsP_of hob hrb
          exact ⟨ab, cb, rfl, hz.trans (hbb.mono hz.size), hbb, hpb⟩
        have HMK : Hid (∀ z ab cb, Below w2.heap.size w2 z → RowsP z ab (mergeR (rowsOf ss cs) (rowsOf ss' cs')) → Calls Tryz.prog 15 #[.int .i64 f, .int .i64 (IntKind.i64.wrap (s + s')), .slice ab (mergeR (rowsOf ss cs) (rowsOf ss' cs')).length cb] z fun e z' => ∃ p q g1 g2 n3 n4 k3 k4 v3, e = .returned (.tuple #[.agg #[.int .i64 p, .int .i64 q, .slice g1 n3 k3, .slice g2 n4 k4], v3]) ∧ Below w2.heap.size w2 z' ∧ Below z.heap.size z z' ∧ JnZ ea w2 z' f (s + s') (mergeR (rowsOf ss cs) (rowsOf ss' cs')) p q (.slice g1 n3 k3) (.slice g2 n4 k4) v3) := fun z ab cb hz hp => by
          rw [IntWalk.i64_in (s + s') (by omega)]
          have hzw : Below w.heap.size w z := HB2.out.trans (hz.mono HB2.out.size)
          refine (blMake_any z (HE.out.below hzw hB) (Nat.le_trans hB hzw.size) f (s + s') ab cb _ hp hin (by
            have hM := jn_cnt wf1 wf2
            omega)).mono ?_
          intro e z' hmo
          obtain ⟨v3, hbm, hff, ⟨h0, u1, u2, rfl, o1, o2⟩ | ⟨h0, rfl⟩⟩ := hmo
          · have h2 := hz.trans (hbm.mono hz.size)
            rw [hfl] at o1 o2
            have o1' := own_mono2 o1 hz.size
            have o2' := own_mono2 o2 hz.size
            obtain ⟨ua, uc, rfl⟩ := own_slice1 o1
            obtain ⟨ub, ud, rfl⟩ := own_slice1 o2
            exact ⟨_, _, _, _, _, _, _, _, _, rfl, h2, hbm, h2, hff, .inl ⟨h0, rfl, rfl, o1', o2'⟩⟩
          · have h2 := hz.trans (hbm.mono hz.size)
            exact ⟨_, _, _, _, _, _, _, _, _, rfl, h2, hbm, h2, hff, .inr ⟨h0, rfl, rfl, rfl, rfl⟩⟩
        have HJ : Hid (jnC f s ss cs f' s' ss' cs' = mkC f (s + s') (mergeR (rowsOf ss cs) (rowsOf ss' cs')) ∧ jnA f s ss cs f' s' ss' cs' = -1 ∧ 0 ≤ mkC f (s + s') (mergeR (rowsOf ss cs) (rowsOf ss' cs'))) := by
          refine ⟨?_, ?_, ?_⟩
          · unfold jnC
            rw [if_neg (fun h => h HC1.out), if_neg (fun h => h HC2'.out), if_neg (fun h => h HFE.out)]
          · unfold jnA
            rw [if_neg (fun h => h HC1.out), if_neg (fun h => h HC2'.out)]
          · rcases jn_mk wf1 wf2 with h | h <;> rw [h] <;> decide
        generalize (rowsOf ss cs).length = l6 at *
        generalize (rowsOf ss' cs').length = l8 at *
        obtain ⟨lm, hlm⟩ : ∃ lm, lm = (mergeR (rowsOf ss cs) (rowsOf ss' cs')).length := ⟨_, rfl⟩
        rw [← hlm] at HBO HMK
        have HLM := (show Hid _ from hlm)
        have HB0 : Hid (Below w2.heap.size w2 w2.drew) := bel_drew (Below.refl _ _)
        clear hf2 hg2 hz2 hc2 hA2 hB2 hR2 hfe hb2 hcc hjr hjl hin P1 P2 wf1 wf2 wn1 wn2 wl1 wl2 ho2 hrc2 hlm HO1 p0 p1 p2 p3 pf hfl
        dsimp only
        go_upto_region 9 with fail
        clear q0 q1 r0 r1
        go_cut [7, 9] from 38 to 51 (fun v7 v9 wz => JnCut ea w2 wz f (s + s') (mergeR (rowsOf ss cs) (rowsOf ss' cs')) v7 v9)
        case first =>
          refine wp_region_S (S := fun z => z.cell? ⟨w.heap.size, 0, none⟩ = some (.int .i64 f) ∧ z.cell? ⟨w.heap.size, 1, none⟩ = some (.int .i64 s) ∧ z.cell? ⟨w.heap.size + 1, 1, none⟩ = some (.int .i64 s')) (by kernel_rfl) 15 (HSW.out _ HB0.out) (fun hHeld => ?_)
          refine wpAnyS_take0D (i := 0) (d := some 39) (v := .pointer (some ⟨w.heap.size, 0, none⟩)) rfl rfl (by kernel_rfl) (by kernel_rfl) (by kernel_rfl) (by kernel_rfl) (fun _ _ _ h => h) (Or.inl ⟨by rfl, ?_⟩) (fun _ => hHeld) ?_
          · intro w _
            go_simp
          try simp only [Act.put, List.setIfInBounds_toArray, List.set_cons_succ, List.set_cons_zero]
          refine wpAnyS_takeD (i := 1) (d := some 40) (v := .int .i64 f) rfl rfl (by kernel_rfl) (by kernel_rfl) (by kernel_rfl) (by kernel_rfl) (by kernel_rfl) (by kernel_rfl) (fun _ _ _ h => h) (Or.inl ⟨by rfl, ?_⟩) hHeld ?_
          · intro w hSw
            obtain ⟨jh0, jh1, jh2⟩ := hSw
            go_simp
          try simp only [Act.put, List.setIfInBounds_toArray, List.set_cons_succ, List.set_cons_zero]
          refine wpAnyS_take0D (i := 2) (d := some 41) (v := .pointer (some ⟨w.heap.size, 1, none⟩)) rfl rfl (by kernel_rfl) (by kernel_rfl) (by kernel_rfl) (by kernel_rfl) (fun _ _ _ h => h) (Or.inl ⟨by rfl, ?_⟩) (fun _ => hHeld) ?_
          · intro w _
            go_simp
          try simp only [Act.put, List.setIfInBounds_toArray, List.set_cons_succ, List.set_cons_zero]
          refine wpAnyS_takeD (i := 3) (d := some 42) (v := .int .i64 s) rfl rfl (by kernel_rfl) (by kernel_rfl) (by kernel_rfl) (by kernel_rfl) (by kernel_rfl) (by kernel_rfl) (fun _ _ _ h => h) (Or.inl ⟨by rfl, ?_⟩) hHeld ?_
          · intro w hSw
            obtain ⟨jh0, jh1, jh2⟩ := hSw
            go_simp
          try simp only [Act.put, List.setIfInBounds_toArray, List.set_cons_succ, List.set_cons_zero]
          refine wpAnyS_take0D (i := 4) (d := some 43) (v := .pointer (some ⟨w.heap.size + 1, 1, none⟩)) rfl rfl (by kernel_rfl) (by kernel_rfl) (by kernel_rfl) (by kernel_rfl) (fun _ _ _ h => h) (Or.inl ⟨by rfl, ?_⟩) (fun _ => hHeld) ?_
          · intro w _
            go_simp
          try simp only [Act.put, List.setIfInBounds_toArray, List.set_cons_succ, List.set_cons_zero]
          refine wpAnyS_takeD (i := 5) (d := some 44) (v := .int .i64 s') rfl rfl (by kernel_rfl) (by kernel_rfl) (by kernel_rfl) (by kernel_rfl) (by kernel_rfl) (by kernel_rfl) (fun _ _ _ h => h) (Or.inl ⟨by rfl, ?_⟩) hHeld ?_
          · intro w hSw
            obtain ⟨jh0, jh1, jh2⟩ := hSw
            go_simp
          try simp only [Act.put, List.setIfInBounds_toArray, List.set_cons_succ, List.set_cons_zero]
          refine wpAnyS_take0D (i := 6) (d := some 45) (v := .int .i64 (IntKind.i64.wrap (s + s'))) rfl rfl (by kernel_rfl) (by kernel_rfl) (by kernel_rfl) (by kernel_rfl) (fun _ _ _ h => h) (Or.inl ⟨by rfl, ?_⟩) (fun _ => hHeld) ?_
          · intro w _
            go_simp
          try simp only [Act.put, List.setIfInBounds_toArray, List.set_cons_succ, List.set_cons_zero]
          refine wpAnyS_take0D (i := 7) (d := some 46) (v := .slice a6 l6 c6) rfl rfl (by kernel_rfl) (by kernel_rfl) (by kernel_rfl) (by kernel_rfl) (fun _ _ _ h => h) (Or.inl ⟨by rfl, ?_⟩) (fun _ => hHeld) ?_
          · intro w _
            go_simp
          try simp only [Act.put, List.setIfInBounds_toArray, List.set_cons_succ, List.set_cons_zero]
          refine wpAnyS_take0D (i := 8) (d := some 47) (v := .slice a8 l8 c8) rfl rfl (by kernel_rfl) (by kernel_rfl) (by kernel_rfl) (by kernel_rfl) (fun _ _ _ h => h) (Or.inl ⟨by rfl, ?_⟩) (fun _ => hHeld) ?_
          · intro w _
            go_simp
          try simp only [Act.put, List.setIfInBounds_toArray, List.set_cons_succ, List.set_cons_zero]
          refine wpAnyS_ready (rs := [9, 14]) (by kernel_rfl) (by simp) ?_
          refine AllReadyS.cons rfl (fun K hK => ?_) (AllReadyS.cons rfl (fun K hK => ?_) AllReadyS.nil)
          · go_simp
            refine Calls.mono (HBO.out _ HB0.out) ?_
            rintro e w3 ⟨ab, cb, rfl, hb3, hs3, hp3⟩
            dsimp only
            refine hK.out _ _ (HSW.out _ hb3) ?_
            clear hK K
            try simp only [Act.put, List.setIfInBounds_toArray, List.set_cons_succ, List.set_cons_zero]
            refine wpAnyS_ready (rs := [10, 14]) (by kernel_rfl) (by simp) ?_
            refine AllReadyS.cons rfl (fun K hK => ?_) (AllReadyS.cons rfl (fun K hK => ?_) AllReadyS.nil)
            · go_simp
              refine Calls.mono (HMK.out _ _ _ hb3 hp3) ?_
              rintro e w4 ⟨p, q, g1, g2, n3, n4, k3, k4, v3, rfl, hb4, hs4, hjz⟩
              dsimp only
              refine hK.out _ _ (HSW.out _ hb4) ?_
              clear hK K
              try simp only [Act.put, List.setIfInBounds_toArray, List.set_cons_succ, List.set_cons_zero]
              refine wpAnyS_take0D (i := 11) (d := some 38) (v := (.tuple #[.agg #[.int .i64 p, .int .i64 q, .slice g1 n3 k3, .slice g2 n4 k4], v3])) rfl rfl (by kernel_rfl) (by kernel_rfl) (by kernel_rfl) (by kernel_rfl) (fun _ _ _ h => h) (Or.inl ⟨by rfl, ?_⟩) (fun _ => HSW.out _ hb4) ?_
              · intro w _
                go_simp
              try simp only [Act.put, List.setIfInBounds_toArray, List.set_cons_succ, List.set_cons_zero]
              refine wpAnyS_take0D (i := 12) (d := some 50) (v := (.agg #[.int .i64 p, .int .i64 q, .slice g1 n3 k3, .slice g2 n4 k4])) rfl rfl (by kernel_rfl) (by kernel_rfl) (by kernel_rfl) (by kernel_rfl) (fun _ _ _ h => h) (Or.inl ⟨by rfl, ?_⟩) (fun _ => HSW.out _ hb4) ?_
              · intro w _
                go_simp
              try simp only [Act.put, List.setIfInBounds_toArray, List.set_cons_succ, List.set_cons_zero]
              refine wpAnyS_take0D (i := 13) (d := some 51) (v := v3) rfl rfl (by kernel_rfl) (by kernel_rfl) (by kernel_rfl) (by kernel_rfl) (fun _ _ _ h => h) (Or.inl ⟨by rfl, ?_⟩) (fun _ => HSW.out _ hb4) ?_
              · intro w _
                go_simp
              try simp only [Act.put, List.setIfInBounds_toArray, List.set_cons_succ, List.set_cons_zero]
              refine wpAnyS_ready (rs := [14]) (by kernel_rfl) (by simp) ?_
              refine AllReadyS.cons rfl (fun K hK => ?_) AllReadyS.nil
              go_simp
              refine hK.out _ _ (HSW.out _ (bel_alloc hb4 (.cells #[.int .i64 0, .int .i64 0, .slice none 0 0, .slice none 0 0] 25))) ?_
              clear hK K
              try simp only [Act.put, List.setIfInBounds_toArray, List.set_cons_succ, List.set_cons_zero]
              have hj0 : (w4.alloc (.cells #[.int .i64 0, .int .i64 0, .slice none 0 0, .slice none 0 0] 25)).heap[w4.heap.size]? = some (.cells #[.int .i64 0, .int .i64 0, .slice none 0 0, .slice none 0 0] 25 (0, 0)) := heap_alloc_new _ _
              have hjw : w2.heap.size ≤ w4.heap.size := (hb4).size
              have hjz0 := hjz.below (bel_alloc (Below.refl _ _) (.cells #[.int .i64 0, .int .i64 0, .slice none 0 0, .slice none 0 0] 25))
              have j0 := cells_of hj0 0
              have j1 := cells_of hj0 1
              have j2 := cells_of hj0 2
              have j3 := cells_of hj0 3
              simp at j0 j1 j2 j3
              have jf : ∀ k, World.frozen? (w4.alloc (.cells #[.int .i64 0, .int .i64 0, .slice none 0 0, .slice none 0 0] 25)) ⟨w4.heap.size, k, none⟩ = false := fun k => frozen_of hj0 k
              refine wpAnyS_ready (rs := [15]) (by kernel_rfl) (by simp) ?_
              refine AllReadyS.last rfl (by kernel_rfl) (fun K hK => ?_) AllReadyS.nil
              have HJC := (show Hid _ from (show JnCut ea w2 _ f (s + s') (mergeR (rowsOf ss cs) (rowsOf ss' cs')) v3 _ from ⟨_, p, q, g1, g2, n3, n4, k3, k4, rfl, heap_alloc_new _ _, hjw, hjz.below (bel_alloc (Below.refl _ _) _)⟩))
              go_simp
              refine hK.out _ _ ?_
              clear hK K
              try simp only [Act.put, List.setIfInBounds_toArray, List.set_cons_succ, List.set_cons_zero]
              refine wpAnyS_ready (rs := [16]) (by kernel_rfl) (by simp) ?_
              refine AllReadyS.last rfl (by kernel_rfl) (fun K hK => ?_) AllReadyS.nil
              go_simp
              refine hK.out _ _ ?_
              clear hK K
              try simp only [Act.put, List.setIfInBounds_toArray, List.set_cons_succ, List.set_cons_zero]
              refine wpAnyS_done (by kernel_rfl) ?_ _
              clear j0 j1 j2 j3 jf
              go_wp2_with fail
              go_meet
              case rel => exact HJC.out
            · go_simp
              refine hK.out _ _ (HSW.out _ (bel_alloc hb3 (.cells #[.int .i64 0, .int .i64 0, .slice none 0 0, .slice none 0 0] 25))) ?_
              clear hK K
              try simp only [Act.put, List.setIfInBounds_toArray, List.set_cons_succ, List.set_cons_zero]
              have hj0 : (w3.alloc (.cells #[.int .i64 0, .int .i64 0, .slice none 0 0, .slice none 0 0] 25)).heap[w3.heap.size]? = some (.cells #[.int .i64 0, .int .i64 0, .slice none 0 0, .slice none 0 0] 25 (0, 0)) := heap_alloc_new _ _
              have hjw : w2.heap.size ≤ w3.heap.size := (hb3).size
              refine wpAnyS_ready (rs := [10]) (by kernel_rfl) (by simp) ?_
              refine AllReadyS.cons rfl (fun K hK => ?_) AllReadyS.nil
              go_simp
              refine Calls.mono (HMK.out _ _ _ (bel_alloc hb3 (.cells #[.int .i64 0, .int .i64 0, .slice none 0 0, .slice none 0 0] 25)) (hp3.below (bel_alloc (Below.refl _ _) _))) ?_
              rintro e w4 ⟨p, q, g1, g2, n3, n4, k3, k4, v3, rfl, hb4, hs4, hjz⟩
              dsimp only
              refine hK.out _ _ (HSW.out _ hb4) ?_
              clear hK K
              try simp only [Act.put, List.setIfInBounds_toArray, List.set_cons_succ, List.set_cons_zero]
              have hj4 := (hs4.block _ (blk_lt hj0)).trans hj0
              refine wpAnyS_take0D (i := 11) (d := some 38) (v := (.tuple #[.agg #[.int .i64 p, .int .i64 q, .slice g1 n3 k3, .slice g2 n4 k4], v3])) rfl rfl (by kernel_rfl) (by kernel_rfl) (by kernel_rfl) (by kernel_rfl) (fun _ _ _ h => h) (Or.inl ⟨by rfl, ?_⟩) (fun _ => HSW.out _ hb4) ?_
              · intro w _
                go_simp
              try simp only [Act.put, List.setIfInBounds_toArray, List.set_cons_succ, List.set_cons_zero]
              refine wpAnyS_take0D (i := 12) (d := some 50) (v := (.agg #[.int .i64 p, .int .i64 q, .slice g1 n3 k3, .slice g2 n4 k4])) rfl rfl (by kernel_rfl) (by kernel_rfl) (by kernel_rfl) (by kernel_rfl) (fun _ _ _ h => h) (Or.inl ⟨by rfl, ?_⟩) (fun _ => HSW.out _ hb4) ?_
              · intro w _
                go_simp
              try simp only [Act.put, List.setIfInBounds_toArray, List.set_cons_succ, List.set_cons_zero]
              refine wpAnyS_take0D (i := 13) (d := some 51) (v := v3) rfl rfl (by kernel_rfl) (by kernel_rfl) (by kernel_rfl) (by kernel_rfl) (fun _ _ _ h => h) (Or.inl ⟨by rfl, ?_⟩) (fun _ => HSW.out _ hb4) ?_
              · intro w _
                go_simp
              try simp only [Act.put, List.setIfInBounds_toArray, List.set_cons_succ, List.set_cons_zero]
              have j0 := cells_of hj4 0
              have j1 := cells_of hj4 1
              have j2 := cells_of hj4 2
              have j3 := cells_of hj4 3
              simp at j0 j1 j2 j3
              have jf : ∀ k, World.frozen? w4 ⟨w3.heap.size, k, none⟩ = false := fun k => frozen_of hj4 k
              refine wpAnyS_ready (rs := [15]) (by kernel_rfl) (by simp) ?_
              refine AllReadyS.last rfl (by kernel_rfl) (fun K hK => ?_) AllReadyS.nil
              have HJC := (show Hid _ from (show JnCut ea w2 _ f (s + s') (mergeR (rowsOf ss cs) (rowsOf ss' cs')) v3 _ from ⟨_, p, q, g1, g2, n3, n4, k3, k4, rfl, _root_.Go.Proofs.YtdlceolmpcjjiaaGreatDoor.set4 hj4 _ _ _ _, hjw, hjz.set4 hj4 hjw _ _ _ _⟩))
              go_simp
              refine hK.out _ _ ?_
              clear hK K
              try simp only [Act.put, List.setIfInBounds_toArray, List.set_cons_succ, List.set_cons_zero]
              refine wpAnyS_ready (rs := [16]) (by kernel_rfl) (by simp) ?_
              refine AllReadyS.last rfl (by kernel_rfl) (fun K hK => ?_) AllReadyS.nil
              go_simp
              refine hK.out _ _ ?_
              clear hK K
              try simp only [Act.put, List.setIfInBounds_toArray, List.set_cons_succ, List.set_cons_zero]
              refine wpAnyS_done (by kernel_rfl) ?_ _
              clear j0 j1 j2 j3 jf
              go_wp2_with fail
              go_meet
              case rel => exact HJC.out
          · go_simp
            refine hK.out _ _ (HSW.out _ (bel_alloc HB0.out (.cells #[.int .i64 0, .int .i64 0, .slice none 0 0, .slice none 0 0] 25))) ?_
            clear hK K
            try simp only [Act.put, List.setIfInBounds_toArray, List.set_cons_succ, List.set_cons_zero]
            have hj0 : (w2.drew.alloc (.cells #[.int .i64 0, .int .i64 0, .slice none 0 0, .slice none 0 0] 25)).heap[w2.heap.size]? = some (.cells #[.int .i64 0, .int .i64 0, .slice none 0 0, .slice none 0 0] 25 (0, 0)) := heap_alloc_new _ _
            have hjw : w2.heap.size ≤ w2.heap.size := (HB0.out).size
            refine wpAnyS_ready (rs := [9]) (by kernel_rfl) (by simp) ?_
            refine AllReadyS.cons rfl (fun K hK => ?_) AllReadyS.nil
            go_simp
            refine Calls.mono (HBO.out _ (bel_alloc HB0.out (.cells #[.int .i64 0, .int .i64 0, .slice none 0 0, .slice none 0 0] 25))) ?_
            rintro e w3 ⟨ab, cb, rfl, hb3, hs3, hp3⟩
            dsimp only
            refine hK.out _ _ (HSW.out _ hb3) ?_
            clear hK K
            try simp only [Act.put, List.setIfInBounds_toArray, List.set_cons_succ, List.set_cons_zero]
            have hj3 := (hs3.block _ (blk_lt hj0)).trans hj0
            refine wpAnyS_ready (rs := [10]) (by kernel_rfl) (by simp) ?_
            refine AllReadyS.cons rfl (fun K hK => ?_) AllReadyS.nil
            go_simp
            refine Calls.mono (HMK.out _ _ _ hb3 hp3) ?_
            rintro e w4 ⟨p, q, g1, g2, n3, n4, k3, k4, v3, rfl, hb4, hs4, hjz⟩
            dsimp only
            refine hK.out _ _ (HSW.out _ hb4) ?_
            clear hK K
            try simp only [Act.put, List.setIfInBounds_toArray, List.set_cons_succ, List.set_cons_zero]
            have hj4 := (hs4.block _ (blk_lt hj3)).trans hj3
            refine wpAnyS_take0D (i := 11) (d := some 38) (v := (.tuple #[.agg #[.int .i64 p, .int .i64 q, .slice g1 n3 k3, .slice g2 n4 k4], v3])) rfl rfl (by kernel_rfl) (by kernel_rfl) (by kernel_rfl) (by kernel_rfl) (fun _ _ _ h => h) (Or.inl ⟨by rfl, ?_⟩) (fun _ => HSW.out _ hb4) ?_
            · intro w _
              go_simp
            try simp only [Act.put, List.setIfInBounds_toArray, List.set_cons_succ, List.set_cons_zero]
            refine wpAnyS_take0D (i := 12) (d := some 50) (v := (.agg #[.int .i64 p, .int .i64 q, .slice g1 n3 k3, .slice g2 n4 k4])) rfl rfl (by kernel_rfl) (by kernel_rfl) (by kernel_rfl) (by kernel_rfl) (fun _ _ _ h => h) (Or.inl ⟨by rfl, ?_⟩) (fun _ => HSW.out _ hb4) ?_
            · intro w _
              go_simp
            try simp only [Act.put, List.setIfInBounds_toArray, List.set_cons_succ, List.set_cons_zero]
            refine wpAnyS_take0D (i := 13) (d := some 51) (v := v3) rfl rfl (by kernel_rfl) (by kernel_rfl) (by kernel_rfl) (by kernel_rfl) (fun _ _ _ h => h) (Or.inl ⟨by rfl, ?_⟩) (fun _ => HSW.out _ hb4) ?_
            · intro w _
              go_simp
            try simp only [Act.put, List.setIfInBounds_toArray, List.set_cons_succ, List.set_cons_zero]
            have j0 := cells_of hj4 0
            have j1 := cells_of hj4 1
            have j2 := cells_of hj4 2
            have j3 := cells_of hj4 3
            simp at j0 j1 j2 j3
            have jf : ∀ k, World.frozen? w4 ⟨w2.heap.size, k, none⟩ = false := fun k => frozen_of hj4 k
            refine wpAnyS_ready (rs := [15]) (by kernel_rfl) (by simp) ?_
            refine AllReadyS.last rfl (by kernel_rfl) (fun K hK => ?_) AllReadyS.nil
            have HJC := (show Hid _ from (show JnCut ea w2 _ f (s + s') (mergeR (rowsOf ss cs) (rowsOf ss' cs')) v3 _ from ⟨_, p, q, g1, g2, n3, n4, k3, k4, rfl, _root_.Go.Proofs.YtdlceolmpcjjiaaGreatDoor.set4 hj4 _ _ _ _, hjw, hjz.set4 hj4 hjw _ _ _ _⟩))
            go_simp
            refine hK.out _ _ ?_
            clear hK K
            try simp only [Act.put, List.setIfInBounds_toArray, List.set_cons_succ, List.set_cons_zero]
            refine wpAnyS_ready (rs := [16]) (by kernel_rfl) (by simp) ?_
            refine AllReadyS.last rfl (by kernel_rfl) (fun K hK => ?_) AllReadyS.nil
            go_simp
            refine hK.out _ _ ?_
            clear hK K
            try simp only [Act.put, List.setIfInBounds_toArray, List.set_cons_succ, List.set_cons_zero]
            refine wpAnyS_done (by kernel_rfl) ?_ _
            clear j0 j1 j2 j3 jf
            go_wp2_with fail
            go_meet
            case rel => exact HJC.out
        case rest =>
          obtain ⟨jb, p, q, g1, g2, n3, n4, k3, k4, rfl, hj, hjw, hjz⟩ := hcut
          have HBC := (show Hid _ from HB2.out.trans (hjz.bel.mono HB2.out.size))
          have hxr := (hjz.bel.block _ (blk_lt HX2.out.2.2)).trans HX2.out.2.2
          have HSJ : Hid (∀ z, Below wc.heap.size wc z → z.cell? ⟨jb, 0, none⟩ = some (.int .i64 p) ∧ z.cell? ⟨jb, 1, none⟩ = some (.int .i64 q) ∧ z.cell? ⟨jb, 2, none⟩ = some (.slice g1 n3 k3) ∧ z.cell? ⟨jb, 3, none⟩ = some (.slice g2 n4 k4)) := fun z hz => by
            have e1 := (hz.block _ (blk_lt hj)).trans hj
            exact ⟨cells_of e1 0, cells_of e1 1, cells_of e1 2, cells_of e1 3⟩
          have HBA := (show Hid _ from lbare_any wc.drew ⟨(HE.out.below (bel_drew HBC.out) hB).ern.typ, HE.out.ern.low⟩ (Nat.le_trans hB (bel_drew HBC.out).size) u7 (mkC f (s + s') (mergeR (rowsOf ss cs) (rowsOf ss' cs'))) (mkA f (s + s') (mergeR (rowsOf ss cs) (rowsOf ss' cs'))) (hjz.flt.below (bel_drew (Below.refl _ _))) HJ.out.2.2)
          have HJZ := (show Hid _ from hjz)
          have HXR := (show Hid _ from hxr)
          clear hj hjz hxr
          go_upto_region 10 with fail
          refine wp_region_S (S := fun z => z.cell? ⟨jb, 0, none⟩ = some (.int .i64 p) ∧ z.cell? ⟨jb, 1, none⟩ = some (.int .i64 q) ∧ z.cell? ⟨jb, 2, none⟩ = some (.slice g1 n3 k3) ∧ z.cell? ⟨jb, 3, none⟩ = some (.slice g2 n4 k4)) (by kernel_rfl) 3 (HSJ.out _ (bel_drew (Below.refl _ _))) (fun hHeld => ?_)
          refine wpAnyS_takeD (i := 0) (d := some 52) (v := (.agg #[.int .i64 p, .int .i64 q, .slice g1 n3 k3, .slice g2 n4 k4])) rfl rfl (by kernel_rfl) (by kernel_rfl) (by kernel_rfl) (by kernel_rfl) (by kernel_rfl) (by kernel_rfl) (fun _ _ _ h => h) (Or.inl ⟨by rfl, ?_⟩) hHeld ?_
          · intro w hSw
            obtain ⟨jh0, jh1, jh2, jh3⟩ := hSw
            go_simp
          try simp only [Act.put, List.setIfInBounds_toArray, List.set_cons_succ, List.set_cons_zero]
          refine wpAnyS_take0D (i := 1) (d := some 53) (v := u7) rfl rfl (by kernel_rfl) (by kernel_rfl) (by kernel_rfl) (by kernel_rfl) (fun _ _ _ h => h) (Or.inl ⟨by rfl, ?_⟩) (fun _ => hHeld) ?_
          · intro w _
            go_simp
          try simp only [Act.put, List.setIfInBounds_toArray, List.set_cons_succ, List.set_cons_zero]
          refine wpAnyS_ready (rs := [2]) (by kernel_rfl) (by simp) ?_
          refine AllReadyS.cons rfl (fun K hK => ?_) AllReadyS.nil
          go_simp
          refine Calls.mono HBA.out ?_
          rintro e w7 ⟨v', rfl, hb7, hf7⟩
          dsimp only
          have hb7' : Below wc.heap.size wc w7 := (bel_drew (Below.refl _ _)).trans hb7
          refine hK.out _ _ (HSJ.out _ hb7') ?_
          clear hK K
          try simp only [Act.put, List.setIfInBounds_toArray, List.set_cons_succ, List.set_cons_zero]
          have hx7 := (hb7'.block _ (blk_lt HXR.out)).trans HXR.out
          have z0 := cells_of hx7 0
          have z1 := cells_of hx7 1
          have z2 := cells_of hx7 2
          have z3 := cells_of hx7 3
          simp at z0 z1 z2 z3
          have zf : ∀ k, w7.frozen? ⟨w.heap.size + 2, k, none⟩ = false := fun k => frozen_of hx7 k
          refine wpAnyS_ready (rs := [3]) (by kernel_rfl) (by simp) ?_
          refine AllReadyS.last rfl (by kernel_rfl) (fun K hK => ?_) AllReadyS.nil
          go_simp
          refine hK.out _ _ ?_
          clear hK K
          try simp only [Act.put, List.setIfInBounds_toArray, List.set_cons_succ, List.set_cons_zero]
          refine wpAnyS_ready (rs := [4]) (by kernel_rfl) (by simp) ?_
          refine AllReadyS.last rfl (by kernel_rfl) (fun K hK => ?_) AllReadyS.nil
          go_simp
          refine hK.out _ _ ?_
          clear hK K
          try simp only [Act.put, List.setIfInBounds_toArray, List.set_cons_succ, List.set_cons_zero]
          refine wpAnyS_done (by kernel_rfl) ?_ _
          have HY : Hid (∀ a : Act, a.tmps[4]?.getD undef = .pointer (some ⟨w.heap.size + 2, 0, none⟩) → a.tmps[5]?.getD undef = v' → a.defers = [] → bodyPost Tryz.prog Tryz.f26 (fun e w' => JnOut ea w w' f s ss cs f' s' ss' cs' e) Exit.ret a ((((w7.setCell ⟨w.heap.size + 2, 0, none⟩ (.int .i64 p)).setCell ⟨w.heap.size + 2, 1, none⟩ (.int .i64 q)).setCell ⟨w.heap.size + 2, 2, none⟩ (.slice g1 n3 k3)).setCell ⟨w.heap.size + 2, 3, none⟩ (.slice g2 n4 k4))) := fun a h4 h5 hd => by
            obtain ⟨Z, hZ⟩ : ∃ Z, Z = ((((w7.setCell ⟨w.heap.size + 2, 0, none⟩ (.int .i64 p)).setCell ⟨w.heap.size + 2, 1, none⟩ (.int .i64 q)).setCell ⟨w.heap.size + 2, 2, none⟩ (.slice g1 n3 k3)).setCell ⟨w.heap.size + 2, 3, none⟩ (.slice g2 n4 k4)) := ⟨_, rfl⟩
            rw [← hZ]
            have hz4 : Z.heap[w.heap.size + 2]? = some (.cells #[.int .i64 p, .int .i64 q, .slice g1 n3 k3, .slice g2 n4 k4] 25 (0, 0)) := by rw [hZ]; exact set4 hx7 _ _ _ _
            have hzb : Below w.heap.size w Z := by rw [hZ]; exact set4_below (HBC.out.trans (hb7'.mono HBC.out.size)) (by omega) _ _ _ _
            have hfz : FaultV ea Z v' (jnC f s ss cs f' s' ss' cs') (jnA f s ss cs f' s' ss' cs') := by rw [hZ, HJ.out.1, HJ.out.2.1]; exact fault_set4 hf7 hx7 _ _ _ _
            have hres := (HJZ.out.below hb7').res
            have z0 : Z.cell? ⟨w.heap.size + 2, 0, none⟩ = some (.int .i64 p) := cells_of hz4 0
            have z1 : Z.cell? ⟨w.heap.size + 2, 1, none⟩ = some (.int .i64 q) := cells_of hz4 1
            have z2 : Z.cell? ⟨w.heap.size + 2, 2, none⟩ = some (.slice g1 n3 k3) := cells_of hz4 2
            have z3 : Z.cell? ⟨w.heap.size + 2, 3, none⟩ = some (.slice g2 n4 k4) := cells_of hz4 3
            refine bodyPost_ret (v := .tuple #[.agg #[.int .i64 p, .int .i64 q, .slice g1 n3 k3, .slice g2 n4 k4], v']) (by simp [results, Tryz.results26, go_sem, z0, z1, z2, z3, h4, h5]) hd ?_
            refine ⟨v', hzb, hfz, ?_⟩
            rcases hres with ⟨h0, hp, hq, o1, o2⟩ | ⟨h0, hp, hq, u1, u2⟩
            · refine .inl ⟨HJ.out.1.trans h0, _, _, by rw [hp, hq], ?_, ?_⟩
              · rw [hZ]; exact own_mono2 (own_set4 o1 hx7 (by decide) _ _ _ _) HB2.out.size
              · rw [hZ]; exact own_mono2 (own_set4 o2 hx7 (by decide) _ _ _ _) HB2.out.size
            · refine .inr ⟨fun h => h0 (HJ.out.1.symm.trans h), ?_⟩
              rw [hp, hq, u1, u2]
          clear hb7 hf7 hb7' hx7 z0 z1 z2 z3 zf HSJ HBA
          go_wp2
          exact HY.out _ rfl rfl rfl
      · have dE : ((f + s) != f') = true := by simpa using hfe
        have HJ : Hid (jnC f s ss cs f' s' ss' cs' = 3 ∧ jnA f s ss cs f' s' ss' cs' = -1) := by
          show _ ∧ _
          unfold jnC jnA
          rw [if_neg (fun h => h HC1.out), if_neg (fun h => h hc2), if_pos hfe, if_neg (fun h => h HC1.out), if_neg (fun h => h hc2)]
          exact ⟨rfl, rfl⟩
        have g2 := (HE.out.below HB2.out hB).c2
        have hgl := World.block_lt_of_cell? w ⟨2, 0, none⟩ HE.out.c2
        have hgn : ¬(2 = w.heap.size + 1 + 1) := by show ¬(_ = _); have : 2 < w.heap.size := hgl; omega
        have hgm : ¬(w.heap.size + 1 + 1 = 2) := fun e => hgn e.symm
        clear hf2 hg2 hz2 hc2 hA2 hB2 hR2 hfe hb2
        dsimp only
        go_wp2_with fail
        go_region
        all_goals
          go_wp2
          exact HZ.out _ w2 3 (-1) HX2.out.2.2 HB2.out (FaultV.es 2 (by decide) rfl) HJ.out.1 HJ.out.2 (by decide) 1 _ rfl rfl rfl
    · obtain ⟨tv, pv, rfl⟩ := hf2.pos hc2
      have HJ : Hid (jnC f s ss cs f' s' ss' cs' = bkC f' s' ss' cs' ∧ jnA f s ss cs f' s' ss' cs' = bkA f' s' ss' cs') := by
        show _ ∧ _
        unfold jnC jnA
        rw [if_neg (fun h => h HC1.out), if_pos hc2, if_neg (fun h => h HC1.out), if_pos hc2]
        exact ⟨rfl, rfl⟩
      have HC2' := (show Hid _ from hc2)
      clear hf2 hg2 hz2 hc2 hA2 hB2 hR2 hb2 y0 y1 y2 y3
      dsimp only
      go_wp2
      exact HZ.out _ w2 _ _ HX2.out.2.2 HB2.out HF2.out HJ.out.1 HJ.out.2 HC2'.out 0 _ rfl rfl rfl
  · obtain ⟨tv, pv, rfl⟩ := hf1.pos hc1
    have HJ : Hid (jnC f s ss cs f' s' ss' cs' = bkC f s ss cs ∧ jnA f s ss cs f' s' ss' cs' = bkA f s ss cs) := by
      show _ ∧ _
      unfold jnC jnA
      rw [if_pos hc1, if_pos hc1]
      exact ⟨rfl, rfl⟩
    have HC1 := (show Hid _ from hc1)
    have p0 := cells_of hR1 0
    have p1 := cells_of hR1 1
    have p2 := cells_of hR1 2
    have p3 := cells_of hR1 3
    simp at p0 p1 p2 p3
    have pf : ∀ k, w1.frozen? ⟨w.heap.size + 2, k, none⟩ = false := fun k => by simp [World.frozen?, hR1]
    clear hf1 hg1 hz1 hc1 hA1 hB1 hR1 hb1 HR1 HR2
    dsimp only
    go_wp2
    exact HZ.out _ w1 _ _ HX1.out.2.2 HB1.out HF1.out HJ.out.1 HJ.out.2 HC1.out 0 _ rfl rfl rfl
end Go.Proofs.YtdlceolmpcjjiaaGreatDoor
