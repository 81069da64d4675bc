/- label's Text by its contract. -/
import Derived.Test.YtlbdjkeaohdjkabDoorLabCheck
import Derived.Test.YtlbdjkeaohdjkabDoorLabBuild
import Derived.Test.YtlbdjkeaohdjkabDoorRefText
namespace Go.Proofs.YtlbdjkeaohdjkabDoor
open Go.RowKit LabMath

set_option maxRecDepth 1000000 in
theorem ltext_none (w : World) (la : Option Addr) (c : Nat) (a : Addr) (hE : w.cell? ⟨0, 0, none⟩ = some (.iface 264 (.pointer (some a)))) :
    Calls Tryd.prog 15 #[.slice la 0 c] w fun e w' => e = .returned (.tuple #[.string ⟨#[]⟩, .iface 264 (.pointer (some a))]) ∧ w' = w := by
  have HC : Hid _ := lcheck_none w la c a hE
  go_enter Tryd.func15, Tryd.ntmps15
  go_wp2_with fail
  refine Calls.mono HC.out ?_
  rintro e w1 ⟨rfl, hw1⟩
  have hw1' := hw1.symm
  subst hw1'
  go_wp2
  go_ret2
  exact ⟨rfl, rfl⟩
set_option maxRecDepth 1000000 in
theorem ltext_many (w : World) (la : Option Addr) (n c : Nat) (hn : 6 < n) (hn2 : (n : Int) ≤ 9223372036854775807) (a : Addr) (hE : w.cell? ⟨1, 0, none⟩ = some (.iface 264 (.pointer (some a)))) :
    Calls Tryd.prog 15 #[.slice la n c] w fun e w' => e = .returned (.tuple #[.string ⟨#[]⟩, .iface 264 (.pointer (some a))]) ∧ w' = w := by
  have HC : Hid _ := lcheck_many w la n c hn hn2 a hE
  go_enter Tryd.func15, Tryd.ntmps15
  go_wp2_with fail
  refine Calls.mono HC.out ?_
  rintro e w1 ⟨rfl, hw1⟩
  have hw1' := hw1.symm
  subst hw1'
  go_wp2
  go_ret2
  exact ⟨rfl, rfl⟩

/-- What Text answers of one to six labels. -/
def LTxtOut (w w' : World) (N V : Nat → ByteArray) (m n : Nat) (aN aS : Addr) (e : Ending) : Prop :=
  Below w.heap.size w w' ∧ ((m = n ∧ e = .returned (.tuple #[.string (textTo N V n), .nilIface])) ∨ (m < n ∧ ∃ pb : Nat, e = .returned (.tuple #[.string ⟨#[]⟩, .iface 123 (.pointer (some ⟨pb, 0, none⟩))]) ∧ w.heap.size ≤ pb ∧ w'.cell? ⟨pb, 0, none⟩ = some (.int .i64 (m : Int)) ∧ w'.cell? ⟨pb, 1, none⟩ = some (.iface 264 (.pointer (some (if (isName (N m) && isWord (V m)) = true then aS else aN))))))

theorem lab_size (N V : Nat → ByteArray) (i : Nat) (h : labOk N V i = true) : (N i).size ≤ 12 ∧ (V i).size ≤ 12 := by
  unfold labOk at h
  rw [Bool.and_eq_true, Bool.and_eq_true] at h
  have hn : isWord (N i) = true := by
    have h1 := h.1.1
    unfold isName at h1
    rw [Bool.and_eq_true] at h1
    exact h1.1
  exact ⟨(word_size _ hn).2, (word_size _ h.1.2).2⟩

set_option maxRecDepth 1000000 in
set_option maxHeartbeats 2000000 in
theorem ltext_any (w : World) (la : Option Addr) (n c : Nat) (N V : Nat → ByteArray) (hP : Labs w la n N V) (hsz : ∀ i, i < n → (N i).size ≤ 1000000 ∧ (V i).size ≤ 1000000) (h0 : 1 ≤ n) (hn : n ≤ 6) (m : Nat) (hm : m ≤ n) (hok : ∀ i, i < m → labOk N V i = true) (hbad : m < n → labOk N V m = false)
    (aN aS : Addr) (hEN : w.cell? ⟨2, 0, none⟩ = some (.iface 264 (.pointer (some aN)))) (hES : w.cell? ⟨3, 0, none⟩ = some (.iface 264 (.pointer (some aS)))) :
    Calls Tryd.prog 15 #[.slice la n c] w fun e w' => LTxtOut w w' N V m n aN aS e := by
  have HC : Hid _ := lcheck_any w la n c N V hP hsz h0 hn m hm hok hbad aN aS hEN hES
  have HP : Hid (Labs w la n N V) := hP
  have HSZ : Hid (m = n → ∀ i, i < n → (N i).size ≤ 12 ∧ (V i).size ≤ 12) := fun e i hi => lab_size N V i (hok i (by omega))
  clear hP hsz hok hbad hEN hES
  go_enter Tryd.func15, Tryd.ntmps15
  go_wp2_with fail
  refine Calls.mono HC.out ?_
  rintro e w1 ⟨hb1, ⟨hmn, rfl⟩ | ⟨hmn, pb, rfl, hpb, p0, p1⟩⟩
  · subst hmn
    have HB1 := (show Hid _ from hb1)
    have hs1 := hb1.size
    obtain ⟨W, hW⟩ : ∃ W, W = w1.alloc (.cells #[.pointer none, .slice none 0 0] 116) := ⟨_, rfl⟩
    have HW : Hid (∀ wx, wx = w1.alloc (.cells #[.pointer none, .slice none 0 0] 116) → wx = W) := fun wx h => h.trans hW.symm
    have hWs : W.heap.size = w1.heap.size + 1 := by rw [hW]; simp
    have hWB : Below w1.heap.size w1 W := by rw [hW]; exact (Below.refl _ _).alloc (Nat.le_refl _) _
    have HIB : Hid (Lib.IsBuilder 116 5 w1.heap.size w1.heap.size (Lib.strCells (textTo N V 0)) W) := by
      refine .inl ⟨Nat.le_refl _, .slice none 0 0, ?_, ?_, by simp [Value.ownBlock]⟩
      · rw [hW]; exact heap_alloc_new _ _
      · exact ⟨by simp [Lib.strCells, textTo], .inl ⟨rfl, rfl⟩⟩
    have HWB : Hid (Below w.heap.size w W) := hb1.trans (hWB.mono hs1)
    have HZ := HSZ.out rfl
    have HSZ' := (show Hid _ from HZ)
    clear hW hb1 hWB HZ HSZ HC
    go_wp2_with fail
    rw [HW.out _ rfl]
    go_loopw [6, 7, 15] (fun _ _ i wr => ∃ k : Nat, k ≤ m ∧ i = .int .i64 k ∧ Below w.heap.size w wr ∧ Lib.IsBuilder 116 5 w1.heap.size w1.heap.size (Lib.strCells (textTo N V k)) wr ∧ w1.heap.size < wr.heap.size) (fun _ _ i _ => m - (intOf i).toNat)
    case atStart => exact ⟨0, Nat.zero_le _, rfl, HWB.out, HIB.out, by omega⟩
    case round =>
      obtain ⟨k, hk, rfl, hbr, hib, hlt1⟩ := hrel
      by_cases hkn : k < m
      · obtain ⟨lb, lo, rfl, hcs⟩ := HP.out.at k hkn
        obtain ⟨c0, c1⟩ := hcs k hkn
        have hlb : lb < w.heap.size := World.block_lt_of_cell? w ⟨lb, _, none⟩ c0
        have hk0 : (0 : Int) ≤ (k : Int) := by omega
        have hk1 : (k : Int) < (m : Int) := by omega
        have e0 : wr.cell? ⟨lb, lo + k * 2, none⟩ = some (.string (N k)) := (hbr.cell (p := ⟨lb, _, none⟩) hlb).trans c0
        have e1 : wr.cell? ⟨lb, lo + k * 2 + 1, none⟩ = some (.string (V k)) := (hbr.cell (p := ⟨lb, _, none⟩) hlb).trans c1
        have hz := HSZ'.out k hkn
        have hts := textTo_size N V m 12 HSZ'.out k (by omega)
        have hbl : (Lib.strCells (textTo N V k)).length = (textTo N V k).size := Lib.strCells_length _
        have hlw : lb ≠ wr.heap.size := by omega
        have hst : textTo N V (k + 1) = (if k = 0 then textTo N V k else textTo N V k ++ ⟨#[44]⟩) ++ N k ++ ⟨#[61]⟩ ++ V k := rfl
        have HST := (show Hid _ from hst)
        have HBR := (show Hid _ from hbr)
        have HIB2 := (show Hid _ from hib)
        have h61 : (⟨#[61]⟩ : ByteArray).size = 1 := rfl
        have h44 : (⟨#[44]⟩ : ByteArray).size = 1 := rfl
        clear hcs c0 c1 hst hbr hib HIB HWB
        obtain ⟨L, hL⟩ : ∃ L, L = wr.alloc (.cells #[.string (N k), .string (V k)] 49) := ⟨_, rfl⟩
        have HL := (show Hid _ from hL)
        have hLs : L.heap.size = wr.heap.size + 1 := by rw [hL]; simp
        have hLb : L.heap[wr.heap.size]? = some (.cells #[.string (N k), .string (V k)] 49 (0, 0)) := by rw [hL]; exact heap_alloc_new _ _
        have HLB := (show Hid _ from hLb)
        have HLI : Hid (Lib.IsBuilder 116 5 w1.heap.size w1.heap.size (Lib.strCells (textTo N V k)) L) := by rw [hL]; exact builder_alloc HIB2.out _
        have HLW : Hid (Below w.heap.size w L) := by rw [hL]; exact HBR.out.alloc (by omega) _
        clear hL hLb
        by_cases hz0 : k = 0
        · subst hz0
          have e00 : wr.cell? ⟨lb, lo, none⟩ = some (.string (N 0)) := by simpa using e0
          have e11 : wr.cell? ⟨lb, lo + 1, none⟩ = some (.string (V 0)) := by simpa using e1
          clear e0 e1
          have HWR : Hid _ := bWrite_any w1.heap.size w1.heap.size _ (N 0 ++ ⟨#[61]⟩ ++ V 0) L HLI.out (by rw [hbl]; simp only [ByteArray.size_append, h61]; omega) (by omega)
          go_wp2_with fail
          rw [← HL.out]
          refine Calls.mono HWR.out ?_
          rintro e w2 ⟨rfl, hbu, hb2, ho2⟩
          have hs2 := hb2.size
          have HB2 := (show Hid _ from hb2)
          have HBU := (show Hid _ from hbu)
          clear hb2 hbu ho2
          go_wp2
          go_roundw
          case rel =>
            refine ⟨1, by omega, by go_num, HLW.out.trans (HB2.out.mono hs1), .inr ?_, by omega⟩
            have : Lib.strCells (textTo N V 1) = Lib.strCells (textTo N V 0) ++ Lib.strCells (N 0 ++ ⟨#[61]⟩ ++ V 0) := by
              rw [HST.out]
              simp [Lib.strCells, ByteArray.data_append]
            rw [this]
            exact HBU.out
          case measure => simp [intOf] <;> omega
        · have d0 : decide ((0 : Int) < (k : Int)) = true := by simp; omega
          have HWR1 : Hid _ := bWrite_any w1.heap.size w1.heap.size _ ⟨#[44]⟩ L HLI.out (by rw [hbl, h44]; omega) (by omega)
          go_wp2_with fail
          rw [← HL.out]
          refine Calls.mono HWR1.out ?_
          rintro e w2 ⟨rfl, hbu, hb2, ho2⟩
          have hs2 := hb2.size
          have hl2 := ho2 _ _ _ _ HLB.out (by decide) (by decide)
          have f0 : w2.cell? ⟨wr.heap.size, 0, none⟩ = some (.string (N k)) := by simp [World.cell?, hl2]
          have f1 : w2.cell? ⟨wr.heap.size, 1, none⟩ = some (.string (V k)) := by simp [World.cell?, hl2]
          have HB2 := (show Hid _ from hb2)
          have HWR2 : Hid _ := bWrite_any w1.heap.size w1.heap.size _ (N k ++ ⟨#[61]⟩ ++ V k) w2 (.inr hbu) (by rw [List.length_append, hbl, Lib.strCells_length]; simp only [ByteArray.size_append, h61, h44]; omega) (by omega)
          clear hb2 hbu ho2 hl2
          go_wp2_with fail
          refine Calls.mono HWR2.out ?_
          rintro e w3 ⟨rfl, hbu, hb3, ho3⟩
          have hs3 := hb3.size
          have HB3 := (show Hid _ from hb3)
          have HBU := (show Hid _ from hbu)
          clear hb3 hbu ho3
          go_wp2
          go_roundw
          case rel =>
            refine ⟨k + 1, by omega, by go_num, (HLW.out.trans (HB2.out.mono hs1)).trans (HB3.out.mono hs1), .inr ?_, by omega⟩
            have : Lib.strCells (textTo N V (k + 1)) = Lib.strCells (textTo N V k) ++ Lib.strCells ⟨#[44]⟩ ++ Lib.strCells (N k ++ ⟨#[61]⟩ ++ V k) := by
              rw [HST.out, if_neg hz0]
              simp [Lib.strCells, ByteArray.data_append]
            rw [this]
            exact HBU.out
          case measure => simp [intOf] <;> omega
      · have hkm : k = m := by omega
        subst hkm
        have hge : (k : Int) ≤ (k : Int) := by omega
        have hne : (textTo N V k).data.toList ≠ [] := by
          obtain ⟨j, rfl⟩ : ∃ j, k = j + 1 := ⟨k - 1, by omega⟩
          rw [textTo]
          simp [ByteArray.data_append]
        have HS : Hid _ := bString_any w1.heap.size w1.heap.size (textTo N V k).data.toList wr hib hne
        have HBR := (show Hid _ from hbr)
        clear hbr hib HIB HWB
        go_wp2_with fail
        refine Calls.mono HS.out ?_
        rintro e w2 ⟨rfl, hb2⟩
        have HB2 := (show Hid _ from hb2)
        clear hb2
        go_wp2
        go_ret2
        exact ⟨HBR.out.trans (HB2.out.mono hs1), .inl ⟨rfl, rfl⟩⟩
  · have HB1 := (show Hid _ from hb1)
    have HX := (show Hid _ from And.intro hpb (And.intro p0 p1))
    clear hb1 p0 p1
    go_wp2
    go_ret2
    exact ⟨HB1.out, .inr ⟨hmn, pb, rfl, HX.out.1, HX.out.2.1, HX.out.2.2⟩⟩
end Go.Proofs.YtlbdjkeaohdjkabDoor
