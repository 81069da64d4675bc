/- label's Fits by its contract. -/
import Derived.Test.YtnjmplmogibgfabDoorLabFaultGroup
import Derived.Test.YtnjmplmogibgfabDoorRefLabelGroup
import Derived.Sort.Walk0
import Derived.Deep.QuietTactic
import Derived.BigQuiet
import Derived.Deep.RegionHeld3
namespace Go.Proofs.YtnjmplmogibgfabDoor
open Go.RowKit LabMath

set_option maxRecDepth 1000000 in
theorem hasPrefix_any (v y : ByteArray) (w : World) :
    Calls Tryd.prog 119 #[.string v, .string y] w fun e w' => e = .returned (.bool (decide (y.size ≤ v.size) && ((v.extract 0 y.size).toList == y.toList))) ∧ w' = w := by
  have HI : Hid (Calls Tryd.prog 155 #[.string v, .string y] w fun e w' => e = .returned (.bool (decide (y.size ≤ v.size) && ((v.extract 0 y.size).toList == y.toList))) ∧ w' = w) := by
    show Calls _ _ _ _ _
    by_cases h : y.size ≤ v.size
    · have d : decide ((y.size : Int) ≤ (v.size : Int)) = true := by simp; omega
      have dI : (y.size : Int) ≤ (v.size : Int) := by omega
      have d0 : (0 : Int) ≤ (y.size : Int) := by omega
      have HD : Hid (decide (y.size ≤ v.size) = true) := decide_eq_true h
      go_enter Tryd.func155, Tryd.ntmps155
      go_wp2
      go_ret
      exact ⟨by rw [HD.out]; rfl, rfl⟩
    · have d : decide ((y.size : Int) ≤ (v.size : Int)) = false := by simp; omega
      have HD : Hid (decide (y.size ≤ v.size) = false) := decide_eq_false h
      go_enter Tryd.func155, Tryd.ntmps155
      go_wp2
      go_ret
      exact ⟨by rw [HD.out]; rfl, rfl⟩
  go_enter Tryd.func119, Tryd.ntmps119
  go_wp2_with fail
  refine Calls.mono HI.out ?_
  rintro e w1 ⟨rfl, hw1⟩
  have hw1' := hw1.symm
  subst hw1'
  go_wp2
  go_ret
  exact ⟨rfl, rfl⟩

/-- The value of a name: the first label's. -/
noncomputable def valF (N V : Nat → ByteArray) (x : ByteArray) (n : Nat) : ByteArray := if badAt (fun i => !((N i).toList == x.toList)) n < n then V (badAt (fun i => !((N i).toList == x.toList)) n) else ⟨#[]⟩

set_option maxRecDepth 1000000 in
set_option maxHeartbeats 1000000 in
theorem valueOf_any (w : World) (la : Option Addr) (n c : Nat) (N V : Nat → ByteArray) (hP : Labs w la n N V) (hn : n ≤ 1000) (x : ByteArray) :
    Calls Tryd.prog 77 #[.slice la n c, .string x] w fun e w' => e = .returned (.string (valF N V x n)) ∧ Below w.heap.size w w' := by
  have HP : Hid (Labs w la n N V) := hP
  obtain ⟨g, g1, g2⟩ := badAt_spec (fun i => !((N i).toList == x.toList)) n
  have HV : Hid (valF N V x n = if badAt (fun i => !((N i).toList == x.toList)) n < n then V (badAt (fun i => !((N i).toList == x.toList)) n) else ⟨#[]⟩) := rfl
  generalize badAt (fun i => !((N i).toList == x.toList)) n = m at *
  have HG1 := (show Hid _ from g1)
  have HG2 := (show Hid _ from g2)
  clear hP g1 g2
  go_enter Tryd.func77, Tryd.ntmps77
  go_wp2_with fail
  go_loopw [6, 9, 10] (fun _ i _ wr => ∃ k : Nat, k ≤ m ∧ i = .int .i64 k ∧ Below w.heap.size w wr) (fun _ i _ _ => n - (intOf i).toNat)
  case atStart => exact ⟨0, Nat.zero_le _, rfl, Below.refl _ _⟩
  case round =>
    obtain ⟨k, hk, rfl, hbr⟩ := hrel
    by_cases hkn : k < n
    · obtain ⟨lb, lo, rfl, hcs⟩ := HP.out.at k hkn
      obtain ⟨c0, c1⟩ := hcs k hkn
      have hlb : lb < w.heap.size := World.block_lt_of_cell? w ⟨lb, _, none⟩ c0
      have hk0 : (0 : Int) ≤ (k : Int) := by omega
      have hk1 : (k : Int) < (n : Int) := by omega
      have e0 : wr.cell? ⟨lb, lo + k * 2, none⟩ = some (.string (N k)) := (hbr.cell (p := ⟨lb, _, none⟩) hlb).trans c0
      have e1 : wr.cell? ⟨lb, lo + k * 2 + 1, none⟩ = some (.string (V k)) := (hbr.cell (p := ⟨lb, _, none⟩) hlb).trans c1
      have HBR := (show Hid _ from hbr)
      have hwl := hbr.size
      clear hcs c0 c1 hbr
      cases hq : ((N k).toList == x.toList) with
      | true =>
        have hkm : k = m := by
          rcases Nat.lt_or_ge k m with h | h
          · have := HG1.out k h
            rw [hq] at this
            cases this
          · omega
        have HR : Hid (valF N V x n = V k) := by show _ = _; rw [HV.out, ← hkm, if_pos hkn]
        clear HV HG1 HG2
        obtain ⟨t1, ht1⟩ : ∃ t1, N k = t1 := ⟨_, rfl⟩
        obtain ⟨t2, ht2⟩ : ∃ t2, V k = t2 := ⟨_, rfl⟩
        rw [ht1] at e0 hq
        rw [ht2] at e1 HR
        clear ht1 ht2 hkm
        go_wp2
        go_ret
        exact ⟨by rw [HR.out]; rfl, HBR.out.alloc hwl _⟩
      | false =>
        have hkm : k < m := by
          rcases Nat.lt_or_ge k m with h | h
          · exact h
          · exfalso
            have hme : m = k := by omega
            have := HG2.out (by omega)
            rw [hme, hq] at this
            cases this
        obtain ⟨t1, ht1⟩ : ∃ t1, N k = t1 := ⟨_, rfl⟩
        obtain ⟨t2, ht2⟩ : ∃ t2, V k = t2 := ⟨_, rfl⟩
        rw [ht1] at e0 hq
        rw [ht2] at e1
        clear ht1 ht2
        go_wp2
        go_roundw
        case rel => exact ⟨k + 1, by omega, by go_num, HBR.out.alloc hwl _⟩
        case measure => simp [intOf] <;> omega
    · have hge : (n : Int) ≤ (k : Int) := by omega
      have HR : Hid (valF N V x n = ⟨#[]⟩) := by show _ = _; rw [HV.out, if_neg (by omega)]
      have HBR := (show Hid _ from hbr)
      clear hbr HV
      go_wp2
      go_ret
      exact ⟨by rw [HR.out]; rfl, HBR.out⟩

theorem lab_less (N V : Nat → ByteArray) (n : Nat) (hok : ∀ i, i < n → labOk N V i = true) : ∀ j, j < n → ∀ i, i < j → (N i).toList < (N j).toList := by
  have step : ∀ j, j + 1 < n → (N j).toList < (N (j + 1)).toList := fun j hj => by
    have h := hok (j + 1) hj
    unfold labOk at h
    rw [Bool.and_eq_true] at h
    have h2 := h.2
    simp [leS] at h2
    obtain ⟨h3, h4⟩ := h2
    rw [bytesLess_eq] at h3
    have h5 : ¬ (N (j + 1)).toList < (N j).toList := of_decide_eq_false h3
    rcases Std.Trichotomous.rel_or_eq_or_rel_swap (r := (· < · : List UInt8 → List UInt8 → Prop)) (a := (N j).toList) (b := (N (j + 1)).toList) with h6 | h6 | h6
    · exact h6
    · exact absurd h6.symm h4
    · exact absurd h6 h5
  intro j
  induction j with
  | zero => intro _ i hi; omega
  | succ j ih =>
    intro hj i hi
    rcases Nat.lt_or_ge i j with h | h
    · exact List.lt_trans (ih (by omega) i h) (step j hj)
    · have : i = j := by omega
      rw [this]
      exact step j hj
theorem val_same (N V : Nat → ByteArray) (n : Nat) (x : ByteArray) (hok : ∀ i, i < n → labOk N V i = true) : valF N V x n = valTo N V x n := by
  obtain ⟨g, g1, g2⟩ := badAt_spec (fun i => !((N i).toList == x.toList)) n
  unfold valF
  generalize badAt (fun i => !((N i).toList == x.toList)) n = m at *
  have none : ∀ k, k ≤ m → valTo N V x k = ⟨#[]⟩ := fun k => by
    induction k with
    | zero => intro _; rfl
    | succ k ih =>
      intro hk
      have := g1 k (by omega)
      rw [valTo, if_neg (by simpa using this)]
      exact ih (by omega)
  by_cases hmn : m < n
  · rw [if_pos hmn]
    have hm : (N m).toList = x.toList := by simpa using g2 hmn
    have up : ∀ k, m < k → k ≤ n → valTo N V x k = V m := fun k => by
      induction k with
      | zero => intro h; omega
      | succ k ih =>
        intro h1 h2
        rw [valTo]
        rcases Nat.lt_or_ge m k with h | h
        · have hl := lab_less N V n hok k (by omega) m h
          rw [if_neg ?_]
          · exact ih h (by omega)
          · intro e
            have e' : (N k).toList = x.toList := by simpa using e
            rw [hm, e'] at hl
            exact List.lt_irrefl _ hl
        · have : k = m := by omega
          rw [this, if_pos (by simpa using hm)]
    exact (up n hmn (Nat.le_refl _)).symm
  · rw [if_neg hmn]
    exact (none n (by omega)).symm
/-- The fault of matches. -/
noncomputable def mC (K : Nat → Nat) (N : Nat → ByteArray) (n : Nat) : Int := if 6 < n then 2 else if badAt (matOk K N) n < n then (if kindOk (K (badAt (matOk K N) n)) = true then 4 else 11) else 0
noncomputable def mA (K : Nat → Nat) (N : Nat → ByteArray) (n : Nat) : Int := if 6 < n then -1 else if badAt (matOk K N) n < n then (badAt (matOk K N) n : Int) else -1
theorem mC_cases (K : Nat → Nat) (N : Nat → ByteArray) (n : Nat) : 0 ≤ mC K N n ∧ (mC K N n = 0 → n ≤ 6 ∧ ∀ i, i < n → matOk K N i = true) := by
  unfold mC
  by_cases h6 : 6 < n
  · rw [if_pos h6]; exact ⟨by omega, fun h => by omega⟩
  · rw [if_neg h6]
    by_cases hb : badAt (matOk K N) n < n
    · rw [if_pos hb]
      split
      · exact ⟨by omega, fun h => by omega⟩
      · exact ⟨by omega, fun h => by omega⟩
    · rw [if_neg hb]
      obtain ⟨g, g1, g2⟩ := badAt_spec (matOk K N) n
      have hbn : badAt (matOk K N) n = n := by omega
      rw [hbn] at g1
      exact ⟨by omega, fun _ => ⟨by omega, g1⟩⟩
theorem mfault_f (w : World) (la : Option Addr) (n c : Nat) (K : Nat → Nat) (N V : Nat → ByteArray) (hP : Mats w la n K N V) (hsz : ∀ i, i < n → (N i).size ≤ 1000000) (hn : (n : Int) ≤ 9223372036854775807) :
    Calls Tryd.prog 25 #[.slice la n c] w fun e w' => e = .returned (.agg #[.int .i64 (mC K N n), .int .i64 (mA K N n)]) ∧ Below w.heap.size w w' := by
  by_cases h6 : 6 < n
  · refine (matches_many w la n c h6 hn).mono ?_
    rintro e w' ⟨rfl, hb⟩
    exact ⟨by unfold mC mA; rw [if_pos h6, if_pos h6], hb⟩
  · obtain ⟨g, g1, g2⟩ := badAt_spec (matOk K N) n
    exact matches_fault w la n c K N V hP hsz (by omega) _ g g1 g2 _ _ (by unfold mC; rw [if_neg h6]) (by unfold mA; rw [if_neg h6])
end Go.Proofs.YtnjmplmogibgfabDoor
/- label's checkMatches and fits by contracts. -/
namespace Go.Proofs.YtnjmplmogibgfabDoor
open Go.RowKit LabMath

theorem cm_many (w : World) (la : Option Addr) (n c : Nat) (hn : 6 < n) (hn2 : (n : Int) ≤ 9223372036854775807) (a : Addr) (hE : w.cell? ⟨1, 0, none⟩ = some (.iface 321 (.pointer (some a)))) :
    Calls Tryd.prog 75 #[.slice la n c] w fun e w' => e = .returned (.iface 321 (.pointer (some a))) ∧ w' = w := by
  have hd : decide ((6 : Int) < (n : Int)) = true := by simp; omega
  go_enter Tryd.func75, Tryd.ntmps75
  go_wp2
  go_ret
  exact ⟨rfl, rfl⟩

def CMOut (w w' : World) (K : Nat → Nat) (m n : Nat) (aN aK : Addr) (e : Ending) : Prop :=
  Below w.heap.size w w' ∧ ((m = n ∧ e = .returned .nilIface) ∨ (m < n ∧ ∃ pb : Nat, e = .returned (.iface 140 (.pointer (some ⟨pb, 0, none⟩))) ∧ w'.cell? ⟨pb, 0, none⟩ = some (.int .i64 (m : Int)) ∧ w'.cell? ⟨pb, 1, none⟩ = some (.iface 321 (.pointer (some (if kindOk (K m) = true then aN else aK))))))

set_option maxRecDepth 1000000 in
set_option maxHeartbeats 2000000 in
theorem cm_any (w : World) (la : Option Addr) (n c : Nat) (K : Nat → Nat) (N V : Nat → ByteArray) (hP : Mats w la n K N V) (hsz : ∀ i, i < n → (N i).size ≤ 1000000) (hn : n ≤ 6) (m : Nat) (hm : m ≤ n) (hok : ∀ i, i < m → matOk K N i = true) (hbad : m < n → matOk K N m = false)
    (aN aK : Addr) (hEN : w.cell? ⟨2, 0, none⟩ = some (.iface 321 (.pointer (some aN)))) (hEK : w.cell? ⟨11, 0, none⟩ = some (.iface 321 (.pointer (some aK)))) :
    Calls Tryd.prog 75 #[.slice la n c] w fun e w' => CMOut w w' K m n aN aK e := by
  have HP : Hid (Mats w la n K N V) := hP
  have HOK := (show Hid _ from hok)
  have HBAD := (show Hid _ from hbad)
  have HSZ := (show Hid _ from hsz)
  have HEN := (show Hid _ from hEN)
  have HEK := (show Hid _ from hEK)
  have hGN : 2 < w.heap.size := World.block_lt_of_cell? w ⟨2, 0, none⟩ hEN
  have hGK : 11 < w.heap.size := World.block_lt_of_cell? w ⟨11, 0, none⟩ hEK
  have hd : decide ((6 : Int) < (n : Int)) = false := by simp; omega
  clear hP hok hbad hEN hEK hsz
  go_enter Tryd.func75, Tryd.ntmps75
  go_wp2_with fail
  go_loopw [3, 4, 11] (fun _ _ i wr => ∃ k : Nat, k ≤ m ∧ i = .int .i64 k ∧ Below w.heap.size w wr) (fun _ _ i _ => n - (intOf i).toNat)
  case atStart => exact ⟨0, Nat.zero_le _, rfl, Below.refl _ _⟩
  case round =>
    obtain ⟨k, hk, rfl, hbr⟩ := hrel
    by_cases hkn : k < n
    · obtain ⟨lb, lo, rfl, hcs⟩ := HP.out.at k hkn
      obtain ⟨c0, c1, c2, hk256⟩ := hcs k hkn
      have hlb : lb < w.heap.size := World.block_lt_of_cell? w ⟨lb, _, none⟩ c0
      have hk0 : (0 : Int) ≤ (k : Int) := by omega
      have hk1 : (k : Int) < (n : Int) := by omega
      have e0 : wr.cell? ⟨lb, lo + k * 3, none⟩ = some (.int .u8 (K k : Int)) := (hbr.cell (p := ⟨lb, _, none⟩) hlb).trans c0
      have e1 : wr.cell? ⟨lb, lo + k * 3 + 1, none⟩ = some (.string (N k)) := (hbr.cell (p := ⟨lb, _, none⟩) hlb).trans c1
      have e2 : wr.cell? ⟨lb, lo + k * 3 + 2, none⟩ = some (.string (V k)) := (hbr.cell (p := ⟨lb, _, none⟩) hlb).trans c2
      have HBR := (show Hid _ from hbr)
      have hwl := hbr.size
      have gN : wr.cell? ⟨2, 0, none⟩ = some (.iface 321 (.pointer (some aN))) := (hbr.cell (p := ⟨2, 0, none⟩) hGN).trans HEN.out
      have gK : wr.cell? ⟨11, 0, none⟩ = some (.iface 321 (.pointer (some aK))) := (hbr.cell (p := ⟨11, 0, none⟩) hGK).trans HEK.out
      have hG1 : 2 < wr.heap.size := by omega
      have hG7 : 11 < wr.heap.size := by omega
      have hin := fun w0 => lisName_any (N k) w0 (HSZ.out k hkn)
      have hpk : matOk K N k = (kindOk (K k) && isName (N k)) := rfl
      obtain ⟨bn, hbn⟩ : ∃ bn, isName (N k) = bn := ⟨_, rfl⟩
      rw [hbn] at hin hpk
      have HIN := (show Hid _ from hin)
      have HPK := (show Hid _ from hpk)
      clear hin hpk hbn hbr c0 c1 c2 hcs
      obtain ⟨kk, hkk⟩ : ∃ kk, K k = kk := ⟨_, rfl⟩
      rw [hkk] at e0 hk256 HPK
      have HKK := (show Hid _ from hkk)
      have HKD : Hid (kindOk kk = decide (kk = 61 ∨ kk = 33 ∨ kk = 126)) := rfl
      clear hkk
      obtain ⟨t1, ht1⟩ : ∃ t1, N k = t1 := ⟨_, rfl⟩
      obtain ⟨t2, ht2⟩ : ∃ t2, V k = t2 := ⟨_, rfl⟩
      rw [ht1] at e1 HIN
      rw [ht2] at e2
      clear ht1 ht2
      cases hkind : kindOk kk with
      | false =>
        have hkm : k = m := by
          rcases Nat.lt_or_ge k m with h | h
          · have := HOK.out k h
            rw [HPK.out, hkind] at this
            cases this
          · omega
        subst hkm
        have HIF : Hid ((if kindOk (K k) = true then aN else aK) = aK) := by show _ = _; rw [HKK.out, hkind]; rfl
        have hno : ¬ (kk = 61 ∨ kk = 33 ∨ kk = 126) := by rw [HKD.out] at hkind; exact of_decide_eq_false hkind
        have d1 : ((kk : Int) != 61) = true := by rw [bne_iff_ne]; omega
        have d2 : ((kk : Int) != 33) = true := by rw [bne_iff_ne]; omega
        have d3 : ((kk : Int) != 126) = true := by rw [bne_iff_ne]; omega
        clear hkind hno
        go_wp2
        go_ret
        exact ⟨(HBR.out.alloc hwl _).alloc (by simp; omega) _, .inr ⟨hkn, wr.heap.size + 1, by simp, (cell_new (by simp) 0).trans (by simp), (cell_new (by simp) 1).trans (by rw [HIF.out]; simp)⟩⟩
      | true =>
        have hyes : kk = 61 ∨ kk = 33 ∨ kk = 126 := by rw [HKD.out] at hkind; exact of_decide_eq_true hkind
        have HKN := (show Hid _ from hkind)
        clear hkind
        have hgo : ∀ (P : Prop), (∀ d1 d2 d3 : Bool, ((kk : Int) != 61) = d1 → ((kk : Int) != 33) = d2 → ((kk : Int) != 126) = d3 → (d1 = false ∨ (d1 = true ∧ d2 = false) ∨ (d1 = true ∧ d2 = true ∧ d3 = false)) → P) → P := fun P h => by
          refine h _ _ _ rfl rfl rfl ?_
          rcases hyes with rfl | rfl | rfl
          · exact .inl rfl
          · exact .inr (.inl ⟨rfl, rfl⟩)
          · exact .inr (.inr ⟨rfl, rfl, rfl⟩)
        refine hgo _ ?_
        intro d1 d2 d3 q1 q2 q3 hd3
        clear hyes hgo
        cases bn with
        | false =>
          have hkm : k = m := by
            rcases Nat.lt_or_ge k m with h | h
            · have := HOK.out k h
              rw [HPK.out, Bool.and_false] at this
              cases this
            · omega
          subst hkm
          have HIF : Hid ((if kindOk (K k) = true then aN else aK) = aN) := by show _ = _; rw [HKK.out, HKN.out]; rfl
          rcases hd3 with h | ⟨h, h'⟩ | ⟨h, h', h''⟩ <;> subst_vars <;>
          · go_wp2_with fail
            refine Calls.mono (HIN.out _) ?_
            rintro e w1 ⟨rfl, hw1⟩
            have hw1' := hw1
            subst hw1'
            go_wp2
            go_ret
            exact ⟨(HBR.out.alloc hwl _).alloc (by simp; omega) _, .inr ⟨hkn, wr.heap.size + 1, by simp, (cell_new (by simp) 0).trans (by simp), (cell_new (by simp) 1).trans (by rw [HIF.out]; simp)⟩⟩
        | true =>
          have hkm : k < m := by
            rcases Nat.lt_or_ge k m with h | h
            · exact h
            · exfalso
              have hme : m = k := by omega
              have := HBAD.out (by omega)
              rw [hme, HPK.out, HKN.out] at this
              cases this
          rcases hd3 with h | ⟨h, h'⟩ | ⟨h, h', h''⟩ <;> subst_vars <;>
          · go_wp2_with fail
            refine Calls.mono (HIN.out _) ?_
            rintro e w1 ⟨rfl, hw1⟩
            have hw1' := hw1
            subst hw1'
            go_wp2
            go_roundw
            case rel => exact ⟨k + 1, by omega, by go_num, HBR.out.alloc hwl _⟩
            case measure => simp [intOf] <;> omega
    · have hkm : k = m := by omega
      have hmn : m = n := by omega
      have hge : (n : Int) ≤ (k : Int) := by omega
      have HBR := (show Hid _ from hbr)
      clear hbr
      go_wp2
      go_ret
      exact ⟨HBR.out, .inl ⟨hmn, rfl⟩⟩
theorem cm_f {B : Nat} {ea : Nat → Addr} (w : World) (E : Env B ea w) (la : Option Addr) (n c : Nat) (K : Nat → Nat) (N V : Nat → ByteArray) (hP : Mats w la n K N V) (hsz : ∀ i, i < n → (N i).size ≤ 1000000) (hn : (n : Int) ≤ 9223372036854775807) :
    Calls Tryd.prog 75 #[.slice la n c] w fun e w' => ∃ v, e = .returned v ∧ Below w.heap.size w w' ∧ FaultV ea w' v (mC K N n) (mA K N n) := by
  by_cases h6 : 6 < n
  · refine (cm_many w la n c h6 hn (ea 1) E.c1).mono ?_
    rintro e w' ⟨rfl, rfl⟩
    exact ⟨_, rfl, Below.refl _ _, .inr (.inl ⟨1, by omega, rfl, by unfold mC; rw [if_pos h6]; rfl, by unfold mA; rw [if_pos h6]⟩)⟩
  · obtain ⟨g, g1, g2⟩ := badAt_spec (matOk K N) n
    refine (cm_any w la n c K N V hP hsz (by omega) _ g g1 g2 (ea 3) (ea 10) E.c3 E.c10).mono ?_
    rintro e w' ⟨hb, ⟨hmn, rfl⟩ | ⟨hmn, pb, rfl, p0, p1⟩⟩
    · exact ⟨_, rfl, hb, .inl ⟨rfl, by unfold mC; rw [if_neg h6, if_neg (by omega)]⟩⟩
    · refine ⟨_, rfl, hb, .inr (.inr ?_)⟩
      unfold mC mA
      rw [if_neg h6, if_pos hmn, if_neg h6, if_pos hmn]
      by_cases hq : kindOk (K (badAt (matOk K N) n)) = true
      · rw [if_pos hq] at p1 ⊢
        exact ⟨pb, 3, by omega, rfl, p0, p1, rfl⟩
      · rw [if_neg hq] at p1 ⊢
        exact ⟨pb, 10, by omega, rfl, p0, p1, rfl⟩

set_option maxRecDepth 1000000 in
theorem lfits_any (v : ByteArray) (k : Nat) (x y : ByteArray) (w : World) (hk : kindOk k = true) :
    Calls Tryd.prog 76 #[.string v, .agg #[.int .u8 (k : Int), .string x, .string y]] w fun e w' => e = .returned (.bool (fitB k v y)) ∧ Below w.heap.size w w' := by
  have hyes : k = 61 ∨ k = 33 ∨ k = 126 := of_decide_eq_true hk
  have HB : Hid (Below w.heap.size w (w.alloc (.cells #[.int .u8 (k : Int), .string x, .string y] 54))) := (Below.refl _ _).alloc (Nat.le_refl _) _
  have HPR : Hid _ := fun w0 => hasPrefix_any v y w0
  rcases hyes with rfl | rfl | rfl
  · have HF : Hid (fitB 61 v y = (v.toList == y.toList)) := rfl
    clear hk
    go_enter Tryd.func76, Tryd.ntmps76
    go_wp2
    go_ret
    exact ⟨by rw [HF.out]; rfl, HB.out⟩
  · have HF : Hid (fitB 33 v y = !(v.toList == y.toList)) := rfl
    clear hk
    go_enter Tryd.func76, Tryd.ntmps76
    go_wp2
    go_ret
    exact ⟨by rw [HF.out]; rfl, HB.out⟩
  · have HF : Hid (fitB 126 v y = (decide (y.size ≤ v.size) && ((v.extract 0 y.size).toList == y.toList))) := rfl
    clear hk
    go_enter Tryd.func76, Tryd.ntmps76
    go_wp2_with fail
    refine Calls.mono (HPR.out _) ?_
    rintro e w1 ⟨rfl, hw1⟩
    have hw1' := hw1
    subst hw1'
    go_wp2
    go_ret
    exact ⟨by rw [HF.out]; rfl, HB.out⟩

/-- What Fits answers. -/
def LFitsOut (ea : Nat → Addr) (w w' : World) (N V : Nat → ByteArray) (n : Nat) (K : Nat → Nat) (X Y : Nat → ByteArray) (m : Nat) (e : Ending) : Prop :=
  Below w.heap.size w w' ∧ ∃ (b : Bool) (v : Value), e = .returned (.tuple #[.bool b, v]) ∧
    ((0 < fC N V n ∧ b = false ∧ FaultV ea w' v (fC N V n) (fA N V n)) ∨ (fC N V n = 0 ∧ 0 < mC K X m ∧ b = false ∧ FaultV ea w' v (mC K X m) (mA K X m)) ∨ (fC N V n = 0 ∧ mC K X m = 0 ∧ b = fitsTo N V n K X Y m ∧ v = .nilIface))

theorem FaultV.some {ea : Nat → Addr} {w : World} {v : Value} {C A : Int} (h : FaultV ea w v C A) (hC : 0 < C) : (∃ q, v = .iface 321 (.pointer (some q))) ∨ ∃ q, v = .iface 140 (.pointer (some q)) := by
  rcases h with ⟨_, h⟩ | ⟨m, _, h, _⟩ | ⟨pb, m, _, h, _⟩
  · omega
  · exact .inl ⟨_, h⟩
  · exact .inr ⟨_, h⟩
end Go.Proofs.YtnjmplmogibgfabDoor
/- label's Fits by its contract. -/
namespace Go.Proofs.YtnjmplmogibgfabDoor
open Go.RowKit LabMath

set_option maxRecDepth 1000000 in
set_option maxHeartbeats 2000000 in
theorem lFits_any {B : Nat} {ea : Nat → Addr} (w : World) (E : Env B ea w) (hB : B ≤ w.heap.size) (la lm : Option Addr) (n c m cm : Nat) (N V : Nat → ByteArray) (K : Nat → Nat) (X Y : Nat → ByteArray) (hL : Labs w la n N V) (hM : Mats w lm m K X Y)
    (hsz : ∀ i, i < n → (N i).size ≤ 1000000 ∧ (V i).size ≤ 1000000) (hsx : ∀ i, i < m → (X i).size ≤ 1000000) (hn : (n : Int) ≤ 9223372036854775807) (hm : (m : Int) ≤ 9223372036854775807) :
    Calls Tryd.prog 24 #[.slice la n c, .slice lm m cm] w fun e w' => LFitsOut ea w w' N V n K X Y m e := by
  have HCK : Hid _ := lcheck_f w E la n c N V hL hsz hn
  have HE := (show Hid _ from E)
  have HL : Hid (Labs w la n N V) := hL
  have HM : Hid (Mats w lm m K X Y) := hM
  have HSX := (show Hid _ from hsx)
  have hC0 := (fC_cases N V n).1
  have HCZ := (show Hid _ from (fC_cases N V n).2)
  have hM0 := (mC_cases K X m).1
  have HMZ := (show Hid _ from (mC_cases K X m).2)
  have HMF := (show Hid _ from fun (w0 : World) (h0 : Below w.heap.size w w0) => cm_f w0 (E.below h0 hB) lm m cm K X Y (by
    rcases hM with h | ⟨b, o, h, hc⟩
    · exact .inl h
    · refine .inr ⟨b, o, h, fun k hk => ?_⟩
      obtain ⟨q0, q1, q2, q3⟩ := hc k hk
      have hl : b < w.heap.size := World.block_lt_of_cell? w ⟨b, _, none⟩ q0
      exact ⟨(h0.cell (p := ⟨b, _, none⟩) hl).trans q0, (h0.cell (p := ⟨b, _, none⟩) hl).trans q1, (h0.cell (p := ⟨b, _, none⟩) hl).trans q2, q3⟩) hsx hm)
  unfold LFitsOut
  obtain ⟨C, hC⟩ : ∃ C, fC N V n = C := ⟨_, rfl⟩
  obtain ⟨A, hA⟩ : ∃ A, fA N V n = A := ⟨_, rfl⟩
  obtain ⟨C2, hC2⟩ : ∃ C2, mC K X m = C2 := ⟨_, rfl⟩
  obtain ⟨A2, hA2⟩ : ∃ A2, mA K X m = A2 := ⟨_, rfl⟩
  rw [hC] at HCK hC0 HCZ ⊢
  rw [hA] at HCK ⊢
  rw [hC2] at HMF hM0 HMZ ⊢
  rw [hA2] at HMF ⊢
  clear hC hA hC2 hA2 hL hM hsz hsx E
  go_enter Tryd.func24, Tryd.ntmps24
  go_wp2_with fail
  refine Calls.mono HCK.out ?_
  rintro e w1 ⟨v, rfl, hb1, hfv⟩
  have HB1 := (show Hid _ from hb1)
  have HFV := (show Hid _ from hfv)
  by_cases hCp : 0 < C
  · rcases hfv.some hCp with ⟨q, rfl⟩ | ⟨q, rfl⟩ <;>
    · clear hb1 hfv
      go_wp2
      go_ret2
      exact ⟨HB1.out, _, _, rfl, .inl ⟨hCp, rfl, HFV.out⟩⟩
  · have hCe : C = 0 := by omega
    have hv := hfv.none hCe
    subst hv
    have HM2 := (show Hid _ from HMF.out w1 hb1)
    clear hb1 hfv HFV
    go_wp2_with fail
    refine Calls.mono HM2.out ?_
    rintro e w2 ⟨v, rfl, hb2, hfv⟩
    have HB2 := (show Hid _ from HB1.out.trans (hb2.mono HB1.out.size))
    have HFV := (show Hid _ from hfv)
    clear HM2
    by_cases hMp : 0 < C2
    · rcases hfv.some hMp with ⟨q, rfl⟩ | ⟨q, rfl⟩ <;>
      · clear hb2 hfv
        go_wp2
        go_ret2
        exact ⟨HB2.out, _, _, rfl, .inr (.inl ⟨hCe, hMp, rfl, HFV.out⟩)⟩
    · have hMe : C2 = 0 := by omega
      have hv := hfv.none hMe
      subst hv
      clear hb2 hfv HFV
      have hz := HCZ.out hCe
      have hy := HMZ.out hMe
      have HVS : Hid (∀ x, valF N V x n = valTo N V x n) := fun x => val_same N V n x hz.2.2.2
      have HOKM : Hid (∀ i, i < m → kindOk (K i) = true) := fun i hi => by
        have := hy.2 i hi
        unfold matOk at this
        rw [Bool.and_eq_true] at this
        exact this.1
      have hn6 : n ≤ 6 := hz.2.1
      have hm6 : m ≤ 6 := hy.1
      clear hz hy HCZ HMZ
      go_wp2_with fail
      go_loopw [9, 22, 23] (fun _ i _ wr => ∃ k : Nat, k ≤ m ∧ i = .int .i64 k ∧ Below w.heap.size w wr ∧ fitsTo N V n K X Y k = true) (fun _ i _ _ => m - (intOf i).toNat)
      case atStart => exact ⟨0, Nat.zero_le _, rfl, HB2.out, rfl⟩
      case round =>
        obtain ⟨k, hk, rfl, hbr, hft⟩ := hrel
        have HBR := (show Hid _ from hbr)
        have HFT := (show Hid _ from hft)
        have hwl := hbr.size
        by_cases hkn : k < m
        · obtain ⟨lb, lo, rfl, hcs⟩ := HM.out.at k hkn
          obtain ⟨c0, c1, c2, hk256⟩ := hcs k hkn
          have hlb : lb < w.heap.size := World.block_lt_of_cell? w ⟨lb, _, none⟩ c0
          have hk0 : (0 : Int) ≤ (k : Int) := by omega
          have hk1 : (k : Int) < (m : Int) := by omega
          have e0 : wr.cell? ⟨lb, lo + k * 3, none⟩ = some (.int .u8 (K k : Int)) := (hbr.cell (p := ⟨lb, _, none⟩) hlb).trans c0
          have e1 : wr.cell? ⟨lb, lo + k * 3 + 1, none⟩ = some (.string (X k)) := (hbr.cell (p := ⟨lb, _, none⟩) hlb).trans c1
          have e2 : wr.cell? ⟨lb, lo + k * 3 + 2, none⟩ = some (.string (Y k)) := (hbr.cell (p := ⟨lb, _, none⟩) hlb).trans c2
          obtain ⟨W, hW⟩ : ∃ W, W = wr.alloc (.cells #[.int .u8 (K k : Int), .string (X k), .string (Y k)] 54) := ⟨_, rfl⟩
          have hWb : Below wr.heap.size wr W := by rw [hW]; exact (Below.refl _ _).alloc (Nat.le_refl _) _
          have hWk : W.heap[wr.heap.size]? = some (.cells #[.int .u8 (K k : Int), .string (X k), .string (Y k)] 54 (0, 0)) := by rw [hW]; exact heap_alloc_new _ _
          have hWl : wr.heap.size < W.heap.size := by rw [hW]; simp
          have HWW : Hid (Below w.heap.size w W) := hbr.trans (hWb.mono hwl)
          have k0 : W.cell? ⟨wr.heap.size, 0, none⟩ = some (.int .u8 (K k : Int)) := by simp [World.cell?, hWk]
          have k1 : W.cell? ⟨wr.heap.size, 1, none⟩ = some (.string (X k)) := by simp [World.cell?, hWk]
          have k2 : W.cell? ⟨wr.heap.size, 2, none⟩ = some (.string (Y k)) := by simp [World.cell?, hWk]
          have HS : Hid (∀ w0, Below W.heap.size W w0 → w0.cell? ⟨wr.heap.size, 0, none⟩ = some (.int .u8 (K k : Int)) ∧ w0.cell? ⟨wr.heap.size, 1, none⟩ = some (.string (X k)) ∧ w0.cell? ⟨wr.heap.size, 2, none⟩ = some (.string (Y k))) := fun w0 h => ⟨(h.cell (p := ⟨wr.heap.size, 0, none⟩) hWl).trans (by simp [World.cell?, hWk]), (h.cell (p := ⟨wr.heap.size, 1, none⟩) hWl).trans (by simp [World.cell?, hWk]), (h.cell (p := ⟨wr.heap.size, 2, none⟩) hWl).trans (by simp [World.cell?, hWk])⟩
          have HVO : Hid (∀ w0, Below W.heap.size W w0 → Calls Tryd.prog 77 #[.slice la n c, .string (X k)] w0 fun e w' => e = .returned (.string (valTo N V (X k) n)) ∧ (w'.cell? ⟨wr.heap.size, 0, none⟩ = some (.int .u8 (K k : Int)) ∧ w'.cell? ⟨wr.heap.size, 1, none⟩ = some (.string (X k)) ∧ w'.cell? ⟨wr.heap.size, 2, none⟩ = some (.string (Y k))) ∧ Below W.heap.size W w') := fun w0 h => by
            have hw0 : Below w.heap.size w w0 := HWW.out.trans (h.mono HWW.out.size)
            have hc := valueOf_any w0 la n c N V (HL.out.below hw0) (by omega) (X k)
            rw [HVS.out] at hc
            refine hc.mono ?_
            rintro e w' ⟨rfl, hb⟩
            have h2 := h.trans (hb.mono h.size)
            exact ⟨rfl, HS.out w' h2, h2⟩
          have HFI : Hid (∀ w0, Below W.heap.size W w0 → Calls Tryd.prog 76 #[.string (valTo N V (X k) n), .agg #[.int .u8 (K k : Int), .string (X k), .string (Y k)]] w0 fun e w' => e = .returned (.bool (fitB (K k) (valTo N V (X k) n) (Y k))) ∧ (w'.cell? ⟨wr.heap.size, 0, none⟩ = some (.int .u8 (K k : Int)) ∧ w'.cell? ⟨wr.heap.size, 1, none⟩ = some (.string (X k)) ∧ w'.cell? ⟨wr.heap.size, 2, none⟩ = some (.string (Y k))) ∧ Below W.heap.size W w') := fun w0 h => by
            refine (lfits_any (valTo N V (X k) n) (K k) (X k) (Y k) w0 (HOKM.out k hkn)).mono ?_
            rintro e w' ⟨rfl, hb⟩
            have h2 := h.trans (hb.mono h.size)
            exact ⟨rfl, HS.out w' h2, h2⟩
          have HW := (show Hid _ from hW)
          have HC0 : Hid (Below W.heap.size W W) := Below.refl _ _
          have hst : fitsTo N V n K X Y (k + 1) = (fitsTo N V n K X Y k && fitB (K k) (valTo N V (X k) n) (Y k)) := rfl
          rw [hft, Bool.true_and] at hst
          have HST := (show Hid _ from hst)
          have HNO : Hid (fitB (K k) (valTo N V (X k) n) (Y k) = false → fitsTo N V n K X Y m = false) := fun h => fits_no N V n K X Y k h m hkn
          generalize fitB (K k) (valTo N V (X k) n) (Y k) = bf at *
          generalize valTo N V (X k) n = vv at *
          generalize K k = kk at *
          generalize X k = xx at *
          generalize Y k = yy at *
          clear hcs c0 c1 c2 hbr hft hW hWb hWk hWl hst
          go_wp2_with fail
          rw [← HW.out]
          go_region_held3 (fun w' => w'.cell? ⟨wr.heap.size, 0, none⟩ = some (.int .u8 (kk : Int)) ∧ w'.cell? ⟨wr.heap.size, 1, none⟩ = some (.string xx) ∧ w'.cell? ⟨wr.heap.size, 2, none⟩ = some (.string yy)) (go_keep) ((first | (go_at_call 77; refine Calls.mono (HVO.out _ (by first | exact HC0.out | exact HC0.out.trans ⟨rfl, rfl, rfl, Nat.le_refl _, fun _ _ => rfl⟩)) ?_; rintro e w7 ⟨rfl, ⟨k0, k1, k2⟩, hc7⟩; have HC7 := (show Hid _ from hc7); clear hc7 HVO) | (go_at_call 76; refine Calls.mono (HFI.out _ (by first | exact HC7.out | exact HC7.out.trans ⟨rfl, rfl, rfl, Nat.le_refl _, fun _ _ => rfl⟩)) ?_; rintro e w8 ⟨rfl, ⟨k0, k1, k2⟩, hc8⟩; have HC8 := (show Hid _ from hc8); clear hc8 HFI)))
          have HB8 : Hid (Below w.heap.size w w8) := HWW.out.trans (HC8.out.mono HWW.out.size)
          cases bf with
          | true =>
            go_wp2
            go_roundw
            case rel => exact ⟨k + 1, by omega, by go_num, HB8.out, HST.out⟩
            case measure => simp [intOf] <;> omega
          | false =>
            have hno := HNO.out rfl
            have HNN := (show Hid _ from hno)
            clear hno
            go_wp2
            go_ret2
            exact ⟨HB8.out, by rw [HNN.out]; rfl⟩
        · have hge : (m : Int) ≤ (k : Int) := by omega
          have hkm : k = m := by omega
          have HFM : Hid (fitsTo N V n K X Y m = true) := by rw [← hkm]; exact hft
          clear hbr hft HFT hkm
          go_wp2
          go_ret2
          exact ⟨HBR.out, _, _, rfl, .inr (.inr ⟨hCe, hMe, by rw [HFM.out], rfl⟩)⟩
end Go.Proofs.YtnjmplmogibgfabDoor
