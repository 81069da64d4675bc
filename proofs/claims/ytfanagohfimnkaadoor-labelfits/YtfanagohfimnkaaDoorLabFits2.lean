/- label's checkMatches and fits by contracts. -/
import Derived.Test.YtfanagohfimnkaaDoorLabFits
namespace Go.Proofs.YtfanagohfimnkaaDoor
open Go.RowKit LabMath

theorem cm_many (w : World) (la : Option Addr) (n c : Nat) (hn : 6 < n) (hn2 : (n : Int) ≤ 9223372036854775807) (a : Addr) (hE : w.cell? ⟨0, 0, none⟩ = some (.iface 197 (.pointer (some a)))) :
    Calls Tryd.prog 37 #[.slice la n c] w fun e w' => e = .returned (.iface 197 (.pointer (some a))) ∧ w' = w := by
  have hd : decide ((6 : Int) < (n : Int)) = true := by simp; omega
  go_enter Tryd.func37, Tryd.ntmps37
  go_wp2
  go_ret
  exact ⟨rfl, rfl⟩

def CMOut (w w' : World) (K : Nat → Nat) (m n : Nat) (aN aK : Addr) (e : Ending) : Prop :=
  Below w.heap.size w w' ∧ ((m = n ∧ e = .returned .nilIface) ∨ (m < n ∧ ∃ pb : Nat, e = .returned (.iface 117 (.pointer (some ⟨pb, 0, none⟩))) ∧ w'.cell? ⟨pb, 0, none⟩ = some (.int .i64 (m : Int)) ∧ w'.cell? ⟨pb, 1, none⟩ = some (.iface 197 (.pointer (some (if kindOk (K m) = true then aN else aK))))))

set_option maxRecDepth 1000000 in
set_option maxHeartbeats 2000000 in
theorem cm_any (w : World) (la : Option Addr) (n c : Nat) (K : Nat → Nat) (N V : Nat → ByteArray) (hP : Mats w la n K N V) (hsz : ∀ i, i < n → (N i).size ≤ 1000000) (hn : n ≤ 6) (m : Nat) (hm : m ≤ n) (hok : ∀ i, i < m → matOk K N i = true) (hbad : m < n → matOk K N m = false)
    (aN aK : Addr) (hEN : w.cell? ⟨2, 0, none⟩ = some (.iface 197 (.pointer (some aN)))) (hEK : w.cell? ⟨4, 0, none⟩ = some (.iface 197 (.pointer (some aK)))) :
    Calls Tryd.prog 37 #[.slice la n c] w fun e w' => CMOut w w' K m n aN aK e := by
  have HP : Hid (Mats w la n K N V) := hP
  have HOK := (show Hid _ from hok)
  have HBAD := (show Hid _ from hbad)
  have HSZ := (show Hid _ from hsz)
  have HEN := (show Hid _ from hEN)
  have HEK := (show Hid _ from hEK)
  have hGN : 2 < w.heap.size := World.block_lt_of_cell? w ⟨2, 0, none⟩ hEN
  have hGK : 4 < w.heap.size := World.block_lt_of_cell? w ⟨4, 0, none⟩ hEK
  have hd : decide ((6 : Int) < (n : Int)) = false := by simp; omega
  clear hP hok hbad hEN hEK hsz
  go_enter Tryd.func37, Tryd.ntmps37
  go_wp2_with fail
  go_loopw [3, 4, 11] (fun _ _ i wr => ∃ k : Nat, k ≤ m ∧ i = .int .i64 k ∧ Below w.heap.size w wr) (fun _ _ i _ => n - (intOf i).toNat)
  case atStart => exact ⟨0, Nat.zero_le _, rfl, Below.refl _ _⟩
  case round =>
    obtain ⟨k, hk, rfl, hbr⟩ := hrel
    by_cases hkn : k < n
    · obtain ⟨lb, lo, rfl, hcs⟩ := HP.out.at k hkn
      obtain ⟨c0, c1, c2, hk256⟩ := hcs k hkn
      have hlb : lb < w.heap.size := World.block_lt_of_cell? w ⟨lb, _, none⟩ c0
      have hk0 : (0 : Int) ≤ (k : Int) := by omega
      have hk1 : (k : Int) < (n : Int) := by omega
      have e0 : wr.cell? ⟨lb, lo + k * 3, none⟩ = some (.int .u8 (K k : Int)) := (hbr.cell (p := ⟨lb, _, none⟩) hlb).trans c0
      have e1 : wr.cell? ⟨lb, lo + k * 3 + 1, none⟩ = some (.string (N k)) := (hbr.cell (p := ⟨lb, _, none⟩) hlb).trans c1
      have e2 : wr.cell? ⟨lb, lo + k * 3 + 2, none⟩ = some (.string (V k)) := (hbr.cell (p := ⟨lb, _, none⟩) hlb).trans c2
      have HBR := (show Hid _ from hbr)
      have hwl := hbr.size
      have gN : wr.cell? ⟨2, 0, none⟩ = some (.iface 197 (.pointer (some aN))) := (hbr.cell (p := ⟨2, 0, none⟩) hGN).trans HEN.out
      have gK : wr.cell? ⟨4, 0, none⟩ = some (.iface 197 (.pointer (some aK))) := (hbr.cell (p := ⟨4, 0, none⟩) hGK).trans HEK.out
      have hG1 : 2 < wr.heap.size := by omega
      have hG7 : 4 < wr.heap.size := by omega
      have hin := fun w0 => lisName_any (N k) w0 (HSZ.out k hkn)
      have hpk : matOk K N k = (kindOk (K k) && isName (N k)) := rfl
      obtain ⟨bn, hbn⟩ : ∃ bn, isName (N k) = bn := ⟨_, rfl⟩
      rw [hbn] at hin hpk
      have HIN := (show Hid _ from hin)
      have HPK := (show Hid _ from hpk)
      clear hin hpk hbn hbr c0 c1 c2 hcs
      obtain ⟨kk, hkk⟩ : ∃ kk, K k = kk := ⟨_, rfl⟩
      rw [hkk] at e0 hk256 HPK
      have HKK := (show Hid _ from hkk)
      have HKD : Hid (kindOk kk = decide (kk = 61 ∨ kk = 33 ∨ kk = 126)) := rfl
      clear hkk
      obtain ⟨t1, ht1⟩ : ∃ t1, N k = t1 := ⟨_, rfl⟩
      obtain ⟨t2, ht2⟩ : ∃ t2, V k = t2 := ⟨_, rfl⟩
      rw [ht1] at e1 HIN
      rw [ht2] at e2
      clear ht1 ht2
      cases hkind : kindOk kk with
      | false =>
        have hkm : k = m := by
          rcases Nat.lt_or_ge k m with h | h
          · have := HOK.out k h
            rw [HPK.out, hkind] at this
            cases this
          · omega
        subst hkm
        have HIF : Hid ((if kindOk (K k) = true then aN else aK) = aK) := by show _ = _; rw [HKK.out, hkind]; rfl
        have hno : ¬ (kk = 61 ∨ kk = 33 ∨ kk = 126) := by rw [HKD.out] at hkind; exact of_decide_eq_false hkind
        have d1 : ((kk : Int) != 61) = true := by rw [bne_iff_ne]; omega
        have d2 : ((kk : Int) != 33) = true := by rw [bne_iff_ne]; omega
        have d3 : ((kk : Int) != 126) = true := by rw [bne_iff_ne]; omega
        clear hkind hno
        go_wp2
        go_ret
        exact ⟨(HBR.out.alloc hwl _).alloc (by simp; omega) _, .inr ⟨hkn, wr.heap.size + 1, by simp, (cell_new (by simp) 0).trans (by simp), (cell_new (by simp) 1).trans (by rw [HIF.out]; simp)⟩⟩
      | true =>
        have hyes : kk = 61 ∨ kk = 33 ∨ kk = 126 := by rw [HKD.out] at hkind; exact of_decide_eq_true hkind
        have HKN := (show Hid _ from hkind)
        clear hkind
        have hgo : ∀ (P : Prop), (∀ d1 d2 d3 : Bool, ((kk : Int) != 61) = d1 → ((kk : Int) != 33) = d2 → ((kk : Int) != 126) = d3 → (d1 = false ∨ (d1 = true ∧ d2 = false) ∨ (d1 = true ∧ d2 = true ∧ d3 = false)) → P) → P := fun P h => by
          refine h _ _ _ rfl rfl rfl ?_
          rcases hyes with rfl | rfl | rfl
          · exact .inl rfl
          · exact .inr (.inl ⟨rfl, rfl⟩)
          · exact .inr (.inr ⟨rfl, rfl, rfl⟩)
        refine hgo _ ?_
        intro d1 d2 d3 q1 q2 q3 hd3
        clear hyes hgo
        cases bn with
        | false =>
          have hkm : k = m := by
            rcases Nat.lt_or_ge k m with h | h
            · have := HOK.out k h
              rw [HPK.out, Bool.and_false] at this
              cases this
            · omega
          subst hkm
          have HIF : Hid ((if kindOk (K k) = true then aN else aK) = aN) := by show _ = _; rw [HKK.out, HKN.out]; rfl
          rcases hd3 with h | ⟨h, h'⟩ | ⟨h, h', h''⟩ <;> subst_vars <;>
          · go_wp2_with fail
            refine Calls.mono (HIN.out _) ?_
            rintro e w1 ⟨rfl, hw1⟩
            have hw1' := hw1
            subst hw1'
            go_wp2
            go_ret
            exact ⟨(HBR.out.alloc hwl _).alloc (by simp; omega) _, .inr ⟨hkn, wr.heap.size + 1, by simp, (cell_new (by simp) 0).trans (by simp), (cell_new (by simp) 1).trans (by rw [HIF.out]; simp)⟩⟩
        | true =>
          have hkm : k < m := by
            rcases Nat.lt_or_ge k m with h | h
            · exact h
            · exfalso
              have hme : m = k := by omega
              have := HBAD.out (by omega)
              rw [hme, HPK.out, HKN.out] at this
              cases this
          rcases hd3 with h | ⟨h, h'⟩ | ⟨h, h', h''⟩ <;> subst_vars <;>
          · go_wp2_with fail
            refine Calls.mono (HIN.out _) ?_
            rintro e w1 ⟨rfl, hw1⟩
            have hw1' := hw1
            subst hw1'
            go_wp2
            go_roundw
            case rel => exact ⟨k + 1, by omega, by go_num, HBR.out.alloc hwl _⟩
            case measure => simp [intOf] <;> omega
    · have hkm : k = m := by omega
      have hmn : m = n := by omega
      have hge : (n : Int) ≤ (k : Int) := by omega
      have HBR := (show Hid _ from hbr)
      clear hbr
      go_wp2
      go_ret
      exact ⟨HBR.out, .inl ⟨hmn, rfl⟩⟩
theorem cm_f {B : Nat} {ea : Nat → Addr} (w : World) (E : Env B ea w) (la : Option Addr) (n c : Nat) (K : Nat → Nat) (N V : Nat → ByteArray) (hP : Mats w la n K N V) (hsz : ∀ i, i < n → (N i).size ≤ 1000000) (hn : (n : Int) ≤ 9223372036854775807) :
    Calls Tryd.prog 37 #[.slice la n c] w fun e w' => ∃ v, e = .returned v ∧ Below w.heap.size w w' ∧ FaultV ea w' v (mC K N n) (mA K N n) := by
  by_cases h6 : 6 < n
  · refine (cm_many w la n c h6 hn (ea 1) E.c1).mono ?_
    rintro e w' ⟨rfl, rfl⟩
    exact ⟨_, rfl, Below.refl _ _, .inr (.inl ⟨1, by omega, rfl, by unfold mC; rw [if_pos h6]; rfl, by unfold mA; rw [if_pos h6]⟩)⟩
  · obtain ⟨g, g1, g2⟩ := badAt_spec (matOk K N) n
    refine (cm_any w la n c K N V hP hsz (by omega) _ g g1 g2 (ea 3) (ea 10) E.c3 E.c10).mono ?_
    rintro e w' ⟨hb, ⟨hmn, rfl⟩ | ⟨hmn, pb, rfl, p0, p1⟩⟩
    · exact ⟨_, rfl, hb, .inl ⟨rfl, by unfold mC; rw [if_neg h6, if_neg (by omega)]⟩⟩
    · refine ⟨_, rfl, hb, .inr (.inr ?_)⟩
      unfold mC mA
      rw [if_neg h6, if_pos hmn, if_neg h6, if_pos hmn]
      by_cases hq : kindOk (K (badAt (matOk K N) n)) = true
      · rw [if_pos hq] at p1 ⊢
        exact ⟨pb, 3, by omega, rfl, p0, p1, rfl⟩
      · rw [if_neg hq] at p1 ⊢
        exact ⟨pb, 10, by omega, rfl, p0, p1, rfl⟩

set_option maxRecDepth 1000000 in
theorem lfits_any (v : ByteArray) (k : Nat) (x y : ByteArray) (w : World) (hk : kindOk k = true) :
    Calls Tryd.prog 38 #[.string v, .agg #[.int .u8 (k : Int), .string x, .string y]] w fun e w' => e = .returned (.bool (fitB k v y)) ∧ Below w.heap.size w w' := by
  have hyes : k = 61 ∨ k = 33 ∨ k = 126 := of_decide_eq_true hk
  have HB : Hid (Below w.heap.size w (w.alloc (.cells #[.int .u8 (k : Int), .string x, .string y] 30))) := (Below.refl _ _).alloc (Nat.le_refl _) _
  have HPR : Hid _ := fun w0 => hasPrefix_any v y w0
  rcases hyes with rfl | rfl | rfl
  · have HF : Hid (fitB 61 v y = (v.toList == y.toList)) := rfl
    clear hk
    go_enter Tryd.func38, Tryd.ntmps38
    go_wp2
    go_ret
    exact ⟨by rw [HF.out]; rfl, HB.out⟩
  · have HF : Hid (fitB 33 v y = !(v.toList == y.toList)) := rfl
    clear hk
    go_enter Tryd.func38, Tryd.ntmps38
    go_wp2
    go_ret
    exact ⟨by rw [HF.out]; rfl, HB.out⟩
  · have HF : Hid (fitB 126 v y = (decide (y.size ≤ v.size) && ((v.extract 0 y.size).toList == y.toList))) := rfl
    clear hk
    go_enter Tryd.func38, Tryd.ntmps38
    go_wp2_with fail
    refine Calls.mono (HPR.out _) ?_
    rintro e w1 ⟨rfl, hw1⟩
    have hw1' := hw1
    subst hw1'
    go_wp2
    go_ret
    exact ⟨by rw [HF.out]; rfl, HB.out⟩

/-- What Fits answers. -/
def LFitsOut (ea : Nat → Addr) (w w' : World) (N V : Nat → ByteArray) (n : Nat) (K : Nat → Nat) (X Y : Nat → ByteArray) (m : Nat) (e : Ending) : Prop :=
  Below w.heap.size w w' ∧ ∃ (b : Bool) (v : Value), e = .returned (.tuple #[.bool b, v]) ∧
    ((0 < fC N V n ∧ b = false ∧ FaultV ea w' v (fC N V n) (fA N V n)) ∨ (fC N V n = 0 ∧ 0 < mC K X m ∧ b = false ∧ FaultV ea w' v (mC K X m) (mA K X m)) ∨ (fC N V n = 0 ∧ mC K X m = 0 ∧ b = fitsTo N V n K X Y m ∧ v = .nilIface))

theorem FaultV.some {ea : Nat → Addr} {w : World} {v : Value} {C A : Int} (h : FaultV ea w v C A) (hC : 0 < C) : (∃ q, v = .iface 197 (.pointer (some q))) ∨ ∃ q, v = .iface 117 (.pointer (some q)) := by
  rcases h with ⟨_, h⟩ | ⟨m, _, h, _⟩ | ⟨pb, m, _, h, _⟩
  · omega
  · exact .inl ⟨_, h⟩
  · exact .inr ⟨_, h⟩
end Go.Proofs.YtfanagohfimnkaaDoor
