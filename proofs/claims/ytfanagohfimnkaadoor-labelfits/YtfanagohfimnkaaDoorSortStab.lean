/- slices' stable sort of at most sixty numbers, by its contract. -/
import Derived.Test.YtfanagohfimnkaaDoorSortSym
import Derived.Test.YtfanagohfimnkaaDoorSortIns
namespace Go.Proofs.YtfanagohfimnkaaDoor
open Go.RowKit SortMath

/-- Blocks of twenty that are sorted, up to the t-th; behind them the numbers as they stood. -/
structure Ph (lt : Nat → Nat → Bool) (t : Nat) (D : Nat → Nat) : Prop where
  far : ∀ k, 20 * t ≤ k → D k = k
  loc : ∀ k, k < 20 * t → D k / 20 = k / 20
  srt : ∀ i j, i < j → j < 20 * t → i / 20 = j / 20 → kl lt (D i) (D j)
/-- Blocks of s that are sorted. -/
structure SB (lt : Nat → Nat → Bool) (s n : Nat) (D : Nat → Nat) : Prop where
  loc : ∀ k, k < n → D k / s = k / s ∧ D k < n
  srt : ∀ i j, i < j → j < n → i / s = j / s → kl lt (D i) (D j)
variable {lt : Nat → Nat → Bool}
theorem ph_step {t : Nat} {D E : Nat → Nat} (h : Ph lt t D) (hs : Sub E D (20 * t) (20 * t + 20)) (hr : Srt lt E (20 * t) (20 * t + 20)) : Ph lt (t + 1) E := by
  refine ⟨fun k hk => ?_, fun k hk => ?_, fun i j hij hj he => ?_⟩
  · rw [hs.1 k (by omega), h.far k (by omega)]
  · by_cases hk2 : k < 20 * t
    · rw [hs.1 k (by omega)]; exact h.loc k hk2
    · obtain ⟨j, j1, j2, ej⟩ := hs.2 k (by omega) (by omega)
      rw [ej, h.far j (by omega)]
      omega
  · by_cases hi : 20 * t ≤ i
    · exact hr i j hi hij (by omega)
    · have hj2 : j < 20 * t := by omega
      rw [hs.1 i (by omega), hs.1 j (by omega)]
      exact h.srt i j hij hj2 he
theorem ph_end {t n : Nat} {D E : Nat → Nat} (h : Ph lt t D) (hn : 20 * t ≤ n) (hn2 : n < 20 * t + 20) (hs : Sub E D (20 * t) n) (hr : Srt lt E (20 * t) n) : SB lt 20 n E := by
  have key : ∀ k, k < n → E k / 20 = k / 20 ∧ E k < n := fun k hk => by
    by_cases hk2 : k < 20 * t
    · rw [hs.1 k (by omega)]
      have := h.loc k hk2
      omega
    · obtain ⟨j, j1, j2, ej⟩ := hs.2 k (by omega) hk
      rw [ej, h.far j (by omega)]
      omega
  refine ⟨key, fun i j hij hj he => ?_⟩
  by_cases hi : 20 * t ≤ i
  · exact hr i j hi hij hj
  · have hj2 : j < 20 * t := by omega
    rw [hs.1 i (by omega), hs.1 j (by omega)]
    exact h.srt i j hij hj2 he
/-- Two neighbours are merged. -/
theorem sb_pair {n : Nat} {D : Nat → Nat} (s a b : Nat) (hs : s = 20 ∨ s = 40) (h : SB lt s n D) (ha : a = 0) (hb : s < b) (hb2 : b ≤ n) (hb3 : b ≤ 2 * s) : Srt lt D a (a + s) ∧ Srt lt D (a + s) b ∧ Cross D a (a + s) b := by
  subst ha
  rcases hs with rfl | rfl
  · refine ⟨fun i j g1 g2 g3 => h.srt i j g2 (by omega) (by omega), fun i j g1 g2 g3 => h.srt i j g2 (by omega) (by omega), fun i j g1 g2 g3 g4 => ?_⟩
    have q1 := (h.loc i (by omega)).1
    have q2 := (h.loc j (by omega)).1
    omega
  · refine ⟨fun i j g1 g2 g3 => h.srt i j g2 (by omega) (by omega), fun i j g1 g2 g3 => h.srt i j g2 (by omega) (by omega), fun i j g1 g2 g3 g4 => ?_⟩
    have q1 := (h.loc i (by omega)).1
    have q2 := (h.loc j (by omega)).1
    omega
theorem sb_next {n : Nat} {D E : Nat → Nat} (s b : Nat) (hs : s = 20 ∨ s = 40) (hn : n ≤ 60) (h : SB lt s n D) (hb : b = n ∧ n ≤ 2 * s ∨ b = 40 ∧ s = 20) (hb2 : b ≤ n) (g1 : Sub E D 0 b) (g2 : Srt lt E 0 b) : SB lt (2 * s) n E := by
  have hlt : ∀ k, k < n → E k < n := g1.less hb2 (fun k hk => (h.loc k hk).2)
  rcases hs with rfl | rfl
  · refine ⟨fun k hk => ⟨?_, hlt k hk⟩, fun i j hij hj he => ?_⟩
    · by_cases hk2 : k < b
      · obtain ⟨j, _, j2, ej⟩ := g1.2 k (by omega) hk2
        have := (h.loc j (by omega)).1
        rw [ej]
        omega
      · rw [g1.1 k (by omega)]
        have := (h.loc k hk).1
        omega
    · by_cases hj2 : j < b
      · exact g2 i j (by omega) hij hj2
      · rw [g1.1 i (by omega), g1.1 j (by omega)]
        exact h.srt i j hij hj (by omega)
  · refine ⟨fun k hk => ⟨?_, hlt k hk⟩, fun i j hij hj he => ?_⟩
    · have := hlt k hk
      omega
    · exact g2 i j (by omega) hij (by omega)

set_option maxRecDepth 1000000 in
set_option maxHeartbeats 800000 in
theorem stable_any (p : SP) (hn : p.n ≤ 60) (w : World) (h : At p (fun k => k) w) :
    Calls Tryd.prog 63 #[rowV p, .int .i64 (p.n : Int), cmpF p] w fun e w' => e = .returned (.tuple #[]) ∧ ∃ D', At p D' w' ∧ (∀ k, k < p.n → D' k < p.n) ∧ Srt (ltX p.X) D' 0 p.n := by
  have H : Hid (At p (fun k => k) w) := h
  have HINS : Hid (∀ (D : Nat → Nat) (a b : Nat) (w0 : World), At p D w0 → a ≤ b → b ≤ p.n → (∀ k, k < p.n → D k < p.n) → (∀ i j, a ≤ i → i < j → j < b → D i < D j) → Calls Tryd.prog 80 #[.slice (some ⟨p.g, 0, none⟩) p.n p.cap, .int .i64 (a : Int), .int .i64 (b : Int), .func (.func 45) #[] #[.pointer (some ⟨p.tb, 0, none⟩)]] w0 fun e w' => e = .returned (.tuple #[]) ∧ ∃ D', At p D' w' ∧ Sub D' D a b ∧ Srt (ltX p.X) D' a b) := fun D a b w0 => ins_any p (by omega) D a b w0
  have HSYM : Hid (∀ (D : Nat → Nat) (a m b : Nat) (w0 : World), At p D w0 → a < m → m < b → b ≤ p.n → (∀ k, k < p.n → D k < p.n) → Srt (ltX p.X) D a m → Srt (ltX p.X) D m b → Cross D a m b → Calls Tryd.prog 81 #[.slice (some ⟨p.g, 0, none⟩) p.n p.cap, .int .i64 (a : Int), .int .i64 (m : Int), .int .i64 (b : Int), .func (.func 45) #[] #[.pointer (some ⟨p.tb, 0, none⟩)]] w0 fun e w' => MergeOut p D a b e w') := fun D a m b w0 => sym_any p (by omega) (b - a) D a m b w0 (Nat.le_refl _)
  clear h
  unfold rowV cmpF
  go_enter Tryd.func63, Tryd.ntmps63
  go_wp2_with fail
  go_loopw [7, 8, 11] (fun i j _ wr => ∃ (t : Nat) (D : Nat → Nat), 20 * t ≤ p.n ∧ i = .int .i64 ((20 * t : Nat) : Int) ∧ j = .int .i64 ((20 * t + 20 : Nat) : Int) ∧ At p D wr ∧ Ph (ltX p.X) t D) (fun _ j _ _ => p.n + 20 - (intOf j).toNat)
  case atStart => exact ⟨0, fun k => k, by omega, rfl, rfl, H.out, ⟨fun k _ => rfl, fun k hk => by omega, fun i j _ hj => by omega⟩⟩
  case round =>
    obtain ⟨t, D, ht, rfl, rfl, hat, hph⟩ := hrel
    have HAT := (show Hid _ from hat)
    have HPH := (show Hid _ from hph)
    have HNN : Hid (∀ k, k < p.n → D k < p.n) := fun k hk => by
      by_cases hk2 : k < 20 * t
      · have := hph.loc k hk2; omega
      · rw [hph.far k (by omega)]; exact hk
    have HINC : Hid (∀ b i j, 20 * t ≤ i → i < j → j < b → D i < D j) := fun b i j g1 g2 g3 => by rw [hph.far i g1, hph.far j (by omega)]; exact g2
    clear hat hph H
    by_cases hle : 20 * t + 20 ≤ p.n
    · have hleI : ((20 * t + 20 : Nat) : Int) ≤ (p.n : Int) := by omega
      have dle : decide (((20 * t + 20 : Nat) : Int) ≤ (p.n : Int)) = true := decide_eq_true hleI
      have HC := (show Hid _ from HINS.out D (20 * t) (20 * t + 20) wr HAT.out (by omega) hle HNN.out (HINC.out _))
      obtain ⟨A, hA⟩ : ∃ A : Nat, A = 20 * t := ⟨_, rfl⟩
      obtain ⟨B, hB⟩ : ∃ B : Nat, B = 20 * t + 20 := ⟨_, rfl⟩
      have HEND : Hid (∀ E, Sub E D A B → Srt (ltX p.X) E A B → Ph (ltX p.X) (t + 1) E) := fun E g1 g2 => by rw [hA, hB] at g1 g2; exact ph_step HPH.out g1 g2
      have HAB : Hid (A = 20 * t ∧ B = 20 * t + 20) := ⟨hA, hB⟩
      rw [← hB, ← hA] at HC
      rw [← hB] at hleI dle hle ⊢
      rw [← hA]
      clear hA hB HINC
      go_wp2_with fail
      refine Calls.mono HC.out ?_
      rintro e w1 ⟨rfl, E, hat1, hsub1, hsrt1⟩
      have HAT1 := (show Hid _ from hat1)
      have HPH1 := (show Hid _ from HEND.out E hsub1 hsrt1)
      clear hat1 hsub1 hsrt1 HC
      go_wp2
      go_roundw
      case rel =>
        have hab := HAB.out
        exact ⟨t + 1, E, by omega, by rw [hab.2]; rfl, by rw [hab.2]; go_num, HAT1.out, HPH1.out⟩
      case measure => have hab := HAB.out; simp [intOf] <;> omega
    · have dle : decide (((20 * t + 20 : Nat) : Int) ≤ (p.n : Int)) = false := by simp; omega
      have HC := (show Hid _ from HINS.out D (20 * t) p.n wr HAT.out ht (Nat.le_refl _) HNN.out (HINC.out _))
      obtain ⟨A, hA⟩ : ∃ A : Nat, A = 20 * t := ⟨_, rfl⟩
      obtain ⟨B, hB⟩ : ∃ B : Nat, B = 20 * t + 20 := ⟨_, rfl⟩
      have HEND : Hid (∀ E, Sub E D A p.n → Srt (ltX p.X) E A p.n → SB (ltX p.X) 20 p.n E) := fun E g1 g2 => by rw [hA] at g1 g2; exact ph_end HPH.out ht (by omega) g1 g2
      rw [← hA] at HC
      have hgt : (p.n : Int) < (B : Int) := by omega
      have dle : decide ((B : Int) ≤ (p.n : Int)) = false := by simp; omega
      have dle2 : decide (B ≤ p.n) = false := by simp; omega
      rw [← hB]
      rw [← hA]
      clear hA hB HINC hle
      go_wp2_with fail
      refine Calls.mono HC.out ?_
      rintro e w1 ⟨rfl, E, hat1, hsub1, hsrt1⟩
      have HAT1 := (show Hid _ from hat1)
      have HSB1 := (show Hid _ from HEND.out E hsub1 hsrt1)
      clear hat1 hsub1 hsrt1 HC HAT HPH HNN HEND dle
      go_wp2_with fail
      go_loopw [6, 7, 8] (fun bs _ _ wr => ∃ (s : Nat) (D : Nat → Nat), (s = 20 ∨ s = 40 ∨ s = 80) ∧ bs = .int .i64 (s : Int) ∧ At p D wr ∧ SB (ltX p.X) s p.n D) (fun bs _ _ _ => 100 - (intOf bs).toNat)
      case atStart => exact ⟨20, E, .inl rfl, rfl, HAT1.out, HSB1.out⟩
      case round =>
        obtain ⟨s, F, hs, rfl, hatF, hsbF⟩ := hrel
        have HATF := (show Hid _ from hatF)
        have HSBF := (show Hid _ from hsbF)
        clear hatF hsbF HAT1 HSB1
        by_cases hlt : s < p.n
        · have dlt : decide ((s : Int) < (p.n : Int)) = true := by simp; omega
          have hs2 : s = 20 ∨ s = 40 := by omega
          have HNF : Hid (∀ k, k < p.n → F k < p.n) := fun k hk => (HSBF.out.loc k hk).2
          have HNEXT : Hid (∀ (b : Nat) (G : Nat → Nat), (b = p.n ∧ p.n ≤ 2 * s ∨ b = 40 ∧ s = 20) → b ≤ p.n → SortMath.Sub G F 0 b → Srt (ltX p.X) G 0 b → SB (ltX p.X) (2 * s) p.n G) := fun b G g1 g2 g3 g4 => sb_next s b hs2 hn HSBF.out g1 g2 g3 g4
          have HPAIR : Hid (∀ b, s < b → b ≤ p.n → b ≤ 2 * s → Srt (ltX p.X) F 0 s ∧ Srt (ltX p.X) F s b ∧ Cross F 0 s b) := fun b g1 g2 g3 => by
            have := sb_pair s 0 b hs2 HSBF.out rfl g1 g2 g3
            rw [Nat.zero_add] at this
            exact this
          by_cases hb : 2 * s ≤ p.n
          · have hs20 : s = 20 := by omega
            subst hs20
            have q := HPAIR.out 40 (by omega) (by omega) (by omega)
            have HC := (show Hid _ from HSYM.out F 0 20 40 wr HATF.out (by omega) (by omega) (by omega) HNF.out q.1 q.2.1 q.2.2)
            have b0 : (40 : Int) ≤ (p.n : Int) := by omega
            have b1 : (p.n : Int) < 80 := by omega
            have b2 : (p.n : Int) ≤ 60 := by omega
            have b3 : (20 : Int) < (p.n : Int) := by omega
            clear q hs hs2 hlt hb
            go_wp2_with fail
            refine wp_loop_rounds 2 ?_
            rw [rounds_succ]
            go_wp2_with fail
            refine Calls.mono HC.out ?_
            rintro e w2 ⟨rfl, G, hatG, hsubG, hsrtG⟩
            have HATG := (show Hid _ from hatG)
            have HSBG := (show Hid _ from HNEXT.out 40 G (by first | exact .inr ⟨rfl, trivial⟩ | exact .inr ⟨rfl, rfl⟩ | simp) (by omega) hsubG hsrtG)
            clear hatG hsubG hsrtG HC
            go_wp2_with fail
            rw [rounds_succ]
            go_wp2
            go_roundw
            case rel => exact ⟨40, G, .inr (.inl rfl), rfl, HATG.out, HSBG.out⟩
            case measure => simp [intOf]
          · have q := HPAIR.out p.n hlt (Nat.le_refl _) (by omega)
            have HC := (show Hid _ from HSYM.out F 0 s p.n wr HATF.out (by omega) hlt (Nat.le_refl _) HNF.out q.1 q.2.1 q.2.2)
            have b0 : (p.n : Int) < 2 * (s : Int) := by omega
            have b1 : (s : Int) < (p.n : Int) := by omega
            have b4 : ¬ 2 * (s : Int) ≤ (p.n : Int) := by omega
            have b5 : decide (2 * (s : Int) ≤ (p.n : Int)) = false := by simp; omega
            have HQ : Hid (p.n ≤ 2 * s) := by show p.n ≤ 2 * s; omega
            clear q hb
            go_wp2_with fail
            refine wp_loop_rounds 1 ?_
            rw [rounds_succ]
            go_wp2_with fail
            refine Calls.mono HC.out ?_
            rintro e w2 ⟨rfl, G, hatG, hsubG, hsrtG⟩
            have HATG := (show Hid _ from hatG)
            have HSBG := (show Hid _ from HNEXT.out p.n G (.inl ⟨rfl, HQ.out⟩) (Nat.le_refl _) hsubG hsrtG)
            clear hatG hsubG hsrtG HC
            go_wp2
            go_roundw
            case rel => exact ⟨2 * s, G, by omega, by go_num, HATG.out, HSBG.out⟩
            case measure => simp [intOf] <;> omega
        · have dlt : decide ((s : Int) < (p.n : Int)) = false := by simp; omega
          have HF : Hid (Srt (ltX p.X) F 0 p.n) := fun i j _ gij gj => HSBF.out.srt i j gij gj (by rw [Nat.div_eq_of_lt (by omega), Nat.div_eq_of_lt (by omega)])
          go_wp2
          go_end0
          exact ⟨rfl, F, HATF.out, fun k hk => (HSBF.out.loc k hk).2, HF.out⟩
end Go.Proofs.YtfanagohfimnkaaDoor
