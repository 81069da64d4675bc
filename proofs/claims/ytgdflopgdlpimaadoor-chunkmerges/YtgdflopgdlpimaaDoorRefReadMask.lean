/- The document's ReadMask by its contract. -/
import Derived.Test.YtgdflopgdlpimaaDoorRefMask2
import Derived.Test.YtgdflopgdlpimaaDoorBitMathGroup
import Derived.Test.YtgdflopgdlpimaaDoorRefUnwave
import Derived.Deep.AppendLies
import Derived.Deep.DeepCutAuto
namespace Go.Proofs.YtgdflopgdlpimaaDoor
open Go.RowKit

theorem Tryd.infoU64 : (Tryd.prog.info? 39).map (fun i => (i.zero, i.size, i.bytes)) = some (some (.int .u64 0), 1, 8) := by kernel_rfl

/-- The cells of values. -/
def u64Cells (vs : List Nat) : List Value := vs.map fun (n : Nat) => .int .u64 (n : Int)
theorem u64Cells_snoc (vs : List Nat) (x : Nat) : u64Cells vs ++ [.int .u64 (x : Int)] = u64Cells (vs ++ [x]) := by simp [u64Cells]
theorem own_u64s {w : World} {base : Nat} {v : Value} {n : Nat} {vs : List Nat} (h : w.ownsRow base 39 1 v n (u64Cells vs)) (hl : vs.length = n) (hv : ∀ x, x ∈ vs → x < 18446744073709551616) (hn : 0 < n) :
    ∃ g cap, v = .slice (some ⟨g, 0, none⟩) n cap ∧ g < w.heap.size ∧ base ≤ g ∧ n ≤ cap ∧ U64s w (some ⟨g, 0, none⟩) n (BitMath.vf vs) := by
  obtain ⟨_, h2⟩ := h
  rcases h2 with ⟨_, h0⟩ | ⟨g, cap, cur, hv', hg, hh, h1, h2, h3, h4⟩
  · omega
  · rw [Nat.mul_one] at h3 h4
    have hgl : g < w.heap.size := by
      rcases Nat.lt_or_ge g w.heap.size with h' | h'
      · exact h'
      · rw [Array.getElem?_eq_none h'] at hh; cases hh
    refine ⟨g, cap, hv', hgl, hg, h1, .inr ⟨g, 0, rfl, fun k hk => ⟨?_, ?_⟩⟩⟩
    · have e0 : w.cell? ⟨g, k, none⟩ = cur[k]? := by simp [World.cell?, hh]
      rw [Nat.zero_add, e0, ← Array.getElem?_toList]
      have e : (cur.toList.take n)[k]? = cur.toList[k]? := by rw [List.getElem?_take_of_lt hk]
      rw [← e, h4, u64Cells, List.getElem?_map, List.getElem?_eq_getElem (by omega)]
      simp [BitMath.vf, List.getElem?_eq_getElem (show k < vs.length by omega)]
    · have : BitMath.vf vs k = vs[k]'(by omega) := by simp [BitMath.vf, List.getElem?_eq_getElem (show k < vs.length by omega)]
      rw [this]
      exact hv _ (List.getElem_mem _)

/-- What ReadMask answers. -/
def ReadOut (w w' : World) (D : List Bool) (n : Nat) (e : Ending) : Prop :=
  Below w.heap.size w w' ∧ ((∃ (vs : List Nat) (u : Nat) (v : Value), BitMath.maskRead D n = (0, vs, u) ∧ e = .returned (.tuple #[v, .int .i64 (u : Int), .int .i64 0]) ∧ vs.length = n ∧ u ≤ D.length ∧ w'.ownsRow w.heap.size 39 1 v n (u64Cells vs) ∧ (∀ x, x ∈ vs → x < 18446744073709551616) ∧ BitMath.maskTo (BitMath.vf vs) n = D.take u) ∨
    (∃ c : Nat, c ≠ 0 ∧ BitMath.maskRead D n = (c, [], 0) ∧ e = .returned (.tuple #[.slice none 0 0, .int .i64 0, .int .i64 (c : Int)])))

/-- The append of one value to the row of values, behind it. -/
theorem grown_below {w wr w1 : World} {v : Value} {C : Array Value} {n : Nat} {xs : List Value} (hb : Below w.heap.size w wr) (hown : wr.ownsRow w.heap.size 39 1 v n xs) (hgrow : (wr.alloc (.cells C 39)).grownBy w1 v.ownBlock) : Below w.heap.size w w1 := by
  have hba : Below w.heap.size w (wr.alloc (.cells C 39)) := hb.alloc hb.size _
  refine hba.trans ⟨hgrow.os, hgrow.tape, hgrow.output, hgrow.size, fun k hk => hgrow.block k (Nat.lt_of_lt_of_le hk hba.size) ?_⟩
  intro e
  rcases hown.2 with ⟨rfl, _⟩ | ⟨g, cap, cur, rfl, hg, _⟩
  · simp [Value.ownBlock] at e
  · simp [Value.ownBlock] at e
    omega

theorem own_keep {w w' : World} {base : Nat} {e : TypeId} {sz : Nat} {v : Value} {n : Nat} {xs : List Value} (h : w.ownsRow base e sz v n xs) (hb : Below w.heap.size w w') : w'.ownsRow base e sz v n xs := by
  obtain ⟨h1, h2⟩ := h
  refine ⟨h1, ?_⟩
  rcases h2 with h2 | ⟨g, cap, cur, hv, hg, hh, r⟩
  · exact .inl h2
  · have hl : g < w.heap.size := by
      rcases Nat.lt_or_ge g w.heap.size with h' | h'
      · exact h'
      · rw [Array.getElem?_eq_none h'] at hh; cases hh
    exact .inr ⟨g, cap, cur, hv, hg, (hb.block g hl).trans hh, r⟩
/-- A later value behind its head. -/
theorem readStep_eq (w : Bool × Nat × Nat) (p : Nat) (E : List Bool) (Lh Wd h X : Nat) (e0 : ¬ E.length = 0) (hb0 : E.getD 0 false = true) (e1 : ¬ E.length ≤ 1) (hn13 : ¬ (E.getD 1 false = true ∧ E.length < 13)) (hh : BitMath.headR w E = (Lh, Wd, h)) (hX : X = BitMath.valB ((E.drop h).take Wd) * 2 ^ (64 - Lh - Wd)) :
    BitMath.readStep w p E = if Wd = 0 ∨ 64 < Lh + Wd then (1, 0, 0) else if E.length < h + Wd then (5, 0, 0) else if X = 0 ∨ BitMath.mBits w X ≠ E.take (h + Wd) then (1, 0, 0) else (0, p ^^^ X, h + Wd) := by
  subst hX
  unfold BitMath.readStep
  rw [if_neg e0, if_neg (by rw [hb0]; decide), if_neg e1, if_neg hn13, hh]
theorem two_step (y t W : Nat) (hy : y < 2 ^ W) (ht : W + (t + 1) ≤ 64) : IntKind.u64.wrap (2 * ((y * 2 ^ t : Nat) : Int)) = ((y * 2 ^ (t + 1) : Nat) : Int) := by
  have h1 : y * 2 ^ (t + 1) < 2 ^ W * 2 ^ (t + 1) := Nat.mul_lt_mul_of_pos_right hy (Nat.two_pow_pos _)
  rw [← Nat.pow_add] at h1
  have h2 : 2 ^ (W + (t + 1)) ≤ 2 ^ 64 := Nat.pow_le_pow_right (by omega) ht
  have h3 : (2 : Nat) ^ 64 = 18446744073709551616 := rfl
  have h4 : 2 * (y * 2 ^ t) = y * 2 ^ (t + 1) := by rw [Nat.pow_succ, Nat.mul_comm 2, Nat.mul_assoc]
  rw [IntWalk.u64_in _ (by omega)]
  omega
theorem mul_lt_64 (y t W : Nat) (hy : y < 2 ^ W) (ht : W + t ≤ 64) : y * 2 ^ t < 18446744073709551616 := by
  have h1 : y * 2 ^ t < 2 ^ W * 2 ^ t := Nat.mul_lt_mul_of_pos_right hy (Nat.two_pow_pos _)
  rw [← Nat.pow_add] at h1
  have h2 : 2 ^ (W + t) ≤ 2 ^ 64 := Nat.pow_le_pow_right (by omega) ht
  have h3 : (2 : Nat) ^ 64 = 18446744073709551616 := rfl
  omega

/-- The window behind a value that Put would make so. -/
theorem next_win (w : Bool × Nat × Nat) (E : List Bool) (X Lh Wd h : Nat) (hX : X < 18446744073709551616) (h0 : X ≠ 0) (hb0 : E.getD 0 false = true) (hh : BitMath.headR w E = (Lh, Wd, h)) (hm : BitMath.mBits w X = E.take (h + Wd)) :
    ∃ W' T', BitMath.mNext w X = (W', Lh, T') ∧ BitMath.wideW (W', Lh, T') = Wd := by
  unfold BitMath.headR at hh
  by_cases hf : E.getD 1 false = true
  · rw [if_pos hf] at hh
    simp at hh
    obtain ⟨rfl, rfl, rfl⟩ := hh
    obtain ⟨e1, e2⟩ := BitMath.head_new w X hX E _ (by omega) h0 hf hm
    rw [e1] at e2
    exact ⟨_, _, e1, e2⟩
  · rw [if_neg hf] at hh
    simp at hh
    obtain ⟨rfl, rfl, rfl⟩ := hh
    have e := BitMath.head_old w X E _ (by omega) h0 (by simpa using hf) hb0 hm
    obtain ⟨W, L, T⟩ := w
    exact ⟨W, T, e, rfl⟩

/-- A value more. -/
theorem mask_next {D E : List Bool} {vs : List Nat} {w : Bool × Nat × Nat} {u j p m x : Nat} (hE : E = D.drop u) (hu : u ≤ D.length) (hvl : vs.length = j + 1) (hwin : BitMath.winTo (BitMath.vf vs) (j + 1) = w) (hmask : BitMath.maskTo (BitMath.vf vs) (j + 1) = D.take u) (hp : BitMath.vf vs j = p) (hm : m ≤ E.length) (hb : BitMath.mBits w x = E.take m) :
    (vs ++ [p ^^^ x]).length = j + 2 ∧ BitMath.winTo (BitMath.vf (vs ++ [p ^^^ x])) (j + 2) = BitMath.mNext w x ∧ BitMath.maskTo (BitMath.vf (vs ++ [p ^^^ x])) (j + 2) = D.take (u + m) ∧ u + m ≤ D.length := by
  have h := BitMath.maskTo_next vs x (by omega)
  rw [hvl, Nat.add_sub_cancel, hp, hwin, hmask] at h
  rw [hE, List.length_drop] at hm
  refine ⟨by simp [hvl], h.2, ?_, by omega⟩
  rw [h.1, hb, hE, List.take_add]

set_option maxRecDepth 1000000 in
set_option maxHeartbeats 8000000 in
theorem readMask_any (bs : List Bool) (a0 n : Nat) (w : World) (ha : a0 ≤ bs.length) (hl : bs.length ≤ 100000) (hn : n ≤ 1000) :
    Calls Tryd.prog 42 #[.string (BitMath.txt bs), .int .i64 (a0 : Int), .int .i64 (n : Int)] w fun e w' => ReadOut w w' (bs.drop a0) n e := by
  have hsz := BitMath.txt_size bs
  obtain ⟨s, hs⟩ : ∃ s, s = BitMath.txt bs := ⟨_, rfl⟩
  rw [← hs] at hsz ⊢
  obtain ⟨D, hD⟩ : ∃ D, D = bs.drop a0 := ⟨_, rfl⟩
  have hDl : D.length = bs.length - a0 := by rw [hD, List.length_drop]
  rw [← hD]
  have HS := (show Hid _ from hs)
  have HD := (show Hid _ from hD)
  have HZ := (show Hid _ from hsz)
  have hsl : s.size ≤ 100000 := by omega
  have has : a0 ≤ s.size := by omega
  have HDL := (show Hid _ from (by omega : D.length + a0 = s.size))
  clear hs hD hsz hDl ha hl
  go_enter Tryd.func42, Tryd.ntmps42
  go_wp2_with fail
  go_loopw [1, 6, 7, 8, 9, 11, 12, 13, 14, 15, 16] (fun at_ r6 r7 r8 o l wd i _ _ _ wr => r6 = .slice none 0 0 ∧ r7 = .int .i64 0 ∧ r8 = .int .i64 0 ∧ ∃ (k u : Nat) (vs : List Nat) (W : Bool) (L T : Nat) (v : Value), k ≤ n ∧ i = .int .i64 k ∧ at_ = .int .i64 ((a0 + u : Nat) : Int) ∧ v = o ∧ l = .int .i64 (L : Int) ∧ wd = .int .i64 (BitMath.wideW (W, L, T) : Int) ∧ BitMath.maskRead D k = (0, vs, u) ∧ vs.length = k ∧ BitMath.winTo (BitMath.vf vs) k = (W, L, T) ∧ BitMath.maskTo (BitMath.vf vs) k = D.take u ∧ u ≤ D.length ∧ (∀ x, x ∈ vs → x < 18446744073709551616) ∧ wr.ownsRow w.heap.size 39 1 v k (u64Cells vs) ∧ Below w.heap.size w wr) (fun _ _ _ _ _ _ _ i _ _ _ _ => n - (intOf i).toNat)
  case atStart => exact ⟨rfl, rfl, rfl, 0, 0, [], false, 0, 0, _, Nat.zero_le _, rfl, rfl, rfl, rfl, rfl, rfl, rfl, rfl, rfl, Nat.zero_le _, by simp, ⟨rfl, .inl ⟨rfl, rfl⟩⟩, Below.refl _ _⟩
  case round =>
    obtain ⟨rfl, rfl, rfl, k, u, vs, W, L, T, v, hk, rfl, rfl, rfl, rfl, rfl, hmr, hvl, hwin, hmask, hu, hvs, hown, hb⟩ := hrel
    have HMR := (show Hid _ from hmr)
    have HWIN := (show Hid _ from hwin)
    have HMASK := (show Hid _ from hmask)
    have HVS := (show Hid _ from hvs)
    have HB := (show Hid _ from hb)
    have HOWN : Hid (wr.ownsRow w.heap.size 39 1 v k (u64Cells vs)) := hown
    have HVL := (show Hid _ from hvl)
    have hwl := hb.size
    have hA : a0 + u ≤ s.size := by have := HDL.out; omega
    clear hmr hwin hmask hvs hb hown hvl
    by_cases hkn : k < n
    · have hk1 : (k : Int) < (n : Int) := by omega
      by_cases hz : k = 0
      · subst hz
        obtain ⟨rfl, rfl⟩ : vs = [] ∧ u = 0 := by
          have := HMR.out
          simp [BitMath.maskRead] at this
          exact ⟨this.1, this.2.symm⟩
        obtain ⟨rfl, rfl, rfl⟩ : W = false ∧ L = 0 ∧ T = 0 := by
          have := HWIN.out
          simp [BitMath.winTo] at this
          exact ⟨this.1, this.2.1.symm, this.2.2.symm⟩
        by_cases h64 : D.length < 64
        · have HERR := (show Hid _ from BitMath.maskRead_err D 1 5 (by decide) (BitMath.maskRead_first_bad D h64) n (by omega))
          have hcmp : decide ((s.size : Int) < (a0 : Int) + 64) = true := by have := HDL.out; simp; omega
          clear hwl hA h64 hu
          go_wp2
          go_ret3
          exact ⟨HB.out, .inr ⟨5, by decide, HERR.out, rfl⟩⟩
        · have hcmp : decide ((s.size : Int) < (a0 : Int) + 64) = false := by have := HDL.out; simp; omega
          have hge : (a0 : Int) + 64 ≤ (s.size : Int) := by have := HDL.out; omega
          have hgood := BitMath.maskRead_first D (by omega)
          have hcut : s.extract a0 (a0 + 64) = BitMath.txt (D.take 64) := by rw [HS.out, BitMath.txt_extract, HD.out, Nat.add_sub_cancel_left]
          have hval := fun w0 => value_of (s.extract a0 (a0 + 64)) (D.take 64) w0 hcut (by simp; omega)
          have hvl64 : BitMath.valB (D.take 64) < 18446744073709551616 := valB_64 _ (by simp; omega)
          have hbv : BitMath.bitsOf (BitMath.valB (D.take 64)) 64 = D.take 64 := by
            have := BitMath.bits_val (D.take 64)
            rwa [show (D.take 64).length = 64 by simp; omega] at this
          obtain ⟨y, hy⟩ : ∃ y, y = BitMath.valB (D.take 64) := ⟨_, rfl⟩
          rw [← hy] at hgood hval hvl64 hbv
          have HVAL := (show Hid _ from hval)
          have HGOOD := (show Hid _ from hgood)
          have HBV := (show Hid _ from hbv)
          have HY64 := (show Hid _ from hvl64)
          have hu64 : 64 ≤ D.length := by omega
          obtain ⟨i0, hi, hz0, hz1, hz2⟩ := info_parts Tryd.infoU64
          have hownA : (wr.alloc (.cells #[.int .u64 (y : Int)] 39)).ownsRow w.heap.size 39 1 v 0 (u64Cells []) := HOWN.out.alloc _
          clear hval hgood hbv hvl64 hcut hy h64
          go_wp2_with fail
          refine Calls.mono (HVAL.out _) ?_
          rintro e w0 ⟨rfl, hw0⟩
          have hw0' := hw0.symm
          subst hw0'
          go_wp2_with (at_builtin; refine wpList_append_lies _ rfl _ _ 66 rfl w.heap.size 39 i0 (.int .u64 0) 1 8 Tryd.underlying66 hi hz0 hz1 hz2 rfl (by decide) _ _ _ rfl hownA ⟨wr.heap.size, 0, none⟩ 1 1 [.int .u64 (y : Int)] rfl rfl ?c1 ?c2 (by omega) ?c3 ?c4 ?c5 (wr.heap.size + 1) (by simp) ?_)
          case c1 =>
            intro j u hj
            match j, hj with
            | 0, hj => simp at hj; subst hj; simp [Addr.add]
          case c2 => intro u hu; simp at hu; subst hu; rfl
          case c3 => unfold maxLen; omega
          case c4 => omega
          case c5 => simp; omega
          intro g cap w1 hown1 hgrow hat hlt1
          have hb1 := grown_below HB.out HOWN.out hgrow
          rw [u64Cells_snoc] at hown1
          have HOWN1 : Hid (w1.ownsRow w.heap.size 39 1 (.slice (some ⟨g, 0, none⟩) (0 + 1) cap) (0 + 1) (u64Cells ([] ++ [y]))) := hown1
          have HB1 := (show Hid _ from hb1)
          clear hown1 hgrow hat hlt1 hb1 hownA
          go_wp2
          go_roundw
          case rel =>
            refine ⟨rfl, rfl, rfl, 1, 64, [y], false, 0, 0, _, by omega, by go_num, by go_num, rfl, rfl, rfl, HGOOD.out, rfl, BitMath.winTo_first _, ?_, hu64, ?_, HOWN1.out, HB1.out⟩
            · rw [BitMath.maskTo_first]
              exact HBV.out
            · intro x hx
              simp at hx
              rw [hx]
              exact HY64.out
          case measure => simp [intOf] <;> omega
      · obtain ⟨j, rfl⟩ : ∃ j, k = j + 1 := ⟨k - 1, by omega⟩
        obtain ⟨g, cap, rfl, hgl, hgw, hcap, hU⟩ := own_u64s HOWN.out HVL.out HVS.out (by omega)
        obtain ⟨gb, go, hgo, hcs⟩ := hU.at j (by omega)
        cases hgo
        obtain ⟨hcp, hpl⟩ := hcs j (by omega)
        rw [Nat.zero_add] at hcp
        obtain ⟨p, hp⟩ : ∃ p, p = BitMath.vf vs j := ⟨_, rfl⟩
        rw [← hp] at hcp hpl
        have HP := (show Hid _ from hp.symm)
        obtain ⟨A, hAe⟩ : ∃ A, A = a0 + u := ⟨_, rfl⟩
        have HAE := (show Hid _ from hAe)
        have hAI : ((a0 + u : Nat) : Int) = (A : Int) := by rw [hAe]
        obtain ⟨E, hE⟩ : ∃ E, E = D.drop u := ⟨_, rfl⟩
        have hEl : E.length + A = s.size := by rw [hE, List.length_drop]; have := HDL.out; omega
        have HEL := (show Hid _ from hEl)
        have hbit : ∀ i, i < E.length → bs[A + i]? = some (E.getD i false) := fun i hi => by
          have : E[i]? = bs[A + i]? := by rw [hE, HD.out, List.drop_drop, List.getElem?_drop, ← hAe]
          rw [← this, List.getD_eq_getElem?_getD, List.getElem?_eq_getElem hi]
          rfl
        have HBIT := (show Hid _ from hbit)
        have HEE := (show Hid _ from hE)
        have hbad : ∀ c, c ≠ 0 → BitMath.readStep (W, L, T) p E = (c, 0, 0) → BitMath.maskRead D n = (c, [], 0) := fun c hc hr => by
          have := BitMath.maskRead_bad D (j + 1) u vs (W, L, T) p c (by omega) HMR.out HWIN.out (by rw [Nat.add_sub_cancel]; exact HP.out) (by rw [← hE]; exact hr) hc
          exact BitMath.maskRead_err D (j + 2) c hc this n (by omega)
        have HBAD := (show Hid _ from hbad)
        have hgood : ∀ v' m, BitMath.readStep (W, L, T) p E = (0, v', m) → BitMath.maskRead D (j + 2) = (0, vs ++ [v'], u + m) := fun v' m hr =>
          BitMath.maskRead_good D (j + 1) u vs (W, L, T) p v' m (by omega) HMR.out HWIN.out (by rw [Nat.add_sub_cancel]; exact HP.out) (by rw [← hE]; exact hr)
        have HGOOD := (show Hid _ from hgood)
        have hA' : A ≤ s.size := by omega
        have HOK31 : Hid (L ≤ 31) := by
          have := BitMath.winTo_ok (BitMath.vf vs) (j + 1) (fun i hi => hU.lt i hi) (j + 1) (Nat.le_refl _)
          rw [HWIN.out] at this
          exact this.1
        rw [hAI]
        clear hbad hgood hbit hE hp hAe hcs hU hA hEl hAI hz
        have i1 : (0 : Int) ≤ (j : Int) + 1 - 1 := by omega
        have i2 : (j : Int) + 1 - 1 < (j : Int) + 1 := by omega
        have i3 : (j : Int) + 1 ≤ (cap : Int) := by omega
        by_cases e0 : E.length = 0
        · have hr : BitMath.readStep (W, L, T) p E = (5, 0, 0) := by unfold BitMath.readStep; rw [if_pos e0]
          have HERR := (show Hid _ from HBAD.out 5 (by decide) hr)
          have hcmp : decide ((s.size : Int) ≤ (A : Int)) = true := by have := HEL.out; simp; omega
          have hcmpn : decide (s.size ≤ A) = true := by have := HEL.out; simp; omega
          clear hr e0
          go_wp2
          go_ret3
          exact ⟨HB.out, .inr ⟨5, by decide, HERR.out, rfl⟩⟩
        · have hlt : A < s.size := by have := HEL.out; omega
          have hcmp : decide ((s.size : Int) ≤ (A : Int)) = false := by simp; omega
          have hcmpn : decide (s.size ≤ A) = false := by simp; omega
          have hA0 : (0 : Int) ≤ (A : Int) := by omega
          have hA1 : (A : Int) < (s.size : Int) := by omega
          cases hb0 : E.getD 0 false with
          | false =>
            have hbt := bit_48 s bs HS.out A hlt false (by have := HBIT.out 0 (by omega); rw [hb0] at this; exact this)
            have hr : BitMath.readStep (W, L, T) p E = (0, p, 1) := by unfold BitMath.readStep; rw [if_neg e0, if_pos hb0]
            have HGD := (show Hid _ from HGOOD.out _ _ hr)
            have he1 : E.take 1 = [false] := by
              match E, e0, hb0 with
              | [], e0, _ => exact absurd rfl e0
              | b :: r, _, hb => simp at hb; subst hb; rfl
            have hnx := mask_next (x := 0) HEE.out hu HVL.out HWIN.out HMASK.out HP.out (m := 1) (by omega) (by rw [he1]; rfl)
            rw [Nat.xor_zero] at hnx
            have HNX := (show Hid _ from hnx)
            clear he1
            obtain ⟨i0, hi, hz0, hz1, hz2⟩ := info_parts Tryd.infoU64
            have hownA : (wr.alloc (.cells #[.int .u64 (p : Int)] 39)).ownsRow w.heap.size 39 1 (.slice (some ⟨g, 0, none⟩) (j + 1) cap) (j + 1) (u64Cells vs) := HOWN.out.alloc _
            clear hr hb0 e0 hnx
            go_wp2_with (at_builtin; refine wpList_append_lies _ rfl _ _ 66 rfl w.heap.size 39 i0 (.int .u64 0) 1 8 Tryd.underlying66 hi hz0 hz1 hz2 rfl (by decide) _ _ _ rfl hownA ⟨wr.heap.size, 0, none⟩ 1 1 [.int .u64 (p : Int)] rfl rfl ?c1 ?c2 (by omega) ?c3 ?c4 ?c5 (wr.heap.size + 1) (by simp) ?_)
            case c1 =>
              intro j u hj
              match j, hj with
              | 0, hj => simp at hj; subst hj; simp [Addr.add]
            case c2 => intro u hu; simp at hu; subst hu; rfl
            case c3 => unfold maxLen; omega
            case c4 => omega
            case c5 => simp; omega
            intro g1 cap1 w1 hown1 hgrow hat hlt1
            have hb1 := grown_below HB.out HOWN.out hgrow
            rw [u64Cells_snoc] at hown1
            have HOWN1 : Hid (w1.ownsRow w.heap.size 39 1 (.slice (some ⟨g1, 0, none⟩) (j + 1 + 1) cap1) (j + 1 + 1) (u64Cells (vs ++ [p]))) := hown1
            have HB1 := (show Hid _ from hb1)
            clear hown1 hgrow hat hlt1 hb1 hownA hcp
            go_wp2
            go_roundw
            case rel =>
              refine ⟨rfl, rfl, rfl, j + 2, u + 1, vs ++ [p], W, L, T, _, by omega, by go_num, congrArg (Value.int .i64) (by have := HAE.out; omega), rfl, rfl, rfl, HGD.out, HNX.out.1, ?_, HNX.out.2.2.1, HNX.out.2.2.2, ?_, HOWN1.out, HB1.out⟩
              · rw [HNX.out.2.1]
                unfold BitMath.mNext
                rw [if_pos rfl]
              · intro x hx
                rcases List.mem_append.1 hx with hx | hx
                · exact HVS.out x hx
                · simp at hx
                  rw [hx]
                  exact hpl
            case measure => simp [intOf] <;> omega
          | true =>
            have hbt := bit_48 s bs HS.out A hlt true (by have := HBIT.out 0 (by omega); rw [hb0] at this; exact this)
            by_cases e1 : E.length ≤ 1
            · have hr : BitMath.readStep (W, L, T) p E = (5, 0, 0) := by unfold BitMath.readStep; rw [if_neg e0, if_neg (by rw [hb0]; decide), if_pos e1]
              have HERR := (show Hid _ from HBAD.out 5 (by decide) hr)
              have hcmp2 : decide ((s.size : Int) ≤ (A : Int) + 1) = true := by have := HEL.out; simp; omega
              have hcmp2n : decide (s.size ≤ A + 1) = true := by have := HEL.out; simp; omega
              clear hr e0 hb0 e1
              go_wp2
              go_ret3
              exact ⟨HB.out, .inr ⟨5, by decide, HERR.out, rfl⟩⟩
            · have hcmp2 : decide ((s.size : Int) ≤ (A : Int) + 1) = false := by have := HEL.out; simp; omega
              have hcmp2n : decide (s.size ≤ A + 1) = false := by have := HEL.out; simp; omega
              have hA2 : (A : Int) + 1 < (s.size : Int) := by have := HEL.out; omega
              obtain ⟨f, hf⟩ : ∃ f, f = E.getD 1 false := ⟨_, rfl⟩
              have hlt1 : A + 1 < s.size := by have := HEL.out; omega
              have hbf := bit_at s bs HS.out (A + 1) hlt1 f (by rw [List.getD_eq_getElem?_getD, HBIT.out 1 (by omega), hf]; rfl)
              have HFF := (show Hid _ from hf)
              clear hf
              go_upto_if 71 with fail
              go_cut [1, 6, 7, 8, 11, 12] (fun at_ r6 r7 r8 l wd wx => r6 = .slice none 0 0 ∧ r7 = .int .i64 0 ∧ r8 = .int .i64 0 ∧ wx = wr ∧ ∃ (Lh Wd h : Nat), at_ = .int .i64 ((A + h : Nat) : Int) ∧ l = .int .i64 (Lh : Int) ∧ wd = .int .i64 (Wd : Int) ∧ BitMath.headR (W, L, T) E = (Lh, Wd, h) ∧ A + h ≤ s.size ∧ h ≤ 13 ∧ Lh ≤ 31 ∧ Wd ≤ 64 ∧ ¬ (E.getD 1 false = true ∧ E.length < 13))
              case first =>
                cases f with
                | false =>
                  have hh : BitMath.headR (W, L, T) E = (L, BitMath.wideW (W, L, T), 2) := by unfold BitMath.headR; rw [← HFF.out, if_neg (by decide)]
                  have HH := (show Hid _ from hh)
                  have HF1 : Hid (E.getD 1 false = false) := HFF.out.symm
                  clear hh
                  go_wp2_with fail
                  go_meet
                  exact ⟨rfl, rfl, rfl, rfl, L, BitMath.wideW (W, L, T), 2, rfl, rfl, rfl, HH.out, by omega, by omega, by have := HOK31.out; omega, by unfold BitMath.wideW; split <;> omega, fun h => by rw [HF1.out] at h; exact absurd h.1 (by decide)⟩
                | true =>
                  by_cases e13 : E.length < 13
                  · have hr : BitMath.readStep (W, L, T) p E = (5, 0, 0) := by unfold BitMath.readStep; rw [if_neg e0, if_neg (by rw [hb0]; decide), if_neg e1, if_pos ⟨HFF.out.symm, e13⟩]
                    have HERR := (show Hid _ from HBAD.out 5 (by decide) hr)
                    have hcmp3 : decide ((s.size : Int) < (A : Int) + 2 + 11) = true := by have := HEL.out; simp; omega
                    have hcmp3m : (s.size : Int) < (A : Int) + 2 + 11 := by have := HEL.out; omega
                    clear hr
                    go_wp2
                    go_ret3
                    exact ⟨HB.out, .inr ⟨5, by decide, HERR.out, rfl⟩⟩
                  · have hcmp3 : decide ((s.size : Int) < (A : Int) + 2 + 11) = false := by have := HEL.out; simp; omega
                    have hcmp3m : (A : Int) + 2 + 11 ≤ (s.size : Int) := by have := HEL.out; omega
                    have hcut5 : s.extract (A + 2) (A + 2 + 5) = BitMath.txt ((E.drop 2).take 5) := by rw [HS.out, BitMath.txt_extract, HEE.out, HD.out, List.drop_drop, List.drop_drop, HAE.out, Nat.add_sub_cancel_left, Nat.add_assoc]
                    have hcut6 : s.extract (A + 2 + 5) (A + 2 + 11) = BitMath.txt ((E.drop 7).take 6) := by rw [HS.out, BitMath.txt_extract, HEE.out, HD.out, List.drop_drop, List.drop_drop, HAE.out, show a0 + u + 2 + 11 - (a0 + u + 2 + 5) = 6 by omega, show a0 + u + 2 + 5 = a0 + (u + 7) by omega]
                    have hv5 := fun w0 => value_of (s.extract (A + 2) (A + 2 + 5)) ((E.drop 2).take 5) w0 hcut5 (by simp; omega)
                    have hv6 := fun w0 => value_of (s.extract (A + 2 + 5) (A + 2 + 11)) ((E.drop 7).take 6) w0 hcut6 (by simp; omega)
                    have hl5 := BitMath.valB_lt ((E.drop 2).take 5)
                    have hl6 := BitMath.valB_lt ((E.drop 7).take 6)
                    rw [show ((E.drop 2).take 5).length = 5 by simp; omega] at hl5
                    rw [show ((E.drop 7).take 6).length = 6 by simp; omega] at hl6
                    have hh : BitMath.headR (W, L, T) E = (BitMath.valB ((E.drop 2).take 5), BitMath.fixW (BitMath.valB ((E.drop 7).take 6)), 13) := by unfold BitMath.headR; rw [if_pos HFF.out.symm]
                    generalize BitMath.valB ((E.drop 2).take 5) = y5 at *
                    generalize BitMath.valB ((E.drop 7).take 6) = y6 at *
                    have hy5 : (y5 : Int) ≤ 31 := by omega
                    have hy6 : (y6 : Int) ≤ 63 := by omega
                    have hw5 : wrap64 (y5 : Int) = (y5 : Int) := by unfold wrap64; omega
                    have hw6 : wrap64 (y6 : Int) = (y6 : Int) := by unfold wrap64; omega
                    have HV5 := (show Hid _ from hv5)
                    have HV6 := (show Hid _ from hv6)
                    have HH := (show Hid _ from hh)
                    have HE13 : Hid (¬ E.length < 13) := e13
                    clear hcut5 hcut6 hv5 hv6 hh e13 hcmp hcmpn hcmp2 hcmp2n hbt hbf hcp hpl i1 i2 i3 hgl hgw hcap hwl hk1 hu hA' hl5 hl6 hlt hlt1 e0 e1 hb0 hkn hk has
                    go_wp2_with fail
                    refine Calls.mono (HV5.out _) ?_
                    rintro e w5 ⟨rfl, hw5'⟩
                    have hw5'' := hw5'.symm
                    subst hw5''
                    go_wp2_with fail
                    refine Calls.mono (HV6.out _) ?_
                    rintro e w6 ⟨rfl, hw6'⟩
                    have hw6'' := hw6'.symm
                    subst hw6''
                    by_cases hy0 : y6 = 0
                    · have hb6 : ((y6 : Int) == 0) = true := by simp; omega
                      have hb6w : (wrap64 (y6 : Int) == 0) = true := by rw [hw6]; exact hb6
                      have HFX : Hid (BitMath.fixW y6 = 64) := by show BitMath.fixW y6 = 64; unfold BitMath.fixW; rw [if_pos hy0]
                      clear hy0
                      go_wp2_with fail
                      go_meet
                      exact ⟨rfl, rfl, rfl, rfl, y5, 64, 13, congrArg (Value.int .i64) (by omega), rfl, rfl, by rw [HH.out, HFX.out], by omega, by omega, by omega, by omega, fun h => HE13.out h.2⟩
                    · have hb6 : ((y6 : Int) == 0) = false := by simp; omega
                      have hb6w : (wrap64 (y6 : Int) == 0) = false := by rw [hw6]; exact hb6
                      have HW6 := (show Hid _ from hw6)
                      have HFX : Hid (BitMath.fixW y6 = y6) := by show BitMath.fixW y6 = y6; unfold BitMath.fixW; rw [if_neg hy0]
                      clear hy0
                      go_wp2_with fail
                      go_meet
                      exact ⟨rfl, rfl, rfl, rfl, y5, y6, 13, congrArg (Value.int .i64) (by omega), rfl, congrArg (Value.int .i64) (by first | rfl | exact HW6.out), by rw [HH.out, HFX.out], by omega, by omega, by omega, by omega, fun h => HE13.out h.2⟩
              case rest =>
                obtain ⟨rfl, rfl, rfl, hwc, Lh, Wd, h, rfl, rfl, rfl, hh, hAh, hh13, hLh, hWd, hn13⟩ := hcut
                have hwc' := hwc.symm
                subst hwc'
                obtain ⟨X, hX⟩ : ∃ X, X = BitMath.valB ((E.drop h).take Wd) * 2 ^ (64 - Lh - Wd) := ⟨_, rfl⟩
                have hrs := readStep_eq (W, L, T) p E Lh Wd h X e0 hb0 e1 hn13 hh hX
                have HX := (show Hid _ from hX)
                have HH := (show Hid _ from hh)
                have HN13 : Hid (¬ (E.getD 1 false = true ∧ E.length < 13)) := hn13
                have HRS := (show Hid _ from hrs)
                have HB0 := (show Hid _ from hb0)
                have HE0 : Hid (¬ E.length = 0) := e0
                clear hX hh hn13 hrs hb0 e0 e1 hcmp hcmpn hcmp2 hcmp2n hbt hbf hA2 hlt hlt1
                obtain ⟨B, hB⟩ : ∃ B, A + h = B := ⟨_, rfl⟩
                rw [hB] at hAh ⊢
                have HBe := (show Hid _ from hB)
                clear hB
                have hB0 : (0 : Int) ≤ (B : Int) := by omega
                by_cases hW0 : Wd = 0
                · have HERR := (show Hid _ from HBAD.out 1 (by decide) (HRS.out.trans (if_pos (.inl hW0))))
                  subst hW0
                  go_wp2
                  go_ret3
                  exact ⟨HB.out, .inr ⟨1, by decide, HERR.out, rfl⟩⟩
                · have hWb : ((Wd : Int) == 0) = false := by simp; omega
                  have hLb : (Lh : Int) ≤ 31 := by omega
                  by_cases hbig : 64 < Lh + Wd
                  · have HERR := (show Hid _ from HBAD.out 1 (by decide) (HRS.out.trans (if_pos (.inr hbig))))
                    have hd : decide ((64 : Int) < (Lh : Int) + (Wd : Int)) = true := by simp; omega
                    have hdI : (64 : Int) < (Lh : Int) + (Wd : Int) := by omega
                    have hdW : (Wd : Int) ≤ 64 := by omega
                    go_wp2
                    go_ret3
                    exact ⟨HB.out, .inr ⟨1, by decide, HERR.out, rfl⟩⟩
                  · have hd : decide ((64 : Int) < (Lh : Int) + (Wd : Int)) = false := by simp; omega
                    have hLW : (Lh : Int) + (Wd : Int) ≤ 64 := by omega
                    have hrs2 := HRS.out.trans (if_neg (by omega))
                    by_cases hsh : s.size < B + Wd
                    · have hsE : E.length < h + Wd := by have := HEL.out; have := HBe.out; omega
                      have HERR := (show Hid _ from HBAD.out 5 (by decide) (hrs2.trans (if_pos hsE)))
                      have hd2 : decide ((s.size : Int) < (B : Int) + (Wd : Int)) = true := by simp; omega
                      have hd2I : (s.size : Int) < (B : Int) + (Wd : Int) := by omega
                      have hd2n : decide (s.size < B + Wd) = true := by simp; omega
                      clear hrs2
                      go_wp2
                      go_ret3
                      exact ⟨HB.out, .inr ⟨5, by decide, HERR.out, rfl⟩⟩
                    · have hd2 : decide ((s.size : Int) < (B : Int) + (Wd : Int)) = false := by simp; omega
                      have hd2n : decide (s.size < B + Wd) = false := by simp; omega
                      have hle : (B : Int) + (Wd : Int) ≤ (s.size : Int) := by omega
                      have hsE : ¬ E.length < h + Wd := by have := HEL.out; have := HBe.out; omega
                      have hrs3 := hrs2.trans (if_neg hsE)
                      have HRS3 := (show Hid _ from hrs3)
                      have hcut : s.extract B (B + Wd) = BitMath.txt ((E.drop h).take Wd) := by rw [HS.out, BitMath.txt_extract, HEE.out, HD.out, List.drop_drop, List.drop_drop, ← HBe.out, HAE.out, Nat.add_sub_cancel_left, Nat.add_assoc]
                      have hval := fun w0 => value_of (s.extract B (B + Wd)) ((E.drop h).take Wd) w0 hcut (by simp; omega)
                      have hyl := BitMath.valB_lt ((E.drop h).take Wd)
                      rw [show ((E.drop h).take Wd).length = Wd by simp; omega] at hyl
                      obtain ⟨y, hy⟩ : ∃ y, y = BitMath.valB ((E.drop h).take Wd) := ⟨_, rfl⟩
                      rw [← hy] at hval hyl
                      have HXY : Hid (X = y * 2 ^ (64 - Lh - Wd)) := by show X = _; rw [HX.out, hy]
                      have HVAL := (show Hid _ from hval)
                      have HYL := (show Hid _ from hyl)
                      have HSE : Hid (h + Wd ≤ E.length) := (by omega : h + Wd ≤ E.length)
                      clear hrs2 hrs3 hsE hcut hval hyl hy hsh hbig
                      go_wp2_with fail
                      refine Calls.mono (HVAL.out _) ?_
                      rintro e w7 ⟨rfl, hw7⟩
                      have hw7' := hw7.symm
                      subst hw7'
                      go_wp2_with fail
                      go_loop [15, 16] (fun x k => ∃ t : Nat, Lh + Wd + t ≤ 64 ∧ k = .int .i64 ((Lh + Wd + t : Nat) : Int) ∧ x = .int .u64 ((y * 2 ^ t : Nat) : Int)) (fun _ k => 64 - (intOf k).toNat)
                      case atStart => exact ⟨0, by omega, by simp, by simp⟩
                      case round =>
                        obtain ⟨t, ht, rfl, rfl⟩ := hrel
                        by_cases ht64 : Lh + Wd + t < 64
                        · have hmul := two_step y t Wd HYL.out (by omega)
                          have hk64 : (Lh : Int) + (Wd : Int) + (t : Int) < 64 := by omega
                          obtain ⟨q, hq⟩ : ∃ q : Int, ((y * 2 ^ t : Nat) : Int) = q := ⟨_, rfl⟩
                          rw [hq] at hmul ⊢
                          clear hq
                          go_wp2
                          go_round
                          case rel => exact ⟨t + 1, by omega, by go_num, rfl⟩
                          case measure => simp [intOf]; omega
                        · have hte : t = 64 - Lh - Wd := by omega
                          have hXt : y * 2 ^ t = X := by rw [HXY.out, hte]
                          have hge : (64 : Int) ≤ (Lh : Int) + (Wd : Int) + (t : Int) := by omega
                          rw [hXt]
                          have hXl : X < 18446744073709551616 := by rw [← hXt]; exact mul_lt_64 y t Wd HYL.out (by omega)
                          clear hXt hte ht ht64
                          have hxor := u64_xor_nat p X hpl hXl
                          have hxx := BitMath.xor_lt p X hpl hXl
                          obtain ⟨z, hz⟩ : ∃ z, p ^^^ X = z := ⟨_, rfl⟩
                          rw [hz] at hxor hxx
                          have HZZ := (show Hid _ from hz)
                          obtain ⟨i0, hi, hz0, hz1, hz2⟩ := info_parts Tryd.infoU64
                          have hownA : (wr.alloc (.cells #[.int .u64 (z : Int)] 39)).ownsRow w.heap.size 39 1 (.slice (some ⟨g, 0, none⟩) (j + 1) cap) (j + 1) (u64Cells vs) := HOWN.out.alloc _
                          have hBW : B + Wd ≤ s.size := by omega
                          have HXL := (show Hid _ from hXl)
                          have HXX := (show Hid _ from hxx)
                          clear hz hXl hxx hd hd2 hd2n hWb
                          go_wp2_with (at_builtin; refine wpList_append_lies _ rfl _ _ 66 rfl w.heap.size 39 i0 (.int .u64 0) 1 8 Tryd.underlying66 hi hz0 hz1 hz2 rfl (by decide) _ _ _ rfl hownA ⟨wr.heap.size, 0, none⟩ 1 1 [.int .u64 (z : Int)] rfl rfl ?c1 ?c2 (by omega) ?c3 ?c4 ?c5 (wr.heap.size + 1) (by simp) ?_)
                          try (case c1 => intro j u hj; match j, hj with | 0, hj => simp at hj; subst hj; simp [Addr.add])
                          case c2 => first | rfl | (intro u hu; simp at hu; subst hu; rfl)
                          case c3 => unfold maxLen; omega
                          case c4 => omega
                          case c5 => first | omega | (simp; omega)
                          intro g1 cap1 w1 hown1 hgrow hat hlt1
                          have hb1 := grown_below HB.out HOWN.out hgrow
                          rw [u64Cells_snoc] at hown1
                          have hvs1 : ∀ x, x ∈ vs ++ [z] → x < 18446744073709551616 := by
                            intro x hx
                            rcases List.mem_append.1 hx with hx | hx
                            · exact HVS.out x hx
                            · simp at hx
                              rw [hx]
                              exact HXX.out
                          have hln1 : (vs ++ [z]).length = j + 1 + 1 := by simp [HVL.out]
                          obtain ⟨g2, cap2, hv2, hgl2, hgw2, hcap2, hU2⟩ := own_u64s hown1 hln1 hvs1 (by omega)
                          cases hv2
                          have HOWN1 : Hid (w1.ownsRow w.heap.size 39 1 (.slice (some ⟨g1, 0, none⟩) (j + 1 + 1) cap1) (j + 1 + 1) (u64Cells (vs ++ [z]))) := hown1
                          have HB1 := (show Hid _ from hb1)
                          have HVS1 := (show Hid _ from hvs1)
                          have HU2 : Hid (U64s w1 (some ⟨g1, 0, none⟩) (j + 1 + 1) (BitMath.vf (vs ++ [z]))) := hU2
                          have hsw := hb1.size
                          clear hown1 hgrow hat hlt1 hb1 hownA hcp hvs1 hln1 hU2
                          by_cases hX0 : X = 0
                          · have HERR := (show Hid _ from HBAD.out 1 (by decide) (HRS3.out.trans (if_pos (.inl hX0))))
                            have hXb : ((X : Int) == 0) = true := by simp; omega
                            clear hX0
                            go_wp2_with fail
                            go_quiet (fail)
                            go_wp2
                            go_ret3
                            exact ⟨HB1.out.trans ((⟨rfl, rfl, rfl, Nat.le_refl _, fun _ _ => rfl⟩ : Below w1.heap.size w1 (w1.drewN nq)).mono HB1.out.size), .inr ⟨1, by decide, HERR.out, rfl⟩⟩
                          · have hXb : ((X : Int) == 0) = false := by simp; omega
                            have hmk := maskOf_any w1.drew (some ⟨g1, 0, none⟩) (j + 1 + 1) cap1 (BitMath.vf (vs ++ [z])) HU2.out (by omega)
                            have HMK := (show Hid _ from hmk)
                            have hnx := BitMath.maskTo_next vs X (by have := HVL.out; omega)
                            rw [HVL.out, Nat.add_sub_cancel, HP.out, HZZ.out, HWIN.out, HMASK.out] at hnx
                            have hext : s.extract a0 (B + Wd) = BitMath.txt (D.take (u + (h + Wd))) := by
                              rw [HS.out, BitMath.txt_extract, HD.out]
                              congr 2
                              have := HBe.out
                              have := HAE.out
                              omega
                            have hqt := txt_beq (BitMath.maskTo (BitMath.vf (vs ++ [z])) (j + 1 + 1)) (D.take (u + (h + Wd))) (s.extract a0 ((B : Int) + (Wd : Int)).toNat) (by rw [show ((B : Int) + (Wd : Int)).toNat = B + Wd by omega]; exact hext)
                            have hiff : (BitMath.maskTo (BitMath.vf (vs ++ [z])) (j + 1 + 1) = D.take (u + (h + Wd))) = (BitMath.mBits (W, L, T) X = E.take (h + Wd)) := by
                              rw [hnx.1, List.take_add, ← HEE.out]
                              exact List.append_cancel_left_eq _ _ _
                            have hga : (a0 : Int) ≤ (B : Int) + (Wd : Int) := by have := HBe.out; have := HAE.out; omega
                            have ha00 : (0 : Int) ≤ (a0 : Int) := by omega
                            clear hmk hext hnx
                            by_cases heq : BitMath.mBits (W, L, T) X = E.take (h + Wd)
                            · rw [decide_eq_true (hiff.mpr heq)] at hqt
                              have hgd := HGOOD.out _ _ (HRS3.out.trans (if_neg (by intro hc; rcases hc with hc | hc; exact hX0 hc; exact hc heq)))
                              rw [HZZ.out] at hgd
                              have HGD := (show Hid _ from hgd)
                              obtain ⟨W', T', hn1, hn2⟩ := next_win (W, L, T) E X Lh Wd h HXL.out hX0 HB0.out HH.out heq
                              have hnn := mask_next (x := X) HEE.out hu HVL.out HWIN.out HMASK.out HP.out HSE.out heq
                              rw [HZZ.out, hn1] at hnn
                              have HNN := (show Hid _ from hnn)
                              have HN2 := (show Hid _ from hn2)
                              clear hgd hn1 hn2 hnn heq hiff hX0
                              go_wp2_with fail
                              go_region_held3 (fun _ => True) (trivial) ((go_at_call 37; refine Calls.mono HMK.out ?_; rintro e w8 ⟨rfl, hb8⟩))
                              have hb8' : Below w1.heap.size w1 w8 := Below.trans (b := w1.drew) ⟨rfl, rfl, rfl, Nat.le_refl _, fun _ _ => rfl⟩ hb8
                              have HB8 := (show Hid _ from HB1.out.trans (hb8'.mono HB1.out.size))
                              have HOWN8 : Hid (w8.ownsRow w.heap.size 39 1 (.slice (some ⟨g1, 0, none⟩) (j + 1 + 1) cap1) (j + 1 + 1) (u64Cells (vs ++ [z]))) := own_keep HOWN1.out hb8'
                              clear hb8 hb8'
                              go_wp2
                              go_roundw
                              case rel =>
                                exact ⟨rfl, rfl, rfl, j + 2, u + (h + Wd), vs ++ [z], W', Lh, T', _, by omega, by go_num, congrArg (Value.int .i64) (by have := HBe.out; have := HAE.out; omega), rfl, rfl, by rw [HN2.out], HGD.out, HNN.out.1, HNN.out.2.1, HNN.out.2.2.1, HNN.out.2.2.2, HVS1.out, HOWN8.out, HB8.out⟩
                              case measure => simp [intOf] <;> omega
                            · rw [decide_eq_false (fun hc => heq (hiff.mp hc))] at hqt
                              have HERR := (show Hid _ from HBAD.out 1 (by decide) (HRS3.out.trans (if_pos (.inr heq))))
                              clear heq hiff hX0
                              go_wp2_with fail
                              go_region_held3 (fun _ => True) (trivial) ((go_at_call 37; refine Calls.mono HMK.out ?_; rintro e w8 ⟨rfl, hb8⟩))
                              have hb8' : Below w1.heap.size w1 w8 := Below.trans (b := w1.drew) ⟨rfl, rfl, rfl, Nat.le_refl _, fun _ _ => rfl⟩ hb8
                              have HB8 := (show Hid _ from HB1.out.trans (hb8'.mono HB1.out.size))
                              clear hb8 hb8'
                              go_wp2
                              go_ret3
                              exact ⟨HB8.out, .inr ⟨1, by decide, HERR.out, rfl⟩⟩
    · have hke : k = n := by omega
      have hge : (n : Int) ≤ (k : Int) := by omega
      have hsub : (a0 : Int) + (u : Int) - (a0 : Int) = (u : Int) := by omega
      have HSUB := (show Hid _ from hsub)
      clear hsub
      subst hke
      clear hk hkn
      go_wp2
      go_ret3
      exact ⟨HB.out, .inl ⟨vs, u, v, HMR.out, congrArg (fun y => Ending.returned (.tuple #[v, .int .i64 y, .int .i64 0])) HSUB.out, HVL.out, hu, HOWN.out, HVS.out, HMASK.out⟩⟩
end Go.Proofs.YtgdflopgdlpimaaDoor
