/- (*Row).Put by contracts: a piece that fits; a count out of bounds. -/
import Derived.Test.YtnjmplmogibgfabDoorRows1Group
import Derived.Deep.DrawnRows
import Derived.Deep.DeepCutAuto
import Derived.Test.YtnjmplmogibgfabDoorRead1Group
namespace Go.Proofs.YtnjmplmogibgfabDoor
open Go.RowKit
attribute [local go_sem ↓] Go.wp_at_zero Go.wp_at_succ

theorem put_bound (w : World) (x n : Int) (p : Addr) (a : Addr) (hg : w.cell? ⟨1, 0, none⟩ = some (.iface 321 (.pointer (some a)))) (hn : n < 0 ∨ 64 < n) :
    Calls Tryd.prog 104 #[.pointer (some p), .int .u64 x, .int .i64 n] w fun e w' => e = .returned (.iface 321 (.pointer (some a))) ∧ w' = w := by
  rcases hn with h | h
  · go_enter Tryd.func104, Tryd.ntmps104
    go_wp2
    go_ret
    exact ⟨rfl, rfl⟩
  · have h' : ¬ n < 0 := by omega
    go_enter Tryd.func104, Tryd.ntmps104
    go_wp2
    go_ret
    exact ⟨rfl, rfl⟩

theorem Tryd.infoU8 : (Tryd.prog.info? 5).map (fun i => (i.zero, i.size, i.bytes)) = some (some (.int .u8 0), 1, 1) := by kernel_rfl
theorem last_int (y t : Int) (w : World) (h0 : 0 ≤ y) (hy : y ≤ 18446744073709551615) (ht0 : 0 ≤ t) (ht : t ≤ 8) :
    Calls Tryd.prog 136 #[.int .u64 y, .int .i64 t] w fun e w' => e = .returned (.int .u64 (y % 2 ^ t.toNat)) ∧ w' = w := by
  obtain ⟨a, rfl⟩ := Int.eq_ofNat_of_zero_le h0
  obtain ⟨b, rfl⟩ := Int.eq_ofNat_of_zero_le ht0
  have h := last_any a b w hy (by omega)
  have e : (((a % 2 ^ b : Nat)) : Int) = (a : Int) % 2 ^ ((b : Int)).toNat := by simp
  rw [e] at h
  exact h

set_option maxRecDepth 100000 in
set_option maxHeartbeats 4000000 in
theorem put_grow (w : World) (r : Nat) (v : Value) (bs : List Bool) (h : IsRow w r v bs) (x n : Nat) (hx : (x : Int) ≤ 18446744073709551615) (hn : (n : Int) ≤ 64) (hsz : bs.length + n ≤ 1048576) :
    Calls Tryd.prog 104 #[.pointer (some ⟨r, 0, none⟩), .int .u64 x, .int .i64 n] w fun e w' => e = .returned .nilIface ∧ ∃ v', IsRow w' r v' (bs ++ BitMath.bitsOf x n) ∧ Kept (r :: v.ownBlock.toList) w w' ∧ (v'.ownBlock = v.ownBlock ∨ ∃ g, v'.ownBlock = some g ∧ w.heap.size ≤ g) := by
  have h1 : w.cell? ⟨r, 1, none⟩ = some (.int .i64 (bs.length : Int)) := cells_of h.hb 1
  have h0 : (0 : Int) ≤ (n : Int) := by omega
  have hroom := room_any w r v bs h (by omega)
  have HROOM := (show Hid _ from hroom)
  clear hroom
  have hrm : decide ((1048576 : Int) - (bs.length : Int) < (n : Int)) = false := by simp; omega
  go_enter Tryd.func104, Tryd.ntmps104
  go_wp2_with fail
  refine Calls.mono HROOM.out ?_
  rintro e w' ⟨rfl, hw'⟩
  have hw'' := hw'.symm
  subst hw''
  go_wp2_with fail
  go_loopw [2, 7, 8] (fun c _ _ wr => ∃ (m : Nat) (vr : Value), m ≤ n ∧ c = .int .i64 m ∧ IsRow wr r vr (bs ++ BitMath.putTo x n m) ∧ Kept (r :: v.ownBlock.toList) w wr ∧ (vr.ownBlock = v.ownBlock ∨ ∃ g, vr.ownBlock = some g ∧ w.heap.size ≤ g)) (fun c _ _ _ => (intOf c).toNat)
  case atStart => exact ⟨n, v, Nat.le_refl _, rfl, by rw [BitMath.putTo_start, List.append_nil]; exact h, Kept.refl _ _, .inl rfl⟩
  case round =>
    obtain ⟨m, vr, hm, rfl, hr, hk, ho⟩ := hrel
    generalize hL : bs ++ BitMath.putTo x n m = L at hr
    have hLl : L.length = bs.length + (n - m) := by rw [← hL, List.length_append, BitMath.length_putTo]
    have HL := (show Hid _ from hL)
    clear hL h1
    by_cases hm0 : m = 0
    · subst hm0
      have hfin : bs ++ BitMath.bitsOf x n = L := by rw [← HL.out, BitMath.putTo_end]
      have HF := (show Hid _ from hfin)
      have HO := (show Hid _ from ho)
      clear hfin hLl h hsz hx hn h0 ho hm
      go_wp2
      go_ret
      exact ⟨rfl, vr, by rw [HF.out]; exact hr, hk, HO.out⟩
    · have hs1 : wr.cell? ⟨r, 1, none⟩ = some (.int .i64 (L.length : Int)) := cells_of hr.hb 1
      have hs0 : wr.cell? ⟨r, 0, none⟩ = some vr := cells_of hr.hb 0
      have hmp : (0 : Int) < (m : Int) := by omega
      have hlb : L.length ≤ 1048576 := by omega
      obtain ⟨q, hq0⟩ : ∃ q, q = L.length % 8 := ⟨_, rfl⟩
      have hq8 : (L.length : Int) % 8 = (q : Int) := by omega
      have hq7 : (q : Int) < 8 := by omega
      have HQ := (show Hid _ from hq0)
      have HMN := (show Hid _ from hm)
      have HLl := (show Hid _ from hLl)
      have HX := (show Hid _ from hx)
      have HK := (show Hid _ from hk)
      have HO := (show Hid _ from ho)
      have HR := (show Hid _ from hr)
      have hm64 : (m : Int) ≤ 64 := by omega
      clear hLl hx hk ho hr h hn hsz hm hm0 h0 hq0
      go_upto_if 28 with fail
      go_cut [] (fun wx => ∃ g cap, Mid (r :: v.ownBlock.toList) w wx r v.ownBlock L g cap)
      case first =>
        by_cases hq : q = 0
        · have hq' : ((q : Int) == 0) = true := by rw [beq_iff_eq]; omega
          have hne : vr.ownBlock ≠ some r := by
            rcases HR.out.own.2 with ⟨e, _⟩ | ⟨g', cap', cur, e, hg, _⟩
            · rw [e]; simp [Value.ownBlock]
            · rw [e]; simp [Value.ownBlock]; omega
          obtain ⟨i0, hi, hz0, hz1, hz2⟩ := info_parts Tryd.infoU8
          have hown : (wr.alloc (.cells #[.int .u8 0] 5)).ownsRow (r + 1) 5 1 vr ((L.length + 7) / 8) (byteCells (BitMath.pack L)) := HR.out.own.alloc _
          have hrl : r < wr.heap.size := by
            rcases Nat.lt_or_ge r wr.heap.size with h | h
            · exact h
            · have := HR.out.hb
              rw [Array.getElem?_eq_none h] at this
              cases this
          have hfr : wr.frozen? ⟨r, 0, none⟩ = false := frozen_of HR.out.hb 0
          go_wp2_with (at_builtin; refine wpList_append_lies _ rfl _ _ 133 rfl (r + 1) 5 i0 (.int .u8 0) 1 1 Tryd.underlying133 hi hz0 hz1 hz2 rfl (by decide) _ _ _ rfl hown ⟨wr.heap.size, 0, none⟩ 1 1 [.int .u8 0] rfl rfl ?c1 ?c2 (by omega) ?c3 ?c4 ?c5 (wr.heap.size + 1) (by simp) ?_)
          case c1 =>
            intro j u hj
            match j, hj with
            | 0, hj => simp at hj; subst hj; simp [Addr.add]
          case c2 => intro u hu; simp at hu; subst hu; rfl
          case c3 => unfold maxLen; omega
          case c4 => omega
          case c5 => simp; omega
          intro g cap w1 hown1 hgrow hat hlt
          have hcr : w1.cell? ⟨r, 0, none⟩ = some vr := hgrow.cell (by rw [World.cell?_alloc_lt _ _ ⟨r, 0, none⟩ hrl]; exact hs0) (Ne.symm hne)
          have hfr1 : w1.frozen? ⟨r, 0, none⟩ = false := by
            rw [World.frozen?_of_block (w := wr.alloc (.cells #[.int .u8 0] 5)) (hgrow.block r (by simp; omega) (Ne.symm hne)), World.frozen?_alloc_old _ _ ⟨r, 0, none⟩ (Nat.ne_of_lt hrl)]
            exact hfr
          have hmid := mid_full HR.out HK.out HO.out (by have := HQ.out; omega) hown1 hgrow hat
          have HM := (show Hid _ from hmid)
          clear hmid hown1 hgrow hat hown hs0
          go_wp2_with fail
          go_meet
          exact ⟨g, cap, HM.out⟩
        · have hq' : ((q : Int) == 0) = false := by rw [beq_eq_false_iff_ne]; omega
          obtain ⟨g, cap, hmid⟩ := mid_part HR.out HK.out HO.out (by have := HQ.out; omega)
          have HM := (show Hid _ from hmid)
          clear hmid
          go_wp2_with fail
          go_meet
          exact ⟨g, cap, HM.out⟩
      case rest =>
        obtain ⟨g, cap, hmid⟩ := hcut
        obtain ⟨hc1, hc0', hcg', hfg', hfr1, hcap', hgr'⟩ := mid_facts hmid
        obtain ⟨k, hk⟩ : ∃ k, k = L.length / 8 := ⟨_, rfl⟩
        obtain ⟨nk, hnk⟩ : ∃ nk, nk = k + 1 := ⟨_, rfl⟩
        have hc0 : wc.cell? ⟨r, 0, none⟩ = some (.slice (some ⟨g, 0, none⟩) nk cap) := by rw [hnk, hk]; exact hc0'
        have hnk2 : (k : Int) < (nk : Int) := by omega
        have HN := (show Hid _ from hnk)
        obtain ⟨b, hb⟩ : ∃ b, b = BitMath.byteAt L k := ⟨_, rfl⟩
        have hcg : wc.cell? ⟨g, k, none⟩ = some (.int .u8 (b : Int)) := by rw [hb, hk]; exact hcg'
        have hfg : wc.frozen? ⟨g, k, none⟩ = false := by rw [hk]; exact hfg'
        have HKK := (show Hid _ from hk)
        have HB := (show Hid _ from hb)
        have HM := (show Hid _ from hmid)
        have hkc : (nk : Int) ≤ (cap : Int) := by omega
        have hk0 : (0 : Int) ≤ (k : Int) := by omega
        have hkb : (k : Int) ≤ 131072 := by omega
        have hnb : (nk : Int) ≤ 131073 := by omega
        have hnk1 : IntKind.i64.wrap ((nk : Int) - 1) = (k : Int) := by rw [IntWalk.i64_in _ (by omega)]; omega
        have hgr : g ≠ r := by omega
        obtain ⟨t, hmin⟩ : ∃ t : Nat, (if 8 - (q : Int) < (m : Int) then 8 - (q : Int) else (m : Int)) = (t : Int) := ⟨(if 8 - (q : Int) < (m : Int) then 8 - (q : Int) else (m : Int)).toNat, by split <;> omega⟩
        have ht1 : (1 : Int) ≤ (t : Int) := by split at hmin <;> omega
        have ht2 : (t : Int) ≤ 8 - (q : Int) := by split at hmin <;> omega
        have ht3 : (t : Int) ≤ (m : Int) := by split at hmin <;> omega
        have hft : IntKind.i64.wrap (8 - (q : Int) - (t : Int)) = 8 - (q : Int) - (t : Int) := IntWalk.i64_in _ (by omega)
        obtain ⟨z, hz⟩ : ∃ z : Nat, z = (x >>> (m - t)) % 2 ^ t := ⟨_, rfl⟩
        have HLast : Hid (∀ w0, Calls Tryd.prog 136 #[.int .u64 ((x : Int) / 2 ^ (m - t)), .int .i64 (t : Int)] w0 fun e w' => e = .returned (.int .u64 (z : Int)) ∧ w' = w0) := by
          intro w0
          have hle : x >>> (m - t) ≤ x := by rw [Nat.shiftRight_eq_div_pow]; exact Nat.div_le_self _ _
          have hl := last_any (x >>> (m - t)) t w0 (by have := HX.out; omega) (by omega)
          rw [← hz] at hl
          have e : ((x >>> (m - t) : Nat) : Int) = (x : Int) / 2 ^ (m - t) := by rw [Nat.shiftRight_eq_div_pow]; simp
          rw [e] at hl
          exact hl
        have HZ := (show Hid _ from hz)
        clear hz hk hb hmid hs0 hs1 hnk hc0' hcg' hfg' hcap' hgr'
        go_upto_region 11 with fail
        go_cut [] (fun wx => wx = (wc.setCell ⟨g, k, none⟩ (.int .u8 (bits .or .u8 (b : Int) (IntKind.u8.wrap (IntKind.u64.wrap ((z : Int) * 2 ^ (8 - q - t))))))).drew)
        case first =>
          go_region_with (go_at_call 136; refine Calls.mono (Hid.out HLast _) ?_; rintro e w' ⟨rfl, rfl⟩)
          all_goals (go_wp2_with fail; go_meet; rfl)
        case rest =>
          subst hcut
          have hor : bits .or .u8 (b : Int) (IntKind.u8.wrap (IntKind.u64.wrap ((z : Int) * 2 ^ (8 - q - t)))) = ((b ||| (z <<< (8 - q - t)) : Nat) : Int) := by
            refine or_eq b z (8 - q - t) (by rw [HB.out]; exact BitMath.byteAt_lt _ _) ?_
            have h1 : z < 2 ^ t := by rw [HZ.out]; exact Nat.mod_lt _ (Nat.two_pow_pos t)
            have h2 : z * 2 ^ (8 - q - t) < 2 ^ t * 2 ^ (8 - q - t) := Nat.mul_lt_mul_of_pos_right h1 (Nat.two_pow_pos _)
            rw [← Nat.pow_add] at h2
            have h3 : 2 ^ (t + (8 - q - t)) ≤ 2 ^ 8 := Nat.pow_le_pow_right (by omega) (by omega)
            have h4 : (2 : Nat) ^ 8 = 256 := rfl
            omega
          rw [hor]
          have hX : (BitMath.bitsOf (x >>> (m - t)) t).length = t := BitMath.length_bitsOf _ _
          have hstep := row_step HM.out (by simp) (fun e => by rw [← e]; simp) t hX (by omega) (by have := HQ.out; omega)
          rw [BitMath.valB_bitsOf, ← HZ.out, ← HQ.out, ← HKK.out, ← HB.out, ← HN.out, ← HL.out, List.append_assoc, ← BitMath.putTo_step x n m t HMN.out (by omega), HL.out] at hstep
          have HS := (show Hid _ from hstep)
          have hcr : ((wc.setCell ⟨g, k, none⟩ (.int .u8 ((b ||| (z <<< (8 - q - t)) : Nat) : Int))).drew).cell? ⟨r, 1, none⟩ = some (.int .i64 (L.length : Int)) := by
            show (wc.setCell ⟨g, k, none⟩ _).cell? ⟨r, 1, none⟩ = _
            rw [World.cell?_setCell_other _ _ _ _ (by simp)]
            exact hc1
          have hfrr : ((wc.setCell ⟨g, k, none⟩ (.int .u8 ((b ||| (z <<< (8 - q - t)) : Nat) : Int))).drew).frozen? ⟨r, 1, none⟩ = false := by
            show (wc.setCell ⟨g, k, none⟩ _).frozen? ⟨r, 1, none⟩ = _
            rw [World.frozen?_setCell]
            exact hfr1
          clear hor hX hstep hcg hfg
          go_wp2
          go_roundw
          case rel =>
            refine ⟨m - t, .slice (some ⟨g, 0, none⟩) nk cap, by have := HMN.out; omega, congrArg (Value.int .i64) (by omega), HS.out.1, HS.out.2, ?_⟩
            rcases HM.out.2.2.2 with h1 | h1
            · exact .inl h1
            · exact .inr ⟨g, rfl, h1⟩
          case measure => simp [intOf]; omega

theorem put_ok (w : World) (r : Nat) (v : Value) (bs : List Bool) (h : IsRow w r v bs) (x n : Nat) (hx : (x : Int) ≤ 18446744073709551615) (hn : (n : Int) ≤ 64) (hsz : bs.length + n ≤ 1048576) :
    Calls Tryd.prog 104 #[.pointer (some ⟨r, 0, none⟩), .int .u64 x, .int .i64 n] w fun e w' => e = .returned .nilIface ∧ ∃ v', IsRow w' r v' (bs ++ BitMath.bitsOf x n) ∧ Kept (r :: v.ownBlock.toList) w w' :=
  (put_grow w r v bs h x n hx hn hsz).mono fun _ _ ⟨he, v', hr, hk, _⟩ => ⟨he, v', hr, hk⟩
end Go.Proofs.YtnjmplmogibgfabDoor
/- Carrying a row and a reader over what only makes memory; the statements' helper rowed. -/
namespace Go.Proofs.YtnjmplmogibgfabDoor
open Go.RowKit

theorem lt_of_block {w : World} {r : Nat} {o : Obj} (h : w.heap[r]? = some o) : r < w.heap.size := by
  rcases Nat.lt_or_ge r w.heap.size with h' | h'
  · exact h'
  · rw [Array.getElem?_eq_none h'] at h
    cases h
theorem lt_of_cell {w : World} {b o : Nat} {v : Value} (h : w.cell? ⟨b, o, none⟩ = some v) : b < w.heap.size := World.block_lt_of_cell? w ⟨b, o, none⟩ h
theorem IsRow.lt {w : World} {r : Nat} {v : Value} {bs : List Bool} (h : IsRow w r v bs) : r < w.heap.size := lt_of_block h.hb
theorem own_below {w w' : World} {base : Nat} {e : TypeId} {s : Nat} {v : Value} {n : Nat} {xs : List Value} (h : w.ownsRow base e s v n xs) (hb : Below w.heap.size w w') : w'.ownsRow base e s v n xs := by
  obtain ⟨h1, h2⟩ := h
  refine ⟨h1, ?_⟩
  rcases h2 with h2 | ⟨g, cap, cur, hv, hg, hh, r⟩
  · exact .inl h2
  · exact .inr ⟨g, cap, cur, hv, hg, (hb.block g (lt_of_block hh)).trans hh, r⟩
theorem IsRow.below {w w' : World} {r : Nat} {v : Value} {bs : List Bool} (h : IsRow w r v bs) (hb : Below w.heap.size w w') : IsRow w' r v bs :=
  ⟨(hb.block r h.lt).trans h.hb, own_below h.own hb⟩
theorem IsRow.own_ge {w : World} {r : Nat} {v : Value} {bs : List Bool} (h : IsRow w r v bs) : ∀ x, x ∈ r :: v.ownBlock.toList → r ≤ x := by
  intro x hx
  rcases List.mem_cons.1 hx with h1 | h1
  · omega
  · rcases h.own.2 with ⟨rfl, _⟩ | ⟨g, cap, cur, rfl, hg, _⟩
    · simp [Value.ownBlock] at h1
    · simp [Value.ownBlock] at h1
      omega
theorem IsReader.lt {w : World} {x g cap : Nat} {l : List UInt8} {i n : Nat} (h : IsReader w x g cap l i n) : x < w.heap.size := lt_of_block h.hb
theorem IsReader.below {w w' : World} {x g cap : Nat} {l : List UInt8} {i n : Nat} (h : IsReader w x g cap l i n) (hb : Below w.heap.size w w') : IsReader w' x g cap l i n :=
  ⟨(hb.block x h.lt).trans h.hb, fun j hj => (hb.cell (p := ⟨g, j, none⟩) (Nat.lt_trans h.hg h.lt)).trans (h.hc j hj), h.hcap, h.hg, h.hi, h.hn, h.hl⟩
theorem below_draw (w : World) (q : Nat) : Below w.heap.size w (w.drewN q) := ⟨rfl, rfl, rfl, Nat.le_refl _, fun _ _ => rfl⟩

theorem pack53 : (⟨(BitMath.pack ([] ++ BitMath.bitsOf 5 3)).toArray⟩ : ByteArray) = ⟨#[160]⟩ := by rfl

end Go.Proofs.YtnjmplmogibgfabDoor
