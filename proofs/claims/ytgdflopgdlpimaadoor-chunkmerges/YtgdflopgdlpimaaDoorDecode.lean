/- chunk's Encode and Decode by their contracts. -/
import Derived.Test.YtgdflopgdlpimaaDoorIsPacked
import Derived.Test.YtgdflopgdlpimaaDoorUnpacked
import Derived.Test.YtgdflopgdlpimaaDoorRefsGroup
namespace Go.Proofs.YtgdflopgdlpimaaDoor
open Go.RowKit

theorem encode_many (w : World) (la : Option Addr) (n c : Nat) (hn : 120 < n) (hn2 : (n : Int) ≤ 9223372036854775807) (a : Addr) (hE : w.cell? ⟨1, 0, none⟩ = some (.iface 97 (.pointer (some a)))) :
    Calls Tryd.prog 44 #[.slice la n c] w fun e w' => e = .returned (.tuple #[.string ⟨#[]⟩, .iface 97 (.pointer (some a))]) ∧ w' = w := by
  have HCK := (show Hid _ from check_many w la n c hn hn2 a hE)
  go_enter Tryd.func44, Tryd.ntmps44
  go_wp2_with fail
  refine Calls.mono HCK.out ?_
  rintro e w1 ⟨rfl, hw1⟩
  have hw1' := hw1.symm
  subst hw1'
  go_wp2
  go_ret2
  exact ⟨rfl, rfl⟩

/-- What Encode answers: m is the first point that is not well, or the end. -/
def EncOut (w w' : World) (T : Nat → Int) (B : Nat → Nat) (m n : Nat) (aB aO : Addr) (e : Ending) : Prop :=
  Below w.heap.size w w' ∧ ((m = n ∧ e = .returned (.tuple #[.string ⟨(chunkBytes T B n).toArray⟩, .nilIface])) ∨
    (m < n ∧ ∃ pb : Nat, e = .returned (.tuple #[.string ⟨#[]⟩, .iface 29 (.pointer (some ⟨pb, 0, none⟩))]) ∧ w.heap.size ≤ pb ∧ w'.cell? ⟨pb, 0, none⟩ = some (.int .i64 (m : Int)) ∧ w'.cell? ⟨pb, 1, none⟩ = some (.iface 97 (.pointer (some (if isTick (T m) = true then aO else aB))))))

theorem length_chunk_le (T : Nat → Int) (B : Nat → Nat) (n : Nat) (hn : n ≤ 120) : (BitMath.pack (rowBits T B n)).length ≤ 100000 := by
  have h1 := length_rowBits T B n
  rw [BitMath.length_pack]
  omega

set_option maxRecDepth 1000000 in
theorem encode_any {Bd : Nat} {ea : Nat → Addr} (w : World) (E : Ern Bd ea w) (hF : Forms w) (hT : Tab w) (la : Option Addr) (n c : Nat) (T : Nat → Int) (B : Nat → Nat) (hP : Pts w la n T B) (hn : n ≤ 120) (m : Nat) (hm : m ≤ n) (hok : ∀ i, i < m → ptOk T i = true) (hbad : m < n → ptOk T m = false) :
    Calls Tryd.prog 44 #[.slice la n c] w fun e w' => EncOut w w' T B m n (ea 1) (ea 7) e := by
  have HCK := (show Hid _ from check_any w la n c T B hP hn m hm hok hbad (ea 1) (ea 7) E.c1 E.c7)
  have HF : Hid (Forms w) := hF
  have HT : Hid (Tab w) := hT
  have HP : Hid (Pts w la n T B) := hP
  have HOK := (show Hid _ from hok)
  have hFl := hF.lt
  have hTl := hT.lt
  clear hP hok hbad E hF hT
  go_enter Tryd.func44, Tryd.ntmps44
  go_wp2_with fail
  refine Calls.mono HCK.out ?_
  rintro e w1 ⟨hb1, ⟨hmn, rfl⟩ | ⟨hmn, pb, rfl, hpb, hc0, hc1⟩⟩
  · have HB1 := (show Hid _ from hb1)
    have HPK := (show Hid _ from packed_ok w1 (HF.out.below hb1 hFl) (HT.out.below hb1 hTl) la n c T B (HP.out.below hb1) hn (fun i hi => ptOk_tick T i (HOK.out i (by omega))))
    have hsl : (⟨(BitMath.pack (rowBits T B n)).toArray⟩ : ByteArray).size ≤ 1000000 := by
      have := length_chunk_le T B n hn
      simp [ByteArray.size]
      omega
    have HSE := (show Hid _ from fun w0 => sealed_any ⟨(BitMath.pack (rowBits T B n)).toArray⟩ w0 hsl)
    obtain ⟨z, hz⟩ : ∃ z : ByteArray, z = ⟨(BitMath.pack (rowBits T B n)).toArray⟩ := ⟨_, rfl⟩
    rw [← hz] at HPK HSE
    obtain ⟨q, hq⟩ : ∃ q : ByteArray, q = ⟨(chunkBytes T B n).toArray⟩ := ⟨_, rfl⟩
    have HSE' : Hid (∀ w0, Calls Tryd.prog 76 #[.string z] w0 fun e w' => e = .returned (.string q) ∧ Below w0.heap.size w0 w') := fun w0 => (HSE.out w0).mono (fun e w' h => ⟨by rw [h.1, hq, hz]; rfl, h.2⟩)
    have HQ := (show Hid _ from hq)
    clear hb1 hsl hz hq HSE HCK
    go_wp2_with fail
    refine Calls.mono HPK.out ?_
    rintro e w2 ⟨rfl, hb2⟩
    have HB2 : Hid (Below w.heap.size w w2) := HB1.out.trans (hb2.mono HB1.out.size)
    clear hb2 HPK
    go_wp2_with fail
    refine Calls.mono (HSE'.out _) ?_
    rintro e w3 ⟨rfl, hb3⟩
    have HB3 : Hid (Below w.heap.size w w3) := HB2.out.trans (hb3.mono HB2.out.size)
    clear hb3
    go_wp2
    go_ret2
    exact ⟨HB3.out, .inl ⟨hmn, by rw [← HQ.out]; rfl⟩⟩
  · have HB1 := (show Hid _ from hb1)
    have HC0 := (show Hid _ from hc0)
    have HC1 := (show Hid _ from hc1)
    clear hb1 hc0 hc1 HCK
    go_wp2
    go_ret2
    exact ⟨HB1.out, .inr ⟨hmn, pb, rfl, hpb, HC0.out, HC1.out⟩⟩

/-- What Decode answers. -/
def DecOut (w w' : World) (l : List UInt8) (aT aS : Addr) (e : Ending) : Prop :=
  Below w.heap.size w w' ∧ ((∃ (n : Nat) (T : Nat → Int) (B : Nat → Nat) (v : Value), n ≤ 120 ∧ (∀ i, i < n → ptOk T i = true) ∧ (∀ i, i < n → B i < 18446744073709551616) ∧ l = chunkBytes T B n ∧ w'.ownsRow w.heap.size 92 2 v n (ptCells T B n) ∧ e = .returned (.tuple #[v, .nilIface])) ∨
    (¬ IsChunk l ∧ e = .returned (.tuple #[.slice none 0 0, .iface 97 (.pointer (some (if l.length < 5 then aT else if BitMath.sealOf (l.take (l.length - 4)) = l then aT else aS)))])))
theorem chunk_body (l : List UInt8) (h : IsChunk l) : 5 ≤ l.length ∧ BitMath.sealOf (l.take (l.length - 4)) = l ∧ IsBody (l.take (l.length - 4)) := by
  obtain ⟨n, T, B, hn, hT, hB, e⟩ := h
  obtain ⟨p1, p2, p3, _⟩ := chunk_parse l n T B hn hT hB e
  exact ⟨p1, p3, n, T, B, hn, hT, hB, p2⟩

set_option maxRecDepth 1000000 in
set_option maxHeartbeats 2000000 in
theorem decode_any {Bd : Nat} {ea : Nat → Addr} (w : World) (E : Ern Bd ea w) (hBd : Bd ≤ w.heap.size) (hF : Forms w) (hT : Tab w) (s : ByteArray) (hs : s.size ≤ 10000) :
    Calls Tryd.prog 46 #[.string s] w fun e w' => DecOut w w' s.data.toList (ea 0) (ea 8) e := by
  obtain ⟨l, hl⟩ : ∃ l, l = s.data.toList := ⟨_, rfl⟩
  have hlen : l.length = s.size := by rw [hl]; exact Array.length_toList
  rw [← hl]
  have HL := (show Hid _ from hl)
  have HLEN := (show Hid _ from hlen)
  have hE0 := E.c0
  have hE8 := E.c8
  have hEl := E.low
  have HE := (show Hid _ from E)
  have HF : Hid (Forms w) := hF
  have HT : Hid (Tab w) := hT
  have hFl := hF.lt
  have hTl := hT.lt
  clear hl hlen E hF hT
  by_cases h5 : s.size < 5
  · have HNOT : Hid (¬ IsChunk l) := fun h => by
      have := (chunk_body l h).1
      have := HLEN.out
      omega
    have HIF : Hid ((if l.length < 5 then ea 0 else if BitMath.sealOf (l.take (l.length - 4)) = l then ea 0 else ea 8) = ea 0) := if_pos (by have := HLEN.out; omega)
    have h5I : (s.size : Int) < 5 := by omega
    have hd5 : decide ((s.size : Int) < 5) = true := by simp; omega
    go_enter Tryd.func46, Tryd.ntmps46
    go_wp2_with fail
    go_quiet (fail)
    go_wp2
    go_ret2
    exact ⟨⟨rfl, rfl, rfl, Nat.le_refl _, fun _ _ => rfl⟩, .inr ⟨HNOT.out, by rw [HIF.out]; rfl⟩⟩
  · have hd5 : decide ((s.size : Int) < 5) = false := by simp; omega
    obtain ⟨b, hb⟩ : ∃ b, b = s.extract 0 (s.size - 4) := ⟨_, rfl⟩
    have hbl : b.data.toList = l.take (l.length - 4) := by rw [hb, HL.out]; simp
    have hbs : b.size = s.size - 4 := by rw [hb]; simp
    have hse := fun w0 => sealed_any b w0 (by omega)
    rw [hbl] at hse
    have HBL := (show Hid _ from hbl)
    have HSE := (show Hid _ from hse)
    have hqt := str_beq ⟨(BitMath.sealOf (l.take (l.length - 4))).toArray⟩ s
    have hqd : (⟨(BitMath.sealOf (l.take (l.length - 4))).toArray⟩ : ByteArray).data.toList = BitMath.sealOf (l.take (l.length - 4)) := by simp
    rw [hqd, ← HL.out] at hqt
    obtain ⟨z, hz⟩ : ∃ z : ByteArray, z = ⟨(BitMath.sealOf (l.take (l.length - 4))).toArray⟩ := ⟨_, rfl⟩
    rw [← hz] at hqt
    have HSE' : Hid (∀ w0, Calls Tryd.prog 76 #[.string b] w0 fun e w' => e = .returned (.string z) ∧ Below w0.heap.size w0 w') := by rw [hz]; exact HSE.out
    have hi4 : (0 : Int) ≤ (s.size : Int) - 4 := by omega
    have hi4b : (s.size : Int) - 4 ≤ (s.size : Int) := by omega
    have HBS := (show Hid _ from hbs)
    clear hse hbl hqd hz HSE hbs
    go_enter Tryd.func46, Tryd.ntmps46
    go_wp2_with fail
    rw [← hb]
    clear hb
    refine Calls.mono (HSE'.out _) ?_
    rintro e w1 ⟨rfl, hb1⟩
    have HL5 : Hid (¬ l.length < 5) := by have := HLEN.out; show ¬ l.length < 5; omega
    have HB1 := (show Hid _ from hb1)
    have e0 : w1.cell? ⟨0, 0, none⟩ = some (.iface 97 (.pointer (some (ea 0)))) := (HE.out.below hb1 hBd).c0
    have e8 : w1.cell? ⟨8, 0, none⟩ = some (.iface 97 (.pointer (some (ea 8)))) := (HE.out.below hb1 hBd).c8
    clear hb1 hE0 hE8 HSE'
    by_cases hseal : BitMath.sealOf (l.take (l.length - 4)) = l
    · rw [decide_eq_true hseal] at hqt
      have HIF : Hid ((if l.length < 5 then ea 0 else if BitMath.sealOf (l.take (l.length - 4)) = l then ea 0 else ea 8) = ea 0) := (if_neg HL5.out).trans (if_pos hseal)
      have HSEAL := (show Hid _ from hseal)
      have hun := unpacked_any w1 (HE.out.below HB1.out hBd) (Nat.le_trans hBd HB1.out.size) (HF.out.below HB1.out hFl) (HT.out.below HB1.out hTl) b (by have := HBS.out; omega) (by have := HBS.out; omega)
      rw [HBL.out] at hun
      have HUN := (show Hid _ from hun)
      clear hun hseal e8
      go_wp2_with fail
      refine Calls.mono HUN.out ?_
      rintro e w2 ⟨hb2, ⟨y, ns, ts, vs, u, u2, v, hy, hyv, hrn, htb, htl, hall, hmr, hvl, hvs, hown, rfl⟩ | ⟨hnot, a, rfl⟩⟩
      · have HB2 : Hid (Below w.heap.size w w2) := HB1.out.trans (hb2.mono HB1.out.size)
        obtain ⟨TT, hTT⟩ : ∃ TT : Nat → Int, TT = fun i => ts.getD i 0 := ⟨_, rfl⟩
        obtain ⟨BB, hBB⟩ : ∃ BB, BB = BitMath.vf vs := ⟨_, rfl⟩
        rw [← hTT, ← hBB] at hown
        have hBb : ∀ i, i < y → BB i < 18446744073709551616 := fun i hi => by rw [hBB]; exact vf_lt vs hvs i (by rw [hvl]; exact hi)
        have hTb : ∀ i, i < y → -1099511627776 ≤ TT i ∧ TT i ≤ 1099511627776 := fun i hi => by rw [hTT]; exact hall.at i (by rw [htl]; exact hi)
        obtain ⟨va, vc, rfl, hPts⟩ := pts_own hown (fun i hi => by have := hTb i hi; omega) hBb
        have HSAME : Hid (∀ n T B, n ≤ 120 → (∀ i, i < n → ptOk T i = true) → (∀ i, i < n → B i < 18446744073709551616) → l = chunkBytes T B n → (∀ i, i < y → ptOk TT i = true) ∧ BitMath.pack (rowBits TT BB y) = l.take (l.length - 4)) := by
          intro n T B hn hT' hB' e
          have p2 := (chunk_parse l n T B hn hT' hB' e).2.1
          obtain ⟨rfl, q1, q2⟩ := body_is _ n y T B hn hT' hB' p2 hyv ns ts vs u u2 hrn htb hmr
          have g1 : ∀ i, i < n → TT i = T i := fun i hi => by rw [hTT, q1]; exact getD_firstTicks T n i hi
          have g2 : ∀ i, i < n → BB i = B i := fun i hi => by rw [hBB, q2]; exact BitMath.vf_firstV B n i hi
          exact ⟨fun i hi => by rw [ptOk_congr TT T n g1 i hi]; exact hT' i hi, by rw [rowBits_congr TT T BB B n g1 g2]; exact p2.symm⟩
        have HIP := (show Hid _ from isPacked_any w2 (HE.out.below HB2.out hBd) (Nat.le_trans hBd HB2.out.size) (HF.out.below HB2.out hFl) (HT.out.below HB2.out hTl) va y vc TT BB hPts hy b)
        have HOWN : Hid (w2.ownsRow w1.heap.size 92 2 (.slice va y vc) y (ptCells TT BB y)) := hown
        have HBB := (show Hid _ from hBb)
        have e02 : w2.cell? ⟨0, 0, none⟩ = some (.iface 97 (.pointer (some (ea 0)))) := (HE.out.below HB2.out hBd).c0
        have HY := (show Hid _ from hy)
        clear hb2 hyv hrn htb htl hall hmr hvl hvs hown hTT hBB hBb hTb hPts e0 HUN hy
        go_wp2_with fail
        refine Calls.mono HIP.out ?_
        rintro e w3 ⟨hb3, r, rfl, hr⟩
        rw [HBL.out] at hr
        have HB3 : Hid (Below w.heap.size w w3) := HB2.out.trans (hb3.mono HB2.out.size)
        have HOWN3 : Hid (w3.ownsRow w1.heap.size 92 2 (.slice va y vc) y (ptCells TT BB y)) := own_kept HOWN.out hb3
        have e03 : w3.cell? ⟨0, 0, none⟩ = some (.iface 97 (.pointer (some (ea 0)))) := (HE.out.below HB3.out hBd).c0
        have HR := (show Hid _ from hr)
        clear hb3 hr HIP e02
        cases r with
        | true =>
          have hr := HR.out.1 rfl
          have HOK := (show Hid _ from hr.1)
          have HPK := (show Hid _ from hr.2)
          clear hr HR
          go_wp2
          go_ret2
          exact ⟨HB3.out, .inl ⟨y, TT, BB, _, HY.out, HOK.out, HBB.out, by rw [chunkBytes, HPK.out, HSEAL.out], own_base HOWN3.out HB1.out.size, rfl⟩⟩
        | false =>
          have HNOT : Hid (¬ IsChunk l) := fun h => by
            obtain ⟨n, T, B, hn, hT', hB', e⟩ := h
            have := HR.out.2 (HSAME.out n T B hn hT' hB' e)
            cases this
          clear HR
          go_wp2_with fail
          go_quiet (fail)
          go_wp2
          go_ret2
          exact ⟨below_drewN HB3.out _, .inr ⟨HNOT.out, by rw [HIF.out]; rfl⟩⟩
      · have HB2 : Hid (Below w.heap.size w w2) := HB1.out.trans (hb2.mono HB1.out.size)
        have HNOT : Hid (¬ IsChunk l) := fun h => hnot (chunk_body l h).2.2
        have e02 : w2.cell? ⟨0, 0, none⟩ = some (.iface 97 (.pointer (some (ea 0)))) := (HE.out.below HB2.out hBd).c0
        clear hb2 hnot e0 HUN
        go_wp2_with fail
        go_quiet (fail)
        go_wp2
        go_ret2
        exact ⟨below_drewN HB2.out _, .inr ⟨HNOT.out, by rw [HIF.out]; rfl⟩⟩
    · rw [decide_eq_false hseal] at hqt
      have HIF : Hid ((if l.length < 5 then ea 0 else if BitMath.sealOf (l.take (l.length - 4)) = l then ea 0 else ea 8) = ea 8) := (if_neg HL5.out).trans (if_neg hseal)
      have HNOT : Hid (¬ IsChunk l) := fun h => hseal (chunk_body l h).2.1
      clear hseal e0
      go_wp2_with fail
      go_quiet (fail)
      go_wp2
      go_ret2
      exact ⟨below_drewN HB1.out _, .inr ⟨HNOT.out, by rw [HIF.out]; rfl⟩⟩
end Go.Proofs.YtgdflopgdlpimaaDoor
