/- The statements' closed fact of chunks: an empty chunk. -/
import Derived.Test.YtgdflopgdlpimaaDoorDecode
import Derived.Test.YtgdflopgdlpimaaDoorRefsGroup
namespace Go.Proofs.YtgdflopgdlpimaaDoor
open Go.RowKit

theorem empty_row (T : Nat → Int) (B : Nat → Nat) : chunkBytes T B 0 = BitMath.sealOf [0] := by
  have h : rowBits T B 0 = BitMath.bitsOf 0 8 := by
    show BitMath.bitsOf 0 8 ++ [] ++ BitMath.maskTo B 0 = _
    rw [show BitMath.maskTo B 0 = [] from rfl, List.append_nil, List.append_nil]
  rw [chunkBytes, h, show BitMath.pack (BitMath.bitsOf 0 8) = [0] by decide]
theorem empty_size (T : Nat → Int) (B : Nat → Nat) : (⟨(chunkBytes T B 0).toArray⟩ : ByteArray).size = 5 := by
  simp only [ByteArray.size, List.size_toArray]
  rw [empty_row]
  rfl

set_option maxRecDepth 1000000 in
theorem chunked_any {Bd : Nat} {ea : Nat → Addr} (w : World) (E : Ern Bd ea w) (hBd : Bd ≤ w.heap.size) (hF : Forms w) (hT : Tab w) :
    Calls Tryd.prog 43 #[] w fun e w' => e = .returned (.bool true) ∧ Below w.heap.size w w' := by
  have HEN := (show Hid _ from encode_any w E hF hT none 0 0 (fun _ => 0) (fun _ => 0) (.inl rfl) (by omega) 0 (by omega) (fun i hi => absurd hi (by omega)) (fun h => absurd h (by omega)))
  have HSE := (show Hid _ from fun w0 => seal_any ⟨#[0]⟩ w0 (by decide))
  obtain ⟨z, hz⟩ : ∃ z : ByteArray, z = ⟨(chunkBytes (fun _ => 0) (fun _ => 0) 0).toArray⟩ := ⟨_, rfl⟩
  have hzs : z.size ≤ 10000 := by rw [hz, empty_size]; omega
  have hzd : z.data.toList = chunkBytes (fun _ => 0) (fun _ => 0) 0 := by rw [hz]
  have HSE' : Hid (∀ w0, Calls Tryd.prog 73 #[.string ⟨#[0]⟩] w0 fun e w' => e = .returned (.string z) ∧ Below w0.heap.size w0 w') := fun w0 => (HSE.out w0).mono (fun e w' h => ⟨by rw [h.1, hz, empty_row], h.2⟩)
  have HZD := (show Hid _ from hzd)
  have HZ := (show Hid _ from hz)
  have HE := (show Hid _ from E)
  have HF : Hid (Forms w) := hF
  have HT : Hid (Tab w) := hT
  have hFl := hF.lt
  have hTl := hT.lt
  clear E hF hT hz hzd HSE
  go_enter Tryd.func43, Tryd.ntmps43
  go_wp2_with fail
  refine Calls.mono HEN.out ?_
  rintro e w1 ⟨hb1, ⟨_, rfl⟩ | ⟨hlt, _⟩⟩
  · rw [← HZ.out]
    have hde := decode_any w1 (HE.out.below hb1 hBd) (Nat.le_trans hBd hb1.size) (HF.out.below hb1 hFl) (HT.out.below hb1 hTl) z hzs
    rw [HZD.out] at hde
    have HDE := (show Hid _ from hde)
    have HB1 := (show Hid _ from hb1)
    clear hde hb1 HEN
    go_wp2_with fail
    refine Calls.mono HDE.out ?_
    rintro e w2 ⟨hb2, ⟨n, T, B, v, hn, hok, hB, he, hown, rfl⟩ | ⟨hnot, _⟩⟩
    · obtain ⟨h0, _⟩ := chunk_same (fun _ => 0) T (fun _ => 0) B 0 n (by omega) hn (fun i hi => absurd hi (by omega)) hok (fun i hi => absurd hi (by omega)) hB he
      subst h0
      obtain ⟨va, vc, rfl⟩ := own_slice hown
      have HB2 : Hid (Below w.heap.size w w2) := HB1.out.trans (hb2.mono HB1.out.size)
      clear hb2 hok hB he hown HDE hn
      go_wp2_with fail
      refine Calls.mono (HSE'.out _) ?_
      rintro e w3 ⟨rfl, hb3⟩
      have HB3 : Hid (Below w.heap.size w w3) := HB2.out.trans (hb3.mono HB2.out.size)
      clear hb3
      go_wp2
      go_ret
      exact ⟨by simp, HB3.out⟩
    · exact absurd ⟨0, _, _, by omega, fun i hi => absurd hi (by omega), fun i hi => absurd hi (by omega), rfl⟩ hnot
  · omega
end Go.Proofs.YtgdflopgdlpimaaDoor
