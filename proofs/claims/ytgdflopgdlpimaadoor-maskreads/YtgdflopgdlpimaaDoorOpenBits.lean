/- The statements' helper openBits. -/
import Derived.Test.YtgdflopgdlpimaaDoorRead1
import Derived.Test.YtgdflopgdlpimaaDoorLaw1
import Derived.Test.YtgdflopgdlpimaaDoorEnv
namespace Go.Proofs.YtgdflopgdlpimaaDoor
open Go.RowKit

set_option maxRecDepth 1000000 in
theorem openBits_any (bs : List Bool) (w : World) (hl : bs.length ≤ 100000) :
    Calls Tryd.prog 32 #[.string (BitMath.txt bs)] w fun e w' => ∃ x g cap, e = .returned (.pointer (some ⟨x, 0, none⟩)) ∧ IsReader w' x g cap (BitMath.pack bs) 0 bs.length ∧ Below w.heap.size w w' ∧ w.heap.size ≤ g := by
  have hpk := pack_any (BitMath.txt bs) bs w rfl (by omega)
  have HPK := (show Hid _ from hpk)
  have hsz := BitMath.txt_size bs
  have hlp := BitMath.length_pack bs
  have hs8 : (⟨(BitMath.pack bs).toArray⟩ : ByteArray).size = (BitMath.pack bs).length := by simp [ByteArray.size]
  have hd8 : (⟨(BitMath.pack bs).toArray⟩ : ByteArray).data.toList = BitMath.pack bs := by simp
  have hop := fun w0 => open_ok w0 ⟨(BitMath.pack bs).toArray⟩ (bs.length : Int) (by omega) (by omega) (by omega)
  have ht : (⟨(BitMath.pack bs).toArray⟩ : ByteArray).data.toList.take (((bs.length : Int).toNat + 7) / 8) = BitMath.pack bs := by
    rw [hd8, Int.toNat_natCast]
    exact List.take_of_length_le (by omega)
  rw [ht, Int.toNat_natCast] at hop
  generalize (⟨(BitMath.pack bs).toArray⟩ : ByteArray) = s8 at *
  generalize hs : BitMath.txt bs = s at *
  have HOP := (show Hid _ from hop)
  have hsI : (s.size : Int) = (bs.length : Int) := by omega
  clear hpk hop ht hd8 hs8 hlp hs hsz
  go_enter Tryd.func32, Tryd.ntmps32
  go_wp2_with fail
  refine Calls.mono HPK.out ?_
  rintro e w1 ⟨rfl, hb1⟩
  go_wp2_with fail
  refine Calls.mono (HOP.out _) ?_
  rintro e w2 ⟨x, g, cap, rfl, hr, hb2, hg⟩
  go_wp2
  go_ret
  exact ⟨x, g, cap, rfl, hr, hb1.trans (hb2.mono hb1.size), Nat.le_trans hb1.size hg⟩
end Go.Proofs.YtgdflopgdlpimaaDoor
