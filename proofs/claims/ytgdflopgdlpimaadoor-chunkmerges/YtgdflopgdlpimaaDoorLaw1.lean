/- Carrying a row and a reader over what only makes memory; the statements' helper rowed. -/
import Derived.Test.YtgdflopgdlpimaaDoorPut
import Derived.Test.YtgdflopgdlpimaaDoorRead1Group
namespace Go.Proofs.YtgdflopgdlpimaaDoor
open Go.RowKit

theorem lt_of_block {w : World} {r : Nat} {o : Obj} (h : w.heap[r]? = some o) : r < w.heap.size := by
  rcases Nat.lt_or_ge r w.heap.size with h' | h'
  · exact h'
  · rw [Array.getElem?_eq_none h'] at h
    cases h
theorem lt_of_cell {w : World} {b o : Nat} {v : Value} (h : w.cell? ⟨b, o, none⟩ = some v) : b < w.heap.size := World.block_lt_of_cell? w ⟨b, o, none⟩ h
theorem IsRow.lt {w : World} {r : Nat} {v : Value} {bs : List Bool} (h : IsRow w r v bs) : r < w.heap.size := lt_of_block h.hb
theorem own_below {w w' : World} {base : Nat} {e : TypeId} {s : Nat} {v : Value} {n : Nat} {xs : List Value} (h : w.ownsRow base e s v n xs) (hb : Below w.heap.size w w') : w'.ownsRow base e s v n xs := by
  obtain ⟨h1, h2⟩ := h
  refine ⟨h1, ?_⟩
  rcases h2 with h2 | ⟨g, cap, cur, hv, hg, hh, r⟩
  · exact .inl h2
  · exact .inr ⟨g, cap, cur, hv, hg, (hb.block g (lt_of_block hh)).trans hh, r⟩
theorem IsRow.below {w w' : World} {r : Nat} {v : Value} {bs : List Bool} (h : IsRow w r v bs) (hb : Below w.heap.size w w') : IsRow w' r v bs :=
  ⟨(hb.block r h.lt).trans h.hb, own_below h.own hb⟩
theorem IsRow.own_ge {w : World} {r : Nat} {v : Value} {bs : List Bool} (h : IsRow w r v bs) : ∀ x, x ∈ r :: v.ownBlock.toList → r ≤ x := by
  intro x hx
  rcases List.mem_cons.1 hx with h1 | h1
  · omega
  · rcases h.own.2 with ⟨rfl, _⟩ | ⟨g, cap, cur, rfl, hg, _⟩
    · simp [Value.ownBlock] at h1
    · simp [Value.ownBlock] at h1
      omega
theorem IsReader.lt {w : World} {x g cap : Nat} {l : List UInt8} {i n : Nat} (h : IsReader w x g cap l i n) : x < w.heap.size := lt_of_block h.hb
theorem IsReader.below {w w' : World} {x g cap : Nat} {l : List UInt8} {i n : Nat} (h : IsReader w x g cap l i n) (hb : Below w.heap.size w w') : IsReader w' x g cap l i n :=
  ⟨(hb.block x h.lt).trans h.hb, fun j hj => (hb.cell (p := ⟨g, j, none⟩) (Nat.lt_trans h.hg h.lt)).trans (h.hc j hj), h.hcap, h.hg, h.hi, h.hn, h.hl⟩
theorem below_draw (w : World) (q : Nat) : Below w.heap.size w (w.drewN q) := ⟨rfl, rfl, rfl, Nat.le_refl _, fun _ _ => rfl⟩

theorem pack53 : (⟨(BitMath.pack ([] ++ BitMath.bitsOf 5 3)).toArray⟩ : ByteArray) = ⟨#[160]⟩ := by rfl

set_option maxRecDepth 1000000 in
theorem rowed_any (w : World) : Calls Tryd.prog 16 #[] w fun e w' => e = .returned (.bool true) ∧ Below w.heap.size w w' := by
  go_enter Tryd.func16, Tryd.ntmps16
  go_wp2_with fail
  refine (new_any _).mono ?_
  rintro e w1 ⟨rfl, hr, hb, hs⟩
  have hput := put_ok w1 w.heap.size _ [] hr 5 3 (by decide) (by decide) (by decide)
  have HP := (show Hid _ from hput)
  clear hput hs
  go_wp2_with fail
  refine Calls.mono HP.out ?_
  rintro e w2 ⟨rfl, v', hr2, hk2⟩
  have hb2 : Below w.heap.size w w2 := hb.trans (hk2.below hb.size hr.own_ge)
  clear hr hk2 HP hb
  go_wp2_with fail
  refine (len_any w2 _ v' _ hr2).mono ?_
  rintro e w3 ⟨rfl, rfl⟩
  go_wp2_with fail
  refine (bytes_any w3 _ v' _ hr2).mono ?_
  rintro e w4 ⟨rfl, rfl⟩
  rw [pack53]
  go_wp2
  go_ret
  exact ⟨rfl, hb2⟩
end Go.Proofs.YtgdflopgdlpimaaDoor
