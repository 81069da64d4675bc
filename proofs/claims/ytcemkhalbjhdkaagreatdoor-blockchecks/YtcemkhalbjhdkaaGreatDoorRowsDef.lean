import Derived.Test.YtcemkhalbjhdkaaGreatDoorPtListGroup
import Derived.Sort.EncStr
namespace Go.Proofs.YtcemkhalbjhdkaaGreatDoor
open Go.RowKit bS
def pF (w:World) (la:Option Addr) (rows:List (List UInt8×List (Int×Nat))):Prop:=
 rows = []\/∃ b o,la=some ⟨b,o,none⟩/\∀ k (hk:k<rows.length),w.cell? ⟨b,o+k*2,none⟩=some (encStr rows[k].1)/\∃ A C,w.cell? ⟨b,o+k*2+1,none⟩=some (.slice A rows[k].2.length C)/\iK w A rows[k].2
theorem pF.below {w w':World} {la:Option Addr} {rows:List (List UInt8×List (Int×Nat))} (h:pF w la rows) (hb:Below w.heap.size w w'):pF w' la rows:=by
 rcases h with h | ⟨b,o,h,hc⟩
 ·exact .inl h
 ·refine .inr ⟨b,o,h,fun k hk=>?_⟩;obtain⟨h1,A,C,h2,h3⟩:=hc k hk;have hl:b<w.heap.size:=World.block_lt_of_cell? w ⟨b,_,none⟩ h1;exact⟨(hb.cell (p:=⟨b,_,none⟩) hl).trans h1,A,C,(hb.cell (p:=⟨b,_,none⟩) hl).trans h2,h3.below hb⟩
end Go.Proofs.YtcemkhalbjhdkaaGreatDoor
