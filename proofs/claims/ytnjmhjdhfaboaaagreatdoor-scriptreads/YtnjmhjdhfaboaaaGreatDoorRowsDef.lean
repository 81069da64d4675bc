import Derived.Test.YtnjmhjdhfaboaaaGreatDoorPtListGroup
import Derived.Sort.EncStr
namespace Go.Proofs.YtnjmhjdhfaboaaaGreatDoor
open Go.RowKit aR
def rW(w:World)(la:Option Addr)(rows:List (List UInt8×List (Int×Nat))):Prop:=
 rows = []\/∃b o,la=some ⟨b,o,none⟩/\∀k (hk:k<rows.length),w.cell? ⟨b,o+k*2,none⟩=some (encStr rows[k].1)/\∃A C,w.cell? ⟨b,o+k*2+1,none⟩=some (.slice A rows[k].2.length C)/\l5 w A rows[k].2
theorem rW.below{w w':World}{D:Option Addr}{rows:List (List UInt8×List (Int×Nat))}(h:rW w D rows)(q:Below w.heap.size w w'):rW w' D rows:=by
 rcases h with h|⟨b,o,h,H⟩
 ·exact .inl h
 ·refine .inr ⟨b,o,h,λk J=>?_⟩;obtain⟨F,A,C,G,I⟩:=H k J;have z:b<w.heap.size:=World.block_lt_of_cell? w ⟨b,_,none⟩ F;exact⟨(q.cell (p:=⟨b,_,none⟩) z).trans F,A,C,(q.cell (p:=⟨b,_,none⟩) z).trans G,I.below q⟩
end Go.Proofs.YtnjmhjdhfaboaaaGreatDoor
