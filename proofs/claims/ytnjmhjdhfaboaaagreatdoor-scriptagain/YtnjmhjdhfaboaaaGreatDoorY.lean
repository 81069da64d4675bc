import Derived.Test.YtnjmhjdhfaboaaaGreatDoorH
import Derived.Sort.EncStr
namespace Go.Proofs.YtnjmhjdhfaboaaaGreatDoor
open Go.RowKit aU
def rX(w:World)(la:Option Addr)(rows:List (List UInt8×List (Int×Nat))):Prop:=
 rows = []\/∃b o,la=some ⟨b,o,none⟩/\∀k (hk:k<rows.length),w.cell? ⟨b,o+k*2,none⟩=some (encStr rows[k].1)/\∃A C,w.cell? ⟨b,o+k*2+1,none⟩=some (.slice A rows[k].2.length C)/\mG w A rows[k].2
theorem rX.below{w w':World}{D:Option Addr}{rows:List (List UInt8×List (Int×Nat))}(h:rX w D rows)(j:Below w.heap.size w w'):rX w' D rows:=by
 rcases h with h|⟨b,o,h,H⟩
 ·exact .inl h
 ·refine .inr ⟨b,o,h,λk I=>?_⟩;obtain⟨q,A,C,F,G⟩:=H k I;have z:b<w.heap.size:=World.block_lt_of_cell? w ⟨b,_,none⟩ q;exact⟨(j.cell (p:=⟨b,_,none⟩) z).trans q,A,C,(j.cell (p:=⟨b,_,none⟩) z).trans F,G.below j⟩
