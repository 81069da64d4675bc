import Derived.Test.YtololnhfgjbhjaaGreatDoorPtListGroup
import Derived.Sort.EncStr
namespace Go.Proofs.YtololnhfgjbhjaaGreatDoor
open Go.RowKit aV
def nH(w:World)(la:Option Addr)(rows:List (List UInt8×List (Int×Nat))):Prop:=
 rows = []\/∃b o,la=some ⟨b,o,none⟩/\∀k (hk:k<rows.length),w.cell? ⟨b,o+k*2,none⟩=some (encStr rows[k].1)/\∃A C,w.cell? ⟨b,o+k*2+1,none⟩=some (.slice A rows[k].2.length C)/\mP w A rows[k].2
theorem nH.below{w w':World}{la:Option Addr}{rows:List (List UInt8×List (Int×Nat))}(h:nH w la rows)(hb:Below w.heap.size w w'):nH w' la rows:=by
 rcases h with h|⟨b,o,h,hc⟩
 ·exact .inl h
 ·refine .inr ⟨b,o,h,λk hk=>?_⟩;obtain⟨h1,A,C,h2,h3⟩:=hc k hk;have hl:b<w.heap.size:=World.block_lt_of_cell? w ⟨b,_,none⟩ h1;exact⟨(hb.cell (p:=⟨b,_,none⟩) hl).trans h1,A,C,(hb.cell (p:=⟨b,_,none⟩) hl).trans h2,h3.below hb⟩
end Go.Proofs.YtololnhfgjbhjaaGreatDoor
