import Derived.Test.YtdlceolmpcjjiaaGreatDoorBlkRows
namespace Go.Proofs.YtdlceolmpcjjiaaGreatDoor
open Go.RowKit Go.Maps
def jJ (w:World) (a:Option Addr) (ss:List (List UInt8)):Prop:=∀ k (hk:k<ss.length),∃ g o,a=some ⟨g,o,none⟩/\w.cell? ⟨g,o+k,none⟩=some (encStr ss[k])
theorem jJ.below {w z:World} {a:Option Addr} {ss:List (List UInt8)} (h:jJ w a ss) (hb:Below w.heap.size w z):jJ z a ss:=fun k hk=>by
 obtain⟨g,o,e,hc⟩:=h k hk;exact⟨g,o,e,(hb.cell (p:=⟨g,o+k,none⟩) (World.block_lt_of_cell? w ⟨g,o+k,none⟩ hc)).trans hc⟩
end Go.Proofs.YtdlceolmpcjjiaaGreatDoor
