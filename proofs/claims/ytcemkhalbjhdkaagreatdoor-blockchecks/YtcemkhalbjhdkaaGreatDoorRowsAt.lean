import Derived.Test.YtcemkhalbjhdkaaGreatDoorPtListGroup
import Derived.Test.YtcemkhalbjhdkaaGreatDoorHeadAtGroup
import Derived.Sort.EncStr
namespace Go.Proofs.YtcemkhalbjhdkaaGreatDoor
open Go.RowKit Go.Maps bS
theorem zu {w w':World} {base base':Nat} {e e':TypeId} {sz sz':Nat} {v r:Value} {n m:Nat} {xs ys:List Value} (h:w.ownsRow base e sz v n xs) (hr:w.ownsRow base' e' sz' r m ys) (hg:w.grownBy w' r.ownBlock) (hne:e≠e'):w'.ownsRow base e sz v n xs:=
 dA h fun g hg'=>by
  obtain⟨_,hlt,cur,hc⟩:=bC h hg';refine hg.block g hlt (fun e1=>?_);obtain⟨_,_,cur',hc'⟩:=bC hr e1.symm;exact rT hc hc' hne rfl
def iq (w:World) (base:Nat):List Value->List (List UInt8×List (Int×Nat))->Prop
 | [],[]=>True
 | k::s::r,row::rows=>k=encStr row.1/\w.ownsRow base 67 2 s row.2.length (aF row.2)/\iq w base r rows
 | _,_=>False
theorem iq.map {w w':World} {base:Nat} (hw:∀ v n xs,w.ownsRow base 67 2 v n xs->w'.ownsRow base 67 2 v n xs):∀ {xs:List Value} {rows:List (List UInt8×List (Int×Nat))},iq w base xs rows->iq w' base xs rows
 | [],[],_=>trivial
 | _::_::_,_::_,h=>⟨h.1,hw _ _ _ h.2.1,iq.map hw h.2.2⟩
theorem iq.abU {w w':World} {base base':Nat} (hw:∀ v n xs,w.ownsRow base 67 2 v n xs->w'.ownsRow base' 67 2 v n xs):∀ {xs:List Value} {rows:List (List UInt8×List (Int×Nat))},iq w base xs rows->iq w' base' xs rows
 | [],[],_=>trivial
 | _::_::_,_::_,h=>⟨h.1,hw _ _ _ h.2.1,iq.abU hw h.2.2⟩
theorem jB {b:Nat} {w y w':World} {base:Nat} {e:TypeId} {sz:Nat} {r:Value} {m:Nat} {ys:List Value} (h:Below b w y) (hr:y.ownsRow base e sz r m ys) (hb:b<=base) (hs:b<=y.heap.size) (hg:y.grownBy w' r.ownBlock):Below b w w':=
 h.trans ⟨hg.os,hg.tape,hg.output,hg.size,fun q hq=>hg.block q (by omega) (fun e1=>by have:=(bC hr e1.symm).1;omega)⟩
theorem iq.snoc {w:World} {base:Nat} {row:List UInt8×List (Int×Nat)} {s:Value} (hs:w.ownsRow base 67 2 s row.2.length (aF row.2)):∀ {xs:List Value} {rows:List (List UInt8×List (Int×Nat))},iq w base xs rows->iq w base (xs ++ [encStr row.1,s]) (rows ++ [row])
 | [],[],_=>⟨rfl,hs,trivial⟩
 | _::_::_,_::_,h=>⟨h.1,h.2.1,iq.snoc hs h.2.2⟩
theorem iq.at {w:World} {base:Nat}:∀ {xs:List Value} {rows:List (List UInt8×List (Int×Nat))},iq w base xs rows->∀ i (hi:i<rows.length),xs[i*2]? = some (encStr (rows[i]).1)/\∃ s,xs[i*2+1]? = some s/\w.ownsRow base 67 2 s (rows[i]).2.length (aF (rows[i]).2)
 | [],[],_,i,hi=>absurd hi (by simp)
 | _::s::_,_::_,h,0,_=>⟨by simp[h.1],s,by simp,h.2.1⟩
 | _::_::_,_::_,h,i+1,hi=>by
  have:=iq.at h.2.2 i (by simpa using hi);rw[show (i+1)*2=i*2+2 by omega];simpa using this
theorem Tryz.infoARow:(Tryz.prog.info? 69).map (fun i=>(i.zero,i.size,i.bytes))=some (some (.agg #[.string ⟨#[]⟩,.slice none 0 0]),2,40):=by kernel_rfl
end Go.Proofs.YtcemkhalbjhdkaaGreatDoor
