import Derived.Test.YtalliohkalnaeaaGreatDoorPtListGroup
import Derived.Test.YtalliohkalnaeaaGreatDoorHeadAtGroup
import Derived.Sort.EncStr
import Derived.Test.YtalliohkalnaeaaGreatDoorBitMathGroup
import Derived.Test.YtalliohkalnaeaaGreatDoorRefReadGroup
import Derived.Test.YtalliohkalnaeaaGreatDoorRowsDef
namespace Go.Proofs.YtalliohkalnaeaaGreatDoor
open Go.RowKit Go.Maps aZ
theorem Cm {w w':World} {base base':Nat} {e e':TypeId} {sz sz':Nat} {v r:Value} {n m:Nat} {xs ys:List Value} (h:w.ownsRow base e sz v n xs) (hr:w.ownsRow base' e' sz' r m ys) (hg:w.grownBy w' r.ownBlock) (hne:e≠e'):w'.ownsRow base e sz v n xs:=
 bL h fun g hg'=>by
  obtain⟨_,hlt,cur,hc⟩:=aJ h hg';refine hg.block g hlt (fun e1=>?_);obtain⟨_,_,cur',hc'⟩:=aJ hr e1.symm;exact iK hc hc' hne rfl
def fV (w:World) (base:Nat):List Value->List (List UInt8×List (Int×Nat))->Prop
 | [],[]=>True
 | k::s::r,row::rows=>k=encStr row.1/\w.ownsRow base 39 2 s row.2.length (aD row.2)/\fV w base r rows
 | _,_=>False
theorem fV.map {w w':World} {base:Nat} (hw:∀ v n xs,w.ownsRow base 39 2 v n xs->w'.ownsRow base 39 2 v n xs):∀ {xs:List Value} {rows:List (List UInt8×List (Int×Nat))},fV w base xs rows->fV w' base xs rows
 | [],[],_=>trivial
 | _::_::_,_::_,h=>⟨h.1,hw _ _ _ h.2.1,fV.map hw h.2.2⟩
theorem wX {b:Nat} {w y w':World} {base:Nat} {e:TypeId} {sz:Nat} {r:Value} {m:Nat} {ys:List Value} (h:Below b w y) (hr:y.ownsRow base e sz r m ys) (hb:b<=base) (hs:b<=y.heap.size) (hg:y.grownBy w' r.ownBlock):Below b w w':=
 h.trans ⟨hg.os,hg.tape,hg.output,hg.size,fun q hq=>hg.block q (by omega) (fun e1=>by have:=(aJ hr e1.symm).1;omega)⟩
theorem fV.snoc {w:World} {base:Nat} {row:List UInt8×List (Int×Nat)} {s:Value} (hs:w.ownsRow base 39 2 s row.2.length (aD row.2)):∀ {xs:List Value} {rows:List (List UInt8×List (Int×Nat))},fV w base xs rows->fV w base (xs ++ [encStr row.1,s]) (rows ++ [row])
 | [],[],_=>⟨rfl,hs,trivial⟩
 | _::_::_,_::_,h=>⟨h.1,h.2.1,fV.snoc hs h.2.2⟩
theorem fV.at {w:World} {base:Nat}:∀ {xs:List Value} {rows:List (List UInt8×List (Int×Nat))},fV w base xs rows->∀ i (hi:i<rows.length),xs[i*2]? = some (encStr (rows[i]).1)/\∃ s,xs[i*2+1]? = some s/\w.ownsRow base 39 2 s (rows[i]).2.length (aD (rows[i]).2)
 | [],[],_,i,hi=>absurd hi (by simp)
 | _::s::_,_::_,h,0,_=>⟨by simp[h.1],s,by simp,h.2.1⟩
 | _::_::_,_::_,h,i+1,hi=>by
  have:=fV.at h.2.2 i (by simpa using hi);rw[show (i+1)*2=i*2+2 by omega];simpa using this
theorem Tryz.infoARow:(Tryz.prog.info? 58).map (fun i=>(i.zero,i.size,i.bytes))=some (some (.agg #[.string ⟨#[]⟩,.slice none 0 0]),2,40):=by kernel_rfl
end Go.Proofs.YtalliohkalnaeaaGreatDoor
namespace Go.Proofs.YtalliohkalnaeaaGreatDoor
open Go.RowKit Go.Maps aF aZ dS iO
structure iV (base:Nat) (wr:World) (mb nb:Nat) (hs:Int->Bool) (R:Int->List Rw) (X:Int->List Value) (sv:Int->Value):Prop where
 im:jd wr mb nb base 58 2 hs (fun f=>(R f).length) X sv
 rows:∀ f,hs f=true->fV wr base (X f) (R f)
def Bc (hs:Int->Bool) (R:Int->List Rw) (k:Int):List Rw:=if hs k=true then R k else []
theorem ZV (hs:Int->Bool) (R:Int->List Rw) (k:Int):O0 hs (fun f=>(R f).length) k=(Bc hs R k).length:=by
 unfold O0 Bc;cases hs k<;>simp
theorem iV.congr {base:Nat} {wr:World} {mb nb:Nat} {hs hs':Int->Bool} {R R':Int->List Rw} {X:Int->List Value} {sv:Int->Value} (h:iV base wr mb nb hs R X sv) (hh:∀ x,hs' x=hs x) (hR:∀ x,hs x=true->R' x=R x):iV base wr mb nb hs' R' X sv:=by
 obtain rfl:hs'=hs:=funext hh;refine⟨⟨h.im.map,fun k hk=>?_,h.im.apart⟩,fun f hf=>by rw[hR f hf];exact h.rows f hf⟩;have:=h.im.row k hk;rw[hR k hk];exact this
theorem iV.aeB {base:Nat} {wr:World} {mb nb:Nat} {hs:Int->Bool} {R:Int->List Rw} {X:Int->List Value} {sv:Int->Value} (h:iV base wr mb nb hs R X sv) (k:Int):fV wr base (FZ hs X k) (Bc hs R k):=by
 unfold FZ Bc;cases hk:hs k with
 | true=>simpa using h.rows k hk
 | false=>simp[fV]
theorem iV.same {base:Nat} {wr w':World} {mb nb:Nat} {hs:Int->Bool} {R:Int->List Rw} {X:Int->List Value} {sv:Int->Value} (h:iV base wr mb nb hs R X sv) (he:∀ x,x<wr.heap.size->base<=x->w'.heap[x]? = wr.heap[x]?) (hb:base<=mb):iV base w' mb nb hs R X sv:=by
 refine⟨h.im.same (he _ h.im.lt hb) fun k hk g hg=>?_,fun f hf=>(h.rows f hf).map fun v n xs hv=>bL hv fun g hg=>?_⟩
 ·have:=aJ (h.im.row k hk) hg;exact he g this.2.1 this.1
 ·have:=aJ hv hg;exact he g this.2.1 this.1
theorem iV.aeC {base:Nat} {wr w':World} {mb nb:Nat} {hs:Int->Bool} {R:Int->List Rw} {X:Int->List Value} {sv:Int->Value} (h:iV base wr mb nb hs R X sv) (hm:w'.heap[mb]? = wr.heap[mb]?) (he:∀ (x:Nat) (cs:Array Value) (t:TypeId) (f:Nat×Nat),wr.heap[x]? = some (Obj.cells cs t f)->w'.heap[x]? = wr.heap[x]?):iV base w' mb nb hs R X sv:=by
 refine⟨h.im.same hm fun k hk g hg=>?_,fun f hf=>(h.rows f hf).map fun v n xs hv=>bL hv fun g hg=>?_⟩
 ·obtain⟨_,_,cur,hc⟩:=aJ (h.im.row k hk) hg;exact he g _ _ _ hc
 ·obtain⟨_,_,cur,hc⟩:=aJ hv hg;exact he g _ _ _ hc
theorem iV.below {base:Nat} {wr w':World} {mb nb:Nat} {hs:Int->Bool} {R:Int->List Rw} {X:Int->List Value} {sv:Int->Value} (h:iV base wr mb nb hs R X sv) (hw:Below wr.heap.size wr w') (hb:base<=mb):iV base w' mb nb hs R X sv:=h.same (fun x hx _=>hw.block x hx) hb
theorem iV.put {base:Nat} {W w7:World} {mb nb:Nat} {hs:Int->Bool} {R:Int->List Rw} {X:Int->List Value} {sv:Int->Value} (h:iV base W mb nb hs R X sv) (f:Int) (hf : -9223372036854775808<=f/\f<=9223372036854775807) (hnb:nb<4000000) (row:Rw) (sl:Value) (hsl:W.ownsRow base 39 2 sl row.2.length (aD row.2)) {g cap:Nat}
  (hown:w7.ownsRow base 58 2 (.slice (some ⟨g,0,none⟩) ((Bc hs R f).length+1) cap) ((Bc hs R f).length+1) (FZ hs X f ++ [encStr row.1,sl])) (hgr:W.grownBy w7 (sj hs sv f).ownBlock) (hat:(sj hs sv f).ownBlock=some g\/g=W.heap.size) :
  ∃ w2 X' ni,(Instr.mapUpdate 129 (.map (some mb)) (.int .i64 f) (.slice (some ⟨g,0,none⟩) ((Bc hs R f).length+1) cap)).run Tryz.prog w7 = .ok () w2/\iV base w2 mb (nb+1) (fun x=>decide (x=f)||hs x) (fun x=>if x=f then Bc hs R f ++ [row] else R x) X' ni/\Kept (mb::(sj hs sv f).ownBlock.toList) W w2:=by
 obtain⟨w2,hrun,him,hsz,hk⟩:=h.im.put Tryz.underlying129 f hf hnb (v':=.slice (some ⟨g,0,none⟩) ((Bc hs R f).length+1) cap) (g:=g) rfl hown hgr hat
 have hpt:∀ v n xs,W.ownsRow base 39 2 v n xs->w2.ownsRow base 39 2 v n xs:=fun v n xs hv=>bL hv fun q hq=>by
  obtain⟨_,hlt,cur,hc⟩:=aJ hv hq;refine hk.block q hlt fun hm=>?_
  rcases List.mem_cons.1 hm with e | e
  ·exact h.im.ng hc e
  ·obtain⟨_,_,cur',hc'⟩:=aJ (h.im.own f) (show (sj hs sv f).ownBlock=some q by simpa using e);exact iK hc hc' (by decide) rfl
 refine⟨w2,fun x=>if x=f then FZ hs X f ++ [encStr row.1,sl] else X x,_,hrun,⟨⟨him.map,fun k hk'=>?_,him.apart⟩,fun x hx=>?_⟩,hk⟩
 ·have:=him.row k hk';by_cases e:k=f
  ·subst e;simpa using this
  ·simpa [e] using this
 ·by_cases e:x=f
  ·subst e;simp only[if_true];exact fV.snoc (hpt _ _ _ hsl) ((h.aeB x).map hpt)
  ·simp only[if_neg e];exact (h.rows x (by simpa [e] using hx)).map hpt
end Go.Proofs.YtalliohkalnaeaaGreatDoor
namespace Go.Proofs.YtalliohkalnaeaaGreatDoor
open Go.RowKit Go.Maps aF aZ dS
theorem ZW (w:World):(zeroValue 54).run Tryz.prog w = .ok (.slice none 0 0) w:=by kernel_rfl
end Go.Proofs.YtalliohkalnaeaaGreatDoor
