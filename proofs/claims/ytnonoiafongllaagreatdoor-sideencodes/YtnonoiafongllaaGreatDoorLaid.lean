import Derived.Test.YtnonoiafongllaaGreatDoorRows
import Derived.Test.YtnonoiafongllaaGreatDoorErrAsGroup
import Derived.ProofKit
import Derived.LaidMore
import Derived.LaidHandle
import Derived.LaidSub
import Derived.Stop.Joined
import Derived.Stop.LaidErr
namespace Go.Proofs.YtnonoiafongllaaGreatDoor
open Go.ChangeShapes Go.WideShapes Go.ChangeAt Go.RowKit
theorem Tryz.own:ownKnob Tryz.prog.godebug=none:=by kernel_rfl
theorem Tryz.et:Tryz.prog.globalNamed "errors.errorType" = some 11:=by kernel_rfl
theorem Tryz.rt:(Tryz.prog.cutTypes.find? (·.1 == "internal/reflectlite.rtype")).map (·.2)=some 192:=by kernel_rfl
theorem Tryz.oneRow:((List.range 266).filter fun t=>Tryz.prog.rowNamed t [101,114,114,111,114]) = [28]:=by kernel_rfl
theorem Tryz.tsize:Tryz.prog.types.size=266:=by kernel_rfl
theorem Tryz.cellsES:Tryz.prog.cellsOf 254=1:=by kernel_rfl
theorem Tryz.cellsStr:Tryz.prog.cellsOf 9=1:=by kernel_rfl
theorem Tryz.rowES:∀ u,Tryz.prog.typeName? 3 u=some "*errors.errorString" -> u=235:=
 typeName_ptr_named (nm:= "errors.errorString") (by kernel_rfl) (by kernel_rfl) (by decide)
theorem eD {P:Program} {n nm:String} {text:List UInt8} {r:List (String×DataW Unit)} {W:World} {g:Nat} {ti tp te ts:TypeId} {ms:Array (String×TypeId)} {f:Field}
  (h:laidMet P ((n,.iface nm (.ptr (.agg [.lit (.string text)])))::r) W)
  (hg:P.globalNamed n=some g) (ht:(P.globals[g]?).map (·.type)=some ti) (hi:P.underlying ti=some (.interface ms)) (hrow:∀ u,P.typeName? 3 u=some nm->u=tp)
  (hp:P.underlying tp=some (.pointer te)) (he:P.underlying te=some (.struct #[f])) (hft:f.type=ts) (hfo:f.offset=0) (hs:P.underlying ts=some .string) (hc:P.cellsOf te=1) (hcs:P.cellsOf ts=1) :
  ∃ (a:Addr) (s:ByteArray),W.cell? ⟨g,0,none⟩=some (.iface tp (.pointer (some a)))/\W.cell? a=some (.string s)/\s.data.toList=text/\Plain W a/\laidMet P r W:=by
 have htail:=h.tail;obtain⟨ps,⟨g0,t0,cs0,f0,p0,q0,hg0,ht0,hv0,hd0,_,e0⟩,_,hrows⟩:=h;obtain rfl:=Option.some.inj (hg.symm.trans hg0);obtain rfl:=Option.some.inj (ht.symm.trans ht0);subst e0;obtain⟨l0⟩:=cs0;have ok0:∀ u v,l0 = [.iface u v]->Value.okWide P W .any 0 u v:=fun u v e=>by
  subst e;exact (hrows g 0 (by simp[MemPlace.row])).2 u v (by simpa using World.var?_cell hg0 hv0 0)
 obtain⟨a0,s0,rfl,hc0,hs0,hz0,rfl⟩:=errorString_of_trod hi hrow hp he hft hfo hs hc hcs hd0 ok0;obtain⟨c0,t0,hb0⟩:=(hrows a0.block a0.off (by simp[MemPlace.row])).1;exact⟨a0,s0,by simpa using World.var?_cell hg0 hv0 0,hc0,hs0,⟨c0,t0,hb0⟩,htail⟩
def Cc:List (String×DataW Unit):=[("tidegauge/api.ErrText",Rows.laid_tidegauge_api_ErrText),("tidegauge/api.ErrBound",Rows.laid_tidegauge_api_ErrBound),("tidegauge/api.ErrShape",Rows.laid_tidegauge_api_ErrShape),("tidegauge/api.ErrName",Rows.laid_tidegauge_api_ErrName),("tidegauge/api.ErrNone",Rows.laid_tidegauge_api_ErrNone),("tidegauge/api.ErrExist",Rows.laid_tidegauge_api_ErrExist),("tidegauge/api.ErrFull",Rows.laid_tidegauge_api_ErrFull),("tidegauge/api.ErrOld",Rows.laid_tidegauge_api_ErrOld),("tidegauge/api.ErrSum",Rows.laid_tidegauge_api_ErrSum),("tidegauge/api.ErrOff",Rows.laid_tidegauge_api_ErrOff),("tidegauge/api.ErrKind",Rows.laid_tidegauge_api_ErrKind)]
theorem I9 {W:World} (h:handlesMet Tryz.prog [("errors.errorType",Rows.laid_errors_errorType)] W):W.cell? ⟨11,0,none⟩=some (.iface 192 (.agg #[.pointer (some ⟨14,28,none⟩)])):=by
 obtain⟨name,u,ty,e1,e2,e3,e4,e5⟩:=h _ (List.mem_singleton.2 rfl);have en:name = [101,114,114,111,114]:=(Option.some.inj e1).symm;subst en;obtain rfl:=Option.some.inj (Tryz.rt.symm.trans e2);have hm:ty∈(List.range 266).filter fun t=>Tryz.prog.rowNamed t [101,114,114,111,114]:=List.mem_filter.2 ⟨List.mem_range.2 (by rw[<-Tryz.tsize];exact e3),e4⟩
 rw[Tryz.oneRow] at hm;obtain rfl:=List.mem_singleton.1 hm;have hh:typeHandle Tryz.prog 28 = .pointer (some ⟨14,28,none⟩):=by kernel_rfl
 rw[hh] at e5;simpa using World.var?_cell Tryz.et e5 0
def qc:Nat->List UInt8:=fun i=>[[116,105,100,101,103,97,117,103,101,58,32,116,101,120,116],[116,105,100,101,103,97,117,103,101,58,32,98,111,117,110,100],[116,105,100,101,103,97,117,103,101,58,32,115,104,97,112,101],[116,105,100,101,103,97,117,103,101,58,32,110,97,109,101],[116,105,100,101,103,97,117,103,101,58,32,110,111,110,101],[116,105,100,101,103,97,117,103,101,58,32,101,120,105,115,116],[116,105,100,101,103,97,117,103,101,58,32,102,117,108,108],[116,105,100,101,103,97,117,103,101,58,32,111,108,100],[116,105,100,101,103,97,117,103,101,58,32,115,117,109],[116,105,100,101,103,97,117,103,101,58,32,111,102,102],[116,105,100,101,103,97,117,103,101,58,32,107,105,110,100]].getD i []
theorem BJ:∀ i,i<11->∀ j,j<11->qc i=qc j->i=j:=by decide
theorem BK {W:World} {r:List (String×DataW Unit)} (hL0:laidMet Tryz.prog (Cc++r) W) (hH:handlesMet Tryz.prog [("errors.errorType",Rows.laid_errors_errorType)] W):(∃ ea,Env W.heap.size ea W/\∀ i,i<11->∃ s:ByteArray,W.cell? (ea i)=some (.string s)/\s.data.toList=qc i)/\laidMet Tryz.prog r W:=by
 have ht:=I9 hH;have hL:=hL0;clear hH hL0;obtain⟨a0,s0,c0,d0,x0,p0,hL⟩:=eD hL (g:=0) (by kernel_rfl) (by kernel_rfl) Tryz.underlying28 Tryz.rowES Tryz.underlying235 Tryz.underlying254 rfl rfl Tryz.underlying9 Tryz.cellsES Tryz.cellsStr;obtain⟨a1,s1,c1,d1,x1,p1,hL⟩:=eD hL (g:=3) (by kernel_rfl) (by kernel_rfl) Tryz.underlying28 Tryz.rowES Tryz.underlying235 Tryz.underlying254 rfl rfl Tryz.underlying9 Tryz.cellsES Tryz.cellsStr;obtain⟨a2,s2,c2,d2,x2,p2,hL⟩:=eD hL (g:=2) (by kernel_rfl) (by kernel_rfl) Tryz.underlying28 Tryz.rowES Tryz.underlying235 Tryz.underlying254 rfl rfl Tryz.underlying9 Tryz.cellsES Tryz.cellsStr;obtain⟨a3,s3,c3,d3,x3,p3,hL⟩:=eD hL (g:=4) (by kernel_rfl) (by kernel_rfl) Tryz.underlying28 Tryz.rowES Tryz.underlying235 Tryz.underlying254 rfl rfl Tryz.underlying9 Tryz.cellsES Tryz.cellsStr;obtain⟨a4,s4,c4,d4,x4,p4,hL⟩:=eD hL (g:=5) (by kernel_rfl) (by kernel_rfl) Tryz.underlying28 Tryz.rowES Tryz.underlying235 Tryz.underlying254 rfl rfl Tryz.underlying9 Tryz.cellsES Tryz.cellsStr;obtain⟨a5,s5,c5,d5,x5,p5,hL⟩:=eD hL (g:=6) (by kernel_rfl) (by kernel_rfl) Tryz.underlying28 Tryz.rowES Tryz.underlying235 Tryz.underlying254 rfl rfl Tryz.underlying9 Tryz.cellsES Tryz.cellsStr;obtain⟨a6,s6,c6,d6,x6,p6,hL⟩:=eD hL (g:=7) (by kernel_rfl) (by kernel_rfl) Tryz.underlying28 Tryz.rowES Tryz.underlying235 Tryz.underlying254 rfl rfl Tryz.underlying9 Tryz.cellsES Tryz.cellsStr;obtain⟨a7,s7,c7,d7,x7,p7,hL⟩:=eD hL (g:=8) (by kernel_rfl) (by kernel_rfl) Tryz.underlying28 Tryz.rowES Tryz.underlying235 Tryz.underlying254 rfl rfl Tryz.underlying9 Tryz.cellsES Tryz.cellsStr;obtain⟨a8,s8,c8,d8,x8,p8,hL⟩:=eD hL (g:=1) (by kernel_rfl) (by kernel_rfl) Tryz.underlying28 Tryz.rowES Tryz.underlying235 Tryz.underlying254 rfl rfl Tryz.underlying9 Tryz.cellsES Tryz.cellsStr;obtain⟨a9,s9,c9,d9,x9,p9,hL⟩:=eD hL (g:=9) (by kernel_rfl) (by kernel_rfl) Tryz.underlying28 Tryz.rowES Tryz.underlying235 Tryz.underlying254 rfl rfl Tryz.underlying9 Tryz.cellsES Tryz.cellsStr;obtain⟨Rc,s10,c10,YM,x10,YN,hr⟩:=eD hL (g:=10) (by kernel_rfl) (by kernel_rfl) Tryz.underlying28 Tryz.rowES Tryz.underlying235 Tryz.underlying254 rfl rfl Tryz.underlying9 Tryz.cellsES Tryz.cellsStr;clear hL;have hall:∀ i,i<11->Plain W (([a0,a1,a2,a3,a4,a5,a6,a7,a8,a9,Rc]:List Addr).getD i a0)/\∃ s,W.cell? (([a0,a1,a2,a3,a4,a5,a6,a7,a8,a9,Rc]:List Addr).getD i a0)=some (.string s)/\s.data.toList=qc i:=by
  intro i hi;match i,hi with
  | 0,_=>exact⟨p0,s0,d0,x0⟩
  | 1,_=>exact⟨p1,s1,d1,x1⟩
  | 2,_=>exact⟨p2,s2,d2,x2⟩
  | 3,_=>exact⟨p3,s3,d3,x3⟩
  | 4,_=>exact⟨p4,s4,d4,x4⟩
  | 5,_=>exact⟨p5,s5,d5,x5⟩
  | 6,_=>exact⟨p6,s6,d6,x6⟩
  | 7,_=>exact⟨p7,s7,d7,x7⟩
  | 8,_=>exact⟨p8,s8,d8,x8⟩
  | 9,_=>exact⟨p9,s9,d9,x9⟩
  | 10,_=>exact⟨YN,s10,YM,x10⟩
 have hlow:11<W.heap.size:=by
  rcases Nat.lt_or_ge 11 W.heap.size with h | h
  ·exact h
  ·exact absurd ht (by simp[World.cell?,Array.getElem?_eq_none h])
 refine⟨⟨fun i=>([a0,a1,a2,a3,a4,a5,a6,a7,a8,a9,Rc]:List Addr).getD i a0,⟨c0,c1,c2,c3,c4,c5,c6,c7,c8,c9,c10,ht,fun i hi=>(hall i hi).1,fun i hi=>(hall i hi).1.lt,fun i j hi hj e=>by
  obtain⟨_,s,hs,xs⟩:=hall i hi;obtain⟨_,t,hs',xt⟩:=hall j hj;rw[e,hs'] at hs;have est:t=s:=by simpa using hs
  subst est;exact BJ i hi j hj (xs.symm.trans xt),hlow⟩,fun i hi=>(hall i hi).2⟩,hr⟩
end Go.Proofs.YtnonoiafongllaaGreatDoor
