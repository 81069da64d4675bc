import Derived.Test.YtololnhfgjbhjaaGreatDoorRows
import Derived.Test.YtololnhfgjbhjaaGreatDoorErrAsGroup
import Derived.ProofKit
import Derived.LaidMore
import Derived.LaidSub
import Derived.Stop.Joined
import Derived.Stop.LaidErr
open Go.Proofs.Tryz
namespace Go.Proofs.YtololnhfgjbhjaaGreatDoor
open Go.ChangeShapes Go.WideShapes Go.ChangeAt Go.RowKit
theorem Tryz.own:ownKnob prog.godebug=none:=by kernel_rfl
theorem Tryz.et:prog.globalNamed "errors.errorType" = some 11:=by kernel_rfl
theorem Tryz.rt:(prog.cutTypes.find? (·.1 == "internal/reflectlite.rtype")).map (·.2)=some 244:=by kernel_rfl
theorem Tryz.oneRow:((List.range 382).filter λt=>prog.rowNamed t [101,114,114,111,114]) = [26]:=by kernel_rfl
theorem Tryz.tsize:prog.types.size=382:=by kernel_rfl
theorem Tryz.cellsES:prog.cellsOf 354=1:=by kernel_rfl
theorem Tryz.cellsStr:prog.cellsOf 9=1:=by kernel_rfl
theorem Tryz.rowES:∀u,prog.typeName? 3 u=some "*errors.errorString" -> u=352:=
 typeName_ptr_named (nm:= "errors.errorString") (by kernel_rfl) (by kernel_rfl) (by decide)
theorem iD{P:Program}{n nm:String}{text:List UInt8}{r:List (String×DataW Unit)}{W:World}{g:Nat}{ti tp te ts:TypeId}{ms:Array (String×TypeId)}{f:Field}
  (h:laidMet P ((n,.iface nm (.ptr (.agg [.lit (.string text)])))::r) W)
  (hg:P.globalNamed n=some g) (ht:(P.globals[g]?).map (·.type)=some ti) (hi:P.underlying ti=some (.interface ms)) (ϛ:∀u,P.typeName? 3 u=some nm->u=tp)
  (hp:P.underlying tp=some (.pointer te)) (he:P.underlying te=some (.struct #[f])) (σ:f.type=ts) (þ:f.offset=0) (hs:P.underlying ts=some .string) (hc:P.cellsOf te=1) (Ϧ:P.cellsOf ts=1) :
  ∃(a:Addr) (s:ByteArray),W.cell? ⟨g,0,none⟩=some (.iface tp (.pointer (some a)))/\W.cell? a=some (.string s)/\s.data.toList=text/\Plain W a/\laidMet P r W:=by
 have htail:=h.tail;obtain⟨ps,⟨g0,t0,cs0,f0,p0,q0,Ķ,Ě,À,hd0,_,e0⟩,_,hrows⟩:=h;obtain rfl:=Option.some.inj (hg.symm.trans Ķ);obtain rfl:=Option.some.inj (ht.symm.trans Ě);subst e0;obtain⟨l0⟩:=cs0;have ok0:∀u v,l0 = [.iface u v]->Value.okWide P W .any 0 u v:=λu v e=>by
  subst e;exact (hrows g 0 (by simp[MemPlace.row])).2 u v (by simpa using World.var?_cell Ķ À 0)
 obtain⟨a0,s0,rfl,ò,ĉ,Ċ,rfl⟩:=errorString_of_trod hi ϛ hp he σ þ hs hc Ϧ hd0 ok0;obtain⟨c0,t0,É⟩:=(hrows a0.block a0.off (by simp[MemPlace.row])).1;exact⟨a0,s0,by simpa using World.var?_cell Ķ À 0,ò,ĉ,⟨c0,t0,É⟩,htail⟩
def TR:List (String×DataW Unit):=[("tidegauge/api.ErrText",Rows.laid_tidegauge_api_ErrText),("tidegauge/api.ErrBound",Rows.laid_tidegauge_api_ErrBound),("tidegauge/api.ErrShape",Rows.laid_tidegauge_api_ErrShape),("tidegauge/api.ErrName",Rows.laid_tidegauge_api_ErrName),("tidegauge/api.ErrNone",Rows.laid_tidegauge_api_ErrNone),("tidegauge/api.ErrExist",Rows.laid_tidegauge_api_ErrExist),("tidegauge/api.ErrFull",Rows.laid_tidegauge_api_ErrFull),("tidegauge/api.ErrOld",Rows.laid_tidegauge_api_ErrOld),("tidegauge/api.ErrSum",Rows.laid_tidegauge_api_ErrSum),("tidegauge/api.ErrOff",Rows.laid_tidegauge_api_ErrOff),("tidegauge/api.ErrKind",Rows.laid_tidegauge_api_ErrKind)]
theorem Lx{W:World}(h:handlesMet prog [("errors.errorType",Rows.laid_errors_errorType)] W):W.cell? ⟨11,0,none⟩=some (.iface 244 (.agg #[.pointer (some ⟨19,26,none⟩)])):=by
 obtain⟨name,u,ty,e1,e2,e3,e4,e5⟩:=h _ (List.mem_singleton.2 rfl);have en:name = [101,114,114,111,114]:=(Option.some.inj e1).symm;subst en;obtain rfl:=Option.some.inj (Tryz.rt.symm.trans e2);have hm:ty∈(List.range 382).filter λt=>prog.rowNamed t [101,114,114,111,114]:=List.mem_filter.2 ⟨List.mem_range.2 (by rw[<-Tryz.tsize];exact e3),e4⟩
 rw[Tryz.oneRow] at hm;obtain rfl:=List.mem_singleton.1 hm;have hh:typeHandle prog 26 = .pointer (some ⟨19,26,none⟩):=by kernel_rfl
 rw[hh] at e5;simpa using World.var?_cell Tryz.et e5 0
def Er:Nat->List UInt8:=λi=>[[116,105,100,101,103,97,117,103,101,58,32,116,101,120,116],[116,105,100,101,103,97,117,103,101,58,32,98,111,117,110,100],[116,105,100,101,103,97,117,103,101,58,32,115,104,97,112,101],[116,105,100,101,103,97,117,103,101,58,32,110,97,109,101],[116,105,100,101,103,97,117,103,101,58,32,110,111,110,101],[116,105,100,101,103,97,117,103,101,58,32,101,120,105,115,116],[116,105,100,101,103,97,117,103,101,58,32,102,117,108,108],[116,105,100,101,103,97,117,103,101,58,32,111,108,100],[116,105,100,101,103,97,117,103,101,58,32,115,117,109],[116,105,100,101,103,97,117,103,101,58,32,111,102,102],[116,105,100,101,103,97,117,103,101,58,32,107,105,110,100]].getD i []
theorem Nv:∀i,i<11->∀j,j<11->Er i=Er j->i=j:=by decide
theorem Oi{W:World}{r:List (String×DataW Unit)}(hL0:laidMet prog (TR++r) W)(hH:handlesMet prog [("errors.errorType",Rows.laid_errors_errorType)] W):(∃ea,Env W.heap.size ea W)/\laidMet prog r W:=by
 have ht:=Lx hH;have hL:=hL0;clear hH hL0;obtain⟨a0,s0,c0,d0,x0,p0,hL⟩:=iD hL (g:=8) (by kernel_rfl) (by kernel_rfl) underlying26 Tryz.rowES underlying352 underlying354 rfl rfl underlying9 Tryz.cellsES Tryz.cellsStr;obtain⟨a1,s1,c1,d1,x1,p1,hL⟩:=iD hL (g:=0) (by kernel_rfl) (by kernel_rfl) underlying26 Tryz.rowES underlying352 underlying354 rfl rfl underlying9 Tryz.cellsES Tryz.cellsStr;obtain⟨a2,s2,c2,d2,x2,p2,hL⟩:=iD hL (g:=3) (by kernel_rfl) (by kernel_rfl) underlying26 Tryz.rowES underlying352 underlying354 rfl rfl underlying9 Tryz.cellsES Tryz.cellsStr;obtain⟨a3,s3,c3,d3,x3,p3,hL⟩:=iD hL (g:=6) (by kernel_rfl) (by kernel_rfl) underlying26 Tryz.rowES underlying352 underlying354 rfl rfl underlying9 Tryz.cellsES Tryz.cellsStr;obtain⟨a4,s4,c4,d4,x4,p4,hL⟩:=iD hL (g:=2) (by kernel_rfl) (by kernel_rfl) underlying26 Tryz.rowES underlying352 underlying354 rfl rfl underlying9 Tryz.cellsES Tryz.cellsStr;obtain⟨a5,s5,c5,d5,x5,p5,hL⟩:=iD hL (g:=10) (by kernel_rfl) (by kernel_rfl) underlying26 Tryz.rowES underlying352 underlying354 rfl rfl underlying9 Tryz.cellsES Tryz.cellsStr;obtain⟨a6,s6,c6,d6,x6,p6,hL⟩:=iD hL (g:=1) (by kernel_rfl) (by kernel_rfl) underlying26 Tryz.rowES underlying352 underlying354 rfl rfl underlying9 Tryz.cellsES Tryz.cellsStr;obtain⟨a7,s7,c7,d7,x7,p7,hL⟩:=iD hL (g:=4) (by kernel_rfl) (by kernel_rfl) underlying26 Tryz.rowES underlying352 underlying354 rfl rfl underlying9 Tryz.cellsES Tryz.cellsStr;obtain⟨a8,s8,c8,d8,x8,p8,hL⟩:=iD hL (g:=9) (by kernel_rfl) (by kernel_rfl) underlying26 Tryz.rowES underlying352 underlying354 rfl rfl underlying9 Tryz.cellsES Tryz.cellsStr;obtain⟨a9,s9,c9,d9,x9,p9,hL⟩:=iD hL (g:=7) (by kernel_rfl) (by kernel_rfl) underlying26 Tryz.rowES underlying352 underlying354 rfl rfl underlying9 Tryz.cellsES Tryz.cellsStr;obtain⟨Sd,s10,c10,d10,x10,p10,hr⟩:=iD hL (g:=5) (by kernel_rfl) (by kernel_rfl) underlying26 Tryz.rowES underlying352 underlying354 rfl rfl underlying9 Tryz.cellsES Tryz.cellsStr;clear hL;have Ä:∀i,i<11->Plain W (([a0,a1,a2,a3,a4,a5,a6,a7,a8,a9,Sd]:List Addr).getD i a0)/\∃s,W.cell? (([a0,a1,a2,a3,a4,a5,a6,a7,a8,a9,Sd]:List Addr).getD i a0)=some (.string s)/\s.data.toList=Er i:=by
  intro i hi;match i,hi with
  | 0,_=>exact⟨p0,s0,d0,x0⟩
  | 1,_=>exact⟨p1,s1,d1,x1⟩
  | 2,_=>exact⟨p2,s2,d2,x2⟩
  | 3,_=>exact⟨p3,s3,d3,x3⟩
  | 4,_=>exact⟨p4,s4,d4,x4⟩
  | 5,_=>exact⟨p5,s5,d5,x5⟩
  | 6,_=>exact⟨p6,s6,d6,x6⟩
  | 7,_=>exact⟨p7,s7,d7,x7⟩
  | 8,_=>exact⟨p8,s8,d8,x8⟩
  | 9,_=>exact⟨p9,s9,d9,x9⟩
  | 10,_=>exact⟨p10,s10,d10,x10⟩
 have Ï:11<W.heap.size:=by
  rcases Nat.lt_or_ge 11 W.heap.size with h|h
  ·exact h
  ·exact absurd ht (by simp[World.cell?,Array.getElem?_eq_none h])
 refine⟨⟨λi=>([a0,a1,a2,a3,a4,a5,a6,a7,a8,a9,Sd]:List Addr).getD i a0,c0,c1,c2,c3,c4,c5,c6,c7,c8,c9,c10,ht,λi hi=>(Ä i hi).1,λi hi=>(Ä i hi).1.lt,λi j hi hj e=>by
  obtain⟨_,s,hs,xs⟩:=Ä i hi;obtain⟨_,t,hs',xt⟩:=Ä j hj;rw[e,hs'] at hs;have est:t=s:=by simpa using hs
  subst est;exact Nv i hi j hj (xs.symm.trans xt),Ï⟩,hr⟩
end Go.Proofs.YtololnhfgjbhjaaGreatDoor
