import Derived.Test.YtnjmhjdhfaboaaaGreatDoorRows
import Derived.Test.YtnjmhjdhfaboaaaGreatDoorErrAsGroup
import Derived.ProofKit
import Derived.LaidMore
import Derived.LaidSub
import Derived.Stop.Joined
import Derived.Stop.LaidErr
open Go.Proofs.Tryz
namespace Go.Proofs.YtnjmhjdhfaboaaaGreatDoor
open Go.ChangeShapes Go.WideShapes Go.ChangeAt Go.RowKit
theorem Tryz.own:ownKnob prog.godebug=none:=lG
theorem Tryz.et:prog.globalNamed "errors.errorType" = some 11:=lG
theorem Tryz.rt:(prog.cutTypes.find? (·.1 == "internal/reflectlite.rtype")).map (·.2)=some 169:=lG
theorem Tryz.oneRow:((List.range 437).filter λt=>prog.rowNamed t [101,114,114,111,114]) = [25]:=lG
theorem Tryz.tsize:prog.types.size=437:=lG
theorem Tryz.cellsES:prog.cellsOf 399=1:=lG
theorem Tryz.cellsStr:prog.cellsOf 9=1:=lG
theorem Tryz.rowES:∀u,prog.typeName? 3 u=some "*errors.errorString" -> u=397:=
 typeName_ptr_named (nm:= "errors.errorString") lG lG (by decide)
theorem gZ{P:Program}{n nm:String}{text:List UInt8}{r:List (String×DataW Unit)}{W:World}{g:Nat}{K A I D:TypeId}{ms:Array (String×TypeId)}{f:Field}
  (h:laidMet P ((n,.iface nm (.ptr (.agg [.lit (.string text)])))::r) W)
  (hg:P.globalNamed n=some g) (ht:(P.globals[g]?).map (·.type)=some K) (hi:P.underlying K=some (.interface ms)) (Ϝ:∀u,P.typeName? 3 u=some nm->u=A)
  (hp:P.underlying A=some (.pointer I)) (he:P.underlying I=some (.struct #[f])) (V:f.type=D) (ŝ:f.offset=0) (hs:P.underlying D=some .string) (R:P.cellsOf I=1) (Ϭ:P.cellsOf D=1) :
  ∃(a:Addr) (s:ByteArray),W.cell? ⟨g,0,none⟩=some (.iface A (.pointer (some a)))/\W.cell? a=some (.string s)/\s.data.toList=text/\Plain W a/\laidMet P r W:=by
 have o:=h.tail;obtain⟨ps,⟨g0,Q,G,f0,p0,q0,q,U,O,F,_,e0⟩,_,J⟩:=h;obtain rfl:=Option.some.inj (hg.symm.trans q);obtain rfl:=Option.some.inj (ht.symm.trans U);subst e0;obtain⟨l0⟩:=G;have H:∀u v,l0 = [.iface u v]->Value.okWide P W .any 0 u v:=λu v e=>by
  subst e;exact (J g 0 (by simp[MemPlace.row])).2 u v (by simpa using World.var?_cell q O 0)
 obtain⟨z,Z,rfl,ò,þ,î,rfl⟩:=errorString_of_trod hi Ϝ hp he V ŝ hs R Ϭ F H;obtain⟨Y,Q,Ø⟩:=(J z.block z.off (by simp[MemPlace.row])).1;exact⟨z,Z,by simpa using World.var?_cell q O 0,ò,þ,⟨Y,Q,Ø⟩,o⟩
def Vx:List (String×DataW Unit):=[("tidegauge/api.ErrText",Rows.laid_tidegauge_api_ErrText),("tidegauge/api.ErrBound",Rows.laid_tidegauge_api_ErrBound),("tidegauge/api.ErrShape",Rows.laid_tidegauge_api_ErrShape),("tidegauge/api.ErrName",Rows.laid_tidegauge_api_ErrName),("tidegauge/api.ErrNone",Rows.laid_tidegauge_api_ErrNone),("tidegauge/api.ErrExist",Rows.laid_tidegauge_api_ErrExist),("tidegauge/api.ErrFull",Rows.laid_tidegauge_api_ErrFull),("tidegauge/api.ErrOld",Rows.laid_tidegauge_api_ErrOld),("tidegauge/api.ErrSum",Rows.laid_tidegauge_api_ErrSum),("tidegauge/api.ErrOff",Rows.laid_tidegauge_api_ErrOff),("tidegauge/api.ErrKind",Rows.laid_tidegauge_api_ErrKind)]
theorem Na{W:World}(h:handlesMet prog [("errors.errorType",Rows.laid_errors_errorType)] W):W.cell? ⟨11,0,none⟩=some (.iface 169 (.agg #[.pointer (some ⟨26,25,none⟩)])):=by
 obtain⟨o,u,D,H,I,J,A,z⟩:=h _ (List.mem_singleton.2 rfl);have G:o = [101,114,114,111,114]:=(Option.some.inj H).symm;subst G;obtain rfl:=Option.some.inj (Tryz.rt.symm.trans I);have q:D∈(List.range 437).filter λt=>prog.rowNamed t [101,114,114,111,114]:=List.mem_filter.2 ⟨List.mem_range.2 (by rw[<-Tryz.tsize];exact J),A⟩
 rw[Tryz.oneRow] at q;obtain rfl:=List.mem_singleton.1 q;have F:typeHandle prog 25 = .pointer (some ⟨26,25,none⟩):=lG
 rw[F] at z;simpa using World.var?_cell Tryz.et z 0
def uN:Nat->List UInt8:=λi=>[[116,105,100,101,103,97,117,103,101,58,32,116,101,120,116],[116,105,100,101,103,97,117,103,101,58,32,98,111,117,110,100],[116,105,100,101,103,97,117,103,101,58,32,115,104,97,112,101],[116,105,100,101,103,97,117,103,101,58,32,110,97,109,101],[116,105,100,101,103,97,117,103,101,58,32,110,111,110,101],[116,105,100,101,103,97,117,103,101,58,32,101,120,105,115,116],[116,105,100,101,103,97,117,103,101,58,32,102,117,108,108],[116,105,100,101,103,97,117,103,101,58,32,111,108,100],[116,105,100,101,103,97,117,103,101,58,32,115,117,109],[116,105,100,101,103,97,117,103,101,58,32,111,102,102],[116,105,100,101,103,97,117,103,101,58,32,107,105,110,100]].getD i []
theorem OY:∀i,i<11->∀j,j<11->uN i=uN j->i=j:=by decide
theorem OZ{W:World}{r:List (String×DataW Unit)}(D:laidMet prog (Vx++r) W)(hH:handlesMet prog [("errors.errorType",Rows.laid_errors_errorType)] W):(∃ea,Env W.heap.size ea W/\∀i,i<11->∃s:ByteArray,W.cell? (ea i)=some (.string s)/\s.data.toList=uN i)/\laidMet prog r W:=by
 have ht:=Na hH;have hL:=D;clear hH D;obtain⟨z,s0,c0,d0,x0,p0,hL⟩:=gZ hL (g:=1) lG lG underlying25 Tryz.rowES underlying397 underlying399 rfl rfl underlying9 Tryz.cellsES Tryz.cellsStr;obtain⟨O,s1,c1,d1,x1,p1,hL⟩:=gZ hL (g:=0) lG lG underlying25 Tryz.rowES underlying397 underlying399 rfl rfl underlying9 Tryz.cellsES Tryz.cellsStr;obtain⟨H,s2,c2,d2,x2,p2,hL⟩:=gZ hL (g:=2) lG lG underlying25 Tryz.rowES underlying397 underlying399 rfl rfl underlying9 Tryz.cellsES Tryz.cellsStr;obtain⟨I,s3,c3,d3,x3,p3,hL⟩:=gZ hL (g:=3) lG lG underlying25 Tryz.rowES underlying397 underlying399 rfl rfl underlying9 Tryz.cellsES Tryz.cellsStr;obtain⟨U,s4,c4,d4,x4,p4,hL⟩:=gZ hL (g:=4) lG lG underlying25 Tryz.rowES underlying397 underlying399 rfl rfl underlying9 Tryz.cellsES Tryz.cellsStr;obtain⟨F,s5,c5,d5,x5,p5,hL⟩:=gZ hL (g:=5) lG lG underlying25 Tryz.rowES underlying397 underlying399 rfl rfl underlying9 Tryz.cellsES Tryz.cellsStr;obtain⟨a6,s6,c6,d6,x6,p6,hL⟩:=gZ hL (g:=6) lG lG underlying25 Tryz.rowES underlying397 underlying399 rfl rfl underlying9 Tryz.cellsES Tryz.cellsStr;obtain⟨Z,s7,c7,d7,x7,p7,hL⟩:=gZ hL (g:=7) lG lG underlying25 Tryz.rowES underlying397 underlying399 rfl rfl underlying9 Tryz.cellsES Tryz.cellsStr;obtain⟨R,s8,c8,d8,x8,p8,hL⟩:=gZ hL (g:=8) lG lG underlying25 Tryz.rowES underlying397 underlying399 rfl rfl underlying9 Tryz.cellsES Tryz.cellsStr;obtain⟨K,s9,c9,d9,x9,p9,hL⟩:=gZ hL (g:=9) lG lG underlying25 Tryz.rowES underlying397 underlying399 rfl rfl underlying9 Tryz.cellsES Tryz.cellsStr;obtain⟨q,Y,Q,d10,G,J,hr⟩:=gZ hL (g:=10) lG lG underlying25 Tryz.rowES underlying397 underlying399 rfl rfl underlying9 Tryz.cellsES Tryz.cellsStr;clear hL;have A:∀i,i<11->Plain W (([z,O,H,I,U,F,a6,Z,R,K,q]:List Addr).getD i z)/\∃s,W.cell? (([z,O,H,I,U,F,a6,Z,R,K,q]:List Addr).getD i z)=some (.string s)/\s.data.toList=uN i:=by
  intro i o;match i,o with
  | 0,_=>exact⟨p0,s0,d0,x0⟩
  | 1,_=>exact⟨p1,s1,d1,x1⟩
  | 2,_=>exact⟨p2,s2,d2,x2⟩
  | 3,_=>exact⟨p3,s3,d3,x3⟩
  | 4,_=>exact⟨p4,s4,d4,x4⟩
  | 5,_=>exact⟨p5,s5,d5,x5⟩
  | 6,_=>exact⟨p6,s6,d6,x6⟩
  | 7,_=>exact⟨p7,s7,d7,x7⟩
  | 8,_=>exact⟨p8,s8,d8,x8⟩
  | 9,_=>exact⟨p9,s9,d9,x9⟩
  | 10,_=>exact⟨J,Y,d10,G⟩
 have Ó:11<W.heap.size:=by
  rcases Nat.lt_or_ge 11 W.heap.size with h|h
  ·exact h
  ·exact absurd ht (by simp[World.cell?,Array.getElem?_eq_none h])
 refine⟨⟨λi=>([z,O,H,I,U,F,a6,Z,R,K,q]:List Addr).getD i z,⟨c0,c1,c2,c3,c4,c5,c6,c7,c8,c9,Q,ht,λi o=>(A i o).1,λi o=>(A i o).1.lt,λi j o hj e=>by
  obtain⟨_,s,hs,xs⟩:=A i o;obtain⟨_,t,V,xt⟩:=A j hj;rw[e,V] at hs;have est:t=s:=by simpa using hs
  subst est;exact OY i o j hj (xs.symm.trans xt),Ó⟩,λi o=>(A i o).2⟩,hr⟩
end Go.Proofs.YtnjmhjdhfaboaaaGreatDoor
