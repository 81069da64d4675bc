import Derived.Test.YtnonoiafongllaaGreatDoorRows
import Derived.Test.YtnonoiafongllaaGreatDoorC
import Derived.ProofKit
import Derived.LaidMore
import Derived.LaidSub
import Derived.Stop.Joined
import Derived.Stop.LaidErr
open Go.Proofs.Tryz
namespace Go.Proofs.YtnonoiafongllaaGreatDoor
open Go.ChangeShapes Go.WideShapes Go.ChangeAt Go.RowKit
theorem Tryz.own:ownKnob prog.godebug=none:=bH
theorem Tryz.et:prog.globalNamed "errors.errorType" = some 11:=bH
theorem Tryz.rt:(prog.cutTypes.find? (·.1 == "internal/reflectlite.rtype")).map (·.2)=some 192:=bH
theorem Tryz.oneRow:((List.range 266).filter λt=>prog.rowNamed t [101,114,114,111,114]) = [28]:=bH
theorem Tryz.tsize:prog.types.size=266:=bH
theorem Tryz.cellsES:prog.cellsOf 254=1:=bH
theorem Tryz.cellsStr:prog.cellsOf 9=1:=bH
theorem Tryz.rowES:∀u,prog.typeName? 3 u=some "*errors.errorString" -> u=235:=
 typeName_ptr_named (nm:= "errors.errorString") bH bH (by decide)
theorem iH{P:Program}{n nm:String}{H:List UInt8}{r:List (String×DataW Unit)}{W:World}{g:Nat}{ti tp Z ts:TypeId}{ms:Array (String×TypeId)}{f:Field}
  (h:laidMet P ((n,.iface nm (.ptr (.agg [.lit (.string H)])))::r) W)
  (hg:P.globalNamed n=some g) (ht:(P.globals[g]?).map (·.type)=some ti) (hi:P.underlying ti=some (.interface ms)) (ϰ:∀u,P.typeName? 3 u=some nm->u=tp)
  (hp:P.underlying tp=some (.pointer Z)) (he:P.underlying Z=some (.struct #[f])) (M:f.type=ts) (Ĥ:f.offset=0) (hs:P.underlying ts=some .string) (hc:P.cellsOf Z=1) (ϡ:P.cellsOf ts=1) :
  ∃(a:Addr) (s:ByteArray),W.cell? ⟨g,0,none⟩=some (.iface tp (.pointer (some a)))/\W.cell? a=some (.string s)/\s.data.toList=H/\Plain W a/\laidMet P r W:=by
 have Ō:=h.tail;obtain⟨ps,⟨g0,t0,cs0,f0,p0,q0,ô,ď,ñ,J,_,e0⟩,_,ō⟩:=h;obtain rfl:=Option.some.inj (hg.symm.trans ô);obtain rfl:=Option.some.inj (ht.symm.trans ď);subst e0;obtain⟨l0⟩:=cs0;have U:∀u v,l0 = [.iface u v]->Value.okWide P W .any 0 u v:=λu v e=>by
  subst e;exact (ō g 0 (by simp[MemPlace.row])).2 u v (by simpa using World.var?_cell ô ñ 0)
 obtain⟨I,s0,rfl,ì,ř,æ,rfl⟩:=errorString_of_trod hi ϰ hp he M Ĥ hs hc ϡ J U;obtain⟨c0,t0,ϵ⟩:=(ō I.block I.off (by simp[MemPlace.row])).1;exact⟨I,s0,by simpa using World.var?_cell ô ñ 0,ì,ř,⟨c0,t0,ϵ⟩,Ō⟩
def Kt:List (String×DataW Unit):=[("tidegauge/api.ErrText",Rows.laid_tidegauge_api_ErrText),("tidegauge/api.ErrBound",Rows.laid_tidegauge_api_ErrBound),("tidegauge/api.ErrShape",Rows.laid_tidegauge_api_ErrShape),("tidegauge/api.ErrName",Rows.laid_tidegauge_api_ErrName),("tidegauge/api.ErrNone",Rows.laid_tidegauge_api_ErrNone),("tidegauge/api.ErrExist",Rows.laid_tidegauge_api_ErrExist),("tidegauge/api.ErrFull",Rows.laid_tidegauge_api_ErrFull),("tidegauge/api.ErrOld",Rows.laid_tidegauge_api_ErrOld),("tidegauge/api.ErrSum",Rows.laid_tidegauge_api_ErrSum),("tidegauge/api.ErrOff",Rows.laid_tidegauge_api_ErrOff),("tidegauge/api.ErrKind",Rows.laid_tidegauge_api_ErrKind)]
theorem SI{W:World}(h:handlesMet prog [("errors.errorType",Rows.laid_errors_errorType)] W):W.cell? ⟨11,0,none⟩=some (.iface 192 (.agg #[.pointer (some ⟨14,28,none⟩)])):=by
 obtain⟨e,u,ty,J,M,U,Z,H⟩:=h _ (List.mem_singleton.2 rfl);have en:e = [101,114,114,111,114]:=(Option.some.inj J).symm;subst en;obtain rfl:=Option.some.inj (Tryz.rt.symm.trans M);have I:ty∈(List.range 266).filter λt=>prog.rowNamed t [101,114,114,111,114]:=List.mem_filter.2 ⟨List.mem_range.2 (by rw[<-Tryz.tsize];exact U),Z⟩
 rw[Tryz.oneRow] at I;obtain rfl:=List.mem_singleton.1 I;have hh:typeHandle prog 28 = .pointer (some ⟨14,28,none⟩):=bH
 rw[hh] at H;simpa using World.var?_cell Tryz.et H 0
def xg:Nat->List UInt8:=λi=>[[116,105,100,101,103,97,117,103,101,58,32,116,101,120,116],[116,105,100,101,103,97,117,103,101,58,32,98,111,117,110,100],[116,105,100,101,103,97,117,103,101,58,32,115,104,97,112,101],[116,105,100,101,103,97,117,103,101,58,32,110,97,109,101],[116,105,100,101,103,97,117,103,101,58,32,110,111,110,101],[116,105,100,101,103,97,117,103,101,58,32,101,120,105,115,116],[116,105,100,101,103,97,117,103,101,58,32,102,117,108,108],[116,105,100,101,103,97,117,103,101,58,32,111,108,100],[116,105,100,101,103,97,117,103,101,58,32,115,117,109],[116,105,100,101,103,97,117,103,101,58,32,111,102,102],[116,105,100,101,103,97,117,103,101,58,32,107,105,110,100]].getD i []
theorem J7:∀i,i<11->∀j,j<11->xg i=xg j->i=j:=by decide
theorem J8{W:World}{r:List (String×DataW Unit)}(ā:laidMet prog (Kt++r) W)(hH:handlesMet prog [("errors.errorType",Rows.laid_errors_errorType)] W):(∃ea,Env W.heap.size ea W/\∀i,i<11->∃s:ByteArray,W.cell? (ea i)=some (.string s)/\s.data.toList=xg i)/\laidMet prog r W:=by
 have ht:=SI hH;have hL:=ā;clear hH ā;obtain⟨J,s0,c0,d0,x0,p0,hL⟩:=iH hL (g:=0) bH bH underlying28 Tryz.rowES underlying235 underlying254 rfl rfl underlying9 Tryz.cellsES Tryz.cellsStr;obtain⟨U,s1,c1,d1,x1,p1,hL⟩:=iH hL (g:=3) bH bH underlying28 Tryz.rowES underlying235 underlying254 rfl rfl underlying9 Tryz.cellsES Tryz.cellsStr;obtain⟨Z,s2,c2,d2,x2,p2,hL⟩:=iH hL (g:=2) bH bH underlying28 Tryz.rowES underlying235 underlying254 rfl rfl underlying9 Tryz.cellsES Tryz.cellsStr;obtain⟨a3,s3,c3,d3,x3,p3,hL⟩:=iH hL (g:=4) bH bH underlying28 Tryz.rowES underlying235 underlying254 rfl rfl underlying9 Tryz.cellsES Tryz.cellsStr;obtain⟨a4,s4,c4,d4,x4,p4,hL⟩:=iH hL (g:=5) bH bH underlying28 Tryz.rowES underlying235 underlying254 rfl rfl underlying9 Tryz.cellsES Tryz.cellsStr;obtain⟨a5,s5,c5,d5,x5,p5,hL⟩:=iH hL (g:=6) bH bH underlying28 Tryz.rowES underlying235 underlying254 rfl rfl underlying9 Tryz.cellsES Tryz.cellsStr;obtain⟨a6,s6,c6,d6,x6,p6,hL⟩:=iH hL (g:=7) bH bH underlying28 Tryz.rowES underlying235 underlying254 rfl rfl underlying9 Tryz.cellsES Tryz.cellsStr;obtain⟨a7,s7,c7,d7,x7,p7,hL⟩:=iH hL (g:=8) bH bH underlying28 Tryz.rowES underlying235 underlying254 rfl rfl underlying9 Tryz.cellsES Tryz.cellsStr;obtain⟨a8,s8,c8,d8,x8,p8,hL⟩:=iH hL (g:=1) bH bH underlying28 Tryz.rowES underlying235 underlying254 rfl rfl underlying9 Tryz.cellsES Tryz.cellsStr;obtain⟨a9,s9,c9,d9,x9,p9,hL⟩:=iH hL (g:=9) bH bH underlying28 Tryz.rowES underlying235 underlying254 rfl rfl underlying9 Tryz.cellsES Tryz.cellsStr;obtain⟨I,s10,c10,d10,x10,p10,hr⟩:=iH hL (g:=10) bH bH underlying28 Tryz.rowES underlying235 underlying254 rfl rfl underlying9 Tryz.cellsES Tryz.cellsStr;clear hL;have M:∀i,i<11->Plain W (([J,U,Z,a3,a4,a5,a6,a7,a8,a9,I]:List Addr).getD i J)/\∃s,W.cell? (([J,U,Z,a3,a4,a5,a6,a7,a8,a9,I]:List Addr).getD i J)=some (.string s)/\s.data.toList=xg i:=by
  intro i H;match i,H with
  | 0,_=>exact⟨p0,s0,d0,x0⟩
  | 1,_=>exact⟨p1,s1,d1,x1⟩
  | 2,_=>exact⟨p2,s2,d2,x2⟩
  | 3,_=>exact⟨p3,s3,d3,x3⟩
  | 4,_=>exact⟨p4,s4,d4,x4⟩
  | 5,_=>exact⟨p5,s5,d5,x5⟩
  | 6,_=>exact⟨p6,s6,d6,x6⟩
  | 7,_=>exact⟨p7,s7,d7,x7⟩
  | 8,_=>exact⟨p8,s8,d8,x8⟩
  | 9,_=>exact⟨p9,s9,d9,x9⟩
  | 10,_=>exact⟨p10,s10,d10,x10⟩
 have ç:11<W.heap.size:=by
  rcases Nat.lt_or_ge 11 W.heap.size with h|h
  ·exact h
  ·exact absurd ht (by simp[World.cell?,Array.getElem?_eq_none h])
 refine⟨⟨λi=>([J,U,Z,a3,a4,a5,a6,a7,a8,a9,I]:List Addr).getD i J,⟨c0,c1,c2,c3,c4,c5,c6,c7,c8,c9,c10,ht,λi H=>(M i H).1,λi H=>(M i H).1.lt,λi j H hj e=>by
  obtain⟨_,s,hs,xs⟩:=M i H;obtain⟨_,t,hs',xt⟩:=M j hj;rw[e,hs'] at hs;have est:t=s:=by simpa using hs
  subst est;exact J7 i H j hj (xs.symm.trans xt),ç⟩,λi H=>(M i H).2⟩,hr⟩
