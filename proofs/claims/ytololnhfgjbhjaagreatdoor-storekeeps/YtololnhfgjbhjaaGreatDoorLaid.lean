import Derived.Test.YtololnhfgjbhjaaGreatDoorRows
import Derived.Test.YtololnhfgjbhjaaGreatDoorErrAsGroup
import Derived.ProofKit
import Derived.LaidMore
import Derived.LaidSub
import Derived.Stop.Joined
import Derived.Stop.LaidErr
open Go.Proofs.Tryz
namespace Go.Proofs.YtololnhfgjbhjaaGreatDoor
open Go.ChangeShapes Go.WideShapes Go.ChangeAt Go.RowKit
theorem Tryz.own:ownKnob prog.godebug=none:=by kernel_rfl
theorem Tryz.et:prog.globalNamed "errors.errorType" = some 11:=by kernel_rfl
theorem Tryz.rt:(prog.cutTypes.find? (·.1 == "internal/reflectlite.rtype")).map (·.2)=some 244:=by kernel_rfl
theorem Tryz.oneRow:((List.range 382).filter λt=>prog.rowNamed t [101,114,114,111,114]) = [26]:=by kernel_rfl
theorem Tryz.tsize:prog.types.size=382:=by kernel_rfl
theorem Tryz.cellsES:prog.cellsOf 354=1:=by kernel_rfl
theorem Tryz.cellsStr:prog.cellsOf 9=1:=by kernel_rfl
theorem Tryz.rowES:∀u,prog.typeName? 3 u=some "*errors.errorString" -> u=352:=
 typeName_ptr_named (nm:= "errors.errorString") (by kernel_rfl) (by kernel_rfl) (by decide)
theorem jA{P:Program}{n nm:String}{text:List UInt8}{r:List (String×DataW Unit)}{W:World}{g:Nat}{ti tp te ts:TypeId}{ms:Array (String×TypeId)}{f:Field}
  (h:laidMet P ((n,.iface nm (.ptr (.agg [.lit (.string text)])))::r) W)
  (hg:P.globalNamed n=some g) (ht:(P.globals[g]?).map (·.type)=some ti) (hi:P.underlying ti=some (.interface ms)) (ϔ:∀u,P.typeName? 3 u=some nm->u=tp)
  (hp:P.underlying tp=some (.pointer te)) (he:P.underlying te=some (.struct #[f])) (φ:f.type=ts) (þ:f.offset=0) (hs:P.underlying ts=some .string) (hc:P.cellsOf te=1) (Ϥ:P.cellsOf ts=1) :
  ∃(a:Addr) (s:ByteArray),W.cell? ⟨g,0,none⟩=some (.iface tp (.pointer (some a)))/\W.cell? a=some (.string s)/\s.data.toList=text/\Plain W a/\laidMet P r W:=by
 have htail:=h.tail;obtain⟨ps,⟨g0,t0,cs0,f0,p0,q0,ļ,Č,Â,hd0,_,e0⟩,_,hrows⟩:=h;obtain rfl:=Option.some.inj (hg.symm.trans ļ);obtain rfl:=Option.some.inj (ht.symm.trans Č);subst e0;obtain⟨l0⟩:=cs0;have ok0:∀u v,l0 = [.iface u v]->Value.okWide P W .any 0 u v:=λu v e=>by
  subst e;exact (hrows g 0 (by simp[MemPlace.row])).2 u v (by simpa using World.var?_cell ļ Â 0)
 obtain⟨a0,s0,rfl,ô,Ć,ğ,rfl⟩:=errorString_of_trod hi ϔ hp he φ þ hs hc Ϥ hd0 ok0;obtain⟨c0,t0,Þ⟩:=(hrows a0.block a0.off (by simp[MemPlace.row])).1;exact⟨a0,s0,by simpa using World.var?_cell ļ Â 0,ô,Ć,⟨c0,t0,Þ⟩,htail⟩
theorem Ws{W:World}(h:handlesMet prog [("errors.errorType",Rows.laid_errors_errorType)] W):W.cell? ⟨11,0,none⟩=some (.iface 244 (.agg #[.pointer (some ⟨19,26,none⟩)])):=by
 obtain⟨name,u,ty,e1,e2,e3,e4,e5⟩:=h _ (List.mem_singleton.2 rfl);have en:name = [101,114,114,111,114]:=(Option.some.inj e1).symm;subst en;obtain rfl:=Option.some.inj (Tryz.rt.symm.trans e2);have hm:ty∈(List.range 382).filter λt=>prog.rowNamed t [101,114,114,111,114]:=List.mem_filter.2 ⟨List.mem_range.2 (by rw[<-Tryz.tsize];exact e3),e4⟩
 rw[Tryz.oneRow] at hm;obtain rfl:=List.mem_singleton.1 hm;have hh:typeHandle prog 26 = .pointer (some ⟨19,26,none⟩):=by kernel_rfl
 rw[hh] at e5;simpa using World.var?_cell Tryz.et e5 0
end Go.Proofs.YtololnhfgjbhjaaGreatDoor
