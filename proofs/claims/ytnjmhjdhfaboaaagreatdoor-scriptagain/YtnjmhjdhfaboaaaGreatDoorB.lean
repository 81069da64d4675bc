import Derived.Test.YtnjmhjdhfaboaaaGreatDoorRows
import Derived.Test.YtnjmhjdhfaboaaaGreatDoorA
import Derived.ProofKit
import Derived.LaidMore
import Derived.LaidSub
import Derived.Stop.Joined
import Derived.Stop.LaidErr
open Go.Proofs.Tryz
namespace Go.Proofs.YtnjmhjdhfaboaaaGreatDoor
open Go.ChangeShapes Go.WideShapes Go.ChangeAt Go.RowKit
theorem Tryz.own:ownKnob prog.godebug=none:=iX
theorem Tryz.et:prog.globalNamed "errors.errorType" = some 11:=iX
theorem Tryz.rt:(prog.cutTypes.find? (·.1 == "internal/reflectlite.rtype")).map (·.2)=some 169:=iX
theorem Tryz.oneRow:((List.range 437).filter λt=>prog.rowNamed t [101,114,114,111,114]) = [25]:=iX
theorem Tryz.tsize:prog.types.size=437:=iX
theorem Tryz.cellsES:prog.cellsOf 399=1:=iX
theorem Tryz.cellsStr:prog.cellsOf 9=1:=iX
theorem Tryz.rowES:∀u,prog.typeName? 3 u=some "*errors.errorString" -> u=397:=
 typeName_ptr_named (nm:= "errors.errorString") iX iX (by decide)
theorem iY{P:Program}{n nm:String}{text:List UInt8}{r:List (String×DataW Unit)}{W:World}{g:Nat}{K G F H:TypeId}{ms:Array (String×TypeId)}{f:Field}
  (h:laidMet P ((n,.iface nm (.ptr (.agg [.lit (.string text)])))::r) W)
  (Z:P.globalNamed n=some g) (ht:(P.globals[g]?).map (·.type)=some K) (hi:P.underlying K=some (.interface ms)) (ϟ:∀u,P.typeName? 3 u=some nm->u=G)
  (hp:P.underlying G=some (.pointer F)) (Y:P.underlying F=some (.struct #[f])) (A:f.type=H) (ť:f.offset=0) (hs:P.underlying H=some .string) (V:P.cellsOf F=1) (ϥ:P.cellsOf H=1) :
  ∃(a:Addr) (s:ByteArray),W.cell? ⟨g,0,none⟩=some (.iface G (.pointer (some a)))/\W.cell? a=some (.string s)/\s.data.toList=text/\Plain W a/\laidMet P r W:=by
 have j:=h.tail;obtain⟨ps,⟨g0,J,q,f0,p0,q0,I,ě,O,z,_,U⟩,_,Q⟩:=h;obtain rfl:=Option.some.inj (Z.symm.trans I);obtain rfl:=Option.some.inj (ht.symm.trans ě);subst U;obtain⟨l0⟩:=q;have D:∀u v,l0 = [.iface u v]->Value.okWide P W .any 0 u v:=λu v e=>by
  subst e;exact (Q g 0 (by simp[MemPlace.row])).2 u v (by simpa using World.var?_cell I O 0)
 obtain⟨o,s0,rfl,þ,ă,ò,rfl⟩:=errorString_of_trod hi ϟ hp Y A ť hs V ϥ z D;obtain⟨R,J,Ï⟩:=(Q o.block o.off (by simp[MemPlace.row])).1;exact⟨o,s0,by simpa using World.var?_cell I O 0,þ,ă,⟨R,J,Ï⟩,j⟩
theorem YM{W:World}(h:handlesMet prog [("errors.errorType",Rows.laid_errors_errorType)] W):W.cell? ⟨11,0,none⟩=some (.iface 169 (.agg #[.pointer (some ⟨26,25,none⟩)])):=by
 obtain⟨j,u,I,z,A,D,F,o⟩:=h _ (List.mem_singleton.2 rfl);have G:j = [101,114,114,111,114]:=(Option.some.inj z).symm;subst G;obtain rfl:=Option.some.inj (Tryz.rt.symm.trans A);have q:I∈(List.range 437).filter λt=>prog.rowNamed t [101,114,114,111,114]:=List.mem_filter.2 ⟨List.mem_range.2 (by rw[<-Tryz.tsize];exact D),F⟩
 rw[Tryz.oneRow] at q;obtain rfl:=List.mem_singleton.1 q;have H:typeHandle prog 25 = .pointer (some ⟨26,25,none⟩):=iX
 rw[H] at o;simpa using World.var?_cell Tryz.et o 0
