import Derived.Test.YtnonoiafongllaaGreatDoorProg
import Derived.WalkKit
import Derived.Stop.Asserts
import Derived.RowKitTokens
set_option maxHeartbeats 1000000
open Nat (le_refl lt_of_lt_of_le lt_or_ge zero_le)
open Go.Proofs.Tryz
theorem dY{p:Prop}(h:p:=by simp):p:=h
theorem bY{p:Prop}(h:p:=by simp;omega):p:=h
theorem bH{p:Prop}(h:p:=by kernel_rfl):p:=h
theorem aV{p:Prop}(h:p:=by omega):p:=h
theorem ak{A:Type}(a:A):∃x,x=a:=⟨a,rfl⟩
namespace Go.Proofs.YtnonoiafongllaaGreatDoor
open Go.RowKit Go.Extern.Stop Go.Stop Go.Extern
theorem aaK(t:Value)(w:World):
  Calls prog 44 #[.nilIface,t] w λe w'=>e = .returned (.bool false)/\w'=w:=by
 go_enter func44,ntmps44;go_wp2;go_ret;exact⟨rfl,rfl⟩
theorem Tryz.valueOfPP(t:Addr)(w:World):(ReflectliteValue.unpack (.iface 79 (.pointer (some t)))).run prog w
  = .ok (.agg #[.pointer (some ⟨14,79,none⟩),.pointer (some ⟨w.heap.size,0,none⟩),.int .u64 150]) (w.alloc (.cells #[.pointer (some t)] 79)):=bH
theorem Tryz.typePP(a:Addr)(w:World):(ReflectliteValue.methodAny (ReflectliteValue.valueError "reflectlite.Value.Type" 0) (λt _ _ _=>ReflectliteType.toType t) #[.agg #[.pointer (some ⟨14,79,none⟩),.pointer (some a),.int .u64 150]]).run prog w
  = .ok (.iface 192 (.agg #[.pointer (some ⟨14,79,none⟩)])) w:=bH
theorem Tryz.methodKind(h:Value)(w:World):(Go.method 366 192 (.agg #[h]) "Kind").run prog w = .ok (154,h) w:=bH
theorem Tryz.kindPP(w:World):((ReflectliteType.abiMethod λt=>(λa:Nat=>Value.int IntKind.u8 (a:Int)) <$> Rtype.kind t) #[.pointer (some ⟨14,79,none⟩)]).run prog w = .ok (.int .u8 22) w:=bH
theorem Tryz.kindP(w:World):((ReflectliteType.abiMethod λt=>(λa:Nat=>Value.int IntKind.u8 (a:Int)) <$> Rtype.kind t) #[.pointer (some ⟨14,77,none⟩)]).run prog w = .ok (.int .u8 22) w:=bH
theorem rlm(z:Sem Value)(f:TypeId->Addr->Nat->Nat->Sem Value)(v:Value):
  ReflectliteValue.method z f #[v]=(do match <-ReflectliteValue.parts v with|none=>z|some (t,a,fl)=>f t a fl (fl % 32)):=rfl
theorem Tryz.partsPP(a:Addr)(w:World):(ReflectliteValue.parts (.agg #[.pointer (some ⟨14,79,none⟩),.pointer (some a),.int .u64 150])).run prog w = .ok (some (79,a,150)) w:=bH
theorem Tryz.isNilPP(a p:Addr)(W:World)(e:W.cell? a=some (.pointer (some p))):
  (ReflectliteValue.method (ReflectliteValue.valueError "reflectlite.Value.IsNil" 0) ReflectliteValue.isNil #[.agg #[.pointer (some ⟨14,79,none⟩),.pointer (some a),.int .u64 150]]).run prog W = .ok (.bool false) W:=by
 rw[rlm];simp only[Sem.run_bind,Tryz.partsPP,Result.andThen];simp[ReflectliteValue.isNil,loadVar,isAgg,underlying,underlying79,e,Result.andThen]
theorem Tryz.methodElem(h:Value)(w:World):(Go.method 366 192 (.agg #[h]) "Elem").run prog w = .ok (165,.agg #[h]) w:=bH
theorem Tryz.methodImplements(h:Value)(w:World):(Go.method 366 192 (.agg #[h]) "Implements").run prog w = .ok (166,.agg #[h]) w:=bH
theorem Tryz.methodAssignableTo(h:Value)(w:World):(Go.method 366 192 (.agg #[h]) "AssignableTo").run prog w = .ok (163,.agg #[h]) w:=bH
theorem Tryz.elemPP(w:World):(ReflectliteType.method ReflectliteType.elem #[.agg #[.pointer (some ⟨14,79,none⟩)]]).run prog w = .ok (.iface 192 (.agg #[.pointer (some ⟨14,77,none⟩)])) w:=bH
theorem Tryz.implementsP(w:World):(ReflectliteType.relation "Implements" ReflectliteType.implements_ #[.agg #[.pointer (some ⟨14,77,none⟩)],.iface 192 (.agg #[.pointer (some ⟨14,28,none⟩)])]).run prog w = .ok (.bool true) w:=bH
theorem Tryz.typeOfP(v:Value)(w:World):(ReflectliteType.typeOf #[.iface 77 v]).run prog w = .ok (.iface 192 (.agg #[.pointer (some ⟨14,77,none⟩)])) w:=bH
theorem Tryz.typeOfE(v:Value)(w:World):(ReflectliteType.typeOf #[.iface 235 v]).run prog w = .ok (.iface 192 (.agg #[.pointer (some ⟨14,235,none⟩)])) w:=bH
theorem Tryz.assignableP(w:World):(ReflectliteType.relation "AssignableTo" ReflectliteType.assignableTo #[.agg #[.pointer (some ⟨14,77,none⟩)],.iface 192 (.agg #[.pointer (some ⟨14,77,none⟩)])]).run prog w = .ok (.bool true) w:=bH
theorem Tryz.assignableE(w:World):(ReflectliteType.relation "AssignableTo" ReflectliteType.assignableTo #[.agg #[.pointer (some ⟨14,235,none⟩)],.iface 192 (.agg #[.pointer (some ⟨14,77,none⟩)])]).run prog w = .ok (.bool false) w:=bH
theorem Tryz.valueOfP(e:Addr)(w:World):(ReflectliteValue.unpack (.iface 77 (.pointer (some e)))).run prog w
  = .ok (.agg #[.pointer (some ⟨14,77,none⟩),.pointer (some ⟨w.heap.size,0,none⟩),.int .u64 150]) (w.alloc (.cells #[.pointer (some e)] 77)):=bH
theorem Tryz.elemOfPP(w:World):(Rtype.elem? 79).run prog w = .ok (some 77) w:=bH
theorem Tryz.mkP(p:Addr)(w:World):(ReflectliteValue.mk 77 p ReflectliteValue.flagAddr).run prog w = .ok (.agg #[.pointer (some ⟨14,77,none⟩),.pointer (some p),.int .u64 406]) w:=bH
theorem Tryz.elemVPP(a p:Addr)(W:World)(e:W.cell? a=some (.pointer (some p))):
  (ReflectliteValue.method (ReflectliteValue.valueError "reflectlite.Value.Elem" 0) ReflectliteValue.elem #[.agg #[.pointer (some ⟨14,79,none⟩),.pointer (some a),.int .u64 150]]).run prog W
   = .ok (.agg #[.pointer (some ⟨14,77,none⟩),.pointer (some p),.int .u64 406]) W:=by
 rw[rlm];simp only[Sem.run_bind,Tryz.partsPP,Result.andThen];simp[ReflectliteValue.elem,loadVar,isAgg,underlying,underlying79,e,Result.andThen,Tryz.elemOfPP,Tryz.mkP]
theorem rls(v x:Value):ReflectliteValue.set #[v,x]=(do
  let (some (dst,a,fl),some (src,b,_)):=(<-ReflectliteValue.parts v,<-ReflectliteValue.parts x)
   | unsupported (.noEntry "extern/(internal/reflectlite.Value).Set.zeroValue")
  if fl / ReflectliteValue.flagAddr % 2==0 then unsupported (.noEntry "extern/(internal/reflectlite.Value).Set.unaddressable")
  let val <-loadVar src b
  if <-Rtype.directlyAssignable dst src then storeVar dst a val
  else if <-Rtype.implements dst src then
   if (<-Rtype.kind src)==20 then
    match val with
    | .nilIface=>unsupported (.noEntry "extern/reflectlite: a nil value of one interface type handed on as a value of another")
    | _=>storeVar dst a val
   else storeVar dst a (.iface src val)
  else panicString ("reflectlite.Set: value of type " ++ (<-Rtype.spelt src) ++ " is not assignable to type " ++ (<-Rtype.spelt dst))
  pure (.tuple #[])):=rfl
theorem Tryz.partsPa(a:Addr)(w:World):(ReflectliteValue.parts (.agg #[.pointer (some ⟨14,77,none⟩),.pointer (some a),.int .u64 406])).run prog w = .ok (some (77,a,406)) w:=bH
theorem Tryz.partsP(a:Addr)(w:World):(ReflectliteValue.parts (.agg #[.pointer (some ⟨14,77,none⟩),.pointer (some a),.int .u64 150])).run prog w = .ok (some (77,a,150)) w:=bH
theorem Tryz.directP(w:World):(Rtype.directlyAssignable 77 77).run prog w = .ok true w:=bH
theorem Tryz.setP(H b e:Addr)(I:Value)(W:World)(J:W.cell? b=some (.pointer (some e)))(U:W.cell? H=some I)(M:W.frozen? H=false):
  (ReflectliteValue.set #[.agg #[.pointer (some ⟨14,77,none⟩),.pointer (some H),.int .u64 406],.agg #[.pointer (some ⟨14,77,none⟩),.pointer (some b),.int .u64 150]]).run prog W
   = .ok (.tuple #[]) (W.setCell H (.pointer (some e))):=by
 rw[rls];simp only[Sem.run_bind,Tryz.partsPa,Tryz.partsP,Result.andThen];simp[ReflectliteValue.flagAddr,loadVar,isAgg,underlying,underlying77,J,Result.andThen,Tryz.directP,storeVar,Value.cells,storeCells,Addr.add];rw[run_store prog W H _ _ (by rfl)];simp[U,M]
theorem Tryz.noAsE(v:Value)(e:TypeId)(w:World):(Instr.typeAssert (.iface 235 v) e 196 true).run prog w = .ok (.tuple #[.nilIface,.bool false]) w:=run_typeAssert_lacksB underlying196 bH bH v e w
theorem Tryz.noIsE(v:Value)(e:TypeId)(w:World):(Instr.typeAssert (.iface 235 v) e 203 true).run prog w = .ok (.tuple #[.nilIface,.bool false]) w:=run_typeAssert_lacksB underlying203 bH bH v e w
theorem Tryz.noUnwrapE(v:Value)(e:TypeId)(w:World):(Instr.typeAssert (.iface 235 v) e 199 true).run prog w = .ok (.tuple #[.nilIface,.bool false]) w:=run_typeAssert_lacksB underlying199 bH bH v e w
theorem Tryz.noUnwrapsE(v:Value)(e:TypeId)(w:World):(Instr.typeAssert (.iface 235 v) e 201 true).run prog w = .ok (.tuple #[.nilIface,.bool false]) w:=run_typeAssert_lacksB underlying201 bH bH v e w
theorem Tryz.noIsF(v:Value)(e:TypeId)(w:World):(Instr.typeAssert (.iface 77 v) e 203 true).run prog w = .ok (.tuple #[.nilIface,.bool false]) w:=run_typeAssert_lacksB underlying203 bH bH v e w
theorem Tryz.hasUnwrapF(v:Value)(e:TypeId)(w:World):(Instr.typeAssert (.iface 77 v) e 199 true).run prog w = .ok (.tuple #[.iface 77 v,.bool true]) w:=run_typeAssert_hasB underlying199 bH v e w
theorem Tryz.methodUnwrap(v:Value)(w:World):(Go.method 366 77 v "Unwrap").run prog w = .ok (158,v) w:=bH
theorem OD(p t:Addr)(w:World)(e:w.cell? ⟨11,0,none⟩=some (.iface 192 (.agg #[.pointer (some ⟨14,28,none⟩)]))):
  Calls prog 44 #[.iface 235 (.pointer (some p)),.iface 79 (.pointer (some t))] w λI w'=>I = .returned (.bool false)/\Below w.heap.size w w':=by
 have h6:=@run_callFunc_extern prog 69 _ (λargs=>ReflectliteValue.unpack (args.getD 0 (.tuple #[]))) func69 bH bH bH bH;have h7:=@run_callFunc_extern prog 70 _ (ReflectliteValue.methodAny (ReflectliteValue.valueError "reflectlite.Value.Type" 0) (λt _ _ _=>ReflectliteType.toType t)) func70 bH bH bH bH;have h8:=@run_callFunc_extern prog 71 _ (ReflectliteValue.method (ReflectliteValue.valueError "reflectlite.Value.IsNil" 0) ReflectliteValue.isNil) func71 bH bH bH bH;have M:=@run_callFunc_extern prog 154 _ (ReflectliteType.abiMethod λt=>do pure (.int .u8 (<-Rtype.kind t))) func154 bH bH bH bH;have Z:=@run_callFunc_extern prog 165 _ (ReflectliteType.method ReflectliteType.elem) func165 bH bH bH bH;have h38:=@run_callFunc_extern prog 166 _ (ReflectliteType.relation "Implements" ReflectliteType.implements_) func166 bH bH bH bH;have J:=@run_callFunc_extern prog 73 _ ReflectliteType.typeOf func73 bH bH bH bH;have U:=@run_callFunc_extern prog 163 _ (ReflectliteType.relation "AssignableTo" ReflectliteType.assignableTo) func163 bH bH bH bH;have tO:=Tryz.typeOfE;have mA:=Tryz.methodAssignableTo;have aE:=Tryz.assignableE;have f6:=Tryz.valueOfPP;have f7:=Tryz.typePP;have mK:=Tryz.methodKind;have mE:=Tryz.methodElem;have mI:=Tryz.methodImplements;have kPP:=Tryz.kindPP;have kP:=Tryz.kindP;have H:=Tryz.elemPP;have iP:=Tryz.implementsP;have nA:=Tryz.noAsE;have nU:=Tryz.noUnwrapE;have nV:=Tryz.noUnwrapsE;have n8:=Tryz.isNilPP ⟨w.heap.size,0,none⟩ t ((w.alloc (.cells #[.pointer (some t)] 79)).alloc (.cells #[.pointer (some ⟨14,79,none⟩),.pointer (some ⟨w.heap.size,0,none⟩),.int .u64 150] 128)) dY;have ύ:11<w.heap.size:=by
  rcases lt_or_ge 11 w.heap.size with h|h
  ·exact h
  ·simp[World.cell?,Array.getElem?_eq_none h] at e
 have Ď:((w.alloc (.cells #[.pointer (some t)] 79)).alloc (.cells #[.pointer (some ⟨14,79,none⟩),.pointer (some ⟨w.heap.size,0,none⟩),.int .u64 150] 128)).cell? ⟨11,0,none⟩=some (.iface 192 (.agg #[.pointer (some ⟨14,28,none⟩)])):=by
  rw[World.cell?_alloc_lt _ _ ⟨11,0,none⟩ bY,World.cell?_alloc_lt _ _ ⟨11,0,none⟩ ύ];exact e
 go_enter func44,ntmps44;go_wp2;refine wp_loop_rounds 1 ?_;rw[rounds_succ];go_wp2;go_ret;exact⟨rfl,(((Below.refl _ _).alloc (le_refl _) _).alloc dY _).alloc bY _⟩
def sZ:Array Value->Sem Value:=Extern.ReflectliteType.method λt=>do Rtype.noPackHeld "Comparable" t;pure (.bool (<-typeInfo t).comparable)
theorem Tryz.isComparable(w:World):(sZ #[.agg #[.pointer (some ⟨14,235,none⟩)]]).run prog w = .ok (.bool true) w:=bH
theorem Tryz.isMethodComparable(v:Value)(w:World):(Go.method 366 192 v "Comparable").run prog w = .ok (164,v) w:=bH
theorem Tryz.isComp:(prog.info? 235).map (·.comparable)=some true:=bH
theorem Tryz.isSize:(prog.info? 254).map (·.size)=some 1:=bH
theorem Zj(a:Addr)(w:World):
  Calls prog 45 #[.iface 235 (.pointer (some a)),.iface 235 (.pointer (some a))] w λe w'=>e = .returned (.bool true)/\w'=w:=by
 obtain⟨i,I,U⟩:=Option.map_eq_some_iff.1 Tryz.isComp;obtain⟨j,J,M⟩:=Option.map_eq_some_iff.1 Tryz.isSize;have h8:=@run_callFunc_extern prog 73 _ Extern.ReflectliteType.typeOf func73 bH bH bH bH;have H:=@run_callFunc_extern prog 164 _ sZ func164 bH bH bH bH;have tT:=Tryz.typeOfE;have Z:=Tryz.isComparable;have mR:=Tryz.isMethodComparable;have Â:=run_eql_iface_ptr_same (P:=prog) w a underlying28 underlying235 I U J;go_enter func45,ntmps45;go_wp2;refine wp_loop_rounds 1 ?_;rw[rounds_succ];go_wp2;go_ret;exact⟨rfl,rfl⟩
theorem VG(a b:Addr)(I J:Array Value)(ta tb:TypeId)(w:World)(ϝ:a≠b)(U:w.heap[a.block]? = some (.cells I ta (0,0)))(Z:w.heap[b.block]? = some (.cells J tb (0,0))):
  Calls prog 45 #[.iface 235 (.pointer (some a)),.iface 235 (.pointer (some b))] w λe w'=>e = .returned (.bool false)/\w'=w:=by
 obtain⟨i,hi,ÿ⟩:=Option.map_eq_some_iff.1 Tryz.isComp;obtain⟨j,hj,H⟩:=Option.map_eq_some_iff.1 Tryz.isSize;have h8:=@run_callFunc_extern prog 73 _ Extern.ReflectliteType.typeOf func73 bH bH bH bH;have M:=@run_callFunc_extern prog 164 _ sZ func164 bH bH bH bH;have tT:=Tryz.typeOfE;have cT:=Tryz.isComparable;have mR:=Tryz.isMethodComparable;have nE:=Tryz.noIsE;have uE:=Tryz.noUnwrapE;have vE:=Tryz.noUnwrapsE;have Â:=run_eql_iface_ptr_other (P:=prog) w underlying28 underlying235 hi ÿ hj (by rw[H];decide) ϝ U Z;go_enter func45,ntmps45;go_wp2;refine wp_loop_rounds 1 ?_;rw[rounds_succ];go_wp2;go_ret;exact⟨rfl,rfl⟩
theorem J6(H po:Nat)(b:Addr)(w:World)(h1:w.cell? ⟨H,po+1,none⟩=some (.iface 235 (.pointer (some b)))):
  Calls prog 45 #[.iface 77 (.pointer (some ⟨H,po,none⟩)),.iface 235 (.pointer (some b))] w λe w'=>e = .returned (.bool true)/\w'=w:=by
 obtain⟨i,J,ÿ⟩:=Option.map_eq_some_iff.1 Tryz.isComp;obtain⟨j,M,U⟩:=Option.map_eq_some_iff.1 Tryz.isSize;have h8:=@run_callFunc_extern prog 73 _ Extern.ReflectliteType.typeOf func73 bH bH bH bH;have I:=@run_callFunc_extern prog 164 _ sZ func164 bH bH bH bH;have tT:=Tryz.typeOfE;have cT:=Tryz.isComparable;have mR:=Tryz.isMethodComparable;have nW:=Tryz.noIsF;have uW:=Tryz.hasUnwrapF;have mU:=Tryz.methodUnwrap;have Â:=run_eql_iface_ptr_same (P:=prog) w b underlying28 underlying235 J ÿ M;have Z:=run_eql_iface_types (P:=prog) 77 235 (.pointer (some ⟨H,po,none⟩)) (.pointer (some b)) underlying28 (by decide) w;go_enter func45,ntmps45;go_wp2;refine wp_loop_rounds 2 ?_;rw[rounds_succ];go_wp2;rw[rounds_succ];go_wp2;go_ret;exact⟨rfl,rfl⟩
theorem Hz(I po:Nat)(b a:Addr)(J M:Array Value)(ta tb:TypeId)(w:World)(h1:w.cell? ⟨I,po+1,none⟩=some (.iface 235 (.pointer (some a))))(ϝ:a≠b)(Z:w.heap[a.block]? = some (.cells J ta (0,0)))(hb:w.heap[b.block]? = some (.cells M tb (0,0))):
  Calls prog 45 #[.iface 77 (.pointer (some ⟨I,po,none⟩)),.iface 235 (.pointer (some b))] w λe w'=>e = .returned (.bool false)/\w'=w:=by
 obtain⟨i,hi,ÿ⟩:=Option.map_eq_some_iff.1 Tryz.isComp;obtain⟨j,hj,H⟩:=Option.map_eq_some_iff.1 Tryz.isSize;have h8:=@run_callFunc_extern prog 73 _ Extern.ReflectliteType.typeOf func73 bH bH bH bH;have U:=@run_callFunc_extern prog 164 _ sZ func164 bH bH bH bH;have tT:=Tryz.typeOfE;have cT:=Tryz.isComparable;have mR:=Tryz.isMethodComparable;have nE:=Tryz.noIsE;have uE:=Tryz.noUnwrapE;have vE:=Tryz.noUnwrapsE;have nW:=Tryz.noIsF;have uW:=Tryz.hasUnwrapF;have mU:=Tryz.methodUnwrap;have Â:=run_eql_iface_ptr_other (P:=prog) w underlying28 underlying235 hi ÿ hj (by rw[H];decide) ϝ Z hb;have hty:=run_eql_iface_types (P:=prog) 77 235 (.pointer (some ⟨I,po,none⟩)) (.pointer (some b)) underlying28 (by decide) w;go_enter func45,ntmps45;go_wp2;refine wp_loop_rounds 2 ?_;rw[rounds_succ];go_wp2;rw[rounds_succ];go_wp2;go_ret;exact⟨rfl,rfl⟩
theorem KV(e t:Addr)(I:Value)(w:World)(J:w.cell? ⟨11,0,none⟩=some (.iface 192 (.agg #[.pointer (some ⟨14,28,none⟩)])))(M:w.cell? t=some I)(ŧ:w.frozen? t=false):
  Calls prog 44 #[.iface 77 (.pointer (some e)),.iface 79 (.pointer (some t))] w λZ w'=>Z = .returned (.bool true)/\w'=((((w.alloc (.cells #[.pointer (some t)] 79)).alloc (.cells #[.pointer (some ⟨14,79,none⟩),.pointer (some ⟨w.heap.size,0,none⟩),.int .u64 150] 128)).alloc (.cells #[.pointer (some ⟨14,79,none⟩),.pointer (some ⟨w.heap.size,0,none⟩),.int .u64 150] 128)).alloc (.cells #[.pointer (some e)] 77)).setCell t (.pointer (some e)):=by
 have h6:=@run_callFunc_extern prog 69 _ (λargs=>ReflectliteValue.unpack (args.getD 0 (.tuple #[]))) func69 bH bH bH bH;have h7:=@run_callFunc_extern prog 70 _ (ReflectliteValue.methodAny (ReflectliteValue.valueError "reflectlite.Value.Type" 0) (λt _ _ _=>ReflectliteType.toType t)) func70 bH bH bH bH;have h8:=@run_callFunc_extern prog 71 _ (ReflectliteValue.method (ReflectliteValue.valueError "reflectlite.Value.IsNil" 0) ReflectliteValue.isNil) func71 bH bH bH bH;have h27:=@run_callFunc_extern prog 154 _ (ReflectliteType.abiMethod λt=>do pure (.int .u8 (<-Rtype.kind t))) func154 bH bH bH bH;have h37:=@run_callFunc_extern prog 165 _ (ReflectliteType.method ReflectliteType.elem) func165 bH bH bH bH;have h38:=@run_callFunc_extern prog 166 _ (ReflectliteType.relation "Implements" ReflectliteType.implements_) func166 bH bH bH bH;have h10:=@run_callFunc_extern prog 73 _ ReflectliteType.typeOf func73 bH bH bH bH;have h35:=@run_callFunc_extern prog 163 _ (ReflectliteType.relation "AssignableTo" ReflectliteType.assignableTo) func163 bH bH bH bH;have h11:=@run_callFunc_extern prog 112 _ (ReflectliteValue.method (ReflectliteValue.valueError "reflectlite.Value.Elem" 0) ReflectliteValue.elem) func112 bH bH bH bH;have h12:=@run_callFunc_extern prog 113 _ ReflectliteValue.set func113 bH bH bH bH;have tO:=Tryz.typeOfP;have mA:=Tryz.methodAssignableTo;have aP:=Tryz.assignableP;have vP:=Tryz.valueOfP;have f6:=Tryz.valueOfPP;have f7:=Tryz.typePP;have mK:=Tryz.methodKind;have mE:=Tryz.methodElem;have mI:=Tryz.methodImplements;have kPP:=Tryz.kindPP;have kP:=Tryz.kindP;have U:=Tryz.elemPP;have iP:=Tryz.implementsP;have n8:=Tryz.isNilPP ⟨w.heap.size,0,none⟩ t ((w.alloc (.cells #[.pointer (some t)] 79)).alloc (.cells #[.pointer (some ⟨14,79,none⟩),.pointer (some ⟨w.heap.size,0,none⟩),.int .u64 150] 128)) dY;have ύ:11<w.heap.size:=by
  rcases lt_or_ge 11 w.heap.size with h|h
  ·exact h
  ·simp[World.cell?,Array.getElem?_eq_none h] at J
 have Ď:((w.alloc (.cells #[.pointer (some t)] 79)).alloc (.cells #[.pointer (some ⟨14,79,none⟩),.pointer (some ⟨w.heap.size,0,none⟩),.int .u64 150] 128)).cell? ⟨11,0,none⟩=some (.iface 192 (.agg #[.pointer (some ⟨14,28,none⟩)])):=by
  rw[World.cell?_alloc_lt _ _ ⟨11,0,none⟩ bY,World.cell?_alloc_lt _ _ ⟨11,0,none⟩ ύ];exact J
 have H:t.block<w.heap.size:=by
  rcases lt_or_ge t.block w.heap.size with h|h
  ·exact h
  ·simp[World.cell?,Array.getElem?_eq_none h] at M
 have el:=Tryz.elemVPP ⟨w.heap.size,0,none⟩ t (((w.alloc (.cells #[.pointer (some t)] 79)).alloc (.cells #[.pointer (some ⟨14,79,none⟩),.pointer (some ⟨w.heap.size,0,none⟩),.int .u64 150] 128)).alloc (.cells #[.pointer (some ⟨14,79,none⟩),.pointer (some ⟨w.heap.size,0,none⟩),.int .u64 150] 128)) (by rw[World.cell?_alloc_lt _ _ ⟨w.heap.size,0,none⟩ bY];simp);have st:=Tryz.setP t ⟨w.heap.size+1+1+1,0,none⟩ e I ((((w.alloc (.cells #[.pointer (some t)] 79)).alloc (.cells #[.pointer (some ⟨14,79,none⟩),.pointer (some ⟨w.heap.size,0,none⟩),.int .u64 150] 128)).alloc (.cells #[.pointer (some ⟨14,79,none⟩),.pointer (some ⟨w.heap.size,0,none⟩),.int .u64 150] 128)).alloc (.cells #[.pointer (some e)] 77))
  (by rw[World.cell?_alloc_at _ _ _ _ dY];rfl)
  (by rw[World.cell?_alloc_lt _ _ t bY,World.cell?_alloc_lt _ _ t bY,World.cell?_alloc_lt _ _ t bY,World.cell?_alloc_lt _ _ t H];exact M)
  (by rw[World.frozen?_alloc_old _ _ t bY,World.frozen?_alloc_old _ _ t bY,World.frozen?_alloc_old _ _ t bY,World.frozen?_alloc_old _ _ t (Nat.ne_of_lt H)];exact ŧ)
 go_enter func44,ntmps44;go_wp2;refine wp_loop_rounds 1 ?_;rw[rounds_succ];go_wp2;go_ret;exact⟨rfl,rfl⟩
structure Env(B:Nat)(ea:Nat->Addr)(w:World):Prop where
 c0:w.cell? ⟨0,0,none⟩=some (.iface 235 (.pointer (some (ea 0))))
 c1:w.cell? ⟨3,0,none⟩=some (.iface 235 (.pointer (some (ea 1))))
 c2:w.cell? ⟨2,0,none⟩=some (.iface 235 (.pointer (some (ea 2))))
 c3:w.cell? ⟨4,0,none⟩=some (.iface 235 (.pointer (some (ea 3))))
 c4:w.cell? ⟨5,0,none⟩=some (.iface 235 (.pointer (some (ea 4))))
 c5:w.cell? ⟨6,0,none⟩=some (.iface 235 (.pointer (some (ea 5))))
 c6:w.cell? ⟨7,0,none⟩=some (.iface 235 (.pointer (some (ea 6))))
 c7:w.cell? ⟨8,0,none⟩=some (.iface 235 (.pointer (some (ea 7))))
 c8:w.cell? ⟨1,0,none⟩=some (.iface 235 (.pointer (some (ea 8))))
 c9:w.cell? ⟨9,0,none⟩=some (.iface 235 (.pointer (some (ea 9))))
 c10:w.cell? ⟨10,0,none⟩=some (.iface 235 (.pointer (some (ea 10))))
 typ:w.cell? ⟨11,0,none⟩=some (.iface 192 (.agg #[.pointer (some ⟨14,28,none⟩)]))
 blk:∀i,i<11->∃c t,w.heap[(ea i).block]? = some (.cells c t (0,0))
 lt:∀i,i<11->(ea i).block<B
 inj:∀i j,i<11->j<11->ea i=ea j->i=j
 low:11<B
theorem Env.below{B:Nat}{ea:Nat->Addr}{w w':World}(E:Env B ea w){e:Nat}(h:Below e w w')(I:B<=e):Env B ea w':=by
 have hl:=E.low;have hc:∀g,g<=11->w'.cell? ⟨g,0,none⟩=w.cell? ⟨g,0,none⟩:=λg M=>h.cell (p:=⟨g,0,none⟩) (by show g<e;omega)
 exact
  {c0:=(hc _ aV).trans E.c0
   c1:=(hc _ aV).trans E.c1
   c2:=(hc _ aV).trans E.c2
   c3:=(hc _ aV).trans E.c3
   c4:=(hc _ aV).trans E.c4
   c5:=(hc _ aV).trans E.c5
   c6:=(hc _ aV).trans E.c6
   c7:=(hc _ aV).trans E.c7
   c8:=(hc _ aV).trans E.c8
   c9:=(hc _ aV).trans E.c9
   c10:=(hc _ aV).trans E.c10
   typ:=(hc _ aV).trans E.typ
   blk:=λi H=>by
    obtain⟨c,t,J⟩:=E.blk i H;exact⟨c,t,(h.block _ (lt_of_lt_of_le (E.lt i H) I)).trans J⟩
   lt:=E.lt
   inj:=E.inj
   low:=E.low }
def Plain(w:World)(p:Addr):Prop:=∃c t,w.heap[p.block]? = some (.cells c t (0,0))
theorem Plain.lt{w:World}{p:Addr}(h:Plain w p):p.block<w.heap.size:=by
 obtain⟨c,t,h⟩:=h;rcases lt_or_ge p.block w.heap.size with h'|h'
 ·exact h'
 ·simp[Array.getElem?_eq_none h'] at h
theorem Plain.below{w w':World}{p:Addr}(h:Plain w p)(e:Below w.heap.size w w'):Plain w' p:=by
 have hl:=h.lt;obtain⟨c,t,H⟩:=h;exact⟨c,t,(e.block _ hl).trans H⟩
def iA(ea:Nat->Addr):Array Value:=#[.iface 235 (.pointer (some (ea 0))),.iface 235 (.pointer (some (ea 1))),.iface 235 (.pointer (some (ea 2))),.iface 235 (.pointer (some (ea 3))),.iface 235 (.pointer (some (ea 4))),.iface 235 (.pointer (some (ea 5))),.iface 235 (.pointer (some (ea 6))),.iface 235 (.pointer (some (ea 7))),.iface 235 (.pointer (some (ea 8))),.iface 235 (.pointer (some (ea 9))),.iface 235 (.pointer (some (ea 10)))]
theorem D6(ea:Nat->Addr)(k:Nat)(hk:k<11):(iA ea)[k]? = some (.iface 235 (.pointer (some (ea k)))):=by
 match k,hk with
 | 0,_=>rfl
 | 1,_=>rfl
 | 2,_=>rfl
 | 3,_=>rfl
 | 4,_=>rfl
 | 5,_=>rfl
 | 6,_=>rfl
 | 7,_=>rfl
 | 8,_=>rfl
 | 9,_=>rfl
 | 10,_=>rfl
theorem VH(w:World):
  Calls prog 25 #[.nilIface] w λe w'=>e = .returned (.tuple #[.int .i64 0,.int .i64 (-1)])/\w'=w:=by
 go_enter func25,ntmps25;go_wp2;go_ret2;exact⟨rfl,rfl⟩
theorem Zk{B:Nat}{ea:Nat->Addr}(w:World)(E:Env B ea w)(hB:B<=w.heap.size)(p:Addr)(hp:Plain w p)(m:Nat)(hm:m<=11)(Ā:∀j,j<m->ea j≠p)(Ů:m<11->ea m=p):
  Calls prog 25 #[.iface 235 (.pointer (some p))] w λe w'=>e = .returned (.tuple #[.int .i64 (if m<11 then (m:Int)+1 else -1),.int .i64 (-1)])/\Below w.heap.size w w':=by
 have ϵ:Below w.heap.size w (w.alloc (.cells #[.pointer none] 77)):=(Below.refl _ _).alloc (le_refl _) _;have hg:=(E.below ϵ hB).typ;go_enter func25,ntmps25;go_wp2_with fail;refine (OD p ⟨w.heap.size,0,none⟩ _ hg).mono ?_;rintro e w1 ⟨rfl,hb⟩;have H:=ϵ.trans (hb.mono dY);have E1:=E.below H hB;have ϡ:=D6 ea;have J:=hp.below H;have X9:∀i,i<11->Plain w1 (ea i):=E1.blk;have Z:Below w.heap.size w (w1.alloc (.cells (iA ea) 28)):=H.alloc H.size _;have À:Below w1.heap.size w1 (w1.alloc (.cells (iA ea) 28)):=(Below.refl _ _).alloc (le_refl _) _;have Ϙ:∀k,k<11->(w1.alloc (.cells (iA ea) 28)).cell? ⟨w1.heap.size,k,none⟩=some (.iface 235 (.pointer (some (ea k)))):=λk hk=>by rw[World.cell?_alloc_at _ _ _ _ rfl];exact ϡ k hk
 have hP:=J.below À;have Ι:∀i,i<11->Plain (w1.alloc (.cells (iA ea) 28)) (ea i):=λi hi=>(X9 i hi).below À
 obtain⟨c0,c1,c2,c3,c4,c5,c6,c7,c8,c9,c10,_,_,_,_,_⟩:=E1;obtain⟨w2,ϭ⟩:=ak (w1.alloc (.cells (iA ea) 28));rw[<-ϭ] at Z Ϙ hP Ι;have H2:Hid (∀(w':World),w'=w1.alloc (.cells (iA ea) 28)->w'=w2):=λw' h=>h.trans ϭ.symm
 clear ϭ;go_wp2_with fail;have hw:=H2.out _ rfl;unfold iA at hw;rw[hw];go_loop [3,29] (λa i=>a = .int .i64 (-1)/\∃k:Nat,k<=m/\i = .int .i64 k) (λ_ i=>11-(intOf i).toNat);case atStart=>exact⟨rfl,0,zero_le _,rfl⟩
 case round=>
  obtain⟨rfl,k,hk,rfl⟩:=hrel;by_cases I:k<11
  ·have hck:=Ϙ k I;by_cases U:k<m
   ·have ϝ:=Ā k U;obtain⟨ca,ta,hA⟩:=hP;obtain⟨cb,tb,hC⟩:=Ι k I;go_wp2_with (go_at_call 45;refine (VG p (ea k) ca cb ta tb _ (Ne.symm ϝ) hA hC).mono ?_;rintro e w' ⟨rfl,rfl⟩);go_round;case rel=>exact⟨rfl,k+1,aV,by go_num⟩
    case measure=>simp[intOf];omega
   ·have VI:k=m:=aV;subst VI;have M:=Ů I;subst M;go_wp2_with (go_at_call 45;refine (Zj (ea k) _).mono ?_;rintro e w' ⟨rfl,rfl⟩);go_ret2;exact⟨dY,Z⟩
  ·have U:m=11:=aV;subst U;obtain rfl:k=11:=aV;go_wp2;go_ret2;exact⟨dY,Z⟩
structure yQ(B:Nat)(ea:Nat->Addr)(w:World):Prop where
 c0:w.cell? ⟨0,0,none⟩=some (.iface 235 (.pointer (some (ea 0))))
 c1:w.cell? ⟨3,0,none⟩=some (.iface 235 (.pointer (some (ea 1))))
 c4:w.cell? ⟨5,0,none⟩=some (.iface 235 (.pointer (some (ea 4))))
 c7:w.cell? ⟨8,0,none⟩=some (.iface 235 (.pointer (some (ea 7))))
 c8:w.cell? ⟨1,0,none⟩=some (.iface 235 (.pointer (some (ea 8))))
 typ:w.cell? ⟨11,0,none⟩=some (.iface 192 (.agg #[.pointer (some ⟨14,28,none⟩)]))
 low:11<B
theorem yQ.below{B:Nat}{ea:Nat->Addr}{w w':World}(E:yQ B ea w){e:Nat}(h:Below e w w')(H:B<=e):yQ B ea w':=by
 have hl:=E.low;have hc:∀g,g<=11->w'.cell? ⟨g,0,none⟩=w.cell? ⟨g,0,none⟩:=λg I=>h.cell (p:=⟨g,0,none⟩) (by show g<e;omega)
 exact
  {c0:=(hc _ aV).trans E.c0
   c1:=(hc _ aV).trans E.c1
   c4:=(hc _ aV).trans E.c4
   c7:=(hc _ aV).trans E.c7
   c8:=(hc _ aV).trans E.c8
   typ:=(hc _ aV).trans E.typ
   low:=E.low }
theorem Qj{B:Nat}{ea:Nat->Addr}(w:World)(E:Env B ea w)(hB:B<=w.heap.size)(H po:Nat)(n:Int)(m:Nat)(hm:m<11)(ha:w.cell? ⟨H,po,none⟩=some (.int .i64 n))(he:w.cell? ⟨H,po+1,none⟩=some (.iface 235 (.pointer (some (ea m))))):
  Calls prog 25 #[.iface 77 (.pointer (some ⟨H,po,none⟩))] w λe w'=>e = .returned (.tuple #[.int .i64 ((m:Int)+1),.int .i64 n])/\Below w.heap.size w w':=by
 have hl:=E.low;have ľ:H<w.heap.size:=by
  rcases lt_or_ge H w.heap.size with h|h
  ·exact h
  ·simp[World.cell?,Array.getElem?_eq_none h] at ha
 have ϵ:Below w.heap.size w (w.alloc (.cells #[.pointer none] 77)):=(Below.refl _ _).alloc (le_refl _) _;have hg:=(E.below ϵ hB).typ;have h1:(w.alloc (.cells #[.pointer none] 77)).cell? ⟨w.heap.size,0,none⟩=some (.pointer none):=dY;have h2:(w.alloc (.cells #[.pointer none] 77)).frozen? ⟨w.heap.size,0,none⟩=false:=dY;have Ā:∀j,j<m->ea j≠ea m:=λj hj he=>by have:=E.inj j m aV hm he;omega
 go_enter func25,ntmps25;go_wp2_with fail;refine (KV ⟨H,po,none⟩ ⟨w.heap.size,0,none⟩ _ _ hg h1 h2).mono ?_;rintro e w1 ⟨rfl,Ϻ⟩;have I:Below w.heap.size w w1:=by
  rw[Ϻ];exact (((((Below.refl w.heap.size w).alloc (le_refl _) _).alloc dY _).alloc bY _).alloc bY _ |>.alloc bY _).setCell (le_refl _) _
 have hcf:w1.cell? ⟨w.heap.size,0,none⟩=some (.pointer (some ⟨H,po,none⟩)):=by
  rw[Ϻ];refine World.cell?_setCell_same _ _ _ (u:=.pointer none) ?_;rw[World.cell?_alloc_lt _ _ ⟨w.heap.size,0,none⟩ bY,World.cell?_alloc_lt _ _ ⟨w.heap.size,0,none⟩ bY,World.cell?_alloc_lt _ _ ⟨w.heap.size,0,none⟩ bY,World.cell?_alloc_lt _ _ ⟨w.heap.size,0,none⟩ dY];simp
 have E1:=E.below I hB;have ha1:w1.cell? ⟨H,po,none⟩=some (.int .i64 n):=(I.cell (p:=⟨H,po,none⟩) ľ).trans ha;have J:w1.cell? ⟨H,po+1,none⟩=some (.iface 235 (.pointer (some (ea m)))):=(I.cell (p:=⟨H,po+1,none⟩) ľ).trans he;clear Ϻ h1 h2 ha he hg ϵ;have ϡ:=D6 ea;have X9:∀i,i<11->Plain w1 (ea i):=E1.blk;have ϔ:Below w.heap.size w (w1.alloc (.cells (iA ea) 28)):=I.alloc I.size _;have À:Below w1.heap.size w1 (w1.alloc (.cells (iA ea) 28)):=(Below.refl _ _).alloc (le_refl _) _;have U:∀k,k<11->(w1.alloc (.cells (iA ea) 28)).cell? ⟨w1.heap.size,k,none⟩=some (.iface 235 (.pointer (some (ea k)))):=λk hk=>by rw[World.cell?_alloc_at _ _ _ _ rfl];exact ϡ k hk
 have M:∀i,i<11->Plain (w1.alloc (.cells (iA ea) 28)) (ea i):=λi hi=>(X9 i hi).below À
 have ů:(w1.alloc (.cells (iA ea) 28)).cell? ⟨H,po+1,none⟩=some (.iface 235 (.pointer (some (ea m)))):=(À.cell (p:=⟨H,po+1,none⟩) (lt_of_lt_of_le ľ I.size)).trans J;obtain⟨c0,c1,c2,c3,c4,c5,c6,c7,c8,c9,Z,_,_,_,_,_⟩:=E1;clear ϡ X9 À J;obtain⟨w2,ϭ⟩:=ak (w1.alloc (.cells (iA ea) 28));rw[<-ϭ] at ϔ U M ů;have H2:Hid (∀(w':World),w'=w1.alloc (.cells (iA ea) 28)->w'=w2):=λw' h=>h.trans ϭ.symm
 clear ϭ;go_wp2_with fail;have hw:=H2.out _ rfl;unfold iA at hw;rw[hw];clear hw H2 c0 c1 c2 c3 c4 c5 c6 c7 c8 c9 Z hcf ha1;go_loop [3,29] (λa i=>a = .int .i64 n/\∃k:Nat,k<=m/\i = .int .i64 k) (λ_ i=>11-(intOf i).toNat);case atStart=>exact⟨rfl,0,zero_le _,rfl⟩
 case round=>
  obtain⟨rfl,k,hk,rfl⟩:=hrel;have H6:k<11:=aV;have hck:=U k H6;by_cases þ:k<m
  ·have ϝ:=Ā k þ;obtain⟨ca,ta,hA⟩:=M m hm;obtain⟨cb,tb,hC⟩:=M k H6;clear U M;go_wp2_with (go_at_call 45;refine (Hz H po (ea k) (ea m) ca cb ta tb _ ů (Ne.symm ϝ) hA hC).mono ?_;rintro e w' ⟨rfl,rfl⟩);go_round;case rel=>exact⟨rfl,k+1,aV,by go_num⟩
   case measure=>simp[intOf];omega
  ·have VI:k=m:=aV;subst VI;clear U M;go_wp2_with (go_at_call 45;refine (J6 H po (ea k) _ ů).mono ?_;rintro e w' ⟨rfl,rfl⟩);go_ret2;exact⟨dY,ϔ⟩
