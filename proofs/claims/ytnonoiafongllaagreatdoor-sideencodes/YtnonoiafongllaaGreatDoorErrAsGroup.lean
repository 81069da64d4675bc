import Derived.Test.YtnonoiafongllaaGreatDoorProg
import Derived.WalkKit
import Derived.LaidEql
import Derived.Stop.Asserts
import Derived.RowKitTokens
set_option maxHeartbeats 1000000
namespace Go.Proofs.YtnonoiafongllaaGreatDoor
open Go.RowKit Go.Extern.Stop Go.Stop Go.Extern
theorem Tryz.valueOfPP (t:Addr) (w:World):(ReflectliteValue.unpack (.iface 79 (.pointer (some t)))).run Tryz.prog w
  = .ok (.agg #[.pointer (some ⟨14,79,none⟩),.pointer (some ⟨w.heap.size,0,none⟩),.int .u64 150]) (w.alloc (.cells #[.pointer (some t)] 79)):=by kernel_rfl
theorem Tryz.typePP (a:Addr) (w:World):(ReflectliteValue.methodAny (ReflectliteValue.valueError "reflectlite.Value.Type" 0) (fun t _ _ _=>ReflectliteType.toType t) #[.agg #[.pointer (some ⟨14,79,none⟩),.pointer (some a),.int .u64 150]]).run Tryz.prog w
  = .ok (.iface 192 (.agg #[.pointer (some ⟨14,79,none⟩)])) w:=by kernel_rfl
theorem Tryz.methodKind (h:Value) (w:World):(Go.method 366 192 (.agg #[h]) "Kind").run Tryz.prog w = .ok (154,h) w:=by kernel_rfl
theorem Tryz.kindPP (w:World):((ReflectliteType.abiMethod fun t=>(fun a:Nat=>Value.int IntKind.u8 (a:Int)) <$> Rtype.kind t) #[.pointer (some ⟨14,79,none⟩)]).run Tryz.prog w = .ok (.int .u8 22) w:=by kernel_rfl
theorem Tryz.kindP (w:World):((ReflectliteType.abiMethod fun t=>(fun a:Nat=>Value.int IntKind.u8 (a:Int)) <$> Rtype.kind t) #[.pointer (some ⟨14,77,none⟩)]).run Tryz.prog w = .ok (.int .u8 22) w:=by kernel_rfl
theorem VP (z:Sem Value) (f:TypeId->Addr->Nat->Nat->Sem Value) (v:Value) :
  ReflectliteValue.method z f #[v]=(do match <-ReflectliteValue.parts v with | none=>z | some (t,a,fl)=>f t a fl (fl % 32)):=rfl
theorem Tryz.partsPP (a:Addr) (w:World):(ReflectliteValue.parts (.agg #[.pointer (some ⟨14,79,none⟩),.pointer (some a),.int .u64 150])).run Tryz.prog w = .ok (some (79,a,150)) w:=by kernel_rfl
theorem Tryz.isNilPP (a p:Addr) (W:World) (ha:W.cell? a=some (.pointer (some p))) :
  (ReflectliteValue.method (ReflectliteValue.valueError "reflectlite.Value.IsNil" 0) ReflectliteValue.isNil #[.agg #[.pointer (some ⟨14,79,none⟩),.pointer (some a),.int .u64 150]]).run Tryz.prog W = .ok (.bool false) W:=by
 rw[VP];simp only[Sem.run_bind,Tryz.partsPP,Result.andThen];simp[ReflectliteValue.isNil,loadVar,isAgg,underlying,Tryz.underlying79,ha,Result.andThen]
theorem Tryz.methodElem (h:Value) (w:World):(Go.method 366 192 (.agg #[h]) "Elem").run Tryz.prog w = .ok (165,.agg #[h]) w:=by kernel_rfl
theorem Tryz.methodImplements (h:Value) (w:World):(Go.method 366 192 (.agg #[h]) "Implements").run Tryz.prog w = .ok (166,.agg #[h]) w:=by kernel_rfl
theorem Tryz.methodAssignableTo (h:Value) (w:World):(Go.method 366 192 (.agg #[h]) "AssignableTo").run Tryz.prog w = .ok (163,.agg #[h]) w:=by kernel_rfl
theorem Tryz.elemPP (w:World):(ReflectliteType.method ReflectliteType.elem #[.agg #[.pointer (some ⟨14,79,none⟩)]]).run Tryz.prog w = .ok (.iface 192 (.agg #[.pointer (some ⟨14,77,none⟩)])) w:=by kernel_rfl
theorem Tryz.implementsP (w:World):(ReflectliteType.relation "Implements" ReflectliteType.implements_ #[.agg #[.pointer (some ⟨14,77,none⟩)],.iface 192 (.agg #[.pointer (some ⟨14,28,none⟩)])]).run Tryz.prog w = .ok (.bool true) w:=by kernel_rfl
theorem Tryz.typeOfP (v:Value) (w:World):(ReflectliteType.typeOf #[.iface 77 v]).run Tryz.prog w = .ok (.iface 192 (.agg #[.pointer (some ⟨14,77,none⟩)])) w:=by kernel_rfl
theorem Tryz.typeOfE (v:Value) (w:World):(ReflectliteType.typeOf #[.iface 235 v]).run Tryz.prog w = .ok (.iface 192 (.agg #[.pointer (some ⟨14,235,none⟩)])) w:=by kernel_rfl
theorem Tryz.assignableP (w:World):(ReflectliteType.relation "AssignableTo" ReflectliteType.assignableTo #[.agg #[.pointer (some ⟨14,77,none⟩)],.iface 192 (.agg #[.pointer (some ⟨14,77,none⟩)])]).run Tryz.prog w = .ok (.bool true) w:=by kernel_rfl
theorem Tryz.assignableE (w:World):(ReflectliteType.relation "AssignableTo" ReflectliteType.assignableTo #[.agg #[.pointer (some ⟨14,235,none⟩)],.iface 192 (.agg #[.pointer (some ⟨14,77,none⟩)])]).run Tryz.prog w = .ok (.bool false) w:=by kernel_rfl
theorem Tryz.valueOfP (e:Addr) (w:World):(ReflectliteValue.unpack (.iface 77 (.pointer (some e)))).run Tryz.prog w
  = .ok (.agg #[.pointer (some ⟨14,77,none⟩),.pointer (some ⟨w.heap.size,0,none⟩),.int .u64 150]) (w.alloc (.cells #[.pointer (some e)] 77)):=by kernel_rfl
theorem Tryz.elemOfPP (w:World):(Rtype.elem? 79).run Tryz.prog w = .ok (some 77) w:=by kernel_rfl
theorem Tryz.mkP (p:Addr) (w:World):(ReflectliteValue.mk 77 p ReflectliteValue.flagAddr).run Tryz.prog w = .ok (.agg #[.pointer (some ⟨14,77,none⟩),.pointer (some p),.int .u64 406]) w:=by kernel_rfl
theorem Tryz.elemVPP (a p:Addr) (W:World) (ha:W.cell? a=some (.pointer (some p))) :
  (ReflectliteValue.method (ReflectliteValue.valueError "reflectlite.Value.Elem" 0) ReflectliteValue.elem #[.agg #[.pointer (some ⟨14,79,none⟩),.pointer (some a),.int .u64 150]]).run Tryz.prog W
   = .ok (.agg #[.pointer (some ⟨14,77,none⟩),.pointer (some p),.int .u64 406]) W:=by
 rw[VP];simp only[Sem.run_bind,Tryz.partsPP,Result.andThen];simp[ReflectliteValue.elem,loadVar,isAgg,underlying,Tryz.underlying79,ha,Result.andThen,Tryz.elemOfPP,Tryz.mkP]
theorem rls (v x:Value):ReflectliteValue.set #[v,x]=(do
  let (some (dst,a,fl),some (src,b,_)):=(<-ReflectliteValue.parts v,<-ReflectliteValue.parts x)
   | unsupported (.noEntry "extern/(internal/reflectlite.Value).Set.zeroValue")
  if fl / ReflectliteValue.flagAddr % 2==0 then unsupported (.noEntry "extern/(internal/reflectlite.Value).Set.unaddressable")
  let val <-loadVar src b
  if <-Rtype.directlyAssignable dst src then storeVar dst a val
  else if <-Rtype.implements dst src then
   if (<-Rtype.kind src)==20 then
    match val with
    | .nilIface=>unsupported (.noEntry "extern/reflectlite: a nil value of one interface type handed on as a value of another")
    | _=>storeVar dst a val
   else storeVar dst a (.iface src val)
  else panicString ("reflectlite.Set: value of type " ++ (<-Rtype.spelt src) ++ " is not assignable to type " ++ (<-Rtype.spelt dst))
  pure (.tuple #[])):=rfl
theorem Tryz.partsPa (a:Addr) (w:World):(ReflectliteValue.parts (.agg #[.pointer (some ⟨14,77,none⟩),.pointer (some a),.int .u64 406])).run Tryz.prog w = .ok (some (77,a,406)) w:=by kernel_rfl
theorem Tryz.partsP (a:Addr) (w:World):(ReflectliteValue.parts (.agg #[.pointer (some ⟨14,77,none⟩),.pointer (some a),.int .u64 150])).run Tryz.prog w = .ok (some (77,a,150)) w:=by kernel_rfl
theorem Tryz.directP (w:World):(Rtype.directlyAssignable 77 77).run Tryz.prog w = .ok true w:=by kernel_rfl
theorem Tryz.setP (ta b e:Addr) (old:Value) (W:World) (hb:W.cell? b=some (.pointer (some e))) (ht:W.cell? ta=some old) (hf:W.frozen? ta=false) :
  (ReflectliteValue.set #[.agg #[.pointer (some ⟨14,77,none⟩),.pointer (some ta),.int .u64 406],.agg #[.pointer (some ⟨14,77,none⟩),.pointer (some b),.int .u64 150]]).run Tryz.prog W
   = .ok (.tuple #[]) (W.setCell ta (.pointer (some e))):=by
 rw[rls];simp only[Sem.run_bind,Tryz.partsPa,Tryz.partsP,Result.andThen];simp[ReflectliteValue.flagAddr,loadVar,isAgg,underlying,Tryz.underlying77,hb,Result.andThen,Tryz.directP,storeVar,Value.cells,storeCells,Addr.add];rw[run_store Tryz.prog W ta _ _ (by rfl)];simp[ht,hf]
theorem Tryz.noAsE (v:Value) (xT:TypeId) (w:World):(Instr.typeAssert (.iface 235 v) xT 196 true).run Tryz.prog w = .ok (.tuple #[.nilIface,.bool false]) w:=run_typeAssert_lacksB Tryz.underlying196 (by kernel_rfl) (by kernel_rfl) v xT w
theorem Tryz.noIsE (v:Value) (xT:TypeId) (w:World):(Instr.typeAssert (.iface 235 v) xT 203 true).run Tryz.prog w = .ok (.tuple #[.nilIface,.bool false]) w:=run_typeAssert_lacksB Tryz.underlying203 (by kernel_rfl) (by kernel_rfl) v xT w
theorem Tryz.noUnwrapE (v:Value) (xT:TypeId) (w:World):(Instr.typeAssert (.iface 235 v) xT 199 true).run Tryz.prog w = .ok (.tuple #[.nilIface,.bool false]) w:=run_typeAssert_lacksB Tryz.underlying199 (by kernel_rfl) (by kernel_rfl) v xT w
theorem Tryz.noUnwrapsE (v:Value) (xT:TypeId) (w:World):(Instr.typeAssert (.iface 235 v) xT 201 true).run Tryz.prog w = .ok (.tuple #[.nilIface,.bool false]) w:=run_typeAssert_lacksB Tryz.underlying201 (by kernel_rfl) (by kernel_rfl) v xT w
theorem Tryz.noIsF (v:Value) (xT:TypeId) (w:World):(Instr.typeAssert (.iface 77 v) xT 203 true).run Tryz.prog w = .ok (.tuple #[.nilIface,.bool false]) w:=run_typeAssert_lacksB Tryz.underlying203 (by kernel_rfl) (by kernel_rfl) v xT w
theorem Tryz.hasUnwrapF (v:Value) (xT:TypeId) (w:World):(Instr.typeAssert (.iface 77 v) xT 199 true).run Tryz.prog w = .ok (.tuple #[.iface 77 v,.bool true]) w:=run_typeAssert_hasB Tryz.underlying199 (by kernel_rfl) v xT w
theorem Tryz.methodUnwrap (v:Value) (w:World):(Go.method 366 77 v "Unwrap").run Tryz.prog w = .ok (158,v) w:=by kernel_rfl
theorem Fa (p t:Addr) (w:World) (hg:w.cell? ⟨11,0,none⟩=some (.iface 192 (.agg #[.pointer (some ⟨14,28,none⟩)]))) :
  Calls Tryz.prog 44 #[.iface 235 (.pointer (some p)),.iface 79 (.pointer (some t))] w fun ev w'=>ev = .returned (.bool false)/\Below w.heap.size w w':=by
 have h6:=@run_callFunc_extern Tryz.prog 69 _ (fun args=>ReflectliteValue.unpack (args.getD 0 (.tuple #[]))) Tryz.func69 (by kernel_rfl) (by kernel_rfl) (by kernel_rfl) (by kernel_rfl);have h7:=@run_callFunc_extern Tryz.prog 70 _ (ReflectliteValue.methodAny (ReflectliteValue.valueError "reflectlite.Value.Type" 0) (fun t _ _ _=>ReflectliteType.toType t)) Tryz.func70 (by kernel_rfl) (by kernel_rfl) (by kernel_rfl) (by kernel_rfl);have h8:=@run_callFunc_extern Tryz.prog 71 _ (ReflectliteValue.method (ReflectliteValue.valueError "reflectlite.Value.IsNil" 0) ReflectliteValue.isNil) Tryz.func71 (by kernel_rfl) (by kernel_rfl) (by kernel_rfl) (by kernel_rfl);have h27:=@run_callFunc_extern Tryz.prog 154 _ (ReflectliteType.abiMethod fun t=>do pure (.int .u8 (<-Rtype.kind t))) Tryz.func154 (by kernel_rfl) (by kernel_rfl) (by kernel_rfl) (by kernel_rfl);have h37:=@run_callFunc_extern Tryz.prog 165 _ (ReflectliteType.method ReflectliteType.elem) Tryz.func165 (by kernel_rfl) (by kernel_rfl) (by kernel_rfl) (by kernel_rfl);have YH:=@run_callFunc_extern Tryz.prog 166 _ (ReflectliteType.relation "Implements" ReflectliteType.implements_) Tryz.func166 (by kernel_rfl) (by kernel_rfl) (by kernel_rfl) (by kernel_rfl);have h10:=@run_callFunc_extern Tryz.prog 73 _ ReflectliteType.typeOf Tryz.func73 (by kernel_rfl) (by kernel_rfl) (by kernel_rfl) (by kernel_rfl);have YI:=@run_callFunc_extern Tryz.prog 163 _ (ReflectliteType.relation "AssignableTo" ReflectliteType.assignableTo) Tryz.func163 (by kernel_rfl) (by kernel_rfl) (by kernel_rfl) (by kernel_rfl);have tO:=Tryz.typeOfE;have mA:=Tryz.methodAssignableTo;have aE:=Tryz.assignableE;have f6:=Tryz.valueOfPP;have f7:=Tryz.typePP;have mK:=Tryz.methodKind;have mE:=Tryz.methodElem;have mI:=Tryz.methodImplements;have YJ:=Tryz.kindPP;have kP:=Tryz.kindP;have YK:=Tryz.elemPP;have iP:=Tryz.implementsP;have nA:=Tryz.noAsE;have nU:=Tryz.noUnwrapE;have nV:=Tryz.noUnwrapsE;have n8:=Tryz.isNilPP ⟨w.heap.size,0,none⟩ t ((w.alloc (.cells #[.pointer (some t)] 79)).alloc (.cells #[.pointer (some ⟨14,79,none⟩),.pointer (some ⟨w.heap.size,0,none⟩),.int .u64 150] 128)) (by simp);have hlt:11<w.heap.size:=by
  rcases Nat.lt_or_ge 11 w.heap.size with h | h
  ·exact h
  ·simp[World.cell?,Array.getElem?_eq_none h] at hg
 have hg2:((w.alloc (.cells #[.pointer (some t)] 79)).alloc (.cells #[.pointer (some ⟨14,79,none⟩),.pointer (some ⟨w.heap.size,0,none⟩),.int .u64 150] 128)).cell? ⟨11,0,none⟩=some (.iface 192 (.agg #[.pointer (some ⟨14,28,none⟩)])):=by
  rw[World.cell?_alloc_lt _ _ ⟨11,0,none⟩ (by simp;omega),World.cell?_alloc_lt _ _ ⟨11,0,none⟩ hlt];exact hg
 go_enter Tryz.func44,Tryz.ntmps44;go_wp2;refine wp_loop_rounds 1 ?_;rw[rounds_succ];go_wp2;go_ret;exact⟨rfl,(((Below.refl _ _).alloc (Nat.le_refl _) _).alloc (by simp) _).alloc (by simp;omega) _⟩
end Go.Proofs.YtnonoiafongllaaGreatDoor
namespace Go.Proofs.YtnonoiafongllaaGreatDoor
open Go.RowKit Go.Extern.Stop Go.Stop Go.Extern
def nD:Array Value->Sem Value:=Extern.ReflectliteType.method fun t=>do Rtype.noPackHeld "Comparable" t;pure (.bool (<-typeInfo t).comparable)
theorem Tryz.isComparable (w:World):(nD #[.agg #[.pointer (some ⟨14,235,none⟩)]]).run Tryz.prog w = .ok (.bool true) w:=by kernel_rfl
theorem Tryz.isMethodComparable (v:Value) (w:World):(Go.method 366 192 v "Comparable").run Tryz.prog w = .ok (164,v) w:=by kernel_rfl
theorem Tryz.isComp:(Tryz.prog.info? 235).map (·.comparable)=some true:=by kernel_rfl
theorem Tryz.isSize:(Tryz.prog.info? 254).map (·.size)=some 1:=by kernel_rfl
theorem Pz (a:Addr) (w:World) :
  Calls Tryz.prog 45 #[.iface 235 (.pointer (some a)),.iface 235 (.pointer (some a))] w fun e w'=>e = .returned (.bool true)/\w'=w:=by
 obtain⟨i,hi,hcmp⟩:=Option.map_eq_some_iff.1 Tryz.isComp;obtain⟨j,hj,hjs⟩:=Option.map_eq_some_iff.1 Tryz.isSize;have h8:=@run_callFunc_extern Tryz.prog 73 _ Extern.ReflectliteType.typeOf Tryz.func73 (by kernel_rfl) (by kernel_rfl) (by kernel_rfl) (by kernel_rfl);have h32:=@run_callFunc_extern Tryz.prog 164 _ nD Tryz.func164 (by kernel_rfl) (by kernel_rfl) (by kernel_rfl) (by kernel_rfl);have tT:=Tryz.typeOfE;have cT:=Tryz.isComparable;have mR:=Tryz.isMethodComparable;have heq:=run_eql_iface_ptr_same (P:=Tryz.prog) w a Tryz.underlying28 Tryz.underlying235 hi hcmp hj;go_enter Tryz.func45,Tryz.ntmps45;go_wp2;refine wp_loop_rounds 1 ?_;rw[rounds_succ];go_wp2;go_ret;exact⟨rfl,rfl⟩
theorem LM (a b:Addr) (ca cb:Array Value) (ta tb:TypeId) (w:World) (hne:a≠b) (ha:w.heap[a.block]? = some (.cells ca ta (0,0))) (hb:w.heap[b.block]? = some (.cells cb tb (0,0))) :
  Calls Tryz.prog 45 #[.iface 235 (.pointer (some a)),.iface 235 (.pointer (some b))] w fun e w'=>e = .returned (.bool false)/\w'=w:=by
 obtain⟨i,hi,hcmp⟩:=Option.map_eq_some_iff.1 Tryz.isComp;obtain⟨j,hj,hjs⟩:=Option.map_eq_some_iff.1 Tryz.isSize;have h8:=@run_callFunc_extern Tryz.prog 73 _ Extern.ReflectliteType.typeOf Tryz.func73 (by kernel_rfl) (by kernel_rfl) (by kernel_rfl) (by kernel_rfl);have h32:=@run_callFunc_extern Tryz.prog 164 _ nD Tryz.func164 (by kernel_rfl) (by kernel_rfl) (by kernel_rfl) (by kernel_rfl);have tT:=Tryz.typeOfE;have cT:=Tryz.isComparable;have mR:=Tryz.isMethodComparable;have nE:=Tryz.noIsE;have uE:=Tryz.noUnwrapE;have vE:=Tryz.noUnwrapsE;have heq:=run_eql_iface_ptr_other (P:=Tryz.prog) w Tryz.underlying28 Tryz.underlying235 hi hcmp hj (by rw[hjs];decide) hne ha hb;go_enter Tryz.func45,Tryz.ntmps45;go_wp2;refine wp_loop_rounds 1 ?_;rw[rounds_succ];go_wp2;go_ret;exact⟨rfl,rfl⟩
theorem BI (pb po:Nat) (b:Addr) (w:World) (h1:w.cell? ⟨pb,po+1,none⟩=some (.iface 235 (.pointer (some b)))) :
  Calls Tryz.prog 45 #[.iface 77 (.pointer (some ⟨pb,po,none⟩)),.iface 235 (.pointer (some b))] w fun e w'=>e = .returned (.bool true)/\w'=w:=by
 obtain⟨i,hi,hcmp⟩:=Option.map_eq_some_iff.1 Tryz.isComp;obtain⟨j,hj,hjs⟩:=Option.map_eq_some_iff.1 Tryz.isSize;have h8:=@run_callFunc_extern Tryz.prog 73 _ Extern.ReflectliteType.typeOf Tryz.func73 (by kernel_rfl) (by kernel_rfl) (by kernel_rfl) (by kernel_rfl);have h32:=@run_callFunc_extern Tryz.prog 164 _ nD Tryz.func164 (by kernel_rfl) (by kernel_rfl) (by kernel_rfl) (by kernel_rfl);have tT:=Tryz.typeOfE;have cT:=Tryz.isComparable;have mR:=Tryz.isMethodComparable;have nW:=Tryz.noIsF;have uW:=Tryz.hasUnwrapF;have mU:=Tryz.methodUnwrap;have heq:=run_eql_iface_ptr_same (P:=Tryz.prog) w b Tryz.underlying28 Tryz.underlying235 hi hcmp hj;have hty:=run_eql_iface_types (P:=Tryz.prog) 77 235 (.pointer (some ⟨pb,po,none⟩)) (.pointer (some b)) Tryz.underlying28 (by decide) w;go_enter Tryz.func45,Tryz.ntmps45;go_wp2;refine wp_loop_rounds 2 ?_;rw[rounds_succ];go_wp2;rw[rounds_succ];go_wp2;go_ret;exact⟨rfl,rfl⟩
theorem zK (pb po:Nat) (b a:Addr) (ca cb:Array Value) (ta tb:TypeId) (w:World) (h1:w.cell? ⟨pb,po+1,none⟩=some (.iface 235 (.pointer (some a)))) (hne:a≠b) (ha:w.heap[a.block]? = some (.cells ca ta (0,0))) (hb:w.heap[b.block]? = some (.cells cb tb (0,0))) :
  Calls Tryz.prog 45 #[.iface 77 (.pointer (some ⟨pb,po,none⟩)),.iface 235 (.pointer (some b))] w fun e w'=>e = .returned (.bool false)/\w'=w:=by
 obtain⟨i,hi,hcmp⟩:=Option.map_eq_some_iff.1 Tryz.isComp;obtain⟨j,hj,hjs⟩:=Option.map_eq_some_iff.1 Tryz.isSize;have h8:=@run_callFunc_extern Tryz.prog 73 _ Extern.ReflectliteType.typeOf Tryz.func73 (by kernel_rfl) (by kernel_rfl) (by kernel_rfl) (by kernel_rfl);have h32:=@run_callFunc_extern Tryz.prog 164 _ nD Tryz.func164 (by kernel_rfl) (by kernel_rfl) (by kernel_rfl) (by kernel_rfl);have tT:=Tryz.typeOfE;have cT:=Tryz.isComparable;have mR:=Tryz.isMethodComparable;have nE:=Tryz.noIsE;have uE:=Tryz.noUnwrapE;have vE:=Tryz.noUnwrapsE;have nW:=Tryz.noIsF;have uW:=Tryz.hasUnwrapF;have mU:=Tryz.methodUnwrap;have heq:=run_eql_iface_ptr_other (P:=Tryz.prog) w Tryz.underlying28 Tryz.underlying235 hi hcmp hj (by rw[hjs];decide) hne ha hb;have hty:=run_eql_iface_types (P:=Tryz.prog) 77 235 (.pointer (some ⟨pb,po,none⟩)) (.pointer (some b)) Tryz.underlying28 (by decide) w;go_enter Tryz.func45,Tryz.ntmps45;go_wp2;refine wp_loop_rounds 2 ?_;rw[rounds_succ];go_wp2;rw[rounds_succ];go_wp2;go_ret;exact⟨rfl,rfl⟩
end Go.Proofs.YtnonoiafongllaaGreatDoor
namespace Go.Proofs.YtnonoiafongllaaGreatDoor
open Go.RowKit Go.Extern.Stop Go.Stop Go.Extern
theorem I8 (e t:Addr) (old:Value) (w:World) (hg:w.cell? ⟨11,0,none⟩=some (.iface 192 (.agg #[.pointer (some ⟨14,28,none⟩)]))) (ht0:w.cell? t=some old) (hf0:w.frozen? t=false) :
  Calls Tryz.prog 44 #[.iface 77 (.pointer (some e)),.iface 79 (.pointer (some t))] w fun ev w'=>ev = .returned (.bool true)/\w'=((((w.alloc (.cells #[.pointer (some t)] 79)).alloc (.cells #[.pointer (some ⟨14,79,none⟩),.pointer (some ⟨w.heap.size,0,none⟩),.int .u64 150] 128)).alloc (.cells #[.pointer (some ⟨14,79,none⟩),.pointer (some ⟨w.heap.size,0,none⟩),.int .u64 150] 128)).alloc (.cells #[.pointer (some e)] 77)).setCell t (.pointer (some e)):=by
 have h6:=@run_callFunc_extern Tryz.prog 69 _ (fun args=>ReflectliteValue.unpack (args.getD 0 (.tuple #[]))) Tryz.func69 (by kernel_rfl) (by kernel_rfl) (by kernel_rfl) (by kernel_rfl);have h7:=@run_callFunc_extern Tryz.prog 70 _ (ReflectliteValue.methodAny (ReflectliteValue.valueError "reflectlite.Value.Type" 0) (fun t _ _ _=>ReflectliteType.toType t)) Tryz.func70 (by kernel_rfl) (by kernel_rfl) (by kernel_rfl) (by kernel_rfl);have h8:=@run_callFunc_extern Tryz.prog 71 _ (ReflectliteValue.method (ReflectliteValue.valueError "reflectlite.Value.IsNil" 0) ReflectliteValue.isNil) Tryz.func71 (by kernel_rfl) (by kernel_rfl) (by kernel_rfl) (by kernel_rfl);have h27:=@run_callFunc_extern Tryz.prog 154 _ (ReflectliteType.abiMethod fun t=>do pure (.int .u8 (<-Rtype.kind t))) Tryz.func154 (by kernel_rfl) (by kernel_rfl) (by kernel_rfl) (by kernel_rfl);have h37:=@run_callFunc_extern Tryz.prog 165 _ (ReflectliteType.method ReflectliteType.elem) Tryz.func165 (by kernel_rfl) (by kernel_rfl) (by kernel_rfl) (by kernel_rfl);have YH:=@run_callFunc_extern Tryz.prog 166 _ (ReflectliteType.relation "Implements" ReflectliteType.implements_) Tryz.func166 (by kernel_rfl) (by kernel_rfl) (by kernel_rfl) (by kernel_rfl);have h10:=@run_callFunc_extern Tryz.prog 73 _ ReflectliteType.typeOf Tryz.func73 (by kernel_rfl) (by kernel_rfl) (by kernel_rfl) (by kernel_rfl);have YI:=@run_callFunc_extern Tryz.prog 163 _ (ReflectliteType.relation "AssignableTo" ReflectliteType.assignableTo) Tryz.func163 (by kernel_rfl) (by kernel_rfl) (by kernel_rfl) (by kernel_rfl);have h11:=@run_callFunc_extern Tryz.prog 112 _ (ReflectliteValue.method (ReflectliteValue.valueError "reflectlite.Value.Elem" 0) ReflectliteValue.elem) Tryz.func112 (by kernel_rfl) (by kernel_rfl) (by kernel_rfl) (by kernel_rfl);have h12:=@run_callFunc_extern Tryz.prog 113 _ ReflectliteValue.set Tryz.func113 (by kernel_rfl) (by kernel_rfl) (by kernel_rfl) (by kernel_rfl);have tO:=Tryz.typeOfP;have mA:=Tryz.methodAssignableTo;have aP:=Tryz.assignableP;have vP:=Tryz.valueOfP;have f6:=Tryz.valueOfPP;have f7:=Tryz.typePP;have mK:=Tryz.methodKind;have mE:=Tryz.methodElem;have mI:=Tryz.methodImplements;have YJ:=Tryz.kindPP;have kP:=Tryz.kindP;have YK:=Tryz.elemPP;have iP:=Tryz.implementsP;have n8:=Tryz.isNilPP ⟨w.heap.size,0,none⟩ t ((w.alloc (.cells #[.pointer (some t)] 79)).alloc (.cells #[.pointer (some ⟨14,79,none⟩),.pointer (some ⟨w.heap.size,0,none⟩),.int .u64 150] 128)) (by simp);have hlt:11<w.heap.size:=by
  rcases Nat.lt_or_ge 11 w.heap.size with h | h
  ·exact h
  ·simp[World.cell?,Array.getElem?_eq_none h] at hg
 have hg2:((w.alloc (.cells #[.pointer (some t)] 79)).alloc (.cells #[.pointer (some ⟨14,79,none⟩),.pointer (some ⟨w.heap.size,0,none⟩),.int .u64 150] 128)).cell? ⟨11,0,none⟩=some (.iface 192 (.agg #[.pointer (some ⟨14,28,none⟩)])):=by
  rw[World.cell?_alloc_lt _ _ ⟨11,0,none⟩ (by simp;omega),World.cell?_alloc_lt _ _ ⟨11,0,none⟩ hlt];exact hg
 have htl:t.block<w.heap.size:=by
  rcases Nat.lt_or_ge t.block w.heap.size with h | h
  ·exact h
  ·simp[World.cell?,Array.getElem?_eq_none h] at ht0
 have el:=Tryz.elemVPP ⟨w.heap.size,0,none⟩ t (((w.alloc (.cells #[.pointer (some t)] 79)).alloc (.cells #[.pointer (some ⟨14,79,none⟩),.pointer (some ⟨w.heap.size,0,none⟩),.int .u64 150] 128)).alloc (.cells #[.pointer (some ⟨14,79,none⟩),.pointer (some ⟨w.heap.size,0,none⟩),.int .u64 150] 128)) (by rw[World.cell?_alloc_lt _ _ ⟨w.heap.size,0,none⟩ (by simp;omega)];simp);have st:=Tryz.setP t ⟨w.heap.size+1+1+1,0,none⟩ e old ((((w.alloc (.cells #[.pointer (some t)] 79)).alloc (.cells #[.pointer (some ⟨14,79,none⟩),.pointer (some ⟨w.heap.size,0,none⟩),.int .u64 150] 128)).alloc (.cells #[.pointer (some ⟨14,79,none⟩),.pointer (some ⟨w.heap.size,0,none⟩),.int .u64 150] 128)).alloc (.cells #[.pointer (some e)] 77))
  (by rw[World.cell?_alloc_at _ _ _ _ (by simp)];rfl)
  (by rw[World.cell?_alloc_lt _ _ t (by simp;omega),World.cell?_alloc_lt _ _ t (by simp;omega),World.cell?_alloc_lt _ _ t (by simp;omega),World.cell?_alloc_lt _ _ t htl];exact ht0)
  (by rw[World.frozen?_alloc_old _ _ t (by simp;omega),World.frozen?_alloc_old _ _ t (by simp;omega),World.frozen?_alloc_old _ _ t (by simp;omega),World.frozen?_alloc_old _ _ t (Nat.ne_of_lt htl)];exact hf0)
 go_enter Tryz.func44,Tryz.ntmps44;go_wp2;refine wp_loop_rounds 1 ?_;rw[rounds_succ];go_wp2;go_ret;exact⟨rfl,rfl⟩
end Go.Proofs.YtnonoiafongllaaGreatDoor
namespace Go.Proofs.YtnonoiafongllaaGreatDoor
open Go.RowKit
structure Env (B:Nat) (ea:Nat->Addr) (w:World):Prop where
 c0:w.cell? ⟨0,0,none⟩=some (.iface 235 (.pointer (some (ea 0))))
 c1:w.cell? ⟨3,0,none⟩=some (.iface 235 (.pointer (some (ea 1))))
 c2:w.cell? ⟨2,0,none⟩=some (.iface 235 (.pointer (some (ea 2))))
 c3:w.cell? ⟨4,0,none⟩=some (.iface 235 (.pointer (some (ea 3))))
 c4:w.cell? ⟨5,0,none⟩=some (.iface 235 (.pointer (some (ea 4))))
 c5:w.cell? ⟨6,0,none⟩=some (.iface 235 (.pointer (some (ea 5))))
 c6:w.cell? ⟨7,0,none⟩=some (.iface 235 (.pointer (some (ea 6))))
 c7:w.cell? ⟨8,0,none⟩=some (.iface 235 (.pointer (some (ea 7))))
 c8:w.cell? ⟨1,0,none⟩=some (.iface 235 (.pointer (some (ea 8))))
 c9:w.cell? ⟨9,0,none⟩=some (.iface 235 (.pointer (some (ea 9))))
 c10:w.cell? ⟨10,0,none⟩=some (.iface 235 (.pointer (some (ea 10))))
 typ:w.cell? ⟨11,0,none⟩=some (.iface 192 (.agg #[.pointer (some ⟨14,28,none⟩)]))
 blk:∀ i,i<11->∃ c t,w.heap[(ea i).block]? = some (.cells c t (0,0))
 lt:∀ i,i<11->(ea i).block<B
 inj:∀ i j,i<11->j<11->ea i=ea j->i=j
 low:11<B
theorem Env.below {B:Nat} {ea:Nat->Addr} {w w':World} (E:Env B ea w) {B':Nat} (h:Below B' w w') (hB:B<=B'):Env B ea w':=by
 have hl:=E.low;have hc:∀ g,g<=11->w'.cell? ⟨g,0,none⟩=w.cell? ⟨g,0,none⟩:=fun g hg=>h.cell (p:=⟨g,0,none⟩) (by show g<B';omega)
 exact
  {c0:=(hc _ (by omega)).trans E.c0
   c1:=(hc _ (by omega)).trans E.c1
   c2:=(hc _ (by omega)).trans E.c2
   c3:=(hc _ (by omega)).trans E.c3
   c4:=(hc _ (by omega)).trans E.c4
   c5:=(hc _ (by omega)).trans E.c5
   c6:=(hc _ (by omega)).trans E.c6
   c7:=(hc _ (by omega)).trans E.c7
   c8:=(hc _ (by omega)).trans E.c8
   c9:=(hc _ (by omega)).trans E.c9
   c10:=(hc _ (by omega)).trans E.c10
   typ:=(hc _ (by omega)).trans E.typ
   blk:=fun i hi=>by
    obtain⟨c,t,hh⟩:=E.blk i hi;exact⟨c,t,(h.block _ (Nat.lt_of_lt_of_le (E.lt i hi) hB)).trans hh⟩
   lt:=E.lt
   inj:=E.inj
   low:=E.low }
def Plain (w:World) (p:Addr):Prop:=∃ c t,w.heap[p.block]? = some (.cells c t (0,0))
theorem Plain.lt {w:World} {p:Addr} (h:Plain w p):p.block<w.heap.size:=by
 obtain⟨c,t,h⟩:=h;rcases Nat.lt_or_ge p.block w.heap.size with h' | h'
 ·exact h'
 ·simp[Array.getElem?_eq_none h'] at h
theorem Plain.below {w w':World} {p:Addr} (h:Plain w p) (hb:Below w.heap.size w w'):Plain w' p:=by
 have hl:=h.lt;obtain⟨c,t,hh⟩:=h;exact⟨c,t,(hb.block _ hl).trans hh⟩
def dV (ea:Nat->Addr):Array Value:=#[.iface 235 (.pointer (some (ea 0))),.iface 235 (.pointer (some (ea 1))),.iface 235 (.pointer (some (ea 2))),.iface 235 (.pointer (some (ea 3))),.iface 235 (.pointer (some (ea 4))),.iface 235 (.pointer (some (ea 5))),.iface 235 (.pointer (some (ea 6))),.iface 235 (.pointer (some (ea 7))),.iface 235 (.pointer (some (ea 8))),.iface 235 (.pointer (some (ea 9))),.iface 235 (.pointer (some (ea 10)))]
theorem wR (ea:Nat->Addr) (k:Nat) (hk:k<11):(dV ea)[k]? = some (.iface 235 (.pointer (some (ea k)))):=by
 match k,hk with
 | 0,_=>rfl
 | 1,_=>rfl
 | 2,_=>rfl
 | 3,_=>rfl
 | 4,_=>rfl
 | 5,_=>rfl
 | 6,_=>rfl
 | 7,_=>rfl
 | 8,_=>rfl
 | 9,_=>rfl
 | 10,_=>rfl
theorem LP (w:World) :
  Calls Tryz.prog 25 #[.nilIface] w fun e w'=>e = .returned (.tuple #[.int .i64 0,.int .i64 (-1)])/\w'=w:=by
 go_enter Tryz.func25,Tryz.ntmps25;go_wp2;go_ret2;exact⟨rfl,rfl⟩
theorem PD {B:Nat} {ea:Nat->Addr} (w:World) (E:Env B ea w) (hB:B<=w.heap.size) (p:Addr) (hp:Plain w p) (m:Nat) (hm:m<=11) (hno:∀ j,j<m->ea j≠p) (hyes:m<11->ea m=p) :
  Calls Tryz.prog 25 #[.iface 235 (.pointer (some p))] w fun e w'=>e = .returned (.tuple #[.int .i64 (if m<11 then (m:Int)+1 else -1),.int .i64 (-1)])/\Below w.heap.size w w':=by
 have hb0:Below w.heap.size w (w.alloc (.cells #[.pointer none] 77)):=(Below.refl _ _).alloc (Nat.le_refl _) _;have hg:=(E.below hb0 hB).typ;go_enter Tryz.func25,Tryz.ntmps25;go_wp2_with fail;refine (Fa p ⟨w.heap.size,0,none⟩ _ hg).mono ?_;rintro e w1 ⟨rfl,hb⟩;have hb1:=hb0.trans (hb.mono (by simp));have E1:=E.below hb1 hB;have hcs:=wR ea;have hP1:=hp.below hb1;have Og:∀ i,i<11->Plain w1 (ea i):=E1.blk;have hb2:Below w.heap.size w (w1.alloc (.cells (dV ea) 28)):=hb1.alloc hb1.size _;have hb3:Below w1.heap.size w1 (w1.alloc (.cells (dV ea) 28)):=(Below.refl _ _).alloc (Nat.le_refl _) _;have hcell:∀ k,k<11->(w1.alloc (.cells (dV ea) 28)).cell? ⟨w1.heap.size,k,none⟩=some (.iface 235 (.pointer (some (ea k)))):=fun k hk=>by rw[World.cell?_alloc_at _ _ _ _ rfl];exact hcs k hk
 have hP:=hP1.below hb3;have hPa:∀ i,i<11->Plain (w1.alloc (.cells (dV ea) 28)) (ea i):=fun i hi=>(Og i hi).below hb3
 obtain⟨c0,c1,c2,c3,c4,c5,c6,c7,c8,c9,c10,_,_,_,_,_⟩:=E1;obtain⟨w2,hw2⟩:∃ w2,w2=w1.alloc (.cells (dV ea) 28):=⟨_,rfl⟩;rw[<-hw2] at hb2 hcell hP hPa;have H2:Hid (∀ (w':World),w'=w1.alloc (.cells (dV ea) 28)->w'=w2):=fun w' h=>h.trans hw2.symm
 clear hw2;go_wp2_with fail;have hw:=H2.out _ rfl;unfold dV at hw;rw[hw];go_loop [3,29] (fun a i=>a = .int .i64 (-1)/\∃ k:Nat,k<=m/\i = .int .i64 k) (fun _ i=>11-(intOf i).toNat);case atStart=>exact⟨rfl,0,Nat.zero_le _,rfl⟩
 case round=>
  obtain⟨rfl,k,hk,rfl⟩:=hrel;by_cases zL:k<11
  ·have hck:=hcell k zL;by_cases hkm:k<m
   ·have hne:=hno k hkm;obtain⟨ca,ta,hA⟩:=hP;obtain⟨cb,tb,hC⟩:=hPa k zL;go_wp2_with (go_at_call 45;refine (LM p (ea k) ca cb ta tb _ (Ne.symm hne) hA hC).mono ?_;rintro e w' ⟨rfl,rfl⟩);go_round;case rel=>exact⟨rfl,k+1,by omega,by go_num⟩
    case measure=>simp[intOf];omega
   ·have LQ:k=m:=by omega
    subst LQ;have hpe:=hyes zL;subst hpe;go_wp2_with (go_at_call 45;refine (Pz (ea k) _).mono ?_;rintro e w' ⟨rfl,rfl⟩);go_ret2;exact⟨by simp,hb2⟩
  ·have hkm:m=11:=by omega
   subst hkm;obtain rfl:k=11:=by omega
   go_wp2;go_ret2;exact⟨by simp,hb2⟩
end Go.Proofs.YtnonoiafongllaaGreatDoor
namespace Go.Proofs.YtnonoiafongllaaGreatDoor
open Go.RowKit
end Go.Proofs.YtnonoiafongllaaGreatDoor
namespace Go.Proofs.YtnonoiafongllaaGreatDoor
open Go.RowKit
theorem F8 {B:Nat} {ea:Nat->Addr} (w:World) (E:Env B ea w) (hB:B<=w.heap.size) (pb po:Nat) (n:Int) (m:Nat) (hm:m<11) (ha:w.cell? ⟨pb,po,none⟩=some (.int .i64 n)) (he:w.cell? ⟨pb,po+1,none⟩=some (.iface 235 (.pointer (some (ea m))))) :
  Calls Tryz.prog 25 #[.iface 77 (.pointer (some ⟨pb,po,none⟩))] w fun e w'=>e = .returned (.tuple #[.int .i64 ((m:Int)+1),.int .i64 n])/\Below w.heap.size w w':=by
 have hl:=E.low;have hpb:pb<w.heap.size:=by
  rcases Nat.lt_or_ge pb w.heap.size with h | h
  ·exact h
  ·simp[World.cell?,Array.getElem?_eq_none h] at ha
 have hb0:Below w.heap.size w (w.alloc (.cells #[.pointer none] 77)):=(Below.refl _ _).alloc (Nat.le_refl _) _;have hg:=(E.below hb0 hB).typ;have h1:(w.alloc (.cells #[.pointer none] 77)).cell? ⟨w.heap.size,0,none⟩=some (.pointer none):=by simp
 have h2:(w.alloc (.cells #[.pointer none] 77)).frozen? ⟨w.heap.size,0,none⟩=false:=by simp
 have hno:∀ j,j<m->ea j≠ea m:=fun j hj he=>by have:=E.inj j m (by omega) hm he;omega
 go_enter Tryz.func25,Tryz.ntmps25;go_wp2_with fail;refine (I8 ⟨pb,po,none⟩ ⟨w.heap.size,0,none⟩ _ _ hg h1 h2).mono ?_;rintro e w1 ⟨rfl,hw1⟩;have hb:Below w.heap.size w w1:=by
  rw[hw1];exact (((((Below.refl w.heap.size w).alloc (Nat.le_refl _) _).alloc (by simp) _).alloc (by simp;omega) _).alloc (by simp;omega) _ |>.alloc (by simp;omega) _).setCell (Nat.le_refl _) _
 have hcf:w1.cell? ⟨w.heap.size,0,none⟩=some (.pointer (some ⟨pb,po,none⟩)):=by
  rw[hw1];refine World.cell?_setCell_same _ _ _ (u:=.pointer none) ?_;rw[World.cell?_alloc_lt _ _ ⟨w.heap.size,0,none⟩ (by simp;omega),World.cell?_alloc_lt _ _ ⟨w.heap.size,0,none⟩ (by simp;omega),World.cell?_alloc_lt _ _ ⟨w.heap.size,0,none⟩ (by simp;omega),World.cell?_alloc_lt _ _ ⟨w.heap.size,0,none⟩ (by simp)];simp
 have E1:=E.below hb hB;have ha1:w1.cell? ⟨pb,po,none⟩=some (.int .i64 n):=(hb.cell (p:=⟨pb,po,none⟩) hpb).trans ha;have he1:w1.cell? ⟨pb,po+1,none⟩=some (.iface 235 (.pointer (some (ea m)))):=(hb.cell (p:=⟨pb,po+1,none⟩) hpb).trans he;clear hw1 h1 h2 ha he hg hb0;have hcs:=wR ea;have Og:∀ i,i<11->Plain w1 (ea i):=E1.blk;have hb2:Below w.heap.size w (w1.alloc (.cells (dV ea) 28)):=hb.alloc hb.size _;have hb3:Below w1.heap.size w1 (w1.alloc (.cells (dV ea) 28)):=(Below.refl _ _).alloc (Nat.le_refl _) _;have hcell:∀ k,k<11->(w1.alloc (.cells (dV ea) 28)).cell? ⟨w1.heap.size,k,none⟩=some (.iface 235 (.pointer (some (ea k)))):=fun k hk=>by rw[World.cell?_alloc_at _ _ _ _ rfl];exact hcs k hk
 have hPa:∀ i,i<11->Plain (w1.alloc (.cells (dV ea) 28)) (ea i):=fun i hi=>(Og i hi).below hb3
 have he2:(w1.alloc (.cells (dV ea) 28)).cell? ⟨pb,po+1,none⟩=some (.iface 235 (.pointer (some (ea m)))):=(hb3.cell (p:=⟨pb,po+1,none⟩) (Nat.lt_of_lt_of_le hpb hb.size)).trans he1;obtain⟨c0,c1,c2,c3,c4,c5,c6,c7,c8,c9,c10,_,_,_,_,_⟩:=E1;clear hcs Og hb3 he1;obtain⟨w2,hw2⟩:∃ w2,w2=w1.alloc (.cells (dV ea) 28):=⟨_,rfl⟩;rw[<-hw2] at hb2 hcell hPa he2;have H2:Hid (∀ (w':World),w'=w1.alloc (.cells (dV ea) 28)->w'=w2):=fun w' h=>h.trans hw2.symm
 clear hw2;go_wp2_with fail;have hw:=H2.out _ rfl;unfold dV at hw;rw[hw];clear hw H2 c0 c1 c2 c3 c4 c5 c6 c7 c8 c9 c10 hcf ha1;go_loop [3,29] (fun a i=>a = .int .i64 n/\∃ k:Nat,k<=m/\i = .int .i64 k) (fun _ i=>11-(intOf i).toNat);case atStart=>exact⟨rfl,0,Nat.zero_le _,rfl⟩
 case round=>
  obtain⟨rfl,k,hk,rfl⟩:=hrel;have zL:k<11:=by omega
  have hck:=hcell k zL;by_cases hkm:k<m
  ·have hne:=hno k hkm;obtain⟨ca,ta,hA⟩:=hPa m hm;obtain⟨cb,tb,hC⟩:=hPa k zL;clear hcell hPa;go_wp2_with (go_at_call 45;refine (zK pb po (ea k) (ea m) ca cb ta tb _ he2 (Ne.symm hne) hA hC).mono ?_;rintro e w' ⟨rfl,rfl⟩);go_round;case rel=>exact⟨rfl,k+1,by omega,by go_num⟩
   case measure=>simp[intOf];omega
  ·have LQ:k=m:=by omega
   subst LQ;clear hcell hPa;go_wp2_with (go_at_call 45;refine (BI pb po (ea k) _ he2).mono ?_;rintro e w' ⟨rfl,rfl⟩);go_ret2;exact⟨by simp,hb2⟩
end Go.Proofs.YtnonoiafongllaaGreatDoor
