import Derived.Test.YtcemkhalbjhdkaaGreatDoorProg
import Derived.WalkKit
import Derived.LaidEql
import Derived.Stop.Asserts
import Derived.RowKitTokens
set_option maxHeartbeats 1000000
namespace Go.Proofs.YtcemkhalbjhdkaaGreatDoor
open Go.RowKit Go.Extern.Stop Go.Stop Go.Extern
theorem WB (t:Value) (w:World) :
  Calls Tryz.prog 63 #[.nilIface,t] w fun e w'=>e = .returned (.bool false)/\w'=w:=by
 go_enter Tryz.func63,Tryz.ntmps63;go_wp2;go_ret;exact⟨rfl,rfl⟩
theorem Tryz.valueOfPP (t:Addr) (w:World):(ReflectliteValue.unpack (.iface 118 (.pointer (some t)))).run Tryz.prog w
  = .ok (.agg #[.pointer (some ⟨21,118,none⟩),.pointer (some ⟨w.heap.size,0,none⟩),.int .u64 150]) (w.alloc (.cells #[.pointer (some t)] 118)):=by kernel_rfl
theorem Tryz.typePP (a:Addr) (w:World):(ReflectliteValue.methodAny (ReflectliteValue.valueError "reflectlite.Value.Type" 0) (fun t _ _ _=>ReflectliteType.toType t) #[.agg #[.pointer (some ⟨21,118,none⟩),.pointer (some a),.int .u64 150]]).run Tryz.prog w
  = .ok (.iface 182 (.agg #[.pointer (some ⟨21,118,none⟩)])) w:=by kernel_rfl
theorem Tryz.methodKind (h:Value) (w:World):(Go.method 442 182 (.agg #[h]) "Kind").run Tryz.prog w = .ok (244,h) w:=by kernel_rfl
theorem Tryz.kindPP (w:World):((ReflectliteType.abiMethod fun t=>(fun a:Nat=>Value.int IntKind.u8 (a:Int)) <$> Rtype.kind t) #[.pointer (some ⟨21,118,none⟩)]).run Tryz.prog w = .ok (.int .u8 22) w:=by kernel_rfl
theorem Tryz.kindP (w:World):((ReflectliteType.abiMethod fun t=>(fun a:Nat=>Value.int IntKind.u8 (a:Int)) <$> Rtype.kind t) #[.pointer (some ⟨21,116,none⟩)]).run Tryz.prog w = .ok (.int .u8 22) w:=by kernel_rfl
theorem rlm (z:Sem Value) (f:TypeId->Addr->Nat->Nat->Sem Value) (v:Value) :
  ReflectliteValue.method z f #[v]=(do match <-ReflectliteValue.parts v with | none=>z | some (t,a,fl)=>f t a fl (fl % 32)):=rfl
theorem Tryz.partsPP (a:Addr) (w:World):(ReflectliteValue.parts (.agg #[.pointer (some ⟨21,118,none⟩),.pointer (some a),.int .u64 150])).run Tryz.prog w = .ok (some (118,a,150)) w:=by kernel_rfl
theorem Tryz.isNilPP (a p:Addr) (W:World) (ha:W.cell? a=some (.pointer (some p))) :
  (ReflectliteValue.method (ReflectliteValue.valueError "reflectlite.Value.IsNil" 0) ReflectliteValue.isNil #[.agg #[.pointer (some ⟨21,118,none⟩),.pointer (some a),.int .u64 150]]).run Tryz.prog W = .ok (.bool false) W:=by
 rw[rlm];simp only[Sem.run_bind,Tryz.partsPP,Result.andThen];simp[ReflectliteValue.isNil,loadVar,isAgg,underlying,Tryz.underlying118,ha,Result.andThen]
theorem Tryz.methodElem (h:Value) (w:World):(Go.method 442 182 (.agg #[h]) "Elem").run Tryz.prog w = .ok (256,.agg #[h]) w:=by kernel_rfl
theorem Tryz.methodImplements (h:Value) (w:World):(Go.method 442 182 (.agg #[h]) "Implements").run Tryz.prog w = .ok (257,.agg #[h]) w:=by kernel_rfl
theorem Tryz.methodAssignableTo (h:Value) (w:World):(Go.method 442 182 (.agg #[h]) "AssignableTo").run Tryz.prog w = .ok (254,.agg #[h]) w:=by kernel_rfl
theorem Tryz.elemPP (w:World):(ReflectliteType.method ReflectliteType.elem #[.agg #[.pointer (some ⟨21,118,none⟩)]]).run Tryz.prog w = .ok (.iface 182 (.agg #[.pointer (some ⟨21,116,none⟩)])) w:=by kernel_rfl
theorem Tryz.implementsP (w:World):(ReflectliteType.relation "Implements" ReflectliteType.implements_ #[.agg #[.pointer (some ⟨21,116,none⟩)],.iface 182 (.agg #[.pointer (some ⟨21,27,none⟩)])]).run Tryz.prog w = .ok (.bool true) w:=by kernel_rfl
theorem Tryz.typeOfP (v:Value) (w:World):(ReflectliteType.typeOf #[.iface 116 v]).run Tryz.prog w = .ok (.iface 182 (.agg #[.pointer (some ⟨21,116,none⟩)])) w:=by kernel_rfl
theorem Tryz.typeOfE (v:Value) (w:World):(ReflectliteType.typeOf #[.iface 311 v]).run Tryz.prog w = .ok (.iface 182 (.agg #[.pointer (some ⟨21,311,none⟩)])) w:=by kernel_rfl
theorem Tryz.assignableP (w:World):(ReflectliteType.relation "AssignableTo" ReflectliteType.assignableTo #[.agg #[.pointer (some ⟨21,116,none⟩)],.iface 182 (.agg #[.pointer (some ⟨21,116,none⟩)])]).run Tryz.prog w = .ok (.bool true) w:=by kernel_rfl
theorem Tryz.assignableE (w:World):(ReflectliteType.relation "AssignableTo" ReflectliteType.assignableTo #[.agg #[.pointer (some ⟨21,311,none⟩)],.iface 182 (.agg #[.pointer (some ⟨21,116,none⟩)])]).run Tryz.prog w = .ok (.bool false) w:=by kernel_rfl
theorem Tryz.valueOfP (e:Addr) (w:World):(ReflectliteValue.unpack (.iface 116 (.pointer (some e)))).run Tryz.prog w
  = .ok (.agg #[.pointer (some ⟨21,116,none⟩),.pointer (some ⟨w.heap.size,0,none⟩),.int .u64 150]) (w.alloc (.cells #[.pointer (some e)] 116)):=by kernel_rfl
theorem Tryz.elemOfPP (w:World):(Rtype.elem? 118).run Tryz.prog w = .ok (some 116) w:=by kernel_rfl
theorem Tryz.mkP (p:Addr) (w:World):(ReflectliteValue.mk 116 p ReflectliteValue.flagAddr).run Tryz.prog w = .ok (.agg #[.pointer (some ⟨21,116,none⟩),.pointer (some p),.int .u64 406]) w:=by kernel_rfl
theorem Tryz.elemVPP (a p:Addr) (W:World) (ha:W.cell? a=some (.pointer (some p))) :
  (ReflectliteValue.method (ReflectliteValue.valueError "reflectlite.Value.Elem" 0) ReflectliteValue.elem #[.agg #[.pointer (some ⟨21,118,none⟩),.pointer (some a),.int .u64 150]]).run Tryz.prog W
   = .ok (.agg #[.pointer (some ⟨21,116,none⟩),.pointer (some p),.int .u64 406]) W:=by
 rw[rlm];simp only[Sem.run_bind,Tryz.partsPP,Result.andThen];simp[ReflectliteValue.elem,loadVar,isAgg,underlying,Tryz.underlying118,ha,Result.andThen,Tryz.elemOfPP,Tryz.mkP]
theorem rls (v x:Value):ReflectliteValue.set #[v,x]=(do
  let (some (dst,a,fl),some (src,b,_)):=(<-ReflectliteValue.parts v,<-ReflectliteValue.parts x)
   | unsupported (.noEntry "extern/(internal/reflectlite.Value).Set.zeroValue")
  if fl / ReflectliteValue.flagAddr % 2==0 then unsupported (.noEntry "extern/(internal/reflectlite.Value).Set.unaddressable")
  let val <-loadVar src b
  if <-Rtype.directlyAssignable dst src then storeVar dst a val
  else if <-Rtype.implements dst src then
   if (<-Rtype.kind src)==20 then
    match val with
    | .nilIface=>unsupported (.noEntry "extern/reflectlite: a nil value of one interface type handed on as a value of another")
    | _=>storeVar dst a val
   else storeVar dst a (.iface src val)
  else panicString ("reflectlite.Set: value of type " ++ (<-Rtype.spelt src) ++ " is not assignable to type " ++ (<-Rtype.spelt dst))
  pure (.tuple #[])):=rfl
theorem Tryz.partsPa (a:Addr) (w:World):(ReflectliteValue.parts (.agg #[.pointer (some ⟨21,116,none⟩),.pointer (some a),.int .u64 406])).run Tryz.prog w = .ok (some (116,a,406)) w:=by kernel_rfl
theorem Tryz.partsP (a:Addr) (w:World):(ReflectliteValue.parts (.agg #[.pointer (some ⟨21,116,none⟩),.pointer (some a),.int .u64 150])).run Tryz.prog w = .ok (some (116,a,150)) w:=by kernel_rfl
theorem Tryz.directP (w:World):(Rtype.directlyAssignable 116 116).run Tryz.prog w = .ok true w:=by kernel_rfl
theorem Tryz.setP (ta b e:Addr) (old:Value) (W:World) (hb:W.cell? b=some (.pointer (some e))) (ht:W.cell? ta=some old) (hf:W.frozen? ta=false) :
  (ReflectliteValue.set #[.agg #[.pointer (some ⟨21,116,none⟩),.pointer (some ta),.int .u64 406],.agg #[.pointer (some ⟨21,116,none⟩),.pointer (some b),.int .u64 150]]).run Tryz.prog W
   = .ok (.tuple #[]) (W.setCell ta (.pointer (some e))):=by
 rw[rls];simp only[Sem.run_bind,Tryz.partsPa,Tryz.partsP,Result.andThen];simp[ReflectliteValue.flagAddr,loadVar,isAgg,underlying,Tryz.underlying116,hb,Result.andThen,Tryz.directP,storeVar,Value.cells,storeCells,Addr.add];rw[run_store Tryz.prog W ta _ _ (by rfl)];simp[ht,hf]
theorem Tryz.noAsE (v:Value) (xT:TypeId) (w:World):(Instr.typeAssert (.iface 311 v) xT 186 true).run Tryz.prog w = .ok (.tuple #[.nilIface,.bool false]) w:=run_typeAssert_lacksB Tryz.underlying186 (by kernel_rfl) (by kernel_rfl) v xT w
theorem Tryz.noIsE (v:Value) (xT:TypeId) (w:World):(Instr.typeAssert (.iface 311 v) xT 193 true).run Tryz.prog w = .ok (.tuple #[.nilIface,.bool false]) w:=run_typeAssert_lacksB Tryz.underlying193 (by kernel_rfl) (by kernel_rfl) v xT w
theorem Tryz.noUnwrapE (v:Value) (xT:TypeId) (w:World):(Instr.typeAssert (.iface 311 v) xT 189 true).run Tryz.prog w = .ok (.tuple #[.nilIface,.bool false]) w:=run_typeAssert_lacksB Tryz.underlying189 (by kernel_rfl) (by kernel_rfl) v xT w
theorem Tryz.noUnwrapsE (v:Value) (xT:TypeId) (w:World):(Instr.typeAssert (.iface 311 v) xT 191 true).run Tryz.prog w = .ok (.tuple #[.nilIface,.bool false]) w:=run_typeAssert_lacksB Tryz.underlying191 (by kernel_rfl) (by kernel_rfl) v xT w
theorem Tryz.noIsF (v:Value) (xT:TypeId) (w:World):(Instr.typeAssert (.iface 116 v) xT 193 true).run Tryz.prog w = .ok (.tuple #[.nilIface,.bool false]) w:=run_typeAssert_lacksB Tryz.underlying193 (by kernel_rfl) (by kernel_rfl) v xT w
theorem Tryz.hasUnwrapF (v:Value) (xT:TypeId) (w:World):(Instr.typeAssert (.iface 116 v) xT 189 true).run Tryz.prog w = .ok (.tuple #[.iface 116 v,.bool true]) w:=run_typeAssert_hasB Tryz.underlying189 (by kernel_rfl) v xT w
theorem Tryz.methodUnwrap (v:Value) (w:World):(Go.method 442 116 v "Unwrap").run Tryz.prog w = .ok (249,v) w:=by kernel_rfl
theorem LA (p t:Addr) (w:World) (hg:w.cell? ⟨11,0,none⟩=some (.iface 182 (.agg #[.pointer (some ⟨21,27,none⟩)]))) :
  Calls Tryz.prog 63 #[.iface 311 (.pointer (some p)),.iface 118 (.pointer (some t))] w fun ev w'=>ev = .returned (.bool false)/\Below w.heap.size w w':=by
 have h6:=@run_callFunc_extern Tryz.prog 89 _ (fun args=>ReflectliteValue.unpack (args.getD 0 (.tuple #[]))) Tryz.func89 (by kernel_rfl) (by kernel_rfl) (by kernel_rfl) (by kernel_rfl);have h7:=@run_callFunc_extern Tryz.prog 90 _ (ReflectliteValue.methodAny (ReflectliteValue.valueError "reflectlite.Value.Type" 0) (fun t _ _ _=>ReflectliteType.toType t)) Tryz.func90 (by kernel_rfl) (by kernel_rfl) (by kernel_rfl) (by kernel_rfl);have h8:=@run_callFunc_extern Tryz.prog 91 _ (ReflectliteValue.method (ReflectliteValue.valueError "reflectlite.Value.IsNil" 0) ReflectliteValue.isNil) Tryz.func91 (by kernel_rfl) (by kernel_rfl) (by kernel_rfl) (by kernel_rfl);have h27:=@run_callFunc_extern Tryz.prog 244 _ (ReflectliteType.abiMethod fun t=>do pure (.int .u8 (<-Rtype.kind t))) Tryz.func244 (by kernel_rfl) (by kernel_rfl) (by kernel_rfl) (by kernel_rfl);have h37:=@run_callFunc_extern Tryz.prog 256 _ (ReflectliteType.method ReflectliteType.elem) Tryz.func256 (by kernel_rfl) (by kernel_rfl) (by kernel_rfl) (by kernel_rfl);have h38:=@run_callFunc_extern Tryz.prog 257 _ (ReflectliteType.relation "Implements" ReflectliteType.implements_) Tryz.func257 (by kernel_rfl) (by kernel_rfl) (by kernel_rfl) (by kernel_rfl);have h10:=@run_callFunc_extern Tryz.prog 93 _ ReflectliteType.typeOf Tryz.func93 (by kernel_rfl) (by kernel_rfl) (by kernel_rfl) (by kernel_rfl);have h35:=@run_callFunc_extern Tryz.prog 254 _ (ReflectliteType.relation "AssignableTo" ReflectliteType.assignableTo) Tryz.func254 (by kernel_rfl) (by kernel_rfl) (by kernel_rfl) (by kernel_rfl);have tO:=Tryz.typeOfE;have mA:=Tryz.methodAssignableTo;have aE:=Tryz.assignableE;have f6:=Tryz.valueOfPP;have f7:=Tryz.typePP;have mK:=Tryz.methodKind;have mE:=Tryz.methodElem;have mI:=Tryz.methodImplements;have kPP:=Tryz.kindPP;have kP:=Tryz.kindP;have ePP:=Tryz.elemPP;have iP:=Tryz.implementsP;have nA:=Tryz.noAsE;have nU:=Tryz.noUnwrapE;have nV:=Tryz.noUnwrapsE;have n8:=Tryz.isNilPP ⟨w.heap.size,0,none⟩ t ((w.alloc (.cells #[.pointer (some t)] 118)).alloc (.cells #[.pointer (some ⟨21,118,none⟩),.pointer (some ⟨w.heap.size,0,none⟩),.int .u64 150] 154)) (by simp);have hlt:11<w.heap.size:=by
  rcases Nat.lt_or_ge 11 w.heap.size with h | h
  ·exact h
  ·simp[World.cell?,Array.getElem?_eq_none h] at hg
 have hg2:((w.alloc (.cells #[.pointer (some t)] 118)).alloc (.cells #[.pointer (some ⟨21,118,none⟩),.pointer (some ⟨w.heap.size,0,none⟩),.int .u64 150] 154)).cell? ⟨11,0,none⟩=some (.iface 182 (.agg #[.pointer (some ⟨21,27,none⟩)])):=by
  rw[World.cell?_alloc_lt _ _ ⟨11,0,none⟩ (by simp;omega),World.cell?_alloc_lt _ _ ⟨11,0,none⟩ hlt];exact hg
 go_enter Tryz.func63,Tryz.ntmps63;go_wp2;refine wp_loop_rounds 1 ?_;rw[rounds_succ];go_wp2;go_ret;exact⟨rfl,(((Below.refl _ _).alloc (Nat.le_refl _) _).alloc (by simp) _).alloc (by simp;omega) _⟩
end Go.Proofs.YtcemkhalbjhdkaaGreatDoor
namespace Go.Proofs.YtcemkhalbjhdkaaGreatDoor
open Go.RowKit Go.Extern.Stop Go.Stop Go.Extern
def sK:Array Value->Sem Value:=Extern.ReflectliteType.method fun t=>do Rtype.noPackHeld "Comparable" t;pure (.bool (<-typeInfo t).comparable)
theorem Tryz.isComparable (w:World):(sK #[.agg #[.pointer (some ⟨21,311,none⟩)]]).run Tryz.prog w = .ok (.bool true) w:=by kernel_rfl
theorem Tryz.isMethodComparable (v:Value) (w:World):(Go.method 442 182 v "Comparable").run Tryz.prog w = .ok (255,v) w:=by kernel_rfl
theorem Tryz.isComp:(Tryz.prog.info? 311).map (·.comparable)=some true:=by kernel_rfl
theorem Tryz.isSize:(Tryz.prog.info? 313).map (·.size)=some 1:=by kernel_rfl
theorem Vp (a:Addr) (w:World) :
  Calls Tryz.prog 64 #[.iface 311 (.pointer (some a)),.iface 311 (.pointer (some a))] w fun e w'=>e = .returned (.bool true)/\w'=w:=by
 obtain⟨i,hi,hcmp⟩:=Option.map_eq_some_iff.1 Tryz.isComp;obtain⟨j,hj,hjs⟩:=Option.map_eq_some_iff.1 Tryz.isSize;have h8:=@run_callFunc_extern Tryz.prog 93 _ Extern.ReflectliteType.typeOf Tryz.func93 (by kernel_rfl) (by kernel_rfl) (by kernel_rfl) (by kernel_rfl);have h32:=@run_callFunc_extern Tryz.prog 255 _ sK Tryz.func255 (by kernel_rfl) (by kernel_rfl) (by kernel_rfl) (by kernel_rfl);have tT:=Tryz.typeOfE;have cT:=Tryz.isComparable;have mR:=Tryz.isMethodComparable;have heq:=run_eql_iface_ptr_same (P:=Tryz.prog) w a Tryz.underlying27 Tryz.underlying311 hi hcmp hj;go_enter Tryz.func64,Tryz.ntmps64;go_wp2;refine wp_loop_rounds 1 ?_;rw[rounds_succ];go_wp2;go_ret;exact⟨rfl,rfl⟩
theorem Rk (a b:Addr) (ca cb:Array Value) (ta tb:TypeId) (w:World) (hne:a≠b) (ha:w.heap[a.block]? = some (.cells ca ta (0,0))) (hb:w.heap[b.block]? = some (.cells cb tb (0,0))) :
  Calls Tryz.prog 64 #[.iface 311 (.pointer (some a)),.iface 311 (.pointer (some b))] w fun e w'=>e = .returned (.bool false)/\w'=w:=by
 obtain⟨i,hi,hcmp⟩:=Option.map_eq_some_iff.1 Tryz.isComp;obtain⟨j,hj,hjs⟩:=Option.map_eq_some_iff.1 Tryz.isSize;have h8:=@run_callFunc_extern Tryz.prog 93 _ Extern.ReflectliteType.typeOf Tryz.func93 (by kernel_rfl) (by kernel_rfl) (by kernel_rfl) (by kernel_rfl);have h32:=@run_callFunc_extern Tryz.prog 255 _ sK Tryz.func255 (by kernel_rfl) (by kernel_rfl) (by kernel_rfl) (by kernel_rfl);have tT:=Tryz.typeOfE;have cT:=Tryz.isComparable;have mR:=Tryz.isMethodComparable;have nE:=Tryz.noIsE;have uE:=Tryz.noUnwrapE;have vE:=Tryz.noUnwrapsE;have heq:=run_eql_iface_ptr_other (P:=Tryz.prog) w Tryz.underlying27 Tryz.underlying311 hi hcmp hj (by rw[hjs];decide) hne ha hb;go_enter Tryz.func64,Tryz.ntmps64;go_wp2;refine wp_loop_rounds 1 ?_;rw[rounds_succ];go_wp2;go_ret;exact⟨rfl,rfl⟩
theorem GY (pb po:Nat) (b:Addr) (w:World) (h1:w.cell? ⟨pb,po+1,none⟩=some (.iface 311 (.pointer (some b)))) :
  Calls Tryz.prog 64 #[.iface 116 (.pointer (some ⟨pb,po,none⟩)),.iface 311 (.pointer (some b))] w fun e w'=>e = .returned (.bool true)/\w'=w:=by
 obtain⟨i,hi,hcmp⟩:=Option.map_eq_some_iff.1 Tryz.isComp;obtain⟨j,hj,hjs⟩:=Option.map_eq_some_iff.1 Tryz.isSize;have h8:=@run_callFunc_extern Tryz.prog 93 _ Extern.ReflectliteType.typeOf Tryz.func93 (by kernel_rfl) (by kernel_rfl) (by kernel_rfl) (by kernel_rfl);have h32:=@run_callFunc_extern Tryz.prog 255 _ sK Tryz.func255 (by kernel_rfl) (by kernel_rfl) (by kernel_rfl) (by kernel_rfl);have tT:=Tryz.typeOfE;have cT:=Tryz.isComparable;have mR:=Tryz.isMethodComparable;have nW:=Tryz.noIsF;have uW:=Tryz.hasUnwrapF;have mU:=Tryz.methodUnwrap;have heq:=run_eql_iface_ptr_same (P:=Tryz.prog) w b Tryz.underlying27 Tryz.underlying311 hi hcmp hj;have hty:=run_eql_iface_types (P:=Tryz.prog) 116 311 (.pointer (some ⟨pb,po,none⟩)) (.pointer (some b)) Tryz.underlying27 (by decide) w;go_enter Tryz.func64,Tryz.ntmps64;go_wp2;refine wp_loop_rounds 2 ?_;rw[rounds_succ];go_wp2;rw[rounds_succ];go_wp2;go_ret;exact⟨rfl,rfl⟩
theorem EF (pb po:Nat) (b a:Addr) (ca cb:Array Value) (ta tb:TypeId) (w:World) (h1:w.cell? ⟨pb,po+1,none⟩=some (.iface 311 (.pointer (some a)))) (hne:a≠b) (ha:w.heap[a.block]? = some (.cells ca ta (0,0))) (hb:w.heap[b.block]? = some (.cells cb tb (0,0))) :
  Calls Tryz.prog 64 #[.iface 116 (.pointer (some ⟨pb,po,none⟩)),.iface 311 (.pointer (some b))] w fun e w'=>e = .returned (.bool false)/\w'=w:=by
 obtain⟨i,hi,hcmp⟩:=Option.map_eq_some_iff.1 Tryz.isComp;obtain⟨j,hj,hjs⟩:=Option.map_eq_some_iff.1 Tryz.isSize;have h8:=@run_callFunc_extern Tryz.prog 93 _ Extern.ReflectliteType.typeOf Tryz.func93 (by kernel_rfl) (by kernel_rfl) (by kernel_rfl) (by kernel_rfl);have h32:=@run_callFunc_extern Tryz.prog 255 _ sK Tryz.func255 (by kernel_rfl) (by kernel_rfl) (by kernel_rfl) (by kernel_rfl);have tT:=Tryz.typeOfE;have cT:=Tryz.isComparable;have mR:=Tryz.isMethodComparable;have nE:=Tryz.noIsE;have uE:=Tryz.noUnwrapE;have vE:=Tryz.noUnwrapsE;have nW:=Tryz.noIsF;have uW:=Tryz.hasUnwrapF;have mU:=Tryz.methodUnwrap;have heq:=run_eql_iface_ptr_other (P:=Tryz.prog) w Tryz.underlying27 Tryz.underlying311 hi hcmp hj (by rw[hjs];decide) hne ha hb;have hty:=run_eql_iface_types (P:=Tryz.prog) 116 311 (.pointer (some ⟨pb,po,none⟩)) (.pointer (some b)) Tryz.underlying27 (by decide) w;go_enter Tryz.func64,Tryz.ntmps64;go_wp2;refine wp_loop_rounds 2 ?_;rw[rounds_succ];go_wp2;rw[rounds_succ];go_wp2;go_ret;exact⟨rfl,rfl⟩
end Go.Proofs.YtcemkhalbjhdkaaGreatDoor
namespace Go.Proofs.YtcemkhalbjhdkaaGreatDoor
open Go.RowKit Go.Extern.Stop Go.Stop Go.Extern
theorem Io (e t:Addr) (old:Value) (w:World) (hg:w.cell? ⟨11,0,none⟩=some (.iface 182 (.agg #[.pointer (some ⟨21,27,none⟩)]))) (ht0:w.cell? t=some old) (hf0:w.frozen? t=false) :
  Calls Tryz.prog 63 #[.iface 116 (.pointer (some e)),.iface 118 (.pointer (some t))] w fun ev w'=>ev = .returned (.bool true)/\w'=((((w.alloc (.cells #[.pointer (some t)] 118)).alloc (.cells #[.pointer (some ⟨21,118,none⟩),.pointer (some ⟨w.heap.size,0,none⟩),.int .u64 150] 154)).alloc (.cells #[.pointer (some ⟨21,118,none⟩),.pointer (some ⟨w.heap.size,0,none⟩),.int .u64 150] 154)).alloc (.cells #[.pointer (some e)] 116)).setCell t (.pointer (some e)):=by
 have h6:=@run_callFunc_extern Tryz.prog 89 _ (fun args=>ReflectliteValue.unpack (args.getD 0 (.tuple #[]))) Tryz.func89 (by kernel_rfl) (by kernel_rfl) (by kernel_rfl) (by kernel_rfl);have h7:=@run_callFunc_extern Tryz.prog 90 _ (ReflectliteValue.methodAny (ReflectliteValue.valueError "reflectlite.Value.Type" 0) (fun t _ _ _=>ReflectliteType.toType t)) Tryz.func90 (by kernel_rfl) (by kernel_rfl) (by kernel_rfl) (by kernel_rfl);have h8:=@run_callFunc_extern Tryz.prog 91 _ (ReflectliteValue.method (ReflectliteValue.valueError "reflectlite.Value.IsNil" 0) ReflectliteValue.isNil) Tryz.func91 (by kernel_rfl) (by kernel_rfl) (by kernel_rfl) (by kernel_rfl);have h27:=@run_callFunc_extern Tryz.prog 244 _ (ReflectliteType.abiMethod fun t=>do pure (.int .u8 (<-Rtype.kind t))) Tryz.func244 (by kernel_rfl) (by kernel_rfl) (by kernel_rfl) (by kernel_rfl);have h37:=@run_callFunc_extern Tryz.prog 256 _ (ReflectliteType.method ReflectliteType.elem) Tryz.func256 (by kernel_rfl) (by kernel_rfl) (by kernel_rfl) (by kernel_rfl);have h38:=@run_callFunc_extern Tryz.prog 257 _ (ReflectliteType.relation "Implements" ReflectliteType.implements_) Tryz.func257 (by kernel_rfl) (by kernel_rfl) (by kernel_rfl) (by kernel_rfl);have h10:=@run_callFunc_extern Tryz.prog 93 _ ReflectliteType.typeOf Tryz.func93 (by kernel_rfl) (by kernel_rfl) (by kernel_rfl) (by kernel_rfl);have h35:=@run_callFunc_extern Tryz.prog 254 _ (ReflectliteType.relation "AssignableTo" ReflectliteType.assignableTo) Tryz.func254 (by kernel_rfl) (by kernel_rfl) (by kernel_rfl) (by kernel_rfl);have h11:=@run_callFunc_extern Tryz.prog 117 _ (ReflectliteValue.method (ReflectliteValue.valueError "reflectlite.Value.Elem" 0) ReflectliteValue.elem) Tryz.func117 (by kernel_rfl) (by kernel_rfl) (by kernel_rfl) (by kernel_rfl);have h12:=@run_callFunc_extern Tryz.prog 118 _ ReflectliteValue.set Tryz.func118 (by kernel_rfl) (by kernel_rfl) (by kernel_rfl) (by kernel_rfl);have tO:=Tryz.typeOfP;have mA:=Tryz.methodAssignableTo;have aP:=Tryz.assignableP;have vP:=Tryz.valueOfP;have f6:=Tryz.valueOfPP;have f7:=Tryz.typePP;have mK:=Tryz.methodKind;have mE:=Tryz.methodElem;have mI:=Tryz.methodImplements;have kPP:=Tryz.kindPP;have kP:=Tryz.kindP;have ePP:=Tryz.elemPP;have iP:=Tryz.implementsP;have n8:=Tryz.isNilPP ⟨w.heap.size,0,none⟩ t ((w.alloc (.cells #[.pointer (some t)] 118)).alloc (.cells #[.pointer (some ⟨21,118,none⟩),.pointer (some ⟨w.heap.size,0,none⟩),.int .u64 150] 154)) (by simp);have hlt:11<w.heap.size:=by
  rcases Nat.lt_or_ge 11 w.heap.size with h | h
  ·exact h
  ·simp[World.cell?,Array.getElem?_eq_none h] at hg
 have hg2:((w.alloc (.cells #[.pointer (some t)] 118)).alloc (.cells #[.pointer (some ⟨21,118,none⟩),.pointer (some ⟨w.heap.size,0,none⟩),.int .u64 150] 154)).cell? ⟨11,0,none⟩=some (.iface 182 (.agg #[.pointer (some ⟨21,27,none⟩)])):=by
  rw[World.cell?_alloc_lt _ _ ⟨11,0,none⟩ (by simp;omega),World.cell?_alloc_lt _ _ ⟨11,0,none⟩ hlt];exact hg
 have htl:t.block<w.heap.size:=by
  rcases Nat.lt_or_ge t.block w.heap.size with h | h
  ·exact h
  ·simp[World.cell?,Array.getElem?_eq_none h] at ht0
 have el:=Tryz.elemVPP ⟨w.heap.size,0,none⟩ t (((w.alloc (.cells #[.pointer (some t)] 118)).alloc (.cells #[.pointer (some ⟨21,118,none⟩),.pointer (some ⟨w.heap.size,0,none⟩),.int .u64 150] 154)).alloc (.cells #[.pointer (some ⟨21,118,none⟩),.pointer (some ⟨w.heap.size,0,none⟩),.int .u64 150] 154)) (by rw[World.cell?_alloc_lt _ _ ⟨w.heap.size,0,none⟩ (by simp;omega)];simp);have st:=Tryz.setP t ⟨w.heap.size+1+1+1,0,none⟩ e old ((((w.alloc (.cells #[.pointer (some t)] 118)).alloc (.cells #[.pointer (some ⟨21,118,none⟩),.pointer (some ⟨w.heap.size,0,none⟩),.int .u64 150] 154)).alloc (.cells #[.pointer (some ⟨21,118,none⟩),.pointer (some ⟨w.heap.size,0,none⟩),.int .u64 150] 154)).alloc (.cells #[.pointer (some e)] 116))
  (by rw[World.cell?_alloc_at _ _ _ _ (by simp)];rfl)
  (by rw[World.cell?_alloc_lt _ _ t (by simp;omega),World.cell?_alloc_lt _ _ t (by simp;omega),World.cell?_alloc_lt _ _ t (by simp;omega),World.cell?_alloc_lt _ _ t htl];exact ht0)
  (by rw[World.frozen?_alloc_old _ _ t (by simp;omega),World.frozen?_alloc_old _ _ t (by simp;omega),World.frozen?_alloc_old _ _ t (by simp;omega),World.frozen?_alloc_old _ _ t (Nat.ne_of_lt htl)];exact hf0)
 go_enter Tryz.func63,Tryz.ntmps63;go_wp2;refine wp_loop_rounds 1 ?_;rw[rounds_succ];go_wp2;go_ret;exact⟨rfl,rfl⟩
end Go.Proofs.YtcemkhalbjhdkaaGreatDoor
namespace Go.Proofs.YtcemkhalbjhdkaaGreatDoor
open Go.RowKit
structure Env (B:Nat) (ea:Nat->Addr) (w:World):Prop where
 c0:w.cell? ⟨1,0,none⟩=some (.iface 311 (.pointer (some (ea 0))))
 c1:w.cell? ⟨0,0,none⟩=some (.iface 311 (.pointer (some (ea 1))))
 c2:w.cell? ⟨2,0,none⟩=some (.iface 311 (.pointer (some (ea 2))))
 c3:w.cell? ⟨3,0,none⟩=some (.iface 311 (.pointer (some (ea 3))))
 c4:w.cell? ⟨4,0,none⟩=some (.iface 311 (.pointer (some (ea 4))))
 c5:w.cell? ⟨5,0,none⟩=some (.iface 311 (.pointer (some (ea 5))))
 c6:w.cell? ⟨6,0,none⟩=some (.iface 311 (.pointer (some (ea 6))))
 c7:w.cell? ⟨7,0,none⟩=some (.iface 311 (.pointer (some (ea 7))))
 c8:w.cell? ⟨8,0,none⟩=some (.iface 311 (.pointer (some (ea 8))))
 c9:w.cell? ⟨9,0,none⟩=some (.iface 311 (.pointer (some (ea 9))))
 c10:w.cell? ⟨10,0,none⟩=some (.iface 311 (.pointer (some (ea 10))))
 typ:w.cell? ⟨11,0,none⟩=some (.iface 182 (.agg #[.pointer (some ⟨21,27,none⟩)]))
 blk:∀ i,i<11->∃ c t,w.heap[(ea i).block]? = some (.cells c t (0,0))
 lt:∀ i,i<11->(ea i).block<B
 inj:∀ i j,i<11->j<11->ea i=ea j->i=j
 low:11<B
theorem Env.below {B:Nat} {ea:Nat->Addr} {w w':World} (E:Env B ea w) {B':Nat} (h:Below B' w w') (hB:B<=B'):Env B ea w':=by
 have hl:=E.low;have hc:∀ g,g<=11->w'.cell? ⟨g,0,none⟩=w.cell? ⟨g,0,none⟩:=fun g hg=>h.cell (p:=⟨g,0,none⟩) (by show g<B';omega)
 exact
  {c0:=(hc _ (by omega)).trans E.c0
   c1:=(hc _ (by omega)).trans E.c1
   c2:=(hc _ (by omega)).trans E.c2
   c3:=(hc _ (by omega)).trans E.c3
   c4:=(hc _ (by omega)).trans E.c4
   c5:=(hc _ (by omega)).trans E.c5
   c6:=(hc _ (by omega)).trans E.c6
   c7:=(hc _ (by omega)).trans E.c7
   c8:=(hc _ (by omega)).trans E.c8
   c9:=(hc _ (by omega)).trans E.c9
   c10:=(hc _ (by omega)).trans E.c10
   typ:=(hc _ (by omega)).trans E.typ
   blk:=fun i hi=>by
    obtain⟨c,t,hh⟩:=E.blk i hi;exact⟨c,t,(h.block _ (Nat.lt_of_lt_of_le (E.lt i hi) hB)).trans hh⟩
   lt:=E.lt
   inj:=E.inj
   low:=E.low }
def Plain (w:World) (p:Addr):Prop:=∃ c t,w.heap[p.block]? = some (.cells c t (0,0))
theorem Plain.lt {w:World} {p:Addr} (h:Plain w p):p.block<w.heap.size:=by
 obtain⟨c,t,h⟩:=h;rcases Nat.lt_or_ge p.block w.heap.size with h' | h'
 ·exact h'
 ·simp[Array.getElem?_eq_none h'] at h
theorem Plain.below {w w':World} {p:Addr} (h:Plain w p) (hb:Below w.heap.size w w'):Plain w' p:=by
 have hl:=h.lt;obtain⟨c,t,hh⟩:=h;exact⟨c,t,(hb.block _ hl).trans hh⟩
def gT (ea:Nat->Addr):Array Value:=#[.iface 311 (.pointer (some (ea 0))),.iface 311 (.pointer (some (ea 1))),.iface 311 (.pointer (some (ea 2))),.iface 311 (.pointer (some (ea 3))),.iface 311 (.pointer (some (ea 4))),.iface 311 (.pointer (some (ea 5))),.iface 311 (.pointer (some (ea 6))),.iface 311 (.pointer (some (ea 7))),.iface 311 (.pointer (some (ea 8))),.iface 311 (.pointer (some (ea 9))),.iface 311 (.pointer (some (ea 10)))]
theorem BF (ea:Nat->Addr) (k:Nat) (hk:k<11):(gT ea)[k]? = some (.iface 311 (.pointer (some (ea k)))):=by
 match k,hk with
 | 0,_=>rfl
 | 1,_=>rfl
 | 2,_=>rfl
 | 3,_=>rfl
 | 4,_=>rfl
 | 5,_=>rfl
 | 6,_=>rfl
 | 7,_=>rfl
 | 8,_=>rfl
 | 9,_=>rfl
 | 10,_=>rfl
theorem Rl (w:World) :
  Calls Tryz.prog 36 #[.nilIface] w fun e w'=>e = .returned (.tuple #[.int .i64 0,.int .i64 (-1)])/\w'=w:=by
 go_enter Tryz.func36,Tryz.ntmps36;go_wp2;go_ret2;exact⟨rfl,rfl⟩
theorem Vq {B:Nat} {ea:Nat->Addr} (w:World) (E:Env B ea w) (hB:B<=w.heap.size) (p:Addr) (hp:Plain w p) (m:Nat) (hm:m<=11) (hno:∀ j,j<m->ea j≠p) (hyes:m<11->ea m=p) :
  Calls Tryz.prog 36 #[.iface 311 (.pointer (some p))] w fun e w'=>e = .returned (.tuple #[.int .i64 (if m<11 then (m:Int)+1 else -1),.int .i64 (-1)])/\Below w.heap.size w w':=by
 have hl:=E.low;have hb0:Below w.heap.size w (w.alloc (.cells #[.pointer none] 116)):=(Below.refl _ _).alloc (Nat.le_refl _) _;have hg:=(E.below hb0 hB).typ;go_enter Tryz.func36,Tryz.ntmps36;go_wp2_with fail;refine (LA p ⟨w.heap.size,0,none⟩ _ hg).mono ?_;rintro e w1 ⟨rfl,hb⟩;have hb1:=hb0.trans (hb.mono (by simp));have E1:=E.below hb1 hB;have hcs:=BF ea;have hP1:Plain w1 p:=hp.below hb1;have OT:∀ i,i<11->Plain w1 (ea i):=E1.blk;have hb2:Below w.heap.size w (w1.alloc (.cells (gT ea) 27)):=hb1.alloc hb1.size _;have hb3:Below w1.heap.size w1 (w1.alloc (.cells (gT ea) 27)):=(Below.refl _ _).alloc (Nat.le_refl _) _;have hcell:∀ k,k<11->(w1.alloc (.cells (gT ea) 27)).cell? ⟨w1.heap.size,k,none⟩=some (.iface 311 (.pointer (some (ea k)))):=fun k hk=>by rw[World.cell?_alloc_at _ _ _ _ rfl];exact hcs k hk
 have hP:Plain (w1.alloc (.cells (gT ea) 27)) p:=hP1.below hb3;have hPa:∀ i,i<11->Plain (w1.alloc (.cells (gT ea) 27)) (ea i):=fun i hi=>(OT i hi).below hb3
 obtain⟨c0,c1,c2,c3,c4,c5,c6,c7,c8,c9,c10,_,_,_,_,_⟩:=E1;clear hb hg hb0 hcs hP1 OT hb3;obtain⟨w2,hw2⟩:∃ w2,w2=w1.alloc (.cells (gT ea) 27):=⟨_,rfl⟩;rw[<-hw2] at hb2 hcell hP hPa;have H2:Hid (∀ (w':World),w'=w1.alloc (.cells (gT ea) 27)->w'=w2):=fun w' h=>h.trans hw2.symm
 clear hw2;go_wp2_with fail;have hw:=H2.out _ rfl;unfold gT at hw;rw[hw];clear hw H2 c0 c1 c2 c3 c4 c5 c6 c7 c8 c9 c10;go_loop [3,29] (fun a i=>a = .int .i64 (-1)/\∃ k:Nat,k<=m/\i = .int .i64 k) (fun _ i=>11-(intOf i).toNat);case atStart=>exact⟨rfl,0,Nat.zero_le _,rfl⟩
 case round=>
  obtain⟨rfl,k,hk,rfl⟩:=hrel;by_cases EG:k<11
  ·have hck:=hcell k EG;by_cases hkm:k<m
   ·have hne:=hno k hkm;obtain⟨ca,ta,hA⟩:=hP;obtain⟨cb,tb,hC⟩:=hPa k EG;clear hcell hPa;go_wp2_with (go_at_call 64;refine (Rk p (ea k) ca cb ta tb _ (Ne.symm hne) hA hC).mono ?_;rintro e w' ⟨rfl,rfl⟩);go_round;case rel=>exact⟨rfl,k+1,by omega,by go_num⟩
    case measure=>simp[intOf];omega
   ·have Ip:k=m:=by omega
    subst Ip;have hpe:=hyes EG;subst hpe;clear hcell hPa hP;go_wp2_with (go_at_call 64;refine (Vp (ea k) _).mono ?_;rintro e w' ⟨rfl,rfl⟩);go_ret2;exact⟨by simp,hb2⟩
  ·have hkm:m=11:=by omega
   subst hkm;obtain rfl:k=11:=by omega
   clear hcell hPa hP;go_wp2;go_ret2;exact⟨by simp,hb2⟩
end Go.Proofs.YtcemkhalbjhdkaaGreatDoor
namespace Go.Proofs.YtcemkhalbjhdkaaGreatDoor
open Go.RowKit
structure Di (B:Nat) (ea:Nat->Addr) (w:World):Prop where
 c0:w.cell? ⟨1,0,none⟩=some (.iface 311 (.pointer (some (ea 0))))
 c1:w.cell? ⟨0,0,none⟩=some (.iface 311 (.pointer (some (ea 1))))
 c4:w.cell? ⟨4,0,none⟩=some (.iface 311 (.pointer (some (ea 4))))
 c7:w.cell? ⟨7,0,none⟩=some (.iface 311 (.pointer (some (ea 7))))
 c8:w.cell? ⟨8,0,none⟩=some (.iface 311 (.pointer (some (ea 8))))
 typ:w.cell? ⟨11,0,none⟩=some (.iface 182 (.agg #[.pointer (some ⟨21,27,none⟩)]))
 low:11<B
theorem Di.below {B:Nat} {ea:Nat->Addr} {w w':World} (E:Di B ea w) {B':Nat} (h:Below B' w w') (hB:B<=B'):Di B ea w':=by
 have hl:=E.low;have hc:∀ g,g<=11->w'.cell? ⟨g,0,none⟩=w.cell? ⟨g,0,none⟩:=fun g hg=>h.cell (p:=⟨g,0,none⟩) (by show g<B';omega)
 exact
  {c0:=(hc _ (by omega)).trans E.c0
   c1:=(hc _ (by omega)).trans E.c1
   c4:=(hc _ (by omega)).trans E.c4
   c7:=(hc _ (by omega)).trans E.c7
   c8:=(hc _ (by omega)).trans E.c8
   typ:=(hc _ (by omega)).trans E.typ
   low:=E.low }
theorem Env.qZ {B:Nat} {ea:Nat->Addr} {w:World} (E:Env B ea w):Di B ea w:=⟨E.c0,E.c1,E.c4,E.c7,E.c8,E.typ,E.low⟩
end Go.Proofs.YtcemkhalbjhdkaaGreatDoor
namespace Go.Proofs.YtcemkhalbjhdkaaGreatDoor
open Go.RowKit
theorem MI {B:Nat} {ea:Nat->Addr} (w:World) (E:Env B ea w) (hB:B<=w.heap.size) (pb po:Nat) (n:Int) (m:Nat) (hm:m<11) (ha:w.cell? ⟨pb,po,none⟩=some (.int .i64 n)) (he:w.cell? ⟨pb,po+1,none⟩=some (.iface 311 (.pointer (some (ea m))))) :
  Calls Tryz.prog 36 #[.iface 116 (.pointer (some ⟨pb,po,none⟩))] w fun e w'=>e = .returned (.tuple #[.int .i64 ((m:Int)+1),.int .i64 n])/\Below w.heap.size w w':=by
 have hl:=E.low;have hpb:pb<w.heap.size:=by
  rcases Nat.lt_or_ge pb w.heap.size with h | h
  ·exact h
  ·simp[World.cell?,Array.getElem?_eq_none h] at ha
 have hb0:Below w.heap.size w (w.alloc (.cells #[.pointer none] 116)):=(Below.refl _ _).alloc (Nat.le_refl _) _;have hg:=(E.below hb0 hB).typ;have h1:(w.alloc (.cells #[.pointer none] 116)).cell? ⟨w.heap.size,0,none⟩=some (.pointer none):=by simp
 have h2:(w.alloc (.cells #[.pointer none] 116)).frozen? ⟨w.heap.size,0,none⟩=false:=by simp
 have hno:∀ j,j<m->ea j≠ea m:=fun j hj he=>by have:=E.inj j m (by omega) hm he;omega
 go_enter Tryz.func36,Tryz.ntmps36;go_wp2_with fail;refine (Io ⟨pb,po,none⟩ ⟨w.heap.size,0,none⟩ _ _ hg h1 h2).mono ?_;rintro e w1 ⟨rfl,hw1⟩;have hb:Below w.heap.size w w1:=by
  rw[hw1];exact (((((Below.refl w.heap.size w).alloc (Nat.le_refl _) _).alloc (by simp) _).alloc (by simp;omega) _).alloc (by simp;omega) _ |>.alloc (by simp;omega) _).setCell (Nat.le_refl _) _
 have hcf:w1.cell? ⟨w.heap.size,0,none⟩=some (.pointer (some ⟨pb,po,none⟩)):=by
  rw[hw1];refine World.cell?_setCell_same _ _ _ (u:=.pointer none) ?_;rw[World.cell?_alloc_lt _ _ ⟨w.heap.size,0,none⟩ (by simp;omega),World.cell?_alloc_lt _ _ ⟨w.heap.size,0,none⟩ (by simp;omega),World.cell?_alloc_lt _ _ ⟨w.heap.size,0,none⟩ (by simp;omega),World.cell?_alloc_lt _ _ ⟨w.heap.size,0,none⟩ (by simp)];simp
 have E1:=E.below hb hB;have ha1:w1.cell? ⟨pb,po,none⟩=some (.int .i64 n):=(hb.cell (p:=⟨pb,po,none⟩) hpb).trans ha;have he1:w1.cell? ⟨pb,po+1,none⟩=some (.iface 311 (.pointer (some (ea m)))):=(hb.cell (p:=⟨pb,po+1,none⟩) hpb).trans he;clear hw1 h1 h2 ha he hg hb0;have hcs:=BF ea;have OT:∀ i,i<11->Plain w1 (ea i):=E1.blk;have hb2:Below w.heap.size w (w1.alloc (.cells (gT ea) 27)):=hb.alloc hb.size _;have hb3:Below w1.heap.size w1 (w1.alloc (.cells (gT ea) 27)):=(Below.refl _ _).alloc (Nat.le_refl _) _;have hcell:∀ k,k<11->(w1.alloc (.cells (gT ea) 27)).cell? ⟨w1.heap.size,k,none⟩=some (.iface 311 (.pointer (some (ea k)))):=fun k hk=>by rw[World.cell?_alloc_at _ _ _ _ rfl];exact hcs k hk
 have hPa:∀ i,i<11->Plain (w1.alloc (.cells (gT ea) 27)) (ea i):=fun i hi=>(OT i hi).below hb3
 have he2:(w1.alloc (.cells (gT ea) 27)).cell? ⟨pb,po+1,none⟩=some (.iface 311 (.pointer (some (ea m)))):=(hb3.cell (p:=⟨pb,po+1,none⟩) (Nat.lt_of_lt_of_le hpb hb.size)).trans he1;obtain⟨c0,c1,c2,c3,c4,c5,c6,c7,c8,c9,c10,_,_,_,_,_⟩:=E1;clear hcs OT hb3 he1;obtain⟨w2,hw2⟩:∃ w2,w2=w1.alloc (.cells (gT ea) 27):=⟨_,rfl⟩;rw[<-hw2] at hb2 hcell hPa he2;have H2:Hid (∀ (w':World),w'=w1.alloc (.cells (gT ea) 27)->w'=w2):=fun w' h=>h.trans hw2.symm
 clear hw2;go_wp2_with fail;have hw:=H2.out _ rfl;unfold gT at hw;rw[hw];clear hw H2 c0 c1 c2 c3 c4 c5 c6 c7 c8 c9 c10 hcf ha1;go_loop [3,29] (fun a i=>a = .int .i64 n/\∃ k:Nat,k<=m/\i = .int .i64 k) (fun _ i=>11-(intOf i).toNat);case atStart=>exact⟨rfl,0,Nat.zero_le _,rfl⟩
 case round=>
  obtain⟨rfl,k,hk,rfl⟩:=hrel;have EG:k<11:=by omega
  have hck:=hcell k EG;by_cases hkm:k<m
  ·have hne:=hno k hkm;obtain⟨ca,ta,hA⟩:=hPa m hm;obtain⟨cb,tb,hC⟩:=hPa k EG;clear hcell hPa;go_wp2_with (go_at_call 64;refine (EF pb po (ea k) (ea m) ca cb ta tb _ he2 (Ne.symm hne) hA hC).mono ?_;rintro e w' ⟨rfl,rfl⟩);go_round;case rel=>exact⟨rfl,k+1,by omega,by go_num⟩
   case measure=>simp[intOf];omega
  ·have Ip:k=m:=by omega
   subst Ip;clear hcell hPa;go_wp2_with (go_at_call 64;refine (GY pb po (ea k) _ he2).mono ?_;rintro e w' ⟨rfl,rfl⟩);go_ret2;exact⟨by simp,hb2⟩
end Go.Proofs.YtcemkhalbjhdkaaGreatDoor
