import Derived.Test.YtololnhfgjbhjaaGreatDoorProg
import Derived.WalkKit
import Derived.Stop.Asserts
import Derived.RowKitTokens
set_option maxHeartbeats 1000000
open Go.Proofs.Tryz
namespace Go.Proofs.YtololnhfgjbhjaaGreatDoor
open Go.RowKit Go.Extern.Stop Go.Stop Go.Extern
theorem Wj(t:Value)(w:World):
  Calls prog 87 #[.nilIface,t] w λe w'=>e = .returned (.bool false)/\w'=w:=by
 go_enter func87,ntmps87;go_wp2;go_ret;exact⟨rfl,rfl⟩
theorem Tryz.valueOfPP(t:Addr)(w:World):(ReflectliteValue.unpack (.iface 165 (.pointer (some t)))).run prog w
  = .ok (.agg #[.pointer (some ⟨19,165,none⟩),.pointer (some ⟨w.heap.size,0,none⟩),.int .u64 150]) (w.alloc (.cells #[.pointer (some t)] 165)):=by kernel_rfl
theorem Tryz.typePP(a:Addr)(w:World):(ReflectliteValue.methodAny (ReflectliteValue.valueError "reflectlite.Value.Type" 0) (λt _ _ _=>ReflectliteType.toType t) #[.agg #[.pointer (some ⟨19,165,none⟩),.pointer (some a),.int .u64 150]]).run prog w
  = .ok (.iface 244 (.agg #[.pointer (some ⟨19,165,none⟩)])) w:=by kernel_rfl
theorem Tryz.methodKind(h:Value)(w:World):(Go.method 482 244 (.agg #[h]) "Kind").run prog w = .ok (273,h) w:=by kernel_rfl
theorem Tryz.kindPP(w:World):((ReflectliteType.abiMethod λt=>(λa:Nat=>Value.int IntKind.u8 (a:Int)) <$> Rtype.kind t) #[.pointer (some ⟨19,165,none⟩)]).run prog w = .ok (.int .u8 22) w:=by kernel_rfl
theorem Tryz.kindP(w:World):((ReflectliteType.abiMethod λt=>(λa:Nat=>Value.int IntKind.u8 (a:Int)) <$> Rtype.kind t) #[.pointer (some ⟨19,126,none⟩)]).run prog w = .ok (.int .u8 22) w:=by kernel_rfl
theorem rlm(z:Sem Value)(f:TypeId->Addr->Nat->Nat->Sem Value)(v:Value):
  ReflectliteValue.method z f #[v]=(do match <-ReflectliteValue.parts v with|none=>z|some (t,a,fl)=>f t a fl (fl % 32)):=rfl
theorem Tryz.partsPP(a:Addr)(w:World):(ReflectliteValue.parts (.agg #[.pointer (some ⟨19,165,none⟩),.pointer (some a),.int .u64 150])).run prog w = .ok (some (165,a,150)) w:=by kernel_rfl
theorem Tryz.isNilPP(a p:Addr)(W:World)(ha:W.cell? a=some (.pointer (some p))):
  (ReflectliteValue.method (ReflectliteValue.valueError "reflectlite.Value.IsNil" 0) ReflectliteValue.isNil #[.agg #[.pointer (some ⟨19,165,none⟩),.pointer (some a),.int .u64 150]]).run prog W = .ok (.bool false) W:=by
 rw[rlm];simp only[Sem.run_bind,Tryz.partsPP,Result.andThen];simp[ReflectliteValue.isNil,loadVar,isAgg,underlying,underlying165,ha,Result.andThen]
theorem Tryz.methodElem(h:Value)(w:World):(Go.method 482 244 (.agg #[h]) "Elem").run prog w = .ok (285,.agg #[h]) w:=by kernel_rfl
theorem Tryz.methodImplements(h:Value)(w:World):(Go.method 482 244 (.agg #[h]) "Implements").run prog w = .ok (286,.agg #[h]) w:=by kernel_rfl
theorem Tryz.methodAssignableTo(h:Value)(w:World):(Go.method 482 244 (.agg #[h]) "AssignableTo").run prog w = .ok (283,.agg #[h]) w:=by kernel_rfl
theorem Tryz.elemPP(w:World):(ReflectliteType.method ReflectliteType.elem #[.agg #[.pointer (some ⟨19,165,none⟩)]]).run prog w = .ok (.iface 244 (.agg #[.pointer (some ⟨19,126,none⟩)])) w:=by kernel_rfl
theorem Tryz.implementsP(w:World):(ReflectliteType.relation "Implements" ReflectliteType.implements_ #[.agg #[.pointer (some ⟨19,126,none⟩)],.iface 244 (.agg #[.pointer (some ⟨19,26,none⟩)])]).run prog w = .ok (.bool true) w:=by kernel_rfl
theorem Tryz.typeOfP(v:Value)(w:World):(ReflectliteType.typeOf #[.iface 126 v]).run prog w = .ok (.iface 244 (.agg #[.pointer (some ⟨19,126,none⟩)])) w:=by kernel_rfl
theorem Tryz.typeOfE(v:Value)(w:World):(ReflectliteType.typeOf #[.iface 352 v]).run prog w = .ok (.iface 244 (.agg #[.pointer (some ⟨19,352,none⟩)])) w:=by kernel_rfl
theorem Tryz.assignableP(w:World):(ReflectliteType.relation "AssignableTo" ReflectliteType.assignableTo #[.agg #[.pointer (some ⟨19,126,none⟩)],.iface 244 (.agg #[.pointer (some ⟨19,126,none⟩)])]).run prog w = .ok (.bool true) w:=by kernel_rfl
theorem Tryz.assignableE(w:World):(ReflectliteType.relation "AssignableTo" ReflectliteType.assignableTo #[.agg #[.pointer (some ⟨19,352,none⟩)],.iface 244 (.agg #[.pointer (some ⟨19,126,none⟩)])]).run prog w = .ok (.bool false) w:=by kernel_rfl
theorem Tryz.valueOfP(e:Addr)(w:World):(ReflectliteValue.unpack (.iface 126 (.pointer (some e)))).run prog w
  = .ok (.agg #[.pointer (some ⟨19,126,none⟩),.pointer (some ⟨w.heap.size,0,none⟩),.int .u64 150]) (w.alloc (.cells #[.pointer (some e)] 126)):=by kernel_rfl
theorem Tryz.elemOfPP(w:World):(Rtype.elem? 165).run prog w = .ok (some 126) w:=by kernel_rfl
theorem Tryz.mkP(p:Addr)(w:World):(ReflectliteValue.mk 126 p ReflectliteValue.flagAddr).run prog w = .ok (.agg #[.pointer (some ⟨19,126,none⟩),.pointer (some p),.int .u64 406]) w:=by kernel_rfl
theorem Tryz.elemVPP(a p:Addr)(W:World)(ha:W.cell? a=some (.pointer (some p))):
  (ReflectliteValue.method (ReflectliteValue.valueError "reflectlite.Value.Elem" 0) ReflectliteValue.elem #[.agg #[.pointer (some ⟨19,165,none⟩),.pointer (some a),.int .u64 150]]).run prog W
   = .ok (.agg #[.pointer (some ⟨19,126,none⟩),.pointer (some p),.int .u64 406]) W:=by
 rw[rlm];simp only[Sem.run_bind,Tryz.partsPP,Result.andThen];simp[ReflectliteValue.elem,loadVar,isAgg,underlying,underlying165,ha,Result.andThen,Tryz.elemOfPP,Tryz.mkP]
theorem rls(v x:Value):ReflectliteValue.set #[v,x]=(do
  let (some (dst,a,fl),some (src,b,_)):=(<-ReflectliteValue.parts v,<-ReflectliteValue.parts x)
   | unsupported (.noEntry "extern/(internal/reflectlite.Value).Set.zeroValue")
  if fl / ReflectliteValue.flagAddr % 2==0 then unsupported (.noEntry "extern/(internal/reflectlite.Value).Set.unaddressable")
  let val <-loadVar src b
  if <-Rtype.directlyAssignable dst src then storeVar dst a val
  else if <-Rtype.implements dst src then
   if (<-Rtype.kind src)==20 then
    match val with
    | .nilIface=>unsupported (.noEntry "extern/reflectlite: a nil value of one interface type handed on as a value of another")
    | _=>storeVar dst a val
   else storeVar dst a (.iface src val)
  else panicString ("reflectlite.Set: value of type " ++ (<-Rtype.spelt src) ++ " is not assignable to type " ++ (<-Rtype.spelt dst))
  pure (.tuple #[])):=rfl
theorem Tryz.partsPa(a:Addr)(w:World):(ReflectliteValue.parts (.agg #[.pointer (some ⟨19,126,none⟩),.pointer (some a),.int .u64 406])).run prog w = .ok (some (126,a,406)) w:=by kernel_rfl
theorem Tryz.partsP(a:Addr)(w:World):(ReflectliteValue.parts (.agg #[.pointer (some ⟨19,126,none⟩),.pointer (some a),.int .u64 150])).run prog w = .ok (some (126,a,150)) w:=by kernel_rfl
theorem Tryz.directP(w:World):(Rtype.directlyAssignable 126 126).run prog w = .ok true w:=by kernel_rfl
theorem Tryz.setP(ta b e:Addr)(old:Value)(W:World)(hb:W.cell? b=some (.pointer (some e)))(ht:W.cell? ta=some old)(hf:W.frozen? ta=false):
  (ReflectliteValue.set #[.agg #[.pointer (some ⟨19,126,none⟩),.pointer (some ta),.int .u64 406],.agg #[.pointer (some ⟨19,126,none⟩),.pointer (some b),.int .u64 150]]).run prog W
   = .ok (.tuple #[]) (W.setCell ta (.pointer (some e))):=by
 rw[rls];simp only[Sem.run_bind,Tryz.partsPa,Tryz.partsP,Result.andThen];simp[ReflectliteValue.flagAddr,loadVar,isAgg,underlying,underlying126,hb,Result.andThen,Tryz.directP,storeVar,Value.cells,storeCells,Addr.add];rw[run_store prog W ta _ _ (by rfl)];simp[ht,hf]
theorem Tryz.noAsE(v:Value)(xT:TypeId)(w:World):(Instr.typeAssert (.iface 352 v) xT 248 true).run prog w = .ok (.tuple #[.nilIface,.bool false]) w:=run_typeAssert_lacksB underlying248 (by kernel_rfl) (by kernel_rfl) v xT w
theorem Tryz.noIsE(v:Value)(xT:TypeId)(w:World):(Instr.typeAssert (.iface 352 v) xT 272 true).run prog w = .ok (.tuple #[.nilIface,.bool false]) w:=run_typeAssert_lacksB underlying272 (by kernel_rfl) (by kernel_rfl) v xT w
theorem Tryz.noUnwrapE(v:Value)(xT:TypeId)(w:World):(Instr.typeAssert (.iface 352 v) xT 251 true).run prog w = .ok (.tuple #[.nilIface,.bool false]) w:=run_typeAssert_lacksB underlying251 (by kernel_rfl) (by kernel_rfl) v xT w
theorem Tryz.noUnwrapsE(v:Value)(xT:TypeId)(w:World):(Instr.typeAssert (.iface 352 v) xT 252 true).run prog w = .ok (.tuple #[.nilIface,.bool false]) w:=run_typeAssert_lacksB underlying252 (by kernel_rfl) (by kernel_rfl) v xT w
theorem Tryz.noIsF(v:Value)(xT:TypeId)(w:World):(Instr.typeAssert (.iface 126 v) xT 272 true).run prog w = .ok (.tuple #[.nilIface,.bool false]) w:=run_typeAssert_lacksB underlying272 (by kernel_rfl) (by kernel_rfl) v xT w
theorem Tryz.hasUnwrapF(v:Value)(xT:TypeId)(w:World):(Instr.typeAssert (.iface 126 v) xT 251 true).run prog w = .ok (.tuple #[.iface 126 v,.bool true]) w:=run_typeAssert_hasB underlying251 (by kernel_rfl) v xT w
theorem Tryz.methodUnwrap(v:Value)(w:World):(Go.method 482 126 v "Unwrap").run prog w = .ok (278,v) w:=by kernel_rfl
theorem Sc(p t:Addr)(w:World)(hg:w.cell? ⟨11,0,none⟩=some (.iface 244 (.agg #[.pointer (some ⟨19,26,none⟩)]))):
  Calls prog 87 #[.iface 352 (.pointer (some p)),.iface 165 (.pointer (some t))] w λev w'=>ev = .returned (.bool false)/\Below w.heap.size w w':=by
 have h6:=@run_callFunc_extern prog 119 _ (λargs=>ReflectliteValue.unpack (args.getD 0 (.tuple #[]))) func119 (by kernel_rfl) (by kernel_rfl) (by kernel_rfl) (by kernel_rfl);have h7:=@run_callFunc_extern prog 120 _ (ReflectliteValue.methodAny (ReflectliteValue.valueError "reflectlite.Value.Type" 0) (λt _ _ _=>ReflectliteType.toType t)) func120 (by kernel_rfl) (by kernel_rfl) (by kernel_rfl) (by kernel_rfl);have h8:=@run_callFunc_extern prog 121 _ (ReflectliteValue.method (ReflectliteValue.valueError "reflectlite.Value.IsNil" 0) ReflectliteValue.isNil) func121 (by kernel_rfl) (by kernel_rfl) (by kernel_rfl) (by kernel_rfl);have h27:=@run_callFunc_extern prog 273 _ (ReflectliteType.abiMethod λt=>do pure (.int .u8 (<-Rtype.kind t))) func273 (by kernel_rfl) (by kernel_rfl) (by kernel_rfl) (by kernel_rfl);have h37:=@run_callFunc_extern prog 285 _ (ReflectliteType.method ReflectliteType.elem) func285 (by kernel_rfl) (by kernel_rfl) (by kernel_rfl) (by kernel_rfl);have h38:=@run_callFunc_extern prog 286 _ (ReflectliteType.relation "Implements" ReflectliteType.implements_) func286 (by kernel_rfl) (by kernel_rfl) (by kernel_rfl) (by kernel_rfl);have h10:=@run_callFunc_extern prog 135 _ ReflectliteType.typeOf func135 (by kernel_rfl) (by kernel_rfl) (by kernel_rfl) (by kernel_rfl);have h35:=@run_callFunc_extern prog 283 _ (ReflectliteType.relation "AssignableTo" ReflectliteType.assignableTo) func283 (by kernel_rfl) (by kernel_rfl) (by kernel_rfl) (by kernel_rfl);have tO:=Tryz.typeOfE;have mA:=Tryz.methodAssignableTo;have aE:=Tryz.assignableE;have f6:=Tryz.valueOfPP;have f7:=Tryz.typePP;have mK:=Tryz.methodKind;have mE:=Tryz.methodElem;have mI:=Tryz.methodImplements;have kPP:=Tryz.kindPP;have kP:=Tryz.kindP;have ePP:=Tryz.elemPP;have iP:=Tryz.implementsP;have nA:=Tryz.noAsE;have nU:=Tryz.noUnwrapE;have nV:=Tryz.noUnwrapsE;have n8:=Tryz.isNilPP ⟨w.heap.size,0,none⟩ t ((w.alloc (.cells #[.pointer (some t)] 165)).alloc (.cells #[.pointer (some ⟨19,165,none⟩),.pointer (some ⟨w.heap.size,0,none⟩),.int .u64 150] 198)) (by simp);have ϙ:11<w.heap.size:=by
  rcases Nat.lt_or_ge 11 w.heap.size with h|h
  ·exact h
  ·simp[World.cell?,Array.getElem?_eq_none h] at hg
 have Ϩ:((w.alloc (.cells #[.pointer (some t)] 165)).alloc (.cells #[.pointer (some ⟨19,165,none⟩),.pointer (some ⟨w.heap.size,0,none⟩),.int .u64 150] 198)).cell? ⟨11,0,none⟩=some (.iface 244 (.agg #[.pointer (some ⟨19,26,none⟩)])):=by
  rw[World.cell?_alloc_lt _ _ ⟨11,0,none⟩ (by simp;omega),World.cell?_alloc_lt _ _ ⟨11,0,none⟩ ϙ];exact hg
 go_enter func87,ntmps87;go_wp2;refine wp_loop_rounds 1 ?_;rw[rounds_succ];go_wp2;go_ret;exact⟨rfl,(((Below.refl _ _).alloc (Nat.le_refl _) _).alloc (by simp) _).alloc (by simp;omega) _⟩
def wT:Array Value->Sem Value:=Extern.ReflectliteType.method λt=>do Rtype.noPackHeld "Comparable" t;pure (.bool (<-typeInfo t).comparable)
theorem Tryz.isComparable(w:World):(wT #[.agg #[.pointer (some ⟨19,352,none⟩)]]).run prog w = .ok (.bool true) w:=by kernel_rfl
theorem Tryz.isMethodComparable(v:Value)(w:World):(Go.method 482 244 v "Comparable").run prog w = .ok (284,v) w:=by kernel_rfl
theorem Tryz.isComp:(prog.info? 352).map (·.comparable)=some true:=by kernel_rfl
theorem Tryz.isSize:(prog.info? 354).map (·.size)=some 1:=by kernel_rfl
theorem adf(a:Addr)(w:World):
  Calls prog 103 #[.iface 352 (.pointer (some a)),.iface 352 (.pointer (some a))] w λe w'=>e = .returned (.bool true)/\w'=w:=by
 obtain⟨i,hi,hcmp⟩:=Option.map_eq_some_iff.1 Tryz.isComp;obtain⟨j,hj,hjs⟩:=Option.map_eq_some_iff.1 Tryz.isSize;have h8:=@run_callFunc_extern prog 135 _ Extern.ReflectliteType.typeOf func135 (by kernel_rfl) (by kernel_rfl) (by kernel_rfl) (by kernel_rfl);have h32:=@run_callFunc_extern prog 284 _ wT func284 (by kernel_rfl) (by kernel_rfl) (by kernel_rfl) (by kernel_rfl);have tT:=Tryz.typeOfE;have cT:=Tryz.isComparable;have mR:=Tryz.isMethodComparable;have heq:=run_eql_iface_ptr_same (P:=prog) w a underlying26 underlying352 hi hcmp hj;go_enter func103,ntmps103;go_wp2;refine wp_loop_rounds 1 ?_;rw[rounds_succ];go_wp2;go_ret;exact⟨rfl,rfl⟩
theorem Zt(a b:Addr)(ca cb:Array Value)(ta tb:TypeId)(w:World)(Ϙ:a≠b)(ha:w.heap[a.block]? = some (.cells ca ta (0,0)))(hb:w.heap[b.block]? = some (.cells cb tb (0,0))):
  Calls prog 103 #[.iface 352 (.pointer (some a)),.iface 352 (.pointer (some b))] w λe w'=>e = .returned (.bool false)/\w'=w:=by
 obtain⟨i,hi,hcmp⟩:=Option.map_eq_some_iff.1 Tryz.isComp;obtain⟨j,hj,hjs⟩:=Option.map_eq_some_iff.1 Tryz.isSize;have h8:=@run_callFunc_extern prog 135 _ Extern.ReflectliteType.typeOf func135 (by kernel_rfl) (by kernel_rfl) (by kernel_rfl) (by kernel_rfl);have h32:=@run_callFunc_extern prog 284 _ wT func284 (by kernel_rfl) (by kernel_rfl) (by kernel_rfl) (by kernel_rfl);have tT:=Tryz.typeOfE;have cT:=Tryz.isComparable;have mR:=Tryz.isMethodComparable;have nE:=Tryz.noIsE;have uE:=Tryz.noUnwrapE;have vE:=Tryz.noUnwrapsE;have heq:=run_eql_iface_ptr_other (P:=prog) w underlying26 underlying352 hi hcmp hj (by rw[hjs];decide) Ϙ ha hb;go_enter func103,ntmps103;go_wp2;refine wp_loop_rounds 1 ?_;rw[rounds_succ];go_wp2;go_ret;exact⟨rfl,rfl⟩
theorem Nu(pb po:Nat)(b:Addr)(w:World)(h1:w.cell? ⟨pb,po+1,none⟩=some (.iface 352 (.pointer (some b)))):
  Calls prog 103 #[.iface 126 (.pointer (some ⟨pb,po,none⟩)),.iface 352 (.pointer (some b))] w λe w'=>e = .returned (.bool true)/\w'=w:=by
 obtain⟨i,hi,hcmp⟩:=Option.map_eq_some_iff.1 Tryz.isComp;obtain⟨j,hj,hjs⟩:=Option.map_eq_some_iff.1 Tryz.isSize;have h8:=@run_callFunc_extern prog 135 _ Extern.ReflectliteType.typeOf func135 (by kernel_rfl) (by kernel_rfl) (by kernel_rfl) (by kernel_rfl);have h32:=@run_callFunc_extern prog 284 _ wT func284 (by kernel_rfl) (by kernel_rfl) (by kernel_rfl) (by kernel_rfl);have tT:=Tryz.typeOfE;have cT:=Tryz.isComparable;have mR:=Tryz.isMethodComparable;have nW:=Tryz.noIsF;have uW:=Tryz.hasUnwrapF;have mU:=Tryz.methodUnwrap;have heq:=run_eql_iface_ptr_same (P:=prog) w b underlying26 underlying352 hi hcmp hj;have hty:=run_eql_iface_types (P:=prog) 126 352 (.pointer (some ⟨pb,po,none⟩)) (.pointer (some b)) underlying26 (by decide) w;go_enter func103,ntmps103;go_wp2;refine wp_loop_rounds 2 ?_;rw[rounds_succ];go_wp2;rw[rounds_succ];go_wp2;go_ret;exact⟨rfl,rfl⟩
theorem KL(pb po:Nat)(b a:Addr)(ca cb:Array Value)(ta tb:TypeId)(w:World)(h1:w.cell? ⟨pb,po+1,none⟩=some (.iface 352 (.pointer (some a))))(Ϙ:a≠b)(ha:w.heap[a.block]? = some (.cells ca ta (0,0)))(hb:w.heap[b.block]? = some (.cells cb tb (0,0))):
  Calls prog 103 #[.iface 126 (.pointer (some ⟨pb,po,none⟩)),.iface 352 (.pointer (some b))] w λe w'=>e = .returned (.bool false)/\w'=w:=by
 obtain⟨i,hi,hcmp⟩:=Option.map_eq_some_iff.1 Tryz.isComp;obtain⟨j,hj,hjs⟩:=Option.map_eq_some_iff.1 Tryz.isSize;have h8:=@run_callFunc_extern prog 135 _ Extern.ReflectliteType.typeOf func135 (by kernel_rfl) (by kernel_rfl) (by kernel_rfl) (by kernel_rfl);have h32:=@run_callFunc_extern prog 284 _ wT func284 (by kernel_rfl) (by kernel_rfl) (by kernel_rfl) (by kernel_rfl);have tT:=Tryz.typeOfE;have cT:=Tryz.isComparable;have mR:=Tryz.isMethodComparable;have nE:=Tryz.noIsE;have uE:=Tryz.noUnwrapE;have vE:=Tryz.noUnwrapsE;have nW:=Tryz.noIsF;have uW:=Tryz.hasUnwrapF;have mU:=Tryz.methodUnwrap;have heq:=run_eql_iface_ptr_other (P:=prog) w underlying26 underlying352 hi hcmp hj (by rw[hjs];decide) Ϙ ha hb;have hty:=run_eql_iface_types (P:=prog) 126 352 (.pointer (some ⟨pb,po,none⟩)) (.pointer (some b)) underlying26 (by decide) w;go_enter func103,ntmps103;go_wp2;refine wp_loop_rounds 2 ?_;rw[rounds_succ];go_wp2;rw[rounds_succ];go_wp2;go_ret;exact⟨rfl,rfl⟩
theorem Og(e t:Addr)(old:Value)(w:World)(hg:w.cell? ⟨11,0,none⟩=some (.iface 244 (.agg #[.pointer (some ⟨19,26,none⟩)])))(Ě:w.cell? t=some old)(hf0:w.frozen? t=false):
  Calls prog 87 #[.iface 126 (.pointer (some e)),.iface 165 (.pointer (some t))] w λev w'=>ev = .returned (.bool true)/\w'=((((w.alloc (.cells #[.pointer (some t)] 165)).alloc (.cells #[.pointer (some ⟨19,165,none⟩),.pointer (some ⟨w.heap.size,0,none⟩),.int .u64 150] 198)).alloc (.cells #[.pointer (some ⟨19,165,none⟩),.pointer (some ⟨w.heap.size,0,none⟩),.int .u64 150] 198)).alloc (.cells #[.pointer (some e)] 126)).setCell t (.pointer (some e)):=by
 have h6:=@run_callFunc_extern prog 119 _ (λargs=>ReflectliteValue.unpack (args.getD 0 (.tuple #[]))) func119 (by kernel_rfl) (by kernel_rfl) (by kernel_rfl) (by kernel_rfl);have h7:=@run_callFunc_extern prog 120 _ (ReflectliteValue.methodAny (ReflectliteValue.valueError "reflectlite.Value.Type" 0) (λt _ _ _=>ReflectliteType.toType t)) func120 (by kernel_rfl) (by kernel_rfl) (by kernel_rfl) (by kernel_rfl);have h8:=@run_callFunc_extern prog 121 _ (ReflectliteValue.method (ReflectliteValue.valueError "reflectlite.Value.IsNil" 0) ReflectliteValue.isNil) func121 (by kernel_rfl) (by kernel_rfl) (by kernel_rfl) (by kernel_rfl);have h27:=@run_callFunc_extern prog 273 _ (ReflectliteType.abiMethod λt=>do pure (.int .u8 (<-Rtype.kind t))) func273 (by kernel_rfl) (by kernel_rfl) (by kernel_rfl) (by kernel_rfl);have h37:=@run_callFunc_extern prog 285 _ (ReflectliteType.method ReflectliteType.elem) func285 (by kernel_rfl) (by kernel_rfl) (by kernel_rfl) (by kernel_rfl);have h38:=@run_callFunc_extern prog 286 _ (ReflectliteType.relation "Implements" ReflectliteType.implements_) func286 (by kernel_rfl) (by kernel_rfl) (by kernel_rfl) (by kernel_rfl);have h10:=@run_callFunc_extern prog 135 _ ReflectliteType.typeOf func135 (by kernel_rfl) (by kernel_rfl) (by kernel_rfl) (by kernel_rfl);have h35:=@run_callFunc_extern prog 283 _ (ReflectliteType.relation "AssignableTo" ReflectliteType.assignableTo) func283 (by kernel_rfl) (by kernel_rfl) (by kernel_rfl) (by kernel_rfl);have h11:=@run_callFunc_extern prog 163 _ (ReflectliteValue.method (ReflectliteValue.valueError "reflectlite.Value.Elem" 0) ReflectliteValue.elem) func163 (by kernel_rfl) (by kernel_rfl) (by kernel_rfl) (by kernel_rfl);have h12:=@run_callFunc_extern prog 164 _ ReflectliteValue.set func164 (by kernel_rfl) (by kernel_rfl) (by kernel_rfl) (by kernel_rfl);have tO:=Tryz.typeOfP;have mA:=Tryz.methodAssignableTo;have aP:=Tryz.assignableP;have vP:=Tryz.valueOfP;have f6:=Tryz.valueOfPP;have f7:=Tryz.typePP;have mK:=Tryz.methodKind;have mE:=Tryz.methodElem;have mI:=Tryz.methodImplements;have kPP:=Tryz.kindPP;have kP:=Tryz.kindP;have ePP:=Tryz.elemPP;have iP:=Tryz.implementsP;have n8:=Tryz.isNilPP ⟨w.heap.size,0,none⟩ t ((w.alloc (.cells #[.pointer (some t)] 165)).alloc (.cells #[.pointer (some ⟨19,165,none⟩),.pointer (some ⟨w.heap.size,0,none⟩),.int .u64 150] 198)) (by simp);have ϙ:11<w.heap.size:=by
  rcases Nat.lt_or_ge 11 w.heap.size with h|h
  ·exact h
  ·simp[World.cell?,Array.getElem?_eq_none h] at hg
 have Ϩ:((w.alloc (.cells #[.pointer (some t)] 165)).alloc (.cells #[.pointer (some ⟨19,165,none⟩),.pointer (some ⟨w.heap.size,0,none⟩),.int .u64 150] 198)).cell? ⟨11,0,none⟩=some (.iface 244 (.agg #[.pointer (some ⟨19,26,none⟩)])):=by
  rw[World.cell?_alloc_lt _ _ ⟨11,0,none⟩ (by simp;omega),World.cell?_alloc_lt _ _ ⟨11,0,none⟩ ϙ];exact hg
 have htl:t.block<w.heap.size:=by
  rcases Nat.lt_or_ge t.block w.heap.size with h|h
  ·exact h
  ·simp[World.cell?,Array.getElem?_eq_none h] at Ě
 have el:=Tryz.elemVPP ⟨w.heap.size,0,none⟩ t (((w.alloc (.cells #[.pointer (some t)] 165)).alloc (.cells #[.pointer (some ⟨19,165,none⟩),.pointer (some ⟨w.heap.size,0,none⟩),.int .u64 150] 198)).alloc (.cells #[.pointer (some ⟨19,165,none⟩),.pointer (some ⟨w.heap.size,0,none⟩),.int .u64 150] 198)) (by rw[World.cell?_alloc_lt _ _ ⟨w.heap.size,0,none⟩ (by simp;omega)];simp);have st:=Tryz.setP t ⟨w.heap.size+1+1+1,0,none⟩ e old ((((w.alloc (.cells #[.pointer (some t)] 165)).alloc (.cells #[.pointer (some ⟨19,165,none⟩),.pointer (some ⟨w.heap.size,0,none⟩),.int .u64 150] 198)).alloc (.cells #[.pointer (some ⟨19,165,none⟩),.pointer (some ⟨w.heap.size,0,none⟩),.int .u64 150] 198)).alloc (.cells #[.pointer (some e)] 126))
  (by rw[World.cell?_alloc_at _ _ _ _ (by simp)];rfl)
  (by rw[World.cell?_alloc_lt _ _ t (by simp;omega),World.cell?_alloc_lt _ _ t (by simp;omega),World.cell?_alloc_lt _ _ t (by simp;omega),World.cell?_alloc_lt _ _ t htl];exact Ě)
  (by rw[World.frozen?_alloc_old _ _ t (by simp;omega),World.frozen?_alloc_old _ _ t (by simp;omega),World.frozen?_alloc_old _ _ t (by simp;omega),World.frozen?_alloc_old _ _ t (Nat.ne_of_lt htl)];exact hf0)
 go_enter func87,ntmps87;go_wp2;refine wp_loop_rounds 1 ?_;rw[rounds_succ];go_wp2;go_ret;exact⟨rfl,rfl⟩
structure Env(B:Nat)(ea:Nat->Addr)(w:World):Prop where
 c0:w.cell? ⟨8,0,none⟩=some (.iface 352 (.pointer (some (ea 0))))
 c1:w.cell? ⟨0,0,none⟩=some (.iface 352 (.pointer (some (ea 1))))
 c2:w.cell? ⟨3,0,none⟩=some (.iface 352 (.pointer (some (ea 2))))
 c3:w.cell? ⟨6,0,none⟩=some (.iface 352 (.pointer (some (ea 3))))
 c4:w.cell? ⟨2,0,none⟩=some (.iface 352 (.pointer (some (ea 4))))
 c5:w.cell? ⟨10,0,none⟩=some (.iface 352 (.pointer (some (ea 5))))
 c6:w.cell? ⟨1,0,none⟩=some (.iface 352 (.pointer (some (ea 6))))
 c7:w.cell? ⟨4,0,none⟩=some (.iface 352 (.pointer (some (ea 7))))
 c8:w.cell? ⟨9,0,none⟩=some (.iface 352 (.pointer (some (ea 8))))
 c9:w.cell? ⟨7,0,none⟩=some (.iface 352 (.pointer (some (ea 9))))
 c10:w.cell? ⟨5,0,none⟩=some (.iface 352 (.pointer (some (ea 10))))
 typ:w.cell? ⟨11,0,none⟩=some (.iface 244 (.agg #[.pointer (some ⟨19,26,none⟩)]))
 blk:∀i,i<11->∃c t,w.heap[(ea i).block]? = some (.cells c t (0,0))
 lt:∀i,i<11->(ea i).block<B
 inj:∀i j,i<11->j<11->ea i=ea j->i=j
 low:11<B
theorem Env.below{B:Nat}{ea:Nat->Addr}{w w':World}(E:Env B ea w){B':Nat}(h:Below B' w w')(hB:B<=B'):Env B ea w':=by
 have hl:=E.low;have hc:∀g,g<=11->w'.cell? ⟨g,0,none⟩=w.cell? ⟨g,0,none⟩:=λg hg=>h.cell (p:=⟨g,0,none⟩) (by show g<B';omega)
 exact
  {c0:=(hc _ (by omega)).trans E.c0
   c1:=(hc _ (by omega)).trans E.c1
   c2:=(hc _ (by omega)).trans E.c2
   c3:=(hc _ (by omega)).trans E.c3
   c4:=(hc _ (by omega)).trans E.c4
   c5:=(hc _ (by omega)).trans E.c5
   c6:=(hc _ (by omega)).trans E.c6
   c7:=(hc _ (by omega)).trans E.c7
   c8:=(hc _ (by omega)).trans E.c8
   c9:=(hc _ (by omega)).trans E.c9
   c10:=(hc _ (by omega)).trans E.c10
   typ:=(hc _ (by omega)).trans E.typ
   blk:=λi hi=>by
    obtain⟨c,t,hh⟩:=E.blk i hi;exact⟨c,t,(h.block _ (Nat.lt_of_lt_of_le (E.lt i hi) hB)).trans hh⟩
   lt:=E.lt
   inj:=E.inj
   low:=E.low }
def Plain(w:World)(p:Addr):Prop:=∃c t,w.heap[p.block]? = some (.cells c t (0,0))
theorem Plain.lt{w:World}{p:Addr}(h:Plain w p):p.block<w.heap.size:=by
 obtain⟨c,t,h⟩:=h;rcases Nat.lt_or_ge p.block w.heap.size with h'|h'
 ·exact h'
 ·simp[Array.getElem?_eq_none h'] at h
theorem Plain.below{w w':World}{p:Addr}(h:Plain w p)(hb:Below w.heap.size w w'):Plain w' p:=by
 have hl:=h.lt;obtain⟨c,t,hh⟩:=h;exact⟨c,t,(hb.block _ hl).trans hh⟩
def iU(ea:Nat->Addr):Array Value:=#[.iface 352 (.pointer (some (ea 0))),.iface 352 (.pointer (some (ea 1))),.iface 352 (.pointer (some (ea 2))),.iface 352 (.pointer (some (ea 3))),.iface 352 (.pointer (some (ea 4))),.iface 352 (.pointer (some (ea 5))),.iface 352 (.pointer (some (ea 6))),.iface 352 (.pointer (some (ea 7))),.iface 352 (.pointer (some (ea 8))),.iface 352 (.pointer (some (ea 9))),.iface 352 (.pointer (some (ea 10)))]
theorem Gw(ea:Nat->Addr)(k:Nat)(hk:k<11):(iU ea)[k]? = some (.iface 352 (.pointer (some (ea k)))):=by
 match k,hk with
 | 0,_=>rfl
 | 1,_=>rfl
 | 2,_=>rfl
 | 3,_=>rfl
 | 4,_=>rfl
 | 5,_=>rfl
 | 6,_=>rfl
 | 7,_=>rfl
 | 8,_=>rfl
 | 9,_=>rfl
 | 10,_=>rfl
theorem Zu(w:World):
  Calls prog 67 #[.nilIface] w λe w'=>e = .returned (.tuple #[.int .i64 0,.int .i64 (-1)])/\w'=w:=by
 go_enter func67,ntmps67;go_wp2;go_ret2;exact⟨rfl,rfl⟩
theorem adg{B:Nat}{ea:Nat->Addr}(w:World)(E:Env B ea w)(hB:B<=w.heap.size)(p:Addr)(hp:Plain w p)(m:Nat)(hm:m<=11)(Ă:∀j,j<m->ea j≠p)(Ś:m<11->ea m=p):
  Calls prog 67 #[.iface 352 (.pointer (some p))] w λe w'=>e = .returned (.tuple #[.int .i64 (if m<11 then (m:Int)+1 else -1),.int .i64 (-1)])/\Below w.heap.size w w':=by
 have hl:=E.low;have É:Below w.heap.size w (w.alloc (.cells #[.pointer none] 126)):=(Below.refl _ _).alloc (Nat.le_refl _) _;have hg:=(E.below É hB).typ;go_enter func67,ntmps67;go_wp2_with fail;refine (Sc p ⟨w.heap.size,0,none⟩ _ hg).mono ?_;rintro e w1 ⟨rfl,hb⟩;have Ϗ:=É.trans (hb.mono (by simp));have E1:=E.below Ϗ hB;have Ϧ:=Gw ea;have hP1:Plain w1 p:=hp.below Ϗ;have Wm:∀i,i<11->Plain w1 (ea i):=E1.blk;have ϓ:Below w.heap.size w (w1.alloc (.cells (iU ea) 26)):=Ϗ.alloc Ϗ.size _;have ώ:Below w1.heap.size w1 (w1.alloc (.cells (iU ea) 26)):=(Below.refl _ _).alloc (Nat.le_refl _) _;have ϡ:∀k,k<11->(w1.alloc (.cells (iU ea) 26)).cell? ⟨w1.heap.size,k,none⟩=some (.iface 352 (.pointer (some (ea k)))):=λk hk=>by rw[World.cell?_alloc_at _ _ _ _ rfl];exact Ϧ k hk
 have hP:Plain (w1.alloc (.cells (iU ea) 26)) p:=hP1.below ώ;have hPa:∀i,i<11->Plain (w1.alloc (.cells (iU ea) 26)) (ea i):=λi hi=>(Wm i hi).below ώ
 obtain⟨c0,c1,c2,c3,c4,c5,c6,c7,c8,c9,c10,_,_,_,_,_⟩:=E1;clear hb hg É Ϧ hP1 Wm ώ;obtain⟨w2,Ã⟩:∃w2,w2=w1.alloc (.cells (iU ea) 26):=⟨_,rfl⟩;rw[<-Ã] at ϓ ϡ hP hPa;have H2:Hid (∀(w':World),w'=w1.alloc (.cells (iU ea) 26)->w'=w2):=λw' h=>h.trans Ã.symm
 clear Ã;go_wp2_with fail;have hw:=H2.out _ rfl;unfold iU at hw;rw[hw];clear hw H2 c0 c1 c2 c3 c4 c5 c6 c7 c8 c9 c10;go_loop [3,29] (λa i=>a = .int .i64 (-1)/\∃k:Nat,k<=m/\i = .int .i64 k) (λ_ i=>11-(intOf i).toNat);case atStart=>exact⟨rfl,0,Nat.zero_le _,rfl⟩
 case round=>
  obtain⟨rfl,k,hk,rfl⟩:=hrel;by_cases KM:k<11
  ·have hck:=ϡ k KM;by_cases ù:k<m
   ·have Ϙ:=Ă k ù;obtain⟨ca,ta,hA⟩:=hP;obtain⟨cb,tb,hC⟩:=hPa k KM;clear ϡ hPa;go_wp2_with (go_at_call 103;refine (Zt p (ea k) ca cb ta tb _ (Ne.symm Ϙ) hA hC).mono ?_;rintro e w' ⟨rfl,rfl⟩);go_round;case rel=>exact⟨rfl,k+1,by omega,by go_num⟩
    case measure=>simp[intOf];omega
   ·have Oh:k=m:=by omega
    subst Oh;have hpe:=Ś KM;subst hpe;clear ϡ hPa hP;go_wp2_with (go_at_call 103;refine (adf (ea k) _).mono ?_;rintro e w' ⟨rfl,rfl⟩);go_ret2;exact⟨by simp,ϓ⟩
  ·have ù:m=11:=by omega
   subst ù;obtain rfl:k=11:=by omega
   clear ϡ hPa hP;go_wp2;go_ret2;exact⟨by simp,ϓ⟩
structure Lv(B:Nat)(ea:Nat->Addr)(w:World):Prop where
 c0:w.cell? ⟨8,0,none⟩=some (.iface 352 (.pointer (some (ea 0))))
 c1:w.cell? ⟨0,0,none⟩=some (.iface 352 (.pointer (some (ea 1))))
 c4:w.cell? ⟨2,0,none⟩=some (.iface 352 (.pointer (some (ea 4))))
 c7:w.cell? ⟨4,0,none⟩=some (.iface 352 (.pointer (some (ea 7))))
 c8:w.cell? ⟨9,0,none⟩=some (.iface 352 (.pointer (some (ea 8))))
 typ:w.cell? ⟨11,0,none⟩=some (.iface 244 (.agg #[.pointer (some ⟨19,26,none⟩)]))
 low:11<B
theorem Lv.below{B:Nat}{ea:Nat->Addr}{w w':World}(E:Lv B ea w){B':Nat}(h:Below B' w w')(hB:B<=B'):Lv B ea w':=by
 have hl:=E.low;have hc:∀g,g<=11->w'.cell? ⟨g,0,none⟩=w.cell? ⟨g,0,none⟩:=λg hg=>h.cell (p:=⟨g,0,none⟩) (by show g<B';omega)
 exact
  {c0:=(hc _ (by omega)).trans E.c0
   c1:=(hc _ (by omega)).trans E.c1
   c4:=(hc _ (by omega)).trans E.c4
   c7:=(hc _ (by omega)).trans E.c7
   c8:=(hc _ (by omega)).trans E.c8
   typ:=(hc _ (by omega)).trans E.typ
   low:=E.low }
theorem TQ{B:Nat}{ea:Nat->Addr}(w:World)(E:Env B ea w)(hB:B<=w.heap.size)(pb po:Nat)(n:Int)(m:Nat)(hm:m<11)(ha:w.cell? ⟨pb,po,none⟩=some (.int .i64 n))(he:w.cell? ⟨pb,po+1,none⟩=some (.iface 352 (.pointer (some (ea m))))):
  Calls prog 67 #[.iface 126 (.pointer (some ⟨pb,po,none⟩))] w λe w'=>e = .returned (.tuple #[.int .i64 ((m:Int)+1),.int .i64 n])/\Below w.heap.size w w':=by
 have hl:=E.low;have ñ:pb<w.heap.size:=by
  rcases Nat.lt_or_ge pb w.heap.size with h|h
  ·exact h
  ·simp[World.cell?,Array.getElem?_eq_none h] at ha
 have É:Below w.heap.size w (w.alloc (.cells #[.pointer none] 126)):=(Below.refl _ _).alloc (Nat.le_refl _) _;have hg:=(E.below É hB).typ;have h1:(w.alloc (.cells #[.pointer none] 126)).cell? ⟨w.heap.size,0,none⟩=some (.pointer none):=by simp
 have h2:(w.alloc (.cells #[.pointer none] 126)).frozen? ⟨w.heap.size,0,none⟩=false:=by simp
 have Ă:∀j,j<m->ea j≠ea m:=λj hj he=>by have:=E.inj j m (by omega) hm he;omega
 go_enter func67,ntmps67;go_wp2_with fail;refine (Og ⟨pb,po,none⟩ ⟨w.heap.size,0,none⟩ _ _ hg h1 h2).mono ?_;rintro e w1 ⟨rfl,Ϝ⟩;have hb:Below w.heap.size w w1:=by
  rw[Ϝ];exact (((((Below.refl w.heap.size w).alloc (Nat.le_refl _) _).alloc (by simp) _).alloc (by simp;omega) _).alloc (by simp;omega) _ |>.alloc (by simp;omega) _).setCell (Nat.le_refl _) _
 have hcf:w1.cell? ⟨w.heap.size,0,none⟩=some (.pointer (some ⟨pb,po,none⟩)):=by
  rw[Ϝ];refine World.cell?_setCell_same _ _ _ (u:=.pointer none) ?_;rw[World.cell?_alloc_lt _ _ ⟨w.heap.size,0,none⟩ (by simp;omega),World.cell?_alloc_lt _ _ ⟨w.heap.size,0,none⟩ (by simp;omega),World.cell?_alloc_lt _ _ ⟨w.heap.size,0,none⟩ (by simp;omega),World.cell?_alloc_lt _ _ ⟨w.heap.size,0,none⟩ (by simp)];simp
 have E1:=E.below hb hB;have ha1:w1.cell? ⟨pb,po,none⟩=some (.int .i64 n):=(hb.cell (p:=⟨pb,po,none⟩) ñ).trans ha;have he1:w1.cell? ⟨pb,po+1,none⟩=some (.iface 352 (.pointer (some (ea m)))):=(hb.cell (p:=⟨pb,po+1,none⟩) ñ).trans he;clear Ϝ h1 h2 ha he hg É;have Ϧ:=Gw ea;have Wm:∀i,i<11->Plain w1 (ea i):=E1.blk;have ϓ:Below w.heap.size w (w1.alloc (.cells (iU ea) 26)):=hb.alloc hb.size _;have ώ:Below w1.heap.size w1 (w1.alloc (.cells (iU ea) 26)):=(Below.refl _ _).alloc (Nat.le_refl _) _;have ϡ:∀k,k<11->(w1.alloc (.cells (iU ea) 26)).cell? ⟨w1.heap.size,k,none⟩=some (.iface 352 (.pointer (some (ea k)))):=λk hk=>by rw[World.cell?_alloc_at _ _ _ _ rfl];exact Ϧ k hk
 have hPa:∀i,i<11->Plain (w1.alloc (.cells (iU ea) 26)) (ea i):=λi hi=>(Wm i hi).below ώ
 have he2:(w1.alloc (.cells (iU ea) 26)).cell? ⟨pb,po+1,none⟩=some (.iface 352 (.pointer (some (ea m)))):=(ώ.cell (p:=⟨pb,po+1,none⟩) (Nat.lt_of_lt_of_le ñ hb.size)).trans he1;obtain⟨c0,c1,c2,c3,c4,c5,c6,c7,c8,c9,c10,_,_,_,_,_⟩:=E1;clear Ϧ Wm ώ he1;obtain⟨w2,Ã⟩:∃w2,w2=w1.alloc (.cells (iU ea) 26):=⟨_,rfl⟩;rw[<-Ã] at ϓ ϡ hPa he2;have H2:Hid (∀(w':World),w'=w1.alloc (.cells (iU ea) 26)->w'=w2):=λw' h=>h.trans Ã.symm
 clear Ã;go_wp2_with fail;have hw:=H2.out _ rfl;unfold iU at hw;rw[hw];clear hw H2 c0 c1 c2 c3 c4 c5 c6 c7 c8 c9 c10 hcf ha1;go_loop [3,29] (λa i=>a = .int .i64 n/\∃k:Nat,k<=m/\i = .int .i64 k) (λ_ i=>11-(intOf i).toNat);case atStart=>exact⟨rfl,0,Nat.zero_le _,rfl⟩
 case round=>
  obtain⟨rfl,k,hk,rfl⟩:=hrel;have KM:k<11:=by omega
  have hck:=ϡ k KM;by_cases ù:k<m
  ·have Ϙ:=Ă k ù;obtain⟨ca,ta,hA⟩:=hPa m hm;obtain⟨cb,tb,hC⟩:=hPa k KM;clear ϡ hPa;go_wp2_with (go_at_call 103;refine (KL pb po (ea k) (ea m) ca cb ta tb _ he2 (Ne.symm Ϙ) hA hC).mono ?_;rintro e w' ⟨rfl,rfl⟩);go_round;case rel=>exact⟨rfl,k+1,by omega,by go_num⟩
   case measure=>simp[intOf];omega
  ·have Oh:k=m:=by omega
   subst Oh;clear ϡ hPa;go_wp2_with (go_at_call 103;refine (Nu pb po (ea k) _ he2).mono ?_;rintro e w' ⟨rfl,rfl⟩);go_ret2;exact⟨by simp,ϓ⟩
end Go.Proofs.YtololnhfgjbhjaaGreatDoor
