import Derived.Test.YtnjmhjdhfaboaaaGreatDoorProg
import Derived.WalkKit
import Derived.Stop.Asserts
import Derived.RowKitTokens
set_option maxHeartbeats 1000000
open Nat (le_refl lt_of_lt_of_le lt_or_ge zero_le)
open Go.Proofs.Tryz
theorem rD{p:Prop}(h:p:=by simp;omega):p:=h
theorem lG{p:Prop}(h:p:=by kernel_rfl):p:=h
theorem fO{p:Prop}(h:p:=by omega):p:=h
theorem bE{A:Type}(a:A):∃x,x=a:=⟨a,rfl⟩
namespace Go.Proofs.YtnjmhjdhfaboaaaGreatDoor
open Go.RowKit Go.Extern.Stop Go.Stop Go.Extern
theorem Yf(t:Value)(w:World):
  Calls prog 32 #[.nilIface,t] w λe w'=>e = .returned (.bool false)/\w'=w:=by
 go_enter func32,ntmps32;go_wp2;go_ret;exact⟨rfl,rfl⟩
theorem Tryz.valueOfPP(t:Addr)(w:World):(ReflectliteValue.unpack (.iface 74 (.pointer (some t)))).run prog w
  = .ok (.agg #[.pointer (some ⟨26,74,none⟩),.pointer (some ⟨w.heap.size,0,none⟩),.int .u64 150]) (w.alloc (.cells #[.pointer (some t)] 74)):=lG
theorem Tryz.typePP(a:Addr)(w:World):(ReflectliteValue.methodAny (ReflectliteValue.valueError "reflectlite.Value.Type" 0) (λt _ _ _=>ReflectliteType.toType t) #[.agg #[.pointer (some ⟨26,74,none⟩),.pointer (some a),.int .u64 150]]).run prog w
  = .ok (.iface 169 (.agg #[.pointer (some ⟨26,74,none⟩)])) w:=lG
theorem Tryz.methodKind(h:Value)(w:World):(Go.method 537 169 (.agg #[h]) "Kind").run prog w = .ok (316,h) w:=lG
theorem Tryz.kindPP(w:World):((ReflectliteType.abiMethod λt=>(λa:Nat=>Value.int IntKind.u8 (a:Int)) <$> Rtype.kind t) #[.pointer (some ⟨26,74,none⟩)]).run prog w = .ok (.int .u8 22) w:=lG
theorem Tryz.kindP(w:World):((ReflectliteType.abiMethod λt=>(λa:Nat=>Value.int IntKind.u8 (a:Int)) <$> Rtype.kind t) #[.pointer (some ⟨26,72,none⟩)]).run prog w = .ok (.int .u8 22) w:=lG
theorem rlm(z:Sem Value)(f:TypeId->Addr->Nat->Nat->Sem Value)(v:Value):
  ReflectliteValue.method z f #[v]=(do match <-ReflectliteValue.parts v with|none=>z|some (t,a,fl)=>f t a fl (fl % 32)):=rfl
theorem Tryz.partsPP(a:Addr)(w:World):(ReflectliteValue.parts (.agg #[.pointer (some ⟨26,74,none⟩),.pointer (some a),.int .u64 150])).run prog w = .ok (some (74,a,150)) w:=lG
theorem Tryz.isNilPP(a p:Addr)(W:World)(o:W.cell? a=some (.pointer (some p))):
  (ReflectliteValue.method (ReflectliteValue.valueError "reflectlite.Value.IsNil" 0) ReflectliteValue.isNil #[.agg #[.pointer (some ⟨26,74,none⟩),.pointer (some a),.int .u64 150]]).run prog W = .ok (.bool false) W:=by
 rw[rlm];simp only[Sem.run_bind,Tryz.partsPP,Result.andThen];simp[ReflectliteValue.isNil,loadVar,isAgg,underlying,underlying74,o,Result.andThen]
theorem Tryz.methodElem(h:Value)(w:World):(Go.method 537 169 (.agg #[h]) "Elem").run prog w = .ok (329,.agg #[h]) w:=lG
theorem Tryz.methodImplements(h:Value)(w:World):(Go.method 537 169 (.agg #[h]) "Implements").run prog w = .ok (330,.agg #[h]) w:=lG
theorem Tryz.methodAssignableTo(h:Value)(w:World):(Go.method 537 169 (.agg #[h]) "AssignableTo").run prog w = .ok (327,.agg #[h]) w:=lG
theorem Tryz.elemPP(w:World):(ReflectliteType.method ReflectliteType.elem #[.agg #[.pointer (some ⟨26,74,none⟩)]]).run prog w = .ok (.iface 169 (.agg #[.pointer (some ⟨26,72,none⟩)])) w:=lG
theorem Tryz.implementsP(w:World):(ReflectliteType.relation "Implements" ReflectliteType.implements_ #[.agg #[.pointer (some ⟨26,72,none⟩)],.iface 169 (.agg #[.pointer (some ⟨26,25,none⟩)])]).run prog w = .ok (.bool true) w:=lG
theorem Tryz.typeOfP(v:Value)(w:World):(ReflectliteType.typeOf #[.iface 72 v]).run prog w = .ok (.iface 169 (.agg #[.pointer (some ⟨26,72,none⟩)])) w:=lG
theorem Tryz.typeOfE(v:Value)(w:World):(ReflectliteType.typeOf #[.iface 397 v]).run prog w = .ok (.iface 169 (.agg #[.pointer (some ⟨26,397,none⟩)])) w:=lG
theorem Tryz.assignableP(w:World):(ReflectliteType.relation "AssignableTo" ReflectliteType.assignableTo #[.agg #[.pointer (some ⟨26,72,none⟩)],.iface 169 (.agg #[.pointer (some ⟨26,72,none⟩)])]).run prog w = .ok (.bool true) w:=lG
theorem Tryz.assignableE(w:World):(ReflectliteType.relation "AssignableTo" ReflectliteType.assignableTo #[.agg #[.pointer (some ⟨26,397,none⟩)],.iface 169 (.agg #[.pointer (some ⟨26,72,none⟩)])]).run prog w = .ok (.bool false) w:=lG
theorem Tryz.valueOfP(e:Addr)(w:World):(ReflectliteValue.unpack (.iface 72 (.pointer (some e)))).run prog w
  = .ok (.agg #[.pointer (some ⟨26,72,none⟩),.pointer (some ⟨w.heap.size,0,none⟩),.int .u64 150]) (w.alloc (.cells #[.pointer (some e)] 72)):=lG
theorem Tryz.elemOfPP(w:World):(Rtype.elem? 74).run prog w = .ok (some 72) w:=lG
theorem Tryz.mkP(p:Addr)(w:World):(ReflectliteValue.mk 72 p ReflectliteValue.flagAddr).run prog w = .ok (.agg #[.pointer (some ⟨26,72,none⟩),.pointer (some p),.int .u64 406]) w:=lG
theorem Tryz.elemVPP(a p:Addr)(W:World)(o:W.cell? a=some (.pointer (some p))):
  (ReflectliteValue.method (ReflectliteValue.valueError "reflectlite.Value.Elem" 0) ReflectliteValue.elem #[.agg #[.pointer (some ⟨26,74,none⟩),.pointer (some a),.int .u64 150]]).run prog W
   = .ok (.agg #[.pointer (some ⟨26,72,none⟩),.pointer (some p),.int .u64 406]) W:=by
 rw[rlm];simp only[Sem.run_bind,Tryz.partsPP,Result.andThen];simp[ReflectliteValue.elem,loadVar,isAgg,underlying,underlying74,o,Result.andThen,Tryz.elemOfPP,Tryz.mkP]
theorem rls(v x:Value):ReflectliteValue.set #[v,x]=(do
  let (some (dst,a,fl),some (src,b,_)):=(<-ReflectliteValue.parts v,<-ReflectliteValue.parts x)
   | unsupported (.noEntry "extern/(internal/reflectlite.Value).Set.zeroValue")
  if fl / ReflectliteValue.flagAddr % 2==0 then unsupported (.noEntry "extern/(internal/reflectlite.Value).Set.unaddressable")
  let val <-loadVar src b
  if <-Rtype.directlyAssignable dst src then storeVar dst a val
  else if <-Rtype.implements dst src then
   if (<-Rtype.kind src)==20 then
    match val with
    | .nilIface=>unsupported (.noEntry "extern/reflectlite: a nil value of one interface type handed on as a value of another")
    | _=>storeVar dst a val
   else storeVar dst a (.iface src val)
  else panicString ("reflectlite.Set: value of type " ++ (<-Rtype.spelt src) ++ " is not assignable to type " ++ (<-Rtype.spelt dst))
  pure (.tuple #[])):=rfl
theorem Tryz.partsPa(a:Addr)(w:World):(ReflectliteValue.parts (.agg #[.pointer (some ⟨26,72,none⟩),.pointer (some a),.int .u64 406])).run prog w = .ok (some (72,a,406)) w:=lG
theorem Tryz.partsP(a:Addr)(w:World):(ReflectliteValue.parts (.agg #[.pointer (some ⟨26,72,none⟩),.pointer (some a),.int .u64 150])).run prog w = .ok (some (72,a,150)) w:=lG
theorem Tryz.directP(w:World):(Rtype.directlyAssignable 72 72).run prog w = .ok true w:=lG
theorem Tryz.setP(o b e:Addr)(q:Value)(W:World)(z:W.cell? b=some (.pointer (some e)))(D:W.cell? o=some q)(A:W.frozen? o=false):
  (ReflectliteValue.set #[.agg #[.pointer (some ⟨26,72,none⟩),.pointer (some o),.int .u64 406],.agg #[.pointer (some ⟨26,72,none⟩),.pointer (some b),.int .u64 150]]).run prog W
   = .ok (.tuple #[]) (W.setCell o (.pointer (some e))):=by
 rw[rls];simp only[Sem.run_bind,Tryz.partsPa,Tryz.partsP,Result.andThen];simp[ReflectliteValue.flagAddr,loadVar,isAgg,underlying,underlying72,z,Result.andThen,Tryz.directP,storeVar,Value.cells,storeCells,Addr.add];rw[run_store prog W o _ _ (by rfl)];simp[D,A]
theorem Tryz.noAsE(v:Value)(o:TypeId)(w:World):(Instr.typeAssert (.iface 397 v) o 173 true).run prog w = .ok (.tuple #[.nilIface,.bool false]) w:=run_typeAssert_lacksB underlying173 lG lG v o w
theorem Tryz.noIsE(v:Value)(o:TypeId)(w:World):(Instr.typeAssert (.iface 397 v) o 179 true).run prog w = .ok (.tuple #[.nilIface,.bool false]) w:=run_typeAssert_lacksB underlying179 lG lG v o w
theorem Tryz.noUnwrapE(v:Value)(o:TypeId)(w:World):(Instr.typeAssert (.iface 397 v) o 176 true).run prog w = .ok (.tuple #[.nilIface,.bool false]) w:=run_typeAssert_lacksB underlying176 lG lG v o w
theorem Tryz.noUnwrapsE(v:Value)(o:TypeId)(w:World):(Instr.typeAssert (.iface 397 v) o 177 true).run prog w = .ok (.tuple #[.nilIface,.bool false]) w:=run_typeAssert_lacksB underlying177 lG lG v o w
theorem Um(p t:Addr)(w:World)(o:w.cell? ⟨11,0,none⟩=some (.iface 169 (.agg #[.pointer (some ⟨26,25,none⟩)]))):
  Calls prog 32 #[.iface 397 (.pointer (some p)),.iface 74 (.pointer (some t))] w λG w'=>G = .returned (.bool false)/\Below w.heap.size w w':=by
 have h6:=@run_callFunc_extern prog 56 _ (λargs=>ReflectliteValue.unpack (args.getD 0 (.tuple #[]))) func56 lG lG lG lG;have h7:=@run_callFunc_extern prog 57 _ (ReflectliteValue.methodAny (ReflectliteValue.valueError "reflectlite.Value.Type" 0) (λt _ _ _=>ReflectliteType.toType t)) func57 lG lG lG lG;have O:=@run_callFunc_extern prog 58 _ (ReflectliteValue.method (ReflectliteValue.valueError "reflectlite.Value.IsNil" 0) ReflectliteValue.isNil) func58 lG lG lG lG;have I:=@run_callFunc_extern prog 316 _ (ReflectliteType.abiMethod λt=>do pure (.int .u8 (<-Rtype.kind t))) func316 lG lG lG lG;have z:=@run_callFunc_extern prog 329 _ (ReflectliteType.method ReflectliteType.elem) func329 lG lG lG lG;have D:=@run_callFunc_extern prog 330 _ (ReflectliteType.relation "Implements" ReflectliteType.implements_) func330 lG lG lG lG;have J:=@run_callFunc_extern prog 60 _ ReflectliteType.typeOf func60 lG lG lG lG;have H:=@run_callFunc_extern prog 327 _ (ReflectliteType.relation "AssignableTo" ReflectliteType.assignableTo) func327 lG lG lG lG;have tO:=Tryz.typeOfE;have mA:=Tryz.methodAssignableTo;have aE:=Tryz.assignableE;have Z:=Tryz.valueOfPP;have f7:=Tryz.typePP;have U:=Tryz.methodKind;have V:=Tryz.methodElem;have mI:=Tryz.methodImplements;have A:=Tryz.kindPP;have Q:=Tryz.kindP;have F:=Tryz.elemPP;have R:=Tryz.implementsP;have K:=Tryz.noAsE;have nU:=Tryz.noUnwrapE;have Y:=Tryz.noUnwrapsE;have W:=Tryz.isNilPP ⟨w.heap.size,0,none⟩ t ((w.alloc (.cells #[.pointer (some t)] 74)).alloc (.cells #[.pointer (some ⟨26,74,none⟩),.pointer (some ⟨w.heap.size,0,none⟩),.int .u64 150] 124)) (by simp);have q:11<w.heap.size:=by
  rcases lt_or_ge 11 w.heap.size with h|h
  ·exact h
  ·simp[World.cell?,Array.getElem?_eq_none h] at o
 have ϫ:((w.alloc (.cells #[.pointer (some t)] 74)).alloc (.cells #[.pointer (some ⟨26,74,none⟩),.pointer (some ⟨w.heap.size,0,none⟩),.int .u64 150] 124)).cell? ⟨11,0,none⟩=some (.iface 169 (.agg #[.pointer (some ⟨26,25,none⟩)])):=by
  rw[World.cell?_alloc_lt _ _ ⟨11,0,none⟩ rD,World.cell?_alloc_lt _ _ ⟨11,0,none⟩ q];exact o
 go_enter func32,ntmps32;go_wp2;refine wp_loop_rounds 1 ?_;rw[rounds_succ];go_wp2;go_ret;exact⟨rfl,(((Below.refl _ _).alloc (le_refl _) _).alloc (by simp) _).alloc rD _⟩
def Fe:Array Value->Sem Value:=Extern.ReflectliteType.method λt=>do Rtype.noPackHeld "Comparable" t;pure (.bool (<-typeInfo t).comparable)
theorem Tryz.isComparable(w:World):(Fe #[.agg #[.pointer (some ⟨26,397,none⟩)]]).run prog w = .ok (.bool true) w:=lG
theorem Tryz.isMethodComparable(v:Value)(w:World):(Go.method 537 169 v "Comparable").run prog w = .ok (328,v) w:=lG
theorem Tryz.isComp:(prog.info? 397).map (·.comparable)=some true:=lG
theorem Tryz.isSize:(prog.info? 399).map (·.size)=some 1:=lG
theorem ae2(a:Addr)(w:World):
  Calls prog 33 #[.iface 397 (.pointer (some a)),.iface 397 (.pointer (some a))] w λe w'=>e = .returned (.bool true)/\w'=w:=by
 obtain⟨i,q,o⟩:=Option.map_eq_some_iff.1 Tryz.isComp;obtain⟨j,z,H⟩:=Option.map_eq_some_iff.1 Tryz.isSize;have F:=@run_callFunc_extern prog 60 _ Extern.ReflectliteType.typeOf func60 lG lG lG lG;have D:=@run_callFunc_extern prog 328 _ Fe func328 lG lG lG lG;have G:=Tryz.typeOfE;have I:=Tryz.isComparable;have J:=Tryz.isMethodComparable;have A:=run_eql_iface_ptr_same (P:=prog) w a underlying25 underlying397 q o z;go_enter func33,ntmps33;go_wp2;refine wp_loop_rounds 1 ?_;rw[rounds_succ];go_wp2;go_ret;exact⟨rfl,rfl⟩
theorem abn(a b:Addr)(G J:Array Value)(H I:TypeId)(w:World)(z:a≠b)(A:w.heap[a.block]? = some (.cells G H (0,0)))(q:w.heap[b.block]? = some (.cells J I (0,0))):
  Calls prog 33 #[.iface 397 (.pointer (some a)),.iface 397 (.pointer (some b))] w λe w'=>e = .returned (.bool false)/\w'=w:=by
 obtain⟨i,K,o⟩:=Option.map_eq_some_iff.1 Tryz.isComp;obtain⟨j,O,F⟩:=Option.map_eq_some_iff.1 Tryz.isSize;have V:=@run_callFunc_extern prog 60 _ Extern.ReflectliteType.typeOf func60 lG lG lG lG;have D:=@run_callFunc_extern prog 328 _ Fe func328 lG lG lG lG;have W:=Tryz.typeOfE;have Y:=Tryz.isComparable;have Z:=Tryz.isMethodComparable;have R:=Tryz.noIsE;have U:=Tryz.noUnwrapE;have vE:=Tryz.noUnwrapsE;have Q:=run_eql_iface_ptr_other (P:=prog) w underlying25 underlying397 K o O (by rw[F];decide) z A q;go_enter func33,ntmps33;go_wp2;refine wp_loop_rounds 1 ?_;rw[rounds_succ];go_wp2;go_ret;exact⟨rfl,rfl⟩
theorem Yh(e t:Addr)(o:Value)(w:World)(A:w.cell? ⟨11,0,none⟩=some (.iface 169 (.agg #[.pointer (some ⟨26,25,none⟩)])))(z:w.cell? t=some o)(q:w.frozen? t=false):
  Calls prog 32 #[.iface 72 (.pointer (some e)),.iface 74 (.pointer (some t))] w λO w'=>O = .returned (.bool true)/\w'=((((w.alloc (.cells #[.pointer (some t)] 74)).alloc (.cells #[.pointer (some ⟨26,74,none⟩),.pointer (some ⟨w.heap.size,0,none⟩),.int .u64 150] 124)).alloc (.cells #[.pointer (some ⟨26,74,none⟩),.pointer (some ⟨w.heap.size,0,none⟩),.int .u64 150] 124)).alloc (.cells #[.pointer (some e)] 72)).setCell t (.pointer (some e)):=by
 have h6:=@run_callFunc_extern prog 56 _ (λargs=>ReflectliteValue.unpack (args.getD 0 (.tuple #[]))) func56 lG lG lG lG;have h7:=@run_callFunc_extern prog 57 _ (ReflectliteValue.methodAny (ReflectliteValue.valueError "reflectlite.Value.Type" 0) (λt _ _ _=>ReflectliteType.toType t)) func57 lG lG lG lG;have Y:=@run_callFunc_extern prog 58 _ (ReflectliteValue.method (ReflectliteValue.valueError "reflectlite.Value.IsNil" 0) ReflectliteValue.isNil) func58 lG lG lG lG;have U:=@run_callFunc_extern prog 316 _ (ReflectliteType.abiMethod λt=>do pure (.int .u8 (<-Rtype.kind t))) func316 lG lG lG lG;have H:=@run_callFunc_extern prog 329 _ (ReflectliteType.method ReflectliteType.elem) func329 lG lG lG lG;have J:=@run_callFunc_extern prog 330 _ (ReflectliteType.relation "Implements" ReflectliteType.implements_) func330 lG lG lG lG;have V:=@run_callFunc_extern prog 60 _ ReflectliteType.typeOf func60 lG lG lG lG;have R:=@run_callFunc_extern prog 327 _ (ReflectliteType.relation "AssignableTo" ReflectliteType.assignableTo) func327 lG lG lG lG;have Q:=@run_callFunc_extern prog 89 _ (ReflectliteValue.method (ReflectliteValue.valueError "reflectlite.Value.Elem" 0) ReflectliteValue.elem) func89 lG lG lG lG;have F:=@run_callFunc_extern prog 90 _ ReflectliteValue.set func90 lG lG lG lG;have tO:=Tryz.typeOfP;have mA:=Tryz.methodAssignableTo;have aP:=Tryz.assignableP;have vP:=Tryz.valueOfP;have f6:=Tryz.valueOfPP;have f7:=Tryz.typePP;have mK:=Tryz.methodKind;have mE:=Tryz.methodElem;have mI:=Tryz.methodImplements;have I:=Tryz.kindPP;have Z:=Tryz.kindP;have K:=Tryz.elemPP;have iP:=Tryz.implementsP;have n8:=Tryz.isNilPP ⟨w.heap.size,0,none⟩ t ((w.alloc (.cells #[.pointer (some t)] 74)).alloc (.cells #[.pointer (some ⟨26,74,none⟩),.pointer (some ⟨w.heap.size,0,none⟩),.int .u64 150] 124)) (by simp);have G:11<w.heap.size:=by
  rcases lt_or_ge 11 w.heap.size with h|h
  ·exact h
  ·simp[World.cell?,Array.getElem?_eq_none h] at A
 have ϫ:((w.alloc (.cells #[.pointer (some t)] 74)).alloc (.cells #[.pointer (some ⟨26,74,none⟩),.pointer (some ⟨w.heap.size,0,none⟩),.int .u64 150] 124)).cell? ⟨11,0,none⟩=some (.iface 169 (.agg #[.pointer (some ⟨26,25,none⟩)])):=by
  rw[World.cell?_alloc_lt _ _ ⟨11,0,none⟩ rD,World.cell?_alloc_lt _ _ ⟨11,0,none⟩ G];exact A
 have D:t.block<w.heap.size:=by
  rcases lt_or_ge t.block w.heap.size with h|h
  ·exact h
  ·simp[World.cell?,Array.getElem?_eq_none h] at z
 have el:=Tryz.elemVPP ⟨w.heap.size,0,none⟩ t (((w.alloc (.cells #[.pointer (some t)] 74)).alloc (.cells #[.pointer (some ⟨26,74,none⟩),.pointer (some ⟨w.heap.size,0,none⟩),.int .u64 150] 124)).alloc (.cells #[.pointer (some ⟨26,74,none⟩),.pointer (some ⟨w.heap.size,0,none⟩),.int .u64 150] 124)) (by rw[World.cell?_alloc_lt _ _ ⟨w.heap.size,0,none⟩ rD];simp);have W:=Tryz.setP t ⟨w.heap.size+1+1+1,0,none⟩ e o ((((w.alloc (.cells #[.pointer (some t)] 74)).alloc (.cells #[.pointer (some ⟨26,74,none⟩),.pointer (some ⟨w.heap.size,0,none⟩),.int .u64 150] 124)).alloc (.cells #[.pointer (some ⟨26,74,none⟩),.pointer (some ⟨w.heap.size,0,none⟩),.int .u64 150] 124)).alloc (.cells #[.pointer (some e)] 72))
  (by rw[World.cell?_alloc_at _ _ _ _ (by simp)];rfl)
  (by rw[World.cell?_alloc_lt _ _ t rD,World.cell?_alloc_lt _ _ t rD,World.cell?_alloc_lt _ _ t rD,World.cell?_alloc_lt _ _ t D];exact z)
  (by rw[World.frozen?_alloc_old _ _ t rD,World.frozen?_alloc_old _ _ t rD,World.frozen?_alloc_old _ _ t rD,World.frozen?_alloc_old _ _ t (Nat.ne_of_lt D)];exact q)
 go_enter func32,ntmps32;go_wp2;refine wp_loop_rounds 1 ?_;rw[rounds_succ];go_wp2;go_ret;exact⟨rfl,rfl⟩
structure Env(B:Nat)(ea:Nat->Addr)(w:World):Prop where
 c0:w.cell? ⟨1,0,none⟩=some (.iface 397 (.pointer (some (ea 0))))
 c1:w.cell? ⟨0,0,none⟩=some (.iface 397 (.pointer (some (ea 1))))
 c2:w.cell? ⟨2,0,none⟩=some (.iface 397 (.pointer (some (ea 2))))
 c3:w.cell? ⟨3,0,none⟩=some (.iface 397 (.pointer (some (ea 3))))
 c4:w.cell? ⟨4,0,none⟩=some (.iface 397 (.pointer (some (ea 4))))
 c5:w.cell? ⟨5,0,none⟩=some (.iface 397 (.pointer (some (ea 5))))
 c6:w.cell? ⟨6,0,none⟩=some (.iface 397 (.pointer (some (ea 6))))
 c7:w.cell? ⟨7,0,none⟩=some (.iface 397 (.pointer (some (ea 7))))
 c8:w.cell? ⟨8,0,none⟩=some (.iface 397 (.pointer (some (ea 8))))
 c9:w.cell? ⟨9,0,none⟩=some (.iface 397 (.pointer (some (ea 9))))
 c10:w.cell? ⟨10,0,none⟩=some (.iface 397 (.pointer (some (ea 10))))
 typ:w.cell? ⟨11,0,none⟩=some (.iface 169 (.agg #[.pointer (some ⟨26,25,none⟩)]))
 blk:∀i,i<11->∃c t,w.heap[(ea i).block]? = some (.cells c t (0,0))
 lt:∀i,i<11->(ea i).block<B
 inj:∀i j,i<11->j<11->ea i=ea j->i=j
 low:11<B
theorem Env.below{B:Nat}{ea:Nat->Addr}{w w':World}(E:Env B ea w){q:Nat}(h:Below q w w')(A:B<=q):Env B ea w':=by
 have F:=E.low;have o:∀g,g<=11->w'.cell? ⟨g,0,none⟩=w.cell? ⟨g,0,none⟩:=λg G=>h.cell (p:=⟨g,0,none⟩) (by show g<q;omega)
 exact
  {c0:=(o _ fO).trans E.c0
   c1:=(o _ fO).trans E.c1
   c2:=(o _ fO).trans E.c2
   c3:=(o _ fO).trans E.c3
   c4:=(o _ fO).trans E.c4
   c5:=(o _ fO).trans E.c5
   c6:=(o _ fO).trans E.c6
   c7:=(o _ fO).trans E.c7
   c8:=(o _ fO).trans E.c8
   c9:=(o _ fO).trans E.c9
   c10:=(o _ fO).trans E.c10
   typ:=(o _ fO).trans E.typ
   blk:=λi z=>by
    obtain⟨c,t,D⟩:=E.blk i z;exact⟨c,t,(h.block _ (lt_of_lt_of_le (E.lt i z) A)).trans D⟩
   lt:=E.lt
   inj:=E.inj
   low:=E.low }
def Plain(w:World)(p:Addr):Prop:=∃c t,w.heap[p.block]? = some (.cells c t (0,0))
theorem Plain.lt{w:World}{p:Addr}(h:Plain w p):p.block<w.heap.size:=by
 obtain⟨c,t,h⟩:=h;rcases lt_or_ge p.block w.heap.size with o|o
 ·exact o
 ·simp[Array.getElem?_eq_none o] at h
theorem Plain.below{w w':World}{p:Addr}(h:Plain w p)(z:Below w.heap.size w w'):Plain w' p:=by
 have q:=h.lt;obtain⟨c,t,o⟩:=h;exact⟨c,t,(z.block _ q).trans o⟩
def qP(ea:Nat->Addr):Array Value:=#[.iface 397 (.pointer (some (ea 0))),.iface 397 (.pointer (some (ea 1))),.iface 397 (.pointer (some (ea 2))),.iface 397 (.pointer (some (ea 3))),.iface 397 (.pointer (some (ea 4))),.iface 397 (.pointer (some (ea 5))),.iface 397 (.pointer (some (ea 6))),.iface 397 (.pointer (some (ea 7))),.iface 397 (.pointer (some (ea 8))),.iface 397 (.pointer (some (ea 9))),.iface 397 (.pointer (some (ea 10)))]
theorem SX(ea:Nat->Addr)(k:Nat)(o:k<11):(qP ea)[k]? = some (.iface 397 (.pointer (some (ea k)))):=by
 match k,o with
 | 0,_=>rfl
 | 1,_=>rfl
 | 2,_=>rfl
 | 3,_=>rfl
 | 4,_=>rfl
 | 5,_=>rfl
 | 6,_=>rfl
 | 7,_=>rfl
 | 8,_=>rfl
 | 9,_=>rfl
 | 10,_=>rfl
theorem ae3{B:Nat}{ea:Nat->Addr}(w:World)(E:Env B ea w)(J:B<=w.heap.size)(p:Addr)(hp:Plain w p)(m:Nat)(hm:m<=11)(Â:∀j,j<m->ea j≠p)(Ŝ:m<11->ea m=p):
  Calls prog 16 #[.iface 397 (.pointer (some p))] w λe w'=>e = .returned (.tuple #[.int .i64 (if m<11 then (m:Int)+1 else -1),.int .i64 (-1)])/\Below w.heap.size w w':=by
 have U:Below w.heap.size w (w.alloc (.cells #[.pointer none] 72)):=(Below.refl _ _).alloc (le_refl _) _;have hg:=(E.below U J).typ;go_enter func16,ntmps16;go_wp2_with fail;refine (Um p ⟨w.heap.size,0,none⟩ _ hg).mono ?_;rintro e w1 ⟨rfl,Z⟩;have z:=U.trans (Z.mono (by simp));have K:=E.below z J;have Ϭ:=SX ea;have Ψ:=hp.below z;have F:∀i,i<11->Plain w1 (ea i):=K.blk;have A:Below w.heap.size w (w1.alloc (.cells (qP ea) 25)):=z.alloc z.size _;have O:Below w1.heap.size w1 (w1.alloc (.cells (qP ea) 25)):=(Below.refl _ _).alloc (le_refl _) _;have R:∀k,k<11->(w1.alloc (.cells (qP ea) 25)).cell? ⟨w1.heap.size,k,none⟩=some (.iface 397 (.pointer (some (ea k)))):=λk V=>by rw[World.cell?_alloc_at _ _ _ _ rfl];exact Ϭ k V
 have W:=Ψ.below O;have q:∀i,i<11->Plain (w1.alloc (.cells (qP ea) 25)) (ea i):=λi hi=>(F i hi).below O
 obtain⟨c0,c1,c2,c3,c4,c5,c6,c7,c8,c9,c10,_,_,_,_,_⟩:=K;obtain⟨Y,G⟩:=bE (w1.alloc (.cells (qP ea) 25));rw[<-G] at A R W q;have H2:Hid (∀(w':World),w'=w1.alloc (.cells (qP ea) 25)->w'=Y):=λw' h=>h.trans G.symm
 clear G;go_wp2_with fail;have Q:=H2.out _ rfl;unfold qP at Q;rw[Q];go_loop [3,29] (λa i=>a = .int .i64 (-1)/\∃k:Nat,k<=m/\i = .int .i64 k) (λ_ i=>11-(intOf i).toNat);case atStart=>exact⟨rfl,0,zero_le _,rfl⟩
 case round=>
  obtain⟨rfl,k,V,rfl⟩:=hrel;by_cases o:k<11
  ·have hck:=R k o;by_cases D:k<m
   ·have ϕ:=Â k D;obtain⟨ca,ta,hA⟩:=W;obtain⟨cb,tb,hC⟩:=q k o;go_wp2_with (go_at_call 33;refine (abn p (ea k) ca cb ta tb _ (Ne.symm ϕ) hA hC).mono ?_;rintro e w' ⟨rfl,rfl⟩);go_round;case rel=>exact⟨rfl,k+1,fO,by go_num⟩
    case measure=>simp[intOf];omega
   ·have H:k=m:=fO;subst H;have I:=Ŝ o;subst I;go_wp2_with (go_at_call 33;refine (ae2 (ea k) _).mono ?_;rintro e w' ⟨rfl,rfl⟩);go_ret2;exact⟨by simp,A⟩
  ·have D:m=11:=fO;subst D;obtain rfl:k=11:=fO;go_wp2;go_ret2;exact⟨by simp,A⟩
structure M9(B:Nat)(ea:Nat->Addr)(w:World):Prop where
 c0:w.cell? ⟨1,0,none⟩=some (.iface 397 (.pointer (some (ea 0))))
 c1:w.cell? ⟨0,0,none⟩=some (.iface 397 (.pointer (some (ea 1))))
 c4:w.cell? ⟨4,0,none⟩=some (.iface 397 (.pointer (some (ea 4))))
 c7:w.cell? ⟨7,0,none⟩=some (.iface 397 (.pointer (some (ea 7))))
 c8:w.cell? ⟨8,0,none⟩=some (.iface 397 (.pointer (some (ea 8))))
 typ:w.cell? ⟨11,0,none⟩=some (.iface 169 (.agg #[.pointer (some ⟨26,25,none⟩)]))
 low:11<B
theorem M9.below{B:Nat}{ea:Nat->Addr}{w w':World}(E:M9 B ea w){q:Nat}(h:Below q w w')(z:B<=q):M9 B ea w':=by
 have A:=E.low;have o:∀g,g<=11->w'.cell? ⟨g,0,none⟩=w.cell? ⟨g,0,none⟩:=λg D=>h.cell (p:=⟨g,0,none⟩) (by show g<q;omega)
 exact
  {c0:=(o _ fO).trans E.c0
   c1:=(o _ fO).trans E.c1
   c4:=(o _ fO).trans E.c4
   c7:=(o _ fO).trans E.c7
   c8:=(o _ fO).trans E.c8
   typ:=(o _ fO).trans E.typ
   low:=E.low }
end Go.Proofs.YtnjmhjdhfaboaaaGreatDoor
