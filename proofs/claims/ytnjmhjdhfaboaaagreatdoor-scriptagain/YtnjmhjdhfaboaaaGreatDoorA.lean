import Derived.Test.YtnjmhjdhfaboaaaGreatDoorProg
import Derived.WalkKit
import Derived.Stop.Asserts
import Derived.RowKitTokens
open Go.Proofs.Tryz
theorem oI{p:Prop}(h:p:=by simp;omega):p:=h
theorem iX{p:Prop}(h:p:=by kernel_rfl):p:=h
namespace Go.Proofs.YtnjmhjdhfaboaaaGreatDoor
open Go.RowKit Go.Extern.Stop Go.Stop Go.Extern
theorem YJ(t:Value)(w:World):
  Calls prog 32 #[.nilIface,t] w λe w'=>e = .returned (.bool false)/\w'=w:=by
 go_enter func32,ntmps32;go_wp2;go_ret;exact⟨rfl,rfl⟩
theorem Tryz.valueOfPP(t:Addr)(w:World):(ReflectliteValue.unpack (.iface 74 (.pointer (some t)))).run prog w
  = .ok (.agg #[.pointer (some ⟨26,74,none⟩),.pointer (some ⟨w.heap.size,0,none⟩),.int .u64 150]) (w.alloc (.cells #[.pointer (some t)] 74)):=iX
theorem Tryz.typePP(a:Addr)(w:World):(ReflectliteValue.methodAny (ReflectliteValue.valueError "reflectlite.Value.Type" 0) (λt _ _ _=>ReflectliteType.toType t) #[.agg #[.pointer (some ⟨26,74,none⟩),.pointer (some a),.int .u64 150]]).run prog w
  = .ok (.iface 169 (.agg #[.pointer (some ⟨26,74,none⟩)])) w:=iX
theorem Tryz.methodKind(h:Value)(w:World):(Go.method 537 169 (.agg #[h]) "Kind").run prog w = .ok (316,h) w:=iX
theorem Tryz.kindPP(w:World):((ReflectliteType.abiMethod λt=>(λa:Nat=>Value.int IntKind.u8 (a:Int)) <$> Rtype.kind t) #[.pointer (some ⟨26,74,none⟩)]).run prog w = .ok (.int .u8 22) w:=iX
theorem Tryz.kindP(w:World):((ReflectliteType.abiMethod λt=>(λa:Nat=>Value.int IntKind.u8 (a:Int)) <$> Rtype.kind t) #[.pointer (some ⟨26,72,none⟩)]).run prog w = .ok (.int .u8 22) w:=iX
theorem rlm(z:Sem Value)(f:TypeId->Addr->Nat->Nat->Sem Value)(v:Value):
  ReflectliteValue.method z f #[v]=(do match <-ReflectliteValue.parts v with|none=>z|some (t,a,fl)=>f t a fl (fl % 32)):=rfl
theorem Tryz.partsPP(a:Addr)(w:World):(ReflectliteValue.parts (.agg #[.pointer (some ⟨26,74,none⟩),.pointer (some a),.int .u64 150])).run prog w = .ok (some (74,a,150)) w:=iX
theorem Tryz.isNilPP(a p:Addr)(W:World)(j:W.cell? a=some (.pointer (some p))):
  (ReflectliteValue.method (ReflectliteValue.valueError "reflectlite.Value.IsNil" 0) ReflectliteValue.isNil #[.agg #[.pointer (some ⟨26,74,none⟩),.pointer (some a),.int .u64 150]]).run prog W = .ok (.bool false) W:=by
 rw[rlm];simp only[Sem.run_bind,Tryz.partsPP,Result.andThen];simp[ReflectliteValue.isNil,loadVar,isAgg,underlying,underlying74,j,Result.andThen]
theorem Tryz.methodElem(h:Value)(w:World):(Go.method 537 169 (.agg #[h]) "Elem").run prog w = .ok (329,.agg #[h]) w:=iX
theorem Tryz.methodImplements(h:Value)(w:World):(Go.method 537 169 (.agg #[h]) "Implements").run prog w = .ok (330,.agg #[h]) w:=iX
theorem Tryz.methodAssignableTo(h:Value)(w:World):(Go.method 537 169 (.agg #[h]) "AssignableTo").run prog w = .ok (327,.agg #[h]) w:=iX
theorem Tryz.elemPP(w:World):(ReflectliteType.method ReflectliteType.elem #[.agg #[.pointer (some ⟨26,74,none⟩)]]).run prog w = .ok (.iface 169 (.agg #[.pointer (some ⟨26,72,none⟩)])) w:=iX
theorem Tryz.implementsP(w:World):(ReflectliteType.relation "Implements" ReflectliteType.implements_ #[.agg #[.pointer (some ⟨26,72,none⟩)],.iface 169 (.agg #[.pointer (some ⟨26,25,none⟩)])]).run prog w = .ok (.bool true) w:=iX
theorem Tryz.typeOfP(v:Value)(w:World):(ReflectliteType.typeOf #[.iface 72 v]).run prog w = .ok (.iface 169 (.agg #[.pointer (some ⟨26,72,none⟩)])) w:=iX
theorem Tryz.typeOfE(v:Value)(w:World):(ReflectliteType.typeOf #[.iface 397 v]).run prog w = .ok (.iface 169 (.agg #[.pointer (some ⟨26,397,none⟩)])) w:=iX
theorem Tryz.assignableP(w:World):(ReflectliteType.relation "AssignableTo" ReflectliteType.assignableTo #[.agg #[.pointer (some ⟨26,72,none⟩)],.iface 169 (.agg #[.pointer (some ⟨26,72,none⟩)])]).run prog w = .ok (.bool true) w:=iX
theorem Tryz.assignableE(w:World):(ReflectliteType.relation "AssignableTo" ReflectliteType.assignableTo #[.agg #[.pointer (some ⟨26,397,none⟩)],.iface 169 (.agg #[.pointer (some ⟨26,72,none⟩)])]).run prog w = .ok (.bool false) w:=iX
theorem Tryz.valueOfP(e:Addr)(w:World):(ReflectliteValue.unpack (.iface 72 (.pointer (some e)))).run prog w
  = .ok (.agg #[.pointer (some ⟨26,72,none⟩),.pointer (some ⟨w.heap.size,0,none⟩),.int .u64 150]) (w.alloc (.cells #[.pointer (some e)] 72)):=iX
theorem Tryz.elemOfPP(w:World):(Rtype.elem? 74).run prog w = .ok (some 72) w:=iX
theorem Tryz.mkP(p:Addr)(w:World):(ReflectliteValue.mk 72 p ReflectliteValue.flagAddr).run prog w = .ok (.agg #[.pointer (some ⟨26,72,none⟩),.pointer (some p),.int .u64 406]) w:=iX
theorem Tryz.elemVPP(a p:Addr)(W:World)(j:W.cell? a=some (.pointer (some p))):
  (ReflectliteValue.method (ReflectliteValue.valueError "reflectlite.Value.Elem" 0) ReflectliteValue.elem #[.agg #[.pointer (some ⟨26,74,none⟩),.pointer (some a),.int .u64 150]]).run prog W
   = .ok (.agg #[.pointer (some ⟨26,72,none⟩),.pointer (some p),.int .u64 406]) W:=by
 rw[rlm];simp only[Sem.run_bind,Tryz.partsPP,Result.andThen];simp[ReflectliteValue.elem,loadVar,isAgg,underlying,underlying74,j,Result.andThen,Tryz.elemOfPP,Tryz.mkP]
theorem rls(v x:Value):ReflectliteValue.set #[v,x]=(do
  let (some (dst,a,fl),some (src,b,_)):=(<-ReflectliteValue.parts v,<-ReflectliteValue.parts x)
   | unsupported (.noEntry "extern/(internal/reflectlite.Value).Set.zeroValue")
  if fl / ReflectliteValue.flagAddr % 2==0 then unsupported (.noEntry "extern/(internal/reflectlite.Value).Set.unaddressable")
  let val <-loadVar src b
  if <-Rtype.directlyAssignable dst src then storeVar dst a val
  else if <-Rtype.implements dst src then
   if (<-Rtype.kind src)==20 then
    match val with
    | .nilIface=>unsupported (.noEntry "extern/reflectlite: a nil value of one interface type handed on as a value of another")
    | _=>storeVar dst a val
   else storeVar dst a (.iface src val)
  else panicString ("reflectlite.Set: value of type " ++ (<-Rtype.spelt src) ++ " is not assignable to type " ++ (<-Rtype.spelt dst))
  pure (.tuple #[])):=rfl
theorem Tryz.partsPa(a:Addr)(w:World):(ReflectliteValue.parts (.agg #[.pointer (some ⟨26,72,none⟩),.pointer (some a),.int .u64 406])).run prog w = .ok (some (72,a,406)) w:=iX
theorem Tryz.partsP(a:Addr)(w:World):(ReflectliteValue.parts (.agg #[.pointer (some ⟨26,72,none⟩),.pointer (some a),.int .u64 150])).run prog w = .ok (some (72,a,150)) w:=iX
theorem Tryz.directP(w:World):(Rtype.directlyAssignable 72 72).run prog w = .ok true w:=iX
theorem Tryz.setP(j b e:Addr)(o:Value)(W:World)(q:W.cell? b=some (.pointer (some e)))(A:W.cell? j=some o)(z:W.frozen? j=false):
  (ReflectliteValue.set #[.agg #[.pointer (some ⟨26,72,none⟩),.pointer (some j),.int .u64 406],.agg #[.pointer (some ⟨26,72,none⟩),.pointer (some b),.int .u64 150]]).run prog W
   = .ok (.tuple #[]) (W.setCell j (.pointer (some e))):=by
 rw[rls];simp only[Sem.run_bind,Tryz.partsPa,Tryz.partsP,Result.andThen];simp[ReflectliteValue.flagAddr,loadVar,isAgg,underlying,underlying72,q,Result.andThen,Tryz.directP,storeVar,Value.cells,storeCells,Addr.add];rw[run_store prog W j _ _ (by rfl)];simp[A,z]
theorem Tryz.noAsE(v:Value)(j:TypeId)(w:World):(Instr.typeAssert (.iface 397 v) j 173 true).run prog w = .ok (.tuple #[.nilIface,.bool false]) w:=run_typeAssert_lacksB underlying173 iX iX v j w
theorem Tryz.noUnwrapE(v:Value)(j:TypeId)(w:World):(Instr.typeAssert (.iface 397 v) j 176 true).run prog w = .ok (.tuple #[.nilIface,.bool false]) w:=run_typeAssert_lacksB underlying176 iX iX v j w
theorem Tryz.noUnwrapsE(v:Value)(j:TypeId)(w:World):(Instr.typeAssert (.iface 397 v) j 177 true).run prog w = .ok (.tuple #[.nilIface,.bool false]) w:=run_typeAssert_lacksB underlying177 iX iX v j w
theorem afu(p t:Addr)(w:World)(j:w.cell? ⟨11,0,none⟩=some (.iface 169 (.agg #[.pointer (some ⟨26,25,none⟩)]))):
  Calls prog 32 #[.iface 397 (.pointer (some p)),.iface 74 (.pointer (some t))] w λq w'=>q = .returned (.bool false)/\Below w.heap.size w w':=by
 have Q:=@run_callFunc_extern prog 56 _ (λargs=>ReflectliteValue.unpack (args.getD 0 (.tuple #[]))) func56 iX iX iX iX;have R:=@run_callFunc_extern prog 57 _ (ReflectliteValue.methodAny (ReflectliteValue.valueError "reflectlite.Value.Type" 0) (λt _ _ _=>ReflectliteType.toType t)) func57 iX iX iX iX;have U:=@run_callFunc_extern prog 58 _ (ReflectliteValue.method (ReflectliteValue.valueError "reflectlite.Value.IsNil" 0) ReflectliteValue.isNil) func58 iX iX iX iX;have A:=@run_callFunc_extern prog 316 _ (ReflectliteType.abiMethod λt=>do pure (.int .u8 (<-Rtype.kind t))) func316 iX iX iX iX;have F:=@run_callFunc_extern prog 329 _ (ReflectliteType.method ReflectliteType.elem) func329 iX iX iX iX;have G:=@run_callFunc_extern prog 330 _ (ReflectliteType.relation "Implements" ReflectliteType.implements_) func330 iX iX iX iX;have z:=@run_callFunc_extern prog 60 _ ReflectliteType.typeOf func60 iX iX iX iX;have D:=@run_callFunc_extern prog 327 _ (ReflectliteType.relation "AssignableTo" ReflectliteType.assignableTo) func327 iX iX iX iX;have tO:=Tryz.typeOfE;have mA:=Tryz.methodAssignableTo;have J:=Tryz.assignableE;have K:=Tryz.valueOfPP;have O:=Tryz.typePP;have mK:=Tryz.methodKind;have Y:=Tryz.methodElem;have Z:=Tryz.methodImplements;have H:=Tryz.kindPP;have W:=Tryz.kindP;have o:=Tryz.elemPP;have V:=Tryz.implementsP;have nA:=Tryz.noAsE;have nU:=Tryz.noUnwrapE;have nV:=Tryz.noUnwrapsE;have n8:=Tryz.isNilPP ⟨w.heap.size,0,none⟩ t ((w.alloc (.cells #[.pointer (some t)] 74)).alloc (.cells #[.pointer (some ⟨26,74,none⟩),.pointer (some ⟨w.heap.size,0,none⟩),.int .u64 150] 124)) (by simp);have I:11<w.heap.size:=by
  rcases Nat.lt_or_ge 11 w.heap.size with h|h
  ·exact h
  ·simp[World.cell?,Array.getElem?_eq_none h] at j
 have ϭ:((w.alloc (.cells #[.pointer (some t)] 74)).alloc (.cells #[.pointer (some ⟨26,74,none⟩),.pointer (some ⟨w.heap.size,0,none⟩),.int .u64 150] 124)).cell? ⟨11,0,none⟩=some (.iface 169 (.agg #[.pointer (some ⟨26,25,none⟩)])):=by
  rw[World.cell?_alloc_lt _ _ ⟨11,0,none⟩ oI,World.cell?_alloc_lt _ _ ⟨11,0,none⟩ I];exact j
 go_enter func32,ntmps32;go_wp2;refine wp_loop_rounds 1 ?_;rw[rounds_succ];go_wp2;go_ret;exact⟨rfl,(((Below.refl _ _).alloc (Nat.le_refl _) _).alloc (by simp) _).alloc oI _⟩
theorem YL(e t:Addr)(j:Value)(w:World)(q:w.cell? ⟨11,0,none⟩=some (.iface 169 (.agg #[.pointer (some ⟨26,25,none⟩)])))(z:w.cell? t=some j)(o:w.frozen? t=false):
  Calls prog 32 #[.iface 72 (.pointer (some e)),.iface 74 (.pointer (some t))] w λF w'=>F = .returned (.bool true)/\w'=((((w.alloc (.cells #[.pointer (some t)] 74)).alloc (.cells #[.pointer (some ⟨26,74,none⟩),.pointer (some ⟨w.heap.size,0,none⟩),.int .u64 150] 124)).alloc (.cells #[.pointer (some ⟨26,74,none⟩),.pointer (some ⟨w.heap.size,0,none⟩),.int .u64 150] 124)).alloc (.cells #[.pointer (some e)] 72)).setCell t (.pointer (some e)):=by
 have h6:=@run_callFunc_extern prog 56 _ (λargs=>ReflectliteValue.unpack (args.getD 0 (.tuple #[]))) func56 iX iX iX iX;have h7:=@run_callFunc_extern prog 57 _ (ReflectliteValue.methodAny (ReflectliteValue.valueError "reflectlite.Value.Type" 0) (λt _ _ _=>ReflectliteType.toType t)) func57 iX iX iX iX;have h8:=@run_callFunc_extern prog 58 _ (ReflectliteValue.method (ReflectliteValue.valueError "reflectlite.Value.IsNil" 0) ReflectliteValue.isNil) func58 iX iX iX iX;have J:=@run_callFunc_extern prog 316 _ (ReflectliteType.abiMethod λt=>do pure (.int .u8 (<-Rtype.kind t))) func316 iX iX iX iX;have O:=@run_callFunc_extern prog 329 _ (ReflectliteType.method ReflectliteType.elem) func329 iX iX iX iX;have Q:=@run_callFunc_extern prog 330 _ (ReflectliteType.relation "Implements" ReflectliteType.implements_) func330 iX iX iX iX;have G:=@run_callFunc_extern prog 60 _ ReflectliteType.typeOf func60 iX iX iX iX;have K:=@run_callFunc_extern prog 327 _ (ReflectliteType.relation "AssignableTo" ReflectliteType.assignableTo) func327 iX iX iX iX;have H:=@run_callFunc_extern prog 89 _ (ReflectliteValue.method (ReflectliteValue.valueError "reflectlite.Value.Elem" 0) ReflectliteValue.elem) func89 iX iX iX iX;have I:=@run_callFunc_extern prog 90 _ ReflectliteValue.set func90 iX iX iX iX;have tO:=Tryz.typeOfP;have mA:=Tryz.methodAssignableTo;have V:=Tryz.assignableP;have vP:=Tryz.valueOfP;have Y:=Tryz.valueOfPP;have Z:=Tryz.typePP;have mK:=Tryz.methodKind;have mE:=Tryz.methodElem;have mI:=Tryz.methodImplements;have R:=Tryz.kindPP;have kP:=Tryz.kindP;have D:=Tryz.elemPP;have iP:=Tryz.implementsP;have n8:=Tryz.isNilPP ⟨w.heap.size,0,none⟩ t ((w.alloc (.cells #[.pointer (some t)] 74)).alloc (.cells #[.pointer (some ⟨26,74,none⟩),.pointer (some ⟨w.heap.size,0,none⟩),.int .u64 150] 124)) (by simp);have U:11<w.heap.size:=by
  rcases Nat.lt_or_ge 11 w.heap.size with h|h
  ·exact h
  ·simp[World.cell?,Array.getElem?_eq_none h] at q
 have ϭ:((w.alloc (.cells #[.pointer (some t)] 74)).alloc (.cells #[.pointer (some ⟨26,74,none⟩),.pointer (some ⟨w.heap.size,0,none⟩),.int .u64 150] 124)).cell? ⟨11,0,none⟩=some (.iface 169 (.agg #[.pointer (some ⟨26,25,none⟩)])):=by
  rw[World.cell?_alloc_lt _ _ ⟨11,0,none⟩ oI,World.cell?_alloc_lt _ _ ⟨11,0,none⟩ U];exact q
 have A:t.block<w.heap.size:=by
  rcases Nat.lt_or_ge t.block w.heap.size with h|h
  ·exact h
  ·simp[World.cell?,Array.getElem?_eq_none h] at z
 have W:=Tryz.elemVPP ⟨w.heap.size,0,none⟩ t (((w.alloc (.cells #[.pointer (some t)] 74)).alloc (.cells #[.pointer (some ⟨26,74,none⟩),.pointer (some ⟨w.heap.size,0,none⟩),.int .u64 150] 124)).alloc (.cells #[.pointer (some ⟨26,74,none⟩),.pointer (some ⟨w.heap.size,0,none⟩),.int .u64 150] 124)) (by rw[World.cell?_alloc_lt _ _ ⟨w.heap.size,0,none⟩ oI];simp);have st:=Tryz.setP t ⟨w.heap.size+1+1+1,0,none⟩ e j ((((w.alloc (.cells #[.pointer (some t)] 74)).alloc (.cells #[.pointer (some ⟨26,74,none⟩),.pointer (some ⟨w.heap.size,0,none⟩),.int .u64 150] 124)).alloc (.cells #[.pointer (some ⟨26,74,none⟩),.pointer (some ⟨w.heap.size,0,none⟩),.int .u64 150] 124)).alloc (.cells #[.pointer (some e)] 72))
  (by rw[World.cell?_alloc_at _ _ _ _ (by simp)];rfl)
  (by rw[World.cell?_alloc_lt _ _ t oI,World.cell?_alloc_lt _ _ t oI,World.cell?_alloc_lt _ _ t oI,World.cell?_alloc_lt _ _ t A];exact z)
  (by rw[World.frozen?_alloc_old _ _ t oI,World.frozen?_alloc_old _ _ t oI,World.frozen?_alloc_old _ _ t oI,World.frozen?_alloc_old _ _ t (Nat.ne_of_lt A)];exact o)
 go_enter func32,ntmps32;go_wp2;refine wp_loop_rounds 1 ?_;rw[rounds_succ];go_wp2;go_ret;exact⟨rfl,rfl⟩
def Plain(w:World)(p:Addr):Prop:=∃c t,w.heap[p.block]? = some (.cells c t (0,0))
structure Nk(B:Nat)(ea:Nat->Addr)(w:World):Prop where
 c0:w.cell? ⟨1,0,none⟩=some (.iface 397 (.pointer (some (ea 0))))
 c1:w.cell? ⟨0,0,none⟩=some (.iface 397 (.pointer (some (ea 1))))
 c4:w.cell? ⟨4,0,none⟩=some (.iface 397 (.pointer (some (ea 4))))
 c7:w.cell? ⟨7,0,none⟩=some (.iface 397 (.pointer (some (ea 7))))
 c8:w.cell? ⟨8,0,none⟩=some (.iface 397 (.pointer (some (ea 8))))
 typ:w.cell? ⟨11,0,none⟩=some (.iface 169 (.agg #[.pointer (some ⟨26,25,none⟩)]))
 low:11<B
theorem Nk.below{B:Nat}{ea:Nat->Addr}{w w':World}(E:Nk B ea w){o:Nat}(h:Below o w w')(q:B<=o):Nk B ea w':=by
 have A:=E.low;have j:∀g,g<=11->w'.cell? ⟨g,0,none⟩=w.cell? ⟨g,0,none⟩:=λg z=>h.cell (p:=⟨g,0,none⟩) (by show g<o;omega)
 exact
  {c0:=(j _ (by omega)).trans E.c0
   c1:=(j _ (by omega)).trans E.c1
   c4:=(j _ (by omega)).trans E.c4
   c7:=(j _ (by omega)).trans E.c7
   c8:=(j _ (by omega)).trans E.c8
   typ:=(j _ (by omega)).trans E.typ
   low:=E.low }
