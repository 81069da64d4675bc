import Derived.Test.YtololnhfgjbhjaaGreatDoorProg
import Derived.WalkKit
import Derived.Stop.Asserts
import Derived.RowKitTokens
open Go.Proofs.Tryz
namespace Go.Proofs.YtololnhfgjbhjaaGreatDoor
open Go.RowKit Go.Extern.Stop Go.Stop Go.Extern
theorem Wp(t:Value)(w:World):
  Calls prog 87 #[.nilIface,t] w λe w'=>e = .returned (.bool false)/\w'=w:=by
 go_enter func87,ntmps87;go_wp2;go_ret;exact⟨rfl,rfl⟩
theorem Tryz.valueOfPP(t:Addr)(w:World):(ReflectliteValue.unpack (.iface 165 (.pointer (some t)))).run prog w
  = .ok (.agg #[.pointer (some ⟨19,165,none⟩),.pointer (some ⟨w.heap.size,0,none⟩),.int .u64 150]) (w.alloc (.cells #[.pointer (some t)] 165)):=by kernel_rfl
theorem Tryz.typePP(a:Addr)(w:World):(ReflectliteValue.methodAny (ReflectliteValue.valueError "reflectlite.Value.Type" 0) (λt _ _ _=>ReflectliteType.toType t) #[.agg #[.pointer (some ⟨19,165,none⟩),.pointer (some a),.int .u64 150]]).run prog w
  = .ok (.iface 244 (.agg #[.pointer (some ⟨19,165,none⟩)])) w:=by kernel_rfl
theorem Tryz.methodKind(h:Value)(w:World):(Go.method 482 244 (.agg #[h]) "Kind").run prog w = .ok (273,h) w:=by kernel_rfl
theorem Tryz.kindPP(w:World):((ReflectliteType.abiMethod λt=>(λa:Nat=>Value.int IntKind.u8 (a:Int)) <$> Rtype.kind t) #[.pointer (some ⟨19,165,none⟩)]).run prog w = .ok (.int .u8 22) w:=by kernel_rfl
theorem Tryz.kindP(w:World):((ReflectliteType.abiMethod λt=>(λa:Nat=>Value.int IntKind.u8 (a:Int)) <$> Rtype.kind t) #[.pointer (some ⟨19,126,none⟩)]).run prog w = .ok (.int .u8 22) w:=by kernel_rfl
theorem rlm(z:Sem Value)(f:TypeId->Addr->Nat->Nat->Sem Value)(v:Value):
  ReflectliteValue.method z f #[v]=(do match <-ReflectliteValue.parts v with|none=>z|some (t,a,fl)=>f t a fl (fl % 32)):=rfl
theorem Tryz.partsPP(a:Addr)(w:World):(ReflectliteValue.parts (.agg #[.pointer (some ⟨19,165,none⟩),.pointer (some a),.int .u64 150])).run prog w = .ok (some (165,a,150)) w:=by kernel_rfl
theorem Tryz.isNilPP(a p:Addr)(W:World)(ha:W.cell? a=some (.pointer (some p))):
  (ReflectliteValue.method (ReflectliteValue.valueError "reflectlite.Value.IsNil" 0) ReflectliteValue.isNil #[.agg #[.pointer (some ⟨19,165,none⟩),.pointer (some a),.int .u64 150]]).run prog W = .ok (.bool false) W:=by
 rw[rlm];simp only[Sem.run_bind,Tryz.partsPP,Result.andThen];simp[ReflectliteValue.isNil,loadVar,isAgg,underlying,underlying165,ha,Result.andThen]
theorem Tryz.methodElem(h:Value)(w:World):(Go.method 482 244 (.agg #[h]) "Elem").run prog w = .ok (285,.agg #[h]) w:=by kernel_rfl
theorem Tryz.methodImplements(h:Value)(w:World):(Go.method 482 244 (.agg #[h]) "Implements").run prog w = .ok (286,.agg #[h]) w:=by kernel_rfl
theorem Tryz.methodAssignableTo(h:Value)(w:World):(Go.method 482 244 (.agg #[h]) "AssignableTo").run prog w = .ok (283,.agg #[h]) w:=by kernel_rfl
theorem Tryz.elemPP(w:World):(ReflectliteType.method ReflectliteType.elem #[.agg #[.pointer (some ⟨19,165,none⟩)]]).run prog w = .ok (.iface 244 (.agg #[.pointer (some ⟨19,126,none⟩)])) w:=by kernel_rfl
theorem Tryz.implementsP(w:World):(ReflectliteType.relation "Implements" ReflectliteType.implements_ #[.agg #[.pointer (some ⟨19,126,none⟩)],.iface 244 (.agg #[.pointer (some ⟨19,26,none⟩)])]).run prog w = .ok (.bool true) w:=by kernel_rfl
theorem Tryz.typeOfP(v:Value)(w:World):(ReflectliteType.typeOf #[.iface 126 v]).run prog w = .ok (.iface 244 (.agg #[.pointer (some ⟨19,126,none⟩)])) w:=by kernel_rfl
theorem Tryz.typeOfE(v:Value)(w:World):(ReflectliteType.typeOf #[.iface 352 v]).run prog w = .ok (.iface 244 (.agg #[.pointer (some ⟨19,352,none⟩)])) w:=by kernel_rfl
theorem Tryz.assignableP(w:World):(ReflectliteType.relation "AssignableTo" ReflectliteType.assignableTo #[.agg #[.pointer (some ⟨19,126,none⟩)],.iface 244 (.agg #[.pointer (some ⟨19,126,none⟩)])]).run prog w = .ok (.bool true) w:=by kernel_rfl
theorem Tryz.assignableE(w:World):(ReflectliteType.relation "AssignableTo" ReflectliteType.assignableTo #[.agg #[.pointer (some ⟨19,352,none⟩)],.iface 244 (.agg #[.pointer (some ⟨19,126,none⟩)])]).run prog w = .ok (.bool false) w:=by kernel_rfl
theorem Tryz.valueOfP(e:Addr)(w:World):(ReflectliteValue.unpack (.iface 126 (.pointer (some e)))).run prog w
  = .ok (.agg #[.pointer (some ⟨19,126,none⟩),.pointer (some ⟨w.heap.size,0,none⟩),.int .u64 150]) (w.alloc (.cells #[.pointer (some e)] 126)):=by kernel_rfl
theorem Tryz.elemOfPP(w:World):(Rtype.elem? 165).run prog w = .ok (some 126) w:=by kernel_rfl
theorem Tryz.mkP(p:Addr)(w:World):(ReflectliteValue.mk 126 p ReflectliteValue.flagAddr).run prog w = .ok (.agg #[.pointer (some ⟨19,126,none⟩),.pointer (some p),.int .u64 406]) w:=by kernel_rfl
theorem Tryz.elemVPP(a p:Addr)(W:World)(ha:W.cell? a=some (.pointer (some p))):
  (ReflectliteValue.method (ReflectliteValue.valueError "reflectlite.Value.Elem" 0) ReflectliteValue.elem #[.agg #[.pointer (some ⟨19,165,none⟩),.pointer (some a),.int .u64 150]]).run prog W
   = .ok (.agg #[.pointer (some ⟨19,126,none⟩),.pointer (some p),.int .u64 406]) W:=by
 rw[rlm];simp only[Sem.run_bind,Tryz.partsPP,Result.andThen];simp[ReflectliteValue.elem,loadVar,isAgg,underlying,underlying165,ha,Result.andThen,Tryz.elemOfPP,Tryz.mkP]
theorem rls(v x:Value):ReflectliteValue.set #[v,x]=(do
  let (some (dst,a,fl),some (src,b,_)):=(<-ReflectliteValue.parts v,<-ReflectliteValue.parts x)
   | unsupported (.noEntry "extern/(internal/reflectlite.Value).Set.zeroValue")
  if fl / ReflectliteValue.flagAddr % 2==0 then unsupported (.noEntry "extern/(internal/reflectlite.Value).Set.unaddressable")
  let val <-loadVar src b
  if <-Rtype.directlyAssignable dst src then storeVar dst a val
  else if <-Rtype.implements dst src then
   if (<-Rtype.kind src)==20 then
    match val with
    | .nilIface=>unsupported (.noEntry "extern/reflectlite: a nil value of one interface type handed on as a value of another")
    | _=>storeVar dst a val
   else storeVar dst a (.iface src val)
  else panicString ("reflectlite.Set: value of type " ++ (<-Rtype.spelt src) ++ " is not assignable to type " ++ (<-Rtype.spelt dst))
  pure (.tuple #[])):=rfl
theorem Tryz.partsPa(a:Addr)(w:World):(ReflectliteValue.parts (.agg #[.pointer (some ⟨19,126,none⟩),.pointer (some a),.int .u64 406])).run prog w = .ok (some (126,a,406)) w:=by kernel_rfl
theorem Tryz.partsP(a:Addr)(w:World):(ReflectliteValue.parts (.agg #[.pointer (some ⟨19,126,none⟩),.pointer (some a),.int .u64 150])).run prog w = .ok (some (126,a,150)) w:=by kernel_rfl
theorem Tryz.directP(w:World):(Rtype.directlyAssignable 126 126).run prog w = .ok true w:=by kernel_rfl
theorem Tryz.setP(ta b e:Addr)(old:Value)(W:World)(hb:W.cell? b=some (.pointer (some e)))(ht:W.cell? ta=some old)(hf:W.frozen? ta=false):
  (ReflectliteValue.set #[.agg #[.pointer (some ⟨19,126,none⟩),.pointer (some ta),.int .u64 406],.agg #[.pointer (some ⟨19,126,none⟩),.pointer (some b),.int .u64 150]]).run prog W
   = .ok (.tuple #[]) (W.setCell ta (.pointer (some e))):=by
 rw[rls];simp only[Sem.run_bind,Tryz.partsPa,Tryz.partsP,Result.andThen];simp[ReflectliteValue.flagAddr,loadVar,isAgg,underlying,underlying126,hb,Result.andThen,Tryz.directP,storeVar,Value.cells,storeCells,Addr.add];rw[run_store prog W ta _ _ (by rfl)];simp[ht,hf]
theorem Tryz.noAsE(v:Value)(xT:TypeId)(w:World):(Instr.typeAssert (.iface 352 v) xT 248 true).run prog w = .ok (.tuple #[.nilIface,.bool false]) w:=run_typeAssert_lacksB underlying248 (by kernel_rfl) (by kernel_rfl) v xT w
theorem Tryz.noUnwrapE(v:Value)(xT:TypeId)(w:World):(Instr.typeAssert (.iface 352 v) xT 251 true).run prog w = .ok (.tuple #[.nilIface,.bool false]) w:=run_typeAssert_lacksB underlying251 (by kernel_rfl) (by kernel_rfl) v xT w
theorem Tryz.noUnwrapsE(v:Value)(xT:TypeId)(w:World):(Instr.typeAssert (.iface 352 v) xT 252 true).run prog w = .ok (.tuple #[.nilIface,.bool false]) w:=run_typeAssert_lacksB underlying252 (by kernel_rfl) (by kernel_rfl) v xT w
theorem adu(p t:Addr)(w:World)(hg:w.cell? ⟨11,0,none⟩=some (.iface 244 (.agg #[.pointer (some ⟨19,26,none⟩)]))):
  Calls prog 87 #[.iface 352 (.pointer (some p)),.iface 165 (.pointer (some t))] w λev w'=>ev = .returned (.bool false)/\Below w.heap.size w w':=by
 have h6:=@run_callFunc_extern prog 119 _ (λargs=>ReflectliteValue.unpack (args.getD 0 (.tuple #[]))) func119 (by kernel_rfl) (by kernel_rfl) (by kernel_rfl) (by kernel_rfl);have h7:=@run_callFunc_extern prog 120 _ (ReflectliteValue.methodAny (ReflectliteValue.valueError "reflectlite.Value.Type" 0) (λt _ _ _=>ReflectliteType.toType t)) func120 (by kernel_rfl) (by kernel_rfl) (by kernel_rfl) (by kernel_rfl);have h8:=@run_callFunc_extern prog 121 _ (ReflectliteValue.method (ReflectliteValue.valueError "reflectlite.Value.IsNil" 0) ReflectliteValue.isNil) func121 (by kernel_rfl) (by kernel_rfl) (by kernel_rfl) (by kernel_rfl);have h27:=@run_callFunc_extern prog 273 _ (ReflectliteType.abiMethod λt=>do pure (.int .u8 (<-Rtype.kind t))) func273 (by kernel_rfl) (by kernel_rfl) (by kernel_rfl) (by kernel_rfl);have h37:=@run_callFunc_extern prog 285 _ (ReflectliteType.method ReflectliteType.elem) func285 (by kernel_rfl) (by kernel_rfl) (by kernel_rfl) (by kernel_rfl);have h38:=@run_callFunc_extern prog 286 _ (ReflectliteType.relation "Implements" ReflectliteType.implements_) func286 (by kernel_rfl) (by kernel_rfl) (by kernel_rfl) (by kernel_rfl);have h10:=@run_callFunc_extern prog 135 _ ReflectliteType.typeOf func135 (by kernel_rfl) (by kernel_rfl) (by kernel_rfl) (by kernel_rfl);have h35:=@run_callFunc_extern prog 283 _ (ReflectliteType.relation "AssignableTo" ReflectliteType.assignableTo) func283 (by kernel_rfl) (by kernel_rfl) (by kernel_rfl) (by kernel_rfl);have tO:=Tryz.typeOfE;have mA:=Tryz.methodAssignableTo;have aE:=Tryz.assignableE;have f6:=Tryz.valueOfPP;have f7:=Tryz.typePP;have mK:=Tryz.methodKind;have mE:=Tryz.methodElem;have mI:=Tryz.methodImplements;have kPP:=Tryz.kindPP;have kP:=Tryz.kindP;have ePP:=Tryz.elemPP;have iP:=Tryz.implementsP;have nA:=Tryz.noAsE;have nU:=Tryz.noUnwrapE;have nV:=Tryz.noUnwrapsE;have n8:=Tryz.isNilPP ⟨w.heap.size,0,none⟩ t ((w.alloc (.cells #[.pointer (some t)] 165)).alloc (.cells #[.pointer (some ⟨19,165,none⟩),.pointer (some ⟨w.heap.size,0,none⟩),.int .u64 150] 198)) (by simp);have ϗ:11<w.heap.size:=by
  rcases Nat.lt_or_ge 11 w.heap.size with h|h
  ·exact h
  ·simp[World.cell?,Array.getElem?_eq_none h] at hg
 have ϧ:((w.alloc (.cells #[.pointer (some t)] 165)).alloc (.cells #[.pointer (some ⟨19,165,none⟩),.pointer (some ⟨w.heap.size,0,none⟩),.int .u64 150] 198)).cell? ⟨11,0,none⟩=some (.iface 244 (.agg #[.pointer (some ⟨19,26,none⟩)])):=by
  rw[World.cell?_alloc_lt _ _ ⟨11,0,none⟩ (by simp;omega),World.cell?_alloc_lt _ _ ⟨11,0,none⟩ ϗ];exact hg
 go_enter func87,ntmps87;go_wp2;refine wp_loop_rounds 1 ?_;rw[rounds_succ];go_wp2;go_ret;exact⟨rfl,(((Below.refl _ _).alloc (Nat.le_refl _) _).alloc (by simp) _).alloc (by simp;omega) _⟩
theorem Wq(e t:Addr)(old:Value)(w:World)(hg:w.cell? ⟨11,0,none⟩=some (.iface 244 (.agg #[.pointer (some ⟨19,26,none⟩)])))(Č:w.cell? t=some old)(hf0:w.frozen? t=false):
  Calls prog 87 #[.iface 126 (.pointer (some e)),.iface 165 (.pointer (some t))] w λev w'=>ev = .returned (.bool true)/\w'=((((w.alloc (.cells #[.pointer (some t)] 165)).alloc (.cells #[.pointer (some ⟨19,165,none⟩),.pointer (some ⟨w.heap.size,0,none⟩),.int .u64 150] 198)).alloc (.cells #[.pointer (some ⟨19,165,none⟩),.pointer (some ⟨w.heap.size,0,none⟩),.int .u64 150] 198)).alloc (.cells #[.pointer (some e)] 126)).setCell t (.pointer (some e)):=by
 have h6:=@run_callFunc_extern prog 119 _ (λargs=>ReflectliteValue.unpack (args.getD 0 (.tuple #[]))) func119 (by kernel_rfl) (by kernel_rfl) (by kernel_rfl) (by kernel_rfl);have h7:=@run_callFunc_extern prog 120 _ (ReflectliteValue.methodAny (ReflectliteValue.valueError "reflectlite.Value.Type" 0) (λt _ _ _=>ReflectliteType.toType t)) func120 (by kernel_rfl) (by kernel_rfl) (by kernel_rfl) (by kernel_rfl);have h8:=@run_callFunc_extern prog 121 _ (ReflectliteValue.method (ReflectliteValue.valueError "reflectlite.Value.IsNil" 0) ReflectliteValue.isNil) func121 (by kernel_rfl) (by kernel_rfl) (by kernel_rfl) (by kernel_rfl);have h27:=@run_callFunc_extern prog 273 _ (ReflectliteType.abiMethod λt=>do pure (.int .u8 (<-Rtype.kind t))) func273 (by kernel_rfl) (by kernel_rfl) (by kernel_rfl) (by kernel_rfl);have h37:=@run_callFunc_extern prog 285 _ (ReflectliteType.method ReflectliteType.elem) func285 (by kernel_rfl) (by kernel_rfl) (by kernel_rfl) (by kernel_rfl);have h38:=@run_callFunc_extern prog 286 _ (ReflectliteType.relation "Implements" ReflectliteType.implements_) func286 (by kernel_rfl) (by kernel_rfl) (by kernel_rfl) (by kernel_rfl);have h10:=@run_callFunc_extern prog 135 _ ReflectliteType.typeOf func135 (by kernel_rfl) (by kernel_rfl) (by kernel_rfl) (by kernel_rfl);have h35:=@run_callFunc_extern prog 283 _ (ReflectliteType.relation "AssignableTo" ReflectliteType.assignableTo) func283 (by kernel_rfl) (by kernel_rfl) (by kernel_rfl) (by kernel_rfl);have h11:=@run_callFunc_extern prog 163 _ (ReflectliteValue.method (ReflectliteValue.valueError "reflectlite.Value.Elem" 0) ReflectliteValue.elem) func163 (by kernel_rfl) (by kernel_rfl) (by kernel_rfl) (by kernel_rfl);have h12:=@run_callFunc_extern prog 164 _ ReflectliteValue.set func164 (by kernel_rfl) (by kernel_rfl) (by kernel_rfl) (by kernel_rfl);have tO:=Tryz.typeOfP;have mA:=Tryz.methodAssignableTo;have aP:=Tryz.assignableP;have vP:=Tryz.valueOfP;have f6:=Tryz.valueOfPP;have f7:=Tryz.typePP;have mK:=Tryz.methodKind;have mE:=Tryz.methodElem;have mI:=Tryz.methodImplements;have kPP:=Tryz.kindPP;have kP:=Tryz.kindP;have ePP:=Tryz.elemPP;have iP:=Tryz.implementsP;have n8:=Tryz.isNilPP ⟨w.heap.size,0,none⟩ t ((w.alloc (.cells #[.pointer (some t)] 165)).alloc (.cells #[.pointer (some ⟨19,165,none⟩),.pointer (some ⟨w.heap.size,0,none⟩),.int .u64 150] 198)) (by simp);have ϗ:11<w.heap.size:=by
  rcases Nat.lt_or_ge 11 w.heap.size with h|h
  ·exact h
  ·simp[World.cell?,Array.getElem?_eq_none h] at hg
 have ϧ:((w.alloc (.cells #[.pointer (some t)] 165)).alloc (.cells #[.pointer (some ⟨19,165,none⟩),.pointer (some ⟨w.heap.size,0,none⟩),.int .u64 150] 198)).cell? ⟨11,0,none⟩=some (.iface 244 (.agg #[.pointer (some ⟨19,26,none⟩)])):=by
  rw[World.cell?_alloc_lt _ _ ⟨11,0,none⟩ (by simp;omega),World.cell?_alloc_lt _ _ ⟨11,0,none⟩ ϗ];exact hg
 have htl:t.block<w.heap.size:=by
  rcases Nat.lt_or_ge t.block w.heap.size with h|h
  ·exact h
  ·simp[World.cell?,Array.getElem?_eq_none h] at Č
 have el:=Tryz.elemVPP ⟨w.heap.size,0,none⟩ t (((w.alloc (.cells #[.pointer (some t)] 165)).alloc (.cells #[.pointer (some ⟨19,165,none⟩),.pointer (some ⟨w.heap.size,0,none⟩),.int .u64 150] 198)).alloc (.cells #[.pointer (some ⟨19,165,none⟩),.pointer (some ⟨w.heap.size,0,none⟩),.int .u64 150] 198)) (by rw[World.cell?_alloc_lt _ _ ⟨w.heap.size,0,none⟩ (by simp;omega)];simp);have st:=Tryz.setP t ⟨w.heap.size+1+1+1,0,none⟩ e old ((((w.alloc (.cells #[.pointer (some t)] 165)).alloc (.cells #[.pointer (some ⟨19,165,none⟩),.pointer (some ⟨w.heap.size,0,none⟩),.int .u64 150] 198)).alloc (.cells #[.pointer (some ⟨19,165,none⟩),.pointer (some ⟨w.heap.size,0,none⟩),.int .u64 150] 198)).alloc (.cells #[.pointer (some e)] 126))
  (by rw[World.cell?_alloc_at _ _ _ _ (by simp)];rfl)
  (by rw[World.cell?_alloc_lt _ _ t (by simp;omega),World.cell?_alloc_lt _ _ t (by simp;omega),World.cell?_alloc_lt _ _ t (by simp;omega),World.cell?_alloc_lt _ _ t htl];exact Č)
  (by rw[World.frozen?_alloc_old _ _ t (by simp;omega),World.frozen?_alloc_old _ _ t (by simp;omega),World.frozen?_alloc_old _ _ t (by simp;omega),World.frozen?_alloc_old _ _ t (Nat.ne_of_lt htl)];exact hf0)
 go_enter func87,ntmps87;go_wp2;refine wp_loop_rounds 1 ?_;rw[rounds_succ];go_wp2;go_ret;exact⟨rfl,rfl⟩
def Plain(w:World)(p:Addr):Prop:=∃c t,w.heap[p.block]? = some (.cells c t (0,0))
structure LJ(B:Nat)(ea:Nat->Addr)(w:World):Prop where
 c0:w.cell? ⟨8,0,none⟩=some (.iface 352 (.pointer (some (ea 0))))
 c1:w.cell? ⟨0,0,none⟩=some (.iface 352 (.pointer (some (ea 1))))
 c4:w.cell? ⟨2,0,none⟩=some (.iface 352 (.pointer (some (ea 4))))
 c7:w.cell? ⟨4,0,none⟩=some (.iface 352 (.pointer (some (ea 7))))
 c8:w.cell? ⟨9,0,none⟩=some (.iface 352 (.pointer (some (ea 8))))
 typ:w.cell? ⟨11,0,none⟩=some (.iface 244 (.agg #[.pointer (some ⟨19,26,none⟩)]))
 low:11<B
theorem LJ.below{B:Nat}{ea:Nat->Addr}{w w':World}(E:LJ B ea w){B':Nat}(h:Below B' w w')(hB:B<=B'):LJ B ea w':=by
 have hl:=E.low;have hc:∀g,g<=11->w'.cell? ⟨g,0,none⟩=w.cell? ⟨g,0,none⟩:=λg hg=>h.cell (p:=⟨g,0,none⟩) (by show g<B';omega)
 exact
  {c0:=(hc _ (by omega)).trans E.c0
   c1:=(hc _ (by omega)).trans E.c1
   c4:=(hc _ (by omega)).trans E.c4
   c7:=(hc _ (by omega)).trans E.c7
   c8:=(hc _ (by omega)).trans E.c8
   typ:=(hc _ (by omega)).trans E.typ
   low:=E.low }
end Go.Proofs.YtololnhfgjbhjaaGreatDoor
