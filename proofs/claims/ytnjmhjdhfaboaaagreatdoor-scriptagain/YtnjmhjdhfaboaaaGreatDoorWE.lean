import Derived.Test.YtnjmhjdhfaboaaaGreatDoorWD
import Derived.Test.YtnjmhjdhfaboaaaGreatDoorK
import Derived.Lib.SmallJoins
namespace Go.Proofs.YtnjmhjdhfaboaaaGreatDoor
open Go.Shelf Go.RowKit aD
theorem below_grow(w:World)(k:Nat)(os:Array Obj):Below w.heap.size w (Sort.grow (w.drewN k) os):=
 ⟨rfl,rfl,rfl,rQ,λj o=>Sort.heap_grow_old _ _ o⟩
theorem xE(t:Int)(j : -9223372036854775808<=t)(o:t<=9223372036854775807)(w:World)(q:Lib.TabIs Tryz.prog w "internal/strconv.uint64pow10" .u64 Lib.pow10Tab):
  Calls Tryz.prog 43 #[.int .i64 t] w λe w'=>e = .returned (.string (txt (Lib.itoa t)))/\Below w.heap.size w w':=by
 refine (show Calls Tryz.prog 43 #[.int .i64 t] w _ from Any.strconv_Itoa Hw t j o w q).mono ?_;rintro e w' ⟨rfl,k,os,rfl⟩;exact⟨rfl,below_grow w k os⟩
structure wo(w:World):Prop where
 syn:∃tp p,w.cell? ⟨19,0,none⟩=some (.iface tp p)
 rng:∃tp p,w.cell? ⟨20,0,none⟩=some (.iface tp p)
theorem wo.below{w w':World}(h:wo w){B:Nat}(o:Below B w w')(j:19<B/\20<B):wo w':=by
 obtain⟨a,b,q⟩:=h.syn;obtain⟨c,d,z⟩:=h.rng;exact⟨⟨a,b,(o.cell (p:=⟨19,0,none⟩) j.1).trans q⟩,⟨c,d,(o.cell (p:=⟨20,0,none⟩) j.2).trans z⟩⟩
theorem wo.lt{w:World}(h:wo w):19<w.heap.size/\20<w.heap.size:=by
 obtain⟨a,b,j⟩:=h.syn;obtain⟨c,d,o⟩:=h.rng;exact⟨World.block_lt_of_cell? w ⟨19,0,none⟩ j,World.block_lt_of_cell? w ⟨20,0,none⟩ o⟩
theorem Rm(s:ByteArray)(F:s.size<=1000000)(w:World)(A:wo w):
  Calls Tryz.prog 182 #[.string s] w λe w'=>((∃v,Lib.atoiAll s.data.toList = .ok v/\e = .returned (.tuple #[.int .i64 v,.nilIface]))\/((∀v,Lib.atoiAll s.data.toList ≠ .ok v)/\∃x j p,e = .returned (.tuple #[.int .i64 x,.iface j p])))/\Below w.heap.size w w':=by
 cases h:Lib.atoiAll s.data.toList with
 | ok v=>
  refine (show Calls Tryz.prog 182 #[.string s] w _ from Any.strconv_Atoi_ok MU s fM v h w).mono ?_;rintro e w' ⟨rfl,D⟩;refine⟨.inl ⟨v,rfl,rfl⟩,?_⟩;rcases D with rfl|⟨t,rfl⟩
  ·exact Below.refl _ _
  ·exact Lib.bytesWorld_below _ _ _
 | «syntax»=>
  obtain⟨j,p,q⟩:=A.syn;refine (show Calls Tryz.prog 182 #[.string s] w _ from Any.strconv_Atoi_syntax MU s fM h _ w q (.inr ⟨j,p,rfl⟩)).mono ?_;rintro e w' ⟨N,rfl,_,_,o⟩;exact⟨.inr ⟨λv z=>(by cases z),_,_,_,rfl⟩,o⟩
 | range=>
  obtain⟨j,p,q⟩:=A.rng;refine (show Calls Tryz.prog 182 #[.string s] w _ from Any.strconv_Atoi_range MU s fM h _ w q (.inr ⟨j,p,rfl⟩)).mono ?_;rintro e w' ⟨N,rfl,_,_,o⟩;exact⟨.inr ⟨λv z=>(by cases z),_,_,_,rfl⟩,o⟩
theorem kG(P:Program)(a b:List UInt8)(h:a.length+b.length<=9223372036854775807)(w:World):(Op.stringOp .add (txt a) (txt b)).run P w = .ok (.string (txt (a++b))) w:=by
 rw[kX P _ _ (by rw[dH,dH];exact h),WE]
