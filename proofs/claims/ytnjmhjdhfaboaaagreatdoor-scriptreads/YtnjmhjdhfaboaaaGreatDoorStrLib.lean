import Derived.Test.YtnjmhjdhfaboaaaGreatDoorStrLay
import Derived.Test.YtnjmhjdhfaboaaaGreatDoorRows1Group
import Derived.Lib.SmallJoins
namespace Go.Proofs.YtnjmhjdhfaboaaaGreatDoor
open Go.Shelf Go.RowKit aD
theorem below_grow(w:World)(k:Nat)(os:Array Obj):Below w.heap.size w (Sort.grow (w.drewN k) os):=
 ⟨rfl,rfl,rfl,vI,λj o=>Sort.heap_grow_old _ _ o⟩
theorem xG(t:Int)(z : -9223372036854775808<=t)(q:t<=9223372036854775807)(w:World)(o:Lib.TabIs Tryz.prog w "internal/strconv.uint64pow10" .u64 Lib.pow10Tab):
  Calls Tryz.prog 43 #[.int .i64 t] w λe w'=>e = .returned (.string (txt (Lib.itoa t)))/\Below w.heap.size w w':=by
 refine (show Calls Tryz.prog 43 #[.int .i64 t] w _ from Any.strconv_Itoa Hq t z q w o).mono ?_;rintro e w' ⟨rfl,k,os,rfl⟩;exact⟨rfl,below_grow w k os⟩
structure wB(w:World):Prop where
 syn:∃tp p,w.cell? ⟨19,0,none⟩=some (.iface tp p)
 rng:∃tp p,w.cell? ⟨20,0,none⟩=some (.iface tp p)
theorem wB.below{w w':World}(h:wB w){B:Nat}(q:Below B w w')(o:19<B/\20<B):wB w':=by
 obtain⟨a,b,A⟩:=h.syn;obtain⟨c,d,z⟩:=h.rng;exact⟨⟨a,b,(q.cell (p:=⟨19,0,none⟩) o.1).trans A⟩,⟨c,d,(q.cell (p:=⟨20,0,none⟩) o.2).trans z⟩⟩
theorem wB.lt{w:World}(h:wB w):19<w.heap.size/\20<w.heap.size:=by
 obtain⟨a,b,q⟩:=h.syn;obtain⟨c,d,o⟩:=h.rng;exact⟨World.block_lt_of_cell? w ⟨19,0,none⟩ q,World.block_lt_of_cell? w ⟨20,0,none⟩ o⟩
theorem Q9(s:ByteArray)(G:s.size<=1000000)(w:World)(D:wB w):
  Calls Tryz.prog 182 #[.string s] w λe w'=>((∃v,Lib.atoiAll s.data.toList = .ok v/\e = .returned (.tuple #[.int .i64 v,.nilIface]))\/((∀v,Lib.atoiAll s.data.toList ≠ .ok v)/\∃x o p,e = .returned (.tuple #[.int .i64 x,.iface o p])))/\Below w.heap.size w w':=by
 cases h:Lib.atoiAll s.data.toList with
 | ok v=>
  refine (show Calls Tryz.prog 182 #[.string s] w _ from Any.strconv_Atoi_ok ML s iK v h w).mono ?_;rintro e w' ⟨rfl,F⟩;refine⟨.inl ⟨v,rfl,rfl⟩,?_⟩;rcases F with rfl|⟨t,rfl⟩
  ·exact Below.refl _ _
  ·exact Lib.bytesWorld_below _ _ _
 | «syntax»=>
  obtain⟨o,p,q⟩:=D.syn;refine (show Calls Tryz.prog 182 #[.string s] w _ from Any.strconv_Atoi_syntax ML s iK h _ w q (.inr ⟨o,p,rfl⟩)).mono ?_;rintro e w' ⟨N,rfl,_,_,z⟩;exact⟨.inr ⟨λv A=>(by cases A),_,_,_,rfl⟩,z⟩
 | range=>
  obtain⟨o,p,q⟩:=D.rng;refine (show Calls Tryz.prog 182 #[.string s] w _ from Any.strconv_Atoi_range ML s iK h _ w q (.inr ⟨o,p,rfl⟩)).mono ?_;rintro e w' ⟨N,rfl,_,_,z⟩;exact⟨.inr ⟨λv A=>(by cases A),_,_,_,rfl⟩,z⟩
theorem kW(P:Program)(a b:List UInt8)(h:a.length+b.length<=9223372036854775807)(w:World):(Op.stringOp .add (txt a) (txt b)).run P w = .ok (.string (txt (a++b))) w:=by
 rw[Mf P _ _ (by rw[dB,dB];exact h),VY]
end Go.Proofs.YtnjmhjdhfaboaaaGreatDoor
