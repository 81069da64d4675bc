import Derived.Test.YtololnhfgjbhjaaGreatDoorStrLay
import Derived.Test.YtololnhfgjbhjaaGreatDoorRows1Group
import Derived.Lib.SmallJoins
namespace Go.Proofs.YtololnhfgjbhjaaGreatDoor
open Go.Shelf Go.RowKit aF
theorem below_grow(w:World)(k:Nat)(os:Array Obj):Below w.heap.size w (Sort.grow (w.drewN k) os):=
 ⟨rfl,rfl,rfl,by simp,λj hj=>Sort.heap_grow_old _ _ hj⟩
theorem aau(t:Int)(h0 : -9223372036854775808<=t)(h1:t<=9223372036854775807)(w:World)(hT:Lib.TabIs Tryz.prog w "internal/strconv.uint64pow10" .u64 Lib.pow10Tab):
  Calls Tryz.prog 114 #[.int .i64 t] w λe w'=>e = .returned (.string (txt (Lib.itoa t)))/\Below w.heap.size w w':=by
 refine (show Calls Tryz.prog 114 #[.int .i64 t] w _ from Any.strconv_Itoa adG t h0 h1 w hT).mono ?_;rintro e w' ⟨rfl,k,os,rfl⟩;exact⟨rfl,below_grow w k os⟩
structure rT(w:World):Prop where
 syn:∃tp p,w.cell? ⟨15,0,none⟩=some (.iface tp p)
 rng:∃tp p,w.cell? ⟨16,0,none⟩=some (.iface tp p)
theorem rT.below{w w':World}(h:rT w){B:Nat}(hb:Below B w w')(hB:15<B/\16<B):rT w':=by
 obtain⟨a,b,h1⟩:=h.syn;obtain⟨c,d,h2⟩:=h.rng;exact⟨⟨a,b,(hb.cell (p:=⟨15,0,none⟩) hB.1).trans h1⟩,⟨c,d,(hb.cell (p:=⟨16,0,none⟩) hB.2).trans h2⟩⟩
theorem rT.lt{w:World}(h:rT w):15<w.heap.size/\16<w.heap.size:=by
 obtain⟨a,b,h1⟩:=h.syn;obtain⟨c,d,h2⟩:=h.rng;exact⟨World.block_lt_of_cell? w ⟨15,0,none⟩ h1,World.block_lt_of_cell? w ⟨16,0,none⟩ h2⟩
theorem aav(s:ByteArray)(hs:s.size<=1000000)(w:World)(hE:rT w):
  Calls Tryz.prog 177 #[.string s] w λe w'=>((∃v,Lib.atoiAll s.data.toList = .ok v/\e = .returned (.tuple #[.int .i64 v,.nilIface]))\/((∀v,Lib.atoiAll s.data.toList ≠ .ok v)/\∃x tp p,e = .returned (.tuple #[.int .i64 x,.iface tp p])))/\Below w.heap.size w w':=by
 cases h:Lib.atoiAll s.data.toList with
 | ok v=>
  refine (show Calls Tryz.prog 177 #[.string s] w _ from Any.strconv_Atoi_ok K7 s (by omega) v h w).mono ?_;rintro e w' ⟨rfl,hw⟩;refine⟨.inl ⟨v,rfl,rfl⟩,?_⟩;rcases hw with rfl|⟨t,rfl⟩
  ·exact Below.refl _ _
  ·exact Lib.bytesWorld_below _ _ _
 | «syntax»=>
  obtain⟨tp,p,hc⟩:=hE.syn;refine (show Calls Tryz.prog 177 #[.string s] w _ from Any.strconv_Atoi_syntax K7 s (by omega) h _ w hc (.inr ⟨tp,p,rfl⟩)).mono ?_;rintro e w' ⟨N,rfl,_,_,hb⟩;exact⟨.inr ⟨λv hv=>(by cases hv),_,_,_,rfl⟩,hb⟩
 | range=>
  obtain⟨tp,p,hc⟩:=hE.rng;refine (show Calls Tryz.prog 177 #[.string s] w _ from Any.strconv_Atoi_range K7 s (by omega) h _ w hc (.inr ⟨tp,p,rfl⟩)).mono ?_;rintro e w' ⟨N,rfl,_,_,hb⟩;exact⟨.inr ⟨λv hv=>(by cases hv),_,_,_,rfl⟩,hb⟩
theorem wH(P:Program)(a b:List UInt8)(h:a.length+b.length<=9223372036854775807)(w:World):(Op.stringOp .add (txt a) (txt b)).run P w = .ok (.string (txt (a++b))) w:=by
 rw[Sn P _ _ (by rw[fU,fU];exact h),Uo]
end Go.Proofs.YtololnhfgjbhjaaGreatDoor
