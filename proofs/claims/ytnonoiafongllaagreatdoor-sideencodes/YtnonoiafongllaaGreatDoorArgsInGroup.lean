import Derived.Test.YtnonoiafongllaaGreatDoorChecked
import Derived.Test.YtnonoiafongllaaGreatDoorSlicesIn
import Derived.ProofKit
import Derived.Deep.SlicePairs
import Derived.OpenShut
namespace Go.Proofs.YtnonoiafongllaaGreatDoor
open Go.ChangeShapes Go.WideShapes Go.ChangeAt Go.RowKit Go.Deep
theorem Tryz.laidOut:laidOutB Tryz.prog=true:=by kernel_rfl
theorem Ra {H:Type} {enc:TypeId×Value->H} {W:World} {sp:Nat->Bool} {hd:Bool} {fuel:Nat} {t e:TypeId} {a:Option Addr} {len cap:Nat} {x:DataW H×List MemPlace} (ht:Tryz.prog.underlying t=some (.slice e))
  (h:DataW.trod enc Tryz.prog W 0 sp hd fuel t [.slice a len cap]=some x):(len:Int)<=9223372036854775807:=by
 rcases open_slice ht h with⟨hcs,_⟩|⟨b,l,c,m,n,D,Pl,hcs,_,hl,hm,_⟩
 ·simp at hcs;omega
 ·simp at hcs;obtain⟨rfl,rfl,rfl⟩:=hcs;unfold maxLen at hm;omega
end Go.Proofs.YtnonoiafongllaaGreatDoor
namespace Go.Proofs.YtnonoiafongllaaGreatDoor
open Go.ChangeShapes Go.WideShapes Go.ChangeAt Go.RowKit Go.Deep
theorem I7 {H:Type} {enc:TypeId×Value->H} {W:World} {sp:Nat->Bool} {hd:Bool} {fuel:Nat} {a:Option Addr} {len cap:Nat} {x:DataW H×List MemPlace}
  (h:DataW.trod enc Tryz.prog W 0 sp hd fuel 24 [.slice a len cap]=some x):∃ T B,gB W a len T B:=by
 rcases open_slice_pairs Tryz.underlying24 Tryz.underlying55 (by kernel_rfl) rfl rfl (by kernel_rfl) (by kernel_rfl) h with⟨hcs,_⟩|⟨b,l,c,m,n,V0,V1,D0,D1,P0,P1,hcs,_,hl,_,hm,_,hx⟩
 ·simp at hcs;obtain⟨_,rfl,_⟩:=hcs;exact⟨fun _=>0,fun _=>0,.inl rfl⟩
 ·simp at hcs;obtain⟨rfl,rfl,rfl⟩:=hcs;by_cases h0:len=0
  ·exact⟨fun _=>0,fun _=>0,.inl h0⟩
  ·have hlm:len<=m:=by rw[hm];split<;>omega
   obtain⟨bb,oo,spot⟩:=b;have hspot:spot=none:=by
    have:=(hx 0 (by omega)).1;simpa [Addr.add] using World.cell?_spot this
   subst hspot;have e0:∀ i,i<len->∃ u:Int,V0 i = .int .i64 u /\ -9223372036854775808<=u/\u<=9223372036854775807:=by
    intro i hi;obtain⟨u,e,_,hu⟩:=DataW.trod_int Tryz.underlying3 (hx i (by omega)).2.2.1;exact⟨u,by simpa using e,bounds_i64 hu⟩
   have e1:∀ i,i<len->∃ u:Nat,V1 i = .int .u64 (u:Int)/\u<18446744073709551616:=by
    intro i hi;obtain⟨u,e,_,hu⟩:=DataW.trod_int Tryz.underlying53 (hx i (by omega)).2.2.2;have hb:=bounds_u64 hu;refine⟨u.toNat,?_,by omega⟩;rw[Int.toNat_of_nonneg hb.1];simpa using e
   obtain⟨T,hT⟩:=choose_lt e0;obtain⟨B,hB⟩:=choose_lt e1;refine⟨T,B,.inr ⟨bb,oo,rfl,fun k hk=>?_⟩⟩;have hk':=hx k (by omega);refine⟨?_,?_,(hT k hk).2.1,(hT k hk).2.2,(hB k hk).2⟩
   ·rw[<-(hT k hk).1,<-hk'.1];simp[Addr.add];split<;>simp_all
   ·rw[<-(hB k hk).1,<-hk'.2.1];simp[Addr.add,Nat.add_assoc]
end Go.Proofs.YtnonoiafongllaaGreatDoor
