import Derived.Test.YtololnhfgjbhjaaGreatDoorChecked
import Derived.Test.YtololnhfgjbhjaaGreatDoorSlicesIn
import Derived.ProofKit
import Derived.Deep.SlicePairs
import Derived.OpenShut
namespace Go.Proofs.YtololnhfgjbhjaaGreatDoor
open Go.ChangeShapes Go.WideShapes Go.ChangeAt Go.RowKit Go.Deep
theorem Tryz.laidOut:laidOutB Tryz.prog=true:=by kernel_rfl
theorem Sm{H:Type}{enc:TypeId×Value->H}{W:World}{sp:Nat->Bool}{hd:Bool}{fuel:Nat}{a:Option Addr}{len cap:Nat}{x:DataW H×List MemPlace}
  (h:DataW.trod enc Tryz.prog W 0 sp hd fuel 55 [.slice a len cap]=some x):∃G,Ints W a len G/\∀k,k<len -> -9223372036854775808<=G k/\G k<=9223372036854775807:=by
 rcases open_slice1 Tryz.underlying55 (by kernel_rfl) h with⟨Ϧ,_⟩|⟨b,l,c,m,n,V0,D0,P0,Ϧ,_,hl,_,hm,_,hx⟩
 ·simp at Ϧ;obtain⟨_,rfl,_⟩:=Ϧ;exact⟨λ_=>0,.inl rfl,λk hk=>absurd hk (by omega)⟩
 ·simp at Ϧ;obtain⟨rfl,rfl,rfl⟩:=Ϧ;by_cases h0:len=0
  ·exact⟨λ_=>0,.inl h0,λk hk=>absurd hk (by omega)⟩
  ·have hlm:len<=m:=by rw[hm];split<;>omega
   obtain⟨bb,oo,spot⟩:=b;have hspot:spot=none:=by
    have:=(hx 0 (by omega)).1;simpa [Addr.add] using World.cell?_spot this
   subst hspot;have e1:∀i,i<len->∃u:Int,V0 i = .int .i64 u /\ -9223372036854775808<=u/\u<=9223372036854775807:=by
    intro i hi;obtain⟨u,e,_,hu⟩:=DataW.trod_int Tryz.underlying3 (hx i (by omega)).2;exact⟨u,by simpa using e,bounds_i64 hu⟩
   obtain⟨N,hN⟩:=choose_lt e1;refine⟨N,.inr ⟨bb,oo,rfl,λk hk=>?_⟩,λk hk=>(hN k hk).2⟩;have hk':=hx k (by omega);rw[<-(hN k hk).1,<-hk'.1];simp[Addr.add];split<;>simp_all
theorem WI{H:Type}{enc:TypeId×Value->H}{W:World}{sp:Nat->Bool}{hd:Bool}{fuel:Nat}{t e:TypeId}{a:Option Addr}{len cap:Nat}{x:DataW H×List MemPlace}(ht:Tryz.prog.underlying t=some (.slice e))
  (h:DataW.trod enc Tryz.prog W 0 sp hd fuel t [.slice a len cap]=some x):(len:Int)<=9223372036854775807:=by
 rcases open_slice ht h with⟨Ϧ,_⟩|⟨b,l,c,m,n,D,Pl,Ϧ,_,hl,hm,_⟩
 ·simp at Ϧ;omega
 ·simp at Ϧ;obtain⟨rfl,rfl,rfl⟩:=Ϧ;unfold maxLen at hm;omega
end Go.Proofs.YtololnhfgjbhjaaGreatDoor
