import Derived.Test.YtnjmhjdhfaboaaaGreatDoorChecked
import Derived.Test.YtnjmhjdhfaboaaaGreatDoorE
import Derived.ProofKit
import Derived.Deep.SlicePairs
import Derived.OpenShut
namespace Go.Proofs.YtnjmhjdhfaboaaaGreatDoor
open Go.ChangeShapes Go.WideShapes Go.ChangeAt Go.RowKit Go.Deep
theorem Tryz.laidOut:laidOutB Tryz.prog=true:=by kernel_rfl
theorem afC{H:Type}{enc:TypeId×Value->H}{W:World}{R:Nat->Bool}{J:Bool}{fuel:Nat}{a:Option Addr}{len q:Nat}{x:DataW H×List MemPlace}
  (h:DataW.trod enc Tryz.prog W 0 R J fuel 35 [.slice a len q]=some x):∃G,Ints W a len G/\∀k,k<len -> -9223372036854775808<=G k/\G k<=9223372036854775807:=by
 rcases open_slice1 Tryz.underlying35 (by kernel_rfl) h with⟨ϥ,_⟩|⟨b,l,c,m,n,V0,D0,P0,ϥ,_,hl,_,hm,_,hx⟩
 ·simp at ϥ;obtain⟨_,rfl,_⟩:=ϥ;exact⟨λ_=>0,.inl rfl,λk j=>absurd j (by omega)⟩
 ·simp at ϥ;obtain⟨rfl,rfl,rfl⟩:=ϥ;by_cases I:len=0
  ·exact⟨λ_=>0,.inl I,λk j=>absurd j (by omega)⟩
  ·have K:len<=m:=by rw[hm];split<;>omega
   obtain⟨D,Q,o⟩:=b;have U:o=none:=by
    have:=(hx 0 (by omega)).1;simpa [Addr.add] using World.cell?_spot this
   subst U;have F:∀i,i<len->∃u:Int,V0 i = .int .i64 u /\ -9223372036854775808<=u/\u<=9223372036854775807:=by
    intro i V;obtain⟨u,e,_,O⟩:=DataW.trod_int Tryz.underlying3 (hx i (by omega)).2;exact⟨u,by simpa using e,bounds_i64 O⟩
   obtain⟨N,A⟩:=choose_lt F;refine⟨N,.inr ⟨D,Q,rfl,λk j=>?_⟩,λk j=>(A k j).2⟩;have z:=hx k (by omega);rw[<-(A k j).1,<-z.1];simp[Addr.add];split<;>simp_all
theorem Qe{H:Type}{enc:TypeId×Value->H}{W:World}{z:Nat->Bool}{o:Bool}{fuel:Nat}{t e:TypeId}{a:Option Addr}{len j:Nat}{x:DataW H×List MemPlace}(q:Tryz.prog.underlying t=some (.slice e))
  (h:DataW.trod enc Tryz.prog W 0 z o fuel t [.slice a len j]=some x):(len:Int)<=9223372036854775807:=by
 rcases open_slice q h with⟨ϥ,_⟩|⟨b,l,c,m,n,D,Pl,ϥ,_,hl,hm,_⟩
 ·simp at ϥ;omega
 ·simp at ϥ;obtain⟨rfl,rfl,rfl⟩:=ϥ;unfold maxLen at hm;omega
