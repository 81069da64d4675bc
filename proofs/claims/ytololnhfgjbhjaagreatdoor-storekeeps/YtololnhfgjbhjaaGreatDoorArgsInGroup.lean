import Derived.Test.YtololnhfgjbhjaaGreatDoorChecked
import Derived.Test.YtololnhfgjbhjaaGreatDoorSlicesIn
import Derived.ProofKit
import Derived.Deep.SlicePairs
import Derived.OpenShut
namespace Go.Proofs.YtololnhfgjbhjaaGreatDoor
open Go.ChangeShapes Go.WideShapes Go.ChangeAt Go.RowKit Go.Deep
theorem Tryz.laidOut:laidOutB Tryz.prog=true:=by kernel_rfl
theorem WR{H:Type}{enc:TypeId×Value->H}{W:World}{sp:Nat->Bool}{hd:Bool}{fuel:Nat}{t e:TypeId}{a:Option Addr}{len cap:Nat}{x:DataW H×List MemPlace}(ht:Tryz.prog.underlying t=some (.slice e))
  (h:DataW.trod enc Tryz.prog W 0 sp hd fuel t [.slice a len cap]=some x):(len:Int)<=9223372036854775807:=by
 rcases open_slice ht h with⟨Ϥ,_⟩|⟨b,l,c,m,n,D,Pl,Ϥ,_,hl,hm,_⟩
 ·simp at Ϥ;omega
 ·simp at Ϥ;obtain⟨rfl,rfl,rfl⟩:=Ϥ;unfold maxLen at hm;omega
end Go.Proofs.YtololnhfgjbhjaaGreatDoor
