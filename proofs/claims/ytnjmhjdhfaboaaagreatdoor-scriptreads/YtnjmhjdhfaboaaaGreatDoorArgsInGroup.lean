import Derived.Test.YtnjmhjdhfaboaaaGreatDoorChecked
import Derived.Test.YtnjmhjdhfaboaaaGreatDoorSlicesIn
import Derived.ProofKit
import Derived.Deep.SlicePairs
import Derived.OpenShut
namespace Go.Proofs.YtnjmhjdhfaboaaaGreatDoor
open Go.ChangeShapes Go.WideShapes Go.ChangeAt Go.RowKit Go.Deep
theorem Tryz.laidOut:laidOutB Tryz.prog=true:=by kernel_rfl
theorem agu{H:Type}{enc:TypeId×Value->H}{W:World}{A:Nat->Bool}{q:Bool}{fuel:Nat}{t e:TypeId}{a:Option Addr}{len o:Nat}{x:DataW H×List MemPlace}(z:Tryz.prog.underlying t=some (.slice e))
  (h:DataW.trod enc Tryz.prog W 0 A q fuel t [.slice a len o]=some x):(len:Int)<=9223372036854775807:=by
 rcases open_slice z h with⟨Ϭ,_⟩|⟨b,l,c,m,n,D,Pl,Ϭ,_,hl,hm,_⟩
 ·simp at Ϭ;omega
 ·simp at Ϭ;obtain⟨rfl,rfl,rfl⟩:=Ϭ;unfold maxLen at hm;omega
end Go.Proofs.YtnjmhjdhfaboaaaGreatDoor
