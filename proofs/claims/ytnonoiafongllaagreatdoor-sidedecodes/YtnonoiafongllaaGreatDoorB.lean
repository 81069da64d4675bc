import Derived.Test.YtnonoiafongllaaGreatDoorChecked
import Derived.Test.YtnonoiafongllaaGreatDoorA
import Derived.ProofKit
import Derived.Deep.SlicePairs
import Derived.OpenShut
namespace Go.Proofs.YtnonoiafongllaaGreatDoor
open Go.ChangeShapes Go.WideShapes Go.ChangeAt Go.RowKit Go.Deep
theorem Tryz.laidOut:laidOutB Tryz.prog=true:=by kernel_rfl
theorem aaJ{H:Type}{enc:TypeId×Value->H}{W:World}{M:Nat->Bool}{I:Bool}{fuel:Nat}{t e:TypeId}{a:Option Addr}{len cap:Nat}{x:DataW H×List MemPlace}(J:Tryz.prog.underlying t=some (.slice e))
  (h:DataW.trod enc Tryz.prog W 0 M I fuel t [.slice a len cap]=some x):(len:Int)<=9223372036854775807:=by
 rcases open_slice J h with⟨ϡ,_⟩|⟨b,l,c,m,n,D,Pl,ϡ,_,hl,hm,_⟩
 ·simp at ϡ;omega
 ·simp at ϡ;obtain⟨rfl,rfl,rfl⟩:=ϡ;unfold maxLen at hm;omega
