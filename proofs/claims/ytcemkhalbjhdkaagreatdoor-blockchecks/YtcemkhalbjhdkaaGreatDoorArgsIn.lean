import Derived.Test.YtcemkhalbjhdkaaGreatDoorChecked
import Derived.Test.YtcemkhalbjhdkaaGreatDoorSlicesIn
import Derived.ProofKit
import Derived.Deep.SlicePairs
import Derived.OpenShut
namespace Go.Proofs.YtcemkhalbjhdkaaGreatDoor
open Go.ChangeShapes Go.WideShapes Go.ChangeAt Go.RowKit Go.Deep
theorem Tryz.laidOut:laidOutB Tryz.prog=true:=by kernel_rfl
theorem SS {H:Type} {enc:TypeId×Value->H} {W:World} {sp:Nat->Bool} {hd:Bool} {fuel:Nat} {t e:TypeId} {a:Option Addr} {len cap:Nat} {x:DataW H×List MemPlace} (ht:Tryz.prog.underlying t=some (.slice e))
  (h:DataW.trod enc Tryz.prog W 0 sp hd fuel t [.slice a len cap]=some x):(len:Int)<=9223372036854775807:=by
 rcases open_slice ht h with⟨hcs,_⟩|⟨b,l,c,m,n,D,Pl,hcs,_,hl,hm,_⟩
 ·simp at hcs;omega
 ·simp at hcs;obtain⟨rfl,rfl,rfl⟩:=hcs;unfold maxLen at hm;omega
end Go.Proofs.YtcemkhalbjhdkaaGreatDoor
