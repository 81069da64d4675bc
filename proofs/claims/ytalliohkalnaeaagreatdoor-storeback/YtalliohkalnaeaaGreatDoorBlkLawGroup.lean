import Derived.Test.YtalliohkalnaeaaGreatDoorBlkTwoGroup
import Derived.Test.YtalliohkalnaeaaGreatDoorHeadSeriesGroup
namespace Go.Proofs.YtalliohkalnaeaaGreatDoor
open Go.RowKit Go.Maps aZ
end Go.Proofs.YtalliohkalnaeaaGreatDoor
namespace Go.Proofs.YtalliohkalnaeaaGreatDoor
open Go.RowKit Go.Maps aZ
theorem aan {l:List (Int×Nat)} (h:l.length<=120):(iJ l).length<=10000:=by
 have h1:=yX (iI l) (qg l) l.length;have h3:(iJ l).length=(aj.pack (dL (iI l) (qg l) l.length)).length+4:=by rw[iJ,dR,aj.gY,List.length_append,uJ]
 rw[aj.tu] at h3;omega
def jU:List (List UInt8×List (Int×Nat)):=[([110,61,97],[(3,7)])]
theorem tL:Yj 0 10 jU:=by
 refine⟨by decide,by decide,List.pairwise_singleton _ _,fun r hr=>?_⟩;simp[jU] at hr;subst hr;exact⟨wV,Dr (by decide) (by decide),by decide⟩
end Go.Proofs.YtalliohkalnaeaaGreatDoor
namespace Go.Proofs.YtalliohkalnaeaaGreatDoor
open Go.RowKit Go.Maps aZ
theorem adP {l:List (List UInt8×List (Int×Nat))} (h:(l.map Prod.fst).Pairwise (· < ·)) {k:Nat} (hk:k<l.length):vC l l[k].1=l[k].2:=
 Va hk (fun j hj hjk e=>by
  have:=List.pairwise_iff_getElem.1 h j k (by simpa using hj) (by simpa using hk) hjk;simp only[List.getElem_map] at this;rw[e] at this;exact List.lt_irrefl _ this) rfl
end Go.Proofs.YtalliohkalnaeaaGreatDoor
