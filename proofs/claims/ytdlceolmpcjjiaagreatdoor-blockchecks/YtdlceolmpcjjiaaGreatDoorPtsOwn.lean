import Derived.Test.YtdlceolmpcjjiaaGreatDoorPtMerge
import Derived.Test.YtdlceolmpcjjiaaGreatDoorRefReadGroup
import Derived.Test.YtdlceolmpcjjiaaGreatDoorRefTicksGroup
namespace Go.Proofs.YtdlceolmpcjjiaaGreatDoor
open Go.RowKit bT
theorem rT (T:Nat->Int) (B:Nat->Nat):∀ n,aG (kD T B n)=dR T B n
 | 0=>rfl
 | n+1=>by
  rw[dR,<-rT T B n];have e:kD T B (n+1)=kD T B n ++ [(T n,B n)]:=by simp[kD,List.range_succ]
  rw[e,<-uO]
theorem iY (T:Nat->Int) (B:Nat->Nat) (n:Nat):(kD T B n).length=n:=by simp[kD]
def dZ (l:List (Int×Nat)) (i:Nat):Int:=(l.getD i (0,0)).1
def pE (l:List (Int×Nat)) (i:Nat):Nat:=(l.getD i (0,0)).2
theorem qW {w:World} {a:Option Addr} {l:List (Int×Nat)} (h:iM w a l) (hin:oU l):oC w a l.length (dZ l) (pE l):=by
 rcases h with h | ⟨b,o,h,hc⟩
 ·subst h;exact .inl rfl
 ·refine .inr ⟨b,o,h,fun k hk=>?_⟩;obtain⟨c0,c1⟩:=hc k hk;have e:l.getD k (0,0)=l[k]:=by simp[List.getD_eq_getElem?_getD,hk]
  have hm:=hin l[k] (List.getElem_mem hk);unfold dZ pE;rw[e];exact⟨c0,c1,hm.1,hm.2.1,hm.2.2⟩
end Go.Proofs.YtdlceolmpcjjiaaGreatDoor
