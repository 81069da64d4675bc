import Derived.Test.YtcemkhalbjhdkaaGreatDoorPtMerge
import Derived.Test.YtcemkhalbjhdkaaGreatDoorRefReadGroup
import Derived.Test.YtcemkhalbjhdkaaGreatDoorRefTicksGroup
namespace Go.Proofs.YtcemkhalbjhdkaaGreatDoor
open Go.RowKit bS
theorem rR (T:Nat->Int) (B:Nat->Nat):∀ n,aF (ku T B n)=dQ T B n
 | 0=>rfl
 | n+1=>by
  rw[dQ,<-rR T B n];have e:ku T B (n+1)=ku T B n ++ [(T n,B n)]:=by simp[ku,List.range_succ]
  rw[e,<-uN]
theorem iW (T:Nat->Int) (B:Nat->Nat) (n:Nat):(ku T B n).length=n:=by simp[ku]
def dY (l:List (Int×Nat)) (i:Nat):Int:=(l.getD i (0,0)).1
def pq (l:List (Int×Nat)) (i:Nat):Nat:=(l.getD i (0,0)).2
theorem qV {w:World} {a:Option Addr} {l:List (Int×Nat)} (h:iK w a l) (hin:oQ l):oz w a l.length (dY l) (pq l):=by
 rcases h with h | ⟨b,o,h,hc⟩
 ·subst h;exact .inl rfl
 ·refine .inr ⟨b,o,h,fun k hk=>?_⟩;obtain⟨c0,c1⟩:=hc k hk;have e:l.getD k (0,0)=l[k]:=by simp[List.getD_eq_getElem?_getD,hk]
  have hm:=hin l[k] (List.getElem_mem hk);unfold dY pq;rw[e];exact⟨c0,c1,hm.1,hm.2.1,hm.2.2⟩
end Go.Proofs.YtcemkhalbjhdkaaGreatDoor
