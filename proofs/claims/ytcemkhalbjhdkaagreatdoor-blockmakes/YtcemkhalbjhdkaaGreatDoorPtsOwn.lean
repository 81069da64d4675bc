import Derived.Test.YtcemkhalbjhdkaaGreatDoorPtMerge
import Derived.Test.YtcemkhalbjhdkaaGreatDoorRefReadGroup
import Derived.Test.YtcemkhalbjhdkaaGreatDoorRefTicksGroup
namespace Go.Proofs.YtcemkhalbjhdkaaGreatDoor
open Go.RowKit dB
theorem qp (T:Nat->Int) (B:Nat->Nat):∀ n,aV (eY T B n)=dM T B n
 | 0=>rfl
 | n+1=>by
  rw[dM,<-qp T B n];have e:eY T B (n+1)=eY T B n ++ [(T n,B n)]:=by simp[eY,List.range_succ]
  rw[e,<-su]
theorem iO (T:Nat->Int) (B:Nat->Nat) (n:Nat):(eY T B n).length=n:=by simp[eY]
def gH (l:List (Int×Nat)) (i:Nat):Int:=(l.getD i (0,0)).1
def nP (l:List (Int×Nat)) (i:Nat):Nat:=(l.getD i (0,0)).2
theorem pK {w:World} {a:Option Addr} {l:List (Int×Nat)} (h:gM w a l) (hin:jO l):lZ w a l.length (gH l) (nP l):=by
 rcases h with h | ⟨b,o,h,hc⟩
 ·subst h;exact .inl rfl
 ·refine .inr ⟨b,o,h,fun k hk=>?_⟩;obtain⟨c0,c1⟩:=hc k hk;have e:l.getD k (0,0)=l[k]:=by simp[List.getD_eq_getElem?_getD,hk]
  have hm:=hin l[k] (List.getElem_mem hk);unfold gH nP;rw[e];exact⟨c0,c1,hm.1,hm.2.1,hm.2.2⟩
end Go.Proofs.YtcemkhalbjhdkaaGreatDoor
