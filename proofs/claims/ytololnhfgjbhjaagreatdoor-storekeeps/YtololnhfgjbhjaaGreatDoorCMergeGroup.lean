import Derived.Test.YtololnhfgjbhjaaGreatDoorPtMergeGroup
import Derived.Test.YtololnhfgjbhjaaGreatDoorRefReadGroup
namespace Go.Proofs.YtololnhfgjbhjaaGreatDoor
open Go.RowKit bD
theorem G9{w wr:World}{ops:Array Oper}{rest:List Oper}{o:Oper}{a:Act}{Q:Exit->Act->World->Prop}(Ő:o.guard=none)(s x:Operand)
  (ho:o.op = .call { callee:=.builtin .append,args:=#[s,x],argTypes:=#[45,45] })
  (v:Value) (out:List (Int×Nat)) (hs:a.eval s=v) (Ù:GQ w wr v out) (y:Option Addr) (n cy:Nat) (l:List (Int×Nat)) (hn:l.length=n) (hx:a.eval x = .slice y n cy) (hP:nu wr y l) (ϐ:out.length+l.length<=100000)
  (h:∀v' w1,GQ w w1 v' (out++l)->wpList Tryz.prog ops Q rest (a.put o.dst v') w1):wpList Tryz.prog ops Q (o::rest) a wr:=by
 obtain⟨i0,hi,ğ,ė,Ě⟩:=info_parts Tryz.infoPt;by_cases h0:l = []
 ·subst h0;have:n=0:=hn.symm;subst this;refine qQ Ő s x 45 ho w.heap.size 43 i0 2 Tryz.underlying45 hi v out.length (aA out) hs Ù.own y cy hx ?_;exact h v wr (by rw[List.append_nil];exact Ù)
 ·rcases hP with h1|⟨b,p,rfl,hc⟩
  ·exact absurd h1 h0
  ·have ň:0<n:=by
    rw[<-hn];cases l with
    | nil=>exact absurd rfl h0
    | cons=>simp
   have Ó:=Ù.aH.size;refine wpList_append_lies _ Ő s x 45 ho w.heap.size 43 i0 (.agg #[.int .i64 0,.int .u64 0]) 2 16 Tryz.underlying45 hi ğ ė Ě rfl (by decide) v out.length (aA out) hs Ù.own ⟨b,p,none⟩ n cy (aA l) hx (by rw[mF,hn]) (Df hc) (Ao l) ň (by unfold maxLen;omega) (by omega) Ó wr.heap.size rfl ?_;intro g1 qx w1 ϲ ϑ Ϸ ū;refine h _ w1 ⟨?_,?_⟩
   ·rw[List.length_append,hn,mD];exact ϲ
   ·refine Ù.aH.trans ⟨ϑ.os,ϑ.tape,ϑ.output,ϑ.size,λj hj=>ϑ.block j (Nat.lt_of_lt_of_le hj Ó) (λe=>?_)⟩;rcases Ù.own.2 with⟨Â,_⟩|⟨g,cap,cur,Â,hg,_⟩
    ·rw[Â] at e;simp[Value.ownBlock] at e
    ·rw[Â] at e;simp[Value.ownBlock] at e;omega
theorem zH(T:Nat->Int)(B:Nat->Nat):∀n,aA (mG T B n)=je T B n
 | 0=>rfl
 | n+1=>by
  rw[je,<-zH T B n];have e:mG T B (n+1)=mG T B n ++ [(T n,B n)]:=by simp[mG,List.range_succ]
  rw[e,<-rM]
theorem nG(T:Nat->Int)(B:Nat->Nat)(n:Nat):(mG T B n).length=n:=by simp[mG]
def fM(l:List (Int×Nat))(i:Nat):Int:=(l.getD i (0,0)).1
def tY(l:List (Int×Nat))(i:Nat):Nat:=(l.getD i (0,0)).2
theorem Bl{w:World}{a:Option Addr}{l:List (Int×Nat)}(h:nu w a l)(Ï:rO l):uZ w a l.length (fM l) (tY l):=by
 rcases h with h|⟨b,o,h,hc⟩
 ·subst h;exact .inl rfl
 ·refine .inr ⟨b,o,h,λk hk=>?_⟩;obtain⟨c0,c1⟩:=hc k hk;have e:l.getD k (0,0)=l[k]:=by simp[List.getD_eq_getElem?_getD,hk]
  have hm:=Ï l[k] (List.getElem_mem hk);unfold fM tY;rw[e];exact⟨c0,c1,hm.1,hm.2.1,hm.2.2⟩
end Go.Proofs.YtololnhfgjbhjaaGreatDoor
