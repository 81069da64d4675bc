import Derived.Test.YtololnhfgjbhjaaGreatDoorPtMergeGroup
import Derived.Test.YtololnhfgjbhjaaGreatDoorRefReadGroup
namespace Go.Proofs.YtololnhfgjbhjaaGreatDoor
open Go.RowKit aV
theorem Gu{w wr:World}{ops:Array Oper}{rest:List Oper}{o:Oper}{a:Act}{Q:Exit->Act->World->Prop}(ŋ:o.guard=none)(s x:Operand)
  (ho:o.op = .call { callee:=.builtin .append,args:=#[s,x],argTypes:=#[45,45] })
  (v:Value) (out:List (Int×Nat)) (hs:a.eval s=v) (Ö:Gl w wr v out) (y:Option Addr) (n cy:Nat) (l:List (Int×Nat)) (hn:l.length=n) (hx:a.eval x = .slice y n cy) (hP:mP wr y l) (ϐ:out.length+l.length<=100000)
  (h:∀v' w1,Gl w w1 v' (out++l)->wpList Tryz.prog ops Q rest (a.put o.dst v') w1):wpList Tryz.prog ops Q (o::rest) a wr:=by
 obtain⟨i0,hi,Ċ,Ā,Ć⟩:=info_parts Tryz.infoPt;by_cases h0:l = []
 ·subst h0;have:n=0:=hn.symm;subst this;refine qC ŋ s x 45 ho w.heap.size 43 i0 2 Tryz.underlying45 hi v out.length (aD out) hs Ö.own y cy hx ?_;exact h v wr (by rw[List.append_nil];exact Ö)
 ·rcases hP with h1|⟨b,p,rfl,hc⟩
  ·exact absurd h1 h0
  ·have Ń:0<n:=by
    rw[<-hn];cases l with
    | nil=>exact absurd rfl h0
    | cons=>simp
   have Ô:=Ö.aI.size;refine wpList_append_lies _ ŋ s x 45 ho w.heap.size 43 i0 (.agg #[.int .i64 0,.int .u64 0]) 2 16 Tryz.underlying45 hi Ċ Ā Ć rfl (by decide) v out.length (aD out) hs Ö.own ⟨b,p,none⟩ n cy (aD l) hx (by rw[lU,hn]) (CQ hc) (Ad l) Ń (by unfold maxLen;omega) (by omega) Ô wr.heap.size rfl ?_;intro g1 qh w1 ϲ ϑ Ϲ ũ;refine h _ w1 ⟨?_,?_⟩
   ·rw[List.length_append,hn,oW];exact ϲ
   ·refine Ö.aI.trans ⟨ϑ.os,ϑ.tape,ϑ.output,ϑ.size,λj hj=>ϑ.block j (Nat.lt_of_lt_of_le hj Ô) (λe=>?_)⟩;rcases Ö.own.2 with⟨À,_⟩|⟨g,cap,cur,À,hg,_⟩
    ·rw[À] at e;simp[Value.ownBlock] at e
    ·rw[À] at e;simp[Value.ownBlock] at e;omega
theorem zI(T:Nat->Int)(B:Nat->Nat):∀n,aD (lV T B n)=iO T B n
 | 0=>rfl
 | n+1=>by
  rw[iO,<-zI T B n];have e:lV T B (n+1)=lV T B n ++ [(T n,B n)]:=by simp[lV,List.range_succ]
  rw[e,<-qV]
theorem mX(T:Nat->Int)(B:Nat->Nat)(n:Nat):(lV T B n).length=n:=by simp[lV]
def fP(l:List (Int×Nat))(i:Nat):Int:=(l.getD i (0,0)).1
def sW(l:List (Int×Nat))(i:Nat):Nat:=(l.getD i (0,0)).2
theorem Bb{w:World}{a:Option Addr}{l:List (Int×Nat)}(h:mP w a l)(Ê:qW l):uP w a l.length (fP l) (sW l):=by
 rcases h with h|⟨b,o,h,hc⟩
 ·subst h;exact .inl rfl
 ·refine .inr ⟨b,o,h,λk hk=>?_⟩;obtain⟨c0,c1⟩:=hc k hk;have e:l.getD k (0,0)=l[k]:=by simp[List.getD_eq_getElem?_getD,hk]
  have hm:=Ê l[k] (List.getElem_mem hk);unfold fP sW;rw[e];exact⟨c0,c1,hm.1,hm.2.1,hm.2.2⟩
end Go.Proofs.YtololnhfgjbhjaaGreatDoor
