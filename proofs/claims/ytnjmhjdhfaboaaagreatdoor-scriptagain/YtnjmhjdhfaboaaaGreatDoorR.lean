import Derived.Test.YtnjmhjdhfaboaaaGreatDoorN
import Derived.Test.YtnjmhjdhfaboaaaGreatDoorO
namespace Go.Proofs.YtnjmhjdhfaboaaaGreatDoor
open Go.RowKit aU
theorem Aj(T:Nat->Int)(B:Nat->Nat):∀n,aF (mZ T B n)=jH T B n
 | 0=>rfl
 | n+1=>by
  rw[jH,<-Aj T B n];have e:mZ T B (n+1)=mZ T B n ++ [(T n,B n)]:=by simp[mZ,List.range_succ]
  rw[e,<-rT]
theorem nS(T:Nat->Int)(B:Nat->Nat)(n:Nat):(mZ T B n).length=n:=by simp[mZ]
def fK(l:List (Int×Nat))(i:Nat):Int:=(l.getD i (0,0)).1
def uy(l:List (Int×Nat))(i:Nat):Nat:=(l.getD i (0,0)).2
theorem Ub{w:World}{a:Option Addr}{l:List (Int×Nat)}(h:mG w a l)(F:nI l):zT w a l.length (fK l) (uy l):=by
 rcases h with h|⟨b,o,h,D⟩
 ·subst h;exact .inl rfl
 ·refine .inr ⟨b,o,h,λk j=>?_⟩;obtain⟨z,A⟩:=D k j;have e:l.getD k (0,0)=l[k]:=by simp[List.getD_eq_getElem?_getD,j]
  have q:=F l[k] (List.getElem_mem j);unfold fK uy;rw[e];exact⟨z,A,q.1,q.2.1,q.2.2⟩
theorem Ib{w wr:World}{D:Array Oper}{z:List Oper}{o:Oper}{a:Act}{Q:Exit->Act->World->Prop}(Y:o.guard=none)(s x:Operand)
  (O:o.op = .call { callee:=.builtin .append,args:=#[s,x],argTypes:=#[102,102] })
  (v:Value) (q:List (Int×Nat)) (R:a.eval s=v) (A:Hq w wr v q) (y:Option Addr) (n H:Nat) (l:List (Int×Nat)) (G:l.length=n) (U:a.eval x = .slice y n H) (hP:mG wr y l) (ϐ:q.length+l.length<=100000)
  (h:∀v' w1,Hq w w1 v' (q++l)->wpList Tryz.prog D Q z (a.put o.dst v') w1):wpList Tryz.prog D Q (o::z) a wr:=by
 obtain⟨V,J,ò,å,ô⟩:=info_parts Tryz.infoPt;by_cases I:l = []
 ·subst I;have:=G.symm;subst this;refine qY Y s x 102 O w.heap.size 93 V 2 Tryz.underlying102 J v q.length (aF q) R A.own y H U ?_;exact h v wr (by rw[List.append_nil];exact A)
 ·rcases hP with Z|⟨b,p,rfl,hc⟩
  ·exact absurd Z I
  ·have Ī:0<n:=by
    rw[<-G];cases l with
    | nil=>exact absurd rfl I
    | cons=>simp
   have W:=A.aI.size;refine wpList_append_lies _ Y s x 102 O w.heap.size 93 V (.agg #[.int .i64 0,.int .u64 0]) 2 16 Tryz.underlying102 J ò å ô rfl (by decide) v q.length (aF q) R A.own ⟨b,p,none⟩ n H (aF l) U (by rw[mY,G]) (DX hc) (Br l) Ī (by unfold maxLen;omega) fM W wr.heap.size rfl ?_;intro g1 wZ w1 Ä F Ê K;refine h _ w1 ⟨?_,?_⟩
   ·rw[List.length_append,G,pV];exact Ä
   ·refine A.aI.trans ⟨F.os,F.tape,F.output,F.size,λj hj=>F.block j (Nat.lt_of_lt_of_le hj W) (λe=>?_)⟩;rcases A.own.2 with⟨é,_⟩|⟨g,cap,cur,é,hg,_⟩
    ·rw[é] at e;simp[Value.ownBlock] at e
    ·rw[é] at e;simp[Value.ownBlock] at e;omega
