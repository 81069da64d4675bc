import Derived.Test.YtnjmhjdhfaboaaaGreatDoorPtMergeGroup
import Derived.Test.YtnjmhjdhfaboaaaGreatDoorRefReadGroup
namespace Go.Proofs.YtnjmhjdhfaboaaaGreatDoor
open Go.RowKit aR
theorem Ai(T:Nat->Int)(B:Nat->Nat):∀n,aF (mP T B n)=jC T B n
 | 0=>rfl
 | n+1=>by
  rw[jC,<-Ai T B n];have e:mP T B (n+1)=mP T B n ++ [(T n,B n)]:=by simp[mP,List.range_succ]
  rw[e,<-rR]
theorem nK(T:Nat->Int)(B:Nat->Nat)(n:Nat):(mP T B n).length=n:=by simp[mP]
def fI(l:List (Int×Nat))(i:Nat):Int:=(l.getD i (0,0)).1
def rU(l:List (Int×Nat))(i:Nat):Nat:=(l.getD i (0,0)).2
theorem Tx{w:World}{a:Option Addr}{l:List (Int×Nat)}(h:l5 w a l)(G:ni l):zT w a l.length (fI l) (rU l):=by
 rcases h with h|⟨b,o,h,A⟩
 ·subst h;exact .inl rfl
 ·refine .inr ⟨b,o,h,λk z=>?_⟩;obtain⟨D,F⟩:=A k z;have e:l.getD k (0,0)=l[k]:=by simp[List.getD_eq_getElem?_getD,z]
  have q:=G l[k] (List.getElem_mem z);unfold fI rU;rw[e];exact⟨D,F,q.1,q.2.1,q.2.2⟩
theorem Hw{w wr:World}{D:Array Oper}{z:List Oper}{o:Oper}{a:Act}{Q:Exit->Act->World->Prop}(U:o.guard=none)(s x:Operand)
  (R:o.op = .call { callee:=.builtin .append,args:=#[s,x],argTypes:=#[102,102] })
  (v:Value) (q:List (Int×Nat)) (W:a.eval s=v) (A:Hf w wr v q) (y:Option Addr) (n I:Nat) (l:List (Int×Nat)) (G:l.length=n) (K:a.eval x = .slice y n I) (hP:l5 wr y l) (ϑ:q.length+l.length<=100000)
  (h:∀v' w1,Hf w w1 v' (q++l)->wpList Tryz.prog D Q z (a.put o.dst v') w1):wpList Tryz.prog D Q (o::z) a wr:=by
 obtain⟨J,V,î,ç,ï⟩:=info_parts Tryz.infoPt;by_cases H:l = []
 ·subst H;have:=G.symm;subst this;refine qY U s x 102 R w.heap.size 93 J 2 Tryz.underlying102 V v q.length (aF q) W A.own y I K ?_;exact h v wr (by rw[List.append_nil];exact A)
 ·rcases hP with h1|⟨b,p,rfl,Z⟩
  ·exact absurd h1 H
  ·have ĥ:0<n:=by
    rw[<-G];cases l with
    | nil=>exact absurd rfl H
    | cons=>simp
   have Y:=A.aI.size;refine wpList_append_lies _ U s x 102 R w.heap.size 93 J (.agg #[.int .i64 0,.int .u64 0]) 2 16 Tryz.underlying102 V î ç ï rfl (by decide) v q.length (aF q) W A.own ⟨b,p,none⟩ n I (aF l) K (by rw[mO,G]) (DV Z) (Bu l) ĥ (by unfold maxLen;omega) iK Y wr.heap.size rfl ?_;intro g1 xu w1 Ã F É O;refine h _ w1 ⟨?_,?_⟩
   ·rw[List.length_append,G,pQ];exact Ã
   ·refine A.aI.trans ⟨F.os,F.tape,F.output,F.size,λj hj=>F.block j (Nat.lt_of_lt_of_le hj Y) (λe=>?_)⟩;rcases A.own.2 with⟨æ,_⟩|⟨g,cap,cur,æ,hg,_⟩
    ·rw[æ] at e;simp[Value.ownBlock] at e
    ·rw[æ] at e;simp[Value.ownBlock] at e;omega
end Go.Proofs.YtnjmhjdhfaboaaaGreatDoor
