import Derived.Test.YtalliohkalnaeaaGreatDoorPtMergeGroup
import Derived.Test.YtalliohkalnaeaaGreatDoorRefReadGroup
import Derived.Deep.RegionHeld3
import Derived.Test.YtalliohkalnaeaaGreatDoorRefTicksGroup
namespace Go.Proofs.YtalliohkalnaeaaGreatDoor
open Go.RowKit aZ
theorem DC {w wr:World} {ops:Array Oper} {rest:List Oper} {o:Oper} {a:Act} {Q:Exit->Act->World->Prop} (hgd:o.guard=none) (s x:Operand)
  (ho:o.op = .call { callee:=.builtin .append,args:=#[s,x],argTypes:=#[54,54] })
  (v:Value) (out:List (Int×Nat)) (hs:a.eval s=v) (hout:Dn w wr v out) (y:Option Addr) (n cy:Nat) (l:List (Int×Nat)) (hn:l.length=n) (hx:a.eval x = .slice y n cy) (hP:kD wr y l) (hlen:out.length+l.length<=100000)
  (h:∀ v' w1,Dn w w1 v' (out++l)->wpList Tryz.prog ops Q rest (a.put o.dst v') w1):wpList Tryz.prog ops Q (o::rest) a wr:=by
 obtain⟨i0,hi,hz0,hz1,hz2⟩:=info_parts Tryz.infoPt;by_cases h0:l = []
 ·subst h0;have:n=0:=hn.symm;subst this;refine nX hgd s x 54 ho w.heap.size 39 i0 2 Tryz.underlying54 hi v out.length (aD out) hs hout.own y cy hx ?_;exact h v wr (by rw[List.append_nil];exact hout)
 ·rcases hP with h1 | ⟨b,p,rfl,hc⟩
  ·exact absurd h1 h0
  ·have hl0:0<n:=by
    rw[<-hn];cases l with
    | nil=>exact absurd rfl h0
    | cons=>simp
   have hwl:=hout.aM.size;refine wpList_append_lies _ hgd s x 54 ho w.heap.size 39 i0 (.agg #[.int .i64 0,.int .u64 0]) 2 16 Tryz.underlying54 hi hz0 hz1 hz2 rfl (by decide) v out.length (aD out) hs hout.own ⟨b,p,none⟩ n cy (aD l) hx (by rw[mM,hn]) (EP hc) (BN l) hl0 (by unfold maxLen;omega) (by omega) hwl wr.heap.size rfl ?_;intro g1 qX w1 hown1 hgrow hat hlt1;refine h _ w1 ⟨?_,?_⟩
   ·rw[List.length_append,hn,qx];exact hown1
   ·refine hout.aM.trans ⟨hgrow.os,hgrow.tape,hgrow.output,hgrow.size,fun j hj=>hgrow.block j (Nat.lt_of_lt_of_le hj hwl) (fun e=>?_)⟩;rcases hout.own.2 with⟨hv0,_⟩|⟨g,cap,cur,hv0,hg,_⟩
    ·rw[hv0] at e;simp[Value.ownBlock] at e
    ·rw[hv0] at e;simp[Value.ownBlock] at e;omega
end Go.Proofs.YtalliohkalnaeaaGreatDoor
namespace Go.Proofs.YtalliohkalnaeaaGreatDoor
open Go.RowKit aZ
theorem wS (T:Nat->Int) (B:Nat->Nat):∀ n,aD (kV T B n)=gW T B n
 | 0=>rfl
 | n+1=>by
  rw[gW,<-wS T B n];have e:kV T B (n+1)=kV T B n ++ [(T n,B n)]:=by simp[kV,List.range_succ]
  rw[e,<-oI]
theorem lJ (T:Nat->Int) (B:Nat->Nat) (n:Nat):(kV T B n).length=n:=by simp[kV]
def iI (l:List (Int×Nat)) (i:Nat):Int:=(l.getD i (0,0)).1
def qg (l:List (Int×Nat)) (i:Nat):Nat:=(l.getD i (0,0)).2
theorem yD {w:World} {a:Option Addr} {l:List (Int×Nat)} (h:kD w a l) (hin:mO l):qR w a l.length (iI l) (qg l):=by
 rcases h with h | ⟨b,o,h,hc⟩
 ·subst h;exact .inl rfl
 ·refine .inr ⟨b,o,h,fun k hk=>?_⟩;obtain⟨c0,c1⟩:=hc k hk;have e:l.getD k (0,0)=l[k]:=by simp[List.getD_eq_getElem?_getD,hk]
  have hm:=hin l[k] (List.getElem_mem hk);unfold iI qg;rw[e];exact⟨c0,c1,hm.1,hm.2.1,hm.2.2⟩
end Go.Proofs.YtalliohkalnaeaaGreatDoor
