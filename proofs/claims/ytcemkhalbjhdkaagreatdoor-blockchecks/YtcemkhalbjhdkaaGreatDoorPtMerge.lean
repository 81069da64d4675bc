import Derived.Test.YtcemkhalbjhdkaaGreatDoorPtListGroup
import Derived.Laws.OwnMore
import Derived.Deep.DeepCutAuto
namespace Go.Proofs.YtcemkhalbjhdkaaGreatDoor
open Go.RowKit bS
theorem Gz {P:Program} (w:World) (base:Nat) (t ty e:TypeId) (i:TypeInfo) (size:Nat) (ht:P.underlying t=some (.slice e)) (hi:P.info? e=some i)
  (v:Value) (n:Nat) (xs:List Value) (hown:w.ownsRow base e size v n xs) (ax:Option Addr) (cx:Nat) :
  (Builtin.append_ #[t,t] ty #[v,.slice ax 0 cx]).run P w = .ok v w:=by
 cases ax with
 | none=>
  rcases hown.2 with⟨rfl,rfl⟩|⟨g,cap,cur,rfl,_,_,hnc,_⟩
  ·simp[Builtin.append_,run_underlying ht,sizeOf,typeInfo,hi,Builtin.lenOf,Builtin.firstCells]
  ·simp[Builtin.append_,run_underlying ht,sizeOf,typeInfo,hi,Builtin.lenOf,Builtin.firstCells,hnc,storeCells]
 | some a=>
  rcases hown.2 with⟨rfl,rfl⟩|⟨g,cap,cur,rfl,_,_,hnc,_⟩
  ·simp[Builtin.append_,run_underlying ht,sizeOf,typeInfo,hi,Builtin.lenOf,Builtin.firstCells,loadCells,loadCellsFrom]
  ·simp[Builtin.append_,run_underlying ht,sizeOf,typeInfo,hi,Builtin.lenOf,Builtin.firstCells,hnc,storeCells,loadCells,loadCellsFrom]
theorem C8 {P:Program} {w:World} {ops:Array Oper} {rest:List Oper} {o:Oper} {a:Act} {Q:Exit->Act->World->Prop} (hgd:o.guard=none) (s x:Operand) (t:TypeId)
  (ho:o.op = .call { callee:=.builtin .append,args:=#[s,x],argTypes:=#[t,t] })
  (base:Nat) (e:TypeId) (i:TypeInfo) (size:Nat) (ht:P.underlying t=some (.slice e)) (hi:P.info? e=some i)
  (v:Value) (n:Nat) (xs:List Value) (hs:a.eval s=v) (hown:w.ownsRow base e size v n xs) (ax:Option Addr) (cx:Nat) (hx:a.eval x = .slice ax 0 cx)
  (h:wpList P ops Q rest (a.put o.dst v) w):wpList P ops Q (o::rest) a w:=by
 refine wpList_plain hgd fun K hK=>?_
 have hrun:=Gz (P:=P) w base t o.type e i size ht hi v n xs hown ax cx;unfold Oper.wp;simp[execOp,ho,resolve,invoke,builtin,hs,hx,hrun,Result.andThen];exact hK _ _ h
theorem pV (l:List (Int×Nat)):∀ u∈aF l,u.oneCell'=true:=by
 intro u hu;simp[aF] at hu;obtain⟨a,b,_,h | h⟩:=hu
 ·rw[h];rfl
 ·rw[h];rfl
theorem rO {w:World} {b o:Nat} {l:List (Int×Nat)} (h:∀ k (hk:k<l.length),w.cell? ⟨b,o+k*2,none⟩=some (.int .i64 l[k].1)/\w.cell? ⟨b,o+k*2+1,none⟩=some (.int .u64 (l[k].2:Int))) :
  ∀ (j:Nat) u,(aF l)[j]? = some u->w.cell? ((⟨b,o,none⟩:Addr).add j)=some u:=by
 intro j u hj;have hlen:=iy l;have hjl:j<l.length*2:=by
  rcases Nat.lt_or_ge j (l.length*2) with h1 | h1
  ·exact h1
  ·rw[List.getElem?_eq_none (by omega)] at hj;cases hj
 have e2:((⟨b,o,none⟩:Addr).add j)=⟨b,o+j,none⟩:=by
  unfold Addr.add;cases j<;>simp
 rw[e2,<-hj];have hk:j / 2<l.length:=by omega
 obtain⟨p0,p1⟩:=yg l (j / 2) hk;obtain⟨q0,q1⟩:=h (j / 2) hk;rcases Nat.mod_two_eq_zero_or_one j with hm | hm
 ·have e:j=j / 2*2:=by omega
  rw[e,p0,<-q0]
 ·have e:j=j / 2*2+1:=by omega
  rw[e,p1,<-q1];congr 2
end Go.Proofs.YtcemkhalbjhdkaaGreatDoor
