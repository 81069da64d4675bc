import Derived.Test.YtololnhfgjbhjaaGreatDoorPtListGroup
import Derived.Deep.DeepCutAuto
namespace Go.Proofs.YtololnhfgjbhjaaGreatDoor
open Go.RowKit aV
theorem Jw{P:Program}(w:World)(base:Nat)(t ty e:TypeId)(i:TypeInfo)(size:Nat)(ht:P.underlying t=some (.slice e))(hi:P.info? e=some i)
  (v:Value) (n:Nat) (xs:List Value) (ό:w.ownsRow base e size v n xs) (ax:Option Addr) (cx:Nat) :
  (Builtin.append_ #[t,t] ty #[v,.slice ax 0 cx]).run P w = .ok v w:=by
 cases ax with
 | none=>
  rcases ό.2 with⟨rfl,rfl⟩|⟨g,cap,cur,rfl,_,_,hnc,_⟩
  ·simp[Builtin.append_,run_underlying ht,sizeOf,typeInfo,hi,Builtin.lenOf,Builtin.firstCells]
  ·simp[Builtin.append_,run_underlying ht,sizeOf,typeInfo,hi,Builtin.lenOf,Builtin.firstCells,hnc,storeCells]
 | some a=>
  rcases ό.2 with⟨rfl,rfl⟩|⟨g,cap,cur,rfl,_,_,hnc,_⟩
  ·simp[Builtin.append_,run_underlying ht,sizeOf,typeInfo,hi,Builtin.lenOf,Builtin.firstCells,loadCells,loadCellsFrom]
  ·simp[Builtin.append_,run_underlying ht,sizeOf,typeInfo,hi,Builtin.lenOf,Builtin.firstCells,hnc,storeCells,loadCells,loadCellsFrom]
theorem qC{P:Program}{w:World}{ops:Array Oper}{rest:List Oper}{o:Oper}{a:Act}{Q:Exit->Act->World->Prop}(ŋ:o.guard=none)(s x:Operand)(t:TypeId)
  (ho:o.op = .call { callee:=.builtin .append,args:=#[s,x],argTypes:=#[t,t] })
  (base:Nat) (e:TypeId) (i:TypeInfo) (size:Nat) (ht:P.underlying t=some (.slice e)) (hi:P.info? e=some i)
  (v:Value) (n:Nat) (xs:List Value) (hs:a.eval s=v) (ό:w.ownsRow base e size v n xs) (ax:Option Addr) (cx:Nat) (hx:a.eval x = .slice ax 0 cx)
  (h:wpList P ops Q rest (a.put o.dst v) w):wpList P ops Q (o::rest) a w:=by
 refine wpList_plain ŋ λK hK=>?_
 have ϻ:=Jw (P:=P) w base t o.type e i size ht hi v n xs ό ax cx;unfold Oper.wp;simp[execOp,ho,resolve,invoke,builtin,hs,hx,ϻ,Result.andThen];exact hK _ _ h
theorem Ad(l:List (Int×Nat)):∀u∈aD l,u.oneCell'=true:=by
 intro u hu;simp[aD] at hu;obtain⟨a,b,_,h|h⟩:=hu
 ·rw[h];rfl
 ·rw[h];rfl
theorem CQ{w:World}{b o:Nat}{l:List (Int×Nat)}(h:∀k (hk:k<l.length),w.cell? ⟨b,o+k*2,none⟩=some (.int .i64 l[k].1)/\w.cell? ⟨b,o+k*2+1,none⟩=some (.int .u64 (l[k].2:Int))):
  ∀(j:Nat) u,(aD l)[j]? = some u->w.cell? ((⟨b,o,none⟩:Addr).add j)=some u:=by
 intro j u hj;have ϐ:=lU l;have hjl:j<l.length*2:=by
  rcases Nat.lt_or_ge j (l.length*2) with h1|h1
  ·exact h1
  ·rw[List.getElem?_eq_none (by omega)] at hj;cases hj
 have e2:((⟨b,o,none⟩:Addr).add j)=⟨b,o+j,none⟩:=by
  unfold Addr.add;cases j<;>simp
 rw[e2,<-hj];have hk:j / 2<l.length:=by omega
 obtain⟨p0,p1⟩:=zA l (j / 2) hk;obtain⟨q0,q1⟩:=h (j / 2) hk;rcases Nat.mod_two_eq_zero_or_one j with hm|hm
 ·have e:j=j / 2*2:=by omega
  rw[e,p0,<-q0]
 ·have e:j=j / 2*2+1:=by omega
  rw[e,p1,<-q1];congr 2
structure Gl(w wr:World)(v:Value)(out:List (Int×Nat)):Prop where
 own:wr.ownsRow w.heap.size 43 2 v out.length (aD out)
 aI:Below w.heap.size w wr
theorem lF{wr:World}{ops:Array Oper}{rest:List Oper}{o:Oper}{a:Act}{Q:Exit->Act->World->Prop}(ŋ:o.guard=none)(s x:Operand)(t:TypeId)
  (ho:o.op = .call { callee:=.builtin .append,args:=#[s,x],argTypes:=#[t,t] })
  (base:Nat) (e:TypeId) (i:TypeInfo) (z:Value) (size bytes:Nat) (ht:Tryz.prog.underlying t=some (.slice e)) (hi:Tryz.prog.info? e=some i) (Ċ:i.zero=some z) (Ā:i.size=size) (Ć:i.bytes=bytes) (hz3:z.cells.size=size) (ϟ:0<size)
  (v:Value) (n:Nat) (xs:List Value) (hs:a.eval s=v) (ό:wr.ownsRow base e size v n xs) (y:Option Addr) (m cy:Nat) (ys:List Value) (hx:a.eval x = .slice y m cy) (ϐ:ys.length=m*size)
  (hP:m=0\/∃b p,y=some ⟨b,p,none⟩/\∀j u,ys[j]? = some u->wr.cell? ((⟨b,p,none⟩:Addr).add j)=some u) (h1c:∀u∈ys,u.oneCell'=true) (ă:n+m<=100000) (ω:bytes<=1000) (Õ:base<=wr.heap.size)
  (h:∀v' w1,w1.ownsRow base e size v' (n+m) (xs++ys)->wr.grownBy w1 v.ownBlock->(v'.ownBlock=v.ownBlock\/v'.ownBlock=some wr.heap.size)->wpList Tryz.prog ops Q rest (a.put o.dst v') w1):wpList Tryz.prog ops Q (o::rest) a wr:=by
 by_cases h0:m=0
 ·subst h0;have hy:ys = []:=List.eq_nil_of_length_eq_zero (by rw[ϐ];omega);subst hy;refine qC ŋ s x t ho base e i size ht hi v n xs hs ό y cy hx ?_;exact h v wr (by rw[List.append_nil];exact ό) ⟨rfl,rfl,rfl,Nat.le_refl _,λ_ _ _=>rfl⟩ (.inl rfl)
 ·rcases hP with h1|⟨b,p,rfl,hc⟩
  ·exact absurd h1 h0
  ·refine wpList_append_lies _ ŋ s x t ho base e i z size bytes ht hi Ċ Ā Ć hz3 ϟ v n xs hs ό ⟨b,p,none⟩ m cy ys hx ϐ hc h1c (by omega) (by unfold maxLen;omega) (Nat.le_trans (Nat.mul_le_mul ă ω) (by decide)) Õ wr.heap.size rfl ?_;intro g1 qh w1 ϲ ϑ Ϲ ũ;refine h _ w1 ϲ ϑ ?_;rcases Ϲ with Ϲ|Ϲ
   ·exact .inl Ϲ.symm
   ·exact .inr (by rw[Ϲ];rfl)
end Go.Proofs.YtololnhfgjbhjaaGreatDoor
namespace wZ
end wZ
namespace Go.Proofs.YtololnhfgjbhjaaGreatDoor
open Go.RowKit aV wZ
end Go.Proofs.YtololnhfgjbhjaaGreatDoor
