import Derived.Test.YtcemkhalbjhdkaaGreatDoorPtListGroup
import Derived.Laws.OwnMore
import Derived.Deep.DeepCutAuto
set_option maxRecDepth 1000000
namespace Go.Proofs.YtcemkhalbjhdkaaGreatDoor
open Go.RowKit dB
theorem EA {P:Program} (w:World) (base:Nat) (t ty e:TypeId) (i:TypeInfo) (size:Nat) (ht:P.underlying t=some (.slice e)) (hi:P.info? e=some i)
  (v:Value) (n:Nat) (xs:List Value) (hown:w.ownsRow base e size v n xs) (ax:Option Addr) (cx:Nat) :
  (Builtin.append_ #[t,t] ty #[v,.slice ax 0 cx]).run P w = .ok v w:=by
 cases ax with
 | none=>
  rcases hown.2 with⟨rfl,rfl⟩|⟨g,cap,cur,rfl,_,_,hnc,_⟩
  ·simp[Builtin.append_,run_underlying ht,sizeOf,typeInfo,hi,Builtin.lenOf,Builtin.firstCells]
  ·simp[Builtin.append_,run_underlying ht,sizeOf,typeInfo,hi,Builtin.lenOf,Builtin.firstCells,hnc,storeCells]
 | some a=>
  rcases hown.2 with⟨rfl,rfl⟩|⟨g,cap,cur,rfl,_,_,hnc,_⟩
  ·simp[Builtin.append_,run_underlying ht,sizeOf,typeInfo,hi,Builtin.lenOf,Builtin.firstCells,loadCells,loadCellsFrom]
  ·simp[Builtin.append_,run_underlying ht,sizeOf,typeInfo,hi,Builtin.lenOf,Builtin.firstCells,hnc,storeCells,loadCells,loadCellsFrom]
theorem A8 {P:Program} {w:World} {ops:Array Oper} {rest:List Oper} {o:Oper} {a:Act} {Q:Exit->Act->World->Prop} (hgd:o.guard=none) (s x:Operand) (t:TypeId)
  (ho:o.op = .call { callee:=.builtin .append,args:=#[s,x],argTypes:=#[t,t] })
  (base:Nat) (e:TypeId) (i:TypeInfo) (size:Nat) (ht:P.underlying t=some (.slice e)) (hi:P.info? e=some i)
  (v:Value) (n:Nat) (xs:List Value) (hs:a.eval s=v) (hown:w.ownsRow base e size v n xs) (ax:Option Addr) (cx:Nat) (hx:a.eval x = .slice ax 0 cx)
  (h:wpList P ops Q rest (a.put o.dst v) w):wpList P ops Q (o::rest) a w:=by
 refine wpList_plain hgd fun K hK=>?_
 have hrun:=EA (P:=P) w base t o.type e i size ht hi v n xs hown ax cx;unfold Oper.wp;simp[execOp,ho,resolve,invoke,builtin,hs,hx,hrun,Result.andThen];exact hK _ _ h
theorem QA (l:List (Int×Nat)):∀ u∈aV l,u.oneCell'=true:=by
 intro u hu;simp[aV] at hu;obtain⟨a,b,_,h | h⟩:=hu
 ·rw[h];rfl
 ·rw[h];rfl
theorem Tf {w:World} {b o:Nat} {l:List (Int×Nat)} (h:∀ k (hk:k<l.length),w.cell? ⟨b,o+k*2,none⟩=some (.int .i64 l[k].1)/\w.cell? ⟨b,o+k*2+1,none⟩=some (.int .u64 (l[k].2:Int))) :
  ∀ (j:Nat) u,(aV l)[j]? = some u->w.cell? ((⟨b,o,none⟩:Addr).add j)=some u:=by
 intro j u hj;have hlen:=wm l;have hjl:j<l.length*2:=by
  rcases Nat.lt_or_ge j (l.length*2) with h1 | h1
  ·exact h1
  ·rw[List.getElem?_eq_none (by omega)] at hj;cases hj
 have e2:((⟨b,o,none⟩:Addr).add j)=⟨b,o+j,none⟩:=by
  unfold Addr.add;cases j<;>simp
 rw[e2,<-hj];have hk:j / 2<l.length:=by omega
 obtain⟨p0,p1⟩:=wo l (j / 2) hk;obtain⟨q0,q1⟩:=h (j / 2) hk;rcases Nat.mod_two_eq_zero_or_one j with hm | hm
 ·have e:j=j / 2*2:=by omega
  rw[e,p0,<-q0]
 ·have e:j=j / 2*2+1:=by omega
  rw[e,p1,<-q1];congr 2
theorem Ou (w:World) (la:Option Addr) (c:Nat) (l:List (Int×Nat)) (hP:gM w la l) (hn:l.length<=1000) :
  Calls Tryz.prog 45 #[.slice la l.length c] w fun e w'=>∃ v,e = .returned v/\w'.ownsRow w.heap.size 67 2 v l.length (aV l)/\Below w.heap.size w w':=by
 obtain⟨i0,hi,hz0,hz1,hz2⟩:=info_parts Tryz.infoPt;have Ov:w.ownsRow w.heap.size 67 2 (.slice none 0 0) 0 []:=⟨rfl,.inl ⟨rfl,rfl⟩⟩;by_cases h0:l = []
 ·subst h0;go_enter Tryz.func45,Tryz.ntmps45;go_wp2_with (at_builtin;refine A8 rfl _ _ 48 rfl w.heap.size 67 i0 2 Tryz.underlying48 hi _ _ _ rfl Ov la c rfl ?_);go_wp2;go_ret;exact⟨_,rfl,Ov,Below.refl _ _⟩
 ·rcases hP with h | ⟨b,o,rfl,hc⟩
  ·exact absurd h h0
  ·have HN:=(show Hid _ from Tf hc);have HO:=(show Hid _ from QA l);have HL:=(show Hid _ from wm l);have hl0:0<l.length:=by
    cases l with
    | nil=>exact absurd rfl h0
    | cons=>simp
   clear hc;generalize hnn:l.length=n at *;go_enter Tryz.func45,Tryz.ntmps45;go_wp2_with (at_builtin;refine wpList_append_lies _ rfl _ _ 48 rfl w.heap.size 67 i0 (.agg #[.int .i64 0,.int .u64 0]) 2 16 Tryz.underlying48 hi hz0 hz1 hz2 rfl (by decide) _ _ _ rfl Ov ⟨b,o,none⟩ n c (aV l) rfl HL.out HN.out HO.out hl0 ?c3 ?c4 (Nat.le_refl _) w.heap.size rfl ?_);case c3=>unfold maxLen;omega
   case c4=>omega
   intro g cap w1 hown1 hgrow hat hlt1;have hb1:Below w.heap.size w w1:=⟨hgrow.os,hgrow.tape,hgrow.output,hgrow.size,fun k hk=>hgrow.block k hk (by simp[Value.ownBlock])⟩;have HOWN:Hid (w1.ownsRow w.heap.size 67 2 (.slice (some ⟨g,0,none⟩) n cap) n (aV l)):=hown1;have HB:=(show Hid _ from hb1);clear hown1 hgrow hat hb1;go_wp2;go_ret;exact⟨_,rfl,HOWN.out,HB.out⟩
end Go.Proofs.YtcemkhalbjhdkaaGreatDoor
