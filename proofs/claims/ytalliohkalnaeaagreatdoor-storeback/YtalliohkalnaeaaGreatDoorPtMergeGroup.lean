import Derived.Test.YtalliohkalnaeaaGreatDoorPtListGroup
import Derived.Laws.OwnMore
import Derived.Deep.DeepCutAuto
import Derived.Deep.AppendLies
set_option maxRecDepth 100000
namespace Go.Proofs.YtalliohkalnaeaaGreatDoor
open Go.RowKit aZ
theorem FJ {P:Program} (w:World) (base:Nat) (t ty e:TypeId) (i:TypeInfo) (size:Nat) (ht:P.underlying t=some (.slice e)) (hi:P.info? e=some i)
  (v:Value) (n:Nat) (xs:List Value) (hown:w.ownsRow base e size v n xs) (ax:Option Addr) (cx:Nat) :
  (Builtin.append_ #[t,t] ty #[v,.slice ax 0 cx]).run P w = .ok v w:=by
 cases ax with
 | none=>
  rcases hown.2 with⟨rfl,rfl⟩|⟨g,cap,cur,rfl,_,_,hnc,_⟩
  ·simp[Builtin.append_,run_underlying ht,sizeOf,typeInfo,hi,Builtin.lenOf,Builtin.firstCells]
  ·simp[Builtin.append_,run_underlying ht,sizeOf,typeInfo,hi,Builtin.lenOf,Builtin.firstCells,hnc,storeCells]
 | some a=>
  rcases hown.2 with⟨rfl,rfl⟩|⟨g,cap,cur,rfl,_,_,hnc,_⟩
  ·simp[Builtin.append_,run_underlying ht,sizeOf,typeInfo,hi,Builtin.lenOf,Builtin.firstCells,loadCells,loadCellsFrom]
  ·simp[Builtin.append_,run_underlying ht,sizeOf,typeInfo,hi,Builtin.lenOf,Builtin.firstCells,hnc,storeCells,loadCells,loadCellsFrom]
theorem nX {P:Program} {w:World} {ops:Array Oper} {rest:List Oper} {o:Oper} {a:Act} {Q:Exit->Act->World->Prop} (hgd:o.guard=none) (s x:Operand) (t:TypeId)
  (ho:o.op = .call { callee:=.builtin .append,args:=#[s,x],argTypes:=#[t,t] })
  (base:Nat) (e:TypeId) (i:TypeInfo) (size:Nat) (ht:P.underlying t=some (.slice e)) (hi:P.info? e=some i)
  (v:Value) (n:Nat) (xs:List Value) (hs:a.eval s=v) (hown:w.ownsRow base e size v n xs) (ax:Option Addr) (cx:Nat) (hx:a.eval x = .slice ax 0 cx)
  (h:wpList P ops Q rest (a.put o.dst v) w):wpList P ops Q (o::rest) a w:=by
 refine wpList_plain hgd fun K hK=>?_
 have hrun:=FJ (P:=P) w base t o.type e i size ht hi v n xs hown ax cx;unfold Oper.wp;simp[execOp,ho,resolve,invoke,builtin,hs,hx,hrun,Result.andThen];exact hK _ _ h
theorem BN (l:List (Int×Nat)):∀ u∈aD l,u.oneCell'=true:=by
 intro u hu;simp[aD] at hu;obtain⟨a,b,_,h | h⟩:=hu
 ·rw[h];rfl
 ·rw[h];rfl
theorem EP {w:World} {b o:Nat} {l:List (Int×Nat)} (h:∀ k (hk:k<l.length),w.cell? ⟨b,o+k*2,none⟩=some (.int .i64 l[k].1)/\w.cell? ⟨b,o+k*2+1,none⟩=some (.int .u64 (l[k].2:Int))) :
  ∀ (j:Nat) u,(aD l)[j]? = some u->w.cell? ((⟨b,o,none⟩:Addr).add j)=some u:=by
 intro j u hj;have hlen:=mM l;have hjl:j<l.length*2:=by
  rcases Nat.lt_or_ge j (l.length*2) with h1 | h1
  ·exact h1
  ·rw[List.getElem?_eq_none (by omega)] at hj;cases hj
 have e2:((⟨b,o,none⟩:Addr).add j)=⟨b,o+j,none⟩:=by
  unfold Addr.add;cases j<;>simp
 rw[e2,<-hj];have hk:j / 2<l.length:=by omega
 obtain⟨p0,p1⟩:=wI l (j / 2) hk;obtain⟨q0,q1⟩:=h (j / 2) hk;rcases Nat.mod_two_eq_zero_or_one j with hm | hm
 ·have e:j=j / 2*2:=by omega
  rw[e,p0,<-q0]
 ·have e:j=j / 2*2+1:=by omega
  rw[e,p1,<-q1];congr 2
structure Dn (w wr:World) (v:Value) (out:List (Int×Nat)):Prop where
 own:wr.ownsRow w.heap.size 39 2 v out.length (aD out)
 aM:Below w.heap.size w wr
end Go.Proofs.YtalliohkalnaeaaGreatDoor
namespace Go.Proofs.YtalliohkalnaeaaGreatDoor
open Go.RowKit
theorem mh {wr:World} {ops:Array Oper} {rest:List Oper} {o:Oper} {a:Act} {Q:Exit->Act->World->Prop} (hgd:o.guard=none) (s x:Operand) (t:TypeId)
  (ho:o.op = .call { callee:=.builtin .append,args:=#[s,x],argTypes:=#[t,t] })
  (base:Nat) (e:TypeId) (i:TypeInfo) (z:Value) (size bytes:Nat) (ht:Tryz.prog.underlying t=some (.slice e)) (hi:Tryz.prog.info? e=some i) (hz0:i.zero=some z) (hz1:i.size=size) (hz2:i.bytes=bytes) (hz3:z.cells.size=size) (hsz:0<size)
  (v:Value) (n:Nat) (xs:List Value) (hs:a.eval s=v) (hown:wr.ownsRow base e size v n xs) (y:Option Addr) (m cy:Nat) (ys:List Value) (hx:a.eval x = .slice y m cy) (hlen:ys.length=m*size)
  (hP:m=0\/∃ b p,y=some ⟨b,p,none⟩/\∀ j u,ys[j]? = some u->wr.cell? ((⟨b,p,none⟩:Addr).add j)=some u) (h1c:∀ u∈ys,u.oneCell'=true) (hle:n+m<=100000) (hbs:bytes<=1000) (hbase:base<=wr.heap.size)
  (h:∀ v' w1,w1.ownsRow base e size v' (n+m) (xs++ys)->wr.grownBy w1 v.ownBlock->(v'.ownBlock=v.ownBlock\/v'.ownBlock=some wr.heap.size)->wpList Tryz.prog ops Q rest (a.put o.dst v') w1):wpList Tryz.prog ops Q (o::rest) a wr:=by
 by_cases h0:m=0
 ·subst h0;have hy:ys = []:=List.eq_nil_of_length_eq_zero (by rw[hlen];omega);subst hy;refine nX hgd s x t ho base e i size ht hi v n xs hs hown y cy hx ?_;exact h v wr (by rw[List.append_nil];exact hown) ⟨rfl,rfl,rfl,Nat.le_refl _,fun _ _ _=>rfl⟩ (.inl rfl)
 ·rcases hP with h1 | ⟨b,p,rfl,hc⟩
  ·exact absurd h1 h0
  ·refine wpList_append_lies _ hgd s x t ho base e i z size bytes ht hi hz0 hz1 hz2 hz3 hsz v n xs hs hown ⟨b,p,none⟩ m cy ys hx hlen hc h1c (by omega) (by unfold maxLen;omega) (Nat.le_trans (Nat.mul_le_mul hle hbs) (by decide)) hbase wr.heap.size rfl ?_;intro g1 qX w1 hown1 hgrow hat hlt1;refine h _ w1 hown1 hgrow ?_;rcases hat with hat | hat
   ·exact .inl hat.symm
   ·exact .inr (by rw[hat];rfl)
end Go.Proofs.YtalliohkalnaeaaGreatDoor
namespace qY
structure Sm where
 c:Nat
 l:Nat
 m:Nat
 t:Nat
 s:Nat
def Dp:Sm:=⟨0,0,0,0,0⟩
def oU (v:Nat):Sm:=⟨1,v,v,v,v⟩
def jq (a b:Sm):Sm:=if a.c=0 then b else if b.c=0 then a else ⟨a.c+b.c,if b.l<a.l then b.l else a.l,if a.m<b.m then b.m else a.m,b.t,(a.s+b.s) % 18446744073709551616⟩
def ofM (l:List (Int×Nat)):Sm:=l.foldl (fun s p=>jq s (oU p.2)) Dp
theorem K6 (l:List (Int×Nat)) (p:Int×Nat):ofM (l ++ [p])=jq (ofM l) (oU p.2):=by unfold ofM;rw[List.foldl_append];rfl
theorem SY (a b:Sm):(jq a b).c=a.c+b.c:=by
 unfold jq;split
 ·omega
 ·split
  ·omega
  ·rfl
theorem VU (a:Sm) (h:a.c=0->a=Dp):jq a Dp=a:=by
 unfold jq;split
 ·rename_i h0;exact (h h0).symm
 ·rfl
theorem Ql (a b c:Sm):jq (jq a b) c=jq a (jq b c):=by
 by_cases ha:a.c=0
 ·simp[jq,ha]
 by_cases hb:b.c=0
 ·simp[jq,ha,hb]
 by_cases hc:c.c=0
 ·simp[jq,ha,hb,hc]
 ·have hab:¬(a.c+b.c=0):=by omega
  have hbc:¬(b.c+c.c=0):=by omega
  simp only[jq,ha,hb,hc,if_false,hab,hbc];congr 1
  ·omega
  ·repeat' split
   all_goals omega
  ·repeat' split
   all_goals omega
  ·omega
theorem vJ:∀ (l:List (Int×Nat)) (s:Sm),(s.c=0->s=Dp)->l.foldl (fun s p=>jq s (oU p.2)) s=jq s (ofM l)
 | [],s,h=>(VU s h).symm
 | p::r,s,h=>by
  have e:ofM (p::r)=jq (oU p.2) (ofM r):=vJ r (oU p.2) (fun h=>by cases h);rw[e,<-Ql,List.foldl_cons];exact vJ r (jq s (oU p.2)) (fun h=>by rw[SY] at h;exact absurd h (by simp[oU]))
theorem FK (l:List (Int×Nat)):(ofM l).c=l.length:=by
 induction l with
 | nil=>rfl
 | cons p r ih=>
  have e:ofM (p::r)=jq (oU p.2) (ofM r):=vJ r (oU p.2) (fun h=>by cases h);rw[e,SY,ih,List.length_cons];simp[oU];omega
theorem ZG (l:List (Int×Nat)) (h:(ofM l).c=0):ofM l=Dp:=by
 rw[FK] at h;rw[List.eq_nil_of_length_eq_zero h];rfl
theorem Qm (a b:List (Int×Nat)):ofM (a++b)=jq (ofM a) (ofM b):=by
 unfold ofM;rw[List.foldl_append];exact vJ b _ (ZG a)
def In (a:Sm):Prop:=a.l<18446744073709551616/\a.m<18446744073709551616/\a.t<18446744073709551616/\a.s<18446744073709551616
theorem aaN {a b:Sm} (ha:In a) (hb:In b):In (jq a b):=by
 unfold jq;obtain⟨a1,a2,a3,a4⟩:=ha;obtain⟨b1,b2,b3,b4⟩:=hb;split
 ·exact⟨b1,b2,b3,b4⟩
 ·split
  ·exact⟨a1,a2,a3,a4⟩
  ·refine⟨?_,?_,b3,?_⟩
   ·show (if _ then _ else _)<_;split<;>omega
   ·show (if _ then _ else _)<_;split<;>omega
   ·show _ % _<_;omega
end qY
namespace Go.Proofs.YtalliohkalnaeaaGreatDoor
open Go.RowKit aZ qY
def pG (a:Sm):Value:=.agg #[.int .i64 a.c,.int .u64 a.l,.int .u64 a.m,.int .u64 a.t,.int .u64 a.s]
theorem Qn {l:List (Int×Nat)} (h:mO l):In (ofM l):=by
 have h0:∀ k,In (ofM (l.take k)):=by
  intro k;induction k with
  | zero=>exact (show In Dp from ⟨by decide,by decide,by decide,by decide⟩)
  | succ k ih=>
   by_cases hk:k<l.length
   ·rw[List.take_succ_eq_append_getElem hk,K6];have hp:=(h l[k] (List.getElem_mem hk)).2.2;exact aaN ih ⟨hp,hp,hp,hp⟩
   ·rw[List.take_of_length_le (by omega)];rw[List.take_of_length_le (by omega)] at ih;exact ih
 have:=h0 l.length;rwa [List.take_length] at this
theorem S9 (w:World) (t:Int) (v:Nat) :
  Calls Tryz.prog 58 #[.agg #[.int .i64 t,.int .u64 (v:Int)]] w fun e w'=>e = .returned (pG (oU v))/\Below w.heap.size w w':=by
 go_enter Tryz.func58,Tryz.ntmps58;go_wp2;exact bodyPost_ret (v:=pG (oU v)) (by simp[results,Tryz.results58,go_sem,pG,oU]) rfl ⟨rfl,((Below.refl _ _).alloc (Nat.le_refl _) _).alloc (by simp) _⟩
theorem IQ (w:World) (a b:Sm) (h:a.c+b.c<=1000000) (ha:In a) (hb:In b) :
  Calls Tryz.prog 30 #[pG a,pG b] w fun e w'=>e = .returned (pG (jq a b))/\Below w.heap.size w w':=by
 obtain⟨c,l,m,t,s⟩:=a;obtain⟨c',l',m',t',s'⟩:=b;simp only at h;unfold pG;simp only
 by_cases h0:c=0
 ·subst h0;go_enter Tryz.func30,Tryz.ntmps30;go_wp2;refine bodyPost_ret (v:=pG ⟨c',l',m',t',s'⟩) (by simp[results,Tryz.results30,go_sem,pG]) rfl ⟨rfl,?_⟩;exact (((Below.refl _ _).alloc (Nat.le_refl _) _).alloc (by simp) _).alloc (by simp;omega) _
 have d0:((c:Int)==0)=false:=by simp;omega
 by_cases h1:c'=0
 ·subst h1;go_enter Tryz.func30,Tryz.ntmps30;go_wp2;refine bodyPost_ret (v:=pG ⟨c,l,m,t,s⟩) (by simp[results,Tryz.results30,go_sem,pG]) rfl ⟨by unfold jq;rw[if_neg h0,if_pos rfl];rfl,?_⟩;exact (((Below.refl _ _).alloc (Nat.le_refl _) _).alloc (by simp) _).alloc (by simp;omega) _
 have d1:((c':Int)==0)=false:=by simp;omega
 have hR:jq ⟨c,l,m,t,s⟩ ⟨c',l',m',t',s'⟩=⟨c+c',if l'<l then l' else l,if m<m' then m' else m,t',(s+s') % 18446744073709551616⟩:=by unfold jq;rw[if_neg h0,if_neg h1]
 rw[hR];have hw:IntKind.u64.wrap ((s:Int)+(s':Int))=(((s+s') % 18446744073709551616:Nat):Int):=by
  show ((s:Int)+(s':Int)) % 18446744073709551616=_;omega
 generalize (s+s') % 18446744073709551616=z at *;have hc:((c:Int)+(c':Int))<=1000000:=by omega
 clear hR ha hb;go_enter Tryz.func30,Tryz.ntmps30;go_wp2;all_goals exact bodyPost_ret (v:=.agg #[.int .i64 ((c:Int)+(c':Int)),.int .u64 _,.int .u64 _,.int .u64 (t':Int),.int .u64 (z:Int)]) (by simp[results,Tryz.results30,go_sem]) rfl ⟨rfl,(((Below.refl _ _).alloc (Nat.le_refl _) _).alloc (by simp) _).alloc (by simp;omega) _⟩
end Go.Proofs.YtalliohkalnaeaaGreatDoor
