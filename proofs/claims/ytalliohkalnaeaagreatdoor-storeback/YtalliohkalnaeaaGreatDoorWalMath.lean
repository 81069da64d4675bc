import Derived.Test.YtalliohkalnaeaaGreatDoorLabCutGroup
import Derived.Lib.ItoaNum
import Derived.Lib.AtoiAll
namespace bG
open Go.Lib aF
def uP (d:Nat):UInt8:=UInt8.ofNat (if d<10 then 48+d else 87+d)
def lI:Nat->Nat->List UInt8
 | 0,_=>[]
 | k+1,u=>lI k (u / 16) ++ [uP (u % 16)]
def hexDigits (u:Nat):List UInt8:=if _h:u<16 then [uP u] else hexDigits (u / 16) ++ [uP (u % 16)]
termination_by u
decreasing_by omega
theorem pO:∀ k u,(lI k u).length=k
 | 0,_=>rfl
 | k+1,u=>by rw[lI,List.length_append,pO k];rfl
theorem qh:∀ (k u:Nat),u<16 ^ (k+1)->1<=(hexDigits u).length/\(hexDigits u).length<=k+1/\List.replicate (k+1-(hexDigits u).length) 48++hexDigits u=lI (k+1) u
 | 0,u,h=>by
  have hu:u<16:=by simpa using h
  rw[hexDigits,dif_pos hu];refine⟨by simp,by simp,?_⟩;simp[lI,Nat.mod_eq_of_lt hu]
 | k+1,u,h=>by
  by_cases hu:u<16
  ·rw[hexDigits,dif_pos hu];refine⟨by simp,by simp,?_⟩;have h0:∀ j,lI j 0=List.replicate j 48:=fun j=>by
    induction j with
    | zero=>rfl
    | succ j ih=>rw[lI,Nat.zero_div,ih,List.replicate_succ'];rfl
   rw[lI,Nat.div_eq_of_lt hu,h0,Nat.mod_eq_of_lt hu];simp
  ·have hd:u / 16<16 ^ (k+1):=by
    rw[Nat.pow_succ] at h;omega
   obtain⟨h1,h2,h3⟩:=qh k (u / 16) hd;rw[hexDigits,dif_neg hu,lI,<-h3];refine⟨by simp,by simp;omega,?_⟩;have e:k+1+1-(hexDigits (u / 16) ++ [uP (u % 16)]).length=k+1-(hexDigits (u / 16)).length:=by simp
   rw[e,List.append_assoc]
def yE (c:Nat):Option Nat:=if 48<=c/\c<=57 then some (c-48) else if 97<=c|||32/\c|||32<=102 then some ((c|||32)-87) else none
def dH:Nat->List UInt8->Option Nat
 | acc,[]=>some acc
 | acc,c::r=>match yE c.toNat with
  | none=>none
  | some d=>if 1152921504606846976<=acc then none else dH (acc*16+d) r
theorem Wz:∀ d,d<16->yE (uP d).toNat=some d:=by decide
theorem ZO {c d:Nat} (h:yE c=some d):d<16:=by
 unfold yE at h;split at h
 ·cases h;omega
 ·split at h
  ·cases h;omega
  ·cases h
theorem Ea:∀ (l r:List UInt8) (acc v:Nat),dH acc l=some v->dH acc (l++r)=dH v r
 | [],r,acc,v,h=>by simp[dH] at h;subst h;rfl
 | c::l,r,acc,v,h=>by
  rw[List.cons_append,dH];rw[dH] at h;cases hc:yE c.toNat with
  | none=>rw[hc] at h;cases h
  | some d=>
   rw[hc] at h;dsimp only at h ⊢;split
   ·rw[if_pos ‹_›] at h;cases h
   ·rw[if_neg ‹_›] at h;exact Ea l r _ v h
theorem Cg:∀ (k u:Nat),k<=16->u<16 ^ k->dH 0 (lI k u)=some u
 | 0,u,_,h=>by
  have:u=0:=by simpa using h
  subst this;rfl
 | k+1,u,hk,h=>by
  have hd:u / 16<16 ^ k:=by
   rw[Nat.pow_succ] at h;omega
  have hp:16 ^ k<=16 ^ 15:=Nat.pow_le_pow_right (by decide) (by omega);have e15:(16:Nat) ^ 15=1152921504606846976:=by decide
  rw[lI,Ea _ _ _ _ (Cg k (u / 16) (by omega) hd),dH,Wz _ (Nat.mod_lt _ (by decide))];dsimp only
  rw[if_neg (by omega),dH];congr 1;omega
theorem F9:∀ (l:List UInt8) (acc v:Nat),acc<18446744073709551616->dH acc l=some v->v<18446744073709551616
 | [],acc,v,ha,h=>by simp[dH] at h;omega
 | c::l,acc,v,ha,h=>by
  unfold dH at h;cases hc:yE c.toNat with
  | none=>rw[hc] at h;cases h
  | some d=>
   have:=ZO hc;rw[hc] at h;dsimp only at h;split at h
   ·cases h
   ·exact F9 l _ v (by omega) h
theorem TB:∀ (l r:List UInt8) (acc v:Nat),parseUint10 acc l = .ok v->parseUint10 acc (l++r)=parseUint10 v r
 | [],r,acc,v,h=>by simp[parseUint10] at h;subst h;rfl
 | c::l,r,acc,v,h=>by
  rw[List.cons_append,parseUint10];rw[parseUint10] at h;split
  ·rw[if_pos ‹_›] at h;split
   ·rw[if_pos ‹_›] at h;cases h
   ·rw[if_neg ‹_›] at h;split
    ·rw[if_pos ‹_›] at h;cases h
    ·rw[if_neg ‹_›] at h;exact TB l r _ v h
  ·rw[if_neg ‹_›] at h;cases h
def Ah (c:UInt8):Prop:=48<=c.toNat/\c.toNat<=57
theorem Ga (d:Nat) (h:d<10):(UInt8.ofNat (48+d)).toNat=48+d:=by
 simp
 omega
theorem uQ (u:Nat):∀ c,c∈decDigits u->Ah c:=by
 induction u using Nat.strongRecOn with
 | _ u ih=>
  rw[decDigits];split
  ·intro c hc;rw[List.mem_singleton] at hc;subst hc;rw[Ah,Ga _ ‹_›];omega
  ·intro c hc;rcases List.mem_append.1 hc with hc | hc
   ·exact ih _ (by omega) c hc
   ·simp only[List.mem_singleton] at hc;subst hc;rw[Ah,Ga _ (Nat.mod_lt _ (by decide))];omega
theorem Ch (u:Nat):decDigits u ≠ []:=by
 rw[decDigits];split<;>simp
theorem uR:∀ (k u:Nat),u<10 ^ (k+1)->(decDigits u).length<=k+1
 | 0,u,h=>by
  rw[decDigits,dif_pos (by simpa using h)];simp
 | k+1,u,h=>by
  rw[decDigits];split
  ·simp
  ·have:=uR k (u / 10) (by rw[Nat.pow_succ] at h;omega);simp
   omega
theorem TD (u:Nat) (h:u<1000000000000000000):parseUint10 0 (decDigits u) = .ok u:=by
 induction u using Nat.strongRecOn with
 | _ u ih=>
  rw[decDigits];split
  ·have:=Ga u ‹_›;rw[parseUint10,if_pos (by omega),if_neg (by omega),if_neg (by omega),parseUint10,this];congr 1;omega
  ·have:=Ga (u % 10) (Nat.mod_lt _ (by decide));rw[TB _ _ _ _ (ih (u / 10) (by omega) (by omega)),parseUint10,if_pos (by omega),if_neg (by omega),if_neg (by omega),parseUint10,this];congr 1;omega
theorem WB {l:List UInt8} (h:∀ c,c∈l->Ah c) (hne:l ≠ []):∃ c r,l=c::r/\c.toNat≠43/\c.toNat≠45:=by
 cases l with
 | nil=>exact absurd rfl hne
 | cons c r=>
  have:=h c (by simp);unfold Ah at this;exact⟨c,r,rfl,by omega,by omega⟩
theorem TF (t:Int) (h0 : -1099511627776<=t) (h1:t<=1099511627776):atoiAll (itoa t) = .ok t:=by
 unfold itoa;split
 ·have hp:parseMag (decDigits t.natAbs) = .ok t.natAbs:=by
   unfold parseMag;rw[if_neg (Ch _),TD _ (by omega)]
  unfold atoiAll;simp only[show (45:UInt8).toNat=45 from rfl,or_true,if_true,hp,not_true,false_and,if_false,true_and];rw[if_neg (by omega)];congr 1;omega
 ·obtain⟨c,r,hl,hc1,hc2⟩:=WB (uQ t.toNat) (Ch _);have hp:parseMag (c::r) = .ok t.toNat:=by
   unfold parseMag;rw[if_neg (by simp),<-hl,TD _ (by omega)]
  rw[hl];unfold atoiAll;simp only[hc1,hc2,or_self,if_false,hp,not_false_iff,true_and,false_and];rw[if_neg (by omega)];congr 1;omega
theorem QA (t:Int):∀ c,c∈itoa t->Ah c\/c=45:=by
 unfold itoa;split
 ·intro c hc;rcases List.mem_cons.1 hc with rfl | hc
  ·exact .inr rfl
  ·exact .inl (uQ _ c hc)
 ·intro c hc;exact .inl (uQ _ c hc)
theorem Lr (t:Int) (h0 : -1099511627776<=t) (h1:t<=1099511627776):(itoa t).length<=14:=by
 have e13:(10:Nat) ^ (12+1)=10000000000000:=by decide
 unfold itoa;split
 ·have:=uR 12 t.natAbs (by omega);simp
  omega
 ·have:=uR 12 t.toNat (by omega);omega
abbrev E:=List UInt8×Int×Nat
def ko (e:E):List UInt8:=e.1++64::(itoa e.2.1++61::lI 16 e.2.2)
def EX (c:Nat):List UInt8:=[UInt8.ofNat (c % 256),UInt8.ofNat (c / 256 % 256),UInt8.ofNat (c / 65536 % 256),UInt8.ofNat (c / 16777216 % 256)]
def rG (b:List UInt8):List UInt8:=UInt8.ofNat (b.length / 256)::UInt8.ofNat (b.length % 256)::(b++EX (aj.vE b))
def dA (e:E):List UInt8:=rG (ko e)
theorem pQ (e:E):(dA e).length=(ko e).length+6:=by simp[dA,rG,EX]
structure su (ok:List UInt8->Prop) (e:E):Prop where
 lab:ok e.1
 lo : -1099511627776<=e.2.1
 hi:e.2.1<=1099511627776
 val:e.2.2<18446744073709551616
theorem Hz (c:UInt8):∀ (a r:List UInt8),(∀ x,x∈a->x≠c)->aG c (a++c::r)=(a,r,true)
 | [],r,_=>by simp[aG]
 | b::a,r,h=>by
  have hb:(b==c)=false:=by simpa using h b (by simp)
  rw[List.cons_append,aG,hb,Hz c a r fun x hx=>h x (by simp[hx])];simp
def gT (b:List UInt8):Option E:=
 match atoiAll (aG 61 (aG 64 b).2.1).1 with
 | .ok t=>if (aG 61 (aG 64 b).2.1).2.1 = [] then none else match dH 0 (aG 61 (aG 64 b).2.1).2.1 with
  | some u=>some ((aG 64 b).1,t,u)
  | none=>none
 | _=>none
variable {ok:List UInt8->Prop} (hok:∀ s,ok s->(∀ c,c∈s->c≠64)/\s.length<=1000)
include hok
theorem pR {e:E} (h:su ok e):(ko e).length<=1032/\(ko e).length=e.1.length+(itoa e.2.1).length+18:=by
 have h1:=(hok _ h.lab).2;have h2:=Lr e.2.1 h.lo h.hi;have h3:(ko e).length=e.1.length+(itoa e.2.1).length+18:=by
  simp[ko,pO];omega
 omega
theorem Ai {e:E} (h:su ok e):gT (ko e)=some e:=by
 have h1:aG 64 (ko e)=(e.1,itoa e.2.1++61::lI 16 e.2.2,true):=Hz 64 _ _ (hok _ h.lab).1;have h2:aG 61 (itoa e.2.1++61::lI 16 e.2.2)=(itoa e.2.1,lI 16 e.2.2,true):=Hz 61 _ _ fun x hx=>by
  rcases QA _ x hx with hd | rfl
  ·rintro rfl;revert hd;unfold Ah;decide
  ·decide
 have h3:dH 0 (lI 16 e.2.2)=some e.2.2:=by
  have hv:=h.val;have e16:(16:Nat) ^ 16=18446744073709551616:=by decide
  exact Cg 16 _ (by decide) (by omega)
 unfold gT;rw[h1];dsimp only
 rw[h2,TF _ h.lo h.hi];dsimp only
 rw[if_neg (by intro hn;have:=congrArg List.length hn;rw[pO] at this;simp at this),h3]
omit hok in
theorem Ls {e:E}:dA e ≠ []:=by simp[dA,rG]
omit hok in
def lenOf (b:List UInt8):Nat:=(b.getD 0 0).toNat*256+(b.getD 1 0).toNat
omit hok in
theorem Ci {d r:List UInt8} (h:d.length<65536):lenOf (rG d++r)=d.length/\((rG d++r).drop 2).take d.length=d:=by
 refine⟨?_,?_⟩
 ·simp[lenOf,rG];omega
 ·simp[rG]
theorem O4 {b:List UInt8} {e e':E} (h:su ok e) (h':su ok e') (hp:dA e <+: b) (hp':dA e' <+: b):e=e':=by
 obtain⟨r,rfl⟩:=hp;obtain⟨r',hr'⟩:=hp';have l1:=Ci (d:=ko e) (r:=r) (by have:=(pR hok h).1;omega);have l2:=Ci (d:=ko e') (r:=r') (by have:=(pR hok h').1;omega);unfold dA at hr';rw[hr'] at l2;change lenOf (dA e++r)=_/\_ at l1;change lenOf (dA e++r)=_/\List.take _ (List.drop 2 (dA e++r))=_ at l2;have hb:ko e=ko e':=by
  rw[<-l1.2,<-l2.2,<-l1.1,<-l2.1];rfl
 have p1:=Ai hok h;rw[hb,Ai hok h'] at p1;exact (Option.some.inj p1).symm
omit hok
def lK (ok:List UInt8->Prop) (b:List UInt8) (e:E):Prop:=su ok e/\dA e <+: b
theorem Eb (hok:∀ s,ok s->(∀ c,c∈s->c≠64)/\s.length<=1000) {b:List UInt8} {e:E} (h:lK ok b e):2+lenOf b+4<=b.length/\gT ((b.drop 2).take (lenOf b))=some e/\lenOf b=(ko e).length/\(b.drop 2).take (lenOf b)=ko e:=by
 obtain⟨h1,r,rfl⟩:=h;have l1:=Ci (d:=ko e) (r:=r) (by have:=(pR hok h1).1;omega);change lenOf (dA e++r)=_/\List.take _ (List.drop 2 (dA e++r))=_ at l1;rw[l1.1,l1.2];refine⟨?_,Ai hok h1,rfl,rfl⟩;rw[List.length_append,pQ];omega
def recs:List E->List UInt8
 | []=>[]
 | e::l=>dA e++recs l
theorem Aj:∀ a b,recs (a++b)=recs a++recs b
 | [],b=>rfl
 | e::a,b=>by rw[List.cons_append,recs,Aj a b,recs,List.append_assoc]
structure Reads (ok:List UInt8->Prop) (b:List UInt8) (L:List E):Prop where
 all:∀ e,e∈L->su ok e
 pre:recs L <+: b
 no:∀ e,¬ lK ok (b.drop (recs L).length) e
theorem rH (hok:∀ s,ok s->(∀ c,c∈s->c≠64)/\s.length<=1000):∀ (L L':List E) (b:List UInt8),Reads ok b L->Reads ok b L'->L=L'
 | [],[],_,_,_=>rfl
 | [],e::L',b,h,h'=>by
  refine absurd ⟨h'.all e (by simp),?_⟩ (h.no e);have:=h'.pre;rw[recs] at this;exact (List.prefix_append _ _).trans this
 | e::L,[],b,h,h'=>by
  refine absurd ⟨h.all e (by simp),?_⟩ (h'.no e);have:=h.pre;rw[recs] at this;exact (List.prefix_append _ _).trans this
 | e::L,e'::L',b,h,h'=>by
  have p:=h.pre;have p':=h'.pre;rw[recs] at p p';have he:e=e':=O4 hok (h.all e (by simp)) (h'.all e' (by simp)) ((List.prefix_append _ _).trans p) ((List.prefix_append _ _).trans p');subst he;obtain⟨r,rfl⟩:=p;obtain⟨r',hr'⟩:=p';rw[List.append_assoc,List.append_assoc] at hr';have hr2:=List.append_cancel_left hr';have n1:=h.no;have n2:=h'.no;rw[recs,List.append_assoc,List.length_append,<-List.drop_drop,List.drop_left] at n1 n2;rw[rH hok L L' (recs L++r) ⟨fun x hx=>h.all x (by simp[hx]),List.prefix_append _ _,n1⟩ ⟨fun x hx=>h'.all x (by simp[hx]),⟨r',hr2⟩,n2⟩]
theorem Lu (hok:∀ s,ok s->(∀ c,c∈s->c≠64)/\s.length<=1000) (L:List E) (x:List UInt8) (hL:∀ e,e∈L->su ok e) (hx:x = []\/∃ e,su ok e/\x <+: dA e/\x.length<(dA e).length):Reads ok (recs L++x) L:=by
 refine⟨hL,List.prefix_append _ _,fun e he=>?_⟩;rw[List.drop_left] at he;obtain⟨h1,h2⟩:=he;rcases hx with rfl | ⟨e',h3,h4,h5⟩
 ·exact Ls (List.prefix_nil.1 h2)
 ·have:=O4 hok h1 h3 (h2.trans h4) (List.prefix_refl _);subst this;have:=h2.length_le;omega
end bG
