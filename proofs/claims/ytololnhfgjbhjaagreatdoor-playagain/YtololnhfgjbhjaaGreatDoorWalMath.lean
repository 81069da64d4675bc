import Derived.Test.YtololnhfgjbhjaaGreatDoorLabCutGroup
import Derived.Lib.ItoaNum
import Derived.Lib.AtoiAll
namespace aY
open Go.Lib aF
def yg(d:Nat):UInt8:=UInt8.ofNat (if d<10 then 48+d else 87+d)
def mV:Nat->Nat->List UInt8
 | 0,_=>[]
 | k+1,u=>mV k (u / 16) ++ [yg (u % 16)]
def ϖ(u:Nat):List UInt8:=if _h:u<16 then [yg u] else ϖ (u / 16) ++ [yg (u % 16)]
termination_by u
decreasing_by omega
theorem sM:∀k u,(mV k u).length=k
 | 0,_=>rfl
 | k+1,u=>by rw[mV,List.length_append,sM k];rfl
theorem sZ:∀(k u:Nat),u<16 ^ (k+1)->1<=(ϖ u).length/\(ϖ u).length<=k+1/\List.replicate (k+1-(ϖ u).length) 48++ϖ u=mV (k+1) u
 | 0,u,h=>by
  have hu:u<16:=by simpa using h
  rw[ϖ,dif_pos hu];refine⟨by simp,by simp,?_⟩;simp[mV,Nat.mod_eq_of_lt hu]
 | k+1,u,h=>by
  by_cases hu:u<16
  ·rw[ϖ,dif_pos hu];refine⟨by simp,by simp,?_⟩;have h0:∀j,mV j 0=List.replicate j 48:=λj=>by
    induction j with
    | zero=>rfl
    | succ j ih=>rw[mV,Nat.zero_div,ih,List.replicate_succ'];rfl
   rw[mV,Nat.div_eq_of_lt hu,h0,Nat.mod_eq_of_lt hu];simp
  ·have hd:u / 16<16 ^ (k+1):=by
    rw[Nat.pow_succ] at h;omega
   obtain⟨h1,h2,h3⟩:=sZ k (u / 16) hd;rw[ϖ,dif_neg hu,mV,<-h3];refine⟨by simp,by simp;omega,?_⟩;have e:k+1+1-(ϖ (u / 16) ++ [yg (u % 16)]).length=k+1-(ϖ (u / 16)).length:=by simp
   rw[e,List.append_assoc]
def Bf(c:Nat):Option Nat:=if 48<=c/\c<=57 then some (c-48) else if 97<=c|||32/\c|||32<=102 then some ((c|||32)-87) else none
def dP:Nat->List UInt8->Option Nat
 | acc,[]=>some acc
 | acc,c::r=>match Bf c.toNat with
  | none=>none
  | some d=>if 1152921504606846976<=acc then none else dP (acc*16+d) r
theorem aas:∀d,d<16->Bf (yg d).toNat=some d:=by decide
theorem adE{c d:Nat}(h:Bf c=some d):d<16:=by
 unfold Bf at h;split at h
 ·cases h;omega
 ·split at h
  ·cases h;omega
  ·cases h
theorem G9:∀(l r:List UInt8) (acc v:Nat),dP acc l=some v->dP acc (l++r)=dP v r
 | [],r,acc,v,h=>by simp[dP] at h;subst h;rfl
 | c::l,r,acc,v,h=>by
  rw[List.cons_append,dP];rw[dP] at h;cases hc:Bf c.toNat with
  | none=>rw[hc] at h;cases h
  | some d=>
   rw[hc] at h;dsimp only at h ⊢;split
   ·rw[if_pos ‹_›] at h;cases h
   ·rw[if_neg ‹_›] at h;exact G9 l r _ v h
theorem E8:∀(k u:Nat),k<=16->u<16 ^ k->dP 0 (mV k u)=some u
 | 0,u,_,h=>by
  have:u=0:=by simpa using h
  subst this;rfl
 | k+1,u,hk,h=>by
  have hd:u / 16<16 ^ k:=by
   rw[Nat.pow_succ] at h;omega
  have hp:16 ^ k<=16 ^ 15:=Nat.pow_le_pow_right (by decide) (by omega);have e15:(16:Nat) ^ 15=1152921504606846976:=by decide
  rw[mV,G9 _ _ _ _ (E8 k (u / 16) (by omega) hd),dP,aas _ (Nat.mod_lt _ (by decide))];dsimp only
  rw[if_neg (by omega),dP];congr 1;omega
theorem JR:∀(l:List UInt8) (acc v:Nat),acc<18446744073709551616->dP acc l=some v->v<18446744073709551616
 | [],acc,v,ha,h=>by simp[dP] at h;omega
 | c::l,acc,v,ha,h=>by
  unfold dP at h;cases hc:Bf c.toNat with
  | none=>rw[hc] at h;cases h
  | some d=>
   have:=adE hc;rw[hc] at h;dsimp only at h;split at h
   ·cases h
   ·exact JR l _ v (by omega) h
theorem Xx:∀(l r:List UInt8) (acc v:Nat),parseUint10 acc l = .ok v->parseUint10 acc (l++r)=parseUint10 v r
 | [],r,acc,v,h=>by simp[parseUint10] at h;subst h;rfl
 | c::l,r,acc,v,h=>by
  rw[List.cons_append,parseUint10];rw[parseUint10] at h;split
  ·rw[if_pos ‹_›] at h;split
   ·rw[if_pos ‹_›] at h;cases h
   ·rw[if_neg ‹_›] at h;split
    ·rw[if_pos ‹_›] at h;cases h
    ·rw[if_neg ‹_›] at h;exact Xx l r _ v h
  ·rw[if_neg ‹_›] at h;cases h
def Dg(c:UInt8):Prop:=48<=c.toNat/\c.toNat<=57
theorem JU(d:Nat)(h:d<10):(UInt8.ofNat (48+d)).toNat=48+d:=by
 simp
 omega
theorem yh(u:Nat):∀c,c∈decDigits u->Dg c:=by
 induction u using Nat.strongRecOn with
 | _ u ih=>
  rw[decDigits];split
  ·intro c hc;rw[List.mem_singleton] at hc;subst hc;rw[Dg,JU _ ‹_›];omega
  ·intro c hc;rcases List.mem_append.1 hc with hc|hc
   ·exact ih _ (by omega) c hc
   ·simp only[List.mem_singleton] at hc;subst hc;rw[Dg,JU _ (Nat.mod_lt _ (by decide))];omega
theorem E9(u:Nat):decDigits u ≠ []:=by
 rw[decDigits];split<;>simp
theorem yj:∀(k u:Nat),u<10 ^ (k+1)->(decDigits u).length<=k+1
 | 0,u,h=>by
  rw[decDigits,dif_pos (by simpa using h)];simp
 | k+1,u,h=>by
  rw[decDigits];split
  ·simp
  ·have:=yj k (u / 10) (by rw[Nat.pow_succ] at h;omega);simp
   omega
theorem Xy(u:Nat)(h:u<1000000000000000000):parseUint10 0 (decDigits u) = .ok u:=by
 induction u using Nat.strongRecOn with
 | _ u ih=>
  rw[decDigits];split
  ·have:=JU u ‹_›;rw[parseUint10,if_pos (by omega),if_neg (by omega),if_neg (by omega),parseUint10,this];congr 1;omega
  ·have:=JU (u % 10) (Nat.mod_lt _ (by decide));rw[Xx _ _ _ _ (ih (u / 10) (by omega) (by omega)),parseUint10,if_pos (by omega),if_neg (by omega),if_neg (by omega),parseUint10,this];congr 1;omega
theorem aat{l:List UInt8}(h:∀c,c∈l->Dg c)(Ϙ:l ≠ []):∃c r,l=c::r/\c.toNat≠43/\c.toNat≠45:=by
 cases l with
 | nil=>exact absurd rfl Ϙ
 | cons c r=>
  have:=h c (by simp);unfold Dg at this;exact⟨c,r,rfl,by omega,by omega⟩
theorem Xz(t:Int)(h0 : -1099511627776<=t)(h1:t<=1099511627776):atoiAll (itoa t) = .ok t:=by
 unfold itoa;split
 ·have hp:parseMag (decDigits t.natAbs) = .ok t.natAbs:=by
   unfold parseMag;rw[if_neg (E9 _),Xy _ (by omega)]
  unfold atoiAll;simp only[show (45:UInt8).toNat=45 from rfl,or_true,if_true,hp,not_true,false_and,if_false,true_and];rw[if_neg (by omega)];congr 1;omega
 ·obtain⟨c,r,hl,å,Ģ⟩:=aat (yh t.toNat) (E9 _);have hp:parseMag (c::r) = .ok t.toNat:=by
   unfold parseMag;rw[if_neg (by simp),<-hl,Xy _ (by omega)]
  rw[hl];unfold atoiAll;simp only[å,Ģ,or_self,if_false,hp,not_false_iff,true_and,false_and];rw[if_neg (by omega)];congr 1;omega
theorem UQ(t:Int):∀c,c∈itoa t->Dg c\/c=45:=by
 unfold itoa;split
 ·intro c hc;rcases List.mem_cons.1 hc with rfl|hc
  ·exact .inr rfl
  ·exact .inl (yh _ c hc)
 ·intro c hc;exact .inl (yh _ c hc)
theorem Pd(t:Int)(h0 : -1099511627776<=t)(h1:t<=1099511627776):(itoa t).length<=14:=by
 have e13:(10:Nat) ^ (12+1)=10000000000000:=by decide
 unfold itoa;split
 ·have:=yj 12 t.natAbs (by omega);simp
  omega
 ·have:=yj 12 t.toNat (by omega);omega
abbrev E:=List UInt8×Int×Nat
def lu(e:E):List UInt8:=e.1++64::(itoa e.2.1++61::mV 16 e.2.2)
def IV(c:Nat):List UInt8:=[UInt8.ofNat (c % 256),UInt8.ofNat (c / 256 % 256),UInt8.ofNat (c / 65536 % 256),UInt8.ofNat (c / 16777216 % 256)]
def vw(b:List UInt8):List UInt8:=UInt8.ofNat (b.length / 256)::UInt8.ofNat (b.length % 256)::(b++IV (aj.yK b))
def dD(e:E):List UInt8:=vw (lu e)
theorem sN(e:E):(dD e).length=(lu e).length+6:=by simp[dD,vw,IV]
structure rC(ok:List UInt8->Prop)(e:E):Prop where
 lab:ok e.1
 lo : -1099511627776<=e.2.1
 hi:e.2.1<=1099511627776
 val:e.2.2<18446744073709551616
theorem K6(c:UInt8):∀(a r:List UInt8),(∀x,x∈a->x≠c)->aJ c (a++c::r)=(a,r,true)
 | [],r,_=>by simp[aJ]
 | b::a,r,h=>by
  have hb:(b==c)=false:=by simpa using h b (by simp)
  rw[List.cons_append,aJ,hb,K6 c a r λx hx=>h x (by simp[hx])];simp
def iM(b:List UInt8):Option E:=
 match atoiAll (aJ 61 (aJ 64 b).2.1).1 with
 | .ok t=>if (aJ 61 (aJ 64 b).2.1).2.1 = [] then none else match dP 0 (aJ 61 (aJ 64 b).2.1).2.1 with
  | some u=>some ((aJ 64 b).1,t,u)
  | none=>none
 | _=>none
variable {ok:List UInt8->Prop} (ϱ:∀s,ok s->(∀c,c∈s->c≠64)/\s.length<=1000)
include ϱ
theorem sO{e:E}(h:rC ok e):(lu e).length<=1032/\(lu e).length=e.1.length+(itoa e.2.1).length+18:=by
 have h1:=(ϱ _ h.lab).2;have h2:=Pd e.2.1 h.lo h.hi;have h3:(lu e).length=e.1.length+(itoa e.2.1).length+18:=by
  simp[lu,sM];omega
 omega
theorem Dh{e:E}(h:rC ok e):iM (lu e)=some e:=by
 have h1:aJ 64 (lu e)=(e.1,itoa e.2.1++61::mV 16 e.2.2,true):=K6 64 _ _ (ϱ _ h.lab).1;have h2:aJ 61 (itoa e.2.1++61::mV 16 e.2.2)=(itoa e.2.1,mV 16 e.2.2,true):=K6 61 _ _ λx hx=>by
  rcases UQ _ x hx with hd|rfl
  ·rintro rfl;revert hd;unfold Dg;decide
  ·decide
 have h3:dP 0 (mV 16 e.2.2)=some e.2.2:=by
  have hv:=h.val;have e16:(16:Nat) ^ 16=18446744073709551616:=by decide
  exact E8 16 _ (by decide) (by omega)
 unfold iM;rw[h1];dsimp only
 rw[h2,Xz _ h.lo h.hi];dsimp only
 rw[if_neg (by intro hn;have:=congrArg List.length hn;rw[sM] at this;simp at this),h3]
omit ϱ in
theorem Pe{e:E}:dD e ≠ []:=by simp[dD,vw]
omit ϱ in
def lenOf(b:List UInt8):Nat:=(b.getD 0 0).toNat*256+(b.getD 1 0).toNat
omit ϱ in
theorem Fa{d r:List UInt8}(h:d.length<65536):lenOf (vw d++r)=d.length/\((vw d++r).drop 2).take d.length=d:=by
 refine⟨?_,?_⟩
 ·simp[lenOf,vw];omega
 ·simp[vw]
theorem Td{b:List UInt8}{e e':E}(h:rC ok e)(h':rC ok e')(hp:dD e <+: b)(hp':dD e' <+: b):e=e':=by
 obtain⟨r,rfl⟩:=hp;obtain⟨r',hr'⟩:=hp';have l1:=Fa (d:=lu e) (r:=r) (by have:=(sO ϱ h).1;omega);have l2:=Fa (d:=lu e') (r:=r') (by have:=(sO ϱ h').1;omega);unfold dD at hr';rw[hr'] at l2;change lenOf (dD e++r)=_/\_ at l1;change lenOf (dD e++r)=_/\List.take _ (List.drop 2 (dD e++r))=_ at l2;have hb:lu e=lu e':=by
  rw[<-l1.2,<-l2.2,<-l1.1,<-l2.1];rfl
 have p1:=Dh ϱ h;rw[hb,Dh ϱ h'] at p1;exact (Option.some.inj p1).symm
omit ϱ
def mY(ok:List UInt8->Prop)(b:List UInt8)(e:E):Prop:=rC ok e/\dD e <+: b
theorem He(ϱ:∀s,ok s->(∀c,c∈s->c≠64)/\s.length<=1000){b:List UInt8}{e:E}(h:mY ok b e):2+lenOf b+4<=b.length/\iM ((b.drop 2).take (lenOf b))=some e/\lenOf b=(lu e).length/\(b.drop 2).take (lenOf b)=lu e:=by
 obtain⟨h1,r,rfl⟩:=h;have l1:=Fa (d:=lu e) (r:=r) (by have:=(sO ϱ h1).1;omega);change lenOf (dD e++r)=_/\List.take _ (List.drop 2 (dD e++r))=_ at l1;rw[l1.1,l1.2];refine⟨?_,Dh ϱ h1,rfl,rfl⟩;rw[List.length_append,sN];omega
def recs:List E->List UInt8
 | []=>[]
 | e::l=>dD e++recs l
theorem Di:∀a b,recs (a++b)=recs a++recs b
 | [],b=>rfl
 | e::a,b=>by rw[List.cons_append,recs,Di a b,recs,List.append_assoc]
structure Reads(ok:List UInt8->Prop)(b:List UInt8)(L:List E):Prop where
 all:∀e,e∈L->rC ok e
 pre:recs L <+: b
 no:∀e,¬ mY ok (b.drop (recs L).length) e
theorem vC(ϱ:∀s,ok s->(∀c,c∈s->c≠64)/\s.length<=1000):∀(L L':List E) (b:List UInt8),Reads ok b L->Reads ok b L'->L=L'
 | [],[],_,_,_=>rfl
 | [],e::L',b,h,h'=>by
  refine absurd ⟨h'.all e (by simp),?_⟩ (h.no e);have:=h'.pre;rw[recs] at this;exact (List.prefix_append _ _).trans this
 | e::L,[],b,h,h'=>by
  refine absurd ⟨h.all e (by simp),?_⟩ (h'.no e);have:=h.pre;rw[recs] at this;exact (List.prefix_append _ _).trans this
 | e::L,e'::L',b,h,h'=>by
  have p:=h.pre;have p':=h'.pre;rw[recs] at p p';have he:e=e':=Td ϱ (h.all e (by simp)) (h'.all e' (by simp)) ((List.prefix_append _ _).trans p) ((List.prefix_append _ _).trans p');subst he;obtain⟨r,rfl⟩:=p;obtain⟨r',hr'⟩:=p';rw[List.append_assoc,List.append_assoc] at hr';have ϵ:=List.append_cancel_left hr';have n1:=h.no;have n2:=h'.no;rw[recs,List.append_assoc,List.length_append,<-List.drop_drop,List.drop_left] at n1 n2;rw[vC ϱ L L' (recs L++r) ⟨λx hx=>h.all x (by simp[hx]),List.prefix_append _ _,n1⟩ ⟨λx hx=>h'.all x (by simp[hx]),⟨r',ϵ⟩,n2⟩]
theorem Pf(ϱ:∀s,ok s->(∀c,c∈s->c≠64)/\s.length<=1000)(L:List E)(x:List UInt8)(hL:∀e,e∈L->rC ok e)(hx:x = []\/∃e,rC ok e/\x <+: dD e/\x.length<(dD e).length):Reads ok (recs L++x) L:=by
 refine⟨hL,List.prefix_append _ _,λe he=>?_⟩;rw[List.drop_left] at he;obtain⟨h1,h2⟩:=he;rcases hx with rfl|⟨e',h3,h4,h5⟩
 ·exact Pe (List.prefix_nil.1 h2)
 ·have:=Td ϱ h1 h3 (h2.trans h4) (List.prefix_refl _);subst this;have:=h2.length_le;omega
end aY
