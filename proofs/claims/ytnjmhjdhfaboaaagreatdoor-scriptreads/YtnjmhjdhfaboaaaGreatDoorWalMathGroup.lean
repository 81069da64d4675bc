import Derived.Test.YtnjmhjdhfaboaaaGreatDoorLabCutGroup
import Derived.Lib.ItoaNum
import Derived.Lib.AtoiAll
set_option maxRecDepth 1000000
set_option maxHeartbeats 1000000
open List
namespace aU
open Go.Lib aD
def qF(d:Nat):UInt8:=UInt8.ofNat (if d<10 then 48+d else 87+d)
def nH:Nat->Nat->List UInt8
 | 0,_=>[]
 | k+1,u=>nH k (u / 16) ++ [qF (u % 16)]
def hexDigits(u:Nat):List UInt8:=if _h:u<16 then [qF u] else hexDigits (u / 16) ++ [qF (u % 16)]
termination_by u
decreasing_by omega
theorem tQ:∀k u,(nH k u).length=k
 | 0,_=>rfl
 | k+1,u=>by rw[nH,length_append,tQ k];rfl
theorem uq:∀(k u:Nat),u<16 ^ (k+1)->1<=(hexDigits u).length/\(hexDigits u).length<=k+1/\List.replicate (k+1-(hexDigits u).length) 48++hexDigits u=nH (k+1) u
 | 0,u,h=>by
  have o:u<16:=by simpa using h
  rw[hexDigits,dif_pos o];refine⟨vI,vI,?_⟩;simp[nH,Nat.mod_eq_of_lt o]
 | k+1,u,h=>by
  by_cases o:u<16
  ·rw[hexDigits,dif_pos o];refine⟨vI,vI,?_⟩;have q:∀j,nH j 0=List.replicate j 48:=λj=>by
    induction j with
    | zero=>rfl
    | succ j ih=>rw[nH,Nat.zero_div,ih,replicate_succ'];rfl
   rw[nH,Nat.div_eq_of_lt o,q,Nat.mod_eq_of_lt o];simp
  ·have A:u / 16<16 ^ (k+1):=by
    rw[Nat.pow_succ] at h;omega
   obtain⟨F,D,z⟩:=uq k (u / 16) A;rw[hexDigits,dif_neg o,nH,<-z];refine⟨vI,rP,?_⟩;have e:k+1+1-(hexDigits (u / 16) ++ [qF (u % 16)]).length=k+1-(hexDigits (u / 16)).length:=vI;rw[e,append_assoc]
def Ck(c:Nat):Option Nat:=if 48<=c/\c<=57 then some (c-48) else if 97<=c|||32/\c|||32<=102 then some ((c|||32)-87) else none
def dQ:Nat->List UInt8->Option Nat
 | acc,[]=>some acc
 | acc,c::r=>match Ck c.toNat with
  | none=>none
  | some d=>if 1152921504606846976<=acc then none else dQ (acc*16+d) r
theorem acB:∀d,d<16->Ck (qF d).toNat=some d:=nQ
theorem afE{c d:Nat}(h:Ck c=some d):d<16:=by
 unfold Ck at h;split at h
 ·cases h;omega
 ·split at h
  ·cases h;omega
  ·cases h
theorem IZ:∀(l r:List UInt8) (o v:Nat),dQ o l=some v->dQ o (l++r)=dQ v r
 | [],r,o,v,h=>by simp[dQ] at h;subst h;rfl
 | c::l,r,o,v,h=>by
  rw[cons_append,dQ];rw[dQ] at h;cases q:Ck c.toNat with
  | none=>rw[q] at h;cases h
  | some d=>
   rw[q] at h;dsimp only at h ⊢;split
   ·rw[if_pos ‹_›] at h;cases h
   ·rw[if_neg ‹_›] at h;exact IZ l r _ v h
theorem Ga:∀(k u:Nat),k<=16->u<16 ^ k->dQ 0 (nH k u)=some u
 | 0,u,_,h=>by
  have:u=0:=by simpa using h
  subst this;rfl
 | k+1,u,hk,h=>by
  have q:u / 16<16 ^ k:=by
   rw[Nat.pow_succ] at h;omega
  have z:16 ^ k<=16 ^ 15:=Nat.pow_le_pow_right nQ iK;have o:(16:Nat) ^ 15=1152921504606846976:=nQ;rw[nH,IZ _ _ _ _ (Ga k (u / 16) iK q),dQ,acB _ (Nat.mod_lt _ nQ)];dsimp only
  rw[if_neg iK,dQ];congr 1;omega
theorem K8:∀(l:List UInt8) (o v:Nat),o<18446744073709551616->dQ o l=some v->v<18446744073709551616
 | [],o,v,ha,h=>by simp[dQ] at h;omega
 | c::l,o,v,ha,h=>by
  unfold dQ at h;cases q:Ck c.toNat with
  | none=>rw[q] at h;cases h
  | some d=>
   have:=afE q;rw[q] at h;dsimp only at h;split at h
   ·cases h
   ·exact K8 l _ v iK h
theorem ZB:∀(l r:List UInt8) (o v:Nat),parseUint10 o l = .ok v->parseUint10 o (l++r)=parseUint10 v r
 | [],r,o,v,h=>by simp[parseUint10] at h;subst h;rfl
 | c::l,r,o,v,h=>by
  rw[cons_append,parseUint10];rw[parseUint10] at h;split
  ·rw[if_pos ‹_›] at h;split
   ·rw[if_pos ‹_›] at h;cases h
   ·rw[if_neg ‹_›] at h;split
    ·rw[if_pos ‹_›] at h;cases h
    ·rw[if_neg ‹_›] at h;exact ZB l r _ v h
  ·rw[if_neg ‹_›] at h;cases h
def Ei(c:UInt8):Prop:=48<=c.toNat/\c.toNat<=57
theorem K9(d:Nat)(h:d<10):(UInt8.ofNat (48+d)).toNat=48+d:=by
 simp
 omega
theorem yR(u:Nat):∀c,c∈decDigits u->Ei c:=by
 induction u using Nat.strongRecOn with
 | _ u ih=>
  rw[decDigits];split
  ·intro c o;rw[mem_singleton] at o;subst o;rw[Ei,K9 _ ‹_›];omega
  ·intro c o;rcases mem_append.1 o with o|o
   ·exact ih _ iK c o
   ·simp only[mem_singleton] at o;subst o;rw[Ei,K9 _ (Nat.mod_lt _ nQ)];omega
theorem Gb(u:Nat):decDigits u ≠ []:=by
 rw[decDigits];split<;>simp
theorem uw:∀(k u:Nat),u<10 ^ (k+1)->(decDigits u).length<=k+1
 | 0,u,h=>by
  rw[decDigits,dif_pos (by simpa using h)];simp
 | k+1,u,h=>by
  rw[decDigits];split
  ·simp
  ·have:=uw k (u / 10) (by rw[Nat.pow_succ] at h;omega);simp
   omega
theorem ZC(u:Nat)(h:u<1000000000000000000):parseUint10 0 (decDigits u) = .ok u:=by
 induction u using Nat.strongRecOn with
 | _ u ih=>
  rw[decDigits];split
  ·have:=K9 u ‹_›;rw[parseUint10,if_pos iK,if_neg iK,if_neg iK,parseUint10,this];congr 1;omega
  ·have:=K9 (u % 10) (Nat.mod_lt _ nQ);rw[ZB _ _ _ _ (ih (u / 10) iK iK),parseUint10,if_pos iK,if_neg iK,if_neg iK,parseUint10,this];congr 1;omega
theorem acC{l:List UInt8}(h:∀c,c∈l->Ei c)(o:l ≠ []):∃c r,l=c::r/\c.toNat≠43/\c.toNat≠45:=by
 cases l with
 | nil=>exact absurd rfl o
 | cons c r=>
  have:=h c vI;unfold Ei at this;exact⟨c,r,rfl,iK,iK⟩
theorem ZE(t:Int)(D : -1099511627776<=t)(F:t<=1099511627776):atoiAll (itoa t) = .ok t:=by
 unfold itoa;split
 ·have o:parseMag (decDigits t.natAbs) = .ok t.natAbs:=by
   unfold parseMag;rw[if_neg (Gb _),ZC _ iK]
  unfold atoiAll;simp only[show (45:UInt8).toNat=45 from rfl,or_true,if_true,o,not_true,false_and,if_false,true_and];rw[if_neg iK];congr 1;omega
 ·obtain⟨c,r,q,z,A⟩:=acC (yR t.toNat) (Gb _);have o:parseMag (c::r) = .ok t.toNat:=by
   unfold parseMag;rw[if_neg vI,<-q,ZC _ iK]
  rw[q];unfold atoiAll;simp only[z,A,or_self,if_false,o,not_false_iff,true_and,false_and];rw[if_neg iK];congr 1;omega
theorem Xe(t:Int):∀c,c∈itoa t->Ei c\/c=45:=by
 unfold itoa;split
 ·intro c o;rcases mem_cons.1 o with rfl|o
  ·exact .inr rfl
  ·exact .inl (yR _ c o)
 ·intro c o;exact .inl (yR _ c o)
theorem Q0(t:Int)(q : -1099511627776<=t)(o:t<=1099511627776):(itoa t).length<=14:=by
 unfold itoa;split
 ·have:=uw 12 t.natAbs iK;simp
  omega
 ·have:=uw 12 t.toNat iK;omega
abbrev E:=List UInt8×Int×Nat
def lW(e:E):List UInt8:=e.1++64::(itoa e.2.1++61::nH 16 e.2.2)
def JI(c:Nat):List UInt8:=[UInt8.ofNat (c % 256),UInt8.ofNat (c / 256 % 256),UInt8.ofNat (c / 65536 % 256),UInt8.ofNat (c / 16777216 % 256)]
def wm(b:List UInt8):List UInt8:=UInt8.ofNat (b.length / 256)::UInt8.ofNat (b.length % 256)::(b++JI (aj.zm b))
def dN(e:E):List UInt8:=wm (lW e)
theorem tV(e:E):(dN e).length=(lW e).length+6:=by simp[dN,wm,JI]
structure tX(ok:List UInt8->Prop)(e:E):Prop where
 lab:ok e.1
 lo : -1099511627776<=e.2.1
 hi:e.2.1<=1099511627776
 val:e.2.2<18446744073709551616
theorem MK(c:UInt8):∀(a r:List UInt8),(∀x,x∈a->x≠c)->aJ c (a++c::r)=(a,r,true)
 | [],r,_=>by simp[aJ]
 | b::a,r,h=>by
  have q:(b==c)=false:=by simpa using h b vI
  rw[cons_append,aJ,q,MK c a r λx o=>h x (by simp[o])];simp
def iG(b:List UInt8):Option E:=
 match atoiAll (aJ 61 (aJ 64 b).2.1).1 with
 | .ok t=>if (aJ 61 (aJ 64 b).2.1).2.1 = [] then none else match dQ 0 (aJ 61 (aJ 64 b).2.1).2.1 with
  | some u=>some ((aJ 64 b).1,t,u)
  | none=>none
 | _=>none
variable {ok:List UInt8->Prop} (ϲ:∀s,ok s->(∀c,c∈s->c≠64)/\s.length<=1000)
include ϲ
theorem tY{e:E}(h:tX ok e):(lW e).length<=1032/\(lW e).length=e.1.length+(itoa e.2.1).length+18:=by
 have q:=(ϲ _ h.lab).2;have o:=Q0 e.2.1 h.lo h.hi;have z:(lW e).length=e.1.length+(itoa e.2.1).length+18:=by
  simp[lW,tQ];omega
 omega
theorem Ej{e:E}(h:tX ok e):iG (lW e)=some e:=by
 have A:aJ 64 (lW e)=(e.1,itoa e.2.1++61::nH 16 e.2.2,true):=MK 64 _ _ (ϲ _ h.lab).1;have q:aJ 61 (itoa e.2.1++61::nH 16 e.2.2)=(itoa e.2.1,nH 16 e.2.2,true):=MK 61 _ _ λx o=>by
  rcases Xe _ x o with F|rfl
  ·rintro rfl;revert F;unfold Ei;decide
  ·decide
 have D:dQ 0 (nH 16 e.2.2)=some e.2.2:=by
  have G:=h.val;exact Ga 16 _ nQ iK
 unfold iG;rw[A];rw[q,ZE _ h.lo h.hi];dsimp only
 rw[if_neg (by intro z;have:=congrArg List.length z;rw[tQ] at this;simp at this),D]
omit ϲ in
theorem Q5{e:E}:dN e ≠ []:=by simp[dN,wm]
omit ϲ in
def lenOf(b:List UInt8):Nat:=(b.getD 0 0).toNat*256+(b.getD 1 0).toNat
omit ϲ in
theorem Gc{d r:List UInt8}(h:d.length<65536):lenOf (wm d++r)=d.length/\((wm d++r).drop 2).take d.length=d:=by
 refine⟨?_,?_⟩
 ·simp[lenOf,wm];omega
 ·simp[wm]
theorem U5{b:List UInt8}{e o:E}(h:tX ok e)(G:tX ok o)(J:dN e <+: b)(A:dN o <+: b):e=o:=by
 obtain⟨r,rfl⟩:=J;obtain⟨I,q⟩:=A;have D:=Gc (d:=lW e) (r:=r) (by have:=(tY ϲ h).1;omega);have z:=Gc (d:=lW o) (r:=I) (by have:=(tY ϲ G).1;omega);unfold dN at q;rw[q] at z;change lenOf (dN e++r)=_/\_ at D;change lenOf (dN e++r)=_/\List.take _ (List.drop 2 (dN e++r))=_ at z;have H:lW e=lW o:=by
  rw[<-D.2,<-z.2,<-D.1,<-z.1];rfl
 have F:=Ej ϲ h;rw[H,Ej ϲ G] at F;exact (Option.some.inj F).symm
omit ϲ
def nL(ok:List UInt8->Prop)(b:List UInt8)(e:E):Prop:=tX ok e/\dN e <+: b
theorem I4(q:∀s,ok s->(∀c,c∈s->c≠64)/\s.length<=1000){b:List UInt8}{e:E}(h:nL ok b e):2+lenOf b+4<=b.length/\iG ((b.drop 2).take (lenOf b))=some e/\lenOf b=(lW e).length/\(b.drop 2).take (lenOf b)=lW e:=by
 obtain⟨z,r,rfl⟩:=h;have o:=Gc (d:=lW e) (r:=r) (by have:=(tY q z).1;omega);change lenOf (dN e++r)=_/\List.take _ (List.drop 2 (dN e++r))=_ at o;rw[o.1,o.2];refine⟨?_,Ej q z,rfl,rfl⟩;rw[length_append,tV];omega
def recs:List E->List UInt8
 | []=>[]
 | e::l=>dN e++recs l
theorem El:∀a b,recs (a++b)=recs a++recs b
 | [],b=>rfl
 | e::a,b=>by rw[cons_append,recs,El a b,recs,append_assoc]
structure Reads(ok:List UInt8->Prop)(b:List UInt8)(L:List E):Prop where
 all:∀e,e∈L->tX ok e
 pre:recs L <+: b
 no:∀e,¬ nL ok (b.drop (recs L).length) e
theorem wu(D:∀s,ok s->(∀c,c∈s->c≠64)/\s.length<=1000):∀(L o:List E) (b:List UInt8),Reads ok b L->Reads ok b o->L=o
 | [],[],_,_,_=>rfl
 | [],e::o,b,h,h'=>by
  refine absurd ⟨h'.all e vI,?_⟩ (h.no e);have:=h'.pre;rw[recs] at this;exact (prefix_append _ _).trans this
 | e::L,[],b,h,h'=>by
  refine absurd ⟨h.all e vI,?_⟩ (h'.no e);have:=h.pre;rw[recs] at this;exact (prefix_append _ _).trans this
 | e::L,e'::o,b,h,h'=>by
  have p:=h.pre;have A:=h'.pre;rw[recs] at p A;have J:e=e':=U5 D (h.all e vI) (h'.all e' vI) ((prefix_append _ _).trans p) ((prefix_append _ _).trans A);subst J;obtain⟨r,rfl⟩:=p;obtain⟨H,q⟩:=A;rw[append_assoc,append_assoc] at q;have I:=append_cancel_left q;have G:=h.no;have F:=h'.no;rw[recs,append_assoc,length_append,<-drop_drop,drop_left] at G F;rw[wu D L o (recs L++r) ⟨λx z=>h.all x (by simp[z]),prefix_append _ _,G⟩ ⟨λx z=>h'.all x (by simp[z]),⟨H,I⟩,F⟩]
theorem Q6(G:∀s,ok s->(∀c,c∈s->c≠64)/\s.length<=1000)(L:List E)(x:List UInt8)(hL:∀e,e∈L->tX ok e)(z:x = []\/∃e,tX ok e/\x <+: dN e/\x.length<(dN e).length):Reads ok (recs L++x) L:=by
 refine⟨hL,prefix_append _ _,λe q=>?_⟩;rw[drop_left] at q;obtain⟨A,o⟩:=q;rcases z with rfl|⟨I,D,F,H⟩
 ·exact Q5 (prefix_nil.1 o)
 ·have:=U5 G A D (o.trans F) (prefix_refl _);subst this;have:=o.length_le;omega
end aU
namespace Go.Proofs.YtnjmhjdhfaboaaaGreatDoor
open Go.RowKit aD aU
theorem acU{p:Prop}(h:p):Go.RowKit.Hid p:=h
theorem I5(B b:Nat)(o:List Value)(c:Nat)(w:World)(h:Lib.IsBuilder 153 5 B b o w)(ϑ:o.length+1<=1000000)(hBw:B<=w.heap.size):
  Calls Tryz.prog 85 #[.pointer (some ⟨b,0,none⟩),.int .u8 (c:Int)] w λe w'=>e = .returned .nilIface/\(Lib.BuilderAt 153 5 B b (.pointer (some ⟨b,0,none⟩)) (o ++ [.int .u8 (c:Int)]) w'/\Below B w w'/\Ki w w'):=by
 obtain⟨i0,hi,î,ç,ï⟩:=info_parts infoByte;have HI:=acU hi;have HC:Hid _:=Nk B b o w h;go_enter Tryz.func85,Tryz.ntmps85;go_wp2_with fail;refine Calls.mono HC.out ?_;rintro e w1 ⟨rfl,W,Z,Ę⟩;have nC:=acU Ę;obtain⟨Q,v,F,ό,ϕ⟩:=W;have c0:w1.cell? ⟨b,0,none⟩=some (.pointer (some ⟨b,0,none⟩)):=by rw[Lib.cell_of_heap F];rfl
 have c1:w1.cell? ⟨b,1,none⟩=some v:=by rw[Lib.cell_of_heap F];rfl
 have ϗ:b<w1.heap.size:=by
  rcases Nat.lt_or_ge b w1.heap.size with A|A
  ·exact A
  ·simp[Array.getElem?_eq_none A] at F
 have ϙ:=Z.size;have K:=acU Z;have G:=acU ό;have Y:=acU F;have UZ:=acU ϕ;have R:Hid ((w1.alloc (.cells #[.int .u8 (c:Int)] 5)).ownsRow B 5 1 v o.length o):=ό.alloc _;have iV:Hid (∀i z,([.int .u8 (c:Int)]:List Value)[i]? = some z->(w1.alloc (.cells #[.int .u8 (c:Int)] 5)).cell? ((⟨w1.heap.size,0,none⟩:Addr).add i)=some z):=World.news_of_block (heap_alloc_new w1 _);have kH:Hid (∀z∈([.int .u8 (c:Int)]:List Value),z.oneCell'=true):=by
  intro z hz;simp at hz;subst hz;rfl
 go_wp2_with (at_builtin;refine wpList_append_lies _ rfl _ _ 82 rfl B 5 i0 (.int .u8 0) 1 1 Tryz.underlying82 HI.out î ç ï rfl nQ _ _ _ rfl R.out ⟨w1.heap.size,0,none⟩ 1 1 [.int .u8 (c:Int)] rfl rfl iV.out kH.out iK (by unfold maxLen;omega) iK rP _ rfl ?_);intro J O w7 bR H qb ahp;have sD:(w1.alloc (.cells #[.int .u8 (c:Int)] 5)).heap[b]? = some (.cells #[.pointer (some ⟨b,0,none⟩),v] 153 (0,0)):=(heap_alloc_old _ _ ϗ).trans Y.out;have D:=(H.block b rP (λe=>UZ.out e.symm)).trans sD;have d0:w7.cell? ⟨b,0,none⟩=some (.pointer (some ⟨b,0,none⟩)):=by rw[Lib.cell_of_heap D];rfl
 have d1:w7.cell? ⟨b,1,none⟩=some v:=by rw[Lib.cell_of_heap D];rfl
 have f1:=Lib.frozen_of_heap D 1;have aQ:Hid (Lib.BuilderAt 153 5 B b (.pointer (some ⟨b,0,none⟩)) (o ++ [.int .u8 (c:Int)]) (w7.setCell ⟨b,1,none⟩ (.slice (some ⟨J,0,none⟩) (o.length+1) O))/\Below B w (w7.setCell ⟨b,1,none⟩ (.slice (some ⟨J,0,none⟩) (o.length+1) O))/\Ki w (w7.setCell ⟨b,1,none⟩ (.slice (some ⟨J,0,none⟩) (o.length+1) O))):=by
  refine⟨Lib.BuilderAt.put (T:=153) (e:=5) Q D (bs':=o ++ [.int .u8 (c:Int)]) (by simpa using bR) nQ,?_,?_⟩
  ·exact ((K.out.alloc iK _).grown H rP (λk I=>(R.out.lt k I).1)).setCell (p:=⟨b,1,none⟩) Q _
  ·intro k cs t fr I U V;have q:=nC.out k cs t fr I U V;have õ:k<w1.heap.size:=by
    rcases Nat.lt_or_ge k w1.heap.size with A|A
    ·exact A
    ·simp[Array.getElem?_eq_none A] at q
   have Ç:=(H.block k rP (λe=>Lib.ownBlock_ne G.out q U e.symm)).trans ((heap_alloc_old _ _ õ).trans q);rw[Below.heap_setCell _ _ _ _ (λe=>?_)]
   ·exact Ç
   ·have e':k=b:=e;subst e';rw[Y.out] at q;injection q with q;injection q with W h2 h3;exact V h2.symm
 go_wp2;go_ret;exact⟨rfl,aQ.out⟩
theorem Q7(l:List UInt8)(c:UInt8):Lib.byteCells l ++ [.int .u8 (c.toNat:Int)]=Lib.byteCells (l ++ [c]):=by simp[Lib.byteCells]
theorem Gd(s:ByteArray):s.data.toList.length=s.size:=Array.length_toList
theorem aem(a:Nat)(h:a<16):((⟨#[48,49,50,51,52,53,54,55,56,57,97,98,99,100,101,102]⟩:ByteArray)[a]'h).toNat=(qF a).toNat:=by
 rcases (by omega:a=0\/a=1\/a=2\/a=3\/a=4\/a=5\/a=6\/a=7\/a=8\/a=9\/a=10\/a=11\/a=12\/a=13\/a=14\/a=15) with rfl|rfl|rfl|rfl|rfl|rfl|rfl|rfl|rfl|rfl|rfl|rfl|rfl|rfl|rfl|rfl;all_goals rfl
def nZ(l:List UInt8)(k:Nat):List UInt8:=(l.take k).flatMap λc=>[qF (c.toNat / 16),qF (c.toNat % 16)]
theorem BN(l:List UInt8):∀k,k<=l.length->(nZ l k).length=2*k
 | 0,_=>rfl
 | k+1,h=>by
  have o:=BN l k iK;unfold nZ at o ⊢;rw[take_succ_eq_append_getElem iK,flatMap_append,length_append,o];simp
  omega
theorem Q8(w:World)(s:ByteArray)(h0:1<=s.size)(hs:s.size<=10000):
  Calls Tryz.prog 53 #[.string s] w λe w'=>e = .returned (.string ⟨(nZ s.data.toList s.size).toArray⟩)/\Below w.heap.size w w':=by
 obtain⟨W,F⟩:=dM (w.alloc (.cells #[.pointer none,.slice none 0 0] 153));have HW:Hid (∀R,R=w.alloc (.cells #[.pointer none,.slice none 0 0] 153)->R=W):=λR h=>h.trans F.symm
 have Gf:Hid (Lib.IsBuilder 153 5 w.heap.size w.heap.size (Lib.byteCells (nZ s.data.toList 0)) W):=by
  refine .inl ⟨Nat.le_refl _,.slice none 0 0,?_,?_,by simp[Value.ownBlock]⟩
  ·rw[F];exact heap_alloc_new _ _
  ·exact⟨by simp[Lib.byteCells,nZ],.inl ⟨rfl,rfl⟩⟩
 have Zg:Hid (Below w.heap.size w W):=by rw[F];exact (Below.refl _ _).alloc (Nat.le_refl _) _
 go_enter Tryz.func53,Tryz.ntmps53;go_wp2_with fail;rw[HW.out _ rfl];go_loopw [7] (λi wr=>∃k:Nat,k<=s.size/\i = .int .i64 k/\Below w.heap.size w wr/\Lib.IsBuilder 153 5 w.heap.size w.heap.size (Lib.byteCells (nZ s.data.toList k)) wr) (λi _=>s.size-(intOf i).toNat);case atStart=>exact⟨0,Nat.zero_le _,rfl,Zg.out,Gf.out⟩
 case round=>
  obtain⟨k,hk,rfl,Z,Β⟩:=hrel;have Y:=acU Z;have q:=acU Β;have D:=Z.size;by_cases ϥ:k<s.size
  ·have k0:(0:Int)<=k:=iK;have k1:(k:Int)<s.size:=iK;have hc:=s[k].toNat_lt;have hq1:(s[k].toNat:Int) / 16<16:=iK;have A:s[k].toNat / 16<16:=iK;have I:s[k].toNat % 16<16:=iK;have hq4:(s[k].toNat:Int) % 16<16:=iK;have Ĭ:=BN s.data.toList k (by rw[Gd];exact hk);have Ô:(Lib.byteCells (nZ s.data.toList k)).length=2*k:=by simp[Lib.byteCells,Ĭ]
   have IQ:=λc=>(acU (I5 w.heap.size w.heap.size _ c wr q.out iK D))
   have qH:Hid (nZ s.data.toList (k+1)=nZ s.data.toList k ++ [qF (s[k].toNat / 16),qF (s[k].toNat % 16)]):=by
    have õ:k<s.data.toList.length:=by rw[Gd];exact ϥ
    have J:s.data.toList[k]=s[k]:=by simp[ByteArray.getElem_eq_getElem_data]
    show _=_;unfold nZ;rw[take_succ_eq_append_getElem õ,flatMap_append,J];simp
   go_wp2_with fail;refine Calls.mono (IQ _).out ?_;rintro e V ⟨rfl,z,K,_⟩;rw[aem _ A] at z;rw[Q7] at z;have o:=acU (Y.out.trans K);have Æ:=o.out.size;have arI:(Lib.byteCells (nZ s.data.toList k ++ [qF (s[k].toNat / 16)])).length=2*k+1:=by
    have:(nZ s.data.toList k).length=2*k:=by simpa [Lib.byteCells] using Ô
    simp[Lib.byteCells,this]
   have Q:=λc=>(acU (I5 w.heap.size w.heap.size _ c V (.inr z) iK Æ))
   go_wp2_with fail;refine Calls.mono (Q _).out ?_;rintro e w3 ⟨rfl,G,H,_⟩;rw[aem _ I] at G;rw[Q7,append_assoc] at G;have U:=acU (o.out.trans H);have aQ:Hid (Lib.IsBuilder 153 5 w.heap.size w.heap.size (Lib.byteCells (nZ s.data.toList (k+1))) w3):=by
    rw[qH.out];exact .inr G
   go_wp2;go_roundw;case rel=>exact⟨k+1,iK,by go_num,U.out,aQ.out⟩
   case measure=>simp[intOf]<;>omega
  ·obtain rfl:k=s.size:=iK;have ϕ:nZ s.data.toList s.size ≠ []:=λe=>by
    have:=BN s.data.toList s.size (by rw[Gd];exact Nat.le_refl _);rw[e] at this;simp at this;omega
   have O:=acU (Ij w.heap.size w.heap.size _ wr q.out ϕ);go_wp2_with fail;refine Calls.mono O.out ?_;rintro e V ⟨rfl,z⟩;have o:=acU (Y.out.trans z);go_wp2;go_ret;exact⟨rfl,o.out⟩
end Go.Proofs.YtnjmhjdhfaboaaaGreatDoor
