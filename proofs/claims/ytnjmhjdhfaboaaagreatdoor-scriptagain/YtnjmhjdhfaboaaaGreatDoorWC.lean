import Derived.Test.YtnjmhjdhfaboaaaGreatDoorL
import Derived.Lib.ItoaNum
import Derived.Lib.AtoiAll
set_option maxRecDepth 1000000
set_option maxHeartbeats 1000000
open List
namespace aR
open Go.Lib aD
def qJ(d:Nat):UInt8:=UInt8.ofNat (if d<10 then 48+d else 87+d)
def nP:Nat->Nat->List UInt8
 | 0,_=>[]
 | k+1,u=>nP k (u / 16) ++ [qJ (u % 16)]
def hexDigits(u:Nat):List UInt8:=if _h:u<16 then [qJ u] else hexDigits (u / 16) ++ [qJ (u % 16)]
termination_by u
decreasing_by omega
theorem tX:∀k u,(nP k u).length=k
 | 0,_=>rfl
 | k+1,u=>by rw[nP,length_append,tX k];rfl
theorem uF:∀(k u:Nat),u<16 ^ (k+1)->1<=(hexDigits u).length/\(hexDigits u).length<=k+1/\List.replicate (k+1-(hexDigits u).length) 48++hexDigits u=nP (k+1) u
 | 0,u,h=>by
  have o:u<16:=by simpa using h
  rw[hexDigits,dif_pos o];refine⟨rQ,rQ,?_⟩;simp[nP,Nat.mod_eq_of_lt o]
 | k+1,u,h=>by
  by_cases o:u<16
  ·rw[hexDigits,dif_pos o];refine⟨rQ,rQ,?_⟩;have q:∀j,nP j 0=List.replicate j 48:=λj=>by
    induction j with
    | zero=>rfl
    | succ j ih=>rw[nP,Nat.zero_div,ih,replicate_succ'];rfl
   rw[nP,Nat.div_eq_of_lt o,q,Nat.mod_eq_of_lt o];simp
  ·have A:u / 16<16 ^ (k+1):=by
    rw[Nat.pow_succ] at h;omega
   obtain⟨D,F,z⟩:=uF k (u / 16) A;rw[hexDigits,dif_neg o,nP,<-z];refine⟨rQ,qz,?_⟩;have e:k+1+1-(hexDigits (u / 16) ++ [qJ (u % 16)]).length=k+1-(hexDigits (u / 16)).length:=rQ;rw[e,append_assoc]
def Ck(c:Nat):Option Nat:=if 48<=c/\c<=57 then some (c-48) else if 97<=c|||32/\c|||32<=102 then some ((c|||32)-87) else none
def dP:Nat->List UInt8->Option Nat
 | acc,[]=>some acc
 | acc,c::r=>match Ck c.toNat with
  | none=>none
  | some d=>if 1152921504606846976<=acc then none else dP (acc*16+d) r
theorem ac3:∀d,d<16->Ck (qJ d).toNat=some d:=lJ
theorem af7{c d:Nat}(h:Ck c=some d):d<16:=by
 unfold Ck at h;split at h
 ·cases h;omega
 ·split at h
  ·cases h;omega
  ·cases h
theorem Ja:∀(l r:List UInt8) (j v:Nat),dP j l=some v->dP j (l++r)=dP v r
 | [],r,j,v,h=>by simp[dP] at h;subst h;rfl
 | c::l,r,j,v,h=>by
  rw[cons_append,dP];rw[dP] at h;cases o:Ck c.toNat with
  | none=>rw[o] at h;cases h
  | some d=>
   rw[o] at h;dsimp only at h ⊢;split
   ·rw[if_pos ‹_›] at h;cases h
   ·rw[if_neg ‹_›] at h;exact Ja l r _ v h
theorem Gc:∀(k u:Nat),k<=16->u<16 ^ k->dP 0 (nP k u)=some u
 | 0,u,_,h=>by
  have:u=0:=by simpa using h
  subst this;rfl
 | k+1,u,hk,h=>by
  have o:u / 16<16 ^ k:=by
   rw[Nat.pow_succ] at h;omega
  have q:16 ^ k<=16 ^ 15:=Nat.pow_le_pow_right lJ fM;have j:(16:Nat) ^ 15=1152921504606846976:=lJ;rw[nP,Ja _ _ _ _ (Gc k (u / 16) fM o),dP,ac3 _ (Nat.mod_lt _ lJ)];dsimp only
  rw[if_neg fM,dP];congr 1;omega
theorem Le:∀(l:List UInt8) (j v:Nat),j<18446744073709551616->dP j l=some v->v<18446744073709551616
 | [],j,v,ha,h=>by simp[dP] at h;omega
 | c::l,j,v,ha,h=>by
  unfold dP at h;cases o:Ck c.toNat with
  | none=>rw[o] at h;cases h
  | some d=>
   have:=af7 o;rw[o] at h;dsimp only at h;split at h
   ·cases h
   ·exact Le l _ v fM h
theorem aag:∀(l r:List UInt8) (j v:Nat),parseUint10 j l = .ok v->parseUint10 j (l++r)=parseUint10 v r
 | [],r,j,v,h=>by simp[parseUint10] at h;subst h;rfl
 | c::l,r,j,v,h=>by
  rw[cons_append,parseUint10];rw[parseUint10] at h;split
  ·rw[if_pos ‹_›] at h;split
   ·rw[if_pos ‹_›] at h;cases h
   ·rw[if_neg ‹_›] at h;split
    ·rw[if_pos ‹_›] at h;cases h
    ·rw[if_neg ‹_›] at h;exact aag l r _ v h
  ·rw[if_neg ‹_›] at h;cases h
def El(c:UInt8):Prop:=48<=c.toNat/\c.toNat<=57
theorem Lf(d:Nat)(h:d<10):(UInt8.ofNat (48+d)).toNat=48+d:=by
 simp
 omega
theorem yS(u:Nat):∀c,c∈decDigits u->El c:=by
 induction u using Nat.strongRecOn with
 | _ u ih=>
  rw[decDigits];split
  ·intro c j;rw[mem_singleton] at j;subst j;rw[El,Lf _ ‹_›];omega
  ·intro c j;rcases mem_append.1 j with j|j
   ·exact ih _ fM c j
   ·simp only[mem_singleton] at j;subst j;rw[El,Lf _ (Nat.mod_lt _ lJ)];omega
theorem Gd(u:Nat):decDigits u ≠ []:=by
 rw[decDigits];split<;>simp
theorem nT:∀(k u:Nat),u<10 ^ (k+1)->(decDigits u).length<=k+1
 | 0,u,h=>by
  rw[decDigits,dif_pos (by simpa using h)];simp
 | k+1,u,h=>by
  rw[decDigits];split
  ·simp
  ·have:=nT k (u / 10) (by rw[Nat.pow_succ] at h;omega);simp
   omega
theorem aah(u:Nat)(h:u<1000000000000000000):parseUint10 0 (decDigits u) = .ok u:=by
 induction u using Nat.strongRecOn with
 | _ u ih=>
  rw[decDigits];split
  ·have:=Lf u ‹_›;rw[parseUint10,if_pos fM,if_neg fM,if_neg fM,parseUint10,this];congr 1;omega
  ·have:=Lf (u % 10) (Nat.mod_lt _ lJ);rw[aag _ _ _ _ (ih (u / 10) fM fM),parseUint10,if_pos fM,if_neg fM,if_neg fM,parseUint10,this];congr 1;omega
theorem ac4{l:List UInt8}(h:∀c,c∈l->El c)(j:l ≠ []):∃c r,l=c::r/\c.toNat≠43/\c.toNat≠45:=by
 cases l with
 | nil=>exact absurd rfl j
 | cons c r=>
  have:=h c rQ;unfold El at this;exact⟨c,r,rfl,fM,fM⟩
theorem aai(t:Int)(A : -1099511627776<=t)(D:t<=1099511627776):atoiAll (itoa t) = .ok t:=by
 unfold itoa;split
 ·have j:parseMag (decDigits t.natAbs) = .ok t.natAbs:=by
   unfold parseMag;rw[if_neg (Gd _),aah _ fM]
  unfold atoiAll;simp only[show (45:UInt8).toNat=45 from rfl,or_true,if_true,j,not_true,false_and,if_false,true_and];rw[if_neg fM];congr 1;omega
 ·obtain⟨c,r,o,q,z⟩:=ac4 (yS t.toNat) (Gd _);have j:parseMag (c::r) = .ok t.toNat:=by
   unfold parseMag;rw[if_neg rQ,<-o,aah _ fM]
  rw[o];unfold atoiAll;simp only[q,z,or_self,if_false,j,not_false_iff,true_and,false_and];rw[if_neg fM];congr 1;omega
theorem XH(t:Int):∀c,c∈itoa t->El c\/c=45:=by
 unfold itoa;split
 ·intro c j;rcases mem_cons.1 j with rfl|j
  ·exact .inr rfl
  ·exact .inl (yS _ c j)
 ·intro c j;exact .inl (yS _ c j)
theorem JQ(t:Int)(j : -1099511627776<=t)(o:t<=1099511627776):(itoa t).length<=14:=by
 unfold itoa;split
 ·have:=nT 12 t.natAbs fM;simp
  omega
 ·have:=nT 12 t.toNat fM;omega
abbrev E:=List UInt8×Int×Nat
def l5(e:E):List UInt8:=e.1++64::(itoa e.2.1++61::nP 16 e.2.2)
def JR(c:Nat):List UInt8:=[UInt8.ofNat (c % 256),UInt8.ofNat (c / 256 % 256),UInt8.ofNat (c / 65536 % 256),UInt8.ofNat (c / 16777216 % 256)]
def wh(b:List UInt8):List UInt8:=UInt8.ofNat (b.length / 256)::UInt8.ofNat (b.length % 256)::(b++JR (aj.zn b))
def dN(e:E):List UInt8:=wh (l5 e)
theorem tY(e:E):(dN e).length=(l5 e).length+6:=by simp[dN,wh,JR]
structure tZ(ok:List UInt8->Prop)(e:E):Prop where
 lab:ok e.1
 lo : -1099511627776<=e.2.1
 hi:e.2.1<=1099511627776
 val:e.2.2<18446744073709551616
theorem MS(c:UInt8):∀(a r:List UInt8),(∀x,x∈a->x≠c)->aJ c (a++c::r)=(a,r,true)
 | [],r,_=>by simp[aJ]
 | b::a,r,h=>by
  have j:(b==c)=false:=by simpa using h b rQ
  rw[cons_append,aJ,j,MS c a r λx o=>h x (by simp[o])];simp
def iH(b:List UInt8):Option E:=
 match atoiAll (aJ 61 (aJ 64 b).2.1).1 with
 | .ok t=>if (aJ 61 (aJ 64 b).2.1).2.1 = [] then none else match dP 0 (aJ 61 (aJ 64 b).2.1).2.1 with
  | some u=>some ((aJ 64 b).1,t,u)
  | none=>none
 | _=>none
variable {ok:List UInt8->Prop} (ϲ:∀s,ok s->(∀c,c∈s->c≠64)/\s.length<=1000)
include ϲ
theorem uf{e:E}(h:tZ ok e):(l5 e).length<=1032/\(l5 e).length=e.1.length+(itoa e.2.1).length+18:=by
 have j:=(ϲ _ h.lab).2;have o:=JQ e.2.1 h.lo h.hi;have q:(l5 e).length=e.1.length+(itoa e.2.1).length+18:=by
  simp[l5,tX];omega
 omega
theorem Em{e:E}(h:tZ ok e):iH (l5 e)=some e:=by
 have j:aJ 64 (l5 e)=(e.1,itoa e.2.1++61::nP 16 e.2.2,true):=MS 64 _ _ (ϲ _ h.lab).1;have o:aJ 61 (itoa e.2.1++61::nP 16 e.2.2)=(itoa e.2.1,nP 16 e.2.2,true):=MS 61 _ _ λx D=>by
  rcases XH _ x D with z|rfl
  ·rintro rfl;revert z;unfold El;decide
  ·decide
 have q:dP 0 (nP 16 e.2.2)=some e.2.2:=by
  have F:=h.val;exact Gc 16 _ lJ fM
 unfold iH;rw[j];rw[o,aai _ h.lo h.hi];dsimp only
 rw[if_neg (by intro A;have:=congrArg List.length A;rw[tX] at this;simp at this),q]
omit ϲ in
theorem Ri{e:E}:dN e ≠ []:=by simp[dN,wh]
omit ϲ in
def lenOf(b:List UInt8):Nat:=(b.getD 0 0).toNat*256+(b.getD 1 0).toNat
omit ϲ in
theorem Gf{d r:List UInt8}(h:d.length<65536):lenOf (wh d++r)=d.length/\((wh d++r).drop 2).take d.length=d:=by
 refine⟨?_,?_⟩
 ·simp[lenOf,wh];omega
 ·simp[wh]
theorem Vt{b:List UInt8}{e j:E}(h:tZ ok e)(D:tZ ok j)(H:dN e <+: b)(z:dN j <+: b):e=j:=by
 obtain⟨r,rfl⟩:=H;obtain⟨I,o⟩:=z;have A:=Gf (d:=l5 e) (r:=r) (by have:=(uf ϲ h).1;omega);have q:=Gf (d:=l5 j) (r:=I) (by have:=(uf ϲ D).1;omega);unfold dN at o;rw[o] at q;change lenOf (dN e++r)=_/\_ at A;change lenOf (dN e++r)=_/\List.take _ (List.drop 2 (dN e++r))=_ at q;have G:l5 e=l5 j:=by
  rw[<-A.2,<-q.2,<-A.1,<-q.1];rfl
 have F:=Em ϲ h;rw[G,Em ϲ D] at F;exact (Option.some.inj F).symm
omit ϲ
def nW(ok:List UInt8->Prop)(b:List UInt8)(e:E):Prop:=tZ ok e/\dN e <+: b
theorem Jb(q:∀s,ok s->(∀c,c∈s->c≠64)/\s.length<=1000){b:List UInt8}{e:E}(h:nW ok b e):2+lenOf b+4<=b.length/\iH ((b.drop 2).take (lenOf b))=some e/\lenOf b=(l5 e).length/\(b.drop 2).take (lenOf b)=l5 e:=by
 obtain⟨o,r,rfl⟩:=h;have j:=Gf (d:=l5 e) (r:=r) (by have:=(uf q o).1;omega);change lenOf (dN e++r)=_/\List.take _ (List.drop 2 (dN e++r))=_ at j;rw[j.1,j.2];refine⟨?_,Em q o,rfl,rfl⟩;rw[length_append,tY];omega
def recs:List E->List UInt8
 | []=>[]
 | e::l=>dN e++recs l
theorem En:∀a b,recs (a++b)=recs a++recs b
 | [],b=>rfl
 | e::a,b=>by rw[cons_append,recs,En a b,recs,append_assoc]
structure Reads(ok:List UInt8->Prop)(b:List UInt8)(L:List E):Prop where
 all:∀e,e∈L->tZ ok e
 pre:recs L <+: b
 no:∀e,¬ nW ok (b.drop (recs L).length) e
theorem wm(F:∀s,ok s->(∀c,c∈s->c≠64)/\s.length<=1000):∀(L j:List E) (b:List UInt8),Reads ok b L->Reads ok b j->L=j
 | [],[],_,_,_=>rfl
 | [],e::j,b,h,h'=>by
  refine absurd ⟨h'.all e rQ,?_⟩ (h.no e);have:=h'.pre;rw[recs] at this;exact (prefix_append _ _).trans this
 | e::L,[],b,h,h'=>by
  refine absurd ⟨h.all e rQ,?_⟩ (h'.no e);have:=h.pre;rw[recs] at this;exact (prefix_append _ _).trans this
 | e::L,e'::j,b,h,h'=>by
  have p:=h.pre;have z:=h'.pre;rw[recs] at p z;have G:e=e':=Vt F (h.all e rQ) (h'.all e' rQ) ((prefix_append _ _).trans p) ((prefix_append _ _).trans z);subst G;obtain⟨r,rfl⟩:=p;obtain⟨H,o⟩:=z;rw[append_assoc,append_assoc] at o;have I:=append_cancel_left o;have A:=h.no;have D:=h'.no;rw[recs,append_assoc,length_append,<-drop_drop,drop_left] at A D;rw[wm F L j (recs L++r) ⟨λx q=>h.all x (by simp[q]),prefix_append _ _,A⟩ ⟨λx q=>h'.all x (by simp[q]),⟨H,I⟩,D⟩]
theorem Rj(F:∀s,ok s->(∀c,c∈s->c≠64)/\s.length<=1000)(L:List E)(x:List UInt8)(hL:∀e,e∈L->tZ ok e)(D:x = []\/∃e,tZ ok e/\x <+: dN e/\x.length<(dN e).length):Reads ok (recs L++x) L:=by
 refine⟨hL,prefix_append _ _,λe o=>?_⟩;rw[drop_left] at o;obtain⟨q,j⟩:=o;rcases D with rfl|⟨G,z,A,H⟩
 ·exact Ri (prefix_nil.1 j)
 ·have:=Vt F q z (j.trans A) (prefix_refl _);subst this;have:=j.length_le;omega
end aR
namespace Go.Proofs.YtnjmhjdhfaboaaaGreatDoor
open Go.RowKit aD aR
theorem abj{p:Prop}(h:p):Go.RowKit.Hid p:=h
theorem Jc(B b:Nat)(j:List Value)(c:Nat)(w:World)(h:Lib.IsBuilder 153 5 B b j w)(ϐ:j.length+1<=1000000)(hBw:B<=w.heap.size):
  Calls Tryz.prog 85 #[.pointer (some ⟨b,0,none⟩),.int .u8 (c:Int)] w λe w'=>e = .returned .nilIface/\(Lib.BuilderAt 153 5 B b (.pointer (some ⟨b,0,none⟩)) (j ++ [.int .u8 (c:Int)]) w'/\Below B w w'/\Ko w w'):=by
 obtain⟨i0,hi,ò,å,ô⟩:=info_parts infoByte;have HI:=abj hi;have HC:Hid _:=Nw B b j w h;go_enter Tryz.func85,Tryz.ntmps85;go_wp2_with fail;refine Calls.mono HC.out ?_;rintro e w1 ⟨rfl,Q,ώ,ğ⟩;have nL:=abj ğ;obtain⟨U,v,D,Z,Ϙ⟩:=Q;have c0:w1.cell? ⟨b,0,none⟩=some (.pointer (some ⟨b,0,none⟩)):=by rw[Lib.cell_of_heap D];rfl
 have c1:w1.cell? ⟨b,1,none⟩=some v:=by rw[Lib.cell_of_heap D];rfl
 have ϗ:b<w1.heap.size:=by
  rcases Nat.lt_or_ge b w1.heap.size with o|o
  ·exact o
  ·simp[Array.getElem?_eq_none o] at D
 have ϕ:=ώ.size;have F:=abj ώ;have G:=abj Z;have O:=abj D;have Vp:=abj Ϙ;have Y:Hid ((w1.alloc (.cells #[.int .u8 (c:Int)] 5)).ownsRow B 5 1 v j.length j):=Z.alloc _;have gY:Hid (∀i z,([.int .u8 (c:Int)]:List Value)[i]? = some z->(w1.alloc (.cells #[.int .u8 (c:Int)] 5)).cell? ((⟨w1.heap.size,0,none⟩:Addr).add i)=some z):=World.news_of_block (heap_alloc_new w1 _);have ko:Hid (∀z∈([.int .u8 (c:Int)]:List Value),z.oneCell'=true):=by
  intro z W;simp at W;subst W;rfl
 go_wp2_with (at_builtin;refine wpList_append_lies _ rfl _ _ 82 rfl B 5 i0 (.int .u8 0) 1 1 Tryz.underlying82 HI.out ò å ô rfl lJ _ _ _ rfl Y.out ⟨w1.heap.size,0,none⟩ 1 1 [.int .u8 (c:Int)] rfl rfl gY.out ko.out fM (by unfold maxLen;omega) fM qz _ rfl ?_);intro J H w7 bR I qh ahQ;have sN:(w1.alloc (.cells #[.int .u8 (c:Int)] 5)).heap[b]? = some (.cells #[.pointer (some ⟨b,0,none⟩),v] 153 (0,0)):=(heap_alloc_old _ _ (h:=ϗ)).trans O.out;have A:=(I.block b qz (λe=>Vp.out e.symm)).trans sN;have d0:w7.cell? ⟨b,0,none⟩=some (.pointer (some ⟨b,0,none⟩)):=by rw[Lib.cell_of_heap A];rfl
 have d1:w7.cell? ⟨b,1,none⟩=some v:=by rw[Lib.cell_of_heap A];rfl
 have f1:=Lib.frozen_of_heap A 1;have aL:Hid (Lib.BuilderAt 153 5 B b (.pointer (some ⟨b,0,none⟩)) (j ++ [.int .u8 (c:Int)]) (w7.setCell ⟨b,1,none⟩ (.slice (some ⟨J,0,none⟩) (j.length+1) H))/\Below B w (w7.setCell ⟨b,1,none⟩ (.slice (some ⟨J,0,none⟩) (j.length+1) H))/\Ko w (w7.setCell ⟨b,1,none⟩ (.slice (some ⟨J,0,none⟩) (j.length+1) H))):=by
  refine⟨Lib.BuilderAt.put (T:=153) (e:=5) U A (bs':=j ++ [.int .u8 (c:Int)]) (by simpa using bR) lJ,?_,?_⟩
  ·exact ((F.out.alloc fM _).grown I qz (λk K=>(Y.out.lt k K).1)).setCell (p:=⟨b,1,none⟩) U _
  ·intro k cs t fr K R V;have q:=nL.out k cs t fr K R V;have ù:k<w1.heap.size:=by
    rcases Nat.lt_or_ge k w1.heap.size with o|o
    ·exact o
    ·simp[Array.getElem?_eq_none o] at q
   have È:=(I.block k qz (λe=>Lib.ownBlock_ne G.out q R e.symm)).trans ((heap_alloc_old _ _ (h:=ù)).trans q);rw[Below.heap_setCell _ _ _ _ (λe=>?_)]
   ·exact È
   ·have e':k=b:=e;subst e';rw[O.out] at q;injection q with q;injection q with Q h2 h3;exact V h2.symm
 go_wp2;go_ret;exact⟨rfl,aL.out⟩
theorem Rk(l:List UInt8)(c:UInt8):Lib.byteCells l ++ [.int .u8 (c.toNat:Int)]=Lib.byteCells (l ++ [c]):=by simp[Lib.byteCells]
theorem Gg(s:ByteArray):s.data.toList.length=s.size:=Array.length_toList
theorem aeO(a:Nat)(h:a<16):((⟨#[48,49,50,51,52,53,54,55,56,57,97,98,99,100,101,102]⟩:ByteArray)[a]'h).toNat=(qJ a).toNat:=by
 rcases (by omega:a=0\/a=1\/a=2\/a=3\/a=4\/a=5\/a=6\/a=7\/a=8\/a=9\/a=10\/a=11\/a=12\/a=13\/a=14\/a=15) with rfl|rfl|rfl|rfl|rfl|rfl|rfl|rfl|rfl|rfl|rfl|rfl|rfl|rfl|rfl|rfl;all_goals rfl
def oD(l:List UInt8)(k:Nat):List UInt8:=(l.take k).flatMap λc=>[qJ (c.toNat / 16),qJ (c.toNat % 16)]
theorem Gh(l:List UInt8):∀k,k<=l.length->(oD l k).length=2*k
 | 0,_=>rfl
 | k+1,h=>by
  have j:=Gh l k fM;unfold oD at j ⊢;rw[take_succ_eq_append_getElem fM,flatMap_append,length_append,j];simp
  omega
theorem Rl(w:World)(s:ByteArray)(h0:1<=s.size)(hs:s.size<=10000):
  Calls Tryz.prog 53 #[.string s] w λe w'=>e = .returned (.string ⟨(oD s.data.toList s.size).toArray⟩)/\Below w.heap.size w w':=by
 obtain⟨W,H⟩:=bF (w.alloc (.cells #[.pointer none,.slice none 0 0] 153));have HW:Hid (∀Q,Q=w.alloc (.cells #[.pointer none,.slice none 0 0] 153)->Q=W):=λQ h=>h.trans H.symm
 have Z:Hid (Lib.IsBuilder 153 5 w.heap.size w.heap.size (Lib.byteCells (oD s.data.toList 0)) W):=by
  refine .inl ⟨Nat.le_refl _,.slice none 0 0,?_,?_,by simp[Value.ownBlock]⟩
  ·rw[H];exact heap_alloc_new _ _
  ·exact⟨by simp[Lib.byteCells,oD],.inl ⟨rfl,rfl⟩⟩
 have ZN:Hid (Below w.heap.size w W):=by rw[H];exact (Below.refl _ _).alloc (Nat.le_refl _) _
 go_enter Tryz.func53,Tryz.ntmps53;go_wp2_with fail;rw[HW.out _ rfl];go_loopw [7] (λi wr=>∃k:Nat,k<=s.size/\i = .int .i64 k/\Below w.heap.size w wr/\Lib.IsBuilder 153 5 w.heap.size w.heap.size (Lib.byteCells (oD s.data.toList k)) wr) (λi _=>s.size-(intOf i).toNat);case atStart=>exact⟨0,Nat.zero_le _,rfl,ZN.out,Z.out⟩
 case round=>
  obtain⟨k,hk,rfl,Y,Ζ⟩:=hrel;have U:=abj Y;have o:=abj Ζ;have O:=Y.size;by_cases ϣ:k<s.size
  ·have k0:(0:Int)<=k:=fM;have k1:(k:Int)<s.size:=fM;have hc:=s[k].toNat_lt;have hq1:(s[k].toNat:Int) / 16<16:=fM;have J:s[k].toNat / 16<16:=fM;have K:s[k].toNat % 16<16:=fM;have hq4:(s[k].toNat:Int) % 16<16:=fM;have Ĵ:=Gh s.data.toList k (by rw[Gg];exact hk);have Ú:(Lib.byteCells (oD s.data.toList k)).length=2*k:=by simp[Lib.byteCells,Ĵ]
   have I4:=λc=>(abj (Jc w.heap.size w.heap.size _ c wr o.out fM O))
   have qL:Hid (oD s.data.toList (k+1)=oD s.data.toList k ++ [qJ (s[k].toNat / 16),qJ (s[k].toNat % 16)]):=by
    have ù:k<s.data.toList.length:=by rw[Gg];exact ϣ
    have I:s.data.toList[k]=s[k]:=by simp[ByteArray.getElem_eq_getElem_data]
    show _=_;unfold oD;rw[take_succ_eq_append_getElem ù,flatMap_append,I];simp
   go_wp2_with fail;refine Calls.mono (I4 _).out ?_;rintro e V ⟨rfl,q,D,_⟩;rw[aeO _ J] at q;rw[Rk] at q;have j:=abj (U.out.trans D);have Ë:=j.out.size;have ar0:(Lib.byteCells (oD s.data.toList k ++ [qJ (s[k].toNat / 16)])).length=2*k+1:=by
    have:(oD s.data.toList k).length=2*k:=by simpa [Lib.byteCells] using Ú
    simp[Lib.byteCells,this]
   have F:=λc=>(abj (Jc w.heap.size w.heap.size _ c V (.inr q) fM Ë))
   go_wp2_with fail;refine Calls.mono (F _).out ?_;rintro e w3 ⟨rfl,R,G,_⟩;rw[aeO _ K] at R;rw[Rk,append_assoc] at R;have z:=abj (j.out.trans G);have aL:Hid (Lib.IsBuilder 153 5 w.heap.size w.heap.size (Lib.byteCells (oD s.data.toList (k+1))) w3):=by
    rw[qL.out];exact .inr R
   go_wp2;go_roundw;case rel=>exact⟨k+1,fM,rU,z.out,aL.out⟩
   case measure=>simp[intOf]<;>omega
  ·obtain rfl:k=s.size:=fM;have Ϙ:oD s.data.toList s.size ≠ []:=λe=>by
    have:=Gh s.data.toList s.size (by rw[Gg];exact Nat.le_refl _);rw[e] at this;simp at this;omega
   have A:=abj (Ir w.heap.size w.heap.size _ wr o.out Ϙ);go_wp2_with fail;refine Calls.mono A.out ?_;rintro e V ⟨rfl,q⟩;have j:=abj (U.out.trans q);go_wp2;go_ret;exact⟨rfl,j.out⟩
