import Derived.Test.YtcemkhalbjhdkaaGreatDoorLabCutGroup
import Derived.Lib.ItoaNum
import Derived.Lib.AtoiAll
import Derived.Test.YtcemkhalbjhdkaaGreatDoorRefTicksGroup
import Derived.Deep.AppendLies
set_option maxRecDepth 1000000
set_option maxHeartbeats 1000000
namespace jf
open Go.Lib aZ
def jY (d:Nat):UInt8:=UInt8.ofNat (if d<10 then 48+d else 87+d)
theorem RB:∀ (l r:List UInt8) (acc v:Nat),parseUint10 acc l = .ok v->parseUint10 acc (l++r)=parseUint10 v r
 | [],r,acc,v,h=>by simp[parseUint10] at h;subst h;rfl
 | c::l,r,acc,v,h=>by
  rw[List.cons_append,parseUint10];rw[parseUint10] at h;split
  ·rw[if_pos ‹_›] at h;split
   ·rw[if_pos ‹_›] at h;cases h
   ·rw[if_neg ‹_›] at h;split
    ·rw[if_pos ‹_›] at h;cases h
    ·rw[if_neg ‹_›] at h;exact RB l r _ v h
  ·rw[if_neg ‹_›] at h;cases h
def zU (c:UInt8):Prop:=48<=c.toNat/\c.toNat<=57
theorem Fq (d:Nat) (h:d<10):(UInt8.ofNat (48+d)).toNat=48+d:=by
 simp
 omega
theorem uU (u:Nat):∀ c,c∈decDigits u->zU c:=by
 induction u using Nat.strongRecOn with
 | _ u ih=>
  rw[decDigits];split
  ·intro c hc;rw[List.mem_singleton] at hc;subst hc;rw[zU,Fq _ ‹_›];omega
  ·intro c hc;rcases List.mem_append.1 hc with hc | hc
   ·exact ih _ (by omega) c hc
   ·simp only[List.mem_singleton] at hc;subst hc;rw[zU,Fq _ (Nat.mod_lt _ (by decide))];omega
theorem BN (u:Nat):decDigits u ≠ []:=by
 rw[decDigits];split<;>simp
theorem ng:∀ (k u:Nat),u<10 ^ (k+1)->(decDigits u).length<=k+1
 | 0,u,h=>by
  rw[decDigits,dif_pos (by simpa using h)];simp
 | k+1,u,h=>by
  rw[decDigits];split
  ·simp
  ·have:=ng k (u / 10) (by rw[Nat.pow_succ] at h;omega);simp
   omega
theorem RD (u:Nat) (h:u<1000000000000000000):parseUint10 0 (decDigits u) = .ok u:=by
 induction u using Nat.strongRecOn with
 | _ u ih=>
  rw[decDigits];split
  ·have:=Fq u ‹_›;rw[parseUint10,if_pos (by omega),if_neg (by omega),if_neg (by omega),parseUint10,this];congr 1;omega
  ·have:=Fq (u % 10) (Nat.mod_lt _ (by decide));rw[RB _ _ _ _ (ih (u / 10) (by omega) (by omega)),parseUint10,if_pos (by omega),if_neg (by omega),if_neg (by omega),parseUint10,this];congr 1;omega
theorem Uy {l:List UInt8} (h:∀ c,c∈l->zU c) (hne:l ≠ []):∃ c r,l=c::r/\c.toNat≠43/\c.toNat≠45:=by
 cases l with
 | nil=>exact absurd rfl hne
 | cons c r=>
  have:=h c (by simp);unfold zU at this;exact⟨c,r,rfl,by omega,by omega⟩
theorem RF (t:Int) (h0 : -1099511627776<=t) (h1:t<=1099511627776):atoiAll (itoa t) = .ok t:=by
 unfold itoa;split
 ·have hp:parseMag (decDigits t.natAbs) = .ok t.natAbs:=by
   unfold parseMag;rw[if_neg (BN _),RD _ (by omega)]
  unfold atoiAll;simp only[show (45:UInt8).toNat=45 from rfl,or_true,if_true,hp,not_true,false_and,if_false,true_and];rw[if_neg (by omega)];congr 1;omega
 ·obtain⟨c,r,hl,hc1,hc2⟩:=Uy (uU t.toNat) (BN _);have hp:parseMag (c::r) = .ok t.toNat:=by
   unfold parseMag;rw[if_neg (by simp),<-hl,RD _ (by omega)]
  rw[hl];unfold atoiAll;simp only[hc1,hc2,or_self,if_false,hp,not_false_iff,true_and,false_and];rw[if_neg (by omega)];congr 1;omega
theorem Pn (t:Int):∀ c,c∈itoa t->zU c\/c=45:=by
 unfold itoa;split
 ·intro c hc;rcases List.mem_cons.1 hc with rfl | hc
  ·exact .inr rfl
  ·exact .inl (uU _ c hc)
 ·intro c hc;exact .inl (uU _ c hc)
theorem lQ (t:Int) (h0 : -1099511627776<=t) (h1:t<=1099511627776):(itoa t).length<=14:=by
 have e13:(10:Nat) ^ (12+1)=10000000000000:=by decide
 unfold itoa;split
 ·have:=ng 12 t.natAbs (by omega);simp
  omega
 ·have:=ng 12 t.toNat (by omega);omega
theorem Cv (c:UInt8):∀ (a r:List UInt8),(∀ x,x∈a->x≠c)->aI c (a++c::r)=(a,r,true)
 | [],r,_=>by simp[aI]
 | b::a,r,h=>by
  have hb:(b==c)=false:=by simpa using h b (by simp)
  rw[List.cons_append,aI,hb,Cv c a r fun x hx=>h x (by simp[hx])];simp
variable {ok:List UInt8->Prop} (hok:∀ s,ok s->(∀ c,c∈s->c≠64)/\s.length<=1000)
include hok
omit hok in
omit hok in
omit hok in
omit hok
end jf
namespace Go.Proofs.YtcemkhalbjhdkaaGreatDoor
open Go.RowKit aZ jf
theorem yE (B b:Nat) (bs:List Value) (c:Nat) (w:World) (h:Lib.IsBuilder 84 5 B b bs w) (hlen:bs.length+1<=1000000) (hBw:B<=w.heap.size) :
  Calls Tryz.prog 67 #[.pointer (some ⟨b,0,none⟩),.int .u8 (c:Int)] w fun e w'=>e = .returned .nilIface/\(Lib.BuilderAt 84 5 B b (.pointer (some ⟨b,0,none⟩)) (bs ++ [.int .u8 (c:Int)]) w'/\Below B w w'/\Eu w w'):=by
 obtain⟨i0,hi,hz0,hz1,hz2⟩:=info_parts infoByte;have HI:=(show Hid _ from hi);have HC:Hid _:=Gu B b bs w h;clear h hi;go_enter Tryz.func67,Tryz.ntmps67;go_wp2_with fail;refine Calls.mono HC.out ?_;rintro e w1 ⟨rfl,h1,hb1,ho1⟩;have rQ:=(show Hid _ from ho1);clear ho1;obtain⟨hB,v,hbk,hown,hne⟩:=h1;have c0:w1.cell? ⟨b,0,none⟩=some (.pointer (some ⟨b,0,none⟩)):=by rw[Lib.cell_of_heap hbk];rfl
 have c1:w1.cell? ⟨b,1,none⟩=some v:=by rw[Lib.cell_of_heap hbk];rfl
 have hlt:b<w1.heap.size:=by
  rcases Nat.lt_or_ge b w1.heap.size with h' | h'
  ·exact h'
  ·simp[Array.getElem?_eq_none h'] at hbk
 have hw1:w.heap.size<=w1.heap.size:=hb1.size;have HB1:=(show Hid _ from hb1);have HOW:=(show Hid _ from hown);have EN:=(show Hid _ from hbk);have Bc:=(show Hid _ from hne);have HOA:Hid ((w1.alloc (.cells #[.int .u8 (c:Int)] 5)).ownsRow B 5 1 v bs.length bs):=hown.alloc _;have Dh:Hid (∀ i z,([.int .u8 (c:Int)]:List Value)[i]? = some z->(w1.alloc (.cells #[.int .u8 (c:Int)] 5)).cell? ((⟨w1.heap.size,0,none⟩:Addr).add i)=some z):=World.news_of_block (heap_alloc_new w1 _);have Kg:Hid (∀ z∈([.int .u8 (c:Int)]:List Value),z.oneCell'=true):=by
  intro z hz;simp at hz;subst hz;rfl
 clear hown hbk hne hb1;go_wp2_with (at_builtin;refine wpList_append_lies _ rfl _ _ 82 rfl B 5 i0 (.int .u8 0) 1 1 Tryz.underlying82 HI.out hz0 hz1 hz2 rfl (by decide) _ _ _ rfl HOA.out ⟨w1.heap.size,0,none⟩ 1 1 [.int .u8 (c:Int)] rfl rfl Dh.out Kg.out (by omega) (by unfold maxLen;omega) (by omega) (by simp;omega) _ rfl ?_);intro g7 fB w7 dW mZ adX Kh;have xM:(w1.alloc (.cells #[.int .u8 (c:Int)] 5)).heap[b]? = some (.cells #[.pointer (some ⟨b,0,none⟩),v] 84 (0,0)):=(heap_alloc_old _ _ hlt).trans EN.out;have kX:w7.heap[b]? = some (.cells #[.pointer (some ⟨b,0,none⟩),v] 84 (0,0)):=(mZ.block b (by simp;omega) (fun e=>Bc.out e.symm)).trans xM;have d0:w7.cell? ⟨b,0,none⟩=some (.pointer (some ⟨b,0,none⟩)):=by rw[Lib.cell_of_heap kX];rfl
 have d1:w7.cell? ⟨b,1,none⟩=some v:=by rw[Lib.cell_of_heap kX];rfl
 have f1:w7.frozen? ⟨b,1,none⟩=false:=Lib.frozen_of_heap kX 1;have iU:Hid (Lib.BuilderAt 84 5 B b (.pointer (some ⟨b,0,none⟩)) (bs ++ [.int .u8 (c:Int)]) (w7.setCell ⟨b,1,none⟩ (.slice (some ⟨g7,0,none⟩) (bs.length+1) fB))/\Below B w (w7.setCell ⟨b,1,none⟩ (.slice (some ⟨g7,0,none⟩) (bs.length+1) fB))/\Eu w (w7.setCell ⟨b,1,none⟩ (.slice (some ⟨g7,0,none⟩) (bs.length+1) fB))):=by
  refine⟨Lib.BuilderAt.put (T:=84) (e:=5) hB kX (bs':=bs ++ [.int .u8 (c:Int)]) (by simpa using dW) (by decide),?_,?_⟩
  ·exact ((HB1.out.alloc (by omega) _).grown mZ (by simp;omega) (fun k hk=>(HOA.out.lt k hk).1)).setCell (p:=⟨b,1,none⟩) hB _
  ·intro k cs t fr hk h8 hT;have hk1:=rQ.out k cs t fr hk h8 hT;have hkl:k<w1.heap.size:=by
    rcases Nat.lt_or_ge k w1.heap.size with h' | h'
    ·exact h'
    ·simp[Array.getElem?_eq_none h'] at hk1
   have hk2:w7.heap[k]? = some (.cells cs t fr):=(mZ.block k (by simp;omega) (fun e=>Lib.ownBlock_ne HOW.out hk1 h8 e.symm)).trans ((heap_alloc_old _ _ hkl).trans hk1);rw[Below.heap_setCell _ _ _ _ (fun e=>?_)]
   ·exact hk2
   ·have e':k=b:=e;subst e';rw[EN.out] at hk1;injection hk1 with hk1;injection hk1 with h1 h2 h3;exact hT h2.symm
 clear dW mZ adX Kh xM kX;go_wp2;go_ret;exact⟨rfl,iU.out⟩
theorem byteCells_snoc (l:List UInt8) (c:UInt8):Lib.byteCells l ++ [.int .u8 (c.toNat:Int)]=Lib.byteCells (l ++ [c]):=by simp[Lib.byteCells]
theorem jM (s:ByteArray):s.data.toList.length=s.size:=Array.length_toList
theorem V6 (a:Nat) (h:a<16):((⟨#[48,49,50,51,52,53,54,55,56,57,97,98,99,100,101,102]⟩:ByteArray)[a]'h).toNat=(jY a).toNat:=by
 rcases (by omega:a=0\/a=1\/a=2\/a=3\/a=4\/a=5\/a=6\/a=7\/a=8\/a=9\/a=10\/a=11\/a=12\/a=13\/a=14\/a=15) with rfl | rfl | rfl | rfl | rfl | rfl | rfl | rfl | rfl | rfl | rfl | rfl | rfl | rfl | rfl | rfl;all_goals rfl
def eZ (l:List UInt8) (k:Nat):List UInt8:=(l.take k).flatMap fun c=>[jY (c.toNat / 16),jY (c.toNat % 16)]
theorem qK (l:List UInt8):∀ k,k<=l.length->(eZ l k).length=2*k
 | 0,_=>rfl
 | k+1,h=>by
  have ih:=qK l k (by omega);unfold eZ at ih ⊢;rw[List.take_succ_eq_append_getElem (by omega),List.flatMap_append,List.length_append,ih];simp
  omega
theorem KZ (w:World) (s:ByteArray) (h0:1<=s.size) (hs:s.size<=10000) :
  Calls Tryz.prog 40 #[.string s] w fun e w'=>e = .returned (.string ⟨(eZ s.data.toList s.size).toArray⟩)/\Below w.heap.size w w':=by
 obtain⟨W,hW⟩:∃ W,W=w.alloc (.cells #[.pointer none,.slice none 0 0] 84):=⟨_,rfl⟩;have HW:Hid (∀ wx,wx=w.alloc (.cells #[.pointer none,.slice none 0 0] 84)->wx=W):=fun wx h=>h.trans hW.symm
 have y8:Hid (Lib.IsBuilder 84 5 w.heap.size w.heap.size (Lib.byteCells (eZ s.data.toList 0)) W):=by
  refine .inl ⟨Nat.le_refl _,.slice none 0 0,?_,?_,by simp[Value.ownBlock]⟩
  ·rw[hW];exact heap_alloc_new _ _
  ·exact⟨by simp[Lib.byteCells,eZ],.inl ⟨rfl,rfl⟩⟩
 have KN:Hid (Below w.heap.size w W):=by rw[hW];exact (Below.refl _ _).alloc (Nat.le_refl _) _
 have hWs:w.heap.size<=W.heap.size:=KN.out.size;clear hW;go_enter Tryz.func40,Tryz.ntmps40;go_wp2_with fail;rw[HW.out _ rfl];go_loopw [7] (fun i wr=>∃ k:Nat,k<=s.size/\i = .int .i64 k/\Below w.heap.size w wr/\Lib.IsBuilder 84 5 w.heap.size w.heap.size (Lib.byteCells (eZ s.data.toList k)) wr) (fun i _=>s.size-(intOf i).toNat);case atStart=>exact⟨0,Nat.zero_le _,rfl,KN.out,y8.out⟩
 case round=>
  obtain⟨k,hk,rfl,hbr,hib⟩:=hrel;have bH:=(show Hid _ from hbr);have K3:=(show Hid _ from hib);have hwr:=hbr.size;clear hbr hib;by_cases hkn:k<s.size
  ·have k0:(0:Int)<=(k:Int):=by omega
   have k1:(k:Int)<(s.size:Int):=by omega
   have hc:=s[k].toNat_lt;have hq1:(s[k].toNat:Int) / 16<16:=by omega
   have hq2:s[k].toNat / 16<16:=by omega
   have hq3:s[k].toNat % 16<16:=by omega
   have hq4:(s[k].toNat:Int) % 16<16:=by omega
   have hl2:=qK s.data.toList k (by rw[jM];exact hk);have hbl:(Lib.byteCells (eZ s.data.toList k)).length=2*k:=by simp[Lib.byteCells,hl2]
   have rE:=fun c=>(show Hid _ from yE w.heap.size w.heap.size _ c wr K3.out (by omega) hwr)
   have lG:Hid (eZ s.data.toList (k+1)=eZ s.data.toList k ++ [jY (s[k].toNat / 16),jY (s[k].toNat % 16)]):=by
    have hkl:k<s.data.toList.length:=by rw[jM];exact hkn
    have hgt:s.data.toList[k]=s[k]:=by simp[ByteArray.getElem_eq_getElem_data]
    show _=_;unfold eZ;rw[List.take_succ_eq_append_getElem hkl,List.flatMap_append,hgt];simp
   clear hl2 hc;go_wp2_with fail;refine Calls.mono (rE _).out ?_;rintro e w2 ⟨rfl,hb2,ZI,_⟩;rw[V6 _ hq2] at hb2;rw[byteCells_snoc] at hb2;have HB2:=(show Hid _ from bH.out.trans ZI);have hw2:=HB2.out.size;have ahc:(Lib.byteCells (eZ s.data.toList k ++ [jY (s[k].toNat / 16)])).length=2*k+1:=by
    have:(eZ s.data.toList k).length=2*k:=by simpa [Lib.byteCells] using hbl
    simp[Lib.byteCells,this]
   have ZJ:=fun c=>(show Hid _ from yE w.heap.size w.heap.size _ c w2 (.inr hb2) (by omega) hw2)
   clear hb2 ZI rE hbl;dsimp only
   go_wp2_with fail;refine Calls.mono (ZJ _).out ?_;rintro e w3 ⟨rfl,hb3,ZK,_⟩;rw[V6 _ hq3] at hb3;rw[byteCells_snoc,List.append_assoc] at hb3;have HB3:=(show Hid _ from HB2.out.trans ZK);have iU:Hid (Lib.IsBuilder 84 5 w.heap.size w.heap.size (Lib.byteCells (eZ s.data.toList (k+1))) w3):=by
    rw[lG.out];exact .inr hb3
   clear hb3 ZK ZJ;dsimp only
   go_wp2;go_roundw;case rel=>exact⟨k+1,by omega,by go_num,HB3.out,iU.out⟩
   case measure=>simp[intOf]<;>omega
  ·obtain rfl:k=s.size:=by omega
   have hne:eZ s.data.toList s.size ≠ []:=fun e=>by
    have:=qK s.data.toList s.size (by rw[jM];exact Nat.le_refl _);rw[e] at this;simp at this;omega
   have HST:=(show Hid _ from yc w.heap.size w.heap.size _ wr K3.out hne);clear hne;go_wp2_with fail;refine Calls.mono HST.out ?_;rintro e w2 ⟨rfl,hb2⟩;have HB2:=(show Hid _ from bH.out.trans hb2);clear hb2;go_wp2;go_ret;exact⟨rfl,HB2.out⟩
end Go.Proofs.YtcemkhalbjhdkaaGreatDoor
