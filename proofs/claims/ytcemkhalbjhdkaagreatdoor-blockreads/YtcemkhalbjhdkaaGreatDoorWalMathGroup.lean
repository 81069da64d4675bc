import Derived.Test.YtcemkhalbjhdkaaGreatDoorLabCutGroup
import Derived.Lib.ItoaNum
import Derived.Lib.AtoiAll
import Derived.Test.YtcemkhalbjhdkaaGreatDoorRefTicksGroup
import Derived.Deep.AppendLies
set_option maxRecDepth 1000000
set_option maxHeartbeats 1000000
namespace gD
open Go.Lib aU
def uw (d:Nat):UInt8:=UInt8.ofNat (if d<10 then 48+d else 87+d)
theorem QD:∀ (l r:List UInt8) (acc v:Nat),parseUint10 acc l = .ok v->parseUint10 acc (l++r)=parseUint10 v r
 | [],r,acc,v,h=>by simp[parseUint10] at h;subst h;rfl
 | c::l,r,acc,v,h=>by
  rw[List.cons_append,parseUint10];rw[parseUint10] at h;split
  ·rw[if_pos ‹_›] at h;split
   ·rw[if_pos ‹_›] at h;cases h
   ·rw[if_neg ‹_›] at h;split
    ·rw[if_pos ‹_›] at h;cases h
    ·rw[if_neg ‹_›] at h;exact QD l r _ v h
  ·rw[if_neg ‹_›] at h;cases h
def kW (c:UInt8):Prop:=48<=c.toNat/\c.toNat<=57
theorem Eu (d:Nat) (h:d<10):(UInt8.ofNat (48+d)).toNat=48+d:=by
 simp
 omega
theorem mV (u:Nat):∀ c,c∈decDigits u->kW c:=by
 induction u using Nat.strongRecOn with
 | _ u ih=>
  rw[decDigits];split
  ·intro c hc;rw[List.mem_singleton] at hc;subst hc;rw[kW,Eu _ ‹_›];omega
  ·intro c hc;rcases List.mem_append.1 hc with hc | hc
   ·exact ih _ (by omega) c hc
   ·simp only[List.mem_singleton] at hc;subst hc;rw[kW,Eu _ (Nat.mod_lt _ (by decide))];omega
theorem qV (u:Nat):decDigits u ≠ []:=by
 rw[decDigits];split<;>simp
theorem mW:∀ (k u:Nat),u<10 ^ (k+1)->(decDigits u).length<=k+1
 | 0,u,h=>by
  rw[decDigits,dif_pos (by simpa using h)];simp
 | k+1,u,h=>by
  rw[decDigits];split
  ·simp
  ·have:=mW k (u / 10) (by rw[Nat.pow_succ] at h;omega);simp
   omega
theorem QE (u:Nat) (h:u<1000000000000000000):parseUint10 0 (decDigits u) = .ok u:=by
 induction u using Nat.strongRecOn with
 | _ u ih=>
  rw[decDigits];split
  ·have:=Eu u ‹_›;rw[parseUint10,if_pos (by omega),if_neg (by omega),if_neg (by omega),parseUint10,this];congr 1;omega
  ·have:=Eu (u % 10) (Nat.mod_lt _ (by decide));rw[QD _ _ _ _ (ih (u / 10) (by omega) (by omega)),parseUint10,if_pos (by omega),if_neg (by omega),if_neg (by omega),parseUint10,this];congr 1;omega
theorem Kg {l:List UInt8} (h:∀ c,c∈l->kW c) (hne:l ≠ []):∃ c r,l=c::r/\c.toNat≠43/\c.toNat≠45:=by
 cases l with
 | nil=>exact absurd rfl hne
 | cons c r=>
  have:=h c (by simp);unfold kW at this;exact⟨c,r,rfl,by omega,by omega⟩
theorem sj (t:Int) (h0 : -1099511627776<=t) (h1:t<=1099511627776):(itoa t).length<=14:=by
 have e13:(10:Nat) ^ (12+1)=10000000000000:=by decide
 unfold itoa;split
 ·have:=mW 12 t.natAbs (by omega);simp
  omega
 ·have:=mW 12 t.toNat (by omega);omega
theorem Mq (c:UInt8):∀ (a r:List UInt8),(∀ x,x∈a->x≠c)->aI c (a++c::r)=(a,r,true)
 | [],r,_=>by simp[aI]
 | b::a,r,h=>by
  have hb:(b==c)=false:=by simpa using h b (by simp)
  rw[List.cons_append,aI,hb,Mq c a r fun x hx=>h x (by simp[hx])];simp
variable {ok:List UInt8->Prop} (hok:∀ s,ok s->(∀ c,c∈s->c≠64)/\s.length<=1000)
include hok
omit hok in
omit hok in
omit hok in
omit hok
end gD
namespace Go.Proofs.YtcemkhalbjhdkaaGreatDoor
open Go.RowKit aU gD
theorem xK (B b:Nat) (bs:List Value) (c:Nat) (w:World) (h:Lib.IsBuilder 84 5 B b bs w) (hlen:bs.length+1<=1000000) (hBw:B<=w.heap.size) :
  Calls Tryz.prog 67 #[.pointer (some ⟨b,0,none⟩),.int .u8 (c:Int)] w fun e w'=>e = .returned .nilIface/\(Lib.BuilderAt 84 5 B b (.pointer (some ⟨b,0,none⟩)) (bs ++ [.int .u8 (c:Int)]) w'/\Below B w w'/\Dy w w'):=by
 obtain⟨i0,hi,hz0,hz1,hz2⟩:=info_parts infoByte;have HI:=(show Hid _ from hi);have HC:Hid _:=FP B b bs w h;clear h hi;go_enter Tryz.func67,Tryz.ntmps67;go_wp2_with fail;refine Calls.mono HC.out ?_;rintro e w1 ⟨rfl,h1,hb1,ho1⟩;have uF:=(show Hid _ from ho1);clear ho1;obtain⟨hB,v,hbk,hown,hne⟩:=h1;have c0:w1.cell? ⟨b,0,none⟩=some (.pointer (some ⟨b,0,none⟩)):=by rw[Lib.cell_of_heap hbk];rfl
 have c1:w1.cell? ⟨b,1,none⟩=some v:=by rw[Lib.cell_of_heap hbk];rfl
 have hlt:b<w1.heap.size:=by
  rcases Nat.lt_or_ge b w1.heap.size with h' | h'
  ·exact h'
  ·simp[Array.getElem?_eq_none h'] at hbk
 have hw1:w.heap.size<=w1.heap.size:=hb1.size;have HB1:=(show Hid _ from hb1);have HOW:=(show Hid _ from hown);have D5:=(show Hid _ from hbk);have Jt:=(show Hid _ from hne);have QF:Hid ((w1.alloc (.cells #[.int .u8 (c:Int)] 5)).ownsRow B 5 1 v bs.length bs):=hown.alloc _;have wQ:Hid (∀ i z,([.int .u8 (c:Int)]:List Value)[i]? = some z->(w1.alloc (.cells #[.int .u8 (c:Int)] 5)).cell? ((⟨w1.heap.size,0,none⟩:Addr).add i)=some z):=World.news_of_block (heap_alloc_new w1 _);have F9:Hid (∀ z∈([.int .u8 (c:Int)]:List Value),z.oneCell'=true):=by
  intro z hz;simp at hz;subst hz;rfl
 clear hown hbk hne hb1;go_wp2_with (at_builtin;refine wpList_append_lies _ rfl _ _ 82 rfl B 5 i0 (.int .u8 0) 1 1 Tryz.underlying82 HI.out hz0 hz1 hz2 rfl (by decide) _ _ _ rfl QF.out ⟨w1.heap.size,0,none⟩ 1 1 [.int .u8 (c:Int)] rfl rfl wQ.out F9.out (by omega) (by unfold maxLen;omega) (by omega) (by simp;omega) _ rfl ?_);intro g7 fG w7 eD iA acJ JB;have BP:(w1.alloc (.cells #[.int .u8 (c:Int)] 5)).heap[b]? = some (.cells #[.pointer (some ⟨b,0,none⟩),v] 84 (0,0)):=(heap_alloc_old _ _ hlt).trans D5.out;have lS:w7.heap[b]? = some (.cells #[.pointer (some ⟨b,0,none⟩),v] 84 (0,0)):=(iA.block b (by simp;omega) (fun e=>Jt.out e.symm)).trans BP;have d0:w7.cell? ⟨b,0,none⟩=some (.pointer (some ⟨b,0,none⟩)):=by rw[Lib.cell_of_heap lS];rfl
 have d1:w7.cell? ⟨b,1,none⟩=some v:=by rw[Lib.cell_of_heap lS];rfl
 have f1:w7.frozen? ⟨b,1,none⟩=false:=Lib.frozen_of_heap lS 1;have kM:Hid (Lib.BuilderAt 84 5 B b (.pointer (some ⟨b,0,none⟩)) (bs ++ [.int .u8 (c:Int)]) (w7.setCell ⟨b,1,none⟩ (.slice (some ⟨g7,0,none⟩) (bs.length+1) fG))/\Below B w (w7.setCell ⟨b,1,none⟩ (.slice (some ⟨g7,0,none⟩) (bs.length+1) fG))/\Dy w (w7.setCell ⟨b,1,none⟩ (.slice (some ⟨g7,0,none⟩) (bs.length+1) fG))):=by
  refine⟨Lib.BuilderAt.put (T:=84) (e:=5) hB lS (bs':=bs ++ [.int .u8 (c:Int)]) (by simpa using eD) (by decide),?_,?_⟩
  ·exact ((HB1.out.alloc (by omega) _).grown iA (by simp;omega) (fun k hk=>(QF.out.lt k hk).1)).setCell (p:=⟨b,1,none⟩) hB _
  ·intro k cs t fr hk h8 hT;have hk1:=uF.out k cs t fr hk h8 hT;have hkl:k<w1.heap.size:=by
    rcases Nat.lt_or_ge k w1.heap.size with h' | h'
    ·exact h'
    ·simp[Array.getElem?_eq_none h'] at hk1
   have hk2:w7.heap[k]? = some (.cells cs t fr):=(iA.block k (by simp;omega) (fun e=>Lib.ownBlock_ne HOW.out hk1 h8 e.symm)).trans ((heap_alloc_old _ _ hkl).trans hk1);rw[Below.heap_setCell _ _ _ _ (fun e=>?_)]
   ·exact hk2
   ·have e':k=b:=e;subst e';rw[D5.out] at hk1;injection hk1 with hk1;injection hk1 with h1 h2 h3;exact hT h2.symm
 clear eD iA acJ JB BP lS;go_wp2;go_ret;exact⟨rfl,kM.out⟩
theorem byteCells_snoc (l:List UInt8) (c:UInt8):Lib.byteCells l ++ [.int .u8 (c.toNat:Int)]=Lib.byteCells (l ++ [c]):=by simp[Lib.byteCells]
theorem gI (s:ByteArray):s.data.toList.length=s.size:=Array.length_toList
theorem Va (a:Nat) (h:a<16):((⟨#[48,49,50,51,52,53,54,55,56,57,97,98,99,100,101,102]⟩:ByteArray)[a]'h).toNat=(uw a).toNat:=by
 rcases (by omega:a=0\/a=1\/a=2\/a=3\/a=4\/a=5\/a=6\/a=7\/a=8\/a=9\/a=10\/a=11\/a=12\/a=13\/a=14\/a=15) with rfl | rfl | rfl | rfl | rfl | rfl | rfl | rfl | rfl | rfl | rfl | rfl | rfl | rfl | rfl | rfl;all_goals rfl
def iO (l:List UInt8) (k:Nat):List UInt8:=(l.take k).flatMap fun c=>[uw (c.toNat / 16),uw (c.toNat % 16)]
theorem tL (l:List UInt8):∀ k,k<=l.length->(iO l k).length=2*k
 | 0,_=>rfl
 | k+1,h=>by
  have ih:=tL l k (by omega);unfold iO at ih ⊢;rw[List.take_succ_eq_append_getElem (by omega),List.flatMap_append,List.length_append,ih];simp
  omega
theorem Kh (w:World) (s:ByteArray) (h0:1<=s.size) (hs:s.size<=10000) :
  Calls Tryz.prog 40 #[.string s] w fun e w'=>e = .returned (.string ⟨(iO s.data.toList s.size).toArray⟩)/\Below w.heap.size w w':=by
 obtain⟨W,hW⟩:∃ W,W=w.alloc (.cells #[.pointer none,.slice none 0 0] 84):=⟨_,rfl⟩;have HW:Hid (∀ wx,wx=w.alloc (.cells #[.pointer none,.slice none 0 0] 84)->wx=W):=fun wx h=>h.trans hW.symm
 have Cj:Hid (Lib.IsBuilder 84 5 w.heap.size w.heap.size (Lib.byteCells (iO s.data.toList 0)) W):=by
  refine .inl ⟨Nat.le_refl _,.slice none 0 0,?_,?_,by simp[Value.ownBlock]⟩
  ·rw[hW];exact heap_alloc_new _ _
  ·exact⟨by simp[Lib.byteCells,iO],.inl ⟨rfl,rfl⟩⟩
 have J3:Hid (Below w.heap.size w W):=by rw[hW];exact (Below.refl _ _).alloc (Nat.le_refl _) _
 have hWs:w.heap.size<=W.heap.size:=J3.out.size;clear hW;go_enter Tryz.func40,Tryz.ntmps40;go_wp2_with fail;rw[HW.out _ rfl];go_loopw [7] (fun i wr=>∃ k:Nat,k<=s.size/\i = .int .i64 k/\Below w.heap.size w wr/\Lib.IsBuilder 84 5 w.heap.size w.heap.size (Lib.byteCells (iO s.data.toList k)) wr) (fun i _=>s.size-(intOf i).toNat);case atStart=>exact⟨0,Nat.zero_le _,rfl,J3.out,Cj.out⟩
 case round=>
  obtain⟨k,hk,rfl,hbr,hib⟩:=hrel;have bN:=(show Hid _ from hbr);have Ki:=(show Hid _ from hib);have hwr:=hbr.size;clear hbr hib;by_cases hkn:k<s.size
  ·have k0:(0:Int)<=(k:Int):=by omega
   have k1:(k:Int)<(s.size:Int):=by omega
   have hc:=s[k].toNat_lt;have hq1:(s[k].toNat:Int) / 16<16:=by omega
   have hq2:s[k].toNat / 16<16:=by omega
   have hq3:s[k].toNat % 16<16:=by omega
   have hq4:(s[k].toNat:Int) % 16<16:=by omega
   have hl2:=tL s.data.toList k (by rw[gI];exact hk);have hbl:(Lib.byteCells (iO s.data.toList k)).length=2*k:=by simp[Lib.byteCells,hl2]
   have qR:=fun c=>(show Hid _ from xK w.heap.size w.heap.size _ c wr Ki.out (by omega) hwr)
   have lQ:Hid (iO s.data.toList (k+1)=iO s.data.toList k ++ [uw (s[k].toNat / 16),uw (s[k].toNat % 16)]):=by
    have hkl:k<s.data.toList.length:=by rw[gI];exact hkn
    have hgt:s.data.toList[k]=s[k]:=by simp[ByteArray.getElem_eq_getElem_data]
    show _=_;unfold iO;rw[List.take_succ_eq_append_getElem hkl,List.flatMap_append,hgt];simp
   clear hl2 hc;go_wp2_with fail;refine Calls.mono (qR _).out ?_;rintro e w2 ⟨rfl,hb2,YD,_⟩;rw[Va _ hq2] at hb2;rw[byteCells_snoc] at hb2;have HB2:=(show Hid _ from bN.out.trans YD);have hw2:=HB2.out.size;have afC:(Lib.byteCells (iO s.data.toList k ++ [uw (s[k].toNat / 16)])).length=2*k+1:=by
    have:(iO s.data.toList k).length=2*k:=by simpa [Lib.byteCells] using hbl
    simp[Lib.byteCells,this]
   have YE:=fun c=>(show Hid _ from xK w.heap.size w.heap.size _ c w2 (.inr hb2) (by omega) hw2)
   clear hb2 YD qR hbl;dsimp only
   go_wp2_with fail;refine Calls.mono (YE _).out ?_;rintro e w3 ⟨rfl,hb3,YF,_⟩;rw[Va _ hq3] at hb3;rw[byteCells_snoc,List.append_assoc] at hb3;have HB3:=(show Hid _ from HB2.out.trans YF);have kM:Hid (Lib.IsBuilder 84 5 w.heap.size w.heap.size (Lib.byteCells (iO s.data.toList (k+1))) w3):=by
    rw[lQ.out];exact .inr hb3
   clear hb3 YF YE;dsimp only
   go_wp2;go_roundw;case rel=>exact⟨k+1,by omega,by go_num,HB3.out,kM.out⟩
   case measure=>simp[intOf]<;>omega
  ·obtain rfl:k=s.size:=by omega
   have hne:iO s.data.toList s.size ≠ []:=fun e=>by
    have:=tL s.data.toList s.size (by rw[gI];exact Nat.le_refl _);rw[e] at this;simp at this;omega
   have HST:=(show Hid _ from xk w.heap.size w.heap.size _ wr Ki.out hne);clear hne;go_wp2_with fail;refine Calls.mono HST.out ?_;rintro e w2 ⟨rfl,hb2⟩;have HB2:=(show Hid _ from bN.out.trans hb2);clear hb2;go_wp2;go_ret;exact⟨rfl,HB2.out⟩
end Go.Proofs.YtcemkhalbjhdkaaGreatDoor
