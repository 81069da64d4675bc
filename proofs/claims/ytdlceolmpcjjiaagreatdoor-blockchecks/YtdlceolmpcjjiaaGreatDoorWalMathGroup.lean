import Derived.Test.YtdlceolmpcjjiaaGreatDoorLabCutGroup
import Derived.Lib.ItoaNum
import Derived.Lib.AtoiAll
import Derived.Test.YtdlceolmpcjjiaaGreatDoorRefTicksGroup
import Derived.Deep.AppendLies
set_option maxRecDepth 1000000
set_option maxHeartbeats 1000000
namespace qy
open Go.Lib bF
def oN (d:Nat):UInt8:=UInt8.ofNat (if d<10 then 48+d else 87+d)
theorem oH:∀ (k u:Nat),u<10 ^ (k+1)->(decDigits u).length<=k+1
 | 0,u,h=>by
  rw[decDigits,dif_pos (by simpa using h)];simp
 | k+1,u,h=>by
  rw[decDigits];split
  ·simp
  ·have:=oH k (u / 10) (by rw[Nat.pow_succ] at h;omega);simp
   omega
theorem ou (t:Int) (h0 : -1099511627776<=t) (h1:t<=1099511627776):(itoa t).length<=14:=by
 have e13:(10:Nat) ^ (12+1)=10000000000000:=by decide
 unfold itoa;split
 ·have:=oH 12 t.natAbs (by omega);simp
  omega
 ·have:=oH 12 t.toNat (by omega);omega
variable {ok:List UInt8->Prop} (hok:∀ s,ok s->(∀ c,c∈s->c≠64)/\s.length<=1000)
include hok
omit hok in
omit hok in
omit hok in
omit hok
end qy
namespace Go.Proofs.YtdlceolmpcjjiaaGreatDoor
open Go.RowKit bF qy
theorem Fq (B b:Nat) (bs:List Value) (c:Nat) (w:World) (h:Lib.IsBuilder 86 5 B b bs w) (hlen:bs.length+1<=1000000) (hBw:B<=w.heap.size) :
  Calls Tryz.prog 69 #[.pointer (some ⟨b,0,none⟩),.int .u8 (c:Int)] w fun e w'=>e = .returned .nilIface/\(Lib.BuilderAt 86 5 B b (.pointer (some ⟨b,0,none⟩)) (bs ++ [.int .u8 (c:Int)]) w'/\Below B w w'/\Gs w w'):=by
 obtain⟨i0,hi,hz0,hz1,hz2⟩:=info_parts infoByte;have HI:=(show Hid _ from hi);have HC:Hid _:=Jr B b bs w h;clear h hi;go_enter Tryz.func69,Tryz.ntmps69;go_wp2_with fail;refine Calls.mono HC.out ?_;rintro e w1 ⟨rfl,h1,hb1,ho1⟩;have sS:=(show Hid _ from ho1);clear ho1;obtain⟨hB,v,hbk,hown,hne⟩:=h1;have c0:w1.cell? ⟨b,0,none⟩=some (.pointer (some ⟨b,0,none⟩)):=by rw[Lib.cell_of_heap hbk];rfl
 have c1:w1.cell? ⟨b,1,none⟩=some v:=by rw[Lib.cell_of_heap hbk];rfl
 have hlt:b<w1.heap.size:=by
  rcases Nat.lt_or_ge b w1.heap.size with h' | h'
  ·exact h'
  ·simp[Array.getElem?_eq_none h'] at hbk
 have hw1:w.heap.size<=w1.heap.size:=hb1.size;have HB1:=(show Hid _ from hb1);have HOW:=(show Hid _ from hown);have Px:=(show Hid _ from hbk);have C9:=(show Hid _ from hne);have PO:Hid ((w1.alloc (.cells #[.int .u8 (c:Int)] 5)).ownsRow B 5 1 v bs.length bs):=hown.alloc _;have nI:Hid (∀ i z,([.int .u8 (c:Int)]:List Value)[i]? = some z->(w1.alloc (.cells #[.int .u8 (c:Int)] 5)).cell? ((⟨w1.heap.size,0,none⟩:Addr).add i)=some z):=World.news_of_block (heap_alloc_new w1 _);have qE:Hid (∀ z∈([.int .u8 (c:Int)]:List Value),z.oneCell'=true):=by
  intro z hz;simp at hz;subst hz;rfl
 clear hown hbk hne hb1;go_wp2_with (at_builtin;refine wpList_append_lies _ rfl _ _ 84 rfl B 5 i0 (.int .u8 0) 1 1 Tryz.underlying84 HI.out hz0 hz1 hz2 rfl (by decide) _ _ _ rfl PO.out ⟨w1.heap.size,0,none⟩ 1 1 [.int .u8 (c:Int)] rfl rfl nI.out qE.out (by omega) (by unfold maxLen;omega) (by omega) (by simp;omega) _ rfl ?_);intro g7 iW w7 dX nJ qK Mx;have pq:(w1.alloc (.cells #[.int .u8 (c:Int)] 5)).heap[b]? = some (.cells #[.pointer (some ⟨b,0,none⟩),v] 86 (0,0)):=(heap_alloc_old _ _ hlt).trans Px.out;have qc:w7.heap[b]? = some (.cells #[.pointer (some ⟨b,0,none⟩),v] 86 (0,0)):=(nJ.block b (by simp;omega) (fun e=>C9.out e.symm)).trans pq;have d0:w7.cell? ⟨b,0,none⟩=some (.pointer (some ⟨b,0,none⟩)):=by rw[Lib.cell_of_heap qc];rfl
 have d1:w7.cell? ⟨b,1,none⟩=some v:=by rw[Lib.cell_of_heap qc];rfl
 have f1:w7.frozen? ⟨b,1,none⟩=false:=Lib.frozen_of_heap qc 1;have iI:Hid (Lib.BuilderAt 86 5 B b (.pointer (some ⟨b,0,none⟩)) (bs ++ [.int .u8 (c:Int)]) (w7.setCell ⟨b,1,none⟩ (.slice (some ⟨g7,0,none⟩) (bs.length+1) iW))/\Below B w (w7.setCell ⟨b,1,none⟩ (.slice (some ⟨g7,0,none⟩) (bs.length+1) iW))/\Gs w (w7.setCell ⟨b,1,none⟩ (.slice (some ⟨g7,0,none⟩) (bs.length+1) iW))):=by
  refine⟨Lib.BuilderAt.put (T:=86) (e:=5) hB qc (bs':=bs ++ [.int .u8 (c:Int)]) (by simpa using dX) (by decide),?_,?_⟩
  ·exact ((HB1.out.alloc (by omega) _).grown nJ (by simp;omega) (fun k hk=>(PO.out.lt k hk).1)).setCell (p:=⟨b,1,none⟩) hB _
  ·intro k cs t fr hk h8 hT;have hk1:=sS.out k cs t fr hk h8 hT;have hkl:k<w1.heap.size:=by
    rcases Nat.lt_or_ge k w1.heap.size with h' | h'
    ·exact h'
    ·simp[Array.getElem?_eq_none h'] at hk1
   have hk2:w7.heap[k]? = some (.cells cs t fr):=(nJ.block k (by simp;omega) (fun e=>Lib.ownBlock_ne HOW.out hk1 h8 e.symm)).trans ((heap_alloc_old _ _ hkl).trans hk1);rw[Below.heap_setCell _ _ _ _ (fun e=>?_)]
   ·exact hk2
   ·have e':k=b:=e;subst e';rw[Px.out] at hk1;injection hk1 with hk1;injection hk1 with h1 h2 h3;exact hT h2.symm
 clear dX nJ qK Mx pq qc;go_wp2;go_ret;exact⟨rfl,iI.out⟩
theorem byteCells_snoc (l:List UInt8) (c:UInt8):Lib.byteCells l ++ [.int .u8 (c.toNat:Int)]=Lib.byteCells (l ++ [c]):=by simp[Lib.byteCells]
theorem Nl (s:ByteArray):s.data.toList.length=s.size:=Array.length_toList
theorem Yk (a:Nat) (h:a<16):((⟨#[48,49,50,51,52,53,54,55,56,57,97,98,99,100,101,102]⟩:ByteArray)[a]'h).toNat=(oN a).toNat:=by
 rcases (by omega:a=0\/a=1\/a=2\/a=3\/a=4\/a=5\/a=6\/a=7\/a=8\/a=9\/a=10\/a=11\/a=12\/a=13\/a=14\/a=15) with rfl | rfl | rfl | rfl | rfl | rfl | rfl | rfl | rfl | rfl | rfl | rfl | rfl | rfl | rfl | rfl;all_goals rfl
def fH (l:List UInt8) (k:Nat):List UInt8:=(l.take k).flatMap fun c=>[oN (c.toNat / 16),oN (c.toNat % 16)]
theorem sJ (l:List UInt8):∀ k,k<=l.length->(fH l k).length=2*k
 | 0,_=>rfl
 | k+1,h=>by
  have ih:=sJ l k (by omega);unfold fH at ih ⊢;rw[List.take_succ_eq_append_getElem (by omega),List.flatMap_append,List.length_append,ih];simp
  omega
theorem Nn (w:World) (s:ByteArray) (h0:1<=s.size) (hs:s.size<=10000) :
  Calls Tryz.prog 42 #[.string s] w fun e w'=>e = .returned (.string ⟨(fH s.data.toList s.size).toArray⟩)/\Below w.heap.size w w':=by
 obtain⟨W,hW⟩:∃ W,W=w.alloc (.cells #[.pointer none,.slice none 0 0] 86):=⟨_,rfl⟩;have HW:Hid (∀ wx,wx=w.alloc (.cells #[.pointer none,.slice none 0 0] 86)->wx=W):=fun wx h=>h.trans hW.symm
 have DU:Hid (Lib.IsBuilder 86 5 w.heap.size w.heap.size (Lib.byteCells (fH s.data.toList 0)) W):=by
  refine .inl ⟨Nat.le_refl _,.slice none 0 0,?_,?_,by simp[Value.ownBlock]⟩
  ·rw[hW];exact heap_alloc_new _ _
  ·exact⟨by simp[Lib.byteCells,fH],.inl ⟨rfl,rfl⟩⟩
 have Fb:Hid (Below w.heap.size w W):=by rw[hW];exact (Below.refl _ _).alloc (Nat.le_refl _) _
 have hWs:w.heap.size<=W.heap.size:=Fb.out.size;clear hW;go_enter Tryz.func42,Tryz.ntmps42;go_wp2_with fail;rw[HW.out _ rfl];go_loopw [7] (fun i wr=>∃ k:Nat,k<=s.size/\i = .int .i64 k/\Below w.heap.size w wr/\Lib.IsBuilder 86 5 w.heap.size w.heap.size (Lib.byteCells (fH s.data.toList k)) wr) (fun i _=>s.size-(intOf i).toNat);case atStart=>exact⟨0,Nat.zero_le _,rfl,Fb.out,DU.out⟩
 case round=>
  obtain⟨k,hk,rfl,hbr,hib⟩:=hrel;have bK:=(show Hid _ from hbr);have abX:=(show Hid _ from hib);have hwr:=hbr.size;clear hbr hib;by_cases hkn:k<s.size
  ·have k0:(0:Int)<=(k:Int):=by omega
   have k1:(k:Int)<(s.size:Int):=by omega
   have hc:=s[k].toNat_lt;have hq1:(s[k].toNat:Int) / 16<16:=by omega
   have hq2:s[k].toNat / 16<16:=by omega
   have hq3:s[k].toNat % 16<16:=by omega
   have hq4:(s[k].toNat:Int) % 16<16:=by omega
   have hl2:=sJ s.data.toList k (by rw[Nl];exact hk);have hbl:(Lib.byteCells (fH s.data.toList k)).length=2*k:=by simp[Lib.byteCells,hl2]
   have wX:=fun c=>(show Hid _ from Fq w.heap.size w.heap.size _ c wr abX.out (by omega) hwr)
   have mh:Hid (fH s.data.toList (k+1)=fH s.data.toList k ++ [oN (s[k].toNat / 16),oN (s[k].toNat % 16)]):=by
    have hkl:k<s.data.toList.length:=by rw[Nl];exact hkn
    have hgt:s.data.toList[k]=s[k]:=by simp[ByteArray.getElem_eq_getElem_data]
    show _=_;unfold fH;rw[List.take_succ_eq_append_getElem hkl,List.flatMap_append,hgt];simp
   clear hl2 hc;go_wp2_with fail;refine Calls.mono (wX _).out ?_;rintro e w2 ⟨rfl,hb2,abY,_⟩;rw[Yk _ hq2] at hb2;rw[byteCells_snoc] at hb2;have HB2:=(show Hid _ from bK.out.trans abY);have hw2:=HB2.out.size;have ajZ:(Lib.byteCells (fH s.data.toList k ++ [oN (s[k].toNat / 16)])).length=2*k+1:=by
    have:(fH s.data.toList k).length=2*k:=by simpa [Lib.byteCells] using hbl
    simp[Lib.byteCells,this]
   have abZ:=fun c=>(show Hid _ from Fq w.heap.size w.heap.size _ c w2 (.inr hb2) (by omega) hw2)
   clear hb2 abY wX hbl;dsimp only
   go_wp2_with fail;refine Calls.mono (abZ _).out ?_;rintro e w3 ⟨rfl,hb3,ab0,_⟩;rw[Yk _ hq3] at hb3;rw[byteCells_snoc,List.append_assoc] at hb3;have HB3:=(show Hid _ from HB2.out.trans ab0);have iI:Hid (Lib.IsBuilder 86 5 w.heap.size w.heap.size (Lib.byteCells (fH s.data.toList (k+1))) w3):=by
    rw[mh.out];exact .inr hb3
   clear hb3 ab0 abZ;dsimp only
   go_wp2;go_roundw;case rel=>exact⟨k+1,by omega,by go_num,HB3.out,iI.out⟩
   case measure=>simp[intOf]<;>omega
  ·obtain rfl:k=s.size:=by omega
   have hne:fH s.data.toList s.size ≠ []:=fun e=>by
    have:=sJ s.data.toList s.size (by rw[Nl];exact Nat.le_refl _);rw[e] at this;simp at this;omega
   have HST:=(show Hid _ from EK w.heap.size w.heap.size _ wr abX.out hne);clear hne;go_wp2_with fail;refine Calls.mono HST.out ?_;rintro e w2 ⟨rfl,hb2⟩;have HB2:=(show Hid _ from bK.out.trans hb2);clear hb2;go_wp2;go_ret;exact⟨rfl,HB2.out⟩
end Go.Proofs.YtdlceolmpcjjiaaGreatDoor
