import Derived.Test.YtcemkhalbjhdkaaGreatDoorLabCutGroup
import Derived.Lib.ItoaNum
import Derived.Lib.AtoiAll
import Derived.Test.YtcemkhalbjhdkaaGreatDoorRefTicksGroup
import Derived.Deep.AppendLies
set_option maxRecDepth 1000000
set_option maxHeartbeats 1000000
namespace qx
open Go.Lib bD
def oM (d:Nat):UInt8:=UInt8.ofNat (if d<10 then 48+d else 87+d)
theorem oG:∀ (k u:Nat),u<10 ^ (k+1)->(decDigits u).length<=k+1
 | 0,u,h=>by
  rw[decDigits,dif_pos (by simpa using h)];simp
 | k+1,u,h=>by
  rw[decDigits];split
  ·simp
  ·have:=oG k (u / 10) (by rw[Nat.pow_succ] at h;omega);simp
   omega
theorem om (t:Int) (h0 : -1099511627776<=t) (h1:t<=1099511627776):(itoa t).length<=14:=by
 have e13:(10:Nat) ^ (12+1)=10000000000000:=by decide
 unfold itoa;split
 ·have:=oG 12 t.natAbs (by omega);simp
  omega
 ·have:=oG 12 t.toNat (by omega);omega
variable {ok:List UInt8->Prop} (hok:∀ s,ok s->(∀ c,c∈s->c≠64)/\s.length<=1000)
include hok
omit hok in
omit hok in
omit hok in
omit hok
end qx
namespace Go.Proofs.YtcemkhalbjhdkaaGreatDoor
open Go.RowKit bD qx
theorem Fw (B b:Nat) (bs:List Value) (c:Nat) (w:World) (h:Lib.IsBuilder 84 5 B b bs w) (hlen:bs.length+1<=1000000) (hBw:B<=w.heap.size) :
  Calls Tryz.prog 67 #[.pointer (some ⟨b,0,none⟩),.int .u8 (c:Int)] w fun e w'=>e = .returned .nilIface/\(Lib.BuilderAt 84 5 B b (.pointer (some ⟨b,0,none⟩)) (bs ++ [.int .u8 (c:Int)]) w'/\Below B w w'/\Gv w w'):=by
 obtain⟨i0,hi,hz0,hz1,hz2⟩:=info_parts infoByte;have HI:=(show Hid _ from hi);have HC:Hid _:=Ju B b bs w h;clear h hi;go_enter Tryz.func67,Tryz.ntmps67;go_wp2_with fail;refine Calls.mono HC.out ?_;rintro e w1 ⟨rfl,h1,hb1,ho1⟩;have sQ:=(show Hid _ from ho1);clear ho1;obtain⟨hB,v,hbk,hown,hne⟩:=h1;have c0:w1.cell? ⟨b,0,none⟩=some (.pointer (some ⟨b,0,none⟩)):=by rw[Lib.cell_of_heap hbk];rfl
 have c1:w1.cell? ⟨b,1,none⟩=some v:=by rw[Lib.cell_of_heap hbk];rfl
 have hlt:b<w1.heap.size:=by
  rcases Nat.lt_or_ge b w1.heap.size with h' | h'
  ·exact h'
  ·simp[Array.getElem?_eq_none h'] at hbk
 have hw1:w.heap.size<=w1.heap.size:=hb1.size;have HB1:=(show Hid _ from hb1);have HOW:=(show Hid _ from hown);have PK:=(show Hid _ from hbk);have Dc:=(show Hid _ from hne);have PZ:Hid ((w1.alloc (.cells #[.int .u8 (c:Int)] 5)).ownsRow B 5 1 v bs.length bs):=hown.alloc _;have nH:Hid (∀ i z,([.int .u8 (c:Int)]:List Value)[i]? = some z->(w1.alloc (.cells #[.int .u8 (c:Int)] 5)).cell? ((⟨w1.heap.size,0,none⟩:Addr).add i)=some z):=World.news_of_block (heap_alloc_new w1 _);have qD:Hid (∀ z∈([.int .u8 (c:Int)]:List Value),z.oneCell'=true):=by
  intro z hz;simp at hz;subst hz;rfl
 clear hown hbk hne hb1;go_wp2_with (at_builtin;refine wpList_append_lies _ rfl _ _ 82 rfl B 5 i0 (.int .u8 0) 1 1 Tryz.underlying82 HI.out hz0 hz1 hz2 rfl (by decide) _ _ _ rfl PZ.out ⟨w1.heap.size,0,none⟩ 1 1 [.int .u8 (c:Int)] rfl rfl nH.out qD.out (by omega) (by unfold maxLen;omega) (by omega) (by simp;omega) _ rfl ?_);intro g7 iU w7 dW nI qJ MH;have o9:(w1.alloc (.cells #[.int .u8 (c:Int)] 5)).heap[b]? = some (.cells #[.pointer (some ⟨b,0,none⟩),v] 84 (0,0)):=(heap_alloc_old _ _ hlt).trans PK.out;have qb:w7.heap[b]? = some (.cells #[.pointer (some ⟨b,0,none⟩),v] 84 (0,0)):=(nI.block b (by simp;omega) (fun e=>Dc.out e.symm)).trans o9;have d0:w7.cell? ⟨b,0,none⟩=some (.pointer (some ⟨b,0,none⟩)):=by rw[Lib.cell_of_heap qb];rfl
 have d1:w7.cell? ⟨b,1,none⟩=some v:=by rw[Lib.cell_of_heap qb];rfl
 have f1:w7.frozen? ⟨b,1,none⟩=false:=Lib.frozen_of_heap qb 1;have iG:Hid (Lib.BuilderAt 84 5 B b (.pointer (some ⟨b,0,none⟩)) (bs ++ [.int .u8 (c:Int)]) (w7.setCell ⟨b,1,none⟩ (.slice (some ⟨g7,0,none⟩) (bs.length+1) iU))/\Below B w (w7.setCell ⟨b,1,none⟩ (.slice (some ⟨g7,0,none⟩) (bs.length+1) iU))/\Gv w (w7.setCell ⟨b,1,none⟩ (.slice (some ⟨g7,0,none⟩) (bs.length+1) iU))):=by
  refine⟨Lib.BuilderAt.put (T:=84) (e:=5) hB qb (bs':=bs ++ [.int .u8 (c:Int)]) (by simpa using dW) (by decide),?_,?_⟩
  ·exact ((HB1.out.alloc (by omega) _).grown nI (by simp;omega) (fun k hk=>(PZ.out.lt k hk).1)).setCell (p:=⟨b,1,none⟩) hB _
  ·intro k cs t fr hk h8 hT;have hk1:=sQ.out k cs t fr hk h8 hT;have hkl:k<w1.heap.size:=by
    rcases Nat.lt_or_ge k w1.heap.size with h' | h'
    ·exact h'
    ·simp[Array.getElem?_eq_none h'] at hk1
   have hk2:w7.heap[k]? = some (.cells cs t fr):=(nI.block k (by simp;omega) (fun e=>Lib.ownBlock_ne HOW.out hk1 h8 e.symm)).trans ((heap_alloc_old _ _ hkl).trans hk1);rw[Below.heap_setCell _ _ _ _ (fun e=>?_)]
   ·exact hk2
   ·have e':k=b:=e;subst e';rw[PK.out] at hk1;injection hk1 with hk1;injection hk1 with h1 h2 h3;exact hT h2.symm
 clear dW nI qJ MH o9 qb;go_wp2;go_ret;exact⟨rfl,iG.out⟩
theorem byteCells_snoc (l:List UInt8) (c:UInt8):Lib.byteCells l ++ [.int .u8 (c.toNat:Int)]=Lib.byteCells (l ++ [c]):=by simp[Lib.byteCells]
theorem Nt (s:ByteArray):s.data.toList.length=s.size:=Array.length_toList
theorem Yq (a:Nat) (h:a<16):((⟨#[48,49,50,51,52,53,54,55,56,57,97,98,99,100,101,102]⟩:ByteArray)[a]'h).toNat=(oM a).toNat:=by
 rcases (by omega:a=0\/a=1\/a=2\/a=3\/a=4\/a=5\/a=6\/a=7\/a=8\/a=9\/a=10\/a=11\/a=12\/a=13\/a=14\/a=15) with rfl | rfl | rfl | rfl | rfl | rfl | rfl | rfl | rfl | rfl | rfl | rfl | rfl | rfl | rfl | rfl;all_goals rfl
def fG (l:List UInt8) (k:Nat):List UInt8:=(l.take k).flatMap fun c=>[oM (c.toNat / 16),oM (c.toNat % 16)]
theorem sI (l:List UInt8):∀ k,k<=l.length->(fG l k).length=2*k
 | 0,_=>rfl
 | k+1,h=>by
  have ih:=sI l k (by omega);unfold fG at ih ⊢;rw[List.take_succ_eq_append_getElem (by omega),List.flatMap_append,List.length_append,ih];simp
  omega
theorem Nu (w:World) (s:ByteArray) (h0:1<=s.size) (hs:s.size<=10000) :
  Calls Tryz.prog 40 #[.string s] w fun e w'=>e = .returned (.string ⟨(fG s.data.toList s.size).toArray⟩)/\Below w.heap.size w w':=by
 obtain⟨W,hW⟩:∃ W,W=w.alloc (.cells #[.pointer none,.slice none 0 0] 84):=⟨_,rfl⟩;have HW:Hid (∀ wx,wx=w.alloc (.cells #[.pointer none,.slice none 0 0] 84)->wx=W):=fun wx h=>h.trans hW.symm
 have DX:Hid (Lib.IsBuilder 84 5 w.heap.size w.heap.size (Lib.byteCells (fG s.data.toList 0)) W):=by
  refine .inl ⟨Nat.le_refl _,.slice none 0 0,?_,?_,by simp[Value.ownBlock]⟩
  ·rw[hW];exact heap_alloc_new _ _
  ·exact⟨by simp[Lib.byteCells,fG],.inl ⟨rfl,rfl⟩⟩
 have Fh:Hid (Below w.heap.size w W):=by rw[hW];exact (Below.refl _ _).alloc (Nat.le_refl _) _
 have hWs:w.heap.size<=W.heap.size:=Fh.out.size;clear hW;go_enter Tryz.func40,Tryz.ntmps40;go_wp2_with fail;rw[HW.out _ rfl];go_loopw [7] (fun i wr=>∃ k:Nat,k<=s.size/\i = .int .i64 k/\Below w.heap.size w wr/\Lib.IsBuilder 84 5 w.heap.size w.heap.size (Lib.byteCells (fG s.data.toList k)) wr) (fun i _=>s.size-(intOf i).toNat);case atStart=>exact⟨0,Nat.zero_le _,rfl,Fh.out,DX.out⟩
 case round=>
  obtain⟨k,hk,rfl,hbr,hib⟩:=hrel;have bJ:=(show Hid _ from hbr);have ab3:=(show Hid _ from hib);have hwr:=hbr.size;clear hbr hib;by_cases hkn:k<s.size
  ·have k0:(0:Int)<=(k:Int):=by omega
   have k1:(k:Int)<(s.size:Int):=by omega
   have hc:=s[k].toNat_lt;have hq1:(s[k].toNat:Int) / 16<16:=by omega
   have hq2:s[k].toNat / 16<16:=by omega
   have hq3:s[k].toNat % 16<16:=by omega
   have hq4:(s[k].toNat:Int) % 16<16:=by omega
   have hl2:=sI s.data.toList k (by rw[Nt];exact hk);have hbl:(Lib.byteCells (fG s.data.toList k)).length=2*k:=by simp[Lib.byteCells,hl2]
   have wX:=fun c=>(show Hid _ from Fw w.heap.size w.heap.size _ c wr ab3.out (by omega) hwr)
   have mg:Hid (fG s.data.toList (k+1)=fG s.data.toList k ++ [oM (s[k].toNat / 16),oM (s[k].toNat % 16)]):=by
    have hkl:k<s.data.toList.length:=by rw[Nt];exact hkn
    have hgt:s.data.toList[k]=s[k]:=by simp[ByteArray.getElem_eq_getElem_data]
    show _=_;unfold fG;rw[List.take_succ_eq_append_getElem hkl,List.flatMap_append,hgt];simp
   clear hl2 hc;go_wp2_with fail;refine Calls.mono (wX _).out ?_;rintro e w2 ⟨rfl,hb2,ab4,_⟩;rw[Yq _ hq2] at hb2;rw[byteCells_snoc] at hb2;have HB2:=(show Hid _ from bJ.out.trans ab4);have hw2:=HB2.out.size;have aj5:(Lib.byteCells (fG s.data.toList k ++ [oM (s[k].toNat / 16)])).length=2*k+1:=by
    have:(fG s.data.toList k).length=2*k:=by simpa [Lib.byteCells] using hbl
    simp[Lib.byteCells,this]
   have ab5:=fun c=>(show Hid _ from Fw w.heap.size w.heap.size _ c w2 (.inr hb2) (by omega) hw2)
   clear hb2 ab4 wX hbl;dsimp only
   go_wp2_with fail;refine Calls.mono (ab5 _).out ?_;rintro e w3 ⟨rfl,hb3,ab6,_⟩;rw[Yq _ hq3] at hb3;rw[byteCells_snoc,List.append_assoc] at hb3;have HB3:=(show Hid _ from HB2.out.trans ab6);have iG:Hid (Lib.IsBuilder 84 5 w.heap.size w.heap.size (Lib.byteCells (fG s.data.toList (k+1))) w3):=by
    rw[mg.out];exact .inr hb3
   clear hb3 ab6 ab5;dsimp only
   go_wp2;go_roundw;case rel=>exact⟨k+1,by omega,by go_num,HB3.out,iG.out⟩
   case measure=>simp[intOf]<;>omega
  ·obtain rfl:k=s.size:=by omega
   have hne:fG s.data.toList s.size ≠ []:=fun e=>by
    have:=sI s.data.toList s.size (by rw[Nt];exact Nat.le_refl _);rw[e] at this;simp at this;omega
   have HST:=(show Hid _ from EN w.heap.size w.heap.size _ wr ab3.out hne);clear hne;go_wp2_with fail;refine Calls.mono HST.out ?_;rintro e w2 ⟨rfl,hb2⟩;have HB2:=(show Hid _ from bJ.out.trans hb2);clear hb2;go_wp2;go_ret;exact⟨rfl,HB2.out⟩
end Go.Proofs.YtcemkhalbjhdkaaGreatDoor
