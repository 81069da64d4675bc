import Derived.Test.YtalliohkalnaeaaGreatDoorSortStr
import Derived.Deep.AppendLies
import Derived.Test.YtalliohkalnaeaaGreatDoorHeadAtGroup
import Derived.Test.YtalliohkalnaeaaGreatDoorPtListGroup
import Derived.Sort.KeysCollected
namespace Go.Proofs.YtalliohkalnaeaaGreatDoor
open Go.RowKit Go.Maps bN aF aZ
theorem D8 (a b:List UInt8):(Lit.string a).sameKey (.string b)=decide (a=b):=by
 by_cases h:a=b
 ·subst h;simp[Lit.sameKey]
 ·have:(Lit.string a) ≠ .string b:=fun e=>h (by injection e)
  rw[sameKey_ne this];simp[h]
end Go.Proofs.YtalliohkalnaeaaGreatDoor
set_option maxRecDepth 1000000
set_option maxHeartbeats 1000000
namespace Go.Proofs.YtalliohkalnaeaaGreatDoor
open Go.RowKit Go.Maps bN aF aZ
structure Coll (S:List Sr) (left:Lit->Bool) (ss:List (List UInt8)):Prop where
 nodup:ss.Nodup
 mem:∀ k,k∈ss↔k∈bU S/\left (.string k)=false
theorem Coll.start (S:List Sr) (left:Lit->Bool) (h:∀ l,l∈S->left (.string l.key)=true):Coll S left []:=by
 refine⟨List.nodup_nil,fun k=>⟨fun h1=>absurd h1 List.not_mem_nil,fun h1=>?_⟩⟩;obtain⟨l,hl,rfl,_⟩:=jk.1 h1.1;have h2:=h1.2;rw[h l hl] at h2;cases h2
theorem Coll.skip {S:List Sr} {left:Lit->Bool} {ss:List (List UInt8)} (h:Coll S left ss) {x:List UInt8} (hx:x∉bU S):Coll S (fun z=>left z && !z.sameKey (.string x)) ss:=by
 refine⟨h.nodup,fun k=>?_⟩;rw[h.mem,D8];by_cases e:k=x
 ·subst e;exact⟨fun h=>absurd h.1 hx,fun h=>absurd h.1 hx⟩
 ·simp[e]
theorem Coll.put {S:List Sr} {left:Lit->Bool} {ss:List (List UInt8)} (h:Coll S left ss) {x:List UInt8} (hx:x∈bU S) (hl:left (.string x)=true):Coll S (fun z=>left z && !z.sameKey (.string x)) (ss ++ [x]):=by
 have hn:x∉ss:=fun e=>by
  have:=((h.mem x).1 e).2;rw[hl] at this;cases this
 refine⟨List.nodup_append.2 ⟨h.nodup,List.pairwise_singleton ..,fun a ha b hb=>?_⟩,fun k=>?_⟩
 ·simp at hb;subst hb;intro e;subst e;exact hn ha
 ·rw[List.mem_append,h.mem,D8];by_cases e:k=x
  ·subst e;simp[hx]
  ·simp[e]
theorem Coll.sorted {S:List Sr} {left:Lit->Bool} {ss:List (List UInt8)} (h:Coll S left ss) (hS:S.Pairwise fun a b=>a.key<b.key) (hl:∀ kl,left kl=false):ss.mergeSort leB=bU S:=by
 have hp:ss.Perm (bU S):=(List.perm_ext_iff_of_nodup h.nodup (uG hS)).2 fun k=>by rw[h.mem,hl];simp
 have tr:∀ a b c:List UInt8,leB a b=true->leB b c=true->leB a c=true:=fun a b c h1 h2=>by simp only[leB,decide_eq_true_eq] at *;exact List.le_trans h1 h2
 have tot:∀ a b:List UInt8,(leB a b||leB b a)=true:=fun a b=>by simp only[leB,Bool.or_eq_true,decide_eq_true_eq];exact List.le_total a b
 refine List.Perm.eq_of_pairwise (le:=fun a b=>leB a b=true) (fun a b _ _ h1 h2=>?_) (List.pairwise_mergeSort tr tot ss) ((sK hS).imp fun {a b} hab=>by simp only[leB,decide_eq_true_eq];exact List.le_of_lt hab) ((List.mergeSort_perm ss leB).trans hp);simp only[leB,decide_eq_true_eq] at h1 h2;exact List.le_antisymm h1 h2
theorem Tryz.infoStr2:(Tryz.prog.info? 9).map (fun i=>(i.zero,i.size,i.bytes))=some (some (.string ⟨#[]⟩),1,16):=by kernel_rfl
theorem D9 (w:World) (hb mb:Nat) (S:List Sr) (bl:List UInt8->Nat) (sv:List UInt8->Value) (h:bZ w hb mb S bl sv) (hS:S.Pairwise fun a b=>a.key<b.key) (hn:S.length<=1000) :
  Calls Tryz.prog 50 #[.pointer (some ⟨hb,0,none⟩)] w fun e w'=>∃ v,e = .returned v/\Below w.heap.size w w'/\w'.ownsRow w.heap.size 9 1 v (bU S).length ((bU S).map encStr):=by
 have HH:Hid (bZ w hb mb S bl sv):=h;have c0:=h.cell;obtain⟨D,h1,h2,h3,h4⟩:=h.map;have HD:Hid (w.ownsMap Tryz.prog 9 gQ mb S.length D/\Maps.size D=S.length/\(∀ k,Maps.has D (.string k)=known S k)/\∀ l,l∈S->∀ z,D.atKey (.string l.key) z = .held (.pointer (some ⟨bl l.key,0,none⟩))):=⟨h1,h2,h3,h4⟩;have HS:=(show Hid _ from hS);have hml:mb<w.heap.size:=h1.lt;obtain⟨iS,hI,hI0,hI1,hI2⟩:=info_parts Tryz.infoStr2;have Tw:=(show Hid _ from hI);clear h h1 h2 h3 h4 hS hI;go_enter Tryz.func50,Tryz.ntmps50;go_wp2_with (at_range;refine wpList_range_own _ rfl _ 137 rfl 9 136 Af Tryz.underlying137 _ mb S.length D rfl HD.out.1 ?_;intro w0 hrg0 hg0 hs0);go_frame;have H0:Hid (w0.ranges Tryz.prog 9 gQ mb w.heap.size S.length D (Maps.has D) (Maps.size D)/\Below w.heap.size w w0):=⟨hrg0,⟨hg0.os,hg0.tape,hg0.output,hg0.size,fun b hb'=>hg0.block b hb' (by simp)⟩⟩;clear hrg0 hg0 hs0;go_loopw [3] (fun v wr=>∃ left cnt ss,Coll S left ss/\(ss = []->v = .slice none 0 0)/\ss.length+cnt<=S.length/\wr.ownsRow w.heap.size 9 1 v ss.length (ss.map encStr)/\wr.ranges Tryz.prog 9 gQ mb w.heap.size S.length D left cnt/\Below w.heap.size w wr) (fun _ wr=>wr.rangeLeft mb w.heap.size);case atStart=>exact⟨Maps.has D,Maps.size D,[],Coll.start _ _ fun l hl=>by rw[HD.out.2.2.1];exact cZ.2 ⟨l,hl,rfl⟩,fun _=>rfl,by rw[HD.out.2.1];simp,⟨rfl,.inl ⟨rfl,rfl⟩⟩,H0.out.1,H0.out.2⟩
 case round=>
  obtain⟨left,cnt,ss,hco,hz,hcn,hown,hrg,hbr⟩:=hrel;have F8:=(show Hid _ from hrg);have bq:=(show Hid _ from hbr);have HCO:=(show Hid _ from hco);have HZ:=(show Hid _ from hz);have HOW:=(show Hid _ from hown);clear hrg hbr hco hz hown;go_wp2_with (at_next;refine wpList_next_ranges _ rfl _ rfl 9 Af gQ encStr (fun v:Value=>v) (fun key kl hk=>by obtain⟨x,hx,_⟩:=Maps.keyOf_str Tryz.underlying9 hk;exact⟨x,hx⟩) (fun v y hv=>⟨v,rfl⟩) mb w.heap.size S.length _ _ _ rfl F8.out ?_ ?_)
  ·intro _ hl0;have Yl:Hid (ss.mergeSort leB=bU S):=HCO.out.sorted HS.out hl0;have HST:=(show Hid _ from N9 wr w.heap.size _ ss HOW.out (by omega) HZ.out);clear hl0;go_wp2_with fail;refine Calls.mono HST.out ?_;rintro e w3 ⟨rfl,hown3,Hy⟩;have hlen:ss.length=(bU S).length:=by rw[<-Yl.out];simp
   rw[Yl.out,hlen] at hown3;have HB3:Hid (Below w.heap.size w w3):=bq.out.trans ⟨Hy.os,Hy.tape,Hy.output,Hy.size,fun b hb'=>Hy.block b (Nat.lt_of_lt_of_le hb' bq.out.size) (fun e=>row_ne_low HOW.out hb' e)⟩;have Lm:=(show Hid _ from hown3);clear hown3 Hy hlen;go_wp2;go_ret;exact⟨_,by rfl,HB3.out,Lm.out⟩
  ·intro x c kl yd yp w2 cnt2 hkey hlk hv hat hrg2 hlt hg2 hs2 hen;obtain⟨x',ex,rfl,_⟩:=Maps.keyOf_str Tryz.underlying9 hkey;obtain rfl:x=x':=encStr_inj ex;have hkn:known S x=true:=by rw[<-HD.out.2.2.1];exact has_true_of_atKey hat
   obtain⟨l,hl,hlx⟩:=cZ.1 hkn;have hcv:c = .pointer (some ⟨bl l.key,0,none⟩):=by
    have h5:=HD.out.2.2.2 l hl .nil;rw[hlx] at h5;rw[hat .nil] at h5;simp only[gQ,Option.some.injEq,Prod.mk.injEq] at hv;rw[hlx];have:=hv.1.trans h5;injection this
   subst hcv;have hln:=HH.out.line l hl;obtain⟨a,cc,hsv,_⟩:=iq (HH.out.row l hl);rw[hsv] at hln;have HB2:Hid (Below w.heap.size w w2):=bq.out.trans ⟨hg2.os,hg2.tape,hg2.output,hg2.size,fun b hb'=>hg2.block b (Nat.lt_of_lt_of_le hb' bq.out.size) (fun e=>by injection e with e;omega)⟩;have q0:w2.cell? ⟨bl l.key,0,none⟩=some (.slice a l.pts.length cc):=(HB2.out.cell (p:=⟨bl l.key,0,none⟩) (aI hln)).trans (by simp[World.cell?,hln]);have wW:Hid (w2.ownsRow w.heap.size 9 1 u3 ss.length (ss.map encStr)):=bL HOW.out fun g hg=>hg2.block g (aJ HOW.out hg).2.1 (fun e=>row_ne_iter HOW.out F8.out (by rw[hg];exact e.symm))
   have uO:=(show Hid _ from And.intro hrg2 hlt);have hw2:w.heap.size<=w2.heap.size:=HB2.out.size;have aj1:cnt2<cnt:=hlt;have Lp:=(show Hid _ from hlk);have pK:Hid (x∈bU S↔0<l.pts.length):=by
    constructor
    ·intro hx;obtain⟨m,hm,hmk,hmp⟩:=jk.1 hx;have:=uniq HS.out hm hl (hmk.trans hlx.symm);subst this;exact List.length_pos_iff.2 hmp
    ·exact fun hx=>jk.2 ⟨l,hl,hlx,List.length_pos_iff.1 hx⟩
   clear hkey ex hv hat hrg2 hlt hg2 hs2 hkn hlx hln hsv hlk;by_cases hp:0<l.pts.length
   ·have hp':decide ((0:Int)<(l.pts.length:Int))=true:=decide_eq_true (by omega);have zk:Hid ((w2.alloc (.cells #[encStr x] 9)).ownsRow w.heap.size 9 1 u3 ss.length (ss.map encStr)):=wW.out.alloc _;have kW:Hid (∀ j u,[encStr x][j]? = some u->(w2.alloc (.cells #[encStr x] 9)).cell? ((⟨w2.heap.size,0,none⟩:Addr).add j)=some u):=World.news_of_block (cs:=#[encStr x]) (heap_alloc_new _ _);have rE:Hid (∀ u ∈ [encStr x],u.oneCell'=true):=fun u hu=>by simp at hu;subst hu;rfl
    go_wp2_with (at_builtin;refine wpList_append_lies _ rfl _ _ 48 rfl w.heap.size 9 iS (.string ⟨#[]⟩) 1 16 Tryz.underlying48 Tw.out hI0 hI1 hI2 rfl (by decide) _ _ _ rfl zk.out ⟨w2.heap.size,0,none⟩ 1 1 [encStr x] rfl rfl kW.out rE.out (by omega) (by unfold maxLen;omega) (by omega) (by simp;omega) _ rfl ?_);intro g7 gD w7 dD gG _ _;have HR7:Hid (w7.ranges Tryz.prog 9 gQ mb w.heap.size S.length D (fun z=>left z && !z.sameKey (.string x)) cnt2):=(uO.out.1.alloc _).kept gG (row_ne_low wW.out hml) (row_ne_iter wW.out uO.out.1);have O3:Hid (Below w.heap.size w w7):=(HB2.out.alloc hw2 _).trans ⟨gG.os,gG.tape,gG.output,gG.size,fun b hb'=>gG.block b (by simp;omega) (row_ne_low wW.out hb')⟩;have Bb:Hid (w7.ownsRow w.heap.size 9 1 (.slice (some ⟨g7,0,none⟩) (ss.length+1) gD) (ss ++ [x]).length ((ss ++ [x]).map encStr)):=by
     have e1:(ss ++ [x]).length=ss.length+1:=by simp
     have e2:(ss ++ [x]).map encStr=ss.map encStr ++ [encStr x]:=by simp
     show World.ownsRow _ _ _ _ _ _ _;rw[e1,e2];exact dD
    have Yp:=(show Hid _ from HCO.out.put (pK.out.2 hp) Lp.out);clear dD gG;go_wp2;go_roundw;case rel=>exact⟨_,cnt2,ss ++ [x],Yp.out,fun e=>absurd e (by simp),by simp;omega,Bb.out,HR7.out,O3.out⟩
    case measure=>rw[World.ranges.left_eq HR7.out,World.ranges.left_eq F8.out];exact uO.out.2
   ·have hp':decide ((0:Int)<(l.pts.length:Int))=false:=decide_eq_false (by omega);have HSK:Hid (x∉bU S):=fun e=>hp (pK.out.1 e)
    go_wp2;go_roundw;case rel=>exact⟨_,cnt2,ss,HCO.out.skip HSK.out,HZ.out,by omega,wW.out,uO.out.1,HB2.out⟩
    case measure=>rw[World.ranges.left_eq uO.out.1,World.ranges.left_eq F8.out];exact uO.out.2
end Go.Proofs.YtalliohkalnaeaaGreatDoor
namespace Go.Proofs.YtalliohkalnaeaaGreatDoor
open Go.RowKit Go.Maps bN aF aZ
end Go.Proofs.YtalliohkalnaeaaGreatDoor
namespace Go.Proofs.YtalliohkalnaeaaGreatDoor
open Go.RowKit Go.Maps bN aF aZ
end Go.Proofs.YtalliohkalnaeaaGreatDoor
namespace Go.Proofs.YtalliohkalnaeaaGreatDoor
open Go.RowKit Go.Maps bN aF
end Go.Proofs.YtalliohkalnaeaaGreatDoor
