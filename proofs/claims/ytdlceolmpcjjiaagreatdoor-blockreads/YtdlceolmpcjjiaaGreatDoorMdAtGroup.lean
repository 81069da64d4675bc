import Derived.Test.YtdlceolmpcjjiaaGreatDoorHeadAtGroup
import Derived.Test.YtdlceolmpcjjiaaGreatDoorChecked
import Derived.Shelf.Sort.Plain
import Derived.Shelf.Small.Bits
import Derived.Sort.OwnSorted
import Derived.Sort.KeysCollected
import Derived.Deep.AppendLies
import Derived.Test.YtdlceolmpcjjiaaGreatDoorPtListGroup
import Derived.Test.YtdlceolmpcjjiaaGreatDoorRefTicksGroup
import Derived.Test.YtdlceolmpcjjiaaGreatDoorRows1Group
set_option maxRecDepth 1000000
set_option maxHeartbeats 2000000
namespace Go.Proofs.YtdlceolmpcjjiaaGreatDoor
open Go.RowKit Go.Maps lM aU dQ
theorem YR (k:List UInt8):encStr k = .string ⟨k.toArray⟩:=rfl
end Go.Proofs.YtdlceolmpcjjiaaGreatDoor
namespace Go.Proofs.YtdlceolmpcjjiaaGreatDoor
open Go.RowKit Go.Maps lM aU dQ
theorem Tryz.infoStr2:(Tryz.prog.info? 9).map (fun i=>(i.zero,i.size,i.bytes))=some (some (.string ⟨#[]⟩),1,16):=by kernel_rfl
end Go.Proofs.YtdlceolmpcjjiaaGreatDoor
namespace Go.Proofs.YtdlceolmpcjjiaaGreatDoor
open Go.RowKit Go.Maps lM aU dQ
theorem Ez (w:World) (b1 b2:Nat) (v1 v2:Value) (ss:List (List UInt8)) (h1:w.ownsRow b1 9 1 v1 ss.length (ss.map encStr)) (h2:w.ownsRow b2 9 1 v2 ss.length (ss.map encStr)) (hn:ss.length<=1000) :
  Calls Tryz.prog 39 #[v1,v2] w fun e w'=>e = .returned (.bool true)/\∃ q,w'=w.drewN q:=by
 have key:∀ b v,w.ownsRow b 9 1 v ss.length (ss.map encStr)->∃ a c,v = .slice a ss.length c/\∀ i (hi:i<ss.length),∃ g,a=some ⟨g,0,none⟩/\w.cell? ⟨g,i,none⟩=some (encStr (ss[i])):=by
  intro b v h;rcases h.2 with⟨hv,h0⟩|⟨g,cap,cur,hv,_,hh,_,_,_,ht⟩
  ·exact⟨none,0,by rw[h0];exact hv,fun i hi=>absurd hi (by omega)⟩
  ·refine⟨some ⟨g,0,none⟩,cap,hv,fun i hi=>⟨g,rfl,?_⟩⟩;have:cur[i]? = (ss.map encStr)[i]?:=by rw[<-ht,List.getElem?_take_of_lt (by omega)];simp
   rw[List.getElem?_map,List.getElem?_eq_getElem hi] at this;simp[World.cell?,hh,this]
 obtain⟨a1,c1,rfl,hc1⟩:=key _ _ h1;obtain⟨a2,c2,rfl,hc2⟩:=key _ _ h2;have qh:=(show Hid _ from hc1);have pY:=(show Hid _ from hc2);obtain⟨n,hnn⟩:∃ n,ss.length=n:=⟨_,rfl⟩;have HN:=(show Hid _ from hnn);rw[hnn] at hn ⊢;clear h1 h2 hc1 hc2 key hnn;go_enter Tryz.func39,Tryz.ntmps39;go_wp2_with fail;go_loopw [4,5] (fun s4 i wr=>s4 = .bool false/\∃ k q:Nat,k<=n/\i = .int .i64 k/\wr=w.drewN q) (fun _ i _=>n-(intOf i).toNat);case atStart=>exact⟨rfl,0,0,Nat.zero_le _,rfl,rfl⟩
 case round=>
  obtain⟨rfl,k,q,hk,rfl,rfl⟩:=hrel;by_cases hlt:k<n
  ·have hk':k<ss.length:=by rw[HN.out];exact hlt
   obtain⟨g1,rfl,e1⟩:=qh.out k hk';obtain⟨g2,rfl,e2⟩:=pY.out k hk';have hk0:(0:Int)<=(k:Int):=by omega
   have hk1:(k:Int)<(n:Int):=by omega
   obtain⟨kb,hkb⟩:∃ kb:ByteArray,kb=⟨(ss[k]).toArray⟩:=⟨_,rfl⟩;rw[YR,<-hkb] at e1 e2;clear hkb;go_wp2_with fail;go_quiet (fail);go_wp2;go_roundw;case rel=>exact⟨rfl,k+1,_,by omega,by go_num,by first | rfl | (rw[World.drewN_drewN])⟩
   case measure=>simp[intOf]<;>omega
  ·have hge:(n:Int)<=(k:Int):=by omega
   go_wp2;go_ret;exact⟨rfl,q,rfl⟩
end Go.Proofs.YtdlceolmpcjjiaaGreatDoor
namespace Go.Proofs.YtdlceolmpcjjiaaGreatDoor
open Go.RowKit Go.Maps lM aU
theorem OB (w:World) (f s:Int) (b1 b2 b3 b4:Nat) (v1 v2 u1 u2:Value) (ss cs:List (List UInt8)) (h1:w.ownsRow b1 9 1 v1 ss.length (ss.map encStr)) (h2:w.ownsRow b2 9 1 v2 ss.length (ss.map encStr)) (k1:w.ownsRow b3 9 1 u1 cs.length (cs.map encStr)) (k2:w.ownsRow b4 9 1 u2 cs.length (cs.map encStr)) (hn:ss.length<=1000) (hm:cs.length<=1000) :
  Calls Tryz.prog 11 #[.agg #[.int .i64 f,.int .i64 s,v1,u1],.agg #[.int .i64 f,.int .i64 s,v2,u2]] w fun e w'=>e = .returned (.bool true)/\Below w.heap.size w w':=by
 obtain⟨a1,c1,rfl⟩:=bW h1;obtain⟨a2,c2,rfl⟩:=bW h2;obtain⟨a3,c3,rfl⟩:=bW k1;obtain⟨a4,c4,rfl⟩:=bW k2;obtain⟨W,hW⟩:∃ W,W=(w.alloc (.cells #[.int .i64 f,.int .i64 s,.slice a1 ss.length c1,.slice a3 cs.length c3] 30)).alloc (.cells #[.int .i64 f,.int .i64 s,.slice a2 ss.length c2,.slice a4 cs.length c4] 30):=⟨_,rfl⟩;have hbW:Below w.heap.size w W:=by rw[hW];exact ((Below.refl _ _).alloc (Nat.le_refl _) _).alloc (by simp) _
 have dO:=(show Hid _ from hbW);have hs1:(w.alloc (.cells #[.int .i64 f,.int .i64 s,.slice a1 ss.length c1,.slice a3 cs.length c3] 30)).heap.size=w.heap.size+1:=by simp
 have hx:W.heap[w.heap.size]? = some (.cells #[.int .i64 f,.int .i64 s,.slice a1 ss.length c1,.slice a3 cs.length c3] 30 (0,0)):=by
  rw[hW];exact (heap_alloc_old _ _ (by rw[hs1];omega)).trans (heap_alloc_new _ _)
 have hy:W.heap[w.heap.size+1]? = some (.cells #[.int .i64 f,.int .i64 s,.slice a2 ss.length c2,.slice a4 cs.length c4] 30 (0,0)):=by
  rw[hW,<-hs1];exact heap_alloc_new _ _
 have YS:Hid (Calls Tryz.prog 39 #[.slice a1 ss.length c1,.slice a2 ss.length c2] W fun e w'=>e = .returned (.bool true)/\∃ p,w'=W.drewN p):=
  Ez _ b1 b2 _ _ ss (dN h1 fun g hg=>hbW.block g (bL h1 hg).2.1) (dN h2 fun g hg=>hbW.block g (bL h2 hg).2.1) hn
 have HS2:Hid (∀ q,Calls Tryz.prog 39 #[.slice a3 cs.length c3,.slice a4 cs.length c4] (W.drewN q) fun e w'=>e = .returned (.bool true)/\∃ p,w'=(W.drewN q).drewN p):=fun q=>
  Ez _ b3 b4 _ _ cs (dN k1 fun g hg=>hbW.block g (bL k1 hg).2.1) (dN k2 fun g hg=>hbW.block g (bL k2 hg).2.1) hm
 obtain⟨n,hn'⟩:∃ n,n=ss.length:=⟨_,rfl⟩;obtain⟨m,hm'⟩:∃ m,m=cs.length:=⟨_,rfl⟩;have x0:W.cell? ⟨w.heap.size,0,none⟩=some (.int .i64 f):=ak hx 0;have x1:W.cell? ⟨w.heap.size,1,none⟩=some (.int .i64 s):=ak hx 1;have x2:W.cell? ⟨w.heap.size,2,none⟩=some (.slice a1 ss.length c1):=ak hx 2;have x3:∀ q,(W.drewN q).cell? ⟨w.heap.size,3,none⟩=some (.slice a3 cs.length c3):=fun q=>ak (w:=W.drewN q) hx 3
 have y0:W.cell? ⟨w.heap.size+1,0,none⟩=some (.int .i64 f):=ak hy 0;have y1:W.cell? ⟨w.heap.size+1,1,none⟩=some (.int .i64 s):=ak hy 1;have y2:W.cell? ⟨w.heap.size+1,2,none⟩=some (.slice a2 ss.length c2):=ak hy 2;have y3:∀ q,(W.drewN q).cell? ⟨w.heap.size+1,3,none⟩=some (.slice a4 cs.length c4):=fun q=>ak (w:=W.drewN q) hy 3
 rw[<-hn',<-hm'] at hW;rw[<-hn'] at x2 y2 YS ⊢;rw[<-hm'] at x3 y3 HS2 ⊢;clear h1 h2 k1 k2 hbW hs1 hx hy hn' hm' hn hm;go_enter Tryz.func11,Tryz.ntmps11;go_upto_region 1 with fail;rw[<-hW];clear hW;go_wp2_with fail;refine Calls.mono YS.out ?_;rintro e w2 ⟨rfl,p,rfl⟩;have z3:=x3 p;have v3:=y3 p;clear x3 y3 YS;dsimp only
 go_wp2_with fail;refine Calls.mono (HS2.out p) ?_;rintro e w3 ⟨rfl,p2,rfl⟩;dsimp only
 go_wp2;go_ret;exact⟨by rfl,below_draws dO.out _⟩
end Go.Proofs.YtdlceolmpcjjiaaGreatDoor
namespace Go.Proofs.YtdlceolmpcjjiaaGreatDoor
open Go.RowKit
end Go.Proofs.YtdlceolmpcjjiaaGreatDoor
namespace Go.Proofs.YtdlceolmpcjjiaaGreatDoor
open Go.RowKit Go.Maps lM aU
def spl (c:UInt8):List UInt8->List UInt8->List (List UInt8)
 | cur,[]=>[cur]
 | cur,b::r=>if b=c then cur::spl c [] r else spl c (cur ++ [b]) r
theorem Tk {c:UInt8} {l:List UInt8} {f k:Nat} (hf:f<=k) (hk:k<l.length) :
  spl c ((l.drop f).take (k-f)) (l.drop k)=if l[k]=c then ((l.drop f).take (k-f))::spl c [] (l.drop (k+1)) else spl c ((l.drop f).take (k+1-f)) (l.drop (k+1)):=by
 have e1:l.drop k=l[k]::l.drop (k+1):=(List.getElem_cons_drop hk).symm;have e2:(l.drop f).take (k+1-f)=(l.drop f).take (k-f) ++ [l[k]]:=by
  rw[show k+1-f=(k-f)+1 by omega,List.take_add_one,List.getElem?_drop,show f+(k-f)=k by omega,List.getElem?_eq_getElem hk];rfl
 rw[e2];conv=>lhs;rw[e1]
 rw[spl]
theorem Fh (c:UInt8):∀ (l cur:List UInt8),(spl c cur l).length<=l.length+1
 | [],cur=>by simp[spl]
 | b::r,cur=>by
  rw[spl];split
  ·have:=Fh c r [];simp only[List.length_cons];omega
  ·have:=Fh c r (cur ++ [b]);simp only[List.length_cons];omega
theorem GI (w:World) (b:ByteArray) (hb:b.size<=1000000) (c:UInt8) :
  Calls Tryz.prog 34 #[.string b,.int .u8 (c.toNat:Int)] w fun e w'=>∃ v,e = .returned v/\Below w.heap.size w w'/\w'.ownsRow w.heap.size 9 1 v (spl c [] b.data.toList).length ((spl c [] b.data.toList).map encStr):=by
 have hll:b.data.toList.length=b.size:=Array.length_toList;have HX:Hid (∀ i j,.string (b.extract i j)=encStr ((b.data.toList.drop i).take (j-i))):=fun i j=>by
  have e:b.extract i j=txt ((b.data.toList.drop i).take (j-i)):=by
   apply ByteArray.ext;apply Array.ext';rw[Lib.extract_data];rfl
  rw[e];rfl
 have HC:Hid (∀ k (h:k<b.size),(((b[k]).toNat:Int)==(c.toNat:Int))=(b.data.toList[k]'(by omega)==c)):=fun k h=>by
  have e:b.data.toList[k]'(by omega)=b[k]:=rfl;rw[e,Bool.eq_iff_iff,beq_iff_eq,beq_iff_eq];constructor
  ·intro h;exact UInt8.toNat_inj.1 (by omega)
  ·intro h;rw[h]
 obtain⟨S,hS⟩:∃ S,S=b.data.toList:=⟨_,rfl⟩;have HS:=(show Hid _ from hS);have Mf:Hid (S.length=b.size):=by rw[hS];exact hll
 obtain⟨n,hn⟩:∃ n,n=b.size:=⟨_,rfl⟩;have HN:=(show Hid _ from hn);obtain⟨iS,hI,hI0,hI1,hI2⟩:=info_parts Tryz.infoStr2;have U0:=(show Hid _ from hI);rw[<-hS];clear hS hI;go_enter Tryz.func34,Tryz.ntmps34;go_wp2_with fail;go_loopw [5,6,7] (fun r f i wr=>Below w.heap.size w wr/\∃ (k f':Nat) (ss:List (List UInt8)),k<=n/\f'<=k/\i = .int .i64 (k:Int)/\f = .int .i64 (f':Int)/\ss.length<=k/\spl c [] S=ss++spl c ((S.drop f').take (k-f')) (S.drop k)/\wr.ownsRow w.heap.size 9 1 r ss.length (ss.map encStr)) (fun _ _ i _=>n-(intOf i).toNat);case atStart=>exact⟨Below.refl _ _,0,0,[],Nat.zero_le _,Nat.le_refl _,rfl,rfl,Nat.le_refl _,rfl,⟨rfl,.inl ⟨rfl,rfl⟩⟩⟩
 case round=>
  obtain⟨hbr,k,f,ss,hk,hf,rfl,rfl,hsk,heq,hown⟩:=hrel;have bN:=(show Hid _ from hbr);have hwr:w.heap.size<=wr.heap.size:=hbr.size;have HOW:Hid (wr.ownsRow w.heap.size 9 1 u5 ss.length (ss.map encStr)):=hown;obtain⟨x,hx⟩:∃ x,x=(S.drop f).take (k-f):=⟨_,rfl⟩;have hs1:ss.length<=1000000:=by omega
  have k0:(0:Int)<=(k:Int):=by omega
  have f0:(0:Int)<=(f:Int):=by omega
  have f1:(f:Int)<=(k:Int):=by omega
  have QC:Hid ((wr.alloc (.cells #[encStr x] 9)).ownsRow w.heap.size 9 1 u5 ss.length (ss.map encStr)):=HOW.out.alloc _;have wP:Hid (∀ j u,[encStr x][j]? = some u->(wr.alloc (.cells #[encStr x] 9)).cell? ((⟨wr.heap.size,0,none⟩:Addr).add j)=some u):=World.news_of_block (cs:=#[encStr x]) (heap_alloc_new _ _);have F8:Hid (∀ u ∈ [encStr x],u.oneCell'=true):=fun u hu=>by simp at hu;subst hu;rfl
  by_cases hkn:k<n
  ·have hkb:k<b.size:=by rw[<-hn];exact hkn
   have hkS:k<S.length:=by rw[Mf.out];exact hkb
   have hxk : .string (b.extract f k)=encStr x:=by rw[hx,HS.out];exact HX.out f k
   have hst:=Tk (c:=c) hf hkS;have hck:=HC.out k hkb;have HST:=(show Hid _ from hst);have qd:=(show Hid _ from heq);have Dq:=(show Hid _ from hx);have k1:(k:Int)<(b.size:Int):=by omega
   have k2:(k:Int)<=(b.size:Int):=by omega
   by_cases hcc:b.data.toList[k]'(by omega)=c
   ·have hbk:((b[k].toNat:Int)==(c.toNat:Int))=true:=by rw[hck,hcc];simp
    have WW:Hid (S[k]=c):=by show _=_;rw[<-hcc];simp[HS.out]
    clear hck heq hst hown hbr hcc hx;go_wp2_with (at_builtin;refine wpList_append_lies _ rfl _ _ 23 rfl w.heap.size 9 iS (.string ⟨#[]⟩) 1 16 Tryz.underlying23 U0.out hI0 hI1 hI2 rfl (by decide) _ _ _ rfl QC.out ⟨wr.heap.size,0,none⟩ 1 1 [encStr x] rfl rfl wP.out F8.out (by omega) (by unfold maxLen;omega) (by omega) (by simp;omega) _ rfl ?_);intro g7 fG w7 eD iA _ _;have qj:Hid (Below w.heap.size w w7):=(bN.out.alloc hwr _).trans ⟨iA.os,iA.tape,iA.output,iA.size,fun b hb'=>iA.block b (by simp;omega) (row_ne_low HOW.out hb')⟩;have oV:Hid (w7.ownsRow w.heap.size 9 1 (.slice (some ⟨g7,0,none⟩) (ss.length+1) fG) (ss ++ [x]).length ((ss ++ [x]).map encStr)):=by
     have e1:(ss ++ [x]).length=ss.length+1:=by simp
     have e2:(ss ++ [x]).map encStr=ss.map encStr ++ [encStr x]:=by simp
     show World.ownsRow _ _ _ _ _ _ _;rw[e1,e2];exact eD
    have HE2:Hid (spl c [] S=(ss ++ [x])++spl c ((S.drop (k+1)).take (k+1-(k+1))) (S.drop (k+1))):=by
     show _=_;rw[qd.out,HST.out,if_pos WW.out,<-Dq.out,Nat.sub_self,List.take_zero];simp
    clear eD iA;go_wp2;go_roundw;case rel=>exact⟨qj.out,k+1,k+1,ss ++ [x],by omega,Nat.le_refl _,by go_num,by go_num,by simp;omega,HE2.out,oV.out⟩
    case measure=>simp[intOf]<;>omega
   ·have hbk:((b[k].toNat:Int)==(c.toNat:Int))=false:=by rw[hck];simpa using hcc
    have HE2:Hid (spl c [] S=ss++spl c ((S.drop f).take (k+1-f)) (S.drop (k+1))):=by
     show _=_;have hcs:¬ S[k]=c:=by simpa [HS.out] using hcc
     rw[qd.out,HST.out,if_neg hcs]
    clear hck heq hst hown hbr hcc hx;go_wp2;go_roundw;case rel=>exact⟨bN.out,k+1,f,ss,by omega,by omega,by go_num,rfl,by omega,HE2.out,HOW.out⟩
    case measure=>simp[intOf]<;>omega
  ·have hkn':k=n:=by omega
   have hge:(b.size:Int)<=(k:Int):=by omega
   have hxk : .string (b.extract f b.size)=encStr x:=by rw[hx,HS.out,hkn',hn];exact HX.out f b.size
   have XU:(f:Int)<=(b.size:Int):=by omega
   have HE:Hid (spl c [] S=ss ++ [x]):=by
    show _=_;rw[heq,<-hx,List.drop_of_length_le (by rw[Mf.out];omega)];rfl
   clear heq hown hbr hx;go_wp2_with (at_builtin;refine wpList_append_lies _ rfl _ _ 23 rfl w.heap.size 9 iS (.string ⟨#[]⟩) 1 16 Tryz.underlying23 U0.out hI0 hI1 hI2 rfl (by decide) _ _ _ rfl QC.out ⟨wr.heap.size,0,none⟩ 1 1 [encStr x] rfl rfl wP.out F8.out (by omega) (by unfold maxLen;omega) (by omega) (by simp;omega) _ rfl ?_);intro g7 fG w7 eD iA _ _;have qj:Hid (Below w.heap.size w w7):=(bN.out.alloc hwr _).trans ⟨iA.os,iA.tape,iA.output,iA.size,fun b hb'=>iA.block b (by simp;omega) (row_ne_low HOW.out hb')⟩;have oV:Hid (w7.ownsRow w.heap.size 9 1 (.slice (some ⟨g7,0,none⟩) (ss.length+1) fG) (spl c [] S).length ((spl c [] S).map encStr)):=by
    have e1:(ss ++ [x]).length=ss.length+1:=by simp
    have e2:(ss ++ [x]).map encStr=ss.map encStr ++ [encStr x]:=by simp
    show World.ownsRow _ _ _ _ _ _ _;rw[HE.out,e1,e2];exact eD
   clear eD iA;go_wp2;go_ret;exact⟨_,by rfl,qj.out,oV.out⟩
end Go.Proofs.YtdlceolmpcjjiaaGreatDoor
namespace Go.Proofs.YtdlceolmpcjjiaaGreatDoor
open Go.RowKit Go.Maps lM aU dQ
theorem Tm (w:World) (s:ByteArray) (hs:s.size<=100000) :
  Calls Tryz.prog 49 #[.string s] w fun e w'=>Below w.heap.size w w'/\∃ x,e = .returned (.tuple #[x,.agg #[.int .i64 (iq s.data.toList),.int .i64 (yU s.data.toList)]]):=by
 refine (Pf s w hs).mono ?_;rintro e w' ⟨hb,⟨hn,rfl⟩|⟨out,C,A,hsc,_,hf,hrest⟩⟩
 ·refine⟨hb,.slice none 0 0,?_⟩;unfold iq yU;rw[hn]
 ·obtain⟨hC,hA⟩:=Sy hf;refine⟨hb,?_⟩;unfold iq yU;rw[hsc];simp only
  rw[<-hC,<-hA];rcases hrest with⟨_,rfl⟩|⟨_,v,rfl,_⟩
  ·exact⟨_,rfl⟩
  ·exact⟨_,rfl⟩
end Go.Proofs.YtdlceolmpcjjiaaGreatDoor
