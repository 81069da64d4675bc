import Derived.Test.YtololnhfgjbhjaaGreatDoorSortStr
import Derived.Test.YtololnhfgjbhjaaGreatDoorHeadAtGroup
set_option maxRecDepth 1000000
set_option maxHeartbeats 1000000
namespace Go.Proofs.YtololnhfgjbhjaaGreatDoor
open Go.RowKit Go.Maps bB aF aV
theorem acp{p:Prop}(h:p):Go.RowKit.Hid p:=h
theorem G5(a b:List UInt8):(Lit.string a).sameKey (.string b)=decide (a=b):=by
 by_cases h:a=b
 ·subst h;simp[Lit.sameKey]
 ·have:(Lit.string a) ≠ .string b:=λe=>h (by injection e)
  rw[sameKey_ne this];simp[h]
structure Coll(S:List Sr)(left:Lit->Bool)(ss:List (List UInt8)):Prop where
 nodup:ss.Nodup
 mem:∀k,k∈ss↔k∈cO S/\left (.string k)=false
theorem Coll.start(S:List Sr)(left:Lit->Bool)(h:∀l,l∈S->left (.string l.key)=true):Coll S left []:=by
 refine⟨List.nodup_nil,λk=>⟨λh1=>absurd h1 List.not_mem_nil,λh1=>?_⟩⟩;obtain⟨l,hl,rfl,_⟩:=jh.1 h1.1;have h2:=h1.2;rw[h l hl] at h2;cases h2
theorem Coll.skip{S:List Sr}{left:Lit->Bool}{ss:List (List UInt8)}(h:Coll S left ss){x:List UInt8}(hx:x∉cO S):Coll S (λz=>left z && !z.sameKey (.string x)) ss:=by
 refine⟨h.nodup,λk=>?_⟩;rw[h.mem,G5];by_cases e:k=x
 ·subst e;exact⟨λh=>absurd h.1 hx,λh=>absurd h.1 hx⟩
 ·simp[e]
theorem Coll.put{S:List Sr}{left:Lit->Bool}{ss:List (List UInt8)}(h:Coll S left ss){x:List UInt8}(hx:x∈cO S)(hl:left (.string x)=true):Coll S (λz=>left z && !z.sameKey (.string x)) (ss ++ [x]):=by
 have hn:x∉ss:=λe=>by
  have:=((h.mem x).1 e).2;rw[hl] at this;cases this
 refine⟨List.nodup_append.2 ⟨h.nodup,List.pairwise_singleton ..,λa ha b hb=>?_⟩,λk=>?_⟩
 ·simp at hb;subst hb;intro e;subst e;exact hn ha
 ·rw[List.mem_append,h.mem,G5];by_cases e:k=x
  ·subst e;simp[hx]
  ·simp[e]
theorem Coll.sorted{S:List Sr}{left:Lit->Bool}{ss:List (List UInt8)}(h:Coll S left ss)(hS:S.Pairwise λa b=>a.key<b.key)(hl:∀kl,left kl=false):ss.mergeSort leB=cO S:=by
 have hp:ss.Perm (cO S):=(List.perm_ext_iff_of_nodup h.nodup (xS hS)).2 λk=>by rw[h.mem,hl];simp
 have tr:∀a b c:List UInt8,leB a b=true->leB b c=true->leB a c=true:=λa b c h1 h2=>by simp only[leB,decide_eq_true_eq] at *;exact List.le_trans h1 h2
 have tot:∀a b:List UInt8,(leB a b||leB b a)=true:=λa b=>by simp only[leB,Bool.or_eq_true,decide_eq_true_eq];exact List.le_total a b
 refine List.Perm.eq_of_pairwise (le:=λa b=>leB a b=true) (λa b _ _ h1 h2=>?_) (List.pairwise_mergeSort tr tot ss) ((Bz hS).imp fun {a b} Ο=>by simp only[leB,decide_eq_true_eq];exact List.le_of_lt Ο) ((List.mergeSort_perm ss leB).trans hp);simp only[leB,decide_eq_true_eq] at h1 h2;exact List.le_antisymm h1 h2
theorem Tryz.infoStr2:(Tryz.prog.info? 9).map (λi=>(i.zero,i.size,i.bytes))=some (some (.string ⟨#[]⟩),1,16):=by kernel_rfl
theorem G6(w:World)(hb mb:Nat)(S:List Sr)(bl:List UInt8->Nat)(sv:List UInt8->Value)(h:dB w hb mb S bl sv)(hS:S.Pairwise λa b=>a.key<b.key)(hn:S.length<=1000):
  Calls Tryz.prog 45 #[.pointer (some ⟨hb,0,none⟩)] w λe w'=>∃v,e = .returned v/\Below w.heap.size w w'/\w'.ownsRow w.heap.size 9 1 v (cO S).length ((cO S).map encStr):=by
 have HH:Hid (dB w hb mb S bl sv):=h;have c0:=h.cell;obtain⟨D,h1,h2,h3,h4⟩:=h.map;have HD:Hid (w.ownsMap Tryz.prog 9 fZ mb S.length D/\Maps.size D=S.length/\(∀k,Maps.has D (.string k)=known S k)/\∀l,l∈S->∀z,D.atKey (.string l.key) z = .held (.pointer (some ⟨bl l.key,0,none⟩))):=⟨h1,h2,h3,h4⟩;have HS:=acp hS;have hml:mb<w.heap.size:=h1.lt;obtain⟨iS,hI,hI0,Χ,hI2⟩:=info_parts Tryz.infoStr2;have Ak:=acp hI;clear h h1 h2 h3 h4 hS hI;go_enter Tryz.func45,Tryz.ntmps45;go_wp2_with (at_range;refine wpList_range_own _ rfl _ 105 rfl 9 104 tK Tryz.underlying105 _ mb S.length D rfl HD.out.1 ?_;intro w0 hrg0 Ķ ĉ);go_frame;have H0:Hid (w0.ranges Tryz.prog 9 fZ mb w.heap.size S.length D (Maps.has D) (Maps.size D)/\Below w.heap.size w w0):=⟨hrg0,⟨Ķ.os,Ķ.tape,Ķ.output,Ķ.size,λb hb'=>Ķ.block b hb' (by simp)⟩⟩;clear hrg0 Ķ ĉ;go_loopw [3] (λv wr=>∃left cnt ss,Coll S left ss/\(ss = []->v = .slice none 0 0)/\ss.length+cnt<=S.length/\wr.ownsRow w.heap.size 9 1 v ss.length (ss.map encStr)/\wr.ranges Tryz.prog 9 fZ mb w.heap.size S.length D left cnt/\Below w.heap.size w wr) (λ_ wr=>wr.rangeLeft mb w.heap.size);case atStart=>exact⟨Maps.has D,Maps.size D,[],Coll.start _ _ λl hl=>by rw[HD.out.2.2.1];exact dG.2 ⟨l,hl,rfl⟩,λ_=>rfl,by rw[HD.out.2.1];simp,⟨rfl,.inl ⟨rfl,rfl⟩⟩,H0.out.1,H0.out.2⟩
 case round=>
  obtain⟨left,cnt,ss,hco,hz,hcn,ό,ŕ,ϝ⟩:=hrel;have JO:=acp ŕ;have bE:=acp ϝ;have Tc:=acp hco;have HZ:=acp hz;have HOW:=acp ό;clear ŕ ϝ hco hz ό;go_wp2_with (at_next;refine wpList_next_ranges _ rfl _ rfl 9 tK fZ encStr (λv:Value=>v) (λkey kl hk=>by obtain⟨x,hx,_⟩:=Maps.keyOf_str Tryz.underlying9 hk;exact⟨x,hx⟩) (λv y hv=>⟨v,rfl⟩) mb w.heap.size S.length _ _ _ rfl JO.out ?_ ?_)
  ·intro _ Ń;have HEQ:Hid (ss.mergeSort leB=cO S):=Tc.out.sorted HS.out Ń;have HST:=acp (RO wr w.heap.size _ ss HOW.out (by omega) HZ.out);clear Ń;go_wp2_with fail;refine Calls.mono HST.out ?_;rintro e w3 ⟨rfl,è,K5⟩;have ϐ:ss.length=(cO S).length:=by rw[<-HEQ.out];simp
   rw[HEQ.out,ϐ] at è;have HB3:Hid (Below w.heap.size w w3):=bE.out.trans ⟨K5.os,K5.tape,K5.output,K5.size,λb hb'=>K5.block b (Nat.lt_of_lt_of_le hb' bE.out.size) (λe=>row_ne_low HOW.out hb' e)⟩;have JQ:=acp è;clear è K5 ϐ;go_wp2;go_ret;exact⟨_,by rfl,HB3.out,JQ.out⟩
  ·intro x c kl yd yp w2 cnt2 Ú ß hv Ϲ hrg2 ϙ Ϩ Ž hen;obtain⟨x',ex,rfl,_⟩:=Maps.keyOf_str Tryz.underlying9 Ú;obtain rfl:x=x':=encStr_inj ex;have ϥ:known S x=true:=by rw[<-HD.out.2.2.1];exact has_true_of_atKey Ϲ
   obtain⟨l,hl,hlx⟩:=dG.1 ϥ;have π:c = .pointer (some ⟨bl l.key,0,none⟩):=by
    have h5:=HD.out.2.2.2 l hl .nil;rw[hlx] at h5;rw[Ϲ .nil] at h5;simp only[fZ,Option.some.injEq,Prod.mk.injEq] at hv;rw[hlx];have:=hv.1.trans h5;injection this
   subst π;have ā:=HH.out.line l hl;obtain⟨a,cc,ο,_⟩:=iF (HH.out.row l hl);rw[ο] at ā;have HB2:Hid (Below w.heap.size w w2):=bE.out.trans ⟨Ϩ.os,Ϩ.tape,Ϩ.output,Ϩ.size,λb hb'=>Ϩ.block b (Nat.lt_of_lt_of_le hb' bE.out.size) (λe=>by injection e with e;omega)⟩;have q0:w2.cell? ⟨bl l.key,0,none⟩=some (.slice a l.pts.length cc):=(HB2.out.cell (p:=⟨bl l.key,0,none⟩) (aC ā)).trans (by simp[World.cell?,ā]);have vo:Hid (w2.ownsRow w.heap.size 9 1 u3 ss.length (ss.map encStr)):=bL HOW.out λg hg=>Ϩ.block g (aH HOW.out hg).2.1 (λe=>row_ne_iter HOW.out JO.out (by rw[hg];exact e.symm))
   have yc:=acp (And.intro hrg2 ϙ);have Ã:w.heap.size<=w2.heap.size:=HB2.out.size;have aoS:cnt2<cnt:=ϙ;have Pb:=acp ß;have sK:Hid (x∈cO S↔0<l.pts.length):=by
    constructor
    ·intro hx;obtain⟨m,hm,ĭ,hmp⟩:=jh.1 hx;have:=uniq HS.out hm hl (ĭ.trans hlx.symm);subst this;exact List.length_pos_iff.2 hmp
    ·exact λhx=>jh.2 ⟨l,hl,hlx,List.length_pos_iff.1 hx⟩
   clear Ú ex hv Ϲ hrg2 ϙ Ϩ Ž ϥ hlx ā ο ß;by_cases hp:0<l.pts.length
   ·have hp':decide ((0:Int)<(l.pts.length:Int))=true:=decide_eq_true (by omega);have D9:Hid ((w2.alloc (.cells #[encStr x] 9)).ownsRow w.heap.size 9 1 u3 ss.length (ss.map encStr)):=vo.out.alloc _;have jG:Hid (∀j u,[encStr x][j]? = some u->(w2.alloc (.cells #[encStr x] 9)).cell? ((⟨w2.heap.size,0,none⟩:Addr).add j)=some u):=World.news_of_block (cs:=#[encStr x]) (heap_alloc_new _ _);have nG:Hid (∀u ∈ [encStr x],u.oneCell'=true):=λu hu=>by simp at hu;subst hu;rfl
    go_wp2_with (at_builtin;refine wpList_append_lies _ rfl _ _ 32 rfl w.heap.size 9 iS (.string ⟨#[]⟩) 1 16 Tryz.underlying32 Ak.out hI0 Χ hI2 rfl (by decide) _ _ _ rfl D9.out ⟨w2.heap.size,0,none⟩ 1 1 [encStr x] rfl rfl jG.out nG.out (by omega) (by unfold maxLen;omega) (by omega) (by simp;omega) _ rfl ?_);intro g7 gT w7 cZ eU _ _;have HR7:Hid (w7.ranges Tryz.prog 9 fZ mb w.heap.size S.length D (λz=>left z && !z.sameKey (.string x)) cnt2):=(yc.out.1.alloc _).kept eU (row_ne_low vo.out hml) (row_ne_iter vo.out yc.out.1);have HB7:Hid (Below w.heap.size w w7):=(HB2.out.alloc Ã _).trans ⟨eU.os,eU.tape,eU.output,eU.size,λb hb'=>eU.block b (by simp;omega) (row_ne_low vo.out hb')⟩;have D8:Hid (w7.ownsRow w.heap.size 9 1 (.slice (some ⟨g7,0,none⟩) (ss.length+1) gT) (ss ++ [x]).length ((ss ++ [x]).map encStr)):=by
     have e1:(ss ++ [x]).length=ss.length+1:=by simp
     have e2:(ss ++ [x]).map encStr=ss.map encStr ++ [encStr x]:=by simp
     show World.ownsRow _ _ _ _ _ _ _;rw[e1,e2];exact cZ
    have HC7:=acp (Tc.out.put (sK.out.2 hp) Pb.out);clear cZ eU;go_wp2;go_roundw;case rel=>exact⟨_,cnt2,ss ++ [x],HC7.out,λe=>absurd e (by simp),by simp;omega,D8.out,HR7.out,HB7.out⟩
    case measure=>rw[World.ranges.left_eq HR7.out,World.ranges.left_eq JO.out];exact yc.out.2
   ·have hp':decide ((0:Int)<(l.pts.length:Int))=false:=decide_eq_false (by omega);have HSK:Hid (x∉cO S):=λe=>hp (sK.out.1 e)
    go_wp2;go_roundw;case rel=>exact⟨_,cnt2,ss,Tc.out.skip HSK.out,HZ.out,by omega,vo.out,yc.out.1,HB2.out⟩
    case measure=>rw[World.ranges.left_eq yc.out.1,World.ranges.left_eq JO.out];exact yc.out.2
end Go.Proofs.YtololnhfgjbhjaaGreatDoor
