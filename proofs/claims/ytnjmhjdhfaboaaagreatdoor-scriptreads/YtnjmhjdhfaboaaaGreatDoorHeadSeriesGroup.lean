import Derived.Test.YtnjmhjdhfaboaaaGreatDoorSortStr
import Derived.Test.YtnjmhjdhfaboaaaGreatDoorHeadAtGroup
set_option maxRecDepth 1000000
set_option maxHeartbeats 1000000
open List
open Go.Proofs.Tryz
namespace Go.Proofs.YtnjmhjdhfaboaaaGreatDoor
open Go.RowKit Go.Maps aV aD aR
theorem ŭ{p:Prop}(h:p):Go.RowKit.Hid p:=h
theorem I6(a b:List UInt8):(Lit.string a).sameKey (.string b)=decide (a=b):=by
 by_cases h:a=b
 ·subst h;simp[Lit.sameKey]
 ·have:(Lit.string a) ≠ .string b:=λe=>h (by injection e)
  rw[sameKey_ne this];simp[h]
structure Coll(S:List Sr)(left:Lit->Bool)(ss:List (List UInt8)):Prop where
 nodup:ss.Nodup
 mem:∀k,k∈ss↔k∈bZ S/\left (.string k)=false
theorem Coll.start(S:List Sr)(o:Lit->Bool)(h:∀l,l∈S->o (.string l.key)=true):Coll S o []:=by
 refine⟨nodup_nil,λk=>⟨λq=>absurd q not_mem_nil,λq=>?_⟩⟩;obtain⟨l,A,rfl,_⟩:=ig.1 q.1;have z:=q.2;rw[h l A] at z;cases z
theorem Coll.skip{S:List Sr}{o:Lit->Bool}{ss:List (List UInt8)}(h:Coll S o ss){x:List UInt8}(q:x∉bZ S):Coll S (λz=>o z && !z.sameKey (.string x)) ss:=by
 refine⟨h.nodup,λk=>?_⟩;rw[h.mem,I6];by_cases e:k=x
 ·subst e;exact⟨λh=>absurd h.1 q,λh=>absurd h.1 q⟩
 ·simp[e]
theorem Coll.put{S:List Sr}{o:Lit->Bool}{ss:List (List UInt8)}(h:Coll S o ss){x:List UInt8}(A:x∈bZ S)(G:o (.string x)=true):Coll S (λz=>o z && !z.sameKey (.string x)) (ss ++ [x]):=by
 have F:x∉ss:=λe=>by
  have:=((h.mem x).1 e).2;rw[G] at this;cases this
 refine⟨nodup_append.2 ⟨h.nodup,pairwise_singleton ..,λa D b q=>?_⟩,λk=>?_⟩
 ·simp at q;subst q;intro e;subst e;exact F D
 ·rw[mem_append,h.mem,I6];by_cases e:k=x
  ·subst e;simp[A]
  ·simp[e]
theorem Coll.sorted{S:List Sr}{o:Lit->Bool}{ss:List (List UInt8)}(h:Coll S o ss)(D:S.Pairwise λa b=>a.key<b.key)(F:∀G,o G=false):ss.mergeSort leB=bZ S:=by
 have I:ss.Perm (bZ S):=(perm_ext_iff_of_nodup h.nodup (yL D)).2 λk=>by rw[h.mem,F];simp
 have J:∀a b c:List UInt8,leB a b=true->leB b c=true->leB a c=true:=λa b c q z=>by simp only[leB,decide_eq_true_eq] at *;exact List.le_trans q z
 have A:∀a b:List UInt8,(leB a b||leB b a)=true:=λa b=>by simp only[leB,Bool.or_eq_true,decide_eq_true_eq];exact List.le_total a b
 refine List.Perm.eq_of_pairwise (le:=λa b=>leB a b=true) (λa b _ _ q z=>?_) (pairwise_mergeSort J A ss) ((Cz D).imp fun {a b} H=>by simp only[leB,decide_eq_true_eq];exact List.le_of_lt H) ((mergeSort_perm ss leB).trans I);simp only[leB,decide_eq_true_eq] at q z;exact List.le_antisymm q z
theorem Tryz.infoStr2:(prog.info? 9).map (λi=>(i.zero,i.size,i.bytes))=some (some (.string ⟨#[]⟩),1,16):=lG
theorem I7(w:World)(hb J:Nat)(S:List Sr)(bl:List UInt8->Nat)(sv:List UInt8->Value)(h:dL w hb J S bl sv)(hS:S.Pairwise λa b=>a.key<b.key)(hn:S.length<=1000):
  Calls prog 100 #[.pointer (some ⟨hb,0,none⟩)] w λe w'=>∃v,e = .returned v/\Below w.heap.size w w'/\w'.ownsRow w.heap.size 9 1 v (bZ S).length ((bZ S).map encStr):=by
 have HH:=ŭ h;have c0:=h.cell;obtain⟨D,h1,h2,h3,h4⟩:=h.map;have Z:Hid (w.ownsMap prog 9 fM J S.length D/\Maps.size D=S.length/\(∀k,Maps.has D (.string k)=known S k)/\∀l,l∈S->∀z,D.atKey (.string l.key) z = .held (.pointer (some ⟨bl l.key,0,none⟩))):=⟨h1,h2,h3,h4⟩;have HS:=ŭ hS;have hml:=h1.lt;obtain⟨iS,hI,hI0,hI1,hI2⟩:=info_parts Tryz.infoStr2;have qK:=ŭ hI;go_enter func100,ntmps100;go_wp2_with (at_range;refine wpList_range_own _ rfl _ 198 rfl 9 197 qE underlying198 _ J S.length D rfl Z.out.1 ?_;intro w0 hrg0 W þ);go_frame;have H0:Hid (w0.ranges prog 9 fM J w.heap.size S.length D (Maps.has D) (Maps.size D)/\Below w.heap.size w w0):=⟨hrg0,⟨W.os,W.tape,W.output,W.size,λb o=>W.block b o vI⟩⟩;go_loopw [3] (λv wr=>∃q K ss,Coll S q ss/\(ss = []->v = .slice none 0 0)/\ss.length+K<=S.length/\wr.ownsRow w.heap.size 9 1 v ss.length (ss.map encStr)/\wr.ranges prog 9 fM J w.heap.size S.length D q K/\Below w.heap.size w wr) (λ_ wr=>wr.rangeLeft J w.heap.size);case atStart=>exact⟨Maps.has D,Maps.size D,[],Coll.start _ _ λl Q=>by rw[Z.out.2.2.1];exact dF.2 ⟨l,Q,rfl⟩,λ_=>rfl,by rw[Z.out.2.1];simp,⟨rfl,.inl ⟨rfl,rfl⟩⟩,H0.out.1,H0.out.2⟩
 case round=>
  obtain⟨q,K,ss,hco,hz,hcn,ό,hrg,Ϙ⟩:=hrel;have Le:=ŭ hrg;have bq:=ŭ Ϙ;have Ol:=ŭ hco;have HZ:=ŭ hz;have G:=ŭ ό;go_wp2_with (at_next;refine wpList_next_ranges _ rfl _ rfl 9 qE fM encStr (λv:Value=>v) (λkey kl hk=>by obtain⟨x,hx,_⟩:=Maps.keyOf_str underlying9 hk;exact⟨x,hx⟩) (λv y hv=>⟨v,rfl⟩) J w.heap.size S.length _ _ _ rfl Le.out ?_ ?_)
  ·intro _ ĥ;have Y:=ŭ (Ol.out.sorted HS.out ĥ);have HST:=ŭ (TU wr w.heap.size _ ss G.out fO HZ.out);go_wp2_with fail;refine Calls.mono HST.out ?_;rintro e w3 ⟨rfl,č,Rh⟩;have ϑ:ss.length=(bZ S).length:=by rw[<-Y.out];simp
   rw[Y.out,ϑ] at č;have HB3:=ŭ (bq.out.trans ⟨Rh.os,Rh.tape,Rh.output,Rh.size,λb o=>Rh.block b (Nat.lt_of_lt_of_le o bq.out.size) (λe=>row_ne_low G.out o e)⟩);have K3:=ŭ č;go_wp2;go_ret;exact⟨_,by rfl,HB3.out,K3.out⟩
  ·intro x c kl yd yp V F Í Ù hv É I ϗ O η hen;obtain⟨x',ex,rfl,_⟩:=Maps.keyOf_str underlying9 Í;obtain rfl:x=x':=encStr_inj ex;have ϥ:known S x=true:=by rw[<-Z.out.2.2.1];exact has_true_of_atKey É
   obtain⟨l,Q,A⟩:=dF.1 ϥ;have ū:c = .pointer (some ⟨bl l.key,0,none⟩):=by
    have h5:=Z.out.2.2.2 l Q .nil;rw[A] at h5;rw[É .nil] at h5;simp only[fM,Option.some.injEq,Prod.mk.injEq] at hv;rw[A];have:=hv.1.trans h5;injection this
   subst ū;have ê:=HH.out.line l Q;obtain⟨a,cc,Ť,_⟩:=gT (HH.out.row l Q);rw[Ť] at ê;have H:=ŭ (bq.out.trans ⟨O.os,O.tape,O.output,O.size,λb o=>O.block b (Nat.lt_of_lt_of_le o bq.out.size) (λe=>by injection e with e;omega)⟩);have q0:V.cell? ⟨bl l.key,0,none⟩=some (.slice a l.pts.length cc):=(H.out.cell (p:=⟨bl l.key,0,none⟩) (aC ê)).trans (by simp[World.cell?,ê]);have y7:Hid (V.ownsRow w.heap.size 9 1 u3 ss.length (ss.map encStr)):=bC G.out λg hg=>O.block g (aH G.out hg).2.1 (λe=>row_ne_iter G.out Le.out (by rw[hg];exact e.symm))
   have R:=ŭ (And.intro I ϗ);have Æ:=H.out.size;have arK:=ϗ;have Ri:=ŭ Ù;have uY:Hid (x∈bZ S↔0<l.pts.length):=by
    constructor
    ·intro hx;obtain⟨m,hm,Ġ,hmp⟩:=ig.1 hx;have:=uniq HS.out hm Q (Ġ.trans A.symm);subst this;exact length_pos_iff.2 hmp
    ·exact λhx=>ig.2 ⟨l,Q,A,length_pos_iff.1 hx⟩
   clear Í ex hv É I ϗ O η ϥ A ê Ť Ù;by_cases hp:0<l.pts.length
   ·have hp':decide ((0:Int)<l.pts.length)=true:=decide_eq_true fO;have lJ:Hid ((V.alloc (.cells #[encStr x] 9)).ownsRow w.heap.size 9 1 u3 ss.length (ss.map encStr)):=y7.out.alloc _;have iV:Hid (∀j u,[encStr x][j]? = some u->(V.alloc (.cells #[encStr x] 9)).cell? ((⟨V.heap.size,0,none⟩:Addr).add j)=some u):=World.news_of_block (cs:=#[encStr x]) (heap_alloc_new _ _);have kH:Hid (∀u ∈ [encStr x],u.oneCell'=true):=λu hu=>by simp at hu;subst hu;rfl
    go_wp2_with (at_builtin;refine wpList_append_lies _ rfl _ _ 22 rfl w.heap.size 9 iS (.string ⟨#[]⟩) 1 16 underlying22 qK.out hI0 hI1 hI2 rfl nQ _ _ _ rfl lJ.out ⟨V.heap.size,0,none⟩ 1 1 [encStr x] rfl rfl iV.out kH.out fO (by unfold maxLen;omega) fO rD _ rfl ?_);intro g7 dR w7 bR U _ _;have HR7:Hid (w7.ranges prog 9 fM J w.heap.size S.length D (λz=>q z && !z.sameKey (.string x)) F):=(R.out.1.alloc _).kept U (row_ne_low y7.out hml) (row_ne_iter y7.out R.out.1);have HB7:=ŭ ((H.out.alloc Æ _).trans ⟨U.os,U.tape,U.output,U.size,λb o=>U.block b rD (row_ne_low y7.out o)⟩);have EX:Hid (w7.ownsRow w.heap.size 9 1 (.slice (some ⟨g7,0,none⟩) (ss.length+1) dR) (ss ++ [x]).length ((ss ++ [x]).map encStr)):=by
     have e1:(ss ++ [x]).length=ss.length+1:=vI;have e2:(ss ++ [x]).map encStr=ss.map encStr ++ [encStr x]:=vI;show World.ownsRow _ _ _ _ _ _ _;rw[e1,e2];exact bR
    have HC7:=ŭ (Ol.out.put (uY.out.2 hp) Ri.out);go_wp2;go_roundw;case rel=>exact⟨_,F,ss ++ [x],HC7.out,λe=>absurd e vI,rD,EX.out,HR7.out,HB7.out⟩
    case measure=>rw[World.ranges.left_eq HR7.out,World.ranges.left_eq Le.out];exact R.out.2
   ·have hp':decide ((0:Int)<l.pts.length)=false:=decide_eq_false fO;have HSK:Hid (x∉bZ S):=λe=>hp (uY.out.1 e)
    go_wp2;go_roundw;case rel=>exact⟨_,F,ss,Ol.out.skip HSK.out,HZ.out,fO,y7.out,R.out.1,H.out⟩
    case measure=>rw[World.ranges.left_eq R.out.1,World.ranges.left_eq Le.out];exact R.out.2
theorem ah0(k:List UInt8):encStr k = .string ⟨k.toArray⟩:=rfl
theorem Xg(w:World)(Q R:Nat)(v1 F:Value)(ss:List (List UInt8))(h1:w.ownsRow Q 9 1 v1 ss.length (ss.map encStr))(J:w.ownsRow R 9 1 F ss.length (ss.map encStr))(H:ss.length<=1000):
  Calls prog 12 #[v1,F] w λe w'=>e = .returned (.bool true)/\∃q,w'=w.drewN q:=by
 have o:∀b v,w.ownsRow b 9 1 v ss.length (ss.map encStr)->∃a c,v = .slice a ss.length c/\∀i (A:i<ss.length),∃g,a=some ⟨g,0,none⟩/\w.cell? ⟨g,i,none⟩=some (encStr (ss[i])):=by
  intro b v h;rcases h.2 with⟨hv,h0⟩|⟨g,cap,cur,hv,_,hh,_,_,_,ht⟩
  ·exact⟨none,0,by rw[h0];exact hv,λi A=>absurd A fO⟩
  ·refine⟨some ⟨g,0,none⟩,cap,hv,λi A=>⟨g,rfl,?_⟩⟩;have:cur[i]? = (ss.map encStr)[i]?:=by rw[<-ht,List.getElem?_take_of_lt fO];simp
   rw[List.getElem?_map,List.getElem?_eq_getElem A] at this;simp[World.cell?,hh,this]
 obtain⟨a1,c1,rfl,G⟩:=o _ _ h1;obtain⟨a2,c2,rfl,I⟩:=o _ _ J;have Z:=ŭ G;have O:=ŭ I;obtain⟨n,D⟩:=eD ss.length;have U:=ŭ D;rw[D] at H ⊢;go_enter func12,ntmps12;go_wp2_with fail;go_loopw [4,5] (λW i wr=>W = .bool false/\∃k q:Nat,k<=n/\i = .int .i64 k/\wr=w.drewN q) (λ_ i _=>n-(intOf i).toNat);case atStart=>exact⟨rfl,0,0,Nat.zero_le _,rfl,rfl⟩
 case round=>
  obtain⟨rfl,k,q,hk,rfl,rfl⟩:=hrel;by_cases ϗ:k<n
  ·have z:k<ss.length:=by rw[U.out];exact ϗ
   obtain⟨g1,rfl,Y⟩:=Z.out k z;obtain⟨g2,rfl,K⟩:=O.out k z;have ä:(0:Int)<=k:=fO;have ϓ:(k:Int)<n:=fO;obtain⟨kb,V⟩:=bE (⟨(ss[k]).toArray⟩:ByteArray);rw[ah0,<-V] at Y K;go_wp2_with fail;go_quiet (fail);go_wp2;go_roundw;case rel=>exact⟨rfl,k+1,_,fO,by go_num,by first|rfl|(rw[World.drewN_drewN])⟩
   case measure=>simp[intOf]<;>omega
  ·have σ:(n:Int)<=k:=fO;go_wp2;go_ret;exact⟨rfl,q,rfl⟩
end Go.Proofs.YtnjmhjdhfaboaaaGreatDoor
