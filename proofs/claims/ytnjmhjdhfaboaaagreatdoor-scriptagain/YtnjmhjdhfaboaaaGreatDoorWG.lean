import Derived.Test.YtnjmhjdhfaboaaaGreatDoorWF
import Derived.Test.YtnjmhjdhfaboaaaGreatDoorS
set_option maxRecDepth 1000000
set_option maxHeartbeats 1000000
open List
open Go.Proofs.Tryz
namespace Go.Proofs.YtnjmhjdhfaboaaaGreatDoor
open Go.RowKit Go.Maps aV aD aU
theorem ű{p:Prop}(h:p):Go.RowKit.Hid p:=h
theorem Jd(a b:List UInt8):(Lit.string a).sameKey (.string b)=decide (a=b):=by
 by_cases h:a=b
 ·subst h;simp[Lit.sameKey]
 ·have:(Lit.string a) ≠ .string b:=λe=>h (by injection e)
  rw[sameKey_ne this];simp[h]
structure Coll(S:List Sr)(left:Lit->Bool)(ss:List (List UInt8)):Prop where
 nodup:ss.Nodup
 mem:∀k,k∈ss↔k∈bZ S/\left (.string k)=false
theorem Coll.start(S:List Sr)(j:Lit->Bool)(h:∀l,l∈S->j (.string l.key)=true):Coll S j []:=by
 refine⟨nodup_nil,λk=>⟨λo=>absurd o not_mem_nil,λo=>?_⟩⟩;obtain⟨l,z,rfl,_⟩:=ig.1 o.1;have q:=o.2;rw[h l z] at q;cases q
theorem Coll.skip{S:List Sr}{j:Lit->Bool}{ss:List (List UInt8)}(h:Coll S j ss){x:List UInt8}(o:x∉bZ S):Coll S (λz=>j z && !z.sameKey (.string x)) ss:=by
 refine⟨h.nodup,λk=>?_⟩;rw[h.mem,Jd];by_cases e:k=x
 ·subst e;exact⟨λh=>absurd h.1 o,λh=>absurd h.1 o⟩
 ·simp[e]
theorem Coll.put{S:List Sr}{j:Lit->Bool}{ss:List (List UInt8)}(h:Coll S j ss){x:List UInt8}(F:x∈bZ S)(A:j (.string x)=true):Coll S (λz=>j z && !z.sameKey (.string x)) (ss ++ [x]):=by
 have D:x∉ss:=λe=>by
  have:=((h.mem x).1 e).2;rw[A] at this;cases this
 refine⟨nodup_append.2 ⟨h.nodup,pairwise_singleton ..,λa q b o=>?_⟩,λk=>?_⟩
 ·simp at o;subst o;intro e;subst e;exact D q
 ·rw[mem_append,h.mem,Jd];by_cases e:k=x
  ·subst e;simp[F]
  ·simp[e]
theorem Coll.sorted{S:List Sr}{j:Lit->Bool}{ss:List (List UInt8)}(h:Coll S j ss)(A:S.Pairwise λa b=>a.key<b.key)(D:∀G,j G=false):ss.mergeSort leB=bZ S:=by
 have F:ss.Perm (bZ S):=(perm_ext_iff_of_nodup h.nodup (yM A)).2 λk=>by rw[h.mem,D];simp
 have H:∀a b c:List UInt8,leB a b=true->leB b c=true->leB a c=true:=λa b c o q=>by simp only[leB,decide_eq_true_eq] at *;exact List.le_trans o q
 have z:∀a b:List UInt8,(leB a b||leB b a)=true:=λa b=>by simp only[leB,Bool.or_eq_true,decide_eq_true_eq];exact List.le_total a b
 refine List.Perm.eq_of_pairwise (le:=λa b=>leB a b=true) (λa b _ _ o q=>?_) (pairwise_mergeSort H z ss) ((CF A).imp fun {a b} I=>by simp only[leB,decide_eq_true_eq];exact List.le_of_lt I) ((mergeSort_perm ss leB).trans F);simp only[leB,decide_eq_true_eq] at o q;exact List.le_antisymm o q
theorem Tryz.infoStr2:(prog.info? 9).map (λi=>(i.zero,i.size,i.bytes))=some (some (.string ⟨#[]⟩),1,16):=iX
theorem Je(w:World)(hb J:Nat)(S:List Sr)(bl:List UInt8->Nat)(sv:List UInt8->Value)(h:dL w hb J S bl sv)(hS:S.Pairwise λa b=>a.key<b.key)(hn:S.length<=1000):
  Calls prog 100 #[.pointer (some ⟨hb,0,none⟩)] w λe w'=>∃v,e = .returned v/\Below w.heap.size w w'/\w'.ownsRow w.heap.size 9 1 v (bZ S).length ((bZ S).map encStr):=by
 have HH:=ű h;have c0:=h.cell;obtain⟨D,h1,h2,h3,h4⟩:=h.map;have W:Hid (w.ownsMap prog 9 fO J S.length D/\Maps.size D=S.length/\(∀k,Maps.has D (.string k)=known S k)/\∀l,l∈S->∀z,D.atKey (.string l.key) z = .held (.pointer (some ⟨bl l.key,0,none⟩))):=⟨h1,h2,h3,h4⟩;have HS:=ű hS;have hml:=h1.lt;obtain⟨iS,hI,hI0,hI1,hI2⟩:=info_parts Tryz.infoStr2;have qA:=ű hI;go_enter func100,ntmps100;go_wp2_with (at_range;refine wpList_range_own _ rfl _ 198 rfl 9 197 qI underlying198 _ J S.length D rfl W.out.1 ?_;intro w0 hrg0 Į ă);go_frame;have H0:Hid (w0.ranges prog 9 fO J w.heap.size S.length D (Maps.has D) (Maps.size D)/\Below w.heap.size w w0):=⟨hrg0,⟨Į.os,Į.tape,Į.output,Į.size,λb o=>Į.block b o rQ⟩⟩;go_loopw [3] (λv wr=>∃q K ss,Coll S q ss/\(ss = []->v = .slice none 0 0)/\ss.length+K<=S.length/\wr.ownsRow w.heap.size 9 1 v ss.length (ss.map encStr)/\wr.ranges prog 9 fO J w.heap.size S.length D q K/\Below w.heap.size w wr) (λ_ wr=>wr.rangeLeft J w.heap.size);case atStart=>exact⟨Maps.has D,Maps.size D,[],Coll.start _ _ λl O=>by rw[W.out.2.2.1];exact dD.2 ⟨l,O,rfl⟩,λ_=>rfl,by rw[W.out.2.1];simp,⟨rfl,.inl ⟨rfl,rfl⟩⟩,H0.out.1,H0.out.2⟩
 case round=>
  obtain⟨q,K,ss,hco,hz,hcn,ό,hrg,ϙ⟩:=hrel;have Ll:=ű hrg;have bA:=ű ϙ;have Vw:=ű hco;have HZ:=ű hz;have A:=ű ό;go_wp2_with (at_next;refine wpList_next_ranges _ rfl _ rfl 9 qI fO encStr (λv:Value=>v) (λkey kl hk=>by obtain⟨x,hx,_⟩:=Maps.keyOf_str underlying9 hk;exact⟨x,hx⟩) (λv y hv=>⟨v,rfl⟩) J w.heap.size S.length _ _ _ rfl Ll.out ?_ ?_)
  ·intro _ Ī;have Y:=ű (Vw.out.sorted HS.out Ī);have HST:=ű (Uu wr w.heap.size _ ss A.out fM HZ.out);go_wp2_with fail;refine Calls.mono HST.out ?_;rintro e w3 ⟨rfl,ð,Rs⟩;have ϐ:ss.length=(bZ S).length:=by rw[<-Y.out];simp
   rw[Y.out,ϐ] at ð;have HB3:=ű (bA.out.trans ⟨Rs.os,Rs.tape,Rs.output,Rs.size,λb o=>Rs.block b (Nat.lt_of_lt_of_le o bA.out.size) (λe=>row_ne_low A.out o e)⟩);have K9:=ű ð;go_wp2;go_ret;exact⟨_,by rfl,HB3.out,K9.out⟩
  ·intro x c kl yd yp U F Í Ö hv Ê I ϗ Q μ hen;obtain⟨x',ex,rfl,_⟩:=Maps.keyOf_str underlying9 Í;obtain rfl:x=x':=encStr_inj ex;have ϣ:known S x=true:=by rw[<-W.out.2.2.1];exact has_true_of_atKey Ê
   obtain⟨l,O,G⟩:=dD.1 ϣ;have š:c = .pointer (some ⟨bl l.key,0,none⟩):=by
    have h5:=W.out.2.2.2 l O .nil;rw[G] at h5;rw[Ê .nil] at h5;simp only[fO,Option.some.injEq,Prod.mk.injEq] at hv;rw[G];have:=hv.1.trans h5;injection this
   subst š;have î:=HH.out.line l O;obtain⟨a,cc,ũ,_⟩:=gT (HH.out.row l O);rw[ũ] at î;have H:=ű (bA.out.trans ⟨Q.os,Q.tape,Q.output,Q.size,λb o=>Q.block b (Nat.lt_of_lt_of_le o bA.out.size) (λe=>by injection e with e;omega)⟩);have q0:U.cell? ⟨bl l.key,0,none⟩=some (.slice a l.pts.length cc):=(H.out.cell (p:=⟨bl l.key,0,none⟩) (aC î)).trans (by simp[World.cell?,î]);have y8:Hid (U.ownsRow w.heap.size 9 1 u3 ss.length (ss.map encStr)):=bC A.out λg hg=>Q.block g (aH A.out hg).2.1 (λe=>row_ne_iter A.out Ll.out (by rw[hg];exact e.symm))
   have V:=ű (And.intro I ϗ);have Ë:=H.out.size;have ar2:=ϗ;have Rt:=ű Ö;have uX:Hid (x∈bZ S↔0<l.pts.length):=by
    constructor
    ·intro hx;obtain⟨m,hm,ħ,hmp⟩:=ig.1 hx;have:=uniq HS.out hm O (ħ.trans G.symm);subst this;exact length_pos_iff.2 hmp
    ·exact λhx=>ig.2 ⟨l,O,G,length_pos_iff.1 hx⟩
   clear Í ex hv Ê I ϗ Q μ ϣ G î ũ Ö;by_cases hp:0<l.pts.length
   ·have hp':decide ((0:Int)<l.pts.length)=true:=decide_eq_true fM;have lC:Hid ((U.alloc (.cells #[encStr x] 9)).ownsRow w.heap.size 9 1 u3 ss.length (ss.map encStr)):=y8.out.alloc _;have gY:Hid (∀j u,[encStr x][j]? = some u->(U.alloc (.cells #[encStr x] 9)).cell? ((⟨U.heap.size,0,none⟩:Addr).add j)=some u):=World.news_of_block (cs:=#[encStr x]) (heap_alloc_new _ _);have ko:Hid (∀u ∈ [encStr x],u.oneCell'=true):=λu hu=>by simp at hu;subst hu;rfl
    go_wp2_with (at_builtin;refine wpList_append_lies _ rfl _ _ 22 rfl w.heap.size 9 iS (.string ⟨#[]⟩) 1 16 underlying22 qA.out hI0 hI1 hI2 rfl lJ _ _ _ rfl lC.out ⟨U.heap.size,0,none⟩ 1 1 [encStr x] rfl rfl gY.out ko.out fM (by unfold maxLen;omega) fM oI _ rfl ?_);intro g7 dQ w7 bR R _ _;have Z:Hid (w7.ranges prog 9 fO J w.heap.size S.length D (λz=>q z && !z.sameKey (.string x)) F):=(V.out.1.alloc _).kept R (row_ne_low y8.out hml) (row_ne_iter y8.out V.out.1);have Z4:=ű ((H.out.alloc Ë _).trans ⟨R.os,R.tape,R.output,R.size,λb o=>R.block b oI (row_ne_low y8.out o)⟩);have EZ:Hid (w7.ownsRow w.heap.size 9 1 (.slice (some ⟨g7,0,none⟩) (ss.length+1) dQ) (ss ++ [x]).length ((ss ++ [x]).map encStr)):=by
     have e1:(ss ++ [x]).length=ss.length+1:=rQ;have e2:(ss ++ [x]).map encStr=ss.map encStr ++ [encStr x]:=rQ;show World.ownsRow _ _ _ _ _ _ _;rw[e1,e2];exact bR
    have HC7:=ű (Vw.out.put (uX.out.2 hp) Rt.out);go_wp2;go_roundw;case rel=>exact⟨_,F,ss ++ [x],HC7.out,λe=>absurd e rQ,oI,EZ.out,Z.out,Z4.out⟩
    case measure=>rw[World.ranges.left_eq Z.out,World.ranges.left_eq Ll.out];exact V.out.2
   ·have hp':decide ((0:Int)<l.pts.length)=false:=decide_eq_false fM;have HSK:Hid (x∉bZ S):=λe=>hp (uX.out.1 e)
    go_wp2;go_roundw;case rel=>exact⟨_,F,ss,Vw.out.skip HSK.out,HZ.out,fM,y8.out,V.out.1,H.out⟩
    case measure=>rw[World.ranges.left_eq V.out.1,World.ranges.left_eq Ll.out];exact V.out.2
theorem aiu(k:List UInt8):encStr k = .string ⟨k.toArray⟩:=rfl
theorem Lm(w:World)(G H:Nat)(v1 A:Value)(ss:List (List UInt8))(K:w.ownsRow G 9 1 v1 ss.length (ss.map encStr))(O:w.ownsRow H 9 1 A ss.length (ss.map encStr))(Q:ss.length<=1000):
  Calls prog 12 #[v1,A] w λe w'=>e = .returned (.bool true)/\∃q,w'=w.drewN q:=by
 have o:∀b v,w.ownsRow b 9 1 v ss.length (ss.map encStr)->∃a c,v = .slice a ss.length c/\∀i (z:i<ss.length),∃g,a=some ⟨g,0,none⟩/\w.cell? ⟨g,i,none⟩=some (encStr (ss[i])):=by
  intro b v h;rcases h.2 with⟨hv,h0⟩|⟨g,cap,cur,hv,_,hh,_,_,_,ht⟩
  ·exact⟨none,0,by rw[h0];exact hv,λi z=>absurd z fM⟩
  ·refine⟨some ⟨g,0,none⟩,cap,hv,λi z=>⟨g,rfl,?_⟩⟩;have:cur[i]? = (ss.map encStr)[i]?:=by rw[<-ht,List.getElem?_take_of_lt fM];simp
   rw[List.getElem?_map,List.getElem?_eq_getElem z] at this;simp[World.cell?,hh,this]
 obtain⟨a1,c1,rfl,W⟩:=o _ _ K;obtain⟨a2,c2,rfl,Y⟩:=o _ _ O;have R:=ű W;have V:=ű Y;obtain⟨n,D⟩:=eB ss.length;have F:=ű D;rw[D] at Q ⊢;go_enter func12,ntmps12;go_wp2_with fail;go_loopw [4,5] (λU i wr=>U = .bool false/\∃k q:Nat,k<=n/\i = .int .i64 k/\wr=w.drewN q) (λ_ i _=>n-(intOf i).toNat);case atStart=>exact⟨rfl,0,0,Nat.zero_le _,rfl,rfl⟩
 case round=>
  obtain⟨rfl,k,q,hk,rfl,rfl⟩:=hrel;by_cases ϗ:k<n
  ·have j:k<ss.length:=by rw[F.out];exact ϗ
   obtain⟨g1,rfl,I⟩:=R.out k j;obtain⟨g2,rfl,J⟩:=V.out k j;have Ý:(0:Int)<=k:=fM;have ϓ:(k:Int)<n:=fM;obtain⟨kb,Z⟩:=bF (⟨(ss[k]).toArray⟩:ByteArray);rw[aiu,<-Z] at I J;go_wp2_with fail;go_quiet (fail);go_wp2;go_roundw;case rel=>exact⟨rfl,k+1,_,fM,rU,by first|rfl|(rw[World.drewN_drewN])⟩
   case measure=>simp[intOf]<;>omega
  ·have θ:(n:Int)<=k:=fM;go_wp2;go_ret;exact⟨rfl,q,rfl⟩
