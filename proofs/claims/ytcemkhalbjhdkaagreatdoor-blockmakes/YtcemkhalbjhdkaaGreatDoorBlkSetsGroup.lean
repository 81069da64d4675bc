import Derived.Test.YtcemkhalbjhdkaaGreatDoorMdAtGroup
import Derived.Test.YtcemkhalbjhdkaaGreatDoorBlkTwoGroup
import Derived.Deep.CutRange
import Derived.Test.YtcemkhalbjhdkaaGreatDoorBlkRowsGroup
set_option maxRecDepth 1000000
set_option maxHeartbeats 8000000
namespace Go.Proofs.YtcemkhalbjhdkaaGreatDoor
open Go.RowKit Go.Maps dB aZ
structure uZ (w:World) (sb:Nat) (rows:List (List UInt8×List (Int×Nat))):Prop where
 ex:∃ a c b d,w.heap[sb]? = some (.cells #[.slice a rows.length c,.slice b rows.length d] 96 (0,0)) /\
  (∀ i (hi:i<rows.length),∃ g,a=some ⟨g,0,none⟩/\w.cell? ⟨g,i,none⟩=some (encStr rows[i].1)) /\
  (∀ i (hi:i<rows.length),∃ g,b=some ⟨g,0,none⟩/\∃ A C,w.cell? ⟨g,i,none⟩=some (.slice A rows[i].2.length C)/\gM w A rows[i].2)
theorem uZ.below {w z:World} {sb:Nat} {rows:List (List UInt8×List (Int×Nat))} (h:uZ w sb rows) (hb:Below w.heap.size w z):uZ z sb rows:=by
 obtain⟨a,c,b,d,h1,h2,h3⟩:=h.ex;refine⟨a,c,b,d,(hb.block _ (aL h1)).trans h1,fun i hi=>?_,fun i hi=>?_⟩
 ·obtain⟨g,e,hc⟩:=h2 i hi;exact⟨g,e,(hb.cell (p:=⟨g,i,none⟩) (World.block_lt_of_cell? w ⟨g,i,none⟩ hc)).trans hc⟩
 ·obtain⟨g,e,A,C,hc,hp⟩:=h3 i hi;exact⟨g,e,A,C,(hb.cell (p:=⟨g,i,none⟩) (World.block_lt_of_cell? w ⟨g,i,none⟩ hc)).trans hc,hp.below hb⟩
structure o9 (w:World) (base sb:Nat) (vs vl:Value) (ss:List (List UInt8)) (ls:List Value):Prop where
 set:w.heap[sb]? = some (.cells #[vs,vl] 96 (0,0))
 low:sb<base
 names:w.ownsRow base 9 1 vs ss.length (ss.map encStr)
 row:w.ownsRow base 48 1 vl ls.length ls
theorem o9.below {w z:World} {base sb:Nat} {vs vl:Value} {ss:List (List UInt8)} {ls:List Value} (h:o9 w base sb vs vl ss ls) (hb:Below w.heap.size w z):o9 z base sb vs vl ss ls:=
 ⟨(hb.block _ (aL h.set)).trans h.set,h.low,dK h.names hb,dK h.row hb⟩
theorem eU {z:World} {base tb k:Nat} {e:TypeId} {sz:Nat} {v u:Value} {n:Nat} {xs:List Value} (h:z.ownsRow base e sz v n xs) (hl:tb<base):(z.setCell ⟨tb,k,none⟩ u).ownsRow base e sz v n xs:=dD h fun g hg=>by
 have:=(bK h hg).1;exact Below.heap_setCell _ _ _ _ (by show g≠tb;omega)
theorem o9.name {w Y z:World} {base sb:Nat} {vs vl:Value} {ss:List (List UInt8)} {ls:List Value} (h:o9 w base sb vs vl ss ls) {x:List UInt8} {g cap:Nat} (hbase:base<=w.heap.size) (h1:Below w.heap.size w Y) (o:z.ownsRow base 9 1 (.slice (some ⟨g,0,none⟩) (ss.length+1) cap) (ss.length+1) (ss.map encStr ++ [encStr x])) (G:pV Y z vs g) :
  z.heap[sb]? = some (.cells #[vs,vl] 96 (0,0))/\Below base w z/\o9 (z.setCell ⟨sb,0,none⟩ (.slice (some ⟨g,0,none⟩) (ss.length+1) cap)) base sb (.slice (some ⟨g,0,none⟩) (ss.length+1) cap) vl (ss ++ [x]) ls:=by
 have hlow:=h.low;have s1:=h1.size;have b1:Below base w z:=(h1.mono hbase).trans (G.below (by omega) fun q hq=>(bK h.names hq).1);have ht:=(b1.block sb hlow).trans h.set;have hr:z.ownsRow base 48 1 vl ls.length ls:=dD h.row fun g' hg'=>by
  obtain⟨_,q2,cur,hc⟩:=bK h.row hg';refine (G.blk g' (by omega) fun e=>?_).trans (h1.block g' q2);obtain⟨_,_,ZX,hc2⟩:=bK h.names e;exact sK hc hc2 (by decide) rfl
 refine⟨ht,b1,⟨(dz ht 0 _).trans (by rfl),hlow,?_,eU hr hlow⟩⟩;have:=eU (k:=0) (u:=.slice (some ⟨g,0,none⟩) (ss.length+1) cap) o hlow;simpa using this
theorem o9.list {w Y z:World} {base sb:Nat} {vs vl:Value} {ss:List (List UInt8)} {ls:List Value} (h:o9 w base sb vs vl ss ls) {x:Value} {g cap:Nat} (hbase:base<=w.heap.size) (h1:Below w.heap.size w Y) (o:z.ownsRow base 48 1 (.slice (some ⟨g,0,none⟩) (ls.length+1) cap) (ls.length+1) (ls ++ [x])) (G:pV Y z vl g) :
  z.heap[sb]? = some (.cells #[vs,vl] 96 (0,0))/\Below base w z/\o9 (z.setCell ⟨sb,1,none⟩ (.slice (some ⟨g,0,none⟩) (ls.length+1) cap)) base sb vs (.slice (some ⟨g,0,none⟩) (ls.length+1) cap) ss (ls ++ [x]):=by
 have hlow:=h.low;have s1:=h1.size;have b1:Below base w z:=(h1.mono hbase).trans (G.below (by omega) fun q hq=>(bK h.row hq).1);have ht:=(b1.block sb hlow).trans h.set;have hr:z.ownsRow base 9 1 vs ss.length (ss.map encStr):=dD h.names fun g' hg'=>by
  obtain⟨_,q2,cur,hc⟩:=bK h.names hg';refine (G.blk g' (by omega) fun e=>?_).trans (h1.block g' q2);obtain⟨_,_,ZX,hc2⟩:=bK h.row e;exact sK hc hc2 (by decide) rfl
 refine⟨ht,b1,⟨(dz ht 1 _).trans (by rfl),hlow,eU hr hlow,?_⟩⟩;have:=eU (k:=1) (u:=.slice (some ⟨g,0,none⟩) (ls.length+1) cap) o hlow;simpa using this
theorem UE {w:World} {base:Nat} {e:TypeId} {v:Value} {xs:List Value} (h:w.ownsRow base e 1 v xs.length xs):∃ a c,v = .slice a xs.length c/\∀ k (hk:k<xs.length),∃ g,a=some ⟨g,0,none⟩/\w.cell? ⟨g,k,none⟩=some xs[k]:=by
 rcases h.2 with⟨hv,h0⟩|⟨g,cap,cur,hv,hg,hh,h1,h2,h3,h4⟩
 ·exact⟨none,0,by rw[hv,h0],fun k hk=>absurd hk (by omega)⟩
 ·refine⟨_,_,hv,fun k hk=>⟨g,rfl,?_⟩⟩;have e0:w.cell? ⟨g,k,none⟩=cur[k]?:=by simp[World.cell?,hh]
  rw[e0,<-Array.getElem?_toList,<-List.getElem?_eq_getElem hk];conv=>rhs;rw[<-h4]
  rw[List.getElem?_take_of_lt (by omega)]
theorem o9.done {w:World} {base sb:Nat} {vs vl:Value} {rows:List (List UInt8×List (Int×Nat))} {ls:List Value} (h:o9 w base sb vs vl (rows.map Prod.fst) ls) (hl:ls.length=rows.length) (hp:∀ i (hi:i<rows.length),∃ A C,ls[i]? = some (.slice A rows[i].2.length C)/\gM w A rows[i].2):uZ w sb rows:=by
 obtain⟨a,c,h1,hc⟩:=qx h.names;obtain⟨b,d,h2,hd⟩:=UE h.row;have hs:=h.set;rw[h1,h2,hl,List.length_map] at hs;refine⟨a,c,b,d,hs,fun i hi=>?_,fun i hi=>?_⟩
 ·obtain⟨g,e,hg⟩:=hc i (by simpa using hi);exact⟨g,e,by rw[hg];simp⟩
 ·obtain⟨g,e,hg⟩:=hd i (by omega);obtain⟨A,C,hA,hP⟩:=hp i hi;rw[List.getElem?_eq_getElem (by omega)] at hA;exact⟨g,e,A,C,by rw[hg,Option.some.inj hA],hP⟩
theorem Tryz.infoPts3:(Tryz.prog.info? 48).map (fun i=>(i.zero,i.size,i.bytes))=some (some (.slice none 0 0),1,24):=by kernel_rfl
theorem Pt (w:World) (la:Option Addr) (c:Nat) (rows:List (List UInt8×List (Int×Nat))) (hP:lW w la rows) (hn:rows.length<=1000) :
  Calls Tryz.prog 17 #[.slice la rows.length c] w fun e w'=>e = .returned (.pointer (some ⟨w.heap.size,0,none⟩))/\Below w.heap.size w w'/\uZ w' w.heap.size rows:=by
 have HP:Hid (lW w la rows):=hP;obtain⟨W,hW⟩:∃ W,W=w.alloc (.cells #[.slice none 0 0,.slice none 0 0] 96):=⟨_,rfl⟩;have hbW:Below w.heap.size w W:=by rw[hW];exact (Below.refl _ _).alloc (Nat.le_refl _) _
 have Dg:W.heap[w.heap.size]? = some (.cells #[.slice none 0 0,.slice none 0 0] 96 (0,0)):=by rw[hW];exact heap_alloc_new _ _
 have HW:=(show Hid _ from hW);have dh:=(show Hid _ from hbW);have H0:Hid (o9 W (w.heap.size+1) w.heap.size (.slice none 0 0) (.slice none 0 0) [] []):=⟨Dg,Nat.lt_succ_self _,⟨rfl,.inl ⟨rfl,rfl⟩⟩,⟨rfl,.inl ⟨rfl,rfl⟩⟩⟩;have hsz:w.heap.size+1<=W.heap.size:=aL Dg;obtain⟨n,hnn⟩:∃ n,n=rows.length:=⟨_,rfl⟩;have HN:=(show Hid _ from hnn.symm);rw[<-hnn] at hn ⊢;obtain⟨iS,hI,hS0,hS1,hS2⟩:=info_parts Tryz.infoStr3;have HIS:=(show Hid _ from hI);clear hI;obtain⟨iR,hI,hR0,yK,hR2⟩:=info_parts Tryz.infoPts3;have ZY:=(show Hid _ from hI);clear hP hW hbW Dg hnn hI;go_enter Tryz.func17,Tryz.ntmps17;go_upto_region 2 with fail;rw[<-HW.out];go_wp2_with fail;go_loopw [4] (fun i wr=>∃ (k:Nat) (vs vl:Value) (ls:List Value),k<=n/\i = .int .i64 (k:Int)/\Below w.heap.size w wr/\w.heap.size+1<=wr.heap.size/\ls.length=k/\o9 wr (w.heap.size+1) w.heap.size vs vl ((rows.take k).map Prod.fst) ls/\∀ i (hi:i<rows.length),i<k->∃ A C,ls[i]? = some (.slice A rows[i].2.length C)/\gM w A rows[i].2) (fun i _=>n-(intOf i).toNat);case atStart=>exact⟨0,_,_,[],Nat.zero_le _,rfl,dh.out,hsz,rfl,by simpa using H0.out,fun i _ h=>absurd h (Nat.not_lt_zero _)⟩
 case round=>
  obtain⟨k,vs,vl,ls,hk,rfl,hbr,hws,hls,hset,hpt⟩:=hrel;have bH:=(show Hid _ from hbr);have pI:=(show Hid _ from hset);have K8:=(show Hid _ from hls);have Np:Hid (∀ i (hi:i<rows.length),i<k->∃ A C,ls[i]? = some (.slice A rows[i].2.length C)/\gM w A rows[i].2):=hpt;by_cases hkn:k<n
  ·have hkr:k<rows.length:=by rw[HN.out];exact hkn
   rcases HP.out with h0 | ⟨b,o,rfl,hcs⟩
   ·rw[h0] at hkr;exact absurd hkr (Nat.not_lt_zero _)
   obtain⟨e1,A,C,e2,hpk⟩:=hcs k hkr;have hbl:b<w.heap.size:=World.block_lt_of_cell? w ⟨b,_,none⟩ e1;obtain⟨xk,hxk⟩:∃ xk:ByteArray,xk=⟨(rows[k].1).toArray⟩:=⟨_,rfl⟩;have HQ:Hid (∀ w',Below w.heap.size w w'->w'.cell? ⟨b,o+k*2,none⟩=some (.string xk)/\w'.cell? ⟨b,o+k*2+1,none⟩=some (.slice A rows[k].2.length C)):=fun w' h=>by rw[hxk];exact⟨(h.cell (p:=⟨b,_,none⟩) hbl).trans e1,(h.cell (p:=⟨b,_,none⟩) hbl).trans e2⟩
   have k0:(0:Int)<=(k:Int):=by omega
   have k1:(k:Int)<(n:Int):=by omega
   have hk3:k<=1000:=by omega
   have hlk:((rows.take k).map Prod.fst).length=k:=by rw[List.length_map,List.length_take];omega
   obtain⟨nk,hnk⟩:∃ nk,nk=rows[k].2.length:=⟨_,rfl⟩;rw[<-hnk] at HQ;have HX:=(show Hid _ from And.intro hxk (And.intro hnk hpk));obtain⟨a1,c1,hvs⟩:=bT hset.names;obtain⟨a2,c2,hvl⟩:=bT hset.row;rw[hlk] at hvs;rw[hls] at hvl;subst hvs hvl;have rQ:Hid (wr.ownsRow (w.heap.size+1) 9 1 (.slice a1 k c1) k (((rows.take k).map Prod.fst).map encStr)):=by have:=hset.names;rw[hlk] at this;exact this
   have RI:=(show Hid _ from hlk);have hst:=hset.set;have s0:wr.cell? ⟨w.heap.size,0,none⟩=some (.slice a1 k c1):=ak hst 0;have Z0:wr.drew.cell? ⟨w.heap.size,0,none⟩=some (.slice a1 k c1):=s0;have RJ:(wr.drew.alloc (.cells #[.string xk] 9)).cell? ⟨w.heap.size,0,none⟩=some (.slice a1 k c1):=ak ((heap_alloc_old _ _ (aL hst)).trans hst) 0;have sb0:(wr.alloc (.cells #[.string xk] 9)).cell? ⟨w.heap.size,0,none⟩=some (.slice a1 k c1):=RJ;have hbd:Below w.heap.size w wr.drew:=hbr.drew;have l0:=(HQ.out wr hbr).1;have ld0:=(HQ.out _ hbd).1;clear hset hpt hxk hnk hpk e1 e2 hcs hls hlk hst hbr;go_wp2_with fail;go_region_law (refine fP wr (by rfl) _ _ 23 (by rfl) (w.heap.size+1) 9 iS (.string ⟨#[]⟩) 16 Tryz.underlying23 HIS.out hS0 hS1 hS2 (by rfl) (.slice a1 k c1) k (((rows.take k).map Prod.fst).map encStr) (by rfl) rQ.out (by repeat (first | exact Below.refl _ _ | with_reducible apply bV | with_reducible apply bZ)) _ _ _ _ (by rfl) (by exact heap_alloc_new _ _) (by rfl) (by omega) (by decide) hws ?_;intro g7 fB w7 dW iD iH;have h7:=pI.out.name (x:=rows[k].1) hws iH (by rw[RI.out];rw[HX.out.1] at dW;exact dW) iD;rw[RI.out] at h7;have q0:w7.cell? ⟨w.heap.size,0,none⟩=some (.slice a1 k c1):=ak h7.1 0;have z0:w7.frozen? ⟨w.heap.size,0,none⟩=false:=(by simp[World.frozen?,h7.1]);have H7:=(show Hid _ from And.intro h7.2 iD.size);have H7S:Hid (w.heap.size+1<=w7.heap.size):=(Nat.le_trans hws (Nat.le_trans iH.size iD.size));clear dW iD iH h7);all_goals (
    obtain⟨⟨kX,Fw⟩,_⟩:=H7.out
    obtain⟨Z7,V8⟩:∃ Z7,Z7=w7.setCell ⟨w.heap.size,0,none⟩ (.slice (some ⟨g7,0,none⟩) (k+1) fB):=⟨_,rfl⟩
    have hbz:Below w.heap.size w Z7:=by rw[V8];exact (bH.out.trans (kX.mono (Nat.le_succ _))).setCell (p:=⟨w.heap.size,0,none⟩) (Nat.le_refl _) _
    have UF:w.heap.size+1<=Z7.heap.size:=by rw[V8,World.size_setCell];exact H7S.out
    rw[<-V8] at Fw ⊢
    have jd:Hid (Z7.ownsRow (w.heap.size+1) 48 1 (.slice a2 k c2) k ls):=by have:=Fw.row;rw[K8.out] at this;exact this
    have hst:=Fw.set
    have s1:Z7.cell? ⟨w.heap.size,1,none⟩=some (.slice a2 k c2):=ak hst 1
    have sd1:Z7.drew.cell? ⟨w.heap.size,1,none⟩=some (.slice a2 k c2):=s1
    have sa1:(Z7.drew.alloc (.cells #[.slice A nk C] 48)).cell? ⟨w.heap.size,1,none⟩=some (.slice a2 k c2):=ak ((heap_alloc_old _ _ (aL hst)).trans hst) 1
    have sb1:(Z7.alloc (.cells #[.slice A nk C] 48)).cell? ⟨w.heap.size,1,none⟩=some (.slice a2 k c2):=sa1
    have l1:=(HQ.out Z7 hbz).2
    have ld1:=(HQ.out _ hbz.drew).2
    have l9:=(show Hid _ from Fw)
    have HBZ:=(show Hid _ from hbz)
    clear Fw kX V8 hst H7 H7S q0 z0 l0 ld0 s0 Z0 RJ sb0 hbd hbz
    go_wp2_with fail
    go_region_law (refine fP Z7 (by rfl) _ _ 94 (by rfl) (w.heap.size+1) 48 iR (.slice none 0 0) 24 Tryz.underlying94 ZY.out hR0 yK hR2 (by rfl) (.slice a2 k c2) k ls (by rfl) jd.out (by repeat (first | exact Below.refl _ _ | with_reducible apply bV | with_reducible apply bZ)) _ _ _ _ (by rfl) (by exact heap_alloc_new _ _) (by rfl) (by omega) (by decide) UF ?_;intro g8 fK w8 gX fV fu;have h8:=l9.out.list (x:=.slice A nk C) UF fu (by rw[K8.out];exact gX) fV;rw[K8.out] at h8;have q1:w8.cell? ⟨w.heap.size,1,none⟩=some (.slice a2 k c2):=ak h8.1 1;have z1:w8.frozen? ⟨w.heap.size,1,none⟩=false:=(by simp[World.frozen?,h8.1]);have H8:=(show Hid _ from h8.2);have Ie:Hid (w.heap.size+1<=w8.heap.size):=(Nat.le_trans UF (Nat.le_trans fu.size fV.size));clear gX fV fu h8)
    all_goals (
     have iU:Hid (Below w.heap.size w (w8.setCell ⟨w.heap.size,1,none⟩ (.slice (some ⟨g8,0,none⟩) (k+1) fK))/\w.heap.size+1<=(w8.setCell ⟨w.heap.size,1,none⟩ (.slice (some ⟨g8,0,none⟩) (k+1) fK)).heap.size/\(ls ++ [Value.slice A nk C]).length=k+1/\o9 (w8.setCell ⟨w.heap.size,1,none⟩ (.slice (some ⟨g8,0,none⟩) (k+1) fK)) (w.heap.size+1) w.heap.size (.slice (some ⟨g7,0,none⟩) (k+1) fB) (.slice (some ⟨g8,0,none⟩) (k+1) fK) ((rows.take (k+1)).map Prod.fst) (ls ++ [Value.slice A nk C])/\∀ i (hi:i<rows.length),i<k+1->∃ A' C',(ls ++ [Value.slice A nk C])[i]? = some (.slice A' rows[i].2.length C')/\gM w A' rows[i].2):=by
      obtain⟨jQ,abo⟩:=H8.out;refine⟨(HBZ.out.trans (jQ.mono (Nat.le_succ _))).setCell (p:=⟨w.heap.size,1,none⟩) (Nat.le_refl _) _,by rw[World.size_setCell];exact Ie.out,by simp[K8.out],?_,fun i hi hik=>?_⟩
      ·rw[List.take_succ_eq_append_getElem hkr,List.map_append];exact abo
      ·rcases Nat.lt_or_ge i k with h | h
       ·obtain⟨A',C',h1,h2⟩:=Np.out i hi h;exact⟨A',C',by rw[List.getElem?_append_left (by rw[K8.out];exact h)];exact h1,h2⟩
       ·obtain rfl:i=k:=by omega
        exact⟨A,C,by rw[List.getElem?_append_right (by rw[K8.out];exact Nat.le_refl _),K8.out,<-HX.out.2.1];simp,HX.out.2.2⟩
     clear H8 Ie q1 z1
     go_wp2
     go_roundw
     case rel=>exact⟨k+1,_,_,_,by omega,by go_num,iU.out⟩
     case measure=>simp[intOf]<;>omega))
  ·obtain rfl:k=n:=by omega
   have hge:(k:Int)<=(k:Int):=Int.le_refl _;have HF:Hid (uZ wr w.heap.size rows):=by
    have pW:rows.take k=rows:=by rw[<-HN.out];exact List.take_length
    rw[pW] at hset;refine hset.done (by rw[hls,HN.out]) fun i hi=>?_
    obtain⟨A,C,h1,h2⟩:=hpt i hi (by have:=HN.out;omega);exact⟨A,C,h1,h2.below hbr⟩
   clear hset hpt hls hbr;go_wp2;go_ret;exact⟨rfl,bH.out,HF.out⟩
end Go.Proofs.YtcemkhalbjhdkaaGreatDoor
namespace Go.Proofs.YtcemkhalbjhdkaaGreatDoor
open Go.RowKit Go.Maps dB aZ
theorem Z4 (w:World) (la:Option Addr) (c:Nat) (l:List (Int×Nat)) (hP:gM w la l) (hin:jO l) (hn:l.length<=1000) :
  Calls Tryz.prog 48 #[.slice la l.length c] w fun e w'=>∃ A:Int,e = .returned (.agg #[.int .i64 (gT l),.int .i64 A])/\Below w.heap.size w w':=by
 by_cases h:120<l.length
 ·have hc:gT l=2:=by unfold gT;rw[if_pos h]
  refine (LV w la l.length c h (by omega)).mono ?_;rintro e w' ⟨rfl,hb⟩;exact⟨-1,by rw[hc],hb⟩
 ·obtain⟨g,g1,g2⟩:=mM (dY (gH l)) l.length;refine (AR w la l.length c (gH l) (nP l) (pK hP hin) (by omega) _ g g1 g2 _ _ rfl rfl).mono ?_;rintro e w' ⟨rfl,hb⟩;exact⟨_,by unfold gT Cq;rw[if_neg h],hb⟩
theorem Z5 (w:World) (la:Option Addr) (c:Nat) (l:List (Int×Nat)) (hP:gM w la l) (hin:jO l) (hz:gT l=0) :
  Calls Tryz.prog 50 #[.slice la l.length c] w fun e w'=>e = .returned (encStr (iN l))/\Below w.heap.size w w':=by
 obtain⟨h1,h2⟩:=kM hz;refine (Me w la l.length c (gH l) (nP l) (pK hP hin) (by omega) fun i hi=>?_).mono ?_
 ·have:=h2 i hi;simp only[dY,Bool.and_eq_true,fU] at this;omega
 ·rintro e w' ⟨rfl,hb⟩;exact⟨rfl,hb⟩
def abp (w w':World) (c:List UInt8) (e:Ending):Prop:=
 Below w.heap.size w w'/\((nQ c=0/\∃ v,e = .returned (.tuple #[v,.int .i64 0])/\w'.ownsRow w.heap.size 67 2 v (gL c).length (aV (gL c)))\/(nQ c≠0/\e = .returned (.tuple #[.slice none 0 0,.int .i64 (nQ c)])))
theorem Z6 (w:World) (s:ByteArray) (hs:s.size<=10000) :
  Calls Tryz.prog 54 #[.string s] w fun e w'=>abp w w' s.data.toList e:=by
 refine (Mf s w hs).mono ?_;rintro e w' ⟨hb,⟨n,T,Bt,v,hn,hT,Rt,hl,hown,rfl⟩|⟨c,hnot,hc,rfl⟩⟩
 ·have hch:dG s.data.toList:=⟨n,T,Bt,hn,hT,Rt,hl⟩;have hu:gL s.data.toList=eY T Bt n:=by
   rw[hl,<-zK];refine FZ (yV (by rw[iO];exact hn) fun i hi=>?_) fun p hp=>?_
   ·rw[iO] at hi;rw[qW _ T n (fun j hj=>qb T Bt n j hj) i hi];exact hT i hi
   ·simp[eY] at hp;obtain⟨i,hi,rfl⟩:=hp;exact Rt i hi
  refine⟨hb,.inl ⟨oF.2 hch,v,rfl,?_⟩⟩;rw[hu,iO,qp];exact hown
 ·have hu:nQ s.data.toList=(c:Int):=by
   rw[Nf hnot,hc];split
   ·rfl
   ·split<;>rfl
  refine⟨hb,.inr ⟨fun h=>hnot (oF.1 h),by rw[hu]⟩⟩
structure wY (w:World) (base tb:Nat) (f s:Int) (u1 u2:Value) (ss cs:List (List UInt8)):Prop where
 blk:w.heap[tb]? = some (.cells #[.int .i64 f,.int .i64 s,u1,u2] 30 (0,0))
 low:tb<base
 jW:w.ownsRow base 9 1 u1 ss.length (ss.map encStr)
 kU:w.ownsRow base 9 1 u2 cs.length (cs.map encStr)
 apart:∀ g,u1.ownBlock=some g->u2.ownBlock≠some g
theorem wY.below {w z:World} {base tb:Nat} {f s:Int} {u1 u2:Value} {ss cs:List (List UInt8)} (h:wY w base tb f s u1 u2 ss cs) (hb:Below w.heap.size w z):wY z base tb f s u1 u2 ss cs:=
 ⟨(hb.block _ (aL h.blk)).trans h.blk,h.low,dK h.jW hb,dK h.kU hb,h.apart⟩
theorem wY.first {w Y z:World} {base tb:Nat} {f s:Int} {u1 u2:Value} {ss cs:List (List UInt8)} (h:wY w base tb f s u1 u2 ss cs) {x:List UInt8} {g cap:Nat} (hbase:base<=w.heap.size) (h1:Below w.heap.size w Y) (o:z.ownsRow base 9 1 (.slice (some ⟨g,0,none⟩) (ss.length+1) cap) (ss.length+1) (ss.map encStr ++ [encStr x])) (G:pV Y z u1 g) :
  z.heap[tb]? = some (.cells #[.int .i64 f,.int .i64 s,u1,u2] 30 (0,0))/\Below base w z/\wY (z.setCell ⟨tb,2,none⟩ (.slice (some ⟨g,0,none⟩) (ss.length+1) cap)) base tb f s (.slice (some ⟨g,0,none⟩) (ss.length+1) cap) u2 (ss ++ [x]) cs:=by
 have hlow:=h.low;have s1:=h1.size;have b1:Below base w z:=(h1.mono hbase).trans (G.below (by omega) fun q hq=>(bK h.jW hq).1);have ht:=(b1.block tb hlow).trans h.blk;have hr:z.ownsRow base 9 1 u2 cs.length (cs.map encStr):=dD h.kU fun g' hg'=>by
  obtain⟨_,q2,cur,hc⟩:=bK h.kU hg';exact (G.blk g' (by omega) fun e=>h.apart g' e hg').trans (h1.block g' q2)
 refine⟨ht,b1,⟨(dz ht 2 _).trans (by rfl),hlow,?_,eU hr hlow,fun g' e1 e2=>?_⟩⟩
 ·have:=eU (k:=2) (u:=.slice (some ⟨g,0,none⟩) (ss.length+1) cap) o hlow;simpa using this
 ·simp[Value.ownBlock] at e1;subst e1;rcases G.at' with e | e
  ·exact h.apart g e e2
  ·have:=(bK h.kU e2).2.1;omega
theorem wY.second {w Y z:World} {base tb:Nat} {f s:Int} {u1 u2:Value} {ss cs:List (List UInt8)} (h:wY w base tb f s u1 u2 ss cs) {x:List UInt8} {g cap:Nat} (hbase:base<=w.heap.size) (h1:Below w.heap.size w Y) (o:z.ownsRow base 9 1 (.slice (some ⟨g,0,none⟩) (cs.length+1) cap) (cs.length+1) (cs.map encStr ++ [encStr x])) (G:pV Y z u2 g) :
  z.heap[tb]? = some (.cells #[.int .i64 f,.int .i64 s,u1,u2] 30 (0,0))/\Below base w z/\wY (z.setCell ⟨tb,3,none⟩ (.slice (some ⟨g,0,none⟩) (cs.length+1) cap)) base tb f s u1 (.slice (some ⟨g,0,none⟩) (cs.length+1) cap) ss (cs ++ [x]):=by
 have hlow:=h.low;have s1:=h1.size;have b1:Below base w z:=(h1.mono hbase).trans (G.below (by omega) fun q hq=>(bK h.kU hq).1);have ht:=(b1.block tb hlow).trans h.blk;have hr:z.ownsRow base 9 1 u1 ss.length (ss.map encStr):=dD h.jW fun g' hg'=>by
  obtain⟨_,q2,cur,hc⟩:=bK h.jW hg';exact (G.blk g' (by omega) fun e=>h.apart g' hg' e).trans (h1.block g' q2)
 refine⟨ht,b1,⟨(dz ht 3 _).trans (by rfl),hlow,eU hr hlow,?_,fun g' e1 e2=>?_⟩⟩
 ·have:=eU (k:=3) (u:=.slice (some ⟨g,0,none⟩) (cs.length+1) cap) o hlow;simpa using this
 ·simp[Value.ownBlock] at e2;subst e2;rcases G.at' with e | e
  ·exact h.apart g e1 e
  ·have:=(bK h.jW e1).2.1;omega
theorem set2 {z:World} {b:Nat} {p0 p1:Value} {t:TypeId} (h:z.heap[b]? = some (.cells #[p0,p1] t (0,0))) (v0 v1:Value):((z.setCell ⟨b,0,none⟩ v0).setCell ⟨b,1,none⟩ v1).heap[b]? = some (.cells #[v0,v1] t (0,0)):=by
 have e1:=(dz h 0 v0).trans (show _=some (Obj.cells #[v0,p1] t (0,0)) by rfl);exact (dz e1 1 v1).trans (by rfl)
end Go.Proofs.YtcemkhalbjhdkaaGreatDoor
namespace Go.Proofs.YtcemkhalbjhdkaaGreatDoor
open Go.RowKit Go.Maps dB
def V9 (w w':World) (rows:List (List UInt8×List (Int×Nat))) (e:Ending):Prop:=
 w'=w/\(e = .returned (.bool true)\/(e = .returned (.bool false)/\rows.length<=70/\∀ r,r∈rows->r.1.length<=200/\r.2.length<=250))
theorem RL (w:World) (la:Option Addr) (c:Nat) (rows:List (List UInt8×List (Int×Nat))) (hP:lW w la rows) (hn:(rows.length:Int)<=9223372036854775807) (hlen:∀ r,r∈rows->(r.2.length:Int)<=140737488355328/\(r.1.length:Int)<=140737488355328) :
  Calls Tryz.prog 13 #[.slice la rows.length c] w fun e w'=>V9 w w' rows e:=by
 have HP:Hid (lW w la rows):=hP;have HL:Hid (∀ r,r∈rows->(r.2.length:Int)<=140737488355328/\(r.1.length:Int)<=140737488355328):=hlen;obtain⟨n,hnn⟩:∃ n,n=rows.length:=⟨_,rfl⟩;have HN:=(show Hid _ from hnn.symm);rw[<-hnn] at hn ⊢;clear hP hlen hnn;by_cases h70:70<n
 ·have hd:decide ((70:Int)<(n:Int))=true:=by simp;omega
  go_enter Tryz.func13,Tryz.ntmps13;go_wp2;go_ret;exact⟨rfl,.inl rfl⟩
 ·have hd:decide ((70:Int)<(n:Int))=false:=by simp;omega
  go_enter Tryz.func13,Tryz.ntmps13;go_wp2_with fail;go_loopw [3,4] (fun v3 i wr=>∃ k m:Nat,k<=n/\i = .int .i64 (k:Int)/\v3 = .int .i64 (m:Int)/\m<=250/\wr=w/\∀ j (hj:j<rows.length),j<k->rows[j].1.length<=200/\rows[j].2.length<=250) (fun _ i _=>n-(intOf i).toNat);case atStart=>exact⟨0,0,Nat.zero_le _,rfl,rfl,by omega,rfl,fun j _ h=>absurd h (Nat.not_lt_zero _)⟩
  case round=>
   obtain⟨k,m,hk,rfl,rfl,hm,rfl,hall⟩:=hrel;have HA:Hid (∀ j (hj:j<rows.length),j<k->rows[j].1.length<=200/\rows[j].2.length<=250):=hall;clear hall;by_cases hkn:k<n
   ·have hkr:k<rows.length:=by rw[HN.out];exact hkn
    rcases HP.out with h0 | ⟨b,o,rfl,hcs⟩
    ·rw[h0] at hkr;exact absurd hkr (Nat.not_lt_zero _)
    obtain⟨e1,A,C,e2,hpt⟩:=hcs k hkr;obtain⟨l2,l1⟩:=HL.out _ (List.getElem_mem hkr);obtain⟨xk,hxk⟩:∃ xk:ByteArray,xk=⟨(rows[k].1).toArray⟩:=⟨_,rfl⟩;obtain⟨nk,hnk⟩:∃ nk,nk=rows[k].2.length:=⟨_,rfl⟩;have hxs:xk.size=rows[k].1.length:=by rw[hxk];simp[ByteArray.size]
    have q1:wr.cell? ⟨b,o+k*2,none⟩=some (.string xk):=by rw[hxk];exact e1
    have q2:wr.cell? ⟨b,o+k*2+1,none⟩=some (.slice A nk C):=by rw[hnk];exact e2
    have k0:(0:Int)<=(k:Int):=by omega
    have k1:(k:Int)<(n:Int):=by omega
    rw[<-hxs] at l1;rw[<-hnk] at l2;have HX:=(show Hid _ from And.intro hxs hnk);clear e1 e2 hpt hxk hnk hxs hcs;by_cases Z9:200<xk.size
    ·have d1:decide ((200:Int)<(xk.size:Int))=true:=by simp;omega
     go_wp2;go_ret;exact⟨rfl,.inl rfl⟩
    ·have d1:decide ((200:Int)<(xk.size:Int))=false:=by simp;omega
     by_cases ahd:250<m+nk
     ·have d3:decide ((250:Int)<(m:Int)+(nk:Int))=true:=by simp;omega
      have d2:decide ((60:Int)<(m:Int)+(nk:Int))=true:=by simp;omega
      by_cases La:nk=121
      ·have d4:((nk:Int) != 121)=false:=by simp[La]
       have d5:((nk:Int)==121)=true:=by simp[La]
       go_wp2;go_ret;exact⟨rfl,.inl rfl⟩
      ·have d4:((nk:Int) != 121)=true:=by simp;omega
       have d5:((nk:Int)==121)=false:=by simp;omega
       go_wp2;go_ret;exact⟨rfl,.inl rfl⟩
     ·have d3:decide ((250:Int)<(m:Int)+(nk:Int))=false:=by simp;omega
      have gD:Hid (∀ j (hj:j<rows.length),j<k+1->rows[j].1.length<=200/\rows[j].2.length<=250):=fun j hj hjk=>by
       rcases Nat.lt_or_ge j k with h | h
       ·exact HA.out j hj h
       ·obtain rfl:j=k:=by omega
        have h1:=HX.out.1;have h2:=HX.out.2;omega
      by_cases BR:60<m+nk
      ·have d2:decide ((60:Int)<(m:Int)+(nk:Int))=true:=by simp;omega
       by_cases La:nk=121
       ·have d4:((nk:Int) != 121)=false:=by simp[La]
        have d5:((nk:Int)==121)=true:=by simp[La]
        go_wp2;go_roundw;case rel=>exact⟨k+1,m+nk,by omega,by go_num,by go_num,by omega,trivial,gD.out⟩
        case measure=>simp[intOf]<;>omega
       ·have d4:((nk:Int) != 121)=true:=by simp;omega
        have d5:((nk:Int)==121)=false:=by simp;omega
        go_wp2;go_ret;exact⟨rfl,.inl rfl⟩
      ·have d2:decide ((60:Int)<(m:Int)+(nk:Int))=false:=by simp;omega
       go_wp2;go_roundw;case rel=>exact⟨k+1,m+nk,by omega,by go_num,by go_num,by omega,trivial,gD.out⟩
       case measure=>simp[intOf]<;>omega
   ·have hge:(n:Int)<=(k:Int):=by omega
    have ZW:Hid (∀ r,r∈rows->r.1.length<=200/\r.2.length<=250):=fun r hr=>by
     obtain⟨j,hj,rfl⟩:=List.getElem_of_mem hr;exact HA.out j hj (by have:=HN.out;omega)
    have VF:Hid (rows.length<=70):=by have:=HN.out;show rows.length<=70;omega
    go_wp2;go_ret;exact⟨rfl,.inr ⟨rfl,VF.out,ZW.out⟩⟩
theorem MB (w:World) (la:Option Addr) (c:Nat) (rows:List (List UInt8×List (Int×Nat))) (hP:lW w la rows) (hn:rows.length<=1000) (hlen:∀ r,r∈rows->r.2.length<=1000) :
  Calls Tryz.prog 15 #[.slice la rows.length c] w fun e w'=>∃ v xs,e = .returned v/\Below w.heap.size w w'/\w'.ownsRow w.heap.size 69 2 v rows.length xs/\gI w' w.heap.size xs rows:=by
 have HP:Hid (lW w la rows):=hP;have HL:Hid (∀ r,r∈rows->r.2.length<=1000):=hlen;obtain⟨n,hnn⟩:∃ n,n=rows.length:=⟨_,rfl⟩;have HN:=(show Hid _ from hnn.symm);rw[<-hnn] at hn ⊢;clear hP hlen hnn;obtain⟨iR,hI,hI0,hI1,hI2⟩:=info_parts Tryz.infoARow;have Zw:=(show Hid _ from hI);clear hI;go_enter Tryz.func15,Tryz.ntmps15;go_wp2_with fail;go_loopw [3,4] (fun v3 i wr=>∃ (k:Nat) (xs:List Value),k<=n/\i = .int .i64 (k:Int)/\Below w.heap.size w wr/\wr.ownsRow w.heap.size 69 2 v3 k xs/\gI wr w.heap.size xs (rows.take k)) (fun _ i _=>n-(intOf i).toNat);case atStart=>exact⟨0,[],Nat.zero_le _,rfl,Below.refl _ _,⟨rfl,.inl ⟨rfl,rfl⟩⟩,by simp[gI]⟩
 case round=>
  obtain⟨k,xs,hk,rfl,hbr,hown,hrc⟩:=hrel;have HB:=(show Hid _ from hbr);have HO:=(show Hid _ from hown);have vw:Hid (gI wr w.heap.size xs (rows.take k)):=hrc;have hwl:w.heap.size<=wr.heap.size:=hbr.size;clear hbr hown hrc;by_cases hkn:k<n
  ·have hkr:k<rows.length:=by rw[HN.out];exact hkn
   rcases HP.out with h0 | ⟨b,o,rfl,hcs⟩
   ·rw[h0] at hkr;exact absurd hkr (Nat.not_lt_zero _)
   obtain⟨e1,A,C,e2,hpt⟩:=hcs k hkr;have hbl:b<w.heap.size:=World.block_lt_of_cell? w ⟨b,_,none⟩ e1;have l2:=HL.out _ (List.getElem_mem hkr);obtain⟨xk,hxk⟩:∃ xk:ByteArray,xk=⟨(rows[k].1).toArray⟩:=⟨_,rfl⟩;have q2:wr.cell? ⟨b,o+k*2+1,none⟩=some (.slice A rows[k].2.length C):=(HB.out.cell (p:=⟨b,_,none⟩) hbl).trans e2;have HQ1:Hid (∀ w',Below w.heap.size w w'->w'.cell? ⟨b,o+k*2,none⟩=some (.string xk)):=fun w' h=>by rw[hxk];exact (h.cell (p:=⟨b,_,none⟩) hbl).trans e1
   have k0:(0:Int)<=(k:Int):=by omega
   have k1:(k:Int)<(n:Int):=by omega
   have Di:=(show Hid _ from Ou wr A C rows[k].2 (hpt.below HB.out) l2);have HX:=(show Hid _ from hxk);obtain⟨nk,hnk⟩:∃ nk,nk=rows[k].2.length:=⟨_,rfl⟩;rw[<-hnk] at q2 Di;have ZE:=(show Hid _ from hnk);clear e1 e2 hpt hxk hcs hnk;go_wp2_with fail;refine Calls.mono Di.out ?_;rintro e w2 ⟨v,rfl,hown2,hb2⟩;obtain⟨a3,c3,rfl⟩:=bT hown2;have HB2:=(show Hid _ from HB.out.trans (hb2.mono hwl));have Zx:w.heap.size<=w2.heap.size:=HB2.out.size;have q1:=HQ1.out w2 HB2.out;have jd:=(show Hid _ from ig hown2 hwl);have Nc:Hid (w2.ownsRow w.heap.size 69 2 u3 k xs):=dD HO.out fun g hg=>hb2.block g (bK HO.out hg).2.1
   have HR2:Hid (gI w2 w.heap.size xs (rows.take k)):=vw.out.map fun v n ys hv=>dD hv fun g hg=>hb2.block g (bK hv hg).2.1
   have lJ:Hid ((w2.alloc (.cells #[.string xk,.slice a3 nk c3] 69)).ownsRow w.heap.size 69 2 u3 k xs):=Nc.out.alloc _;have Dh:Hid (∀ i z,([.string xk,.slice a3 nk c3]:List Value)[i]? = some z->(w2.alloc (.cells #[.string xk,.slice a3 nk c3] 69)).cell? ((⟨w2.heap.size,0,none⟩:Addr).add i)=some z):=World.news_of_block (heap_alloc_new w2 _);have Kg:Hid (∀ z∈([.string xk,.slice a3 nk c3]:List Value),z.oneCell'=true):=by
    intro z hz;simp at hz;rcases hz with rfl | rfl<;>rfl
   clear hown2 hb2 Di;go_wp2_with (at_builtin;refine wpList_append_lies _ rfl _ _ 41 rfl w.heap.size 69 iR (.agg #[.string ⟨#[]⟩,.slice none 0 0]) 2 40 Tryz.underlying41 Zw.out hI0 hI1 hI2 rfl (by decide) _ _ _ rfl lJ.out ⟨w2.heap.size,0,none⟩ 1 1 [.string xk,.slice a3 nk c3] rfl rfl Dh.out Kg.out (by omega) (by unfold maxLen;omega) (by omega) (by simp;omega) _ rfl ?_);intro g7 fB w7 dW mZ _ _;have hal:∀ v n ys,w2.ownsRow w.heap.size 67 2 v n ys->w7.ownsRow w.heap.size 67 2 v n ys:=fun v n ys hv=>Hy (hv.alloc _) lJ.out mZ (by decide)
   have iU:Hid (Below w.heap.size w w7/\w7.ownsRow w.heap.size 69 2 (.slice (some ⟨g7,0,none⟩) (k+1) fB) (k+1) (xs ++ [.string xk,.slice a3 nk c3])/\gI w7 w.heap.size (xs ++ [.string xk,.slice a3 nk c3]) (rows.take (k+1))):=by
    refine⟨BI (HB2.out.alloc Zx _) lJ.out (Nat.le_refl _) (by simp;omega) mZ,dW,?_⟩;rw[List.take_succ_eq_append_getElem hkr,HX.out];refine gI.snoc (row:=rows[k]) ?_ (HR2.out.map hal);have:=hal _ _ _ jd.out;rw[<-ZE.out];exact this
   clear dW mZ hal;go_wp2;go_roundw;case rel=>exact⟨k+1,_,by omega,by go_num,iU.out.1,iU.out.2.1,iU.out.2.2⟩
   case measure=>simp[intOf]<;>omega
  ·obtain rfl:k=n:=by omega
   have hge:(k:Int)<=(k:Int):=Int.le_refl _;go_wp2;go_ret;refine⟨_,xs,rfl,HB.out,HO.out,?_⟩;have:=vw.out;rw[List.take_of_length_le (by rw[HN.out];omega)] at this;exact this
theorem Dm (w:World) (f s:Int) (a1 a2:Option Addr) (n1 c1 n2 c2:Nat) :
  Calls Tryz.prog 11 #[.agg #[.int .i64 f,.int .i64 s,.slice a1 n1 c1,.slice a2 n2 c2]] w fun e w'=>e = .returned (.agg #[.int .i64 f,.int .i64 s,.slice a1 n1 c1,.slice a2 n2 c2])/\Below w.heap.size w w':=by
 obtain⟨W,hW⟩:∃ W,W=(w.alloc (.cells #[.int .i64 f,.int .i64 s,.slice a1 n1 c1,.slice a2 n2 c2] 25)).alloc (.cells #[.int .i64 0,.int .i64 0,.slice none 0 0,.slice none 0 0] 30):=⟨_,rfl⟩;have hbW:Below w.heap.size w W:=by rw[hW];exact ((Below.refl _ _).alloc (Nat.le_refl _) _).alloc (by simp) _
 have hs1:(w.alloc (.cells #[.int .i64 f,.int .i64 s,.slice a1 n1 c1,.slice a2 n2 c2] 25)).heap.size=w.heap.size+1:=by simp
 have hx:W.heap[w.heap.size]? = some (.cells #[.int .i64 f,.int .i64 s,.slice a1 n1 c1,.slice a2 n2 c2] 25 (0,0)):=by
  rw[hW];exact (heap_alloc_old _ _ (by rw[hs1];omega)).trans (heap_alloc_new _ _)
 have hy:W.heap[w.heap.size+1]? = some (.cells #[.int .i64 0,.int .i64 0,.slice none 0 0,.slice none 0 0] 30 (0,0)):=by
  rw[hW,<-hs1];exact heap_alloc_new _ _
 have x0:W.cell? ⟨w.heap.size,0,none⟩=some (.int .i64 f):=ak hx 0;have x1:W.cell? ⟨w.heap.size,1,none⟩=some (.int .i64 s):=ak hx 1;have x2:W.cell? ⟨w.heap.size,2,none⟩=some (.slice a1 n1 c1):=ak hx 2;have x3:W.cell? ⟨w.heap.size,3,none⟩=some (.slice a2 n2 c2):=ak hx 3;have y0:W.cell? ⟨w.heap.size+1,0,none⟩=some (.int .i64 0):=ak hy 0;have y1:W.cell? ⟨w.heap.size+1,1,none⟩=some (.int .i64 0):=ak hy 1;have y2:W.cell? ⟨w.heap.size+1,2,none⟩=some (.slice none 0 0):=ak hy 2;have y3:W.cell? ⟨w.heap.size+1,3,none⟩=some (.slice none 0 0):=ak hy 3;have pf:∀ k,W.frozen? ⟨w.heap.size+1,k,none⟩=false:=fun k=>by simp[World.frozen?,hy]
 have HY:=(show Hid _ from hy);have HB:=(show Hid _ from hbW);have HW:=(show Hid _ from hW);clear hx hy hbW hs1 hW;go_enter Tryz.func11,Tryz.ntmps11;go_upto_region 1 with fail;rw[<-HW.out];go_wp2;obtain⟨Z,hZ⟩:∃ Z,Z=((((W.setCell ⟨w.heap.size+1,0,none⟩ (.int .i64 f)).setCell ⟨w.heap.size+1,1,none⟩ (.int .i64 s)).setCell ⟨w.heap.size+1,2,none⟩ (.slice a1 n1 c1)).setCell ⟨w.heap.size+1,3,none⟩ (.slice a2 n2 c2)):=⟨_,rfl⟩;rw[<-hZ];have dX:Z.heap[w.heap.size+1]? = some (.cells #[.int .i64 f,.int .i64 s,.slice a1 n1 c1,.slice a2 n2 c2] 30 (0,0)):=by rw[hZ];exact sQ HY.out _ _ _ _
 have hzb:Below w.heap.size w Z:=by rw[hZ];exact iC HB.out (by omega) _ _ _ _
 have z0:Z.cell? ⟨w.heap.size+1,0,none⟩=some (.int .i64 f):=ak dX 0;have z1:Z.cell? ⟨w.heap.size+1,1,none⟩=some (.int .i64 s):=ak dX 1;have z2:Z.cell? ⟨w.heap.size+1,2,none⟩=some (.slice a1 n1 c1):=ak dX 2;have z3:Z.cell? ⟨w.heap.size+1,3,none⟩=some (.slice a2 n2 c2):=ak dX 3;clear hZ dX;refine bodyPost_ret (v:=.agg #[.int .i64 f,.int .i64 s,.slice a1 n1 c1,.slice a2 n2 c2]) (by simp[results,Tryz.results11,go_sem,z0,z1,z2,z3]) rfl ⟨rfl,hzb⟩
end Go.Proofs.YtcemkhalbjhdkaaGreatDoor
namespace Go.Proofs.YtcemkhalbjhdkaaGreatDoor
open Go.RowKit Go.Maps dB
theorem Nq {l:List (Int×Nat)} (h:l.length<=120):(iN l).length<=10000:=by
 have h1:=oK (gH l) (nP l) l.length;have h3:(iN l).length=(aj.pack (bB (gH l) (nP l) l.length)).length+4:=by rw[iN,bQ,aj.dL,List.length_append,uO]
 rw[aj.pE] at h3;omega
def jN:List (List UInt8×List (Int×Nat)):=[([110,61,97],[(3,7)])]
theorem Dn:vN 0 10 jN:=by
 refine⟨by decide,by decide,List.pairwise_singleton _ _,fun r hr=>?_⟩;simp[jN] at hr;subst hr;exact⟨Ua,yV (by decide) (by decide),by decide⟩
theorem MC:full jN=jN:=by decide
theorem ME {B:Nat} {ea:Nat->Addr} (w:World) (E:l8 B ea w) (hB:B<=w.heap.size) :
  Calls Tryz.prog 6 #[] w fun e w'=>e = .returned (.bool true)/\Below w.heap.size w w':=by
 obtain⟨W,hW⟩:∃ W,W=(w.alloc (.cells #[.int .i64 3,.int .u64 7] 67)).alloc (.cells #[.string ⟨#[110,61,97]⟩,.slice (some ⟨w.heap.size,0,none⟩) 1 1] 69):=⟨_,rfl⟩;have hbW:Below w.heap.size w W:=by rw[hW];exact ((Below.refl _ _).alloc (Nat.le_refl _) _).alloc (by simp) _
 have hs1:(w.alloc (.cells #[.int .i64 3,.int .u64 7] 67)).heap.size=w.heap.size+1:=by simp
 have hx:W.heap[w.heap.size]? = some (.cells #[.int .i64 3,.int .u64 7] 67 (0,0)):=by
  rw[hW];exact (heap_alloc_old _ _ (by rw[hs1];omega)).trans (heap_alloc_new _ _)
 have hy:W.heap[w.heap.size+1]? = some (.cells #[.string ⟨#[110,61,97]⟩,.slice (some ⟨w.heap.size,0,none⟩) 1 1] 69 (0,0)):=by
  rw[hW,<-hs1];exact heap_alloc_new _ _
 have hP:lW W (some ⟨w.heap.size+1,0,none⟩) jN:=by
  refine .inr ⟨_,0,rfl,fun k hk=>?_⟩;obtain rfl:k=0:=by simp[jN] at hk;omega
  refine⟨ak hy 0,_,1,ak hy 1,.inr ⟨w.heap.size,0,rfl,fun j hj=>?_⟩⟩;obtain rfl:j=0:=by simp[jN] at hj;omega
  exact⟨ak hx 0,ak hx 1⟩
 have hmk:=Fj W (E.below hbW hB) (Nat.le_trans hB hbW.size) 0 10 (some ⟨w.heap.size+1,0,none⟩) 1 jN hP (fun r hr=>by
  simp[jN] at hr;subst hr;exact⟨fun p hp=>by simp at hp;subst hp;decide,by decide,by decide⟩) (by decide)
 have xG:Hid (Calls Tryz.prog 14 #[.int .i64 0,.int .i64 10,.slice (some ⟨w.heap.size+1,0,none⟩) 1 1] W fun e w'=>F9 ea W w' 0 10 jN e):=hmk;have HE:=(show Hid _ from E);have HB:=(show Hid _ from hbW);have HW:=(show Hid _ from hW);clear hx hy hbW hs1 hW hP hmk E;go_enter Tryz.func6,Tryz.ntmps6;go_wp2_with fail;rw[<-HW.out];refine Calls.mono xG.out ?_;rintro e w1 ⟨v,hb1,hf1,⟨hz,u1,u2,rfl,o1,o2⟩|⟨hz,rfl⟩⟩
 ·have hv:=hf1.none hz;subst hv;rw[MC] at o1 o2;obtain⟨a1,c1,rfl⟩:=bT o1;obtain⟨a2,c2,rfl⟩:=bT o2;have HB1:=(show Hid _ from HB.out.trans (hb1.mono HB.out.size));obtain⟨W2,hW2⟩:∃ W2,W2=w1.alloc (.cells #[.int .i64 0,.int .i64 10,.slice a1 1 c1,.slice a2 1 c2] 25):=⟨_,rfl⟩;have hbW2:Below w1.heap.size w1 W2:=by rw[hW2];exact (Below.refl _ _).alloc (Nat.le_refl _) _
  have hx2:W2.heap[w1.heap.size]? = some (.cells #[.int .i64 0,.int .i64 10,.slice a1 1 c1,.slice a2 1 c2] 25 (0,0)):=by rw[hW2];exact heap_alloc_new _ _
  have HB2:=(show Hid _ from HB1.out.trans (hbW2.mono HB1.out.size));obtain⟨hc,_,_⟩:=Ni Dn (fun r hr=>by simp[jN] at hr;subst hr;exact⟨by simp,fun p hp=>by simp at hp;subst hp;decide⟩);have hck:=yD W2 (HE.out.below HB2.out hB) (Nat.le_trans hB HB2.out.size) 0 10 _ _ _ _ (jN.map Prod.fst) (jN.map fun r=>iN r.2) (dK (by simpa using o1) hbW2) (dK (by simpa using o2) hbW2) (fun x hx=>by simp[jN] at hx;subst hx;decide) (fun x hx=>by
   simp[jN] at hx;subst hx;exact Nq (by decide)) (by decide) (by decide)
  rw[hc] at hck;have mX:Hid (Calls Tryz.prog 27 #[.agg #[.int .i64 0,.int .i64 10,.slice a1 1 c1,.slice a2 1 c2]] W2 fun e w'=>∃ v,e = .returned v/\Below W2.heap.size W2 w'/\bE ea w' v 0 _):=hck;have x0:W2.cell? ⟨w1.heap.size,0,none⟩=some (.int .i64 0):=ak hx2 0;have x1:W2.cell? ⟨w1.heap.size,1,none⟩=some (.int .i64 10):=ak hx2 1;have x2:W2.cell? ⟨w1.heap.size,2,none⟩=some (.slice a1 1 c1):=ak hx2 2;have x3:W2.cell? ⟨w1.heap.size,3,none⟩=some (.slice a2 1 c2):=ak hx2 3;have HW2:=(show Hid _ from hW2);clear o1 o2 hf1 hb1 hz hW2 hbW2 hx2 hc hck;dsimp only
  go_upto_region 2 with fail;rw[show w1.alloc (.cells #[.int .i64 0,.int .i64 10,.slice a1 jN.length c1,.slice a2 jN.length c2] 25)=W2 from HW2.out.symm];go_wp2_with fail;refine Calls.mono mX.out ?_;rintro e w3 ⟨v3,rfl,hb3,hf3⟩;have hv:=hf3.none rfl;subst hv;have HB3:=(show Hid _ from HB2.out.trans (hb3.mono HB2.out.size));clear hf3 hb3 mX;go_wp2;go_ret;exact⟨rfl,HB3.out⟩
 ·exact absurd (Nh Dn).1 hz
end Go.Proofs.YtcemkhalbjhdkaaGreatDoor
namespace Go.Proofs.YtcemkhalbjhdkaaGreatDoor
open Go.RowKit Go.Maps dB
theorem aac {l:List (List UInt8×List (Int×Nat))} (h:(l.map Prod.fst).Pairwise (· < ·)) {k:Nat} (hk:k<l.length):jL l l[k].1=l[k].2:=
 KX hk (fun j hj hjk e=>by
  have:=List.pairwise_iff_getElem.1 h j k (by simpa using hj) (by simpa using hk) hjk;simp only[List.getElem_map] at this;rw[e] at this;exact List.lt_irrefl _ this) rfl
def jZ (F:List (List UInt8×List (Int×Nat))):List (List UInt8):=F.map fun r=>iN r.2
theorem kg (F:List (List UInt8×List (Int×Nat))):(jZ F).length=F.length:=by simp[jZ]
structure zX (f s:Int) (F:List (List UInt8×List (Int×Nat))):Prop where
 well:vN f s F
 full:full F=F
 some:∀ r,r∈F->r.2 ≠ []/\pO r.2
 bits:∀ r,r∈F->jO r.2
theorem Xv {f s:Int} {rows:List (List UInt8×List (Int×Nat))} (h:jK f s rows=0) (hin:∀ r,r∈rows->jO r.2):zX f s (full rows):=
 ⟨(Ng h).full,Q0 fun _ hr=>(sN hr).2,fun r hr=>⟨(sN hr).2,fun p hp=>(hin r (sN hr).1 p hp).2.2⟩,fun r hr=>hin r (sN hr).1⟩
theorem zX.bk {f s:Int} {F:List (List UInt8×List (Int×Nat))} (h:zX f s F):jc f s (F.map Prod.fst) (jZ F)=0/\l6 f s (F.map Prod.fst) (jZ F) = -1/\rowsOf (F.map Prod.fst) (jZ F)=F:=Ni h.well h.some
theorem zX.chunks {f s:Int} {F:List (List UInt8×List (Int×Nat))} (h:zX f s F):∀ x,x∈(jZ F)->x.length<=10000:=fun x hx=>by
 obtain⟨r,hr,rfl⟩:=List.mem_map.1 hx;exact Nq (kM (h.well.each r hr).2.1).1
structure kr (w:World) (b:Nat) (F:List (List UInt8×List (Int×Nat))) (v1 v2:Value):Prop where
 o1:w.ownsRow b 9 1 v1 (F.map Prod.fst).length ((F.map Prod.fst).map encStr)
 o2:w.ownsRow b 9 1 v2 (jZ F).length ((jZ F).map encStr)
theorem kr.below {w z:World} {b:Nat} {F:List (List UInt8×List (Int×Nat))} {v1 v2:Value} (h:kr w b F v1 v2) (hb:Below w.heap.size w z):kr z b F v1 v2:=⟨dK h.o1 hb,dK h.o2 hb⟩
theorem kr.names {w:World} {b:Nat} {F:List (List UInt8×List (Int×Nat))} {v1 v2:Value} (h:kr w b F v1 v2):∃ a1 c1 a2 c2,v1 = .slice a1 F.length c1/\v2 = .slice a2 F.length c2/\∀ k (hk:k<F.length),∃ g,a1=some ⟨g,0,none⟩/\w.cell? ⟨g,k,none⟩=some (encStr F[k].1):=by
 obtain⟨a1,c1,h1,hc⟩:=qx h.o1;obtain⟨a2,c2,h2⟩:=bT h.o2;rw[List.length_map] at h1;rw[kg] at h2;refine⟨a1,c1,a2,c2,h1,h2,fun k hk=>?_⟩;obtain⟨g,e,hg⟩:=hc k (by simpa using hk);exact⟨g,e,by rw[hg];simp⟩
theorem MF {B:Nat} {ea:Nat->Addr} (w:World) (E:l8 B ea w) (hB:B<=w.heap.size) {f s:Int} {F:List (List UInt8×List (Int×Nat))} (hmd:zX f s F) (oz:F.length<=70) (hFn:∀ r,r∈F->r.1.length<=200) {b:Nat} {v1 v2:Value} (h:kr w b F v1 v2) (nm:ByteArray) (lo hi:Int) :
  Calls Tryz.prog 18 #[.agg #[.int .i64 f,.int .i64 s,v1,v2],.string nm,.int .i64 lo,.int .i64 hi] w fun e w'=>∃ x,e = .returned (.tuple #[x,.nilIface])/\Below w.heap.size w w'/\w'.ownsRow w.heap.size 67 2 x (aQ lo hi (jL F nm.data.toList)).length (aV (aQ lo hi (jL F nm.data.toList))):=by
 obtain⟨hz,_,hr⟩:=hmd.bk;refine (KY w E hB f s b b v1 v2 (F.map Prod.fst) (jZ F) h.o1 h.o2 (fun x hx=>?_) hmd.chunks (by rw[List.length_map];omega) (by rw[kg];omega) nm lo hi).mono ?_
 ·obtain⟨r,hr,rfl⟩:=List.mem_map.1 hx;have:=hFn r hr;omega
 ·rintro e w' ⟨x,v,rfl,hb,hf,_,ho⟩;have hv:=hf.none hz;subst hv;have:=ho hz;rw[hr] at this;exact⟨x,rfl,hb,this⟩
theorem Ig (w:World) {f s:Int} {F:List (List UInt8×List (Int×Nat))} (oz:F.length<=70) {b b':Nat} {v1 v2 u1 u2:Value} (h:kr w b F v1 v2) (k:kr w b' F u1 u2) :
  Calls Tryz.prog 10 #[.agg #[.int .i64 f,.int .i64 s,v1,v2],.agg #[.int .i64 f,.int .i64 s,u1,u2]] w fun e w'=>e = .returned (.bool true)/\Below w.heap.size w w':=
 Pq w f s b b' b b' v1 u1 v2 u2 (F.map Prod.fst) (jZ F) h.o1 k.o1 h.o2 k.o2 (by rw[List.length_map];omega) (by rw[kg];omega)
end Go.Proofs.YtcemkhalbjhdkaaGreatDoor
namespace Go.Proofs.YtcemkhalbjhdkaaGreatDoor
open Go.RowKit Go.Maps dB aZ
def Fx (b:Bool) (RC:Int) (p n:List UInt8):Prop:=b=true↔RC=0/\¬ p<n
def Jf (w w':World) (f s:Int) (rows:List (List UInt8×List (Int×Nat))) (e:Ending):Prop:=
 Below w.heap.size w w'/\((jK f s rows=0/\∃ u1 u2,e = .returned (.tuple #[.agg #[.int .i64 f,.int .i64 s,u1,u2],.agg #[.int .i64 0,.int .i64 (-1)]])/\kr w' w.heap.size (full rows) u1 u2) \/
  (jK f s rows≠0/\e = .returned (.tuple #[.agg #[.int .i64 0,.int .i64 0,.slice none 0 0,.slice none 0 0],.agg #[.int .i64 (jK f s rows),.int .i64 (qG f s rows)]])))
structure pq (w wr:World) (f s:Int) (rows:List (List UInt8×List (Int×Nat))) (k:Nat) (u1 u2:Value):Prop where
 ok:∀ j,j<k->rowAt f s rows j=0
 r1:wr.heap[w.heap.size]? = some (.cells #[.int .i64 0,.int .i64 0,.slice none 0 0,.slice none 0 0] 30 (0,0))
 r2:wr.heap[w.heap.size+1]? = some (.cells #[.int .i64 0,.int .i64 0] 32 (0,0))
 two:wY wr (w.heap.size+3) (w.heap.size+2) f s u1 u2 ((full (rows.take k)).map Prod.fst) (jZ (full (rows.take k)))
 bq:Below w.heap.size w wr
 uD:w.heap.size+3<=wr.heap.size
theorem pq.below {w wr z:World} {f s:Int} {rows:List (List UInt8×List (Int×Nat))} {k:Nat} {u1 u2:Value} (h:pq w wr f s rows k u1 u2) (hb:Below wr.heap.size wr z):pq w z f s rows k u1 u2:=
 ⟨h.ok,(hb.block _ (aL h.r1)).trans h.r1,(hb.block _ (aL h.r2)).trans h.r2,h.two.below hb,h.bq.trans (hb.mono h.bq.size),Nat.le_trans h.uD hb.size⟩
theorem pq.over {w w2 y z:World} {f s:Int} {rows:List (List UInt8×List (Int×Nat))} {k:Nat} {u1 u2:Value} (h:pq w y f s rows k u1 u2) (hs:w.heap.size+3<=w2.heap.size) (h2:pq w w2 f s rows k u1 u2) (hb:Below w2.heap.size y z):pq w z f s rows k u1 u2:=by
 have hl1:∀ g,u1.ownBlock=some g->g<w2.heap.size:=fun g hg=>(bK h2.two.jW hg).2.1
 have hl2:∀ g,u2.ownBlock=some g->g<w2.heap.size:=fun g hg=>(bK h2.two.kU hg).2.1
 refine⟨h.ok,(hb.block _ (by omega)).trans h.r1,(hb.block _ (by omega)).trans h.r2,⟨(hb.block _ (by omega)).trans h.two.blk,h.two.low,dD h.two.jW fun g hg=>hb.block g (hl1 g hg),dD h.two.kU fun g hg=>hb.block g (hl2 g hg),h.two.apart⟩,h.bq.trans (hb.mono (by omega)),Nat.le_trans h.uD hb.size⟩
structure rG (w z:World):Prop where
 r1:z.heap[w.heap.size]? = some (.cells #[.int .i64 0,.int .i64 0,.slice none 0 0,.slice none 0 0] 30 (0,0))
 r2:z.heap[w.heap.size+1]? = some (.cells #[.int .i64 0,.int .i64 0] 32 (0,0))
theorem rG.all {w z:World} (h:rG w z):z.cell? ⟨w.heap.size,0,none⟩=some (.int .i64 0)/\z.cell? ⟨w.heap.size,1,none⟩=some (.int .i64 0)/\z.cell? ⟨w.heap.size,2,none⟩=some (.slice none 0 0)/\z.cell? ⟨w.heap.size,3,none⟩=some (.slice none 0 0)/\z.cell? ⟨w.heap.size+1,0,none⟩=some (.int .i64 0)/\z.cell? ⟨w.heap.size+1,1,none⟩=some (.int .i64 0)/\(∀ q,z.frozen? ⟨w.heap.size,q,none⟩=false)/\∀ q,z.frozen? ⟨w.heap.size+1,q,none⟩=false:=
 ⟨ak h.r1 0,ak h.r1 1,ak h.r1 2,ak h.r1 3,ak h.r2 0,ak h.r2 1,fun q=>by simp[World.frozen?,h.r1],fun q=>by simp[World.frozen?,h.r2]⟩
theorem rG.drew {w z:World} (h:rG w z):rG w z.drew:=⟨h.r1,h.r2⟩
theorem rG.below {w z y:World} (h:rG w z) (hb:Below z.heap.size z y):rG w y:=⟨(hb.block _ (aL h.r1)).trans h.r1,(hb.block _ (aL h.r2)).trans h.r2⟩
structure Lb (w z:World) (C A:Int):Prop where
 r1:z.heap[w.heap.size]? = some (.cells #[.int .i64 0,.int .i64 0,.slice none 0 0,.slice none 0 0] 30 (0,0))
 r2:z.heap[w.heap.size+1]? = some (.cells #[.int .i64 C,.int .i64 A] 32 (0,0))
 bq:Below w.heap.size w z
theorem Lb.drew {w z:World} {C A:Int} (h:Lb w z C A):Lb w z.drew C A:=⟨h.r1,h.r2,h.bq.drew⟩
theorem rG.set {w z:World} (h:rG w z) (hb:Below w.heap.size w z) (C A:Int):Lb w ((((((z.setCell ⟨w.heap.size,0,none⟩ (.int .i64 0)).setCell ⟨w.heap.size,1,none⟩ (.int .i64 0)).setCell ⟨w.heap.size,2,none⟩ (.slice none 0 0)).setCell ⟨w.heap.size,3,none⟩ (.slice none 0 0)).setCell ⟨w.heap.size+1,0,none⟩ (.int .i64 C)).setCell ⟨w.heap.size+1,1,none⟩ (.int .i64 A)) C A:=by
 obtain⟨Z,hZ⟩:∃ Z,Z=((((z.setCell ⟨w.heap.size,0,none⟩ (.int .i64 0)).setCell ⟨w.heap.size,1,none⟩ (.int .i64 0)).setCell ⟨w.heap.size,2,none⟩ (.slice none 0 0)).setCell ⟨w.heap.size,3,none⟩ (.slice none 0 0)):=⟨_,rfl⟩;have e1:Z.heap[w.heap.size]? = some (.cells #[.int .i64 0,.int .i64 0,.slice none 0 0,.slice none 0 0] 30 (0,0)):=by rw[hZ];exact sQ h.r1 _ _ _ _
 have e2:Z.heap[w.heap.size+1]? = some (.cells #[.int .i64 0,.int .i64 0] 32 (0,0)):=by
  rw[hZ,Below.heap_setCell _ _ _ _ (by show w.heap.size+1≠w.heap.size;omega),Below.heap_setCell _ _ _ _ (by show w.heap.size+1≠w.heap.size;omega),Below.heap_setCell _ _ _ _ (by show w.heap.size+1≠w.heap.size;omega),Below.heap_setCell _ _ _ _ (by show w.heap.size+1≠w.heap.size;omega)];exact h.r2
 have eb:Below w.heap.size w Z:=by rw[hZ];exact iC hb (Nat.le_refl _) _ _ _ _
 rw[<-hZ];refine⟨?_,set2 e2 _ _,(eb.setCell (p:=⟨w.heap.size+1,0,none⟩) (Nat.le_succ _) _).setCell (p:=⟨w.heap.size+1,1,none⟩) (Nat.le_succ _) _⟩;rw[Below.heap_setCell _ _ _ _ (by show w.heap.size≠w.heap.size+1;omega),Below.heap_setCell _ _ _ _ (by show w.heap.size≠w.heap.size+1;omega)];exact e1
theorem rG.put {w z:World} (h:rG w z) (hb:Below w.heap.size w z) (v0 v1 v2 v3 p0 p1:Value):∀ Z,Z=((((((z.setCell ⟨w.heap.size,0,none⟩ v0).setCell ⟨w.heap.size,1,none⟩ v1).setCell ⟨w.heap.size,2,none⟩ v2).setCell ⟨w.heap.size,3,none⟩ v3).setCell ⟨w.heap.size+1,0,none⟩ p0).setCell ⟨w.heap.size+1,1,none⟩ p1)->Z.heap[w.heap.size]? = some (.cells #[v0,v1,v2,v3] 30 (0,0))/\Z.heap[w.heap.size+1]? = some (.cells #[p0,p1] 32 (0,0))/\Below w.heap.size w Z/\∀ base e sz v n xs,w.heap.size+1<base->z.ownsRow base e sz v n xs->Z.ownsRow base e sz v n xs:=by
 intro X hX;subst hX;obtain⟨Z,hZ⟩:∃ Z,Z=((((z.setCell ⟨w.heap.size,0,none⟩ v0).setCell ⟨w.heap.size,1,none⟩ v1).setCell ⟨w.heap.size,2,none⟩ v2).setCell ⟨w.heap.size,3,none⟩ v3):=⟨_,rfl⟩;have e1:Z.heap[w.heap.size]? = some (.cells #[v0,v1,v2,v3] 30 (0,0)):=by rw[hZ];exact sQ h.r1 _ _ _ _
 have e2:Z.heap[w.heap.size+1]? = some (.cells #[.int .i64 0,.int .i64 0] 32 (0,0)):=by
  rw[hZ,Below.heap_setCell _ _ _ _ (by show w.heap.size+1≠w.heap.size;omega),Below.heap_setCell _ _ _ _ (by show w.heap.size+1≠w.heap.size;omega),Below.heap_setCell _ _ _ _ (by show w.heap.size+1≠w.heap.size;omega),Below.heap_setCell _ _ _ _ (by show w.heap.size+1≠w.heap.size;omega)];exact h.r2
 have eb:Below w.heap.size w Z:=by rw[hZ];exact iC hb (Nat.le_refl _) _ _ _ _
 rw[<-hZ];refine⟨?_,set2 e2 _ _,(eb.setCell (p:=⟨w.heap.size+1,0,none⟩) (Nat.le_succ _) _).setCell (p:=⟨w.heap.size+1,1,none⟩) (Nat.le_succ _) _,fun base e sz v n xs hl ho=>?_⟩
 ·rw[Below.heap_setCell _ _ _ _ (by show w.heap.size≠w.heap.size+1;omega),Below.heap_setCell _ _ _ _ (by show w.heap.size≠w.heap.size+1;omega)];exact e1
 ·have hl2:w.heap.size<base:=by omega
  rw[hZ];exact eU (eU (eU (eU (eU (eU ho hl2) hl2) hl2) hl2) hl) hl
theorem pq.res {w wr:World} {f s:Int} {rows:List (List UInt8×List (Int×Nat))} {k:Nat} {u1 u2:Value} (h:pq w wr f s rows k u1 u2):rG w wr:=⟨h.r1,h.r2⟩
theorem Pw (w:World) (sb:Nat) (rows:List (List UInt8×List (Int×Nat))) (f s:Int) (hR:uZ w sb rows) (hn:rows.length<=1000) (hin:∀ r,r∈rows->jO r.2/\r.1.length<=1000/\r.2.length<=1000) :
  Calls Tryz.prog 16 #[.int .i64 f,.int .i64 s,.pointer (some ⟨sb,0,none⟩)] w fun e w'=>Jf w w' f s rows e:=by
 have HR:=(show Hid _ from hR);have iJ:Hid (∀ r,r∈rows->jO r.2/\r.1.length<=1000/\r.2.length<=1000):=hin;obtain⟨W,hW⟩:∃ W,W=(w.alloc (.cells #[.int .i64 0,.int .i64 0,.slice none 0 0,.slice none 0 0] 30)).alloc (.cells #[.int .i64 0,.int .i64 0] 32):=⟨_,rfl⟩;have hs1:(w.alloc (.cells #[.int .i64 0,.int .i64 0,.slice none 0 0,.slice none 0 0] 30)).heap.size=w.heap.size+1:=by simp
 have hbW:Below w.heap.size w W:=by rw[hW];exact ((Below.refl _ _).alloc (Nat.le_refl _) _).alloc (by simp) _
 have hr1:W.heap[w.heap.size]? = some (.cells #[.int .i64 0,.int .i64 0,.slice none 0 0,.slice none 0 0] 30 (0,0)):=by
  rw[hW];exact (heap_alloc_old _ _ (by rw[hs1];omega)).trans (heap_alloc_new _ _)
 have hr2:W.heap[w.heap.size+1]? = some (.cells #[.int .i64 0,.int .i64 0] 32 (0,0)):=by
  rw[hW,<-hs1];exact heap_alloc_new _ _
 have Dg:W.heap.size=w.heap.size+2:=by rw[hW];simp
 have HW:=(show Hid _ from hW);have dh:=(show Hid _ from hbW);have HR1:=(show Hid _ from And.intro hr1 hr2);have HRZ:Hid (rG w W):=⟨hr1,hr2⟩;have HZ:Hid (∀ (Y:World) (C A:Int),Lb w Y C A->jK f s rows=C/\qG f s rows=A->C≠0->∀ (a:Act),a.tmps[6]?.getD undef = .pointer (some ⟨w.heap.size,0,none⟩)->a.tmps[7]?.getD undef = .pointer (some ⟨w.heap.size+1,0,none⟩)->a.defers = []->bodyPost Tryz.prog Tryz.f16 (fun e w'=>Jf w w' f s rows e) Exit.ret a Y):=fun Y C A h hC hne a t6 t7 hd=>by
  have z0:Y.cell? ⟨w.heap.size,0,none⟩=some (.int .i64 0):=ak h.r1 0;have z1:Y.cell? ⟨w.heap.size,1,none⟩=some (.int .i64 0):=ak h.r1 1;have z2:Y.cell? ⟨w.heap.size,2,none⟩=some (.slice none 0 0):=ak h.r1 2;have z3:Y.cell? ⟨w.heap.size,3,none⟩=some (.slice none 0 0):=ak h.r1 3;have v0:Y.cell? ⟨w.heap.size+1,0,none⟩=some (.int .i64 C):=ak h.r2 0;have v1:Y.cell? ⟨w.heap.size+1,1,none⟩=some (.int .i64 A):=ak h.r2 1;refine bodyPost_ret (v:=.tuple #[.agg #[.int .i64 0,.int .i64 0,.slice none 0 0,.slice none 0 0],.agg #[.int .i64 C,.int .i64 A]]) (by simp[results,Tryz.results16,go_sem,z0,z1,z2,z3,v0,v1,t6,t7]) hd ⟨h.bq,.inr ⟨by rw[hC.1];exact hne,by rw[hC.1,hC.2]⟩⟩
 have qO:Hid (∀ (Y:World) (v1 v2:Value),Y.heap[w.heap.size]? = some (.cells #[.int .i64 f,.int .i64 s,v1,v2] 30 (0,0))->Y.heap[w.heap.size+1]? = some (.cells #[.int .i64 0,.int .i64 (-1)] 32 (0,0))->Below w.heap.size w Y->jK f s rows=0->kr Y w.heap.size (full rows) v1 v2->∀ (a:Act),a.tmps[6]?.getD undef = .pointer (some ⟨w.heap.size,0,none⟩)->a.tmps[7]?.getD undef = .pointer (some ⟨w.heap.size+1,0,none⟩)->a.defers = []->bodyPost Tryz.prog Tryz.f16 (fun e w'=>Jf w w' f s rows e) Exit.ret a Y):=fun Y v1 v2 h1 h2 hb hC hm a t6 t7 hd=>by
  have z0:Y.cell? ⟨w.heap.size,0,none⟩=some (.int .i64 f):=ak h1 0;have z1:Y.cell? ⟨w.heap.size,1,none⟩=some (.int .i64 s):=ak h1 1;have z2:Y.cell? ⟨w.heap.size,2,none⟩=some v1:=ak h1 2;have z3:Y.cell? ⟨w.heap.size,3,none⟩=some v2:=ak h1 3;have y0:Y.cell? ⟨w.heap.size+1,0,none⟩=some (.int .i64 0):=ak h2 0;have y1:Y.cell? ⟨w.heap.size+1,1,none⟩=some (.int .i64 (-1)):=ak h2 1;refine bodyPost_ret (v:=.tuple #[.agg #[.int .i64 f,.int .i64 s,v1,v2],.agg #[.int .i64 0,.int .i64 (-1)]]) (by simp[results,Tryz.results16,go_sem,z0,z1,z2,z3,y0,y1,t6,t7]) hd ⟨hb,.inl ⟨hC,v1,v2,rfl,hm⟩⟩
 have xS:=(show Hid _ from AL W f s);have hE0:=Ep f s;have iT:Hid (∀ (c:Int) (z:World),Calls Tryz.prog 31 #[.int .i64 c] z fun e w'=>e = .returned (.agg #[.int .i64 c,.int .i64 (-1)])/\Below z.heap.size z w'):=fun c z=>sD c z
 obtain⟨n,hnn⟩:∃ n,n=rows.length:=⟨_,rfl⟩;have HN:=(show Hid _ from hnn.symm);obtain⟨a1,c1,a2,c2,hsb,hnm,hpt⟩:=hR.ex;rw[<-hnn] at hn hsb;have uz:Hid (∀ i (hi:i<rows.length),∃ g,a1=some ⟨g,0,none⟩/\∀ z,Below w.heap.size w z->z.cell? ⟨g,i,none⟩=some (encStr rows[i].1)):=fun i hi=>by
  obtain⟨g,e,hc⟩:=hnm i hi;exact⟨g,e,fun z hz=>(hz.cell (p:=⟨g,i,none⟩) (World.block_lt_of_cell? w ⟨g,i,none⟩ hc)).trans hc⟩
 have Np:Hid (∀ i (hi:i<rows.length),∃ g,a2=some ⟨g,0,none⟩/\∃ A C,∀ z,Below w.heap.size w z->z.cell? ⟨g,i,none⟩=some (.slice A rows[i].2.length C)/\gM z A rows[i].2):=fun i hi=>by
  obtain⟨g,e,A,C,hc,hp⟩:=hpt i hi;exact⟨g,e,A,C,fun z hz=>⟨(hz.cell (p:=⟨g,i,none⟩) (World.block_lt_of_cell? w ⟨g,i,none⟩ hc)).trans hc,hp.below hz⟩⟩
 have qH:Hid (∀ z,Below w.heap.size w z->z.cell? ⟨sb,0,none⟩=some (.slice a1 n c1)/\z.cell? ⟨sb,1,none⟩=some (.slice a2 n c2)):=fun z hz=>by
  have:=(hz.block _ (aL hsb)).trans hsb;exact⟨ak this 0,ak this 1⟩
 have x0:=(qH.out W hbW).1;have f1:∀ q,W.frozen? ⟨w.heap.size,q,none⟩=false:=fun q=>by simp[World.frozen?,hr1]
 have f2:∀ q,W.frozen? ⟨w.heap.size+1,q,none⟩=false:=fun q=>by simp[World.frozen?,hr2]
 obtain⟨ev,hev⟩:∃ ev,ev=fZ f s:=⟨_,rfl⟩;rw[<-hev] at xS hE0;have Ih:=(show Hid _ from hev);clear hR hin hW hbW hr1 hr2 hs1 hnn hsb hnm hpt hev;go_enter Tryz.func16,Tryz.ntmps16;go_upto_region 1 with fail;rw[<-HW.out];go_wp2_with fail;refine Calls.mono xS.out ?_;rintro e w1 ⟨rfl,hw1⟩;have aU:=hw1;subst aU;clear xS hw1;have HBAD:Hid (fZ f s≠0\/60<rows.length->jK f s rows=2/\qG f s rows = -1):=fun h=>KA h
 by_cases he:0<ev
 ·have d1:decide (0<ev)=true:=decide_eq_true he;have HM:Hid (jK f s rows=2/\qG f s rows = -1):=HBAD.out (.inl (by rw[<-Ih.out];omega));clear HBAD x0 he hE0;go_wp2_with fail;refine Calls.mono (iT.out 2 w1) ?_;rintro e w2 ⟨rfl,hb2⟩;have hz2:=HRZ.out.below hb2;have jd:=(show Hid _ from hz2.set (dh.out.trans (hb2.mono dh.out.size)) 2 (-1));obtain⟨p0,p1,p2,p3,p4,p5,p6,p7⟩:=hz2.all;clear hb2 hz2 f1 f2;dsimp only
  go_wp2;exact HZ.out _ 2 (-1) jd.out HM.out (by decide) _ rfl rfl rfl
 have d1:decide (0<ev)=false:=decide_eq_false he;by_cases BR:60<n
 ·have d2:decide ((60:Int)<(n:Int))=true:=decide_eq_true (by omega);have HM:Hid (jK f s rows=2/\qG f s rows = -1):=HBAD.out (.inr (by rw[HN.out];exact BR));clear HBAD he hE0 BR;go_wp2_with fail;refine Calls.mono (iT.out 2 w1) ?_;rintro e w2 ⟨rfl,hb2⟩;have hz2:=HRZ.out.below hb2;have jd:=(show Hid _ from hz2.set (dh.out.trans (hb2.mono dh.out.size)) 2 (-1));obtain⟨p0,p1,p2,p3,p4,p5,p6,p7⟩:=hz2.all;clear hb2 hz2 f1 f2;dsimp only
  go_wp2;exact HZ.out _ 2 (-1) jd.out HM.out (by decide) _ rfl rfl rfl
 have d2:decide ((60:Int)<(n:Int))=false:=decide_eq_false (by omega);have hBD:fZ f s=0:=by rw[<-Ih.out];omega
 have HG:Hid (¬ (fZ f s≠0\/60<rows.length)):=by
  rw[HN.out];rintro (h | h)
  ·exact h hBD
  ·exact BR h
 have BJ:n<=60:=by omega
 have Px:=(show Hid _ from hBD);clear HBAD he hE0 BR hBD hn;go_upto_region 5 with fail;obtain⟨W3,hW3⟩:∃ W3,W3=w1.alloc (.cells #[.int .i64 f,.int .i64 s,.slice none 0 0,.slice none 0 0] 30):=⟨_,rfl⟩;have hb3:Below w1.heap.size w1 W3:=by rw[hW3];exact (Below.refl _ _).alloc (Nat.le_refl _) _
 have hx3:W3.heap[w.heap.size+2]? = some (.cells #[.int .i64 f,.int .i64 s,.slice none 0 0,.slice none 0 0] 30 (0,0)):=by rw[hW3,<-Dg];exact heap_alloc_new _ _
 have H0:Hid (pq w W3 f s rows 0 (.slice none 0 0) (.slice none 0 0)):=
  ⟨fun j h=>absurd h (Nat.not_lt_zero _),(hb3.block _ (aL HR1.out.1)).trans HR1.out.1,(hb3.block _ (aL HR1.out.2)).trans HR1.out.2,⟨hx3,Nat.lt_succ_self _,⟨rfl,.inl ⟨rfl,rfl⟩⟩,⟨rfl,.inl ⟨rfl,rfl⟩⟩,fun g e=>by simp[Value.ownBlock] at e⟩,dh.out.trans (hb3.mono dh.out.size),aL hx3⟩
 rw[<-hW3];clear hb3 hx3 hW3 x0 f1 f2 d1 d2 Dg;go_wp2_with fail;go_loopw [10] (fun i wr=>∃ (k:Nat) (u1 u2:Value),k<=n/\i = .int .i64 (k:Int)/\pq w wr f s rows k u1 u2) (fun i _=>n-(intOf i).toNat);case atStart=>exact⟨0,_,_,Nat.zero_le _,rfl,H0.out⟩
 case round=>
  obtain⟨k,u1,u2,hk,rfl,hto⟩:=hrel;have BS:=(show Hid _ from hto);have bH:=(show Hid _ from hto.bq);have hsz:=hto.uD;obtain⟨y0,y1⟩:=qH.out wr hto.bq;clear hto;by_cases hkn:k<n
  ·have hkr:k<rows.length:=by rw[HN.out];exact hkn
   obtain⟨g1,q1,hg1⟩:=uz.out k hkr;subst q1;obtain⟨g2,q2,A,C,hg2⟩:=Np.out k hkr;subst q2;obtain⟨nm,hnm⟩:∃ nm:ByteArray,nm=txt rows[k].1:=⟨_,rfl⟩;obtain⟨KW,hl1,hl2⟩:=iJ.out _ (List.getElem_mem hkr);have x4:wr.cell? ⟨g1,k,none⟩=some (.string nm):=by rw[hnm];exact hg1 wr bH.out
   have k0:(0:Int)<=(k:Int):=by omega
   have k1:(k:Int)<(n:Int):=by omega
   have rM:=(show Hid _ from K7 wr nm (by rw[hnm,bF];omega));have D6:nm.data.toList=rows[k].1:=by rw[hnm];rfl
   rw[D6] at rM;obtain⟨RC,Dp⟩:∃ RC,RC=gP rows[k].1:=⟨_,rfl⟩;obtain⟨RA,RN⟩:∃ RA,RA=xP rows[k].1:=⟨_,rfl⟩;rw[<-Dp,<-RN] at rM;have hR0:0<=RC:=by rw[Dp];exact wQ _
   have vw:=(show Hid _ from Dp);have yF:=(show Hid _ from And.intro hnm D6);have Wh:=(show Hid _ from And.intro KW (And.intro hl1 hl2));clear Dp RN KW hl1 hl2 hnm D6;go_wp2_with fail;refine Calls.mono rM.out ?_;rintro e w2 ⟨hb2,x,rfl⟩;have HT2:=(show Hid _ from BS.out.below hb2);have hs2:=HT2.out.uD;clear rM hb2 y0 y1 x4;dsimp only
   go_upto_region 9 with fail;obtain⟨W4,wV⟩:∃ W4,W4=w2.alloc (.cells #[.int .i64 RC,.int .i64 RA] 32):=⟨_,rfl⟩;have hb4:Below w2.heap.size w2 W4:=by rw[wV];exact (Below.refl _ _).alloc (Nat.le_refl _) _
   have vB:W4.heap[w2.heap.size]? = some (.cells #[.int .i64 RC,.int .i64 RA] 32 (0,0)):=by rw[wV];exact heap_alloc_new _ _
   rw[<-wV];clear wV;have yR:=(show Hid _ from HT2.out.below hb4);have Nr:=(show Hid _ from vB);obtain⟨y0,y1⟩:=qH.out W4 yR.out.bq;have x4:W4.cell? ⟨g1,k,none⟩=some (.string nm):=by rw[yF.out.1];exact hg1 W4 yR.out.bq
   have v4:W4.cell? ⟨w2.heap.size,0,none⟩=some (.int .i64 RC):=ak vB 0;have HPV:Hid (0<k->∀ z,Below w.heap.size w z->z.cell? ⟨g1,k-1,none⟩=some (encStr (prev (rows.map Prod.fst) k))):=fun hk0 z hz=>by
    obtain⟨g,e,h⟩:=uz.out (k-1) (by omega);simp at e;subst e;rw[h z hz];have:prev (rows.map Prod.fst) k=rows[k-1].1:=by
     unfold prev;rw[if_neg (by omega)];exact (l7 (by omega)).1
    rw[this]
   have Lc:Hid (gQ (prev (rows.map Prod.fst) k) rows[k].1=if RC≠0 then RC else if prev (rows.map Prod.fst) k<rows[k].1 then 0 else 3):=by
    rw[vw.out];rfl
   have Hr:Hid (k=0->RC=0->prev (rows.map Prod.fst) k<rows[k].1):=fun h0 hr=>by
    unfold prev;rw[if_pos h0];exact Bp (by rw[<-vw.out];exact hr)
   clear vB hb4;go_cut [76] from 32 to 145 (fun s76 wz=>∃ (b:Bool) (q:Nat),s76 = .bool b/\wz=W4.drewN q/\Fx b RC (prev (rows.map Prod.fst) k) rows[k].1);case first=>
    by_cases hr:RC=0
    ·subst hr;by_cases hk0:k=0
     ·subst hk0;have HB:Hid (Fx false 0 (prev (rows.map Prod.fst) 0) rows[0].1):=⟨fun h=>(by cases h),fun h=>absurd (Hr.out rfl rfl) h.2⟩;go_quiet (fail);go_wp2_with fail;go_meet;case rel=>exact⟨false,_,rfl,rfl,HB.out⟩
     ·obtain⟨j,rfl⟩:∃ j,k=j+1:=⟨k-1,by omega⟩;obtain⟨pv,hpv⟩:∃ pv:ByteArray,pv=txt (prev (rows.map Prod.fst) (j+1)):=⟨_,rfl⟩;have x5:W4.cell? ⟨g1,j,none⟩=some (.string pv):=by rw[hpv];exact HPV.out (by omega) W4 yR.out.bq
      have hlt:=F7 nm pv;have heq:=Ph nm pv;rw[yF.out.2,show pv.data.toList=prev (rows.map Prod.fst) (j+1) by rw[hpv];rfl] at hlt heq;have i1:(0:Int)<=(j:Int)+1-1:=by omega
      have i2:(j:Int)+1-1<(n:Int):=by omega
      have i3:(0:Int)<(j:Int)+1:=by omega
      have rD:=(show Hid _ from hlt);have lI:=(show Hid _ from heq);clear hlt heq hpv hk0;by_cases h1:prev (rows.map Prod.fst) (j+1)<rows[j+1].1
      ·have hl:Op.bytesLess nm.toList pv.toList=false:=by rw[rD.out];exact decide_eq_false (fun h=>absurd (List.lt_trans h h1) (List.lt_irrefl _))
       have hl2:(nm.toList==pv.toList)=false:=by rw[lI.out];exact decide_eq_false (fun h=>by rw[h] at h1;exact List.lt_irrefl _ h1)
       have HB:Hid (Fx false 0 (prev (rows.map Prod.fst) (j+1)) rows[j+1].1):=⟨fun h=>(by cases h),fun h=>absurd h1 h.2⟩;clear h1 rD lI;go_quiet (fail);go_wp2_with fail;go_meet;case rel=>exact⟨false,_,rfl,rfl,HB.out⟩
      ·have HB:Hid (Fx true 0 (prev (rows.map Prod.fst) (j+1)) rows[j+1].1):=⟨fun _=>⟨rfl,h1⟩,fun _=>rfl⟩;by_cases h2:rows[j+1].1<prev (rows.map Prod.fst) (j+1)
       ·have hl:Op.bytesLess nm.toList pv.toList=true:=by rw[rD.out];exact decide_eq_true h2
        clear h1 h2 rD lI;go_quiet (fail);go_wp2_with fail;go_meet;case rel=>exact⟨true,_,rfl,rfl,HB.out⟩
       ·have hl:Op.bytesLess nm.toList pv.toList=false:=by rw[rD.out];exact decide_eq_false h2
        have hl2:(nm.toList==pv.toList)=true:=by rw[lI.out];exact decide_eq_true (List.le_antisymm (List.not_lt.1 h1) (List.not_lt.1 h2))
        clear h1 h2 rD lI;go_quiet (fail);go_wp2_with fail;go_meet;case rel=>exact⟨true,_,rfl,rfl,HB.out⟩
    ·have d3:(RC==0)=false:=by simpa using hr
     have HB:Hid (Fx false RC (prev (rows.map Prod.fst) k) rows[k].1):=⟨fun h=>(by cases h),fun h=>absurd h.1 hr⟩;clear hr;go_quiet (fail);go_wp2_with fail;go_meet;case rel=>exact⟨false,_,rfl,rfl,HB.out⟩
   case rest=>
    obtain⟨b,q,rfl,hwc,hnb⟩:=hcut;have Ii:=(show Hid _ from hnb);have Ns:Below W4.heap.size W4 wc:=by rw[hwc];exact below_draws (Below.refl _ _) q
    have vC:=(show Hid _ from yR.out.below Ns);have hfc:=(Ns.block _ (aL Nr.out)).trans Nr.out;have Nt:=(show Hid _ from hfc);have hrow:rowAt f s rows k=lq f s (prev (rows.map Prod.fst) k) rows[k].1 rows[k].2:=by
     unfold rowAt;rw[(l7 hkr).1,(l7 hkr).2]
    have jB:=(show Hid _ from hrow);have HAT:Hid (∀ C:Int,rowAt f s rows k=C->C≠0->jK f s rows=C/\qG f s rows=(k:Int)):=fun C hC hne=>by
     obtain⟨h1,h2⟩:=VN HG.out hkr BS.out.ok (by rw[hC];exact hne);exact⟨h1.trans hC,h2⟩
    have v5:wc.cell? ⟨w2.heap.size,0,none⟩=some (.int .i64 RC):=ak hfc 0;have v6:wc.drew.cell? ⟨w2.heap.size,0,none⟩=some (.int .i64 RC):=v5;clear hnb hwc Ns hfc hrow y0 y1 x4 v4;by_cases hr:RC=0
    ·subst hr;have k3:wc.cell? ⟨w2.heap.size,1,none⟩=some (.int .i64 RA):=ak Nt.out 1;have kf:∀ q,wc.frozen? ⟨w2.heap.size,q,none⟩=false:=fun q=>by simp[World.frozen?,Nt.out]
     by_cases hb:b=true
     ·have hn0:=Ii.out.1 hb;subst hb;have hnc:gQ (prev (rows.map Prod.fst) k) rows[k].1=3:=by rw[Lc.out,if_neg (fun h=>h rfl),if_neg hn0.2]
      have HM:=(show Hid _ from HAT.out 3 (by rw[jB.out];unfold lq;rw[hnc,if_pos (by decide)]) (by decide));clear hn0 hnc;go_wp2_with fail;refine Calls.mono (iT.out 3 wc) ?_;rintro e w5 ⟨rfl,hb5⟩;have Dq:=(show Hid _ from vC.out.below hb5);have BU:=(hb5.block _ (aL Nt.out)).trans Nt.out;have m0:w5.cell? ⟨w2.heap.size,0,none⟩=some (.int .i64 0):=ak BU 0;have m1:w5.cell? ⟨w2.heap.size,1,none⟩=some (.int .i64 RA):=ak BU 1;have mf:∀ q,w5.frozen? ⟨w2.heap.size,q,none⟩=false:=fun q=>by simp[World.frozen?,BU]
      have HF5:=(show Hid _ from BU);clear hb5 BU v5 v6 k3 kf;dsimp only
      go_upto_region 11 with fail;have lT:Hid ((3:Int)≠0):=(by decide:(3:Int)≠0);obtain⟨W6,Fy⟩:∃ W6,W6=(w5.setCell ⟨w2.heap.size,0,none⟩ (.int .i64 3)).setCell ⟨w2.heap.size,1,none⟩ (.int .i64 (-1)):=⟨_,rfl⟩;have hx6:W6.heap[w2.heap.size]? = some (.cells #[.int .i64 3,.int .i64 (-1)] 32 (0,0)):=by rw[Fy];exact set2 HF5.out _ _
      have hb6:Below w2.heap.size w5 W6:=by rw[Fy];exact ((Below.refl _ _).setCell (p:=⟨w2.heap.size,0,none⟩) (Nat.le_refl _) _).setCell (p:=⟨w2.heap.size,1,none⟩) (Nat.le_refl _) _
      rw[<-Fy];have oJ:Hid (pq w W6 f s rows k u1 u2):=Dq.out.over hs2 HT2.out hb6;have HX6:=(show Hid _ from hx6);have n0:W6.cell? ⟨w2.heap.size,0,none⟩=some (.int .i64 3):=ak hx6 0;have n1:W6.drew.cell? ⟨w2.heap.size,0,none⟩=some (.int .i64 3):=n0;clear Fy hx6 hb6 m0 m1 mf;obtain⟨p0,p1,p2,p3,p4,p5,p6,p7⟩:=oJ.out.res.all;obtain⟨o0,o1,o2,o3,o4,o5,o6,o7⟩:=oJ.out.res.drew.all;have jd:=(show Hid _ from oJ.out.res.set oJ.out.bq 3 k);go_wp2_with fail;go_region;all_goals (go_wp2;exact HZ.out _ 3 k jd.out.drew HM.out lT.out _ rfl rfl rfl)
     ·have hbf:b=false:=by simpa using hb
      subst hbf;have hlt:prev (rows.map Prod.fst) k<rows[k].1:=by
       apply Decidable.not_not.1;intro h;exact hb (Ii.out.2 ⟨rfl,h⟩)
      have hnc:gQ (prev (rows.map Prod.fst) k) rows[k].1=0:=by rw[Lc.out,if_neg (fun h=>h rfl),if_pos hlt]
      have HRW:Hid (rowAt f s rows k=if gT rows[k].2≠0 then gT rows[k].2 else if jV f s rows[k].2=true then 0 else 2):=by
       show _=_;rw[jB.out];unfold lq;rw[hnc,if_neg (fun h=>h rfl)]
      obtain⟨y0,y1⟩:=qH.out wc vC.out.bq;obtain⟨x6,hpl⟩:=hg2 wc vC.out.bq;obtain⟨nk,hnk⟩:∃ nk,nk=rows[k].2.length:=⟨_,rfl⟩;have Ki:=(show Hid _ from Z4 wc A C rows[k].2 hpl Wh.out.1 Wh.out.2.2);obtain⟨PC,Wi⟩:∃ PC,PC=gT rows[k].2:=⟨_,rfl⟩;rw[<-hnk] at x6 Ki;rw[<-Wi] at Ki HRW;have Zd:0<=PC:=by rw[Wi];exact C9 _
      have yH:=(show Hid _ from And.intro Wi hnk);clear hb hlt hnc hpl Wi hnk;go_wp2_with fail;refine Calls.mono Ki.out ?_;rintro e w5 ⟨PA,rfl,hb5⟩;have Dq:=(show Hid _ from vC.out.below hb5);have BU:=(hb5.block _ (aL Nt.out)).trans Nt.out;have m0:w5.cell? ⟨w2.heap.size,0,none⟩=some (.int .i64 0):=ak BU 0;have m1:w5.cell? ⟨w2.heap.size,1,none⟩=some (.int .i64 RA):=ak BU 1;have mf:∀ q,w5.frozen? ⟨w2.heap.size,q,none⟩=false:=fun q=>by simp[World.frozen?,BU]
      have HF5:=(show Hid _ from BU);clear hb5 BU v5 v6 k3 kf Ki y0 y1 x6;dsimp only
      go_upto_region 13 with fail;obtain⟨W6,Fy⟩:∃ W6,W6=(w5.setCell ⟨w2.heap.size,0,none⟩ (.int .i64 PC)).setCell ⟨w2.heap.size,1,none⟩ (.int .i64 PA):=⟨_,rfl⟩;have hx6:W6.heap[w2.heap.size]? = some (.cells #[.int .i64 PC,.int .i64 PA] 32 (0,0)):=by rw[Fy];exact set2 HF5.out _ _
      have hb6:Below w2.heap.size w5 W6:=by rw[Fy];exact ((Below.refl _ _).setCell (p:=⟨w2.heap.size,0,none⟩) (Nat.le_refl _) _).setCell (p:=⟨w2.heap.size,1,none⟩) (Nat.le_refl _) _
      rw[<-Fy];have oJ:Hid (pq w W6 f s rows k u1 u2):=Dq.out.over hs2 HT2.out hb6;have HX6:=(show Hid _ from hx6);have n0:W6.cell? ⟨w2.heap.size,0,none⟩=some (.int .i64 PC):=ak hx6 0;have n1:W6.drew.cell? ⟨w2.heap.size,0,none⟩=some (.int .i64 PC):=n0;clear Fy hx6 hb6 m0 m1 mf;by_cases hp:0<PC
      ·have hpos:decide (0<PC)=true:=decide_eq_true hp;have lT:Hid (PC≠0):=fun h=>(by omega)
       have HM:=(show Hid _ from HAT.out PC (by rw[HRW.out,if_pos lT.out]) lT.out);clear hp;obtain⟨p0,p1,p2,p3,p4,p5,p6,p7⟩:=oJ.out.res.all;obtain⟨o0,o1,o2,o3,o4,o5,o6,o7⟩:=oJ.out.res.drew.all;have jd:=(show Hid _ from oJ.out.res.set oJ.out.bq PC k);go_wp2_with fail;go_region;all_goals (go_wp2;exact HZ.out _ PC k jd.out.drew HM.out lT.out _ rfl rfl rfl)
      ·obtain rfl:PC=0:=by omega
       clear hp;obtain⟨y0,y1⟩:=qH.out W6 oJ.out.bq;obtain⟨x6,hpl⟩:=hg2 W6 oJ.out.bq;rw[<-yH.out.2] at x6;have HIS:=(show Hid _ from wu W6 A C rows[k].2 f s Px.out hpl (by have:=Wh.out.2.2;omega));rw[<-yH.out.2] at HIS;obtain⟨ib,hib⟩:∃ ib,ib=jV f s rows[k].2:=⟨_,rfl⟩;rw[<-hib] at HIS;have y8:=(show Hid _ from hib);clear hpl hib;go_wp2_with fail;refine Calls.mono HIS.out ?_;rintro e w7 ⟨rfl,hw7⟩;have DL:=hw7;subst DL;clear hw7 HIS;cases ib with
       | false=>
        have lT:Hid ((2:Int)≠0):=(by decide:(2:Int)≠0);have HM:=(show Hid _ from HAT.out 2 (by rw[HRW.out,if_neg (fun h=>h rfl),if_neg (by rw[<-y8.out];decide)]) (by decide));obtain⟨p0,p1,p2,p3,p4,p5,p6,p7⟩:=oJ.out.res.all;have jd:=(show Hid _ from oJ.out.res.set oJ.out.bq 2 k);go_wp2;exact HZ.out _ 2 k jd.out HM.out lT.out _ rfl rfl rfl
       | true=>
        have dA:Hid (∀ j,j<k+1->rowAt f s rows j=0):=fun j hj=>by
         rcases Nat.lt_or_ge j k with h | h
         ·exact oJ.out.ok j h
         ·obtain rfl:j=k:=by omega
          rw[HRW.out,if_neg (fun h=>h rfl),if_pos y8.out.symm]
        have lG:Hid (full (rows.take (k+1))=if 0<rows[k].2.length then full (rows.take k) ++ [rows[k]] else full (rows.take k)):=by
         show _=_;rw[List.take_succ_eq_append_getElem hkr,G6]
        by_cases hz:0<nk
        ·have d5:decide ((0:Int)<(nk:Int))=true:=decide_eq_true (by omega);have x7:w7.cell? ⟨g1,k,none⟩=some (.string nm):=by rw[yF.out.1];exact hg1 w7 oJ.out.bq
         have xd7:w7.drew.cell? ⟨g1,k,none⟩=some (.string nm):=x7;have yd0:w7.drew.cell? ⟨sb,0,none⟩=some (.slice (some ⟨g1,0,none⟩) n c1):=y0;have Fp:=oJ.out.two;obtain⟨nf,hnf⟩:∃ nf,nf=(full (rows.take k)).length:=⟨_,rfl⟩;have hfk:nf<=60:=by
          rw[hnf];refine Nat.le_trans (List.length_filter_le ..) ?_;rw[List.length_take];omega
         obtain⟨b1,e1,hu1⟩:=bT Fp.jW;obtain⟨b2,e2,hu2⟩:=bT Fp.kU;rw[List.length_map,<-hnf] at hu1;rw[kg,<-hnf] at hu2;subst hu1 hu2;have hs6:=oJ.out.uD;have rQ:Hid (w7.ownsRow (w.heap.size+3) 9 1 (.slice b1 nf e1) nf (((full (rows.take k)).map Prod.fst).map encStr)):=by have:=Fp.jW;rw[List.length_map,<-hnf] at this;exact this
         have RO:=(show Hid _ from hnf);have s0:w7.cell? ⟨w.heap.size+2,2,none⟩=some (.slice b1 nf e1):=ak Fp.blk 2;have Z0:w7.drew.cell? ⟨w.heap.size+2,2,none⟩=some (.slice b1 nf e1):=s0;have RJ:(w7.drew.alloc (.cells #[.string nm] 9)).cell? ⟨w.heap.size+2,2,none⟩=some (.slice b1 nf e1):=ak ((heap_alloc_old _ _ (aL Fp.blk)).trans Fp.blk) 2;have sb0:(w7.alloc (.cells #[.string nm] 9)).cell? ⟨w.heap.size+2,2,none⟩=some (.slice b1 nf e1):=RJ;obtain⟨iS,hI,hS0,hS1,hS2⟩:=info_parts Tryz.infoStr3;have rW:=(show Hid _ from hI);clear hI Fp hnf;go_upto_region 19 with fail;go_cut [10] from 32 to 145 (fun v10 wz=>v10 = .int .i64 (k:Int)/\∃ g8 fK,Below (w.heap.size+2) w7 wz/\w.heap.size+3<=wz.heap.size/\wY wz (w.heap.size+3) (w.heap.size+2) f s (.slice (some ⟨g8,0,none⟩) (nf+1) fK) (.slice b2 nf e2) ((full (rows.take k)).map Prod.fst ++ [rows[k].1]) (jZ (full (rows.take k))));case first=>
          go_region_law (refine fP w7 (by rfl) _ _ 23 (by rfl) (w.heap.size+3) 9 iS (.string ⟨#[]⟩) 16 Tryz.underlying23 rW.out hS0 hS1 hS2 (by rfl) (.slice b1 nf e1) nf (((full (rows.take k)).map Prod.fst).map encStr) (by rfl) rQ.out (by repeat (first | exact Below.refl _ _ | with_reducible apply bV | with_reducible apply bZ)) _ _ _ _ (by rfl) (by exact heap_alloc_new _ _) (by rfl) (by omega) (by decide) hs6 ?_;intro g8 fK w8 gX fV fu;have h8:=oJ.out.two.first (x:=rows[k].1) hs6 fu (by rw[List.length_map,<-RO.out];rw[yF.out.1] at gX;exact gX) fV;rw[List.length_map,<-RO.out] at h8;have q0:w8.cell? ⟨w.heap.size+2,2,none⟩=some (.slice b1 nf e1):=ak h8.1 2;have z0:w8.frozen? ⟨w.heap.size+2,2,none⟩=false:=(by simp[World.frozen?,h8.1]);have H8:=(show Hid _ from h8.2);have Ie:Hid (w.heap.size+3<=w8.heap.size):=(Nat.le_trans hs6 (Nat.le_trans fu.size fV.size));clear gX fV fu h8);all_goals (
           have jQ:Below (w.heap.size+2) w7 (w8.setCell ⟨w.heap.size+2,2,none⟩ (.slice (some ⟨g8,0,none⟩) (nf+1) fK)):=(H8.out.1.mono (Nat.le_succ _)).setCell (p:=⟨w.heap.size+2,2,none⟩) (Nat.le_refl _) _
           have Dr:w.heap.size+3<=(w8.setCell ⟨w.heap.size+2,2,none⟩ (.slice (some ⟨g8,0,none⟩) (nf+1) fK)).heap.size:=by rw[World.size_setCell];exact Ie.out
           have HF8:=(show Hid _ from And.intro jQ (And.intro Dr H8.out.2))
           clear jQ Dr H8 Ie q0 z0
           go_wp2_with fail
           go_meet
           case rel=>exact⟨rfl,g8,fK,HF8.out⟩)
         case rest=>
          obtain⟨rfl,g8,fK,jQ,Dr,Em⟩:=hcut;have Ld:=(show Hid _ from Em);have rU:=(show Hid _ from jQ);have D7:=(show Hid _ from oJ.out.bq.trans (jQ.mono (by omega)));obtain⟨y0,y1⟩:=qH.out wc D7.out;obtain⟨x6,hpl⟩:=hg2 wc D7.out;rw[<-yH.out.2] at x6;have yd1:wc.drew.cell? ⟨sb,1,none⟩=some (.slice (some ⟨g2,0,none⟩) n c2):=y1;have xd6:wc.drew.cell? ⟨g2,k,none⟩=some (.slice A nk C):=x6;obtain⟨ck,hck⟩:∃ ck:ByteArray,ck=txt (iN rows[k].2):=⟨_,rfl⟩;have HCO:Hid (∀ z,Below wc.heap.size wc z->Calls Tryz.prog 50 #[.slice A nk C] z fun e w'=>e = .returned (.string ck)/\Below wc.heap.size wc w'):=fun z hz=>by
           have:=Z5 z A C rows[k].2 (hpl.below hz) Wh.out.1 yH.out.1.symm;rw[<-yH.out.2] at this;refine this.mono ?_;rintro e w' ⟨rfl,hb⟩;exact⟨by rw[hck];rfl,hz.trans (hb.mono hz.size)⟩
          have jd:Hid (wc.ownsRow (w.heap.size+3) 9 1 (.slice b2 nf e2) nf ((jZ (full (rows.take k))).map encStr)):=by have:=Ld.out.kU;rw[kg,<-RO.out] at this;exact this
          have t3:wc.cell? ⟨w.heap.size+2,3,none⟩=some (.slice b2 nf e2):=ak Ld.out.blk 3;have td3:wc.drew.cell? ⟨w.heap.size+2,3,none⟩=some (.slice b2 nf e2):=t3;have HTZ:Hid (∀ z,Below wc.heap.size wc z->z.cell? ⟨w.heap.size+2,3,none⟩=some (.slice b2 nf e2)):=fun z hz=>ak ((hz.block _ (aL Ld.out.blk)).trans Ld.out.blk) 3
          have mX:=(show Hid _ from hck);clear x7 xd7 yd0 s0 Z0 RJ sb0 Em jQ hpl hck;go_wp2_with fail;have Dt:Hid (∀ w',Below wc.heap.size wc w'->w'.cell? ⟨w.heap.size+2,3,none⟩=some (.slice b2 nf e2)/\w'.cell? ⟨sb,1,none⟩=some (.slice (some ⟨g2,0,none⟩) n c2)/\w'.cell? ⟨g2,k,none⟩=some (.slice A nk C)):=fun z hz=>⟨HTZ.out z hz,(qH.out z (D7.out.trans (hz.mono D7.out.size))).2,by have:=(hg2 z (D7.out.trans (hz.mono D7.out.size))).1;rw[<-yH.out.2] at this;exact this⟩
          refine tq (S:=fun w'=>w'.cell? ⟨w.heap.size+2,3,none⟩=some (.slice b2 nf e2)/\w'.cell? ⟨sb,1,none⟩=some (.slice (some ⟨g2,0,none⟩) n c2)/\w'.cell? ⟨g2,k,none⟩=some (.slice A nk C)) (by kernel_rfl) 13 ⟨td3,yd1,xd6⟩ (fun hHeld=>?_);refine bC (i:=0) (v:=.pointer (some ⟨w.heap.size+2,3,none⟩)) rfl (by kernel_rfl) (by kernel_rfl) (by kernel_rfl) (by kernel_rfl) (fun _ _ _ h=>h) (Or.inl ⟨by rfl,?_⟩) (fun _=>hHeld) ?_
          ·intro w _;go_simp
          try simp only[Act.put]
          refine eH (i:=1) (v:=.slice b2 nf e2) rfl (by kernel_rfl) (by kernel_rfl) (by kernel_rfl) (by kernel_rfl) (by kernel_rfl) (by kernel_rfl) (fun _ _ _ h=>h) (Or.inl ⟨by rfl,?_⟩) hHeld ?_
          ·intro w hSw;obtain⟨RP,RQ,RS⟩:=hSw;go_simp
          try simp only[Act.put]
          refine bC (i:=2) (v:=.pointer (some ⟨sb,0,none⟩)) rfl (by kernel_rfl) (by kernel_rfl) (by kernel_rfl) (by kernel_rfl) (fun _ _ _ h=>h) (Or.inl ⟨by rfl,?_⟩) (fun _=>hHeld) ?_
          ·intro w _;go_simp
          try simp only[Act.put]
          refine bC (i:=3) (v:=.pointer (some ⟨sb,0,none⟩)) rfl (by kernel_rfl) (by kernel_rfl) (by kernel_rfl) (by kernel_rfl) (fun _ _ _ h=>h) (Or.inl ⟨by rfl,?_⟩) (fun _=>hHeld) ?_
          ·intro w _;go_simp
          try simp only[Act.put]
          refine bC (i:=4) (v:=.pointer (some ⟨sb,1,none⟩)) rfl (by kernel_rfl) (by kernel_rfl) (by kernel_rfl) (by kernel_rfl) (fun _ _ _ h=>h) (Or.inl ⟨by rfl,?_⟩) (fun _=>hHeld) ?_
          ·intro w _;go_simp
          try simp only[Act.put]
          refine eH (i:=5) (v:=.slice (some ⟨g2,0,none⟩) n c2) rfl (by kernel_rfl) (by kernel_rfl) (by kernel_rfl) (by kernel_rfl) (by kernel_rfl) (by kernel_rfl) (fun _ _ _ h=>h) (Or.inl ⟨by rfl,?_⟩) hHeld ?_
          ·intro w hSw;obtain⟨RP,RQ,RS⟩:=hSw;go_simp
          try simp only[Act.put]
          refine bC (i:=6) (v:=.int .i64 (k:Int)) rfl (by kernel_rfl) (by kernel_rfl) (by kernel_rfl) (by kernel_rfl) (fun _ _ _ h=>h) (Or.inl ⟨by rfl,?_⟩) (fun _=>hHeld) ?_
          ·intro w _;go_simp
          try simp only[Act.put]
          refine bC (i:=7) (v:=.pointer (some ⟨g2,k,none⟩)) rfl (by kernel_rfl) (by kernel_rfl) (by kernel_rfl) (by kernel_rfl) (fun _ _ _ h=>h) (Or.inl ⟨by rfl,?_⟩) (fun _=>hHeld) ?_
          ·intro w _;go_simp
          try simp only[Act.put]
          refine eH (i:=8) (v:=.slice A nk C) rfl (by kernel_rfl) (by kernel_rfl) (by kernel_rfl) (by kernel_rfl) (by kernel_rfl) (by kernel_rfl) (fun _ _ _ h=>h) (Or.inl ⟨by rfl,?_⟩) hHeld ?_
          ·intro w hSw;obtain⟨RP,RQ,RS⟩:=hSw;go_simp
          try simp only[Act.put]
          refine aW (rs:=[9]) (by kernel_rfl) (by simp) ?_;refine aD.cons rfl (fun K hK=>?_) aD.nil;go_simp
          refine Calls.mono (HCO.out _ (by repeat (first | exact Below.refl _ _ | assumption | with_reducible apply bV | with_reducible apply bZ))) ?_;rintro e Yy ⟨rfl,zC⟩;dsimp only
          refine hK.out _ _ (Dt.out _ zC) ?_;clear hK K;try simp only[Act.put]
          refine aW (rs:=[10]) (by kernel_rfl) (by simp) ?_;refine aD.cons rfl (fun K hK=>?_) aD.nil;go_simp
          refine hK.out _ _ (Dt.out _ (bV zC _)) ?_;clear hK K;try simp only[Act.put]
          refine aW (rs:=[11]) (by kernel_rfl) (by simp) ?_;refine aD.cons rfl (fun K hK=>?_) aD.nil;refine fP wc (by rfl) _ _ 23 (by rfl) (w.heap.size+3) 9 iS (.string ⟨#[]⟩) 16 Tryz.underlying23 rW.out hS0 hS1 hS2 (by rfl) (.slice b2 nf e2) nf ((jZ (full (rows.take k))).map encStr) (by rfl) jd.out (bV zC _) _ _ _ _ (by rfl) (by exact heap_alloc_new _ _) (by rfl) (by omega) (by decide) Dr ?_;intro g9 Gb w9 Cw UG BX;have h9:=Ld.out.second (x:=iN rows[k].2) Dr BX (by rw[kg,<-RO.out];rw[mX.out] at Cw;exact Cw) UG;rw[kg,<-RO.out] at h9;have q0:w9.cell? ⟨w.heap.size+2,3,none⟩=some (.slice b2 nf e2):=ak h9.1 3;have z0:w9.frozen? ⟨w.heap.size+2,3,none⟩=false:=by simp[World.frozen?,h9.1]
          have Py:=D7.out.trans (h9.2.1.mono (by omega));have H9S:Hid (w.heap.size+3<=w9.heap.size):=Nat.le_trans Dr (Nat.le_trans BX.size UG.size);have HS9:Hid (w9.cell? ⟨w.heap.size+2,3,none⟩=some (.slice b2 nf e2)/\w9.cell? ⟨sb,1,none⟩=some (.slice (some ⟨g2,0,none⟩) n c2)/\w9.cell? ⟨g2,k,none⟩=some (.slice A nk C)):=⟨q0,(qH.out w9 Py).2,by have:=(hg2 w9 Py).1;rw[<-yH.out.2] at this;exact this⟩;have gD:Hid (pq w (w9.setCell ⟨w.heap.size+2,3,none⟩ (.slice (some ⟨g9,0,none⟩) (nf+1) Gb)) f s rows (k+1) (.slice (some ⟨g8,0,none⟩) (nf+1) fK) (.slice (some ⟨g9,0,none⟩) (nf+1) Gb)):=by
           have wK:Below (w.heap.size+2) w7 w9:=rU.out.trans (h9.2.1.mono (Nat.le_succ _));have e1:full (rows.take (k+1))=full (rows.take k) ++ [rows[k]]:=by rw[lG.out,if_pos (by rw[<-yH.out.2];exact hz)]
           have e2:(full (rows.take (k+1))).map Prod.fst=(full (rows.take k)).map Prod.fst ++ [rows[k].1]:=by rw[e1];simp
           have e3:jZ (full (rows.take (k+1)))=jZ (full (rows.take k)) ++ [iN rows[k].2]:=by rw[e1];simp[jZ]
           refine⟨dA.out,?_,?_,by rw[e2,e3];exact h9.2.2,Py.setCell (p:=⟨w.heap.size+2,3,none⟩) (by show w.heap.size<=w.heap.size+2;omega) _,by rw[World.size_setCell];exact H9S.out⟩
           ·rw[Below.heap_setCell _ _ _ _ (by show w.heap.size≠w.heap.size+2;omega),wK.block _ (by omega)];exact oJ.out.r1
           ·rw[Below.heap_setCell _ _ _ _ (by show w.heap.size+1≠w.heap.size+2;omega),wK.block _ (by omega)];exact oJ.out.r2
          clear Cw UG BX h9 Py;refine hK.out _ _ HS9.out ?_;clear hK K;try simp only[Act.put]
          refine bC (i:=12) (v:=.pointer (some ⟨w.heap.size+2,3,none⟩)) rfl (by kernel_rfl) (by kernel_rfl) (by kernel_rfl) (by kernel_rfl) (fun _ _ _ h=>h) (Or.inl ⟨by rfl,?_⟩) (fun _=>HS9.out) ?_
          ·intro w _;go_simp
          try simp only[Act.put]
          refine aW (rs:=[13]) (by kernel_rfl) (by simp) ?_;refine aD.last rfl (by kernel_rfl) (fun K hK=>?_) aD.nil;go_simp
          refine hK.out _ _ ?_;clear hK K;refine kN (by kernel_rfl) ?_ _;clear HS9 q0 z0 Dt HCO;go_wp2;go_roundw;case rel=>exact⟨k+1,_,_,by omega,by go_num,gD.out⟩
          case measure=>simp[intOf]<;>omega
        ·have d5:decide ((0:Int)<(nk:Int))=false:=decide_eq_false (by omega);have gD:Hid (pq w w7 f s rows (k+1) u1 u2):=by
          have:=oJ.out;refine⟨dA.out,this.r1,this.r2,?_,this.bq,this.uD⟩;rw[lG.out,if_neg (by rw[<-yH.out.2];exact hz)];exact this.two
         go_wp2;go_roundw;case rel=>exact⟨k+1,u1,u2,by omega,by go_num,gD.out⟩
         case measure=>simp[intOf]<;>omega
    ·have d3:(RC==0)=false:=by simpa using hr
     have hbf:b=false:=by
      rw[<-Bool.not_eq_true];intro h;exact hr (Ii.out.1 h).1
     subst hbf;have hpos:decide (0<RC)=true:=decide_eq_true (by omega);have HM:=(show Hid _ from HAT.out RC (by rw[jB.out];unfold lq;rw[Lc.out,if_pos hr,if_pos hr]) hr);have lT:Hid (RC≠0):=hr;obtain⟨p0,p1,p2,p3,p4,p5,p6,p7⟩:=vC.out.res.all;obtain⟨o0,o1,o2,o3,o4,o5,o6,o7⟩:=vC.out.res.drew.all;have jd:=(show Hid _ from vC.out.res.set vC.out.bq RC k);clear hr;go_wp2_with fail;go_region;all_goals (go_wp2;exact HZ.out _ RC k jd.out.drew HM.out lT.out _ rfl rfl rfl)
  ·obtain rfl:k=n:=by omega
   have hge:(k:Int)<=(k:Int):=Int.le_refl _;have pW:rows.take k=rows:=by rw[<-HN.out];exact List.take_length
   have zY:=BS.out.two;rw[pW] at zY;have xG:Hid (jK f s rows=0/\qG f s rows = -1):=F4 HG.out fun j hj=>BS.out.ok j (by have:=HN.out;omega)
   have Nl:=(show Hid _ from zY);obtain⟨b1,b2,b3,b4⟩:wr.cell? ⟨w.heap.size+2,0,none⟩=some (.int .i64 f)/\wr.cell? ⟨w.heap.size+2,1,none⟩=some (.int .i64 s)/\wr.cell? ⟨w.heap.size+2,2,none⟩=some u1/\wr.cell? ⟨w.heap.size+2,3,none⟩=some u2:=⟨ak zY.blk 0,ak zY.blk 1,ak zY.blk 2,ak zY.blk 3⟩;obtain⟨a5,e5,hu1⟩:=bT zY.jW;obtain⟨a6,e6,hu2⟩:=bT zY.kU;obtain⟨m5,hm5⟩:∃ m,m=((full rows).map Prod.fst).length:=⟨_,rfl⟩;obtain⟨m6,hm6⟩:∃ m,m=(jZ (full rows)).length:=⟨_,rfl⟩;rw[<-hm5] at hu1;rw[<-hm6] at hu2;subst hu1 hu2;have Ij:Hid (∀ z,Below wr.heap.size wr z->Calls Tryz.prog 51 #[] z fun e w'=>e = .returned (.agg #[.int .i64 0,.int .i64 (-1)])/\Below wr.heap.size wr w'):=fun z hz=>(zm z).mono (by rintro e w' ⟨rfl,hb⟩;exact⟨rfl,hz.trans (hb.mono hz.size)⟩)
   have bd1:wr.drew.cell? ⟨w.heap.size+2,0,none⟩=some (.int .i64 f):=b1;have bd2:wr.drew.cell? ⟨w.heap.size+2,1,none⟩=some (.int .i64 s):=b2;have bd3:wr.drew.cell? ⟨w.heap.size+2,2,none⟩=some (.slice a5 m5 e5):=b3;have bd4:wr.drew.cell? ⟨w.heap.size+2,3,none⟩=some (.slice a6 m6 e6):=b4;have iU:Hid (∀ z,Below wr.heap.size wr z->pq w z f s rows k (.slice a5 m5 e5) (.slice a6 m6 e6)):=fun z hz=>BS.out.below hz
   clear zY pW hm5 hm6;go_wp2_with fail;go_region_with (go_at_call 51;refine Calls.mono (Ij.out _ (by repeat (first | exact Below.refl _ _ | with_reducible apply bV | with_reducible apply bZ))) ?_;rintro e w9 ⟨rfl,wK⟩;have Wj:=iU.out w9 wK;have Le:=(show Hid _ from Wj);obtain⟨p0,p1,p2,p3,p4,p5,p6,p7⟩:=Wj.res.all;have r0:=Wj.two.blk;have c0:w9.cell? ⟨w.heap.size+2,0,none⟩=some (.int .i64 f):=ak r0 0;have c1':w9.cell? ⟨w.heap.size+2,1,none⟩=some (.int .i64 s):=ak r0 1;have c2':w9.cell? ⟨w.heap.size+2,2,none⟩=some (.slice a5 m5 e5):=ak r0 2;have c3':w9.cell? ⟨w.heap.size+2,3,none⟩=some (.slice a6 m6 e6):=ak r0 3;clear wK Wj r0);all_goals (
    have hp:=Le.out.res.put Le.out.bq (.int .i64 f) (.int .i64 s) (.slice a5 m5 e5) (.slice a6 m6 e6) (.int .i64 0) (.int .i64 (-1)) _ rfl
    have HP:=(show Hid _ from hp)
    clear hp p0 p1 p2 p3 p4 p5 p6 p7 c0 c1' c2' c3'
    go_wp2
    obtain⟨q1,q2,q3,q4⟩:=HP.out
    have ho1:=q4 _ _ _ _ _ _ (by omega) Le.out.two.jW
    have ho2:=q4 _ _ _ _ _ _ (by omega) Le.out.two.kU
    rw[show rows.take k=rows by rw[<-HN.out];exact List.take_length] at ho1 ho2
    refine qO.out _ _ _ q1 q2 q3 xG.out.1 ⟨ig ho1 (by omega),ig ho2 (by omega)⟩ _ rfl rfl rfl)
end Go.Proofs.YtcemkhalbjhdkaaGreatDoor
namespace Go.Proofs.YtcemkhalbjhdkaaGreatDoor
open Go.RowKit Go.Maps dB aZ
def Jg (w w':World) (f s:Int) (ss cs:List (List UInt8)) (e:Ending):Prop:=
 Below w.heap.size w w'/\((jc f s ss cs=0/\∃ sb,e = .returned (.tuple #[.pointer (some ⟨sb,0,none⟩),.agg #[.int .i64 0,.int .i64 (-1)]])/\uZ w' sb (rowsOf ss cs)) \/
  (jc f s ss cs≠0/\e = .returned (.tuple #[.pointer none,.agg #[.int .i64 (jc f s ss cs),.int .i64 (l6 f s ss cs)]])))
theorem Nu {Y z:World} {v:Value} {g:Nat} (G:pV Y z v g) {base n base' sz m:Nat} {e e':TypeId} {xs ys:List Value} {v':Value} (ho:Y.ownsRow base e 1 v n xs) (h:Y.ownsRow base' e' sz v' m ys) (hne:e'≠e):z.ownsRow base' e' sz v' m ys:=dD h fun g' hg'=>by
 obtain⟨_,q2,cur,hc⟩:=bK h hg';refine G.blk g' q2 fun e=>?_
 obtain⟨_,_,ZX,hc2⟩:=bK ho e;exact sK hc hc2 hne rfl
structure zZ (w wr:World) (f s:Int) (a1 a2:Option Addr) (n c1 c2:Nat) (ss cs:List (List UInt8)) (k:Nat) (vs vl:Value) (ls:List Value):Prop where
 ok:∀ j,j<k->jg f s ss cs j=0
 bb:wr.heap[w.heap.size]? = some (.cells #[.int .i64 f,.int .i64 s,.slice a1 n c1,.slice a2 n c2] 30 (0,0))
 r2:wr.heap[w.heap.size+1]? = some (.cells #[.int .i64 0,.int .i64 0] 32 (0,0))
 set:o9 wr (w.heap.size+3) (w.heap.size+2) vs vl (ss.take k) ls
 Du:ls.length=k
 pts:∀ i,i<k->∃ v,ls[i]? = some v/\wr.ownsRow (w.heap.size+3) 67 2 v (gL (cs.getD i [])).length (aV (gL (cs.getD i [])))
 bq:Below w.heap.size w wr
 uD:w.heap.size+3<=wr.heap.size
theorem zZ.below {w wr z:World} {f s:Int} {a1 a2:Option Addr} {n c1 c2:Nat} {ss cs:List (List UInt8)} {k:Nat} {vs vl:Value} {ls:List Value} (h:zZ w wr f s a1 a2 n c1 c2 ss cs k vs vl ls) (hb:Below wr.heap.size wr z):zZ w z f s a1 a2 n c1 c2 ss cs k vs vl ls:=
 ⟨h.ok,(hb.block _ (aL h.bb)).trans h.bb,(hb.block _ (aL h.r2)).trans h.r2,h.set.below hb,h.Du,fun i hi=>(h.pts i hi).imp fun _ hv=>⟨hv.1,dK hv.2 hb⟩,h.bq.trans (hb.mono h.bq.size),Nat.le_trans h.uD hb.size⟩
theorem zZ.cells {w wr:World} {f s:Int} {a1 a2:Option Addr} {n c1 c2:Nat} {ss cs:List (List UInt8)} {k:Nat} {vs vl:Value} {ls:List Value} (h:zZ w wr f s a1 a2 n c1 c2 ss cs k vs vl ls):wr.cell? ⟨w.heap.size,0,none⟩=some (.int .i64 f)/\wr.cell? ⟨w.heap.size,1,none⟩=some (.int .i64 s)/\wr.cell? ⟨w.heap.size,2,none⟩=some (.slice a1 n c1)/\wr.cell? ⟨w.heap.size,3,none⟩=some (.slice a2 n c2)/\wr.cell? ⟨w.heap.size+1,0,none⟩=some (.int .i64 0)/\wr.cell? ⟨w.heap.size+1,1,none⟩=some (.int .i64 0)/\∀ q,wr.frozen? ⟨w.heap.size+1,q,none⟩=false:=
 ⟨ak h.bb 0,ak h.bb 1,ak h.bb 2,ak h.bb 3,ak h.r2 0,ak h.r2 1,fun q=>by simp[World.frozen?,h.r2]⟩
structure Gc (w z:World) (C A:Int):Prop where
 r2:z.heap[w.heap.size+1]? = some (.cells #[.int .i64 C,.int .i64 A] 32 (0,0))
 bq:Below w.heap.size w z
theorem Gc.drew {w z:World} {C A:Int} (h:Gc w z C A):Gc w z.drew C A:=⟨h.r2,h.bq.drew⟩
theorem sU {w z:World} (h:z.heap[w.heap.size+1]? = some (.cells #[.int .i64 0,.int .i64 0] 32 (0,0))) (hb:Below w.heap.size w z) (C A:Int):Gc w ((z.setCell ⟨w.heap.size+1,0,none⟩ (.int .i64 C)).setCell ⟨w.heap.size+1,1,none⟩ (.int .i64 A)) C A:=
 ⟨set2 h _ _,(hb.setCell (p:=⟨w.heap.size+1,0,none⟩) (Nat.le_succ _) _).setCell (p:=⟨w.heap.size+1,1,none⟩) (Nat.le_succ _) _⟩
theorem RU (w:World) (f s:Int) (a1 a2:Option Addr) (c1 c2:Nat) (ss cs:List (List UInt8)) (h1:KU w a1 ss) (h2:KU w a2 cs) (hss:∀ x,x∈ss->x.length<=100000) (hcs:∀ x,x∈cs->x.length<=10000) (hn:ss.length<=100000) (hm:cs.length<=100000) :
  Calls Tryz.prog 19 #[.agg #[.int .i64 f,.int .i64 s,.slice a1 ss.length c1,.slice a2 cs.length c2]] w fun e w'=>Jg w w' f s ss cs e:=by
 have hc1:=h1;have hc2:=h2;obtain⟨n,hnn⟩:∃ n,n=ss.length:=⟨_,rfl⟩;obtain⟨m,hmm⟩:∃ m,m=cs.length:=⟨_,rfl⟩;have HN:=(show Hid _ from hnn.symm);have Wl:=(show Hid _ from hmm.symm);rw[<-hnn,<-hmm];rw[<-hnn] at hn;rw[<-hmm] at hm;obtain⟨W,hW⟩:∃ W,W=(w.alloc (.cells #[.int .i64 f,.int .i64 s,.slice a1 n c1,.slice a2 m c2] 30)).alloc (.cells #[.int .i64 0,.int .i64 0] 32):=⟨_,rfl⟩;have hs1:(w.alloc (.cells #[.int .i64 f,.int .i64 s,.slice a1 n c1,.slice a2 m c2] 30)).heap.size=w.heap.size+1:=by simp
 have hbW:Below w.heap.size w W:=by rw[hW];exact ((Below.refl _ _).alloc (Nat.le_refl _) _).alloc (by simp) _
 have hr1:W.heap[w.heap.size]? = some (.cells #[.int .i64 f,.int .i64 s,.slice a1 n c1,.slice a2 m c2] 30 (0,0)):=by
  rw[hW];exact (heap_alloc_old _ _ (by rw[hs1];omega)).trans (heap_alloc_new _ _)
 have hr2:W.heap[w.heap.size+1]? = some (.cells #[.int .i64 0,.int .i64 0] 32 (0,0)):=by
  rw[hW,<-hs1];exact heap_alloc_new _ _
 have Dg:W.heap.size=w.heap.size+2:=by rw[hW];simp
 have HW:=(show Hid _ from hW);have dh:=(show Hid _ from hbW);have HR1:=(show Hid _ from And.intro hr1 hr2);have uz:Hid (∀ i (hi:i<ss.length),∃ g o,a1=some ⟨g,o,none⟩/\∀ z,Below w.heap.size w z->z.cell? ⟨g,o+i,none⟩=some (encStr ss[i])):=fun i hi=>by
  obtain⟨g,o,e,hc⟩:=hc1 i hi;exact⟨g,o,e,fun z hz=>(hz.cell (p:=⟨g,o+i,none⟩) (World.block_lt_of_cell? w ⟨g,o+i,none⟩ hc)).trans hc⟩
 have nM:Hid (∀ i (hi:i<cs.length),∃ g o,a2=some ⟨g,o,none⟩/\∀ z,Below w.heap.size w z->z.cell? ⟨g,o+i,none⟩=some (encStr cs[i])):=fun i hi=>by
  obtain⟨g,o,e,hc⟩:=hc2 i hi;exact⟨g,o,e,fun z hz=>(hz.cell (p:=⟨g,o+i,none⟩) (World.block_lt_of_cell? w ⟨g,o+i,none⟩ hc)).trans hc⟩
 have eD:=(show Hid _ from And.intro hss hcs);have HZ:Hid (∀ (Y:World) (C A:Int),Gc w Y C A->jc f s ss cs=C/\l6 f s ss cs=A->C≠0->∀ (a:Act),a.tmps[2]?.getD undef = .pointer none->a.tmps[3]?.getD undef = .pointer (some ⟨w.heap.size+1,0,none⟩)->a.defers = []->bodyPost Tryz.prog Tryz.f19 (fun e w'=>Jg w w' f s ss cs e) Exit.ret a Y):=fun Y C A h hC hne a t2 t3 hd=>by
  have v0:Y.cell? ⟨w.heap.size+1,0,none⟩=some (.int .i64 C):=ak h.r2 0;have v1:Y.cell? ⟨w.heap.size+1,1,none⟩=some (.int .i64 A):=ak h.r2 1;refine bodyPost_ret (v:=.tuple #[.pointer none,.agg #[.int .i64 C,.int .i64 A]]) (by simp[results,Tryz.results19,go_sem,v0,v1,t2,t3]) hd ⟨h.bq,.inr ⟨by rw[hC.1];exact hne,by rw[hC.1,hC.2]⟩⟩
 have qO:Hid (∀ (z:World) (vs vl:Value) (ls:List Value),zZ w z f s a1 a2 n c1 c2 ss cs n vs vl ls->jc f s ss cs=0->∀ (a:Act),a.tmps[2]?.getD undef = .pointer (some ⟨w.heap.size+2,0,none⟩)->a.tmps[3]?.getD undef = .pointer (some ⟨w.heap.size+1,0,none⟩)->a.defers = []->bodyPost Tryz.prog Tryz.f19 (fun e w'=>Jg w w' f s ss cs e) Exit.ret a ((z.setCell ⟨w.heap.size+1,0,none⟩ (.int .i64 0)).setCell ⟨w.heap.size+1,1,none⟩ (.int .i64 (-1)))):=fun z vs vl ls h hC a t2 t3 hd=>by
  have hf:=sU h.r2 h.bq 0 (-1);have hl:cs.length=ss.length:=(Cr hC).2.2.1;have hset:uZ ((z.setCell ⟨w.heap.size+1,0,none⟩ (.int .i64 0)).setCell ⟨w.heap.size+1,1,none⟩ (.int .i64 (-1))) (w.heap.size+2) (rowsOf ss cs):=by
   have hA:o9 ((z.setCell ⟨w.heap.size+1,0,none⟩ (.int .i64 0)).setCell ⟨w.heap.size+1,1,none⟩ (.int .i64 (-1))) (w.heap.size+3) (w.heap.size+2) vs vl ((rowsOf ss cs).map Prod.fst) ls:=by
    rw[EY hl];have h0:=h.set;rw[List.take_of_length_le (by omega)] at h0;refine⟨?_,h0.low,eU (eU h0.names (by omega)) (by omega),eU (eU h0.row (by omega)) (by omega)⟩;rw[Below.heap_setCell _ _ _ _ (by show w.heap.size+2≠w.heap.size+1;omega),Below.heap_setCell _ _ _ _ (by show w.heap.size+2≠w.heap.size+1;omega)];exact h0.set
   refine hA.done (by rw[h.Du,oM hl];omega) fun i hi=>?_
   rw[oM hl] at hi;obtain⟨v,e1,e2⟩:=h.pts i (by omega);have e3:(rowsOf ss cs)[i].2=gL (cs.getD i []):=by
    have hi2:i<cs.length:=by omega
    simp[rowsOf,List.getD_eq_getElem?_getD,hi2]
   have e4:=eU (k:=1) (u:=.int .i64 (-1)) (eU (k:=0) (tb:=w.heap.size+1) (u:=.int .i64 0) e2 (by omega)) (by omega:w.heap.size+1<w.heap.size+3);obtain⟨A,C,hv,_,hp,_⟩:=qB e4;rw[e3];exact⟨A,C,by rw[e1,hv],hp⟩
  obtain⟨Y,hY⟩:∃ Y,Y=((z.setCell ⟨w.heap.size+1,0,none⟩ (.int .i64 0)).setCell ⟨w.heap.size+1,1,none⟩ (.int .i64 (-1))):=⟨_,rfl⟩;rw[<-hY] at hset hf ⊢;have v0:Y.cell? ⟨w.heap.size+1,0,none⟩=some (.int .i64 0):=ak hf.r2 0;have v1:Y.cell? ⟨w.heap.size+1,1,none⟩=some (.int .i64 (-1)):=ak hf.r2 1;refine bodyPost_ret (v:=.tuple #[.pointer (some ⟨w.heap.size+2,0,none⟩),.agg #[.int .i64 0,.int .i64 (-1)]]) (by simp[results,Tryz.results19,go_sem,v0,v1,t2,t3]) hd ⟨hf.bq,.inl ⟨hC,_,rfl,hset⟩⟩
 have xS:=(show Hid _ from AL W f s);have hE0:=Ep f s;have iT:Hid (∀ (c:Int) (z:World),Calls Tryz.prog 31 #[.int .i64 c] z fun e w'=>e = .returned (.agg #[.int .i64 c,.int .i64 (-1)])/\Below z.heap.size z w'):=fun c z=>sD c z
 have x0:W.cell? ⟨w.heap.size,0,none⟩=some (.int .i64 f):=ak hr1 0;have x1:W.cell? ⟨w.heap.size,1,none⟩=some (.int .i64 s):=ak hr1 1;have x2:W.cell? ⟨w.heap.size,2,none⟩=some (.slice a1 n c1):=ak hr1 2;have x3:W.cell? ⟨w.heap.size,3,none⟩=some (.slice a2 m c2):=ak hr1 3;obtain⟨ev,hev⟩:∃ ev,ev=fZ f s:=⟨_,rfl⟩;rw[<-hev] at xS hE0;have Ih:=(show Hid _ from hev);have Gd:Hid (fZ f s≠0\/60<ss.length->jc f s ss cs=2/\l6 f s ss cs = -1):=fun h=>Ky h
 have Lf:Hid (¬ (fZ f s≠0\/60<ss.length)->cs.length≠ss.length->jc f s ss cs=3/\l6 f s ss cs = -1):=fun h h'=>Kz h h'
 have iU:Hid (∀ (c:Int) (z:World),Below W.heap.size W z->Gc w ((z.setCell ⟨w.heap.size+1,0,none⟩ (.int .i64 c)).setCell ⟨w.heap.size+1,1,none⟩ (.int .i64 (-1))) c (-1)/\z.cell? ⟨w.heap.size+1,0,none⟩=some (.int .i64 0)/\z.cell? ⟨w.heap.size+1,1,none⟩=some (.int .i64 0)/\∀ q,z.frozen? ⟨w.heap.size+1,q,none⟩=false):=fun c z hz=>by
  have:=(hz.block _ (aL hr2)).trans hr2;exact⟨sU this (hbW.trans (hz.mono hbW.size)) c (-1),ak this 0,ak this 1,fun q=>by simp[World.frozen?,this]⟩
 have adY:ev=0\/ev=2:=by rw[hev];unfold fZ;split<;>simp
 clear h1 h2 hc1 hc2 hss hcs hW hbW hr1 hr2 hs1 hnn hmm hev;go_enter Tryz.func19,Tryz.ntmps19;go_upto_region 1 with fail;rw[<-HW.out];go_wp2_with fail;refine Calls.mono xS.out ?_;rintro e w1 ⟨rfl,hw1⟩;have aU:=hw1;subst aU;clear xS hw1 HW;rcases adY with rfl | rfl
 ·by_cases BR:60<n
  ·have d2:decide ((60:Int)<(n:Int))=true:=decide_eq_true (by omega);have HM:Hid (jc f s ss cs=2/\l6 f s ss cs = -1):=Gd.out (.inr (by rw[HN.out];exact BR));clear Gd Lf BR;go_wp2_with fail;refine Calls.mono (iT.out 2 w1) ?_;rintro e w2 ⟨rfl,hb2⟩;obtain⟨hz,p0,p1,p2⟩:=iU.out 2 w2 hb2;have jd:=(show Hid _ from hz);clear hb2 hz;dsimp only
   go_wp2;exact HZ.out _ 2 (-1) jd.out HM.out (by decide) _ rfl rfl rfl
  ·have d2:decide ((60:Int)<(n:Int))=false:=decide_eq_false (by omega);have HG:Hid (¬ (fZ f s≠0\/60<ss.length)):=by
    rw[HN.out];rintro (h | h)
    ·exact h Ih.out.symm
    ·exact BR h
   by_cases hnm:n=m
   ·subst hnm;have BJ:n<=60:=by omega
    have Px:Hid (fZ f s=0):=Ih.out.symm;clear Gd Lf BR hm hn;go_upto_region 9 with fail;obtain⟨W3,hW3⟩:∃ W3,W3=w1.alloc (.cells #[.slice none 0 0,.slice none 0 0] 96):=⟨_,rfl⟩;have hb3:Below w1.heap.size w1 W3:=by rw[hW3];exact (Below.refl _ _).alloc (Nat.le_refl _) _
    have hx3:W3.heap[w.heap.size+2]? = some (.cells #[.slice none 0 0,.slice none 0 0] 96 (0,0)):=by rw[hW3,<-Dg];exact heap_alloc_new _ _
    have H0:Hid (zZ w W3 f s a1 a2 n c1 c2 ss cs 0 (.slice none 0 0) (.slice none 0 0) []):=
     ⟨fun j h=>absurd h (Nat.not_lt_zero _),(hb3.block _ (aL HR1.out.1)).trans HR1.out.1,(hb3.block _ (aL HR1.out.2)).trans HR1.out.2,⟨hx3,Nat.lt_succ_self _,⟨rfl,.inl ⟨rfl,rfl⟩⟩,⟨rfl,.inl ⟨rfl,rfl⟩⟩⟩,rfl,fun i h=>absurd h (Nat.not_lt_zero _),dh.out.trans (hb3.mono dh.out.size),aL hx3⟩
    rw[<-hW3];clear hb3 hx3 hW3 x0 x1 x2 x3 d2 Dg;go_wp2_with fail;go_loopw [6] (fun i wr=>∃ (k:Nat) (vs vl:Value) (ls:List Value),k<=n/\i = .int .i64 (k:Int)/\zZ w wr f s a1 a2 n c1 c2 ss cs k vs vl ls) (fun i _=>n-(intOf i).toNat);case atStart=>exact⟨0,_,_,[],Nat.zero_le _,rfl,H0.out⟩
    case round=>
     obtain⟨k,vs,vl,ls,hk,rfl,hto⟩:=hrel;have BS:=(show Hid _ from hto);have hsz:=hto.uD;obtain⟨y0,y1,y2,y3,y4,y5,y6⟩:=hto.cells;clear hto;by_cases hkn:k<n
     ·have hks:k<ss.length:=by rw[HN.out];exact hkn
      have hkc:k<cs.length:=by rw[Wl.out];exact hkn
      obtain⟨g1,o1,q1,hg1⟩:=uz.out k hks;subst q1;obtain⟨g2,o2,q2,hg2⟩:=nM.out k hkc;subst q2;obtain⟨nm,hnm⟩:∃ nm:ByteArray,nm=txt ss[k]:=⟨_,rfl⟩;have x4:wr.cell? ⟨g1,o1+k,none⟩=some (.string nm):=by rw[hnm];exact hg1 wr BS.out.bq
      have k0:(0:Int)<=(k:Int):=by omega
      have k1:(k:Int)<(n:Int):=by omega
      have rM:=(show Hid _ from K7 wr nm (by rw[hnm,bF];exact eD.out.1 _ (List.getElem_mem hks)));have D6:nm.data.toList=ss[k]:=by rw[hnm];rfl
      rw[D6] at rM;obtain⟨RC,Dp⟩:∃ RC,RC=gP ss[k]:=⟨_,rfl⟩;obtain⟨RA,RN⟩:∃ RA,RA=xP ss[k]:=⟨_,rfl⟩;rw[<-Dp,<-RN] at rM;have hR0:0<=RC:=by rw[Dp];exact wQ _
      have vw:=(show Hid _ from Dp);have yF:=(show Hid _ from And.intro hnm D6);have hgs:ss.getD k []=ss[k]:=by simp[List.getD_eq_getElem?_getD,hks]
      have hgc:cs.getD k []=cs[k]:=by simp[List.getD_eq_getElem?_getD,hkc]
      have jB:Hid (jg f s ss cs k=kH f s (prev ss k) ss[k] cs[k]):=by
       show _=_;unfold jg;rw[hgs,hgc]
      have nR:=(show Hid _ from hgc);have Lc:Hid (gQ (prev ss k) ss[k]=if RC≠0 then RC else if prev ss k<ss[k] then 0 else 3):=by
       rw[Dp];rfl
      have HAT:Hid (∀ C:Int,jg f s ss cs k=C->C≠0->jc f s ss cs=C/\l6 f s ss cs=(k:Int)):=fun C hC hne=>by
       obtain⟨h1,h2⟩:=VL HG.out (by rw[Wl.out,HN.out]) hks BS.out.ok (by rw[hC];exact hne);exact⟨h1.trans hC,h2⟩
      clear Dp RN hnm D6 hgs hgc;go_wp2_with fail;refine Calls.mono rM.out ?_;rintro e w2 ⟨hb2,x,rfl⟩;have HT2:=(show Hid _ from BS.out.below hb2);clear rM hb2 y0 y1 y2 y3 y4 y5 y6 x4;dsimp only
      go_upto_region 13 with fail;obtain⟨W4,wV⟩:∃ W4,W4=w2.alloc (.cells #[.int .i64 RC,.int .i64 RA] 32):=⟨_,rfl⟩;have hb4:Below w2.heap.size w2 W4:=by rw[wV];exact (Below.refl _ _).alloc (Nat.le_refl _) _
      have vB:W4.heap[w2.heap.size]? = some (.cells #[.int .i64 RC,.int .i64 RA] 32 (0,0)):=by rw[wV];exact heap_alloc_new _ _
      rw[<-wV];clear wV;have yR:=(show Hid _ from HT2.out.below hb4);obtain⟨y0,y1,y2,y3,y4,y5,y6⟩:=yR.out.cells;have v4:W4.cell? ⟨w2.heap.size,0,none⟩=some (.int .i64 RC):=ak vB 0;have vd4:W4.drew.cell? ⟨w2.heap.size,0,none⟩=some (.int .i64 RC):=v4;have x4:W4.cell? ⟨g1,o1+k,none⟩=some (.string nm):=by rw[yF.out.1];exact hg1 W4 yR.out.bq
      clear hb4 vB;by_cases hr:0<RC
      ·have d3:decide (0<RC)=true:=decide_eq_true hr;have lT:Hid (RC≠0):=fun h=>(by omega)
       have HM:=(show Hid _ from HAT.out RC (by rw[jB.out];unfold kH;rw[Lc.out,if_pos lT.out,if_pos lT.out]) lT.out);have jd:=(show Hid _ from sU yR.out.r2 yR.out.bq RC k);have yd4:W4.drew.cell? ⟨w.heap.size+1,0,none⟩=some (.int .i64 0):=y4;have yd5:W4.drew.cell? ⟨w.heap.size+1,1,none⟩=some (.int .i64 0):=y5;have yd6:∀ q,W4.drew.frozen? ⟨w.heap.size+1,q,none⟩=false:=y6;clear hr;go_wp2_with fail;go_region;all_goals (go_wp2;exact HZ.out _ RC k jd.out.drew HM.out lT.out _ rfl rfl rfl)
      ·obtain rfl:RC=0:=by omega
       clear hr;have Hr:Hid (k=0->prev ss k<ss[k]):=fun h0=>by
        unfold prev;rw[if_pos h0];exact Bp vw.out.symm
       have HPV:Hid (0<k->∀ z,Below w.heap.size w z->z.cell? ⟨g1,o1+(k-1),none⟩=some (encStr (prev ss k))):=fun hk0 z hz=>by
        obtain⟨g,o,e,h⟩:=uz.out (k-1) (by omega);simp at e;obtain⟨rfl,rfl⟩:=e;rw[h z hz];have:prev ss k=ss[k-1]:=by
         unfold prev;rw[if_neg (by omega)];simp[List.getD_eq_getElem?_getD,show k-1<ss.length by omega]
        rw[this]
       go_upto_region 15 with fail;go_cut [80] from 42 to 139 (fun s80 wz=>∃ (b:Bool) (q:Nat),s80 = .bool b/\wz=W4.drewN q/\Fx b 0 (prev ss k) ss[k]);case first=>
        by_cases hk0:k=0
        ·subst hk0;have HB:Hid (Fx false 0 (prev ss 0) ss[0]):=⟨fun h=>(by cases h),fun h=>absurd (Hr.out rfl) h.2⟩;go_quiet (fail);go_wp2_with fail;go_meet;case rel=>exact⟨false,_,rfl,rfl,HB.out⟩
        ·obtain⟨j,rfl⟩:∃ j,k=j+1:=⟨k-1,by omega⟩;obtain⟨pv,hpv⟩:∃ pv:ByteArray,pv=txt (prev ss (j+1)):=⟨_,rfl⟩;have x5:W4.cell? ⟨g1,o1+j,none⟩=some (.string pv):=by rw[hpv];exact HPV.out (by omega) W4 yR.out.bq
         have hlt:=F7 nm pv;have heq:=Ph nm pv;rw[yF.out.2,show pv.data.toList=prev ss (j+1) by rw[hpv];rfl] at hlt heq;have i1:(0:Int)<=(j:Int)+1-1:=by omega
         have i2:(j:Int)+1-1<(n:Int):=by omega
         have i3:(0:Int)<(j:Int)+1:=by omega
         have rD:=(show Hid _ from hlt);have lI:=(show Hid _ from heq);clear hlt heq hpv hk0;by_cases h1:prev ss (j+1)<ss[j+1]
         ·have hl:Op.bytesLess nm.toList pv.toList=false:=by rw[rD.out];exact decide_eq_false (fun h=>absurd (List.lt_trans h h1) (List.lt_irrefl _))
          have hl2:(nm.toList==pv.toList)=false:=by rw[lI.out];exact decide_eq_false (fun h=>by rw[h] at h1;exact List.lt_irrefl _ h1)
          have HB:Hid (Fx false 0 (prev ss (j+1)) ss[j+1]):=⟨fun h=>(by cases h),fun h=>absurd h1 h.2⟩;clear h1 rD lI;go_quiet (fail);go_wp2_with fail;go_meet;case rel=>exact⟨false,_,rfl,rfl,HB.out⟩
         ·have HB:Hid (Fx true 0 (prev ss (j+1)) ss[j+1]):=⟨fun _=>⟨rfl,h1⟩,fun _=>rfl⟩;by_cases h2:ss[j+1]<prev ss (j+1)
          ·have hl:Op.bytesLess nm.toList pv.toList=true:=by rw[rD.out];exact decide_eq_true h2
           clear h1 h2 rD lI;go_quiet (fail);go_wp2_with fail;go_meet;case rel=>exact⟨true,_,rfl,rfl,HB.out⟩
          ·have hl:Op.bytesLess nm.toList pv.toList=false:=by rw[rD.out];exact decide_eq_false h2
           have hl2:(nm.toList==pv.toList)=true:=by rw[lI.out];exact decide_eq_true (List.le_antisymm (List.not_lt.1 h1) (List.not_lt.1 h2))
           clear h1 h2 rD lI;go_quiet (fail);go_wp2_with fail;go_meet;case rel=>exact⟨true,_,rfl,rfl,HB.out⟩
       case rest=>
        obtain⟨b,q,rfl,hwc,hnb⟩:=hcut;have Ii:=(show Hid _ from hnb);have Ns:Below W4.heap.size W4 wc:=by rw[hwc];exact below_draws (Below.refl _ _) q
        have vC:=(show Hid _ from yR.out.below Ns);clear hnb hwc Ns y0 y1 y2 y3 y4 y5 y6 x4 v4 vd4;obtain⟨y0,y1,y2,y3,y4,y5,y6⟩:=vC.out.cells;by_cases hb:b=true
        ·have hn0:=Ii.out.1 hb;subst hb;have hnc:gQ (prev ss k) ss[k]=3:=by rw[Lc.out,if_neg (fun h=>h rfl),if_neg hn0.2]
         have HM:=(show Hid _ from HAT.out 3 (by rw[jB.out];unfold kH;rw[hnc,if_pos (by decide)]) (by decide));have jd:=(show Hid _ from sU vC.out.r2 vC.out.bq 3 k);clear hn0 hnc;go_wp2;exact HZ.out _ 3 k jd.out HM.out (by decide) _ rfl rfl rfl
        ·have hbf:b=false:=by simpa using hb
         subst hbf;have hlt:prev ss k<ss[k]:=by
          apply Decidable.not_not.1;intro h;exact hb (Ii.out.2 ⟨rfl,h⟩)
         have hnc:gQ (prev ss k) ss[k]=0:=by rw[Lc.out,if_neg (fun h=>h rfl),if_pos hlt]
         have HRW:Hid (jg f s ss cs k=if nQ cs[k]≠0 then nQ cs[k] else if gL cs[k] = [] then 5 else if jV f s (gL cs[k])=true then 0 else 2):=by
          show _=_;rw[jB.out];unfold kH;rw[hnc,if_neg (fun h=>h rfl)]
         obtain⟨ch,hch⟩:∃ ch:ByteArray,ch=txt cs[k]:=⟨_,rfl⟩;have x6:wc.cell? ⟨g2,o2+k,none⟩=some (.string ch):=by rw[hch];exact hg2 wc vC.out.bq
         have dn:=(show Hid _ from Z6 wc ch (by rw[hch,bF];exact eD.out.2 _ (List.getElem_mem hkc)));rw[show ch.data.toList=cs[k] by rw[hch];rfl] at dn;clear hb hlt hnc hch;go_wp2_with fail;refine Calls.mono dn.out ?_;rintro e w5 ⟨hb5,⟨Lg,v5,rfl,Nb⟩|⟨Lg,rfl⟩⟩
         ·have HUZ:Hid (nQ cs[k]=0):=Lg;have hsp:=sM (oF.1 Lg);have hl5:=(kM hsp.1).1;have Dq:=(show Hid _ from vC.out.below hb5);have QK:Hid (w5.ownsRow (w.heap.size+3) 67 2 v5 (gL cs[k]).length (aV (gL cs[k]))):=ig Nb vC.out.uD;obtain⟨a5,c5,rfl,_,Ic,_⟩:=qB Nb;obtain⟨n5,Wm⟩:∃ n5,n5=(gL cs[k]).length:=⟨_,rfl⟩;have HIS:=(show Hid _ from wu w5 a5 c5 (gL cs[k]) f s Px.out Ic (by omega));obtain⟨ib,hib⟩:∃ ib,ib=jV f s (gL cs[k]):=⟨_,rfl⟩;rw[<-hib,<-Wm] at HIS;rw[<-Wm] at QK hl5 ⊢;have y8:=(show Hid _ from And.intro hib Wm);have UH:Hid (jg f s ss cs k=if gL cs[k] = [] then 5 else if ib=true then 0 else 2):=by
           show _=_;rw[HRW.out,Lg,if_neg (fun h=>h rfl),hib]
          clear y0 y1 y2 y3 y4 y5 y6 hb5 dn x6 Lg hsp Nb Ic hib Wm;obtain⟨y0,y1,y2,y3,y4,y5,y6⟩:=Dq.out.cells;dsimp only
          go_wp2_with fail;refine Calls.mono HIS.out ?_;rintro e w7 ⟨rfl,hw7⟩;have DL:=hw7;subst DL;have mq:=Dq;clear hw7 HIS;dsimp only
          by_cases hz:n5=0
          ·have hnil:gL cs[k] = []:=List.eq_nil_of_length_eq_zero (by rw[<-y8.out.2];exact hz);have HM:=(show Hid _ from HAT.out 5 (by rw[UH.out,if_pos hnil]) (by decide));have jd:=(show Hid _ from sU mq.out.r2 mq.out.bq 5 k);subst hz;clear hnil;go_wp2;exact HZ.out _ 5 k jd.out HM.out (by decide) _ rfl rfl rfl
          ·have hne:¬ gL cs[k] = []:=fun h=>hz (by rw[y8.out.2,h];rfl)
           have d7:((n5:Int)==0)=false:=by rw[beq_eq_false_iff_ne];omega
           cases ib with
           | false=>
            have HM:=(show Hid _ from HAT.out 2 (by rw[UH.out,if_neg hne,if_neg (by decide)]) (by decide));have jd:=(show Hid _ from sU mq.out.r2 mq.out.bq 2 k);clear hz hne;go_wp2;exact HZ.out _ 2 k jd.out HM.out (by decide) _ rfl rfl rfl
           | true=>
            have dA:Hid (∀ j,j<k+1->jg f s ss cs j=0):=fun j hj=>by
             rcases Nat.lt_or_ge j k with h | h
             ·exact mq.out.ok j h
             ·obtain rfl:j=k:=by omega
              rw[UH.out,if_neg hne,if_pos rfl]
            have hlk:(ss.take k).length=k:=by rw[List.length_take];omega
            obtain⟨b3,e3,hu1⟩:=bT mq.out.set.names;obtain⟨b4,e4,hu2⟩:=bT mq.out.set.row;rw[hlk] at hu1;rw[mq.out.Du] at hu2;subst hu1 hu2;have rQ:Hid (w7.ownsRow (w.heap.size+3) 9 1 (.slice b3 k e3) k ((ss.take k).map encStr)):=by have:=mq.out.set.names;rw[hlk] at this;exact this
            have RI:=(show Hid _ from hlk);obtain⟨iS,hI,hS0,hS1,hS2⟩:=info_parts Tryz.infoStr3;have rW:=(show Hid _ from hI);clear hI;obtain⟨iR,hI,hR0,yK,hR2⟩:=info_parts Tryz.infoPts3;have ZY:=(show Hid _ from hI);clear hI hz hne hlk;have Dt:Hid (∀ w',Below w7.heap.size w7 w'->w'.cell? ⟨w.heap.size+2,0,none⟩=some (.slice b3 k e3)/\w'.cell? ⟨w.heap.size,2,none⟩=some (.slice (some ⟨g1,o1,none⟩) n c1)/\w'.cell? ⟨g1,o1+k,none⟩=some (.string nm)):=fun z hz=>by
             have:=mq.out.below hz;exact⟨ak this.set.set 0,this.cells.2.2.1,by rw[yF.out.1];exact hg1 z this.bq⟩
            have hsd:=Dt.out w7.drew (bZ (Below.refl _ _));clear y0 y1 y2 y3 y4 y5 y6;go_upto_region 25 with fail;refine tq (S:=fun w'=>w'.cell? ⟨w.heap.size+2,0,none⟩=some (.slice b3 k e3)/\w'.cell? ⟨w.heap.size,2,none⟩=some (.slice (some ⟨g1,o1,none⟩) n c1)/\w'.cell? ⟨g1,o1+k,none⟩=some (.string nm)) (by kernel_rfl) 14 hsd (fun hHeld=>?_);clear hsd;refine bC (i:=0) (v:=.pointer (some ⟨w.heap.size+2,0,none⟩)) rfl (by kernel_rfl) (by kernel_rfl) (by kernel_rfl) (by kernel_rfl) (fun _ _ _ h=>h) (Or.inl ⟨by rfl,?_⟩) (fun _=>hHeld) ?_
            ·intro w _;go_simp
            try simp only[Act.put]
            refine bC (i:=1) (v:=.pointer (some ⟨w.heap.size+2,0,none⟩)) rfl (by kernel_rfl) (by kernel_rfl) (by kernel_rfl) (by kernel_rfl) (fun _ _ _ h=>h) (Or.inl ⟨by rfl,?_⟩) (fun _=>hHeld) ?_
            ·intro w _;go_simp
            try simp only[Act.put]
            refine bC (i:=2) (v:=.pointer (some ⟨w.heap.size+2,0,none⟩)) rfl (by kernel_rfl) (by kernel_rfl) (by kernel_rfl) (by kernel_rfl) (fun _ _ _ h=>h) (Or.inl ⟨by rfl,?_⟩) (fun _=>hHeld) ?_
            ·intro w _;go_simp
            try simp only[Act.put]
            refine bC (i:=3) (v:=.pointer (some ⟨w.heap.size+2,0,none⟩)) rfl (by kernel_rfl) (by kernel_rfl) (by kernel_rfl) (by kernel_rfl) (fun _ _ _ h=>h) (Or.inl ⟨by rfl,?_⟩) (fun _=>hHeld) ?_
            ·intro w _;go_simp
            try simp only[Act.put]
            refine eH (i:=4) (v:=.slice b3 k e3) rfl (by kernel_rfl) (by kernel_rfl) (by kernel_rfl) (by kernel_rfl) (by kernel_rfl) (by kernel_rfl) (fun _ _ _ h=>h) (Or.inl ⟨by rfl,?_⟩) hHeld ?_
            ·intro w hSw;obtain⟨RP,RQ,RS⟩:=hSw;go_simp
            try simp only[Act.put]
            refine bC (i:=5) (v:=.pointer (some ⟨w.heap.size,2,none⟩)) rfl (by kernel_rfl) (by kernel_rfl) (by kernel_rfl) (by kernel_rfl) (fun _ _ _ h=>h) (Or.inl ⟨by rfl,?_⟩) (fun _=>hHeld) ?_
            ·intro w _;go_simp
            try simp only[Act.put]
            refine eH (i:=6) (v:=.slice (some ⟨g1,o1,none⟩) n c1) rfl (by kernel_rfl) (by kernel_rfl) (by kernel_rfl) (by kernel_rfl) (by kernel_rfl) (by kernel_rfl) (fun _ _ _ h=>h) (Or.inl ⟨by rfl,?_⟩) hHeld ?_
            ·intro w hSw;obtain⟨RP,RQ,RS⟩:=hSw;go_simp
            try simp only[Act.put]
            refine bC (i:=7) (v:=.int .i64 (k:Int)) rfl (by kernel_rfl) (by kernel_rfl) (by kernel_rfl) (by kernel_rfl) (fun _ _ _ h=>h) (Or.inl ⟨by rfl,?_⟩) (fun _=>hHeld) ?_
            ·intro w _;go_simp
            try simp only[Act.put]
            refine bC (i:=8) (v:=.pointer (some ⟨g1,o1+k,none⟩)) rfl (by kernel_rfl) (by kernel_rfl) (by kernel_rfl) (by kernel_rfl) (fun _ _ _ h=>h) (Or.inl ⟨by rfl,?_⟩) (fun _=>hHeld) ?_
            ·intro w _;go_simp
            try simp only[Act.put]
            refine eH (i:=9) (v:=.string nm) rfl (by kernel_rfl) (by kernel_rfl) (by kernel_rfl) (by kernel_rfl) (by kernel_rfl) (by kernel_rfl) (fun _ _ _ h=>h) (Or.inl ⟨by rfl,?_⟩) hHeld ?_
            ·intro w hSw;obtain⟨RP,RQ,RS⟩:=hSw;go_simp
            try simp only[Act.put]
            refine aW (rs:=[10]) (by kernel_rfl) (by simp) ?_;refine aD.cons rfl (fun K hK=>?_) aD.nil;go_simp
            refine hK.out _ _ (Dt.out _ (bV (bZ (Below.refl _ _)) _)) ?_;clear hK K;try simp only[Act.put]
            refine aW (rs:=[11]) (by kernel_rfl) (by simp) ?_;refine aD.cons rfl (fun K hK=>?_) aD.nil;refine fP w7 (by rfl) _ _ 23 (by rfl) (w.heap.size+3) 9 iS (.string ⟨#[]⟩) 16 Tryz.underlying23 rW.out hS0 hS1 hS2 (by rfl) (.slice b3 k e3) k ((ss.take k).map encStr) (by rfl) rQ.out (bV (bZ (Below.refl _ _)) _) _ _ _ _ (by rfl) (by exact heap_alloc_new _ _) (by rfl) (by omega) (by decide) mq.out.uD ?_;intro g8 fK w8 gX fV fu;have h8:=mq.out.set.name (x:=ss[k]) mq.out.uD fu (by rw[RI.out];rw[yF.out.1] at gX;exact gX) fV;rw[RI.out] at h8;have q0:w8.cell? ⟨w.heap.size+2,0,none⟩=some (.slice b3 k e3):=ak h8.1 0;have z0:w8.frozen? ⟨w.heap.size+2,0,none⟩=false:=by simp[World.frozen?,h8.1]
            have jQ:Below (w.heap.size+2) w7 w8:=h8.2.1.mono (Nat.le_succ _);have yB:=mq.out.bq.trans (h8.2.1.mono (by omega));have Ie:Hid (w.heap.size+3<=w8.heap.size):=Nat.le_trans mq.out.uD (Nat.le_trans fu.size fV.size);have aai:Hid (∀ v m ys,w7.ownsRow (w.heap.size+3) 67 2 v m ys->w8.ownsRow (w.heap.size+3) 67 2 v m ys):=fun v m ys hv=>Nu fV (dK rQ.out fu) (dK hv fu) (by decide)
            have oQ:Hid (w8.cell? ⟨w.heap.size+2,0,none⟩=some (.slice b3 k e3)/\w8.cell? ⟨w.heap.size,2,none⟩=some (.slice (some ⟨g1,o1,none⟩) n c1)/\w8.cell? ⟨g1,o1+k,none⟩=some (.string nm)):=⟨q0,ak ((jQ.block _ (by omega)).trans mq.out.bb) 2,by rw[yF.out.1];exact hg1 w8 yB⟩;have H8:=(show Hid _ from And.intro h8.2.2 (And.intro jQ yB));clear gX fV fu h8 jQ yB;refine hK.out _ _ oQ.out ?_;clear hK K;try simp only[Act.put]
            refine bC (i:=12) (v:=.pointer (some ⟨w.heap.size+2,0,none⟩)) rfl (by kernel_rfl) (by kernel_rfl) (by kernel_rfl) (by kernel_rfl) (fun _ _ _ h=>h) (Or.inl ⟨by rfl,?_⟩) (fun _=>oQ.out) ?_
            ·intro w _;go_simp
            try simp only[Act.put]
            refine bC (i:=13) (v:=.pointer (some ⟨w.heap.size+2,0,none⟩)) rfl (by kernel_rfl) (by kernel_rfl) (by kernel_rfl) (by kernel_rfl) (fun _ _ _ h=>h) (Or.inl ⟨by rfl,?_⟩) (fun _=>oQ.out) ?_
            ·intro w _;go_simp
            try simp only[Act.put]
            refine aW (rs:=[14]) (by kernel_rfl) (by simp) ?_;refine aD.last rfl (by kernel_rfl) (fun K hK=>?_) aD.nil;go_simp
            refine hK.out _ _ ?_;clear hK K;refine kN (by kernel_rfl) ?_ _;clear oQ q0 z0 Dt;obtain⟨Z8,jG⟩:∃ Z8,Z8=w8.setCell ⟨w.heap.size+2,0,none⟩ (.slice (some ⟨g8,0,none⟩) (k+1) fK):=⟨_,rfl⟩;obtain⟨Em,jQ,yB⟩:=H8.out;rw[<-jG] at Em ⊢;have Pz:Below w.heap.size w Z8:=by rw[jG];exact yB.setCell (p:=⟨w.heap.size+2,0,none⟩) (by show w.heap.size<=w.heap.size+2;omega) _
            have UJ:w.heap.size+3<=Z8.heap.size:=by rw[jG,World.size_setCell];exact Ie.out
            have PD:Below (w.heap.size+2) w7 Z8:=by rw[jG];exact jQ.setCell (p:=⟨w.heap.size+2,0,none⟩) (Nat.le_refl _) _
            have adZ:Hid (∀ v m ys,w7.ownsRow (w.heap.size+3) 67 2 v m ys->Z8.ownsRow (w.heap.size+3) 67 2 v m ys):=fun v m ys hv=>by rw[jG];exact eU (aai.out v m ys hv) (by omega)
            have Ld:=(show Hid _ from Em);have rF:=(show Hid _ from And.intro Pz (And.intro UJ PD));have HOL:Hid ((Z8.alloc (.cells #[.slice a5 n5 c5] 48)).ownsRow (w.heap.size+3) 48 1 (.slice b4 k e4) k ls):=World.ownsRow.alloc (by have:=Em.row;rw[mq.out.Du] at this;exact this) _;have Dh:Hid (∀ i z,([.slice a5 n5 c5]:List Value)[i]? = some z->(Z8.alloc (.cells #[.slice a5 n5 c5] 48)).cell? ((⟨Z8.heap.size,0,none⟩:Addr).add i)=some z):=World.news_of_block (heap_alloc_new _ _);have H1R:Hid (∀ z∈([.slice a5 n5 c5]:List Value),z.oneCell'=true):=by
             intro z hz;simp at hz;subst hz;rfl
            have s1:Z8.cell? ⟨w.heap.size+2,1,none⟩=some (.slice b4 k e4):=ak Em.set 1;clear H8 Ie aai jG Em jQ yB Pz PD;go_wp2_with (at_builtin;refine wpList_append_lies _ rfl _ _ 94 rfl (w.heap.size+3) 48 iR (.slice none 0 0) 1 24 Tryz.underlying94 ZY.out hR0 yK hR2 rfl (by decide) _ _ _ rfl HOL.out ⟨Z8.heap.size,0,none⟩ 1 1 [.slice a5 n5 c5] rfl rfl Dh.out H1R.out (by omega) (by unfold maxLen;omega) (by omega) (by simp;omega) _ rfl ?_);intro g9 Gb w9 Cw Nv aaj _;have G9:pV (Z8.alloc (.cells #[.slice a5 n5 c5] 48)) w9 (.slice b4 k e4) g9:=⟨Nv.os,Nv.tape,Nv.output,Nv.size,fun q hq hne=>Nv.block q hq (fun e=>hne e.symm),by simpa using aaj⟩;have BX:Below Z8.heap.size Z8 (Z8.alloc (.cells #[.slice a5 n5 c5] 48)):=(Below.refl _ _).alloc (Nat.le_refl _) _;have h9:=Ld.out.list (x:=.slice a5 n5 c5) UJ BX (by rw[mq.out.Du];exact Cw) G9;rw[mq.out.Du] at h9;have q1:w9.cell? ⟨w.heap.size+2,1,none⟩=some (.slice b4 k e4):=ak h9.1 1;have z1:w9.frozen? ⟨w.heap.size+2,1,none⟩=false:=by simp[World.frozen?,h9.1]
            have gD:Hid (zZ w (w9.setCell ⟨w.heap.size+2,1,none⟩ (.slice (some ⟨g9,0,none⟩) (k+1) Gb)) f s (some ⟨g1,o1,none⟩) (some ⟨g2,o2,none⟩) n c1 c2 ss cs (k+1) (.slice (some ⟨g8,0,none⟩) (k+1) fK) (.slice (some ⟨g9,0,none⟩) (k+1) Gb) (ls ++ [.slice a5 n5 c5])):=by
             obtain⟨Pz,_,PD⟩:=rF.out;have wK:Below (w.heap.size+2) w7 w9:=PD.trans (h9.2.1.mono (Nat.le_succ _));have hpz:∀ v m ys,w7.ownsRow (w.heap.size+3) 67 2 v m ys->(w9.setCell ⟨w.heap.size+2,1,none⟩ (.slice (some ⟨g9,0,none⟩) (k+1) Gb)).ownsRow (w.heap.size+3) 67 2 v m ys:=fun v m ys hv=>eU (Nu G9 HOL.out (dK (adZ.out v m ys hv) BX) (by decide)) (by omega)
             refine⟨dA.out,?_,?_,by rw[List.take_succ_eq_append_getElem hks];exact h9.2.2,by simp[mq.out.Du],fun i hi=>?_,(Pz.trans (h9.2.1.mono (by omega))).setCell (p:=⟨w.heap.size+2,1,none⟩) (by show w.heap.size<=w.heap.size+2;omega) _,by rw[World.size_setCell];exact Nat.le_trans UJ (Nat.le_trans BX.size G9.size)⟩
             ·rw[Below.heap_setCell _ _ _ _ (by show w.heap.size≠w.heap.size+2;omega),wK.block _ (by omega)];exact mq.out.bb
             ·rw[Below.heap_setCell _ _ _ _ (by show w.heap.size+1≠w.heap.size+2;omega),wK.block _ (by omega)];exact mq.out.r2
             ·rcases Nat.lt_or_ge i k with h | h
              ·obtain⟨v,h1,h2⟩:=mq.out.pts i h;exact⟨v,by rw[List.getElem?_append_left (by rw[mq.out.Du];exact h)];exact h1,hpz _ _ _ h2⟩
              ·obtain rfl:i=k:=by omega
               refine⟨.slice a5 n5 c5,by rw[List.getElem?_append_right (by rw[mq.out.Du];exact Nat.le_refl _),mq.out.Du];simp,?_⟩;rw[nR.out,<-y8.out.2];exact hpz _ _ _ QK.out
            clear Cw Nv aaj G9 BX h9;go_wp2;go_roundw;case rel=>exact⟨k+1,_,_,_,by omega,by go_num,gD.out⟩
            case measure=>simp[intOf]<;>omega
         ·have Dq:=(show Hid _ from vC.out.below hb5);clear y0 y1 y2 y3 y4 y5 y6 hb5 dn x6;obtain⟨y0,y1,y2,y3,y4,y5,y6⟩:=Dq.out.cells;obtain⟨UC,RV⟩:∃ UC,UC=nQ cs[k]:=⟨_,rfl⟩;have hU0:0<=UC:=by rw[RV];exact EU _
          have lT:Hid (UC≠0):=by rw[RV];exact Lg
          have d5:(UC==0)=false:=by simpa using lT.out
          have d6:decide (0<UC)=true:=decide_eq_true (by have:=lT.out;omega);have HM:=(show Hid _ from HAT.out UC (by rw[HRW.out,<-RV,if_pos lT.out]) lT.out);have jd:=(show Hid _ from sU Dq.out.r2 Dq.out.bq UC k);have HIS:=(show Hid _ from wu w5 none 0 [] f s Px.out (.inl rfl) (by simp));rw[<-RV];clear RV Lg;dsimp only
          go_wp2_with fail;refine Calls.mono HIS.out ?_;rintro e w7 ⟨rfl,hw7⟩;have DL:=hw7;subst DL;clear hw7 HIS;dsimp only
          go_wp2;exact HZ.out _ UC k jd.out HM.out lT.out _ rfl rfl rfl
     ·obtain rfl:k=n:=by omega
      have hge:(k:Int)<=(k:Int):=Int.le_refl _;have xG:Hid (jc f s ss cs=0/\l6 f s ss cs = -1):=F3 HG.out (by rw[Wl.out,HN.out]) fun j hj=>BS.out.ok j (by have:=HN.out;omega)
      have Ij:Hid (∀ z,Calls Tryz.prog 51 #[] z fun e w'=>e = .returned (.agg #[.int .i64 0,.int .i64 (-1)])/\Below z.heap.size z w'):=fun z=>zm z
      go_wp2_with fail;refine Calls.mono (Ij.out _) ?_;rintro e w9 ⟨rfl,wK⟩;have Le:=(show Hid _ from BS.out.below wK);clear y0 y1 y2 y3 y4 y5 y6 wK;obtain⟨y0,y1,y2,y3,y4,y5,y6⟩:=Le.out.cells;dsimp only
      go_wp2;refine qO.out w9 _ _ _ Le.out xG.out.1 _ rfl rfl rfl
   ·have d3:((n:Int)==(m:Int))=false:=by rw[beq_eq_false_iff_ne];omega
    have HM:Hid (jc f s ss cs=3/\l6 f s ss cs = -1):=Lf.out HG.out (by rw[HN.out,Wl.out];exact fun h=>hnm h.symm);clear Gd Lf BR hnm;go_wp2_with fail;refine Calls.mono (iT.out 3 w1) ?_;rintro e w2 ⟨rfl,hb2⟩;obtain⟨hz,p0,p1,p2⟩:=iU.out 3 w2 hb2;have jd:=(show Hid _ from hz);clear hb2 hz;dsimp only
    go_wp2;exact HZ.out _ 3 (-1) jd.out HM.out (by decide) _ rfl rfl rfl
 ·have HM:Hid (jc f s ss cs=2/\l6 f s ss cs = -1):=Gd.out (.inl (by rw[<-Ih.out];decide));clear Gd Lf;go_wp2_with fail;refine Calls.mono (iT.out 2 w1) ?_;rintro e w2 ⟨rfl,hb2⟩;obtain⟨hz,p0,p1,p2⟩:=iU.out 2 w2 hb2;have jd:=(show Hid _ from hz);clear hb2 hz;dsimp only
  go_wp2;exact HZ.out _ 2 (-1) jd.out HM.out (by decide) _ rfl rfl rfl
theorem MG (w:World) (f s:Int) (b1 b2:Nat) (v1 v2:Value) (ss cs:List (List UInt8)) (h1:w.ownsRow b1 9 1 v1 ss.length (ss.map encStr)) (h2:w.ownsRow b2 9 1 v2 cs.length (cs.map encStr)) (hss:∀ x,x∈ss->x.length<=100000) (hcs:∀ x,x∈cs->x.length<=10000) (hn:ss.length<=100000) (hm:cs.length<=100000) :
  Calls Tryz.prog 19 #[.agg #[.int .i64 f,.int .i64 s,v1,v2]] w fun e w'=>Jg w w' f s ss cs e:=by
 obtain⟨a1,c1,rfl,p1⟩:=Cu h1;obtain⟨a2,c2,rfl,p2⟩:=Cu h2;exact RU w f s a1 a2 c1 c2 ss cs p1 p2 hss hcs hn hm
end Go.Proofs.YtcemkhalbjhdkaaGreatDoor
