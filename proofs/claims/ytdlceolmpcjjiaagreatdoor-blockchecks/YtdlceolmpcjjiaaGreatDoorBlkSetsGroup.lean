import Derived.Test.YtdlceolmpcjjiaaGreatDoorBlkTwoGroup
import Derived.Deep.CutRange
import Derived.Test.YtdlceolmpcjjiaaGreatDoorBlkLawGroup
import Derived.Test.YtdlceolmpcjjiaaGreatDoorStrP
import Derived.Test.YtdlceolmpcjjiaaGreatDoorHeadPutGroup
import Derived.Test.YtdlceolmpcjjiaaGreatDoorMdAtGroup
import Derived.Test.YtdlceolmpcjjiaaGreatDoorRefTicksGroup
import Derived.Test.YtdlceolmpcjjiaaGreatDoorRows1Group
set_option maxRecDepth 1000000
namespace Go.Proofs.YtdlceolmpcjjiaaGreatDoor
open Go.RowKit
structure ab9 (w:World) (sb n:Nat) (X:Nat->ByteArray) (V:Nat->Value):Prop where
 blk:∃ a c b d,w.cell? ⟨sb,0,none⟩=some (.slice a n c)/\w.cell? ⟨sb,1,none⟩=some (.slice b n d) /\
  ∀ i,i<n->(∃ g o,a=some ⟨g,o,none⟩/\w.cell? ⟨g,o+i,none⟩=some (.string (X i)))/\(∃ g o,b=some ⟨g,o,none⟩/\w.cell? ⟨g,o+i,none⟩=some (V i))
 sl:∀ i,i<n->∃ p q r,V i = .slice p q r
def adV (n:Nat) (X:Nat->ByteArray) (V:Nat->Value) (s:ByteArray) (e:Ending):Prop:=
 (∃ i,i<n/\X i=s/\(∀ j,j<i->X j≠s)/\e = .returned (V i))\/((∀ j,j<n->X j≠s)/\e = .returned (.slice none 0 0))
theorem Uv (w:World) (sb n:Nat) (X:Nat->ByteArray) (V:Nat->Value) (h:ab9 w sb n X V) (hn:(n:Int)<=9223372036854775807) (s:ByteArray) :
  Calls Tryz.prog 23 #[.pointer (some ⟨sb,0,none⟩),.string s] w fun e w'=>adV n X V s e/\w'=w:=by
 obtain⟨a,c,b,d,z0,z1,hx⟩:=h.blk;have HX:=(show Hid _ from hx);have HS:=(show Hid _ from h.sl);clear hx h;go_enter Tryz.func23,Tryz.ntmps23;go_wp2_with fail;go_loopw [5] (fun i wr=>∃ k:Nat,k<=n/\i = .int .i64 (k:Int)/\wr=w/\∀ j,j<k->X j≠s) (fun i _=>n-(intOf i).toNat);case atStart=>exact⟨0,Nat.zero_le _,rfl,rfl,fun j h=>absurd h (Nat.not_lt_zero _)⟩
 case round=>
  obtain⟨k,hk,rfl,rfl,hin⟩:=hrel;have jq:=(show Hid (∀ j,j<k->X j≠s) from hin);clear hin;by_cases hkn:k<n
  ·obtain⟨⟨g,o,rfl,e0⟩,⟨g2,o2,rfl,e1⟩⟩:=HX.out k hkn;obtain⟨p,q,r,hV⟩:=HS.out k hkn;have HV:=(show Hid _ from hV);rw[hV] at e1;have k0:(0:Int)<=(k:Int):=by omega
   have k1:(k:Int)<(n:Int):=by omega
   obtain⟨x,hx⟩:∃ x,x=X k:=⟨_,rfl⟩;rw[<-hx] at e0;have Us:=(show Hid _ from hx);clear hx hV;by_cases hxs:x=s
   ·have hxe:(x.toList==s.toList)=true:=by rw[hxs];simp
    have HXS:=(show Hid _ from hxs);clear hxs;go_wp2;go_ret;exact⟨.inl ⟨k,hkn,by rw[<-Us.out];exact HXS.out,jq.out,by rw[HV.out];rfl⟩,rfl⟩
   ·have hxe:(x.toList==s.toList)=false:=by
     rw[beq_eq_false_iff_ne];intro h;rw[ByteArray.toList_eq,ByteArray.toList_eq] at h;exact hxs (ByteArray.ext (Array.toList_inj.1 h))
    have fB:Hid (∀ j,j<k+1->X j≠s):=fun j hj=>by
     rcases Nat.lt_or_ge j k with h | h
     ·exact jq.out j h
     ·obtain rfl:j=k:=by omega
      rw[<-Us.out];exact hxs
    clear hxs;go_wp2;go_roundw;case rel=>exact⟨k+1,by omega,by go_num,trivial,fB.out⟩
    case measure=>simp[intOf]<;>omega
  ·have hge:(n:Int)<=(k:Int):=by omega
   have HAL:Hid (∀ j,j<n->X j≠s):=fun j hj=>jq.out j (by omega)
   go_wp2;go_ret;exact⟨.inr ⟨HAL.out,rfl⟩,rfl⟩
end Go.Proofs.YtdlceolmpcjjiaaGreatDoor
namespace Go.Proofs.YtdlceolmpcjjiaaGreatDoor
open Go.RowKit Go.Maps jW bF bT
theorem Nr (w:World) (s:ByteArray) (hs:s.size<=100000) :
  Calls Tryz.prog 49 #[.string s] w fun e w'=>Below w.heap.size w w'/\∃ x,e = .returned (.tuple #[x,.agg #[.int .i64 (gV s.data.toList),.int .i64 (zk s.data.toList)]]):=by
 refine (SY s w hs).mono ?_;rintro e w' ⟨hb,⟨hn,rfl⟩|⟨out,C,A,hsc,_,hf,hrest⟩⟩
 ·refine⟨hb,.slice none 0 0,?_⟩;unfold gV zk;rw[hn]
 ·obtain⟨hC,hA⟩:=Wj hf;refine⟨hb,?_⟩;unfold gV zk;rw[hsc];simp only
  rw[<-hC,<-hA];rcases hrest with⟨_,rfl⟩|⟨_,v,rfl,_⟩
  ·exact⟨_,rfl⟩
  ·exact⟨_,rfl⟩
end Go.Proofs.YtdlceolmpcjjiaaGreatDoor
set_option maxRecDepth 1000000
set_option maxHeartbeats 8000000
namespace Go.Proofs.YtdlceolmpcjjiaaGreatDoor
open Go.RowKit Go.Maps bT bF
structure wT (w:World) (sb:Nat) (rows:List (List UInt8×List (Int×Nat))):Prop where
 ex:∃ a c b d,w.heap[sb]? = some (.cells #[.slice a rows.length c,.slice b rows.length d] 98 (0,0)) /\
  (∀ i (hi:i<rows.length),∃ g,a=some ⟨g,0,none⟩/\w.cell? ⟨g,i,none⟩=some (encStr rows[i].1)) /\
  (∀ i (hi:i<rows.length),∃ g,b=some ⟨g,0,none⟩/\∃ A C,w.cell? ⟨g,i,none⟩=some (.slice A rows[i].2.length C)/\iM w A rows[i].2)
theorem wT.below {w z:World} {sb:Nat} {rows:List (List UInt8×List (Int×Nat))} (h:wT w sb rows) (hb:Below w.heap.size w z):wT z sb rows:=by
 obtain⟨a,c,b,d,h1,h2,h3⟩:=h.ex;refine⟨a,c,b,d,(hb.block _ (aH h1)).trans h1,fun i hi=>?_,fun i hi=>?_⟩
 ·obtain⟨g,e,hc⟩:=h2 i hi;exact⟨g,e,(hb.cell (p:=⟨g,i,none⟩) (World.block_lt_of_cell? w ⟨g,i,none⟩ hc)).trans hc⟩
 ·obtain⟨g,e,A,C,hc,hp⟩:=h3 i hi;exact⟨g,e,A,C,(hb.cell (p:=⟨g,i,none⟩) (World.block_lt_of_cell? w ⟨g,i,none⟩ hc)).trans hc,hp.below hb⟩
structure nK (w:World) (base sb:Nat) (vs vl:Value) (ss:List (List UInt8)) (ls:List Value):Prop where
 set:w.heap[sb]? = some (.cells #[vs,vl] 98 (0,0))
 low:sb<base
 names:w.ownsRow base 9 1 vs ss.length (ss.map encStr)
 row:w.ownsRow base 48 1 vl ls.length ls
theorem nK.below {w z:World} {base sb:Nat} {vs vl:Value} {ss:List (List UInt8)} {ls:List Value} (h:nK w base sb vs vl ss ls) (hb:Below w.heap.size w z):nK z base sb vs vl ss ls:=
 ⟨(hb.block _ (aH h.set)).trans h.set,h.low,bN h.names hb,bN h.row hb⟩
theorem dh {z:World} {base tb k:Nat} {e:TypeId} {sz:Nat} {v u:Value} {n:Nat} {xs:List Value} (h:z.ownsRow base e sz v n xs) (hl:tb<base):(z.setCell ⟨tb,k,none⟩ u).ownsRow base e sz v n xs:=dB h fun g hg=>by
 have:=(bE h hg).1;exact Below.heap_setCell _ _ _ _ (by show g≠tb;omega)
theorem nK.name {w Y z:World} {base sb:Nat} {vs vl:Value} {ss:List (List UInt8)} {ls:List Value} (h:nK w base sb vs vl ss ls) {x:List UInt8} {g cap:Nat} (hbase:base<=w.heap.size) (h1:Below w.heap.size w Y) (o:z.ownsRow base 9 1 (.slice (some ⟨g,0,none⟩) (ss.length+1) cap) (ss.length+1) (ss.map encStr ++ [encStr x])) (G:pI Y z vs g) :
  z.heap[sb]? = some (.cells #[vs,vl] 98 (0,0))/\Below base w z/\nK (z.setCell ⟨sb,0,none⟩ (.slice (some ⟨g,0,none⟩) (ss.length+1) cap)) base sb (.slice (some ⟨g,0,none⟩) (ss.length+1) cap) vl (ss ++ [x]) ls:=by
 have hlow:=h.low;have s1:=h1.size;have b1:Below base w z:=(h1.mono hbase).trans (G.below (by omega) fun q hq=>(bE h.names hq).1);have ht:=(b1.block sb hlow).trans h.set;have hr:z.ownsRow base 48 1 vl ls.length ls:=dB h.row fun g' hg'=>by
  obtain⟨_,q2,cur,hc⟩:=bE h.row hg';refine (G.blk g' (by omega) fun e=>?_).trans (h1.block g' q2);obtain⟨_,_,ace,hc2⟩:=bE h.names e;exact rU hc hc2 (by decide) rfl
 refine⟨ht,b1,⟨(dN ht 0 _).trans (by rfl),hlow,?_,dh hr hlow⟩⟩;have:=dh (k:=0) (u:=.slice (some ⟨g,0,none⟩) (ss.length+1) cap) o hlow;simpa using this
theorem nK.list {w Y z:World} {base sb:Nat} {vs vl:Value} {ss:List (List UInt8)} {ls:List Value} (h:nK w base sb vs vl ss ls) {x:Value} {g cap:Nat} (hbase:base<=w.heap.size) (h1:Below w.heap.size w Y) (o:z.ownsRow base 48 1 (.slice (some ⟨g,0,none⟩) (ls.length+1) cap) (ls.length+1) (ls ++ [x])) (G:pI Y z vl g) :
  z.heap[sb]? = some (.cells #[vs,vl] 98 (0,0))/\Below base w z/\nK (z.setCell ⟨sb,1,none⟩ (.slice (some ⟨g,0,none⟩) (ls.length+1) cap)) base sb vs (.slice (some ⟨g,0,none⟩) (ls.length+1) cap) ss (ls ++ [x]):=by
 have hlow:=h.low;have s1:=h1.size;have b1:Below base w z:=(h1.mono hbase).trans (G.below (by omega) fun q hq=>(bE h.row hq).1);have ht:=(b1.block sb hlow).trans h.set;have hr:z.ownsRow base 9 1 vs ss.length (ss.map encStr):=dB h.names fun g' hg'=>by
  obtain⟨_,q2,cur,hc⟩:=bE h.names hg';refine (G.blk g' (by omega) fun e=>?_).trans (h1.block g' q2);obtain⟨_,_,ace,hc2⟩:=bE h.row e;exact rU hc hc2 (by decide) rfl
 refine⟨ht,b1,⟨(dN ht 1 _).trans (by rfl),hlow,dh hr hlow,?_⟩⟩;have:=dh (k:=1) (u:=.slice (some ⟨g,0,none⟩) (ls.length+1) cap) o hlow;simpa using this
theorem WT {w:World} {base:Nat} {e:TypeId} {v:Value} {xs:List Value} (h:w.ownsRow base e 1 v xs.length xs):∃ a c,v = .slice a xs.length c/\∀ k (hk:k<xs.length),∃ g,a=some ⟨g,0,none⟩/\w.cell? ⟨g,k,none⟩=some xs[k]:=by
 rcases h.2 with⟨hv,h0⟩|⟨g,cap,cur,hv,hg,hh,h1,h2,h3,h4⟩
 ·exact⟨none,0,by rw[hv,h0],fun k hk=>absurd hk (by omega)⟩
 ·refine⟨_,_,hv,fun k hk=>⟨g,rfl,?_⟩⟩;have e0:w.cell? ⟨g,k,none⟩=cur[k]?:=by simp[World.cell?,hh]
  rw[e0,<-Array.getElem?_toList,<-List.getElem?_eq_getElem hk];conv=>rhs;rw[<-h4]
  rw[List.getElem?_take_of_lt (by omega)]
theorem nK.done {w:World} {base sb:Nat} {vs vl:Value} {rows:List (List UInt8×List (Int×Nat))} {ls:List Value} (h:nK w base sb vs vl (rows.map Prod.fst) ls) (hl:ls.length=rows.length) (hp:∀ i (hi:i<rows.length),∃ A C,ls[i]? = some (.slice A rows[i].2.length C)/\iM w A rows[i].2):wT w sb rows:=by
 obtain⟨a,c,h1,hc⟩:=u6 h.names;obtain⟨b,d,h2,hd⟩:=WT h.row;have hs:=h.set;rw[h1,h2,hl,List.length_map] at hs;refine⟨a,c,b,d,hs,fun i hi=>?_,fun i hi=>?_⟩
 ·obtain⟨g,e,hg⟩:=hc i (by simpa using hi);exact⟨g,e,by rw[hg];simp⟩
 ·obtain⟨g,e,hg⟩:=hd i (by omega);obtain⟨A,C,hA,hP⟩:=hp i hi;rw[List.getElem?_eq_getElem (by omega)] at hA;exact⟨g,e,A,C,by rw[hg,Option.some.inj hA],hP⟩
theorem Tryz.infoPts3:(Tryz.prog.info? 48).map (fun i=>(i.zero,i.size,i.bytes))=some (some (.slice none 0 0),1,24):=by kernel_rfl
end Go.Proofs.YtdlceolmpcjjiaaGreatDoor
namespace Go.Proofs.YtdlceolmpcjjiaaGreatDoor
open Go.RowKit Go.Maps bT bF
theorem acf (w:World) (la:Option Addr) (c:Nat) (l:List (Int×Nat)) (hP:iM w la l) (hin:oU l) (hn:l.length<=1000) :
  Calls Tryz.prog 50 #[.slice la l.length c] w fun e w'=>∃ A:Int,e = .returned (.agg #[.int .i64 (fG l),.int .i64 A])/\Below w.heap.size w w':=by
 by_cases h:120<l.length
 ·have hc:fG l=2:=by unfold fG;rw[if_pos h]
  refine (Oy w la l.length c h (by omega)).mono ?_;rintro e w' ⟨rfl,hb⟩;exact⟨-1,by rw[hc],hb⟩
 ·obtain⟨g,g1,g2⟩:=nZ (eu (dZ l)) l.length;refine (CK w la l.length c (dZ l) (pE l) (qW hP hin) (by omega) _ g g1 g2 _ _ rfl rfl).mono ?_;rintro e w' ⟨rfl,hb⟩;exact⟨_,by unfold fG Et;rw[if_neg h],hb⟩
theorem acg (w:World) (la:Option Addr) (c:Nat) (l:List (Int×Nat)) (hP:iM w la l) (hin:oU l) (hz:fG l=0) :
  Calls Tryz.prog 52 #[.slice la l.length c] w fun e w'=>e = .returned (encStr (iL l))/\Below w.heap.size w w':=by
 obtain⟨h1,h2⟩:=fE hz;refine (OL w la l.length c (dZ l) (pE l) (qW hP hin) (by omega) fun i hi=>?_).mono ?_
 ·have:=h2 i hi;simp only[eu,Bool.and_eq_true,gF] at this;omega
 ·rintro e w' ⟨rfl,hb⟩;exact⟨rfl,hb⟩
def adW (w w':World) (c:List UInt8) (e:Ending):Prop:=
 Below w.heap.size w w'/\((pF c=0/\∃ v,e = .returned (.tuple #[v,.int .i64 0])/\w'.ownsRow w.heap.size 71 2 v (gX c).length (aG (gX c)))\/(pF c≠0/\e = .returned (.tuple #[.slice none 0 0,.int .i64 (pF c)])))
theorem ach (w:World) (s:ByteArray) (hs:s.size<=10000) :
  Calls Tryz.prog 56 #[.string s] w fun e w'=>adW w w' s.data.toList e:=by
 refine (OM s w hs).mono ?_;rintro e w' ⟨hb,⟨n,T,Bt,v,hn,hT,Uh,hl,hown,rfl⟩|⟨c,hnot,hc,rfl⟩⟩
 ·have hch:dJ s.data.toList:=⟨n,T,Bt,hn,hT,Uh,hl⟩;have hu:gX s.data.toList=kD T Bt n:=by
   rw[hl,<-Br];refine I8 (xP (by rw[iY];exact hn) fun i hi=>?_) fun p hp=>?_
   ·rw[iY] at hi;rw[sZ _ T n (fun j hj=>rE T Bt n j hj) i hi];exact hT i hi
   ·simp[kD] at hp;obtain⟨i,hi,rfl⟩:=hp;exact Uh i hi
  refine⟨hb,.inl ⟨qj.2 hch,v,rfl,?_⟩⟩;rw[hu,iY,rT];exact hown
 ·have hu:pF s.data.toList=(c:Int):=by
   rw[Pz hnot,hc];split
   ·rfl
   ·split<;>rfl
  refine⟨hb,.inr ⟨fun h=>hnot (qj.1 h),by rw[hu]⟩⟩
structure yN (w:World) (base tb:Nat) (f s:Int) (u1 u2:Value) (ss cs:List (List UInt8)):Prop where
 blk:w.heap[tb]? = some (.cells #[.int .i64 f,.int .i64 s,u1,u2] 30 (0,0))
 low:tb<base
 lZ:w.ownsRow base 9 1 u1 ss.length (ss.map encStr)
 mO:w.ownsRow base 9 1 u2 cs.length (cs.map encStr)
 apart:∀ g,u1.ownBlock=some g->u2.ownBlock≠some g
theorem yN.below {w z:World} {base tb:Nat} {f s:Int} {u1 u2:Value} {ss cs:List (List UInt8)} (h:yN w base tb f s u1 u2 ss cs) (hb:Below w.heap.size w z):yN z base tb f s u1 u2 ss cs:=
 ⟨(hb.block _ (aH h.blk)).trans h.blk,h.low,bN h.lZ hb,bN h.mO hb,h.apart⟩
theorem yN.first {w Y z:World} {base tb:Nat} {f s:Int} {u1 u2:Value} {ss cs:List (List UInt8)} (h:yN w base tb f s u1 u2 ss cs) {x:List UInt8} {g cap:Nat} (hbase:base<=w.heap.size) (h1:Below w.heap.size w Y) (o:z.ownsRow base 9 1 (.slice (some ⟨g,0,none⟩) (ss.length+1) cap) (ss.length+1) (ss.map encStr ++ [encStr x])) (G:pI Y z u1 g) :
  z.heap[tb]? = some (.cells #[.int .i64 f,.int .i64 s,u1,u2] 30 (0,0))/\Below base w z/\yN (z.setCell ⟨tb,2,none⟩ (.slice (some ⟨g,0,none⟩) (ss.length+1) cap)) base tb f s (.slice (some ⟨g,0,none⟩) (ss.length+1) cap) u2 (ss ++ [x]) cs:=by
 have hlow:=h.low;have s1:=h1.size;have b1:Below base w z:=(h1.mono hbase).trans (G.below (by omega) fun q hq=>(bE h.lZ hq).1);have ht:=(b1.block tb hlow).trans h.blk;have hr:z.ownsRow base 9 1 u2 cs.length (cs.map encStr):=dB h.mO fun g' hg'=>by
  obtain⟨_,q2,cur,hc⟩:=bE h.mO hg';exact (G.blk g' (by omega) fun e=>h.apart g' e hg').trans (h1.block g' q2)
 refine⟨ht,b1,⟨(dN ht 2 _).trans (by rfl),hlow,?_,dh hr hlow,fun g' e1 e2=>?_⟩⟩
 ·have:=dh (k:=2) (u:=.slice (some ⟨g,0,none⟩) (ss.length+1) cap) o hlow;simpa using this
 ·simp[Value.ownBlock] at e1;subst e1;rcases G.at' with e | e
  ·exact h.apart g e e2
  ·have:=(bE h.mO e2).2.1;omega
theorem yN.second {w Y z:World} {base tb:Nat} {f s:Int} {u1 u2:Value} {ss cs:List (List UInt8)} (h:yN w base tb f s u1 u2 ss cs) {x:List UInt8} {g cap:Nat} (hbase:base<=w.heap.size) (h1:Below w.heap.size w Y) (o:z.ownsRow base 9 1 (.slice (some ⟨g,0,none⟩) (cs.length+1) cap) (cs.length+1) (cs.map encStr ++ [encStr x])) (G:pI Y z u2 g) :
  z.heap[tb]? = some (.cells #[.int .i64 f,.int .i64 s,u1,u2] 30 (0,0))/\Below base w z/\yN (z.setCell ⟨tb,3,none⟩ (.slice (some ⟨g,0,none⟩) (cs.length+1) cap)) base tb f s u1 (.slice (some ⟨g,0,none⟩) (cs.length+1) cap) ss (cs ++ [x]):=by
 have hlow:=h.low;have s1:=h1.size;have b1:Below base w z:=(h1.mono hbase).trans (G.below (by omega) fun q hq=>(bE h.mO hq).1);have ht:=(b1.block tb hlow).trans h.blk;have hr:z.ownsRow base 9 1 u1 ss.length (ss.map encStr):=dB h.lZ fun g' hg'=>by
  obtain⟨_,q2,cur,hc⟩:=bE h.lZ hg';exact (G.blk g' (by omega) fun e=>h.apart g' hg' e).trans (h1.block g' q2)
 refine⟨ht,b1,⟨(dN ht 3 _).trans (by rfl),hlow,dh hr hlow,?_,fun g' e1 e2=>?_⟩⟩
 ·have:=dh (k:=3) (u:=.slice (some ⟨g,0,none⟩) (cs.length+1) cap) o hlow;simpa using this
 ·simp[Value.ownBlock] at e2;subst e2;rcases G.at' with e | e
  ·exact h.apart g e1 e
  ·have:=(bE h.lZ e1).2.1;omega
theorem set2 {z:World} {b:Nat} {p0 p1:Value} {t:TypeId} (h:z.heap[b]? = some (.cells #[p0,p1] t (0,0))) (v0 v1:Value):((z.setCell ⟨b,0,none⟩ v0).setCell ⟨b,1,none⟩ v1).heap[b]? = some (.cells #[v0,v1] t (0,0)):=by
 have e1:=(dN h 0 v0).trans (show _=some (Obj.cells #[v0,p1] t (0,0)) by rfl);exact (dN e1 1 v1).trans (by rfl)
end Go.Proofs.YtdlceolmpcjjiaaGreatDoor
namespace Go.Proofs.YtdlceolmpcjjiaaGreatDoor
open Go.RowKit Go.Maps bT bF
def Ik (b:Bool) (RC:Int) (p n:List UInt8):Prop:=b=true↔RC=0/\¬ p<n
def RY (w w':World) (f s:Int) (rows:List (List UInt8×List (Int×Nat))) (e:Ending):Prop:=
 Below w.heap.size w w'/\((jN f s rows=0/\∃ u1 u2,e = .returned (.tuple #[.agg #[.int .i64 f,.int .i64 s,u1,u2],.agg #[.int .i64 0,.int .i64 (-1)]])/\jE w' w.heap.size (full rows) u1 u2) \/
  (jN f s rows≠0/\e = .returned (.tuple #[.agg #[.int .i64 0,.int .i64 0,.slice none 0 0,.slice none 0 0],.agg #[.int .i64 (jN f s rows),.int .i64 (sG f s rows)]])))
structure qL (w wr:World) (f s:Int) (rows:List (List UInt8×List (Int×Nat))) (k:Nat) (u1 u2:Value):Prop where
 ok:∀ j,j<k->rowAt f s rows j=0
 r1:wr.heap[w.heap.size]? = some (.cells #[.int .i64 0,.int .i64 0,.slice none 0 0,.slice none 0 0] 30 (0,0))
 r2:wr.heap[w.heap.size+1]? = some (.cells #[.int .i64 0,.int .i64 0] 32 (0,0))
 two:yN wr (w.heap.size+3) (w.heap.size+2) f s u1 u2 ((full (rows.take k)).map Prod.fst) (tN (full (rows.take k)))
 aM:Below w.heap.size w wr
 jH:w.heap.size+3<=wr.heap.size
theorem qL.below {w wr z:World} {f s:Int} {rows:List (List UInt8×List (Int×Nat))} {k:Nat} {u1 u2:Value} (h:qL w wr f s rows k u1 u2) (hb:Below wr.heap.size wr z):qL w z f s rows k u1 u2:=
 ⟨h.ok,(hb.block _ (aH h.r1)).trans h.r1,(hb.block _ (aH h.r2)).trans h.r2,h.two.below hb,h.aM.trans (hb.mono h.aM.size),Nat.le_trans h.jH hb.size⟩
theorem qL.over {w w2 y z:World} {f s:Int} {rows:List (List UInt8×List (Int×Nat))} {k:Nat} {u1 u2:Value} (h:qL w y f s rows k u1 u2) (hs:w.heap.size+3<=w2.heap.size) (h2:qL w w2 f s rows k u1 u2) (hb:Below w2.heap.size y z):qL w z f s rows k u1 u2:=by
 have hl1:∀ g,u1.ownBlock=some g->g<w2.heap.size:=fun g hg=>(bE h2.two.lZ hg).2.1
 have hl2:∀ g,u2.ownBlock=some g->g<w2.heap.size:=fun g hg=>(bE h2.two.mO hg).2.1
 refine⟨h.ok,(hb.block _ (by omega)).trans h.r1,(hb.block _ (by omega)).trans h.r2,⟨(hb.block _ (by omega)).trans h.two.blk,h.two.low,dB h.two.lZ fun g hg=>hb.block g (hl1 g hg),dB h.two.mO fun g hg=>hb.block g (hl2 g hg),h.two.apart⟩,h.aM.trans (hb.mono (by omega)),Nat.le_trans h.jH hb.size⟩
structure tX (w z:World):Prop where
 r1:z.heap[w.heap.size]? = some (.cells #[.int .i64 0,.int .i64 0,.slice none 0 0,.slice none 0 0] 30 (0,0))
 r2:z.heap[w.heap.size+1]? = some (.cells #[.int .i64 0,.int .i64 0] 32 (0,0))
theorem tX.all {w z:World} (h:tX w z):z.cell? ⟨w.heap.size,0,none⟩=some (.int .i64 0)/\z.cell? ⟨w.heap.size,1,none⟩=some (.int .i64 0)/\z.cell? ⟨w.heap.size,2,none⟩=some (.slice none 0 0)/\z.cell? ⟨w.heap.size,3,none⟩=some (.slice none 0 0)/\z.cell? ⟨w.heap.size+1,0,none⟩=some (.int .i64 0)/\z.cell? ⟨w.heap.size+1,1,none⟩=some (.int .i64 0)/\(∀ q,z.frozen? ⟨w.heap.size,q,none⟩=false)/\∀ q,z.frozen? ⟨w.heap.size+1,q,none⟩=false:=
 ⟨ak h.r1 0,ak h.r1 1,ak h.r1 2,ak h.r1 3,ak h.r2 0,ak h.r2 1,fun q=>by simp[World.frozen?,h.r1],fun q=>by simp[World.frozen?,h.r2]⟩
theorem tX.drew {w z:World} (h:tX w z):tX w z.drew:=⟨h.r1,h.r2⟩
theorem tX.below {w z y:World} (h:tX w z) (hb:Below z.heap.size z y):tX w y:=⟨(hb.block _ (aH h.r1)).trans h.r1,(hb.block _ (aH h.r2)).trans h.r2⟩
structure Nt (w z:World) (C A:Int):Prop where
 r1:z.heap[w.heap.size]? = some (.cells #[.int .i64 0,.int .i64 0,.slice none 0 0,.slice none 0 0] 30 (0,0))
 r2:z.heap[w.heap.size+1]? = some (.cells #[.int .i64 C,.int .i64 A] 32 (0,0))
 aM:Below w.heap.size w z
theorem Nt.drew {w z:World} {C A:Int} (h:Nt w z C A):Nt w z.drew C A:=⟨h.r1,h.r2,h.aM.drew⟩
theorem tX.set {w z:World} (h:tX w z) (hb:Below w.heap.size w z) (C A:Int):Nt w ((((((z.setCell ⟨w.heap.size,0,none⟩ (.int .i64 0)).setCell ⟨w.heap.size,1,none⟩ (.int .i64 0)).setCell ⟨w.heap.size,2,none⟩ (.slice none 0 0)).setCell ⟨w.heap.size,3,none⟩ (.slice none 0 0)).setCell ⟨w.heap.size+1,0,none⟩ (.int .i64 C)).setCell ⟨w.heap.size+1,1,none⟩ (.int .i64 A)) C A:=by
 obtain⟨Z,hZ⟩:∃ Z,Z=((((z.setCell ⟨w.heap.size,0,none⟩ (.int .i64 0)).setCell ⟨w.heap.size,1,none⟩ (.int .i64 0)).setCell ⟨w.heap.size,2,none⟩ (.slice none 0 0)).setCell ⟨w.heap.size,3,none⟩ (.slice none 0 0)):=⟨_,rfl⟩;have e1:Z.heap[w.heap.size]? = some (.cells #[.int .i64 0,.int .i64 0,.slice none 0 0,.slice none 0 0] 30 (0,0)):=by rw[hZ];exact om h.r1 _ _ _ _
 have e2:Z.heap[w.heap.size+1]? = some (.cells #[.int .i64 0,.int .i64 0] 32 (0,0)):=by
  rw[hZ,Below.heap_setCell _ _ _ _ (by show w.heap.size+1≠w.heap.size;omega),Below.heap_setCell _ _ _ _ (by show w.heap.size+1≠w.heap.size;omega),Below.heap_setCell _ _ _ _ (by show w.heap.size+1≠w.heap.size;omega),Below.heap_setCell _ _ _ _ (by show w.heap.size+1≠w.heap.size;omega)];exact h.r2
 have eb:Below w.heap.size w Z:=by rw[hZ];exact gH hb (Nat.le_refl _) _ _ _ _
 rw[<-hZ];refine⟨?_,set2 e2 _ _,(eb.setCell (p:=⟨w.heap.size+1,0,none⟩) (Nat.le_succ _) _).setCell (p:=⟨w.heap.size+1,1,none⟩) (Nat.le_succ _) _⟩;rw[Below.heap_setCell _ _ _ _ (by show w.heap.size≠w.heap.size+1;omega),Below.heap_setCell _ _ _ _ (by show w.heap.size≠w.heap.size+1;omega)];exact e1
theorem tX.put {w z:World} (h:tX w z) (hb:Below w.heap.size w z) (v0 v1 v2 v3 p0 p1:Value):∀ Z,Z=((((((z.setCell ⟨w.heap.size,0,none⟩ v0).setCell ⟨w.heap.size,1,none⟩ v1).setCell ⟨w.heap.size,2,none⟩ v2).setCell ⟨w.heap.size,3,none⟩ v3).setCell ⟨w.heap.size+1,0,none⟩ p0).setCell ⟨w.heap.size+1,1,none⟩ p1)->Z.heap[w.heap.size]? = some (.cells #[v0,v1,v2,v3] 30 (0,0))/\Z.heap[w.heap.size+1]? = some (.cells #[p0,p1] 32 (0,0))/\Below w.heap.size w Z/\∀ base e sz v n xs,w.heap.size+1<base->z.ownsRow base e sz v n xs->Z.ownsRow base e sz v n xs:=by
 intro X hX;subst hX;obtain⟨Z,hZ⟩:∃ Z,Z=((((z.setCell ⟨w.heap.size,0,none⟩ v0).setCell ⟨w.heap.size,1,none⟩ v1).setCell ⟨w.heap.size,2,none⟩ v2).setCell ⟨w.heap.size,3,none⟩ v3):=⟨_,rfl⟩;have e1:Z.heap[w.heap.size]? = some (.cells #[v0,v1,v2,v3] 30 (0,0)):=by rw[hZ];exact om h.r1 _ _ _ _
 have e2:Z.heap[w.heap.size+1]? = some (.cells #[.int .i64 0,.int .i64 0] 32 (0,0)):=by
  rw[hZ,Below.heap_setCell _ _ _ _ (by show w.heap.size+1≠w.heap.size;omega),Below.heap_setCell _ _ _ _ (by show w.heap.size+1≠w.heap.size;omega),Below.heap_setCell _ _ _ _ (by show w.heap.size+1≠w.heap.size;omega),Below.heap_setCell _ _ _ _ (by show w.heap.size+1≠w.heap.size;omega)];exact h.r2
 have eb:Below w.heap.size w Z:=by rw[hZ];exact gH hb (Nat.le_refl _) _ _ _ _
 rw[<-hZ];refine⟨?_,set2 e2 _ _,(eb.setCell (p:=⟨w.heap.size+1,0,none⟩) (Nat.le_succ _) _).setCell (p:=⟨w.heap.size+1,1,none⟩) (Nat.le_succ _) _,fun base e sz v n xs hl ho=>?_⟩
 ·rw[Below.heap_setCell _ _ _ _ (by show w.heap.size≠w.heap.size+1;omega),Below.heap_setCell _ _ _ _ (by show w.heap.size≠w.heap.size+1;omega)];exact e1
 ·have hl2:w.heap.size<base:=by omega
  rw[hZ];exact dh (dh (dh (dh (dh (dh ho hl2) hl2) hl2) hl2) hl) hl
theorem qL.res {w wr:World} {f s:Int} {rows:List (List UInt8×List (Int×Nat))} {k:Nat} {u1 u2:Value} (h:qL w wr f s rows k u1 u2):tX w wr:=⟨h.r1,h.r2⟩
theorem RZ (w:World) (sb:Nat) (rows:List (List UInt8×List (Int×Nat))) (f s:Int) (hR:wT w sb rows) (hn:rows.length<=1000) (hin:∀ r,r∈rows->oU r.2/\r.1.length<=1000/\r.2.length<=1000) :
  Calls Tryz.prog 17 #[.int .i64 f,.int .i64 s,.pointer (some ⟨sb,0,none⟩)] w fun e w'=>RY w w' f s rows e:=by
 have HR:=(show Hid _ from hR);have jq:Hid (∀ r,r∈rows->oU r.2/\r.1.length<=1000/\r.2.length<=1000):=hin;obtain⟨W,hW⟩:∃ W,W=(w.alloc (.cells #[.int .i64 0,.int .i64 0,.slice none 0 0,.slice none 0 0] 30)).alloc (.cells #[.int .i64 0,.int .i64 0] 32):=⟨_,rfl⟩;have hs1:(w.alloc (.cells #[.int .i64 0,.int .i64 0,.slice none 0 0,.slice none 0 0] 30)).heap.size=w.heap.size+1:=by simp
 have hbW:Below w.heap.size w W:=by rw[hW];exact ((Below.refl _ _).alloc (Nat.le_refl _) _).alloc (by simp) _
 have hr1:W.heap[w.heap.size]? = some (.cells #[.int .i64 0,.int .i64 0,.slice none 0 0,.slice none 0 0] 30 (0,0)):=by
  rw[hW];exact (heap_alloc_old _ _ (by rw[hs1];omega)).trans (heap_alloc_new _ _)
 have hr2:W.heap[w.heap.size+1]? = some (.cells #[.int .i64 0,.int .i64 0] 32 (0,0)):=by
  rw[hW,<-hs1];exact heap_alloc_new _ _
 have Dx:W.heap.size=w.heap.size+2:=by rw[hW];simp
 have HW:=(show Hid _ from hW);have cZ:=(show Hid _ from hbW);have HR1:=(show Hid _ from And.intro hr1 hr2);have HRZ:Hid (tX w W):=⟨hr1,hr2⟩;have HZ:Hid (∀ (Y:World) (C A:Int),Nt w Y C A->jN f s rows=C/\sG f s rows=A->C≠0->∀ (a:Act),a.tmps[6]?.getD undef = .pointer (some ⟨w.heap.size,0,none⟩)->a.tmps[7]?.getD undef = .pointer (some ⟨w.heap.size+1,0,none⟩)->a.defers = []->bodyPost Tryz.prog Tryz.f17 (fun e w'=>RY w w' f s rows e) Exit.ret a Y):=fun Y C A h hC hne a t6 t7 hd=>by
  have z0:Y.cell? ⟨w.heap.size,0,none⟩=some (.int .i64 0):=ak h.r1 0;have z1:Y.cell? ⟨w.heap.size,1,none⟩=some (.int .i64 0):=ak h.r1 1;have z2:Y.cell? ⟨w.heap.size,2,none⟩=some (.slice none 0 0):=ak h.r1 2;have z3:Y.cell? ⟨w.heap.size,3,none⟩=some (.slice none 0 0):=ak h.r1 3;have v0:Y.cell? ⟨w.heap.size+1,0,none⟩=some (.int .i64 C):=ak h.r2 0;have v1:Y.cell? ⟨w.heap.size+1,1,none⟩=some (.int .i64 A):=ak h.r2 1;refine bodyPost_ret (v:=.tuple #[.agg #[.int .i64 0,.int .i64 0,.slice none 0 0,.slice none 0 0],.agg #[.int .i64 C,.int .i64 A]]) (by simp[results,Tryz.results17,go_sem,z0,z1,z2,z3,v0,v1,t6,t7]) hd ⟨h.aM,.inr ⟨by rw[hC.1];exact hne,by rw[hC.1,hC.2]⟩⟩
 have xZ:Hid (∀ (Y:World) (v1 v2:Value),Y.heap[w.heap.size]? = some (.cells #[.int .i64 f,.int .i64 s,v1,v2] 30 (0,0))->Y.heap[w.heap.size+1]? = some (.cells #[.int .i64 0,.int .i64 (-1)] 32 (0,0))->Below w.heap.size w Y->jN f s rows=0->jE Y w.heap.size (full rows) v1 v2->∀ (a:Act),a.tmps[6]?.getD undef = .pointer (some ⟨w.heap.size,0,none⟩)->a.tmps[7]?.getD undef = .pointer (some ⟨w.heap.size+1,0,none⟩)->a.defers = []->bodyPost Tryz.prog Tryz.f17 (fun e w'=>RY w w' f s rows e) Exit.ret a Y):=fun Y v1 v2 h1 h2 hb hC hm a t6 t7 hd=>by
  have z0:Y.cell? ⟨w.heap.size,0,none⟩=some (.int .i64 f):=ak h1 0;have z1:Y.cell? ⟨w.heap.size,1,none⟩=some (.int .i64 s):=ak h1 1;have z2:Y.cell? ⟨w.heap.size,2,none⟩=some v1:=ak h1 2;have z3:Y.cell? ⟨w.heap.size,3,none⟩=some v2:=ak h1 3;have y0:Y.cell? ⟨w.heap.size+1,0,none⟩=some (.int .i64 0):=ak h2 0;have y1:Y.cell? ⟨w.heap.size+1,1,none⟩=some (.int .i64 (-1)):=ak h2 1;refine bodyPost_ret (v:=.tuple #[.agg #[.int .i64 f,.int .i64 s,v1,v2],.agg #[.int .i64 0,.int .i64 (-1)]]) (by simp[results,Tryz.results17,go_sem,z0,z1,z2,z3,y0,y1,t6,t7]) hd ⟨hb,.inl ⟨hC,v1,v2,rfl,hm⟩⟩
 have wY:=(show Hid _ from CB W f s);have hE0:=Gn f s;have gY:Hid (∀ (c:Int) (z:World),Calls Tryz.prog 33 #[.int .i64 c] z fun e w'=>e = .returned (.agg #[.int .i64 c,.int .i64 (-1)])/\Below z.heap.size z w'):=fun c z=>rO c z
 obtain⟨n,hnn⟩:∃ n,n=rows.length:=⟨_,rfl⟩;have HN:=(show Hid _ from hnn.symm);obtain⟨a1,c1,a2,c2,hsb,hnm,hpt⟩:=hR.ex;rw[<-hnn] at hn hsb;have q9:Hid (∀ i (hi:i<rows.length),∃ g,a1=some ⟨g,0,none⟩/\∀ z,Below w.heap.size w z->z.cell? ⟨g,i,none⟩=some (encStr rows[i].1)):=fun i hi=>by
  obtain⟨g,e,hc⟩:=hnm i hi;exact⟨g,e,fun z hz=>(hz.cell (p:=⟨g,i,none⟩) (World.block_lt_of_cell? w ⟨g,i,none⟩ hc)).trans hc⟩
 have Yo:Hid (∀ i (hi:i<rows.length),∃ g,a2=some ⟨g,0,none⟩/\∃ A C,∀ z,Below w.heap.size w z->z.cell? ⟨g,i,none⟩=some (.slice A rows[i].2.length C)/\iM z A rows[i].2):=fun i hi=>by
  obtain⟨g,e,A,C,hc,hp⟩:=hpt i hi;exact⟨g,e,A,C,fun z hz=>⟨(hz.cell (p:=⟨g,i,none⟩) (World.block_lt_of_cell? w ⟨g,i,none⟩ hc)).trans hc,hp.below hz⟩⟩
 have qF:Hid (∀ z,Below w.heap.size w z->z.cell? ⟨sb,0,none⟩=some (.slice a1 n c1)/\z.cell? ⟨sb,1,none⟩=some (.slice a2 n c2)):=fun z hz=>by
  have:=(hz.block _ (aH hsb)).trans hsb;exact⟨ak this 0,ak this 1⟩
 have x0:=(qF.out W hbW).1;have f1:∀ q,W.frozen? ⟨w.heap.size,q,none⟩=false:=fun q=>by simp[World.frozen?,hr1]
 have f2:∀ q,W.frozen? ⟨w.heap.size+1,q,none⟩=false:=fun q=>by simp[World.frozen?,hr2]
 obtain⟨ev,hev⟩:∃ ev,ev=gI f s:=⟨_,rfl⟩;rw[<-hev] at wY hE0;have PX:=(show Hid _ from hev);clear hR hin hW hbW hr1 hr2 hs1 hnn hsb hnm hpt hev;go_enter Tryz.func17,Tryz.ntmps17;go_upto_region 1 with fail;rw[<-HW.out];go_wp2_with fail;refine Calls.mono wY.out ?_;rintro e w1 ⟨rfl,hw1⟩;have bA:=hw1;subst bA;clear wY hw1;have HBAD:Hid (gI f s≠0\/60<rows.length->jN f s rows=2/\sG f s rows = -1):=fun h=>Bz h
 by_cases he:0<ev
 ·have d1:decide (0<ev)=true:=decide_eq_true he;have HM:Hid (jN f s rows=2/\sG f s rows = -1):=HBAD.out (.inl (by rw[<-PX.out];omega));clear HBAD x0 he hE0;go_wp2_with fail;refine Calls.mono (gY.out 2 w1) ?_;rintro e w2 ⟨rfl,hb2⟩;have hz2:=HRZ.out.below hb2;have jO:=(show Hid _ from hz2.set (cZ.out.trans (hb2.mono cZ.out.size)) 2 (-1));obtain⟨p0,p1,p2,p3,p4,p5,p6,p7⟩:=hz2.all;clear hb2 hz2 f1 f2;dsimp only
  go_wp2;exact HZ.out _ 2 (-1) jO.out HM.out (by decide) _ rfl rfl rfl
 have d1:decide (0<ev)=false:=decide_eq_false he;by_cases Fw:60<n
 ·have d2:decide ((60:Int)<(n:Int))=true:=decide_eq_true (by omega);have HM:Hid (jN f s rows=2/\sG f s rows = -1):=HBAD.out (.inr (by rw[HN.out];exact Fw));clear HBAD he hE0 Fw;go_wp2_with fail;refine Calls.mono (gY.out 2 w1) ?_;rintro e w2 ⟨rfl,hb2⟩;have hz2:=HRZ.out.below hb2;have jO:=(show Hid _ from hz2.set (cZ.out.trans (hb2.mono cZ.out.size)) 2 (-1));obtain⟨p0,p1,p2,p3,p4,p5,p6,p7⟩:=hz2.all;clear hb2 hz2 f1 f2;dsimp only
  go_wp2;exact HZ.out _ 2 (-1) jO.out HM.out (by decide) _ rfl rfl rfl
 have d2:decide ((60:Int)<(n:Int))=false:=decide_eq_false (by omega);have hBD:gI f s=0:=by rw[<-PX.out];omega
 have HG:Hid (¬ (gI f s≠0\/60<rows.length)):=by
  rw[HN.out];rintro (h | h)
  ·exact h hBD
  ·exact Fw h
 have DJ:n<=60:=by omega
 have R3:=(show Hid _ from hBD);clear HBAD he hE0 Fw hBD hn;go_upto_region 5 with fail;obtain⟨W3,hW3⟩:∃ W3,W3=w1.alloc (.cells #[.int .i64 f,.int .i64 s,.slice none 0 0,.slice none 0 0] 30):=⟨_,rfl⟩;have hb3:Below w1.heap.size w1 W3:=by rw[hW3];exact (Below.refl _ _).alloc (Nat.le_refl _) _
 have hx3:W3.heap[w.heap.size+2]? = some (.cells #[.int .i64 f,.int .i64 s,.slice none 0 0,.slice none 0 0] 30 (0,0)):=by rw[hW3,<-Dx];exact heap_alloc_new _ _
 have H0:Hid (qL w W3 f s rows 0 (.slice none 0 0) (.slice none 0 0)):=
  ⟨fun j h=>absurd h (Nat.not_lt_zero _),(hb3.block _ (aH HR1.out.1)).trans HR1.out.1,(hb3.block _ (aH HR1.out.2)).trans HR1.out.2,⟨hx3,Nat.lt_succ_self _,⟨rfl,.inl ⟨rfl,rfl⟩⟩,⟨rfl,.inl ⟨rfl,rfl⟩⟩,fun g e=>by simp[Value.ownBlock] at e⟩,cZ.out.trans (hb3.mono cZ.out.size),aH hx3⟩
 rw[<-hW3];clear hb3 hx3 hW3 x0 f1 f2 d1 d2 Dx;go_wp2_with fail;go_loopw [10] (fun i wr=>∃ (k:Nat) (u1 u2:Value),k<=n/\i = .int .i64 (k:Int)/\qL w wr f s rows k u1 u2) (fun i _=>n-(intOf i).toNat);case atStart=>exact⟨0,_,_,Nat.zero_le _,rfl,H0.out⟩
 case round=>
  obtain⟨k,u1,u2,hk,rfl,hto⟩:=hrel;have DY:=(show Hid _ from hto);have bK:=(show Hid _ from hto.aM);have hsz:=hto.jH;obtain⟨y0,y1⟩:=qF.out wr hto.aM;clear hto;by_cases hkn:k<n
  ·have hkr:k<rows.length:=by rw[HN.out];exact hkn
   obtain⟨g1,q1,hg1⟩:=q9.out k hkr;subst q1;obtain⟨g2,q2,A,C,hg2⟩:=Yo.out k hkr;subst q2;obtain⟨nm,hnm⟩:∃ nm:ByteArray,nm=txt rows[k].1:=⟨_,rfl⟩;obtain⟨Ni,hl1,hl2⟩:=jq.out _ (List.getElem_mem hkr);have x4:wr.cell? ⟨g1,k,none⟩=some (.string nm):=by rw[hnm];exact hg1 wr bK.out
   have k0:(0:Int)<=(k:Int):=by omega
   have k1:(k:Int)<(n:Int):=by omega
   have uy:=(show Hid _ from Nr wr nm (by rw[hnm,bM];omega));have F9:nm.data.toList=rows[k].1:=by rw[hnm];rfl
   rw[F9] at uy;obtain⟨RC,Fx⟩:∃ RC,RC=gV rows[k].1:=⟨_,rfl⟩;obtain⟨RA,UA⟩:∃ RA,RA=zk rows[k].1:=⟨_,rfl⟩;rw[<-Fx,<-UA] at uy;have hR0:0<=RC:=by rw[Fx];exact yG _
   have J3:=(show Hid _ from Fx);have zS:=(show Hid _ from And.intro hnm F9);have Yp:=(show Hid _ from And.intro Ni (And.intro hl1 hl2));clear Fx UA Ni hl1 hl2 hnm F9;go_wp2_with fail;refine Calls.mono uy.out ?_;rintro e w2 ⟨hb2,x,rfl⟩;have HT2:=(show Hid _ from DY.out.below hb2);have hs2:=HT2.out.jH;clear uy hb2 y0 y1 x4;dsimp only
   go_upto_region 9 with fail;obtain⟨W4,qZ⟩:∃ W4,W4=w2.alloc (.cells #[.int .i64 RC,.int .i64 RA] 32):=⟨_,rfl⟩;have hb4:Below w2.heap.size w2 W4:=by rw[qZ];exact (Below.refl _ _).alloc (Nat.le_refl _) _
   have PY:W4.heap[w2.heap.size]? = some (.cells #[.int .i64 RC,.int .i64 RA] 32 (0,0)):=by rw[qZ];exact heap_alloc_new _ _
   rw[<-qZ];clear qZ;have Af:=(show Hid _ from HT2.out.below hb4);have HF4:=(show Hid _ from PY);obtain⟨y0,y1⟩:=qF.out W4 Af.out.aM;have x4:W4.cell? ⟨g1,k,none⟩=some (.string nm):=by rw[zS.out.1];exact hg1 W4 Af.out.aM
   have v4:W4.cell? ⟨w2.heap.size,0,none⟩=some (.int .i64 RC):=ak PY 0;have HPV:Hid (0<k->∀ z,Below w.heap.size w z->z.cell? ⟨g1,k-1,none⟩=some (encStr (prev (rows.map Prod.fst) k))):=fun hk0 z hz=>by
    obtain⟨g,e,h⟩:=q9.out (k-1) (by omega);simp at e;subst e;rw[h z hz];have:prev (rows.map Prod.fst) k=rows[k-1].1:=by
     unfold prev;rw[if_neg (by omega)];exact (l9 (by omega)).1
    rw[this]
   have Nu:Hid (gG (prev (rows.map Prod.fst) k) rows[k].1=if RC≠0 then RC else if prev (rows.map Prod.fst) k<rows[k].1 then 0 else 3):=by
    rw[J3.out];rfl
   have JX:Hid (k=0->RC=0->prev (rows.map Prod.fst) k<rows[k].1):=fun h0 hr=>by
    unfold prev;rw[if_pos h0];exact Dj (by rw[<-J3.out];exact hr)
   clear PY hb4;go_cut [76] from 32 to 145 (fun s76 wz=>∃ (b:Bool) (q:Nat),s76 = .bool b/\wz=W4.drewN q/\Ik b RC (prev (rows.map Prod.fst) k) rows[k].1);case first=>
    by_cases hr:RC=0
    ·subst hr;by_cases hk0:k=0
     ·subst hk0;have HB:Hid (Ik false 0 (prev (rows.map Prod.fst) 0) rows[0].1):=⟨fun h=>(by cases h),fun h=>absurd (JX.out rfl rfl) h.2⟩;go_quiet (fail);go_wp2_with fail;go_meet;case rel=>exact⟨false,_,rfl,rfl,HB.out⟩
     ·obtain⟨j,rfl⟩:∃ j,k=j+1:=⟨k-1,by omega⟩;obtain⟨pv,hpv⟩:∃ pv:ByteArray,pv=txt (prev (rows.map Prod.fst) (j+1)):=⟨_,rfl⟩;have x5:W4.cell? ⟨g1,j,none⟩=some (.string pv):=by rw[hpv];exact HPV.out (by omega) W4 Af.out.aM
      have hlt:=Ak nm pv;have heq:=Ia nm pv;rw[zS.out.2,show pv.data.toList=prev (rows.map Prod.fst) (j+1) by rw[hpv];rfl] at hlt heq;have i1:(0:Int)<=(j:Int)+1-1:=by omega
      have i2:(j:Int)+1-1<(n:Int):=by omega
      have i3:(0:Int)<(j:Int)+1:=by omega
      have nH:=(show Hid _ from hlt);have qQ:=(show Hid _ from heq);clear hlt heq hpv hk0;by_cases h1:prev (rows.map Prod.fst) (j+1)<rows[j+1].1
      ·have hl:Op.bytesLess nm.toList pv.toList=false:=by rw[nH.out];exact decide_eq_false (fun h=>absurd (List.lt_trans h h1) (List.lt_irrefl _))
       have hl2:(nm.toList==pv.toList)=false:=by rw[qQ.out];exact decide_eq_false (fun h=>by rw[h] at h1;exact List.lt_irrefl _ h1)
       have HB:Hid (Ik false 0 (prev (rows.map Prod.fst) (j+1)) rows[j+1].1):=⟨fun h=>(by cases h),fun h=>absurd h1 h.2⟩;clear h1 nH qQ;go_quiet (fail);go_wp2_with fail;go_meet;case rel=>exact⟨false,_,rfl,rfl,HB.out⟩
      ·have HB:Hid (Ik true 0 (prev (rows.map Prod.fst) (j+1)) rows[j+1].1):=⟨fun _=>⟨rfl,h1⟩,fun _=>rfl⟩;by_cases h2:rows[j+1].1<prev (rows.map Prod.fst) (j+1)
       ·have hl:Op.bytesLess nm.toList pv.toList=true:=by rw[nH.out];exact decide_eq_true h2
        clear h1 h2 nH qQ;go_quiet (fail);go_wp2_with fail;go_meet;case rel=>exact⟨true,_,rfl,rfl,HB.out⟩
       ·have hl:Op.bytesLess nm.toList pv.toList=false:=by rw[nH.out];exact decide_eq_false h2
        have hl2:(nm.toList==pv.toList)=true:=by rw[qQ.out];exact decide_eq_true (List.le_antisymm (List.not_lt.1 h1) (List.not_lt.1 h2))
        clear h1 h2 nH qQ;go_quiet (fail);go_wp2_with fail;go_meet;case rel=>exact⟨true,_,rfl,rfl,HB.out⟩
    ·have d3:(RC==0)=false:=by simpa using hr
     have HB:Hid (Ik false RC (prev (rows.map Prod.fst) k) rows[k].1):=⟨fun h=>(by cases h),fun h=>absurd h.1 hr⟩;clear hr;go_quiet (fail);go_wp2_with fail;go_meet;case rel=>exact⟨false,_,rfl,rfl,HB.out⟩
   case rest=>
    obtain⟨b,q,rfl,hwc,hnb⟩:=hcut;have PZ:=(show Hid _ from hnb);have P5:Below W4.heap.size W4 wc:=by rw[hwc];exact below_draws (Below.refl _ _) q
    have wZ:=(show Hid _ from Af.out.below P5);have hfc:=(P5.block _ (aH HF4.out)).trans HF4.out;have P6:=(show Hid _ from hfc);have hrow:rowAt f s rows k=lI f s (prev (rows.map Prod.fst) k) rows[k].1 rows[k].2:=by
     unfold rowAt;rw[(l9 hkr).1,(l9 hkr).2]
    have jI:=(show Hid _ from hrow);have HAT:Hid (∀ C:Int,rowAt f s rows k=C->C≠0->jN f s rows=C/\sG f s rows=(k:Int)):=fun C hC hne=>by
     obtain⟨h1,h2⟩:=X6 HG.out hkr DY.out.ok (by rw[hC];exact hne);exact⟨h1.trans hC,h2⟩
    have v5:wc.cell? ⟨w2.heap.size,0,none⟩=some (.int .i64 RC):=ak hfc 0;have v6:wc.drew.cell? ⟨w2.heap.size,0,none⟩=some (.int .i64 RC):=v5;clear hnb hwc P5 hfc hrow y0 y1 x4 v4;by_cases hr:RC=0
    ·subst hr;have k3:wc.cell? ⟨w2.heap.size,1,none⟩=some (.int .i64 RA):=ak P6.out 1;have kf:∀ q,wc.frozen? ⟨w2.heap.size,q,none⟩=false:=fun q=>by simp[World.frozen?,P6.out]
     by_cases hb:b=true
     ·have hn0:=PZ.out.1 hb;subst hb;have hnc:gG (prev (rows.map Prod.fst) k) rows[k].1=3:=by rw[Nu.out,if_neg (fun h=>h rfl),if_neg hn0.2]
      have HM:=(show Hid _ from HAT.out 3 (by rw[jI.out];unfold lI;rw[hnc,if_pos (by decide)]) (by decide));clear hn0 hnc;go_wp2_with fail;refine Calls.mono (gY.out 3 wc) ?_;rintro e w5 ⟨rfl,hb5⟩;have Aq:=(show Hid _ from wZ.out.below hb5);have DZ:=(hb5.block _ (aH P6.out)).trans P6.out;have m0:w5.cell? ⟨w2.heap.size,0,none⟩=some (.int .i64 0):=ak DZ 0;have m1:w5.cell? ⟨w2.heap.size,1,none⟩=some (.int .i64 RA):=ak DZ 1;have mf:∀ q,w5.frozen? ⟨w2.heap.size,q,none⟩=false:=fun q=>by simp[World.frozen?,DZ]
      have HF5:=(show Hid _ from DZ);clear hb5 DZ v5 v6 k3 kf;dsimp only
      go_upto_region 11 with fail;have mW:Hid ((3:Int)≠0):=(by decide:(3:Int)≠0);obtain⟨W6,Il⟩:∃ W6,W6=(w5.setCell ⟨w2.heap.size,0,none⟩ (.int .i64 3)).setCell ⟨w2.heap.size,1,none⟩ (.int .i64 (-1)):=⟨_,rfl⟩;have hx6:W6.heap[w2.heap.size]? = some (.cells #[.int .i64 3,.int .i64 (-1)] 32 (0,0)):=by rw[Il];exact set2 HF5.out _ _
      have hb6:Below w2.heap.size w5 W6:=by rw[Il];exact ((Below.refl _ _).setCell (p:=⟨w2.heap.size,0,none⟩) (Nat.le_refl _) _).setCell (p:=⟨w2.heap.size,1,none⟩) (Nat.le_refl _) _
      rw[<-Il];have qp:Hid (qL w W6 f s rows k u1 u2):=Aq.out.over hs2 HT2.out hb6;have HX6:=(show Hid _ from hx6);have n0:W6.cell? ⟨w2.heap.size,0,none⟩=some (.int .i64 3):=ak hx6 0;have n1:W6.drew.cell? ⟨w2.heap.size,0,none⟩=some (.int .i64 3):=n0;clear Il hx6 hb6 m0 m1 mf;obtain⟨p0,p1,p2,p3,p4,p5,p6,p7⟩:=qp.out.res.all;obtain⟨o0,o1,o2,o3,o4,o5,o6,o7⟩:=qp.out.res.drew.all;have jO:=(show Hid _ from qp.out.res.set qp.out.aM 3 k);go_wp2_with fail;go_region;all_goals (go_wp2;exact HZ.out _ 3 k jO.out.drew HM.out mW.out _ rfl rfl rfl)
     ·have hbf:b=false:=by simpa using hb
      subst hbf;have hlt:prev (rows.map Prod.fst) k<rows[k].1:=by
       apply Decidable.not_not.1;intro h;exact hb (PZ.out.2 ⟨rfl,h⟩)
      have hnc:gG (prev (rows.map Prod.fst) k) rows[k].1=0:=by rw[Nu.out,if_neg (fun h=>h rfl),if_pos hlt]
      have HRW:Hid (rowAt f s rows k=if fG rows[k].2≠0 then fG rows[k].2 else if kF f s rows[k].2=true then 0 else 2):=by
       show _=_;rw[jI.out];unfold lI;rw[hnc,if_neg (fun h=>h rfl)]
      obtain⟨y0,y1⟩:=qF.out wc wZ.out.aM;obtain⟨x6,hpl⟩:=hg2 wc wZ.out.aM;obtain⟨nk,hnk⟩:∃ nk,nk=rows[k].2.length:=⟨_,rfl⟩;have MB:=(show Hid _ from acf wc A C rows[k].2 hpl Yp.out.1 Yp.out.2.2);obtain⟨PC,Yq⟩:∃ PC,PC=fG rows[k].2:=⟨_,rfl⟩;rw[<-hnk] at x6 MB;rw[<-Yq] at MB HRW;have Fg:0<=PC:=by rw[Yq];exact E5 _
      have zW:=(show Hid _ from And.intro Yq hnk);clear hb hlt hnc hpl Yq hnk;go_wp2_with fail;refine Calls.mono MB.out ?_;rintro e w5 ⟨PA,rfl,hb5⟩;have Aq:=(show Hid _ from wZ.out.below hb5);have DZ:=(hb5.block _ (aH P6.out)).trans P6.out;have m0:w5.cell? ⟨w2.heap.size,0,none⟩=some (.int .i64 0):=ak DZ 0;have m1:w5.cell? ⟨w2.heap.size,1,none⟩=some (.int .i64 RA):=ak DZ 1;have mf:∀ q,w5.frozen? ⟨w2.heap.size,q,none⟩=false:=fun q=>by simp[World.frozen?,DZ]
      have HF5:=(show Hid _ from DZ);clear hb5 DZ v5 v6 k3 kf MB y0 y1 x6;dsimp only
      go_upto_region 13 with fail;obtain⟨W6,Il⟩:∃ W6,W6=(w5.setCell ⟨w2.heap.size,0,none⟩ (.int .i64 PC)).setCell ⟨w2.heap.size,1,none⟩ (.int .i64 PA):=⟨_,rfl⟩;have hx6:W6.heap[w2.heap.size]? = some (.cells #[.int .i64 PC,.int .i64 PA] 32 (0,0)):=by rw[Il];exact set2 HF5.out _ _
      have hb6:Below w2.heap.size w5 W6:=by rw[Il];exact ((Below.refl _ _).setCell (p:=⟨w2.heap.size,0,none⟩) (Nat.le_refl _) _).setCell (p:=⟨w2.heap.size,1,none⟩) (Nat.le_refl _) _
      rw[<-Il];have qp:Hid (qL w W6 f s rows k u1 u2):=Aq.out.over hs2 HT2.out hb6;have HX6:=(show Hid _ from hx6);have n0:W6.cell? ⟨w2.heap.size,0,none⟩=some (.int .i64 PC):=ak hx6 0;have n1:W6.drew.cell? ⟨w2.heap.size,0,none⟩=some (.int .i64 PC):=n0;clear Il hx6 hb6 m0 m1 mf;by_cases hp:0<PC
      ·have hpos:decide (0<PC)=true:=decide_eq_true hp;have mW:Hid (PC≠0):=fun h=>(by omega)
       have HM:=(show Hid _ from HAT.out PC (by rw[HRW.out,if_pos mW.out]) mW.out);clear hp;obtain⟨p0,p1,p2,p3,p4,p5,p6,p7⟩:=qp.out.res.all;obtain⟨o0,o1,o2,o3,o4,o5,o6,o7⟩:=qp.out.res.drew.all;have jO:=(show Hid _ from qp.out.res.set qp.out.aM PC k);go_wp2_with fail;go_region;all_goals (go_wp2;exact HZ.out _ PC k jO.out.drew HM.out mW.out _ rfl rfl rfl)
      ·obtain rfl:PC=0:=by omega
       clear hp;obtain⟨y0,y1⟩:=qF.out W6 qp.out.aM;obtain⟨x6,hpl⟩:=hg2 W6 qp.out.aM;rw[<-zW.out.2] at x6;have HIS:=(show Hid _ from yh W6 A C rows[k].2 f s R3.out hpl (by have:=Yp.out.2.2;omega));rw[<-zW.out.2] at HIS;obtain⟨ib,hib⟩:∃ ib,ib=kF f s rows[k].2:=⟨_,rfl⟩;rw[<-hib] at HIS;have DU:=(show Hid _ from hib);clear hpl hib;go_wp2_with fail;refine Calls.mono HIS.out ?_;rintro e w7 ⟨rfl,hw7⟩;have FR:=hw7;subst FR;clear hw7 HIS;cases ib with
       | false=>
        have mW:Hid ((2:Int)≠0):=(by decide:(2:Int)≠0);have HM:=(show Hid _ from HAT.out 2 (by rw[HRW.out,if_neg (fun h=>h rfl),if_neg (by rw[<-DU.out];decide)]) (by decide));obtain⟨p0,p1,p2,p3,p4,p5,p6,p7⟩:=qp.out.res.all;have jO:=(show Hid _ from qp.out.res.set qp.out.aM 2 k);go_wp2;exact HZ.out _ 2 k jO.out HM.out mW.out _ rfl rfl rfl
       | true=>
        have dH:Hid (∀ j,j<k+1->rowAt f s rows j=0):=fun j hj=>by
         rcases Nat.lt_or_ge j k with h | h
         ·exact qp.out.ok j h
         ·obtain rfl:j=k:=by omega
          rw[HRW.out,if_neg (fun h=>h rfl),if_pos DU.out.symm]
        have mh:Hid (full (rows.take (k+1))=if 0<rows[k].2.length then full (rows.take k) ++ [rows[k]] else full (rows.take k)):=by
         show _=_;rw[List.take_succ_eq_append_getElem hkr,JM]
        by_cases hz:0<nk
        ·have d5:decide ((0:Int)<(nk:Int))=true:=decide_eq_true (by omega);have x7:w7.cell? ⟨g1,k,none⟩=some (.string nm):=by rw[zS.out.1];exact hg1 w7 qp.out.aM
         have xd7:w7.drew.cell? ⟨g1,k,none⟩=some (.string nm):=x7;have yd0:w7.drew.cell? ⟨sb,0,none⟩=some (.slice (some ⟨g1,0,none⟩) n c1):=y0;have J6:=qp.out.two;obtain⟨nf,hnf⟩:∃ nf,nf=(full (rows.take k)).length:=⟨_,rfl⟩;have hfk:nf<=60:=by
          rw[hnf];refine Nat.le_trans (List.length_filter_le ..) ?_;rw[List.length_take];omega
         obtain⟨b1,e1,hu1⟩:=aW J6.lZ;obtain⟨b2,e2,hu2⟩:=aW J6.mO;rw[List.length_map,<-hnf] at hu1;rw[rW,<-hnf] at hu2;subst hu1 hu2;have hs6:=qp.out.jH;have sS:Hid (w7.ownsRow (w.heap.size+3) 9 1 (.slice b1 nf e1) nf (((full (rows.take k)).map Prod.fst).map encStr)):=by have:=J6.lZ;rw[List.length_map,<-hnf] at this;exact this
         have UD:=(show Hid _ from hnf);have s0:w7.cell? ⟨w.heap.size+2,2,none⟩=some (.slice b1 nf e1):=ak J6.blk 2;have sd0:w7.drew.cell? ⟨w.heap.size+2,2,none⟩=some (.slice b1 nf e1):=s0;have sa0:(w7.drew.alloc (.cells #[.string nm] 9)).cell? ⟨w.heap.size+2,2,none⟩=some (.slice b1 nf e1):=ak ((heap_alloc_old _ _ (aH J6.blk)).trans J6.blk) 2;have sb0:(w7.alloc (.cells #[.string nm] 9)).cell? ⟨w.heap.size+2,2,none⟩=some (.slice b1 nf e1):=sa0;obtain⟨iS,hI,hS0,hS1,hS2⟩:=info_parts Tryz.infoStr3;have Am:=(show Hid _ from hI);clear hI J6 hnf;go_upto_region 19 with fail;go_cut [10] from 32 to 145 (fun v10 wz=>v10 = .int .i64 (k:Int)/\∃ g8 kI,Below (w.heap.size+2) w7 wz/\w.heap.size+3<=wz.heap.size/\yN wz (w.heap.size+3) (w.heap.size+2) f s (.slice (some ⟨g8,0,none⟩) (nf+1) kI) (.slice b2 nf e2) ((full (rows.take k)).map Prod.fst ++ [rows[k].1]) (tN (full (rows.take k))));case first=>
          go_region_law (refine mF w7 (by rfl) _ _ 23 (by rfl) (w.heap.size+3) 9 iS (.string ⟨#[]⟩) 16 Tryz.underlying23 Am.out hS0 hS1 hS2 (by rfl) (.slice b1 nf e1) nf (((full (rows.take k)).map Prod.fst).map encStr) (by rfl) sS.out (by repeat (first | exact Below.refl _ _ | with_reducible apply aU | with_reducible apply dW)) _ _ _ _ (by rfl) (by exact heap_alloc_new _ _) (by rfl) (by omega) (by decide) hs6 ?_;intro g8 kI w8 ni lK jY;have h8:=qp.out.two.first (x:=rows[k].1) hs6 jY (by rw[List.length_map,<-UD.out];rw[zS.out.1] at ni;exact ni) lK;rw[List.length_map,<-UD.out] at h8;have q0:w8.cell? ⟨w.heap.size+2,2,none⟩=some (.slice b1 nf e1):=ak h8.1 2;have z0:w8.frozen? ⟨w.heap.size+2,2,none⟩=false:=(by simp[World.frozen?,h8.1]);have H8:=(show Hid _ from h8.2);have UE:Hid (w.heap.size+3<=w8.heap.size):=(Nat.le_trans hs6 (Nat.le_trans jY.size lK.size));clear ni lK jY h8);all_goals (
           have jr:Below (w.heap.size+2) w7 (w8.setCell ⟨w.heap.size+2,2,none⟩ (.slice (some ⟨g8,0,none⟩) (nf+1) kI)):=(H8.out.1.mono (Nat.le_succ _)).setCell (p:=⟨w.heap.size+2,2,none⟩) (Nat.le_refl _) _
           have P7:w.heap.size+3<=(w8.setCell ⟨w.heap.size+2,2,none⟩ (.slice (some ⟨g8,0,none⟩) (nf+1) kI)).heap.size:=by rw[World.size_setCell];exact UE.out
           have Nv:=(show Hid _ from And.intro jr (And.intro P7 H8.out.2))
           clear jr P7 H8 UE q0 z0
           go_wp2_with fail
           go_meet
           case rel=>exact⟨rfl,g8,kI,Nv.out⟩)
         case rest=>
          obtain⟨rfl,g8,kI,jr,P7,Gj⟩:=hcut;have Nw:=(show Hid _ from Gj);have Mj:=(show Hid _ from jr);have Ga:=(show Hid _ from qp.out.aM.trans (jr.mono (by omega)));obtain⟨y0,y1⟩:=qF.out wc Ga.out;obtain⟨x6,hpl⟩:=hg2 wc Ga.out;rw[<-zW.out.2] at x6;have yd1:wc.drew.cell? ⟨sb,1,none⟩=some (.slice (some ⟨g2,0,none⟩) n c2):=y1;have xd6:wc.drew.cell? ⟨g2,k,none⟩=some (.slice A nk C):=x6;obtain⟨ck,hck⟩:∃ ck:ByteArray,ck=txt (iL rows[k].2):=⟨_,rfl⟩;have UF:Hid (∀ z,Below wc.heap.size wc z->Calls Tryz.prog 52 #[.slice A nk C] z fun e w'=>e = .returned (.string ck)/\Below wc.heap.size wc w'):=fun z hz=>by
           have:=acg z A C rows[k].2 (hpl.below hz) Yp.out.1 zW.out.1.symm;rw[<-zW.out.2] at this;refine this.mono ?_;rintro e w' ⟨rfl,hb⟩;exact⟨by rw[hck];rfl,hz.trans (hb.mono hz.size)⟩
          have jO:Hid (wc.ownsRow (w.heap.size+3) 9 1 (.slice b2 nf e2) nf ((tN (full (rows.take k))).map encStr)):=by have:=Nw.out.mO;rw[rW,<-UD.out] at this;exact this
          have t3:wc.cell? ⟨w.heap.size+2,3,none⟩=some (.slice b2 nf e2):=ak Nw.out.blk 3;have td3:wc.drew.cell? ⟨w.heap.size+2,3,none⟩=some (.slice b2 nf e2):=t3;have HTZ:Hid (∀ z,Below wc.heap.size wc z->z.cell? ⟨w.heap.size+2,3,none⟩=some (.slice b2 nf e2)):=fun z hz=>ak ((hz.block _ (aH Nw.out.blk)).trans Nw.out.blk) 3
          have nM:=(show Hid _ from hck);clear x7 xd7 yd0 s0 sd0 sa0 sb0 Gj jr hpl hck;go_wp2_with fail;have Fy:Hid (∀ w',Below wc.heap.size wc w'->w'.cell? ⟨w.heap.size+2,3,none⟩=some (.slice b2 nf e2)/\w'.cell? ⟨sb,1,none⟩=some (.slice (some ⟨g2,0,none⟩) n c2)/\w'.cell? ⟨g2,k,none⟩=some (.slice A nk C)):=fun z hz=>⟨HTZ.out z hz,(qF.out z (Ga.out.trans (hz.mono Ga.out.size))).2,by have:=(hg2 z (Ga.out.trans (hz.mono Ga.out.size))).1;rw[<-zW.out.2] at this;exact this⟩
          refine mM (S:=fun w'=>w'.cell? ⟨w.heap.size+2,3,none⟩=some (.slice b2 nf e2)/\w'.cell? ⟨sb,1,none⟩=some (.slice (some ⟨g2,0,none⟩) n c2)/\w'.cell? ⟨g2,k,none⟩=some (.slice A nk C)) (by kernel_rfl) 13 ⟨td3,yd1,xd6⟩ (fun hHeld=>?_);refine bW (i:=0) (v:=.pointer (some ⟨w.heap.size+2,3,none⟩)) rfl (by kernel_rfl) (by kernel_rfl) (by kernel_rfl) (by kernel_rfl) (fun _ _ _ h=>h) (Or.inl ⟨by rfl,?_⟩) (fun _=>hHeld) ?_
          ·intro w _;go_simp
          try simp only[Act.put]
          refine gW (i:=1) (v:=.slice b2 nf e2) rfl (by kernel_rfl) (by kernel_rfl) (by kernel_rfl) (by kernel_rfl) (by kernel_rfl) (by kernel_rfl) (fun _ _ _ h=>h) (Or.inl ⟨by rfl,?_⟩) hHeld ?_
          ·intro w hSw;obtain⟨wo,wu,wB⟩:=hSw;go_simp
          try simp only[Act.put]
          refine bW (i:=2) (v:=.pointer (some ⟨sb,0,none⟩)) rfl (by kernel_rfl) (by kernel_rfl) (by kernel_rfl) (by kernel_rfl) (fun _ _ _ h=>h) (Or.inl ⟨by rfl,?_⟩) (fun _=>hHeld) ?_
          ·intro w _;go_simp
          try simp only[Act.put]
          refine bW (i:=3) (v:=.pointer (some ⟨sb,0,none⟩)) rfl (by kernel_rfl) (by kernel_rfl) (by kernel_rfl) (by kernel_rfl) (fun _ _ _ h=>h) (Or.inl ⟨by rfl,?_⟩) (fun _=>hHeld) ?_
          ·intro w _;go_simp
          try simp only[Act.put]
          refine bW (i:=4) (v:=.pointer (some ⟨sb,1,none⟩)) rfl (by kernel_rfl) (by kernel_rfl) (by kernel_rfl) (by kernel_rfl) (fun _ _ _ h=>h) (Or.inl ⟨by rfl,?_⟩) (fun _=>hHeld) ?_
          ·intro w _;go_simp
          try simp only[Act.put]
          refine gW (i:=5) (v:=.slice (some ⟨g2,0,none⟩) n c2) rfl (by kernel_rfl) (by kernel_rfl) (by kernel_rfl) (by kernel_rfl) (by kernel_rfl) (by kernel_rfl) (fun _ _ _ h=>h) (Or.inl ⟨by rfl,?_⟩) hHeld ?_
          ·intro w hSw;obtain⟨wo,wu,wB⟩:=hSw;go_simp
          try simp only[Act.put]
          refine bW (i:=6) (v:=.int .i64 (k:Int)) rfl (by kernel_rfl) (by kernel_rfl) (by kernel_rfl) (by kernel_rfl) (fun _ _ _ h=>h) (Or.inl ⟨by rfl,?_⟩) (fun _=>hHeld) ?_
          ·intro w _;go_simp
          try simp only[Act.put]
          refine bW (i:=7) (v:=.pointer (some ⟨g2,k,none⟩)) rfl (by kernel_rfl) (by kernel_rfl) (by kernel_rfl) (by kernel_rfl) (fun _ _ _ h=>h) (Or.inl ⟨by rfl,?_⟩) (fun _=>hHeld) ?_
          ·intro w _;go_simp
          try simp only[Act.put]
          refine gW (i:=8) (v:=.slice A nk C) rfl (by kernel_rfl) (by kernel_rfl) (by kernel_rfl) (by kernel_rfl) (by kernel_rfl) (by kernel_rfl) (fun _ _ _ h=>h) (Or.inl ⟨by rfl,?_⟩) hHeld ?_
          ·intro w hSw;obtain⟨wo,wu,wB⟩:=hSw;go_simp
          try simp only[Act.put]
          refine aI (rs:=[9]) (by kernel_rfl) (by simp) ?_;refine aC.cons rfl (fun K hK=>?_) aC.nil;go_simp
          refine Calls.mono (UF.out _ (by repeat (first | exact Below.refl _ _ | assumption | with_reducible apply aU | with_reducible apply dW))) ?_;rintro e w10 ⟨rfl,wM⟩;dsimp only
          refine hK.out _ _ (Fy.out _ wM) ?_;clear hK K;try simp only[Act.put]
          refine aI (rs:=[10]) (by kernel_rfl) (by simp) ?_;refine aC.cons rfl (fun K hK=>?_) aC.nil;go_simp
          refine hK.out _ _ (Fy.out _ (aU wM _)) ?_;clear hK K;try simp only[Act.put]
          refine aI (rs:=[11]) (by kernel_rfl) (by simp) ?_;refine aC.cons rfl (fun K hK=>?_) aC.nil;refine mF wc (by rfl) _ _ 23 (by rfl) (w.heap.size+3) 9 iS (.string ⟨#[]⟩) 16 Tryz.underlying23 Am.out hS0 hS1 hS2 (by rfl) (.slice b2 nf e2) nf ((tN (full (rows.take k))).map encStr) (by rfl) jO.out (aU wM _) _ _ _ _ (by rfl) (by exact heap_alloc_new _ _) (by rfl) (by omega) (by decide) P7 ?_;intro g9 Ja w9 Ez WU D5;have h9:=Nw.out.second (x:=iL rows[k].2) P7 D5 (by rw[rW,<-UD.out];rw[nM.out] at Ez;exact Ez) WU;rw[rW,<-UD.out] at h9;have q0:w9.cell? ⟨w.heap.size+2,3,none⟩=some (.slice b2 nf e2):=ak h9.1 3;have z0:w9.frozen? ⟨w.heap.size+2,3,none⟩=false:=by simp[World.frozen?,h9.1]
          have R4:=Ga.out.trans (h9.2.1.mono (by omega));have H9S:Hid (w.heap.size+3<=w9.heap.size):=Nat.le_trans P7 (Nat.le_trans D5.size WU.size);have HS9:Hid (w9.cell? ⟨w.heap.size+2,3,none⟩=some (.slice b2 nf e2)/\w9.cell? ⟨sb,1,none⟩=some (.slice (some ⟨g2,0,none⟩) n c2)/\w9.cell? ⟨g2,k,none⟩=some (.slice A nk C)):=⟨q0,(qF.out w9 R4).2,by have:=(hg2 w9 R4).1;rw[<-zW.out.2] at this;exact this⟩;have fB:Hid (qL w (w9.setCell ⟨w.heap.size+2,3,none⟩ (.slice (some ⟨g9,0,none⟩) (nf+1) Ja)) f s rows (k+1) (.slice (some ⟨g8,0,none⟩) (nf+1) kI) (.slice (some ⟨g9,0,none⟩) (nf+1) Ja)):=by
           have nG:Below (w.heap.size+2) w7 w9:=Mj.out.trans (h9.2.1.mono (Nat.le_succ _));have e1:full (rows.take (k+1))=full (rows.take k) ++ [rows[k]]:=by rw[mh.out,if_pos (by rw[<-zW.out.2];exact hz)]
           have e2:(full (rows.take (k+1))).map Prod.fst=(full (rows.take k)).map Prod.fst ++ [rows[k].1]:=by rw[e1];simp
           have e3:tN (full (rows.take (k+1)))=tN (full (rows.take k)) ++ [iL rows[k].2]:=by rw[e1];simp[tN]
           refine⟨dH.out,?_,?_,by rw[e2,e3];exact h9.2.2,R4.setCell (p:=⟨w.heap.size+2,3,none⟩) (by show w.heap.size<=w.heap.size+2;omega) _,by rw[World.size_setCell];exact H9S.out⟩
           ·rw[Below.heap_setCell _ _ _ _ (by show w.heap.size≠w.heap.size+2;omega),nG.block _ (by omega)];exact qp.out.r1
           ·rw[Below.heap_setCell _ _ _ _ (by show w.heap.size+1≠w.heap.size+2;omega),nG.block _ (by omega)];exact qp.out.r2
          clear Ez WU D5 h9 R4;refine hK.out _ _ HS9.out ?_;clear hK K;try simp only[Act.put]
          refine bW (i:=12) (v:=.pointer (some ⟨w.heap.size+2,3,none⟩)) rfl (by kernel_rfl) (by kernel_rfl) (by kernel_rfl) (by kernel_rfl) (fun _ _ _ h=>h) (Or.inl ⟨by rfl,?_⟩) (fun _=>HS9.out) ?_
          ·intro w _;go_simp
          try simp only[Act.put]
          refine aI (rs:=[13]) (by kernel_rfl) (by simp) ?_;refine aC.last rfl (by kernel_rfl) (fun K hK=>?_) aC.nil;go_simp
          refine hK.out _ _ ?_;clear hK K;refine fQ (by kernel_rfl) ?_ _;clear HS9 q0 z0 Fy UF;go_wp2;go_roundw;case rel=>exact⟨k+1,_,_,by omega,by go_num,fB.out⟩
          case measure=>simp[intOf]<;>omega
        ·have d5:decide ((0:Int)<(nk:Int))=false:=decide_eq_false (by omega);have fB:Hid (qL w w7 f s rows (k+1) u1 u2):=by
          have:=qp.out;refine⟨dH.out,this.r1,this.r2,?_,this.aM,this.jH⟩;rw[mh.out,if_neg (by rw[<-zW.out.2];exact hz)];exact this.two
         go_wp2;go_roundw;case rel=>exact⟨k+1,u1,u2,by omega,by go_num,fB.out⟩
         case measure=>simp[intOf]<;>omega
    ·have d3:(RC==0)=false:=by simpa using hr
     have hbf:b=false:=by
      rw[<-Bool.not_eq_true];intro h;exact hr (PZ.out.1 h).1
     subst hbf;have hpos:decide (0<RC)=true:=decide_eq_true (by omega);have HM:=(show Hid _ from HAT.out RC (by rw[jI.out];unfold lI;rw[Nu.out,if_pos hr,if_pos hr]) hr);have mW:Hid (RC≠0):=hr;obtain⟨p0,p1,p2,p3,p4,p5,p6,p7⟩:=wZ.out.res.all;obtain⟨o0,o1,o2,o3,o4,o5,o6,o7⟩:=wZ.out.res.drew.all;have jO:=(show Hid _ from wZ.out.res.set wZ.out.aM RC k);clear hr;go_wp2_with fail;go_region;all_goals (go_wp2;exact HZ.out _ RC k jO.out.drew HM.out mW.out _ rfl rfl rfl)
  ·obtain rfl:k=n:=by omega
   have hge:(k:Int)<=(k:Int):=Int.le_refl _;have zu:rows.take k=rows:=by rw[<-HN.out];exact List.take_length
   have BM:=DY.out.two;rw[zu] at BM;have qD:Hid (jN f s rows=0/\sG f s rows = -1):=Ev HG.out fun j hj=>DY.out.ok j (by have:=HN.out;omega)
   have HTW:=(show Hid _ from BM);obtain⟨b1,b2,b3,b4⟩:wr.cell? ⟨w.heap.size+2,0,none⟩=some (.int .i64 f)/\wr.cell? ⟨w.heap.size+2,1,none⟩=some (.int .i64 s)/\wr.cell? ⟨w.heap.size+2,2,none⟩=some u1/\wr.cell? ⟨w.heap.size+2,3,none⟩=some u2:=⟨ak BM.blk 0,ak BM.blk 1,ak BM.blk 2,ak BM.blk 3⟩;obtain⟨a5,e5,hu1⟩:=aW BM.lZ;obtain⟨a6,e6,hu2⟩:=aW BM.mO;obtain⟨m5,hm5⟩:∃ m,m=((full rows).map Prod.fst).length:=⟨_,rfl⟩;obtain⟨m6,hm6⟩:∃ m,m=(tN (full rows)).length:=⟨_,rfl⟩;rw[<-hm5] at hu1;rw[<-hm6] at hu2;subst hu1 hu2;have HFN:Hid (∀ z,Below wr.heap.size wr z->Calls Tryz.prog 53 #[] z fun e w'=>e = .returned (.agg #[.int .i64 0,.int .i64 (-1)])/\Below wr.heap.size wr w'):=fun z hz=>(AX z).mono (by rintro e w' ⟨rfl,hb⟩;exact⟨rfl,hz.trans (hb.mono hz.size)⟩)
   have bd1:wr.drew.cell? ⟨w.heap.size+2,0,none⟩=some (.int .i64 f):=b1;have bd2:wr.drew.cell? ⟨w.heap.size+2,1,none⟩=some (.int .i64 s):=b2;have bd3:wr.drew.cell? ⟨w.heap.size+2,2,none⟩=some (.slice a5 m5 e5):=b3;have bd4:wr.drew.cell? ⟨w.heap.size+2,3,none⟩=some (.slice a6 m6 e6):=b4;have iI:Hid (∀ z,Below wr.heap.size wr z->qL w z f s rows k (.slice a5 m5 e5) (.slice a6 m6 e6)):=fun z hz=>DY.out.below hz
   clear BM zu hm5 hm6;go_wp2_with fail;go_region_with (go_at_call 53;refine Calls.mono (HFN.out _ (by repeat (first | exact Below.refl _ _ | with_reducible apply aU | with_reducible apply dW))) ?_;rintro e w9 ⟨rfl,nG⟩;have Yr:=iI.out w9 nG;have Ny:=(show Hid _ from Yr);obtain⟨p0,p1,p2,p3,p4,p5,p6,p7⟩:=Yr.res.all;have r0:=Yr.two.blk;have c0:w9.cell? ⟨w.heap.size+2,0,none⟩=some (.int .i64 f):=ak r0 0;have c1':w9.cell? ⟨w.heap.size+2,1,none⟩=some (.int .i64 s):=ak r0 1;have c2':w9.cell? ⟨w.heap.size+2,2,none⟩=some (.slice a5 m5 e5):=ak r0 2;have c3':w9.cell? ⟨w.heap.size+2,3,none⟩=some (.slice a6 m6 e6):=ak r0 3;clear nG Yr r0);all_goals (
    have hp:=Ny.out.res.put Ny.out.aM (.int .i64 f) (.int .i64 s) (.slice a5 m5 e5) (.slice a6 m6 e6) (.int .i64 0) (.int .i64 (-1)) _ rfl
    have HP:=(show Hid _ from hp)
    clear hp p0 p1 p2 p3 p4 p5 p6 p7 c0 c1' c2' c3'
    go_wp2
    obtain⟨q1,q2,q3,q4⟩:=HP.out
    have ho1:=q4 _ _ _ _ _ _ (by omega) Ny.out.two.lZ
    have ho2:=q4 _ _ _ _ _ _ (by omega) Ny.out.two.mO
    rw[show rows.take k=rows by rw[<-HN.out];exact List.take_length] at ho1 ho2
    refine xZ.out _ _ _ q1 q2 q3 qD.out.1 ⟨dD ho1 (by omega),dD ho2 (by omega)⟩ _ rfl rfl rfl)
end Go.Proofs.YtdlceolmpcjjiaaGreatDoor
namespace Go.Proofs.YtdlceolmpcjjiaaGreatDoor
open Go.RowKit Go.Maps bT bF
def Im (w w':World) (f s:Int) (ss cs:List (List UInt8)) (e:Ending):Prop:=
 Below w.heap.size w w'/\((eZ f s ss cs=0/\∃ sb,e = .returned (.tuple #[.pointer (some ⟨sb,0,none⟩),.agg #[.int .i64 0,.int .i64 (-1)]])/\wT w' sb (rowsOf ss cs)) \/
  (eZ f s ss cs≠0/\e = .returned (.tuple #[.pointer none,.agg #[.int .i64 (eZ f s ss cs),.int .i64 (kG f s ss cs)]])))
theorem EA {Y z:World} {v:Value} {g:Nat} (G:pI Y z v g) {base n base' sz m:Nat} {e e':TypeId} {xs ys:List Value} {v':Value} (ho:Y.ownsRow base e 1 v n xs) (h:Y.ownsRow base' e' sz v' m ys) (hne:e'≠e):z.ownsRow base' e' sz v' m ys:=dB h fun g' hg'=>by
 obtain⟨_,q2,cur,hc⟩:=bE h hg';refine G.blk g' q2 fun e=>?_
 obtain⟨_,_,ace,hc2⟩:=bE ho e;exact rU hc hc2 hne rfl
structure BN (w wr:World) (f s:Int) (a1 a2:Option Addr) (n c1 c2:Nat) (ss cs:List (List UInt8)) (k:Nat) (vs vl:Value) (ls:List Value):Prop where
 ok:∀ j,j<k->jk f s ss cs j=0
 bb:wr.heap[w.heap.size]? = some (.cells #[.int .i64 f,.int .i64 s,.slice a1 n c1,.slice a2 n c2] 30 (0,0))
 r2:wr.heap[w.heap.size+1]? = some (.cells #[.int .i64 0,.int .i64 0] 32 (0,0))
 set:nK wr (w.heap.size+3) (w.heap.size+2) vs vl (ss.take k) ls
 jS:ls.length=k
 pts:∀ i,i<k->∃ v,ls[i]? = some v/\wr.ownsRow (w.heap.size+3) 71 2 v (gX (cs.getD i [])).length (aG (gX (cs.getD i [])))
 aM:Below w.heap.size w wr
 jH:w.heap.size+3<=wr.heap.size
theorem BN.below {w wr z:World} {f s:Int} {a1 a2:Option Addr} {n c1 c2:Nat} {ss cs:List (List UInt8)} {k:Nat} {vs vl:Value} {ls:List Value} (h:BN w wr f s a1 a2 n c1 c2 ss cs k vs vl ls) (hb:Below wr.heap.size wr z):BN w z f s a1 a2 n c1 c2 ss cs k vs vl ls:=
 ⟨h.ok,(hb.block _ (aH h.bb)).trans h.bb,(hb.block _ (aH h.r2)).trans h.r2,h.set.below hb,h.jS,fun i hi=>(h.pts i hi).imp fun _ hv=>⟨hv.1,bN hv.2 hb⟩,h.aM.trans (hb.mono h.aM.size),Nat.le_trans h.jH hb.size⟩
theorem BN.cells {w wr:World} {f s:Int} {a1 a2:Option Addr} {n c1 c2:Nat} {ss cs:List (List UInt8)} {k:Nat} {vs vl:Value} {ls:List Value} (h:BN w wr f s a1 a2 n c1 c2 ss cs k vs vl ls):wr.cell? ⟨w.heap.size,0,none⟩=some (.int .i64 f)/\wr.cell? ⟨w.heap.size,1,none⟩=some (.int .i64 s)/\wr.cell? ⟨w.heap.size,2,none⟩=some (.slice a1 n c1)/\wr.cell? ⟨w.heap.size,3,none⟩=some (.slice a2 n c2)/\wr.cell? ⟨w.heap.size+1,0,none⟩=some (.int .i64 0)/\wr.cell? ⟨w.heap.size+1,1,none⟩=some (.int .i64 0)/\∀ q,wr.frozen? ⟨w.heap.size+1,q,none⟩=false:=
 ⟨ak h.bb 0,ak h.bb 1,ak h.bb 2,ak h.bb 3,ak h.r2 0,ak h.r2 1,fun q=>by simp[World.frozen?,h.r2]⟩
structure Jb (w z:World) (C A:Int):Prop where
 r2:z.heap[w.heap.size+1]? = some (.cells #[.int .i64 C,.int .i64 A] 32 (0,0))
 aM:Below w.heap.size w z
theorem Jb.drew {w z:World} {C A:Int} (h:Jb w z C A):Jb w z.drew C A:=⟨h.r2,h.aM.drew⟩
theorem vv {w z:World} (h:z.heap[w.heap.size+1]? = some (.cells #[.int .i64 0,.int .i64 0] 32 (0,0))) (hb:Below w.heap.size w z) (C A:Int):Jb w ((z.setCell ⟨w.heap.size+1,0,none⟩ (.int .i64 C)).setCell ⟨w.heap.size+1,1,none⟩ (.int .i64 A)) C A:=
 ⟨set2 h _ _,(hb.setCell (p:=⟨w.heap.size+1,0,none⟩) (Nat.le_succ _) _).setCell (p:=⟨w.heap.size+1,1,none⟩) (Nat.le_succ _) _⟩
theorem D6 (w:World) (f s:Int) (a1 a2:Option Addr) (c1 c2:Nat) (ss cs:List (List UInt8)) (h1:jJ w a1 ss) (h2:jJ w a2 cs) (hss:∀ x,x∈ss->x.length<=100000) (hcs:∀ x,x∈cs->x.length<=10000) (hn:ss.length<=100000) (hm:cs.length<=100000) :
  Calls Tryz.prog 20 #[.agg #[.int .i64 f,.int .i64 s,.slice a1 ss.length c1,.slice a2 cs.length c2]] w fun e w'=>Im w w' f s ss cs e:=by
 have hc1:=h1;have hc2:=h2;obtain⟨n,hnn⟩:∃ n,n=ss.length:=⟨_,rfl⟩;obtain⟨m,hmm⟩:∃ m,m=cs.length:=⟨_,rfl⟩;have HN:=(show Hid _ from hnn.symm);have Yt:=(show Hid _ from hmm.symm);rw[<-hnn,<-hmm];rw[<-hnn] at hn;rw[<-hmm] at hm;obtain⟨W,hW⟩:∃ W,W=(w.alloc (.cells #[.int .i64 f,.int .i64 s,.slice a1 n c1,.slice a2 m c2] 30)).alloc (.cells #[.int .i64 0,.int .i64 0] 32):=⟨_,rfl⟩;have hs1:(w.alloc (.cells #[.int .i64 f,.int .i64 s,.slice a1 n c1,.slice a2 m c2] 30)).heap.size=w.heap.size+1:=by simp
 have hbW:Below w.heap.size w W:=by rw[hW];exact ((Below.refl _ _).alloc (Nat.le_refl _) _).alloc (by simp) _
 have hr1:W.heap[w.heap.size]? = some (.cells #[.int .i64 f,.int .i64 s,.slice a1 n c1,.slice a2 m c2] 30 (0,0)):=by
  rw[hW];exact (heap_alloc_old _ _ (by rw[hs1];omega)).trans (heap_alloc_new _ _)
 have hr2:W.heap[w.heap.size+1]? = some (.cells #[.int .i64 0,.int .i64 0] 32 (0,0)):=by
  rw[hW,<-hs1];exact heap_alloc_new _ _
 have Dx:W.heap.size=w.heap.size+2:=by rw[hW];simp
 have HW:=(show Hid _ from hW);have cZ:=(show Hid _ from hbW);have HR1:=(show Hid _ from And.intro hr1 hr2);have q9:Hid (∀ i (hi:i<ss.length),∃ g o,a1=some ⟨g,o,none⟩/\∀ z,Below w.heap.size w z->z.cell? ⟨g,o+i,none⟩=some (encStr ss[i])):=fun i hi=>by
  obtain⟨g,o,e,hc⟩:=hc1 i hi;exact⟨g,o,e,fun z hz=>(hz.cell (p:=⟨g,o+i,none⟩) (World.block_lt_of_cell? w ⟨g,o+i,none⟩ hc)).trans hc⟩
 have oZ:Hid (∀ i (hi:i<cs.length),∃ g o,a2=some ⟨g,o,none⟩/\∀ z,Below w.heap.size w z->z.cell? ⟨g,o+i,none⟩=some (encStr cs[i])):=fun i hi=>by
  obtain⟨g,o,e,hc⟩:=hc2 i hi;exact⟨g,o,e,fun z hz=>(hz.cell (p:=⟨g,o+i,none⟩) (World.block_lt_of_cell? w ⟨g,o+i,none⟩ hc)).trans hc⟩
 have eP:=(show Hid _ from And.intro hss hcs);have HZ:Hid (∀ (Y:World) (C A:Int),Jb w Y C A->eZ f s ss cs=C/\kG f s ss cs=A->C≠0->∀ (a:Act),a.tmps[2]?.getD undef = .pointer none->a.tmps[3]?.getD undef = .pointer (some ⟨w.heap.size+1,0,none⟩)->a.defers = []->bodyPost Tryz.prog Tryz.f20 (fun e w'=>Im w w' f s ss cs e) Exit.ret a Y):=fun Y C A h hC hne a t2 t3 hd=>by
  have v0:Y.cell? ⟨w.heap.size+1,0,none⟩=some (.int .i64 C):=ak h.r2 0;have v1:Y.cell? ⟨w.heap.size+1,1,none⟩=some (.int .i64 A):=ak h.r2 1;refine bodyPost_ret (v:=.tuple #[.pointer none,.agg #[.int .i64 C,.int .i64 A]]) (by simp[results,Tryz.results20,go_sem,v0,v1,t2,t3]) hd ⟨h.aM,.inr ⟨by rw[hC.1];exact hne,by rw[hC.1,hC.2]⟩⟩
 have xZ:Hid (∀ (z:World) (vs vl:Value) (ls:List Value),BN w z f s a1 a2 n c1 c2 ss cs n vs vl ls->eZ f s ss cs=0->∀ (a:Act),a.tmps[2]?.getD undef = .pointer (some ⟨w.heap.size+2,0,none⟩)->a.tmps[3]?.getD undef = .pointer (some ⟨w.heap.size+1,0,none⟩)->a.defers = []->bodyPost Tryz.prog Tryz.f20 (fun e w'=>Im w w' f s ss cs e) Exit.ret a ((z.setCell ⟨w.heap.size+1,0,none⟩ (.int .i64 0)).setCell ⟨w.heap.size+1,1,none⟩ (.int .i64 (-1)))):=fun z vs vl ls h hC a t2 t3 hd=>by
  have hf:=vv h.r2 h.aM 0 (-1);have hl:cs.length=ss.length:=(lF hC).2.2.1;have hset:wT ((z.setCell ⟨w.heap.size+1,0,none⟩ (.int .i64 0)).setCell ⟨w.heap.size+1,1,none⟩ (.int .i64 (-1))) (w.heap.size+2) (rowsOf ss cs):=by
   have hA:nK ((z.setCell ⟨w.heap.size+1,0,none⟩ (.int .i64 0)).setCell ⟨w.heap.size+1,1,none⟩ (.int .i64 (-1))) (w.heap.size+3) (w.heap.size+2) vs vl ((rowsOf ss cs).map Prod.fst) ls:=by
    rw[Hr hl];have h0:=h.set;rw[List.take_of_length_le (by omega)] at h0;refine⟨?_,h0.low,dh (dh h0.names (by omega)) (by omega),dh (dh h0.row (by omega)) (by omega)⟩;rw[Below.heap_setCell _ _ _ _ (by show w.heap.size+2≠w.heap.size+1;omega),Below.heap_setCell _ _ _ _ (by show w.heap.size+2≠w.heap.size+1;omega)];exact h0.set
   refine hA.done (by rw[h.jS,mD hl];omega) fun i hi=>?_
   rw[mD hl] at hi;obtain⟨v,e1,e2⟩:=h.pts i (by omega);have e3:(rowsOf ss cs)[i].2=gX (cs.getD i []):=by
    have hi2:i<cs.length:=by omega
    simp[rowsOf,List.getD_eq_getElem?_getD,hi2]
   have e4:=dh (k:=1) (u:=.int .i64 (-1)) (dh (k:=0) (tb:=w.heap.size+1) (u:=.int .i64 0) e2 (by omega)) (by omega:w.heap.size+1<w.heap.size+3);obtain⟨A,C,hv,_,hp,_⟩:=r9 e4;rw[e3];exact⟨A,C,by rw[e1,hv],hp⟩
  obtain⟨Y,hY⟩:∃ Y,Y=((z.setCell ⟨w.heap.size+1,0,none⟩ (.int .i64 0)).setCell ⟨w.heap.size+1,1,none⟩ (.int .i64 (-1))):=⟨_,rfl⟩;rw[<-hY] at hset hf ⊢;have v0:Y.cell? ⟨w.heap.size+1,0,none⟩=some (.int .i64 0):=ak hf.r2 0;have v1:Y.cell? ⟨w.heap.size+1,1,none⟩=some (.int .i64 (-1)):=ak hf.r2 1;refine bodyPost_ret (v:=.tuple #[.pointer (some ⟨w.heap.size+2,0,none⟩),.agg #[.int .i64 0,.int .i64 (-1)]]) (by simp[results,Tryz.results20,go_sem,v0,v1,t2,t3]) hd ⟨hf.aM,.inl ⟨hC,_,rfl,hset⟩⟩
 have wY:=(show Hid _ from CB W f s);have hE0:=Gn f s;have gY:Hid (∀ (c:Int) (z:World),Calls Tryz.prog 33 #[.int .i64 c] z fun e w'=>e = .returned (.agg #[.int .i64 c,.int .i64 (-1)])/\Below z.heap.size z w'):=fun c z=>rO c z
 have x0:W.cell? ⟨w.heap.size,0,none⟩=some (.int .i64 f):=ak hr1 0;have x1:W.cell? ⟨w.heap.size,1,none⟩=some (.int .i64 s):=ak hr1 1;have x2:W.cell? ⟨w.heap.size,2,none⟩=some (.slice a1 n c1):=ak hr1 2;have x3:W.cell? ⟨w.heap.size,3,none⟩=some (.slice a2 m c2):=ak hr1 3;obtain⟨ev,hev⟩:∃ ev,ev=gI f s:=⟨_,rfl⟩;rw[<-hev] at wY hE0;have PX:=(show Hid _ from hev);have Jc:Hid (gI f s≠0\/60<ss.length->eZ f s ss cs=2/\kG f s ss cs = -1):=fun h=>MN h
 have Nz:Hid (¬ (gI f s≠0\/60<ss.length)->cs.length≠ss.length->eZ f s ss cs=3/\kG f s ss cs = -1):=fun h h'=>MO h h'
 have iI:Hid (∀ (c:Int) (z:World),Below W.heap.size W z->Jb w ((z.setCell ⟨w.heap.size+1,0,none⟩ (.int .i64 c)).setCell ⟨w.heap.size+1,1,none⟩ (.int .i64 (-1))) c (-1)/\z.cell? ⟨w.heap.size+1,0,none⟩=some (.int .i64 0)/\z.cell? ⟨w.heap.size+1,1,none⟩=some (.int .i64 0)/\∀ q,z.frozen? ⟨w.heap.size+1,q,none⟩=false):=fun c z hz=>by
  have:=(hz.block _ (aH hr2)).trans hr2;exact⟨vv this (hbW.trans (hz.mono hbW.size)) c (-1),ak this 0,ak this 1,fun q=>by simp[World.frozen?,this]⟩
 have agr:ev=0\/ev=2:=by rw[hev];unfold gI;split<;>simp
 clear h1 h2 hc1 hc2 hss hcs hW hbW hr1 hr2 hs1 hnn hmm hev;go_enter Tryz.func20,Tryz.ntmps20;go_upto_region 1 with fail;rw[<-HW.out];go_wp2_with fail;refine Calls.mono wY.out ?_;rintro e w1 ⟨rfl,hw1⟩;have bA:=hw1;subst bA;clear wY hw1 HW;rcases agr with rfl | rfl
 ·by_cases Fw:60<n
  ·have d2:decide ((60:Int)<(n:Int))=true:=decide_eq_true (by omega);have HM:Hid (eZ f s ss cs=2/\kG f s ss cs = -1):=Jc.out (.inr (by rw[HN.out];exact Fw));clear Jc Nz Fw;go_wp2_with fail;refine Calls.mono (gY.out 2 w1) ?_;rintro e w2 ⟨rfl,hb2⟩;obtain⟨hz,p0,p1,p2⟩:=iI.out 2 w2 hb2;have jO:=(show Hid _ from hz);clear hb2 hz;dsimp only
   go_wp2;exact HZ.out _ 2 (-1) jO.out HM.out (by decide) _ rfl rfl rfl
  ·have d2:decide ((60:Int)<(n:Int))=false:=decide_eq_false (by omega);have HG:Hid (¬ (gI f s≠0\/60<ss.length)):=by
    rw[HN.out];rintro (h | h)
    ·exact h PX.out.symm
    ·exact Fw h
   by_cases hnm:n=m
   ·subst hnm;have DJ:n<=60:=by omega
    have R3:Hid (gI f s=0):=PX.out.symm;clear Jc Nz Fw hm hn;go_upto_region 9 with fail;obtain⟨W3,hW3⟩:∃ W3,W3=w1.alloc (.cells #[.slice none 0 0,.slice none 0 0] 98):=⟨_,rfl⟩;have hb3:Below w1.heap.size w1 W3:=by rw[hW3];exact (Below.refl _ _).alloc (Nat.le_refl _) _
    have hx3:W3.heap[w.heap.size+2]? = some (.cells #[.slice none 0 0,.slice none 0 0] 98 (0,0)):=by rw[hW3,<-Dx];exact heap_alloc_new _ _
    have H0:Hid (BN w W3 f s a1 a2 n c1 c2 ss cs 0 (.slice none 0 0) (.slice none 0 0) []):=
     ⟨fun j h=>absurd h (Nat.not_lt_zero _),(hb3.block _ (aH HR1.out.1)).trans HR1.out.1,(hb3.block _ (aH HR1.out.2)).trans HR1.out.2,⟨hx3,Nat.lt_succ_self _,⟨rfl,.inl ⟨rfl,rfl⟩⟩,⟨rfl,.inl ⟨rfl,rfl⟩⟩⟩,rfl,fun i h=>absurd h (Nat.not_lt_zero _),cZ.out.trans (hb3.mono cZ.out.size),aH hx3⟩
    rw[<-hW3];clear hb3 hx3 hW3 x0 x1 x2 x3 d2 Dx;go_wp2_with fail;go_loopw [6] (fun i wr=>∃ (k:Nat) (vs vl:Value) (ls:List Value),k<=n/\i = .int .i64 (k:Int)/\BN w wr f s a1 a2 n c1 c2 ss cs k vs vl ls) (fun i _=>n-(intOf i).toNat);case atStart=>exact⟨0,_,_,[],Nat.zero_le _,rfl,H0.out⟩
    case round=>
     obtain⟨k,vs,vl,ls,hk,rfl,hto⟩:=hrel;have DY:=(show Hid _ from hto);have hsz:=hto.jH;obtain⟨y0,y1,y2,y3,y4,y5,y6⟩:=hto.cells;clear hto;by_cases hkn:k<n
     ·have hks:k<ss.length:=by rw[HN.out];exact hkn
      have hkc:k<cs.length:=by rw[Yt.out];exact hkn
      obtain⟨g1,o1,q1,hg1⟩:=q9.out k hks;subst q1;obtain⟨g2,o2,q2,hg2⟩:=oZ.out k hkc;subst q2;obtain⟨nm,hnm⟩:∃ nm:ByteArray,nm=txt ss[k]:=⟨_,rfl⟩;have x4:wr.cell? ⟨g1,o1+k,none⟩=some (.string nm):=by rw[hnm];exact hg1 wr DY.out.aM
      have k0:(0:Int)<=(k:Int):=by omega
      have k1:(k:Int)<(n:Int):=by omega
      have uy:=(show Hid _ from Nr wr nm (by rw[hnm,bM];exact eP.out.1 _ (List.getElem_mem hks)));have F9:nm.data.toList=ss[k]:=by rw[hnm];rfl
      rw[F9] at uy;obtain⟨RC,Fx⟩:∃ RC,RC=gV ss[k]:=⟨_,rfl⟩;obtain⟨RA,UA⟩:∃ RA,RA=zk ss[k]:=⟨_,rfl⟩;rw[<-Fx,<-UA] at uy;have hR0:0<=RC:=by rw[Fx];exact yG _
      have J3:=(show Hid _ from Fx);have zS:=(show Hid _ from And.intro hnm F9);have hgs:ss.getD k []=ss[k]:=by simp[List.getD_eq_getElem?_getD,hks]
      have hgc:cs.getD k []=cs[k]:=by simp[List.getD_eq_getElem?_getD,hkc]
      have jI:Hid (jk f s ss cs k=lg f s (prev ss k) ss[k] cs[k]):=by
       show _=_;unfold jk;rw[hgs,hgc]
      have zn:=(show Hid _ from hgc);have Nu:Hid (gG (prev ss k) ss[k]=if RC≠0 then RC else if prev ss k<ss[k] then 0 else 3):=by
       rw[Fx];rfl
      have HAT:Hid (∀ C:Int,jk f s ss cs k=C->C≠0->eZ f s ss cs=C/\kG f s ss cs=(k:Int)):=fun C hC hne=>by
       obtain⟨h1,h2⟩:=X5 HG.out (by rw[Yt.out,HN.out]) hks DY.out.ok (by rw[hC];exact hne);exact⟨h1.trans hC,h2⟩
      clear Fx UA hnm F9 hgs hgc;go_wp2_with fail;refine Calls.mono uy.out ?_;rintro e w2 ⟨hb2,x,rfl⟩;have HT2:=(show Hid _ from DY.out.below hb2);clear uy hb2 y0 y1 y2 y3 y4 y5 y6 x4;dsimp only
      go_upto_region 13 with fail;obtain⟨W4,qZ⟩:∃ W4,W4=w2.alloc (.cells #[.int .i64 RC,.int .i64 RA] 32):=⟨_,rfl⟩;have hb4:Below w2.heap.size w2 W4:=by rw[qZ];exact (Below.refl _ _).alloc (Nat.le_refl _) _
      have PY:W4.heap[w2.heap.size]? = some (.cells #[.int .i64 RC,.int .i64 RA] 32 (0,0)):=by rw[qZ];exact heap_alloc_new _ _
      rw[<-qZ];clear qZ;have Af:=(show Hid _ from HT2.out.below hb4);obtain⟨y0,y1,y2,y3,y4,y5,y6⟩:=Af.out.cells;have v4:W4.cell? ⟨w2.heap.size,0,none⟩=some (.int .i64 RC):=ak PY 0;have vd4:W4.drew.cell? ⟨w2.heap.size,0,none⟩=some (.int .i64 RC):=v4;have x4:W4.cell? ⟨g1,o1+k,none⟩=some (.string nm):=by rw[zS.out.1];exact hg1 W4 Af.out.aM
      clear hb4 PY;by_cases hr:0<RC
      ·have d3:decide (0<RC)=true:=decide_eq_true hr;have mW:Hid (RC≠0):=fun h=>(by omega)
       have HM:=(show Hid _ from HAT.out RC (by rw[jI.out];unfold lg;rw[Nu.out,if_pos mW.out,if_pos mW.out]) mW.out);have jO:=(show Hid _ from vv Af.out.r2 Af.out.aM RC k);have yd4:W4.drew.cell? ⟨w.heap.size+1,0,none⟩=some (.int .i64 0):=y4;have yd5:W4.drew.cell? ⟨w.heap.size+1,1,none⟩=some (.int .i64 0):=y5;have yd6:∀ q,W4.drew.frozen? ⟨w.heap.size+1,q,none⟩=false:=y6;clear hr;go_wp2_with fail;go_region;all_goals (go_wp2;exact HZ.out _ RC k jO.out.drew HM.out mW.out _ rfl rfl rfl)
      ·obtain rfl:RC=0:=by omega
       clear hr;have JX:Hid (k=0->prev ss k<ss[k]):=fun h0=>by
        unfold prev;rw[if_pos h0];exact Dj J3.out.symm
       have HPV:Hid (0<k->∀ z,Below w.heap.size w z->z.cell? ⟨g1,o1+(k-1),none⟩=some (encStr (prev ss k))):=fun hk0 z hz=>by
        obtain⟨g,o,e,h⟩:=q9.out (k-1) (by omega);simp at e;obtain⟨rfl,rfl⟩:=e;rw[h z hz];have:prev ss k=ss[k-1]:=by
         unfold prev;rw[if_neg (by omega)];simp[List.getD_eq_getElem?_getD,show k-1<ss.length by omega]
        rw[this]
       go_upto_region 15 with fail;go_cut [80] from 42 to 139 (fun s80 wz=>∃ (b:Bool) (q:Nat),s80 = .bool b/\wz=W4.drewN q/\Ik b 0 (prev ss k) ss[k]);case first=>
        by_cases hk0:k=0
        ·subst hk0;have HB:Hid (Ik false 0 (prev ss 0) ss[0]):=⟨fun h=>(by cases h),fun h=>absurd (JX.out rfl) h.2⟩;go_quiet (fail);go_wp2_with fail;go_meet;case rel=>exact⟨false,_,rfl,rfl,HB.out⟩
        ·obtain⟨j,rfl⟩:∃ j,k=j+1:=⟨k-1,by omega⟩;obtain⟨pv,hpv⟩:∃ pv:ByteArray,pv=txt (prev ss (j+1)):=⟨_,rfl⟩;have x5:W4.cell? ⟨g1,o1+j,none⟩=some (.string pv):=by rw[hpv];exact HPV.out (by omega) W4 Af.out.aM
         have hlt:=Ak nm pv;have heq:=Ia nm pv;rw[zS.out.2,show pv.data.toList=prev ss (j+1) by rw[hpv];rfl] at hlt heq;have i1:(0:Int)<=(j:Int)+1-1:=by omega
         have i2:(j:Int)+1-1<(n:Int):=by omega
         have i3:(0:Int)<(j:Int)+1:=by omega
         have nH:=(show Hid _ from hlt);have qQ:=(show Hid _ from heq);clear hlt heq hpv hk0;by_cases h1:prev ss (j+1)<ss[j+1]
         ·have hl:Op.bytesLess nm.toList pv.toList=false:=by rw[nH.out];exact decide_eq_false (fun h=>absurd (List.lt_trans h h1) (List.lt_irrefl _))
          have hl2:(nm.toList==pv.toList)=false:=by rw[qQ.out];exact decide_eq_false (fun h=>by rw[h] at h1;exact List.lt_irrefl _ h1)
          have HB:Hid (Ik false 0 (prev ss (j+1)) ss[j+1]):=⟨fun h=>(by cases h),fun h=>absurd h1 h.2⟩;clear h1 nH qQ;go_quiet (fail);go_wp2_with fail;go_meet;case rel=>exact⟨false,_,rfl,rfl,HB.out⟩
         ·have HB:Hid (Ik true 0 (prev ss (j+1)) ss[j+1]):=⟨fun _=>⟨rfl,h1⟩,fun _=>rfl⟩;by_cases h2:ss[j+1]<prev ss (j+1)
          ·have hl:Op.bytesLess nm.toList pv.toList=true:=by rw[nH.out];exact decide_eq_true h2
           clear h1 h2 nH qQ;go_quiet (fail);go_wp2_with fail;go_meet;case rel=>exact⟨true,_,rfl,rfl,HB.out⟩
          ·have hl:Op.bytesLess nm.toList pv.toList=false:=by rw[nH.out];exact decide_eq_false h2
           have hl2:(nm.toList==pv.toList)=true:=by rw[qQ.out];exact decide_eq_true (List.le_antisymm (List.not_lt.1 h1) (List.not_lt.1 h2))
           clear h1 h2 nH qQ;go_quiet (fail);go_wp2_with fail;go_meet;case rel=>exact⟨true,_,rfl,rfl,HB.out⟩
       case rest=>
        obtain⟨b,q,rfl,hwc,hnb⟩:=hcut;have PZ:=(show Hid _ from hnb);have P5:Below W4.heap.size W4 wc:=by rw[hwc];exact below_draws (Below.refl _ _) q
        have wZ:=(show Hid _ from Af.out.below P5);clear hnb hwc P5 y0 y1 y2 y3 y4 y5 y6 x4 v4 vd4;obtain⟨y0,y1,y2,y3,y4,y5,y6⟩:=wZ.out.cells;by_cases hb:b=true
        ·have hn0:=PZ.out.1 hb;subst hb;have hnc:gG (prev ss k) ss[k]=3:=by rw[Nu.out,if_neg (fun h=>h rfl),if_neg hn0.2]
         have HM:=(show Hid _ from HAT.out 3 (by rw[jI.out];unfold lg;rw[hnc,if_pos (by decide)]) (by decide));have jO:=(show Hid _ from vv wZ.out.r2 wZ.out.aM 3 k);clear hn0 hnc;go_wp2;exact HZ.out _ 3 k jO.out HM.out (by decide) _ rfl rfl rfl
        ·have hbf:b=false:=by simpa using hb
         subst hbf;have hlt:prev ss k<ss[k]:=by
          apply Decidable.not_not.1;intro h;exact hb (PZ.out.2 ⟨rfl,h⟩)
         have hnc:gG (prev ss k) ss[k]=0:=by rw[Nu.out,if_neg (fun h=>h rfl),if_pos hlt]
         have HRW:Hid (jk f s ss cs k=if pF cs[k]≠0 then pF cs[k] else if gX cs[k] = [] then 5 else if kF f s (gX cs[k])=true then 0 else 2):=by
          show _=_;rw[jI.out];unfold lg;rw[hnc,if_neg (fun h=>h rfl)]
         obtain⟨ch,hch⟩:∃ ch:ByteArray,ch=txt cs[k]:=⟨_,rfl⟩;have x6:wc.cell? ⟨g2,o2+k,none⟩=some (.string ch):=by rw[hch];exact hg2 wc wZ.out.aM
         have dK:=(show Hid _ from ach wc ch (by rw[hch,bM];exact eP.out.2 _ (List.getElem_mem hkc)));rw[show ch.data.toList=cs[k] by rw[hch];rfl] at dK;clear hb hlt hnc hch;go_wp2_with fail;refine Calls.mono dK.out ?_;rintro e w5 ⟨hb5,⟨NA,v5,rfl,Pw⟩|⟨NA,rfl⟩⟩
         ·have HUZ:Hid (pF cs[k]=0):=NA;have hsp:=uX (qj.1 NA);have hl5:=(fE hsp.1).1;have Aq:=(show Hid _ from wZ.out.below hb5);have uG:Hid (w5.ownsRow (w.heap.size+3) 71 2 v5 (gX cs[k]).length (aG (gX cs[k]))):=dD Pw wZ.out.jH;obtain⟨a5,c5,rfl,_,Ke,_⟩:=r9 Pw;obtain⟨n5,Yu⟩:∃ n5,n5=(gX cs[k]).length:=⟨_,rfl⟩;have HIS:=(show Hid _ from yh w5 a5 c5 (gX cs[k]) f s R3.out Ke (by omega));obtain⟨ib,hib⟩:∃ ib,ib=kF f s (gX cs[k]):=⟨_,rfl⟩;rw[<-hib,<-Yu] at HIS;rw[<-Yu] at uG hl5 ⊢;have DU:=(show Hid _ from And.intro hib Yu);have WV:Hid (jk f s ss cs k=if gX cs[k] = [] then 5 else if ib=true then 0 else 2):=by
           show _=_;rw[HRW.out,NA,if_neg (fun h=>h rfl),hib]
          clear y0 y1 y2 y3 y4 y5 y6 hb5 dK x6 NA hsp Pw Ke hib Yu;obtain⟨y0,y1,y2,y3,y4,y5,y6⟩:=Aq.out.cells;dsimp only
          go_wp2_with fail;refine Calls.mono HIS.out ?_;rintro e w7 ⟨rfl,hw7⟩;have FR:=hw7;subst FR;have nP:=Aq;clear hw7 HIS;dsimp only
          by_cases hz:n5=0
          ·have hnil:gX cs[k] = []:=List.eq_nil_of_length_eq_zero (by rw[<-DU.out.2];exact hz);have HM:=(show Hid _ from HAT.out 5 (by rw[WV.out,if_pos hnil]) (by decide));have jO:=(show Hid _ from vv nP.out.r2 nP.out.aM 5 k);subst hz;clear hnil;go_wp2;exact HZ.out _ 5 k jO.out HM.out (by decide) _ rfl rfl rfl
          ·have hne:¬ gX cs[k] = []:=fun h=>hz (by rw[DU.out.2,h];rfl)
           have d7:((n5:Int)==0)=false:=by rw[beq_eq_false_iff_ne];omega
           cases ib with
           | false=>
            have HM:=(show Hid _ from HAT.out 2 (by rw[WV.out,if_neg hne,if_neg (by decide)]) (by decide));have jO:=(show Hid _ from vv nP.out.r2 nP.out.aM 2 k);clear hz hne;go_wp2;exact HZ.out _ 2 k jO.out HM.out (by decide) _ rfl rfl rfl
           | true=>
            have dH:Hid (∀ j,j<k+1->jk f s ss cs j=0):=fun j hj=>by
             rcases Nat.lt_or_ge j k with h | h
             ·exact nP.out.ok j h
             ·obtain rfl:j=k:=by omega
              rw[WV.out,if_neg hne,if_pos rfl]
            have hlk:(ss.take k).length=k:=by rw[List.length_take];omega
            obtain⟨b3,e3,hu1⟩:=aW nP.out.set.names;obtain⟨b4,e4,hu2⟩:=aW nP.out.set.row;rw[hlk] at hu1;rw[nP.out.jS] at hu2;subst hu1 hu2;have sS:Hid (w7.ownsRow (w.heap.size+3) 9 1 (.slice b3 k e3) k ((ss.take k).map encStr)):=by have:=nP.out.set.names;rw[hlk] at this;exact this
            have HLK:=(show Hid _ from hlk);obtain⟨iS,hI,hS0,hS1,hS2⟩:=info_parts Tryz.infoStr3;have Am:=(show Hid _ from hI);clear hI;obtain⟨iR,hI,hR0,mo,hR2⟩:=info_parts Tryz.infoPts3;have NC:=(show Hid _ from hI);clear hI hz hne hlk;have Fy:Hid (∀ w',Below w7.heap.size w7 w'->w'.cell? ⟨w.heap.size+2,0,none⟩=some (.slice b3 k e3)/\w'.cell? ⟨w.heap.size,2,none⟩=some (.slice (some ⟨g1,o1,none⟩) n c1)/\w'.cell? ⟨g1,o1+k,none⟩=some (.string nm)):=fun z hz=>by
             have:=nP.out.below hz;exact⟨ak this.set.set 0,this.cells.2.2.1,by rw[zS.out.1];exact hg1 z this.aM⟩
            have hsd:=Fy.out w7.drew (dW (Below.refl _ _));clear y0 y1 y2 y3 y4 y5 y6;go_upto_region 25 with fail;refine mM (S:=fun w'=>w'.cell? ⟨w.heap.size+2,0,none⟩=some (.slice b3 k e3)/\w'.cell? ⟨w.heap.size,2,none⟩=some (.slice (some ⟨g1,o1,none⟩) n c1)/\w'.cell? ⟨g1,o1+k,none⟩=some (.string nm)) (by kernel_rfl) 14 hsd (fun hHeld=>?_);clear hsd;refine bW (i:=0) (v:=.pointer (some ⟨w.heap.size+2,0,none⟩)) rfl (by kernel_rfl) (by kernel_rfl) (by kernel_rfl) (by kernel_rfl) (fun _ _ _ h=>h) (Or.inl ⟨by rfl,?_⟩) (fun _=>hHeld) ?_
            ·intro w _;go_simp
            try simp only[Act.put]
            refine bW (i:=1) (v:=.pointer (some ⟨w.heap.size+2,0,none⟩)) rfl (by kernel_rfl) (by kernel_rfl) (by kernel_rfl) (by kernel_rfl) (fun _ _ _ h=>h) (Or.inl ⟨by rfl,?_⟩) (fun _=>hHeld) ?_
            ·intro w _;go_simp
            try simp only[Act.put]
            refine bW (i:=2) (v:=.pointer (some ⟨w.heap.size+2,0,none⟩)) rfl (by kernel_rfl) (by kernel_rfl) (by kernel_rfl) (by kernel_rfl) (fun _ _ _ h=>h) (Or.inl ⟨by rfl,?_⟩) (fun _=>hHeld) ?_
            ·intro w _;go_simp
            try simp only[Act.put]
            refine bW (i:=3) (v:=.pointer (some ⟨w.heap.size+2,0,none⟩)) rfl (by kernel_rfl) (by kernel_rfl) (by kernel_rfl) (by kernel_rfl) (fun _ _ _ h=>h) (Or.inl ⟨by rfl,?_⟩) (fun _=>hHeld) ?_
            ·intro w _;go_simp
            try simp only[Act.put]
            refine gW (i:=4) (v:=.slice b3 k e3) rfl (by kernel_rfl) (by kernel_rfl) (by kernel_rfl) (by kernel_rfl) (by kernel_rfl) (by kernel_rfl) (fun _ _ _ h=>h) (Or.inl ⟨by rfl,?_⟩) hHeld ?_
            ·intro w hSw;obtain⟨wo,wu,wB⟩:=hSw;go_simp
            try simp only[Act.put]
            refine bW (i:=5) (v:=.pointer (some ⟨w.heap.size,2,none⟩)) rfl (by kernel_rfl) (by kernel_rfl) (by kernel_rfl) (by kernel_rfl) (fun _ _ _ h=>h) (Or.inl ⟨by rfl,?_⟩) (fun _=>hHeld) ?_
            ·intro w _;go_simp
            try simp only[Act.put]
            refine gW (i:=6) (v:=.slice (some ⟨g1,o1,none⟩) n c1) rfl (by kernel_rfl) (by kernel_rfl) (by kernel_rfl) (by kernel_rfl) (by kernel_rfl) (by kernel_rfl) (fun _ _ _ h=>h) (Or.inl ⟨by rfl,?_⟩) hHeld ?_
            ·intro w hSw;obtain⟨wo,wu,wB⟩:=hSw;go_simp
            try simp only[Act.put]
            refine bW (i:=7) (v:=.int .i64 (k:Int)) rfl (by kernel_rfl) (by kernel_rfl) (by kernel_rfl) (by kernel_rfl) (fun _ _ _ h=>h) (Or.inl ⟨by rfl,?_⟩) (fun _=>hHeld) ?_
            ·intro w _;go_simp
            try simp only[Act.put]
            refine bW (i:=8) (v:=.pointer (some ⟨g1,o1+k,none⟩)) rfl (by kernel_rfl) (by kernel_rfl) (by kernel_rfl) (by kernel_rfl) (fun _ _ _ h=>h) (Or.inl ⟨by rfl,?_⟩) (fun _=>hHeld) ?_
            ·intro w _;go_simp
            try simp only[Act.put]
            refine gW (i:=9) (v:=.string nm) rfl (by kernel_rfl) (by kernel_rfl) (by kernel_rfl) (by kernel_rfl) (by kernel_rfl) (by kernel_rfl) (fun _ _ _ h=>h) (Or.inl ⟨by rfl,?_⟩) hHeld ?_
            ·intro w hSw;obtain⟨wo,wu,wB⟩:=hSw;go_simp
            try simp only[Act.put]
            refine aI (rs:=[10]) (by kernel_rfl) (by simp) ?_;refine aC.cons rfl (fun K hK=>?_) aC.nil;go_simp
            refine hK.out _ _ (Fy.out _ (aU (dW (Below.refl _ _)) _)) ?_;clear hK K;try simp only[Act.put]
            refine aI (rs:=[11]) (by kernel_rfl) (by simp) ?_;refine aC.cons rfl (fun K hK=>?_) aC.nil;refine mF w7 (by rfl) _ _ 23 (by rfl) (w.heap.size+3) 9 iS (.string ⟨#[]⟩) 16 Tryz.underlying23 Am.out hS0 hS1 hS2 (by rfl) (.slice b3 k e3) k ((ss.take k).map encStr) (by rfl) sS.out (aU (dW (Below.refl _ _)) _) _ _ _ _ (by rfl) (by exact heap_alloc_new _ _) (by rfl) (by omega) (by decide) nP.out.jH ?_;intro g8 kI w8 ni lK jY;have h8:=nP.out.set.name (x:=ss[k]) nP.out.jH jY (by rw[HLK.out];rw[zS.out.1] at ni;exact ni) lK;rw[HLK.out] at h8;have q0:w8.cell? ⟨w.heap.size+2,0,none⟩=some (.slice b3 k e3):=ak h8.1 0;have z0:w8.frozen? ⟨w.heap.size+2,0,none⟩=false:=by simp[World.frozen?,h8.1]
            have jr:Below (w.heap.size+2) w7 w8:=h8.2.1.mono (Nat.le_succ _);have zO:=nP.out.aM.trans (h8.2.1.mono (by omega));have UE:Hid (w.heap.size+3<=w8.heap.size):=Nat.le_trans nP.out.jH (Nat.le_trans jY.size lK.size);have acr:Hid (∀ v m ys,w7.ownsRow (w.heap.size+3) 71 2 v m ys->w8.ownsRow (w.heap.size+3) 71 2 v m ys):=fun v m ys hv=>EA lK (bN sS.out jY) (bN hv jY) (by decide)
            have Ap:Hid (w8.cell? ⟨w.heap.size+2,0,none⟩=some (.slice b3 k e3)/\w8.cell? ⟨w.heap.size,2,none⟩=some (.slice (some ⟨g1,o1,none⟩) n c1)/\w8.cell? ⟨g1,o1+k,none⟩=some (.string nm)):=⟨q0,ak ((jr.block _ (by omega)).trans nP.out.bb) 2,by rw[zS.out.1];exact hg1 w8 zO⟩;have H8:=(show Hid _ from And.intro h8.2.2 (And.intro jr zO));clear ni lK jY h8 jr zO;refine hK.out _ _ Ap.out ?_;clear hK K;try simp only[Act.put]
            refine bW (i:=12) (v:=.pointer (some ⟨w.heap.size+2,0,none⟩)) rfl (by kernel_rfl) (by kernel_rfl) (by kernel_rfl) (by kernel_rfl) (fun _ _ _ h=>h) (Or.inl ⟨by rfl,?_⟩) (fun _=>Ap.out) ?_
            ·intro w _;go_simp
            try simp only[Act.put]
            refine bW (i:=13) (v:=.pointer (some ⟨w.heap.size+2,0,none⟩)) rfl (by kernel_rfl) (by kernel_rfl) (by kernel_rfl) (by kernel_rfl) (fun _ _ _ h=>h) (Or.inl ⟨by rfl,?_⟩) (fun _=>Ap.out) ?_
            ·intro w _;go_simp
            try simp only[Act.put]
            refine aI (rs:=[14]) (by kernel_rfl) (by simp) ?_;refine aC.last rfl (by kernel_rfl) (fun K hK=>?_) aC.nil;go_simp
            refine hK.out _ _ ?_;clear hK K;refine fQ (by kernel_rfl) ?_ _;clear Ap q0 z0 Fy;obtain⟨Z8,ru⟩:∃ Z8,Z8=w8.setCell ⟨w.heap.size+2,0,none⟩ (.slice (some ⟨g8,0,none⟩) (k+1) kI):=⟨_,rfl⟩;obtain⟨Gj,jr,zO⟩:=H8.out;rw[<-ru] at Gj ⊢;have R5:Below w.heap.size w Z8:=by rw[ru];exact zO.setCell (p:=⟨w.heap.size+2,0,none⟩) (by show w.heap.size<=w.heap.size+2;omega) _
            have WW:w.heap.size+3<=Z8.heap.size:=by rw[ru,World.size_setCell];exact UE.out
            have R6:Below (w.heap.size+2) w7 Z8:=by rw[ru];exact jr.setCell (p:=⟨w.heap.size+2,0,none⟩) (Nat.le_refl _) _
            have ags:Hid (∀ v m ys,w7.ownsRow (w.heap.size+3) 71 2 v m ys->Z8.ownsRow (w.heap.size+3) 71 2 v m ys):=fun v m ys hv=>by rw[ru];exact dh (acr.out v m ys hv) (by omega)
            have Nw:=(show Hid _ from Gj);have Fp:=(show Hid _ from And.intro R5 (And.intro WW R6));have HOL:Hid ((Z8.alloc (.cells #[.slice a5 n5 c5] 48)).ownsRow (w.heap.size+3) 48 1 (.slice b4 k e4) k ls):=World.ownsRow.alloc (by have:=Gj.row;rw[nP.out.jS] at this;exact this) _;have nI:Hid (∀ i z,([.slice a5 n5 c5]:List Value)[i]? = some z->(Z8.alloc (.cells #[.slice a5 n5 c5] 48)).cell? ((⟨Z8.heap.size,0,none⟩:Addr).add i)=some z):=World.news_of_block (heap_alloc_new _ _);have H1R:Hid (∀ z∈([.slice a5 n5 c5]:List Value),z.oneCell'=true):=by
             intro z hz;simp at hz;subst hz;rfl
            have s1:Z8.cell? ⟨w.heap.size+2,1,none⟩=some (.slice b4 k e4):=ak Gj.set 1;clear H8 UE acr ru Gj jr zO R5 R6;go_wp2_with (at_builtin;refine wpList_append_lies _ rfl _ _ 96 rfl (w.heap.size+3) 48 iR (.slice none 0 0) 1 24 Tryz.underlying96 NC.out hR0 mo hR2 rfl (by decide) _ _ _ rfl HOL.out ⟨Z8.heap.size,0,none⟩ 1 1 [.slice a5 n5 c5] rfl rfl nI.out H1R.out (by omega) (by unfold maxLen;omega) (by omega) (by simp;omega) _ rfl ?_);intro g9 Ja w9 Ez P8 acs _;have G9:pI (Z8.alloc (.cells #[.slice a5 n5 c5] 48)) w9 (.slice b4 k e4) g9:=⟨P8.os,P8.tape,P8.output,P8.size,fun q hq hne=>P8.block q hq (fun e=>hne e.symm),by simpa using acs⟩;have D5:Below Z8.heap.size Z8 (Z8.alloc (.cells #[.slice a5 n5 c5] 48)):=(Below.refl _ _).alloc (Nat.le_refl _) _;have h9:=Nw.out.list (x:=.slice a5 n5 c5) WW D5 (by rw[nP.out.jS];exact Ez) G9;rw[nP.out.jS] at h9;have q1:w9.cell? ⟨w.heap.size+2,1,none⟩=some (.slice b4 k e4):=ak h9.1 1;have z1:w9.frozen? ⟨w.heap.size+2,1,none⟩=false:=by simp[World.frozen?,h9.1]
            have fB:Hid (BN w (w9.setCell ⟨w.heap.size+2,1,none⟩ (.slice (some ⟨g9,0,none⟩) (k+1) Ja)) f s (some ⟨g1,o1,none⟩) (some ⟨g2,o2,none⟩) n c1 c2 ss cs (k+1) (.slice (some ⟨g8,0,none⟩) (k+1) kI) (.slice (some ⟨g9,0,none⟩) (k+1) Ja) (ls ++ [.slice a5 n5 c5])):=by
             obtain⟨R5,_,R6⟩:=Fp.out;have nG:Below (w.heap.size+2) w7 w9:=R6.trans (h9.2.1.mono (Nat.le_succ _));have hpz:∀ v m ys,w7.ownsRow (w.heap.size+3) 71 2 v m ys->(w9.setCell ⟨w.heap.size+2,1,none⟩ (.slice (some ⟨g9,0,none⟩) (k+1) Ja)).ownsRow (w.heap.size+3) 71 2 v m ys:=fun v m ys hv=>dh (EA G9 HOL.out (bN (ags.out v m ys hv) D5) (by decide)) (by omega)
             refine⟨dH.out,?_,?_,by rw[List.take_succ_eq_append_getElem hks];exact h9.2.2,by simp[nP.out.jS],fun i hi=>?_,(R5.trans (h9.2.1.mono (by omega))).setCell (p:=⟨w.heap.size+2,1,none⟩) (by show w.heap.size<=w.heap.size+2;omega) _,by rw[World.size_setCell];exact Nat.le_trans WW (Nat.le_trans D5.size G9.size)⟩
             ·rw[Below.heap_setCell _ _ _ _ (by show w.heap.size≠w.heap.size+2;omega),nG.block _ (by omega)];exact nP.out.bb
             ·rw[Below.heap_setCell _ _ _ _ (by show w.heap.size+1≠w.heap.size+2;omega),nG.block _ (by omega)];exact nP.out.r2
             ·rcases Nat.lt_or_ge i k with h | h
              ·obtain⟨v,h1,h2⟩:=nP.out.pts i h;exact⟨v,by rw[List.getElem?_append_left (by rw[nP.out.jS];exact h)];exact h1,hpz _ _ _ h2⟩
              ·obtain rfl:i=k:=by omega
               refine⟨.slice a5 n5 c5,by rw[List.getElem?_append_right (by rw[nP.out.jS];exact Nat.le_refl _),nP.out.jS];simp,?_⟩;rw[zn.out,<-DU.out.2];exact hpz _ _ _ uG.out
            clear Ez P8 acs G9 D5 h9;go_wp2;go_roundw;case rel=>exact⟨k+1,_,_,_,by omega,by go_num,fB.out⟩
            case measure=>simp[intOf]<;>omega
         ·have Aq:=(show Hid _ from wZ.out.below hb5);clear y0 y1 y2 y3 y4 y5 y6 hb5 dK x6;obtain⟨y0,y1,y2,y3,y4,y5,y6⟩:=Aq.out.cells;obtain⟨UC,UG⟩:∃ UC,UC=pF cs[k]:=⟨_,rfl⟩;have hU0:0<=UC:=by rw[UG];exact Hl _
          have mW:Hid (UC≠0):=by rw[UG];exact NA
          have d5:(UC==0)=false:=by simpa using mW.out
          have d6:decide (0<UC)=true:=decide_eq_true (by have:=mW.out;omega);have HM:=(show Hid _ from HAT.out UC (by rw[HRW.out,<-UG,if_pos mW.out]) mW.out);have jO:=(show Hid _ from vv Aq.out.r2 Aq.out.aM UC k);have HIS:=(show Hid _ from yh w5 none 0 [] f s R3.out (.inl rfl) (by simp));rw[<-UG];clear UG NA;dsimp only
          go_wp2_with fail;refine Calls.mono HIS.out ?_;rintro e w7 ⟨rfl,hw7⟩;have FR:=hw7;subst FR;clear hw7 HIS;dsimp only
          go_wp2;exact HZ.out _ UC k jO.out HM.out mW.out _ rfl rfl rfl
     ·obtain rfl:k=n:=by omega
      have hge:(k:Int)<=(k:Int):=Int.le_refl _;have qD:Hid (eZ f s ss cs=0/\kG f s ss cs = -1):=Eu HG.out (by rw[Yt.out,HN.out]) fun j hj=>DY.out.ok j (by have:=HN.out;omega)
      have HFN:Hid (∀ z,Calls Tryz.prog 53 #[] z fun e w'=>e = .returned (.agg #[.int .i64 0,.int .i64 (-1)])/\Below z.heap.size z w'):=fun z=>AX z
      go_wp2_with fail;refine Calls.mono (HFN.out _) ?_;rintro e w9 ⟨rfl,nG⟩;have Ny:=(show Hid _ from DY.out.below nG);clear y0 y1 y2 y3 y4 y5 y6 nG;obtain⟨y0,y1,y2,y3,y4,y5,y6⟩:=Ny.out.cells;dsimp only
      go_wp2;refine xZ.out w9 _ _ _ Ny.out qD.out.1 _ rfl rfl rfl
   ·have d3:((n:Int)==(m:Int))=false:=by rw[beq_eq_false_iff_ne];omega
    have HM:Hid (eZ f s ss cs=3/\kG f s ss cs = -1):=Nz.out HG.out (by rw[HN.out,Yt.out];exact fun h=>hnm h.symm);clear Jc Nz Fw hnm;go_wp2_with fail;refine Calls.mono (gY.out 3 w1) ?_;rintro e w2 ⟨rfl,hb2⟩;obtain⟨hz,p0,p1,p2⟩:=iI.out 3 w2 hb2;have jO:=(show Hid _ from hz);clear hb2 hz;dsimp only
    go_wp2;exact HZ.out _ 3 (-1) jO.out HM.out (by decide) _ rfl rfl rfl
 ·have HM:Hid (eZ f s ss cs=2/\kG f s ss cs = -1):=Jc.out (.inl (by rw[<-PX.out];decide));clear Jc Nz;go_wp2_with fail;refine Calls.mono (gY.out 2 w1) ?_;rintro e w2 ⟨rfl,hb2⟩;obtain⟨hz,p0,p1,p2⟩:=iI.out 2 w2 hb2;have jO:=(show Hid _ from hz);clear hb2 hz;dsimp only
  go_wp2;exact HZ.out _ 2 (-1) jO.out HM.out (by decide) _ rfl rfl rfl
end Go.Proofs.YtdlceolmpcjjiaaGreatDoor
namespace Go.Proofs.YtdlceolmpcjjiaaGreatDoor
open bT ow
theorem P9 {l:List Rw} {k:List UInt8} {x:Int×Nat} (h:x∈lU l k):∃ r,r∈l/\lU l k=r.2:=by
 induction l with
 | nil=>cases h
 | cons r l ih=>
  rw[show lU (r::l) k=if r.1=k then r.2 else lU l k from rfl] at h ⊢;by_cases e:r.1=k
  ·rw[if_pos e];exact⟨r,List.mem_cons_self ..,rfl⟩
  ·rw[if_neg e] at h ⊢;obtain⟨q,hq,he⟩:=ih h;exact⟨q,List.mem_cons_of_mem _ hq,he⟩
theorem Qa {l:List Rw} {k:List UInt8} {m:Nat} (h:∀ r,r∈l->r.2.length<=m):(lU l k).length<=m:=by
 cases hx:lU l k with
 | nil=>exact Nat.zero_le _
 | cons x t=>
  obtain⟨r,hr,e⟩:=P9 (l:=l) (k:=k) (x:=x) (by rw[hx];exact List.mem_cons_self ..);rw[<-hx,e];exact h r hr
theorem Ij.ZM {f s:Int} {F:List Rw} (h:Ij f s F) (lo hi:Int) (k:List UInt8):(aY lo hi (lU F k)).length<=120:=Nat.le_trans (sP _ _ _) (Qa fun r hr=>(fE (h.well.each r hr).2.1).1)
theorem Ij.acu {f s:Int} {F:List Rw} (h:Ij f s F) (lo hi:Int) (k:List UInt8):oU (aY lo hi (lU F k)):=fun p hp=>by
 have h1:=(List.mem_filter.1 hp).1;obtain⟨r,hr,e⟩:=P9 h1;exact h.bits r hr p (e ▸ h1)
end Go.Proofs.YtdlceolmpcjjiaaGreatDoor
namespace Go.Proofs.YtdlceolmpcjjiaaGreatDoor
open Go.RowKit Go.Maps bT bF
theorem R8 (w:World) (sb:Nat) (rows:List (List UInt8×List (Int×Nat))) (h:wT w sb rows) (hu:(rows.map Prod.fst).Pairwise (· < ·)) (hn:rows.length<=1000) (nm:ByteArray) :
  Calls Tryz.prog 23 #[.pointer (some ⟨sb,0,none⟩),.string nm] w fun e w'=>w'=w/\∃ a c,e = .returned (.slice a (lU rows nm.data.toList).length c)/\iM w a (lU rows nm.data.toList):=by
 obtain⟨a,c,b,d,h1,h2,h3⟩:=h.ex;have hV:∀ i,i<rows.length->∃ A C,w.cell? ⟨(b.getD ⟨0,0,none⟩).block,i,none⟩=some (.slice A (rows.getD i ([],[])).2.length C)/\iM w A (rows.getD i ([],[])).2:=fun i hi=>by
  obtain⟨g,e,A,C,hc,hp⟩:=h3 i hi;refine⟨A,C,?_,?_⟩
  ·rw[e];simpa [List.getD_eq_getElem?_getD,hi] using hc
  ·simpa [List.getD_eq_getElem?_getD,hi] using hp
 have hset:ab9 w sb rows.length (fun i=>txt (rows.getD i ([],[])).1) (fun i=>(w.cell? ⟨(b.getD ⟨0,0,none⟩).block,i,none⟩).getD undef):=by
  refine⟨⟨a,c,b,d,ak h1 0,ak h1 1,fun i hi=>⟨?_,?_⟩⟩,fun i hi=>?_⟩
  ·obtain⟨g,e,hc⟩:=h2 i hi;refine⟨g,0,e,?_⟩;rw[Nat.zero_add,hc];simp[List.getD_eq_getElem?_getD,hi,encStr,txt]
  ·obtain⟨g,e,A,C,hc,hp⟩:=h3 i hi;refine⟨g,0,e,?_⟩;rw[Nat.zero_add,e];simp[hc]
  ·obtain⟨A,C,hc,_⟩:=hV i hi;exact⟨A,_,C,by rw[hc];rfl⟩
 refine (Uv w sb rows.length _ _ hset (by omega) nm).mono ?_;rintro e w' ⟨⟨i,hi,hx,_,rfl⟩|⟨hno,rfl⟩,rfl⟩
 ·refine⟨rfl,?_⟩;dsimp only at hx ⊢;obtain⟨A,C,hc,hp⟩:=hV i hi;have hg:rows.getD i ([],[])=rows[i]:=by simp[List.getD_eq_getElem?_getD,hi]
  rw[hg] at hc hp hx;have ho:lU rows nm.data.toList=rows[i].2:=by
   rw[<-hx];exact ab8 hu hi
  rw[ho];exact⟨A,C,by rw[hc];rfl,hp⟩
 ·refine⟨rfl,none,0,?_,?_⟩;all_goals
   have ho:lU rows nm.data.toList = []:=by
    refine F7 fun j hj e=>hno j hj ?_
    have hg:rows.getD j ([],[])=rows[j]:=by simp[List.getD_eq_getElem?_getD,hj]
    show txt (rows.getD j ([],[])).1=nm;rw[hg,e];exact vg nm
   rw[ho]
  ·rfl
  ·exact .inl rfl
end Go.Proofs.YtdlceolmpcjjiaaGreatDoor
