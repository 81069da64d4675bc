import Derived.Test.YtcemkhalbjhdkaaGreatDoorMdAtGroup
import Derived.Test.YtcemkhalbjhdkaaGreatDoorBlkTwoGroup
import Derived.Deep.CutRange
import Derived.Test.YtcemkhalbjhdkaaGreatDoorBlkRowsGroup
set_option maxRecDepth 1000000
set_option maxHeartbeats 8000000
namespace Go.Proofs.YtcemkhalbjhdkaaGreatDoor
open Go.RowKit Go.Maps bS bD
structure wS (w:World) (sb:Nat) (rows:List (List UInt8×List (Int×Nat))):Prop where
 ex:∃ a c b d,w.heap[sb]? = some (.cells #[.slice a rows.length c,.slice b rows.length d] 96 (0,0)) /\
  (∀ i (hi:i<rows.length),∃ g,a=some ⟨g,0,none⟩/\w.cell? ⟨g,i,none⟩=some (encStr rows[i].1)) /\
  (∀ i (hi:i<rows.length),∃ g,b=some ⟨g,0,none⟩/\∃ A C,w.cell? ⟨g,i,none⟩=some (.slice A rows[i].2.length C)/\iK w A rows[i].2)
theorem wS.below {w z:World} {sb:Nat} {rows:List (List UInt8×List (Int×Nat))} (h:wS w sb rows) (hb:Below w.heap.size w z):wS z sb rows:=by
 obtain⟨a,c,b,d,h1,h2,h3⟩:=h.ex;refine⟨a,c,b,d,(hb.block _ (aG h1)).trans h1,fun i hi=>?_,fun i hi=>?_⟩
 ·obtain⟨g,e,hc⟩:=h2 i hi;exact⟨g,e,(hb.cell (p:=⟨g,i,none⟩) (World.block_lt_of_cell? w ⟨g,i,none⟩ hc)).trans hc⟩
 ·obtain⟨g,e,A,C,hc,hp⟩:=h3 i hi;exact⟨g,e,A,C,(hb.cell (p:=⟨g,i,none⟩) (World.block_lt_of_cell? w ⟨g,i,none⟩ hc)).trans hc,hp.below hb⟩
structure nJ (w:World) (base sb:Nat) (vs vl:Value) (ss:List (List UInt8)) (ls:List Value):Prop where
 set:w.heap[sb]? = some (.cells #[vs,vl] 96 (0,0))
 low:sb<base
 names:w.ownsRow base 9 1 vs ss.length (ss.map encStr)
 row:w.ownsRow base 48 1 vl ls.length ls
theorem nJ.below {w z:World} {base sb:Nat} {vs vl:Value} {ss:List (List UInt8)} {ls:List Value} (h:nJ w base sb vs vl ss ls) (hb:Below w.heap.size w z):nJ z base sb vs vl ss ls:=
 ⟨(hb.block _ (aG h.set)).trans h.set,h.low,bM h.names hb,bM h.row hb⟩
theorem cZ {z:World} {base tb k:Nat} {e:TypeId} {sz:Nat} {v u:Value} {n:Nat} {xs:List Value} (h:z.ownsRow base e sz v n xs) (hl:tb<base):(z.setCell ⟨tb,k,none⟩ u).ownsRow base e sz v n xs:=dA h fun g hg=>by
 have:=(bC h hg).1;exact Below.heap_setCell _ _ _ _ (by show g≠tb;omega)
theorem nJ.name {w Y z:World} {base sb:Nat} {vs vl:Value} {ss:List (List UInt8)} {ls:List Value} (h:nJ w base sb vs vl ss ls) {x:List UInt8} {g cap:Nat} (hbase:base<=w.heap.size) (h1:Below w.heap.size w Y) (o:z.ownsRow base 9 1 (.slice (some ⟨g,0,none⟩) (ss.length+1) cap) (ss.length+1) (ss.map encStr ++ [encStr x])) (G:pG Y z vs g) :
  z.heap[sb]? = some (.cells #[vs,vl] 96 (0,0))/\Below base w z/\nJ (z.setCell ⟨sb,0,none⟩ (.slice (some ⟨g,0,none⟩) (ss.length+1) cap)) base sb (.slice (some ⟨g,0,none⟩) (ss.length+1) cap) vl (ss ++ [x]) ls:=by
 have hlow:=h.low;have s1:=h1.size;have b1:Below base w z:=(h1.mono hbase).trans (G.below (by omega) fun q hq=>(bC h.names hq).1);have ht:=(b1.block sb hlow).trans h.set;have hr:z.ownsRow base 48 1 vl ls.length ls:=dA h.row fun g' hg'=>by
  obtain⟨_,q2,cur,hc⟩:=bC h.row hg';refine (G.blk g' (by omega) fun e=>?_).trans (h1.block g' q2);obtain⟨_,_,aci,hc2⟩:=bC h.names e;exact rT hc hc2 (by decide) rfl
 refine⟨ht,b1,⟨(dM ht 0 _).trans (by rfl),hlow,?_,cZ hr hlow⟩⟩;have:=cZ (k:=0) (u:=.slice (some ⟨g,0,none⟩) (ss.length+1) cap) o hlow;simpa using this
theorem nJ.list {w Y z:World} {base sb:Nat} {vs vl:Value} {ss:List (List UInt8)} {ls:List Value} (h:nJ w base sb vs vl ss ls) {x:Value} {g cap:Nat} (hbase:base<=w.heap.size) (h1:Below w.heap.size w Y) (o:z.ownsRow base 48 1 (.slice (some ⟨g,0,none⟩) (ls.length+1) cap) (ls.length+1) (ls ++ [x])) (G:pG Y z vl g) :
  z.heap[sb]? = some (.cells #[vs,vl] 96 (0,0))/\Below base w z/\nJ (z.setCell ⟨sb,1,none⟩ (.slice (some ⟨g,0,none⟩) (ls.length+1) cap)) base sb vs (.slice (some ⟨g,0,none⟩) (ls.length+1) cap) ss (ls ++ [x]):=by
 have hlow:=h.low;have s1:=h1.size;have b1:Below base w z:=(h1.mono hbase).trans (G.below (by omega) fun q hq=>(bC h.row hq).1);have ht:=(b1.block sb hlow).trans h.set;have hr:z.ownsRow base 9 1 vs ss.length (ss.map encStr):=dA h.names fun g' hg'=>by
  obtain⟨_,q2,cur,hc⟩:=bC h.names hg';refine (G.blk g' (by omega) fun e=>?_).trans (h1.block g' q2);obtain⟨_,_,aci,hc2⟩:=bC h.row e;exact rT hc hc2 (by decide) rfl
 refine⟨ht,b1,⟨(dM ht 1 _).trans (by rfl),hlow,cZ hr hlow,?_⟩⟩;have:=cZ (k:=1) (u:=.slice (some ⟨g,0,none⟩) (ls.length+1) cap) o hlow;simpa using this
theorem WX {w:World} {base:Nat} {e:TypeId} {v:Value} {xs:List Value} (h:w.ownsRow base e 1 v xs.length xs):∃ a c,v = .slice a xs.length c/\∀ k (hk:k<xs.length),∃ g,a=some ⟨g,0,none⟩/\w.cell? ⟨g,k,none⟩=some xs[k]:=by
 rcases h.2 with⟨hv,h0⟩|⟨g,cap,cur,hv,hg,hh,h1,h2,h3,h4⟩
 ·exact⟨none,0,by rw[hv,h0],fun k hk=>absurd hk (by omega)⟩
 ·refine⟨_,_,hv,fun k hk=>⟨g,rfl,?_⟩⟩;have e0:w.cell? ⟨g,k,none⟩=cur[k]?:=by simp[World.cell?,hh]
  rw[e0,<-Array.getElem?_toList,<-List.getElem?_eq_getElem hk];conv=>rhs;rw[<-h4]
  rw[List.getElem?_take_of_lt (by omega)]
theorem nJ.done {w:World} {base sb:Nat} {vs vl:Value} {rows:List (List UInt8×List (Int×Nat))} {ls:List Value} (h:nJ w base sb vs vl (rows.map Prod.fst) ls) (hl:ls.length=rows.length) (hp:∀ i (hi:i<rows.length),∃ A C,ls[i]? = some (.slice A rows[i].2.length C)/\iK w A rows[i].2):wS w sb rows:=by
 obtain⟨a,c,h1,hc⟩:=uZ h.names;obtain⟨b,d,h2,hd⟩:=WX h.row;have hs:=h.set;rw[h1,h2,hl,List.length_map] at hs;refine⟨a,c,b,d,hs,fun i hi=>?_,fun i hi=>?_⟩
 ·obtain⟨g,e,hg⟩:=hc i (by simpa using hi);exact⟨g,e,by rw[hg];simp⟩
 ·obtain⟨g,e,hg⟩:=hd i (by omega);obtain⟨A,C,hA,hP⟩:=hp i hi;rw[List.getElem?_eq_getElem (by omega)] at hA;exact⟨g,e,A,C,by rw[hg,Option.some.inj hA],hP⟩
theorem Tryz.infoPts3:(Tryz.prog.info? 48).map (fun i=>(i.zero,i.size,i.bytes))=some (some (.slice none 0 0),1,24):=by kernel_rfl
end Go.Proofs.YtcemkhalbjhdkaaGreatDoor
namespace Go.Proofs.YtcemkhalbjhdkaaGreatDoor
open Go.RowKit Go.Maps bS bD
theorem acj (w:World) (la:Option Addr) (c:Nat) (l:List (Int×Nat)) (hP:iK w la l) (hin:oQ l) (hn:l.length<=1000) :
  Calls Tryz.prog 48 #[.slice la l.length c] w fun e w'=>∃ A:Int,e = .returned (.agg #[.int .i64 (fF l),.int .i64 A])/\Below w.heap.size w w':=by
 by_cases h:120<l.length
 ·have hc:fF l=2:=by unfold fF;rw[if_pos h]
  refine (OG w la l.length c h (by omega)).mono ?_;rintro e w' ⟨rfl,hb⟩;exact⟨-1,by rw[hc],hb⟩
 ·obtain⟨g,g1,g2⟩:=nT (dZ (dY l)) l.length;refine (CQ w la l.length c (dY l) (pq l) (qV hP hin) (by omega) _ g g1 g2 _ _ rfl rfl).mono ?_;rintro e w' ⟨rfl,hb⟩;exact⟨_,by unfold fF Ew;rw[if_neg h],hb⟩
theorem acn (w:World) (la:Option Addr) (c:Nat) (l:List (Int×Nat)) (hP:iK w la l) (hin:oQ l) (hz:fF l=0) :
  Calls Tryz.prog 50 #[.slice la l.length c] w fun e w'=>e = .returned (encStr (iJ l))/\Below w.heap.size w w':=by
 obtain⟨h1,h2⟩:=fD hz;refine (OV w la l.length c (dY l) (pq l) (qV hP hin) (by omega) fun i hi=>?_).mono ?_
 ·have:=h2 i hi;simp only[dZ,Bool.and_eq_true,gD] at this;omega
 ·rintro e w' ⟨rfl,hb⟩;exact⟨rfl,hb⟩
def ad3 (w w':World) (c:List UInt8) (e:Ending):Prop:=
 Below w.heap.size w w'/\((pE c=0/\∃ v,e = .returned (.tuple #[v,.int .i64 0])/\w'.ownsRow w.heap.size 67 2 v (gV c).length (aF (gV c)))\/(pE c≠0/\e = .returned (.tuple #[.slice none 0 0,.int .i64 (pE c)])))
theorem aco (w:World) (s:ByteArray) (hs:s.size<=10000) :
  Calls Tryz.prog 54 #[.string s] w fun e w'=>ad3 w w' s.data.toList e:=by
 refine (OW s w hs).mono ?_;rintro e w' ⟨hb,⟨n,T,Bt,v,hn,hT,Un,hl,hown,rfl⟩|⟨c,hnot,hc,rfl⟩⟩
 ·have hch:dI s.data.toList:=⟨n,T,Bt,hn,hT,Un,hl⟩;have hu:gV s.data.toList=ku T Bt n:=by
   rw[hl,<-Bv];refine Jb (xP (by rw[iW];exact hn) fun i hi=>?_) fun p hp=>?_
   ·rw[iW] at hi;rw[sW _ T n (fun j hj=>rD T Bt n j hj) i hi];exact hT i hi
   ·simp[ku] at hp;obtain⟨i,hi,rfl⟩:=hp;exact Un i hi
  refine⟨hb,.inl ⟨qh.2 hch,v,rfl,?_⟩⟩;rw[hu,iW,rR];exact hown
 ·have hu:pE s.data.toList=(c:Int):=by
   rw[PN hnot,hc];split
   ·rfl
   ·split<;>rfl
  refine⟨hb,.inr ⟨fun h=>hnot (qh.1 h),by rw[hu]⟩⟩
structure yN (w:World) (base tb:Nat) (f s:Int) (u1 u2:Value) (ss cs:List (List UInt8)):Prop where
 blk:w.heap[tb]? = some (.cells #[.int .i64 f,.int .i64 s,u1,u2] 30 (0,0))
 low:tb<base
 lY:w.ownsRow base 9 1 u1 ss.length (ss.map encStr)
 mM:w.ownsRow base 9 1 u2 cs.length (cs.map encStr)
 apart:∀ g,u1.ownBlock=some g->u2.ownBlock≠some g
theorem yN.below {w z:World} {base tb:Nat} {f s:Int} {u1 u2:Value} {ss cs:List (List UInt8)} (h:yN w base tb f s u1 u2 ss cs) (hb:Below w.heap.size w z):yN z base tb f s u1 u2 ss cs:=
 ⟨(hb.block _ (aG h.blk)).trans h.blk,h.low,bM h.lY hb,bM h.mM hb,h.apart⟩
theorem yN.first {w Y z:World} {base tb:Nat} {f s:Int} {u1 u2:Value} {ss cs:List (List UInt8)} (h:yN w base tb f s u1 u2 ss cs) {x:List UInt8} {g cap:Nat} (hbase:base<=w.heap.size) (h1:Below w.heap.size w Y) (o:z.ownsRow base 9 1 (.slice (some ⟨g,0,none⟩) (ss.length+1) cap) (ss.length+1) (ss.map encStr ++ [encStr x])) (G:pG Y z u1 g) :
  z.heap[tb]? = some (.cells #[.int .i64 f,.int .i64 s,u1,u2] 30 (0,0))/\Below base w z/\yN (z.setCell ⟨tb,2,none⟩ (.slice (some ⟨g,0,none⟩) (ss.length+1) cap)) base tb f s (.slice (some ⟨g,0,none⟩) (ss.length+1) cap) u2 (ss ++ [x]) cs:=by
 have hlow:=h.low;have s1:=h1.size;have b1:Below base w z:=(h1.mono hbase).trans (G.below (by omega) fun q hq=>(bC h.lY hq).1);have ht:=(b1.block tb hlow).trans h.blk;have hr:z.ownsRow base 9 1 u2 cs.length (cs.map encStr):=dA h.mM fun g' hg'=>by
  obtain⟨_,q2,cur,hc⟩:=bC h.mM hg';exact (G.blk g' (by omega) fun e=>h.apart g' e hg').trans (h1.block g' q2)
 refine⟨ht,b1,⟨(dM ht 2 _).trans (by rfl),hlow,?_,cZ hr hlow,fun g' e1 e2=>?_⟩⟩
 ·have:=cZ (k:=2) (u:=.slice (some ⟨g,0,none⟩) (ss.length+1) cap) o hlow;simpa using this
 ·simp[Value.ownBlock] at e1;subst e1;rcases G.at' with e | e
  ·exact h.apart g e e2
  ·have:=(bC h.mM e2).2.1;omega
theorem yN.second {w Y z:World} {base tb:Nat} {f s:Int} {u1 u2:Value} {ss cs:List (List UInt8)} (h:yN w base tb f s u1 u2 ss cs) {x:List UInt8} {g cap:Nat} (hbase:base<=w.heap.size) (h1:Below w.heap.size w Y) (o:z.ownsRow base 9 1 (.slice (some ⟨g,0,none⟩) (cs.length+1) cap) (cs.length+1) (cs.map encStr ++ [encStr x])) (G:pG Y z u2 g) :
  z.heap[tb]? = some (.cells #[.int .i64 f,.int .i64 s,u1,u2] 30 (0,0))/\Below base w z/\yN (z.setCell ⟨tb,3,none⟩ (.slice (some ⟨g,0,none⟩) (cs.length+1) cap)) base tb f s u1 (.slice (some ⟨g,0,none⟩) (cs.length+1) cap) ss (cs ++ [x]):=by
 have hlow:=h.low;have s1:=h1.size;have b1:Below base w z:=(h1.mono hbase).trans (G.below (by omega) fun q hq=>(bC h.mM hq).1);have ht:=(b1.block tb hlow).trans h.blk;have hr:z.ownsRow base 9 1 u1 ss.length (ss.map encStr):=dA h.lY fun g' hg'=>by
  obtain⟨_,q2,cur,hc⟩:=bC h.lY hg';exact (G.blk g' (by omega) fun e=>h.apart g' hg' e).trans (h1.block g' q2)
 refine⟨ht,b1,⟨(dM ht 3 _).trans (by rfl),hlow,cZ hr hlow,?_,fun g' e1 e2=>?_⟩⟩
 ·have:=cZ (k:=3) (u:=.slice (some ⟨g,0,none⟩) (cs.length+1) cap) o hlow;simpa using this
 ·simp[Value.ownBlock] at e2;subst e2;rcases G.at' with e | e
  ·exact h.apart g e1 e
  ·have:=(bC h.lY e1).2.1;omega
theorem set2 {z:World} {b:Nat} {p0 p1:Value} {t:TypeId} (h:z.heap[b]? = some (.cells #[p0,p1] t (0,0))) (v0 v1:Value):((z.setCell ⟨b,0,none⟩ v0).setCell ⟨b,1,none⟩ v1).heap[b]? = some (.cells #[v0,v1] t (0,0)):=by
 have e1:=(dM h 0 v0).trans (show _=some (Obj.cells #[v0,p1] t (0,0)) by rfl);exact (dM e1 1 v1).trans (by rfl)
end Go.Proofs.YtcemkhalbjhdkaaGreatDoor
namespace Go.Proofs.YtcemkhalbjhdkaaGreatDoor
open Go.RowKit Go.Maps bS
theorem Pe (w:World) (f s:Int) (a1 a2:Option Addr) (n1 c1 n2 c2:Nat) :
  Calls Tryz.prog 11 #[.agg #[.int .i64 f,.int .i64 s,.slice a1 n1 c1,.slice a2 n2 c2]] w fun e w'=>e = .returned (.agg #[.int .i64 f,.int .i64 s,.slice a1 n1 c1,.slice a2 n2 c2])/\Below w.heap.size w w':=by
 obtain⟨W,hW⟩:∃ W,W=(w.alloc (.cells #[.int .i64 f,.int .i64 s,.slice a1 n1 c1,.slice a2 n2 c2] 25)).alloc (.cells #[.int .i64 0,.int .i64 0,.slice none 0 0,.slice none 0 0] 30):=⟨_,rfl⟩;have hbW:Below w.heap.size w W:=by rw[hW];exact ((Below.refl _ _).alloc (Nat.le_refl _) _).alloc (by simp) _
 have hs1:(w.alloc (.cells #[.int .i64 f,.int .i64 s,.slice a1 n1 c1,.slice a2 n2 c2] 25)).heap.size=w.heap.size+1:=by simp
 have hx:W.heap[w.heap.size]? = some (.cells #[.int .i64 f,.int .i64 s,.slice a1 n1 c1,.slice a2 n2 c2] 25 (0,0)):=by
  rw[hW];exact (heap_alloc_old _ _ (by rw[hs1];omega)).trans (heap_alloc_new _ _)
 have hy:W.heap[w.heap.size+1]? = some (.cells #[.int .i64 0,.int .i64 0,.slice none 0 0,.slice none 0 0] 30 (0,0)):=by
  rw[hW,<-hs1];exact heap_alloc_new _ _
 have x0:W.cell? ⟨w.heap.size,0,none⟩=some (.int .i64 f):=ak hx 0;have x1:W.cell? ⟨w.heap.size,1,none⟩=some (.int .i64 s):=ak hx 1;have x2:W.cell? ⟨w.heap.size,2,none⟩=some (.slice a1 n1 c1):=ak hx 2;have x3:W.cell? ⟨w.heap.size,3,none⟩=some (.slice a2 n2 c2):=ak hx 3;have y0:W.cell? ⟨w.heap.size+1,0,none⟩=some (.int .i64 0):=ak hy 0;have y1:W.cell? ⟨w.heap.size+1,1,none⟩=some (.int .i64 0):=ak hy 1;have y2:W.cell? ⟨w.heap.size+1,2,none⟩=some (.slice none 0 0):=ak hy 2;have y3:W.cell? ⟨w.heap.size+1,3,none⟩=some (.slice none 0 0):=ak hy 3;have pf:∀ k,W.frozen? ⟨w.heap.size+1,k,none⟩=false:=fun k=>by simp[World.frozen?,hy]
 have HY:=(show Hid _ from hy);have HB:=(show Hid _ from hbW);have HW:=(show Hid _ from hW);clear hx hy hbW hs1 hW;go_enter Tryz.func11,Tryz.ntmps11;go_upto_region 1 with fail;rw[<-HW.out];go_wp2;obtain⟨Z,hZ⟩:∃ Z,Z=((((W.setCell ⟨w.heap.size+1,0,none⟩ (.int .i64 f)).setCell ⟨w.heap.size+1,1,none⟩ (.int .i64 s)).setCell ⟨w.heap.size+1,2,none⟩ (.slice a1 n1 c1)).setCell ⟨w.heap.size+1,3,none⟩ (.slice a2 n2 c2)):=⟨_,rfl⟩;rw[<-hZ];have kM:Z.heap[w.heap.size+1]? = some (.cells #[.int .i64 f,.int .i64 s,.slice a1 n1 c1,.slice a2 n2 c2] 30 (0,0)):=by rw[hZ];exact oh HY.out _ _ _ _
 have hzb:Below w.heap.size w Z:=by rw[hZ];exact gH HB.out (by omega) _ _ _ _
 have z0:Z.cell? ⟨w.heap.size+1,0,none⟩=some (.int .i64 f):=ak kM 0;have z1:Z.cell? ⟨w.heap.size+1,1,none⟩=some (.int .i64 s):=ak kM 1;have z2:Z.cell? ⟨w.heap.size+1,2,none⟩=some (.slice a1 n1 c1):=ak kM 2;have z3:Z.cell? ⟨w.heap.size+1,3,none⟩=some (.slice a2 n2 c2):=ak kM 3;clear hZ kM;refine bodyPost_ret (v:=.agg #[.int .i64 f,.int .i64 s,.slice a1 n1 c1,.slice a2 n2 c2]) (by simp[results,Tryz.results11,go_sem,z0,z1,z2,z3]) rfl ⟨rfl,hzb⟩
end Go.Proofs.YtcemkhalbjhdkaaGreatDoor
namespace Go.Proofs.YtcemkhalbjhdkaaGreatDoor
open Go.RowKit Go.Maps bS
theorem ZP {l:List (Int×Nat)} (h:l.length<=120):(iJ l).length<=10000:=by
 have h1:=qp (dY l) (pq l) l.length;have h3:(iJ l).length=(aj.pack (bE (dY l) (pq l) l.length)).length+4:=by rw[iJ,bU,aj.dP,List.length_append,wJ]
 rw[aj.qM] at h3;omega
def kH:List (List UInt8×List (Int×Nat)):=[([110,61,97],[(3,7)])]
theorem Fx:nZ 0 10 kH:=by
 refine⟨by decide,by decide,List.pairwise_singleton _ _,fun r hr=>?_⟩;simp[kH] at hr;subst hr;exact⟨Wt,xP (by decide) (by decide),by decide⟩
theorem Pf:full kH=kH:=by decide
theorem Pg {B:Nat} {ea:Nat->Addr} (w:World) (E:og B ea w) (hB:B<=w.heap.size) :
  Calls Tryz.prog 6 #[] w fun e w'=>e = .returned (.bool true)/\Below w.heap.size w w':=by
 obtain⟨W,hW⟩:∃ W,W=(w.alloc (.cells #[.int .i64 3,.int .u64 7] 67)).alloc (.cells #[.string ⟨#[110,61,97]⟩,.slice (some ⟨w.heap.size,0,none⟩) 1 1] 69):=⟨_,rfl⟩;have hbW:Below w.heap.size w W:=by rw[hW];exact ((Below.refl _ _).alloc (Nat.le_refl _) _).alloc (by simp) _
 have hs1:(w.alloc (.cells #[.int .i64 3,.int .u64 7] 67)).heap.size=w.heap.size+1:=by simp
 have hx:W.heap[w.heap.size]? = some (.cells #[.int .i64 3,.int .u64 7] 67 (0,0)):=by
  rw[hW];exact (heap_alloc_old _ _ (by rw[hs1];omega)).trans (heap_alloc_new _ _)
 have hy:W.heap[w.heap.size+1]? = some (.cells #[.string ⟨#[110,61,97]⟩,.slice (some ⟨w.heap.size,0,none⟩) 1 1] 69 (0,0)):=by
  rw[hW,<-hs1];exact heap_alloc_new _ _
 have hP:pF W (some ⟨w.heap.size+1,0,none⟩) kH:=by
  refine .inr ⟨_,0,rfl,fun k hk=>?_⟩;obtain rfl:k=0:=by simp[kH] at hk;omega
  refine⟨ak hy 0,_,1,ak hy 1,.inr ⟨w.heap.size,0,rfl,fun j hj=>?_⟩⟩;obtain rfl:j=0:=by simp[kH] at hj;omega
  exact⟨ak hx 0,ak hx 1⟩
 have hmk:=Ik W (E.below hbW hB) (Nat.le_trans hB hbW.size) 0 10 (some ⟨w.heap.size+1,0,none⟩) 1 kH hP (fun r hr=>by
  simp[kH] at hr;subst hr;exact⟨fun p hp=>by simp at hp;subst hp;decide,by decide,by decide⟩) (by decide)
 have qC:Hid (Calls Tryz.prog 14 #[.int .i64 0,.int .i64 10,.slice (some ⟨w.heap.size+1,0,none⟩) 1 1] W fun e w'=>PY ea W w' 0 10 kH e):=hmk;have HE:=(show Hid _ from E);have HB:=(show Hid _ from hbW);have HW:=(show Hid _ from hW);clear hx hy hbW hs1 hW hP hmk E;go_enter Tryz.func6,Tryz.ntmps6;go_wp2_with fail;rw[<-HW.out];refine Calls.mono qC.out ?_;rintro e w1 ⟨v,hb1,hf1,⟨hz,u1,u2,rfl,o1,o2⟩|⟨hz,rfl⟩⟩
 ·have hv:=hf1.none hz;subst hv;rw[Pf] at o1 o2;obtain⟨a1,c1,rfl⟩:=aV o1;obtain⟨a2,c2,rfl⟩:=aV o2;have HB1:=(show Hid _ from HB.out.trans (hb1.mono HB.out.size));obtain⟨W2,hW2⟩:∃ W2,W2=w1.alloc (.cells #[.int .i64 0,.int .i64 10,.slice a1 1 c1,.slice a2 1 c2] 25):=⟨_,rfl⟩;have hbW2:Below w1.heap.size w1 W2:=by rw[hW2];exact (Below.refl _ _).alloc (Nat.le_refl _) _
  have hx2:W2.heap[w1.heap.size]? = some (.cells #[.int .i64 0,.int .i64 10,.slice a1 1 c1,.slice a2 1 c2] 25 (0,0)):=by rw[hW2];exact heap_alloc_new _ _
  have HB2:=(show Hid _ from HB1.out.trans (hbW2.mono HB1.out.size));obtain⟨hc,_,_⟩:=ZA Fx (fun r hr=>by simp[kH] at hr;subst hr;exact⟨by simp,fun p hp=>by simp at hp;subst hp;decide⟩);have hck:=zR W2 (HE.out.below HB2.out hB) (Nat.le_trans hB HB2.out.size) 0 10 _ _ _ _ (kH.map Prod.fst) (kH.map fun r=>iJ r.2) (bM (by simpa using o1) hbW2) (bM (by simpa using o2) hbW2) (fun x hx=>by simp[kH] at hx;subst hx;decide) (fun x hx=>by
   simp[kH] at hx;subst hx;exact ZP (by decide)) (by decide) (by decide)
  rw[hc] at hck;have nL:Hid (Calls Tryz.prog 27 #[.agg #[.int .i64 0,.int .i64 10,.slice a1 1 c1,.slice a2 1 c2]] W2 fun e w'=>∃ v,e = .returned v/\Below W2.heap.size W2 w'/\bA ea w' v 0 _):=hck;have x0:W2.cell? ⟨w1.heap.size,0,none⟩=some (.int .i64 0):=ak hx2 0;have x1:W2.cell? ⟨w1.heap.size,1,none⟩=some (.int .i64 10):=ak hx2 1;have x2:W2.cell? ⟨w1.heap.size,2,none⟩=some (.slice a1 1 c1):=ak hx2 2;have x3:W2.cell? ⟨w1.heap.size,3,none⟩=some (.slice a2 1 c2):=ak hx2 3;have HW2:=(show Hid _ from hW2);clear o1 o2 hf1 hb1 hz hW2 hbW2 hx2 hc hck;dsimp only
  go_upto_region 2 with fail;rw[show w1.alloc (.cells #[.int .i64 0,.int .i64 10,.slice a1 kH.length c1,.slice a2 kH.length c2] 25)=W2 from HW2.out.symm];go_wp2_with fail;refine Calls.mono nL.out ?_;rintro e w3 ⟨v3,rfl,hb3,hf3⟩;have hv:=hf3.none rfl;subst hv;have HB3:=(show Hid _ from HB2.out.trans (hb3.mono HB2.out.size));clear hf3 hb3 nL;go_wp2;go_ret;exact⟨rfl,HB3.out⟩
 ·exact absurd (Zz Fx).1 hz
end Go.Proofs.YtcemkhalbjhdkaaGreatDoor
namespace Go.Proofs.YtcemkhalbjhdkaaGreatDoor
open Go.RowKit Go.Maps bS
theorem acp {l:List (List UInt8×List (Int×Nat))} (h:(l.map Prod.fst).Pairwise (· < ·)) {k:Nat} (hk:k<l.length):lT l l[k].1=l[k].2:=
 Nr hk (fun j hj hjk e=>by
  have:=List.pairwise_iff_getElem.1 h j k (by simpa using hj) (by simpa using hk) hjk;simp only[List.getElem_map] at this;rw[e] at this;exact List.lt_irrefl _ this) rfl
def tL (F:List (List UInt8×List (Int×Nat))):List (List UInt8):=F.map fun r=>iJ r.2
theorem rV (F:List (List UInt8×List (Int×Nat))):(tL F).length=F.length:=by simp[tL]
structure Im (f s:Int) (F:List (List UInt8×List (Int×Nat))):Prop where
 well:nZ f s F
 full:full F=F
 some:∀ r,r∈F->r.2 ≠ []/\mo r.2
 bits:∀ r,r∈F->oQ r.2
structure jC (w:World) (b:Nat) (F:List (List UInt8×List (Int×Nat))) (v1 v2:Value):Prop where
 o1:w.ownsRow b 9 1 v1 (F.map Prod.fst).length ((F.map Prod.fst).map encStr)
 o2:w.ownsRow b 9 1 v2 (tL F).length ((tL F).map encStr)
theorem jC.below {w z:World} {b:Nat} {F:List (List UInt8×List (Int×Nat))} {v1 v2:Value} (h:jC w b F v1 v2) (hb:Below w.heap.size w z):jC z b F v1 v2:=⟨bM h.o1 hb,bM h.o2 hb⟩
theorem jC.names {w:World} {b:Nat} {F:List (List UInt8×List (Int×Nat))} {v1 v2:Value} (h:jC w b F v1 v2):∃ a1 c1 a2 c2,v1 = .slice a1 F.length c1/\v2 = .slice a2 F.length c2/\∀ k (hk:k<F.length),∃ g,a1=some ⟨g,0,none⟩/\w.cell? ⟨g,k,none⟩=some (encStr F[k].1):=by
 obtain⟨a1,c1,h1,hc⟩:=uZ h.o1;obtain⟨a2,c2,h2⟩:=aV h.o2;rw[List.length_map] at h1;rw[rV] at h2;refine⟨a1,c1,a2,c2,h1,h2,fun k hk=>?_⟩;obtain⟨g,e,hg⟩:=hc k (by simpa using hk);exact⟨g,e,by rw[hg];simp⟩
theorem UD (w:World) {f s:Int} {F:List (List UInt8×List (Int×Nat))} (vT:F.length<=70) {b b':Nat} {v1 v2 u1 u2:Value} (h:jC w b F v1 v2) (k:jC w b' F u1 u2) :
  Calls Tryz.prog 10 #[.agg #[.int .i64 f,.int .i64 s,v1,v2],.agg #[.int .i64 f,.int .i64 s,u1,u2]] w fun e w'=>e = .returned (.bool true)/\Below w.heap.size w w':=
 R5 w f s b b' b b' v1 u1 v2 u2 (F.map Prod.fst) (tL F) h.o1 k.o1 h.o2 k.o2 (by rw[List.length_map];omega) (by rw[rV];omega)
end Go.Proofs.YtcemkhalbjhdkaaGreatDoor
namespace Go.Proofs.YtcemkhalbjhdkaaGreatDoor
open Go.RowKit Go.Maps bS bD
def Io (b:Bool) (RC:Int) (p n:List UInt8):Prop:=b=true↔RC=0/\¬ p<n
def R6 (w w':World) (f s:Int) (rows:List (List UInt8×List (Int×Nat))) (e:Ending):Prop:=
 Below w.heap.size w w'/\((jL f s rows=0/\∃ u1 u2,e = .returned (.tuple #[.agg #[.int .i64 f,.int .i64 s,u1,u2],.agg #[.int .i64 0,.int .i64 (-1)]])/\jC w' w.heap.size (full rows) u1 u2) \/
  (jL f s rows≠0/\e = .returned (.tuple #[.agg #[.int .i64 0,.int .i64 0,.slice none 0 0,.slice none 0 0],.agg #[.int .i64 (jL f s rows),.int .i64 (sF f s rows)]])))
structure qK (w wr:World) (f s:Int) (rows:List (List UInt8×List (Int×Nat))) (k:Nat) (u1 u2:Value):Prop where
 ok:∀ j,j<k->rowAt f s rows j=0
 r1:wr.heap[w.heap.size]? = some (.cells #[.int .i64 0,.int .i64 0,.slice none 0 0,.slice none 0 0] 30 (0,0))
 r2:wr.heap[w.heap.size+1]? = some (.cells #[.int .i64 0,.int .i64 0] 32 (0,0))
 two:yN wr (w.heap.size+3) (w.heap.size+2) f s u1 u2 ((full (rows.take k)).map Prod.fst) (tL (full (rows.take k)))
 aL:Below w.heap.size w wr
 jF:w.heap.size+3<=wr.heap.size
theorem qK.below {w wr z:World} {f s:Int} {rows:List (List UInt8×List (Int×Nat))} {k:Nat} {u1 u2:Value} (h:qK w wr f s rows k u1 u2) (hb:Below wr.heap.size wr z):qK w z f s rows k u1 u2:=
 ⟨h.ok,(hb.block _ (aG h.r1)).trans h.r1,(hb.block _ (aG h.r2)).trans h.r2,h.two.below hb,h.aL.trans (hb.mono h.aL.size),Nat.le_trans h.jF hb.size⟩
theorem qK.over {w w2 y z:World} {f s:Int} {rows:List (List UInt8×List (Int×Nat))} {k:Nat} {u1 u2:Value} (h:qK w y f s rows k u1 u2) (hs:w.heap.size+3<=w2.heap.size) (h2:qK w w2 f s rows k u1 u2) (hb:Below w2.heap.size y z):qK w z f s rows k u1 u2:=by
 have hl1:∀ g,u1.ownBlock=some g->g<w2.heap.size:=fun g hg=>(bC h2.two.lY hg).2.1
 have hl2:∀ g,u2.ownBlock=some g->g<w2.heap.size:=fun g hg=>(bC h2.two.mM hg).2.1
 refine⟨h.ok,(hb.block _ (by omega)).trans h.r1,(hb.block _ (by omega)).trans h.r2,⟨(hb.block _ (by omega)).trans h.two.blk,h.two.low,dA h.two.lY fun g hg=>hb.block g (hl1 g hg),dA h.two.mM fun g hg=>hb.block g (hl2 g hg),h.two.apart⟩,h.aL.trans (hb.mono (by omega)),Nat.le_trans h.jF hb.size⟩
structure tN (w z:World):Prop where
 r1:z.heap[w.heap.size]? = some (.cells #[.int .i64 0,.int .i64 0,.slice none 0 0,.slice none 0 0] 30 (0,0))
 r2:z.heap[w.heap.size+1]? = some (.cells #[.int .i64 0,.int .i64 0] 32 (0,0))
theorem tN.all {w z:World} (h:tN w z):z.cell? ⟨w.heap.size,0,none⟩=some (.int .i64 0)/\z.cell? ⟨w.heap.size,1,none⟩=some (.int .i64 0)/\z.cell? ⟨w.heap.size,2,none⟩=some (.slice none 0 0)/\z.cell? ⟨w.heap.size,3,none⟩=some (.slice none 0 0)/\z.cell? ⟨w.heap.size+1,0,none⟩=some (.int .i64 0)/\z.cell? ⟨w.heap.size+1,1,none⟩=some (.int .i64 0)/\(∀ q,z.frozen? ⟨w.heap.size,q,none⟩=false)/\∀ q,z.frozen? ⟨w.heap.size+1,q,none⟩=false:=
 ⟨ak h.r1 0,ak h.r1 1,ak h.r1 2,ak h.r1 3,ak h.r2 0,ak h.r2 1,fun q=>by simp[World.frozen?,h.r1],fun q=>by simp[World.frozen?,h.r2]⟩
theorem tN.drew {w z:World} (h:tN w z):tN w z.drew:=⟨h.r1,h.r2⟩
theorem tN.below {w z y:World} (h:tN w z) (hb:Below z.heap.size z y):tN w y:=⟨(hb.block _ (aG h.r1)).trans h.r1,(hb.block _ (aG h.r2)).trans h.r2⟩
structure Ny (w z:World) (C A:Int):Prop where
 r1:z.heap[w.heap.size]? = some (.cells #[.int .i64 0,.int .i64 0,.slice none 0 0,.slice none 0 0] 30 (0,0))
 r2:z.heap[w.heap.size+1]? = some (.cells #[.int .i64 C,.int .i64 A] 32 (0,0))
 aL:Below w.heap.size w z
theorem Ny.drew {w z:World} {C A:Int} (h:Ny w z C A):Ny w z.drew C A:=⟨h.r1,h.r2,h.aL.drew⟩
theorem tN.set {w z:World} (h:tN w z) (hb:Below w.heap.size w z) (C A:Int):Ny w ((((((z.setCell ⟨w.heap.size,0,none⟩ (.int .i64 0)).setCell ⟨w.heap.size,1,none⟩ (.int .i64 0)).setCell ⟨w.heap.size,2,none⟩ (.slice none 0 0)).setCell ⟨w.heap.size,3,none⟩ (.slice none 0 0)).setCell ⟨w.heap.size+1,0,none⟩ (.int .i64 C)).setCell ⟨w.heap.size+1,1,none⟩ (.int .i64 A)) C A:=by
 obtain⟨Z,hZ⟩:∃ Z,Z=((((z.setCell ⟨w.heap.size,0,none⟩ (.int .i64 0)).setCell ⟨w.heap.size,1,none⟩ (.int .i64 0)).setCell ⟨w.heap.size,2,none⟩ (.slice none 0 0)).setCell ⟨w.heap.size,3,none⟩ (.slice none 0 0)):=⟨_,rfl⟩;have e1:Z.heap[w.heap.size]? = some (.cells #[.int .i64 0,.int .i64 0,.slice none 0 0,.slice none 0 0] 30 (0,0)):=by rw[hZ];exact oh h.r1 _ _ _ _
 have e2:Z.heap[w.heap.size+1]? = some (.cells #[.int .i64 0,.int .i64 0] 32 (0,0)):=by
  rw[hZ,Below.heap_setCell _ _ _ _ (by show w.heap.size+1≠w.heap.size;omega),Below.heap_setCell _ _ _ _ (by show w.heap.size+1≠w.heap.size;omega),Below.heap_setCell _ _ _ _ (by show w.heap.size+1≠w.heap.size;omega),Below.heap_setCell _ _ _ _ (by show w.heap.size+1≠w.heap.size;omega)];exact h.r2
 have eb:Below w.heap.size w Z:=by rw[hZ];exact gH hb (Nat.le_refl _) _ _ _ _
 rw[<-hZ];refine⟨?_,set2 e2 _ _,(eb.setCell (p:=⟨w.heap.size+1,0,none⟩) (Nat.le_succ _) _).setCell (p:=⟨w.heap.size+1,1,none⟩) (Nat.le_succ _) _⟩;rw[Below.heap_setCell _ _ _ _ (by show w.heap.size≠w.heap.size+1;omega),Below.heap_setCell _ _ _ _ (by show w.heap.size≠w.heap.size+1;omega)];exact e1
theorem tN.put {w z:World} (h:tN w z) (hb:Below w.heap.size w z) (v0 v1 v2 v3 p0 p1:Value):∀ Z,Z=((((((z.setCell ⟨w.heap.size,0,none⟩ v0).setCell ⟨w.heap.size,1,none⟩ v1).setCell ⟨w.heap.size,2,none⟩ v2).setCell ⟨w.heap.size,3,none⟩ v3).setCell ⟨w.heap.size+1,0,none⟩ p0).setCell ⟨w.heap.size+1,1,none⟩ p1)->Z.heap[w.heap.size]? = some (.cells #[v0,v1,v2,v3] 30 (0,0))/\Z.heap[w.heap.size+1]? = some (.cells #[p0,p1] 32 (0,0))/\Below w.heap.size w Z/\∀ base e sz v n xs,w.heap.size+1<base->z.ownsRow base e sz v n xs->Z.ownsRow base e sz v n xs:=by
 intro X hX;subst hX;obtain⟨Z,hZ⟩:∃ Z,Z=((((z.setCell ⟨w.heap.size,0,none⟩ v0).setCell ⟨w.heap.size,1,none⟩ v1).setCell ⟨w.heap.size,2,none⟩ v2).setCell ⟨w.heap.size,3,none⟩ v3):=⟨_,rfl⟩;have e1:Z.heap[w.heap.size]? = some (.cells #[v0,v1,v2,v3] 30 (0,0)):=by rw[hZ];exact oh h.r1 _ _ _ _
 have e2:Z.heap[w.heap.size+1]? = some (.cells #[.int .i64 0,.int .i64 0] 32 (0,0)):=by
  rw[hZ,Below.heap_setCell _ _ _ _ (by show w.heap.size+1≠w.heap.size;omega),Below.heap_setCell _ _ _ _ (by show w.heap.size+1≠w.heap.size;omega),Below.heap_setCell _ _ _ _ (by show w.heap.size+1≠w.heap.size;omega),Below.heap_setCell _ _ _ _ (by show w.heap.size+1≠w.heap.size;omega)];exact h.r2
 have eb:Below w.heap.size w Z:=by rw[hZ];exact gH hb (Nat.le_refl _) _ _ _ _
 rw[<-hZ];refine⟨?_,set2 e2 _ _,(eb.setCell (p:=⟨w.heap.size+1,0,none⟩) (Nat.le_succ _) _).setCell (p:=⟨w.heap.size+1,1,none⟩) (Nat.le_succ _) _,fun base e sz v n xs hl ho=>?_⟩
 ·rw[Below.heap_setCell _ _ _ _ (by show w.heap.size≠w.heap.size+1;omega),Below.heap_setCell _ _ _ _ (by show w.heap.size≠w.heap.size+1;omega)];exact e1
 ·have hl2:w.heap.size<base:=by omega
  rw[hZ];exact cZ (cZ (cZ (cZ (cZ (cZ ho hl2) hl2) hl2) hl2) hl) hl
theorem qK.res {w wr:World} {f s:Int} {rows:List (List UInt8×List (Int×Nat))} {k:Nat} {u1 u2:Value} (h:qK w wr f s rows k u1 u2):tN w wr:=⟨h.r1,h.r2⟩
theorem R7 (w:World) (sb:Nat) (rows:List (List UInt8×List (Int×Nat))) (f s:Int) (hR:wS w sb rows) (hn:rows.length<=1000) (hin:∀ r,r∈rows->oQ r.2/\r.1.length<=1000/\r.2.length<=1000) :
  Calls Tryz.prog 16 #[.int .i64 f,.int .i64 s,.pointer (some ⟨sb,0,none⟩)] w fun e w'=>R6 w w' f s rows e:=by
 have HR:=(show Hid _ from hR);have jm:Hid (∀ r,r∈rows->oQ r.2/\r.1.length<=1000/\r.2.length<=1000):=hin;obtain⟨W,hW⟩:∃ W,W=(w.alloc (.cells #[.int .i64 0,.int .i64 0,.slice none 0 0,.slice none 0 0] 30)).alloc (.cells #[.int .i64 0,.int .i64 0] 32):=⟨_,rfl⟩;have hs1:(w.alloc (.cells #[.int .i64 0,.int .i64 0,.slice none 0 0,.slice none 0 0] 30)).heap.size=w.heap.size+1:=by simp
 have hbW:Below w.heap.size w W:=by rw[hW];exact ((Below.refl _ _).alloc (Nat.le_refl _) _).alloc (by simp) _
 have hr1:W.heap[w.heap.size]? = some (.cells #[.int .i64 0,.int .i64 0,.slice none 0 0,.slice none 0 0] 30 (0,0)):=by
  rw[hW];exact (heap_alloc_old _ _ (by rw[hs1];omega)).trans (heap_alloc_new _ _)
 have hr2:W.heap[w.heap.size+1]? = some (.cells #[.int .i64 0,.int .i64 0] 32 (0,0)):=by
  rw[hW,<-hs1];exact heap_alloc_new _ _
 have DC:W.heap.size=w.heap.size+2:=by rw[hW];simp
 have HW:=(show Hid _ from hW);have cO:=(show Hid _ from hbW);have HR1:=(show Hid _ from And.intro hr1 hr2);have HRZ:Hid (tN w W):=⟨hr1,hr2⟩;have HZ:Hid (∀ (Y:World) (C A:Int),Ny w Y C A->jL f s rows=C/\sF f s rows=A->C≠0->∀ (a:Act),a.tmps[6]?.getD undef = .pointer (some ⟨w.heap.size,0,none⟩)->a.tmps[7]?.getD undef = .pointer (some ⟨w.heap.size+1,0,none⟩)->a.defers = []->bodyPost Tryz.prog Tryz.f16 (fun e w'=>R6 w w' f s rows e) Exit.ret a Y):=fun Y C A h hC hne a t6 t7 hd=>by
  have z0:Y.cell? ⟨w.heap.size,0,none⟩=some (.int .i64 0):=ak h.r1 0;have z1:Y.cell? ⟨w.heap.size,1,none⟩=some (.int .i64 0):=ak h.r1 1;have z2:Y.cell? ⟨w.heap.size,2,none⟩=some (.slice none 0 0):=ak h.r1 2;have z3:Y.cell? ⟨w.heap.size,3,none⟩=some (.slice none 0 0):=ak h.r1 3;have v0:Y.cell? ⟨w.heap.size+1,0,none⟩=some (.int .i64 C):=ak h.r2 0;have v1:Y.cell? ⟨w.heap.size+1,1,none⟩=some (.int .i64 A):=ak h.r2 1;refine bodyPost_ret (v:=.tuple #[.agg #[.int .i64 0,.int .i64 0,.slice none 0 0,.slice none 0 0],.agg #[.int .i64 C,.int .i64 A]]) (by simp[results,Tryz.results16,go_sem,z0,z1,z2,z3,v0,v1,t6,t7]) hd ⟨h.aL,.inr ⟨by rw[hC.1];exact hne,by rw[hC.1,hC.2]⟩⟩
 have xZ:Hid (∀ (Y:World) (v1 v2:Value),Y.heap[w.heap.size]? = some (.cells #[.int .i64 f,.int .i64 s,v1,v2] 30 (0,0))->Y.heap[w.heap.size+1]? = some (.cells #[.int .i64 0,.int .i64 (-1)] 32 (0,0))->Below w.heap.size w Y->jL f s rows=0->jC Y w.heap.size (full rows) v1 v2->∀ (a:Act),a.tmps[6]?.getD undef = .pointer (some ⟨w.heap.size,0,none⟩)->a.tmps[7]?.getD undef = .pointer (some ⟨w.heap.size+1,0,none⟩)->a.defers = []->bodyPost Tryz.prog Tryz.f16 (fun e w'=>R6 w w' f s rows e) Exit.ret a Y):=fun Y v1 v2 h1 h2 hb hC hm a t6 t7 hd=>by
  have z0:Y.cell? ⟨w.heap.size,0,none⟩=some (.int .i64 f):=ak h1 0;have z1:Y.cell? ⟨w.heap.size,1,none⟩=some (.int .i64 s):=ak h1 1;have z2:Y.cell? ⟨w.heap.size,2,none⟩=some v1:=ak h1 2;have z3:Y.cell? ⟨w.heap.size,3,none⟩=some v2:=ak h1 3;have y0:Y.cell? ⟨w.heap.size+1,0,none⟩=some (.int .i64 0):=ak h2 0;have y1:Y.cell? ⟨w.heap.size+1,1,none⟩=some (.int .i64 (-1)):=ak h2 1;refine bodyPost_ret (v:=.tuple #[.agg #[.int .i64 f,.int .i64 s,v1,v2],.agg #[.int .i64 0,.int .i64 (-1)]]) (by simp[results,Tryz.results16,go_sem,z0,z1,z2,z3,y0,y1,t6,t7]) hd ⟨hb,.inl ⟨hC,v1,v2,rfl,hm⟩⟩
 have wY:=(show Hid _ from CK W f s);have hE0:=Gr f s;have gW:Hid (∀ (c:Int) (z:World),Calls Tryz.prog 31 #[.int .i64 c] z fun e w'=>e = .returned (.agg #[.int .i64 c,.int .i64 (-1)])/\Below z.heap.size z w'):=fun c z=>rM c z
 obtain⟨n,hnn⟩:∃ n,n=rows.length:=⟨_,rfl⟩;have HN:=(show Hid _ from hnn.symm);obtain⟨a1,c1,a2,c2,hsb,hnm,hpt⟩:=hR.ex;rw[<-hnn] at hn hsb;have qZ:Hid (∀ i (hi:i<rows.length),∃ g,a1=some ⟨g,0,none⟩/\∀ z,Below w.heap.size w z->z.cell? ⟨g,i,none⟩=some (encStr rows[i].1)):=fun i hi=>by
  obtain⟨g,e,hc⟩:=hnm i hi;exact⟨g,e,fun z hz=>(hz.cell (p:=⟨g,i,none⟩) (World.block_lt_of_cell? w ⟨g,i,none⟩ hc)).trans hc⟩
 have Yt:Hid (∀ i (hi:i<rows.length),∃ g,a2=some ⟨g,0,none⟩/\∃ A C,∀ z,Below w.heap.size w z->z.cell? ⟨g,i,none⟩=some (.slice A rows[i].2.length C)/\iK z A rows[i].2):=fun i hi=>by
  obtain⟨g,e,A,C,hc,hp⟩:=hpt i hi;exact⟨g,e,A,C,fun z hz=>⟨(hz.cell (p:=⟨g,i,none⟩) (World.block_lt_of_cell? w ⟨g,i,none⟩ hc)).trans hc,hp.below hz⟩⟩
 have qE:Hid (∀ z,Below w.heap.size w z->z.cell? ⟨sb,0,none⟩=some (.slice a1 n c1)/\z.cell? ⟨sb,1,none⟩=some (.slice a2 n c2)):=fun z hz=>by
  have:=(hz.block _ (aG hsb)).trans hsb;exact⟨ak this 0,ak this 1⟩
 have x0:=(qE.out W hbW).1;have f1:∀ q,W.frozen? ⟨w.heap.size,q,none⟩=false:=fun q=>by simp[World.frozen?,hr1]
 have f2:∀ q,W.frozen? ⟨w.heap.size+1,q,none⟩=false:=fun q=>by simp[World.frozen?,hr2]
 obtain⟨ev,hev⟩:∃ ev,ev=gI f s:=⟨_,rfl⟩;rw[<-hev] at wY hE0;have P7:=(show Hid _ from hev);clear hR hin hW hbW hr1 hr2 hs1 hnn hsb hnm hpt hev;go_enter Tryz.func16,Tryz.ntmps16;go_upto_region 1 with fail;rw[<-HW.out];go_wp2_with fail;refine Calls.mono wY.out ?_;rintro e w1 ⟨rfl,hw1⟩;have bq:=hw1;subst bq;clear wY hw1;have HBAD:Hid (gI f s≠0\/60<rows.length->jL f s rows=2/\sF f s rows = -1):=fun h=>BD h
 by_cases he:0<ev
 ·have d1:decide (0<ev)=true:=decide_eq_true he;have HM:Hid (jL f s rows=2/\sF f s rows = -1):=HBAD.out (.inl (by rw[<-P7.out];omega));clear HBAD x0 he hE0;go_wp2_with fail;refine Calls.mono (gW.out 2 w1) ?_;rintro e w2 ⟨rfl,hb2⟩;have hz2:=HRZ.out.below hb2;have jM:=(show Hid _ from hz2.set (cO.out.trans (hb2.mono cO.out.size)) 2 (-1));obtain⟨p0,p1,p2,p3,p4,p5,p6,p7⟩:=hz2.all;clear hb2 hz2 f1 f2;dsimp only
  go_wp2;exact HZ.out _ 2 (-1) jM.out HM.out (by decide) _ rfl rfl rfl
 have d1:decide (0<ev)=false:=decide_eq_false he;by_cases Fy:60<n
 ·have d2:decide ((60:Int)<(n:Int))=true:=decide_eq_true (by omega);have HM:Hid (jL f s rows=2/\sF f s rows = -1):=HBAD.out (.inr (by rw[HN.out];exact Fy));clear HBAD he hE0 Fy;go_wp2_with fail;refine Calls.mono (gW.out 2 w1) ?_;rintro e w2 ⟨rfl,hb2⟩;have hz2:=HRZ.out.below hb2;have jM:=(show Hid _ from hz2.set (cO.out.trans (hb2.mono cO.out.size)) 2 (-1));obtain⟨p0,p1,p2,p3,p4,p5,p6,p7⟩:=hz2.all;clear hb2 hz2 f1 f2;dsimp only
  go_wp2;exact HZ.out _ 2 (-1) jM.out HM.out (by decide) _ rfl rfl rfl
 have d2:decide ((60:Int)<(n:Int))=false:=decide_eq_false (by omega);have hBD:gI f s=0:=by rw[<-P7.out];omega
 have HG:Hid (¬ (gI f s≠0\/60<rows.length)):=by
  rw[HN.out];rintro (h | h)
  ·exact h hBD
  ·exact Fy h
 have DN:n<=60:=by omega
 have R8:=(show Hid _ from hBD);clear HBAD he hE0 Fy hBD hn;go_upto_region 5 with fail;obtain⟨W3,hW3⟩:∃ W3,W3=w1.alloc (.cells #[.int .i64 f,.int .i64 s,.slice none 0 0,.slice none 0 0] 30):=⟨_,rfl⟩;have hb3:Below w1.heap.size w1 W3:=by rw[hW3];exact (Below.refl _ _).alloc (Nat.le_refl _) _
 have hx3:W3.heap[w.heap.size+2]? = some (.cells #[.int .i64 f,.int .i64 s,.slice none 0 0,.slice none 0 0] 30 (0,0)):=by rw[hW3,<-DC];exact heap_alloc_new _ _
 have H0:Hid (qK w W3 f s rows 0 (.slice none 0 0) (.slice none 0 0)):=
  ⟨fun j h=>absurd h (Nat.not_lt_zero _),(hb3.block _ (aG HR1.out.1)).trans HR1.out.1,(hb3.block _ (aG HR1.out.2)).trans HR1.out.2,⟨hx3,Nat.lt_succ_self _,⟨rfl,.inl ⟨rfl,rfl⟩⟩,⟨rfl,.inl ⟨rfl,rfl⟩⟩,fun g e=>by simp[Value.ownBlock] at e⟩,cO.out.trans (hb3.mono cO.out.size),aG hx3⟩
 rw[<-hW3];clear hb3 hx3 hW3 x0 f1 f2 d1 d2 DC;go_wp2_with fail;go_loopw [10] (fun i wr=>∃ (k:Nat) (u1 u2:Value),k<=n/\i = .int .i64 (k:Int)/\qK w wr f s rows k u1 u2) (fun i _=>n-(intOf i).toNat);case atStart=>exact⟨0,_,_,Nat.zero_le _,rfl,H0.out⟩
 case round=>
  obtain⟨k,u1,u2,hk,rfl,hto⟩:=hrel;have D5:=(show Hid _ from hto);have bJ:=(show Hid _ from hto.aL);have hsz:=hto.jF;obtain⟨y0,y1⟩:=qE.out wr hto.aL;clear hto;by_cases hkn:k<n
  ·have hkr:k<rows.length:=by rw[HN.out];exact hkn
   obtain⟨g1,q1,hg1⟩:=qZ.out k hkr;subst q1;obtain⟨g2,q2,A,C,hg2⟩:=Yt.out k hkr;subst q2;obtain⟨nm,hnm⟩:∃ nm:ByteArray,nm=txt rows[k].1:=⟨_,rfl⟩;obtain⟨Nq,hl1,hl2⟩:=jm.out _ (List.getElem_mem hkr);have x4:wr.cell? ⟨g1,k,none⟩=some (.string nm):=by rw[hnm];exact hg1 wr bJ.out
   have k0:(0:Int)<=(k:Int):=by omega
   have k1:(k:Int)<(n:Int):=by omega
   have uw:=(show Hid _ from Nw wr nm (by rw[hnm,bL];omega));have Gb:nm.data.toList=rows[k].1:=by rw[hnm];rfl
   rw[Gb] at uw;obtain⟨RC,Fz⟩:∃ RC,RC=gF rows[k].1:=⟨_,rfl⟩;obtain⟨RA,UE⟩:∃ RA,RA=zl rows[k].1:=⟨_,rfl⟩;rw[<-Fz,<-UE] at uw;have hR0:0<=RC:=by rw[Fz];exact yG _
   have J7:=(show Hid _ from Fz);have zS:=(show Hid _ from And.intro hnm Gb);have Yu:=(show Hid _ from And.intro Nq (And.intro hl1 hl2));clear Fz UE Nq hl1 hl2 hnm Gb;go_wp2_with fail;refine Calls.mono uw.out ?_;rintro e w2 ⟨hb2,x,rfl⟩;have HT2:=(show Hid _ from D5.out.below hb2);have hs2:=HT2.out.jF;clear uw hb2 y0 y1 x4;dsimp only
   go_upto_region 9 with fail;obtain⟨W4,qY⟩:∃ W4,W4=w2.alloc (.cells #[.int .i64 RC,.int .i64 RA] 32):=⟨_,rfl⟩;have hb4:Below w2.heap.size w2 W4:=by rw[qY];exact (Below.refl _ _).alloc (Nat.le_refl _) _
   have P8:W4.heap[w2.heap.size]? = some (.cells #[.int .i64 RC,.int .i64 RA] 32 (0,0)):=by rw[qY];exact heap_alloc_new _ _
   rw[<-qY];clear qY;have Ag:=(show Hid _ from HT2.out.below hb4);have HF4:=(show Hid _ from P8);obtain⟨y0,y1⟩:=qE.out W4 Ag.out.aL;have x4:W4.cell? ⟨g1,k,none⟩=some (.string nm):=by rw[zS.out.1];exact hg1 W4 Ag.out.aL
   have v4:W4.cell? ⟨w2.heap.size,0,none⟩=some (.int .i64 RC):=ak P8 0;have HPV:Hid (0<k->∀ z,Below w.heap.size w z->z.cell? ⟨g1,k-1,none⟩=some (encStr (prev (rows.map Prod.fst) k))):=fun hk0 z hz=>by
    obtain⟨g,e,h⟩:=qZ.out (k-1) (by omega);simp at e;subst e;rw[h z hz];have:prev (rows.map Prod.fst) k=rows[k-1].1:=by
     unfold prev;rw[if_neg (by omega)];exact (l7 (by omega)).1
    rw[this]
   have Nz:Hid (gG (prev (rows.map Prod.fst) k) rows[k].1=if RC≠0 then RC else if prev (rows.map Prod.fst) k<rows[k].1 then 0 else 3):=by
    rw[J7.out];rfl
   have J3:Hid (k=0->RC=0->prev (rows.map Prod.fst) k<rows[k].1):=fun h0 hr=>by
    unfold prev;rw[if_pos h0];exact Dm (by rw[<-J7.out];exact hr)
   clear P8 hb4;go_cut [76] from 32 to 145 (fun s76 wz=>∃ (b:Bool) (q:Nat),s76 = .bool b/\wz=W4.drewN q/\Io b RC (prev (rows.map Prod.fst) k) rows[k].1);case first=>
    by_cases hr:RC=0
    ·subst hr;by_cases hk0:k=0
     ·subst hk0;have HB:Hid (Io false 0 (prev (rows.map Prod.fst) 0) rows[0].1):=⟨fun h=>(by cases h),fun h=>absurd (J3.out rfl rfl) h.2⟩;go_quiet (fail);go_wp2_with fail;go_meet;case rel=>exact⟨false,_,rfl,rfl,HB.out⟩
     ·obtain⟨j,rfl⟩:∃ j,k=j+1:=⟨k-1,by omega⟩;obtain⟨pv,hpv⟩:∃ pv:ByteArray,pv=txt (prev (rows.map Prod.fst) (j+1)):=⟨_,rfl⟩;have x5:W4.cell? ⟨g1,j,none⟩=some (.string pv):=by rw[hpv];exact HPV.out (by omega) W4 Ag.out.aL
      have hlt:=Al nm pv;have heq:=Ie nm pv;rw[zS.out.2,show pv.data.toList=prev (rows.map Prod.fst) (j+1) by rw[hpv];rfl] at hlt heq;have i1:(0:Int)<=(j:Int)+1-1:=by omega
      have i2:(j:Int)+1-1<(n:Int):=by omega
      have i3:(0:Int)<(j:Int)+1:=by omega
      have nG:=(show Hid _ from hlt);have qP:=(show Hid _ from heq);clear hlt heq hpv hk0;by_cases h1:prev (rows.map Prod.fst) (j+1)<rows[j+1].1
      ·have hl:Op.bytesLess nm.toList pv.toList=false:=by rw[nG.out];exact decide_eq_false (fun h=>absurd (List.lt_trans h h1) (List.lt_irrefl _))
       have hl2:(nm.toList==pv.toList)=false:=by rw[qP.out];exact decide_eq_false (fun h=>by rw[h] at h1;exact List.lt_irrefl _ h1)
       have HB:Hid (Io false 0 (prev (rows.map Prod.fst) (j+1)) rows[j+1].1):=⟨fun h=>(by cases h),fun h=>absurd h1 h.2⟩;clear h1 nG qP;go_quiet (fail);go_wp2_with fail;go_meet;case rel=>exact⟨false,_,rfl,rfl,HB.out⟩
      ·have HB:Hid (Io true 0 (prev (rows.map Prod.fst) (j+1)) rows[j+1].1):=⟨fun _=>⟨rfl,h1⟩,fun _=>rfl⟩;by_cases h2:rows[j+1].1<prev (rows.map Prod.fst) (j+1)
       ·have hl:Op.bytesLess nm.toList pv.toList=true:=by rw[nG.out];exact decide_eq_true h2
        clear h1 h2 nG qP;go_quiet (fail);go_wp2_with fail;go_meet;case rel=>exact⟨true,_,rfl,rfl,HB.out⟩
       ·have hl:Op.bytesLess nm.toList pv.toList=false:=by rw[nG.out];exact decide_eq_false h2
        have hl2:(nm.toList==pv.toList)=true:=by rw[qP.out];exact decide_eq_true (List.le_antisymm (List.not_lt.1 h1) (List.not_lt.1 h2))
        clear h1 h2 nG qP;go_quiet (fail);go_wp2_with fail;go_meet;case rel=>exact⟨true,_,rfl,rfl,HB.out⟩
    ·have d3:(RC==0)=false:=by simpa using hr
     have HB:Hid (Io false RC (prev (rows.map Prod.fst) k) rows[k].1):=⟨fun h=>(by cases h),fun h=>absurd h.1 hr⟩;clear hr;go_quiet (fail);go_wp2_with fail;go_meet;case rel=>exact⟨false,_,rfl,rfl,HB.out⟩
   case rest=>
    obtain⟨b,q,rfl,hwc,hnb⟩:=hcut;have P9:=(show Hid _ from hnb);have Qa:Below W4.heap.size W4 wc:=by rw[hwc];exact below_draws (Below.refl _ _) q
    have wZ:=(show Hid _ from Ag.out.below Qa);have hfc:=(Qa.block _ (aG HF4.out)).trans HF4.out;have Qb:=(show Hid _ from hfc);have hrow:rowAt f s rows k=lG f s (prev (rows.map Prod.fst) k) rows[k].1 rows[k].2:=by
     unfold rowAt;rw[(l7 hkr).1,(l7 hkr).2]
    have jG:=(show Hid _ from hrow);have HAT:Hid (∀ C:Int,rowAt f s rows k=C->C≠0->jL f s rows=C/\sF f s rows=(k:Int)):=fun C hC hne=>by
     obtain⟨h1,h2⟩:=Yc HG.out hkr D5.out.ok (by rw[hC];exact hne);exact⟨h1.trans hC,h2⟩
    have v5:wc.cell? ⟨w2.heap.size,0,none⟩=some (.int .i64 RC):=ak hfc 0;have v6:wc.drew.cell? ⟨w2.heap.size,0,none⟩=some (.int .i64 RC):=v5;clear hnb hwc Qa hfc hrow y0 y1 x4 v4;by_cases hr:RC=0
    ·subst hr;have k3:wc.cell? ⟨w2.heap.size,1,none⟩=some (.int .i64 RA):=ak Qb.out 1;have kf:∀ q,wc.frozen? ⟨w2.heap.size,q,none⟩=false:=fun q=>by simp[World.frozen?,Qb.out]
     by_cases hb:b=true
     ·have hn0:=P9.out.1 hb;subst hb;have hnc:gG (prev (rows.map Prod.fst) k) rows[k].1=3:=by rw[Nz.out,if_neg (fun h=>h rfl),if_neg hn0.2]
      have HM:=(show Hid _ from HAT.out 3 (by rw[jG.out];unfold lG;rw[hnc,if_pos (by decide)]) (by decide));clear hn0 hnc;go_wp2_with fail;refine Calls.mono (gW.out 3 wc) ?_;rintro e w5 ⟨rfl,hb5⟩;have Ar:=(show Hid _ from wZ.out.below hb5);have D6:=(hb5.block _ (aG Qb.out)).trans Qb.out;have m0:w5.cell? ⟨w2.heap.size,0,none⟩=some (.int .i64 0):=ak D6 0;have m1:w5.cell? ⟨w2.heap.size,1,none⟩=some (.int .i64 RA):=ak D6 1;have mf:∀ q,w5.frozen? ⟨w2.heap.size,q,none⟩=false:=fun q=>by simp[World.frozen?,D6]
      have HF5:=(show Hid _ from D6);clear hb5 D6 v5 v6 k3 kf;dsimp only
      go_upto_region 11 with fail;have mV:Hid ((3:Int)≠0):=(by decide:(3:Int)≠0);obtain⟨W6,Ip⟩:∃ W6,W6=(w5.setCell ⟨w2.heap.size,0,none⟩ (.int .i64 3)).setCell ⟨w2.heap.size,1,none⟩ (.int .i64 (-1)):=⟨_,rfl⟩;have hx6:W6.heap[w2.heap.size]? = some (.cells #[.int .i64 3,.int .i64 (-1)] 32 (0,0)):=by rw[Ip];exact set2 HF5.out _ _
      have hb6:Below w2.heap.size w5 W6:=by rw[Ip];exact ((Below.refl _ _).setCell (p:=⟨w2.heap.size,0,none⟩) (Nat.le_refl _) _).setCell (p:=⟨w2.heap.size,1,none⟩) (Nat.le_refl _) _
      rw[<-Ip];have qo:Hid (qK w W6 f s rows k u1 u2):=Ar.out.over hs2 HT2.out hb6;have HX6:=(show Hid _ from hx6);have n0:W6.cell? ⟨w2.heap.size,0,none⟩=some (.int .i64 3):=ak hx6 0;have n1:W6.drew.cell? ⟨w2.heap.size,0,none⟩=some (.int .i64 3):=n0;clear Ip hx6 hb6 m0 m1 mf;obtain⟨p0,p1,p2,p3,p4,p5,p6,p7⟩:=qo.out.res.all;obtain⟨o0,o1,o2,o3,o4,o5,o6,o7⟩:=qo.out.res.drew.all;have jM:=(show Hid _ from qo.out.res.set qo.out.aL 3 k);go_wp2_with fail;go_region;all_goals (go_wp2;exact HZ.out _ 3 k jM.out.drew HM.out mV.out _ rfl rfl rfl)
     ·have hbf:b=false:=by simpa using hb
      subst hbf;have hlt:prev (rows.map Prod.fst) k<rows[k].1:=by
       apply Decidable.not_not.1;intro h;exact hb (P9.out.2 ⟨rfl,h⟩)
      have hnc:gG (prev (rows.map Prod.fst) k) rows[k].1=0:=by rw[Nz.out,if_neg (fun h=>h rfl),if_pos hlt]
      have HRW:Hid (rowAt f s rows k=if fF rows[k].2≠0 then fF rows[k].2 else if kC f s rows[k].2=true then 0 else 2):=by
       show _=_;rw[jG.out];unfold lG;rw[hnc,if_neg (fun h=>h rfl)]
      obtain⟨y0,y1⟩:=qE.out wc wZ.out.aL;obtain⟨x6,hpl⟩:=hg2 wc wZ.out.aL;obtain⟨nk,hnk⟩:∃ nk,nk=rows[k].2.length:=⟨_,rfl⟩;have MI:=(show Hid _ from acj wc A C rows[k].2 hpl Yu.out.1 Yu.out.2.2);obtain⟨PC,Yv⟩:∃ PC,PC=fF rows[k].2:=⟨_,rfl⟩;rw[<-hnk] at x6 MI;rw[<-Yv] at MI HRW;have Fp:0<=PC:=by rw[Yv];exact Fa _
      have zX:=(show Hid _ from And.intro Yv hnk);clear hb hlt hnc hpl Yv hnk;go_wp2_with fail;refine Calls.mono MI.out ?_;rintro e w5 ⟨PA,rfl,hb5⟩;have Ar:=(show Hid _ from wZ.out.below hb5);have D6:=(hb5.block _ (aG Qb.out)).trans Qb.out;have m0:w5.cell? ⟨w2.heap.size,0,none⟩=some (.int .i64 0):=ak D6 0;have m1:w5.cell? ⟨w2.heap.size,1,none⟩=some (.int .i64 RA):=ak D6 1;have mf:∀ q,w5.frozen? ⟨w2.heap.size,q,none⟩=false:=fun q=>by simp[World.frozen?,D6]
      have HF5:=(show Hid _ from D6);clear hb5 D6 v5 v6 k3 kf MI y0 y1 x6;dsimp only
      go_upto_region 13 with fail;obtain⟨W6,Ip⟩:∃ W6,W6=(w5.setCell ⟨w2.heap.size,0,none⟩ (.int .i64 PC)).setCell ⟨w2.heap.size,1,none⟩ (.int .i64 PA):=⟨_,rfl⟩;have hx6:W6.heap[w2.heap.size]? = some (.cells #[.int .i64 PC,.int .i64 PA] 32 (0,0)):=by rw[Ip];exact set2 HF5.out _ _
      have hb6:Below w2.heap.size w5 W6:=by rw[Ip];exact ((Below.refl _ _).setCell (p:=⟨w2.heap.size,0,none⟩) (Nat.le_refl _) _).setCell (p:=⟨w2.heap.size,1,none⟩) (Nat.le_refl _) _
      rw[<-Ip];have qo:Hid (qK w W6 f s rows k u1 u2):=Ar.out.over hs2 HT2.out hb6;have HX6:=(show Hid _ from hx6);have n0:W6.cell? ⟨w2.heap.size,0,none⟩=some (.int .i64 PC):=ak hx6 0;have n1:W6.drew.cell? ⟨w2.heap.size,0,none⟩=some (.int .i64 PC):=n0;clear Ip hx6 hb6 m0 m1 mf;by_cases hp:0<PC
      ·have hpos:decide (0<PC)=true:=decide_eq_true hp;have mV:Hid (PC≠0):=fun h=>(by omega)
       have HM:=(show Hid _ from HAT.out PC (by rw[HRW.out,if_pos mV.out]) mV.out);clear hp;obtain⟨p0,p1,p2,p3,p4,p5,p6,p7⟩:=qo.out.res.all;obtain⟨o0,o1,o2,o3,o4,o5,o6,o7⟩:=qo.out.res.drew.all;have jM:=(show Hid _ from qo.out.res.set qo.out.aL PC k);go_wp2_with fail;go_region;all_goals (go_wp2;exact HZ.out _ PC k jM.out.drew HM.out mV.out _ rfl rfl rfl)
      ·obtain rfl:PC=0:=by omega
       clear hp;obtain⟨y0,y1⟩:=qE.out W6 qo.out.aL;obtain⟨x6,hpl⟩:=hg2 W6 qo.out.aL;rw[<-zX.out.2] at x6;have HIS:=(show Hid _ from yh W6 A C rows[k].2 f s R8.out hpl (by have:=Yu.out.2.2;omega));rw[<-zX.out.2] at HIS;obtain⟨ib,hib⟩:∃ ib,ib=kC f s rows[k].2:=⟨_,rfl⟩;rw[<-hib] at HIS;have DX:=(show Hid _ from hib);clear hpl hib;go_wp2_with fail;refine Calls.mono HIS.out ?_;rintro e w7 ⟨rfl,hw7⟩;have FV:=hw7;subst FV;clear hw7 HIS;cases ib with
       | false=>
        have mV:Hid ((2:Int)≠0):=(by decide:(2:Int)≠0);have HM:=(show Hid _ from HAT.out 2 (by rw[HRW.out,if_neg (fun h=>h rfl),if_neg (by rw[<-DX.out];decide)]) (by decide));obtain⟨p0,p1,p2,p3,p4,p5,p6,p7⟩:=qo.out.res.all;have jM:=(show Hid _ from qo.out.res.set qo.out.aL 2 k);go_wp2;exact HZ.out _ 2 k jM.out HM.out mV.out _ rfl rfl rfl
       | true=>
        have dG:Hid (∀ j,j<k+1->rowAt f s rows j=0):=fun j hj=>by
         rcases Nat.lt_or_ge j k with h | h
         ·exact qo.out.ok j h
         ·obtain rfl:j=k:=by omega
          rw[HRW.out,if_neg (fun h=>h rfl),if_pos DX.out.symm]
        have mg:Hid (full (rows.take (k+1))=if 0<rows[k].2.length then full (rows.take k) ++ [rows[k]] else full (rows.take k)):=by
         show _=_;rw[List.take_succ_eq_append_getElem hkr,JQ]
        by_cases hz:0<nk
        ·have d5:decide ((0:Int)<(nk:Int))=true:=decide_eq_true (by omega);have x7:w7.cell? ⟨g1,k,none⟩=some (.string nm):=by rw[zS.out.1];exact hg1 w7 qo.out.aL
         have xd7:w7.drew.cell? ⟨g1,k,none⟩=some (.string nm):=x7;have yd0:w7.drew.cell? ⟨sb,0,none⟩=some (.slice (some ⟨g1,0,none⟩) n c1):=y0;have Ka:=qo.out.two;obtain⟨nf,hnf⟩:∃ nf,nf=(full (rows.take k)).length:=⟨_,rfl⟩;have hfk:nf<=60:=by
          rw[hnf];refine Nat.le_trans (List.length_filter_le ..) ?_;rw[List.length_take];omega
         obtain⟨b1,e1,hu1⟩:=aV Ka.lY;obtain⟨b2,e2,hu2⟩:=aV Ka.mM;rw[List.length_map,<-hnf] at hu1;rw[rV,<-hnf] at hu2;subst hu1 hu2;have hs6:=qo.out.jF;have sQ:Hid (w7.ownsRow (w.heap.size+3) 9 1 (.slice b1 nf e1) nf (((full (rows.take k)).map Prod.fst).map encStr)):=by have:=Ka.lY;rw[List.length_map,<-hnf] at this;exact this
         have UF:=(show Hid _ from hnf);have s0:w7.cell? ⟨w.heap.size+2,2,none⟩=some (.slice b1 nf e1):=ak Ka.blk 2;have sd0:w7.drew.cell? ⟨w.heap.size+2,2,none⟩=some (.slice b1 nf e1):=s0;have sa0:(w7.drew.alloc (.cells #[.string nm] 9)).cell? ⟨w.heap.size+2,2,none⟩=some (.slice b1 nf e1):=ak ((heap_alloc_old _ _ (aG Ka.blk)).trans Ka.blk) 2;have sb0:(w7.alloc (.cells #[.string nm] 9)).cell? ⟨w.heap.size+2,2,none⟩=some (.slice b1 nf e1):=sa0;obtain⟨iS,hI,hS0,hS1,hS2⟩:=info_parts Tryz.infoStr3;have Ao:=(show Hid _ from hI);clear hI Ka hnf;go_upto_region 19 with fail;go_cut [10] from 32 to 145 (fun v10 wz=>v10 = .int .i64 (k:Int)/\∃ g8 kG,Below (w.heap.size+2) w7 wz/\w.heap.size+3<=wz.heap.size/\yN wz (w.heap.size+3) (w.heap.size+2) f s (.slice (some ⟨g8,0,none⟩) (nf+1) kG) (.slice b2 nf e2) ((full (rows.take k)).map Prod.fst ++ [rows[k].1]) (tL (full (rows.take k))));case first=>
          go_region_law (refine mD w7 (by rfl) _ _ 23 (by rfl) (w.heap.size+3) 9 iS (.string ⟨#[]⟩) 16 Tryz.underlying23 Ao.out hS0 hS1 hS2 (by rfl) (.slice b1 nf e1) nf (((full (rows.take k)).map Prod.fst).map encStr) (by rfl) sQ.out (by repeat (first | exact Below.refl _ _ | with_reducible apply aR | with_reducible apply dV)) _ _ _ _ (by rfl) (by exact heap_alloc_new _ _) (by rfl) (by omega) (by decide) hs6 ?_;intro g8 kG w8 ng lI jW;have h8:=qo.out.two.first (x:=rows[k].1) hs6 jW (by rw[List.length_map,<-UF.out];rw[zS.out.1] at ng;exact ng) lI;rw[List.length_map,<-UF.out] at h8;have q0:w8.cell? ⟨w.heap.size+2,2,none⟩=some (.slice b1 nf e1):=ak h8.1 2;have z0:w8.frozen? ⟨w.heap.size+2,2,none⟩=false:=(by simp[World.frozen?,h8.1]);have H8:=(show Hid _ from h8.2);have UG:Hid (w.heap.size+3<=w8.heap.size):=(Nat.le_trans hs6 (Nat.le_trans jW.size lI.size));clear ng lI jW h8);all_goals (
           have jo:Below (w.heap.size+2) w7 (w8.setCell ⟨w.heap.size+2,2,none⟩ (.slice (some ⟨g8,0,none⟩) (nf+1) kG)):=(H8.out.1.mono (Nat.le_succ _)).setCell (p:=⟨w.heap.size+2,2,none⟩) (Nat.le_refl _) _
           have Qc:w.heap.size+3<=(w8.setCell ⟨w.heap.size+2,2,none⟩ (.slice (some ⟨g8,0,none⟩) (nf+1) kG)).heap.size:=by rw[World.size_setCell];exact UG.out
           have NA:=(show Hid _ from And.intro jo (And.intro Qc H8.out.2))
           clear jo Qc H8 UG q0 z0
           go_wp2_with fail
           go_meet
           case rel=>exact⟨rfl,g8,kG,NA.out⟩)
         case rest=>
          obtain⟨rfl,g8,kG,jo,Qc,Gn⟩:=hcut;have NC:=(show Hid _ from Gn);have Mt:=(show Hid _ from jo);have Gc:=(show Hid _ from qo.out.aL.trans (jo.mono (by omega)));obtain⟨y0,y1⟩:=qE.out wc Gc.out;obtain⟨x6,hpl⟩:=hg2 wc Gc.out;rw[<-zX.out.2] at x6;have yd1:wc.drew.cell? ⟨sb,1,none⟩=some (.slice (some ⟨g2,0,none⟩) n c2):=y1;have xd6:wc.drew.cell? ⟨g2,k,none⟩=some (.slice A nk C):=x6;obtain⟨ck,hck⟩:∃ ck:ByteArray,ck=txt (iJ rows[k].2):=⟨_,rfl⟩;have UH:Hid (∀ z,Below wc.heap.size wc z->Calls Tryz.prog 50 #[.slice A nk C] z fun e w'=>e = .returned (.string ck)/\Below wc.heap.size wc w'):=fun z hz=>by
           have:=acn z A C rows[k].2 (hpl.below hz) Yu.out.1 zX.out.1.symm;rw[<-zX.out.2] at this;refine this.mono ?_;rintro e w' ⟨rfl,hb⟩;exact⟨by rw[hck];rfl,hz.trans (hb.mono hz.size)⟩
          have jM:Hid (wc.ownsRow (w.heap.size+3) 9 1 (.slice b2 nf e2) nf ((tL (full (rows.take k))).map encStr)):=by have:=NC.out.mM;rw[rV,<-UF.out] at this;exact this
          have t3:wc.cell? ⟨w.heap.size+2,3,none⟩=some (.slice b2 nf e2):=ak NC.out.blk 3;have td3:wc.drew.cell? ⟨w.heap.size+2,3,none⟩=some (.slice b2 nf e2):=t3;have HTZ:Hid (∀ z,Below wc.heap.size wc z->z.cell? ⟨w.heap.size+2,3,none⟩=some (.slice b2 nf e2)):=fun z hz=>ak ((hz.block _ (aG NC.out.blk)).trans NC.out.blk) 3
          have nL:=(show Hid _ from hck);clear x7 xd7 yd0 s0 sd0 sa0 sb0 Gn jo hpl hck;go_wp2_with fail;have FB:Hid (∀ w',Below wc.heap.size wc w'->w'.cell? ⟨w.heap.size+2,3,none⟩=some (.slice b2 nf e2)/\w'.cell? ⟨sb,1,none⟩=some (.slice (some ⟨g2,0,none⟩) n c2)/\w'.cell? ⟨g2,k,none⟩=some (.slice A nk C)):=fun z hz=>⟨HTZ.out z hz,(qE.out z (Gc.out.trans (hz.mono Gc.out.size))).2,by have:=(hg2 z (Gc.out.trans (hz.mono Gc.out.size))).1;rw[<-zX.out.2] at this;exact this⟩
          refine mJ (S:=fun w'=>w'.cell? ⟨w.heap.size+2,3,none⟩=some (.slice b2 nf e2)/\w'.cell? ⟨sb,1,none⟩=some (.slice (some ⟨g2,0,none⟩) n c2)/\w'.cell? ⟨g2,k,none⟩=some (.slice A nk C)) (by kernel_rfl) 13 ⟨td3,yd1,xd6⟩ (fun hHeld=>?_);refine bV (i:=0) (v:=.pointer (some ⟨w.heap.size+2,3,none⟩)) rfl (by kernel_rfl) (by kernel_rfl) (by kernel_rfl) (by kernel_rfl) (fun _ _ _ h=>h) (Or.inl ⟨by rfl,?_⟩) (fun _=>hHeld) ?_
          ·intro w _;go_simp
          try simp only[Act.put]
          refine gU (i:=1) (v:=.slice b2 nf e2) rfl (by kernel_rfl) (by kernel_rfl) (by kernel_rfl) (by kernel_rfl) (by kernel_rfl) (by kernel_rfl) (fun _ _ _ h=>h) (Or.inl ⟨by rfl,?_⟩) hHeld ?_
          ·intro w hSw;obtain⟨wh,wm,wo⟩:=hSw;go_simp
          try simp only[Act.put]
          refine bV (i:=2) (v:=.pointer (some ⟨sb,0,none⟩)) rfl (by kernel_rfl) (by kernel_rfl) (by kernel_rfl) (by kernel_rfl) (fun _ _ _ h=>h) (Or.inl ⟨by rfl,?_⟩) (fun _=>hHeld) ?_
          ·intro w _;go_simp
          try simp only[Act.put]
          refine bV (i:=3) (v:=.pointer (some ⟨sb,0,none⟩)) rfl (by kernel_rfl) (by kernel_rfl) (by kernel_rfl) (by kernel_rfl) (fun _ _ _ h=>h) (Or.inl ⟨by rfl,?_⟩) (fun _=>hHeld) ?_
          ·intro w _;go_simp
          try simp only[Act.put]
          refine bV (i:=4) (v:=.pointer (some ⟨sb,1,none⟩)) rfl (by kernel_rfl) (by kernel_rfl) (by kernel_rfl) (by kernel_rfl) (fun _ _ _ h=>h) (Or.inl ⟨by rfl,?_⟩) (fun _=>hHeld) ?_
          ·intro w _;go_simp
          try simp only[Act.put]
          refine gU (i:=5) (v:=.slice (some ⟨g2,0,none⟩) n c2) rfl (by kernel_rfl) (by kernel_rfl) (by kernel_rfl) (by kernel_rfl) (by kernel_rfl) (by kernel_rfl) (fun _ _ _ h=>h) (Or.inl ⟨by rfl,?_⟩) hHeld ?_
          ·intro w hSw;obtain⟨wh,wm,wo⟩:=hSw;go_simp
          try simp only[Act.put]
          refine bV (i:=6) (v:=.int .i64 (k:Int)) rfl (by kernel_rfl) (by kernel_rfl) (by kernel_rfl) (by kernel_rfl) (fun _ _ _ h=>h) (Or.inl ⟨by rfl,?_⟩) (fun _=>hHeld) ?_
          ·intro w _;go_simp
          try simp only[Act.put]
          refine bV (i:=7) (v:=.pointer (some ⟨g2,k,none⟩)) rfl (by kernel_rfl) (by kernel_rfl) (by kernel_rfl) (by kernel_rfl) (fun _ _ _ h=>h) (Or.inl ⟨by rfl,?_⟩) (fun _=>hHeld) ?_
          ·intro w _;go_simp
          try simp only[Act.put]
          refine gU (i:=8) (v:=.slice A nk C) rfl (by kernel_rfl) (by kernel_rfl) (by kernel_rfl) (by kernel_rfl) (by kernel_rfl) (by kernel_rfl) (fun _ _ _ h=>h) (Or.inl ⟨by rfl,?_⟩) hHeld ?_
          ·intro w hSw;obtain⟨wh,wm,wo⟩:=hSw;go_simp
          try simp only[Act.put]
          refine bH (rs:=[9]) (by kernel_rfl) (by simp) ?_;refine aI.cons rfl (fun K hK=>?_) aI.nil;go_simp
          refine Calls.mono (UH.out _ (by repeat (first | exact Below.refl _ _ | assumption | with_reducible apply aR | with_reducible apply dV))) ?_;rintro e w10 ⟨rfl,wL⟩;dsimp only
          refine hK.out _ _ (FB.out _ wL) ?_;clear hK K;try simp only[Act.put]
          refine bH (rs:=[10]) (by kernel_rfl) (by simp) ?_;refine aI.cons rfl (fun K hK=>?_) aI.nil;go_simp
          refine hK.out _ _ (FB.out _ (aR wL _)) ?_;clear hK K;try simp only[Act.put]
          refine bH (rs:=[11]) (by kernel_rfl) (by simp) ?_;refine aI.cons rfl (fun K hK=>?_) aI.nil;refine mD wc (by rfl) _ _ 23 (by rfl) (w.heap.size+3) 9 iS (.string ⟨#[]⟩) 16 Tryz.underlying23 Ao.out hS0 hS1 hS2 (by rfl) (.slice b2 nf e2) nf ((tL (full (rows.take k))).map encStr) (by rfl) jM.out (aR wL _) _ _ _ _ (by rfl) (by exact heap_alloc_new _ _) (by rfl) (by omega) (by decide) Qc ?_;intro g9 Jd w9 EC WY D7;have h9:=NC.out.second (x:=iJ rows[k].2) Qc D7 (by rw[rV,<-UF.out];rw[nL.out] at EC;exact EC) WY;rw[rV,<-UF.out] at h9;have q0:w9.cell? ⟨w.heap.size+2,3,none⟩=some (.slice b2 nf e2):=ak h9.1 3;have z0:w9.frozen? ⟨w.heap.size+2,3,none⟩=false:=by simp[World.frozen?,h9.1]
          have R9:=Gc.out.trans (h9.2.1.mono (by omega));have H9S:Hid (w.heap.size+3<=w9.heap.size):=Nat.le_trans Qc (Nat.le_trans D7.size WY.size);have HS9:Hid (w9.cell? ⟨w.heap.size+2,3,none⟩=some (.slice b2 nf e2)/\w9.cell? ⟨sb,1,none⟩=some (.slice (some ⟨g2,0,none⟩) n c2)/\w9.cell? ⟨g2,k,none⟩=some (.slice A nk C)):=⟨q0,(qE.out w9 R9).2,by have:=(hg2 w9 R9).1;rw[<-zX.out.2] at this;exact this⟩;have fu:Hid (qK w (w9.setCell ⟨w.heap.size+2,3,none⟩ (.slice (some ⟨g9,0,none⟩) (nf+1) Jd)) f s rows (k+1) (.slice (some ⟨g8,0,none⟩) (nf+1) kG) (.slice (some ⟨g9,0,none⟩) (nf+1) Jd)):=by
           have nC:Below (w.heap.size+2) w7 w9:=Mt.out.trans (h9.2.1.mono (Nat.le_succ _));have e1:full (rows.take (k+1))=full (rows.take k) ++ [rows[k]]:=by rw[mg.out,if_pos (by rw[<-zX.out.2];exact hz)]
           have e2:(full (rows.take (k+1))).map Prod.fst=(full (rows.take k)).map Prod.fst ++ [rows[k].1]:=by rw[e1];simp
           have e3:tL (full (rows.take (k+1)))=tL (full (rows.take k)) ++ [iJ rows[k].2]:=by rw[e1];simp[tL]
           refine⟨dG.out,?_,?_,by rw[e2,e3];exact h9.2.2,R9.setCell (p:=⟨w.heap.size+2,3,none⟩) (by show w.heap.size<=w.heap.size+2;omega) _,by rw[World.size_setCell];exact H9S.out⟩
           ·rw[Below.heap_setCell _ _ _ _ (by show w.heap.size≠w.heap.size+2;omega),nC.block _ (by omega)];exact qo.out.r1
           ·rw[Below.heap_setCell _ _ _ _ (by show w.heap.size+1≠w.heap.size+2;omega),nC.block _ (by omega)];exact qo.out.r2
          clear EC WY D7 h9 R9;refine hK.out _ _ HS9.out ?_;clear hK K;try simp only[Act.put]
          refine bV (i:=12) (v:=.pointer (some ⟨w.heap.size+2,3,none⟩)) rfl (by kernel_rfl) (by kernel_rfl) (by kernel_rfl) (by kernel_rfl) (fun _ _ _ h=>h) (Or.inl ⟨by rfl,?_⟩) (fun _=>HS9.out) ?_
          ·intro w _;go_simp
          try simp only[Act.put]
          refine bH (rs:=[13]) (by kernel_rfl) (by simp) ?_;refine aI.last rfl (by kernel_rfl) (fun K hK=>?_) aI.nil;go_simp
          refine hK.out _ _ ?_;clear hK K;refine fP (by kernel_rfl) ?_ _;clear HS9 q0 z0 FB UH;go_wp2;go_roundw;case rel=>exact⟨k+1,_,_,by omega,by go_num,fu.out⟩
          case measure=>simp[intOf]<;>omega
        ·have d5:decide ((0:Int)<(nk:Int))=false:=decide_eq_false (by omega);have fu:Hid (qK w w7 f s rows (k+1) u1 u2):=by
          have:=qo.out;refine⟨dG.out,this.r1,this.r2,?_,this.aL,this.jF⟩;rw[mg.out,if_neg (by rw[<-zX.out.2];exact hz)];exact this.two
         go_wp2;go_roundw;case rel=>exact⟨k+1,u1,u2,by omega,by go_num,fu.out⟩
         case measure=>simp[intOf]<;>omega
    ·have d3:(RC==0)=false:=by simpa using hr
     have hbf:b=false:=by
      rw[<-Bool.not_eq_true];intro h;exact hr (P9.out.1 h).1
     subst hbf;have hpos:decide (0<RC)=true:=decide_eq_true (by omega);have HM:=(show Hid _ from HAT.out RC (by rw[jG.out];unfold lG;rw[Nz.out,if_pos hr,if_pos hr]) hr);have mV:Hid (RC≠0):=hr;obtain⟨p0,p1,p2,p3,p4,p5,p6,p7⟩:=wZ.out.res.all;obtain⟨o0,o1,o2,o3,o4,o5,o6,o7⟩:=wZ.out.res.drew.all;have jM:=(show Hid _ from wZ.out.res.set wZ.out.aL RC k);clear hr;go_wp2_with fail;go_region;all_goals (go_wp2;exact HZ.out _ RC k jM.out.drew HM.out mV.out _ rfl rfl rfl)
  ·obtain rfl:k=n:=by omega
   have hge:(k:Int)<=(k:Int):=Int.le_refl _;have zw:rows.take k=rows:=by rw[<-HN.out];exact List.take_length
   have BN:=D5.out.two;rw[zw] at BN;have qC:Hid (jL f s rows=0/\sF f s rows = -1):=Ez HG.out fun j hj=>D5.out.ok j (by have:=HN.out;omega)
   have HTW:=(show Hid _ from BN);obtain⟨b1,b2,b3,b4⟩:wr.cell? ⟨w.heap.size+2,0,none⟩=some (.int .i64 f)/\wr.cell? ⟨w.heap.size+2,1,none⟩=some (.int .i64 s)/\wr.cell? ⟨w.heap.size+2,2,none⟩=some u1/\wr.cell? ⟨w.heap.size+2,3,none⟩=some u2:=⟨ak BN.blk 0,ak BN.blk 1,ak BN.blk 2,ak BN.blk 3⟩;obtain⟨a5,e5,hu1⟩:=aV BN.lY;obtain⟨a6,e6,hu2⟩:=aV BN.mM;obtain⟨m5,hm5⟩:∃ m,m=((full rows).map Prod.fst).length:=⟨_,rfl⟩;obtain⟨m6,hm6⟩:∃ m,m=(tL (full rows)).length:=⟨_,rfl⟩;rw[<-hm5] at hu1;rw[<-hm6] at hu2;subst hu1 hu2;have HFN:Hid (∀ z,Below wr.heap.size wr z->Calls Tryz.prog 51 #[] z fun e w'=>e = .returned (.agg #[.int .i64 0,.int .i64 (-1)])/\Below wr.heap.size wr w'):=fun z hz=>(AZ z).mono (by rintro e w' ⟨rfl,hb⟩;exact⟨rfl,hz.trans (hb.mono hz.size)⟩)
   have bd1:wr.drew.cell? ⟨w.heap.size+2,0,none⟩=some (.int .i64 f):=b1;have bd2:wr.drew.cell? ⟨w.heap.size+2,1,none⟩=some (.int .i64 s):=b2;have bd3:wr.drew.cell? ⟨w.heap.size+2,2,none⟩=some (.slice a5 m5 e5):=b3;have bd4:wr.drew.cell? ⟨w.heap.size+2,3,none⟩=some (.slice a6 m6 e6):=b4;have iG:Hid (∀ z,Below wr.heap.size wr z->qK w z f s rows k (.slice a5 m5 e5) (.slice a6 m6 e6)):=fun z hz=>D5.out.below hz
   clear BN zw hm5 hm6;go_wp2_with fail;go_region_with (go_at_call 51;refine Calls.mono (HFN.out _ (by repeat (first | exact Below.refl _ _ | with_reducible apply aR | with_reducible apply dV))) ?_;rintro e w9 ⟨rfl,nC⟩;have Yw:=iG.out w9 nC;have ND:=(show Hid _ from Yw);obtain⟨p0,p1,p2,p3,p4,p5,p6,p7⟩:=Yw.res.all;have r0:=Yw.two.blk;have c0:w9.cell? ⟨w.heap.size+2,0,none⟩=some (.int .i64 f):=ak r0 0;have c1':w9.cell? ⟨w.heap.size+2,1,none⟩=some (.int .i64 s):=ak r0 1;have c2':w9.cell? ⟨w.heap.size+2,2,none⟩=some (.slice a5 m5 e5):=ak r0 2;have c3':w9.cell? ⟨w.heap.size+2,3,none⟩=some (.slice a6 m6 e6):=ak r0 3;clear nC Yw r0);all_goals (
    have hp:=ND.out.res.put ND.out.aL (.int .i64 f) (.int .i64 s) (.slice a5 m5 e5) (.slice a6 m6 e6) (.int .i64 0) (.int .i64 (-1)) _ rfl
    have HP:=(show Hid _ from hp)
    clear hp p0 p1 p2 p3 p4 p5 p6 p7 c0 c1' c2' c3'
    go_wp2
    obtain⟨q1,q2,q3,q4⟩:=HP.out
    have ho1:=q4 _ _ _ _ _ _ (by omega) ND.out.two.lY
    have ho2:=q4 _ _ _ _ _ _ (by omega) ND.out.two.mM
    rw[show rows.take k=rows by rw[<-HN.out];exact List.take_length] at ho1 ho2
    refine xZ.out _ _ _ q1 q2 q3 qC.out.1 ⟨dB ho1 (by omega),dB ho2 (by omega)⟩ _ rfl rfl rfl)
end Go.Proofs.YtcemkhalbjhdkaaGreatDoor
namespace Go.Proofs.YtcemkhalbjhdkaaGreatDoor
open Go.RowKit Go.Maps bS bD
def Iq (w w':World) (f s:Int) (ss cs:List (List UInt8)) (e:Ending):Prop:=
 Below w.heap.size w w'/\((eY f s ss cs=0/\∃ sb,e = .returned (.tuple #[.pointer (some ⟨sb,0,none⟩),.agg #[.int .i64 0,.int .i64 (-1)]])/\wS w' sb (rowsOf ss cs)) \/
  (eY f s ss cs≠0/\e = .returned (.tuple #[.pointer none,.agg #[.int .i64 (eY f s ss cs),.int .i64 (kD f s ss cs)]])))
theorem ED {Y z:World} {v:Value} {g:Nat} (G:pG Y z v g) {base n base' sz m:Nat} {e e':TypeId} {xs ys:List Value} {v':Value} (ho:Y.ownsRow base e 1 v n xs) (h:Y.ownsRow base' e' sz v' m ys) (hne:e'≠e):z.ownsRow base' e' sz v' m ys:=dA h fun g' hg'=>by
 obtain⟨_,q2,cur,hc⟩:=bC h hg';refine G.blk g' q2 fun e=>?_
 obtain⟨_,_,aci,hc2⟩:=bC ho e;exact rT hc hc2 hne rfl
structure BO (w wr:World) (f s:Int) (a1 a2:Option Addr) (n c1 c2:Nat) (ss cs:List (List UInt8)) (k:Nat) (vs vl:Value) (ls:List Value):Prop where
 ok:∀ j,j<k->jh f s ss cs j=0
 bb:wr.heap[w.heap.size]? = some (.cells #[.int .i64 f,.int .i64 s,.slice a1 n c1,.slice a2 n c2] 30 (0,0))
 r2:wr.heap[w.heap.size+1]? = some (.cells #[.int .i64 0,.int .i64 0] 32 (0,0))
 set:nJ wr (w.heap.size+3) (w.heap.size+2) vs vl (ss.take k) ls
 jN:ls.length=k
 pts:∀ i,i<k->∃ v,ls[i]? = some v/\wr.ownsRow (w.heap.size+3) 67 2 v (gV (cs.getD i [])).length (aF (gV (cs.getD i [])))
 aL:Below w.heap.size w wr
 jF:w.heap.size+3<=wr.heap.size
theorem BO.below {w wr z:World} {f s:Int} {a1 a2:Option Addr} {n c1 c2:Nat} {ss cs:List (List UInt8)} {k:Nat} {vs vl:Value} {ls:List Value} (h:BO w wr f s a1 a2 n c1 c2 ss cs k vs vl ls) (hb:Below wr.heap.size wr z):BO w z f s a1 a2 n c1 c2 ss cs k vs vl ls:=
 ⟨h.ok,(hb.block _ (aG h.bb)).trans h.bb,(hb.block _ (aG h.r2)).trans h.r2,h.set.below hb,h.jN,fun i hi=>(h.pts i hi).imp fun _ hv=>⟨hv.1,bM hv.2 hb⟩,h.aL.trans (hb.mono h.aL.size),Nat.le_trans h.jF hb.size⟩
theorem BO.cells {w wr:World} {f s:Int} {a1 a2:Option Addr} {n c1 c2:Nat} {ss cs:List (List UInt8)} {k:Nat} {vs vl:Value} {ls:List Value} (h:BO w wr f s a1 a2 n c1 c2 ss cs k vs vl ls):wr.cell? ⟨w.heap.size,0,none⟩=some (.int .i64 f)/\wr.cell? ⟨w.heap.size,1,none⟩=some (.int .i64 s)/\wr.cell? ⟨w.heap.size,2,none⟩=some (.slice a1 n c1)/\wr.cell? ⟨w.heap.size,3,none⟩=some (.slice a2 n c2)/\wr.cell? ⟨w.heap.size+1,0,none⟩=some (.int .i64 0)/\wr.cell? ⟨w.heap.size+1,1,none⟩=some (.int .i64 0)/\∀ q,wr.frozen? ⟨w.heap.size+1,q,none⟩=false:=
 ⟨ak h.bb 0,ak h.bb 1,ak h.bb 2,ak h.bb 3,ak h.r2 0,ak h.r2 1,fun q=>by simp[World.frozen?,h.r2]⟩
structure Je (w z:World) (C A:Int):Prop where
 r2:z.heap[w.heap.size+1]? = some (.cells #[.int .i64 C,.int .i64 A] 32 (0,0))
 aL:Below w.heap.size w z
theorem Je.drew {w z:World} {C A:Int} (h:Je w z C A):Je w z.drew C A:=⟨h.r2,h.aL.drew⟩
theorem vg {w z:World} (h:z.heap[w.heap.size+1]? = some (.cells #[.int .i64 0,.int .i64 0] 32 (0,0))) (hb:Below w.heap.size w z) (C A:Int):Je w ((z.setCell ⟨w.heap.size+1,0,none⟩ (.int .i64 C)).setCell ⟨w.heap.size+1,1,none⟩ (.int .i64 A)) C A:=
 ⟨set2 h _ _,(hb.setCell (p:=⟨w.heap.size+1,0,none⟩) (Nat.le_succ _) _).setCell (p:=⟨w.heap.size+1,1,none⟩) (Nat.le_succ _) _⟩
theorem D8 (w:World) (f s:Int) (a1 a2:Option Addr) (c1 c2:Nat) (ss cs:List (List UInt8)) (h1:jH w a1 ss) (h2:jH w a2 cs) (hss:∀ x,x∈ss->x.length<=100000) (hcs:∀ x,x∈cs->x.length<=10000) (hn:ss.length<=100000) (hm:cs.length<=100000) :
  Calls Tryz.prog 19 #[.agg #[.int .i64 f,.int .i64 s,.slice a1 ss.length c1,.slice a2 cs.length c2]] w fun e w'=>Iq w w' f s ss cs e:=by
 have hc1:=h1;have hc2:=h2;obtain⟨n,hnn⟩:∃ n,n=ss.length:=⟨_,rfl⟩;obtain⟨m,hmm⟩:∃ m,m=cs.length:=⟨_,rfl⟩;have HN:=(show Hid _ from hnn.symm);have Yx:=(show Hid _ from hmm.symm);rw[<-hnn,<-hmm];rw[<-hnn] at hn;rw[<-hmm] at hm;obtain⟨W,hW⟩:∃ W,W=(w.alloc (.cells #[.int .i64 f,.int .i64 s,.slice a1 n c1,.slice a2 m c2] 30)).alloc (.cells #[.int .i64 0,.int .i64 0] 32):=⟨_,rfl⟩;have hs1:(w.alloc (.cells #[.int .i64 f,.int .i64 s,.slice a1 n c1,.slice a2 m c2] 30)).heap.size=w.heap.size+1:=by simp
 have hbW:Below w.heap.size w W:=by rw[hW];exact ((Below.refl _ _).alloc (Nat.le_refl _) _).alloc (by simp) _
 have hr1:W.heap[w.heap.size]? = some (.cells #[.int .i64 f,.int .i64 s,.slice a1 n c1,.slice a2 m c2] 30 (0,0)):=by
  rw[hW];exact (heap_alloc_old _ _ (by rw[hs1];omega)).trans (heap_alloc_new _ _)
 have hr2:W.heap[w.heap.size+1]? = some (.cells #[.int .i64 0,.int .i64 0] 32 (0,0)):=by
  rw[hW,<-hs1];exact heap_alloc_new _ _
 have DC:W.heap.size=w.heap.size+2:=by rw[hW];simp
 have HW:=(show Hid _ from hW);have cO:=(show Hid _ from hbW);have HR1:=(show Hid _ from And.intro hr1 hr2);have qZ:Hid (∀ i (hi:i<ss.length),∃ g o,a1=some ⟨g,o,none⟩/\∀ z,Below w.heap.size w z->z.cell? ⟨g,o+i,none⟩=some (encStr ss[i])):=fun i hi=>by
  obtain⟨g,o,e,hc⟩:=hc1 i hi;exact⟨g,o,e,fun z hz=>(hz.cell (p:=⟨g,o+i,none⟩) (World.block_lt_of_cell? w ⟨g,o+i,none⟩ hc)).trans hc⟩
 have oW:Hid (∀ i (hi:i<cs.length),∃ g o,a2=some ⟨g,o,none⟩/\∀ z,Below w.heap.size w z->z.cell? ⟨g,o+i,none⟩=some (encStr cs[i])):=fun i hi=>by
  obtain⟨g,o,e,hc⟩:=hc2 i hi;exact⟨g,o,e,fun z hz=>(hz.cell (p:=⟨g,o+i,none⟩) (World.block_lt_of_cell? w ⟨g,o+i,none⟩ hc)).trans hc⟩
 have eO:=(show Hid _ from And.intro hss hcs);have HZ:Hid (∀ (Y:World) (C A:Int),Je w Y C A->eY f s ss cs=C/\kD f s ss cs=A->C≠0->∀ (a:Act),a.tmps[2]?.getD undef = .pointer none->a.tmps[3]?.getD undef = .pointer (some ⟨w.heap.size+1,0,none⟩)->a.defers = []->bodyPost Tryz.prog Tryz.f19 (fun e w'=>Iq w w' f s ss cs e) Exit.ret a Y):=fun Y C A h hC hne a t2 t3 hd=>by
  have v0:Y.cell? ⟨w.heap.size+1,0,none⟩=some (.int .i64 C):=ak h.r2 0;have v1:Y.cell? ⟨w.heap.size+1,1,none⟩=some (.int .i64 A):=ak h.r2 1;refine bodyPost_ret (v:=.tuple #[.pointer none,.agg #[.int .i64 C,.int .i64 A]]) (by simp[results,Tryz.results19,go_sem,v0,v1,t2,t3]) hd ⟨h.aL,.inr ⟨by rw[hC.1];exact hne,by rw[hC.1,hC.2]⟩⟩
 have xZ:Hid (∀ (z:World) (vs vl:Value) (ls:List Value),BO w z f s a1 a2 n c1 c2 ss cs n vs vl ls->eY f s ss cs=0->∀ (a:Act),a.tmps[2]?.getD undef = .pointer (some ⟨w.heap.size+2,0,none⟩)->a.tmps[3]?.getD undef = .pointer (some ⟨w.heap.size+1,0,none⟩)->a.defers = []->bodyPost Tryz.prog Tryz.f19 (fun e w'=>Iq w w' f s ss cs e) Exit.ret a ((z.setCell ⟨w.heap.size+1,0,none⟩ (.int .i64 0)).setCell ⟨w.heap.size+1,1,none⟩ (.int .i64 (-1)))):=fun z vs vl ls h hC a t2 t3 hd=>by
  have hf:=vg h.r2 h.aL 0 (-1);have hl:cs.length=ss.length:=(lC hC).2.2.1;have hset:wS ((z.setCell ⟨w.heap.size+1,0,none⟩ (.int .i64 0)).setCell ⟨w.heap.size+1,1,none⟩ (.int .i64 (-1))) (w.heap.size+2) (rowsOf ss cs):=by
   have hA:nJ ((z.setCell ⟨w.heap.size+1,0,none⟩ (.int .i64 0)).setCell ⟨w.heap.size+1,1,none⟩ (.int .i64 (-1))) (w.heap.size+3) (w.heap.size+2) vs vl ((rowsOf ss cs).map Prod.fst) ls:=by
    rw[Hw hl];have h0:=h.set;rw[List.take_of_length_le (by omega)] at h0;refine⟨?_,h0.low,cZ (cZ h0.names (by omega)) (by omega),cZ (cZ h0.row (by omega)) (by omega)⟩;rw[Below.heap_setCell _ _ _ _ (by show w.heap.size+2≠w.heap.size+1;omega),Below.heap_setCell _ _ _ _ (by show w.heap.size+2≠w.heap.size+1;omega)];exact h0.set
   refine hA.done (by rw[h.jN,mq hl];omega) fun i hi=>?_
   rw[mq hl] at hi;obtain⟨v,e1,e2⟩:=h.pts i (by omega);have e3:(rowsOf ss cs)[i].2=gV (cs.getD i []):=by
    have hi2:i<cs.length:=by omega
    simp[rowsOf,List.getD_eq_getElem?_getD,hi2]
   have e4:=cZ (k:=1) (u:=.int .i64 (-1)) (cZ (k:=0) (tb:=w.heap.size+1) (u:=.int .i64 0) e2 (by omega)) (by omega:w.heap.size+1<w.heap.size+3);obtain⟨A,C,hv,_,hp,_⟩:=rZ e4;rw[e3];exact⟨A,C,by rw[e1,hv],hp⟩
  obtain⟨Y,hY⟩:∃ Y,Y=((z.setCell ⟨w.heap.size+1,0,none⟩ (.int .i64 0)).setCell ⟨w.heap.size+1,1,none⟩ (.int .i64 (-1))):=⟨_,rfl⟩;rw[<-hY] at hset hf ⊢;have v0:Y.cell? ⟨w.heap.size+1,0,none⟩=some (.int .i64 0):=ak hf.r2 0;have v1:Y.cell? ⟨w.heap.size+1,1,none⟩=some (.int .i64 (-1)):=ak hf.r2 1;refine bodyPost_ret (v:=.tuple #[.pointer (some ⟨w.heap.size+2,0,none⟩),.agg #[.int .i64 0,.int .i64 (-1)]]) (by simp[results,Tryz.results19,go_sem,v0,v1,t2,t3]) hd ⟨hf.aL,.inl ⟨hC,_,rfl,hset⟩⟩
 have wY:=(show Hid _ from CK W f s);have hE0:=Gr f s;have gW:Hid (∀ (c:Int) (z:World),Calls Tryz.prog 31 #[.int .i64 c] z fun e w'=>e = .returned (.agg #[.int .i64 c,.int .i64 (-1)])/\Below z.heap.size z w'):=fun c z=>rM c z
 have x0:W.cell? ⟨w.heap.size,0,none⟩=some (.int .i64 f):=ak hr1 0;have x1:W.cell? ⟨w.heap.size,1,none⟩=some (.int .i64 s):=ak hr1 1;have x2:W.cell? ⟨w.heap.size,2,none⟩=some (.slice a1 n c1):=ak hr1 2;have x3:W.cell? ⟨w.heap.size,3,none⟩=some (.slice a2 m c2):=ak hr1 3;obtain⟨ev,hev⟩:∃ ev,ev=gI f s:=⟨_,rfl⟩;rw[<-hev] at wY hE0;have P7:=(show Hid _ from hev);have Jf:Hid (gI f s≠0\/60<ss.length->eY f s ss cs=2/\kD f s ss cs = -1):=fun h=>MU h
 have NG:Hid (¬ (gI f s≠0\/60<ss.length)->cs.length≠ss.length->eY f s ss cs=3/\kD f s ss cs = -1):=fun h h'=>MV h h'
 have iG:Hid (∀ (c:Int) (z:World),Below W.heap.size W z->Je w ((z.setCell ⟨w.heap.size+1,0,none⟩ (.int .i64 c)).setCell ⟨w.heap.size+1,1,none⟩ (.int .i64 (-1))) c (-1)/\z.cell? ⟨w.heap.size+1,0,none⟩=some (.int .i64 0)/\z.cell? ⟨w.heap.size+1,1,none⟩=some (.int .i64 0)/\∀ q,z.frozen? ⟨w.heap.size+1,q,none⟩=false):=fun c z hz=>by
  have:=(hz.block _ (aG hr2)).trans hr2;exact⟨vg this (hbW.trans (hz.mono hbW.size)) c (-1),ak this 0,ak this 1,fun q=>by simp[World.frozen?,this]⟩
 have agx:ev=0\/ev=2:=by rw[hev];unfold gI;split<;>simp
 clear h1 h2 hc1 hc2 hss hcs hW hbW hr1 hr2 hs1 hnn hmm hev;go_enter Tryz.func19,Tryz.ntmps19;go_upto_region 1 with fail;rw[<-HW.out];go_wp2_with fail;refine Calls.mono wY.out ?_;rintro e w1 ⟨rfl,hw1⟩;have bq:=hw1;subst bq;clear wY hw1 HW;rcases agx with rfl | rfl
 ·by_cases Fy:60<n
  ·have d2:decide ((60:Int)<(n:Int))=true:=decide_eq_true (by omega);have HM:Hid (eY f s ss cs=2/\kD f s ss cs = -1):=Jf.out (.inr (by rw[HN.out];exact Fy));clear Jf NG Fy;go_wp2_with fail;refine Calls.mono (gW.out 2 w1) ?_;rintro e w2 ⟨rfl,hb2⟩;obtain⟨hz,p0,p1,p2⟩:=iG.out 2 w2 hb2;have jM:=(show Hid _ from hz);clear hb2 hz;dsimp only
   go_wp2;exact HZ.out _ 2 (-1) jM.out HM.out (by decide) _ rfl rfl rfl
  ·have d2:decide ((60:Int)<(n:Int))=false:=decide_eq_false (by omega);have HG:Hid (¬ (gI f s≠0\/60<ss.length)):=by
    rw[HN.out];rintro (h | h)
    ·exact h P7.out.symm
    ·exact Fy h
   by_cases hnm:n=m
   ·subst hnm;have DN:n<=60:=by omega
    have R8:Hid (gI f s=0):=P7.out.symm;clear Jf NG Fy hm hn;go_upto_region 9 with fail;obtain⟨W3,hW3⟩:∃ W3,W3=w1.alloc (.cells #[.slice none 0 0,.slice none 0 0] 96):=⟨_,rfl⟩;have hb3:Below w1.heap.size w1 W3:=by rw[hW3];exact (Below.refl _ _).alloc (Nat.le_refl _) _
    have hx3:W3.heap[w.heap.size+2]? = some (.cells #[.slice none 0 0,.slice none 0 0] 96 (0,0)):=by rw[hW3,<-DC];exact heap_alloc_new _ _
    have H0:Hid (BO w W3 f s a1 a2 n c1 c2 ss cs 0 (.slice none 0 0) (.slice none 0 0) []):=
     ⟨fun j h=>absurd h (Nat.not_lt_zero _),(hb3.block _ (aG HR1.out.1)).trans HR1.out.1,(hb3.block _ (aG HR1.out.2)).trans HR1.out.2,⟨hx3,Nat.lt_succ_self _,⟨rfl,.inl ⟨rfl,rfl⟩⟩,⟨rfl,.inl ⟨rfl,rfl⟩⟩⟩,rfl,fun i h=>absurd h (Nat.not_lt_zero _),cO.out.trans (hb3.mono cO.out.size),aG hx3⟩
    rw[<-hW3];clear hb3 hx3 hW3 x0 x1 x2 x3 d2 DC;go_wp2_with fail;go_loopw [6] (fun i wr=>∃ (k:Nat) (vs vl:Value) (ls:List Value),k<=n/\i = .int .i64 (k:Int)/\BO w wr f s a1 a2 n c1 c2 ss cs k vs vl ls) (fun i _=>n-(intOf i).toNat);case atStart=>exact⟨0,_,_,[],Nat.zero_le _,rfl,H0.out⟩
    case round=>
     obtain⟨k,vs,vl,ls,hk,rfl,hto⟩:=hrel;have D5:=(show Hid _ from hto);have hsz:=hto.jF;obtain⟨y0,y1,y2,y3,y4,y5,y6⟩:=hto.cells;clear hto;by_cases hkn:k<n
     ·have hks:k<ss.length:=by rw[HN.out];exact hkn
      have hkc:k<cs.length:=by rw[Yx.out];exact hkn
      obtain⟨g1,o1,q1,hg1⟩:=qZ.out k hks;subst q1;obtain⟨g2,o2,q2,hg2⟩:=oW.out k hkc;subst q2;obtain⟨nm,hnm⟩:∃ nm:ByteArray,nm=txt ss[k]:=⟨_,rfl⟩;have x4:wr.cell? ⟨g1,o1+k,none⟩=some (.string nm):=by rw[hnm];exact hg1 wr D5.out.aL
      have k0:(0:Int)<=(k:Int):=by omega
      have k1:(k:Int)<(n:Int):=by omega
      have uw:=(show Hid _ from Nw wr nm (by rw[hnm,bL];exact eO.out.1 _ (List.getElem_mem hks)));have Gb:nm.data.toList=ss[k]:=by rw[hnm];rfl
      rw[Gb] at uw;obtain⟨RC,Fz⟩:∃ RC,RC=gF ss[k]:=⟨_,rfl⟩;obtain⟨RA,UE⟩:∃ RA,RA=zl ss[k]:=⟨_,rfl⟩;rw[<-Fz,<-UE] at uw;have hR0:0<=RC:=by rw[Fz];exact yG _
      have J7:=(show Hid _ from Fz);have zS:=(show Hid _ from And.intro hnm Gb);have hgs:ss.getD k []=ss[k]:=by simp[List.getD_eq_getElem?_getD,hks]
      have hgc:cs.getD k []=cs[k]:=by simp[List.getD_eq_getElem?_getD,hkc]
      have jG:Hid (jh f s ss cs k=kY f s (prev ss k) ss[k] cs[k]):=by
       show _=_;unfold jh;rw[hgs,hgc]
      have zo:=(show Hid _ from hgc);have Nz:Hid (gG (prev ss k) ss[k]=if RC≠0 then RC else if prev ss k<ss[k] then 0 else 3):=by
       rw[Fz];rfl
      have HAT:Hid (∀ C:Int,jh f s ss cs k=C->C≠0->eY f s ss cs=C/\kD f s ss cs=(k:Int)):=fun C hC hne=>by
       obtain⟨h1,h2⟩:=Yb HG.out (by rw[Yx.out,HN.out]) hks D5.out.ok (by rw[hC];exact hne);exact⟨h1.trans hC,h2⟩
      clear Fz UE hnm Gb hgs hgc;go_wp2_with fail;refine Calls.mono uw.out ?_;rintro e w2 ⟨hb2,x,rfl⟩;have HT2:=(show Hid _ from D5.out.below hb2);clear uw hb2 y0 y1 y2 y3 y4 y5 y6 x4;dsimp only
      go_upto_region 13 with fail;obtain⟨W4,qY⟩:∃ W4,W4=w2.alloc (.cells #[.int .i64 RC,.int .i64 RA] 32):=⟨_,rfl⟩;have hb4:Below w2.heap.size w2 W4:=by rw[qY];exact (Below.refl _ _).alloc (Nat.le_refl _) _
      have P8:W4.heap[w2.heap.size]? = some (.cells #[.int .i64 RC,.int .i64 RA] 32 (0,0)):=by rw[qY];exact heap_alloc_new _ _
      rw[<-qY];clear qY;have Ag:=(show Hid _ from HT2.out.below hb4);obtain⟨y0,y1,y2,y3,y4,y5,y6⟩:=Ag.out.cells;have v4:W4.cell? ⟨w2.heap.size,0,none⟩=some (.int .i64 RC):=ak P8 0;have vd4:W4.drew.cell? ⟨w2.heap.size,0,none⟩=some (.int .i64 RC):=v4;have x4:W4.cell? ⟨g1,o1+k,none⟩=some (.string nm):=by rw[zS.out.1];exact hg1 W4 Ag.out.aL
      clear hb4 P8;by_cases hr:0<RC
      ·have d3:decide (0<RC)=true:=decide_eq_true hr;have mV:Hid (RC≠0):=fun h=>(by omega)
       have HM:=(show Hid _ from HAT.out RC (by rw[jG.out];unfold kY;rw[Nz.out,if_pos mV.out,if_pos mV.out]) mV.out);have jM:=(show Hid _ from vg Ag.out.r2 Ag.out.aL RC k);have yd4:W4.drew.cell? ⟨w.heap.size+1,0,none⟩=some (.int .i64 0):=y4;have yd5:W4.drew.cell? ⟨w.heap.size+1,1,none⟩=some (.int .i64 0):=y5;have yd6:∀ q,W4.drew.frozen? ⟨w.heap.size+1,q,none⟩=false:=y6;clear hr;go_wp2_with fail;go_region;all_goals (go_wp2;exact HZ.out _ RC k jM.out.drew HM.out mV.out _ rfl rfl rfl)
      ·obtain rfl:RC=0:=by omega
       clear hr;have J3:Hid (k=0->prev ss k<ss[k]):=fun h0=>by
        unfold prev;rw[if_pos h0];exact Dm J7.out.symm
       have HPV:Hid (0<k->∀ z,Below w.heap.size w z->z.cell? ⟨g1,o1+(k-1),none⟩=some (encStr (prev ss k))):=fun hk0 z hz=>by
        obtain⟨g,o,e,h⟩:=qZ.out (k-1) (by omega);simp at e;obtain⟨rfl,rfl⟩:=e;rw[h z hz];have:prev ss k=ss[k-1]:=by
         unfold prev;rw[if_neg (by omega)];simp[List.getD_eq_getElem?_getD,show k-1<ss.length by omega]
        rw[this]
       go_upto_region 15 with fail;go_cut [80] from 42 to 139 (fun s80 wz=>∃ (b:Bool) (q:Nat),s80 = .bool b/\wz=W4.drewN q/\Io b 0 (prev ss k) ss[k]);case first=>
        by_cases hk0:k=0
        ·subst hk0;have HB:Hid (Io false 0 (prev ss 0) ss[0]):=⟨fun h=>(by cases h),fun h=>absurd (J3.out rfl) h.2⟩;go_quiet (fail);go_wp2_with fail;go_meet;case rel=>exact⟨false,_,rfl,rfl,HB.out⟩
        ·obtain⟨j,rfl⟩:∃ j,k=j+1:=⟨k-1,by omega⟩;obtain⟨pv,hpv⟩:∃ pv:ByteArray,pv=txt (prev ss (j+1)):=⟨_,rfl⟩;have x5:W4.cell? ⟨g1,o1+j,none⟩=some (.string pv):=by rw[hpv];exact HPV.out (by omega) W4 Ag.out.aL
         have hlt:=Al nm pv;have heq:=Ie nm pv;rw[zS.out.2,show pv.data.toList=prev ss (j+1) by rw[hpv];rfl] at hlt heq;have i1:(0:Int)<=(j:Int)+1-1:=by omega
         have i2:(j:Int)+1-1<(n:Int):=by omega
         have i3:(0:Int)<(j:Int)+1:=by omega
         have nG:=(show Hid _ from hlt);have qP:=(show Hid _ from heq);clear hlt heq hpv hk0;by_cases h1:prev ss (j+1)<ss[j+1]
         ·have hl:Op.bytesLess nm.toList pv.toList=false:=by rw[nG.out];exact decide_eq_false (fun h=>absurd (List.lt_trans h h1) (List.lt_irrefl _))
          have hl2:(nm.toList==pv.toList)=false:=by rw[qP.out];exact decide_eq_false (fun h=>by rw[h] at h1;exact List.lt_irrefl _ h1)
          have HB:Hid (Io false 0 (prev ss (j+1)) ss[j+1]):=⟨fun h=>(by cases h),fun h=>absurd h1 h.2⟩;clear h1 nG qP;go_quiet (fail);go_wp2_with fail;go_meet;case rel=>exact⟨false,_,rfl,rfl,HB.out⟩
         ·have HB:Hid (Io true 0 (prev ss (j+1)) ss[j+1]):=⟨fun _=>⟨rfl,h1⟩,fun _=>rfl⟩;by_cases h2:ss[j+1]<prev ss (j+1)
          ·have hl:Op.bytesLess nm.toList pv.toList=true:=by rw[nG.out];exact decide_eq_true h2
           clear h1 h2 nG qP;go_quiet (fail);go_wp2_with fail;go_meet;case rel=>exact⟨true,_,rfl,rfl,HB.out⟩
          ·have hl:Op.bytesLess nm.toList pv.toList=false:=by rw[nG.out];exact decide_eq_false h2
           have hl2:(nm.toList==pv.toList)=true:=by rw[qP.out];exact decide_eq_true (List.le_antisymm (List.not_lt.1 h1) (List.not_lt.1 h2))
           clear h1 h2 nG qP;go_quiet (fail);go_wp2_with fail;go_meet;case rel=>exact⟨true,_,rfl,rfl,HB.out⟩
       case rest=>
        obtain⟨b,q,rfl,hwc,hnb⟩:=hcut;have P9:=(show Hid _ from hnb);have Qa:Below W4.heap.size W4 wc:=by rw[hwc];exact below_draws (Below.refl _ _) q
        have wZ:=(show Hid _ from Ag.out.below Qa);clear hnb hwc Qa y0 y1 y2 y3 y4 y5 y6 x4 v4 vd4;obtain⟨y0,y1,y2,y3,y4,y5,y6⟩:=wZ.out.cells;by_cases hb:b=true
        ·have hn0:=P9.out.1 hb;subst hb;have hnc:gG (prev ss k) ss[k]=3:=by rw[Nz.out,if_neg (fun h=>h rfl),if_neg hn0.2]
         have HM:=(show Hid _ from HAT.out 3 (by rw[jG.out];unfold kY;rw[hnc,if_pos (by decide)]) (by decide));have jM:=(show Hid _ from vg wZ.out.r2 wZ.out.aL 3 k);clear hn0 hnc;go_wp2;exact HZ.out _ 3 k jM.out HM.out (by decide) _ rfl rfl rfl
        ·have hbf:b=false:=by simpa using hb
         subst hbf;have hlt:prev ss k<ss[k]:=by
          apply Decidable.not_not.1;intro h;exact hb (P9.out.2 ⟨rfl,h⟩)
         have hnc:gG (prev ss k) ss[k]=0:=by rw[Nz.out,if_neg (fun h=>h rfl),if_pos hlt]
         have HRW:Hid (jh f s ss cs k=if pE cs[k]≠0 then pE cs[k] else if gV cs[k] = [] then 5 else if kC f s (gV cs[k])=true then 0 else 2):=by
          show _=_;rw[jG.out];unfold kY;rw[hnc,if_neg (fun h=>h rfl)]
         obtain⟨ch,hch⟩:∃ ch:ByteArray,ch=txt cs[k]:=⟨_,rfl⟩;have x6:wc.cell? ⟨g2,o2+k,none⟩=some (.string ch):=by rw[hch];exact hg2 wc wZ.out.aL
         have dJ:=(show Hid _ from aco wc ch (by rw[hch,bL];exact eO.out.2 _ (List.getElem_mem hkc)));rw[show ch.data.toList=cs[k] by rw[hch];rfl] at dJ;clear hb hlt hnc hch;go_wp2_with fail;refine Calls.mono dJ.out ?_;rintro e w5 ⟨hb5,⟨NH,v5,rfl,PI⟩|⟨NH,rfl⟩⟩
         ·have HUZ:Hid (pE cs[k]=0):=NH;have hsp:=uV (qh.1 NH);have hl5:=(fD hsp.1).1;have Ar:=(show Hid _ from wZ.out.below hb5);have uF:Hid (w5.ownsRow (w.heap.size+3) 67 2 v5 (gV cs[k]).length (aF (gV cs[k]))):=dB PI wZ.out.jF;obtain⟨a5,c5,rfl,_,Kj,_⟩:=rZ PI;obtain⟨n5,Yy⟩:∃ n5,n5=(gV cs[k]).length:=⟨_,rfl⟩;have HIS:=(show Hid _ from yh w5 a5 c5 (gV cs[k]) f s R8.out Kj (by omega));obtain⟨ib,hib⟩:∃ ib,ib=kC f s (gV cs[k]):=⟨_,rfl⟩;rw[<-hib,<-Yy] at HIS;rw[<-Yy] at uF hl5 ⊢;have DX:=(show Hid _ from And.intro hib Yy);have WZ:Hid (jh f s ss cs k=if gV cs[k] = [] then 5 else if ib=true then 0 else 2):=by
           show _=_;rw[HRW.out,NH,if_neg (fun h=>h rfl),hib]
          clear y0 y1 y2 y3 y4 y5 y6 hb5 dJ x6 NH hsp PI Kj hib Yy;obtain⟨y0,y1,y2,y3,y4,y5,y6⟩:=Ar.out.cells;dsimp only
          go_wp2_with fail;refine Calls.mono HIS.out ?_;rintro e w7 ⟨rfl,hw7⟩;have FV:=hw7;subst FV;have nO:=Ar;clear hw7 HIS;dsimp only
          by_cases hz:n5=0
          ·have hnil:gV cs[k] = []:=List.eq_nil_of_length_eq_zero (by rw[<-DX.out.2];exact hz);have HM:=(show Hid _ from HAT.out 5 (by rw[WZ.out,if_pos hnil]) (by decide));have jM:=(show Hid _ from vg nO.out.r2 nO.out.aL 5 k);subst hz;clear hnil;go_wp2;exact HZ.out _ 5 k jM.out HM.out (by decide) _ rfl rfl rfl
          ·have hne:¬ gV cs[k] = []:=fun h=>hz (by rw[DX.out.2,h];rfl)
           have d7:((n5:Int)==0)=false:=by rw[beq_eq_false_iff_ne];omega
           cases ib with
           | false=>
            have HM:=(show Hid _ from HAT.out 2 (by rw[WZ.out,if_neg hne,if_neg (by decide)]) (by decide));have jM:=(show Hid _ from vg nO.out.r2 nO.out.aL 2 k);clear hz hne;go_wp2;exact HZ.out _ 2 k jM.out HM.out (by decide) _ rfl rfl rfl
           | true=>
            have dG:Hid (∀ j,j<k+1->jh f s ss cs j=0):=fun j hj=>by
             rcases Nat.lt_or_ge j k with h | h
             ·exact nO.out.ok j h
             ·obtain rfl:j=k:=by omega
              rw[WZ.out,if_neg hne,if_pos rfl]
            have hlk:(ss.take k).length=k:=by rw[List.length_take];omega
            obtain⟨b3,e3,hu1⟩:=aV nO.out.set.names;obtain⟨b4,e4,hu2⟩:=aV nO.out.set.row;rw[hlk] at hu1;rw[nO.out.jN] at hu2;subst hu1 hu2;have sQ:Hid (w7.ownsRow (w.heap.size+3) 9 1 (.slice b3 k e3) k ((ss.take k).map encStr)):=by have:=nO.out.set.names;rw[hlk] at this;exact this
            have HLK:=(show Hid _ from hlk);obtain⟨iS,hI,hS0,hS1,hS2⟩:=info_parts Tryz.infoStr3;have Ao:=(show Hid _ from hI);clear hI;obtain⟨iR,hI,hR0,mh,hR2⟩:=info_parts Tryz.infoPts3;have NI:=(show Hid _ from hI);clear hI hz hne hlk;have FB:Hid (∀ w',Below w7.heap.size w7 w'->w'.cell? ⟨w.heap.size+2,0,none⟩=some (.slice b3 k e3)/\w'.cell? ⟨w.heap.size,2,none⟩=some (.slice (some ⟨g1,o1,none⟩) n c1)/\w'.cell? ⟨g1,o1+k,none⟩=some (.string nm)):=fun z hz=>by
             have:=nO.out.below hz;exact⟨ak this.set.set 0,this.cells.2.2.1,by rw[zS.out.1];exact hg1 z this.aL⟩
            have hsd:=FB.out w7.drew (dV (Below.refl _ _));clear y0 y1 y2 y3 y4 y5 y6;go_upto_region 25 with fail;refine mJ (S:=fun w'=>w'.cell? ⟨w.heap.size+2,0,none⟩=some (.slice b3 k e3)/\w'.cell? ⟨w.heap.size,2,none⟩=some (.slice (some ⟨g1,o1,none⟩) n c1)/\w'.cell? ⟨g1,o1+k,none⟩=some (.string nm)) (by kernel_rfl) 14 hsd (fun hHeld=>?_);clear hsd;refine bV (i:=0) (v:=.pointer (some ⟨w.heap.size+2,0,none⟩)) rfl (by kernel_rfl) (by kernel_rfl) (by kernel_rfl) (by kernel_rfl) (fun _ _ _ h=>h) (Or.inl ⟨by rfl,?_⟩) (fun _=>hHeld) ?_
            ·intro w _;go_simp
            try simp only[Act.put]
            refine bV (i:=1) (v:=.pointer (some ⟨w.heap.size+2,0,none⟩)) rfl (by kernel_rfl) (by kernel_rfl) (by kernel_rfl) (by kernel_rfl) (fun _ _ _ h=>h) (Or.inl ⟨by rfl,?_⟩) (fun _=>hHeld) ?_
            ·intro w _;go_simp
            try simp only[Act.put]
            refine bV (i:=2) (v:=.pointer (some ⟨w.heap.size+2,0,none⟩)) rfl (by kernel_rfl) (by kernel_rfl) (by kernel_rfl) (by kernel_rfl) (fun _ _ _ h=>h) (Or.inl ⟨by rfl,?_⟩) (fun _=>hHeld) ?_
            ·intro w _;go_simp
            try simp only[Act.put]
            refine bV (i:=3) (v:=.pointer (some ⟨w.heap.size+2,0,none⟩)) rfl (by kernel_rfl) (by kernel_rfl) (by kernel_rfl) (by kernel_rfl) (fun _ _ _ h=>h) (Or.inl ⟨by rfl,?_⟩) (fun _=>hHeld) ?_
            ·intro w _;go_simp
            try simp only[Act.put]
            refine gU (i:=4) (v:=.slice b3 k e3) rfl (by kernel_rfl) (by kernel_rfl) (by kernel_rfl) (by kernel_rfl) (by kernel_rfl) (by kernel_rfl) (fun _ _ _ h=>h) (Or.inl ⟨by rfl,?_⟩) hHeld ?_
            ·intro w hSw;obtain⟨wh,wm,wo⟩:=hSw;go_simp
            try simp only[Act.put]
            refine bV (i:=5) (v:=.pointer (some ⟨w.heap.size,2,none⟩)) rfl (by kernel_rfl) (by kernel_rfl) (by kernel_rfl) (by kernel_rfl) (fun _ _ _ h=>h) (Or.inl ⟨by rfl,?_⟩) (fun _=>hHeld) ?_
            ·intro w _;go_simp
            try simp only[Act.put]
            refine gU (i:=6) (v:=.slice (some ⟨g1,o1,none⟩) n c1) rfl (by kernel_rfl) (by kernel_rfl) (by kernel_rfl) (by kernel_rfl) (by kernel_rfl) (by kernel_rfl) (fun _ _ _ h=>h) (Or.inl ⟨by rfl,?_⟩) hHeld ?_
            ·intro w hSw;obtain⟨wh,wm,wo⟩:=hSw;go_simp
            try simp only[Act.put]
            refine bV (i:=7) (v:=.int .i64 (k:Int)) rfl (by kernel_rfl) (by kernel_rfl) (by kernel_rfl) (by kernel_rfl) (fun _ _ _ h=>h) (Or.inl ⟨by rfl,?_⟩) (fun _=>hHeld) ?_
            ·intro w _;go_simp
            try simp only[Act.put]
            refine bV (i:=8) (v:=.pointer (some ⟨g1,o1+k,none⟩)) rfl (by kernel_rfl) (by kernel_rfl) (by kernel_rfl) (by kernel_rfl) (fun _ _ _ h=>h) (Or.inl ⟨by rfl,?_⟩) (fun _=>hHeld) ?_
            ·intro w _;go_simp
            try simp only[Act.put]
            refine gU (i:=9) (v:=.string nm) rfl (by kernel_rfl) (by kernel_rfl) (by kernel_rfl) (by kernel_rfl) (by kernel_rfl) (by kernel_rfl) (fun _ _ _ h=>h) (Or.inl ⟨by rfl,?_⟩) hHeld ?_
            ·intro w hSw;obtain⟨wh,wm,wo⟩:=hSw;go_simp
            try simp only[Act.put]
            refine bH (rs:=[10]) (by kernel_rfl) (by simp) ?_;refine aI.cons rfl (fun K hK=>?_) aI.nil;go_simp
            refine hK.out _ _ (FB.out _ (aR (dV (Below.refl _ _)) _)) ?_;clear hK K;try simp only[Act.put]
            refine bH (rs:=[11]) (by kernel_rfl) (by simp) ?_;refine aI.cons rfl (fun K hK=>?_) aI.nil;refine mD w7 (by rfl) _ _ 23 (by rfl) (w.heap.size+3) 9 iS (.string ⟨#[]⟩) 16 Tryz.underlying23 Ao.out hS0 hS1 hS2 (by rfl) (.slice b3 k e3) k ((ss.take k).map encStr) (by rfl) sQ.out (aR (dV (Below.refl _ _)) _) _ _ _ _ (by rfl) (by exact heap_alloc_new _ _) (by rfl) (by omega) (by decide) nO.out.jF ?_;intro g8 kG w8 ng lI jW;have h8:=nO.out.set.name (x:=ss[k]) nO.out.jF jW (by rw[HLK.out];rw[zS.out.1] at ng;exact ng) lI;rw[HLK.out] at h8;have q0:w8.cell? ⟨w.heap.size+2,0,none⟩=some (.slice b3 k e3):=ak h8.1 0;have z0:w8.frozen? ⟨w.heap.size+2,0,none⟩=false:=by simp[World.frozen?,h8.1]
            have jo:Below (w.heap.size+2) w7 w8:=h8.2.1.mono (Nat.le_succ _);have zP:=nO.out.aL.trans (h8.2.1.mono (by omega));have UG:Hid (w.heap.size+3<=w8.heap.size):=Nat.le_trans nO.out.jF (Nat.le_trans jW.size lI.size);have acy:Hid (∀ v m ys,w7.ownsRow (w.heap.size+3) 67 2 v m ys->w8.ownsRow (w.heap.size+3) 67 2 v m ys):=fun v m ys hv=>ED lI (bM sQ.out jW) (bM hv jW) (by decide)
            have Aq:Hid (w8.cell? ⟨w.heap.size+2,0,none⟩=some (.slice b3 k e3)/\w8.cell? ⟨w.heap.size,2,none⟩=some (.slice (some ⟨g1,o1,none⟩) n c1)/\w8.cell? ⟨g1,o1+k,none⟩=some (.string nm)):=⟨q0,ak ((jo.block _ (by omega)).trans nO.out.bb) 2,by rw[zS.out.1];exact hg1 w8 zP⟩;have H8:=(show Hid _ from And.intro h8.2.2 (And.intro jo zP));clear ng lI jW h8 jo zP;refine hK.out _ _ Aq.out ?_;clear hK K;try simp only[Act.put]
            refine bV (i:=12) (v:=.pointer (some ⟨w.heap.size+2,0,none⟩)) rfl (by kernel_rfl) (by kernel_rfl) (by kernel_rfl) (by kernel_rfl) (fun _ _ _ h=>h) (Or.inl ⟨by rfl,?_⟩) (fun _=>Aq.out) ?_
            ·intro w _;go_simp
            try simp only[Act.put]
            refine bV (i:=13) (v:=.pointer (some ⟨w.heap.size+2,0,none⟩)) rfl (by kernel_rfl) (by kernel_rfl) (by kernel_rfl) (by kernel_rfl) (fun _ _ _ h=>h) (Or.inl ⟨by rfl,?_⟩) (fun _=>Aq.out) ?_
            ·intro w _;go_simp
            try simp only[Act.put]
            refine bH (rs:=[14]) (by kernel_rfl) (by simp) ?_;refine aI.last rfl (by kernel_rfl) (fun K hK=>?_) aI.nil;go_simp
            refine hK.out _ _ ?_;clear hK K;refine fP (by kernel_rfl) ?_ _;clear Aq q0 z0 FB;obtain⟨Z8,q9⟩:∃ Z8,Z8=w8.setCell ⟨w.heap.size+2,0,none⟩ (.slice (some ⟨g8,0,none⟩) (k+1) kG):=⟨_,rfl⟩;obtain⟨Gn,jo,zP⟩:=H8.out;rw[<-q9] at Gn ⊢;have Sb:Below w.heap.size w Z8:=by rw[q9];exact zP.setCell (p:=⟨w.heap.size+2,0,none⟩) (by show w.heap.size<=w.heap.size+2;omega) _
            have Xa:w.heap.size+3<=Z8.heap.size:=by rw[q9,World.size_setCell];exact UG.out
            have Sc:Below (w.heap.size+2) w7 Z8:=by rw[q9];exact jo.setCell (p:=⟨w.heap.size+2,0,none⟩) (Nat.le_refl _) _
            have agy:Hid (∀ v m ys,w7.ownsRow (w.heap.size+3) 67 2 v m ys->Z8.ownsRow (w.heap.size+3) 67 2 v m ys):=fun v m ys hv=>by rw[q9];exact cZ (acy.out v m ys hv) (by omega)
            have NC:=(show Hid _ from Gn);have Fv:=(show Hid _ from And.intro Sb (And.intro Xa Sc));have HOL:Hid ((Z8.alloc (.cells #[.slice a5 n5 c5] 48)).ownsRow (w.heap.size+3) 48 1 (.slice b4 k e4) k ls):=World.ownsRow.alloc (by have:=Gn.row;rw[nO.out.jN] at this;exact this) _;have nH:Hid (∀ i z,([.slice a5 n5 c5]:List Value)[i]? = some z->(Z8.alloc (.cells #[.slice a5 n5 c5] 48)).cell? ((⟨Z8.heap.size,0,none⟩:Addr).add i)=some z):=World.news_of_block (heap_alloc_new _ _);have H1R:Hid (∀ z∈([.slice a5 n5 c5]:List Value),z.oneCell'=true):=by
             intro z hz;simp at hz;subst hz;rfl
            have s1:Z8.cell? ⟨w.heap.size+2,1,none⟩=some (.slice b4 k e4):=ak Gn.set 1;clear H8 UG acy q9 Gn jo zP Sb Sc;go_wp2_with (at_builtin;refine wpList_append_lies _ rfl _ _ 94 rfl (w.heap.size+3) 48 iR (.slice none 0 0) 1 24 Tryz.underlying94 NI.out hR0 mh hR2 rfl (by decide) _ _ _ rfl HOL.out ⟨Z8.heap.size,0,none⟩ 1 1 [.slice a5 n5 c5] rfl rfl nH.out H1R.out (by omega) (by unfold maxLen;omega) (by omega) (by simp;omega) _ rfl ?_);intro g9 Jd w9 EC Qd acz _;have G9:pG (Z8.alloc (.cells #[.slice a5 n5 c5] 48)) w9 (.slice b4 k e4) g9:=⟨Qd.os,Qd.tape,Qd.output,Qd.size,fun q hq hne=>Qd.block q hq (fun e=>hne e.symm),by simpa using acz⟩;have D7:Below Z8.heap.size Z8 (Z8.alloc (.cells #[.slice a5 n5 c5] 48)):=(Below.refl _ _).alloc (Nat.le_refl _) _;have h9:=NC.out.list (x:=.slice a5 n5 c5) Xa D7 (by rw[nO.out.jN];exact EC) G9;rw[nO.out.jN] at h9;have q1:w9.cell? ⟨w.heap.size+2,1,none⟩=some (.slice b4 k e4):=ak h9.1 1;have z1:w9.frozen? ⟨w.heap.size+2,1,none⟩=false:=by simp[World.frozen?,h9.1]
            have fu:Hid (BO w (w9.setCell ⟨w.heap.size+2,1,none⟩ (.slice (some ⟨g9,0,none⟩) (k+1) Jd)) f s (some ⟨g1,o1,none⟩) (some ⟨g2,o2,none⟩) n c1 c2 ss cs (k+1) (.slice (some ⟨g8,0,none⟩) (k+1) kG) (.slice (some ⟨g9,0,none⟩) (k+1) Jd) (ls ++ [.slice a5 n5 c5])):=by
             obtain⟨Sb,_,Sc⟩:=Fv.out;have nC:Below (w.heap.size+2) w7 w9:=Sc.trans (h9.2.1.mono (Nat.le_succ _));have hpz:∀ v m ys,w7.ownsRow (w.heap.size+3) 67 2 v m ys->(w9.setCell ⟨w.heap.size+2,1,none⟩ (.slice (some ⟨g9,0,none⟩) (k+1) Jd)).ownsRow (w.heap.size+3) 67 2 v m ys:=fun v m ys hv=>cZ (ED G9 HOL.out (bM (agy.out v m ys hv) D7) (by decide)) (by omega)
             refine⟨dG.out,?_,?_,by rw[List.take_succ_eq_append_getElem hks];exact h9.2.2,by simp[nO.out.jN],fun i hi=>?_,(Sb.trans (h9.2.1.mono (by omega))).setCell (p:=⟨w.heap.size+2,1,none⟩) (by show w.heap.size<=w.heap.size+2;omega) _,by rw[World.size_setCell];exact Nat.le_trans Xa (Nat.le_trans D7.size G9.size)⟩
             ·rw[Below.heap_setCell _ _ _ _ (by show w.heap.size≠w.heap.size+2;omega),nC.block _ (by omega)];exact nO.out.bb
             ·rw[Below.heap_setCell _ _ _ _ (by show w.heap.size+1≠w.heap.size+2;omega),nC.block _ (by omega)];exact nO.out.r2
             ·rcases Nat.lt_or_ge i k with h | h
              ·obtain⟨v,h1,h2⟩:=nO.out.pts i h;exact⟨v,by rw[List.getElem?_append_left (by rw[nO.out.jN];exact h)];exact h1,hpz _ _ _ h2⟩
              ·obtain rfl:i=k:=by omega
               refine⟨.slice a5 n5 c5,by rw[List.getElem?_append_right (by rw[nO.out.jN];exact Nat.le_refl _),nO.out.jN];simp,?_⟩;rw[zo.out,<-DX.out.2];exact hpz _ _ _ uF.out
            clear EC Qd acz G9 D7 h9;go_wp2;go_roundw;case rel=>exact⟨k+1,_,_,_,by omega,by go_num,fu.out⟩
            case measure=>simp[intOf]<;>omega
         ·have Ar:=(show Hid _ from wZ.out.below hb5);clear y0 y1 y2 y3 y4 y5 y6 hb5 dJ x6;obtain⟨y0,y1,y2,y3,y4,y5,y6⟩:=Ar.out.cells;obtain⟨UC,UJ⟩:∃ UC,UC=pE cs[k]:=⟨_,rfl⟩;have hU0:0<=UC:=by rw[UJ];exact Hr _
          have mV:Hid (UC≠0):=by rw[UJ];exact NH
          have d5:(UC==0)=false:=by simpa using mV.out
          have d6:decide (0<UC)=true:=decide_eq_true (by have:=mV.out;omega);have HM:=(show Hid _ from HAT.out UC (by rw[HRW.out,<-UJ,if_pos mV.out]) mV.out);have jM:=(show Hid _ from vg Ar.out.r2 Ar.out.aL UC k);have HIS:=(show Hid _ from yh w5 none 0 [] f s R8.out (.inl rfl) (by simp));rw[<-UJ];clear UJ NH;dsimp only
          go_wp2_with fail;refine Calls.mono HIS.out ?_;rintro e w7 ⟨rfl,hw7⟩;have FV:=hw7;subst FV;clear hw7 HIS;dsimp only
          go_wp2;exact HZ.out _ UC k jM.out HM.out mV.out _ rfl rfl rfl
     ·obtain rfl:k=n:=by omega
      have hge:(k:Int)<=(k:Int):=Int.le_refl _;have qC:Hid (eY f s ss cs=0/\kD f s ss cs = -1):=Ey HG.out (by rw[Yx.out,HN.out]) fun j hj=>D5.out.ok j (by have:=HN.out;omega)
      have HFN:Hid (∀ z,Calls Tryz.prog 51 #[] z fun e w'=>e = .returned (.agg #[.int .i64 0,.int .i64 (-1)])/\Below z.heap.size z w'):=fun z=>AZ z
      go_wp2_with fail;refine Calls.mono (HFN.out _) ?_;rintro e w9 ⟨rfl,nC⟩;have ND:=(show Hid _ from D5.out.below nC);clear y0 y1 y2 y3 y4 y5 y6 nC;obtain⟨y0,y1,y2,y3,y4,y5,y6⟩:=ND.out.cells;dsimp only
      go_wp2;refine xZ.out w9 _ _ _ ND.out qC.out.1 _ rfl rfl rfl
   ·have d3:((n:Int)==(m:Int))=false:=by rw[beq_eq_false_iff_ne];omega
    have HM:Hid (eY f s ss cs=3/\kD f s ss cs = -1):=NG.out HG.out (by rw[HN.out,Yx.out];exact fun h=>hnm h.symm);clear Jf NG Fy hnm;go_wp2_with fail;refine Calls.mono (gW.out 3 w1) ?_;rintro e w2 ⟨rfl,hb2⟩;obtain⟨hz,p0,p1,p2⟩:=iG.out 3 w2 hb2;have jM:=(show Hid _ from hz);clear hb2 hz;dsimp only
    go_wp2;exact HZ.out _ 3 (-1) jM.out HM.out (by decide) _ rfl rfl rfl
 ·have HM:Hid (eY f s ss cs=2/\kD f s ss cs = -1):=Jf.out (.inl (by rw[<-P7.out];decide));clear Jf NG;go_wp2_with fail;refine Calls.mono (gW.out 2 w1) ?_;rintro e w2 ⟨rfl,hb2⟩;obtain⟨hz,p0,p1,p2⟩:=iG.out 2 w2 hb2;have jM:=(show Hid _ from hz);clear hb2 hz;dsimp only
  go_wp2;exact HZ.out _ 2 (-1) jM.out HM.out (by decide) _ rfl rfl rfl
end Go.Proofs.YtcemkhalbjhdkaaGreatDoor
