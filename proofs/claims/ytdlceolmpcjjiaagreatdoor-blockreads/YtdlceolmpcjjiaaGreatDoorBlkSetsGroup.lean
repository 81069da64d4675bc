import Derived.Test.YtdlceolmpcjjiaaGreatDoorMdAtGroup
import Derived.Test.YtdlceolmpcjjiaaGreatDoorBlkTwoGroup
import Derived.Deep.CutRange
set_option maxRecDepth 1000000
set_option maxHeartbeats 8000000
namespace Go.Proofs.YtdlceolmpcjjiaaGreatDoor
open Go.RowKit Go.Maps dQ aU
structure Tw (w:World) (sb:Nat) (rows:List (List UInt8×List (Int×Nat))):Prop where
 ex:∃ a c b d,w.heap[sb]? = some (.cells #[.slice a rows.length c,.slice b rows.length d] 98 (0,0)) /\
  (∀ i (hi:i<rows.length),∃ g,a=some ⟨g,0,none⟩/\w.cell? ⟨g,i,none⟩=some (encStr rows[i].1)) /\
  (∀ i (hi:i<rows.length),∃ g,b=some ⟨g,0,none⟩/\∃ A C,w.cell? ⟨g,i,none⟩=some (.slice A rows[i].2.length C)/\oH w A rows[i].2)
structure su (w:World) (base sb:Nat) (vs vl:Value) (ss:List (List UInt8)) (ls:List Value):Prop where
 set:w.heap[sb]? = some (.cells #[vs,vl] 98 (0,0))
 low:sb<base
 names:w.ownsRow base 9 1 vs ss.length (ss.map encStr)
 row:w.ownsRow base 48 1 vl ls.length ls
theorem su.below {w z:World} {base sb:Nat} {vs vl:Value} {ss:List (List UInt8)} {ls:List Value} (h:su w base sb vs vl ss ls) (hb:Below w.heap.size w z):su z base sb vs vl ss ls:=
 ⟨(hb.block _ (aV h.set)).trans h.set,h.low,dS h.names hb,dS h.row hb⟩
theorem eP {z:World} {base tb k:Nat} {e:TypeId} {sz:Nat} {v u:Value} {n:Nat} {xs:List Value} (h:z.ownsRow base e sz v n xs) (hl:tb<base):(z.setCell ⟨tb,k,none⟩ u).ownsRow base e sz v n xs:=dN h fun g hg=>by
 have:=(bL h hg).1;exact Below.heap_setCell _ _ _ _ (by show g≠tb;omega)
theorem su.name {w Y z:World} {base sb:Nat} {vs vl:Value} {ss:List (List UInt8)} {ls:List Value} (h:su w base sb vs vl ss ls) {x:List UInt8} {g cap:Nat} (hbase:base<=w.heap.size) (h1:Below w.heap.size w Y) (o:z.ownsRow base 9 1 (.slice (some ⟨g,0,none⟩) (ss.length+1) cap) (ss.length+1) (ss.map encStr ++ [encStr x])) (G:oF Y z vs g) :
  z.heap[sb]? = some (.cells #[vs,vl] 98 (0,0))/\Below base w z/\su (z.setCell ⟨sb,0,none⟩ (.slice (some ⟨g,0,none⟩) (ss.length+1) cap)) base sb (.slice (some ⟨g,0,none⟩) (ss.length+1) cap) vl (ss ++ [x]) ls:=by
 have hlow:=h.low;have s1:=h1.size;have b1:Below base w z:=(h1.mono hbase).trans (G.below (by omega) fun q hq=>(bL h.names hq).1);have ht:=(b1.block sb hlow).trans h.set;have hr:z.ownsRow base 48 1 vl ls.length ls:=dN h.row fun g' hg'=>by
  obtain⟨_,q2,cur,hc⟩:=bL h.row hg';refine (G.blk g' (by omega) fun e=>?_).trans (h1.block g' q2);obtain⟨_,_,YT,hc2⟩:=bL h.names e;exact rW hc hc2 (by decide) rfl
 refine⟨ht,b1,⟨(dx ht 0 _).trans (by rfl),hlow,?_,eP hr hlow⟩⟩;have:=eP (k:=0) (u:=.slice (some ⟨g,0,none⟩) (ss.length+1) cap) o hlow;simpa using this
theorem su.list {w Y z:World} {base sb:Nat} {vs vl:Value} {ss:List (List UInt8)} {ls:List Value} (h:su w base sb vs vl ss ls) {x:Value} {g cap:Nat} (hbase:base<=w.heap.size) (h1:Below w.heap.size w Y) (o:z.ownsRow base 48 1 (.slice (some ⟨g,0,none⟩) (ls.length+1) cap) (ls.length+1) (ls ++ [x])) (G:oF Y z vl g) :
  z.heap[sb]? = some (.cells #[vs,vl] 98 (0,0))/\Below base w z/\su (z.setCell ⟨sb,1,none⟩ (.slice (some ⟨g,0,none⟩) (ls.length+1) cap)) base sb vs (.slice (some ⟨g,0,none⟩) (ls.length+1) cap) ss (ls ++ [x]):=by
 have hlow:=h.low;have s1:=h1.size;have b1:Below base w z:=(h1.mono hbase).trans (G.below (by omega) fun q hq=>(bL h.row hq).1);have ht:=(b1.block sb hlow).trans h.set;have hr:z.ownsRow base 9 1 vs ss.length (ss.map encStr):=dN h.names fun g' hg'=>by
  obtain⟨_,q2,cur,hc⟩:=bL h.names hg';refine (G.blk g' (by omega) fun e=>?_).trans (h1.block g' q2);obtain⟨_,_,YT,hc2⟩:=bL h.row e;exact rW hc hc2 (by decide) rfl
 refine⟨ht,b1,⟨(dx ht 1 _).trans (by rfl),hlow,eP hr hlow,?_⟩⟩;have:=eP (k:=1) (u:=.slice (some ⟨g,0,none⟩) (ls.length+1) cap) o hlow;simpa using this
theorem Tx {w:World} {base:Nat} {e:TypeId} {v:Value} {xs:List Value} (h:w.ownsRow base e 1 v xs.length xs):∃ a c,v = .slice a xs.length c/\∀ k (hk:k<xs.length),∃ g,a=some ⟨g,0,none⟩/\w.cell? ⟨g,k,none⟩=some xs[k]:=by
 rcases h.2 with⟨hv,h0⟩|⟨g,cap,cur,hv,hg,hh,h1,h2,h3,h4⟩
 ·exact⟨none,0,by rw[hv,h0],fun k hk=>absurd hk (by omega)⟩
 ·refine⟨_,_,hv,fun k hk=>⟨g,rfl,?_⟩⟩;have e0:w.cell? ⟨g,k,none⟩=cur[k]?:=by simp[World.cell?,hh]
  rw[e0,<-Array.getElem?_toList,<-List.getElem?_eq_getElem hk];conv=>rhs;rw[<-h4]
  rw[List.getElem?_take_of_lt (by omega)]
theorem su.done {w:World} {base sb:Nat} {vs vl:Value} {rows:List (List UInt8×List (Int×Nat))} {ls:List Value} (h:su w base sb vs vl (rows.map Prod.fst) ls) (hl:ls.length=rows.length) (hp:∀ i (hi:i<rows.length),∃ A C,ls[i]? = some (.slice A rows[i].2.length C)/\oH w A rows[i].2):Tw w sb rows:=by
 obtain⟨a,c,h1,hc⟩:=mH h.names;obtain⟨b,d,h2,hd⟩:=Tx h.row;have hs:=h.set;rw[h1,h2,hl,List.length_map] at hs;refine⟨a,c,b,d,hs,fun i hi=>?_,fun i hi=>?_⟩
 ·obtain⟨g,e,hg⟩:=hc i (by simpa using hi);exact⟨g,e,by rw[hg];simp⟩
 ·obtain⟨g,e,hg⟩:=hd i (by omega);obtain⟨A,C,hA,hP⟩:=hp i hi;rw[List.getElem?_eq_getElem (by omega)] at hA;exact⟨g,e,A,C,by rw[hg,Option.some.inj hA],hP⟩
theorem Tryz.infoPts3:(Tryz.prog.info? 48).map (fun i=>(i.zero,i.size,i.bytes))=some (some (.slice none 0 0),1,24):=by kernel_rfl
end Go.Proofs.YtdlceolmpcjjiaaGreatDoor
namespace Go.Proofs.YtdlceolmpcjjiaaGreatDoor
open Go.RowKit Go.Maps dQ aU
def Z9 (w w':World) (c:List UInt8) (e:Ending):Prop:=
 Below w.heap.size w w'/\((nJ c=0/\∃ v,e = .returned (.tuple #[v,.int .i64 0])/\w'.ownsRow w.heap.size 71 2 v (gF c).length (bV (gF c)))\/(nJ c≠0/\e = .returned (.tuple #[.slice none 0 0,.int .i64 (nJ c)])))
theorem YU (w:World) (s:ByteArray) (hs:s.size<=10000) :
  Calls Tryz.prog 56 #[.string s] w fun e w'=>Z9 w w' s.data.toList e:=by
 refine (KY s w hs).mono ?_;rintro e w' ⟨hb,⟨n,T,Bt,v,hn,hT,Qt,hl,hown,rfl⟩|⟨c,hnot,hc,rfl⟩⟩
 ·have hch:dB s.data.toList:=⟨n,T,Bt,hn,hT,Qt,hl⟩;have hu:gF s.data.toList=jL T Bt n:=by
   rw[hl,<-yV];refine EX (xZ (by rw[iL];exact hn) fun i hi=>?_) fun p hp=>?_
   ·rw[iL] at hi;rw[qE _ T n (fun j hj=>pE T Bt n j hj) i hi];exact hT i hi
   ·simp[jL] at hp;obtain⟨i,hi,rfl⟩:=hp;exact Qt i hi
  refine⟨hb,.inl ⟨nY.2 hch,v,rfl,?_⟩⟩;rw[hu,iL,pU];exact hown
 ·have hu:nJ s.data.toList=(c:Int):=by
   rw[LY hnot,hc];split
   ·rfl
   ·split<;>rfl
  refine⟨hb,.inr ⟨fun h=>hnot (nY.1 h),by rw[hu]⟩⟩
structure xK (w:World) (base tb:Nat) (f s:Int) (u1 u2:Value) (ss cs:List (List UInt8)):Prop where
 blk:w.heap[tb]? = some (.cells #[.int .i64 f,.int .i64 s,u1,u2] 30 (0,0))
 low:tb<base
 kD:w.ownsRow base 9 1 u1 ss.length (ss.map encStr)
 lu:w.ownsRow base 9 1 u2 cs.length (cs.map encStr)
 apart:∀ g,u1.ownBlock=some g->u2.ownBlock≠some g
theorem xK.below {w z:World} {base tb:Nat} {f s:Int} {u1 u2:Value} {ss cs:List (List UInt8)} (h:xK w base tb f s u1 u2 ss cs) (hb:Below w.heap.size w z):xK z base tb f s u1 u2 ss cs:=
 ⟨(hb.block _ (aV h.blk)).trans h.blk,h.low,dS h.kD hb,dS h.lu hb,h.apart⟩
theorem xK.first {w Y z:World} {base tb:Nat} {f s:Int} {u1 u2:Value} {ss cs:List (List UInt8)} (h:xK w base tb f s u1 u2 ss cs) {x:List UInt8} {g cap:Nat} (hbase:base<=w.heap.size) (h1:Below w.heap.size w Y) (o:z.ownsRow base 9 1 (.slice (some ⟨g,0,none⟩) (ss.length+1) cap) (ss.length+1) (ss.map encStr ++ [encStr x])) (G:oF Y z u1 g) :
  z.heap[tb]? = some (.cells #[.int .i64 f,.int .i64 s,u1,u2] 30 (0,0))/\Below base w z/\xK (z.setCell ⟨tb,2,none⟩ (.slice (some ⟨g,0,none⟩) (ss.length+1) cap)) base tb f s (.slice (some ⟨g,0,none⟩) (ss.length+1) cap) u2 (ss ++ [x]) cs:=by
 have hlow:=h.low;have s1:=h1.size;have b1:Below base w z:=(h1.mono hbase).trans (G.below (by omega) fun q hq=>(bL h.kD hq).1);have ht:=(b1.block tb hlow).trans h.blk;have hr:z.ownsRow base 9 1 u2 cs.length (cs.map encStr):=dN h.lu fun g' hg'=>by
  obtain⟨_,q2,cur,hc⟩:=bL h.lu hg';exact (G.blk g' (by omega) fun e=>h.apart g' e hg').trans (h1.block g' q2)
 refine⟨ht,b1,⟨(dx ht 2 _).trans (by rfl),hlow,?_,eP hr hlow,fun g' e1 e2=>?_⟩⟩
 ·have:=eP (k:=2) (u:=.slice (some ⟨g,0,none⟩) (ss.length+1) cap) o hlow;simpa using this
 ·simp[Value.ownBlock] at e1;subst e1;rcases G.at' with e | e
  ·exact h.apart g e e2
  ·have:=(bL h.lu e2).2.1;omega
theorem xK.second {w Y z:World} {base tb:Nat} {f s:Int} {u1 u2:Value} {ss cs:List (List UInt8)} (h:xK w base tb f s u1 u2 ss cs) {x:List UInt8} {g cap:Nat} (hbase:base<=w.heap.size) (h1:Below w.heap.size w Y) (o:z.ownsRow base 9 1 (.slice (some ⟨g,0,none⟩) (cs.length+1) cap) (cs.length+1) (cs.map encStr ++ [encStr x])) (G:oF Y z u2 g) :
  z.heap[tb]? = some (.cells #[.int .i64 f,.int .i64 s,u1,u2] 30 (0,0))/\Below base w z/\xK (z.setCell ⟨tb,3,none⟩ (.slice (some ⟨g,0,none⟩) (cs.length+1) cap)) base tb f s u1 (.slice (some ⟨g,0,none⟩) (cs.length+1) cap) ss (cs ++ [x]):=by
 have hlow:=h.low;have s1:=h1.size;have b1:Below base w z:=(h1.mono hbase).trans (G.below (by omega) fun q hq=>(bL h.lu hq).1);have ht:=(b1.block tb hlow).trans h.blk;have hr:z.ownsRow base 9 1 u1 ss.length (ss.map encStr):=dN h.kD fun g' hg'=>by
  obtain⟨_,q2,cur,hc⟩:=bL h.kD hg';exact (G.blk g' (by omega) fun e=>h.apart g' hg' e).trans (h1.block g' q2)
 refine⟨ht,b1,⟨(dx ht 3 _).trans (by rfl),hlow,eP hr hlow,?_,fun g' e1 e2=>?_⟩⟩
 ·have:=eP (k:=3) (u:=.slice (some ⟨g,0,none⟩) (cs.length+1) cap) o hlow;simpa using this
 ·simp[Value.ownBlock] at e2;subst e2;rcases G.at' with e | e
  ·exact h.apart g e1 e
  ·have:=(bL h.kD e1).2.1;omega
theorem set2 {z:World} {b:Nat} {p0 p1:Value} {t:TypeId} (h:z.heap[b]? = some (.cells #[p0,p1] t (0,0))) (v0 v1:Value):((z.setCell ⟨b,0,none⟩ v0).setCell ⟨b,1,none⟩ v1).heap[b]? = some (.cells #[v0,v1] t (0,0)):=by
 have e1:=(dx h 0 v0).trans (show _=some (Obj.cells #[v0,p1] t (0,0)) by rfl);exact (dx e1 1 v1).trans (by rfl)
end Go.Proofs.YtdlceolmpcjjiaaGreatDoor
namespace Go.Proofs.YtdlceolmpcjjiaaGreatDoor
open Go.RowKit Go.Maps dQ
theorem Lm (w:World) (f s:Int) (a1 a2:Option Addr) (n1 c1 n2 c2:Nat) :
  Calls Tryz.prog 12 #[.agg #[.int .i64 f,.int .i64 s,.slice a1 n1 c1,.slice a2 n2 c2]] w fun e w'=>e = .returned (.agg #[.int .i64 f,.int .i64 s,.slice a1 n1 c1,.slice a2 n2 c2])/\Below w.heap.size w w':=by
 obtain⟨W,hW⟩:∃ W,W=(w.alloc (.cells #[.int .i64 f,.int .i64 s,.slice a1 n1 c1,.slice a2 n2 c2] 25)).alloc (.cells #[.int .i64 0,.int .i64 0,.slice none 0 0,.slice none 0 0] 30):=⟨_,rfl⟩;have hbW:Below w.heap.size w W:=by rw[hW];exact ((Below.refl _ _).alloc (Nat.le_refl _) _).alloc (by simp) _
 have hs1:(w.alloc (.cells #[.int .i64 f,.int .i64 s,.slice a1 n1 c1,.slice a2 n2 c2] 25)).heap.size=w.heap.size+1:=by simp
 have hx:W.heap[w.heap.size]? = some (.cells #[.int .i64 f,.int .i64 s,.slice a1 n1 c1,.slice a2 n2 c2] 25 (0,0)):=by
  rw[hW];exact (heap_alloc_old _ _ (by rw[hs1];omega)).trans (heap_alloc_new _ _)
 have hy:W.heap[w.heap.size+1]? = some (.cells #[.int .i64 0,.int .i64 0,.slice none 0 0,.slice none 0 0] 30 (0,0)):=by
  rw[hW,<-hs1];exact heap_alloc_new _ _
 have x0:W.cell? ⟨w.heap.size,0,none⟩=some (.int .i64 f):=ak hx 0;have x1:W.cell? ⟨w.heap.size,1,none⟩=some (.int .i64 s):=ak hx 1;have x2:W.cell? ⟨w.heap.size,2,none⟩=some (.slice a1 n1 c1):=ak hx 2;have x3:W.cell? ⟨w.heap.size,3,none⟩=some (.slice a2 n2 c2):=ak hx 3;have y0:W.cell? ⟨w.heap.size+1,0,none⟩=some (.int .i64 0):=ak hy 0;have y1:W.cell? ⟨w.heap.size+1,1,none⟩=some (.int .i64 0):=ak hy 1;have y2:W.cell? ⟨w.heap.size+1,2,none⟩=some (.slice none 0 0):=ak hy 2;have y3:W.cell? ⟨w.heap.size+1,3,none⟩=some (.slice none 0 0):=ak hy 3;have pf:∀ k,W.frozen? ⟨w.heap.size+1,k,none⟩=false:=fun k=>by simp[World.frozen?,hy]
 have HY:=(show Hid _ from hy);have HB:=(show Hid _ from hbW);have HW:=(show Hid _ from hW);clear hx hy hbW hs1 hW;go_enter Tryz.func12,Tryz.ntmps12;go_upto_region 1 with fail;rw[<-HW.out];go_wp2;obtain⟨Z,hZ⟩:∃ Z,Z=((((W.setCell ⟨w.heap.size+1,0,none⟩ (.int .i64 f)).setCell ⟨w.heap.size+1,1,none⟩ (.int .i64 s)).setCell ⟨w.heap.size+1,2,none⟩ (.slice a1 n1 c1)).setCell ⟨w.heap.size+1,3,none⟩ (.slice a2 n2 c2)):=⟨_,rfl⟩;rw[<-hZ];have eZ:Z.heap[w.heap.size+1]? = some (.cells #[.int .i64 f,.int .i64 s,.slice a1 n1 c1,.slice a2 n2 c2] 30 (0,0)):=by rw[hZ];exact uw HY.out _ _ _ _
 have hzb:Below w.heap.size w Z:=by rw[hZ];exact iM HB.out (by omega) _ _ _ _
 have z0:Z.cell? ⟨w.heap.size+1,0,none⟩=some (.int .i64 f):=ak eZ 0;have z1:Z.cell? ⟨w.heap.size+1,1,none⟩=some (.int .i64 s):=ak eZ 1;have z2:Z.cell? ⟨w.heap.size+1,2,none⟩=some (.slice a1 n1 c1):=ak eZ 2;have z3:Z.cell? ⟨w.heap.size+1,3,none⟩=some (.slice a2 n2 c2):=ak eZ 3;clear hZ eZ;refine bodyPost_ret (v:=.agg #[.int .i64 f,.int .i64 s,.slice a1 n1 c1,.slice a2 n2 c2]) (by simp[results,Tryz.results12,go_sem,z0,z1,z2,z3]) rfl ⟨rfl,hzb⟩
end Go.Proofs.YtdlceolmpcjjiaaGreatDoor
namespace Go.Proofs.YtdlceolmpcjjiaaGreatDoor
open Go.RowKit Go.Maps dQ
theorem Wp {l:List (Int×Nat)} (h:l.length<=120):(jw l).length<=10000:=by
 have h1:=rV (iJ l) (qL l) l.length;have h3:(jw l).length=(aj.pack (bH (iJ l) (qL l) l.length)).length+4:=by rw[jw,bY,aj.dJ,List.length_append,ug]
 rw[aj.sD] at h3;omega
def jP:List (List UInt8×List (Int×Nat)):=[([110,61,97],[(3,7)])]
theorem Ck:Ie 0 10 jP:=by
 refine⟨by decide,by decide,List.pairwise_singleton _ _,fun r hr=>?_⟩;simp[jP] at hr;subst hr;exact⟨SA,xZ (by decide) (by decide),by decide⟩
theorem Lp:full jP=jP:=by decide
theorem Cm {B:Nat} {ea:Nat->Addr} (w:World) (E:om B ea w) (hB:B<=w.heap.size) :
  Calls Tryz.prog 7 #[] w fun e w'=>e = .returned (.bool true)/\Below w.heap.size w w':=by
 obtain⟨W,hW⟩:∃ W,W=(w.alloc (.cells #[.int .i64 3,.int .u64 7] 71)).alloc (.cells #[.string ⟨#[110,61,97]⟩,.slice (some ⟨w.heap.size,0,none⟩) 1 1] 61):=⟨_,rfl⟩;have hbW:Below w.heap.size w W:=by rw[hW];exact ((Below.refl _ _).alloc (Nat.le_refl _) _).alloc (by simp) _
 have hs1:(w.alloc (.cells #[.int .i64 3,.int .u64 7] 71)).heap.size=w.heap.size+1:=by simp
 have hx:W.heap[w.heap.size]? = some (.cells #[.int .i64 3,.int .u64 7] 71 (0,0)):=by
  rw[hW];exact (heap_alloc_old _ _ (by rw[hs1];omega)).trans (heap_alloc_new _ _)
 have hy:W.heap[w.heap.size+1]? = some (.cells #[.string ⟨#[110,61,97]⟩,.slice (some ⟨w.heap.size,0,none⟩) 1 1] 61 (0,0)):=by
  rw[hW,<-hs1];exact heap_alloc_new _ _
 have hP:Oh W (some ⟨w.heap.size+1,0,none⟩) jP:=by
  refine .inr ⟨_,0,rfl,fun k hk=>?_⟩;obtain rfl:k=0:=by simp[jP] at hk;omega
  refine⟨ak hy 0,_,1,ak hy 1,.inr ⟨w.heap.size,0,rfl,fun j hj=>?_⟩⟩;obtain rfl:j=0:=by simp[jP] at hj;omega
  exact⟨ak hx 0,ak hx 1⟩
 have hmk:=Oi W (E.below hbW hB) (Nat.le_trans hB hbW.size) 0 10 (some ⟨w.heap.size+1,0,none⟩) 1 jP hP (fun r hr=>by
  simp[jP] at hr;subst hr;exact⟨fun p hp=>by simp at hp;subst hp;decide,by decide,by decide⟩) (by decide)
 have F3:Hid (Calls Tryz.prog 15 #[.int .i64 0,.int .i64 10,.slice (some ⟨w.heap.size+1,0,none⟩) 1 1] W fun e w'=>Mg ea W w' 0 10 jP e):=hmk;have HE:=(show Hid _ from E);have HB:=(show Hid _ from hbW);have HW:=(show Hid _ from hW);clear hx hy hbW hs1 hW hP hmk E;go_enter Tryz.func7,Tryz.ntmps7;go_wp2_with fail;rw[<-HW.out];refine Calls.mono F3.out ?_;rintro e w1 ⟨v,hb1,hf1,⟨hz,u1,u2,rfl,o1,o2⟩|⟨hz,rfl⟩⟩
 ·have hv:=hf1.none hz;subst hv;rw[Lp] at o1 o2;obtain⟨a1,c1,rfl⟩:=bW o1;obtain⟨a2,c2,rfl⟩:=bW o2;have HB1:=(show Hid _ from HB.out.trans (hb1.mono HB.out.size));obtain⟨W2,hW2⟩:∃ W2,W2=w1.alloc (.cells #[.int .i64 0,.int .i64 10,.slice a1 1 c1,.slice a2 1 c2] 25):=⟨_,rfl⟩;have hbW2:Below w1.heap.size w1 W2:=by rw[hW2];exact (Below.refl _ _).alloc (Nat.le_refl _) _
  have hx2:W2.heap[w1.heap.size]? = some (.cells #[.int .i64 0,.int .i64 10,.slice a1 1 c1,.slice a2 1 c2] 25 (0,0)):=by rw[hW2];exact heap_alloc_new _ _
  have HB2:=(show Hid _ from HB1.out.trans (hbW2.mono HB1.out.size));obtain⟨hc,_,_⟩:=VX Ck (fun r hr=>by simp[jP] at hr;subst hr;exact⟨by simp,fun p hp=>by simp at hp;subst hp;decide⟩);have hck:=xI W2 (HE.out.below HB2.out hB) (Nat.le_trans hB HB2.out.size) 0 10 _ _ _ _ (jP.map Prod.fst) (jP.map fun r=>jw r.2) (dS (by simpa using o1) hbW2) (dS (by simpa using o2) hbW2) (fun x hx=>by simp[jP] at hx;subst hx;decide) (fun x hx=>by
   simp[jP] at hx;subst hx;exact Wp (by decide)) (by decide) (by decide)
  rw[hc] at hck;have nR:Hid (Calls Tryz.prog 30 #[.agg #[.int .i64 0,.int .i64 10,.slice a1 1 c1,.slice a2 1 c2]] W2 fun e w'=>∃ v,e = .returned v/\Below W2.heap.size W2 w'/\bD ea w' v 0 _):=hck;have x0:W2.cell? ⟨w1.heap.size,0,none⟩=some (.int .i64 0):=ak hx2 0;have x1:W2.cell? ⟨w1.heap.size,1,none⟩=some (.int .i64 10):=ak hx2 1;have x2:W2.cell? ⟨w1.heap.size,2,none⟩=some (.slice a1 1 c1):=ak hx2 2;have x3:W2.cell? ⟨w1.heap.size,3,none⟩=some (.slice a2 1 c2):=ak hx2 3;have HW2:=(show Hid _ from hW2);clear o1 o2 hf1 hb1 hz hW2 hbW2 hx2 hc hck;dsimp only
  go_upto_region 2 with fail;rw[show w1.alloc (.cells #[.int .i64 0,.int .i64 10,.slice a1 jP.length c1,.slice a2 jP.length c2] 25)=W2 from HW2.out.symm];go_wp2_with fail;refine Calls.mono nR.out ?_;rintro e w3 ⟨v3,rfl,hb3,hf3⟩;have hv:=hf3.none rfl;subst hv;have HB3:=(show Hid _ from HB2.out.trans (hb3.mono HB2.out.size));clear hf3 hb3 nR;go_wp2;go_ret;exact⟨rfl,HB3.out⟩
 ·exact absurd (VU Ck).1 hz
end Go.Proofs.YtdlceolmpcjjiaaGreatDoor
namespace Go.Proofs.YtdlceolmpcjjiaaGreatDoor
open Go.RowKit Go.Maps dQ
end Go.Proofs.YtdlceolmpcjjiaaGreatDoor
namespace Go.Proofs.YtdlceolmpcjjiaaGreatDoor
open Go.RowKit Go.Maps dQ aU
def U8 (b:Bool) (RC:Int) (p n:List UInt8):Prop:=b=true↔RC=0/\¬ p<n
structure qX (w z:World):Prop where
 r1:z.heap[w.heap.size]? = some (.cells #[.int .i64 0,.int .i64 0,.slice none 0 0,.slice none 0 0] 30 (0,0))
 r2:z.heap[w.heap.size+1]? = some (.cells #[.int .i64 0,.int .i64 0] 32 (0,0))
theorem qX.all {w z:World} (h:qX w z):z.cell? ⟨w.heap.size,0,none⟩=some (.int .i64 0)/\z.cell? ⟨w.heap.size,1,none⟩=some (.int .i64 0)/\z.cell? ⟨w.heap.size,2,none⟩=some (.slice none 0 0)/\z.cell? ⟨w.heap.size,3,none⟩=some (.slice none 0 0)/\z.cell? ⟨w.heap.size+1,0,none⟩=some (.int .i64 0)/\z.cell? ⟨w.heap.size+1,1,none⟩=some (.int .i64 0)/\(∀ q,z.frozen? ⟨w.heap.size,q,none⟩=false)/\∀ q,z.frozen? ⟨w.heap.size+1,q,none⟩=false:=
 ⟨ak h.r1 0,ak h.r1 1,ak h.r1 2,ak h.r1 3,ak h.r2 0,ak h.r2 1,fun q=>by simp[World.frozen?,h.r1],fun q=>by simp[World.frozen?,h.r2]⟩
theorem qX.drew {w z:World} (h:qX w z):qX w z.drew:=⟨h.r1,h.r2⟩
theorem qX.below {w z y:World} (h:qX w z) (hb:Below z.heap.size z y):qX w y:=⟨(hb.block _ (aV h.r1)).trans h.r1,(hb.block _ (aV h.r2)).trans h.r2⟩
structure Fj (w z:World) (C A:Int):Prop where
 r1:z.heap[w.heap.size]? = some (.cells #[.int .i64 0,.int .i64 0,.slice none 0 0,.slice none 0 0] 30 (0,0))
 r2:z.heap[w.heap.size+1]? = some (.cells #[.int .i64 C,.int .i64 A] 32 (0,0))
 bg:Below w.heap.size w z
theorem Fj.drew {w z:World} {C A:Int} (h:Fj w z C A):Fj w z.drew C A:=⟨h.r1,h.r2,h.bg.drew⟩
theorem qX.set {w z:World} (h:qX w z) (hb:Below w.heap.size w z) (C A:Int):Fj w ((((((z.setCell ⟨w.heap.size,0,none⟩ (.int .i64 0)).setCell ⟨w.heap.size,1,none⟩ (.int .i64 0)).setCell ⟨w.heap.size,2,none⟩ (.slice none 0 0)).setCell ⟨w.heap.size,3,none⟩ (.slice none 0 0)).setCell ⟨w.heap.size+1,0,none⟩ (.int .i64 C)).setCell ⟨w.heap.size+1,1,none⟩ (.int .i64 A)) C A:=by
 obtain⟨Z,hZ⟩:∃ Z,Z=((((z.setCell ⟨w.heap.size,0,none⟩ (.int .i64 0)).setCell ⟨w.heap.size,1,none⟩ (.int .i64 0)).setCell ⟨w.heap.size,2,none⟩ (.slice none 0 0)).setCell ⟨w.heap.size,3,none⟩ (.slice none 0 0)):=⟨_,rfl⟩;have e1:Z.heap[w.heap.size]? = some (.cells #[.int .i64 0,.int .i64 0,.slice none 0 0,.slice none 0 0] 30 (0,0)):=by rw[hZ];exact uw h.r1 _ _ _ _
 have e2:Z.heap[w.heap.size+1]? = some (.cells #[.int .i64 0,.int .i64 0] 32 (0,0)):=by
  rw[hZ,Below.heap_setCell _ _ _ _ (by show w.heap.size+1≠w.heap.size;omega),Below.heap_setCell _ _ _ _ (by show w.heap.size+1≠w.heap.size;omega),Below.heap_setCell _ _ _ _ (by show w.heap.size+1≠w.heap.size;omega),Below.heap_setCell _ _ _ _ (by show w.heap.size+1≠w.heap.size;omega)];exact h.r2
 have eb:Below w.heap.size w Z:=by rw[hZ];exact iM hb (Nat.le_refl _) _ _ _ _
 rw[<-hZ];refine⟨?_,set2 e2 _ _,(eb.setCell (p:=⟨w.heap.size+1,0,none⟩) (Nat.le_succ _) _).setCell (p:=⟨w.heap.size+1,1,none⟩) (Nat.le_succ _) _⟩;rw[Below.heap_setCell _ _ _ _ (by show w.heap.size≠w.heap.size+1;omega),Below.heap_setCell _ _ _ _ (by show w.heap.size≠w.heap.size+1;omega)];exact e1
theorem qX.put {w z:World} (h:qX w z) (hb:Below w.heap.size w z) (v0 v1 v2 v3 p0 p1:Value):∀ Z,Z=((((((z.setCell ⟨w.heap.size,0,none⟩ v0).setCell ⟨w.heap.size,1,none⟩ v1).setCell ⟨w.heap.size,2,none⟩ v2).setCell ⟨w.heap.size,3,none⟩ v3).setCell ⟨w.heap.size+1,0,none⟩ p0).setCell ⟨w.heap.size+1,1,none⟩ p1)->Z.heap[w.heap.size]? = some (.cells #[v0,v1,v2,v3] 30 (0,0))/\Z.heap[w.heap.size+1]? = some (.cells #[p0,p1] 32 (0,0))/\Below w.heap.size w Z/\∀ base e sz v n xs,w.heap.size+1<base->z.ownsRow base e sz v n xs->Z.ownsRow base e sz v n xs:=by
 intro X hX;subst hX;obtain⟨Z,hZ⟩:∃ Z,Z=((((z.setCell ⟨w.heap.size,0,none⟩ v0).setCell ⟨w.heap.size,1,none⟩ v1).setCell ⟨w.heap.size,2,none⟩ v2).setCell ⟨w.heap.size,3,none⟩ v3):=⟨_,rfl⟩;have e1:Z.heap[w.heap.size]? = some (.cells #[v0,v1,v2,v3] 30 (0,0)):=by rw[hZ];exact uw h.r1 _ _ _ _
 have e2:Z.heap[w.heap.size+1]? = some (.cells #[.int .i64 0,.int .i64 0] 32 (0,0)):=by
  rw[hZ,Below.heap_setCell _ _ _ _ (by show w.heap.size+1≠w.heap.size;omega),Below.heap_setCell _ _ _ _ (by show w.heap.size+1≠w.heap.size;omega),Below.heap_setCell _ _ _ _ (by show w.heap.size+1≠w.heap.size;omega),Below.heap_setCell _ _ _ _ (by show w.heap.size+1≠w.heap.size;omega)];exact h.r2
 have eb:Below w.heap.size w Z:=by rw[hZ];exact iM hb (Nat.le_refl _) _ _ _ _
 rw[<-hZ];refine⟨?_,set2 e2 _ _,(eb.setCell (p:=⟨w.heap.size+1,0,none⟩) (Nat.le_succ _) _).setCell (p:=⟨w.heap.size+1,1,none⟩) (Nat.le_succ _) _,fun base e sz v n xs hl ho=>?_⟩
 ·rw[Below.heap_setCell _ _ _ _ (by show w.heap.size≠w.heap.size+1;omega),Below.heap_setCell _ _ _ _ (by show w.heap.size≠w.heap.size+1;omega)];exact e1
 ·have hl2:w.heap.size<base:=by omega
  rw[hZ];exact eP (eP (eP (eP (eP (eP ho hl2) hl2) hl2) hl2) hl) hl
end Go.Proofs.YtdlceolmpcjjiaaGreatDoor
namespace Go.Proofs.YtdlceolmpcjjiaaGreatDoor
open Go.RowKit Go.Maps dQ aU
def OC (w w':World) (f s:Int) (ss cs:List (List UInt8)) (e:Ending):Prop:=
 Below w.heap.size w w'/\((iG f s ss cs=0/\∃ sb,e = .returned (.tuple #[.pointer (some ⟨sb,0,none⟩),.agg #[.int .i64 0,.int .i64 (-1)]])/\Tw w' sb (rowsOf ss cs)) \/
  (iG f s ss cs≠0/\e = .returned (.tuple #[.pointer none,.agg #[.int .i64 (iG f s ss cs),.int .i64 (lT f s ss cs)]])))
theorem Mt {Y z:World} {v:Value} {g:Nat} (G:oF Y z v g) {base n base' sz m:Nat} {e e':TypeId} {xs ys:List Value} {v':Value} (ho:Y.ownsRow base e 1 v n xs) (h:Y.ownsRow base' e' sz v' m ys) (hne:e'≠e):z.ownsRow base' e' sz v' m ys:=dN h fun g' hg'=>by
 obtain⟨_,q2,cur,hc⟩:=bL h hg';refine G.blk g' q2 fun e=>?_
 obtain⟨_,_,YT,hc2⟩:=bL ho e;exact rW hc hc2 hne rfl
structure zi (w wr:World) (f s:Int) (a1 a2:Option Addr) (n c1 c2:Nat) (ss cs:List (List UInt8)) (k:Nat) (vs vl:Value) (ls:List Value):Prop where
 ok:∀ j,j<k->iZ f s ss cs j=0
 bb:wr.heap[w.heap.size]? = some (.cells #[.int .i64 f,.int .i64 s,.slice a1 n c1,.slice a2 n c2] 30 (0,0))
 r2:wr.heap[w.heap.size+1]? = some (.cells #[.int .i64 0,.int .i64 0] 32 (0,0))
 set:su wr (w.heap.size+3) (w.heap.size+2) vs vl (ss.take k) ls
 Cn:ls.length=k
 pts:∀ i,i<k->∃ v,ls[i]? = some v/\wr.ownsRow (w.heap.size+3) 71 2 v (gF (cs.getD i [])).length (bV (gF (cs.getD i [])))
 bg:Below w.heap.size w wr
 tK:w.heap.size+3<=wr.heap.size
theorem zi.below {w wr z:World} {f s:Int} {a1 a2:Option Addr} {n c1 c2:Nat} {ss cs:List (List UInt8)} {k:Nat} {vs vl:Value} {ls:List Value} (h:zi w wr f s a1 a2 n c1 c2 ss cs k vs vl ls) (hb:Below wr.heap.size wr z):zi w z f s a1 a2 n c1 c2 ss cs k vs vl ls:=
 ⟨h.ok,(hb.block _ (aV h.bb)).trans h.bb,(hb.block _ (aV h.r2)).trans h.r2,h.set.below hb,h.Cn,fun i hi=>(h.pts i hi).imp fun _ hv=>⟨hv.1,dS hv.2 hb⟩,h.bg.trans (hb.mono h.bg.size),Nat.le_trans h.tK hb.size⟩
theorem zi.cells {w wr:World} {f s:Int} {a1 a2:Option Addr} {n c1 c2:Nat} {ss cs:List (List UInt8)} {k:Nat} {vs vl:Value} {ls:List Value} (h:zi w wr f s a1 a2 n c1 c2 ss cs k vs vl ls):wr.cell? ⟨w.heap.size,0,none⟩=some (.int .i64 f)/\wr.cell? ⟨w.heap.size,1,none⟩=some (.int .i64 s)/\wr.cell? ⟨w.heap.size,2,none⟩=some (.slice a1 n c1)/\wr.cell? ⟨w.heap.size,3,none⟩=some (.slice a2 n c2)/\wr.cell? ⟨w.heap.size+1,0,none⟩=some (.int .i64 0)/\wr.cell? ⟨w.heap.size+1,1,none⟩=some (.int .i64 0)/\∀ q,wr.frozen? ⟨w.heap.size+1,q,none⟩=false:=
 ⟨ak h.bb 0,ak h.bb 1,ak h.bb 2,ak h.bb 3,ak h.r2 0,ak h.r2 1,fun q=>by simp[World.frozen?,h.r2]⟩
structure Fp (w z:World) (C A:Int):Prop where
 r2:z.heap[w.heap.size+1]? = some (.cells #[.int .i64 C,.int .i64 A] 32 (0,0))
 bg:Below w.heap.size w z
theorem Fp.drew {w z:World} {C A:Int} (h:Fp w z C A):Fp w z.drew C A:=⟨h.r2,h.bg.drew⟩
theorem sw {w z:World} (h:z.heap[w.heap.size+1]? = some (.cells #[.int .i64 0,.int .i64 0] 32 (0,0))) (hb:Below w.heap.size w z) (C A:Int):Fp w ((z.setCell ⟨w.heap.size+1,0,none⟩ (.int .i64 C)).setCell ⟨w.heap.size+1,1,none⟩ (.int .i64 A)) C A:=
 ⟨set2 h _ _,(hb.setCell (p:=⟨w.heap.size+1,0,none⟩) (Nat.le_succ _) _).setCell (p:=⟨w.heap.size+1,1,none⟩) (Nat.le_succ _) _⟩
theorem Lr (w:World) (f s:Int) (b1 b2:Nat) (v1 v2:Value) (ss cs:List (List UInt8)) (h1:w.ownsRow b1 9 1 v1 ss.length (ss.map encStr)) (h2:w.ownsRow b2 9 1 v2 cs.length (cs.map encStr)) (hss:∀ x,x∈ss->x.length<=100000) (hcs:∀ x,x∈cs->x.length<=10000) (hn:ss.length<=100000) (hm:cs.length<=100000) :
  Calls Tryz.prog 20 #[.agg #[.int .i64 f,.int .i64 s,v1,v2]] w fun e w'=>OC w w' f s ss cs e:=by
 obtain⟨a1,c1,rfl,hc1⟩:=mH h1;obtain⟨a2,c2,rfl,hc2⟩:=mH h2;obtain⟨n,hnn⟩:∃ n,n=ss.length:=⟨_,rfl⟩;obtain⟨m,hmm⟩:∃ m,m=cs.length:=⟨_,rfl⟩;have HN:=(show Hid _ from hnn.symm);have U9:=(show Hid _ from hmm.symm);rw[<-hnn,<-hmm];rw[<-hnn] at hn;rw[<-hmm] at hm;obtain⟨W,hW⟩:∃ W,W=(w.alloc (.cells #[.int .i64 f,.int .i64 s,.slice a1 n c1,.slice a2 m c2] 30)).alloc (.cells #[.int .i64 0,.int .i64 0] 32):=⟨_,rfl⟩;have hs1:(w.alloc (.cells #[.int .i64 f,.int .i64 s,.slice a1 n c1,.slice a2 m c2] 30)).heap.size=w.heap.size+1:=by simp
 have hbW:Below w.heap.size w W:=by rw[hW];exact ((Below.refl _ _).alloc (Nat.le_refl _) _).alloc (by simp) _
 have hr1:W.heap[w.heap.size]? = some (.cells #[.int .i64 f,.int .i64 s,.slice a1 n c1,.slice a2 m c2] 30 (0,0)):=by
  rw[hW];exact (heap_alloc_old _ _ (by rw[hs1];omega)).trans (heap_alloc_new _ _)
 have hr2:W.heap[w.heap.size+1]? = some (.cells #[.int .i64 0,.int .i64 0] 32 (0,0)):=by
  rw[hW,<-hs1];exact heap_alloc_new _ _
 have Mc:W.heap.size=w.heap.size+2:=by rw[hW];simp
 have HW:=(show Hid _ from hW);have dO:=(show Hid _ from hbW);have HR1:=(show Hid _ from And.intro hr1 hr2);have wR:Hid (∀ i (hi:i<ss.length),∃ g,a1=some ⟨g,0,none⟩/\∀ z,Below w.heap.size w z->z.cell? ⟨g,i,none⟩=some (encStr ss[i])):=fun i hi=>by
  obtain⟨g,e,hc⟩:=hc1 i hi;exact⟨g,e,fun z hz=>(hz.cell (p:=⟨g,i,none⟩) (World.block_lt_of_cell? w ⟨g,i,none⟩ hc)).trans hc⟩
 have nH:Hid (∀ i (hi:i<cs.length),∃ g,a2=some ⟨g,0,none⟩/\∀ z,Below w.heap.size w z->z.cell? ⟨g,i,none⟩=some (encStr cs[i])):=fun i hi=>by
  obtain⟨g,e,hc⟩:=hc2 i hi;exact⟨g,e,fun z hz=>(hz.cell (p:=⟨g,i,none⟩) (World.block_lt_of_cell? w ⟨g,i,none⟩ hc)).trans hc⟩
 have eY:=(show Hid _ from And.intro hss hcs);have HZ:Hid (∀ (Y:World) (C A:Int),Fp w Y C A->iG f s ss cs=C/\lT f s ss cs=A->C≠0->∀ (a:Act),a.tmps[2]?.getD undef = .pointer none->a.tmps[3]?.getD undef = .pointer (some ⟨w.heap.size+1,0,none⟩)->a.defers = []->bodyPost Tryz.prog Tryz.f20 (fun e w'=>OC w w' f s ss cs e) Exit.ret a Y):=fun Y C A h hC hne a t2 t3 hd=>by
  have v0:Y.cell? ⟨w.heap.size+1,0,none⟩=some (.int .i64 C):=ak h.r2 0;have v1:Y.cell? ⟨w.heap.size+1,1,none⟩=some (.int .i64 A):=ak h.r2 1;refine bodyPost_ret (v:=.tuple #[.pointer none,.agg #[.int .i64 C,.int .i64 A]]) (by simp[results,Tryz.results20,go_sem,v0,v1,t2,t3]) hd ⟨h.bg,.inr ⟨by rw[hC.1];exact hne,by rw[hC.1,hC.2]⟩⟩
 have pO:Hid (∀ (z:World) (vs vl:Value) (ls:List Value),zi w z f s a1 a2 n c1 c2 ss cs n vs vl ls->iG f s ss cs=0->∀ (a:Act),a.tmps[2]?.getD undef = .pointer (some ⟨w.heap.size+2,0,none⟩)->a.tmps[3]?.getD undef = .pointer (some ⟨w.heap.size+1,0,none⟩)->a.defers = []->bodyPost Tryz.prog Tryz.f20 (fun e w'=>OC w w' f s ss cs e) Exit.ret a ((z.setCell ⟨w.heap.size+1,0,none⟩ (.int .i64 0)).setCell ⟨w.heap.size+1,1,none⟩ (.int .i64 (-1)))):=fun z vs vl ls h hC a t2 t3 hd=>by
  have hf:=sw h.r2 h.bg 0 (-1);have hl:cs.length=ss.length:=(EZ hC).2.2.1;have hset:Tw ((z.setCell ⟨w.heap.size+1,0,none⟩ (.int .i64 0)).setCell ⟨w.heap.size+1,1,none⟩ (.int .i64 (-1))) (w.heap.size+2) (rowsOf ss cs):=by
   have hA:su ((z.setCell ⟨w.heap.size+1,0,none⟩ (.int .i64 0)).setCell ⟨w.heap.size+1,1,none⟩ (.int .i64 (-1))) (w.heap.size+3) (w.heap.size+2) vs vl ((rowsOf ss cs).map Prod.fst) ls:=by
    rw[Ef hl];have h0:=h.set;rw[List.take_of_length_le (by omega)] at h0;refine⟨?_,h0.low,eP (eP h0.names (by omega)) (by omega),eP (eP h0.row (by omega)) (by omega)⟩;rw[Below.heap_setCell _ _ _ _ (by show w.heap.size+2≠w.heap.size+1;omega),Below.heap_setCell _ _ _ _ (by show w.heap.size+2≠w.heap.size+1;omega)];exact h0.set
   refine hA.done (by rw[h.Cn,lI hl];omega) fun i hi=>?_
   rw[lI hl] at hi;obtain⟨v,e1,e2⟩:=h.pts i (by omega);have e3:(rowsOf ss cs)[i].2=gF (cs.getD i []):=by
    have hi2:i<cs.length:=by omega
    simp[rowsOf,List.getD_eq_getElem?_getD,hi2]
   have e4:=eP (k:=1) (u:=.int .i64 (-1)) (eP (k:=0) (tb:=w.heap.size+1) (u:=.int .i64 0) e2 (by omega)) (by omega:w.heap.size+1<w.heap.size+3);obtain⟨A,C,hv,_,hp,_⟩:=zT e4;rw[e3];exact⟨A,C,by rw[e1,hv],hp⟩
  obtain⟨Y,hY⟩:∃ Y,Y=((z.setCell ⟨w.heap.size+1,0,none⟩ (.int .i64 0)).setCell ⟨w.heap.size+1,1,none⟩ (.int .i64 (-1))):=⟨_,rfl⟩;rw[<-hY] at hset hf ⊢;have v0:Y.cell? ⟨w.heap.size+1,0,none⟩=some (.int .i64 0):=ak hf.r2 0;have v1:Y.cell? ⟨w.heap.size+1,1,none⟩=some (.int .i64 (-1)):=ak hf.r2 1;refine bodyPost_ret (v:=.tuple #[.pointer (some ⟨w.heap.size+2,0,none⟩),.agg #[.int .i64 0,.int .i64 (-1)]]) (by simp[results,Tryz.results20,go_sem,v0,v1,t2,t3]) hd ⟨hf.bg,.inl ⟨hC,_,rfl,hset⟩⟩
 have zG:=(show Hid _ from IC W f s);have hE0:=MU f s;have gZ:Hid (∀ (c:Int) (z:World),Calls Tryz.prog 33 #[.int .i64 c] z fun e w'=>e = .returned (.agg #[.int .i64 c,.int .i64 (-1)])/\Below z.heap.size z w'):=fun c z=>rO c z
 have x0:W.cell? ⟨w.heap.size,0,none⟩=some (.int .i64 f):=ak hr1 0;have x1:W.cell? ⟨w.heap.size,1,none⟩=some (.int .i64 s):=ak hr1 1;have x2:W.cell? ⟨w.heap.size,2,none⟩=some (.slice a1 n c1):=ak hr1 2;have x3:W.cell? ⟨w.heap.size,3,none⟩=some (.slice a2 m c2):=ak hr1 3;obtain⟨ev,hev⟩:∃ ev,ev=iy f s:=⟨_,rfl⟩;rw[<-hev] at zG hE0;have QJ:=(show Hid _ from hev);have Fq:Hid (iy f s≠0\/60<ss.length->iG f s ss cs=2/\lT f s ss cs = -1):=fun h=>JI h
 have Kq:Hid (¬ (iy f s≠0\/60<ss.length)->cs.length≠ss.length->iG f s ss cs=3/\lT f s ss cs = -1):=fun h h'=>JJ h h'
 have kM:Hid (∀ (c:Int) (z:World),Below W.heap.size W z->Fp w ((z.setCell ⟨w.heap.size+1,0,none⟩ (.int .i64 c)).setCell ⟨w.heap.size+1,1,none⟩ (.int .i64 (-1))) c (-1)/\z.cell? ⟨w.heap.size+1,0,none⟩=some (.int .i64 0)/\z.cell? ⟨w.heap.size+1,1,none⟩=some (.int .i64 0)/\∀ q,z.frozen? ⟨w.heap.size+1,q,none⟩=false):=fun c z hz=>by
  have:=(hz.block _ (aV hr2)).trans hr2;exact⟨sw this (hbW.trans (hz.mono hbW.size)) c (-1),ak this 0,ak this 1,fun q=>by simp[World.frozen?,this]⟩
 have acJ:ev=0\/ev=2:=by rw[hev];unfold iy;split<;>simp
 clear h1 h2 hc1 hc2 hss hcs hW hbW hr1 hr2 hs1 hnn hmm hev;go_enter Tryz.func20,Tryz.ntmps20;go_upto_region 1 with fail;rw[<-HW.out];go_wp2_with fail;refine Calls.mono zG.out ?_;rintro e w1 ⟨rfl,hw1⟩;have aQ:=hw1;subst aQ;clear zG hw1 HW;rcases acJ with rfl | rfl
 ·by_cases QV:60<n
  ·have d2:decide ((60:Int)<(n:Int))=true:=decide_eq_true (by omega);have HM:Hid (iG f s ss cs=2/\lT f s ss cs = -1):=Fq.out (.inr (by rw[HN.out];exact QV));clear Fq Kq QV;go_wp2_with fail;refine Calls.mono (gZ.out 2 w1) ?_;rintro e w2 ⟨rfl,hb2⟩;obtain⟨hz,p0,p1,p2⟩:=kM.out 2 w2 hb2;have oU:=(show Hid _ from hz);clear hb2 hz;dsimp only
   go_wp2;exact HZ.out _ 2 (-1) oU.out HM.out (by decide) _ rfl rfl rfl
  ·have d2:decide ((60:Int)<(n:Int))=false:=decide_eq_false (by omega);have HG:Hid (¬ (iy f s≠0\/60<ss.length)):=by
    rw[HN.out];rintro (h | h)
    ·exact h QJ.out.symm
    ·exact QV h
   by_cases hnm:n=m
   ·subst hnm;have CW:n<=60:=by omega
    have YV:Hid (iy f s=0):=QJ.out.symm;clear Fq Kq QV hm hn;go_upto_region 9 with fail;obtain⟨W3,hW3⟩:∃ W3,W3=w1.alloc (.cells #[.slice none 0 0,.slice none 0 0] 98):=⟨_,rfl⟩;have hb3:Below w1.heap.size w1 W3:=by rw[hW3];exact (Below.refl _ _).alloc (Nat.le_refl _) _
    have hx3:W3.heap[w.heap.size+2]? = some (.cells #[.slice none 0 0,.slice none 0 0] 98 (0,0)):=by rw[hW3,<-Mc];exact heap_alloc_new _ _
    have H0:Hid (zi w W3 f s a1 a2 n c1 c2 ss cs 0 (.slice none 0 0) (.slice none 0 0) []):=
     ⟨fun j h=>absurd h (Nat.not_lt_zero _),(hb3.block _ (aV HR1.out.1)).trans HR1.out.1,(hb3.block _ (aV HR1.out.2)).trans HR1.out.2,⟨hx3,Nat.lt_succ_self _,⟨rfl,.inl ⟨rfl,rfl⟩⟩,⟨rfl,.inl ⟨rfl,rfl⟩⟩⟩,rfl,fun i h=>absurd h (Nat.not_lt_zero _),dO.out.trans (hb3.mono dO.out.size),aV hx3⟩
    rw[<-hW3];clear hb3 hx3 hW3 x0 x1 x2 x3 d2 Mc;go_wp2_with fail;go_loopw [6] (fun i wr=>∃ (k:Nat) (vs vl:Value) (ls:List Value),k<=n/\i = .int .i64 (k:Int)/\zi w wr f s a1 a2 n c1 c2 ss cs k vs vl ls) (fun i _=>n-(intOf i).toNat);case atStart=>exact⟨0,_,_,[],Nat.zero_le _,rfl,H0.out⟩
    case round=>
     obtain⟨k,vs,vl,ls,hk,rfl,hto⟩:=hrel;have jY:=(show Hid _ from hto);have hsz:=hto.tK;obtain⟨y0,y1,y2,y3,y4,y5,y6⟩:=hto.cells;clear hto;by_cases hkn:k<n
     ·have hks:k<ss.length:=by rw[HN.out];exact hkn
      have hkc:k<cs.length:=by rw[U9.out];exact hkn
      obtain⟨g1,q1,hg1⟩:=wR.out k hks;subst q1;obtain⟨g2,q2,hg2⟩:=nH.out k hkc;subst q2;obtain⟨nm,hnm⟩:∃ nm:ByteArray,nm=txt ss[k]:=⟨_,rfl⟩;have x4:wr.cell? ⟨g1,k,none⟩=some (.string nm):=by rw[hnm];exact hg1 wr jY.out.bg
      have k0:(0:Int)<=(k:Int):=by omega
      have k1:(k:Int)<(n:Int):=by omega
      have xO:=(show Hid _ from Tm wr nm (by rw[hnm,bB];exact eY.out.1 _ (List.getElem_mem hks)));have Tz:nm.data.toList=ss[k]:=by rw[hnm];rfl
      rw[Tz] at xO;obtain⟨RC,QW⟩:∃ RC,RC=iq ss[k]:=⟨_,rfl⟩;obtain⟨RA,hRA⟩:∃ RA,RA=yU ss[k]:=⟨_,rfl⟩;rw[<-QW,<-hRA] at xO;have hR0:0<=RC:=by rw[QW];exact Am _
      have Yq:=(show Hid _ from QW);have Kr:=(show Hid _ from And.intro hnm Tz);have hgs:ss.getD k []=ss[k]:=by simp[List.getD_eq_getElem?_getD,hks]
      have hgc:cs.getD k []=cs[k]:=by simp[List.getD_eq_getElem?_getD,hkc]
      have kr:Hid (iZ f s ss cs k=kC f s (prev ss k) ss[k] cs[k]):=by
       show _=_;unfold iZ;rw[hgs,hgc]
      have nK:=(show Hid _ from hgc);have Kt:Hid (iF (prev ss k) ss[k]=if RC≠0 then RC else if prev ss k<ss[k] then 0 else 3):=by
       rw[QW];rfl
      have HAT:Hid (∀ C:Int,iZ f s ss cs k=C->C≠0->iG f s ss cs=C/\lT f s ss cs=(k:Int)):=fun C hC hne=>by
       obtain⟨h1,h2⟩:=UJ HG.out (by rw[U9.out,HN.out]) hks jY.out.ok (by rw[hC];exact hne);exact⟨h1.trans hC,h2⟩
      clear QW hRA hnm Tz hgs hgc;go_wp2_with fail;refine Calls.mono xO.out ?_;rintro e w2 ⟨hb2,x,rfl⟩;have HT2:=(show Hid _ from jY.out.below hb2);clear xO hb2 y0 y1 y2 y3 y4 y5 y6 x4;dsimp only
      go_upto_region 13 with fail;obtain⟨W4,uJ⟩:∃ W4,W4=w2.alloc (.cells #[.int .i64 RC,.int .i64 RA] 32):=⟨_,rfl⟩;have hb4:Below w2.heap.size w2 W4:=by rw[uJ];exact (Below.refl _ _).alloc (Nat.le_refl _) _
      have GH:W4.heap[w2.heap.size]? = some (.cells #[.int .i64 RC,.int .i64 RA] 32 (0,0)):=by rw[uJ];exact heap_alloc_new _ _
      rw[<-uJ];clear uJ;have F6:=(show Hid _ from HT2.out.below hb4);obtain⟨y0,y1,y2,y3,y4,y5,y6⟩:=F6.out.cells;have v4:W4.cell? ⟨w2.heap.size,0,none⟩=some (.int .i64 RC):=ak GH 0;have vd4:W4.drew.cell? ⟨w2.heap.size,0,none⟩=some (.int .i64 RC):=v4;have x4:W4.cell? ⟨g1,k,none⟩=some (.string nm):=by rw[Kr.out.1];exact hg1 W4 F6.out.bg
      clear hb4 GH;by_cases hr:0<RC
      ·have d3:decide (0<RC)=true:=decide_eq_true hr;have vU:Hid (RC≠0):=fun h=>(by omega)
       have HM:=(show Hid _ from HAT.out RC (by rw[kr.out];unfold kC;rw[Kt.out,if_pos vU.out,if_pos vU.out]) vU.out);have oU:=(show Hid _ from sw F6.out.r2 F6.out.bg RC k);have yd4:W4.drew.cell? ⟨w.heap.size+1,0,none⟩=some (.int .i64 0):=y4;have yd5:W4.drew.cell? ⟨w.heap.size+1,1,none⟩=some (.int .i64 0):=y5;have yd6:∀ q,W4.drew.frozen? ⟨w.heap.size+1,q,none⟩=false:=y6;clear hr;go_wp2_with fail;go_region;all_goals (go_wp2;exact HZ.out _ RC k oU.out.drew HM.out vU.out _ rfl rfl rfl)
      ·obtain rfl:RC=0:=by omega
       clear hr;have Md:Hid (k=0->prev ss k<ss[k]):=fun h0=>by
        unfold prev;rw[if_pos h0];exact Gh Yq.out.symm
       have HPV:Hid (0<k->∀ z,Below w.heap.size w z->z.cell? ⟨g1,k-1,none⟩=some (encStr (prev ss k))):=fun hk0 z hz=>by
        obtain⟨g,e,h⟩:=wR.out (k-1) (by omega);simp at e;subst e;rw[h z hz];have:prev ss k=ss[k-1]:=by
         unfold prev;rw[if_neg (by omega)];simp[List.getD_eq_getElem?_getD,show k-1<ss.length by omega]
        rw[this]
       go_upto_region 15 with fail;go_cut [80] from 42 to 139 (fun s80 wz=>∃ (b:Bool) (q:Nat),s80 = .bool b/\wz=W4.drewN q/\U8 b 0 (prev ss k) ss[k]);case first=>
        by_cases hk0:k=0
        ·subst hk0;have HB:Hid (U8 false 0 (prev ss 0) ss[0]):=⟨fun h=>(by cases h),fun h=>absurd (Md.out rfl) h.2⟩;go_quiet (fail);go_wp2_with fail;go_meet;case rel=>exact⟨false,_,rfl,rfl,HB.out⟩
        ·obtain⟨j,rfl⟩:∃ j,k=j+1:=⟨k-1,by omega⟩;obtain⟨pv,hpv⟩:∃ pv:ByteArray,pv=txt (prev ss (j+1)):=⟨_,rfl⟩;have x5:W4.cell? ⟨g1,j,none⟩=some (.string pv):=by rw[hpv];exact HPV.out (by omega) W4 F6.out.bg
         have hlt:=Me nm pv;have heq:=UY nm pv;rw[Kr.out.2,show pv.data.toList=prev ss (j+1) by rw[hpv];rfl] at hlt heq;have i1:(0:Int)<=(j:Int)+1-1:=by omega
         have i2:(j:Int)+1-1<(n:Int):=by omega
         have i3:(0:Int)<(j:Int)+1:=by omega
         have zF:=(show Hid _ from hlt);have qd:=(show Hid _ from heq);clear hlt heq hpv hk0;by_cases h1:prev ss (j+1)<ss[j+1]
         ·have hl:Op.bytesLess nm.toList pv.toList=false:=by rw[zF.out];exact decide_eq_false (fun h=>absurd (List.lt_trans h h1) (List.lt_irrefl _))
          have hl2:(nm.toList==pv.toList)=false:=by rw[qd.out];exact decide_eq_false (fun h=>by rw[h] at h1;exact List.lt_irrefl _ h1)
          have HB:Hid (U8 false 0 (prev ss (j+1)) ss[j+1]):=⟨fun h=>(by cases h),fun h=>absurd h1 h.2⟩;clear h1 zF qd;go_quiet (fail);go_wp2_with fail;go_meet;case rel=>exact⟨false,_,rfl,rfl,HB.out⟩
         ·have HB:Hid (U8 true 0 (prev ss (j+1)) ss[j+1]):=⟨fun _=>⟨rfl,h1⟩,fun _=>rfl⟩;by_cases h2:ss[j+1]<prev ss (j+1)
          ·have hl:Op.bytesLess nm.toList pv.toList=true:=by rw[zF.out];exact decide_eq_true h2
           clear h1 h2 zF qd;go_quiet (fail);go_wp2_with fail;go_meet;case rel=>exact⟨true,_,rfl,rfl,HB.out⟩
          ·have hl:Op.bytesLess nm.toList pv.toList=false:=by rw[zF.out];exact decide_eq_false h2
           have hl2:(nm.toList==pv.toList)=true:=by rw[qd.out];exact decide_eq_true (List.le_antisymm (List.not_lt.1 h1) (List.not_lt.1 h2))
           clear h1 h2 zF qd;go_quiet (fail);go_wp2_with fail;go_meet;case rel=>exact⟨true,_,rfl,rfl,HB.out⟩
       case rest=>
        obtain⟨b,q,rfl,hwc,hnb⟩:=hcut;have Mv:=(show Hid _ from hnb);have h4c:Below W4.heap.size W4 wc:=by rw[hwc];exact below_draws (Below.refl _ _) q
        have Ku:=(show Hid _ from F6.out.below h4c);clear hnb hwc h4c y0 y1 y2 y3 y4 y5 y6 x4 v4 vd4;obtain⟨y0,y1,y2,y3,y4,y5,y6⟩:=Ku.out.cells;by_cases hb:b=true
        ·have hn0:=Mv.out.1 hb;subst hb;have hnc:iF (prev ss k) ss[k]=3:=by rw[Kt.out,if_neg (fun h=>h rfl),if_neg hn0.2]
         have HM:=(show Hid _ from HAT.out 3 (by rw[kr.out];unfold kC;rw[hnc,if_pos (by decide)]) (by decide));have oU:=(show Hid _ from sw Ku.out.r2 Ku.out.bg 3 k);clear hn0 hnc;go_wp2;exact HZ.out _ 3 k oU.out HM.out (by decide) _ rfl rfl rfl
        ·have hbf:b=false:=by simpa using hb
         subst hbf;have hlt:prev ss k<ss[k]:=by
          apply Decidable.not_not.1;intro h;exact hb (Mv.out.2 ⟨rfl,h⟩)
         have hnc:iF (prev ss k) ss[k]=0:=by rw[Kt.out,if_neg (fun h=>h rfl),if_pos hlt]
         have HRW:Hid (iZ f s ss cs k=if nJ cs[k]≠0 then nJ cs[k] else if gF cs[k] = [] then 5 else if lg f s (gF cs[k])=true then 0 else 2):=by
          show _=_;rw[kr.out];unfold kC;rw[hnc,if_neg (fun h=>h rfl)]
         obtain⟨ch,hch⟩:∃ ch:ByteArray,ch=txt cs[k]:=⟨_,rfl⟩;have x6:wc.cell? ⟨g2,k,none⟩=some (.string ch):=by rw[hch];exact hg2 wc Ku.out.bg
         have cZ:=(show Hid _ from YU wc ch (by rw[hch,bB];exact eY.out.2 _ (List.getElem_mem hkc)));rw[show ch.data.toList=cs[k] by rw[hch];rfl] at cZ;clear hb hlt hnc hch;go_wp2_with fail;refine Calls.mono cZ.out ?_;rintro e w5 ⟨hb5,⟨Kv,v5,rfl,LW⟩|⟨Kv,rfl⟩⟩
         ·have HUZ:Hid (nJ cs[k]=0):=Kv;have hsp:=rX (nY.1 Kv);have hl5:=(ql hsp.1).1;have Mw:=(show Hid _ from Ku.out.below hb5);have PK:Hid (w5.ownsRow (w.heap.size+3) 71 2 v5 (gF cs[k]).length (bV (gF cs[k]))):=iW LW Ku.out.tK;obtain⟨a5,c5,rfl,_,QI,_⟩:=zT LW;obtain⟨n5,Va⟩:∃ n5,n5=(gF cs[k]).length:=⟨_,rfl⟩;have HIS:=(show Hid _ from zV w5 a5 c5 (gF cs[k]) f s YV.out QI (by omega));obtain⟨ib,hib⟩:∃ ib,ib=lg f s (gF cs[k]):=⟨_,rfl⟩;rw[<-hib,<-Va] at HIS;rw[<-Va] at PK hl5 ⊢;have Ci:=(show Hid _ from And.intro hib Va);have TA:Hid (iZ f s ss cs k=if gF cs[k] = [] then 5 else if ib=true then 0 else 2):=by
           show _=_;rw[HRW.out,Kv,if_neg (fun h=>h rfl),hib]
          clear y0 y1 y2 y3 y4 y5 y6 hb5 cZ x6 Kv hsp LW QI hib Va;obtain⟨y0,y1,y2,y3,y4,y5,y6⟩:=Mw.out.cells;dsimp only
          go_wp2_with fail;refine Calls.mono HIS.out ?_;rintro e w7 ⟨rfl,hw7⟩;have Jj:=hw7;subst Jj;have kJ:=Mw;clear hw7 HIS;dsimp only
          by_cases hz:n5=0
          ·have hnil:gF cs[k] = []:=List.eq_nil_of_length_eq_zero (by rw[<-Ci.out.2];exact hz);have HM:=(show Hid _ from HAT.out 5 (by rw[TA.out,if_pos hnil]) (by decide));have oU:=(show Hid _ from sw kJ.out.r2 kJ.out.bg 5 k);subst hz;clear hnil;go_wp2;exact HZ.out _ 5 k oU.out HM.out (by decide) _ rfl rfl rfl
          ·have hne:¬ gF cs[k] = []:=fun h=>hz (by rw[Ci.out.2,h];rfl)
           have d7:((n5:Int)==0)=false:=by rw[beq_eq_false_iff_ne];omega
           cases ib with
           | false=>
            have HM:=(show Hid _ from HAT.out 2 (by rw[TA.out,if_neg hne,if_neg (by decide)]) (by decide));have oU:=(show Hid _ from sw kJ.out.r2 kJ.out.bg 2 k);clear hz hne;go_wp2;exact HZ.out _ 2 k oU.out HM.out (by decide) _ rfl rfl rfl
           | true=>
            have dD:Hid (∀ j,j<k+1->iZ f s ss cs j=0):=fun j hj=>by
             rcases Nat.lt_or_ge j k with h | h
             ·exact kJ.out.ok j h
             ·obtain rfl:j=k:=by omega
              rw[TA.out,if_neg hne,if_pos rfl]
            have hlk:(ss.take k).length=k:=by rw[List.length_take];omega
            obtain⟨b3,e3,hu1⟩:=bW kJ.out.set.names;obtain⟨b4,e4,hu2⟩:=bW kJ.out.set.row;rw[hlk] at hu1;rw[kJ.out.Cn] at hu2;subst hu1 hu2;have uG:Hid (w7.ownsRow (w.heap.size+3) 9 1 (.slice b3 k e3) k ((ss.take k).map encStr)):=by have:=kJ.out.set.names;rw[hlk] at this;exact this
            have HLK:=(show Hid _ from hlk);obtain⟨iS,hI,hS0,hS1,hS2⟩:=info_parts Tryz.infoStr3;have rE:=(show Hid _ from hI);clear hI;obtain⟨iR,hI,hR0,Ac,hR2⟩:=info_parts Tryz.infoPts3;have HIR:=(show Hid _ from hI);clear hI hz hne hlk;have AZ:Hid (∀ w',Below w7.heap.size w7 w'->w'.cell? ⟨w.heap.size+2,0,none⟩=some (.slice b3 k e3)/\w'.cell? ⟨w.heap.size,2,none⟩=some (.slice (some ⟨g1,0,none⟩) n c1)/\w'.cell? ⟨g1,k,none⟩=some (.string nm)):=fun z hz=>by
             have:=kJ.out.below hz;exact⟨ak this.set.set 0,this.cells.2.2.1,by rw[Kr.out.1];exact hg1 z this.bg⟩
            have hsd:=AZ.out w7.drew (cO (Below.refl _ _));clear y0 y1 y2 y3 y4 y5 y6;go_upto_region 25 with fail;refine sH (S:=fun w'=>w'.cell? ⟨w.heap.size+2,0,none⟩=some (.slice b3 k e3)/\w'.cell? ⟨w.heap.size,2,none⟩=some (.slice (some ⟨g1,0,none⟩) n c1)/\w'.cell? ⟨g1,k,none⟩=some (.string nm)) (by kernel_rfl) 14 hsd (fun hHeld=>?_);clear hsd;refine bq (i:=0) (v:=.pointer (some ⟨w.heap.size+2,0,none⟩)) rfl (by kernel_rfl) (by kernel_rfl) (by kernel_rfl) (by kernel_rfl) (fun _ _ _ h=>h) (Or.inl ⟨by rfl,?_⟩) (fun _=>hHeld) ?_
            ·intro w _;go_simp
            try simp only[Act.put]
            refine bq (i:=1) (v:=.pointer (some ⟨w.heap.size+2,0,none⟩)) rfl (by kernel_rfl) (by kernel_rfl) (by kernel_rfl) (by kernel_rfl) (fun _ _ _ h=>h) (Or.inl ⟨by rfl,?_⟩) (fun _=>hHeld) ?_
            ·intro w _;go_simp
            try simp only[Act.put]
            refine bq (i:=2) (v:=.pointer (some ⟨w.heap.size+2,0,none⟩)) rfl (by kernel_rfl) (by kernel_rfl) (by kernel_rfl) (by kernel_rfl) (fun _ _ _ h=>h) (Or.inl ⟨by rfl,?_⟩) (fun _=>hHeld) ?_
            ·intro w _;go_simp
            try simp only[Act.put]
            refine bq (i:=3) (v:=.pointer (some ⟨w.heap.size+2,0,none⟩)) rfl (by kernel_rfl) (by kernel_rfl) (by kernel_rfl) (by kernel_rfl) (fun _ _ _ h=>h) (Or.inl ⟨by rfl,?_⟩) (fun _=>hHeld) ?_
            ·intro w _;go_simp
            try simp only[Act.put]
            refine fu (i:=4) (v:=.slice b3 k e3) rfl (by kernel_rfl) (by kernel_rfl) (by kernel_rfl) (by kernel_rfl) (by kernel_rfl) (by kernel_rfl) (fun _ _ _ h=>h) (Or.inl ⟨by rfl,?_⟩) hHeld ?_
            ·intro w hSw;obtain⟨Vb,Vd,jh2⟩:=hSw;go_simp
            try simp only[Act.put]
            refine bq (i:=5) (v:=.pointer (some ⟨w.heap.size,2,none⟩)) rfl (by kernel_rfl) (by kernel_rfl) (by kernel_rfl) (by kernel_rfl) (fun _ _ _ h=>h) (Or.inl ⟨by rfl,?_⟩) (fun _=>hHeld) ?_
            ·intro w _;go_simp
            try simp only[Act.put]
            refine fu (i:=6) (v:=.slice (some ⟨g1,0,none⟩) n c1) rfl (by kernel_rfl) (by kernel_rfl) (by kernel_rfl) (by kernel_rfl) (by kernel_rfl) (by kernel_rfl) (fun _ _ _ h=>h) (Or.inl ⟨by rfl,?_⟩) hHeld ?_
            ·intro w hSw;obtain⟨Vb,Vd,jh2⟩:=hSw;go_simp
            try simp only[Act.put]
            refine bq (i:=7) (v:=.int .i64 (k:Int)) rfl (by kernel_rfl) (by kernel_rfl) (by kernel_rfl) (by kernel_rfl) (fun _ _ _ h=>h) (Or.inl ⟨by rfl,?_⟩) (fun _=>hHeld) ?_
            ·intro w _;go_simp
            try simp only[Act.put]
            refine bq (i:=8) (v:=.pointer (some ⟨g1,k,none⟩)) rfl (by kernel_rfl) (by kernel_rfl) (by kernel_rfl) (by kernel_rfl) (fun _ _ _ h=>h) (Or.inl ⟨by rfl,?_⟩) (fun _=>hHeld) ?_
            ·intro w _;go_simp
            try simp only[Act.put]
            refine fu (i:=9) (v:=.string nm) rfl (by kernel_rfl) (by kernel_rfl) (by kernel_rfl) (by kernel_rfl) (by kernel_rfl) (by kernel_rfl) (fun _ _ _ h=>h) (Or.inl ⟨by rfl,?_⟩) hHeld ?_
            ·intro w hSw;obtain⟨Vb,Vd,jh2⟩:=hSw;go_simp
            try simp only[Act.put]
            refine aR (rs:=[10]) (by kernel_rfl) (by simp) ?_;refine aD.cons rfl (fun K hK=>?_) aD.nil;go_simp
            refine hK.out _ _ (AZ.out _ (dz (cO (Below.refl _ _)) _)) ?_;clear hK K;try simp only[Act.put]
            refine aR (rs:=[11]) (by kernel_rfl) (by simp) ?_;refine aD.cons rfl (fun K hK=>?_) aD.nil;refine iH w7 (by rfl) _ _ 23 (by rfl) (w.heap.size+3) 9 iS (.string ⟨#[]⟩) 16 Tryz.underlying23 rE.out hS0 hS1 hS2 (by rfl) (.slice b3 k e3) k ((ss.take k).map encStr) (by rfl) uG.out (dz (cO (Below.refl _ _)) _) _ _ _ _ (by rfl) (by exact heap_alloc_new _ _) (by rfl) (by omega) (by decide) kJ.out.tK ?_;intro g8 jd w8 iN gU fU;have h8:=kJ.out.set.name (x:=ss[k]) kJ.out.tK fU (by rw[HLK.out];rw[Kr.out.1] at iN;exact iN) gU;rw[HLK.out] at h8;have q0:w8.cell? ⟨w.heap.size+2,0,none⟩=some (.slice b3 k e3):=ak h8.1 0;have z0:w8.frozen? ⟨w.heap.size+2,0,none⟩=false:=by simp[World.frozen?,h8.1]
            have lY:Below (w.heap.size+2) w7 w8:=h8.2.1.mono (Nat.le_succ _);have nS:=kJ.out.bg.trans (h8.2.1.mono (by omega));have QX:Hid (w.heap.size+3<=w8.heap.size):=Nat.le_trans kJ.out.tK (Nat.le_trans fU.size gU.size);have YW:Hid (∀ v m ys,w7.ownsRow (w.heap.size+3) 71 2 v m ys->w8.ownsRow (w.heap.size+3) 71 2 v m ys):=fun v m ys hv=>Mt gU (dS uG.out fU) (dS hv fU) (by decide)
            have l9:Hid (w8.cell? ⟨w.heap.size+2,0,none⟩=some (.slice b3 k e3)/\w8.cell? ⟨w.heap.size,2,none⟩=some (.slice (some ⟨g1,0,none⟩) n c1)/\w8.cell? ⟨g1,k,none⟩=some (.string nm)):=⟨q0,ak ((lY.block _ (by omega)).trans kJ.out.bb) 2,by rw[Kr.out.1];exact hg1 w8 nS⟩;have H8:=(show Hid _ from And.intro h8.2.2 (And.intro lY nS));clear iN gU fU h8 lY nS;refine hK.out _ _ l9.out ?_;clear hK K;try simp only[Act.put]
            refine bq (i:=12) (v:=.pointer (some ⟨w.heap.size+2,0,none⟩)) rfl (by kernel_rfl) (by kernel_rfl) (by kernel_rfl) (by kernel_rfl) (fun _ _ _ h=>h) (Or.inl ⟨by rfl,?_⟩) (fun _=>l9.out) ?_
            ·intro w _;go_simp
            try simp only[Act.put]
            refine bq (i:=13) (v:=.pointer (some ⟨w.heap.size+2,0,none⟩)) rfl (by kernel_rfl) (by kernel_rfl) (by kernel_rfl) (by kernel_rfl) (fun _ _ _ h=>h) (Or.inl ⟨by rfl,?_⟩) (fun _=>l9.out) ?_
            ·intro w _;go_simp
            try simp only[Act.put]
            refine aR (rs:=[14]) (by kernel_rfl) (by simp) ?_;refine aD.last rfl (by kernel_rfl) (fun K hK=>?_) aD.nil;go_simp
            refine hK.out _ _ ?_;clear hK K;refine kI (by kernel_rfl) ?_ _;clear l9 q0 z0 AZ;obtain⟨Z8,iY⟩:∃ Z8,Z8=w8.setCell ⟨w.heap.size+2,0,none⟩ (.slice (some ⟨g8,0,none⟩) (k+1) jd):=⟨_,rfl⟩;obtain⟨zo,lY,nS⟩:=H8.out;rw[<-iY] at zo ⊢;have C9:Below w.heap.size w Z8:=by rw[iY];exact nS.setCell (p:=⟨w.heap.size+2,0,none⟩) (by show w.heap.size<=w.heap.size+2;omega) _
            have Da:w.heap.size+3<=Z8.heap.size:=by rw[iY,World.size_setCell];exact QX.out
            have OD:Below (w.heap.size+2) w7 Z8:=by rw[iY];exact lY.setCell (p:=⟨w.heap.size+2,0,none⟩) (Nat.le_refl _) _
            have acK:Hid (∀ v m ys,w7.ownsRow (w.heap.size+3) 71 2 v m ys->Z8.ownsRow (w.heap.size+3) 71 2 v m ys):=fun v m ys hv=>by rw[iY];exact eP (YW.out v m ys hv) (by omega)
            have yh:=(show Hid _ from zo);have oW:=(show Hid _ from And.intro C9 (And.intro Da OD));have HOL:Hid ((Z8.alloc (.cells #[.slice a5 n5 c5] 48)).ownsRow (w.heap.size+3) 48 1 (.slice b4 k e4) k ls):=World.ownsRow.alloc (by have:=zo.row;rw[kJ.out.Cn] at this;exact this) _;have wP:Hid (∀ i z,([.slice a5 n5 c5]:List Value)[i]? = some z->(Z8.alloc (.cells #[.slice a5 n5 c5] 48)).cell? ((⟨Z8.heap.size,0,none⟩:Addr).add i)=some z):=World.news_of_block (heap_alloc_new _ _);have Ve:Hid (∀ z∈([.slice a5 n5 c5]:List Value),z.oneCell'=true):=by
             intro z hz;simp at hz;subst hz;rfl
            have s1:Z8.cell? ⟨w.heap.size+2,1,none⟩=some (.slice b4 k e4):=ak zo.set 1;clear H8 QX YW iY zo lY nS C9 OD;go_wp2_with (at_builtin;refine wpList_append_lies _ rfl _ _ 96 rfl (w.heap.size+3) 48 iR (.slice none 0 0) 1 24 Tryz.underlying96 HIR.out hR0 Ac hR2 rfl (by decide) _ _ _ rfl HOL.out ⟨Z8.heap.size,0,none⟩ 1 1 [.slice a5 n5 c5] rfl rfl wP.out Ve.out (by omega) (by unfold maxLen;omega) (by omega) (by simp;omega) _ rfl ?_);intro g9 Fu w9 Bv yj Kw _;have G9:oF (Z8.alloc (.cells #[.slice a5 n5 c5] 48)) w9 (.slice b4 k e4) g9:=⟨yj.os,yj.tape,yj.output,yj.size,fun q hq hne=>yj.block q hq (fun e=>hne e.symm),by simpa using Kw⟩;have A8:Below Z8.heap.size Z8 (Z8.alloc (.cells #[.slice a5 n5 c5] 48)):=(Below.refl _ _).alloc (Nat.le_refl _) _;have h9:=yh.out.list (x:=.slice a5 n5 c5) Da A8 (by rw[kJ.out.Cn];exact Bv) G9;rw[kJ.out.Cn] at h9;have q1:w9.cell? ⟨w.heap.size+2,1,none⟩=some (.slice b4 k e4):=ak h9.1 1;have z1:w9.frozen? ⟨w.heap.size+2,1,none⟩=false:=by simp[World.frozen?,h9.1]
            have iD:Hid (zi w (w9.setCell ⟨w.heap.size+2,1,none⟩ (.slice (some ⟨g9,0,none⟩) (k+1) Fu)) f s (some ⟨g1,0,none⟩) (some ⟨g2,0,none⟩) n c1 c2 ss cs (k+1) (.slice (some ⟨g8,0,none⟩) (k+1) jd) (.slice (some ⟨g9,0,none⟩) (k+1) Fu) (ls ++ [.slice a5 n5 c5])):=by
             obtain⟨C9,_,OD⟩:=oW.out;have D5:Below (w.heap.size+2) w7 w9:=OD.trans (h9.2.1.mono (Nat.le_succ _));have hpz:∀ v m ys,w7.ownsRow (w.heap.size+3) 71 2 v m ys->(w9.setCell ⟨w.heap.size+2,1,none⟩ (.slice (some ⟨g9,0,none⟩) (k+1) Fu)).ownsRow (w.heap.size+3) 71 2 v m ys:=fun v m ys hv=>eP (Mt G9 HOL.out (dS (acK.out v m ys hv) A8) (by decide)) (by omega)
             refine⟨dD.out,?_,?_,by rw[List.take_succ_eq_append_getElem hks];exact h9.2.2,by simp[kJ.out.Cn],fun i hi=>?_,(C9.trans (h9.2.1.mono (by omega))).setCell (p:=⟨w.heap.size+2,1,none⟩) (by show w.heap.size<=w.heap.size+2;omega) _,by rw[World.size_setCell];exact Nat.le_trans Da (Nat.le_trans A8.size G9.size)⟩
             ·rw[Below.heap_setCell _ _ _ _ (by show w.heap.size≠w.heap.size+2;omega),D5.block _ (by omega)];exact kJ.out.bb
             ·rw[Below.heap_setCell _ _ _ _ (by show w.heap.size+1≠w.heap.size+2;omega),D5.block _ (by omega)];exact kJ.out.r2
             ·rcases Nat.lt_or_ge i k with h | h
              ·obtain⟨v,h1,h2⟩:=kJ.out.pts i h;exact⟨v,by rw[List.getElem?_append_left (by rw[kJ.out.Cn];exact h)];exact h1,hpz _ _ _ h2⟩
              ·obtain rfl:i=k:=by omega
               refine⟨.slice a5 n5 c5,by rw[List.getElem?_append_right (by rw[kJ.out.Cn];exact Nat.le_refl _),kJ.out.Cn];simp,?_⟩;rw[nK.out,<-Ci.out.2];exact hpz _ _ _ PK.out
            clear Bv yj Kw G9 A8 h9;go_wp2;go_roundw;case rel=>exact⟨k+1,_,_,_,by omega,by go_num,iD.out⟩
            case measure=>simp[intOf]<;>omega
         ·have Mw:=(show Hid _ from Ku.out.below hb5);clear y0 y1 y2 y3 y4 y5 y6 hb5 cZ x6;obtain⟨y0,y1,y2,y3,y4,y5,y6⟩:=Mw.out.cells;obtain⟨UC,QZ⟩:∃ UC,UC=nJ cs[k]:=⟨_,rfl⟩;have hU0:0<=UC:=by rw[QZ];exact Ec _
          have vU:Hid (UC≠0):=by rw[QZ];exact Kv
          have d5:(UC==0)=false:=by simpa using vU.out
          have d6:decide (0<UC)=true:=decide_eq_true (by have:=vU.out;omega);have HM:=(show Hid _ from HAT.out UC (by rw[HRW.out,<-QZ,if_pos vU.out]) vU.out);have oU:=(show Hid _ from sw Mw.out.r2 Mw.out.bg UC k);have HIS:=(show Hid _ from zV w5 none 0 [] f s YV.out (.inl rfl) (by simp));rw[<-QZ];clear QZ Kv;dsimp only
          go_wp2_with fail;refine Calls.mono HIS.out ?_;rintro e w7 ⟨rfl,hw7⟩;have Jj:=hw7;subst Jj;clear hw7 HIS;dsimp only
          go_wp2;exact HZ.out _ UC k oU.out HM.out vU.out _ rfl rfl rfl
     ·obtain rfl:k=n:=by omega
      have hge:(k:Int)<=(k:Int):=Int.le_refl _;have F3:Hid (iG f s ss cs=0/\lT f s ss cs = -1):=EY HG.out (by rw[U9.out,HN.out]) fun j hj=>jY.out.ok j (by have:=HN.out;omega)
      have YZ:Hid (∀ z,Calls Tryz.prog 53 #[] z fun e w'=>e = .returned (.agg #[.int .i64 0,.int .i64 (-1)])/\Below z.heap.size z w'):=fun z=>Cu z
      go_wp2_with fail;refine Calls.mono (YZ.out _) ?_;rintro e w9 ⟨rfl,D5⟩;have HT9:=(show Hid _ from jY.out.below D5);clear y0 y1 y2 y3 y4 y5 y6 D5;obtain⟨y0,y1,y2,y3,y4,y5,y6⟩:=HT9.out.cells;dsimp only
      go_wp2;refine pO.out w9 _ _ _ HT9.out F3.out.1 _ rfl rfl rfl
   ·have d3:((n:Int)==(m:Int))=false:=by rw[beq_eq_false_iff_ne];omega
    have HM:Hid (iG f s ss cs=3/\lT f s ss cs = -1):=Kq.out HG.out (by rw[HN.out,U9.out];exact fun h=>hnm h.symm);clear Fq Kq QV hnm;go_wp2_with fail;refine Calls.mono (gZ.out 3 w1) ?_;rintro e w2 ⟨rfl,hb2⟩;obtain⟨hz,p0,p1,p2⟩:=kM.out 3 w2 hb2;have oU:=(show Hid _ from hz);clear hb2 hz;dsimp only
    go_wp2;exact HZ.out _ 3 (-1) oU.out HM.out (by decide) _ rfl rfl rfl
 ·have HM:Hid (iG f s ss cs=2/\lT f s ss cs = -1):=Fq.out (.inl (by rw[<-QJ.out];decide));clear Fq Kq;go_wp2_with fail;refine Calls.mono (gZ.out 2 w1) ?_;rintro e w2 ⟨rfl,hb2⟩;obtain⟨hz,p0,p1,p2⟩:=kM.out 2 w2 hb2;have oU:=(show Hid _ from hz);clear hb2 hz;dsimp only
  go_wp2;exact HZ.out _ 2 (-1) oU.out HM.out (by decide) _ rfl rfl rfl
end Go.Proofs.YtdlceolmpcjjiaaGreatDoor
