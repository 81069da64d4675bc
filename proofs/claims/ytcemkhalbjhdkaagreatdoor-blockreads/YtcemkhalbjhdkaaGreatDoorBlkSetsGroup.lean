import Derived.Test.YtcemkhalbjhdkaaGreatDoorMdAtGroup
import Derived.Test.YtcemkhalbjhdkaaGreatDoorBlkTwoGroup
import Derived.Deep.CutRange
import Derived.Test.YtcemkhalbjhdkaaGreatDoorBlkRowsGroup
set_option maxRecDepth 1000000
set_option maxHeartbeats 8000000
namespace Go.Proofs.YtcemkhalbjhdkaaGreatDoor
open Go.RowKit Go.Maps dQ aU
structure Tn (w:World) (sb:Nat) (rows:List (List UInt8×List (Int×Nat))):Prop where
 ex:∃ a c b d,w.heap[sb]? = some (.cells #[.slice a rows.length c,.slice b rows.length d] 96 (0,0)) /\
  (∀ i (hi:i<rows.length),∃ g,a=some ⟨g,0,none⟩/\w.cell? ⟨g,i,none⟩=some (encStr rows[i].1)) /\
  (∀ i (hi:i<rows.length),∃ g,b=some ⟨g,0,none⟩/\∃ A C,w.cell? ⟨g,i,none⟩=some (.slice A rows[i].2.length C)/\oH w A rows[i].2)
structure su (w:World) (base sb:Nat) (vs vl:Value) (ss:List (List UInt8)) (ls:List Value):Prop where
 set:w.heap[sb]? = some (.cells #[vs,vl] 96 (0,0))
 low:sb<base
 names:w.ownsRow base 9 1 vs ss.length (ss.map encStr)
 row:w.ownsRow base 48 1 vl ls.length ls
theorem su.below {w z:World} {base sb:Nat} {vs vl:Value} {ss:List (List UInt8)} {ls:List Value} (h:su w base sb vs vl ss ls) (hb:Below w.heap.size w z):su z base sb vs vl ss ls:=
 ⟨(hb.block _ (aV h.set)).trans h.set,h.low,dS h.names hb,dS h.row hb⟩
theorem eP {z:World} {base tb k:Nat} {e:TypeId} {sz:Nat} {v u:Value} {n:Nat} {xs:List Value} (h:z.ownsRow base e sz v n xs) (hl:tb<base):(z.setCell ⟨tb,k,none⟩ u).ownsRow base e sz v n xs:=dN h fun g hg=>by
 have:=(bL h hg).1;exact Below.heap_setCell _ _ _ _ (by show g≠tb;omega)
theorem su.name {w Y z:World} {base sb:Nat} {vs vl:Value} {ss:List (List UInt8)} {ls:List Value} (h:su w base sb vs vl ss ls) {x:List UInt8} {g cap:Nat} (hbase:base<=w.heap.size) (h1:Below w.heap.size w Y) (o:z.ownsRow base 9 1 (.slice (some ⟨g,0,none⟩) (ss.length+1) cap) (ss.length+1) (ss.map encStr ++ [encStr x])) (G:oF Y z vs g) :
  z.heap[sb]? = some (.cells #[vs,vl] 96 (0,0))/\Below base w z/\su (z.setCell ⟨sb,0,none⟩ (.slice (some ⟨g,0,none⟩) (ss.length+1) cap)) base sb (.slice (some ⟨g,0,none⟩) (ss.length+1) cap) vl (ss ++ [x]) ls:=by
 have hlow:=h.low;have s1:=h1.size;have b1:Below base w z:=(h1.mono hbase).trans (G.below (by omega) fun q hq=>(bL h.names hq).1);have ht:=(b1.block sb hlow).trans h.set;have hr:z.ownsRow base 48 1 vl ls.length ls:=dN h.row fun g' hg'=>by
  obtain⟨_,q2,cur,hc⟩:=bL h.row hg';refine (G.blk g' (by omega) fun e=>?_).trans (h1.block g' q2);obtain⟨_,_,YR,hc2⟩:=bL h.names e;exact rW hc hc2 (by decide) rfl
 refine⟨ht,b1,⟨(dx ht 0 _).trans (by rfl),hlow,?_,eP hr hlow⟩⟩;have:=eP (k:=0) (u:=.slice (some ⟨g,0,none⟩) (ss.length+1) cap) o hlow;simpa using this
theorem su.list {w Y z:World} {base sb:Nat} {vs vl:Value} {ss:List (List UInt8)} {ls:List Value} (h:su w base sb vs vl ss ls) {x:Value} {g cap:Nat} (hbase:base<=w.heap.size) (h1:Below w.heap.size w Y) (o:z.ownsRow base 48 1 (.slice (some ⟨g,0,none⟩) (ls.length+1) cap) (ls.length+1) (ls ++ [x])) (G:oF Y z vl g) :
  z.heap[sb]? = some (.cells #[vs,vl] 96 (0,0))/\Below base w z/\su (z.setCell ⟨sb,1,none⟩ (.slice (some ⟨g,0,none⟩) (ls.length+1) cap)) base sb vs (.slice (some ⟨g,0,none⟩) (ls.length+1) cap) ss (ls ++ [x]):=by
 have hlow:=h.low;have s1:=h1.size;have b1:Below base w z:=(h1.mono hbase).trans (G.below (by omega) fun q hq=>(bL h.row hq).1);have ht:=(b1.block sb hlow).trans h.set;have hr:z.ownsRow base 9 1 vs ss.length (ss.map encStr):=dN h.names fun g' hg'=>by
  obtain⟨_,q2,cur,hc⟩:=bL h.names hg';refine (G.blk g' (by omega) fun e=>?_).trans (h1.block g' q2);obtain⟨_,_,YR,hc2⟩:=bL h.row e;exact rW hc hc2 (by decide) rfl
 refine⟨ht,b1,⟨(dx ht 1 _).trans (by rfl),hlow,eP hr hlow,?_⟩⟩;have:=eP (k:=1) (u:=.slice (some ⟨g,0,none⟩) (ls.length+1) cap) o hlow;simpa using this
theorem Tp {w:World} {base:Nat} {e:TypeId} {v:Value} {xs:List Value} (h:w.ownsRow base e 1 v xs.length xs):∃ a c,v = .slice a xs.length c/\∀ k (hk:k<xs.length),∃ g,a=some ⟨g,0,none⟩/\w.cell? ⟨g,k,none⟩=some xs[k]:=by
 rcases h.2 with⟨hv,h0⟩|⟨g,cap,cur,hv,hg,hh,h1,h2,h3,h4⟩
 ·exact⟨none,0,by rw[hv,h0],fun k hk=>absurd hk (by omega)⟩
 ·refine⟨_,_,hv,fun k hk=>⟨g,rfl,?_⟩⟩;have e0:w.cell? ⟨g,k,none⟩=cur[k]?:=by simp[World.cell?,hh]
  rw[e0,<-Array.getElem?_toList,<-List.getElem?_eq_getElem hk];conv=>rhs;rw[<-h4]
  rw[List.getElem?_take_of_lt (by omega)]
theorem su.done {w:World} {base sb:Nat} {vs vl:Value} {rows:List (List UInt8×List (Int×Nat))} {ls:List Value} (h:su w base sb vs vl (rows.map Prod.fst) ls) (hl:ls.length=rows.length) (hp:∀ i (hi:i<rows.length),∃ A C,ls[i]? = some (.slice A rows[i].2.length C)/\oH w A rows[i].2):Tn w sb rows:=by
 obtain⟨a,c,h1,hc⟩:=om h.names;obtain⟨b,d,h2,hd⟩:=Tp h.row;have hs:=h.set;rw[h1,h2,hl,List.length_map] at hs;refine⟨a,c,b,d,hs,fun i hi=>?_,fun i hi=>?_⟩
 ·obtain⟨g,e,hg⟩:=hc i (by simpa using hi);exact⟨g,e,by rw[hg];simp⟩
 ·obtain⟨g,e,hg⟩:=hd i (by omega);obtain⟨A,C,hA,hP⟩:=hp i hi;rw[List.getElem?_eq_getElem (by omega)] at hA;exact⟨g,e,A,C,by rw[hg,Option.some.inj hA],hP⟩
theorem Tryz.infoPts3:(Tryz.prog.info? 48).map (fun i=>(i.zero,i.size,i.bytes))=some (some (.slice none 0 0),1,24):=by kernel_rfl
end Go.Proofs.YtcemkhalbjhdkaaGreatDoor
namespace Go.Proofs.YtcemkhalbjhdkaaGreatDoor
open Go.RowKit Go.Maps dQ aU
def aaf (w w':World) (c:List UInt8) (e:Ending):Prop:=
 Below w.heap.size w w'/\((nI c=0/\∃ v,e = .returned (.tuple #[v,.int .i64 0])/\w'.ownsRow w.heap.size 67 2 v (gF c).length (bV (gF c)))\/(nI c≠0/\e = .returned (.tuple #[.slice none 0 0,.int .i64 (nI c)])))
theorem YS (w:World) (s:ByteArray) (hs:s.size<=10000) :
  Calls Tryz.prog 54 #[.string s] w fun e w'=>aaf w w' s.data.toList e:=by
 refine (K5 s w hs).mono ?_;rintro e w' ⟨hb,⟨n,T,Bt,v,hn,hT,Qw,hl,hown,rfl⟩|⟨c,hnot,hc,rfl⟩⟩
 ·have hch:dB s.data.toList:=⟨n,T,Bt,hn,hT,Qw,hl⟩;have hu:gF s.data.toList=jL T Bt n:=by
   rw[hl,<-yX];refine EY (yc (by rw[iL];exact hn) fun i hi=>?_) fun p hp=>?_
   ·rw[iL] at hi;rw[qE _ T n (fun j hj=>pE T Bt n j hj) i hi];exact hT i hi
   ·simp[jL] at hp;obtain⟨i,hi,rfl⟩:=hp;exact Qw i hi
  refine⟨hb,.inl ⟨nX.2 hch,v,rfl,?_⟩⟩;rw[hu,iL,pU];exact hown
 ·have hu:nI s.data.toList=(c:Int):=by
   rw[L9 hnot,hc];split
   ·rfl
   ·split<;>rfl
  refine⟨hb,.inr ⟨fun h=>hnot (nX.1 h),by rw[hu]⟩⟩
structure xL (w:World) (base tb:Nat) (f s:Int) (u1 u2:Value) (ss cs:List (List UInt8)):Prop where
 blk:w.heap[tb]? = some (.cells #[.int .i64 f,.int .i64 s,u1,u2] 30 (0,0))
 low:tb<base
 kD:w.ownsRow base 9 1 u1 ss.length (ss.map encStr)
 lu:w.ownsRow base 9 1 u2 cs.length (cs.map encStr)
 apart:∀ g,u1.ownBlock=some g->u2.ownBlock≠some g
theorem xL.below {w z:World} {base tb:Nat} {f s:Int} {u1 u2:Value} {ss cs:List (List UInt8)} (h:xL w base tb f s u1 u2 ss cs) (hb:Below w.heap.size w z):xL z base tb f s u1 u2 ss cs:=
 ⟨(hb.block _ (aV h.blk)).trans h.blk,h.low,dS h.kD hb,dS h.lu hb,h.apart⟩
theorem xL.first {w Y z:World} {base tb:Nat} {f s:Int} {u1 u2:Value} {ss cs:List (List UInt8)} (h:xL w base tb f s u1 u2 ss cs) {x:List UInt8} {g cap:Nat} (hbase:base<=w.heap.size) (h1:Below w.heap.size w Y) (o:z.ownsRow base 9 1 (.slice (some ⟨g,0,none⟩) (ss.length+1) cap) (ss.length+1) (ss.map encStr ++ [encStr x])) (G:oF Y z u1 g) :
  z.heap[tb]? = some (.cells #[.int .i64 f,.int .i64 s,u1,u2] 30 (0,0))/\Below base w z/\xL (z.setCell ⟨tb,2,none⟩ (.slice (some ⟨g,0,none⟩) (ss.length+1) cap)) base tb f s (.slice (some ⟨g,0,none⟩) (ss.length+1) cap) u2 (ss ++ [x]) cs:=by
 have hlow:=h.low;have s1:=h1.size;have b1:Below base w z:=(h1.mono hbase).trans (G.below (by omega) fun q hq=>(bL h.kD hq).1);have ht:=(b1.block tb hlow).trans h.blk;have hr:z.ownsRow base 9 1 u2 cs.length (cs.map encStr):=dN h.lu fun g' hg'=>by
  obtain⟨_,q2,cur,hc⟩:=bL h.lu hg';exact (G.blk g' (by omega) fun e=>h.apart g' e hg').trans (h1.block g' q2)
 refine⟨ht,b1,⟨(dx ht 2 _).trans (by rfl),hlow,?_,eP hr hlow,fun g' e1 e2=>?_⟩⟩
 ·have:=eP (k:=2) (u:=.slice (some ⟨g,0,none⟩) (ss.length+1) cap) o hlow;simpa using this
 ·simp[Value.ownBlock] at e1;subst e1;rcases G.at' with e | e
  ·exact h.apart g e e2
  ·have:=(bL h.lu e2).2.1;omega
theorem xL.second {w Y z:World} {base tb:Nat} {f s:Int} {u1 u2:Value} {ss cs:List (List UInt8)} (h:xL w base tb f s u1 u2 ss cs) {x:List UInt8} {g cap:Nat} (hbase:base<=w.heap.size) (h1:Below w.heap.size w Y) (o:z.ownsRow base 9 1 (.slice (some ⟨g,0,none⟩) (cs.length+1) cap) (cs.length+1) (cs.map encStr ++ [encStr x])) (G:oF Y z u2 g) :
  z.heap[tb]? = some (.cells #[.int .i64 f,.int .i64 s,u1,u2] 30 (0,0))/\Below base w z/\xL (z.setCell ⟨tb,3,none⟩ (.slice (some ⟨g,0,none⟩) (cs.length+1) cap)) base tb f s u1 (.slice (some ⟨g,0,none⟩) (cs.length+1) cap) ss (cs ++ [x]):=by
 have hlow:=h.low;have s1:=h1.size;have b1:Below base w z:=(h1.mono hbase).trans (G.below (by omega) fun q hq=>(bL h.lu hq).1);have ht:=(b1.block tb hlow).trans h.blk;have hr:z.ownsRow base 9 1 u1 ss.length (ss.map encStr):=dN h.kD fun g' hg'=>by
  obtain⟨_,q2,cur,hc⟩:=bL h.kD hg';exact (G.blk g' (by omega) fun e=>h.apart g' hg' e).trans (h1.block g' q2)
 refine⟨ht,b1,⟨(dx ht 3 _).trans (by rfl),hlow,eP hr hlow,?_,fun g' e1 e2=>?_⟩⟩
 ·have:=eP (k:=3) (u:=.slice (some ⟨g,0,none⟩) (cs.length+1) cap) o hlow;simpa using this
 ·simp[Value.ownBlock] at e2;subst e2;rcases G.at' with e | e
  ·exact h.apart g e1 e
  ·have:=(bL h.kD e1).2.1;omega
theorem set2 {z:World} {b:Nat} {p0 p1:Value} {t:TypeId} (h:z.heap[b]? = some (.cells #[p0,p1] t (0,0))) (v0 v1:Value):((z.setCell ⟨b,0,none⟩ v0).setCell ⟨b,1,none⟩ v1).heap[b]? = some (.cells #[v0,v1] t (0,0)):=by
 have e1:=(dx h 0 v0).trans (show _=some (Obj.cells #[v0,p1] t (0,0)) by rfl);exact (dx e1 1 v1).trans (by rfl)
end Go.Proofs.YtcemkhalbjhdkaaGreatDoor
namespace Go.Proofs.YtcemkhalbjhdkaaGreatDoor
open Go.RowKit Go.Maps dQ
theorem Lp (w:World) (f s:Int) (a1 a2:Option Addr) (n1 c1 n2 c2:Nat) :
  Calls Tryz.prog 11 #[.agg #[.int .i64 f,.int .i64 s,.slice a1 n1 c1,.slice a2 n2 c2]] w fun e w'=>e = .returned (.agg #[.int .i64 f,.int .i64 s,.slice a1 n1 c1,.slice a2 n2 c2])/\Below w.heap.size w w':=by
 obtain⟨W,hW⟩:∃ W,W=(w.alloc (.cells #[.int .i64 f,.int .i64 s,.slice a1 n1 c1,.slice a2 n2 c2] 25)).alloc (.cells #[.int .i64 0,.int .i64 0,.slice none 0 0,.slice none 0 0] 30):=⟨_,rfl⟩;have hbW:Below w.heap.size w W:=by rw[hW];exact ((Below.refl _ _).alloc (Nat.le_refl _) _).alloc (by simp) _
 have hs1:(w.alloc (.cells #[.int .i64 f,.int .i64 s,.slice a1 n1 c1,.slice a2 n2 c2] 25)).heap.size=w.heap.size+1:=by simp
 have hx:W.heap[w.heap.size]? = some (.cells #[.int .i64 f,.int .i64 s,.slice a1 n1 c1,.slice a2 n2 c2] 25 (0,0)):=by
  rw[hW];exact (heap_alloc_old _ _ (by rw[hs1];omega)).trans (heap_alloc_new _ _)
 have hy:W.heap[w.heap.size+1]? = some (.cells #[.int .i64 0,.int .i64 0,.slice none 0 0,.slice none 0 0] 30 (0,0)):=by
  rw[hW,<-hs1];exact heap_alloc_new _ _
 have x0:W.cell? ⟨w.heap.size,0,none⟩=some (.int .i64 f):=ak hx 0;have x1:W.cell? ⟨w.heap.size,1,none⟩=some (.int .i64 s):=ak hx 1;have x2:W.cell? ⟨w.heap.size,2,none⟩=some (.slice a1 n1 c1):=ak hx 2;have x3:W.cell? ⟨w.heap.size,3,none⟩=some (.slice a2 n2 c2):=ak hx 3;have y0:W.cell? ⟨w.heap.size+1,0,none⟩=some (.int .i64 0):=ak hy 0;have y1:W.cell? ⟨w.heap.size+1,1,none⟩=some (.int .i64 0):=ak hy 1;have y2:W.cell? ⟨w.heap.size+1,2,none⟩=some (.slice none 0 0):=ak hy 2;have y3:W.cell? ⟨w.heap.size+1,3,none⟩=some (.slice none 0 0):=ak hy 3;have pf:∀ k,W.frozen? ⟨w.heap.size+1,k,none⟩=false:=fun k=>by simp[World.frozen?,hy]
 have HY:=(show Hid _ from hy);have HB:=(show Hid _ from hbW);have HW:=(show Hid _ from hW);clear hx hy hbW hs1 hW;go_enter Tryz.func11,Tryz.ntmps11;go_upto_region 1 with fail;rw[<-HW.out];go_wp2;obtain⟨Z,hZ⟩:∃ Z,Z=((((W.setCell ⟨w.heap.size+1,0,none⟩ (.int .i64 f)).setCell ⟨w.heap.size+1,1,none⟩ (.int .i64 s)).setCell ⟨w.heap.size+1,2,none⟩ (.slice a1 n1 c1)).setCell ⟨w.heap.size+1,3,none⟩ (.slice a2 n2 c2)):=⟨_,rfl⟩;rw[<-hZ];have eZ:Z.heap[w.heap.size+1]? = some (.cells #[.int .i64 f,.int .i64 s,.slice a1 n1 c1,.slice a2 n2 c2] 30 (0,0)):=by rw[hZ];exact uq HY.out _ _ _ _
 have hzb:Below w.heap.size w Z:=by rw[hZ];exact iM HB.out (by omega) _ _ _ _
 have z0:Z.cell? ⟨w.heap.size+1,0,none⟩=some (.int .i64 f):=ak eZ 0;have z1:Z.cell? ⟨w.heap.size+1,1,none⟩=some (.int .i64 s):=ak eZ 1;have z2:Z.cell? ⟨w.heap.size+1,2,none⟩=some (.slice a1 n1 c1):=ak eZ 2;have z3:Z.cell? ⟨w.heap.size+1,3,none⟩=some (.slice a2 n2 c2):=ak eZ 3;clear hZ eZ;refine bodyPost_ret (v:=.agg #[.int .i64 f,.int .i64 s,.slice a1 n1 c1,.slice a2 n2 c2]) (by simp[results,Tryz.results11,go_sem,z0,z1,z2,z3]) rfl ⟨rfl,hzb⟩
end Go.Proofs.YtcemkhalbjhdkaaGreatDoor
namespace Go.Proofs.YtcemkhalbjhdkaaGreatDoor
open Go.RowKit Go.Maps dQ
theorem Wq {l:List (Int×Nat)} (h:l.length<=120):(jw l).length<=10000:=by
 have h1:=rV (iJ l) (qL l) l.length;have h3:(jw l).length=(aj.pack (bH (iJ l) (qL l) l.length)).length+4:=by rw[jw,bY,aj.dJ,List.length_append,uf]
 rw[aj.sD] at h3;omega
def jN:List (List UInt8×List (Int×Nat)):=[([110,61,97],[(3,7)])]
theorem Ck:Ii 0 10 jN:=by
 refine⟨by decide,by decide,List.pairwise_singleton _ _,fun r hr=>?_⟩;simp[jN] at hr;subst hr;exact⟨SF,yc (by decide) (by decide),by decide⟩
theorem Lr:full jN=jN:=by decide
theorem Cm {B:Nat} {ea:Nat->Addr} (w:World) (E:oh B ea w) (hB:B<=w.heap.size) :
  Calls Tryz.prog 6 #[] w fun e w'=>e = .returned (.bool true)/\Below w.heap.size w w':=by
 obtain⟨W,hW⟩:∃ W,W=(w.alloc (.cells #[.int .i64 3,.int .u64 7] 67)).alloc (.cells #[.string ⟨#[110,61,97]⟩,.slice (some ⟨w.heap.size,0,none⟩) 1 1] 69):=⟨_,rfl⟩;have hbW:Below w.heap.size w W:=by rw[hW];exact ((Below.refl _ _).alloc (Nat.le_refl _) _).alloc (by simp) _
 have hs1:(w.alloc (.cells #[.int .i64 3,.int .u64 7] 67)).heap.size=w.heap.size+1:=by simp
 have hx:W.heap[w.heap.size]? = some (.cells #[.int .i64 3,.int .u64 7] 67 (0,0)):=by
  rw[hW];exact (heap_alloc_old _ _ (by rw[hs1];omega)).trans (heap_alloc_new _ _)
 have hy:W.heap[w.heap.size+1]? = some (.cells #[.string ⟨#[110,61,97]⟩,.slice (some ⟨w.heap.size,0,none⟩) 1 1] 69 (0,0)):=by
  rw[hW,<-hs1];exact heap_alloc_new _ _
 have hP:Om W (some ⟨w.heap.size+1,0,none⟩) jN:=by
  refine .inr ⟨_,0,rfl,fun k hk=>?_⟩;obtain rfl:k=0:=by simp[jN] at hk;omega
  refine⟨ak hy 0,_,1,ak hy 1,.inr ⟨w.heap.size,0,rfl,fun j hj=>?_⟩⟩;obtain rfl:j=0:=by simp[jN] at hj;omega
  exact⟨ak hx 0,ak hx 1⟩
 have hmk:=Oo W (E.below hbW hB) (Nat.le_trans hB hbW.size) 0 10 (some ⟨w.heap.size+1,0,none⟩) 1 jN hP (fun r hr=>by
  simp[jN] at hr;subst hr;exact⟨fun p hp=>by simp at hp;subst hp;decide,by decide,by decide⟩) (by decide)
 have F4:Hid (Calls Tryz.prog 14 #[.int .i64 0,.int .i64 10,.slice (some ⟨w.heap.size+1,0,none⟩) 1 1] W fun e w'=>Ml ea W w' 0 10 jN e):=hmk;have HE:=(show Hid _ from E);have HB:=(show Hid _ from hbW);have HW:=(show Hid _ from hW);clear hx hy hbW hs1 hW hP hmk E;go_enter Tryz.func6,Tryz.ntmps6;go_wp2_with fail;rw[<-HW.out];refine Calls.mono F4.out ?_;rintro e w1 ⟨v,hb1,hf1,⟨hz,u1,u2,rfl,o1,o2⟩|⟨hz,rfl⟩⟩
 ·have hv:=hf1.none hz;subst hv;rw[Lr] at o1 o2;obtain⟨a1,c1,rfl⟩:=bW o1;obtain⟨a2,c2,rfl⟩:=bW o2;have HB1:=(show Hid _ from HB.out.trans (hb1.mono HB.out.size));obtain⟨W2,hW2⟩:∃ W2,W2=w1.alloc (.cells #[.int .i64 0,.int .i64 10,.slice a1 1 c1,.slice a2 1 c2] 25):=⟨_,rfl⟩;have hbW2:Below w1.heap.size w1 W2:=by rw[hW2];exact (Below.refl _ _).alloc (Nat.le_refl _) _
  have hx2:W2.heap[w1.heap.size]? = some (.cells #[.int .i64 0,.int .i64 10,.slice a1 1 c1,.slice a2 1 c2] 25 (0,0)):=by rw[hW2];exact heap_alloc_new _ _
  have HB2:=(show Hid _ from HB1.out.trans (hbW2.mono HB1.out.size));obtain⟨hc,_,_⟩:=V5 Ck (fun r hr=>by simp[jN] at hr;subst hr;exact⟨by simp,fun p hp=>by simp at hp;subst hp;decide⟩);have hck:=xJ W2 (HE.out.below HB2.out hB) (Nat.le_trans hB HB2.out.size) 0 10 _ _ _ _ (jN.map Prod.fst) (jN.map fun r=>jw r.2) (dS (by simpa using o1) hbW2) (dS (by simpa using o2) hbW2) (fun x hx=>by simp[jN] at hx;subst hx;decide) (fun x hx=>by
   simp[jN] at hx;subst hx;exact Wq (by decide)) (by decide) (by decide)
  rw[hc] at hck;have nQ:Hid (Calls Tryz.prog 27 #[.agg #[.int .i64 0,.int .i64 10,.slice a1 1 c1,.slice a2 1 c2]] W2 fun e w'=>∃ v,e = .returned v/\Below W2.heap.size W2 w'/\bD ea w' v 0 _):=hck;have x0:W2.cell? ⟨w1.heap.size,0,none⟩=some (.int .i64 0):=ak hx2 0;have x1:W2.cell? ⟨w1.heap.size,1,none⟩=some (.int .i64 10):=ak hx2 1;have x2:W2.cell? ⟨w1.heap.size,2,none⟩=some (.slice a1 1 c1):=ak hx2 2;have x3:W2.cell? ⟨w1.heap.size,3,none⟩=some (.slice a2 1 c2):=ak hx2 3;have HW2:=(show Hid _ from hW2);clear o1 o2 hf1 hb1 hz hW2 hbW2 hx2 hc hck;dsimp only
  go_upto_region 2 with fail;rw[show w1.alloc (.cells #[.int .i64 0,.int .i64 10,.slice a1 jN.length c1,.slice a2 jN.length c2] 25)=W2 from HW2.out.symm];go_wp2_with fail;refine Calls.mono nQ.out ?_;rintro e w3 ⟨v3,rfl,hb3,hf3⟩;have hv:=hf3.none rfl;subst hv;have HB3:=(show Hid _ from HB2.out.trans (hb3.mono HB2.out.size));clear hf3 hb3 nQ;go_wp2;go_ret;exact⟨rfl,HB3.out⟩
 ·exact absurd (V3 Ck).1 hz
end Go.Proofs.YtcemkhalbjhdkaaGreatDoor
namespace Go.Proofs.YtcemkhalbjhdkaaGreatDoor
open Go.RowKit Go.Maps dQ
end Go.Proofs.YtcemkhalbjhdkaaGreatDoor
namespace Go.Proofs.YtcemkhalbjhdkaaGreatDoor
open Go.RowKit Go.Maps dQ aU
def Vb (b:Bool) (RC:Int) (p n:List UInt8):Prop:=b=true↔RC=0/\¬ p<n
structure qX (w z:World):Prop where
 r1:z.heap[w.heap.size]? = some (.cells #[.int .i64 0,.int .i64 0,.slice none 0 0,.slice none 0 0] 30 (0,0))
 r2:z.heap[w.heap.size+1]? = some (.cells #[.int .i64 0,.int .i64 0] 32 (0,0))
theorem qX.all {w z:World} (h:qX w z):z.cell? ⟨w.heap.size,0,none⟩=some (.int .i64 0)/\z.cell? ⟨w.heap.size,1,none⟩=some (.int .i64 0)/\z.cell? ⟨w.heap.size,2,none⟩=some (.slice none 0 0)/\z.cell? ⟨w.heap.size,3,none⟩=some (.slice none 0 0)/\z.cell? ⟨w.heap.size+1,0,none⟩=some (.int .i64 0)/\z.cell? ⟨w.heap.size+1,1,none⟩=some (.int .i64 0)/\(∀ q,z.frozen? ⟨w.heap.size,q,none⟩=false)/\∀ q,z.frozen? ⟨w.heap.size+1,q,none⟩=false:=
 ⟨ak h.r1 0,ak h.r1 1,ak h.r1 2,ak h.r1 3,ak h.r2 0,ak h.r2 1,fun q=>by simp[World.frozen?,h.r1],fun q=>by simp[World.frozen?,h.r2]⟩
theorem qX.drew {w z:World} (h:qX w z):qX w z.drew:=⟨h.r1,h.r2⟩
theorem qX.below {w z y:World} (h:qX w z) (hb:Below z.heap.size z y):qX w y:=⟨(hb.block _ (aV h.r1)).trans h.r1,(hb.block _ (aV h.r2)).trans h.r2⟩
structure Fg (w z:World) (C A:Int):Prop where
 r1:z.heap[w.heap.size]? = some (.cells #[.int .i64 0,.int .i64 0,.slice none 0 0,.slice none 0 0] 30 (0,0))
 r2:z.heap[w.heap.size+1]? = some (.cells #[.int .i64 C,.int .i64 A] 32 (0,0))
 bg:Below w.heap.size w z
theorem Fg.drew {w z:World} {C A:Int} (h:Fg w z C A):Fg w z.drew C A:=⟨h.r1,h.r2,h.bg.drew⟩
theorem qX.set {w z:World} (h:qX w z) (hb:Below w.heap.size w z) (C A:Int):Fg w ((((((z.setCell ⟨w.heap.size,0,none⟩ (.int .i64 0)).setCell ⟨w.heap.size,1,none⟩ (.int .i64 0)).setCell ⟨w.heap.size,2,none⟩ (.slice none 0 0)).setCell ⟨w.heap.size,3,none⟩ (.slice none 0 0)).setCell ⟨w.heap.size+1,0,none⟩ (.int .i64 C)).setCell ⟨w.heap.size+1,1,none⟩ (.int .i64 A)) C A:=by
 obtain⟨Z,hZ⟩:∃ Z,Z=((((z.setCell ⟨w.heap.size,0,none⟩ (.int .i64 0)).setCell ⟨w.heap.size,1,none⟩ (.int .i64 0)).setCell ⟨w.heap.size,2,none⟩ (.slice none 0 0)).setCell ⟨w.heap.size,3,none⟩ (.slice none 0 0)):=⟨_,rfl⟩;have e1:Z.heap[w.heap.size]? = some (.cells #[.int .i64 0,.int .i64 0,.slice none 0 0,.slice none 0 0] 30 (0,0)):=by rw[hZ];exact uq h.r1 _ _ _ _
 have e2:Z.heap[w.heap.size+1]? = some (.cells #[.int .i64 0,.int .i64 0] 32 (0,0)):=by
  rw[hZ,Below.heap_setCell _ _ _ _ (by show w.heap.size+1≠w.heap.size;omega),Below.heap_setCell _ _ _ _ (by show w.heap.size+1≠w.heap.size;omega),Below.heap_setCell _ _ _ _ (by show w.heap.size+1≠w.heap.size;omega),Below.heap_setCell _ _ _ _ (by show w.heap.size+1≠w.heap.size;omega)];exact h.r2
 have eb:Below w.heap.size w Z:=by rw[hZ];exact iM hb (Nat.le_refl _) _ _ _ _
 rw[<-hZ];refine⟨?_,set2 e2 _ _,(eb.setCell (p:=⟨w.heap.size+1,0,none⟩) (Nat.le_succ _) _).setCell (p:=⟨w.heap.size+1,1,none⟩) (Nat.le_succ _) _⟩;rw[Below.heap_setCell _ _ _ _ (by show w.heap.size≠w.heap.size+1;omega),Below.heap_setCell _ _ _ _ (by show w.heap.size≠w.heap.size+1;omega)];exact e1
theorem qX.put {w z:World} (h:qX w z) (hb:Below w.heap.size w z) (v0 v1 v2 v3 p0 p1:Value):∀ Z,Z=((((((z.setCell ⟨w.heap.size,0,none⟩ v0).setCell ⟨w.heap.size,1,none⟩ v1).setCell ⟨w.heap.size,2,none⟩ v2).setCell ⟨w.heap.size,3,none⟩ v3).setCell ⟨w.heap.size+1,0,none⟩ p0).setCell ⟨w.heap.size+1,1,none⟩ p1)->Z.heap[w.heap.size]? = some (.cells #[v0,v1,v2,v3] 30 (0,0))/\Z.heap[w.heap.size+1]? = some (.cells #[p0,p1] 32 (0,0))/\Below w.heap.size w Z/\∀ base e sz v n xs,w.heap.size+1<base->z.ownsRow base e sz v n xs->Z.ownsRow base e sz v n xs:=by
 intro X hX;subst hX;obtain⟨Z,hZ⟩:∃ Z,Z=((((z.setCell ⟨w.heap.size,0,none⟩ v0).setCell ⟨w.heap.size,1,none⟩ v1).setCell ⟨w.heap.size,2,none⟩ v2).setCell ⟨w.heap.size,3,none⟩ v3):=⟨_,rfl⟩;have e1:Z.heap[w.heap.size]? = some (.cells #[v0,v1,v2,v3] 30 (0,0)):=by rw[hZ];exact uq h.r1 _ _ _ _
 have e2:Z.heap[w.heap.size+1]? = some (.cells #[.int .i64 0,.int .i64 0] 32 (0,0)):=by
  rw[hZ,Below.heap_setCell _ _ _ _ (by show w.heap.size+1≠w.heap.size;omega),Below.heap_setCell _ _ _ _ (by show w.heap.size+1≠w.heap.size;omega),Below.heap_setCell _ _ _ _ (by show w.heap.size+1≠w.heap.size;omega),Below.heap_setCell _ _ _ _ (by show w.heap.size+1≠w.heap.size;omega)];exact h.r2
 have eb:Below w.heap.size w Z:=by rw[hZ];exact iM hb (Nat.le_refl _) _ _ _ _
 rw[<-hZ];refine⟨?_,set2 e2 _ _,(eb.setCell (p:=⟨w.heap.size+1,0,none⟩) (Nat.le_succ _) _).setCell (p:=⟨w.heap.size+1,1,none⟩) (Nat.le_succ _) _,fun base e sz v n xs hl ho=>?_⟩
 ·rw[Below.heap_setCell _ _ _ _ (by show w.heap.size≠w.heap.size+1;omega),Below.heap_setCell _ _ _ _ (by show w.heap.size≠w.heap.size+1;omega)];exact e1
 ·have hl2:w.heap.size<base:=by omega
  rw[hZ];exact eP (eP (eP (eP (eP (eP ho hl2) hl2) hl2) hl2) hl) hl
end Go.Proofs.YtcemkhalbjhdkaaGreatDoor
namespace Go.Proofs.YtcemkhalbjhdkaaGreatDoor
open Go.RowKit Go.Maps dQ aU
def Im (w w':World) (f s:Int) (ss cs:List (List UInt8)) (e:Ending):Prop:=
 Below w.heap.size w w'/\((iG f s ss cs=0/\∃ sb,e = .returned (.tuple #[.pointer (some ⟨sb,0,none⟩),.agg #[.int .i64 0,.int .i64 (-1)]])/\Tn w' sb (rowsOf ss cs)) \/
  (iG f s ss cs≠0/\e = .returned (.tuple #[.pointer none,.agg #[.int .i64 (iG f s ss cs),.int .i64 (lT f s ss cs)]])))
theorem Ms {Y z:World} {v:Value} {g:Nat} (G:oF Y z v g) {base n base' sz m:Nat} {e e':TypeId} {xs ys:List Value} {v':Value} (ho:Y.ownsRow base e 1 v n xs) (h:Y.ownsRow base' e' sz v' m ys) (hne:e'≠e):z.ownsRow base' e' sz v' m ys:=dN h fun g' hg'=>by
 obtain⟨_,q2,cur,hc⟩:=bL h hg';refine G.blk g' q2 fun e=>?_
 obtain⟨_,_,YR,hc2⟩:=bL ho e;exact rW hc hc2 hne rfl
structure zi (w wr:World) (f s:Int) (a1 a2:Option Addr) (n c1 c2:Nat) (ss cs:List (List UInt8)) (k:Nat) (vs vl:Value) (ls:List Value):Prop where
 ok:∀ j,j<k->iZ f s ss cs j=0
 bb:wr.heap[w.heap.size]? = some (.cells #[.int .i64 f,.int .i64 s,.slice a1 n c1,.slice a2 n c2] 30 (0,0))
 r2:wr.heap[w.heap.size+1]? = some (.cells #[.int .i64 0,.int .i64 0] 32 (0,0))
 set:su wr (w.heap.size+3) (w.heap.size+2) vs vl (ss.take k) ls
 Cn:ls.length=k
 pts:∀ i,i<k->∃ v,ls[i]? = some v/\wr.ownsRow (w.heap.size+3) 67 2 v (gF (cs.getD i [])).length (bV (gF (cs.getD i [])))
 bg:Below w.heap.size w wr
 tJ:w.heap.size+3<=wr.heap.size
theorem zi.below {w wr z:World} {f s:Int} {a1 a2:Option Addr} {n c1 c2:Nat} {ss cs:List (List UInt8)} {k:Nat} {vs vl:Value} {ls:List Value} (h:zi w wr f s a1 a2 n c1 c2 ss cs k vs vl ls) (hb:Below wr.heap.size wr z):zi w z f s a1 a2 n c1 c2 ss cs k vs vl ls:=
 ⟨h.ok,(hb.block _ (aV h.bb)).trans h.bb,(hb.block _ (aV h.r2)).trans h.r2,h.set.below hb,h.Cn,fun i hi=>(h.pts i hi).imp fun _ hv=>⟨hv.1,dS hv.2 hb⟩,h.bg.trans (hb.mono h.bg.size),Nat.le_trans h.tJ hb.size⟩
theorem zi.cells {w wr:World} {f s:Int} {a1 a2:Option Addr} {n c1 c2:Nat} {ss cs:List (List UInt8)} {k:Nat} {vs vl:Value} {ls:List Value} (h:zi w wr f s a1 a2 n c1 c2 ss cs k vs vl ls):wr.cell? ⟨w.heap.size,0,none⟩=some (.int .i64 f)/\wr.cell? ⟨w.heap.size,1,none⟩=some (.int .i64 s)/\wr.cell? ⟨w.heap.size,2,none⟩=some (.slice a1 n c1)/\wr.cell? ⟨w.heap.size,3,none⟩=some (.slice a2 n c2)/\wr.cell? ⟨w.heap.size+1,0,none⟩=some (.int .i64 0)/\wr.cell? ⟨w.heap.size+1,1,none⟩=some (.int .i64 0)/\∀ q,wr.frozen? ⟨w.heap.size+1,q,none⟩=false:=
 ⟨ak h.bb 0,ak h.bb 1,ak h.bb 2,ak h.bb 3,ak h.r2 0,ak h.r2 1,fun q=>by simp[World.frozen?,h.r2]⟩
structure Fh (w z:World) (C A:Int):Prop where
 r2:z.heap[w.heap.size+1]? = some (.cells #[.int .i64 C,.int .i64 A] 32 (0,0))
 bg:Below w.heap.size w z
theorem Fh.drew {w z:World} {C A:Int} (h:Fh w z C A):Fh w z.drew C A:=⟨h.r2,h.bg.drew⟩
theorem sw {w z:World} (h:z.heap[w.heap.size+1]? = some (.cells #[.int .i64 0,.int .i64 0] 32 (0,0))) (hb:Below w.heap.size w z) (C A:Int):Fh w ((z.setCell ⟨w.heap.size+1,0,none⟩ (.int .i64 C)).setCell ⟨w.heap.size+1,1,none⟩ (.int .i64 A)) C A:=
 ⟨set2 h _ _,(hb.setCell (p:=⟨w.heap.size+1,0,none⟩) (Nat.le_succ _) _).setCell (p:=⟨w.heap.size+1,1,none⟩) (Nat.le_succ _) _⟩
theorem QL (w:World) (f s:Int) (a1 a2:Option Addr) (c1 c2:Nat) (ss cs:List (List UInt8)) (h1:Tf w a1 ss) (h2:Tf w a2 cs) (hss:∀ x,x∈ss->x.length<=100000) (hcs:∀ x,x∈cs->x.length<=10000) (hn:ss.length<=100000) (hm:cs.length<=100000) :
  Calls Tryz.prog 19 #[.agg #[.int .i64 f,.int .i64 s,.slice a1 ss.length c1,.slice a2 cs.length c2]] w fun e w'=>Im w w' f s ss cs e:=by
 have hc1:=h1;have hc2:=h2;obtain⟨n,hnn⟩:∃ n,n=ss.length:=⟨_,rfl⟩;obtain⟨m,hmm⟩:∃ m,m=cs.length:=⟨_,rfl⟩;have HN:=(show Hid _ from hnn.symm);have Vd:=(show Hid _ from hmm.symm);rw[<-hnn,<-hmm];rw[<-hnn] at hn;rw[<-hmm] at hm;obtain⟨W,hW⟩:∃ W,W=(w.alloc (.cells #[.int .i64 f,.int .i64 s,.slice a1 n c1,.slice a2 m c2] 30)).alloc (.cells #[.int .i64 0,.int .i64 0] 32):=⟨_,rfl⟩;have hs1:(w.alloc (.cells #[.int .i64 f,.int .i64 s,.slice a1 n c1,.slice a2 m c2] 30)).heap.size=w.heap.size+1:=by simp
 have hbW:Below w.heap.size w W:=by rw[hW];exact ((Below.refl _ _).alloc (Nat.le_refl _) _).alloc (by simp) _
 have hr1:W.heap[w.heap.size]? = some (.cells #[.int .i64 f,.int .i64 s,.slice a1 n c1,.slice a2 m c2] 30 (0,0)):=by
  rw[hW];exact (heap_alloc_old _ _ (by rw[hs1];omega)).trans (heap_alloc_new _ _)
 have hr2:W.heap[w.heap.size+1]? = some (.cells #[.int .i64 0,.int .i64 0] 32 (0,0)):=by
  rw[hW,<-hs1];exact heap_alloc_new _ _
 have Mg:W.heap.size=w.heap.size+2:=by rw[hW];simp
 have HW:=(show Hid _ from hW);have dO:=(show Hid _ from hbW);have HR1:=(show Hid _ from And.intro hr1 hr2);have wS:Hid (∀ i (hi:i<ss.length),∃ g o,a1=some ⟨g,o,none⟩/\∀ z,Below w.heap.size w z->z.cell? ⟨g,o+i,none⟩=some (encStr ss[i])):=fun i hi=>by
  obtain⟨g,o,e,hc⟩:=hc1 i hi;exact⟨g,o,e,fun z hz=>(hz.cell (p:=⟨g,o+i,none⟩) (World.block_lt_of_cell? w ⟨g,o+i,none⟩ hc)).trans hc⟩
 have nG:Hid (∀ i (hi:i<cs.length),∃ g o,a2=some ⟨g,o,none⟩/\∀ z,Below w.heap.size w z->z.cell? ⟨g,o+i,none⟩=some (encStr cs[i])):=fun i hi=>by
  obtain⟨g,o,e,hc⟩:=hc2 i hi;exact⟨g,o,e,fun z hz=>(hz.cell (p:=⟨g,o+i,none⟩) (World.block_lt_of_cell? w ⟨g,o+i,none⟩ hc)).trans hc⟩
 have eY:=(show Hid _ from And.intro hss hcs);have HZ:Hid (∀ (Y:World) (C A:Int),Fh w Y C A->iG f s ss cs=C/\lT f s ss cs=A->C≠0->∀ (a:Act),a.tmps[2]?.getD undef = .pointer none->a.tmps[3]?.getD undef = .pointer (some ⟨w.heap.size+1,0,none⟩)->a.defers = []->bodyPost Tryz.prog Tryz.f19 (fun e w'=>Im w w' f s ss cs e) Exit.ret a Y):=fun Y C A h hC hne a t2 t3 hd=>by
  have v0:Y.cell? ⟨w.heap.size+1,0,none⟩=some (.int .i64 C):=ak h.r2 0;have v1:Y.cell? ⟨w.heap.size+1,1,none⟩=some (.int .i64 A):=ak h.r2 1;refine bodyPost_ret (v:=.tuple #[.pointer none,.agg #[.int .i64 C,.int .i64 A]]) (by simp[results,Tryz.results19,go_sem,v0,v1,t2,t3]) hd ⟨h.bg,.inr ⟨by rw[hC.1];exact hne,by rw[hC.1,hC.2]⟩⟩
 have pO:Hid (∀ (z:World) (vs vl:Value) (ls:List Value),zi w z f s a1 a2 n c1 c2 ss cs n vs vl ls->iG f s ss cs=0->∀ (a:Act),a.tmps[2]?.getD undef = .pointer (some ⟨w.heap.size+2,0,none⟩)->a.tmps[3]?.getD undef = .pointer (some ⟨w.heap.size+1,0,none⟩)->a.defers = []->bodyPost Tryz.prog Tryz.f19 (fun e w'=>Im w w' f s ss cs e) Exit.ret a ((z.setCell ⟨w.heap.size+1,0,none⟩ (.int .i64 0)).setCell ⟨w.heap.size+1,1,none⟩ (.int .i64 (-1)))):=fun z vs vl ls h hC a t2 t3 hd=>by
  have hf:=sw h.r2 h.bg 0 (-1);have hl:cs.length=ss.length:=(E5 hC).2.2.1;have hset:Tn ((z.setCell ⟨w.heap.size+1,0,none⟩ (.int .i64 0)).setCell ⟨w.heap.size+1,1,none⟩ (.int .i64 (-1))) (w.heap.size+2) (rowsOf ss cs):=by
   have hA:su ((z.setCell ⟨w.heap.size+1,0,none⟩ (.int .i64 0)).setCell ⟨w.heap.size+1,1,none⟩ (.int .i64 (-1))) (w.heap.size+3) (w.heap.size+2) vs vl ((rowsOf ss cs).map Prod.fst) ls:=by
    rw[Eh hl];have h0:=h.set;rw[List.take_of_length_le (by omega)] at h0;refine⟨?_,h0.low,eP (eP h0.names (by omega)) (by omega),eP (eP h0.row (by omega)) (by omega)⟩;rw[Below.heap_setCell _ _ _ _ (by show w.heap.size+2≠w.heap.size+1;omega),Below.heap_setCell _ _ _ _ (by show w.heap.size+2≠w.heap.size+1;omega)];exact h0.set
   refine hA.done (by rw[h.Cn,lI hl];omega) fun i hi=>?_
   rw[lI hl] at hi;obtain⟨v,e1,e2⟩:=h.pts i (by omega);have e3:(rowsOf ss cs)[i].2=gF (cs.getD i []):=by
    have hi2:i<cs.length:=by omega
    simp[rowsOf,List.getD_eq_getElem?_getD,hi2]
   have e4:=eP (k:=1) (u:=.int .i64 (-1)) (eP (k:=0) (tb:=w.heap.size+1) (u:=.int .i64 0) e2 (by omega)) (by omega:w.heap.size+1<w.heap.size+3);obtain⟨A,C,hv,_,hp,_⟩:=zU e4;rw[e3];exact⟨A,C,by rw[e1,hv],hp⟩
  obtain⟨Y,hY⟩:∃ Y,Y=((z.setCell ⟨w.heap.size+1,0,none⟩ (.int .i64 0)).setCell ⟨w.heap.size+1,1,none⟩ (.int .i64 (-1))):=⟨_,rfl⟩;rw[<-hY] at hset hf ⊢;have v0:Y.cell? ⟨w.heap.size+1,0,none⟩=some (.int .i64 0):=ak hf.r2 0;have v1:Y.cell? ⟨w.heap.size+1,1,none⟩=some (.int .i64 (-1)):=ak hf.r2 1;refine bodyPost_ret (v:=.tuple #[.pointer (some ⟨w.heap.size+2,0,none⟩),.agg #[.int .i64 0,.int .i64 (-1)]]) (by simp[results,Tryz.results19,go_sem,v0,v1,t2,t3]) hd ⟨hf.bg,.inl ⟨hC,_,rfl,hset⟩⟩
 have zI:=(show Hid _ from IJ W f s);have hE0:=MZ f s;have ig:Hid (∀ (c:Int) (z:World),Calls Tryz.prog 31 #[.int .i64 c] z fun e w'=>e = .returned (.agg #[.int .i64 c,.int .i64 (-1)])/\Below z.heap.size z w'):=fun c z=>rO c z
 have x0:W.cell? ⟨w.heap.size,0,none⟩=some (.int .i64 f):=ak hr1 0;have x1:W.cell? ⟨w.heap.size,1,none⟩=some (.int .i64 s):=ak hr1 1;have x2:W.cell? ⟨w.heap.size,2,none⟩=some (.slice a1 n c1):=ak hr1 2;have x3:W.cell? ⟨w.heap.size,3,none⟩=some (.slice a2 m c2):=ak hr1 3;obtain⟨ev,hev⟩:∃ ev,ev=iy f s:=⟨_,rfl⟩;rw[<-hev] at zI hE0;have QM:=(show Hid _ from hev);have Fj:Hid (iy f s≠0\/60<ss.length->iG f s ss cs=2/\lT f s ss cs = -1):=fun h=>JM h
 have Km:Hid (¬ (iy f s≠0\/60<ss.length)->cs.length≠ss.length->iG f s ss cs=3/\lT f s ss cs = -1):=fun h h'=>JN h h'
 have kM:Hid (∀ (c:Int) (z:World),Below W.heap.size W z->Fh w ((z.setCell ⟨w.heap.size+1,0,none⟩ (.int .i64 c)).setCell ⟨w.heap.size+1,1,none⟩ (.int .i64 (-1))) c (-1)/\z.cell? ⟨w.heap.size+1,0,none⟩=some (.int .i64 0)/\z.cell? ⟨w.heap.size+1,1,none⟩=some (.int .i64 0)/\∀ q,z.frozen? ⟨w.heap.size+1,q,none⟩=false):=fun c z hz=>by
  have:=(hz.block _ (aV hr2)).trans hr2;exact⟨sw this (hbW.trans (hz.mono hbW.size)) c (-1),ak this 0,ak this 1,fun q=>by simp[World.frozen?,this]⟩
 have acK:ev=0\/ev=2:=by rw[hev];unfold iy;split<;>simp
 clear h1 h2 hc1 hc2 hss hcs hW hbW hr1 hr2 hs1 hnn hmm hev;go_enter Tryz.func19,Tryz.ntmps19;go_upto_region 1 with fail;rw[<-HW.out];go_wp2_with fail;refine Calls.mono zI.out ?_;rintro e w1 ⟨rfl,hw1⟩;have aQ:=hw1;subst aQ;clear zI hw1 HW;rcases acK with rfl | rfl
 ·by_cases QN:60<n
  ·have d2:decide ((60:Int)<(n:Int))=true:=decide_eq_true (by omega);have HM:Hid (iG f s ss cs=2/\lT f s ss cs = -1):=Fj.out (.inr (by rw[HN.out];exact QN));clear Fj Km QN;go_wp2_with fail;refine Calls.mono (ig.out 2 w1) ?_;rintro e w2 ⟨rfl,hb2⟩;obtain⟨hz,p0,p1,p2⟩:=kM.out 2 w2 hb2;have oU:=(show Hid _ from hz);clear hb2 hz;dsimp only
   go_wp2;exact HZ.out _ 2 (-1) oU.out HM.out (by decide) _ rfl rfl rfl
  ·have d2:decide ((60:Int)<(n:Int))=false:=decide_eq_false (by omega);have HG:Hid (¬ (iy f s≠0\/60<ss.length)):=by
    rw[HN.out];rintro (h | h)
    ·exact h QM.out.symm
    ·exact QN h
   by_cases hnm:n=m
   ·subst hnm;have CX:n<=60:=by omega
    have YT:Hid (iy f s=0):=QM.out.symm;clear Fj Km QN hm hn;go_upto_region 9 with fail;obtain⟨W3,hW3⟩:∃ W3,W3=w1.alloc (.cells #[.slice none 0 0,.slice none 0 0] 96):=⟨_,rfl⟩;have hb3:Below w1.heap.size w1 W3:=by rw[hW3];exact (Below.refl _ _).alloc (Nat.le_refl _) _
    have hx3:W3.heap[w.heap.size+2]? = some (.cells #[.slice none 0 0,.slice none 0 0] 96 (0,0)):=by rw[hW3,<-Mg];exact heap_alloc_new _ _
    have H0:Hid (zi w W3 f s a1 a2 n c1 c2 ss cs 0 (.slice none 0 0) (.slice none 0 0) []):=
     ⟨fun j h=>absurd h (Nat.not_lt_zero _),(hb3.block _ (aV HR1.out.1)).trans HR1.out.1,(hb3.block _ (aV HR1.out.2)).trans HR1.out.2,⟨hx3,Nat.lt_succ_self _,⟨rfl,.inl ⟨rfl,rfl⟩⟩,⟨rfl,.inl ⟨rfl,rfl⟩⟩⟩,rfl,fun i h=>absurd h (Nat.not_lt_zero _),dO.out.trans (hb3.mono dO.out.size),aV hx3⟩
    rw[<-hW3];clear hb3 hx3 hW3 x0 x1 x2 x3 d2 Mg;go_wp2_with fail;go_loopw [6] (fun i wr=>∃ (k:Nat) (vs vl:Value) (ls:List Value),k<=n/\i = .int .i64 (k:Int)/\zi w wr f s a1 a2 n c1 c2 ss cs k vs vl ls) (fun i _=>n-(intOf i).toNat);case atStart=>exact⟨0,_,_,[],Nat.zero_le _,rfl,H0.out⟩
    case round=>
     obtain⟨k,vs,vl,ls,hk,rfl,hto⟩:=hrel;have jY:=(show Hid _ from hto);have hsz:=hto.tJ;obtain⟨y0,y1,y2,y3,y4,y5,y6⟩:=hto.cells;clear hto;by_cases hkn:k<n
     ·have hks:k<ss.length:=by rw[HN.out];exact hkn
      have hkc:k<cs.length:=by rw[Vd.out];exact hkn
      obtain⟨g1,o1,q1,hg1⟩:=wS.out k hks;subst q1;obtain⟨g2,o2,q2,hg2⟩:=nG.out k hkc;subst q2;obtain⟨nm,hnm⟩:∃ nm:ByteArray,nm=txt ss[k]:=⟨_,rfl⟩;have x4:wr.cell? ⟨g1,o1+k,none⟩=some (.string nm):=by rw[hnm];exact hg1 wr jY.out.bg
      have k0:(0:Int)<=(k:Int):=by omega
      have k1:(k:Int)<(n:Int):=by omega
      have xP:=(show Hid _ from Tm wr nm (by rw[hnm,bB];exact eY.out.1 _ (List.getElem_mem hks)));have Tq:nm.data.toList=ss[k]:=by rw[hnm];rfl
      rw[Tq] at xP;obtain⟨RC,QO⟩:∃ RC,RC=gQ ss[k]:=⟨_,rfl⟩;obtain⟨RA,hRA⟩:∃ RA,RA=yV ss[k]:=⟨_,rfl⟩;rw[<-QO,<-hRA] at xP;have hR0:0<=RC:=by rw[QO];exact Ao _
      have Yw:=(show Hid _ from QO);have Kn:=(show Hid _ from And.intro hnm Tq);have hgs:ss.getD k []=ss[k]:=by simp[List.getD_eq_getElem?_getD,hks]
      have hgc:cs.getD k []=cs[k]:=by simp[List.getD_eq_getElem?_getD,hkc]
      have kr:Hid (iZ f s ss cs k=kC f s (prev ss k) ss[k] cs[k]):=by
       show _=_;unfold iZ;rw[hgs,hgc]
      have nJ:=(show Hid _ from hgc);have Ko:Hid (iF (prev ss k) ss[k]=if RC≠0 then RC else if prev ss k<ss[k] then 0 else 3):=by
       rw[QO];rfl
      have HAT:Hid (∀ C:Int,iZ f s ss cs k=C->C≠0->iG f s ss cs=C/\lT f s ss cs=(k:Int)):=fun C hC hne=>by
       obtain⟨h1,h2⟩:=UO HG.out (by rw[Vd.out,HN.out]) hks jY.out.ok (by rw[hC];exact hne);exact⟨h1.trans hC,h2⟩
      clear QO hRA hnm Tq hgs hgc;go_wp2_with fail;refine Calls.mono xP.out ?_;rintro e w2 ⟨hb2,x,rfl⟩;have HT2:=(show Hid _ from jY.out.below hb2);clear xP hb2 y0 y1 y2 y3 y4 y5 y6 x4;dsimp only
      go_upto_region 13 with fail;obtain⟨W4,uJ⟩:∃ W4,W4=w2.alloc (.cells #[.int .i64 RC,.int .i64 RA] 32):=⟨_,rfl⟩;have hb4:Below w2.heap.size w2 W4:=by rw[uJ];exact (Below.refl _ _).alloc (Nat.le_refl _) _
      have GI:W4.heap[w2.heap.size]? = some (.cells #[.int .i64 RC,.int .i64 RA] 32 (0,0)):=by rw[uJ];exact heap_alloc_new _ _
      rw[<-uJ];clear uJ;have F7:=(show Hid _ from HT2.out.below hb4);obtain⟨y0,y1,y2,y3,y4,y5,y6⟩:=F7.out.cells;have v4:W4.cell? ⟨w2.heap.size,0,none⟩=some (.int .i64 RC):=ak GI 0;have vd4:W4.drew.cell? ⟨w2.heap.size,0,none⟩=some (.int .i64 RC):=v4;have x4:W4.cell? ⟨g1,o1+k,none⟩=some (.string nm):=by rw[Kn.out.1];exact hg1 W4 F7.out.bg
      clear hb4 GI;by_cases hr:0<RC
      ·have d3:decide (0<RC)=true:=decide_eq_true hr;have vU:Hid (RC≠0):=fun h=>(by omega)
       have HM:=(show Hid _ from HAT.out RC (by rw[kr.out];unfold kC;rw[Ko.out,if_pos vU.out,if_pos vU.out]) vU.out);have oU:=(show Hid _ from sw F7.out.r2 F7.out.bg RC k);have yd4:W4.drew.cell? ⟨w.heap.size+1,0,none⟩=some (.int .i64 0):=y4;have yd5:W4.drew.cell? ⟨w.heap.size+1,1,none⟩=some (.int .i64 0):=y5;have yd6:∀ q,W4.drew.frozen? ⟨w.heap.size+1,q,none⟩=false:=y6;clear hr;go_wp2_with fail;go_region;all_goals (go_wp2;exact HZ.out _ RC k oU.out.drew HM.out vU.out _ rfl rfl rfl)
      ·obtain rfl:RC=0:=by omega
       clear hr;have Mh:Hid (k=0->prev ss k<ss[k]):=fun h0=>by
        unfold prev;rw[if_pos h0];exact Gi Yw.out.symm
       have HPV:Hid (0<k->∀ z,Below w.heap.size w z->z.cell? ⟨g1,o1+(k-1),none⟩=some (encStr (prev ss k))):=fun hk0 z hz=>by
        obtain⟨g,o,e,h⟩:=wS.out (k-1) (by omega);simp at e;obtain⟨rfl,rfl⟩:=e;rw[h z hz];have:prev ss k=ss[k-1]:=by
         unfold prev;rw[if_neg (by omega)];simp[List.getD_eq_getElem?_getD,show k-1<ss.length by omega]
        rw[this]
       go_upto_region 15 with fail;go_cut [80] from 42 to 139 (fun s80 wz=>∃ (b:Bool) (q:Nat),s80 = .bool b/\wz=W4.drewN q/\Vb b 0 (prev ss k) ss[k]);case first=>
        by_cases hk0:k=0
        ·subst hk0;have HB:Hid (Vb false 0 (prev ss 0) ss[0]):=⟨fun h=>(by cases h),fun h=>absurd (Mh.out rfl) h.2⟩;go_quiet (fail);go_wp2_with fail;go_meet;case rel=>exact⟨false,_,rfl,rfl,HB.out⟩
        ·obtain⟨j,rfl⟩:∃ j,k=j+1:=⟨k-1,by omega⟩;obtain⟨pv,hpv⟩:∃ pv:ByteArray,pv=txt (prev ss (j+1)):=⟨_,rfl⟩;have x5:W4.cell? ⟨g1,o1+j,none⟩=some (.string pv):=by rw[hpv];exact HPV.out (by omega) W4 F7.out.bg
         have hlt:=Mi nm pv;have heq:=U4 nm pv;rw[Kn.out.2,show pv.data.toList=prev ss (j+1) by rw[hpv];rfl] at hlt heq;have i1:(0:Int)<=(j:Int)+1-1:=by omega
         have i2:(j:Int)+1-1<(n:Int):=by omega
         have i3:(0:Int)<(j:Int)+1:=by omega
         have zH:=(show Hid _ from hlt);have qd:=(show Hid _ from heq);clear hlt heq hpv hk0;by_cases h1:prev ss (j+1)<ss[j+1]
         ·have hl:Op.bytesLess nm.toList pv.toList=false:=by rw[zH.out];exact decide_eq_false (fun h=>absurd (List.lt_trans h h1) (List.lt_irrefl _))
          have hl2:(nm.toList==pv.toList)=false:=by rw[qd.out];exact decide_eq_false (fun h=>by rw[h] at h1;exact List.lt_irrefl _ h1)
          have HB:Hid (Vb false 0 (prev ss (j+1)) ss[j+1]):=⟨fun h=>(by cases h),fun h=>absurd h1 h.2⟩;clear h1 zH qd;go_quiet (fail);go_wp2_with fail;go_meet;case rel=>exact⟨false,_,rfl,rfl,HB.out⟩
         ·have HB:Hid (Vb true 0 (prev ss (j+1)) ss[j+1]):=⟨fun _=>⟨rfl,h1⟩,fun _=>rfl⟩;by_cases h2:ss[j+1]<prev ss (j+1)
          ·have hl:Op.bytesLess nm.toList pv.toList=true:=by rw[zH.out];exact decide_eq_true h2
           clear h1 h2 zH qd;go_quiet (fail);go_wp2_with fail;go_meet;case rel=>exact⟨true,_,rfl,rfl,HB.out⟩
          ·have hl:Op.bytesLess nm.toList pv.toList=false:=by rw[zH.out];exact decide_eq_false h2
           have hl2:(nm.toList==pv.toList)=true:=by rw[qd.out];exact decide_eq_true (List.le_antisymm (List.not_lt.1 h1) (List.not_lt.1 h2))
           clear h1 h2 zH qd;go_quiet (fail);go_wp2_with fail;go_meet;case rel=>exact⟨true,_,rfl,rfl,HB.out⟩
       case rest=>
        obtain⟨b,q,rfl,hwc,hnb⟩:=hcut;have Mt:=(show Hid _ from hnb);have h4c:Below W4.heap.size W4 wc:=by rw[hwc];exact below_draws (Below.refl _ _) q
        have Kq:=(show Hid _ from F7.out.below h4c);clear hnb hwc h4c y0 y1 y2 y3 y4 y5 y6 x4 v4 vd4;obtain⟨y0,y1,y2,y3,y4,y5,y6⟩:=Kq.out.cells;by_cases hb:b=true
        ·have hn0:=Mt.out.1 hb;subst hb;have hnc:iF (prev ss k) ss[k]=3:=by rw[Ko.out,if_neg (fun h=>h rfl),if_neg hn0.2]
         have HM:=(show Hid _ from HAT.out 3 (by rw[kr.out];unfold kC;rw[hnc,if_pos (by decide)]) (by decide));have oU:=(show Hid _ from sw Kq.out.r2 Kq.out.bg 3 k);clear hn0 hnc;go_wp2;exact HZ.out _ 3 k oU.out HM.out (by decide) _ rfl rfl rfl
        ·have hbf:b=false:=by simpa using hb
         subst hbf;have hlt:prev ss k<ss[k]:=by
          apply Decidable.not_not.1;intro h;exact hb (Mt.out.2 ⟨rfl,h⟩)
         have hnc:iF (prev ss k) ss[k]=0:=by rw[Ko.out,if_neg (fun h=>h rfl),if_pos hlt]
         have HRW:Hid (iZ f s ss cs k=if nI cs[k]≠0 then nI cs[k] else if gF cs[k] = [] then 5 else if lg f s (gF cs[k])=true then 0 else 2):=by
          show _=_;rw[kr.out];unfold kC;rw[hnc,if_neg (fun h=>h rfl)]
         obtain⟨ch,hch⟩:∃ ch:ByteArray,ch=txt cs[k]:=⟨_,rfl⟩;have x6:wc.cell? ⟨g2,o2+k,none⟩=some (.string ch):=by rw[hch];exact hg2 wc Kq.out.bg
         have cZ:=(show Hid _ from YS wc ch (by rw[hch,bB];exact eY.out.2 _ (List.getElem_mem hkc)));rw[show ch.data.toList=cs[k] by rw[hch];rfl] at cZ;clear hb hlt hnc hch;go_wp2_with fail;refine Calls.mono cZ.out ?_;rintro e w5 ⟨hb5,⟨Kr,v5,rfl,L6⟩|⟨Kr,rfl⟩⟩
         ·have HUZ:Hid (nI cs[k]=0):=Kr;have hsp:=rX (nX.1 Kr);have hl5:=(ql hsp.1).1;have Mv:=(show Hid _ from Kq.out.below hb5);have PO:Hid (w5.ownsRow (w.heap.size+3) 67 2 v5 (gF cs[k]).length (bV (gF cs[k]))):=iW L6 Kq.out.tJ;obtain⟨a5,c5,rfl,_,QI,_⟩:=zU L6;obtain⟨n5,Ve⟩:∃ n5,n5=(gF cs[k]).length:=⟨_,rfl⟩;have HIS:=(show Hid _ from zW w5 a5 c5 (gF cs[k]) f s YT.out QI (by omega));obtain⟨ib,hib⟩:∃ ib,ib=lg f s (gF cs[k]):=⟨_,rfl⟩;rw[<-hib,<-Ve] at HIS;rw[<-Ve] at PO hl5 ⊢;have Cj:=(show Hid _ from And.intro hib Ve);have Tt:Hid (iZ f s ss cs k=if gF cs[k] = [] then 5 else if ib=true then 0 else 2):=by
           show _=_;rw[HRW.out,Kr,if_neg (fun h=>h rfl),hib]
          clear y0 y1 y2 y3 y4 y5 y6 hb5 cZ x6 Kr hsp L6 QI hib Ve;obtain⟨y0,y1,y2,y3,y4,y5,y6⟩:=Mv.out.cells;dsimp only
          go_wp2_with fail;refine Calls.mono HIS.out ?_;rintro e w7 ⟨rfl,hw7⟩;have Jo:=hw7;subst Jo;have kJ:=Mv;clear hw7 HIS;dsimp only
          by_cases hz:n5=0
          ·have hnil:gF cs[k] = []:=List.eq_nil_of_length_eq_zero (by rw[<-Cj.out.2];exact hz);have HM:=(show Hid _ from HAT.out 5 (by rw[Tt.out,if_pos hnil]) (by decide));have oU:=(show Hid _ from sw kJ.out.r2 kJ.out.bg 5 k);subst hz;clear hnil;go_wp2;exact HZ.out _ 5 k oU.out HM.out (by decide) _ rfl rfl rfl
          ·have hne:¬ gF cs[k] = []:=fun h=>hz (by rw[Cj.out.2,h];rfl)
           have d7:((n5:Int)==0)=false:=by rw[beq_eq_false_iff_ne];omega
           cases ib with
           | false=>
            have HM:=(show Hid _ from HAT.out 2 (by rw[Tt.out,if_neg hne,if_neg (by decide)]) (by decide));have oU:=(show Hid _ from sw kJ.out.r2 kJ.out.bg 2 k);clear hz hne;go_wp2;exact HZ.out _ 2 k oU.out HM.out (by decide) _ rfl rfl rfl
           | true=>
            have dD:Hid (∀ j,j<k+1->iZ f s ss cs j=0):=fun j hj=>by
             rcases Nat.lt_or_ge j k with h | h
             ·exact kJ.out.ok j h
             ·obtain rfl:j=k:=by omega
              rw[Tt.out,if_neg hne,if_pos rfl]
            have hlk:(ss.take k).length=k:=by rw[List.length_take];omega
            obtain⟨b3,e3,hu1⟩:=bW kJ.out.set.names;obtain⟨b4,e4,hu2⟩:=bW kJ.out.set.row;rw[hlk] at hu1;rw[kJ.out.Cn] at hu2;subst hu1 hu2;have uF:Hid (w7.ownsRow (w.heap.size+3) 9 1 (.slice b3 k e3) k ((ss.take k).map encStr)):=by have:=kJ.out.set.names;rw[hlk] at this;exact this
            have HLK:=(show Hid _ from hlk);obtain⟨iS,hI,hS0,hS1,hS2⟩:=info_parts Tryz.infoStr3;have rE:=(show Hid _ from hI);clear hI;obtain⟨iR,hI,hR0,Ad,hR2⟩:=info_parts Tryz.infoPts3;have HIR:=(show Hid _ from hI);clear hI hz hne hlk;have AU:Hid (∀ w',Below w7.heap.size w7 w'->w'.cell? ⟨w.heap.size+2,0,none⟩=some (.slice b3 k e3)/\w'.cell? ⟨w.heap.size,2,none⟩=some (.slice (some ⟨g1,o1,none⟩) n c1)/\w'.cell? ⟨g1,o1+k,none⟩=some (.string nm)):=fun z hz=>by
             have:=kJ.out.below hz;exact⟨ak this.set.set 0,this.cells.2.2.1,by rw[Kn.out.1];exact hg1 z this.bg⟩
            have hsd:=AU.out w7.drew (cO (Below.refl _ _));clear y0 y1 y2 y3 y4 y5 y6;go_upto_region 25 with fail;refine sH (S:=fun w'=>w'.cell? ⟨w.heap.size+2,0,none⟩=some (.slice b3 k e3)/\w'.cell? ⟨w.heap.size,2,none⟩=some (.slice (some ⟨g1,o1,none⟩) n c1)/\w'.cell? ⟨g1,o1+k,none⟩=some (.string nm)) (by kernel_rfl) 14 hsd (fun hHeld=>?_);clear hsd;refine bq (i:=0) (v:=.pointer (some ⟨w.heap.size+2,0,none⟩)) rfl (by kernel_rfl) (by kernel_rfl) (by kernel_rfl) (by kernel_rfl) (fun _ _ _ h=>h) (Or.inl ⟨by rfl,?_⟩) (fun _=>hHeld) ?_
            ·intro w _;go_simp
            try simp only[Act.put]
            refine bq (i:=1) (v:=.pointer (some ⟨w.heap.size+2,0,none⟩)) rfl (by kernel_rfl) (by kernel_rfl) (by kernel_rfl) (by kernel_rfl) (fun _ _ _ h=>h) (Or.inl ⟨by rfl,?_⟩) (fun _=>hHeld) ?_
            ·intro w _;go_simp
            try simp only[Act.put]
            refine bq (i:=2) (v:=.pointer (some ⟨w.heap.size+2,0,none⟩)) rfl (by kernel_rfl) (by kernel_rfl) (by kernel_rfl) (by kernel_rfl) (fun _ _ _ h=>h) (Or.inl ⟨by rfl,?_⟩) (fun _=>hHeld) ?_
            ·intro w _;go_simp
            try simp only[Act.put]
            refine bq (i:=3) (v:=.pointer (some ⟨w.heap.size+2,0,none⟩)) rfl (by kernel_rfl) (by kernel_rfl) (by kernel_rfl) (by kernel_rfl) (fun _ _ _ h=>h) (Or.inl ⟨by rfl,?_⟩) (fun _=>hHeld) ?_
            ·intro w _;go_simp
            try simp only[Act.put]
            refine fu (i:=4) (v:=.slice b3 k e3) rfl (by kernel_rfl) (by kernel_rfl) (by kernel_rfl) (by kernel_rfl) (by kernel_rfl) (by kernel_rfl) (fun _ _ _ h=>h) (Or.inl ⟨by rfl,?_⟩) hHeld ?_
            ·intro w hSw;obtain⟨Vf,Vg,jh2⟩:=hSw;go_simp
            try simp only[Act.put]
            refine bq (i:=5) (v:=.pointer (some ⟨w.heap.size,2,none⟩)) rfl (by kernel_rfl) (by kernel_rfl) (by kernel_rfl) (by kernel_rfl) (fun _ _ _ h=>h) (Or.inl ⟨by rfl,?_⟩) (fun _=>hHeld) ?_
            ·intro w _;go_simp
            try simp only[Act.put]
            refine fu (i:=6) (v:=.slice (some ⟨g1,o1,none⟩) n c1) rfl (by kernel_rfl) (by kernel_rfl) (by kernel_rfl) (by kernel_rfl) (by kernel_rfl) (by kernel_rfl) (fun _ _ _ h=>h) (Or.inl ⟨by rfl,?_⟩) hHeld ?_
            ·intro w hSw;obtain⟨Vf,Vg,jh2⟩:=hSw;go_simp
            try simp only[Act.put]
            refine bq (i:=7) (v:=.int .i64 (k:Int)) rfl (by kernel_rfl) (by kernel_rfl) (by kernel_rfl) (by kernel_rfl) (fun _ _ _ h=>h) (Or.inl ⟨by rfl,?_⟩) (fun _=>hHeld) ?_
            ·intro w _;go_simp
            try simp only[Act.put]
            refine bq (i:=8) (v:=.pointer (some ⟨g1,o1+k,none⟩)) rfl (by kernel_rfl) (by kernel_rfl) (by kernel_rfl) (by kernel_rfl) (fun _ _ _ h=>h) (Or.inl ⟨by rfl,?_⟩) (fun _=>hHeld) ?_
            ·intro w _;go_simp
            try simp only[Act.put]
            refine fu (i:=9) (v:=.string nm) rfl (by kernel_rfl) (by kernel_rfl) (by kernel_rfl) (by kernel_rfl) (by kernel_rfl) (by kernel_rfl) (fun _ _ _ h=>h) (Or.inl ⟨by rfl,?_⟩) hHeld ?_
            ·intro w hSw;obtain⟨Vf,Vg,jh2⟩:=hSw;go_simp
            try simp only[Act.put]
            refine aR (rs:=[10]) (by kernel_rfl) (by simp) ?_;refine aD.cons rfl (fun K hK=>?_) aD.nil;go_simp
            refine hK.out _ _ (AU.out _ (dz (cO (Below.refl _ _)) _)) ?_;clear hK K;try simp only[Act.put]
            refine aR (rs:=[11]) (by kernel_rfl) (by simp) ?_;refine aD.cons rfl (fun K hK=>?_) aD.nil;refine iH w7 (by rfl) _ _ 23 (by rfl) (w.heap.size+3) 9 iS (.string ⟨#[]⟩) 16 Tryz.underlying23 rE.out hS0 hS1 hS2 (by rfl) (.slice b3 k e3) k ((ss.take k).map encStr) (by rfl) uF.out (dz (cO (Below.refl _ _)) _) _ _ _ _ (by rfl) (by exact heap_alloc_new _ _) (by rfl) (by omega) (by decide) kJ.out.tJ ?_;intro g8 jd w8 iN gV fU;have h8:=kJ.out.set.name (x:=ss[k]) kJ.out.tJ fU (by rw[HLK.out];rw[Kn.out.1] at iN;exact iN) gV;rw[HLK.out] at h8;have q0:w8.cell? ⟨w.heap.size+2,0,none⟩=some (.slice b3 k e3):=ak h8.1 0;have z0:w8.frozen? ⟨w.heap.size+2,0,none⟩=false:=by simp[World.frozen?,h8.1]
            have lY:Below (w.heap.size+2) w7 w8:=h8.2.1.mono (Nat.le_succ _);have nR:=kJ.out.bg.trans (h8.2.1.mono (by omega));have QS:Hid (w.heap.size+3<=w8.heap.size):=Nat.le_trans kJ.out.tJ (Nat.le_trans fU.size gV.size);have YU:Hid (∀ v m ys,w7.ownsRow (w.heap.size+3) 67 2 v m ys->w8.ownsRow (w.heap.size+3) 67 2 v m ys):=fun v m ys hv=>Ms gV (dS uF.out fU) (dS hv fU) (by decide)
            have l9:Hid (w8.cell? ⟨w.heap.size+2,0,none⟩=some (.slice b3 k e3)/\w8.cell? ⟨w.heap.size,2,none⟩=some (.slice (some ⟨g1,o1,none⟩) n c1)/\w8.cell? ⟨g1,o1+k,none⟩=some (.string nm)):=⟨q0,ak ((lY.block _ (by omega)).trans kJ.out.bb) 2,by rw[Kn.out.1];exact hg1 w8 nR⟩;have H8:=(show Hid _ from And.intro h8.2.2 (And.intro lY nR));clear iN gV fU h8 lY nR;refine hK.out _ _ l9.out ?_;clear hK K;try simp only[Act.put]
            refine bq (i:=12) (v:=.pointer (some ⟨w.heap.size+2,0,none⟩)) rfl (by kernel_rfl) (by kernel_rfl) (by kernel_rfl) (by kernel_rfl) (fun _ _ _ h=>h) (Or.inl ⟨by rfl,?_⟩) (fun _=>l9.out) ?_
            ·intro w _;go_simp
            try simp only[Act.put]
            refine bq (i:=13) (v:=.pointer (some ⟨w.heap.size+2,0,none⟩)) rfl (by kernel_rfl) (by kernel_rfl) (by kernel_rfl) (by kernel_rfl) (fun _ _ _ h=>h) (Or.inl ⟨by rfl,?_⟩) (fun _=>l9.out) ?_
            ·intro w _;go_simp
            try simp only[Act.put]
            refine aR (rs:=[14]) (by kernel_rfl) (by simp) ?_;refine aD.last rfl (by kernel_rfl) (fun K hK=>?_) aD.nil;go_simp
            refine hK.out _ _ ?_;clear hK K;refine kI (by kernel_rfl) ?_ _;clear l9 q0 z0 AU;obtain⟨Z8,iY⟩:∃ Z8,Z8=w8.setCell ⟨w.heap.size+2,0,none⟩ (.slice (some ⟨g8,0,none⟩) (k+1) jd):=⟨_,rfl⟩;obtain⟨zu,lY,nR⟩:=H8.out;rw[<-iY] at zu ⊢;have CZ:Below w.heap.size w Z8:=by rw[iY];exact nR.setCell (p:=⟨w.heap.size+2,0,none⟩) (by show w.heap.size<=w.heap.size+2;omega) _
            have C8:w.heap.size+3<=Z8.heap.size:=by rw[iY,World.size_setCell];exact QS.out
            have OA:Below (w.heap.size+2) w7 Z8:=by rw[iY];exact lY.setCell (p:=⟨w.heap.size+2,0,none⟩) (Nat.le_refl _) _
            have acL:Hid (∀ v m ys,w7.ownsRow (w.heap.size+3) 67 2 v m ys->Z8.ownsRow (w.heap.size+3) 67 2 v m ys):=fun v m ys hv=>by rw[iY];exact eP (YU.out v m ys hv) (by omega)
            have yj:=(show Hid _ from zu);have oW:=(show Hid _ from And.intro CZ (And.intro C8 OA));have HOL:Hid ((Z8.alloc (.cells #[.slice a5 n5 c5] 48)).ownsRow (w.heap.size+3) 48 1 (.slice b4 k e4) k ls):=World.ownsRow.alloc (by have:=zu.row;rw[kJ.out.Cn] at this;exact this) _;have wQ:Hid (∀ i z,([.slice a5 n5 c5]:List Value)[i]? = some z->(Z8.alloc (.cells #[.slice a5 n5 c5] 48)).cell? ((⟨Z8.heap.size,0,none⟩:Addr).add i)=some z):=World.news_of_block (heap_alloc_new _ _);have Vh:Hid (∀ z∈([.slice a5 n5 c5]:List Value),z.oneCell'=true):=by
             intro z hz;simp at hz;subst hz;rfl
            have s1:Z8.cell? ⟨w.heap.size+2,1,none⟩=some (.slice b4 k e4):=ak zu.set 1;clear H8 QS YU iY zu lY nR CZ OA;go_wp2_with (at_builtin;refine wpList_append_lies _ rfl _ _ 94 rfl (w.heap.size+3) 48 iR (.slice none 0 0) 1 24 Tryz.underlying94 HIR.out hR0 Ad hR2 rfl (by decide) _ _ _ rfl HOL.out ⟨Z8.heap.size,0,none⟩ 1 1 [.slice a5 n5 c5] rfl rfl wQ.out Vh.out (by omega) (by unfold maxLen;omega) (by omega) (by simp;omega) _ rfl ?_);intro g9 Fp w9 Bu yt Kt _;have G9:oF (Z8.alloc (.cells #[.slice a5 n5 c5] 48)) w9 (.slice b4 k e4) g9:=⟨yt.os,yt.tape,yt.output,yt.size,fun q hq hne=>yt.block q hq (fun e=>hne e.symm),by simpa using Kt⟩;have AV:Below Z8.heap.size Z8 (Z8.alloc (.cells #[.slice a5 n5 c5] 48)):=(Below.refl _ _).alloc (Nat.le_refl _) _;have h9:=yj.out.list (x:=.slice a5 n5 c5) C8 AV (by rw[kJ.out.Cn];exact Bu) G9;rw[kJ.out.Cn] at h9;have q1:w9.cell? ⟨w.heap.size+2,1,none⟩=some (.slice b4 k e4):=ak h9.1 1;have z1:w9.frozen? ⟨w.heap.size+2,1,none⟩=false:=by simp[World.frozen?,h9.1]
            have iD:Hid (zi w (w9.setCell ⟨w.heap.size+2,1,none⟩ (.slice (some ⟨g9,0,none⟩) (k+1) Fp)) f s (some ⟨g1,o1,none⟩) (some ⟨g2,o2,none⟩) n c1 c2 ss cs (k+1) (.slice (some ⟨g8,0,none⟩) (k+1) jd) (.slice (some ⟨g9,0,none⟩) (k+1) Fp) (ls ++ [.slice a5 n5 c5])):=by
             obtain⟨CZ,_,OA⟩:=oW.out;have D6:Below (w.heap.size+2) w7 w9:=OA.trans (h9.2.1.mono (Nat.le_succ _));have hpz:∀ v m ys,w7.ownsRow (w.heap.size+3) 67 2 v m ys->(w9.setCell ⟨w.heap.size+2,1,none⟩ (.slice (some ⟨g9,0,none⟩) (k+1) Fp)).ownsRow (w.heap.size+3) 67 2 v m ys:=fun v m ys hv=>eP (Ms G9 HOL.out (dS (acL.out v m ys hv) AV) (by decide)) (by omega)
             refine⟨dD.out,?_,?_,by rw[List.take_succ_eq_append_getElem hks];exact h9.2.2,by simp[kJ.out.Cn],fun i hi=>?_,(CZ.trans (h9.2.1.mono (by omega))).setCell (p:=⟨w.heap.size+2,1,none⟩) (by show w.heap.size<=w.heap.size+2;omega) _,by rw[World.size_setCell];exact Nat.le_trans C8 (Nat.le_trans AV.size G9.size)⟩
             ·rw[Below.heap_setCell _ _ _ _ (by show w.heap.size≠w.heap.size+2;omega),D6.block _ (by omega)];exact kJ.out.bb
             ·rw[Below.heap_setCell _ _ _ _ (by show w.heap.size+1≠w.heap.size+2;omega),D6.block _ (by omega)];exact kJ.out.r2
             ·rcases Nat.lt_or_ge i k with h | h
              ·obtain⟨v,h1,h2⟩:=kJ.out.pts i h;exact⟨v,by rw[List.getElem?_append_left (by rw[kJ.out.Cn];exact h)];exact h1,hpz _ _ _ h2⟩
              ·obtain rfl:i=k:=by omega
               refine⟨.slice a5 n5 c5,by rw[List.getElem?_append_right (by rw[kJ.out.Cn];exact Nat.le_refl _),kJ.out.Cn];simp,?_⟩;rw[nJ.out,<-Cj.out.2];exact hpz _ _ _ PO.out
            clear Bu yt Kt G9 AV h9;go_wp2;go_roundw;case rel=>exact⟨k+1,_,_,_,by omega,by go_num,iD.out⟩
            case measure=>simp[intOf]<;>omega
         ·have Mv:=(show Hid _ from Kq.out.below hb5);clear y0 y1 y2 y3 y4 y5 y6 hb5 cZ x6;obtain⟨y0,y1,y2,y3,y4,y5,y6⟩:=Mv.out.cells;obtain⟨UC,QU⟩:∃ UC,UC=nI cs[k]:=⟨_,rfl⟩;have hU0:0<=UC:=by rw[QU];exact Ed _
          have vU:Hid (UC≠0):=by rw[QU];exact Kr
          have d5:(UC==0)=false:=by simpa using vU.out
          have d6:decide (0<UC)=true:=decide_eq_true (by have:=vU.out;omega);have HM:=(show Hid _ from HAT.out UC (by rw[HRW.out,<-QU,if_pos vU.out]) vU.out);have oU:=(show Hid _ from sw Mv.out.r2 Mv.out.bg UC k);have HIS:=(show Hid _ from zW w5 none 0 [] f s YT.out (.inl rfl) (by simp));rw[<-QU];clear QU Kr;dsimp only
          go_wp2_with fail;refine Calls.mono HIS.out ?_;rintro e w7 ⟨rfl,hw7⟩;have Jo:=hw7;subst Jo;clear hw7 HIS;dsimp only
          go_wp2;exact HZ.out _ UC k oU.out HM.out vU.out _ rfl rfl rfl
     ·obtain rfl:k=n:=by omega
      have hge:(k:Int)<=(k:Int):=Int.le_refl _;have F4:Hid (iG f s ss cs=0/\lT f s ss cs = -1):=EZ HG.out (by rw[Vd.out,HN.out]) fun j hj=>jY.out.ok j (by have:=HN.out;omega)
      have YW:Hid (∀ z,Calls Tryz.prog 51 #[] z fun e w'=>e = .returned (.agg #[.int .i64 0,.int .i64 (-1)])/\Below z.heap.size z w'):=fun z=>Cv z
      go_wp2_with fail;refine Calls.mono (YW.out _) ?_;rintro e w9 ⟨rfl,D6⟩;have HT9:=(show Hid _ from jY.out.below D6);clear y0 y1 y2 y3 y4 y5 y6 D6;obtain⟨y0,y1,y2,y3,y4,y5,y6⟩:=HT9.out.cells;dsimp only
      go_wp2;refine pO.out w9 _ _ _ HT9.out F4.out.1 _ rfl rfl rfl
   ·have d3:((n:Int)==(m:Int))=false:=by rw[beq_eq_false_iff_ne];omega
    have HM:Hid (iG f s ss cs=3/\lT f s ss cs = -1):=Km.out HG.out (by rw[HN.out,Vd.out];exact fun h=>hnm h.symm);clear Fj Km QN hnm;go_wp2_with fail;refine Calls.mono (ig.out 3 w1) ?_;rintro e w2 ⟨rfl,hb2⟩;obtain⟨hz,p0,p1,p2⟩:=kM.out 3 w2 hb2;have oU:=(show Hid _ from hz);clear hb2 hz;dsimp only
    go_wp2;exact HZ.out _ 3 (-1) oU.out HM.out (by decide) _ rfl rfl rfl
 ·have HM:Hid (iG f s ss cs=2/\lT f s ss cs = -1):=Fj.out (.inl (by rw[<-QM.out];decide));clear Fj Km;go_wp2_with fail;refine Calls.mono (ig.out 2 w1) ?_;rintro e w2 ⟨rfl,hb2⟩;obtain⟨hz,p0,p1,p2⟩:=kM.out 2 w2 hb2;have oU:=(show Hid _ from hz);clear hb2 hz;dsimp only
  go_wp2;exact HZ.out _ 2 (-1) oU.out HM.out (by decide) _ rfl rfl rfl
theorem Ls (w:World) (f s:Int) (b1 b2:Nat) (v1 v2:Value) (ss cs:List (List UInt8)) (h1:w.ownsRow b1 9 1 v1 ss.length (ss.map encStr)) (h2:w.ownsRow b2 9 1 v2 cs.length (cs.map encStr)) (hss:∀ x,x∈ss->x.length<=100000) (hcs:∀ x,x∈cs->x.length<=10000) (hn:ss.length<=100000) (hm:cs.length<=100000) :
  Calls Tryz.prog 19 #[.agg #[.int .i64 f,.int .i64 s,v1,v2]] w fun e w'=>Im w w' f s ss cs e:=by
 obtain⟨a1,c1,rfl,p1⟩:=Mk h1;obtain⟨a2,c2,rfl,p2⟩:=Mk h2;exact QL w f s a1 a2 c1 c2 ss cs p1 p2 hss hcs hn hm
end Go.Proofs.YtcemkhalbjhdkaaGreatDoor
