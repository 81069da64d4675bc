import Derived.Test.YtalliohkalnaeaaGreatDoorRegStoreGroup
import Derived.Deep.RegionLaw
import Derived.Deep.AppendLies
import Derived.Test.YtalliohkalnaeaaGreatDoorRowsDef
import Derived.Test.YtalliohkalnaeaaGreatDoorRowsAtGroup
import Derived.Test.YtalliohkalnaeaaGreatDoorPtMergeGroup
import Derived.Test.YtalliohkalnaeaaGreatDoorBlkChkGroup
import Derived.Deep.RegionHeld3
import Derived.Test.YtalliohkalnaeaaGreatDoorIsPackedGroup
import Derived.Test.YtalliohkalnaeaaGreatDoorCMergeGroup
import Derived.Test.YtalliohkalnaeaaGreatDoorPtListGroup
namespace Go.Proofs.YtalliohkalnaeaaGreatDoor
open Go.RowKit aZ
theorem U6 (w:World) (a b:Option Addr) (ca cb:Nat) (l:List (Int×Nat)) (ha:kD w a l) (hb:kD w b l) (hin:mO l) (hn:l.length<=1000) :
  Calls Tryz.prog 17 #[.slice a l.length ca,.slice b l.length cb] w fun e w'=>e = .returned (.bool true)/\Below w.heap.size w w':=by
 refine (NI w a b l.length ca cb (iI l) (qg l) (yD ha hin) (yD hb hin) (by omega)).mono ?_;rintro e w' ⟨rfl,q,rfl⟩;exact⟨rfl,below_drewN (Below.refl _ _) q⟩
end Go.Proofs.YtalliohkalnaeaaGreatDoor
namespace Go.Proofs.YtalliohkalnaeaaGreatDoor
open Go.RowKit Go.Maps aZ
theorem Um {ss:List (List UInt8)} {k:Nat} (hk:k<ss.length):prev ss (k+1)=ss[k]:=by
 simp[prev,List.getD_eq_getElem?_getD,hk]
end Go.Proofs.YtalliohkalnaeaaGreatDoor
set_option maxRecDepth 1000000
set_option maxHeartbeats 8000000
namespace Go.Proofs.YtalliohkalnaeaaGreatDoor
open Go.RowKit Go.Maps aZ
structure xC (Y z:World) (v:Value) (g:Nat):Prop where
 os:z.os=Y.os
 tape:z.tape=Y.tape
 output:z.output=Y.output
 size:Y.heap.size<=z.heap.size
 blk:∀ q,q<Y.heap.size->v.ownBlock≠some q->z.heap[q]? = Y.heap[q]?
 at':v.ownBlock=some g\/g=Y.heap.size
theorem xC.below {Y z:World} {v:Value} {g b:Nat} (h:xC Y z v g) (hb:b<=Y.heap.size) (hv:∀ q,v.ownBlock=some q->b<=q):Below b Y z:=
 ⟨h.os,h.tape,h.output,h.size,fun q hq=>h.blk q (by omega) (fun e=>by have:=hv q e;omega)⟩
theorem XE {w:World} {b:Nat} {v:Value} {t:TypeId} {fr:Nat×Nat} (h:w.heap[b]? = some (.cells #[v] t fr)):∀ j u,[v][j]? = some u->w.cell? ((⟨b,0,none⟩:Addr).add j)=some u:=World.news_of_block h
theorem Gz (w:World) (o p:Obj):((w.alloc o).alloc p).heap[w.heap.size]? = some o:=by rw[Below.heap_alloc _ _ _ (by simp)];exact heap_alloc_new _ _
theorem GA (w:World) (o p:Obj):((w.alloc o).alloc p).heap[w.heap.size+1]? = some p:=by have:=heap_alloc_new (w.alloc o) p;simpa using this
theorem U7 {P:Program} {Y:World} {ops:Array Oper} {o:Oper} {a:Act} {K:Act->World->Prop} {Q:Exit->Act->World->Prop} {E:Prop} (hgd:o.guard=none) (s x:Operand) (t:TypeId)
  (ho:o.op = .call { callee:=.builtin .append,args:=#[s,x],argTypes:=#[t,t] }) (base:Nat) (e:TypeId) (i:TypeInfo) (z:Value) (bytes:Nat) (ht:P.underlying t=some (.slice e)) (hi:P.info? e=some i) (hz:i.zero=some z) (hsize:i.size=1) (hby:i.bytes=bytes) (hzs:z.cells.size=1)
  (v:Value) (n:Nat) (xs:List Value) (hs:a.eval s=v) (hown:Y.ownsRow base e 1 v n xs) (b:Nat) (u:Value) (t':TypeId) (fr:Nat×Nat) (hx:a.eval x = .slice (some ⟨b,0,none⟩) 1 1) (hnew:Y.heap[b]? = some (.cells #[u] t' fr)) (h1:u.oneCell'=true) (hn:n<=1000000) (hb:bytes<=100) (hbase:base<=Y.heap.size)
  (h:∀ g cap w',w'.ownsRow base e 1 (.slice (some ⟨g,0,none⟩) (n+1) cap) (n+1) (xs ++ [u])->xC Y w' v g->K (a.put o.dst (.slice (some ⟨g,0,none⟩) (n+1) cap)) w') :
  if Region.wanted o (yielded ops a.tmps)=true then Oper.wp P o a Y K Q else E:=by
 refine step_append_lies _ hgd s x t ho base e i z 1 bytes ht hi hz hsize hby hzs (by decide) v n xs hs hown ⟨b,0,none⟩ 1 1 [u] hx rfl (XE hnew) (fun c hc=>by simp at hc;subst hc;exact h1) (by omega) (by unfold maxLen;omega) ?_ hbase _ rfl ?_
 ·have:(n+1)*bytes<=1000001*100:=Nat.mul_le_mul (by omega) hb;omega
 ·intro g cap w' ho' hg hat _;exact h g cap w' ho' ⟨hg.os,hg.tape,hg.output,hg.size,fun q hq hne=>hg.block q hq (fun e=>hne e.symm),hat⟩
theorem dW {w z:World} (h:Below w.heap.size w z) (o:Obj):Below w.heap.size w (z.alloc o):=h.alloc h.size o
theorem iC {w z:World} (h:Below w.heap.size w z):Below w.heap.size w z.drew:=h.trans ⟨rfl,rfl,rfl,Nat.le_refl _,fun _ _=>rfl⟩
theorem bT {w z:World} {base:Nat} {e:TypeId} {sz:Nat} {v:Value} {n:Nat} {xs:List Value} (h:w.ownsRow base e sz v n xs) (hb:Below w.heap.size w z):z.ownsRow base e sz v n xs:=bL h fun g hg=>hb.block g (aJ h hg).2.1
theorem qK {P:Program} {Y:World} {ops:Array Oper} {o:Oper} {a:Act} {K:Act->World->Prop} {Q:Exit->Act->World->Prop} {E:Prop} (w2:World) (hgd:o.guard=none) (s x:Operand) (t:TypeId)
  (ho:o.op = .call { callee:=.builtin .append,args:=#[s,x],argTypes:=#[t,t] }) (base:Nat) (e:TypeId) (i:TypeInfo) (z:Value) (bytes:Nat) (ht:P.underlying t=some (.slice e)) (hi:P.info? e=some i) (hz:i.zero=some z) (hsize:i.size=1) (hby:i.bytes=bytes) (hzs:z.cells.size=1)
  (v:Value) (n:Nat) (xs:List Value) (hs:a.eval s=v) (hown:w2.ownsRow base e 1 v n xs) (hY:Below w2.heap.size w2 Y) (b:Nat) (u:Value) (t':TypeId) (fr:Nat×Nat) (hx:a.eval x = .slice (some ⟨b,0,none⟩) 1 1) (hnew:Y.heap[b]? = some (.cells #[u] t' fr)) (h1:u.oneCell'=true) (hn:n<=1000000) (hb:bytes<=100) (hbase:base<=w2.heap.size)
  (h:∀ g cap w',w'.ownsRow base e 1 (.slice (some ⟨g,0,none⟩) (n+1) cap) (n+1) (xs ++ [u])->xC Y w' v g->Below w2.heap.size w2 Y->K (a.put o.dst (.slice (some ⟨g,0,none⟩) (n+1) cap)) w') :
  if Region.wanted o (yielded ops a.tmps)=true then Oper.wp P o a Y K Q else E:=
 U7 hgd s x t ho base e i z bytes ht hi hz hsize hby hzs v n xs hs (bT hown hY) b u t' fr hx hnew h1 hn hb (Nat.le_trans hbase hY.size) fun g cap w' h1 h2=>h g cap w' h1 h2 hY
theorem Tryz.infoStr3:(Tryz.prog.info? 9).map (fun i=>(i.zero,i.size,i.bytes))=some (some (.string ⟨#[]⟩),1,16):=by kernel_rfl
structure rW (wr:World) (base tb:Nat) (f s:Int) (u1 u2:Value) (ss cs:List (List UInt8)):Prop where
 blk:wr.heap[tb]? = some (.cells #[.int .i64 f,.int .i64 s,u1,u2] 90 (0,0))
 low:tb<base
 yK:wr.ownsRow base 9 1 u1 ss.length (ss.map encStr)
 Ay:wr.ownsRow base 9 1 u2 cs.length (cs.map encStr)
 apart:∀ g,u1.ownBlock=some g->u2.ownBlock≠some g
theorem rW.below {wr z:World} {base tb:Nat} {f s:Int} {u1 u2:Value} {ss cs:List (List UInt8)} (h:rW wr base tb f s u1 u2 ss cs) (hb:Below wr.heap.size wr z):rW z base tb f s u1 u2 ss cs:=
 ⟨(hb.block _ (aI h.blk)).trans h.blk,h.low,bL h.yK fun g hg=>hb.block g (aJ h.yK hg).2.1,bL h.Ay fun g hg=>hb.block g (aJ h.Ay hg).2.1,h.apart⟩
theorem rW.more {w2 Y1 w7 Y2 w8:World} {base tb:Nat} {f s:Int} {u1 u2:Value} {ss cs:List (List UInt8)} (h:rW w2 base tb f s u1 u2 ss cs) {x y:List UInt8} {g7 gD g8 qB:Nat} (hbase:base<=w2.heap.size) (h1:Below w2.heap.size w2 Y1) (o7:w7.ownsRow base 9 1 (.slice (some ⟨g7,0,none⟩) (ss.length+1) gD) (ss.length+1) (ss.map encStr ++ [.string ⟨x.toArray⟩])) (G7:xC Y1 w7 u1 g7) (h2:Below w7.heap.size w7 Y2)
  (o8:w8.ownsRow base 9 1 (.slice (some ⟨g8,0,none⟩) (cs.length+1) qB) (cs.length+1) (cs.map encStr ++ [.string ⟨y.toArray⟩])) (G8:xC Y2 w8 u2 g8) :
  rW ((w8.setCell ⟨tb,2,none⟩ (.slice (some ⟨g7,0,none⟩) (ss.length+1) gD)).setCell ⟨tb,3,none⟩ (.slice (some ⟨g8,0,none⟩) (cs.length+1) qB)) base tb f s (.slice (some ⟨g7,0,none⟩) (ss.length+1) gD) (.slice (some ⟨g8,0,none⟩) (cs.length+1) qB) (ss ++ [x]) (cs ++ [y])/\w8.heap[tb]? = some (.cells #[.int .i64 f,.int .i64 s,u1,u2] 90 (0,0))/\Below base w2 w8:=by
 have hlow:=h.low;have l1:∀ q,u1.ownBlock=some q->base<=q/\q<w2.heap.size:=fun q hq=>⟨(aJ h.yK hq).1,(aJ h.yK hq).2.1⟩
 have l2:∀ q,u2.ownBlock=some q->base<=q/\q<w2.heap.size:=fun q hq=>⟨(aJ h.Ay hq).1,(aJ h.Ay hq).2.1⟩
 have s1:=h1.size;have s2:=h2.size;have s7:=G7.size;have b1:Below base w2 w7:=(h1.mono hbase).trans (G7.below (by omega) fun q hq=>(l1 q hq).1);have b2:Below base w2 w8:=(b1.trans (h2.mono (by omega))).trans (G8.below (by omega) fun q hq=>(l2 q hq).1);have ht:w8.heap[tb]? = some (.cells #[.int .i64 f,.int .i64 s,u1,u2] 90 (0,0)):=(b2.block tb hlow).trans h.blk;have hg7:g7<w7.heap.size:=(aJ (g:=g7) o7 rfl).2.1;have adk:u2.ownBlock≠some g7:=by
  rcases G7.at' with e | e
  ·exact h.apart g7 e
  ·intro e2;have:=(l2 g7 e2).2;omega
 have o7':w8.ownsRow base 9 1 (.slice (some ⟨g7,0,none⟩) (ss.length+1) gD) (ss.length+1) (ss.map encStr ++ [.string ⟨x.toArray⟩]):=bL o7 fun g hg=>by
  simp[Value.ownBlock] at hg;subst hg;exact (G8.blk g7 (by omega) adk).trans (h2.block g7 hg7)
 have akp:g7≠g8:=by
  rcases G8.at' with e | e
  ·intro e2;subst e2;exact adk e
  ·omega
 have hset:∀ {v:Value} {n:Nat} {xs:List Value} {z:World} (k:Nat) (u:Value),z.ownsRow base 9 1 v n xs->(z.setCell ⟨tb,k,none⟩ u).ownsRow base 9 1 v n xs:=fun k u ho=>bL ho fun g hg=>by
  have:=(aJ ho hg).1;exact Below.heap_setCell _ _ _ _ (by show g≠tb;omega)
 refine⟨⟨?_,hlow,?_,?_,fun g e1 e2=>?_⟩,ht,b2⟩
 ·have e1:=dP ht 2 (.slice (some ⟨g7,0,none⟩) (ss.length+1) gD);have e2:=dP (e1.trans (by rfl)) 3 (.slice (some ⟨g8,0,none⟩) (cs.length+1) qB);exact e2.trans (by rfl)
 ·have:=hset 3 (.slice (some ⟨g8,0,none⟩) (cs.length+1) qB) (hset 2 (.slice (some ⟨g7,0,none⟩) (ss.length+1) gD) o7');simpa [encStr] using this
 ·have:=hset 3 (.slice (some ⟨g8,0,none⟩) (cs.length+1) qB) (hset 2 (.slice (some ⟨g7,0,none⟩) (ss.length+1) gD) o8);simpa [encStr] using this
 ·simp[Value.ownBlock] at e1 e2;omega
theorem rW.mid {w2 Y1 w7:World} {base tb:Nat} {f s:Int} {u1 u2:Value} {ss cs:List (List UInt8)} (h:rW w2 base tb f s u1 u2 ss cs) {g7:Nat} (hbase:base<=w2.heap.size) (h1:Below w2.heap.size w2 Y1) (G7:xC Y1 w7 u1 g7) :
  w7.heap[tb]? = some (.cells #[.int .i64 f,.int .i64 s,u1,u2] 90 (0,0))/\w7.ownsRow base 9 1 u2 cs.length (cs.map encStr)/\base<=w7.heap.size/\w2.heap.size<=w7.heap.size/\∀ q o,w2.heap.size<=q->Y1.heap[q]? = some o->w7.heap[q]? = some o:=by
 have hlow:=h.low;have s1:=h1.size;have s7:=G7.size;refine⟨?_,bL h.Ay fun g hg=>?_,by omega,by omega,fun q o hq ho=>?_⟩
 ·rw[G7.blk tb (by omega) (fun e=>by have:=(aJ h.yK e).1;omega),h1.block tb (by omega)];exact h.blk
 ·have:=(aJ h.Ay hg).2.1;rw[G7.blk g (by omega) (fun e=>h.apart g e hg),h1.block g this]
 ·rw[G7.blk q (aI ho) (fun e=>by have:=(aJ h.yK e).2.1;omega)];exact ho
theorem rW.last {w2 Y1 w7 Y2 w8:World} {base tb:Nat} {f s:Int} {u1 u2:Value} {ss cs:List (List UInt8)} (h:rW w2 base tb f s u1 u2 ss cs) {g7 g8:Nat} (hbase:base<=w2.heap.size) (h1:Below w2.heap.size w2 Y1) (G7:xC Y1 w7 u1 g7) (h2:Below w7.heap.size w7 Y2) (G8:xC Y2 w8 u2 g8) :
  w8.heap[tb]? = some (.cells #[.int .i64 f,.int .i64 s,u1,u2] 90 (0,0)):=by
 have hm:=h.mid hbase h1 G7;have hlow:=h.low;have s2:=h2.size;have s7:=hm.2.2.1;rw[G8.blk tb (by omega) (fun e=>by have:=(aJ h.Ay e).1;omega),h2.block tb (by omega)];exact hm.1
theorem xC.other {Y z:World} {v:Value} {g:Nat} (G:xC Y z v g) {base n:Nat} {e:TypeId} {xs:List Value} (ho:Y.ownsRow base e 1 v n xs) {b:Nat} {cs:Array Value} {t:TypeId} {fr:Nat×Nat} (hb:Y.heap[b]? = some (.cells cs t fr)) (hne:e≠t):z.heap[b]? = some (.cells cs t fr):=by
 rw[G.blk b (aI hb) (fun e1=>by obtain⟨_,_,cur,hc⟩:=aJ ho e1;exact iK hc hb hne rfl)];exact hb
theorem rW.other {w2 Y1 w7:World} {base tb:Nat} {f s:Int} {u1 u2:Value} {ss cs:List (List UInt8)} (h:rW w2 base tb f s u1 u2 ss cs) {g7:Nat} (h1:Below w2.heap.size w2 Y1) (G7:xC Y1 w7 u1 g7) {b:Nat} {c:Array Value} {t:TypeId} {fr:Nat×Nat} (hb:w2.heap[b]? = some (.cells c t fr)) (hne:9≠t):w7.heap[b]? = some (.cells c t fr):=
 G7.other (bT h.yK h1) ((h1.block b (aI hb)).trans hb) hne
end Go.Proofs.YtalliohkalnaeaaGreatDoor
namespace Go.Proofs.YtalliohkalnaeaaGreatDoor
open Go.RowKit Go.Maps aZ
theorem Fh {w:World} {base base':Nat} {v:Value} {xs:List Value} {rows:List (List UInt8×List (Int×Nat))} (h:w.ownsRow base 58 2 v rows.length xs) (hr:fV w base' xs rows):∃ a c,v = .slice a rows.length c/\qj w a rows:=by
 obtain⟨_,h2⟩:=h;rcases h2 with⟨hv,h0⟩|⟨g,cap,cur,hv,hg,hh,h1,h2,h3,h4⟩
 ·exact⟨none,0,by rw[hv,h0],.inl (List.eq_nil_of_length_eq_zero h0)⟩
 ·refine⟨_,_,hv,.inr ⟨g,0,rfl,fun k hk=>?_⟩⟩;have hc:∀ j,j<rows.length*2->w.cell? ⟨g,j,none⟩=xs[j]?:=by
   intro j hj;have e0:w.cell? ⟨g,j,none⟩=cur[j]?:=by simp[World.cell?,hh]
   rw[e0,<-Array.getElem?_toList,<-h4,List.getElem?_take_of_lt hj]
  obtain⟨p0,s,p1,ho⟩:=hr.at k hk;obtain⟨a,c,rfl,_,hp,_⟩:=iq ho;refine⟨?_,a,c,?_,hp⟩
  ·rw[Nat.zero_add,hc _ (by omega)];exact p0
  ·rw[Nat.zero_add,hc _ (by omega)];exact p1
def aal (ea:Nat->Addr) (w w':World) (f s:Int) (rows:List (List UInt8×List (Int×Nat))) (e:Ending):Prop:=
 ∃ v,Below w.heap.size w w'/\aY ea w' v (mF f s rows) (BX f s rows) /\
  ((mF f s rows=0/\∃ u1 u2,e = .returned (.tuple #[.agg #[.int .i64 f,.int .i64 s,u1,u2],v])/\w'.ownsRow w.heap.size 9 1 u1 (full rows).length (((full rows).map Prod.fst).map encStr)/\w'.ownsRow w.heap.size 9 1 u2 (full rows).length (((full rows).map fun r=>iJ r.2).map encStr)) \/
   (mF f s rows≠0/\e = .returned (.tuple #[.agg #[.int .i64 0,.int .i64 0,.slice none 0 0,.slice none 0 0],v])))
structure zo (w wr:World) (tb:Nat) (f s:Int) (rows:List (List UInt8×List (Int×Nat))) (k:Nat) (v10 u1 u2:Value):Prop where
 le:k<=rows.length
 ah:v10 = .string ⟨(prev (rows.map Prod.fst) k).toArray⟩
 ok:∀ j,j<k->rowAt f s rows j=0
 res:wr.heap[w.heap.size]? = some (.cells #[.int .i64 0,.int .i64 0,.slice none 0 0,.slice none 0 0] 90 (0,0))
 two:rW wr (tb+1) tb f s u1 u2 ((full (rows.take k)).map Prod.fst) ((full (rows.take k)).map fun r=>iJ r.2)
 aM:Below w.heap.size w wr
 siz:tb+1<=wr.heap.size
theorem Ii {z:World} {b:Nat} {p0 p1 p2 p3:Value} {t:TypeId} (h:z.heap[b]? = some (.cells #[p0,p1,p2,p3] t (0,0))) (v0 v1 v2 v3:Value):((((z.setCell ⟨b,0,none⟩ v0).setCell ⟨b,1,none⟩ v1).setCell ⟨b,2,none⟩ v2).setCell ⟨b,3,none⟩ v3).heap[b]? = some (.cells #[v0,v1,v2,v3] t (0,0)):=by
 have e1:=(dP h 0 v0).trans (show _=some (Obj.cells #[v0,p1,p2,p3] t (0,0)) by rfl);have e2:=(dP e1 1 v1).trans (show _=some (Obj.cells #[v0,v1,p2,p3] t (0,0)) by rfl);have e3:=(dP e2 2 v2).trans (show _=some (Obj.cells #[v0,v1,v2,p3] t (0,0)) by rfl);exact (dP e3 3 v3).trans (by rfl)
theorem vT {B:Nat} {w z:World} {b:Nat} (h:Below B w z) (hb:B<=b) (v0 v1 v2 v3:Value):Below B w ((((z.setCell ⟨b,0,none⟩ v0).setCell ⟨b,1,none⟩ v1).setCell ⟨b,2,none⟩ v2).setCell ⟨b,3,none⟩ v3):=
 (((h.setCell hb v0).setCell hb v1).setCell hb v2).setCell hb v3
theorem Az {z:World} {base:Nat} {e t:TypeId} {sz:Nat} {v:Value} {n:Nat} {xs:List Value} {b:Nat} {cs:Array Value} {fr:Nat×Nat} (h:z.ownsRow base e sz v n xs) (hb:z.heap[b]? = some (.cells cs t fr)) (hne:e≠t) (v0 v1 v2 v3:Value):((((z.setCell ⟨b,0,none⟩ v0).setCell ⟨b,1,none⟩ v1).setCell ⟨b,2,none⟩ v2).setCell ⟨b,3,none⟩ v3).ownsRow base e sz v n xs:=
 bL h fun g hg=>by
  obtain⟨_,_,cur,hc⟩:=aJ h hg;have hgb:g≠b:=iK hc hb hne;rw[Below.heap_setCell _ _ _ _ hgb,Below.heap_setCell _ _ _ _ hgb,Below.heap_setCell _ _ _ _ hgb,Below.heap_setCell _ _ _ _ hgb]
theorem vW (x:ByteArray):(⟨x.data.toList.toArray⟩:ByteArray)=x:=by cases x;simp
theorem Ru {B:Nat} {ea:Nat->Addr} (w:World) (E:qA B ea w) (hB:B<=w.heap.size) (f s:Int) (la:Option Addr) (c:Nat) (rows:List (List UInt8×List (Int×Nat))) (hP:qj w la rows) (hin:∀ r,r∈rows->mO r.2/\r.1.length<=1000/\r.2.length<=1000) (hn:rows.length<=1000) :
  Calls Tryz.prog 62 #[.int .i64 f,.int .i64 s,.slice la rows.length c] w fun e w'=>aal ea w w' f s rows e:=by
 obtain⟨W,hW⟩:∃ W,W=w.alloc (.cells #[.int .i64 0,.int .i64 0,.slice none 0 0,.slice none 0 0] 90):=⟨_,rfl⟩;have hbW:Below w.heap.size w W:=by rw[hW];exact (Below.refl _ _).alloc (Nat.le_refl _) _
 have hx:W.heap[w.heap.size]? = some (.cells #[.int .i64 0,.int .i64 0,.slice none 0 0,.slice none 0 0] 90 (0,0)):=by rw[hW];exact heap_alloc_new _ _
 have hWs:W.heap.size=w.heap.size+1:=by rw[hW];simp
 have HW:=(show Hid _ from hW);have cK:=(show Hid _ from hbW);have HE:=(show Hid _ from E);have YF:=(show Hid _ from hWs);have HX:=(show Hid _ from hx);have HP:Hid (qj w la rows):=hP;have pE:Hid (∀ r,r∈rows->mO r.2/\r.1.length<=1000/\r.2.length<=1000):=hin;have kb:=(E.below hbW hB).zl.c1;clear hW hbW hx E hP hin hWs;obtain⟨n,hnn⟩:∃ n,n=rows.length:=⟨_,rfl⟩;have HN:=(show Hid _ from hnn.symm);rw[<-hnn] at hn ⊢;clear hnn;go_enter Tryz.func62,Tryz.ntmps62;go_upto_region 1 with fail;rw[<-HW.out];by_cases hbad:wK f s≠0\/60<n
 ·have kG:=(show Hid _ from Mq W f s n (by omega) hbad (ea 1) kb);obtain⟨hC,hA⟩:=Wt (f:=f) (s:=s) (rows:=rows) (by rw[HN.out];exact hbad);have HC:=(show Hid _ from And.intro hC hA);have p0:W.cell? ⟨w.heap.size,0,none⟩=some (.int .i64 0):=ak HX.out 0;have p1:W.cell? ⟨w.heap.size,1,none⟩=some (.int .i64 0):=ak HX.out 1;have p2:W.cell? ⟨w.heap.size,2,none⟩=some (.slice none 0 0):=ak HX.out 2;have p3:W.cell? ⟨w.heap.size,3,none⟩=some (.slice none 0 0):=ak HX.out 3;have pf:∀ k,W.frozen? ⟨w.heap.size,k,none⟩=false:=fun k=>by simp[World.frozen?,HX.out]
  clear hC hA hbad;go_wp2_with fail;refine Calls.mono kG.out ?_;rintro e w1 ⟨rfl,hw1⟩;have bF:=hw1;subst bF;go_wp2;obtain⟨Z,hZ⟩:∃ Z,Z=((((w1.setCell ⟨w.heap.size,0,none⟩ (.int .i64 0)).setCell ⟨w.heap.size,1,none⟩ (.int .i64 0)).setCell ⟨w.heap.size,2,none⟩ (.slice none 0 0)).setCell ⟨w.heap.size,3,none⟩ (.slice none 0 0)):=⟨_,rfl⟩;rw[<-hZ];have qI:Z.heap[w.heap.size]? = some (.cells #[.int .i64 0,.int .i64 0,.slice none 0 0,.slice none 0 0] 90 (0,0)):=by rw[hZ];exact Ii HX.out _ _ _ _
  have hzb:Below w.heap.size w Z:=by rw[hZ];exact vT cK.out (Nat.le_refl _) _ _ _ _
  have z0:Z.cell? ⟨w.heap.size,0,none⟩=some (.int .i64 0):=ak qI 0;have z1:Z.cell? ⟨w.heap.size,1,none⟩=some (.int .i64 0):=ak qI 1;have z2:Z.cell? ⟨w.heap.size,2,none⟩=some (.slice none 0 0):=ak qI 2;have z3:Z.cell? ⟨w.heap.size,3,none⟩=some (.slice none 0 0):=ak qI 3;clear hZ qI;refine bodyPost_ret (v:=.tuple #[.agg #[.int .i64 0,.int .i64 0,.slice none 0 0,.slice none 0 0],.iface 359 (.pointer (some (ea 1)))]) (by simp[results,Tryz.results62,go_sem,z0,z1,z2,z3]) rfl ?_;exact⟨_,hzb,by rw[HC.out.1,HC.out.2];exact aY.es 1 (by decide) (by decide),.inr ⟨fun h=>absurd (HC.out.1.symm.trans h) (by decide),rfl⟩⟩
 ·have YO:=(show Hid _ from hbad);have hbd:wK f s=0:=Decidable.not_not.1 fun h=>hbad (.inl h)
  have ahQ:n<=60:=by
   rcases Nat.lt_or_ge 60 n with h | h
   ·exact absurd (.inr h) hbad
   ·exact h
  have kG:=(show Hid _ from Oi W f s n hbd ahQ);clear hbad;go_wp2_with fail;refine Calls.mono kG.out ?_;rintro e w1 ⟨rfl,hw1⟩;have bF:=hw1;subst bF;clear kG kb;obtain⟨W2,hW2⟩:∃ W2,W2=w1.alloc (.cells #[.int .i64 f,.int .i64 s,.slice none 0 0,.slice none 0 0] 90):=⟨_,rfl⟩;have HW2:Hid (∀ wx,wx=w1.alloc (.cells #[.int .i64 f,.int .i64 s,.slice none 0 0,.slice none 0 0] 90)->wx=W2):=fun wx h=>h.trans hW2.symm
  obtain⟨tb,htb⟩:∃ tb,tb=w1.heap.size:=⟨_,rfl⟩;have h0:zo w W2 tb f s rows 0 (.string ⟨#[]⟩) (.slice none 0 0) (.slice none 0 0):=by
   refine⟨Nat.zero_le _,rfl,fun j h=>absurd h (Nat.not_lt_zero _),?_,⟨?_,Nat.lt_succ_self _,⟨rfl,.inl ⟨rfl,by simp[full]⟩⟩,⟨rfl,.inl ⟨rfl,by simp[full]⟩⟩,fun g e=>by simp[Value.ownBlock] at e⟩,?_,?_⟩
   ·rw[hW2,heap_alloc_old _ _ (aI HX.out)];exact HX.out
   ·rw[hW2,htb];exact heap_alloc_new _ _
   ·rw[hW2];exact cK.out.alloc cK.out.size _
   ·rw[hW2,htb];simp
  have Uh:=(show Hid _ from h0);have htw:w.heap.size<tb:=by have:=YF.out;omega
  clear h0 hW2;go_wp2_with fail;rw[HW2.out _ rfl,<-htb];clear htb HW2 HX cK HW YF;go_loopw [10,29] (fun v10 i wr=>∃ (k:Nat) (u1 u2:Value),i = .int .i64 (k:Int)/\zo w wr tb f s rows k v10 u1 u2) (fun _ i _=>n-(intOf i).toNat);case atStart=>exact⟨0,_,_,rfl,Uh.out⟩
  case round=>
   obtain⟨k,u1,u2,rfl,hm⟩:=hrel;have HM:=(show Hid _ from hm);have hah:=hm.ah;obtain⟨a1,c1,rfl⟩:=bO hm.two.yK;obtain⟨a2,c2,rfl⟩:=bO hm.two.Ay;have hsz:=hm.siz;have hbel:=hm.aM.size;subst hah;clear hm Uh;by_cases hkn:k<n
   ·have hkr:k<rows.length:=by rw[HN.out];exact hkn
    rcases HP.out with h0 | ⟨b,o,rfl,hcs⟩
    ·rw[h0] at hkr;exact absurd hkr (Nat.not_lt_zero _)
    obtain⟨e1,A,C,e2,hpt⟩:=hcs k hkr;have hbl:b<w.heap.size:=World.block_lt_of_cell? w ⟨b,_,none⟩ e1;obtain⟨adl,hl1,hl2⟩:=pE.out _ (List.getElem_mem hkr);obtain⟨nm,hnm⟩:∃ nm:ByteArray,nm=⟨(rows[k].1).toArray⟩:=⟨_,rfl⟩;obtain⟨ah,hah⟩:∃ ah:ByteArray,ah=⟨(prev (rows.map Prod.fst) k).toArray⟩:=⟨_,rfl⟩;rw[<-hah];have q1:wr.cell? ⟨b,o+k*2,none⟩=some (.string nm):=by rw[hnm];exact (HM.out.aM.cell (p:=⟨b,_,none⟩) hbl).trans e1
    have q2:wr.cell? ⟨b,o+k*2+1,none⟩=some (.slice A rows[k].2.length C):=(HM.out.aM.cell (p:=⟨b,_,none⟩) hbl).trans e2;have k0:(0:Int)<=(k:Int):=by omega
    have k1:(k:Int)<(n:Int):=by omega
    obtain⟨nk,hnk⟩:∃ nk,nk=rows[k].2.length:=⟨_,rfl⟩;have hsA:rowAt f s rows k=oW f s ah.data.toList nm.data.toList rows[k].2:=by
     unfold rowAt;rw[hah,hnm,(za hkr).1,(za hkr).2]
    have Rv:=fun (WA:World) (hb:Below w.heap.size w WA)=>Mt WA (HE.out.below hb hB) (Nat.le_trans hB hb.size) a1 a2 A ((full (rows.take k)).map Prod.fst).length c1 ((full (rows.take k)).map fun r=>iJ r.2).length c2 C f s hbd nm ah (Nat.le_trans (m:=1000) (by rw[hnm];simpa [ByteArray.size] using hl1) (by decide)) rows[k].2 (hpt.below hb) adl hl2
    rw[<-hnk] at q2 Rv;rw[<-hsA] at Rv;have CP:=(show Hid _ from And.intro hnm hah);have Yo:=(show Hid _ from hnk);have kM:=(show Hid _ from Rv);obtain⟨WA,Zb⟩:∃ WA,WA=wr.alloc (.cells #[.string nm,.slice A nk C] 58):=⟨_,rfl⟩;have tY:Below wr.heap.size wr WA:=by rw[Zb];exact (Below.refl _ _).alloc (Nat.le_refl _) _
    have hra:WA.heap[wr.heap.size]? = some (.cells #[.string nm,.slice A nk C] 58 (0,0)):=by rw[Zb];exact heap_alloc_new _ _
    have gU:=HM.out.two.below tY;have x0:WA.cell? ⟨tb,0,none⟩=some (.int .i64 f):=ak gU.blk 0;have x1:WA.cell? ⟨tb,1,none⟩=some (.int .i64 s):=ak gU.blk 1;have x2:WA.cell? ⟨tb,2,none⟩=some (.slice a1 _ c1):=ak gU.blk 2;have x3:WA.cell? ⟨tb,3,none⟩=some (.slice a2 _ c2):=ak gU.blk 3;have y0:WA.cell? ⟨wr.heap.size,0,none⟩=some (.string nm):=ak hra 0;have y1:WA.cell? ⟨wr.heap.size,1,none⟩=some (.slice A nk C):=ak hra 1;have jT:Hid (∀ wx,wx=wr.alloc (.cells #[.string nm,.slice A nk C] 58)->wx=WA):=fun wx h=>h.trans Zb.symm
    have kN:=(show Hid _ from tY);have lT:=(show Hid _ from hra);have Ej:=(show Hid _ from gU);clear e1 e2 hpt hnm hah hnk hsA Rv tY hra gU Zb hcs adl hl1 hl2;go_upto_region 9 with fail;rw[jT.out _ rfl];generalize hg1:((full (rows.take k)).map Prod.fst).length=n1 at *;generalize hg2:((full (rows.take k)).map fun r=>iJ r.2).length=n2 at *;have HG:=(show Hid _ from And.intro hg1 hg2);clear hg1 hg2;go_wp2_with fail;refine Calls.mono (kM.out WA (HM.out.aM.trans (kN.out.mono hbel))) ?_;rintro e w2 ⟨x,v,AA,rfl,hb2,hf2,hx2⟩;have HB2:=(show Hid _ from hb2);have iT:Hid (aY ea w2 v (rowAt f s rows k) AA):=hf2;have BS:Hid (rowAt f s rows k=0->x.data.toList=iJ rows[k].2):=hx2;have rR:=(show Hid _ from (HM.out.aM.trans (kN.out.mono hbel)).trans (hb2.mono (Nat.le_trans hbel kN.out.size)));have hs2:wr.heap.size<w2.heap.size:=Nat.lt_of_lt_of_le (aI lT.out) hb2.size;clear hb2 hf2 hx2 kM x0 x1 x2 x3 y0 y1 q1 q2;by_cases hs0:rowAt f s rows k=0
    ·have hv:=iT.out.none hs0;subst hv;have hx:=BS.out hs0;have h2r:w2.heap[wr.heap.size]? = some (.cells #[.string nm,.slice A nk C] 58 (0,0)):=(HB2.out.block _ (aI lT.out)).trans lT.out;have h2t:=Ej.out.below HB2.out;have y0:w2.cell? ⟨wr.heap.size,0,none⟩=some (.string nm):=ak h2r 0;have y1:w2.cell? ⟨wr.heap.size,1,none⟩=some (.slice A nk C):=ak h2r 1;have fD:Hid (∀ j,j<k+1->rowAt f s rows j=0):=fun j hj=>by
      rcases Nat.lt_or_ge j k with h | h
      ·exact HM.out.ok j h
      ·obtain rfl:j=k:=by omega
       exact hs0
     have hres:w2.heap[w.heap.size]? = some (.cells #[.int .i64 0,.int .i64 0,.slice none 0 0,.slice none 0 0] 90 (0,0)):=(HB2.out.block _ (Nat.lt_of_lt_of_le (aI HM.out.res) kN.out.size)).trans ((kN.out.block _ (aI HM.out.res)).trans HM.out.res);have qW:=(show Hid _ from hres);have nM:Hid (full (rows.take (k+1))=if 0<nk then full (rows.take k) ++ [rows[k]] else full (rows.take k)):=by
      show _=_;rw[List.take_succ_eq_append_getElem hkr,Tt,Yo.out]
     have Zc:Hid (prev (rows.map Prod.fst) (k+1)=nm.data.toList):=by
      show _=_;rw[Um (by simpa using hkr),CP.out.1];simp
     have yc:=(show Hid _ from h2r);have JF:=(show Hid _ from h2t);clear hres h2r h2t hs0;by_cases hz:0<nk
     ·have hd:decide ((0:Int)<(nk:Int))=true:=by simp;omega
      obtain⟨iS,hS,hS0,hS1,hS2⟩:=info_parts Tryz.infoStr3;have wY:=(show Hid _ from hS);have t2:w2.cell? ⟨tb,2,none⟩=some (.slice a1 n1 c1):=ak JF.out.blk 2;have t3:w2.cell? ⟨tb,3,none⟩=some (.slice a2 n2 c2):=ak JF.out.blk 3;have htl:tb<w2.heap.size:=aI JF.out.blk;have hn1:n1<=60/\n2<=60:=by
       have h1:=HG.out.1;have h2:=HG.out.2;have h3:(full (rows.take k)).length<=(rows.take k).length:=List.length_filter_le ..;have h4:(rows.take k).length<=k:=by simp;omega
       simp only[List.length_map] at h1 h2;omega
      have uW:tb+1<=w2.heap.size:=htl;clear hS;go_wp2_with fail;obtain⟨zq,Rx⟩:∃ zq:List (List UInt8),zq=((full (rows.take k)).map fun r=>iJ r.2):=⟨_,rfl⟩;have HT2:Hid (rW w2 (tb+1) tb f s (.slice a1 n1 c1) (.slice a2 n2 c2) ((full (rows.take k)).map Prod.fst) zq):=by rw[Rx];exact JF.out
      have Bg:Hid (zq.length=n2):=by rw[Rx];exact HG.out.2
      have TP:=(show Hid _ from Rx);clear Rx;have oM:Hid (w2.ownsRow (tb+1) 9 1 (.slice a1 n1 c1) n1 (((full (rows.take k)).map Prod.fst).map encStr)):=by have:=JF.out.yK;rw[HG.out.1] at this;exact this
      have Eo:Hid (∀ z,Below w2.heap.size w2 z->(z.cell? ⟨tb,2,none⟩=some (.slice a1 n1 c1)/\z.cell? ⟨tb,3,none⟩=some (.slice a2 n2 c2)/\z.cell? ⟨wr.heap.size,0,none⟩=some (.string nm))):=fun z hz=>by
       have q1:=(hz.block _ (aI JF.out.blk)).trans JF.out.blk;have q2:=(hz.block _ (aI yc.out)).trans yc.out;exact⟨ak q1 2,ak q1 3,ak q2 0⟩
      have HXC:Hid (x.data.toList=iJ rows[k].2):=hx;clear hx;refine l5 (S:=fun w'=>(w'.cell? ⟨tb,2,none⟩=some (.slice a1 n1 c1)/\w'.cell? ⟨tb,3,none⟩=some (.slice a2 n2 c2)/\w'.cell? ⟨wr.heap.size,0,none⟩=some (.string nm))) (by kernel_rfl) 12 ⟨t2,t3,y0⟩ (fun hHeld=>?_);refine iW (i:=0) (v:=.pointer (some ⟨tb,2,none⟩)) rfl (by kernel_rfl) (by kernel_rfl) (by kernel_rfl) (by kernel_rfl) (by kernel_rfl) (by kernel_rfl) (fun _ _ _ h=>h) (Or.inl ⟨by rfl,?_⟩) hHeld ?_
      ·intro w hSw;obtain⟨g2,g3,g4⟩:=hSw;go_simp
      try simp only[Act.put]
      refine iW (i:=1) (v:=.slice a1 n1 c1) rfl (by kernel_rfl) (by kernel_rfl) (by kernel_rfl) (by kernel_rfl) (by kernel_rfl) (by kernel_rfl) (fun _ _ _ h=>h) (Or.inl ⟨by rfl,?_⟩) hHeld ?_
      ·intro w hSw;obtain⟨g2,g3,g4⟩:=hSw;go_simp
      try simp only[Act.put]
      refine iW (i:=2) (v:=.pointer (some ⟨wr.heap.size,0,none⟩)) rfl (by kernel_rfl) (by kernel_rfl) (by kernel_rfl) (by kernel_rfl) (by kernel_rfl) (by kernel_rfl) (fun _ _ _ h=>h) (Or.inl ⟨by rfl,?_⟩) hHeld ?_
      ·intro w hSw;obtain⟨g2,g3,g4⟩:=hSw;go_simp
      try simp only[Act.put]
      refine iW (i:=3) (v:=.string nm) rfl (by kernel_rfl) (by kernel_rfl) (by kernel_rfl) (by kernel_rfl) (by kernel_rfl) (by kernel_rfl) (fun _ _ _ h=>h) (Or.inl ⟨by rfl,?_⟩) hHeld ?_
      ·intro w hSw;obtain⟨g2,g3,g4⟩:=hSw;go_simp
      try simp only[Act.put]
      refine iW (i:=6) (v:=.pointer (some ⟨tb,3,none⟩)) rfl (by kernel_rfl) (by kernel_rfl) (by kernel_rfl) (by kernel_rfl) (by kernel_rfl) (by kernel_rfl) (fun _ _ _ h=>h) (Or.inl ⟨by rfl,?_⟩) hHeld ?_
      ·intro w hSw;obtain⟨g2,g3,g4⟩:=hSw;go_simp
      try simp only[Act.put]
      refine iW (i:=7) (v:=.slice a2 n2 c2) rfl (by kernel_rfl) (by kernel_rfl) (by kernel_rfl) (by kernel_rfl) (by kernel_rfl) (by kernel_rfl) (fun _ _ _ h=>h) (Or.inl ⟨by rfl,?_⟩) hHeld ?_
      ·intro w hSw;obtain⟨g2,g3,g4⟩:=hSw;go_simp
      try simp only[Act.put]
      refine jB (i:=8) (v:=.string x) rfl (by kernel_rfl) (by kernel_rfl) (by kernel_rfl) (by kernel_rfl) (fun _ _ _ h=>h) (Or.inl ⟨by rfl,?_⟩) (fun _=>hHeld) ?_
      ·intro w _;go_simp
      try simp only[Act.put]
      refine aX (rs:=[4,9]) (by kernel_rfl) (by simp) ?_;refine aA.cons rfl (fun K hK=>?_) (aA.cons rfl (fun K hK=>?_) aA.nil)
      ·go_simp
       refine hK.out _ _ (Eo.out _ (by repeat (first | exact Below.refl _ _ | with_reducible apply dW | with_reducible apply iC))) ?_;clear hK K;try simp only[Act.put]
       refine aX (rs:=[5,9]) (by kernel_rfl) (by simp) ?_;refine aA.cons rfl (fun K hK=>?_) (aA.cons rfl (fun K hK=>?_) aA.nil)
       ·refine qK w2 (by rfl) _ _ 48 (by rfl) (tb+1) 9 iS (.string ⟨#[]⟩) 16 Tryz.underlying48 wY.out hS0 hS1 hS2 (by rfl) (.slice a1 n1 c1) n1 (((full (rows.take k)).map Prod.fst).map encStr) (by rfl) oM.out (by repeat (first | exact Below.refl _ _ | with_reducible apply dW | with_reducible apply iC)) _ _ _ _ (by rfl) (by first | exact heap_alloc_new _ _ | exact Gz _ _ _ | exact GA _ _ _) (by rfl) (by omega) (by decide) uW ?_;intro g7 gD w7 dD fE oC;obtain⟨m1,m2,m3,m4,m5⟩:=HT2.out.mid uW oC fE;have xX:Hid (w7.ownsRow (tb+1) 9 1 (.slice a2 n2 c2) n2 (zq.map encStr)):=by rw[Bg.out] at m2;exact m2
        have CX:=(show Hid _ from m5);have CG:=(show Hid _ from m3);have Bb:=(show Hid _ from dD);have rF:=(show Hid _ from fE);have uz:=(show Hid _ from oC);have uD:Hid (∀ z,Below w7.heap.size w7 z->(z.cell? ⟨tb,2,none⟩=some (.slice a1 n1 c1)/\z.cell? ⟨tb,3,none⟩=some (.slice a2 n2 c2)/\z.cell? ⟨wr.heap.size,0,none⟩=some (.string nm))):=fun z hz=>by
         have q1:=(hz.block _ (aI m1)).trans m1;have q2:=(hz.block _ (aI (HT2.out.other oC fE yc.out (by decide)))).trans (HT2.out.other oC fE yc.out (by decide));exact⟨ak q1 2,ak q1 3,ak q2 0⟩
        clear dD fE oC m1 m2 m3 m5;refine hK.out _ _ (uD.out _ (Below.refl _ _)) ?_;clear hK K;try simp only[Act.put]
        refine jB (i:=11) (v:=.pointer (some ⟨tb,2,none⟩)) rfl (by kernel_rfl) (by kernel_rfl) (by kernel_rfl) (by kernel_rfl) (fun _ _ _ h=>h) (Or.inl ⟨by rfl,?_⟩) (fun _=>uD.out _ (Below.refl _ _)) ?_
        ·intro w _;go_simp
        try simp only[Act.put]
        refine aX (rs:=[9]) (by kernel_rfl) (by simp) ?_;refine aA.cons rfl (fun K hK=>?_) aA.nil;go_simp
        refine hK.out _ _ (uD.out _ (by repeat (first | exact Below.refl _ _ | with_reducible apply dW | with_reducible apply iC))) ?_;clear hK K;try simp only[Act.put]
        refine aX (rs:=[10]) (by kernel_rfl) (by simp) ?_;refine aA.cons rfl (fun K hK=>?_) aA.nil;refine qK w7 (by rfl) _ _ 48 (by rfl) (tb+1) 9 iS (.string ⟨#[]⟩) 16 Tryz.underlying48 wY.out hS0 hS1 hS2 (by rfl) (.slice a2 n2 c2) n2 (zq.map encStr) (by rfl) xX.out (by repeat (first | exact Below.refl _ _ | with_reducible apply dW | with_reducible apply iC)) _ _ _ _ (by rfl) (by exact heap_alloc_new _ _) (by rfl) (by omega) (by decide) CG.out ?_;intro g8 qB w8 tK rX oD;have qL:=HT2.out.last uW uz.out rF.out oD rX;have JG:=HT2.out.more (x:=nm.data.toList) (y:=x.data.toList) uW uz.out (by rw[HG.out.1,vW nm];exact Bb.out) rF.out oD (by rw[Bg.out,vW x];exact tK) rX;have DW:=(show Hid _ from JG);have U8:w8.cell? ⟨tb,2,none⟩=some (.slice a1 n1 c1):=ak qL 2;have U9:w8.cell? ⟨tb,3,none⟩=some (.slice a2 n2 c2):=ak qL 3;have f8:∀ q,w8.frozen? ⟨tb,q,none⟩=false:=fun q=>by simp[World.frozen?,qL]
        have JH:Hid ((w8.cell? ⟨tb,2,none⟩=some (.slice a1 n1 c1)/\w8.cell? ⟨tb,3,none⟩=some (.slice a2 n2 c2)/\w8.cell? ⟨wr.heap.size,0,none⟩=some (.string nm))):=by
         have q1:=qL;have q2:=(show xC _ w8 _ _ from rX).other (bT xX.out oD) ((oD.block _ (aI (HT2.out.other uz.out rF.out yc.out (by decide)))).trans (HT2.out.other uz.out rF.out yc.out (by decide))) (by decide);exact⟨ak q1 2,ak q1 3,ak q2 0⟩
        clear tK rX oD JG;refine hK.out _ _ JH.out ?_;clear hK K;try simp only[Act.put]
        refine aX (rs:=[12]) (by kernel_rfl) (by simp) ?_;refine aA.last rfl (by kernel_rfl) (fun K hK=>?_) aA.nil;go_simp
        refine hK.out _ _ ?_;clear hK K;try simp only[Act.put]
        refine jB (i:=13) (v:=.pointer (some ⟨tb,3,none⟩)) rfl (by kernel_rfl) (by kernel_rfl) (by kernel_rfl) (by kernel_rfl) (fun _ _ _ h=>h) (Or.inl ⟨by rfl,?_⟩) (fun _=>absurd ‹_› (by decide)) ?_
        ·intro w _;go_simp
        try simp only[Act.put]
        obtain⟨Z8,yg⟩:∃ Z8,Z8=w8.setCell ⟨tb,2,none⟩ (.slice (some ⟨g7,0,none⟩) (n1+1) gD):=⟨_,rfl⟩;have CY:Z8.heap[tb]? = some (.cells #[.int .i64 f,.int .i64 s,.slice (some ⟨g7,0,none⟩) (n1+1) gD,.slice a2 n2 c2] 90 (0,0)):=by rw[yg];exact (dP qL 2 _).trans (by rfl)
        have c93:Z8.cell? ⟨tb,3,none⟩=some (.slice a2 n2 c2):=ak CY 3;have f9:∀ q,Z8.frozen? ⟨tb,q,none⟩=false:=fun q=>by simp[World.frozen?,CY]
        rw[<-yg];have JI:=(show Hid _ from yg);clear yg CY qL U8 U9 f8;refine aX (rs:=[14]) (by kernel_rfl) (by simp) ?_;refine aA.last rfl (by kernel_rfl) (fun K hK=>?_) aA.nil;go_simp
        refine hK.out _ _ ?_;clear hK K;refine jl (by kernel_rfl) ?_ _;have l6:Hid (zo w (Z8.setCell ⟨tb,3,none⟩ (.slice (some ⟨g8,0,none⟩) (n2+1) qB)) tb f s rows (k+1) (.string nm) (.slice (some ⟨g7,0,none⟩) (n1+1) gD) (.slice (some ⟨g8,0,none⟩) (n2+1) qB)):=by
         obtain⟨j1,j2,j3⟩:=DW.out;rw[JI.out];have hfl:full (rows.take (k+1))=full (rows.take k) ++ [rows[k]]:=by rw[nM.out,if_pos hz]
         have e1:(full (rows.take (k+1))).map Prod.fst=(full (rows.take k)).map Prod.fst ++ [nm.data.toList]:=by rw[hfl,List.map_append,CP.out.1];simp
         have e2:((full (rows.take (k+1))).map fun r=>iJ r.2)=zq ++ [x.data.toList]:=by rw[hfl,List.map_append,HXC.out,TP.out];simp
         have hw8:=j3.size;refine⟨by omega,by rw[Zc.out],fD.out,?_,?_,?_,?_⟩
         ·rw[Below.heap_setCell _ _ _ _ (by show w.heap.size≠tb;omega),Below.heap_setCell _ _ _ _ (by show w.heap.size≠tb;omega),j3.block _ (by omega)];exact qW.out
         ·rw[e1,e2];rw[HG.out.1,Bg.out] at j1;exact j1
         ·exact ((rR.out.trans (j3.mono (by omega))).setCell (by show w.heap.size<=tb;omega) _).setCell (by show w.heap.size<=tb;omega) _
         ·simp
          omega
        clear DW JI Bb rF uz xX CG CX uD JH;go_wp2;go_roundw;case rel=>exact⟨k+1,_,_,by go_num,l6.out⟩
        case measure=>simp[intOf]<;>omega
       ·go_simp
        refine hK.out _ _ (Eo.out _ (by repeat (first | exact Below.refl _ _ | with_reducible apply dW | with_reducible apply iC))) ?_;clear hK K;try simp only[Act.put]
        refine aX (rs:=[5]) (by kernel_rfl) (by simp) ?_;refine aA.cons rfl (fun K hK=>?_) aA.nil;refine qK w2 (by rfl) _ _ 48 (by rfl) (tb+1) 9 iS (.string ⟨#[]⟩) 16 Tryz.underlying48 wY.out hS0 hS1 hS2 (by rfl) (.slice a1 n1 c1) n1 (((full (rows.take k)).map Prod.fst).map encStr) (by rfl) oM.out (by repeat (first | exact Below.refl _ _ | with_reducible apply dW | with_reducible apply iC)) _ _ _ _ (by rfl) (by first | exact heap_alloc_new _ _ | exact Gz _ _ _ | exact GA _ _ _) (by rfl) (by omega) (by decide) uW ?_;intro g7 gD w7 dD fE oC;obtain⟨m1,m2,m3,m4,m5⟩:=HT2.out.mid uW oC fE;have xX:Hid (w7.ownsRow (tb+1) 9 1 (.slice a2 n2 c2) n2 (zq.map encStr)):=by rw[Bg.out] at m2;exact m2
        have CX:=(show Hid _ from m5);have CG:=(show Hid _ from m3);have Bb:=(show Hid _ from dD);have rF:=(show Hid _ from fE);have uz:=(show Hid _ from oC);have uD:Hid (∀ z,Below w7.heap.size w7 z->(z.cell? ⟨tb,2,none⟩=some (.slice a1 n1 c1)/\z.cell? ⟨tb,3,none⟩=some (.slice a2 n2 c2)/\z.cell? ⟨wr.heap.size,0,none⟩=some (.string nm))):=fun z hz=>by
         have q1:=(hz.block _ (aI m1)).trans m1;have q2:=(hz.block _ (aI (HT2.out.other oC fE yc.out (by decide)))).trans (HT2.out.other oC fE yc.out (by decide));exact⟨ak q1 2,ak q1 3,ak q2 0⟩
        clear dD fE oC m1 m2 m3 m5;refine hK.out _ _ (uD.out _ (Below.refl _ _)) ?_;clear hK K;try simp only[Act.put]
        refine jB (i:=11) (v:=.pointer (some ⟨tb,2,none⟩)) rfl (by kernel_rfl) (by kernel_rfl) (by kernel_rfl) (by kernel_rfl) (fun _ _ _ h=>h) (Or.inl ⟨by rfl,?_⟩) (fun _=>uD.out _ (Below.refl _ _)) ?_
        ·intro w _;go_simp
        try simp only[Act.put]
        refine aX (rs:=[10]) (by kernel_rfl) (by simp) ?_;refine aA.cons rfl (fun K hK=>?_) aA.nil;refine qK w7 (by rfl) _ _ 48 (by rfl) (tb+1) 9 iS (.string ⟨#[]⟩) 16 Tryz.underlying48 wY.out hS0 hS1 hS2 (by rfl) (.slice a2 n2 c2) n2 (zq.map encStr) (by rfl) xX.out (by repeat (first | exact Below.refl _ _ | with_reducible apply dW | with_reducible apply iC)) _ _ _ _ (by rfl) (by first | exact CX.out _ _ (by simp) (heap_alloc_new _ _) | exact CX.out _ _ (by simp) (Gz _ _ _) | exact CX.out _ _ (by simp) (GA _ _ _)) (by rfl) (by omega) (by decide) CG.out ?_;intro g8 qB w8 tK rX oD;have qL:=HT2.out.last uW uz.out rF.out oD rX;have JG:=HT2.out.more (x:=nm.data.toList) (y:=x.data.toList) uW uz.out (by rw[HG.out.1,vW nm];exact Bb.out) rF.out oD (by rw[Bg.out,vW x];exact tK) rX;have DW:=(show Hid _ from JG);have U8:w8.cell? ⟨tb,2,none⟩=some (.slice a1 n1 c1):=ak qL 2;have U9:w8.cell? ⟨tb,3,none⟩=some (.slice a2 n2 c2):=ak qL 3;have f8:∀ q,w8.frozen? ⟨tb,q,none⟩=false:=fun q=>by simp[World.frozen?,qL]
        have JH:Hid ((w8.cell? ⟨tb,2,none⟩=some (.slice a1 n1 c1)/\w8.cell? ⟨tb,3,none⟩=some (.slice a2 n2 c2)/\w8.cell? ⟨wr.heap.size,0,none⟩=some (.string nm))):=by
         have q1:=qL;have q2:=(show xC _ w8 _ _ from rX).other (bT xX.out oD) ((oD.block _ (aI (HT2.out.other uz.out rF.out yc.out (by decide)))).trans (HT2.out.other uz.out rF.out yc.out (by decide))) (by decide);exact⟨ak q1 2,ak q1 3,ak q2 0⟩
        clear tK rX oD JG;refine hK.out _ _ JH.out ?_;clear hK K;try simp only[Act.put]
        refine aX (rs:=[12]) (by kernel_rfl) (by simp) ?_;refine aA.last rfl (by kernel_rfl) (fun K hK=>?_) aA.nil;go_simp
        refine hK.out _ _ ?_;clear hK K;try simp only[Act.put]
        refine jB (i:=13) (v:=.pointer (some ⟨tb,3,none⟩)) rfl (by kernel_rfl) (by kernel_rfl) (by kernel_rfl) (by kernel_rfl) (fun _ _ _ h=>h) (Or.inl ⟨by rfl,?_⟩) (fun _=>absurd ‹_› (by decide)) ?_
        ·intro w _;go_simp
        try simp only[Act.put]
        obtain⟨Z8,yg⟩:∃ Z8,Z8=w8.setCell ⟨tb,2,none⟩ (.slice (some ⟨g7,0,none⟩) (n1+1) gD):=⟨_,rfl⟩;have CY:Z8.heap[tb]? = some (.cells #[.int .i64 f,.int .i64 s,.slice (some ⟨g7,0,none⟩) (n1+1) gD,.slice a2 n2 c2] 90 (0,0)):=by rw[yg];exact (dP qL 2 _).trans (by rfl)
        have c93:Z8.cell? ⟨tb,3,none⟩=some (.slice a2 n2 c2):=ak CY 3;have f9:∀ q,Z8.frozen? ⟨tb,q,none⟩=false:=fun q=>by simp[World.frozen?,CY]
        rw[<-yg];have JI:=(show Hid _ from yg);clear yg CY qL U8 U9 f8;refine aX (rs:=[14]) (by kernel_rfl) (by simp) ?_;refine aA.last rfl (by kernel_rfl) (fun K hK=>?_) aA.nil;go_simp
        refine hK.out _ _ ?_;clear hK K;refine jl (by kernel_rfl) ?_ _;have l6:Hid (zo w (Z8.setCell ⟨tb,3,none⟩ (.slice (some ⟨g8,0,none⟩) (n2+1) qB)) tb f s rows (k+1) (.string nm) (.slice (some ⟨g7,0,none⟩) (n1+1) gD) (.slice (some ⟨g8,0,none⟩) (n2+1) qB)):=by
         obtain⟨j1,j2,j3⟩:=DW.out;rw[JI.out];have hfl:full (rows.take (k+1))=full (rows.take k) ++ [rows[k]]:=by rw[nM.out,if_pos hz]
         have e1:(full (rows.take (k+1))).map Prod.fst=(full (rows.take k)).map Prod.fst ++ [nm.data.toList]:=by rw[hfl,List.map_append,CP.out.1];simp
         have e2:((full (rows.take (k+1))).map fun r=>iJ r.2)=zq ++ [x.data.toList]:=by rw[hfl,List.map_append,HXC.out,TP.out];simp
         have hw8:=j3.size;refine⟨by omega,by rw[Zc.out],fD.out,?_,?_,?_,?_⟩
         ·rw[Below.heap_setCell _ _ _ _ (by show w.heap.size≠tb;omega),Below.heap_setCell _ _ _ _ (by show w.heap.size≠tb;omega),j3.block _ (by omega)];exact qW.out
         ·rw[e1,e2];rw[HG.out.1,Bg.out] at j1;exact j1
         ·exact ((rR.out.trans (j3.mono (by omega))).setCell (by show w.heap.size<=tb;omega) _).setCell (by show w.heap.size<=tb;omega) _
         ·simp
          omega
        clear DW JI Bb rF uz xX CG CX uD JH;go_wp2;go_roundw;case rel=>exact⟨k+1,_,_,by go_num,l6.out⟩
        case measure=>simp[intOf]<;>omega
      ·go_simp
       refine hK.out _ _ (Eo.out _ (by repeat (first | exact Below.refl _ _ | with_reducible apply dW | with_reducible apply iC))) ?_;clear hK K;try simp only[Act.put]
       refine aX (rs:=[4]) (by kernel_rfl) (by simp) ?_;refine aA.cons rfl (fun K hK=>?_) aA.nil;go_simp
       refine hK.out _ _ (Eo.out _ (by repeat (first | exact Below.refl _ _ | with_reducible apply dW | with_reducible apply iC))) ?_;clear hK K;try simp only[Act.put]
       refine aX (rs:=[5]) (by kernel_rfl) (by simp) ?_;refine aA.cons rfl (fun K hK=>?_) aA.nil;refine qK w2 (by rfl) _ _ 48 (by rfl) (tb+1) 9 iS (.string ⟨#[]⟩) 16 Tryz.underlying48 wY.out hS0 hS1 hS2 (by rfl) (.slice a1 n1 c1) n1 (((full (rows.take k)).map Prod.fst).map encStr) (by rfl) oM.out (by repeat (first | exact Below.refl _ _ | with_reducible apply dW | with_reducible apply iC)) _ _ _ _ (by rfl) (by first | exact heap_alloc_new _ _ | exact Gz _ _ _ | exact GA _ _ _) (by rfl) (by omega) (by decide) uW ?_;intro g7 gD w7 dD fE oC;obtain⟨m1,m2,m3,m4,m5⟩:=HT2.out.mid uW oC fE;have xX:Hid (w7.ownsRow (tb+1) 9 1 (.slice a2 n2 c2) n2 (zq.map encStr)):=by rw[Bg.out] at m2;exact m2
       have CX:=(show Hid _ from m5);have CG:=(show Hid _ from m3);have Bb:=(show Hid _ from dD);have rF:=(show Hid _ from fE);have uz:=(show Hid _ from oC);have uD:Hid (∀ z,Below w7.heap.size w7 z->(z.cell? ⟨tb,2,none⟩=some (.slice a1 n1 c1)/\z.cell? ⟨tb,3,none⟩=some (.slice a2 n2 c2)/\z.cell? ⟨wr.heap.size,0,none⟩=some (.string nm))):=fun z hz=>by
        have q1:=(hz.block _ (aI m1)).trans m1;have q2:=(hz.block _ (aI (HT2.out.other oC fE yc.out (by decide)))).trans (HT2.out.other oC fE yc.out (by decide));exact⟨ak q1 2,ak q1 3,ak q2 0⟩
       clear dD fE oC m1 m2 m3 m5;refine hK.out _ _ (uD.out _ (Below.refl _ _)) ?_;clear hK K;try simp only[Act.put]
       refine jB (i:=11) (v:=.pointer (some ⟨tb,2,none⟩)) rfl (by kernel_rfl) (by kernel_rfl) (by kernel_rfl) (by kernel_rfl) (fun _ _ _ h=>h) (Or.inl ⟨by rfl,?_⟩) (fun _=>uD.out _ (Below.refl _ _)) ?_
       ·intro w _;go_simp
       try simp only[Act.put]
       refine aX (rs:=[10]) (by kernel_rfl) (by simp) ?_;refine aA.cons rfl (fun K hK=>?_) aA.nil;refine qK w7 (by rfl) _ _ 48 (by rfl) (tb+1) 9 iS (.string ⟨#[]⟩) 16 Tryz.underlying48 wY.out hS0 hS1 hS2 (by rfl) (.slice a2 n2 c2) n2 (zq.map encStr) (by rfl) xX.out (by repeat (first | exact Below.refl _ _ | with_reducible apply dW | with_reducible apply iC)) _ _ _ _ (by rfl) (by first | exact CX.out _ _ (by simp) (heap_alloc_new _ _) | exact CX.out _ _ (by simp) (Gz _ _ _) | exact CX.out _ _ (by simp) (GA _ _ _)) (by rfl) (by omega) (by decide) CG.out ?_;intro g8 qB w8 tK rX oD;have qL:=HT2.out.last uW uz.out rF.out oD rX;have JG:=HT2.out.more (x:=nm.data.toList) (y:=x.data.toList) uW uz.out (by rw[HG.out.1,vW nm];exact Bb.out) rF.out oD (by rw[Bg.out,vW x];exact tK) rX;have DW:=(show Hid _ from JG);have U8:w8.cell? ⟨tb,2,none⟩=some (.slice a1 n1 c1):=ak qL 2;have U9:w8.cell? ⟨tb,3,none⟩=some (.slice a2 n2 c2):=ak qL 3;have f8:∀ q,w8.frozen? ⟨tb,q,none⟩=false:=fun q=>by simp[World.frozen?,qL]
       have JH:Hid ((w8.cell? ⟨tb,2,none⟩=some (.slice a1 n1 c1)/\w8.cell? ⟨tb,3,none⟩=some (.slice a2 n2 c2)/\w8.cell? ⟨wr.heap.size,0,none⟩=some (.string nm))):=by
        have q1:=qL;have q2:=(show xC _ w8 _ _ from rX).other (bT xX.out oD) ((oD.block _ (aI (HT2.out.other uz.out rF.out yc.out (by decide)))).trans (HT2.out.other uz.out rF.out yc.out (by decide))) (by decide);exact⟨ak q1 2,ak q1 3,ak q2 0⟩
       clear tK rX oD JG;refine hK.out _ _ JH.out ?_;clear hK K;try simp only[Act.put]
       refine aX (rs:=[12]) (by kernel_rfl) (by simp) ?_;refine aA.last rfl (by kernel_rfl) (fun K hK=>?_) aA.nil;go_simp
       refine hK.out _ _ ?_;clear hK K;try simp only[Act.put]
       refine jB (i:=13) (v:=.pointer (some ⟨tb,3,none⟩)) rfl (by kernel_rfl) (by kernel_rfl) (by kernel_rfl) (by kernel_rfl) (fun _ _ _ h=>h) (Or.inl ⟨by rfl,?_⟩) (fun _=>absurd ‹_› (by decide)) ?_
       ·intro w _;go_simp
       try simp only[Act.put]
       obtain⟨Z8,yg⟩:∃ Z8,Z8=w8.setCell ⟨tb,2,none⟩ (.slice (some ⟨g7,0,none⟩) (n1+1) gD):=⟨_,rfl⟩;have CY:Z8.heap[tb]? = some (.cells #[.int .i64 f,.int .i64 s,.slice (some ⟨g7,0,none⟩) (n1+1) gD,.slice a2 n2 c2] 90 (0,0)):=by rw[yg];exact (dP qL 2 _).trans (by rfl)
       have c93:Z8.cell? ⟨tb,3,none⟩=some (.slice a2 n2 c2):=ak CY 3;have f9:∀ q,Z8.frozen? ⟨tb,q,none⟩=false:=fun q=>by simp[World.frozen?,CY]
       rw[<-yg];have JI:=(show Hid _ from yg);clear yg CY qL U8 U9 f8;refine aX (rs:=[14]) (by kernel_rfl) (by simp) ?_;refine aA.last rfl (by kernel_rfl) (fun K hK=>?_) aA.nil;go_simp
       refine hK.out _ _ ?_;clear hK K;refine jl (by kernel_rfl) ?_ _;have l6:Hid (zo w (Z8.setCell ⟨tb,3,none⟩ (.slice (some ⟨g8,0,none⟩) (n2+1) qB)) tb f s rows (k+1) (.string nm) (.slice (some ⟨g7,0,none⟩) (n1+1) gD) (.slice (some ⟨g8,0,none⟩) (n2+1) qB)):=by
        obtain⟨j1,j2,j3⟩:=DW.out;rw[JI.out];have hfl:full (rows.take (k+1))=full (rows.take k) ++ [rows[k]]:=by rw[nM.out,if_pos hz]
        have e1:(full (rows.take (k+1))).map Prod.fst=(full (rows.take k)).map Prod.fst ++ [nm.data.toList]:=by rw[hfl,List.map_append,CP.out.1];simp
        have e2:((full (rows.take (k+1))).map fun r=>iJ r.2)=zq ++ [x.data.toList]:=by rw[hfl,List.map_append,HXC.out,TP.out];simp
        have hw8:=j3.size;refine⟨by omega,by rw[Zc.out],fD.out,?_,?_,?_,?_⟩
        ·rw[Below.heap_setCell _ _ _ _ (by show w.heap.size≠tb;omega),Below.heap_setCell _ _ _ _ (by show w.heap.size≠tb;omega),j3.block _ (by omega)];exact qW.out
        ·rw[e1,e2];rw[HG.out.1,Bg.out] at j1;exact j1
        ·exact ((rR.out.trans (j3.mono (by omega))).setCell (by show w.heap.size<=tb;omega) _).setCell (by show w.heap.size<=tb;omega) _
        ·simp
         omega
       clear DW JI Bb rF uz xX CG CX uD JH;go_wp2;go_roundw;case rel=>exact⟨k+1,_,_,by go_num,l6.out⟩
       case measure=>simp[intOf]<;>omega
     ·have hd:decide ((0:Int)<(nk:Int))=false:=by simp;omega
      have hfl:full (rows.take (k+1))=full (rows.take k):=by rw[nM.out,if_neg hz]
      have l6:Hid (zo w w2 tb f s rows (k+1) (.string nm) (.slice a1 n1 c1) (.slice a2 n2 c2)):=by
       refine⟨by omega,by rw[Zc.out],fD.out,qW.out,?_,rR.out,by omega⟩;rw[hfl];exact JF.out
      clear hfl;go_wp2;go_roundw;case rel=>exact⟨k+1,_,_,by go_num,l6.out⟩
      case measure=>simp[intOf]<;>omega
    ·obtain⟨t,p,hv⟩:=iT.out.pos hs0;have hpos:0<rowAt f s rows k:=by
      have:0<=rowAt f s rows k:=NY ..;omega
     have Cz:=(show Hid _ from aev w2 (HE.out.below rR.out hB).types (Nat.le_trans hB rR.out.size) (k:Int) v _ _ iT.out hpos);obtain⟨hC,hA⟩:=aew (f:=f) (s:=s) (rows:=rows) (by rw[HN.out];exact YO.out) hkr HM.out.ok hs0;have HC:=(show Hid _ from And.intro hC hA);have Gj:=(show Hid _ from hs0);have hres:w2.heap[w.heap.size]? = some (.cells #[.int .i64 0,.int .i64 0,.slice none 0 0,.slice none 0 0] 90 (0,0)):=(HB2.out.block _ (Nat.lt_of_lt_of_le (aI HM.out.res) kN.out.size)).trans ((kN.out.block _ (aI HM.out.res)).trans HM.out.res);have qW:=(show Hid _ from hres);subst hv;clear hC hA hs0 hres BS;go_wp2_with fail;refine Calls.mono Cz.out ?_;rintro e w3 ⟨pb,mm,rfl,hb3,hmm,zz0,zz1,hcm⟩;have yh:=(hb3.block _ (aI qW.out)).trans qW.out;have HB3:=(show Hid _ from rR.out.trans (hb3.mono rR.out.size));have hpb:pb≠w.heap.size:=fun e=>by
      subst e;have:=(ak yh 1).symm.trans zz1;simp at this
     have p0:w3.cell? ⟨w.heap.size,0,none⟩=some (.int .i64 0):=ak yh 0;have p1:w3.cell? ⟨w.heap.size,1,none⟩=some (.int .i64 0):=ak yh 1;have p2:w3.cell? ⟨w.heap.size,2,none⟩=some (.slice none 0 0):=ak yh 2;have p3:w3.cell? ⟨w.heap.size,3,none⟩=some (.slice none 0 0):=ak yh 3;have pf:∀ k,w3.frozen? ⟨w.heap.size,k,none⟩=false:=fun k=>by simp[World.frozen?,yh]
     have l7:Hid (aY ea w3 (.iface 112 (.pointer (some ⟨pb,0,none⟩))) (mF f s rows) (BX f s rows)/\w3.heap[w.heap.size]? = some (.cells #[.int .i64 0,.int .i64 0,.slice none 0 0,.slice none 0 0] 90 (0,0))/\pb≠w.heap.size):=by
      refine⟨?_,yh,hpb⟩;rw[HC.out.1,HC.out.2];exact .inr (.inr ⟨pb,mm,hmm,rfl,zz0,zz1,hcm⟩)
     clear hb3 zz0 zz1 hcm Cz yh hpb;go_wp2;obtain⟨Z,hZ⟩:∃ Z,Z=((((w3.setCell ⟨w.heap.size,0,none⟩ (.int .i64 0)).setCell ⟨w.heap.size,1,none⟩ (.int .i64 0)).setCell ⟨w.heap.size,2,none⟩ (.slice none 0 0)).setCell ⟨w.heap.size,3,none⟩ (.slice none 0 0)):=⟨_,rfl⟩;rw[<-hZ];have qI:Z.heap[w.heap.size]? = some (.cells #[.int .i64 0,.int .i64 0,.slice none 0 0,.slice none 0 0] 90 (0,0)):=by rw[hZ];exact Ii l7.out.2.1 _ _ _ _
     have hzb:Below w.heap.size w Z:=by rw[hZ];exact vT HB3.out (Nat.le_refl _) _ _ _ _
     have hfz:aY ea Z (.iface 112 (.pointer (some ⟨pb,0,none⟩))) (mF f s rows) (BX f s rows):=by
      have hcl:∀ o,Z.cell? ⟨pb,o,none⟩=w3.cell? ⟨pb,o,none⟩:=fun o=>by
       have:Z.heap[pb]? = w3.heap[pb]?:=by
        rw[hZ,Below.heap_setCell _ _ _ _ l7.out.2.2,Below.heap_setCell _ _ _ _ l7.out.2.2,Below.heap_setCell _ _ _ _ l7.out.2.2,Below.heap_setCell _ _ _ _ l7.out.2.2]
       simp[World.cell?,this]
      rcases l7.out.1 with⟨h,_⟩|⟨m,_,h,_⟩|⟨pb',m,hm,h,c0,c1,hc⟩
      ·cases h
      ·simp at h
      ·obtain rfl:pb=pb':=by simpa using h
       exact .inr (.inr ⟨pb,m,hm,rfl,(hcl 0).trans c0,(hcl 1).trans c1,hc⟩)
     have z0:Z.cell? ⟨w.heap.size,0,none⟩=some (.int .i64 0):=ak qI 0;have z1:Z.cell? ⟨w.heap.size,1,none⟩=some (.int .i64 0):=ak qI 1;have z2:Z.cell? ⟨w.heap.size,2,none⟩=some (.slice none 0 0):=ak qI 2;have z3:Z.cell? ⟨w.heap.size,3,none⟩=some (.slice none 0 0):=ak qI 3;clear hZ qI;refine bodyPost_ret (v:=.tuple #[.agg #[.int .i64 0,.int .i64 0,.slice none 0 0,.slice none 0 0],.iface 112 (.pointer (some ⟨pb,0,none⟩))]) (by simp[results,Tryz.results62,go_sem,z0,z1,z2,z3]) rfl ?_;exact⟨_,hzb,hfz,.inr ⟨fun h=>Gj.out (HC.out.1.symm.trans h),rfl⟩⟩
   ·obtain rfl:k=n:=by have:=HM.out.le;have:=HN.out;omega
    obtain⟨hC,hA⟩:=OZ (f:=f) (s:=s) (rows:=rows) (by rw[HN.out];exact YO.out) (by rw[HN.out];exact HM.out.ok);have HC:=(show Hid _ from And.intro hC hA);have XF:=HM.out.two;have gU:rows.take k=rows:=List.take_of_length_le (by rw[HN.out];omega);have Ej:=(show Hid _ from gU);have hblk:=XF.blk;generalize hg1:((full (rows.take k)).map Prod.fst).length=n1 at *;generalize hg2:((full (rows.take k)).map fun r=>iJ r.2).length=n2 at *;have HG:=(show Hid _ from And.intro hg1 hg2);have t0:wr.cell? ⟨tb,0,none⟩=some (.int .i64 f):=ak hblk 0;have t1:wr.cell? ⟨tb,1,none⟩=some (.int .i64 s):=ak hblk 1;have t2:wr.cell? ⟨tb,2,none⟩=some (.slice a1 n1 c1):=ak hblk 2;have t3:wr.cell? ⟨tb,3,none⟩=some (.slice a2 n2 c2):=ak hblk 3;have p0:wr.cell? ⟨w.heap.size,0,none⟩=some (.int .i64 0):=ak HM.out.res 0;have p1:wr.cell? ⟨w.heap.size,1,none⟩=some (.int .i64 0):=ak HM.out.res 1;have p2:wr.cell? ⟨w.heap.size,2,none⟩=some (.slice none 0 0):=ak HM.out.res 2;have p3:wr.cell? ⟨w.heap.size,3,none⟩=some (.slice none 0 0):=ak HM.out.res 3;have pf:∀ k,wr.frozen? ⟨w.heap.size,k,none⟩=false:=fun k=>by simp[World.frozen?,HM.out.res]
    have HTW:=(show Hid _ from XF);have hge:(k:Int)<=(k:Int):=Int.le_refl _;clear hC hA gU hg1 hg2 hblk XF;go_wp2;obtain⟨Z,hZ⟩:∃ Z,Z=((((wr.setCell ⟨w.heap.size,0,none⟩ (.int .i64 f)).setCell ⟨w.heap.size,1,none⟩ (.int .i64 s)).setCell ⟨w.heap.size,2,none⟩ (.slice a1 n1 c1)).setCell ⟨w.heap.size,3,none⟩ (.slice a2 n2 c2)):=⟨_,rfl⟩;rw[<-hZ];have qI:Z.heap[w.heap.size]? = some (.cells #[.int .i64 f,.int .i64 s,.slice a1 n1 c1,.slice a2 n2 c2] 90 (0,0)):=by rw[hZ];exact Ii HM.out.res _ _ _ _
    have hzb:Below w.heap.size w Z:=by rw[hZ];exact vT HM.out.aM (Nat.le_refl _) _ _ _ _
    have z0:Z.cell? ⟨w.heap.size,0,none⟩=some (.int .i64 f):=ak qI 0;have z1:Z.cell? ⟨w.heap.size,1,none⟩=some (.int .i64 s):=ak qI 1;have z2:Z.cell? ⟨w.heap.size,2,none⟩=some (.slice a1 n1 c1):=ak qI 2;have z3:Z.cell? ⟨w.heap.size,3,none⟩=some (.slice a2 n2 c2):=ak qI 3;have o1:Z.ownsRow w.heap.size 9 1 (.slice a1 n1 c1) (full rows).length (((full rows).map Prod.fst).map encStr):=by
     have h:=xW (b:=w.heap.size) HTW.out.yK (by omega);rw[hZ];rw[Ej.out] at h;rw[List.length_map] at h;exact Az h HM.out.res (by decide) _ _ _ _
    have o2:Z.ownsRow w.heap.size 9 1 (.slice a2 n2 c2) (full rows).length (((full rows).map fun r=>iJ r.2).map encStr):=by
     have h:=xW (b:=w.heap.size) HTW.out.Ay (by omega);rw[hZ];rw[Ej.out] at h;rw[List.length_map] at h;exact Az h HM.out.res (by decide) _ _ _ _
    clear hZ qI;refine bodyPost_ret (v:=.tuple #[.agg #[.int .i64 f,.int .i64 s,.slice a1 n1 c1,.slice a2 n2 c2],.nilIface]) (by simp[results,Tryz.results62,go_sem,z0,z1,z2,z3]) rfl ?_;exact⟨_,hzb,.inl ⟨rfl,HC.out.1⟩,.inl ⟨HC.out.1,_,_,rfl,o1,o2⟩⟩
end Go.Proofs.YtalliohkalnaeaaGreatDoor
namespace Go.Proofs.YtalliohkalnaeaaGreatDoor
open Go.RowKit Go.Maps aF aZ dS
end Go.Proofs.YtalliohkalnaeaaGreatDoor
namespace Go.Proofs.YtalliohkalnaeaaGreatDoor
open Go.RowKit Go.Maps aZ
def vC:List (List UInt8×List (Int×Nat))->List UInt8->List (Int×Nat)
 | [],_=>[]
 | r::l,k=>if r.1=k then r.2 else vC l k
theorem M4:∀ {l:List (List UInt8×List (Int×Nat))} {k:List UInt8},(∀ j (hj:j<l.length),l[j].1≠k)->vC l k = []
 | [],_,_=>rfl
 | r::l,k,h=>by
  have h0:r.1≠k:=h 0 (by simp);rw[vC,if_neg h0];exact M4 fun j hj=>by have:=h (j+1) (by simp;omega);simpa using this
theorem Va:∀ {l:List (List UInt8×List (Int×Nat))} {k:List UInt8} {i:Nat} (hi:i<l.length),(∀ j (hj:j<l.length),j<i->l[j].1≠k)->l[i].1=k->vC l k=l[i].2
 | [],_,_,hi,_,_=>by simp at hi
 | r::l,k,0,_,_,h=>by
  have:r.1=k:=h;rw[vC,if_pos this];rfl
 | r::l,k,i+1,hi,h1,h=>by
  have h0:r.1≠k:=h1 0 (by simp) (by omega);rw[vC,if_neg h0];exact Va (i:=i) (by simpa using hi) (fun j hj hji=>by have:=h1 (j+1) (by simp;omega) (by omega);simpa using this) (by simpa using h)
end Go.Proofs.YtalliohkalnaeaaGreatDoor
namespace Go.Proofs.YtalliohkalnaeaaGreatDoor
open Go.RowKit Go.Maps aF aZ
theorem Vb (w:World) (la lb:Option Addr) (ca cb:Nat) (rows:List (List UInt8×List (Int×Nat))) (hA:qj w la rows) (hB:qj w lb rows) (hin:∀ r,r∈rows->mO r.2/\r.2.length<=1000) (hn:rows.length<=1000000) :
  Calls Tryz.prog 12 #[.slice la rows.length ca,.slice lb rows.length cb] w fun e w'=>e = .returned (.bool true)/\Below w.heap.size w w':=by
 have HA:Hid (qj w la rows):=hA;have HB:Hid (qj w lb rows):=hB;have HI:=(show Hid _ from hin);obtain⟨n,hnn⟩:∃ n,rows.length=n:=⟨_,rfl⟩;rw[hnn] at hn ⊢;have HN:=(show Hid _ from hnn);have dn:((n:Int) != (n:Int))=false:=by simp
 clear hA hB hin hnn;go_enter Tryz.func12,Tryz.ntmps12;go_wp2_with fail;go_loopw [5] (fun i wr=>∃ k,k<=n/\i = .int .i64 (k:Int)/\Below w.heap.size w wr) (fun i _=>n-(intOf i).toNat);case atStart=>exact⟨0,Nat.zero_le _,rfl,Below.refl _ _⟩
 case round=>
  obtain⟨k,hk,rfl,hbr⟩:=hrel;have bq:=(show Hid _ from hbr);by_cases hkn:k<n
  ·have hkr:k<rows.length:=by rw[HN.out];exact hkn
   rcases HA.out.below hbr with hx | ⟨b,o,rfl,hc⟩
   ·rw[hx] at hkr;simp at hkr
   rcases HB.out.below hbr with hx | ⟨b',o',rfl,hc'⟩
   ·rw[hx] at hkr;simp at hkr
   obtain⟨c0,A,C,c1,p1⟩:=hc k hkr;obtain⟨d0,A',C',d1,p2⟩:=hc' k hkr;obtain⟨hi1,hi2⟩:=HI.out _ (List.getElem_mem hkr);obtain⟨nm,hnm⟩:∃ nm:ByteArray,nm=⟨(rows[k].1).toArray⟩:=⟨_,rfl⟩;have c0':wr.cell? ⟨b,o+k*2,none⟩=some (.string nm):=by rw[hnm];exact c0
   have d0':wr.cell? ⟨b',o'+k*2,none⟩=some (.string nm):=by rw[hnm];exact d0
   obtain⟨l,hl⟩:∃ l,rows[k].2.length=l:=⟨_,rfl⟩;have hsp:∀ z,Below wr.heap.size wr z->Calls Tryz.prog 17 #[.slice A rows[k].2.length C,.slice A' rows[k].2.length C'] z fun e z'=>e = .returned (.bool true)/\Below wr.heap.size wr z':=fun z hz=>by
    refine (U6 z A A' C C' rows[k].2 (p1.below hz) (p2.below hz) hi1 hi2).mono ?_;rintro e z' ⟨rfl,h⟩;exact⟨rfl,hz.trans (h.mono hz.size)⟩
   rw[hl] at c1 d1 hsp;have HSP:Hid (∀ z,Below wr.heap.size wr z->Calls Tryz.prog 17 #[.slice A l C,.slice A' l C'] z fun e z'=>e = .returned (.bool true)/\(z'.cell? ⟨b,o+k*2,none⟩=some (.string nm)/\z'.cell? ⟨b',o'+k*2,none⟩=some (.string nm)/\z'.cell? ⟨b,o+k*2+1,none⟩=some (.slice A l C)/\z'.cell? ⟨b',o'+k*2+1,none⟩=some (.slice A' l C'))/\Below wr.heap.size wr z'):=fun z hz=>by
    refine (hsp z hz).mono ?_;rintro e z' ⟨rfl,h⟩;have hl0:b<wr.heap.size:=World.block_lt_of_cell? wr ⟨b,_,none⟩ c0';have hl1:b'<wr.heap.size:=World.block_lt_of_cell? wr ⟨b',_,none⟩ d0';exact⟨rfl,⟨(h.cell (p:=⟨b,_,none⟩) hl0).trans c0',(h.cell (p:=⟨b',_,none⟩) hl1).trans d0',(h.cell (p:=⟨b,_,none⟩) hl0).trans c1,(h.cell (p:=⟨b',_,none⟩) hl1).trans d1⟩,h⟩
   have hne:(nm.toList != nm.toList)=false:=by simp
   have hb0:Below wr.heap.size wr wr.drew:=iC (Below.refl _ _);have k0:(0:Int)<=(k:Int):=by omega
   have k1:(k:Int)<(n:Int):=by omega
   clear hbr hc hc' c0 d0 p1 p2 hi1 hi2 hnm hl hsp;go_wp2_with fail;go_region_held3 (fun z=>z.cell? ⟨b,o+k*2,none⟩=some (.string nm)/\z.cell? ⟨b',o'+k*2,none⟩=some (.string nm)/\z.cell? ⟨b,o+k*2+1,none⟩=some (.slice A l C)/\z.cell? ⟨b',o'+k*2+1,none⟩=some (.slice A' l C')) (go_keep) ((go_at_call 17;refine Calls.mono (HSP.out _ hb0) ?_;rintro e w5 ⟨rfl,⟨c0',d0',c1,d1⟩,hb5⟩));have uY:Hid (Below w.heap.size w w5):=bq.out.trans (hb5.mono bq.out.size);clear hb5 HSP;go_wp2;go_roundw;case rel=>exact⟨k+1,by omega,by go_num,uY.out⟩
   case measure=>simp[intOf]<;>omega
  ·obtain rfl:k=n:=by omega
   clear hbr;go_wp2;go_ret;exact⟨rfl,bq.out⟩
end Go.Proofs.YtalliohkalnaeaaGreatDoor
