import Derived.Test.YtcemkhalbjhdkaaGreatDoorBlkRowsGroup
import Derived.Test.YtcemkhalbjhdkaaGreatDoorRegStore
import Derived.Deep.RegionLaw
import Derived.Deep.AppendLies
import Derived.Test.YtcemkhalbjhdkaaGreatDoorRowsDef
set_option maxRecDepth 1000000
set_option maxHeartbeats 8000000
namespace Go.Proofs.YtcemkhalbjhdkaaGreatDoor
open Go.RowKit Go.Maps bS
structure pG (Y z:World) (v:Value) (g:Nat):Prop where
 os:z.os=Y.os
 tape:z.tape=Y.tape
 output:z.output=Y.output
 size:Y.heap.size<=z.heap.size
 blk:∀ q,q<Y.heap.size->v.ownBlock≠some q->z.heap[q]? = Y.heap[q]?
 at':v.ownBlock=some g\/g=Y.heap.size
theorem pG.below {Y z:World} {v:Value} {g b:Nat} (h:pG Y z v g) (hb:b<=Y.heap.size) (hv:∀ q,v.ownBlock=some q->b<=q):Below b Y z:=
 ⟨h.os,h.tape,h.output,h.size,fun q hq=>h.blk q (by omega) (fun e=>by have:=hv q e;omega)⟩
theorem WR {w:World} {b:Nat} {v:Value} {t:TypeId} {fr:Nat×Nat} (h:w.heap[b]? = some (.cells #[v] t fr)):∀ j u,[v][j]? = some u->w.cell? ((⟨b,0,none⟩:Addr).add j)=some u:=World.news_of_block h
theorem Ii (w:World) (o p:Obj):((w.alloc o).alloc p).heap[w.heap.size]? = some o:=by rw[Below.heap_alloc _ _ _ (by simp)];exact heap_alloc_new _ _
theorem Ij (w:World) (o p:Obj):((w.alloc o).alloc p).heap[w.heap.size+1]? = some p:=by have:=heap_alloc_new (w.alloc o) p;simpa using this
theorem Uu {P:Program} {Y:World} {ops:Array Oper} {o:Oper} {a:Act} {K:Act->World->Prop} {Q:Exit->Act->World->Prop} {E:Prop} (hgd:o.guard=none) (s x:Operand) (t:TypeId)
  (ho:o.op = .call { callee:=.builtin .append,args:=#[s,x],argTypes:=#[t,t] }) (base:Nat) (e:TypeId) (i:TypeInfo) (z:Value) (bytes:Nat) (ht:P.underlying t=some (.slice e)) (hi:P.info? e=some i) (hz:i.zero=some z) (hsize:i.size=1) (hby:i.bytes=bytes) (hzs:z.cells.size=1)
  (v:Value) (n:Nat) (xs:List Value) (hs:a.eval s=v) (hown:Y.ownsRow base e 1 v n xs) (b:Nat) (u:Value) (t':TypeId) (fr:Nat×Nat) (hx:a.eval x = .slice (some ⟨b,0,none⟩) 1 1) (hnew:Y.heap[b]? = some (.cells #[u] t' fr)) (h1:u.oneCell'=true) (hn:n<=1000000) (hb:bytes<=100) (hbase:base<=Y.heap.size)
  (h:∀ g cap w',w'.ownsRow base e 1 (.slice (some ⟨g,0,none⟩) (n+1) cap) (n+1) (xs ++ [u])->pG Y w' v g->K (a.put o.dst (.slice (some ⟨g,0,none⟩) (n+1) cap)) w') :
  if Region.wanted o (yielded ops a.tmps)=true then Oper.wp P o a Y K Q else E:=by
 refine step_append_lies _ hgd s x t ho base e i z 1 bytes ht hi hz hsize hby hzs (by decide) v n xs hs hown ⟨b,0,none⟩ 1 1 [u] hx rfl (WR hnew) (fun c hc=>by simp at hc;subst hc;exact h1) (by omega) (by unfold maxLen;omega) ?_ hbase _ rfl ?_
 ·have:(n+1)*bytes<=1000001*100:=Nat.mul_le_mul (by omega) hb;omega
 ·intro g cap w' ho' hg hat _;exact h g cap w' ho' ⟨hg.os,hg.tape,hg.output,hg.size,fun q hq hne=>hg.block q hq (fun e=>hne e.symm),hat⟩
theorem aR {w z:World} (h:Below w.heap.size w z) (o:Obj):Below w.heap.size w (z.alloc o):=h.alloc h.size o
theorem dV {w z:World} (h:Below w.heap.size w z):Below w.heap.size w z.drew:=h.trans ⟨rfl,rfl,rfl,Nat.le_refl _,fun _ _=>rfl⟩
theorem bM {w z:World} {base:Nat} {e:TypeId} {sz:Nat} {v:Value} {n:Nat} {xs:List Value} (h:w.ownsRow base e sz v n xs) (hb:Below w.heap.size w z):z.ownsRow base e sz v n xs:=dA h fun g hg=>hb.block g (bC h hg).2.1
theorem mD {P:Program} {Y:World} {ops:Array Oper} {o:Oper} {a:Act} {K:Act->World->Prop} {Q:Exit->Act->World->Prop} {E:Prop} (w2:World) (hgd:o.guard=none) (s x:Operand) (t:TypeId)
  (ho:o.op = .call { callee:=.builtin .append,args:=#[s,x],argTypes:=#[t,t] }) (base:Nat) (e:TypeId) (i:TypeInfo) (z:Value) (bytes:Nat) (ht:P.underlying t=some (.slice e)) (hi:P.info? e=some i) (hz:i.zero=some z) (hsize:i.size=1) (hby:i.bytes=bytes) (hzs:z.cells.size=1)
  (v:Value) (n:Nat) (xs:List Value) (hs:a.eval s=v) (hown:w2.ownsRow base e 1 v n xs) (hY:Below w2.heap.size w2 Y) (b:Nat) (u:Value) (t':TypeId) (fr:Nat×Nat) (hx:a.eval x = .slice (some ⟨b,0,none⟩) 1 1) (hnew:Y.heap[b]? = some (.cells #[u] t' fr)) (h1:u.oneCell'=true) (hn:n<=1000000) (hb:bytes<=100) (hbase:base<=w2.heap.size)
  (h:∀ g cap w',w'.ownsRow base e 1 (.slice (some ⟨g,0,none⟩) (n+1) cap) (n+1) (xs ++ [u])->pG Y w' v g->Below w2.heap.size w2 Y->K (a.put o.dst (.slice (some ⟨g,0,none⟩) (n+1) cap)) w') :
  if Region.wanted o (yielded ops a.tmps)=true then Oper.wp P o a Y K Q else E:=
 Uu hgd s x t ho base e i z bytes ht hi hz hsize hby hzs v n xs hs (bM hown hY) b u t' fr hx hnew h1 hn hb (Nat.le_trans hbase hY.size) fun g cap w' h1 h2=>h g cap w' h1 h2 hY
theorem Tryz.infoStr3:(Tryz.prog.info? 9).map (fun i=>(i.zero,i.size,i.bytes))=some (some (.string ⟨#[]⟩),1,16):=by kernel_rfl
structure tK (wr:World) (base tb:Nat) (f s:Int) (u1 u2:Value) (ss cs:List (List UInt8)):Prop where
 blk:wr.heap[tb]? = some (.cells #[.int .i64 f,.int .i64 s,u1,u2] 25 (0,0))
 low:tb<base
 lY:wr.ownsRow base 9 1 u1 ss.length (ss.map encStr)
 mM:wr.ownsRow base 9 1 u2 cs.length (cs.map encStr)
 apart:∀ g,u1.ownBlock=some g->u2.ownBlock≠some g
theorem tK.below {wr z:World} {base tb:Nat} {f s:Int} {u1 u2:Value} {ss cs:List (List UInt8)} (h:tK wr base tb f s u1 u2 ss cs) (hb:Below wr.heap.size wr z):tK z base tb f s u1 u2 ss cs:=
 ⟨(hb.block _ (aG h.blk)).trans h.blk,h.low,dA h.lY fun g hg=>hb.block g (bC h.lY hg).2.1,dA h.mM fun g hg=>hb.block g (bC h.mM hg).2.1,h.apart⟩
theorem tK.more {w2 Y1 w7 Y2 w8:World} {base tb:Nat} {f s:Int} {u1 u2:Value} {ss cs:List (List UInt8)} (h:tK w2 base tb f s u1 u2 ss cs) {x y:List UInt8} {g7 iU g8 kG:Nat} (hbase:base<=w2.heap.size) (h1:Below w2.heap.size w2 Y1) (o7:w7.ownsRow base 9 1 (.slice (some ⟨g7,0,none⟩) (ss.length+1) iU) (ss.length+1) (ss.map encStr ++ [.string ⟨x.toArray⟩])) (G7:pG Y1 w7 u1 g7) (h2:Below w7.heap.size w7 Y2)
  (o8:w8.ownsRow base 9 1 (.slice (some ⟨g8,0,none⟩) (cs.length+1) kG) (cs.length+1) (cs.map encStr ++ [.string ⟨y.toArray⟩])) (G8:pG Y2 w8 u2 g8) :
  tK ((w8.setCell ⟨tb,2,none⟩ (.slice (some ⟨g7,0,none⟩) (ss.length+1) iU)).setCell ⟨tb,3,none⟩ (.slice (some ⟨g8,0,none⟩) (cs.length+1) kG)) base tb f s (.slice (some ⟨g7,0,none⟩) (ss.length+1) iU) (.slice (some ⟨g8,0,none⟩) (cs.length+1) kG) (ss ++ [x]) (cs ++ [y])/\w8.heap[tb]? = some (.cells #[.int .i64 f,.int .i64 s,u1,u2] 25 (0,0))/\Below base w2 w8:=by
 have hlow:=h.low;have l1:∀ q,u1.ownBlock=some q->base<=q/\q<w2.heap.size:=fun q hq=>⟨(bC h.lY hq).1,(bC h.lY hq).2.1⟩
 have l2:∀ q,u2.ownBlock=some q->base<=q/\q<w2.heap.size:=fun q hq=>⟨(bC h.mM hq).1,(bC h.mM hq).2.1⟩
 have s1:=h1.size;have s2:=h2.size;have s7:=G7.size;have b1:Below base w2 w7:=(h1.mono hbase).trans (G7.below (by omega) fun q hq=>(l1 q hq).1);have b2:Below base w2 w8:=(b1.trans (h2.mono (by omega))).trans (G8.below (by omega) fun q hq=>(l2 q hq).1);have ht:w8.heap[tb]? = some (.cells #[.int .i64 f,.int .i64 s,u1,u2] 25 (0,0)):=(b2.block tb hlow).trans h.blk;have hg7:g7<w7.heap.size:=(bC (g:=g7) o7 rfl).2.1;have abY:u2.ownBlock≠some g7:=by
  rcases G7.at' with e | e
  ·exact h.apart g7 e
  ·intro e2;have:=(l2 g7 e2).2;omega
 have o7':w8.ownsRow base 9 1 (.slice (some ⟨g7,0,none⟩) (ss.length+1) iU) (ss.length+1) (ss.map encStr ++ [.string ⟨x.toArray⟩]):=dA o7 fun g hg=>by
  simp[Value.ownBlock] at hg;subst hg;exact (G8.blk g7 (by omega) abY).trans (h2.block g7 hg7)
 have aj4:g7≠g8:=by
  rcases G8.at' with e | e
  ·intro e2;subst e2;exact abY e
  ·omega
 have hset:∀ {v:Value} {n:Nat} {xs:List Value} {z:World} (k:Nat) (u:Value),z.ownsRow base 9 1 v n xs->(z.setCell ⟨tb,k,none⟩ u).ownsRow base 9 1 v n xs:=fun k u ho=>dA ho fun g hg=>by
  have:=(bC ho hg).1;exact Below.heap_setCell _ _ _ _ (by show g≠tb;omega)
 refine⟨⟨?_,hlow,?_,?_,fun g e1 e2=>?_⟩,ht,b2⟩
 ·have e1:=dM ht 2 (.slice (some ⟨g7,0,none⟩) (ss.length+1) iU);have e2:=dM (e1.trans (by rfl)) 3 (.slice (some ⟨g8,0,none⟩) (cs.length+1) kG);exact e2.trans (by rfl)
 ·have:=hset 3 (.slice (some ⟨g8,0,none⟩) (cs.length+1) kG) (hset 2 (.slice (some ⟨g7,0,none⟩) (ss.length+1) iU) o7');simpa [encStr] using this
 ·have:=hset 3 (.slice (some ⟨g8,0,none⟩) (cs.length+1) kG) (hset 2 (.slice (some ⟨g7,0,none⟩) (ss.length+1) iU) o8);simpa [encStr] using this
 ·simp[Value.ownBlock] at e1 e2;omega
theorem tK.mid {w2 Y1 w7:World} {base tb:Nat} {f s:Int} {u1 u2:Value} {ss cs:List (List UInt8)} (h:tK w2 base tb f s u1 u2 ss cs) {g7:Nat} (hbase:base<=w2.heap.size) (h1:Below w2.heap.size w2 Y1) (G7:pG Y1 w7 u1 g7) :
  w7.heap[tb]? = some (.cells #[.int .i64 f,.int .i64 s,u1,u2] 25 (0,0))/\w7.ownsRow base 9 1 u2 cs.length (cs.map encStr)/\base<=w7.heap.size/\w2.heap.size<=w7.heap.size/\∀ q o,w2.heap.size<=q->Y1.heap[q]? = some o->w7.heap[q]? = some o:=by
 have hlow:=h.low;have s1:=h1.size;have s7:=G7.size;refine⟨?_,dA h.mM fun g hg=>?_,by omega,by omega,fun q o hq ho=>?_⟩
 ·rw[G7.blk tb (by omega) (fun e=>by have:=(bC h.lY e).1;omega),h1.block tb (by omega)];exact h.blk
 ·have:=(bC h.mM hg).2.1;rw[G7.blk g (by omega) (fun e=>h.apart g e hg),h1.block g this]
 ·rw[G7.blk q (aG ho) (fun e=>by have:=(bC h.lY e).2.1;omega)];exact ho
theorem tK.last {w2 Y1 w7 Y2 w8:World} {base tb:Nat} {f s:Int} {u1 u2:Value} {ss cs:List (List UInt8)} (h:tK w2 base tb f s u1 u2 ss cs) {g7 g8:Nat} (hbase:base<=w2.heap.size) (h1:Below w2.heap.size w2 Y1) (G7:pG Y1 w7 u1 g7) (h2:Below w7.heap.size w7 Y2) (G8:pG Y2 w8 u2 g8) :
  w8.heap[tb]? = some (.cells #[.int .i64 f,.int .i64 s,u1,u2] 25 (0,0)):=by
 have hm:=h.mid hbase h1 G7;have hlow:=h.low;have s2:=h2.size;have s7:=hm.2.2.1;rw[G8.blk tb (by omega) (fun e=>by have:=(bC h.mM e).1;omega),h2.block tb (by omega)];exact hm.1
theorem pG.other {Y z:World} {v:Value} {g:Nat} (G:pG Y z v g) {base n:Nat} {e:TypeId} {xs:List Value} (ho:Y.ownsRow base e 1 v n xs) {b:Nat} {cs:Array Value} {t:TypeId} {fr:Nat×Nat} (hb:Y.heap[b]? = some (.cells cs t fr)) (hne:e≠t):z.heap[b]? = some (.cells cs t fr):=by
 rw[G.blk b (aG hb) (fun e1=>by obtain⟨_,_,cur,hc⟩:=bC ho e1;exact rT hc hb hne rfl)];exact hb
theorem tK.other {w2 Y1 w7:World} {base tb:Nat} {f s:Int} {u1 u2:Value} {ss cs:List (List UInt8)} (h:tK w2 base tb f s u1 u2 ss cs) {g7:Nat} (h1:Below w2.heap.size w2 Y1) (G7:pG Y1 w7 u1 g7) {b:Nat} {c:Array Value} {t:TypeId} {fr:Nat×Nat} (hb:w2.heap[b]? = some (.cells c t fr)) (hne:9≠t):w7.heap[b]? = some (.cells c t fr):=
 G7.other (bM h.lY h1) ((h1.block b (aG hb)).trans hb) hne
end Go.Proofs.YtcemkhalbjhdkaaGreatDoor
namespace Go.Proofs.YtcemkhalbjhdkaaGreatDoor
open Go.RowKit Go.Maps bS
theorem BL {w:World} {base base':Nat} {v:Value} {xs:List Value} {rows:List (List UInt8×List (Int×Nat))} (h:w.ownsRow base 69 2 v rows.length xs) (hr:iq w base' xs rows):∃ a c,v = .slice a rows.length c/\pF w a rows:=by
 obtain⟨_,h2⟩:=h;rcases h2 with⟨hv,h0⟩|⟨g,cap,cur,hv,hg,hh,h1,h2,h3,h4⟩
 ·exact⟨none,0,by rw[hv,h0],.inl (List.eq_nil_of_length_eq_zero h0)⟩
 ·refine⟨_,_,hv,.inr ⟨g,0,rfl,fun k hk=>?_⟩⟩;have hc:∀ j,j<rows.length*2->w.cell? ⟨g,j,none⟩=xs[j]?:=by
   intro j hj;have e0:w.cell? ⟨g,j,none⟩=cur[j]?:=by simp[World.cell?,hh]
   rw[e0,<-Array.getElem?_toList,<-h4,List.getElem?_take_of_lt hj]
  obtain⟨p0,s,p1,ho⟩:=hr.at k hk;obtain⟨a,c,rfl,_,hp,_⟩:=rZ ho;refine⟨?_,a,c,?_,hp⟩
  ·rw[Nat.zero_add,hc _ (by omega)];exact p0
  ·rw[Nat.zero_add,hc _ (by omega)];exact p1
def PY (ea:Nat->Addr) (w w':World) (f s:Int) (rows:List (List UInt8×List (Int×Nat))) (e:Ending):Prop:=
 ∃ v,Below w.heap.size w w'/\bA ea w' v (jL f s rows) (sF f s rows) /\
  ((jL f s rows=0/\∃ u1 u2,e = .returned (.tuple #[.agg #[.int .i64 f,.int .i64 s,u1,u2],v])/\w'.ownsRow w.heap.size 9 1 u1 (full rows).length (((full rows).map Prod.fst).map encStr)/\w'.ownsRow w.heap.size 9 1 u2 (full rows).length (((full rows).map fun r=>iJ r.2).map encStr)) \/
   (jL f s rows≠0/\e = .returned (.tuple #[.agg #[.int .i64 0,.int .i64 0,.slice none 0 0,.slice none 0 0],v])))
structure Am (w wr:World) (tb:Nat) (f s:Int) (rows:List (List UInt8×List (Int×Nat))) (k:Nat) (v10 u1 u2:Value):Prop where
 le:k<=rows.length
 ah:v10 = .string ⟨(prev (rows.map Prod.fst) k).toArray⟩
 ok:∀ j,j<k->rowAt f s rows j=0
 res:wr.heap[w.heap.size]? = some (.cells #[.int .i64 0,.int .i64 0,.slice none 0 0,.slice none 0 0] 25 (0,0))
 two:tK wr (tb+1) tb f s u1 u2 ((full (rows.take k)).map Prod.fst) ((full (rows.take k)).map fun r=>iJ r.2)
 aL:Below w.heap.size w wr
 jF:tb+1<=wr.heap.size
theorem oh {z:World} {b:Nat} {p0 p1 p2 p3:Value} {t:TypeId} (h:z.heap[b]? = some (.cells #[p0,p1,p2,p3] t (0,0))) (v0 v1 v2 v3:Value):((((z.setCell ⟨b,0,none⟩ v0).setCell ⟨b,1,none⟩ v1).setCell ⟨b,2,none⟩ v2).setCell ⟨b,3,none⟩ v3).heap[b]? = some (.cells #[v0,v1,v2,v3] t (0,0)):=by
 have e1:=(dM h 0 v0).trans (show _=some (Obj.cells #[v0,p1,p2,p3] t (0,0)) by rfl);have e2:=(dM e1 1 v1).trans (show _=some (Obj.cells #[v0,v1,p2,p3] t (0,0)) by rfl);have e3:=(dM e2 2 v2).trans (show _=some (Obj.cells #[v0,v1,v2,p3] t (0,0)) by rfl);exact (dM e3 3 v3).trans (by rfl)
theorem gH {B:Nat} {w z:World} {b:Nat} (h:Below B w z) (hb:B<=b) (v0 v1 v2 v3:Value):Below B w ((((z.setCell ⟨b,0,none⟩ v0).setCell ⟨b,1,none⟩ v1).setCell ⟨b,2,none⟩ v2).setCell ⟨b,3,none⟩ v3):=
 (((h.setCell hb v0).setCell hb v1).setCell hb v2).setCell hb v3
theorem kQ {z:World} {base:Nat} {e t:TypeId} {sz:Nat} {v:Value} {n:Nat} {xs:List Value} {b:Nat} {cs:Array Value} {fr:Nat×Nat} (h:z.ownsRow base e sz v n xs) (hb:z.heap[b]? = some (.cells cs t fr)) (hne:e≠t) (v0 v1 v2 v3:Value):((((z.setCell ⟨b,0,none⟩ v0).setCell ⟨b,1,none⟩ v1).setCell ⟨b,2,none⟩ v2).setCell ⟨b,3,none⟩ v3).ownsRow base e sz v n xs:=
 dA h fun g hg=>by
  obtain⟨_,_,cur,hc⟩:=bC h hg;have hgb:g≠b:=rT hc hb hne;rw[Below.heap_setCell _ _ _ _ hgb,Below.heap_setCell _ _ _ _ hgb,Below.heap_setCell _ _ _ _ hgb,Below.heap_setCell _ _ _ _ hgb]
theorem u6 (x:ByteArray):(⟨x.data.toList.toArray⟩:ByteArray)=x:=by cases x;simp
theorem Ik {B:Nat} {ea:Nat->Addr} (w:World) (E:og B ea w) (hB:B<=w.heap.size) (f s:Int) (la:Option Addr) (c:Nat) (rows:List (List UInt8×List (Int×Nat))) (hP:pF w la rows) (hin:∀ r,r∈rows->oQ r.2/\r.1.length<=1000/\r.2.length<=1000) (hn:rows.length<=1000) :
  Calls Tryz.prog 14 #[.int .i64 f,.int .i64 s,.slice la rows.length c] w fun e w'=>PY ea w w' f s rows e:=by
 obtain⟨W,hW⟩:∃ W,W=w.alloc (.cells #[.int .i64 0,.int .i64 0,.slice none 0 0,.slice none 0 0] 25):=⟨_,rfl⟩;have hbW:Below w.heap.size w W:=by rw[hW];exact (Below.refl _ _).alloc (Nat.le_refl _) _
 have hx:W.heap[w.heap.size]? = some (.cells #[.int .i64 0,.int .i64 0,.slice none 0 0,.slice none 0 0] 25 (0,0)):=by rw[hW];exact heap_alloc_new _ _
 have hWs:W.heap.size=w.heap.size+1:=by rw[hW];simp
 have HW:=(show Hid _ from hW);have cO:=(show Hid _ from hbW);have HE:=(show Hid _ from E);have CR:=(show Hid _ from hWs);have HX:=(show Hid _ from hx);have HP:Hid (pF w la rows):=hP;have jm:Hid (∀ r,r∈rows->oQ r.2/\r.1.length<=1000/\r.2.length<=1000):=hin;have kb:=(E.below hbW hB).uo.c1;clear hW hbW hx E hP hin hWs;obtain⟨n,hnn⟩:∃ n,n=rows.length:=⟨_,rfl⟩;have HN:=(show Hid _ from hnn.symm);rw[<-hnn] at hn ⊢;clear hnn;go_enter Tryz.func14,Tryz.ntmps14;go_upto_region 1 with fail;rw[<-HW.out];by_cases hbad:gI f s≠0\/60<n
 ·have qj:=(show Hid _ from DK W f s n (by omega) hbad (ea 1) kb);obtain⟨hC,hA⟩:=BD (f:=f) (s:=s) (rows:=rows) (by rw[HN.out];exact hbad);have HC:=(show Hid _ from And.intro hC hA);have p0:W.cell? ⟨w.heap.size,0,none⟩=some (.int .i64 0):=ak HX.out 0;have p1:W.cell? ⟨w.heap.size,1,none⟩=some (.int .i64 0):=ak HX.out 1;have p2:W.cell? ⟨w.heap.size,2,none⟩=some (.slice none 0 0):=ak HX.out 2;have p3:W.cell? ⟨w.heap.size,3,none⟩=some (.slice none 0 0):=ak HX.out 3;have pf:∀ k,W.frozen? ⟨w.heap.size,k,none⟩=false:=fun k=>by simp[World.frozen?,HX.out]
  clear hC hA hbad;go_wp2_with fail;refine Calls.mono qj.out ?_;rintro e w1 ⟨rfl,hw1⟩;have bq:=hw1;subst bq;go_wp2;obtain⟨Z,hZ⟩:∃ Z,Z=((((w1.setCell ⟨w.heap.size,0,none⟩ (.int .i64 0)).setCell ⟨w.heap.size,1,none⟩ (.int .i64 0)).setCell ⟨w.heap.size,2,none⟩ (.slice none 0 0)).setCell ⟨w.heap.size,3,none⟩ (.slice none 0 0)):=⟨_,rfl⟩;rw[<-hZ];have kM:Z.heap[w.heap.size]? = some (.cells #[.int .i64 0,.int .i64 0,.slice none 0 0,.slice none 0 0] 25 (0,0)):=by rw[hZ];exact oh HX.out _ _ _ _
  have hzb:Below w.heap.size w Z:=by rw[hZ];exact gH cO.out (Nat.le_refl _) _ _ _ _
  have z0:Z.cell? ⟨w.heap.size,0,none⟩=some (.int .i64 0):=ak kM 0;have z1:Z.cell? ⟨w.heap.size,1,none⟩=some (.int .i64 0):=ak kM 1;have z2:Z.cell? ⟨w.heap.size,2,none⟩=some (.slice none 0 0):=ak kM 2;have z3:Z.cell? ⟨w.heap.size,3,none⟩=some (.slice none 0 0):=ak kM 3;clear hZ kM;refine bodyPost_ret (v:=.tuple #[.agg #[.int .i64 0,.int .i64 0,.slice none 0 0,.slice none 0 0],.iface 311 (.pointer (some (ea 1)))]) (by simp[results,Tryz.results14,go_sem,z0,z1,z2,z3]) rfl ?_;exact⟨_,hzb,by rw[HC.out.1,HC.out.2];exact bA.es 1 (by decide) (by decide),.inr ⟨fun h=>absurd (HC.out.1.symm.trans h) (by decide),rfl⟩⟩
 ·have wY:=(show Hid _ from hbad);have hbd:gI f s=0:=Decidable.not_not.1 fun h=>hbad (.inl h)
  have DN:n<=60:=by
   rcases Nat.lt_or_ge 60 n with h | h
   ·exact absurd (.inr h) hbad
   ·exact h
  have qj:=(show Hid _ from Fq W f s n hbd DN);clear hbad;go_wp2_with fail;refine Calls.mono qj.out ?_;rintro e w1 ⟨rfl,hw1⟩;have bq:=hw1;subst bq;clear qj kb;obtain⟨W2,hW2⟩:∃ W2,W2=w1.alloc (.cells #[.int .i64 f,.int .i64 s,.slice none 0 0,.slice none 0 0] 25):=⟨_,rfl⟩;have HW2:Hid (∀ wx,wx=w1.alloc (.cells #[.int .i64 f,.int .i64 s,.slice none 0 0,.slice none 0 0] 25)->wx=W2):=fun wx h=>h.trans hW2.symm
  obtain⟨tb,htb⟩:∃ tb,tb=w1.heap.size:=⟨_,rfl⟩;have h0:Am w W2 tb f s rows 0 (.string ⟨#[]⟩) (.slice none 0 0) (.slice none 0 0):=by
   refine⟨Nat.zero_le _,rfl,fun j h=>absurd h (Nat.not_lt_zero _),?_,⟨?_,Nat.lt_succ_self _,⟨rfl,.inl ⟨rfl,by simp[full]⟩⟩,⟨rfl,.inl ⟨rfl,by simp[full]⟩⟩,fun g e=>by simp[Value.ownBlock] at e⟩,?_,?_⟩
   ·rw[hW2,heap_alloc_old _ _ (aG HX.out)];exact HX.out
   ·rw[hW2,htb];exact heap_alloc_new _ _
   ·rw[hW2];exact cO.out.alloc cO.out.size _
   ·rw[hW2,htb];simp
  have Nh:=(show Hid _ from h0);have Ka:w.heap.size<tb:=by have:=CR.out;omega
  clear h0 hW2;go_wp2_with fail;rw[HW2.out _ rfl,<-htb];clear htb HW2 HX cO HW CR;go_loopw [10,29] (fun v10 i wr=>∃ (k:Nat) (u1 u2:Value),i = .int .i64 (k:Int)/\Am w wr tb f s rows k v10 u1 u2) (fun _ i _=>n-(intOf i).toNat);case atStart=>exact⟨0,_,_,rfl,Nh.out⟩
  case round=>
   obtain⟨k,u1,u2,rfl,hm⟩:=hrel;have HM:=(show Hid _ from hm);have hah:=hm.ah;obtain⟨a1,c1,rfl⟩:=aV hm.two.lY;obtain⟨a2,c2,rfl⟩:=aV hm.two.mM;have hsz:=hm.jF;have hbel:=hm.aL.size;subst hah;clear hm Nh;by_cases hkn:k<n
   ·have hkr:k<rows.length:=by rw[HN.out];exact hkn
    rcases HP.out with h0 | ⟨b,o,rfl,hcs⟩
    ·rw[h0] at hkr;exact absurd hkr (Nat.not_lt_zero _)
    obtain⟨e1,A,C,e2,hpt⟩:=hcs k hkr;have hbl:b<w.heap.size:=World.block_lt_of_cell? w ⟨b,_,none⟩ e1;obtain⟨Nq,hl1,hl2⟩:=jm.out _ (List.getElem_mem hkr);obtain⟨nm,hnm⟩:∃ nm:ByteArray,nm=⟨(rows[k].1).toArray⟩:=⟨_,rfl⟩;obtain⟨ah,hah⟩:∃ ah:ByteArray,ah=⟨(prev (rows.map Prod.fst) k).toArray⟩:=⟨_,rfl⟩;rw[<-hah];have q1:wr.cell? ⟨b,o+k*2,none⟩=some (.string nm):=by rw[hnm];exact (HM.out.aL.cell (p:=⟨b,_,none⟩) hbl).trans e1
    have q2:wr.cell? ⟨b,o+k*2+1,none⟩=some (.slice A rows[k].2.length C):=(HM.out.aL.cell (p:=⟨b,_,none⟩) hbl).trans e2;have k0:(0:Int)<=(k:Int):=by omega
    have k1:(k:Int)<(n:Int):=by omega
    obtain⟨nk,hnk⟩:∃ nk,nk=rows[k].2.length:=⟨_,rfl⟩;have hsA:rowAt f s rows k=lG f s ah.data.toList nm.data.toList rows[k].2:=by
     unfold rowAt;rw[hah,hnm,(l7 hkr).1,(l7 hkr).2]
    have RV:=fun (WA:World) (hb:Below w.heap.size w WA)=>Nl WA (HE.out.below hb hB) (Nat.le_trans hB hb.size) a1 a2 A ((full (rows.take k)).map Prod.fst).length c1 ((full (rows.take k)).map fun r=>iJ r.2).length c2 C f s hbd nm ah (Nat.le_trans (m:=1000) (by rw[hnm];simpa [ByteArray.size] using hl1) (by decide)) rows[k].2 (hpt.below hb) Nq hl2
    rw[<-hnk] at q2 RV;rw[<-hsA] at RV;have qZ:=(show Hid _ from And.intro hnm hah);have Yn:=(show Hid _ from hnk);have pR:=(show Hid _ from RV);obtain⟨WA,Yo⟩:∃ WA,WA=wr.alloc (.cells #[.string nm,.slice A nk C] 69):=⟨_,rfl⟩;have o9:Below wr.heap.size wr WA:=by rw[Yo];exact (Below.refl _ _).alloc (Nat.le_refl _) _
    have hra:WA.heap[wr.heap.size]? = some (.cells #[.string nm,.slice A nk C] 69 (0,0)):=by rw[Yo];exact heap_alloc_new _ _
    have zw:=HM.out.two.below o9;have x0:WA.cell? ⟨tb,0,none⟩=some (.int .i64 f):=ak zw.blk 0;have x1:WA.cell? ⟨tb,1,none⟩=some (.int .i64 s):=ak zw.blk 1;have x2:WA.cell? ⟨tb,2,none⟩=some (.slice a1 _ c1):=ak zw.blk 2;have x3:WA.cell? ⟨tb,3,none⟩=some (.slice a2 _ c2):=ak zw.blk 3;have y0:WA.cell? ⟨wr.heap.size,0,none⟩=some (.string nm):=ak hra 0;have y1:WA.cell? ⟨wr.heap.size,1,none⟩=some (.slice A nk C):=ak hra 1;have jY:Hid (∀ wx,wx=wr.alloc (.cells #[.string nm,.slice A nk C] 69)->wx=WA):=fun wx h=>h.trans Yo.symm
    have gW:=(show Hid _ from o9);have mQ:=(show Hid _ from hra);have Ak:=(show Hid _ from zw);clear e1 e2 hpt hnm hah hnk hsA RV o9 hra zw Yo hcs Nq hl1 hl2;go_upto_region 9 with fail;rw[jY.out _ rfl];generalize hg1:((full (rows.take k)).map Prod.fst).length=n1 at *;generalize hg2:((full (rows.take k)).map fun r=>iJ r.2).length=n2 at *;have HG:=(show Hid _ from And.intro hg1 hg2);clear hg1 hg2;go_wp2_with fail;refine Calls.mono (pR.out WA (HM.out.aL.trans (gW.out.mono hbel))) ?_;rintro e w2 ⟨x,v,AA,rfl,hb2,hf2,hx2⟩;have HB2:=(show Hid _ from hb2);have gP:Hid (bA ea w2 v (rowAt f s rows k) AA):=hf2;have jK:Hid (rowAt f s rows k=0->x.data.toList=iJ rows[k].2):=hx2;have kF:=(show Hid _ from (HM.out.aL.trans (gW.out.mono hbel)).trans (hb2.mono (Nat.le_trans hbel gW.out.size)));have hs2:wr.heap.size<w2.heap.size:=Nat.lt_of_lt_of_le (aG mQ.out) hb2.size;clear hb2 hf2 hx2 pR x0 x1 x2 x3 y0 y1 q1 q2;by_cases hs0:rowAt f s rows k=0
    ·have hv:=gP.out.none hs0;subst hv;have hx:=jK.out hs0;have h2r:w2.heap[wr.heap.size]? = some (.cells #[.string nm,.slice A nk C] 69 (0,0)):=(HB2.out.block _ (aG mQ.out)).trans mQ.out;have h2t:=Ak.out.below HB2.out;have y0:w2.cell? ⟨wr.heap.size,0,none⟩=some (.string nm):=ak h2r 0;have y1:w2.cell? ⟨wr.heap.size,1,none⟩=some (.slice A nk C):=ak h2r 1;have dG:Hid (∀ j,j<k+1->rowAt f s rows j=0):=fun j hj=>by
      rcases Nat.lt_or_ge j k with h | h
      ·exact HM.out.ok j h
      ·obtain rfl:j=k:=by omega
       exact hs0
     have hres:w2.heap[w.heap.size]? = some (.cells #[.int .i64 0,.int .i64 0,.slice none 0 0,.slice none 0 0] 25 (0,0)):=(HB2.out.block _ (Nat.lt_of_lt_of_le (aG HM.out.res) gW.out.size)).trans ((gW.out.block _ (aG HM.out.res)).trans HM.out.res);have wI:=(show Hid _ from hres);have mg:Hid (full (rows.take (k+1))=if 0<nk then full (rows.take k) ++ [rows[k]] else full (rows.take k)):=by
      show _=_;rw[List.take_succ_eq_append_getElem hkr,JQ,Yn.out]
     have Yp:Hid (prev (rows.map Prod.fst) (k+1)=nm.data.toList):=by
      show _=_;rw[J6 (by simpa using hkr),qZ.out.1];simp
     have zx:=(show Hid _ from h2r);have Kc:=(show Hid _ from h2t);clear hres h2r h2t hs0;by_cases hz:0<nk
     ·have hd:decide ((0:Int)<(nk:Int))=true:=by simp;omega
      obtain⟨iS,hS,hS0,hS1,hS2⟩:=info_parts Tryz.infoStr3;have Ao:=(show Hid _ from hS);have t2:w2.cell? ⟨tb,2,none⟩=some (.slice a1 n1 c1):=ak Kc.out.blk 2;have t3:w2.cell? ⟨tb,3,none⟩=some (.slice a2 n2 c2):=ak Kc.out.blk 3;have htl:tb<w2.heap.size:=aG Kc.out.blk;have hn1:n1<=60/\n2<=60:=by
       have h1:=HG.out.1;have h2:=HG.out.2;have h3:(full (rows.take k)).length<=(rows.take k).length:=List.length_filter_le ..;have h4:(rows.take k).length<=k:=by simp;omega
       simp only[List.length_map] at h1 h2;omega
      have wQ:tb+1<=w2.heap.size:=htl;clear hS;go_wp2_with fail;obtain⟨Ap,RX⟩:∃ Ap:List (List UInt8),Ap=((full (rows.take k)).map fun r=>iJ r.2):=⟨_,rfl⟩;have HT2:Hid (tK w2 (tb+1) tb f s (.slice a1 n1 c1) (.slice a2 n2 c2) ((full (rows.take k)).map Prod.fst) Ap):=by rw[RX];exact Kc.out
      have zo:Hid (Ap.length=n2):=by rw[RX];exact HG.out.2
      have T9:=(show Hid _ from RX);clear RX;have sQ:Hid (w2.ownsRow (tb+1) 9 1 (.slice a1 n1 c1) n1 (((full (rows.take k)).map Prod.fst).map encStr)):=by have:=Kc.out.lY;rw[HG.out.1] at this;exact this
      have qE:Hid (∀ z,Below w2.heap.size w2 z->(z.cell? ⟨tb,2,none⟩=some (.slice a1 n1 c1)/\z.cell? ⟨tb,3,none⟩=some (.slice a2 n2 c2)/\z.cell? ⟨wr.heap.size,0,none⟩=some (.string nm))):=fun z hz=>by
       have q1:=(hz.block _ (aG Kc.out.blk)).trans Kc.out.blk;have q2:=(hz.block _ (aG zx.out)).trans zx.out;exact⟨ak q1 2,ak q1 3,ak q2 0⟩
      have HXC:Hid (x.data.toList=iJ rows[k].2):=hx;clear hx;refine mJ (S:=fun w'=>(w'.cell? ⟨tb,2,none⟩=some (.slice a1 n1 c1)/\w'.cell? ⟨tb,3,none⟩=some (.slice a2 n2 c2)/\w'.cell? ⟨wr.heap.size,0,none⟩=some (.string nm))) (by kernel_rfl) 12 ⟨t2,t3,y0⟩ (fun hHeld=>?_);refine gU (i:=0) (v:=.pointer (some ⟨tb,2,none⟩)) rfl (by kernel_rfl) (by kernel_rfl) (by kernel_rfl) (by kernel_rfl) (by kernel_rfl) (by kernel_rfl) (fun _ _ _ h=>h) (Or.inl ⟨by rfl,?_⟩) hHeld ?_
      ·intro w hSw;obtain⟨g2,g3,g4⟩:=hSw;go_simp
      try simp only[Act.put]
      refine gU (i:=1) (v:=.slice a1 n1 c1) rfl (by kernel_rfl) (by kernel_rfl) (by kernel_rfl) (by kernel_rfl) (by kernel_rfl) (by kernel_rfl) (fun _ _ _ h=>h) (Or.inl ⟨by rfl,?_⟩) hHeld ?_
      ·intro w hSw;obtain⟨g2,g3,g4⟩:=hSw;go_simp
      try simp only[Act.put]
      refine gU (i:=2) (v:=.pointer (some ⟨wr.heap.size,0,none⟩)) rfl (by kernel_rfl) (by kernel_rfl) (by kernel_rfl) (by kernel_rfl) (by kernel_rfl) (by kernel_rfl) (fun _ _ _ h=>h) (Or.inl ⟨by rfl,?_⟩) hHeld ?_
      ·intro w hSw;obtain⟨g2,g3,g4⟩:=hSw;go_simp
      try simp only[Act.put]
      refine gU (i:=3) (v:=.string nm) rfl (by kernel_rfl) (by kernel_rfl) (by kernel_rfl) (by kernel_rfl) (by kernel_rfl) (by kernel_rfl) (fun _ _ _ h=>h) (Or.inl ⟨by rfl,?_⟩) hHeld ?_
      ·intro w hSw;obtain⟨g2,g3,g4⟩:=hSw;go_simp
      try simp only[Act.put]
      refine gU (i:=6) (v:=.pointer (some ⟨tb,3,none⟩)) rfl (by kernel_rfl) (by kernel_rfl) (by kernel_rfl) (by kernel_rfl) (by kernel_rfl) (by kernel_rfl) (fun _ _ _ h=>h) (Or.inl ⟨by rfl,?_⟩) hHeld ?_
      ·intro w hSw;obtain⟨g2,g3,g4⟩:=hSw;go_simp
      try simp only[Act.put]
      refine gU (i:=7) (v:=.slice a2 n2 c2) rfl (by kernel_rfl) (by kernel_rfl) (by kernel_rfl) (by kernel_rfl) (by kernel_rfl) (by kernel_rfl) (fun _ _ _ h=>h) (Or.inl ⟨by rfl,?_⟩) hHeld ?_
      ·intro w hSw;obtain⟨g2,g3,g4⟩:=hSw;go_simp
      try simp only[Act.put]
      refine bV (i:=8) (v:=.string x) rfl (by kernel_rfl) (by kernel_rfl) (by kernel_rfl) (by kernel_rfl) (fun _ _ _ h=>h) (Or.inl ⟨by rfl,?_⟩) (fun _=>hHeld) ?_
      ·intro w _;go_simp
      try simp only[Act.put]
      refine bH (rs:=[4,9]) (by kernel_rfl) (by simp) ?_;refine aI.cons rfl (fun K hK=>?_) (aI.cons rfl (fun K hK=>?_) aI.nil)
      ·go_simp
       refine hK.out _ _ (qE.out _ (by repeat (first | exact Below.refl _ _ | with_reducible apply aR | with_reducible apply dV))) ?_;clear hK K;try simp only[Act.put]
       refine bH (rs:=[5,9]) (by kernel_rfl) (by simp) ?_;refine aI.cons rfl (fun K hK=>?_) (aI.cons rfl (fun K hK=>?_) aI.nil)
       ·refine mD w2 (by rfl) _ _ 23 (by rfl) (tb+1) 9 iS (.string ⟨#[]⟩) 16 Tryz.underlying23 Ao.out hS0 hS1 hS2 (by rfl) (.slice a1 n1 c1) n1 (((full (rows.take k)).map Prod.fst).map encStr) (by rfl) sQ.out (by repeat (first | exact Below.refl _ _ | with_reducible apply aR | with_reducible apply dV)) _ _ _ _ (by rfl) (by first | exact heap_alloc_new _ _ | exact Ii _ _ _ | exact Ij _ _ _) (by rfl) (by omega) (by decide) wQ ?_;intro g7 iU w7 dW iV qm;obtain⟨m1,m2,m3,m4,m5⟩:=HT2.out.mid wQ qm iV;have DU:Hid (w7.ownsRow (tb+1) 9 1 (.slice a2 n2 c2) n2 (Ap.map encStr)):=by rw[zo.out] at m2;exact m2
        have DV:=(show Hid _ from m5);have DI:=(show Hid _ from m3);have Ke:=(show Hid _ from dW);have vY:=(show Hid _ from iV);have vZ:=(show Hid _ from qm);have Co:Hid (∀ z,Below w7.heap.size w7 z->(z.cell? ⟨tb,2,none⟩=some (.slice a1 n1 c1)/\z.cell? ⟨tb,3,none⟩=some (.slice a2 n2 c2)/\z.cell? ⟨wr.heap.size,0,none⟩=some (.string nm))):=fun z hz=>by
         have q1:=(hz.block _ (aG m1)).trans m1;have q2:=(hz.block _ (aG (HT2.out.other qm iV zx.out (by decide)))).trans (HT2.out.other qm iV zx.out (by decide));exact⟨ak q1 2,ak q1 3,ak q2 0⟩
        clear dW iV qm m1 m2 m3 m5;refine hK.out _ _ (Co.out _ (Below.refl _ _)) ?_;clear hK K;try simp only[Act.put]
        refine bV (i:=11) (v:=.pointer (some ⟨tb,2,none⟩)) rfl (by kernel_rfl) (by kernel_rfl) (by kernel_rfl) (by kernel_rfl) (fun _ _ _ h=>h) (Or.inl ⟨by rfl,?_⟩) (fun _=>Co.out _ (Below.refl _ _)) ?_
        ·intro w _;go_simp
        try simp only[Act.put]
        refine bH (rs:=[9]) (by kernel_rfl) (by simp) ?_;refine aI.cons rfl (fun K hK=>?_) aI.nil;go_simp
        refine hK.out _ _ (Co.out _ (by repeat (first | exact Below.refl _ _ | with_reducible apply aR | with_reducible apply dV))) ?_;clear hK K;try simp only[Act.put]
        refine bH (rs:=[10]) (by kernel_rfl) (by simp) ?_;refine aI.cons rfl (fun K hK=>?_) aI.nil;refine mD w7 (by rfl) _ _ 23 (by rfl) (tb+1) 9 iS (.string ⟨#[]⟩) 16 Tryz.underlying23 Ao.out hS0 hS1 hS2 (by rfl) (.slice a2 n2 c2) n2 (Ap.map encStr) (by rfl) DU.out (by repeat (first | exact Below.refl _ _ | with_reducible apply aR | with_reducible apply dV)) _ _ _ _ (by rfl) (by exact heap_alloc_new _ _) (by rfl) (by omega) (by decide) DI.out ?_;intro g8 kG w8 ng lI jW;have sH:=HT2.out.last wQ vZ.out vY.out jW lI;have Kg:=HT2.out.more (x:=nm.data.toList) (y:=x.data.toList) wQ vZ.out (by rw[HG.out.1,u6 nm];exact Ke.out) vY.out jW (by rw[zo.out,u6 x];exact ng) lI;have EW:=(show Hid _ from Kg);have Uw:w8.cell? ⟨tb,2,none⟩=some (.slice a1 n1 c1):=ak sH 2;have Ux:w8.cell? ⟨tb,3,none⟩=some (.slice a2 n2 c2):=ak sH 3;have f8:∀ q,w8.frozen? ⟨tb,q,none⟩=false:=fun q=>by simp[World.frozen?,sH]
        have Aq:Hid ((w8.cell? ⟨tb,2,none⟩=some (.slice a1 n1 c1)/\w8.cell? ⟨tb,3,none⟩=some (.slice a2 n2 c2)/\w8.cell? ⟨wr.heap.size,0,none⟩=some (.string nm))):=by
         have q1:=sH;have q2:=(show pG _ w8 _ _ from lI).other (bM DU.out jW) ((jW.block _ (aG (HT2.out.other vZ.out vY.out zx.out (by decide)))).trans (HT2.out.other vZ.out vY.out zx.out (by decide))) (by decide);exact⟨ak q1 2,ak q1 3,ak q2 0⟩
        clear ng lI jW Kg;refine hK.out _ _ Aq.out ?_;clear hK K;try simp only[Act.put]
        refine bH (rs:=[12]) (by kernel_rfl) (by simp) ?_;refine aI.last rfl (by kernel_rfl) (fun K hK=>?_) aI.nil;go_simp
        refine hK.out _ _ ?_;clear hK K;try simp only[Act.put]
        refine bV (i:=13) (v:=.pointer (some ⟨tb,3,none⟩)) rfl (by kernel_rfl) (by kernel_rfl) (by kernel_rfl) (by kernel_rfl) (fun _ _ _ h=>h) (Or.inl ⟨by rfl,?_⟩) (fun _=>absurd ‹_› (by decide)) ?_
        ·intro w _;go_simp
        try simp only[Act.put]
        obtain⟨Z8,q9⟩:∃ Z8,Z8=w8.setCell ⟨tb,2,none⟩ (.slice (some ⟨g7,0,none⟩) (n1+1) iU):=⟨_,rfl⟩;have DW:Z8.heap[tb]? = some (.cells #[.int .i64 f,.int .i64 s,.slice (some ⟨g7,0,none⟩) (n1+1) iU,.slice a2 n2 c2] 25 (0,0)):=by rw[q9];exact (dM sH 2 _).trans (by rfl)
        have c93:Z8.cell? ⟨tb,3,none⟩=some (.slice a2 n2 c2):=ak DW 3;have f9:∀ q,Z8.frozen? ⟨tb,q,none⟩=false:=fun q=>by simp[World.frozen?,DW]
        rw[<-q9];have Fv:=(show Hid _ from q9);clear q9 DW sH Uw Ux f8;refine bH (rs:=[14]) (by kernel_rfl) (by simp) ?_;refine aI.last rfl (by kernel_rfl) (fun K hK=>?_) aI.nil;go_simp
        refine hK.out _ _ ?_;clear hK K;refine fP (by kernel_rfl) ?_ _;have fu:Hid (Am w (Z8.setCell ⟨tb,3,none⟩ (.slice (some ⟨g8,0,none⟩) (n2+1) kG)) tb f s rows (k+1) (.string nm) (.slice (some ⟨g7,0,none⟩) (n1+1) iU) (.slice (some ⟨g8,0,none⟩) (n2+1) kG)):=by
         obtain⟨j1,j2,j3⟩:=EW.out;rw[Fv.out];have hfl:full (rows.take (k+1))=full (rows.take k) ++ [rows[k]]:=by rw[mg.out,if_pos hz]
         have e1:(full (rows.take (k+1))).map Prod.fst=(full (rows.take k)).map Prod.fst ++ [nm.data.toList]:=by rw[hfl,List.map_append,qZ.out.1];simp
         have e2:((full (rows.take (k+1))).map fun r=>iJ r.2)=Ap ++ [x.data.toList]:=by rw[hfl,List.map_append,HXC.out,T9.out];simp
         have hw8:=j3.size;refine⟨by omega,by rw[Yp.out],dG.out,?_,?_,?_,?_⟩
         ·rw[Below.heap_setCell _ _ _ _ (by show w.heap.size≠tb;omega),Below.heap_setCell _ _ _ _ (by show w.heap.size≠tb;omega),j3.block _ (by omega)];exact wI.out
         ·rw[e1,e2];rw[HG.out.1,zo.out] at j1;exact j1
         ·exact ((kF.out.trans (j3.mono (by omega))).setCell (by show w.heap.size<=tb;omega) _).setCell (by show w.heap.size<=tb;omega) _
         ·simp
          omega
        clear EW Fv Ke vY vZ DU DI DV Co Aq;go_wp2;go_roundw;case rel=>exact⟨k+1,_,_,by go_num,fu.out⟩
        case measure=>simp[intOf]<;>omega
       ·go_simp
        refine hK.out _ _ (qE.out _ (by repeat (first | exact Below.refl _ _ | with_reducible apply aR | with_reducible apply dV))) ?_;clear hK K;try simp only[Act.put]
        refine bH (rs:=[5]) (by kernel_rfl) (by simp) ?_;refine aI.cons rfl (fun K hK=>?_) aI.nil;refine mD w2 (by rfl) _ _ 23 (by rfl) (tb+1) 9 iS (.string ⟨#[]⟩) 16 Tryz.underlying23 Ao.out hS0 hS1 hS2 (by rfl) (.slice a1 n1 c1) n1 (((full (rows.take k)).map Prod.fst).map encStr) (by rfl) sQ.out (by repeat (first | exact Below.refl _ _ | with_reducible apply aR | with_reducible apply dV)) _ _ _ _ (by rfl) (by first | exact heap_alloc_new _ _ | exact Ii _ _ _ | exact Ij _ _ _) (by rfl) (by omega) (by decide) wQ ?_;intro g7 iU w7 dW iV qm;obtain⟨m1,m2,m3,m4,m5⟩:=HT2.out.mid wQ qm iV;have DU:Hid (w7.ownsRow (tb+1) 9 1 (.slice a2 n2 c2) n2 (Ap.map encStr)):=by rw[zo.out] at m2;exact m2
        have DV:=(show Hid _ from m5);have DI:=(show Hid _ from m3);have Ke:=(show Hid _ from dW);have vY:=(show Hid _ from iV);have vZ:=(show Hid _ from qm);have Co:Hid (∀ z,Below w7.heap.size w7 z->(z.cell? ⟨tb,2,none⟩=some (.slice a1 n1 c1)/\z.cell? ⟨tb,3,none⟩=some (.slice a2 n2 c2)/\z.cell? ⟨wr.heap.size,0,none⟩=some (.string nm))):=fun z hz=>by
         have q1:=(hz.block _ (aG m1)).trans m1;have q2:=(hz.block _ (aG (HT2.out.other qm iV zx.out (by decide)))).trans (HT2.out.other qm iV zx.out (by decide));exact⟨ak q1 2,ak q1 3,ak q2 0⟩
        clear dW iV qm m1 m2 m3 m5;refine hK.out _ _ (Co.out _ (Below.refl _ _)) ?_;clear hK K;try simp only[Act.put]
        refine bV (i:=11) (v:=.pointer (some ⟨tb,2,none⟩)) rfl (by kernel_rfl) (by kernel_rfl) (by kernel_rfl) (by kernel_rfl) (fun _ _ _ h=>h) (Or.inl ⟨by rfl,?_⟩) (fun _=>Co.out _ (Below.refl _ _)) ?_
        ·intro w _;go_simp
        try simp only[Act.put]
        refine bH (rs:=[10]) (by kernel_rfl) (by simp) ?_;refine aI.cons rfl (fun K hK=>?_) aI.nil;refine mD w7 (by rfl) _ _ 23 (by rfl) (tb+1) 9 iS (.string ⟨#[]⟩) 16 Tryz.underlying23 Ao.out hS0 hS1 hS2 (by rfl) (.slice a2 n2 c2) n2 (Ap.map encStr) (by rfl) DU.out (by repeat (first | exact Below.refl _ _ | with_reducible apply aR | with_reducible apply dV)) _ _ _ _ (by rfl) (by first | exact DV.out _ _ (by simp) (heap_alloc_new _ _) | exact DV.out _ _ (by simp) (Ii _ _ _) | exact DV.out _ _ (by simp) (Ij _ _ _)) (by rfl) (by omega) (by decide) DI.out ?_;intro g8 kG w8 ng lI jW;have sH:=HT2.out.last wQ vZ.out vY.out jW lI;have Kg:=HT2.out.more (x:=nm.data.toList) (y:=x.data.toList) wQ vZ.out (by rw[HG.out.1,u6 nm];exact Ke.out) vY.out jW (by rw[zo.out,u6 x];exact ng) lI;have EW:=(show Hid _ from Kg);have Uw:w8.cell? ⟨tb,2,none⟩=some (.slice a1 n1 c1):=ak sH 2;have Ux:w8.cell? ⟨tb,3,none⟩=some (.slice a2 n2 c2):=ak sH 3;have f8:∀ q,w8.frozen? ⟨tb,q,none⟩=false:=fun q=>by simp[World.frozen?,sH]
        have Aq:Hid ((w8.cell? ⟨tb,2,none⟩=some (.slice a1 n1 c1)/\w8.cell? ⟨tb,3,none⟩=some (.slice a2 n2 c2)/\w8.cell? ⟨wr.heap.size,0,none⟩=some (.string nm))):=by
         have q1:=sH;have q2:=(show pG _ w8 _ _ from lI).other (bM DU.out jW) ((jW.block _ (aG (HT2.out.other vZ.out vY.out zx.out (by decide)))).trans (HT2.out.other vZ.out vY.out zx.out (by decide))) (by decide);exact⟨ak q1 2,ak q1 3,ak q2 0⟩
        clear ng lI jW Kg;refine hK.out _ _ Aq.out ?_;clear hK K;try simp only[Act.put]
        refine bH (rs:=[12]) (by kernel_rfl) (by simp) ?_;refine aI.last rfl (by kernel_rfl) (fun K hK=>?_) aI.nil;go_simp
        refine hK.out _ _ ?_;clear hK K;try simp only[Act.put]
        refine bV (i:=13) (v:=.pointer (some ⟨tb,3,none⟩)) rfl (by kernel_rfl) (by kernel_rfl) (by kernel_rfl) (by kernel_rfl) (fun _ _ _ h=>h) (Or.inl ⟨by rfl,?_⟩) (fun _=>absurd ‹_› (by decide)) ?_
        ·intro w _;go_simp
        try simp only[Act.put]
        obtain⟨Z8,q9⟩:∃ Z8,Z8=w8.setCell ⟨tb,2,none⟩ (.slice (some ⟨g7,0,none⟩) (n1+1) iU):=⟨_,rfl⟩;have DW:Z8.heap[tb]? = some (.cells #[.int .i64 f,.int .i64 s,.slice (some ⟨g7,0,none⟩) (n1+1) iU,.slice a2 n2 c2] 25 (0,0)):=by rw[q9];exact (dM sH 2 _).trans (by rfl)
        have c93:Z8.cell? ⟨tb,3,none⟩=some (.slice a2 n2 c2):=ak DW 3;have f9:∀ q,Z8.frozen? ⟨tb,q,none⟩=false:=fun q=>by simp[World.frozen?,DW]
        rw[<-q9];have Fv:=(show Hid _ from q9);clear q9 DW sH Uw Ux f8;refine bH (rs:=[14]) (by kernel_rfl) (by simp) ?_;refine aI.last rfl (by kernel_rfl) (fun K hK=>?_) aI.nil;go_simp
        refine hK.out _ _ ?_;clear hK K;refine fP (by kernel_rfl) ?_ _;have fu:Hid (Am w (Z8.setCell ⟨tb,3,none⟩ (.slice (some ⟨g8,0,none⟩) (n2+1) kG)) tb f s rows (k+1) (.string nm) (.slice (some ⟨g7,0,none⟩) (n1+1) iU) (.slice (some ⟨g8,0,none⟩) (n2+1) kG)):=by
         obtain⟨j1,j2,j3⟩:=EW.out;rw[Fv.out];have hfl:full (rows.take (k+1))=full (rows.take k) ++ [rows[k]]:=by rw[mg.out,if_pos hz]
         have e1:(full (rows.take (k+1))).map Prod.fst=(full (rows.take k)).map Prod.fst ++ [nm.data.toList]:=by rw[hfl,List.map_append,qZ.out.1];simp
         have e2:((full (rows.take (k+1))).map fun r=>iJ r.2)=Ap ++ [x.data.toList]:=by rw[hfl,List.map_append,HXC.out,T9.out];simp
         have hw8:=j3.size;refine⟨by omega,by rw[Yp.out],dG.out,?_,?_,?_,?_⟩
         ·rw[Below.heap_setCell _ _ _ _ (by show w.heap.size≠tb;omega),Below.heap_setCell _ _ _ _ (by show w.heap.size≠tb;omega),j3.block _ (by omega)];exact wI.out
         ·rw[e1,e2];rw[HG.out.1,zo.out] at j1;exact j1
         ·exact ((kF.out.trans (j3.mono (by omega))).setCell (by show w.heap.size<=tb;omega) _).setCell (by show w.heap.size<=tb;omega) _
         ·simp
          omega
        clear EW Fv Ke vY vZ DU DI DV Co Aq;go_wp2;go_roundw;case rel=>exact⟨k+1,_,_,by go_num,fu.out⟩
        case measure=>simp[intOf]<;>omega
      ·go_simp
       refine hK.out _ _ (qE.out _ (by repeat (first | exact Below.refl _ _ | with_reducible apply aR | with_reducible apply dV))) ?_;clear hK K;try simp only[Act.put]
       refine bH (rs:=[4]) (by kernel_rfl) (by simp) ?_;refine aI.cons rfl (fun K hK=>?_) aI.nil;go_simp
       refine hK.out _ _ (qE.out _ (by repeat (first | exact Below.refl _ _ | with_reducible apply aR | with_reducible apply dV))) ?_;clear hK K;try simp only[Act.put]
       refine bH (rs:=[5]) (by kernel_rfl) (by simp) ?_;refine aI.cons rfl (fun K hK=>?_) aI.nil;refine mD w2 (by rfl) _ _ 23 (by rfl) (tb+1) 9 iS (.string ⟨#[]⟩) 16 Tryz.underlying23 Ao.out hS0 hS1 hS2 (by rfl) (.slice a1 n1 c1) n1 (((full (rows.take k)).map Prod.fst).map encStr) (by rfl) sQ.out (by repeat (first | exact Below.refl _ _ | with_reducible apply aR | with_reducible apply dV)) _ _ _ _ (by rfl) (by first | exact heap_alloc_new _ _ | exact Ii _ _ _ | exact Ij _ _ _) (by rfl) (by omega) (by decide) wQ ?_;intro g7 iU w7 dW iV qm;obtain⟨m1,m2,m3,m4,m5⟩:=HT2.out.mid wQ qm iV;have DU:Hid (w7.ownsRow (tb+1) 9 1 (.slice a2 n2 c2) n2 (Ap.map encStr)):=by rw[zo.out] at m2;exact m2
       have DV:=(show Hid _ from m5);have DI:=(show Hid _ from m3);have Ke:=(show Hid _ from dW);have vY:=(show Hid _ from iV);have vZ:=(show Hid _ from qm);have Co:Hid (∀ z,Below w7.heap.size w7 z->(z.cell? ⟨tb,2,none⟩=some (.slice a1 n1 c1)/\z.cell? ⟨tb,3,none⟩=some (.slice a2 n2 c2)/\z.cell? ⟨wr.heap.size,0,none⟩=some (.string nm))):=fun z hz=>by
        have q1:=(hz.block _ (aG m1)).trans m1;have q2:=(hz.block _ (aG (HT2.out.other qm iV zx.out (by decide)))).trans (HT2.out.other qm iV zx.out (by decide));exact⟨ak q1 2,ak q1 3,ak q2 0⟩
       clear dW iV qm m1 m2 m3 m5;refine hK.out _ _ (Co.out _ (Below.refl _ _)) ?_;clear hK K;try simp only[Act.put]
       refine bV (i:=11) (v:=.pointer (some ⟨tb,2,none⟩)) rfl (by kernel_rfl) (by kernel_rfl) (by kernel_rfl) (by kernel_rfl) (fun _ _ _ h=>h) (Or.inl ⟨by rfl,?_⟩) (fun _=>Co.out _ (Below.refl _ _)) ?_
       ·intro w _;go_simp
       try simp only[Act.put]
       refine bH (rs:=[10]) (by kernel_rfl) (by simp) ?_;refine aI.cons rfl (fun K hK=>?_) aI.nil;refine mD w7 (by rfl) _ _ 23 (by rfl) (tb+1) 9 iS (.string ⟨#[]⟩) 16 Tryz.underlying23 Ao.out hS0 hS1 hS2 (by rfl) (.slice a2 n2 c2) n2 (Ap.map encStr) (by rfl) DU.out (by repeat (first | exact Below.refl _ _ | with_reducible apply aR | with_reducible apply dV)) _ _ _ _ (by rfl) (by first | exact DV.out _ _ (by simp) (heap_alloc_new _ _) | exact DV.out _ _ (by simp) (Ii _ _ _) | exact DV.out _ _ (by simp) (Ij _ _ _)) (by rfl) (by omega) (by decide) DI.out ?_;intro g8 kG w8 ng lI jW;have sH:=HT2.out.last wQ vZ.out vY.out jW lI;have Kg:=HT2.out.more (x:=nm.data.toList) (y:=x.data.toList) wQ vZ.out (by rw[HG.out.1,u6 nm];exact Ke.out) vY.out jW (by rw[zo.out,u6 x];exact ng) lI;have EW:=(show Hid _ from Kg);have Uw:w8.cell? ⟨tb,2,none⟩=some (.slice a1 n1 c1):=ak sH 2;have Ux:w8.cell? ⟨tb,3,none⟩=some (.slice a2 n2 c2):=ak sH 3;have f8:∀ q,w8.frozen? ⟨tb,q,none⟩=false:=fun q=>by simp[World.frozen?,sH]
       have Aq:Hid ((w8.cell? ⟨tb,2,none⟩=some (.slice a1 n1 c1)/\w8.cell? ⟨tb,3,none⟩=some (.slice a2 n2 c2)/\w8.cell? ⟨wr.heap.size,0,none⟩=some (.string nm))):=by
        have q1:=sH;have q2:=(show pG _ w8 _ _ from lI).other (bM DU.out jW) ((jW.block _ (aG (HT2.out.other vZ.out vY.out zx.out (by decide)))).trans (HT2.out.other vZ.out vY.out zx.out (by decide))) (by decide);exact⟨ak q1 2,ak q1 3,ak q2 0⟩
       clear ng lI jW Kg;refine hK.out _ _ Aq.out ?_;clear hK K;try simp only[Act.put]
       refine bH (rs:=[12]) (by kernel_rfl) (by simp) ?_;refine aI.last rfl (by kernel_rfl) (fun K hK=>?_) aI.nil;go_simp
       refine hK.out _ _ ?_;clear hK K;try simp only[Act.put]
       refine bV (i:=13) (v:=.pointer (some ⟨tb,3,none⟩)) rfl (by kernel_rfl) (by kernel_rfl) (by kernel_rfl) (by kernel_rfl) (fun _ _ _ h=>h) (Or.inl ⟨by rfl,?_⟩) (fun _=>absurd ‹_› (by decide)) ?_
       ·intro w _;go_simp
       try simp only[Act.put]
       obtain⟨Z8,q9⟩:∃ Z8,Z8=w8.setCell ⟨tb,2,none⟩ (.slice (some ⟨g7,0,none⟩) (n1+1) iU):=⟨_,rfl⟩;have DW:Z8.heap[tb]? = some (.cells #[.int .i64 f,.int .i64 s,.slice (some ⟨g7,0,none⟩) (n1+1) iU,.slice a2 n2 c2] 25 (0,0)):=by rw[q9];exact (dM sH 2 _).trans (by rfl)
       have c93:Z8.cell? ⟨tb,3,none⟩=some (.slice a2 n2 c2):=ak DW 3;have f9:∀ q,Z8.frozen? ⟨tb,q,none⟩=false:=fun q=>by simp[World.frozen?,DW]
       rw[<-q9];have Fv:=(show Hid _ from q9);clear q9 DW sH Uw Ux f8;refine bH (rs:=[14]) (by kernel_rfl) (by simp) ?_;refine aI.last rfl (by kernel_rfl) (fun K hK=>?_) aI.nil;go_simp
       refine hK.out _ _ ?_;clear hK K;refine fP (by kernel_rfl) ?_ _;have fu:Hid (Am w (Z8.setCell ⟨tb,3,none⟩ (.slice (some ⟨g8,0,none⟩) (n2+1) kG)) tb f s rows (k+1) (.string nm) (.slice (some ⟨g7,0,none⟩) (n1+1) iU) (.slice (some ⟨g8,0,none⟩) (n2+1) kG)):=by
        obtain⟨j1,j2,j3⟩:=EW.out;rw[Fv.out];have hfl:full (rows.take (k+1))=full (rows.take k) ++ [rows[k]]:=by rw[mg.out,if_pos hz]
        have e1:(full (rows.take (k+1))).map Prod.fst=(full (rows.take k)).map Prod.fst ++ [nm.data.toList]:=by rw[hfl,List.map_append,qZ.out.1];simp
        have e2:((full (rows.take (k+1))).map fun r=>iJ r.2)=Ap ++ [x.data.toList]:=by rw[hfl,List.map_append,HXC.out,T9.out];simp
        have hw8:=j3.size;refine⟨by omega,by rw[Yp.out],dG.out,?_,?_,?_,?_⟩
        ·rw[Below.heap_setCell _ _ _ _ (by show w.heap.size≠tb;omega),Below.heap_setCell _ _ _ _ (by show w.heap.size≠tb;omega),j3.block _ (by omega)];exact wI.out
        ·rw[e1,e2];rw[HG.out.1,zo.out] at j1;exact j1
        ·exact ((kF.out.trans (j3.mono (by omega))).setCell (by show w.heap.size<=tb;omega) _).setCell (by show w.heap.size<=tb;omega) _
        ·simp
         omega
       clear EW Fv Ke vY vZ DU DI DV Co Aq;go_wp2;go_roundw;case rel=>exact⟨k+1,_,_,by go_num,fu.out⟩
       case measure=>simp[intOf]<;>omega
     ·have hd:decide ((0:Int)<(nk:Int))=false:=by simp;omega
      have hfl:full (rows.take (k+1))=full (rows.take k):=by rw[mg.out,if_neg hz]
      have fu:Hid (Am w w2 tb f s rows (k+1) (.string nm) (.slice a1 n1 c1) (.slice a2 n2 c2)):=by
       refine⟨by omega,by rw[Yp.out],dG.out,wI.out,?_,kF.out,by omega⟩;rw[hfl];exact Kc.out
      clear hfl;go_wp2;go_roundw;case rel=>exact⟨k+1,_,_,by go_num,fu.out⟩
      case measure=>simp[intOf]<;>omega
    ·obtain⟨t,p,hv⟩:=gP.out.pos hs0;have hpos:0<rowAt f s rows k:=by
      have:0<=rowAt f s rows k:=O4 ..;omega
     have vW:=(show Hid _ from Ya w2 (HE.out.below kF.out hB).types (Nat.le_trans hB kF.out.size) (k:Int) v _ _ gP.out hpos);obtain⟨hC,hA⟩:=Yc (f:=f) (s:=s) (rows:=rows) (by rw[HN.out];exact wY.out) hkr HM.out.ok hs0;have HC:=(show Hid _ from And.intro hC hA);have Ue:=(show Hid _ from hs0);have hres:w2.heap[w.heap.size]? = some (.cells #[.int .i64 0,.int .i64 0,.slice none 0 0,.slice none 0 0] 25 (0,0)):=(HB2.out.block _ (Nat.lt_of_lt_of_le (aG HM.out.res) gW.out.size)).trans ((gW.out.block _ (aG HM.out.res)).trans HM.out.res);have wI:=(show Hid _ from hres);subst hv;clear hC hA hs0 hres jK;go_wp2_with fail;refine Calls.mono vW.out ?_;rintro e w3 ⟨pb,mm,rfl,hb3,hmm,zz0,zz1,hcm⟩;have oV:=(hb3.block _ (aG wI.out)).trans wI.out;have HB3:=(show Hid _ from kF.out.trans (hb3.mono kF.out.size));have hpb:pb≠w.heap.size:=fun e=>by
      subst e;have:=(ak oV 1).symm.trans zz1;simp at this
     have p0:w3.cell? ⟨w.heap.size,0,none⟩=some (.int .i64 0):=ak oV 0;have p1:w3.cell? ⟨w.heap.size,1,none⟩=some (.int .i64 0):=ak oV 1;have p2:w3.cell? ⟨w.heap.size,2,none⟩=some (.slice none 0 0):=ak oV 2;have p3:w3.cell? ⟨w.heap.size,3,none⟩=some (.slice none 0 0):=ak oV 3;have pf:∀ k,w3.frozen? ⟨w.heap.size,k,none⟩=false:=fun k=>by simp[World.frozen?,oV]
     have J8:Hid (bA ea w3 (.iface 116 (.pointer (some ⟨pb,0,none⟩))) (jL f s rows) (sF f s rows)/\w3.heap[w.heap.size]? = some (.cells #[.int .i64 0,.int .i64 0,.slice none 0 0,.slice none 0 0] 25 (0,0))/\pb≠w.heap.size):=by
      refine⟨?_,oV,hpb⟩;rw[HC.out.1,HC.out.2];exact .inr (.inr ⟨pb,mm,hmm,rfl,zz0,zz1,hcm⟩)
     clear hb3 zz0 zz1 hcm vW oV hpb;go_wp2;obtain⟨Z,hZ⟩:∃ Z,Z=((((w3.setCell ⟨w.heap.size,0,none⟩ (.int .i64 0)).setCell ⟨w.heap.size,1,none⟩ (.int .i64 0)).setCell ⟨w.heap.size,2,none⟩ (.slice none 0 0)).setCell ⟨w.heap.size,3,none⟩ (.slice none 0 0)):=⟨_,rfl⟩;rw[<-hZ];have kM:Z.heap[w.heap.size]? = some (.cells #[.int .i64 0,.int .i64 0,.slice none 0 0,.slice none 0 0] 25 (0,0)):=by rw[hZ];exact oh J8.out.2.1 _ _ _ _
     have hzb:Below w.heap.size w Z:=by rw[hZ];exact gH HB3.out (Nat.le_refl _) _ _ _ _
     have hfz:bA ea Z (.iface 116 (.pointer (some ⟨pb,0,none⟩))) (jL f s rows) (sF f s rows):=by
      have hcl:∀ o,Z.cell? ⟨pb,o,none⟩=w3.cell? ⟨pb,o,none⟩:=fun o=>by
       have:Z.heap[pb]? = w3.heap[pb]?:=by
        rw[hZ,Below.heap_setCell _ _ _ _ J8.out.2.2,Below.heap_setCell _ _ _ _ J8.out.2.2,Below.heap_setCell _ _ _ _ J8.out.2.2,Below.heap_setCell _ _ _ _ J8.out.2.2]
       simp[World.cell?,this]
      rcases J8.out.1 with⟨h,_⟩|⟨m,_,h,_⟩|⟨pb',m,hm,h,c0,c1,hc⟩
      ·cases h
      ·simp at h
      ·obtain rfl:pb=pb':=by simpa using h
       exact .inr (.inr ⟨pb,m,hm,rfl,(hcl 0).trans c0,(hcl 1).trans c1,hc⟩)
     have z0:Z.cell? ⟨w.heap.size,0,none⟩=some (.int .i64 0):=ak kM 0;have z1:Z.cell? ⟨w.heap.size,1,none⟩=some (.int .i64 0):=ak kM 1;have z2:Z.cell? ⟨w.heap.size,2,none⟩=some (.slice none 0 0):=ak kM 2;have z3:Z.cell? ⟨w.heap.size,3,none⟩=some (.slice none 0 0):=ak kM 3;clear hZ kM;refine bodyPost_ret (v:=.tuple #[.agg #[.int .i64 0,.int .i64 0,.slice none 0 0,.slice none 0 0],.iface 116 (.pointer (some ⟨pb,0,none⟩))]) (by simp[results,Tryz.results14,go_sem,z0,z1,z2,z3]) rfl ?_;exact⟨_,hzb,hfz,.inr ⟨fun h=>Ue.out (HC.out.1.symm.trans h),rfl⟩⟩
   ·obtain rfl:k=n:=by have:=HM.out.le;have:=HN.out;omega
    obtain⟨hC,hA⟩:=Ez (f:=f) (s:=s) (rows:=rows) (by rw[HN.out];exact wY.out) (by rw[HN.out];exact HM.out.ok);have HC:=(show Hid _ from And.intro hC hA);have WS:=HM.out.two;have zw:rows.take k=rows:=List.take_of_length_le (by rw[HN.out];omega);have Ak:=(show Hid _ from zw);have hblk:=WS.blk;generalize hg1:((full (rows.take k)).map Prod.fst).length=n1 at *;generalize hg2:((full (rows.take k)).map fun r=>iJ r.2).length=n2 at *;have HG:=(show Hid _ from And.intro hg1 hg2);have t0:wr.cell? ⟨tb,0,none⟩=some (.int .i64 f):=ak hblk 0;have t1:wr.cell? ⟨tb,1,none⟩=some (.int .i64 s):=ak hblk 1;have t2:wr.cell? ⟨tb,2,none⟩=some (.slice a1 n1 c1):=ak hblk 2;have t3:wr.cell? ⟨tb,3,none⟩=some (.slice a2 n2 c2):=ak hblk 3;have p0:wr.cell? ⟨w.heap.size,0,none⟩=some (.int .i64 0):=ak HM.out.res 0;have p1:wr.cell? ⟨w.heap.size,1,none⟩=some (.int .i64 0):=ak HM.out.res 1;have p2:wr.cell? ⟨w.heap.size,2,none⟩=some (.slice none 0 0):=ak HM.out.res 2;have p3:wr.cell? ⟨w.heap.size,3,none⟩=some (.slice none 0 0):=ak HM.out.res 3;have pf:∀ k,wr.frozen? ⟨w.heap.size,k,none⟩=false:=fun k=>by simp[World.frozen?,HM.out.res]
    have HTW:=(show Hid _ from WS);have hge:(k:Int)<=(k:Int):=Int.le_refl _;clear hC hA zw hg1 hg2 hblk WS;go_wp2;obtain⟨Z,hZ⟩:∃ Z,Z=((((wr.setCell ⟨w.heap.size,0,none⟩ (.int .i64 f)).setCell ⟨w.heap.size,1,none⟩ (.int .i64 s)).setCell ⟨w.heap.size,2,none⟩ (.slice a1 n1 c1)).setCell ⟨w.heap.size,3,none⟩ (.slice a2 n2 c2)):=⟨_,rfl⟩;rw[<-hZ];have kM:Z.heap[w.heap.size]? = some (.cells #[.int .i64 f,.int .i64 s,.slice a1 n1 c1,.slice a2 n2 c2] 25 (0,0)):=by rw[hZ];exact oh HM.out.res _ _ _ _
    have hzb:Below w.heap.size w Z:=by rw[hZ];exact gH HM.out.aL (Nat.le_refl _) _ _ _ _
    have z0:Z.cell? ⟨w.heap.size,0,none⟩=some (.int .i64 f):=ak kM 0;have z1:Z.cell? ⟨w.heap.size,1,none⟩=some (.int .i64 s):=ak kM 1;have z2:Z.cell? ⟨w.heap.size,2,none⟩=some (.slice a1 n1 c1):=ak kM 2;have z3:Z.cell? ⟨w.heap.size,3,none⟩=some (.slice a2 n2 c2):=ak kM 3;have o1:Z.ownsRow w.heap.size 9 1 (.slice a1 n1 c1) (full rows).length (((full rows).map Prod.fst).map encStr):=by
     have h:=dB (b:=w.heap.size) HTW.out.lY (by omega);rw[hZ];rw[Ak.out] at h;rw[List.length_map] at h;exact kQ h HM.out.res (by decide) _ _ _ _
    have o2:Z.ownsRow w.heap.size 9 1 (.slice a2 n2 c2) (full rows).length (((full rows).map fun r=>iJ r.2).map encStr):=by
     have h:=dB (b:=w.heap.size) HTW.out.mM (by omega);rw[hZ];rw[Ak.out] at h;rw[List.length_map] at h;exact kQ h HM.out.res (by decide) _ _ _ _
    clear hZ kM;refine bodyPost_ret (v:=.tuple #[.agg #[.int .i64 f,.int .i64 s,.slice a1 n1 c1,.slice a2 n2 c2],.nilIface]) (by simp[results,Tryz.results14,go_sem,z0,z1,z2,z3]) rfl ?_;exact⟨_,hzb,.inl ⟨rfl,HC.out.1⟩,.inl ⟨HC.out.1,_,_,rfl,o1,o2⟩⟩
end Go.Proofs.YtcemkhalbjhdkaaGreatDoor
namespace Go.Proofs.YtcemkhalbjhdkaaGreatDoor
open Go.RowKit Go.Maps bS
def lT:List (List UInt8×List (Int×Nat))->List UInt8->List (Int×Nat)
 | [],_=>[]
 | r::l,k=>if r.1=k then r.2 else lT l k
theorem Ga:∀ {l:List (List UInt8×List (Int×Nat))} {k:List UInt8},(∀ j (hj:j<l.length),l[j].1≠k)->lT l k = []
 | [],_,_=>rfl
 | r::l,k,h=>by
  have h0:r.1≠k:=h 0 (by simp);rw[lT,if_neg h0];exact Ga fun j hj=>by have:=h (j+1) (by simp;omega);simpa using this
theorem Nr:∀ {l:List (List UInt8×List (Int×Nat))} {k:List UInt8} {i:Nat} (hi:i<l.length),(∀ j (hj:j<l.length),j<i->l[j].1≠k)->l[i].1=k->lT l k=l[i].2
 | [],_,_,hi,_,_=>by simp at hi
 | r::l,k,0,_,_,h=>by
  have:r.1=k:=h;rw[lT,if_pos this];rfl
 | r::l,k,i+1,hi,h1,h=>by
  have h0:r.1≠k:=h1 0 (by simp) (by omega);rw[lT,if_neg h0];exact Nr (i:=i) (by simpa using hi) (fun j hj hji=>by have:=h1 (j+1) (by simp;omega) (by omega);simpa using this) (by simpa using h)
theorem zR {B:Nat} {ea:Nat->Addr} (w:World) (E:og B ea w) (hB:B<=w.heap.size) (f s:Int) (b1 b2:Nat) (v1 v2:Value) (ss cs:List (List UInt8)) (h1:w.ownsRow b1 9 1 v1 ss.length (ss.map encStr)) (h2:w.ownsRow b2 9 1 v2 cs.length (cs.map encStr)) (hss:∀ x,x∈ss->x.length<=100000) (hcs:∀ x,x∈cs->x.length<=10000) (hn:ss.length<=100000) (hm:cs.length<=100000) :
  Calls Tryz.prog 27 #[.agg #[.int .i64 f,.int .i64 s,v1,v2]] w fun e w'=>∃ v,e = .returned v/\Below w.heap.size w w'/\bA ea w' v (eY f s ss cs) (kD f s ss cs):=by
 obtain⟨a1,c1,rfl⟩:=aV h1;obtain⟨a2,c2,rfl⟩:=aV h2;obtain⟨W,hW⟩:∃ W,W=w.alloc (.cells #[.int .i64 f,.int .i64 s,.slice a1 ss.length c1,.slice a2 cs.length c2] 25):=⟨_,rfl⟩;have hbW:Below w.heap.size w W:=by rw[hW];exact (Below.refl _ _).alloc (Nat.le_refl _) _
 have hx:W.heap[w.heap.size]? = some (.cells #[.int .i64 f,.int .i64 s,.slice a1 ss.length c1,.slice a2 cs.length c2] 25 (0,0)):=by rw[hW];exact heap_alloc_new _ _
 have x0:W.cell? ⟨w.heap.size,0,none⟩=some (.int .i64 f):=ak hx 0;have x1:W.cell? ⟨w.heap.size,1,none⟩=some (.int .i64 s):=ak hx 1;have x2:W.cell? ⟨w.heap.size,2,none⟩=some (.slice a1 ss.length c1):=ak hx 2;have x3:W.cell? ⟨w.heap.size,3,none⟩=some (.slice a2 cs.length c2):=ak hx 3;have HR:=(show Hid _ from xJ W (E.below hbW hB) (Nat.le_trans hB hbW.size) f s b1 b2 _ _ ss cs (dA h1 fun g hg=>hbW.block g (bC h1 hg).2.1) (dA h2 fun g hg=>hbW.block g (bC h2 hg).2.1) hss hcs hn hm);have HW:=(show Hid _ from hW);have cO:=(show Hid _ from hbW);generalize hnn:ss.length=n at *;generalize hmm:cs.length=m at *;clear hW hbW hx E h1 h2 hss hcs hnn hmm;go_enter Tryz.func27,Tryz.ntmps27;go_upto_region 1 with fail;rw[<-HW.out];go_wp2_with fail;refine Calls.mono HR.out ?_;rintro e w1 ⟨x,v,rfl,hb1,hf1,_,_⟩;have HB1:=(show Hid _ from cO.out.trans (hb1.mono cO.out.size));have y8:=(show Hid _ from hf1);clear hb1 hf1;go_wp2;go_ret;exact⟨v,rfl,HB1.out,y8.out⟩
def ab2 (ea:Nat->Addr) (w w':World) (f s:Int) (ss cs:List (List UInt8)) (nm:List UInt8) (lo hi:Int) (e:Ending):Prop:=
 ∃ x v,e = .returned (.tuple #[x,v])/\Below w.heap.size w w'/\bA ea w' v (eY f s ss cs) (kD f s ss cs)/\(eY f s ss cs≠0->x = .slice none 0 0) /\
  (eY f s ss cs=0->w'.ownsRow w.heap.size 67 2 x (aX lo hi (lT (rowsOf ss cs) nm)).length (aF (aX lo hi (lT (rowsOf ss cs) nm))))
theorem Ns {B:Nat} {ea:Nat->Addr} (w:World) (E:og B ea w) (hB:B<=w.heap.size) (f s:Int) (b1 b2:Nat) (v1 v2:Value) (ss cs:List (List UInt8)) (h1:w.ownsRow b1 9 1 v1 ss.length (ss.map encStr)) (h2:w.ownsRow b2 9 1 v2 cs.length (cs.map encStr)) (hss:∀ x,x∈ss->x.length<=100000) (hcs:∀ x,x∈cs->x.length<=10000) (hn:ss.length<=100000) (hm:cs.length<=100000) (nm:ByteArray) (lo hi:Int) :
  Calls Tryz.prog 18 #[.agg #[.int .i64 f,.int .i64 s,v1,v2],.string nm,.int .i64 lo,.int .i64 hi] w fun e w'=>ab2 ea w w' f s ss cs nm.data.toList lo hi e:=by
 obtain⟨a1,c1,rfl⟩:=aV h1;obtain⟨a2,c2,rfl⟩:=aV h2;obtain⟨W,hW⟩:∃ W,W=w.alloc (.cells #[.int .i64 f,.int .i64 s,.slice a1 ss.length c1,.slice a2 cs.length c2] 25):=⟨_,rfl⟩;have hbW:Below w.heap.size w W:=by rw[hW];exact (Below.refl _ _).alloc (Nat.le_refl _) _
 have hx:W.heap[w.heap.size]? = some (.cells #[.int .i64 f,.int .i64 s,.slice a1 ss.length c1,.slice a2 cs.length c2] 25 (0,0)):=by rw[hW];exact heap_alloc_new _ _
 have x0:W.cell? ⟨w.heap.size,0,none⟩=some (.int .i64 f):=ak hx 0;have x1:W.cell? ⟨w.heap.size,1,none⟩=some (.int .i64 s):=ak hx 1;have x2:W.cell? ⟨w.heap.size,2,none⟩=some (.slice a1 ss.length c1):=ak hx 2;have x3:W.cell? ⟨w.heap.size,3,none⟩=some (.slice a2 cs.length c2):=ak hx 3;have HR:=(show Hid _ from xJ W (E.below hbW hB) (Nat.le_trans hB hbW.size) f s b1 b2 _ _ ss cs (dA h1 fun g hg=>hbW.block g (bC h1 hg).2.1) (dA h2 fun g hg=>hbW.block g (bC h2 hg).2.1) hss hcs hn hm);have HW:=(show Hid _ from hW);have cO:=(show Hid _ from hbW);have HNS:=(show Hid _ from hn);clear hW hbW hx E h1 h2 hss hcs;go_enter Tryz.func18,Tryz.ntmps18;go_upto_region 1 with fail;rw[<-HW.out];go_wp2_with fail;refine Calls.mono HR.out ?_;rintro e w1 ⟨x,v,rfl,hb1,hf1,hok1,WT⟩;have HB1:=(show Hid _ from cO.out.trans (hb1.mono cO.out.size));have y8:=(show Hid _ from hf1);clear hb1 HR x0 x1 x2 x3;by_cases hz:eY f s ss cs=0
 ·have hv:=hf1.none hz;subst hv;obtain⟨xs,hown,hrc⟩:=hok1 hz;have hlen:(rowsOf ss cs).length=ss.length:=mq (lC hz).2.2.1;have hpl:∀ r,r∈rowsOf ss cs->r.2.length<=120:=fun r hr=>(fD ((xQ hz).2.1.each r hr).2.1).1
  rw[<-hlen] at hown;obtain⟨la,cc,rfl,hP⟩:=BL hown hrc;have HP:=(show Hid _ from And.intro hP hpl);have HZ:=(show Hid _ from hz);generalize hrows:rowsOf ss cs=rows at *;have hn2:rows.length<=100000:=by omega
  generalize hrn:rows.length=rn at *;have mV:=(show Hid _ from hrn);have HRW:=(show Hid _ from hrows);clear hown hrc hlen hpl hP hok1 WT hf1 hz hrn hrows hn hm HNS;go_wp2_with fail;go_loopw [24] (fun i wr=>∃ k:Nat,k<=rn/\i = .int .i64 (k:Int)/\Below w1.heap.size w1 wr/\∀ j (hj:j<rows.length),j<k->rows[j].1≠nm.data.toList) (fun i _=>rn-(intOf i).toNat);case atStart=>exact⟨0,Nat.zero_le _,rfl,Below.refl _ _,fun j _ h=>absurd h (Nat.not_lt_zero _)⟩
  case round=>
   obtain⟨k,hk,rfl,hbr,hne⟩:=hrel;have bJ:=(show Hid _ from hbr);have Dc:=(show Hid (∀ j (hj:j<rows.length),j<k->rows[j].1≠nm.data.toList) from hne);clear hbr hne;by_cases hkn:k<rn
   ·have hkr:k<rows.length:=by rw[mV.out];exact hkn
    rcases HP.out.1 with h0 | ⟨b,o,rfl,hcs⟩
    ·rw[h0] at hkr;exact absurd hkr (Nat.not_lt_zero _)
    obtain⟨e1,A,C,e2,hpt⟩:=hcs k hkr;have hbl:b<w1.heap.size:=World.block_lt_of_cell? w1 ⟨b,_,none⟩ e1;have hlp:=HP.out.2 _ (List.getElem_mem hkr);obtain⟨xk,hxk⟩:∃ xk:ByteArray,xk=⟨(rows[k].1).toArray⟩:=⟨_,rfl⟩;have q1:wr.cell? ⟨b,o+k*2,none⟩=some (.string xk):=by rw[hxk];exact (bJ.out.cell (p:=⟨b,_,none⟩) hbl).trans e1
    have q2:wr.cell? ⟨b,o+k*2+1,none⟩=some (.slice A rows[k].2.length C):=(bJ.out.cell (p:=⟨b,_,none⟩) hbl).trans e2;have k0:(0:Int)<=(k:Int):=by omega
    have k1:(k:Int)<(rn:Int):=by omega
    have o9:Below w1.heap.size w1 (wr.alloc (.cells #[.string xk,.slice A rows[k].2.length C] 69)):=bJ.out.alloc bJ.out.size _;have gW:=(show Hid _ from o9);have vQ:=(show Hid _ from CO (wr.alloc (.cells #[.string xk,.slice A rows[k].2.length C] 69)) A C rows[k].2 lo hi (hpt.below o9) (by omega));have Uy:=(show Hid _ from hxk);have hw1:=HB1.out.size;have hwr:=bJ.out.size;generalize hlk:rows[k].2.length=nk at *;clear e1 e2 hpt o9 hxk hlk hcs;by_cases hxe:xk=nm
    ·have hxq:(xk.toList==nm.toList)=true:=by rw[hxe];simp
     have HO:Hid (lT rows nm.data.toList=rows[k].2):=Nr hkr Dc.out (by rw[<-hxe,Uy.out]);clear hxe;go_wp2_with fail;refine Calls.mono vQ.out ?_;rintro e w2 ⟨y,rfl,hown2,hb2⟩;have HB2:=(show Hid _ from HB1.out.trans ((gW.out.trans (hb2.mono gW.out.size)).mono hw1));have jM:Hid (w2.ownsRow w.heap.size 67 2 y (aX lo hi (lT rows nm.data.toList)).length (aF (aX lo hi (lT rows nm.data.toList)))):=by
      show World.ownsRow _ _ _ _ _ _ _;rw[HO.out];exact dB hown2 (by have:=gW.out.size;omega)
     clear hown2 hb2;go_wp2;go_ret2;refine⟨y,_,rfl,HB2.out,.inl ⟨rfl,HZ.out⟩,fun h=>absurd HZ.out h,fun _=>?_⟩;rw[HRW.out];exact jM.out
    ·have hxq:(xk.toList==nm.toList)=false:=by
      rw[beq_eq_false_iff_ne];intro h;rw[ByteArray.toList_eq,ByteArray.toList_eq] at h;exact hxe (ByteArray.ext (Array.ext' h))
     have fu:Hid (∀ j (hj:j<rows.length),j<k+1->rows[j].1≠nm.data.toList):=fun j hj hjk=>by
      rcases Nat.lt_or_ge j k with h | h
      ·exact Dc.out j hj h
      ·obtain rfl:j=k:=by omega
       intro e;apply hxe;rw[Uy.out];apply ByteArray.ext;apply Array.ext';simpa using e
     clear hxe;go_wp2;go_roundw;case rel=>exact⟨k+1,by omega,by go_num,gW.out,fu.out⟩
     case measure=>simp[intOf]<;>omega
   ·have hge:(rn:Int)<=(k:Int):=by omega
    have HO:Hid (lT rows nm.data.toList = []):=Ga fun j hj=>Dc.out j hj (by have:=mV.out;omega)
    go_wp2;go_ret2;refine⟨_,_,rfl,HB1.out.trans (bJ.out.mono HB1.out.size),.inl ⟨rfl,HZ.out⟩,fun h=>absurd HZ.out h,fun _=>?_⟩;rw[HRW.out,HO.out];exact⟨rfl,.inl ⟨rfl,rfl⟩⟩
 ·obtain⟨t,p,hv⟩:=hf1.pos hz;have hx:=WT hz;have HZ:=(show Hid _ from hz);subst hv hx;clear hf1 hok1 WT hz;go_wp2;go_ret2;exact⟨_,_,rfl,HB1.out,y8.out,fun _=>rfl,fun h=>absurd h HZ.out⟩
end Go.Proofs.YtcemkhalbjhdkaaGreatDoor
