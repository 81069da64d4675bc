import Derived.Test.YtololnhfgjbhjaaGreatDoorBlkRows
import Derived.Test.YtololnhfgjbhjaaGreatDoorRegStoreGroup
import Derived.Deep.RegionLaw
set_option maxRecDepth 1000000
set_option maxHeartbeats 8000000
open Go.Proofs.Tryz
namespace Go.Proofs.YtololnhfgjbhjaaGreatDoor
open Go.RowKit Go.Maps bD
theorem Ç{p:Prop}(h:p):Go.RowKit.Hid p:=h
theorem acY{A:Type}(l:List A)(i:Nat)(a:A):l.toArray.setIfInBounds i a=(l.set i a).toArray:=List.setIfInBounds_toArray ..
theorem acZ{A:Type}{x:A}{l:List A}{i:Nat}{a:A}:(x::l).set (i+1) a=x::l.set i a:=List.set_cons_succ
theorem ada{A:Type}{x:A}{l:List A}{a:A}:(x::l).set 0 a=a::l:=List.set_cons_zero
structure zU(Y z:World)(v:Value)(g:Nat):Prop where
 os:z.os=Y.os
 tape:z.tape=Y.tape
 output:z.output=Y.output
 size:Y.heap.size<=z.heap.size
 blk:∀q,q<Y.heap.size->v.ownBlock≠some q->z.heap[q]? = Y.heap[q]?
 at':v.ownBlock=some g\/g=Y.heap.size
theorem zU.below{Y z:World}{v:Value}{g b:Nat}(h:zU Y z v g)(hb:b<=Y.heap.size)(hv:∀q,v.ownBlock=some q->b<=q):Below b Y z:=
 ⟨h.os,h.tape,h.output,h.size,λq hq=>h.blk q (by omega) (λe=>by have:=hv q e;omega)⟩
theorem aaY{w:World}{b:Nat}{v:Value}{t:TypeId}{fr:Nat×Nat}(h:w.heap[b]? = some (.cells #[v] t fr)):∀j u,[v][j]? = some u->w.cell? ((⟨b,0,none⟩:Addr).add j)=some u:=World.news_of_block h
theorem Kv(w:World)(o p:Obj):((w.alloc o).alloc p).heap[w.heap.size]? = some o:=by rw[Below.heap_alloc _ _ _ (by simp)];exact heap_alloc_new _ _
theorem Kw(w:World)(o p:Obj):((w.alloc o).alloc p).heap[w.heap.size+1]? = some p:=by have:=heap_alloc_new (w.alloc o) p;simpa using this
theorem Yl{P:Program}{Y:World}{ops:Array Oper}{o:Oper}{a:Act}{K:Act->World->Prop}{Q:Exit->Act->World->Prop}{E:Prop}(Ő:o.guard=none)(s x:Operand)(t:TypeId)
  (ho:o.op = .call { callee:=.builtin .append,args:=#[s,x],argTypes:=#[t,t] }) (base:Nat) (e:TypeId) (i:TypeInfo) (z:Value) (bytes:Nat) (ht:P.underlying t=some (.slice e)) (hi:P.info? e=some i) (hz:i.zero=some z) (ų:i.size=1) (hby:i.bytes=bytes) (hzs:z.cells.size=1)
  (v:Value) (n:Nat) (xs:List Value) (hs:a.eval s=v) (ό:Y.ownsRow base e 1 v n xs) (b:Nat) (u:Value) (t':TypeId) (fr:Nat×Nat) (hx:a.eval x = .slice (some ⟨b,0,none⟩) 1 1) (ϱ:Y.heap[b]? = some (.cells #[u] t' fr)) (h1:u.oneCell'=true) (hn:n<=1000000) (hb:bytes<=100) (Ø:base<=Y.heap.size)
  (h:∀g cap w',w'.ownsRow base e 1 (.slice (some ⟨g,0,none⟩) (n+1) cap) (n+1) (xs ++ [u])->zU Y w' v g->K (a.put o.dst (.slice (some ⟨g,0,none⟩) (n+1) cap)) w') :
  if Region.wanted o (yielded ops a.tmps)=true then Oper.wp P o a Y K Q else E:=by
 refine step_append_lies _ Ő s x t ho base e i z 1 bytes ht hi hz ų hby hzs (by decide) v n xs hs ό ⟨b,0,none⟩ 1 1 [u] hx rfl (aaY ϱ) (λc hc=>by simp at hc;subst hc;exact h1) (by omega) (by unfold maxLen;omega) ?_ Ø _ rfl ?_
 ·have:(n+1)*bytes<=1000001*100:=Nat.mul_le_mul (by omega) hb;omega
 ·intro g cap w' ho' hg Ϸ _;exact h g cap w' ho' ⟨hg.os,hg.tape,hg.output,hg.size,λq hq Ϛ=>hg.block q hq (λe=>Ϛ e.symm),Ϸ⟩
theorem bE{w z:World}(h:Below w.heap.size w z)(o:Obj):Below w.heap.size w (z.alloc o):=h.alloc h.size o
theorem fD{w z:World}(h:Below w.heap.size w z):Below w.heap.size w z.drew:=h.trans ⟨rfl,rfl,rfl,Nat.le_refl _,λ_ _=>rfl⟩
theorem bM{w z:World}{base:Nat}{e:TypeId}{sz:Nat}{v:Value}{n:Nat}{xs:List Value}(h:w.ownsRow base e sz v n xs)(hb:Below w.heap.size w z):z.ownsRow base e sz v n xs:=bA h λg hg=>hb.block g (aF h hg).2.1
theorem uM{P:Program}{Y:World}{ops:Array Oper}{o:Oper}{a:Act}{K:Act->World->Prop}{Q:Exit->Act->World->Prop}{E:Prop}(w2:World)(Ő:o.guard=none)(s x:Operand)(t:TypeId)
  (ho:o.op = .call { callee:=.builtin .append,args:=#[s,x],argTypes:=#[t,t] }) (base:Nat) (e:TypeId) (i:TypeInfo) (z:Value) (bytes:Nat) (ht:P.underlying t=some (.slice e)) (hi:P.info? e=some i) (hz:i.zero=some z) (ų:i.size=1) (hby:i.bytes=bytes) (hzs:z.cells.size=1)
  (v:Value) (n:Nat) (xs:List Value) (hs:a.eval s=v) (ό:w2.ownsRow base e 1 v n xs) (hY:Below w2.heap.size w2 Y) (b:Nat) (u:Value) (t':TypeId) (fr:Nat×Nat) (hx:a.eval x = .slice (some ⟨b,0,none⟩) 1 1) (ϱ:Y.heap[b]? = some (.cells #[u] t' fr)) (h1:u.oneCell'=true) (hn:n<=1000000) (hb:bytes<=100) (Ø:base<=w2.heap.size)
  (h:∀g cap w',w'.ownsRow base e 1 (.slice (some ⟨g,0,none⟩) (n+1) cap) (n+1) (xs ++ [u])->zU Y w' v g->Below w2.heap.size w2 Y->K (a.put o.dst (.slice (some ⟨g,0,none⟩) (n+1) cap)) w') :
  if Region.wanted o (yielded ops a.tmps)=true then Oper.wp P o a Y K Q else E:=
 Yl Ő s x t ho base e i z bytes ht hi hz ų hby hzs v n xs hs (bM ό hY) b u t' fr hx ϱ h1 hn hb (Nat.le_trans Ø hY.size) λg cap w' h1 h2=>h g cap w' h1 h2 hY
theorem Tryz.infoStr3:(prog.info? 9).map (λi=>(i.zero,i.size,i.bytes))=some (some (.string ⟨#[]⟩),1,16):=by kernel_rfl
structure vT(wr:World)(base tb:Nat)(f s:Int)(u1 u2:Value)(ss cs:List (List UInt8)):Prop where
 blk:wr.heap[tb]? = some (.cells #[.int .i64 f,.int .i64 s,u1,u2] 78 (0,0))
 low:tb<base
 Br:wr.ownsRow base 9 1 u1 ss.length (ss.map encStr)
 DR:wr.ownsRow base 9 1 u2 cs.length (cs.map encStr)
 apart:∀g,u1.ownBlock=some g->u2.ownBlock≠some g
theorem vT.below{wr z:World}{base tb:Nat}{f s:Int}{u1 u2:Value}{ss cs:List (List UInt8)}(h:vT wr base tb f s u1 u2 ss cs)(hb:Below wr.heap.size wr z):vT z base tb f s u1 u2 ss cs:=
 ⟨(hb.block _ (aC h.blk)).trans h.blk,h.low,bA h.Br λg hg=>hb.block g (aF h.Br hg).2.1,bA h.DR λg hg=>hb.block g (aF h.DR hg).2.1,h.apart⟩
theorem vT.more{w2 Y1 w7 Y2 w8:World}{base tb:Nat}{f s:Int}{u1 u2:Value}{ss cs:List (List UInt8)}(h:vT w2 base tb f s u1 u2 ss cs){x y:List UInt8}{g7 fF g8 pz:Nat}(Ø:base<=w2.heap.size)(h1:Below w2.heap.size w2 Y1)(o7:w7.ownsRow base 9 1 (.slice (some ⟨g7,0,none⟩) (ss.length+1) fF) (ss.length+1) (ss.map encStr ++ [.string ⟨x.toArray⟩]))(G7:zU Y1 w7 u1 g7)(h2:Below w7.heap.size w7 Y2)
  (o8:w8.ownsRow base 9 1 (.slice (some ⟨g8,0,none⟩) (cs.length+1) pz) (cs.length+1) (cs.map encStr ++ [.string ⟨y.toArray⟩])) (G8:zU Y2 w8 u2 g8) :
  vT ((w8.setCell ⟨tb,2,none⟩ (.slice (some ⟨g7,0,none⟩) (ss.length+1) fF)).setCell ⟨tb,3,none⟩ (.slice (some ⟨g8,0,none⟩) (cs.length+1) pz)) base tb f s (.slice (some ⟨g7,0,none⟩) (ss.length+1) fF) (.slice (some ⟨g8,0,none⟩) (cs.length+1) pz) (ss ++ [x]) (cs ++ [y])/\w8.heap[tb]? = some (.cells #[.int .i64 f,.int .i64 s,u1,u2] 78 (0,0))/\Below base w2 w8:=by
 have Ò:=h.low;have l1:∀q,u1.ownBlock=some q->base<=q/\q<w2.heap.size:=λq hq=>⟨(aF h.Br hq).1,(aF h.Br hq).2.1⟩
 have l2:∀q,u2.ownBlock=some q->base<=q/\q<w2.heap.size:=λq hq=>⟨(aF h.DR hq).1,(aF h.DR hq).2.1⟩
 have s1:=h1.size;have s2:=h2.size;have s7:=G7.size;have b1:Below base w2 w7:=(h1.mono Ø).trans (G7.below (by omega) λq hq=>(l1 q hq).1);have b2:Below base w2 w8:=(b1.trans (h2.mono (by omega))).trans (G8.below (by omega) λq hq=>(l2 q hq).1);have ht:w8.heap[tb]? = some (.cells #[.int .i64 f,.int .i64 s,u1,u2] 78 (0,0)):=(b2.block tb Ò).trans h.blk;have hg7:g7<w7.heap.size:=(aF (g:=g7) o7 rfl).2.1;have agD:u2.ownBlock≠some g7:=by
  rcases G7.at' with e|e
  ·exact h.apart g7 e
  ·intro e2;have:=(l2 g7 e2).2;omega
 have o7':w8.ownsRow base 9 1 (.slice (some ⟨g7,0,none⟩) (ss.length+1) fF) (ss.length+1) (ss.map encStr ++ [.string ⟨x.toArray⟩]):=bA o7 λg hg=>by
  simp[Value.ownBlock] at hg;subst hg;exact (G8.blk g7 (by omega) agD).trans (h2.block g7 hg7)
 have ao6:g7≠g8:=by
  rcases G8.at' with e|e
  ·intro e2;subst e2;exact agD e
  ·omega
 have Ł:∀ {v:Value} {n:Nat} {xs:List Value} {z:World} (k:Nat) (u:Value),z.ownsRow base 9 1 v n xs->(z.setCell ⟨tb,k,none⟩ u).ownsRow base 9 1 v n xs:=λk u ho=>bA ho λg hg=>by
  have:=(aF ho hg).1;exact Below.heap_setCell _ _ _ _ (by show g≠tb;omega)
 refine⟨⟨?_,Ò,?_,?_,λg e1 e2=>?_⟩,ht,b2⟩
 ·have e1:=eu ht 2 (.slice (some ⟨g7,0,none⟩) (ss.length+1) fF);have e2:=eu (e1.trans (by rfl)) 3 (.slice (some ⟨g8,0,none⟩) (cs.length+1) pz);exact e2.trans (by rfl)
 ·have:=Ł 3 (.slice (some ⟨g8,0,none⟩) (cs.length+1) pz) (Ł 2 (.slice (some ⟨g7,0,none⟩) (ss.length+1) fF) o7');simpa [encStr] using this
 ·have:=Ł 3 (.slice (some ⟨g8,0,none⟩) (cs.length+1) pz) (Ł 2 (.slice (some ⟨g7,0,none⟩) (ss.length+1) fF) o8);simpa [encStr] using this
 ·simp[Value.ownBlock] at e1 e2;omega
theorem vT.mid{w2 Y1 w7:World}{base tb:Nat}{f s:Int}{u1 u2:Value}{ss cs:List (List UInt8)}(h:vT w2 base tb f s u1 u2 ss cs){g7:Nat}(Ø:base<=w2.heap.size)(h1:Below w2.heap.size w2 Y1)(G7:zU Y1 w7 u1 g7):
  w7.heap[tb]? = some (.cells #[.int .i64 f,.int .i64 s,u1,u2] 78 (0,0))/\w7.ownsRow base 9 1 u2 cs.length (cs.map encStr)/\base<=w7.heap.size/\w2.heap.size<=w7.heap.size/\∀q o,w2.heap.size<=q->Y1.heap[q]? = some o->w7.heap[q]? = some o:=by
 have Ò:=h.low;have s1:=h1.size;have s7:=G7.size;refine⟨?_,bA h.DR λg hg=>?_,by omega,by omega,λq o hq ho=>?_⟩
 ·rw[G7.blk tb (by omega) (λe=>by have:=(aF h.Br e).1;omega),h1.block tb (by omega)];exact h.blk
 ·have:=(aF h.DR hg).2.1;rw[G7.blk g (by omega) (λe=>h.apart g e hg),h1.block g this]
 ·rw[G7.blk q (aC ho) (λe=>by have:=(aF h.Br e).2.1;omega)];exact ho
theorem vT.last{w2 Y1 w7 Y2 w8:World}{base tb:Nat}{f s:Int}{u1 u2:Value}{ss cs:List (List UInt8)}(h:vT w2 base tb f s u1 u2 ss cs){g7 g8:Nat}(Ø:base<=w2.heap.size)(h1:Below w2.heap.size w2 Y1)(G7:zU Y1 w7 u1 g7)(h2:Below w7.heap.size w7 Y2)(G8:zU Y2 w8 u2 g8):
  w8.heap[tb]? = some (.cells #[.int .i64 f,.int .i64 s,u1,u2] 78 (0,0)):=by
 have hm:=h.mid Ø h1 G7;have Ò:=h.low;have s2:=h2.size;have s7:=hm.2.2.1;rw[G8.blk tb (by omega) (λe=>by have:=(aF h.DR e).1;omega),h2.block tb (by omega)];exact hm.1
theorem zU.other{Y z:World}{v:Value}{g:Nat}(G:zU Y z v g){base n:Nat}{e:TypeId}{xs:List Value}(ho:Y.ownsRow base e 1 v n xs){b:Nat}{cs:Array Value}{t:TypeId}{fr:Nat×Nat}(hb:Y.heap[b]? = some (.cells cs t fr))(Ϛ:e≠t):z.heap[b]? = some (.cells cs t fr):=by
 rw[G.blk b (aC hb) (λe1=>by obtain⟨_,_,cur,hc⟩:=aF ho e1;exact fJ hc hb Ϛ rfl)];exact hb
theorem vT.other{w2 Y1 w7:World}{base tb:Nat}{f s:Int}{u1 u2:Value}{ss cs:List (List UInt8)}(h:vT w2 base tb f s u1 u2 ss cs){g7:Nat}(h1:Below w2.heap.size w2 Y1)(G7:zU Y1 w7 u1 g7){b:Nat}{c:Array Value}{t:TypeId}{fr:Nat×Nat}(hb:w2.heap[b]? = some (.cells c t fr))(Ϛ:9≠t):w7.heap[b]? = some (.cells c t fr):=
 G7.other (bM h.Br h1) ((h1.block b (aC hb)).trans hb) Ϛ
theorem zV{w:World}{base base':Nat}{v:Value}{xs:List Value}{rows:List (List UInt8×List (Int×Nat))}(h:w.ownsRow base 52 2 v rows.length xs)(hr:dX w base' xs rows):∃a c,v = .slice a rows.length c/\rQ w a rows:=by
 obtain⟨_,h2⟩:=h;rcases h2 with⟨hv,h0⟩|⟨g,cap,cur,hv,hg,hh,h1,h2,h3,h4⟩
 ·exact⟨none,0,by rw[hv,h0],.inl (List.eq_nil_of_length_eq_zero h0)⟩
 ·refine⟨_,_,hv,.inr ⟨g,0,rfl,λk hk=>?_⟩⟩;have hc:∀j,j<rows.length*2->w.cell? ⟨g,j,none⟩=xs[j]?:=by
   intro j hj;have e0:w.cell? ⟨g,j,none⟩=cur[j]?:=by simp[World.cell?,hh]
   rw[e0,<-Array.getElem?_toList,<-h4,List.getElem?_take_of_lt hj]
  obtain⟨p0,s,p1,ho⟩:=hr.at k hk;obtain⟨a,c,rfl,_,hp,_⟩:=iF ho;refine⟨?_,a,c,?_,hp⟩
  ·rw[Nat.zero_add,hc _ (by omega)];exact p0
  ·rw[Nat.zero_add,hc _ (by omega)];exact p1
def ad8(ea:Nat->Addr)(w w':World)(f s:Int)(rows:List (List UInt8×List (Int×Nat)))(e:Ending):Prop:=
 ∃v,Below w.heap.size w w'/\aL ea w' v (jS f s rows) (Eo f s rows) /\
  ((jS f s rows=0/\∃u1 u2,e = .returned (.tuple #[.agg #[.int .i64 f,.int .i64 s,u1,u2],v])/\w'.ownsRow w.heap.size 9 1 u1 (full rows).length (((full rows).map Prod.fst).map encStr)/\w'.ownsRow w.heap.size 9 1 u2 (full rows).length (((full rows).map λr=>fG r.2).map encStr)) \/
   (jS f s rows≠0/\e = .returned (.tuple #[.agg #[.int .i64 0,.int .i64 0,.slice none 0 0,.slice none 0 0],v])))
structure Ck(w wr:World)(tb:Nat)(f s:Int)(rows:List (List UInt8×List (Int×Nat)))(k:Nat)(v10 u1 u2:Value):Prop where
 le:k<=rows.length
 ah:v10 = .string ⟨(prev (rows.map Prod.fst) k).toArray⟩
 ok:∀j,j<k->rowAt f s rows j=0
 res:wr.heap[w.heap.size]? = some (.cells #[.int .i64 0,.int .i64 0,.slice none 0 0,.slice none 0 0] 78 (0,0))
 two:vT wr (tb+1) tb f s u1 u2 ((full (rows.take k)).map Prod.fst) ((full (rows.take k)).map λr=>fG r.2)
 aH:Below w.heap.size w wr
 siz:tb+1<=wr.heap.size
theorem uy{z:World}{b:Nat}{p0 p1 p2 p3:Value}{t:TypeId}(h:z.heap[b]? = some (.cells #[p0,p1,p2,p3] t (0,0)))(v0 v1 v2 v3:Value):((((z.setCell ⟨b,0,none⟩ v0).setCell ⟨b,1,none⟩ v1).setCell ⟨b,2,none⟩ v2).setCell ⟨b,3,none⟩ v3).heap[b]? = some (.cells #[v0,v1,v2,v3] t (0,0)):=by
 have e1:=(eu h 0 v0).trans (show _=some (Obj.cells #[v0,p1,p2,p3] t (0,0)) by rfl);have e2:=(eu e1 1 v1).trans (show _=some (Obj.cells #[v0,v1,p2,p3] t (0,0)) by rfl);have e3:=(eu e2 2 v2).trans (show _=some (Obj.cells #[v0,v1,v2,p3] t (0,0)) by rfl);exact (eu e3 3 v3).trans (by rfl)
theorem pE{B:Nat}{w z:World}{b:Nat}(h:Below B w z)(hb:B<=b)(v0 v1 v2 v3:Value):Below B w ((((z.setCell ⟨b,0,none⟩ v0).setCell ⟨b,1,none⟩ v1).setCell ⟨b,2,none⟩ v2).setCell ⟨b,3,none⟩ v3):=
 (((h.setCell hb v0).setCell hb v1).setCell hb v2).setCell hb v3
theorem rz{z:World}{base:Nat}{e t:TypeId}{sz:Nat}{v:Value}{n:Nat}{xs:List Value}{b:Nat}{cs:Array Value}{fr:Nat×Nat}(h:z.ownsRow base e sz v n xs)(hb:z.heap[b]? = some (.cells cs t fr))(Ϛ:e≠t)(v0 v1 v2 v3:Value):((((z.setCell ⟨b,0,none⟩ v0).setCell ⟨b,1,none⟩ v1).setCell ⟨b,2,none⟩ v2).setCell ⟨b,3,none⟩ v3).ownsRow base e sz v n xs:=
 bA h λg hg=>by
  obtain⟨_,_,cur,hc⟩:=aF h hg;have hgb:g≠b:=fJ hc hb Ϛ;rw[Below.heap_setCell _ _ _ _ hgb,Below.heap_setCell _ _ _ _ hgb,Below.heap_setCell _ _ _ _ hgb,Below.heap_setCell _ _ _ _ hgb]
theorem wU(x:ByteArray):(⟨x.data.toList.toArray⟩:ByteArray)=x:=by cases x;simp
theorem Ky{B:Nat}{ea:Nat->Addr}(w:World)(E:oI B ea w)(hB:B<=w.heap.size)(f s:Int)(la:Option Addr)(c:Nat)(rows:List (List UInt8×List (Int×Nat)))(hP:rQ w la rows)(Ï:∀r,r∈rows->rO r.2/\r.1.length<=1000/\r.2.length<=1000)(hn:rows.length<=1000):
  Calls prog 44 #[.int .i64 f,.int .i64 s,.slice la rows.length c] w λe w'=>ad8 ea w w' f s rows e:=by
 obtain⟨W,hW⟩:∃W,W=w.alloc (.cells #[.int .i64 0,.int .i64 0,.slice none 0 0,.slice none 0 0] 78):=⟨_,rfl⟩;have Ϝ:Below w.heap.size w W:=by rw[hW];exact (Below.refl _ _).alloc (Nat.le_refl _) _
 have hx:W.heap[w.heap.size]? = some (.cells #[.int .i64 0,.int .i64 0,.slice none 0 0,.slice none 0 0] 78 (0,0)):=by rw[hW];exact heap_alloc_new _ _
 have hWs:W.heap.size=w.heap.size+1:=by rw[hW];simp
 have HW:=Ç hW;have cK:=Ç Ϝ;have HE:=Ç E;have MN:=Ç hWs;have HX:=Ç hx;have HP:Hid (rQ w la rows):=hP;have qB:Hid (∀r,r∈rows->rO r.2/\r.1.length<=1000/\r.2.length<=1000):=Ï;have kb:=(E.below Ϝ hB).wB.c1;clear hW Ϝ hx E hP Ï hWs;obtain⟨n,ϭ⟩:∃n,n=rows.length:=⟨_,rfl⟩;have HN:=Ç ϭ.symm;rw[<-ϭ] at hn ⊢;clear ϭ;go_enter func44,ntmps44;go_upto_region 1 with fail;rw[<-HW.out];by_cases Ϣ:oF f s≠0\/60<n
 ·have kM:=Ç (F9 W f s n (by omega) Ϣ (ea 1) kb);obtain⟨hC,hA⟩:=O8 (f:=f) (s:=s) (rows:=rows) (by rw[HN.out];exact Ϣ);have HC:=Ç (And.intro hC hA);have p0:W.cell? ⟨w.heap.size,0,none⟩=some (.int .i64 0):=ak HX.out 0;have p1:W.cell? ⟨w.heap.size,1,none⟩=some (.int .i64 0):=ak HX.out 1;have p2:W.cell? ⟨w.heap.size,2,none⟩=some (.slice none 0 0):=ak HX.out 2;have p3:W.cell? ⟨w.heap.size,3,none⟩=some (.slice none 0 0):=ak HX.out 3;have pf:∀k,W.frozen? ⟨w.heap.size,k,none⟩=false:=λk=>by simp[World.frozen?,HX.out]
  clear hC hA Ϣ;go_wp2_with fail;refine Calls.mono kM.out ?_;rintro e w1 ⟨rfl,ϝ⟩;have bK:=ϝ;subst bK;go_wp2;obtain⟨Z,hZ⟩:∃Z,Z=((((w1.setCell ⟨w.heap.size,0,none⟩ (.int .i64 0)).setCell ⟨w.heap.size,1,none⟩ (.int .i64 0)).setCell ⟨w.heap.size,2,none⟩ (.slice none 0 0)).setCell ⟨w.heap.size,3,none⟩ (.slice none 0 0)):=⟨_,rfl⟩;rw[<-hZ];have mO:Z.heap[w.heap.size]? = some (.cells #[.int .i64 0,.int .i64 0,.slice none 0 0,.slice none 0 0] 78 (0,0)):=by rw[hZ];exact uy HX.out _ _ _ _
  have hzb:Below w.heap.size w Z:=by rw[hZ];exact pE cK.out (Nat.le_refl _) _ _ _ _
  have z0:Z.cell? ⟨w.heap.size,0,none⟩=some (.int .i64 0):=ak mO 0;have z1:Z.cell? ⟨w.heap.size,1,none⟩=some (.int .i64 0):=ak mO 1;have z2:Z.cell? ⟨w.heap.size,2,none⟩=some (.slice none 0 0):=ak mO 2;have z3:Z.cell? ⟨w.heap.size,3,none⟩=some (.slice none 0 0):=ak mO 3;clear hZ mO;refine bodyPost_ret (v:=.tuple #[.agg #[.int .i64 0,.int .i64 0,.slice none 0 0,.slice none 0 0],.iface 352 (.pointer (some (ea 1)))]) (by simp[results,results44,go_sem,z0,z1,z2,z3]) rfl ?_;exact⟨_,hzb,by rw[HC.out.1,HC.out.2];exact aL.es 1 (by decide) (by decide),.inr ⟨λh=>absurd (HC.out.1.symm.trans h) (by decide),rfl⟩⟩
 ·have Gb:=Ç Ϣ;have ζ:oF f s=0:=Decidable.not_not.1 λh=>Ϣ (.inl h)
  have Vn:n<=60:=by
   rcases Nat.lt_or_ge 60 n with h|h
   ·exact absurd (.inr h) Ϣ
   ·exact h
  have kM:=Ç (IB W f s n ζ Vn);clear Ϣ;go_wp2_with fail;refine Calls.mono kM.out ?_;rintro e w1 ⟨rfl,ϝ⟩;have bK:=ϝ;subst bK;clear kM kb;obtain⟨W2,δ⟩:∃W2,W2=w1.alloc (.cells #[.int .i64 f,.int .i64 s,.slice none 0 0,.slice none 0 0] 78):=⟨_,rfl⟩;have HW2:Hid (∀wx,wx=w1.alloc (.cells #[.int .i64 f,.int .i64 s,.slice none 0 0,.slice none 0 0] 78)->wx=W2):=λwx h=>h.trans δ.symm
  obtain⟨tb,γ⟩:∃tb,tb=w1.heap.size:=⟨_,rfl⟩;have h0:Ck w W2 tb f s rows 0 (.string ⟨#[]⟩) (.slice none 0 0) (.slice none 0 0):=by
   refine⟨Nat.zero_le _,rfl,λj h=>absurd h (Nat.not_lt_zero _),?_,⟨?_,Nat.lt_succ_self _,⟨rfl,.inl ⟨rfl,by simp[full]⟩⟩,⟨rfl,.inl ⟨rfl,by simp[full]⟩⟩,λg e=>by simp[Value.ownBlock] at e⟩,?_,?_⟩
   ·rw[δ,heap_alloc_old _ _ (aC HX.out)];exact HX.out
   ·rw[δ,γ];exact heap_alloc_new _ _
   ·rw[δ];exact cK.out.alloc cK.out.size _
   ·rw[δ,γ];simp
  have PS:=Ç h0;have htw:w.heap.size<tb:=by have:=MN.out;omega
  clear h0 δ;go_wp2_with fail;rw[HW2.out _ rfl,<-γ];clear γ HW2 HX cK HW MN;go_loopw [10,29] (λv10 i wr=>∃(k:Nat) (u1 u2:Value),i = .int .i64 (k:Int)/\Ck w wr tb f s rows k v10 u1 u2) (λ_ i _=>n-(intOf i).toNat);case atStart=>exact⟨0,_,_,rfl,PS.out⟩
  case round=>
   obtain⟨k,u1,u2,rfl,hm⟩:=hrel;have HM:=Ç hm;have hah:=hm.ah;obtain⟨a1,c1,rfl⟩:=bB hm.two.Br;obtain⟨a2,c2,rfl⟩:=bB hm.two.DR;have ϟ:=hm.siz;have È:=hm.aH.size;subst hah;clear hm PS;by_cases Ϧ:k<n
   ·have Ġ:k<rows.length:=by rw[HN.out];exact Ϧ
    rcases HP.out with h0|⟨b,o,rfl,Ϥ⟩
    ·rw[h0] at Ġ;exact absurd Ġ (Nat.not_lt_zero _)
    obtain⟨e1,A,C,e2,š⟩:=Ϥ k Ġ;have â:b<w.heap.size:=World.block_lt_of_cell? w ⟨b,_,none⟩ e1;obtain⟨agE,Œ,ē⟩:=qB.out _ (List.getElem_mem Ġ);obtain⟨nm,ď⟩:∃nm:ByteArray,nm=⟨(rows[k].1).toArray⟩:=⟨_,rfl⟩;obtain⟨ah,hah⟩:∃ah:ByteArray,ah=⟨(prev (rows.map Prod.fst) k).toArray⟩:=⟨_,rfl⟩;rw[<-hah];have q1:wr.cell? ⟨b,o+k*2,none⟩=some (.string nm):=by rw[ď];exact (HM.out.aH.cell (p:=⟨b,_,none⟩) â).trans e1
    have q2:wr.cell? ⟨b,o+k*2+1,none⟩=some (.slice A rows[k].2.length C):=(HM.out.aH.cell (p:=⟨b,_,none⟩) â).trans e2;have k0:(0:Int)<=(k:Int):=by omega
    have k1:(k:Int)<(n:Int):=by omega
    obtain⟨nk,ı⟩:∃nk,nk=rows[k].2.length:=⟨_,rfl⟩;have ε:rowAt f s rows k=pq f s ah.data.toList nm.data.toList rows[k].2:=by
     unfold rowAt;rw[hah,ď,(rP Ġ).1,(rP Ġ).2]
    have Vp:=λ(WA:World) (hb:Below w.heap.size w WA)=>P7 WA (HE.out.below hb hB) (Nat.le_trans hB hb.size) a1 a2 A ((full (rows.take k)).map Prod.fst).length c1 ((full (rows.take k)).map λr=>fG r.2).length c2 C f s ζ nm ah (Nat.le_trans (m:=1000) (by rw[ď];simpa [ByteArray.size] using Œ) (by decide)) rows[k].2 (š.below hb) agE ē
    rw[<-ı] at q2 Vp;rw[<-ε] at Vp;have wC:=Ç (And.intro ď hah);have O9:=Ç ı;have l5:=Ç Vp;obtain⟨WA,Kz⟩:∃WA,WA=wr.alloc (.cells #[.string nm,.slice A nk C] 52):=⟨_,rfl⟩;have qF:Below wr.heap.size wr WA:=by rw[Kz];exact (Below.refl _ _).alloc (Nat.le_refl _) _
    have ϯ:WA.heap[wr.heap.size]? = some (.cells #[.string nm,.slice A nk C] 52 (0,0)):=by rw[Kz];exact heap_alloc_new _ _
    have iO:=HM.out.two.below qF;have x0:WA.cell? ⟨tb,0,none⟩=some (.int .i64 f):=ak iO.blk 0;have x1:WA.cell? ⟨tb,1,none⟩=some (.int .i64 s):=ak iO.blk 1;have x2:WA.cell? ⟨tb,2,none⟩=some (.slice a1 _ c1):=ak iO.blk 2;have x3:WA.cell? ⟨tb,3,none⟩=some (.slice a2 _ c2):=ak iO.blk 3;have y0:WA.cell? ⟨wr.heap.size,0,none⟩=some (.string nm):=ak ϯ 0;have y1:WA.cell? ⟨wr.heap.size,1,none⟩=some (.slice A nk C):=ak ϯ 1;have kJ:Hid (∀wx,wx=wr.alloc (.cells #[.string nm,.slice A nk C] 52)->wx=WA):=λwx h=>h.trans Kz.symm
    have lq:=Ç qF;have kL:=Ç ϯ;have Io:=Ç iO;clear e1 e2 š ď hah ı ε Vp qF ϯ iO Kz Ϥ agE Œ ē;go_upto_region 9 with fail;rw[kJ.out _ rfl];generalize À:((full (rows.take k)).map Prod.fst).length=n1 at *;generalize ϧ:((full (rows.take k)).map λr=>fG r.2).length=n2 at *;have HG:=Ç (And.intro À ϧ);clear À ϧ;go_wp2_with fail;refine Calls.mono (l5.out WA (HM.out.aH.trans (lq.out.mono È))) ?_;rintro e w2 ⟨x,v,AA,rfl,ϓ,ë,ĩ⟩;have HB2:=Ç ϓ;have iN:Hid (aL ea w2 v (rowAt f s rows k) AA):=ë;have uK:Hid (rowAt f s rows k=0->x.data.toList=fG rows[k].2):=ĩ;have lC:=Ç ((HM.out.aH.trans (lq.out.mono È)).trans (ϓ.mono (Nat.le_trans È lq.out.size)));have ŀ:wr.heap.size<w2.heap.size:=Nat.lt_of_lt_of_le (aC kL.out) ϓ.size;clear ϓ ë ĩ l5 x0 x1 x2 x3 y0 y1 q1 q2;by_cases Ć:rowAt f s rows k=0
    ·have hv:=iN.out.none Ć;subst hv;have hx:=uK.out Ć;have h2r:w2.heap[wr.heap.size]? = some (.cells #[.string nm,.slice A nk C] 52 (0,0)):=(HB2.out.block _ (aC kL.out)).trans kL.out;have h2t:=Io.out.below HB2.out;have y0:w2.cell? ⟨wr.heap.size,0,none⟩=some (.string nm):=ak h2r 0;have y1:w2.cell? ⟨wr.heap.size,1,none⟩=some (.slice A nk C):=ak h2r 1;have iJ:Hid (∀j,j<k+1->rowAt f s rows j=0):=λj hj=>by
      rcases Nat.lt_or_ge j k with h|h
      ·exact HM.out.ok j h
      ·obtain rfl:j=k:=by omega
       exact Ć
     have Ą:w2.heap[w.heap.size]? = some (.cells #[.int .i64 0,.int .i64 0,.slice none 0 0,.slice none 0 0] 78 (0,0)):=(HB2.out.block _ (Nat.lt_of_lt_of_le (aC HM.out.res) lq.out.size)).trans ((lq.out.block _ (aC HM.out.res)).trans HM.out.res);have sI:=Ç Ą;have oM:Hid (full (rows.take (k+1))=if 0<nk then full (rows.take k) ++ [rows[k]] else full (rows.take k)):=by
      show _=_;rw[List.take_succ_eq_append_getElem Ġ,Xv,O9.out]
     have HAH:Hid (prev (rows.map Prod.fst) (k+1)=nm.data.toList):=by
      show _=_;rw[MP (by simpa using Ġ),wC.out.1];simp
     have AL:=Ç h2r;have MR:=Ç h2t;clear Ą h2r h2t Ć;by_cases hz:0<nk
     ·have hd:decide ((0:Int)<(nk:Int))=true:=by simp;omega
      obtain⟨iS,hS,ī,Μ,hS2⟩:=info_parts Tryz.infoStr3;have zP:=Ç hS;have t2:w2.cell? ⟨tb,2,none⟩=some (.slice a1 n1 c1):=ak MR.out.blk 2;have t3:w2.cell? ⟨tb,3,none⟩=some (.slice a2 n2 c2):=ak MR.out.blk 3;have htl:tb<w2.heap.size:=aC MR.out.blk;have Ð:n1<=60/\n2<=60:=by
       have h1:=HG.out.1;have h2:=HG.out.2;have h3:(full (rows.take k)).length<=(rows.take k).length:=List.length_filter_le ..;have h4:(rows.take k).length<=k:=by simp;omega
       simp only[List.length_map] at h1 h2;omega
      have yA:tb+1<=w2.heap.size:=htl;clear hS;go_wp2_with fail;obtain⟨Cm,Vq⟩:∃Cm:List (List UInt8),Cm=((full (rows.take k)).map λr=>fG r.2):=⟨_,rfl⟩;have HT2:Hid (vT w2 (tb+1) tb f s (.slice a1 n1 c1) (.slice a2 n2 c2) ((full (rows.take k)).map Prod.fst) Cm):=by rw[Vq];exact MR.out
      have Ey:Hid (Cm.length=n2):=by rw[Vq];exact HG.out.2
      have XT:=Ç Vq;clear Vq;have oH:Hid (w2.ownsRow (tb+1) 9 1 (.slice a1 n1 c1) n1 (((full (rows.take k)).map Prod.fst).map encStr)):=by have:=MR.out.Br;rw[HG.out.1] at this;exact this
      have Iu:Hid (∀z,Below w2.heap.size w2 z->(z.cell? ⟨tb,2,none⟩=some (.slice a1 n1 c1)/\z.cell? ⟨tb,3,none⟩=some (.slice a2 n2 c2)/\z.cell? ⟨wr.heap.size,0,none⟩=some (.string nm))):=λz hz=>by
       have q1:=(hz.block _ (aC MR.out.blk)).trans MR.out.blk;have q2:=(hz.block _ (aC AL.out)).trans AL.out;exact⟨ak q1 2,ak q1 3,ak q2 0⟩
      have HXC:Hid (x.data.toList=fG rows[k].2):=hx;clear hx;refine jB (S:=λw'=>(w'.cell? ⟨tb,2,none⟩=some (.slice a1 n1 c1)/\w'.cell? ⟨tb,3,none⟩=some (.slice a2 n2 c2)/\w'.cell? ⟨wr.heap.size,0,none⟩=some (.string nm))) (by kernel_rfl) 12 ⟨t2,t3,y0⟩ (λύ=>?_);refine nZ (i:=0) (v:=.pointer (some ⟨tb,2,none⟩)) rfl (by kernel_rfl) (by kernel_rfl) (by kernel_rfl) (by kernel_rfl) (by kernel_rfl) (by kernel_rfl) (λ_ _ _ h=>h) (Or.inl ⟨by rfl,?_⟩) ύ ?_
      ·intro w Ä;obtain⟨g2,g3,g4⟩:=Ä;go_simp
      try simp only[Act.put]
      refine nZ (i:=1) (v:=.slice a1 n1 c1) rfl (by kernel_rfl) (by kernel_rfl) (by kernel_rfl) (by kernel_rfl) (by kernel_rfl) (by kernel_rfl) (λ_ _ _ h=>h) (Or.inl ⟨by rfl,?_⟩) ύ ?_
      ·intro w Ä;obtain⟨g2,g3,g4⟩:=Ä;go_simp
      try simp only[Act.put]
      refine nZ (i:=2) (v:=.pointer (some ⟨wr.heap.size,0,none⟩)) rfl (by kernel_rfl) (by kernel_rfl) (by kernel_rfl) (by kernel_rfl) (by kernel_rfl) (by kernel_rfl) (λ_ _ _ h=>h) (Or.inl ⟨by rfl,?_⟩) ύ ?_
      ·intro w Ä;obtain⟨g2,g3,g4⟩:=Ä;go_simp
      try simp only[Act.put]
      refine nZ (i:=3) (v:=.string nm) rfl (by kernel_rfl) (by kernel_rfl) (by kernel_rfl) (by kernel_rfl) (by kernel_rfl) (by kernel_rfl) (λ_ _ _ h=>h) (Or.inl ⟨by rfl,?_⟩) ύ ?_
      ·intro w Ä;obtain⟨g2,g3,g4⟩:=Ä;go_simp
      try simp only[Act.put]
      refine nZ (i:=6) (v:=.pointer (some ⟨tb,3,none⟩)) rfl (by kernel_rfl) (by kernel_rfl) (by kernel_rfl) (by kernel_rfl) (by kernel_rfl) (by kernel_rfl) (λ_ _ _ h=>h) (Or.inl ⟨by rfl,?_⟩) ύ ?_
      ·intro w Ä;obtain⟨g2,g3,g4⟩:=Ä;go_simp
      try simp only[Act.put]
      refine nZ (i:=7) (v:=.slice a2 n2 c2) rfl (by kernel_rfl) (by kernel_rfl) (by kernel_rfl) (by kernel_rfl) (by kernel_rfl) (by kernel_rfl) (λ_ _ _ h=>h) (Or.inl ⟨by rfl,?_⟩) ύ ?_
      ·intro w Ä;obtain⟨g2,g3,g4⟩:=Ä;go_simp
      try simp only[Act.put]
      refine lD (i:=8) (v:=.string x) rfl (by kernel_rfl) (by kernel_rfl) (by kernel_rfl) (by kernel_rfl) (λ_ _ _ h=>h) (Or.inl ⟨by rfl,?_⟩) (λ_=>ύ) ?_
      ·intro w _;go_simp
      try simp only[Act.put]
      refine dJ (rs:=[4,9]) (by kernel_rfl) (by simp) ?_;refine aU.cons rfl (λK hK=>?_) (aU.cons rfl (λK hK=>?_) aU.nil)
      ·go_simp
       refine hK.out _ _ (Iu.out _ (by repeat (first|exact Below.refl _ _|with_reducible apply bE|with_reducible apply fD))) ?_;clear hK K;try simp only[Act.put]
       refine dJ (rs:=[5,9]) (by kernel_rfl) (by simp) ?_;refine aU.cons rfl (λK hK=>?_) (aU.cons rfl (λK hK=>?_) aU.nil)
       ·refine uM w2 (by rfl) _ _ 32 (by rfl) (tb+1) 9 iS (.string ⟨#[]⟩) 16 underlying32 zP.out ī Μ hS2 (by rfl) (.slice a1 n1 c1) n1 (((full (rows.take k)).map Prod.fst).map encStr) (by rfl) oH.out (by repeat (first|exact Below.refl _ _|with_reducible apply bE|with_reducible apply fD)) _ _ _ _ (by rfl) (by first|exact heap_alloc_new _ _|exact Kv _ _ _|exact Kw _ _ _) (by rfl) (by omega) (by decide) yA ?_;intro g7 fF w7 bT fT rA;obtain⟨m1,m2,m3,m4,m5⟩:=HT2.out.mid yA rA fT;have AO:Hid (w7.ownsRow (tb+1) 9 1 (.slice a2 n2 c2) n2 (Cm.map encStr)):=by rw[Ey.out] at m2;exact m2
        have Gd:=Ç m5;have FZ:=Ç m3;have Ep:=Ç bT;have vI:=Ç fT;have xO:=Ç rA;have ni:Hid (∀z,Below w7.heap.size w7 z->(z.cell? ⟨tb,2,none⟩=some (.slice a1 n1 c1)/\z.cell? ⟨tb,3,none⟩=some (.slice a2 n2 c2)/\z.cell? ⟨wr.heap.size,0,none⟩=some (.string nm))):=λz hz=>by
         have q1:=(hz.block _ (aC m1)).trans m1;have q2:=(hz.block _ (aC (HT2.out.other rA fT AL.out (by decide)))).trans (HT2.out.other rA fT AL.out (by decide));exact⟨ak q1 2,ak q1 3,ak q2 0⟩
        clear bT fT rA m1 m2 m3 m5;refine hK.out _ _ (ni.out _ (Below.refl _ _)) ?_;clear hK K;try simp only[Act.put]
        refine lD (i:=11) (v:=.pointer (some ⟨tb,2,none⟩)) rfl (by kernel_rfl) (by kernel_rfl) (by kernel_rfl) (by kernel_rfl) (λ_ _ _ h=>h) (Or.inl ⟨by rfl,?_⟩) (λ_=>ni.out _ (Below.refl _ _)) ?_
        ·intro w _;go_simp
        try simp only[Act.put]
        refine dJ (rs:=[9]) (by kernel_rfl) (by simp) ?_;refine aU.cons rfl (λK hK=>?_) aU.nil;go_simp
        refine hK.out _ _ (ni.out _ (by repeat (first|exact Below.refl _ _|with_reducible apply bE|with_reducible apply fD))) ?_;clear hK K;try simp only[Act.put]
        refine dJ (rs:=[10]) (by kernel_rfl) (by simp) ?_;refine aU.cons rfl (λK hK=>?_) aU.nil;refine uM w7 (by rfl) _ _ 32 (by rfl) (tb+1) 9 iS (.string ⟨#[]⟩) 16 underlying32 zP.out ī Μ hS2 (by rfl) (.slice a2 n2 c2) n2 (Cm.map encStr) (by rfl) AO.out (by repeat (first|exact Below.refl _ _|with_reducible apply bE|with_reducible apply fD)) _ _ _ _ (by rfl) (by exact heap_alloc_new _ _) (by rfl) (by omega) (by decide) FZ.out ?_;intro g8 pz w8 rT kX rC;have uN:=HT2.out.last yA xO.out vI.out rC kX;have MS:=HT2.out.more (x:=nm.data.toList) (y:=x.data.toList) yA xO.out (by rw[HG.out.1,wU nm];exact Ep.out) vI.out rC (by rw[Ey.out,wU x];exact rT) kX;have Hw:=Ç MS;have Ym:w8.cell? ⟨tb,2,none⟩=some (.slice a1 n1 c1):=ak uN 2;have Yn:w8.cell? ⟨tb,3,none⟩=some (.slice a2 n2 c2):=ak uN 3;have f8:∀q,w8.frozen? ⟨tb,q,none⟩=false:=λq=>by simp[World.frozen?,uN]
        have Ez:Hid ((w8.cell? ⟨tb,2,none⟩=some (.slice a1 n1 c1)/\w8.cell? ⟨tb,3,none⟩=some (.slice a2 n2 c2)/\w8.cell? ⟨wr.heap.size,0,none⟩=some (.string nm))):=by
         have q1:=uN;have q2:=(show zU _ w8 _ _ from kX).other (bM AO.out rC) ((rC.block _ (aC (HT2.out.other xO.out vI.out AL.out (by decide)))).trans (HT2.out.other xO.out vI.out AL.out (by decide))) (by decide);exact⟨ak q1 2,ak q1 3,ak q2 0⟩
        clear rT kX rC MS;refine hK.out _ _ Ez.out ?_;clear hK K;try simp only[Act.put]
        refine dJ (rs:=[12]) (by kernel_rfl) (by simp) ?_;refine aU.last rfl (by kernel_rfl) (λK hK=>?_) aU.nil;go_simp
        refine hK.out _ _ ?_;clear hK K;try simp only[Act.put]
        refine lD (i:=13) (v:=.pointer (some ⟨tb,3,none⟩)) rfl (by kernel_rfl) (by kernel_rfl) (by kernel_rfl) (by kernel_rfl) (λ_ _ _ h=>h) (Or.inl ⟨by rfl,?_⟩) (λ_=>absurd ‹_› (by decide)) ?_
        ·intro w _;go_simp
        try simp only[Act.put]
        obtain⟨Z8,AP⟩:∃Z8,Z8=w8.setCell ⟨tb,2,none⟩ (.slice (some ⟨g7,0,none⟩) (n1+1) fF):=⟨_,rfl⟩;have Gf:Z8.heap[tb]? = some (.cells #[.int .i64 f,.int .i64 s,.slice (some ⟨g7,0,none⟩) (n1+1) fF,.slice a2 n2 c2] 78 (0,0)):=by rw[AP];exact (eu uN 2 _).trans (by rfl)
        have c93:Z8.cell? ⟨tb,3,none⟩=some (.slice a2 n2 c2):=ak Gf 3;have f9:∀q,Z8.frozen? ⟨tb,q,none⟩=false:=λq=>by simp[World.frozen?,Gf]
        rw[<-AP];have MU:=Ç AP;clear AP Gf uN Ym Yn f8;refine dJ (rs:=[14]) (by kernel_rfl) (by simp) ?_;refine aU.last rfl (by kernel_rfl) (λK hK=>?_) aU.nil;go_simp
        refine hK.out _ _ ?_;clear hK K;refine fB (by kernel_rfl) ?_ _;have qL:Hid (Ck w (Z8.setCell ⟨tb,3,none⟩ (.slice (some ⟨g8,0,none⟩) (n2+1) pz)) tb f s rows (k+1) (.string nm) (.slice (some ⟨g7,0,none⟩) (n1+1) fF) (.slice (some ⟨g8,0,none⟩) (n2+1) pz)):=by
         obtain⟨j1,j2,j3⟩:=Hw.out;rw[MU.out];have Ô:full (rows.take (k+1))=full (rows.take k) ++ [rows[k]]:=by rw[oM.out,if_pos hz]
         have e1:(full (rows.take (k+1))).map Prod.fst=(full (rows.take k)).map Prod.fst ++ [nm.data.toList]:=by rw[Ô,List.map_append,wC.out.1];simp
         have e2:((full (rows.take (k+1))).map λr=>fG r.2)=Cm ++ [x.data.toList]:=by rw[Ô,List.map_append,HXC.out,XT.out];simp
         have hw8:=j3.size;refine⟨by omega,by rw[HAH.out],iJ.out,?_,?_,?_,?_⟩
         ·rw[Below.heap_setCell _ _ _ _ (by show w.heap.size≠tb;omega),Below.heap_setCell _ _ _ _ (by show w.heap.size≠tb;omega),j3.block _ (by omega)];exact sI.out
         ·rw[e1,e2];rw[HG.out.1,Ey.out] at j1;exact j1
         ·exact ((lC.out.trans (j3.mono (by omega))).setCell (by show w.heap.size<=tb;omega) _).setCell (by show w.heap.size<=tb;omega) _
         ·simp
          omega
        clear Hw MU Ep vI xO AO FZ Gd ni Ez;go_wp2;go_roundw;case rel=>exact⟨k+1,_,_,by go_num,qL.out⟩
        case measure=>simp[intOf]<;>omega
       ·go_simp
        refine hK.out _ _ (Iu.out _ (by repeat (first|exact Below.refl _ _|with_reducible apply bE|with_reducible apply fD))) ?_;clear hK K;try simp only[Act.put]
        refine dJ (rs:=[5]) (by kernel_rfl) (by simp) ?_;refine aU.cons rfl (λK hK=>?_) aU.nil;refine uM w2 (by rfl) _ _ 32 (by rfl) (tb+1) 9 iS (.string ⟨#[]⟩) 16 underlying32 zP.out ī Μ hS2 (by rfl) (.slice a1 n1 c1) n1 (((full (rows.take k)).map Prod.fst).map encStr) (by rfl) oH.out (by repeat (first|exact Below.refl _ _|with_reducible apply bE|with_reducible apply fD)) _ _ _ _ (by rfl) (by first|exact heap_alloc_new _ _|exact Kv _ _ _|exact Kw _ _ _) (by rfl) (by omega) (by decide) yA ?_;intro g7 fF w7 bT fT rA;obtain⟨m1,m2,m3,m4,m5⟩:=HT2.out.mid yA rA fT;have AO:Hid (w7.ownsRow (tb+1) 9 1 (.slice a2 n2 c2) n2 (Cm.map encStr)):=by rw[Ey.out] at m2;exact m2
        have Gd:=Ç m5;have FZ:=Ç m3;have Ep:=Ç bT;have vI:=Ç fT;have xO:=Ç rA;have ni:Hid (∀z,Below w7.heap.size w7 z->(z.cell? ⟨tb,2,none⟩=some (.slice a1 n1 c1)/\z.cell? ⟨tb,3,none⟩=some (.slice a2 n2 c2)/\z.cell? ⟨wr.heap.size,0,none⟩=some (.string nm))):=λz hz=>by
         have q1:=(hz.block _ (aC m1)).trans m1;have q2:=(hz.block _ (aC (HT2.out.other rA fT AL.out (by decide)))).trans (HT2.out.other rA fT AL.out (by decide));exact⟨ak q1 2,ak q1 3,ak q2 0⟩
        clear bT fT rA m1 m2 m3 m5;refine hK.out _ _ (ni.out _ (Below.refl _ _)) ?_;clear hK K;try simp only[Act.put]
        refine lD (i:=11) (v:=.pointer (some ⟨tb,2,none⟩)) rfl (by kernel_rfl) (by kernel_rfl) (by kernel_rfl) (by kernel_rfl) (λ_ _ _ h=>h) (Or.inl ⟨by rfl,?_⟩) (λ_=>ni.out _ (Below.refl _ _)) ?_
        ·intro w _;go_simp
        try simp only[Act.put]
        refine dJ (rs:=[10]) (by kernel_rfl) (by simp) ?_;refine aU.cons rfl (λK hK=>?_) aU.nil;refine uM w7 (by rfl) _ _ 32 (by rfl) (tb+1) 9 iS (.string ⟨#[]⟩) 16 underlying32 zP.out ī Μ hS2 (by rfl) (.slice a2 n2 c2) n2 (Cm.map encStr) (by rfl) AO.out (by repeat (first|exact Below.refl _ _|with_reducible apply bE|with_reducible apply fD)) _ _ _ _ (by rfl) (by first|exact Gd.out _ _ (by simp) (heap_alloc_new _ _)|exact Gd.out _ _ (by simp) (Kv _ _ _)|exact Gd.out _ _ (by simp) (Kw _ _ _)) (by rfl) (by omega) (by decide) FZ.out ?_;intro g8 pz w8 rT kX rC;have uN:=HT2.out.last yA xO.out vI.out rC kX;have MS:=HT2.out.more (x:=nm.data.toList) (y:=x.data.toList) yA xO.out (by rw[HG.out.1,wU nm];exact Ep.out) vI.out rC (by rw[Ey.out,wU x];exact rT) kX;have Hw:=Ç MS;have Ym:w8.cell? ⟨tb,2,none⟩=some (.slice a1 n1 c1):=ak uN 2;have Yn:w8.cell? ⟨tb,3,none⟩=some (.slice a2 n2 c2):=ak uN 3;have f8:∀q,w8.frozen? ⟨tb,q,none⟩=false:=λq=>by simp[World.frozen?,uN]
        have Ez:Hid ((w8.cell? ⟨tb,2,none⟩=some (.slice a1 n1 c1)/\w8.cell? ⟨tb,3,none⟩=some (.slice a2 n2 c2)/\w8.cell? ⟨wr.heap.size,0,none⟩=some (.string nm))):=by
         have q1:=uN;have q2:=(show zU _ w8 _ _ from kX).other (bM AO.out rC) ((rC.block _ (aC (HT2.out.other xO.out vI.out AL.out (by decide)))).trans (HT2.out.other xO.out vI.out AL.out (by decide))) (by decide);exact⟨ak q1 2,ak q1 3,ak q2 0⟩
        clear rT kX rC MS;refine hK.out _ _ Ez.out ?_;clear hK K;try simp only[Act.put]
        refine dJ (rs:=[12]) (by kernel_rfl) (by simp) ?_;refine aU.last rfl (by kernel_rfl) (λK hK=>?_) aU.nil;go_simp
        refine hK.out _ _ ?_;clear hK K;try simp only[Act.put]
        refine lD (i:=13) (v:=.pointer (some ⟨tb,3,none⟩)) rfl (by kernel_rfl) (by kernel_rfl) (by kernel_rfl) (by kernel_rfl) (λ_ _ _ h=>h) (Or.inl ⟨by rfl,?_⟩) (λ_=>absurd ‹_› (by decide)) ?_
        ·intro w _;go_simp
        try simp only[Act.put]
        obtain⟨Z8,AP⟩:∃Z8,Z8=w8.setCell ⟨tb,2,none⟩ (.slice (some ⟨g7,0,none⟩) (n1+1) fF):=⟨_,rfl⟩;have Gf:Z8.heap[tb]? = some (.cells #[.int .i64 f,.int .i64 s,.slice (some ⟨g7,0,none⟩) (n1+1) fF,.slice a2 n2 c2] 78 (0,0)):=by rw[AP];exact (eu uN 2 _).trans (by rfl)
        have c93:Z8.cell? ⟨tb,3,none⟩=some (.slice a2 n2 c2):=ak Gf 3;have f9:∀q,Z8.frozen? ⟨tb,q,none⟩=false:=λq=>by simp[World.frozen?,Gf]
        rw[<-AP];have MU:=Ç AP;clear AP Gf uN Ym Yn f8;refine dJ (rs:=[14]) (by kernel_rfl) (by simp) ?_;refine aU.last rfl (by kernel_rfl) (λK hK=>?_) aU.nil;go_simp
        refine hK.out _ _ ?_;clear hK K;refine fB (by kernel_rfl) ?_ _;have qL:Hid (Ck w (Z8.setCell ⟨tb,3,none⟩ (.slice (some ⟨g8,0,none⟩) (n2+1) pz)) tb f s rows (k+1) (.string nm) (.slice (some ⟨g7,0,none⟩) (n1+1) fF) (.slice (some ⟨g8,0,none⟩) (n2+1) pz)):=by
         obtain⟨j1,j2,j3⟩:=Hw.out;rw[MU.out];have Ô:full (rows.take (k+1))=full (rows.take k) ++ [rows[k]]:=by rw[oM.out,if_pos hz]
         have e1:(full (rows.take (k+1))).map Prod.fst=(full (rows.take k)).map Prod.fst ++ [nm.data.toList]:=by rw[Ô,List.map_append,wC.out.1];simp
         have e2:((full (rows.take (k+1))).map λr=>fG r.2)=Cm ++ [x.data.toList]:=by rw[Ô,List.map_append,HXC.out,XT.out];simp
         have hw8:=j3.size;refine⟨by omega,by rw[HAH.out],iJ.out,?_,?_,?_,?_⟩
         ·rw[Below.heap_setCell _ _ _ _ (by show w.heap.size≠tb;omega),Below.heap_setCell _ _ _ _ (by show w.heap.size≠tb;omega),j3.block _ (by omega)];exact sI.out
         ·rw[e1,e2];rw[HG.out.1,Ey.out] at j1;exact j1
         ·exact ((lC.out.trans (j3.mono (by omega))).setCell (by show w.heap.size<=tb;omega) _).setCell (by show w.heap.size<=tb;omega) _
         ·simp
          omega
        clear Hw MU Ep vI xO AO FZ Gd ni Ez;go_wp2;go_roundw;case rel=>exact⟨k+1,_,_,by go_num,qL.out⟩
        case measure=>simp[intOf]<;>omega
      ·go_simp
       refine hK.out _ _ (Iu.out _ (by repeat (first|exact Below.refl _ _|with_reducible apply bE|with_reducible apply fD))) ?_;clear hK K;try simp only[Act.put]
       refine dJ (rs:=[4]) (by kernel_rfl) (by simp) ?_;refine aU.cons rfl (λK hK=>?_) aU.nil;go_simp
       refine hK.out _ _ (Iu.out _ (by repeat (first|exact Below.refl _ _|with_reducible apply bE|with_reducible apply fD))) ?_;clear hK K;try simp only[Act.put]
       refine dJ (rs:=[5]) (by kernel_rfl) (by simp) ?_;refine aU.cons rfl (λK hK=>?_) aU.nil;refine uM w2 (by rfl) _ _ 32 (by rfl) (tb+1) 9 iS (.string ⟨#[]⟩) 16 underlying32 zP.out ī Μ hS2 (by rfl) (.slice a1 n1 c1) n1 (((full (rows.take k)).map Prod.fst).map encStr) (by rfl) oH.out (by repeat (first|exact Below.refl _ _|with_reducible apply bE|with_reducible apply fD)) _ _ _ _ (by rfl) (by first|exact heap_alloc_new _ _|exact Kv _ _ _|exact Kw _ _ _) (by rfl) (by omega) (by decide) yA ?_;intro g7 fF w7 bT fT rA;obtain⟨m1,m2,m3,m4,m5⟩:=HT2.out.mid yA rA fT;have AO:Hid (w7.ownsRow (tb+1) 9 1 (.slice a2 n2 c2) n2 (Cm.map encStr)):=by rw[Ey.out] at m2;exact m2
       have Gd:=Ç m5;have FZ:=Ç m3;have Ep:=Ç bT;have vI:=Ç fT;have xO:=Ç rA;have ni:Hid (∀z,Below w7.heap.size w7 z->(z.cell? ⟨tb,2,none⟩=some (.slice a1 n1 c1)/\z.cell? ⟨tb,3,none⟩=some (.slice a2 n2 c2)/\z.cell? ⟨wr.heap.size,0,none⟩=some (.string nm))):=λz hz=>by
        have q1:=(hz.block _ (aC m1)).trans m1;have q2:=(hz.block _ (aC (HT2.out.other rA fT AL.out (by decide)))).trans (HT2.out.other rA fT AL.out (by decide));exact⟨ak q1 2,ak q1 3,ak q2 0⟩
       clear bT fT rA m1 m2 m3 m5;refine hK.out _ _ (ni.out _ (Below.refl _ _)) ?_;clear hK K;try simp only[Act.put]
       refine lD (i:=11) (v:=.pointer (some ⟨tb,2,none⟩)) rfl (by kernel_rfl) (by kernel_rfl) (by kernel_rfl) (by kernel_rfl) (λ_ _ _ h=>h) (Or.inl ⟨by rfl,?_⟩) (λ_=>ni.out _ (Below.refl _ _)) ?_
       ·intro w _;go_simp
       try simp only[Act.put]
       refine dJ (rs:=[10]) (by kernel_rfl) (by simp) ?_;refine aU.cons rfl (λK hK=>?_) aU.nil;refine uM w7 (by rfl) _ _ 32 (by rfl) (tb+1) 9 iS (.string ⟨#[]⟩) 16 underlying32 zP.out ī Μ hS2 (by rfl) (.slice a2 n2 c2) n2 (Cm.map encStr) (by rfl) AO.out (by repeat (first|exact Below.refl _ _|with_reducible apply bE|with_reducible apply fD)) _ _ _ _ (by rfl) (by first|exact Gd.out _ _ (by simp) (heap_alloc_new _ _)|exact Gd.out _ _ (by simp) (Kv _ _ _)|exact Gd.out _ _ (by simp) (Kw _ _ _)) (by rfl) (by omega) (by decide) FZ.out ?_;intro g8 pz w8 rT kX rC;have uN:=HT2.out.last yA xO.out vI.out rC kX;have MS:=HT2.out.more (x:=nm.data.toList) (y:=x.data.toList) yA xO.out (by rw[HG.out.1,wU nm];exact Ep.out) vI.out rC (by rw[Ey.out,wU x];exact rT) kX;have Hw:=Ç MS;have Ym:w8.cell? ⟨tb,2,none⟩=some (.slice a1 n1 c1):=ak uN 2;have Yn:w8.cell? ⟨tb,3,none⟩=some (.slice a2 n2 c2):=ak uN 3;have f8:∀q,w8.frozen? ⟨tb,q,none⟩=false:=λq=>by simp[World.frozen?,uN]
       have Ez:Hid ((w8.cell? ⟨tb,2,none⟩=some (.slice a1 n1 c1)/\w8.cell? ⟨tb,3,none⟩=some (.slice a2 n2 c2)/\w8.cell? ⟨wr.heap.size,0,none⟩=some (.string nm))):=by
        have q1:=uN;have q2:=(show zU _ w8 _ _ from kX).other (bM AO.out rC) ((rC.block _ (aC (HT2.out.other xO.out vI.out AL.out (by decide)))).trans (HT2.out.other xO.out vI.out AL.out (by decide))) (by decide);exact⟨ak q1 2,ak q1 3,ak q2 0⟩
       clear rT kX rC MS;refine hK.out _ _ Ez.out ?_;clear hK K;try simp only[Act.put]
       refine dJ (rs:=[12]) (by kernel_rfl) (by simp) ?_;refine aU.last rfl (by kernel_rfl) (λK hK=>?_) aU.nil;go_simp
       refine hK.out _ _ ?_;clear hK K;try simp only[Act.put]
       refine lD (i:=13) (v:=.pointer (some ⟨tb,3,none⟩)) rfl (by kernel_rfl) (by kernel_rfl) (by kernel_rfl) (by kernel_rfl) (λ_ _ _ h=>h) (Or.inl ⟨by rfl,?_⟩) (λ_=>absurd ‹_› (by decide)) ?_
       ·intro w _;go_simp
       try simp only[Act.put]
       obtain⟨Z8,AP⟩:∃Z8,Z8=w8.setCell ⟨tb,2,none⟩ (.slice (some ⟨g7,0,none⟩) (n1+1) fF):=⟨_,rfl⟩;have Gf:Z8.heap[tb]? = some (.cells #[.int .i64 f,.int .i64 s,.slice (some ⟨g7,0,none⟩) (n1+1) fF,.slice a2 n2 c2] 78 (0,0)):=by rw[AP];exact (eu uN 2 _).trans (by rfl)
       have c93:Z8.cell? ⟨tb,3,none⟩=some (.slice a2 n2 c2):=ak Gf 3;have f9:∀q,Z8.frozen? ⟨tb,q,none⟩=false:=λq=>by simp[World.frozen?,Gf]
       rw[<-AP];have MU:=Ç AP;clear AP Gf uN Ym Yn f8;refine dJ (rs:=[14]) (by kernel_rfl) (by simp) ?_;refine aU.last rfl (by kernel_rfl) (λK hK=>?_) aU.nil;go_simp
       refine hK.out _ _ ?_;clear hK K;refine fB (by kernel_rfl) ?_ _;have qL:Hid (Ck w (Z8.setCell ⟨tb,3,none⟩ (.slice (some ⟨g8,0,none⟩) (n2+1) pz)) tb f s rows (k+1) (.string nm) (.slice (some ⟨g7,0,none⟩) (n1+1) fF) (.slice (some ⟨g8,0,none⟩) (n2+1) pz)):=by
        obtain⟨j1,j2,j3⟩:=Hw.out;rw[MU.out];have Ô:full (rows.take (k+1))=full (rows.take k) ++ [rows[k]]:=by rw[oM.out,if_pos hz]
        have e1:(full (rows.take (k+1))).map Prod.fst=(full (rows.take k)).map Prod.fst ++ [nm.data.toList]:=by rw[Ô,List.map_append,wC.out.1];simp
        have e2:((full (rows.take (k+1))).map λr=>fG r.2)=Cm ++ [x.data.toList]:=by rw[Ô,List.map_append,HXC.out,XT.out];simp
        have hw8:=j3.size;refine⟨by omega,by rw[HAH.out],iJ.out,?_,?_,?_,?_⟩
        ·rw[Below.heap_setCell _ _ _ _ (by show w.heap.size≠tb;omega),Below.heap_setCell _ _ _ _ (by show w.heap.size≠tb;omega),j3.block _ (by omega)];exact sI.out
        ·rw[e1,e2];rw[HG.out.1,Ey.out] at j1;exact j1
        ·exact ((lC.out.trans (j3.mono (by omega))).setCell (by show w.heap.size<=tb;omega) _).setCell (by show w.heap.size<=tb;omega) _
        ·simp
         omega
       clear Hw MU Ep vI xO AO FZ Gd ni Ez;go_wp2;go_roundw;case rel=>exact⟨k+1,_,_,by go_num,qL.out⟩
       case measure=>simp[intOf]<;>omega
     ·have hd:decide ((0:Int)<(nk:Int))=false:=by simp;omega
      have Ô:full (rows.take (k+1))=full (rows.take k):=by rw[oM.out,if_neg hz]
      have qL:Hid (Ck w w2 tb f s rows (k+1) (.string nm) (.slice a1 n1 c1) (.slice a2 n2 c2)):=by
       refine⟨by omega,by rw[HAH.out],iJ.out,sI.out,?_,lC.out,by omega⟩;rw[Ô];exact MR.out
      clear Ô;go_wp2;go_roundw;case rel=>exact⟨k+1,_,_,by go_num,qL.out⟩
      case measure=>simp[intOf]<;>omega
    ·obtain⟨t,p,hv⟩:=iN.out.pos Ć;have ü:0<rowAt f s rows k:=by
      have:0<=rowAt f s rows k:=RQ ..;omega
     have Ay:=Ç (ach w2 (HE.out.below lC.out hB).types (Nat.le_trans hB lC.out.size) (k:Int) v _ _ iN.out ü);obtain⟨hC,hA⟩:=aiP (f:=f) (s:=s) (rows:=rows) (by rw[HN.out];exact Gb.out) Ġ HM.out.ok Ć;have HC:=Ç (And.intro hC hA);have FX:=Ç Ć;have Ą:w2.heap[w.heap.size]? = some (.cells #[.int .i64 0,.int .i64 0,.slice none 0 0,.slice none 0 0] 78 (0,0)):=(HB2.out.block _ (Nat.lt_of_lt_of_le (aC HM.out.res) lq.out.size)).trans ((lq.out.block _ (aC HM.out.res)).trans HM.out.res);have sI:=Ç Ą;subst hv;clear hC hA Ć Ą uK;go_wp2_with fail;refine Calls.mono Ay.out ?_;rintro e w3 ⟨pb,mm,rfl,ώ,hmm,zz0,zz1,hcm⟩;have AQ:=(ώ.block _ (aC sI.out)).trans sI.out;have HB3:=Ç (lC.out.trans (ώ.mono lC.out.size));have Ĩ:pb≠w.heap.size:=λe=>by
      subst e;have:=(ak AQ 1).symm.trans zz1;simp at this
     have p0:w3.cell? ⟨w.heap.size,0,none⟩=some (.int .i64 0):=ak AQ 0;have p1:w3.cell? ⟨w.heap.size,1,none⟩=some (.int .i64 0):=ak AQ 1;have p2:w3.cell? ⟨w.heap.size,2,none⟩=some (.slice none 0 0):=ak AQ 2;have p3:w3.cell? ⟨w.heap.size,3,none⟩=some (.slice none 0 0):=ak AQ 3;have pf:∀k,w3.frozen? ⟨w.heap.size,k,none⟩=false:=λk=>by simp[World.frozen?,AQ]
     have mY:Hid (aL ea w3 (.iface 126 (.pointer (some ⟨pb,0,none⟩))) (jS f s rows) (Eo f s rows)/\w3.heap[w.heap.size]? = some (.cells #[.int .i64 0,.int .i64 0,.slice none 0 0,.slice none 0 0] 78 (0,0))/\pb≠w.heap.size):=by
      refine⟨?_,AQ,Ĩ⟩;rw[HC.out.1,HC.out.2];exact .inr (.inr ⟨pb,mm,hmm,rfl,zz0,zz1,hcm⟩)
     clear ώ zz0 zz1 hcm Ay AQ Ĩ;go_wp2;obtain⟨Z,hZ⟩:∃Z,Z=((((w3.setCell ⟨w.heap.size,0,none⟩ (.int .i64 0)).setCell ⟨w.heap.size,1,none⟩ (.int .i64 0)).setCell ⟨w.heap.size,2,none⟩ (.slice none 0 0)).setCell ⟨w.heap.size,3,none⟩ (.slice none 0 0)):=⟨_,rfl⟩;rw[<-hZ];have mO:Z.heap[w.heap.size]? = some (.cells #[.int .i64 0,.int .i64 0,.slice none 0 0,.slice none 0 0] 78 (0,0)):=by rw[hZ];exact uy mY.out.2.1 _ _ _ _
     have hzb:Below w.heap.size w Z:=by rw[hZ];exact pE HB3.out (Nat.le_refl _) _ _ _ _
     have hfz:aL ea Z (.iface 126 (.pointer (some ⟨pb,0,none⟩))) (jS f s rows) (Eo f s rows):=by
      have hcl:∀o,Z.cell? ⟨pb,o,none⟩=w3.cell? ⟨pb,o,none⟩:=λo=>by
       have:Z.heap[pb]? = w3.heap[pb]?:=by
        rw[hZ,Below.heap_setCell _ _ _ _ mY.out.2.2,Below.heap_setCell _ _ _ _ mY.out.2.2,Below.heap_setCell _ _ _ _ mY.out.2.2,Below.heap_setCell _ _ _ _ mY.out.2.2]
       simp[World.cell?,this]
      rcases mY.out.1 with⟨h,_⟩|⟨m,_,h,_⟩|⟨pb',m,hm,h,c0,c1,hc⟩
      ·cases h
      ·simp at h
      ·obtain rfl:pb=pb':=by simpa using h
       exact .inr (.inr ⟨pb,m,hm,rfl,(hcl 0).trans c0,(hcl 1).trans c1,hc⟩)
     have z0:Z.cell? ⟨w.heap.size,0,none⟩=some (.int .i64 0):=ak mO 0;have z1:Z.cell? ⟨w.heap.size,1,none⟩=some (.int .i64 0):=ak mO 1;have z2:Z.cell? ⟨w.heap.size,2,none⟩=some (.slice none 0 0):=ak mO 2;have z3:Z.cell? ⟨w.heap.size,3,none⟩=some (.slice none 0 0):=ak mO 3;clear hZ mO;refine bodyPost_ret (v:=.tuple #[.agg #[.int .i64 0,.int .i64 0,.slice none 0 0,.slice none 0 0],.iface 126 (.pointer (some ⟨pb,0,none⟩))]) (by simp[results,results44,go_sem,z0,z1,z2,z3]) rfl ?_;exact⟨_,hzb,hfz,.inr ⟨λh=>FX.out (HC.out.1.symm.trans h),rfl⟩⟩
   ·obtain rfl:k=n:=by have:=HM.out.le;have:=HN.out;omega
    obtain⟨hC,hA⟩:=La (f:=f) (s:=s) (rows:=rows) (by rw[HN.out];exact Gb.out) (by rw[HN.out];exact HM.out.ok);have HC:=Ç (And.intro hC hA);have aaZ:=HM.out.two;have iO:rows.take k=rows:=List.take_of_length_le (by rw[HN.out];omega);have Io:=Ç iO;have ϊ:=aaZ.blk;generalize À:((full (rows.take k)).map Prod.fst).length=n1 at *;generalize ϧ:((full (rows.take k)).map λr=>fG r.2).length=n2 at *;have HG:=Ç (And.intro À ϧ);have t0:wr.cell? ⟨tb,0,none⟩=some (.int .i64 f):=ak ϊ 0;have t1:wr.cell? ⟨tb,1,none⟩=some (.int .i64 s):=ak ϊ 1;have t2:wr.cell? ⟨tb,2,none⟩=some (.slice a1 n1 c1):=ak ϊ 2;have t3:wr.cell? ⟨tb,3,none⟩=some (.slice a2 n2 c2):=ak ϊ 3;have p0:wr.cell? ⟨w.heap.size,0,none⟩=some (.int .i64 0):=ak HM.out.res 0;have p1:wr.cell? ⟨w.heap.size,1,none⟩=some (.int .i64 0):=ak HM.out.res 1;have p2:wr.cell? ⟨w.heap.size,2,none⟩=some (.slice none 0 0):=ak HM.out.res 2;have p3:wr.cell? ⟨w.heap.size,3,none⟩=some (.slice none 0 0):=ak HM.out.res 3;have pf:∀k,wr.frozen? ⟨w.heap.size,k,none⟩=false:=λk=>by simp[World.frozen?,HM.out.res]
    have HTW:=Ç aaZ;have ņ:(k:Int)<=(k:Int):=Int.le_refl _;clear hC hA iO À ϧ ϊ aaZ;go_wp2;obtain⟨Z,hZ⟩:∃Z,Z=((((wr.setCell ⟨w.heap.size,0,none⟩ (.int .i64 f)).setCell ⟨w.heap.size,1,none⟩ (.int .i64 s)).setCell ⟨w.heap.size,2,none⟩ (.slice a1 n1 c1)).setCell ⟨w.heap.size,3,none⟩ (.slice a2 n2 c2)):=⟨_,rfl⟩;rw[<-hZ];have mO:Z.heap[w.heap.size]? = some (.cells #[.int .i64 f,.int .i64 s,.slice a1 n1 c1,.slice a2 n2 c2] 78 (0,0)):=by rw[hZ];exact uy HM.out.res _ _ _ _
    have hzb:Below w.heap.size w Z:=by rw[hZ];exact pE HM.out.aH (Nat.le_refl _) _ _ _ _
    have z0:Z.cell? ⟨w.heap.size,0,none⟩=some (.int .i64 f):=ak mO 0;have z1:Z.cell? ⟨w.heap.size,1,none⟩=some (.int .i64 s):=ak mO 1;have z2:Z.cell? ⟨w.heap.size,2,none⟩=some (.slice a1 n1 c1):=ak mO 2;have z3:Z.cell? ⟨w.heap.size,3,none⟩=some (.slice a2 n2 c2):=ak mO 3;have o1:Z.ownsRow w.heap.size 9 1 (.slice a1 n1 c1) (full rows).length (((full rows).map Prod.fst).map encStr):=by
     have h:=kN (b:=w.heap.size) HTW.out.Br (by omega);rw[hZ];rw[Io.out] at h;rw[List.length_map] at h;exact rz h HM.out.res (by decide) _ _ _ _
    have o2:Z.ownsRow w.heap.size 9 1 (.slice a2 n2 c2) (full rows).length (((full rows).map λr=>fG r.2).map encStr):=by
     have h:=kN (b:=w.heap.size) HTW.out.DR (by omega);rw[hZ];rw[Io.out] at h;rw[List.length_map] at h;exact rz h HM.out.res (by decide) _ _ _ _
    clear hZ mO;refine bodyPost_ret (v:=.tuple #[.agg #[.int .i64 f,.int .i64 s,.slice a1 n1 c1,.slice a2 n2 c2],.nilIface]) (by simp[results,results44,go_sem,z0,z1,z2,z3]) rfl ?_;exact⟨_,hzb,.inl ⟨rfl,HC.out.1⟩,.inl ⟨HC.out.1,_,_,rfl,o1,o2⟩⟩
open aG dH
structure qy(wE wr:World)(mb pb nb:Nat)(S:List Rw)(sv:List UInt8->Value):Prop where
 pm:sN wr mb nb wE.heap.size S sv
 var:wr.heap[pb]? = some (.cells #[.map (some mb)] 161 (0,0))
 aH:Below wE.heap.size wE wr
 len:∀r,r∈S->r.2.length<=120*nb/\r.1.length<=1000
theorem qy.below{wE wr z:World}{mb pb nb:Nat}{S:List Rw}{sv:List UInt8->Value}(h:qy wE wr mb pb nb S sv)(hb:Below wr.heap.size wr z):qy wE z mb pb nb S sv:=
 ⟨h.pm.below hb,(hb.block _ (aC h.var)).trans h.var,h.aH.trans (hb.mono h.aH.size),h.len⟩
theorem MV(wE w:World)(la:Option Addr)(c:Nat)(F:List Rw)(hP:rQ wE la F)(hF:∀r,r∈F->r.2 ≠ []/\r.2.length<=120/\r.1.length<=1000)(hn:F.length<=60)(mb pb nb:Nat)(S:List Rw)(sv:List UInt8->Value)(h:qy wE w mb pb nb S sv)(ŗ:wE.heap.size<=mb)(Ĩ:wE.heap.size<=pb)(Ŭ:nb<=100):
  Calls prog 85 #[.slice la F.length c,.pointer (some ⟨pb,0,none⟩)] w λe w'=>e = .returned (.tuple #[])/\∃lQ,qy wE w' mb pb (nb+F.length) (iA S F) lQ:=by
 have HP:Hid (rQ wE la F):=hP;have HF:=Ç hF;have HMB:=Ç ŗ;have HPB:=Ç Ĩ;have H0:Hid (qy wE w mb pb (nb+0) (iA S (F.take 0)) sv):=h;obtain⟨n,ϭ⟩:∃n,F.length=n:=⟨_,rfl⟩;rw[ϭ] at hn ⊢;have HN:=Ç ϭ;clear hP hF h ϭ ŗ Ĩ;go_enter func85,ntmps85;go_wp2_with fail;go_loopw [4,7] (λ_ i wr=>∃(k:Nat) (sw:List UInt8->Value),k<=n/\i = .int .i64 k/\qy wE wr mb pb (nb+k) (iA S (F.take k)) sw) (λ_ i _=>n-(intOf i).toNat);case atStart=>exact⟨0,_,Nat.zero_le _,rfl,H0.out⟩
 case round=>
  obtain⟨k,sw,hk,rfl,ht⟩:=hrel;clear H0;by_cases ϗ:k<n
  ·have Ţ:k<F.length:=by have:=HN.out;omega
   have ϙ:F.take (k+1)=F.take k ++ [F[k]]:=List.take_succ_eq_append_getElem Ţ;obtain⟨Î,ë,hf3⟩:=HF.out F[k] (List.getElem_mem Ţ);have hPw:rQ wr la F:=HP.out.below ht.aH;rcases hPw with hx|⟨b,o,rfl,hc⟩
   ·rw[hx] at Ţ;simp at Ţ
   ·obtain⟨c0,A,C,c1,hPk⟩:=hc k Ţ;rcases hPk with hx|⟨ab,ao,rfl,hcp⟩
    ·exact absurd hx Î
    obtain⟨nm,ď⟩:∃nm:ByteArray,nm=⟨F[k].1.toArray⟩:=⟨_,rfl⟩;have c0':wr.cell? ⟨b,o+k*2,none⟩=some (.string nm):=by rw[ď];exact c0
    have Ű:nm.data.toList=F[k].1:=by rw[ď]
    obtain⟨m,hm⟩:∃m,F[k].2.length=m:=⟨_,rfl⟩;rw[hm] at c1 ë;have ω:0<m:=by
     rw[<-hm];cases he:F[k].2 with
     | nil=>exact absurd he Î
     | cons=>simp
    obtain⟨W0,ľ⟩:∃W0,W0=wr.alloc (.cells #[.string nm,.slice (some ⟨ab,ao,none⟩) m C] 52):=⟨_,rfl⟩;have Ϝ:Below wr.heap.size wr W0:=by rw[ľ];exact (Below.refl _ _).alloc (Nat.le_refl _) _
    have XY:W0.heap.size=wr.heap.size+1:=by rw[ľ];simp
    have hkW:W0.heap[wr.heap.size]? = some (.cells #[.string nm,.slice (some ⟨ab,ao,none⟩) m C] 52 (0,0)):=by rw[ľ];exact heap_alloc_new _ _
    have htW:=ht.below Ϝ;have Co:qy wE W0.drew mb pb (nb+k) (iA S (F.take k)) sw:=htW.below ((Below.refl _ _).drew);have ς:nm.size<=1000:=by
     have e:nm.size=F[k].1.length:=by rw[ď];simp[ByteArray.size]
     omega
    obtain⟨v0,old,MW,oZ⟩:=Co.pm.look nm ς;have Ë:W0.drew.ownsRow wE.heap.size 43 2 v0 old.length (aA old):=MW.own Co.pm;have hol:old.length<=20000:=by
     rcases MW with⟨_,_,rfl⟩|⟨r,hr,_,_,rfl⟩
     ·exact Nat.zero_le _
     ·have:=(Co.len r hr).1;omega
    have hvb:∀q cs t f,W0.drew.heap[q]? = some (.cells cs t f)->t≠43->some q≠v0.ownBlock:=λq cs t f hq ht' e=>by
     obtain⟨_,_,cur,hc⟩:=aF Ë e.symm;rw[hq] at hc;injection hc with hc;injection hc with _ hc;exact ht' hc
    have MX:W0.drew.heap[pb]? = some (.cells #[.map (some mb)] 161 (0,0)):=Co.var;have Mc:W0.drew.heap[wr.heap.size]? = some (.cells #[.string nm,.slice (some ⟨ab,ao,none⟩) m C] 52 (0,0)):=hkW;have Μ:∀z:World,W0.drew.grownBy z v0.ownBlock->z.cell? ⟨pb,0,none⟩=some (.map (some mb))/\z.cell? ⟨wr.heap.size,0,none⟩=some (.string nm)/\z.cell? ⟨wr.heap.size,1,none⟩=some (.slice (some ⟨ab,ao,none⟩) m C)/\(Instr.lookup 161 (.map (some mb)) (.string nm) false).run prog z = .ok v0 z:=λz hz=>by
     have e1:=(hz.block pb (aC MX) (hvb pb _ _ _ MX (by decide))).trans MX;have e2:=(hz.block wr.heap.size (aC Mc) (hvb wr.heap.size _ _ _ Mc (by decide))).trans Mc;obtain⟨D,hD,_⟩:=Co.pm.map;refine⟨ak e1 0,ak e2 0,ak e2 1,oZ z (hz.block mb hD.lt λe=>?_)⟩;obtain⟨_,_,cur,hc⟩:=aF Ë e.symm;exact Co.pm.kS hc rfl
    have Qa:Hid ((λz:World=>z.cell? ⟨pb,0,none⟩=some (.map (some mb))/\z.cell? ⟨wr.heap.size,0,none⟩=some (.string nm)/\z.cell? ⟨wr.heap.size,1,none⟩=some (.slice (some ⟨ab,ao,none⟩) m C)/\(Instr.lookup 161 (.map (some mb)) (.string nm) false).run prog z = .ok v0 z) W0.drew):=Μ W0.drew ⟨rfl,rfl,rfl,Nat.le_refl _,λ_ _ _=>rfl⟩;have alX:Hid (∀z:World,W0.drew.grownBy z v0.ownBlock->z.cell? ⟨pb,0,none⟩=some (.map (some mb))/\z.cell? ⟨wr.heap.size,0,none⟩=some (.string nm)/\z.cell? ⟨wr.heap.size,1,none⟩=some (.slice (some ⟨ab,ao,none⟩) m C)/\(Instr.lookup 161 (.map (some mb)) (.string nm) false).run prog z = .ok v0 z):=Μ;have hbE:Below wE.heap.size wE W0.drew:=Co.aH;have BR:Hid (wE.heap.size<=W0.drew.heap.size):=hbE.size;have qL:Hid (∀(w2:World) (sx:List UInt8->Value),sN w2 mb (nb+k+1) wE.heap.size (kQ (iA S (F.take k)) (nm.data.toList,F[k].2)) sx->Below wE.heap.size W0.drew w2->(∀q,q<W0.drew.heap.size->some q≠v0.ownBlock->q≠mb->w2.heap[q]? = W0.drew.heap[q]?)->qy wE w2 mb pb (nb+(k+1)) (iA S (F.take (k+1))) sx):=λw2 sx g1 g2 g3=>by
     have e:kQ (iA S (F.take k)) (nm.data.toList,F[k].2)=iA S (F.take (k+1)):=by rw[ϙ,Ui,Ű]
     refine⟨by rw[<-e];exact g1,(g3 pb (aC MX) (hvb pb _ _ _ MX (by decide)) (Co.pm.kS MX)).trans MX,hbE.trans g2,λr hr=>?_⟩;rw[<-e] at hr;rcases (kT Co.pm.up).1 hr with⟨hr',_⟩|⟨q,hq,Ŷ,rfl⟩|⟨_,rfl⟩
     ·have:=Co.len r hr';omega
     ·have:=Co.len q hq;refine⟨?_,this.2⟩;show (q.2++F[k].2).length<=_;rw[List.length_append,hm];omega
     ·refine⟨?_,?_⟩
      ·show F[k].2.length<=_;rw[hm];omega
      ·show nm.data.toList.length<=_;rw[Ű];exact hf3
    have HPM:Hid (sN W0.drew mb (nb+k) wE.heap.size (iA S (F.take k)) sw):=Co.pm;have HFD:=Ç MW;have HOW:Hid (W0.drew.ownsRow wE.heap.size 43 2 v0 old.length (aA old)):=Ë;have og:Hid ((aA F[k].2).length=m*2):=by rw[mF,hm];exact rfl
    have jG:Hid (∀(j:Nat) u,(aA F[k].2)[j]? = some u->W0.drew.cell? ((⟨ab,ao,none⟩:Addr).add j)=some u):=Df λj hj=>by
     obtain⟨e1,e2⟩:=hcp j hj;have hl:=World.block_lt_of_cell? wr ⟨ab,_,none⟩ e1;exact⟨(Ϝ.cell (p:=⟨ab,ao+j*2,none⟩) hl).trans e1,(Ϝ.cell (p:=⟨ab,ao+j*2+1,none⟩) hl).trans e2⟩
    have HM:=Ç hm;have wC:=Ç ς;have Tj:Hid (nb+k<1000):=by show _<_;omega
    have PS:Hid (0<m):=ω;have Yo:Hid (old.length+m<=maxLen):=by show _<=_;unfold maxLen;omega
    have FU:Hid ((old.length+m)*16<=140737488355328):=by show _<=_;omega
    have SF:(k:Int)<(n:Int):=by omega
    have è:(0:Int)<=(k:Int):=by omega
    obtain⟨i0,hi,ğ,ė,Ě⟩:=info_parts Tryz.infoPt;clear hc ϙ Î hf3 c0 hcp ď Ű Ϝ XY hkW htW Co MW oZ Ë hvb MX Mc Μ hbE ς hm ht ω ë hol;go_wp2_with fail;rw[<-ľ];clear ľ;refine jB (S:=λz=>z.cell? ⟨pb,0,none⟩=some (.map (some mb))/\z.cell? ⟨wr.heap.size,0,none⟩=some (.string nm)/\z.cell? ⟨wr.heap.size,1,none⟩=some (.slice (some ⟨ab,ao,none⟩) m C)/\(Instr.lookup 161 (.map (some mb)) (.string nm) false).run prog z = .ok v0 z) (by kernel_rfl) 10 Qa.out (λύ=>?_);refine nO 0 11 (.map (some mb)) ύ rfl rfl ?_ ?_
    ·intro w Ä;obtain⟨oh,om,qH,xQ⟩:=Ä;go_simp
    simp only[Act.put,acY,acZ,ada];refine dK 1 12 (.pointer (some ⟨wr.heap.size,0,none⟩)) ύ rfl rfl ?_ ?_
    ·intro w _;go_simp
    simp only[Act.put,acY,acZ,ada];refine nO 2 13 (.string nm) ύ rfl rfl ?_ ?_
    ·intro w Ä;obtain⟨oh,om,qH,xQ⟩:=Ä;go_simp
    simp only[Act.put,acY,acZ,ada];refine nO 3 14 (.map (some mb)) ύ rfl rfl ?_ ?_
    ·intro w Ä;obtain⟨oh,om,qH,xQ⟩:=Ä;go_simp
    simp only[Act.put,acY,acZ,ada];refine dK 4 15 (.pointer (some ⟨wr.heap.size,0,none⟩)) ύ rfl rfl ?_ ?_
    ·intro w _;go_simp
    simp only[Act.put,acY,acZ,ada];refine nO 5 16 (.string nm) ύ rfl rfl ?_ ?_
    ·intro w Ä;obtain⟨oh,om,qH,xQ⟩:=Ä;go_simp
    simp only[Act.put,acY,acZ,ada];refine nO 6 17 v0 ύ rfl rfl ?_ ?_
    ·intro w Ä;obtain⟨oh,om,qH,xQ⟩:=Ä;go_simp
    simp only[Act.put,acY,acZ,ada];refine dK 7 18 (.pointer (some ⟨wr.heap.size,1,none⟩)) ύ rfl rfl ?_ ?_
    ·intro w _;go_simp
    simp only[Act.put,acY,acZ,ada];refine nO 8 19 (.slice (some ⟨ab,ao,none⟩) m C) ύ rfl rfl ?_ ?_
    ·intro w Ä;obtain⟨oh,om,qH,xQ⟩:=Ä;go_simp
    simp only[Act.put,acY,acZ,ada];refine ru 9 rfl λK hK=>?_
    refine step_append_lies _ (by rfl) _ _ 45 (by rfl) wE.heap.size 43 i0 (.agg #[.int .i64 0,.int .u64 0]) 2 16 underlying45 hi ğ ė Ě rfl (by decide) v0 old.length (aA old) (by rfl) HOW.out ⟨ab,ao,none⟩ m C (aA F[k].2) (by rfl) og.out jG.out (Ao _) PS.out Yo.out FU.out BR.out _ rfl ?_;intro g1 qx w1 ϲ aa0 agJ ū;obtain⟨w2,É,hpm,È,Ε,hold⟩:=HPM.out.put HMB.out BR.out nm wC.out Tj.out F[k].2 (v':=.slice (some ⟨g1,0,none⟩) (old.length+m) qx) (g:=g1) HFD.out rfl (by rw[List.length_append,HM.out,mD];exact ϲ) aa0 agJ;have Yp:=Ç (alX.out w1 aa0);have alY:=Ç hpm;have alZ:=Ç È;have FP:=Ç hold;clear ϲ aa0 agJ ū hpm È hold Ε;refine hK.out _ _ Yp.out ?_;clear hK K;try simp only[Act.put]
    refine pU 10 rfl λK hK=>?_
    go_simp
    refine hK.out _ _ ?_;clear hK K;refine fB (by kernel_rfl) ?_ _;clear É;go_wp2;go_roundw;case rel=>exact⟨k+1,_,by omega,by go_num,qL.out w2 _ alY.out alZ.out FP.out⟩
    case measure=>simp[intOf]<;>omega
  ·obtain rfl:k=n:=by omega
   have iO:F.take k=F:=by rw[<-HN.out];exact List.take_length
   rw[iO] at ht;have HT:=Ç ht;clear ht;go_wp2;exact bodyPost_end (v:=.tuple #[]) (by simp[results,results85,go_sem]) rfl ⟨rfl,_,HT.out⟩
def gy:List (List UInt8×List (Int×Nat))->List UInt8->List (Int×Nat)
 | [],_=>[]
 | r::l,k=>if r.1=k then r.2 else gy l k
theorem DT:∀ {l:List (List UInt8×List (Int×Nat))} {k:List UInt8},(∀j (hj:j<l.length),l[j].1≠k)->gy l k = []
 | [],_,_=>rfl
 | r::l,k,h=>by
  have h0:r.1≠k:=h 0 (by simp);rw[gy,if_neg h0];exact DT λj hj=>by have:=h (j+1) (by simp;omega);simpa using this
theorem Qb:∀ {l:List (List UInt8×List (Int×Nat))} {k:List UInt8} {i:Nat} (hi:i<l.length),(∀j (hj:j<l.length),j<i->l[j].1≠k)->l[i].1=k->gy l k=l[i].2
 | [],_,_,hi,_,_=>by simp at hi
 | r::l,k,0,_,_,h=>by
  have:r.1=k:=h;rw[gy,if_pos this];rfl
 | r::l,k,i+1,hi,h1,h=>by
  have h0:r.1≠k:=h1 0 (by simp) (by omega);rw[gy,if_neg h0];exact Qb (i:=i) (by simpa using hi) (λj hj hji=>by have:=h1 (j+1) (by simp;omega) (by omega);simpa using this) (by simpa using h)
end Go.Proofs.YtololnhfgjbhjaaGreatDoor
