import Derived.Test.YtololnhfgjbhjaaGreatDoorBlkRows
import Derived.Test.YtololnhfgjbhjaaGreatDoorRegStoreGroup
import Derived.Deep.RegionLaw
set_option maxRecDepth 1000000
set_option maxHeartbeats 8000000
open Go.Proofs.Tryz
namespace Go.Proofs.YtololnhfgjbhjaaGreatDoor
open Go.RowKit Go.Maps aV
theorem È{p:Prop}(h:p):Go.RowKit.Hid p:=h
theorem acO{A:Type}(l:List A)(i:Nat)(a:A):l.toArray.setIfInBounds i a=(l.set i a).toArray:=List.setIfInBounds_toArray ..
theorem acP{A:Type}{x:A}{l:List A}{i:Nat}{a:A}:(x::l).set (i+1) a=x::l.set i a:=List.set_cons_succ
theorem acQ{A:Type}{x:A}{l:List A}{a:A}:(x::l).set 0 a=a::l:=List.set_cons_zero
structure zS(Y z:World)(v:Value)(g:Nat):Prop where
 os:z.os=Y.os
 tape:z.tape=Y.tape
 output:z.output=Y.output
 size:Y.heap.size<=z.heap.size
 blk:∀q,q<Y.heap.size->v.ownBlock≠some q->z.heap[q]? = Y.heap[q]?
 at':v.ownBlock=some g\/g=Y.heap.size
theorem zS.below{Y z:World}{v:Value}{g b:Nat}(h:zS Y z v g)(hb:b<=Y.heap.size)(hv:∀q,v.ownBlock=some q->b<=q):Below b Y z:=
 ⟨h.os,h.tape,h.output,h.size,λq hq=>h.blk q (by omega) (λe=>by have:=hv q e;omega)⟩
theorem aaQ{w:World}{b:Nat}{v:Value}{t:TypeId}{fr:Nat×Nat}(h:w.heap[b]? = some (.cells #[v] t fr)):∀j u,[v][j]? = some u->w.cell? ((⟨b,0,none⟩:Addr).add j)=some u:=World.news_of_block h
theorem J7(w:World)(o p:Obj):((w.alloc o).alloc p).heap[w.heap.size]? = some o:=by rw[Below.heap_alloc _ _ _ (by simp)];exact heap_alloc_new _ _
theorem J8(w:World)(o p:Obj):((w.alloc o).alloc p).heap[w.heap.size+1]? = some p:=by have:=heap_alloc_new (w.alloc o) p;simpa using this
theorem Yd{P:Program}{Y:World}{ops:Array Oper}{o:Oper}{a:Act}{K:Act->World->Prop}{Q:Exit->Act->World->Prop}{E:Prop}(ŋ:o.guard=none)(s x:Operand)(t:TypeId)
  (ho:o.op = .call { callee:=.builtin .append,args:=#[s,x],argTypes:=#[t,t] }) (base:Nat) (e:TypeId) (i:TypeInfo) (z:Value) (bytes:Nat) (ht:P.underlying t=some (.slice e)) (hi:P.info? e=some i) (hz:i.zero=some z) (ų:i.size=1) (hby:i.bytes=bytes) (hzs:z.cells.size=1)
  (v:Value) (n:Nat) (xs:List Value) (hs:a.eval s=v) (ό:Y.ownsRow base e 1 v n xs) (b:Nat) (u:Value) (t':TypeId) (fr:Nat×Nat) (hx:a.eval x = .slice (some ⟨b,0,none⟩) 1 1) (Ϸ:Y.heap[b]? = some (.cells #[u] t' fr)) (h1:u.oneCell'=true) (hn:n<=1000000) (hb:bytes<=100) (Õ:base<=Y.heap.size)
  (h:∀g cap w',w'.ownsRow base e 1 (.slice (some ⟨g,0,none⟩) (n+1) cap) (n+1) (xs ++ [u])->zS Y w' v g->K (a.put o.dst (.slice (some ⟨g,0,none⟩) (n+1) cap)) w') :
  if Region.wanted o (yielded ops a.tmps)=true then Oper.wp P o a Y K Q else E:=by
 refine step_append_lies _ ŋ s x t ho base e i z 1 bytes ht hi hz ų hby hzs (by decide) v n xs hs ό ⟨b,0,none⟩ 1 1 [u] hx rfl (aaQ Ϸ) (λc hc=>by simp at hc;subst hc;exact h1) (by omega) (by unfold maxLen;omega) ?_ Õ _ rfl ?_
 ·have:(n+1)*bytes<=1000001*100:=Nat.mul_le_mul (by omega) hb;omega
 ·intro g cap w' ho' hg Ϲ _;exact h g cap w' ho' ⟨hg.os,hg.tape,hg.output,hg.size,λq hq Ϙ=>hg.block q hq (λe=>Ϙ e.symm),Ϲ⟩
theorem bN{w z:World}(h:Below w.heap.size w z)(o:Obj):Below w.heap.size w (z.alloc o):=h.alloc h.size o
theorem fB{w z:World}(h:Below w.heap.size w z):Below w.heap.size w z.drew:=h.trans ⟨rfl,rfl,rfl,Nat.le_refl _,λ_ _=>rfl⟩
theorem bK{w z:World}{base:Nat}{e:TypeId}{sz:Nat}{v:Value}{n:Nat}{xs:List Value}(h:w.ownsRow base e sz v n xs)(hb:Below w.heap.size w z):z.ownsRow base e sz v n xs:=bL h λg hg=>hb.block g (aH h hg).2.1
theorem uq{P:Program}{Y:World}{ops:Array Oper}{o:Oper}{a:Act}{K:Act->World->Prop}{Q:Exit->Act->World->Prop}{E:Prop}(w2:World)(ŋ:o.guard=none)(s x:Operand)(t:TypeId)
  (ho:o.op = .call { callee:=.builtin .append,args:=#[s,x],argTypes:=#[t,t] }) (base:Nat) (e:TypeId) (i:TypeInfo) (z:Value) (bytes:Nat) (ht:P.underlying t=some (.slice e)) (hi:P.info? e=some i) (hz:i.zero=some z) (ų:i.size=1) (hby:i.bytes=bytes) (hzs:z.cells.size=1)
  (v:Value) (n:Nat) (xs:List Value) (hs:a.eval s=v) (ό:w2.ownsRow base e 1 v n xs) (hY:Below w2.heap.size w2 Y) (b:Nat) (u:Value) (t':TypeId) (fr:Nat×Nat) (hx:a.eval x = .slice (some ⟨b,0,none⟩) 1 1) (Ϸ:Y.heap[b]? = some (.cells #[u] t' fr)) (h1:u.oneCell'=true) (hn:n<=1000000) (hb:bytes<=100) (Õ:base<=w2.heap.size)
  (h:∀g cap w',w'.ownsRow base e 1 (.slice (some ⟨g,0,none⟩) (n+1) cap) (n+1) (xs ++ [u])->zS Y w' v g->Below w2.heap.size w2 Y->K (a.put o.dst (.slice (some ⟨g,0,none⟩) (n+1) cap)) w') :
  if Region.wanted o (yielded ops a.tmps)=true then Oper.wp P o a Y K Q else E:=
 Yd ŋ s x t ho base e i z bytes ht hi hz ų hby hzs v n xs hs (bK ό hY) b u t' fr hx Ϸ h1 hn hb (Nat.le_trans Õ hY.size) λg cap w' h1 h2=>h g cap w' h1 h2 hY
theorem Tryz.infoStr3:(prog.info? 9).map (λi=>(i.zero,i.size,i.bytes))=some (some (.string ⟨#[]⟩),1,16):=by kernel_rfl
structure vJ(wr:World)(base tb:Nat)(f s:Int)(u1 u2:Value)(ss cs:List (List UInt8)):Prop where
 blk:wr.heap[tb]? = some (.cells #[.int .i64 f,.int .i64 s,u1,u2] 78 (0,0))
 low:tb<base
 Bh:wr.ownsRow base 9 1 u1 ss.length (ss.map encStr)
 Dr:wr.ownsRow base 9 1 u2 cs.length (cs.map encStr)
 apart:∀g,u1.ownBlock=some g->u2.ownBlock≠some g
theorem vJ.below{wr z:World}{base tb:Nat}{f s:Int}{u1 u2:Value}{ss cs:List (List UInt8)}(h:vJ wr base tb f s u1 u2 ss cs)(hb:Below wr.heap.size wr z):vJ z base tb f s u1 u2 ss cs:=
 ⟨(hb.block _ (aC h.blk)).trans h.blk,h.low,bL h.Bh λg hg=>hb.block g (aH h.Bh hg).2.1,bL h.Dr λg hg=>hb.block g (aH h.Dr hg).2.1,h.apart⟩
theorem vJ.more{w2 Y1 w7 Y2 w8:World}{base tb:Nat}{f s:Int}{u1 u2:Value}{ss cs:List (List UInt8)}(h:vJ w2 base tb f s u1 u2 ss cs){x y:List UInt8}{g7 gT g8 tN:Nat}(Õ:base<=w2.heap.size)(h1:Below w2.heap.size w2 Y1)(o7:w7.ownsRow base 9 1 (.slice (some ⟨g7,0,none⟩) (ss.length+1) gT) (ss.length+1) (ss.map encStr ++ [.string ⟨x.toArray⟩]))(G7:zS Y1 w7 u1 g7)(h2:Below w7.heap.size w7 Y2)
  (o8:w8.ownsRow base 9 1 (.slice (some ⟨g8,0,none⟩) (cs.length+1) tN) (cs.length+1) (cs.map encStr ++ [.string ⟨y.toArray⟩])) (G8:zS Y2 w8 u2 g8) :
  vJ ((w8.setCell ⟨tb,2,none⟩ (.slice (some ⟨g7,0,none⟩) (ss.length+1) gT)).setCell ⟨tb,3,none⟩ (.slice (some ⟨g8,0,none⟩) (cs.length+1) tN)) base tb f s (.slice (some ⟨g7,0,none⟩) (ss.length+1) gT) (.slice (some ⟨g8,0,none⟩) (cs.length+1) tN) (ss ++ [x]) (cs ++ [y])/\w8.heap[tb]? = some (.cells #[.int .i64 f,.int .i64 s,u1,u2] 78 (0,0))/\Below base w2 w8:=by
 have Ï:=h.low;have l1:∀q,u1.ownBlock=some q->base<=q/\q<w2.heap.size:=λq hq=>⟨(aH h.Bh hq).1,(aH h.Bh hq).2.1⟩
 have l2:∀q,u2.ownBlock=some q->base<=q/\q<w2.heap.size:=λq hq=>⟨(aH h.Dr hq).1,(aH h.Dr hq).2.1⟩
 have s1:=h1.size;have s2:=h2.size;have s7:=G7.size;have b1:Below base w2 w7:=(h1.mono Õ).trans (G7.below (by omega) λq hq=>(l1 q hq).1);have b2:Below base w2 w8:=(b1.trans (h2.mono (by omega))).trans (G8.below (by omega) λq hq=>(l2 q hq).1);have ht:w8.heap[tb]? = some (.cells #[.int .i64 f,.int .i64 s,u1,u2] 78 (0,0)):=(b2.block tb Ï).trans h.blk;have hg7:g7<w7.heap.size:=(aH (g:=g7) o7 rfl).2.1;have agi:u2.ownBlock≠some g7:=by
  rcases G7.at' with e|e
  ·exact h.apart g7 e
  ·intro e2;have:=(l2 g7 e2).2;omega
 have o7':w8.ownsRow base 9 1 (.slice (some ⟨g7,0,none⟩) (ss.length+1) gT) (ss.length+1) (ss.map encStr ++ [.string ⟨x.toArray⟩]):=bL o7 λg hg=>by
  simp[Value.ownBlock] at hg;subst hg;exact (G8.blk g7 (by omega) agi).trans (h2.block g7 hg7)
 have ao8:g7≠g8:=by
  rcases G8.at' with e|e
  ·intro e2;subst e2;exact agi e
  ·omega
 have Ļ:∀ {v:Value} {n:Nat} {xs:List Value} {z:World} (k:Nat) (u:Value),z.ownsRow base 9 1 v n xs->(z.setCell ⟨tb,k,none⟩ u).ownsRow base 9 1 v n xs:=λk u ho=>bL ho λg hg=>by
  have:=(aH ho hg).1;exact Below.heap_setCell _ _ _ _ (by show g≠tb;omega)
 refine⟨⟨?_,Ï,?_,?_,λg e1 e2=>?_⟩,ht,b2⟩
 ·have e1:=dU ht 2 (.slice (some ⟨g7,0,none⟩) (ss.length+1) gT);have e2:=dU (e1.trans (by rfl)) 3 (.slice (some ⟨g8,0,none⟩) (cs.length+1) tN);exact e2.trans (by rfl)
 ·have:=Ļ 3 (.slice (some ⟨g8,0,none⟩) (cs.length+1) tN) (Ļ 2 (.slice (some ⟨g7,0,none⟩) (ss.length+1) gT) o7');simpa [encStr] using this
 ·have:=Ļ 3 (.slice (some ⟨g8,0,none⟩) (cs.length+1) tN) (Ļ 2 (.slice (some ⟨g7,0,none⟩) (ss.length+1) gT) o8);simpa [encStr] using this
 ·simp[Value.ownBlock] at e1 e2;omega
theorem vJ.mid{w2 Y1 w7:World}{base tb:Nat}{f s:Int}{u1 u2:Value}{ss cs:List (List UInt8)}(h:vJ w2 base tb f s u1 u2 ss cs){g7:Nat}(Õ:base<=w2.heap.size)(h1:Below w2.heap.size w2 Y1)(G7:zS Y1 w7 u1 g7):
  w7.heap[tb]? = some (.cells #[.int .i64 f,.int .i64 s,u1,u2] 78 (0,0))/\w7.ownsRow base 9 1 u2 cs.length (cs.map encStr)/\base<=w7.heap.size/\w2.heap.size<=w7.heap.size/\∀q o,w2.heap.size<=q->Y1.heap[q]? = some o->w7.heap[q]? = some o:=by
 have Ï:=h.low;have s1:=h1.size;have s7:=G7.size;refine⟨?_,bL h.Dr λg hg=>?_,by omega,by omega,λq o hq ho=>?_⟩
 ·rw[G7.blk tb (by omega) (λe=>by have:=(aH h.Bh e).1;omega),h1.block tb (by omega)];exact h.blk
 ·have:=(aH h.Dr hg).2.1;rw[G7.blk g (by omega) (λe=>h.apart g e hg),h1.block g this]
 ·rw[G7.blk q (aC ho) (λe=>by have:=(aH h.Bh e).2.1;omega)];exact ho
theorem vJ.last{w2 Y1 w7 Y2 w8:World}{base tb:Nat}{f s:Int}{u1 u2:Value}{ss cs:List (List UInt8)}(h:vJ w2 base tb f s u1 u2 ss cs){g7 g8:Nat}(Õ:base<=w2.heap.size)(h1:Below w2.heap.size w2 Y1)(G7:zS Y1 w7 u1 g7)(h2:Below w7.heap.size w7 Y2)(G8:zS Y2 w8 u2 g8):
  w8.heap[tb]? = some (.cells #[.int .i64 f,.int .i64 s,u1,u2] 78 (0,0)):=by
 have hm:=h.mid Õ h1 G7;have Ï:=h.low;have s2:=h2.size;have s7:=hm.2.2.1;rw[G8.blk tb (by omega) (λe=>by have:=(aH h.Dr e).1;omega),h2.block tb (by omega)];exact hm.1
theorem zS.other{Y z:World}{v:Value}{g:Nat}(G:zS Y z v g){base n:Nat}{e:TypeId}{xs:List Value}(ho:Y.ownsRow base e 1 v n xs){b:Nat}{cs:Array Value}{t:TypeId}{fr:Nat×Nat}(hb:Y.heap[b]? = some (.cells cs t fr))(Ϙ:e≠t):z.heap[b]? = some (.cells cs t fr):=by
 rw[G.blk b (aC hb) (λe1=>by obtain⟨_,_,cur,hc⟩:=aH ho e1;exact jd hc hb Ϙ rfl)];exact hb
theorem vJ.other{w2 Y1 w7:World}{base tb:Nat}{f s:Int}{u1 u2:Value}{ss cs:List (List UInt8)}(h:vJ w2 base tb f s u1 u2 ss cs){g7:Nat}(h1:Below w2.heap.size w2 Y1)(G7:zS Y1 w7 u1 g7){b:Nat}{c:Array Value}{t:TypeId}{fr:Nat×Nat}(hb:w2.heap[b]? = some (.cells c t fr))(Ϙ:9≠t):w7.heap[b]? = some (.cells c t fr):=
 G7.other (bK h.Bh h1) ((h1.block b (aC hb)).trans hb) Ϙ
theorem wK{w:World}{base base':Nat}{v:Value}{xs:List Value}{rows:List (List UInt8×List (Int×Nat))}(h:w.ownsRow base 52 2 v rows.length xs)(hr:dW w base' xs rows):∃a c,v = .slice a rows.length c/\nH w a rows:=by
 obtain⟨_,h2⟩:=h;rcases h2 with⟨hv,h0⟩|⟨g,cap,cur,hv,hg,hh,h1,h2,h3,h4⟩
 ·exact⟨none,0,by rw[hv,h0],.inl (List.eq_nil_of_length_eq_zero h0)⟩
 ·refine⟨_,_,hv,.inr ⟨g,0,rfl,λk hk=>?_⟩⟩;have hc:∀j,j<rows.length*2->w.cell? ⟨g,j,none⟩=xs[j]?:=by
   intro j hj;have e0:w.cell? ⟨g,j,none⟩=cur[j]?:=by simp[World.cell?,hh]
   rw[e0,<-Array.getElem?_toList,<-h4,List.getElem?_take_of_lt hj]
  obtain⟨p0,s,p1,ho⟩:=hr.at k hk;obtain⟨a,c,rfl,_,hp,_⟩:=iF ho;refine⟨?_,a,c,?_,hp⟩
  ·rw[Nat.zero_add,hc _ (by omega)];exact p0
  ·rw[Nat.zero_add,hc _ (by omega)];exact p1
def adS(ea:Nat->Addr)(w w':World)(f s:Int)(rows:List (List UInt8×List (Int×Nat)))(e:Ending):Prop:=
 ∃v,Below w.heap.size w w'/\aM ea w' v (ko f s rows) (ER f s rows) /\
  ((ko f s rows=0/\∃u1 u2,e = .returned (.tuple #[.agg #[.int .i64 f,.int .i64 s,u1,u2],v])/\w'.ownsRow w.heap.size 9 1 u1 (full rows).length (((full rows).map Prod.fst).map encStr)/\w'.ownsRow w.heap.size 9 1 u2 (full rows).length (((full rows).map λr=>fI r.2).map encStr)) \/
   (ko f s rows≠0/\e = .returned (.tuple #[.agg #[.int .i64 0,.int .i64 0,.slice none 0 0,.slice none 0 0],v])))
structure BU(w wr:World)(tb:Nat)(f s:Int)(rows:List (List UInt8×List (Int×Nat)))(k:Nat)(v10 u1 u2:Value):Prop where
 le:k<=rows.length
 ah:v10 = .string ⟨(prev (rows.map Prod.fst) k).toArray⟩
 ok:∀j,j<k->rowAt f s rows j=0
 res:wr.heap[w.heap.size]? = some (.cells #[.int .i64 0,.int .i64 0,.slice none 0 0,.slice none 0 0] 78 (0,0))
 two:vJ wr (tb+1) tb f s u1 u2 ((full (rows.take k)).map Prod.fst) ((full (rows.take k)).map λr=>fI r.2)
 aI:Below w.heap.size w wr
 siz:tb+1<=wr.heap.size
theorem tQ{z:World}{b:Nat}{p0 p1 p2 p3:Value}{t:TypeId}(h:z.heap[b]? = some (.cells #[p0,p1,p2,p3] t (0,0)))(v0 v1 v2 v3:Value):((((z.setCell ⟨b,0,none⟩ v0).setCell ⟨b,1,none⟩ v1).setCell ⟨b,2,none⟩ v2).setCell ⟨b,3,none⟩ v3).heap[b]? = some (.cells #[v0,v1,v2,v3] t (0,0)):=by
 have e1:=(dU h 0 v0).trans (show _=some (Obj.cells #[v0,p1,p2,p3] t (0,0)) by rfl);have e2:=(dU e1 1 v1).trans (show _=some (Obj.cells #[v0,v1,p2,p3] t (0,0)) by rfl);have e3:=(dU e2 2 v2).trans (show _=some (Obj.cells #[v0,v1,v2,p3] t (0,0)) by rfl);exact (dU e3 3 v3).trans (by rfl)
theorem pq{B:Nat}{w z:World}{b:Nat}(h:Below B w z)(hb:B<=b)(v0 v1 v2 v3:Value):Below B w ((((z.setCell ⟨b,0,none⟩ v0).setCell ⟨b,1,none⟩ v1).setCell ⟨b,2,none⟩ v2).setCell ⟨b,3,none⟩ v3):=
 (((h.setCell hb v0).setCell hb v1).setCell hb v2).setCell hb v3
theorem qM{z:World}{base:Nat}{e t:TypeId}{sz:Nat}{v:Value}{n:Nat}{xs:List Value}{b:Nat}{cs:Array Value}{fr:Nat×Nat}(h:z.ownsRow base e sz v n xs)(hb:z.heap[b]? = some (.cells cs t fr))(Ϙ:e≠t)(v0 v1 v2 v3:Value):((((z.setCell ⟨b,0,none⟩ v0).setCell ⟨b,1,none⟩ v1).setCell ⟨b,2,none⟩ v2).setCell ⟨b,3,none⟩ v3).ownsRow base e sz v n xs:=
 bL h λg hg=>by
  obtain⟨_,_,cur,hc⟩:=aH h hg;have hgb:g≠b:=jd hc hb Ϙ;rw[Below.heap_setCell _ _ _ _ hgb,Below.heap_setCell _ _ _ _ hgb,Below.heap_setCell _ _ _ _ hgb,Below.heap_setCell _ _ _ _ hgb]
theorem y8(x:ByteArray):(⟨x.data.toList.toArray⟩:ByteArray)=x:=by cases x;simp
theorem J9{B:Nat}{ea:Nat->Addr}(w:World)(E:oF B ea w)(hB:B<=w.heap.size)(f s:Int)(la:Option Addr)(c:Nat)(rows:List (List UInt8×List (Int×Nat)))(hP:nH w la rows)(Ê:∀r,r∈rows->qW r.2/\r.1.length<=1000/\r.2.length<=1000)(hn:rows.length<=1000):
  Calls prog 44 #[.int .i64 f,.int .i64 s,.slice la rows.length c] w λe w'=>adS ea w w' f s rows e:=by
 obtain⟨W,hW⟩:∃W,W=w.alloc (.cells #[.int .i64 0,.int .i64 0,.slice none 0 0,.slice none 0 0] 78):=⟨_,rfl⟩;have Ϛ:Below w.heap.size w W:=by rw[hW];exact (Below.refl _ _).alloc (Nat.le_refl _) _
 have hx:W.heap[w.heap.size]? = some (.cells #[.int .i64 0,.int .i64 0,.slice none 0 0,.slice none 0 0] 78 (0,0)):=by rw[hW];exact heap_alloc_new _ _
 have hWs:W.heap.size=w.heap.size+1:=by rw[hW];simp
 have HW:=È hW;have bV:=È Ϛ;have HE:=È E;have MH:=È hWs;have HX:=È hx;have HP:Hid (nH w la rows):=hP;have oI:Hid (∀r,r∈rows->qW r.2/\r.1.length<=1000/\r.2.length<=1000):=Ê;have kb:=(E.below Ϛ hB).vW.c1;clear hW Ϛ hx E hP Ê hWs;obtain⟨n,ϰ⟩:∃n,n=rows.length:=⟨_,rfl⟩;have HN:=È ϰ.symm;rw[<-ϰ] at hn ⊢;clear ϰ;go_enter func44,ntmps44;go_upto_region 1 with fail;rw[<-HW.out];by_cases Ϣ:ou f s≠0\/60<n
 ·have jH:=È (FM W f s n (by omega) Ϣ (ea 1) kb);obtain⟨hC,hA⟩:=O7 (f:=f) (s:=s) (rows:=rows) (by rw[HN.out];exact Ϣ);have HC:=È (And.intro hC hA);have p0:W.cell? ⟨w.heap.size,0,none⟩=some (.int .i64 0):=ak HX.out 0;have p1:W.cell? ⟨w.heap.size,1,none⟩=some (.int .i64 0):=ak HX.out 1;have p2:W.cell? ⟨w.heap.size,2,none⟩=some (.slice none 0 0):=ak HX.out 2;have p3:W.cell? ⟨w.heap.size,3,none⟩=some (.slice none 0 0):=ak HX.out 3;have pf:∀k,W.frozen? ⟨w.heap.size,k,none⟩=false:=λk=>by simp[World.frozen?,HX.out]
  clear hC hA Ϣ;go_wp2_with fail;refine Calls.mono jH.out ?_;rintro e w1 ⟨rfl,Ϝ⟩;have bH:=Ϝ;subst bH;go_wp2;obtain⟨Z,hZ⟩:∃Z,Z=((((w1.setCell ⟨w.heap.size,0,none⟩ (.int .i64 0)).setCell ⟨w.heap.size,1,none⟩ (.int .i64 0)).setCell ⟨w.heap.size,2,none⟩ (.slice none 0 0)).setCell ⟨w.heap.size,3,none⟩ (.slice none 0 0)):=⟨_,rfl⟩;rw[<-hZ];have lZ:Z.heap[w.heap.size]? = some (.cells #[.int .i64 0,.int .i64 0,.slice none 0 0,.slice none 0 0] 78 (0,0)):=by rw[hZ];exact tQ HX.out _ _ _ _
  have hzb:Below w.heap.size w Z:=by rw[hZ];exact pq bV.out (Nat.le_refl _) _ _ _ _
  have z0:Z.cell? ⟨w.heap.size,0,none⟩=some (.int .i64 0):=ak lZ 0;have z1:Z.cell? ⟨w.heap.size,1,none⟩=some (.int .i64 0):=ak lZ 1;have z2:Z.cell? ⟨w.heap.size,2,none⟩=some (.slice none 0 0):=ak lZ 2;have z3:Z.cell? ⟨w.heap.size,3,none⟩=some (.slice none 0 0):=ak lZ 3;clear hZ lZ;refine bodyPost_ret (v:=.tuple #[.agg #[.int .i64 0,.int .i64 0,.slice none 0 0,.slice none 0 0],.iface 352 (.pointer (some (ea 1)))]) (by simp[results,results44,go_sem,z0,z1,z2,z3]) rfl ?_;exact⟨_,hzb,by rw[HC.out.1,HC.out.2];exact aM.es 1 (by decide) (by decide),.inr ⟨λh=>absurd (HC.out.1.symm.trans h) (by decide),rfl⟩⟩
 ·have FP:=È Ϣ;have η:ou f s=0:=Decidable.not_not.1 λh=>Ϣ (.inl h)
  have aaO:n<=60:=by
   rcases Nat.lt_or_ge 60 n with h|h
   ·exact absurd (.inr h) Ϣ
   ·exact h
  have jH:=È (Hz W f s n η aaO);clear Ϣ;go_wp2_with fail;refine Calls.mono jH.out ?_;rintro e w1 ⟨rfl,Ϝ⟩;have bH:=Ϝ;subst bH;clear jH kb;obtain⟨W2,δ⟩:∃W2,W2=w1.alloc (.cells #[.int .i64 f,.int .i64 s,.slice none 0 0,.slice none 0 0] 78):=⟨_,rfl⟩;have HW2:Hid (∀wx,wx=w1.alloc (.cells #[.int .i64 f,.int .i64 s,.slice none 0 0,.slice none 0 0] 78)->wx=W2):=λwx h=>h.trans δ.symm
  obtain⟨tb,γ⟩:∃tb,tb=w1.heap.size:=⟨_,rfl⟩;have h0:BU w W2 tb f s rows 0 (.string ⟨#[]⟩) (.slice none 0 0) (.slice none 0 0):=by
   refine⟨Nat.zero_le _,rfl,λj h=>absurd h (Nat.not_lt_zero _),?_,⟨?_,Nat.lt_succ_self _,⟨rfl,.inl ⟨rfl,by simp[full]⟩⟩,⟨rfl,.inl ⟨rfl,by simp[full]⟩⟩,λg e=>by simp[Value.ownBlock] at e⟩,?_,?_⟩
   ·rw[δ,heap_alloc_old _ _ (aC HX.out)];exact HX.out
   ·rw[δ,γ];exact heap_alloc_new _ _
   ·rw[δ];exact bV.out.alloc bV.out.size _
   ·rw[δ,γ];simp
  have PW:=È h0;have htw:w.heap.size<tb:=by have:=MH.out;omega
  clear h0 δ;go_wp2_with fail;rw[HW2.out _ rfl,<-γ];clear γ HW2 HX bV HW MH;go_loopw [10,29] (λv10 i wr=>∃(k:Nat) (u1 u2:Value),i = .int .i64 (k:Int)/\BU w wr tb f s rows k v10 u1 u2) (λ_ i _=>n-(intOf i).toNat);case atStart=>exact⟨0,_,_,rfl,PW.out⟩
  case round=>
   obtain⟨k,u1,u2,rfl,hm⟩:=hrel;have HM:=È hm;have hah:=hm.ah;obtain⟨a1,c1,rfl⟩:=bM hm.two.Bh;obtain⟨a2,c2,rfl⟩:=bM hm.two.Dr;have ϟ:=hm.siz;have Ë:=hm.aI.size;subst hah;clear hm PW;by_cases ϥ:k<n
   ·have Ą:k<rows.length:=by rw[HN.out];exact ϥ
    rcases HP.out with h0|⟨b,o,rfl,Ϧ⟩
    ·rw[h0] at Ą;exact absurd Ą (Nat.not_lt_zero _)
    obtain⟨e1,A,C,e2,Ť⟩:=Ϧ k Ą;have ê:b<w.heap.size:=World.block_lt_of_cell? w ⟨b,_,none⟩ e1;obtain⟨agj,Ş,ĳ⟩:=oI.out _ (List.getElem_mem Ą);obtain⟨nm,ð⟩:∃nm:ByteArray,nm=⟨(rows[k].1).toArray⟩:=⟨_,rfl⟩;obtain⟨ah,hah⟩:∃ah:ByteArray,ah=⟨(prev (rows.map Prod.fst) k).toArray⟩:=⟨_,rfl⟩;rw[<-hah];have q1:wr.cell? ⟨b,o+k*2,none⟩=some (.string nm):=by rw[ð];exact (HM.out.aI.cell (p:=⟨b,_,none⟩) ê).trans e1
    have q2:wr.cell? ⟨b,o+k*2+1,none⟩=some (.slice A rows[k].2.length C):=(HM.out.aI.cell (p:=⟨b,_,none⟩) ê).trans e2;have k0:(0:Int)<=(k:Int):=by omega
    have k1:(k:Int)<(n:Int):=by omega
    obtain⟨nk,Į⟩:∃nk,nk=rows[k].2.length:=⟨_,rfl⟩;have ε:rowAt f s rows k=qI f s ah.data.toList nm.data.toList rows[k].2:=by
     unfold rowAt;rw[hah,ð,(yY Ą).1,(yY Ą).2]
    have Vn:=λ(WA:World) (hb:Below w.heap.size w WA)=>Qa WA (HE.out.below hb hB) (Nat.le_trans hB hb.size) a1 a2 A ((full (rows.take k)).map Prod.fst).length c1 ((full (rows.take k)).map λr=>fI r.2).length c2 C f s η nm ah (Nat.le_trans (m:=1000) (by rw[ð];simpa [ByteArray.size] using Ş) (by decide)) rows[k].2 (Ť.below hb) agj ĳ
    rw[<-Į] at q2 Vn;rw[<-ε] at Vn;have vX:=È (And.intro ð hah);have O8:=È Į;have lJ:=È Vn;obtain⟨WA,hWA⟩:∃WA,WA=wr.alloc (.cells #[.string nm,.slice A nk C] 52):=⟨_,rfl⟩;have Ai:Below wr.heap.size wr WA:=by rw[hWA];exact (Below.refl _ _).alloc (Nat.le_refl _) _
    have Ϯ:WA.heap[wr.heap.size]? = some (.cells #[.string nm,.slice A nk C] 52 (0,0)):=by rw[hWA];exact heap_alloc_new _ _
    have iQ:=HM.out.two.below Ai;have x0:WA.cell? ⟨tb,0,none⟩=some (.int .i64 f):=ak iQ.blk 0;have x1:WA.cell? ⟨tb,1,none⟩=some (.int .i64 s):=ak iQ.blk 1;have x2:WA.cell? ⟨tb,2,none⟩=some (.slice a1 _ c1):=ak iQ.blk 2;have x3:WA.cell? ⟨tb,3,none⟩=some (.slice a2 _ c2):=ak iQ.blk 3;have y0:WA.cell? ⟨wr.heap.size,0,none⟩=some (.string nm):=ak Ϯ 0;have y1:WA.cell? ⟨wr.heap.size,1,none⟩=some (.slice A nk C):=ak Ϯ 1;have kT:Hid (∀wx,wx=wr.alloc (.cells #[.string nm,.slice A nk C] 52)->wx=WA):=λwx h=>h.trans hWA.symm
    have j5:=È Ai;have jL:=È Ϯ;have Hr:=È iQ;clear e1 e2 Ť ð hah Į ε Vn Ai Ϯ iQ hWA Ϧ agj Ş ĳ;go_upto_region 9 with fail;rw[kT.out _ rfl];generalize Ϻ:((full (rows.take k)).map Prod.fst).length=n1 at *;generalize Ϩ:((full (rows.take k)).map λr=>fI r.2).length=n2 at *;have HG:=È (And.intro Ϻ Ϩ);clear Ϻ Ϩ;go_wp2_with fail;refine Calls.mono (lJ.out WA (HM.out.aI.trans (j5.out.mono Ë))) ?_;rintro e w2 ⟨x,v,AA,rfl,ϓ,á,Ė⟩;have HB2:=È ϓ;have iA:Hid (aM ea w2 v (rowAt f s rows k) AA):=á;have uo:Hid (rowAt f s rows k=0->x.data.toList=fI rows[k].2):=Ė;have kV:=È ((HM.out.aI.trans (j5.out.mono Ë)).trans (ϓ.mono (Nat.le_trans Ë j5.out.size)));have Ž:wr.heap.size<w2.heap.size:=Nat.lt_of_lt_of_le (aC jL.out) ϓ.size;clear ϓ á Ė lJ x0 x1 x2 x3 y0 y1 q1 q2;by_cases ĉ:rowAt f s rows k=0
    ·have hv:=iA.out.none ĉ;subst hv;have hx:=uo.out ĉ;have h2r:w2.heap[wr.heap.size]? = some (.cells #[.string nm,.slice A nk C] 52 (0,0)):=(HB2.out.block _ (aC jL.out)).trans jL.out;have h2t:=Hr.out.below HB2.out;have y0:w2.cell? ⟨wr.heap.size,0,none⟩=some (.string nm):=ak h2r 0;have y1:w2.cell? ⟨wr.heap.size,1,none⟩=some (.slice A nk C):=ak h2r 1;have iq:Hid (∀j,j<k+1->rowAt f s rows j=0):=λj hj=>by
      rcases Nat.lt_or_ge j k with h|h
      ·exact HM.out.ok j h
      ·obtain rfl:j=k:=by omega
       exact ĉ
     have ą:w2.heap[w.heap.size]? = some (.cells #[.int .i64 0,.int .i64 0,.slice none 0 0,.slice none 0 0] 78 (0,0)):=(HB2.out.block _ (Nat.lt_of_lt_of_le (aC HM.out.res) j5.out.size)).trans ((j5.out.block _ (aC HM.out.res)).trans HM.out.res);have rP:=È ą;have oJ:Hid (full (rows.take (k+1))=if 0<nk then full (rows.take k) ++ [rows[k]] else full (rows.take k)):=by
      show _=_;rw[List.take_succ_eq_append_getElem Ą,Xn,O8.out]
     have HAH:Hid (prev (rows.map Prod.fst) (k+1)=nm.data.toList):=by
      show _=_;rw[MJ (by simpa using Ą),vX.out.1];simp
     have Av:=È h2r;have ML:=È h2t;clear ą h2r h2t ĉ;by_cases hz:0<nk
     ·have hd:decide ((0:Int)<(nk:Int))=true:=by simp;omega
      obtain⟨iS,hS,ŗ,Ν,hS2⟩:=info_parts Tryz.infoStr3;have zO:=È hS;have t2:w2.cell? ⟨tb,2,none⟩=some (.slice a1 n1 c1):=ak ML.out.blk 2;have t3:w2.cell? ⟨tb,3,none⟩=some (.slice a2 n2 c2):=ak ML.out.blk 3;have htl:tb<w2.heap.size:=aC ML.out.blk;have Í:n1<=60/\n2<=60:=by
       have h1:=HG.out.1;have h2:=HG.out.2;have h3:(full (rows.take k)).length<=(rows.take k).length:=List.length_filter_le ..;have h4:(rows.take k).length<=k:=by simp;omega
       simp only[List.length_map] at h1 h2;omega
      have yw:tb+1<=w2.heap.size:=htl;clear hS;go_wp2_with fail;obtain⟨BX,Vo⟩:∃BX:List (List UInt8),BX=((full (rows.take k)).map λr=>fI r.2):=⟨_,rfl⟩;have HT2:Hid (vJ w2 (tb+1) tb f s (.slice a1 n1 c1) (.slice a2 n2 c2) ((full (rows.take k)).map Prod.fst) BX):=by rw[Vo];exact ML.out
      have Ee:Hid (BX.length=n2):=by rw[Vo];exact HG.out.2
      have XI:=È Vo;clear Vo;have oC:Hid (w2.ownsRow (tb+1) 9 1 (.slice a1 n1 c1) n1 (((full (rows.take k)).map Prod.fst).map encStr)):=by have:=ML.out.Bh;rw[HG.out.1] at this;exact this
      have BS:Hid (∀z,Below w2.heap.size w2 z->(z.cell? ⟨tb,2,none⟩=some (.slice a1 n1 c1)/\z.cell? ⟨tb,3,none⟩=some (.slice a2 n2 c2)/\z.cell? ⟨wr.heap.size,0,none⟩=some (.string nm))):=λz hz=>by
       have q1:=(hz.block _ (aC ML.out.blk)).trans ML.out.blk;have q2:=(hz.block _ (aC Av.out)).trans Av.out;exact⟨ak q1 2,ak q1 3,ak q2 0⟩
      have HXC:Hid (x.data.toList=fI rows[k].2):=hx;clear hx;refine jw (S:=λw'=>(w'.cell? ⟨tb,2,none⟩=some (.slice a1 n1 c1)/\w'.cell? ⟨tb,3,none⟩=some (.slice a2 n2 c2)/\w'.cell? ⟨wr.heap.size,0,none⟩=some (.string nm))) (by kernel_rfl) 12 ⟨t2,t3,y0⟩ (λύ=>?_);refine nP (i:=0) (v:=.pointer (some ⟨tb,2,none⟩)) rfl (by kernel_rfl) (by kernel_rfl) (by kernel_rfl) (by kernel_rfl) (by kernel_rfl) (by kernel_rfl) (λ_ _ _ h=>h) (Or.inl ⟨by rfl,?_⟩) ύ ?_
      ·intro w Å;obtain⟨g2,g3,g4⟩:=Å;go_simp
      try simp only[Act.put]
      refine nP (i:=1) (v:=.slice a1 n1 c1) rfl (by kernel_rfl) (by kernel_rfl) (by kernel_rfl) (by kernel_rfl) (by kernel_rfl) (by kernel_rfl) (λ_ _ _ h=>h) (Or.inl ⟨by rfl,?_⟩) ύ ?_
      ·intro w Å;obtain⟨g2,g3,g4⟩:=Å;go_simp
      try simp only[Act.put]
      refine nP (i:=2) (v:=.pointer (some ⟨wr.heap.size,0,none⟩)) rfl (by kernel_rfl) (by kernel_rfl) (by kernel_rfl) (by kernel_rfl) (by kernel_rfl) (by kernel_rfl) (λ_ _ _ h=>h) (Or.inl ⟨by rfl,?_⟩) ύ ?_
      ·intro w Å;obtain⟨g2,g3,g4⟩:=Å;go_simp
      try simp only[Act.put]
      refine nP (i:=3) (v:=.string nm) rfl (by kernel_rfl) (by kernel_rfl) (by kernel_rfl) (by kernel_rfl) (by kernel_rfl) (by kernel_rfl) (λ_ _ _ h=>h) (Or.inl ⟨by rfl,?_⟩) ύ ?_
      ·intro w Å;obtain⟨g2,g3,g4⟩:=Å;go_simp
      try simp only[Act.put]
      refine nP (i:=6) (v:=.pointer (some ⟨tb,3,none⟩)) rfl (by kernel_rfl) (by kernel_rfl) (by kernel_rfl) (by kernel_rfl) (by kernel_rfl) (by kernel_rfl) (λ_ _ _ h=>h) (Or.inl ⟨by rfl,?_⟩) ύ ?_
      ·intro w Å;obtain⟨g2,g3,g4⟩:=Å;go_simp
      try simp only[Act.put]
      refine nP (i:=7) (v:=.slice a2 n2 c2) rfl (by kernel_rfl) (by kernel_rfl) (by kernel_rfl) (by kernel_rfl) (by kernel_rfl) (by kernel_rfl) (λ_ _ _ h=>h) (Or.inl ⟨by rfl,?_⟩) ύ ?_
      ·intro w Å;obtain⟨g2,g3,g4⟩:=Å;go_simp
      try simp only[Act.put]
      refine kW (i:=8) (v:=.string x) rfl (by kernel_rfl) (by kernel_rfl) (by kernel_rfl) (by kernel_rfl) (λ_ _ _ h=>h) (Or.inl ⟨by rfl,?_⟩) (λ_=>ύ) ?_
      ·intro w _;go_simp
      try simp only[Act.put]
      refine dJ (rs:=[4,9]) (by kernel_rfl) (by simp) ?_;refine aW.cons rfl (λK hK=>?_) (aW.cons rfl (λK hK=>?_) aW.nil)
      ·go_simp
       refine hK.out _ _ (BS.out _ (by repeat (first|exact Below.refl _ _|with_reducible apply bN|with_reducible apply fB))) ?_;clear hK K;try simp only[Act.put]
       refine dJ (rs:=[5,9]) (by kernel_rfl) (by simp) ?_;refine aW.cons rfl (λK hK=>?_) (aW.cons rfl (λK hK=>?_) aW.nil)
       ·refine uq w2 (by rfl) _ _ 32 (by rfl) (tb+1) 9 iS (.string ⟨#[]⟩) 16 underlying32 zO.out ŗ Ν hS2 (by rfl) (.slice a1 n1 c1) n1 (((full (rows.take k)).map Prod.fst).map encStr) (by rfl) oC.out (by repeat (first|exact Below.refl _ _|with_reducible apply bN|with_reducible apply fB)) _ _ _ _ (by rfl) (by first|exact heap_alloc_new _ _|exact J7 _ _ _|exact J8 _ _ _) (by rfl) (by omega) (by decide) yw ?_;intro g7 gT w7 cZ iK qN;obtain⟨m1,m2,m3,m4,m5⟩:=HT2.out.mid yw qN iK;have Aw:Hid (w7.ownsRow (tb+1) 9 1 (.slice a2 n2 c2) n2 (BX.map encStr)):=by rw[Ee.out] at m2;exact m2
        have FR:=È m5;have FJ:=È m3;have D8:=È cZ;have vg:=È iK;have xH:=È qN;have rE:Hid (∀z,Below w7.heap.size w7 z->(z.cell? ⟨tb,2,none⟩=some (.slice a1 n1 c1)/\z.cell? ⟨tb,3,none⟩=some (.slice a2 n2 c2)/\z.cell? ⟨wr.heap.size,0,none⟩=some (.string nm))):=λz hz=>by
         have q1:=(hz.block _ (aC m1)).trans m1;have q2:=(hz.block _ (aC (HT2.out.other qN iK Av.out (by decide)))).trans (HT2.out.other qN iK Av.out (by decide));exact⟨ak q1 2,ak q1 3,ak q2 0⟩
        clear cZ iK qN m1 m2 m3 m5;refine hK.out _ _ (rE.out _ (Below.refl _ _)) ?_;clear hK K;try simp only[Act.put]
        refine kW (i:=11) (v:=.pointer (some ⟨tb,2,none⟩)) rfl (by kernel_rfl) (by kernel_rfl) (by kernel_rfl) (by kernel_rfl) (λ_ _ _ h=>h) (Or.inl ⟨by rfl,?_⟩) (λ_=>rE.out _ (Below.refl _ _)) ?_
        ·intro w _;go_simp
        try simp only[Act.put]
        refine dJ (rs:=[9]) (by kernel_rfl) (by simp) ?_;refine aW.cons rfl (λK hK=>?_) aW.nil;go_simp
        refine hK.out _ _ (rE.out _ (by repeat (first|exact Below.refl _ _|with_reducible apply bN|with_reducible apply fB))) ?_;clear hK K;try simp only[Act.put]
        refine dJ (rs:=[10]) (by kernel_rfl) (by simp) ?_;refine aW.cons rfl (λK hK=>?_) aW.nil;refine uq w7 (by rfl) _ _ 32 (by rfl) (tb+1) 9 iS (.string ⟨#[]⟩) 16 underlying32 zO.out ŗ Ν hS2 (by rfl) (.slice a2 n2 c2) n2 (BX.map encStr) (by rfl) Aw.out (by repeat (first|exact Below.refl _ _|with_reducible apply bN|with_reducible apply fB)) _ _ _ _ (by rfl) (by exact heap_alloc_new _ _) (by rfl) (by omega) (by decide) FJ.out ?_;intro g8 tN w8 vK nQ qO;have uw:=HT2.out.last yw xH.out vg.out qO nQ;have MN:=HT2.out.more (x:=nm.data.toList) (y:=x.data.toList) yw xH.out (by rw[HG.out.1,y8 nm];exact D8.out) vg.out qO (by rw[Ee.out,y8 x];exact vK) nQ;have GQ:=È MN;have Ye:w8.cell? ⟨tb,2,none⟩=some (.slice a1 n1 c1):=ak uw 2;have Yf:w8.cell? ⟨tb,3,none⟩=some (.slice a2 n2 c2):=ak uw 3;have f8:∀q,w8.frozen? ⟨tb,q,none⟩=false:=λq=>by simp[World.frozen?,uw]
        have MO:Hid ((w8.cell? ⟨tb,2,none⟩=some (.slice a1 n1 c1)/\w8.cell? ⟨tb,3,none⟩=some (.slice a2 n2 c2)/\w8.cell? ⟨wr.heap.size,0,none⟩=some (.string nm))):=by
         have q1:=uw;have q2:=(show zS _ w8 _ _ from nQ).other (bK Aw.out qO) ((qO.block _ (aC (HT2.out.other xH.out vg.out Av.out (by decide)))).trans (HT2.out.other xH.out vg.out Av.out (by decide))) (by decide);exact⟨ak q1 2,ak q1 3,ak q2 0⟩
        clear vK nQ qO MN;refine hK.out _ _ MO.out ?_;clear hK K;try simp only[Act.put]
        refine dJ (rs:=[12]) (by kernel_rfl) (by simp) ?_;refine aW.last rfl (by kernel_rfl) (λK hK=>?_) aW.nil;go_simp
        refine hK.out _ _ ?_;clear hK K;try simp only[Act.put]
        refine kW (i:=13) (v:=.pointer (some ⟨tb,3,none⟩)) rfl (by kernel_rfl) (by kernel_rfl) (by kernel_rfl) (by kernel_rfl) (λ_ _ _ h=>h) (Or.inl ⟨by rfl,?_⟩) (λ_=>absurd ‹_› (by decide)) ?_
        ·intro w _;go_simp
        try simp only[Act.put]
        obtain⟨Z8,Ay⟩:∃Z8,Z8=w8.setCell ⟨tb,2,none⟩ (.slice (some ⟨g7,0,none⟩) (n1+1) gT):=⟨_,rfl⟩;have FT:Z8.heap[tb]? = some (.cells #[.int .i64 f,.int .i64 s,.slice (some ⟨g7,0,none⟩) (n1+1) gT,.slice a2 n2 c2] 78 (0,0)):=by rw[Ay];exact (dU uw 2 _).trans (by rfl)
        have c93:Z8.cell? ⟨tb,3,none⟩=some (.slice a2 n2 c2):=ak FT 3;have f9:∀q,Z8.frozen? ⟨tb,q,none⟩=false:=λq=>by simp[World.frozen?,FT]
        rw[<-Ay];have MP:=È Ay;clear Ay FT uw Ye Yf f8;refine dJ (rs:=[14]) (by kernel_rfl) (by simp) ?_;refine aW.last rfl (by kernel_rfl) (λK hK=>?_) aW.nil;go_simp
        refine hK.out _ _ ?_;clear hK K;refine fD (by kernel_rfl) ?_ _;have ru:Hid (BU w (Z8.setCell ⟨tb,3,none⟩ (.slice (some ⟨g8,0,none⟩) (n2+1) tN)) tb f s rows (k+1) (.string nm) (.slice (some ⟨g7,0,none⟩) (n1+1) gT) (.slice (some ⟨g8,0,none⟩) (n2+1) tN)):=by
         obtain⟨j1,j2,j3⟩:=GQ.out;rw[MP.out];have Ü:full (rows.take (k+1))=full (rows.take k) ++ [rows[k]]:=by rw[oJ.out,if_pos hz]
         have e1:(full (rows.take (k+1))).map Prod.fst=(full (rows.take k)).map Prod.fst ++ [nm.data.toList]:=by rw[Ü,List.map_append,vX.out.1];simp
         have e2:((full (rows.take (k+1))).map λr=>fI r.2)=BX ++ [x.data.toList]:=by rw[Ü,List.map_append,HXC.out,XI.out];simp
         have hw8:=j3.size;refine⟨by omega,by rw[HAH.out],iq.out,?_,?_,?_,?_⟩
         ·rw[Below.heap_setCell _ _ _ _ (by show w.heap.size≠tb;omega),Below.heap_setCell _ _ _ _ (by show w.heap.size≠tb;omega),j3.block _ (by omega)];exact rP.out
         ·rw[e1,e2];rw[HG.out.1,Ee.out] at j1;exact j1
         ·exact ((kV.out.trans (j3.mono (by omega))).setCell (by show w.heap.size<=tb;omega) _).setCell (by show w.heap.size<=tb;omega) _
         ·simp
          omega
        clear GQ MP D8 vg xH Aw FJ FR rE MO;go_wp2;go_roundw;case rel=>exact⟨k+1,_,_,by go_num,ru.out⟩
        case measure=>simp[intOf]<;>omega
       ·go_simp
        refine hK.out _ _ (BS.out _ (by repeat (first|exact Below.refl _ _|with_reducible apply bN|with_reducible apply fB))) ?_;clear hK K;try simp only[Act.put]
        refine dJ (rs:=[5]) (by kernel_rfl) (by simp) ?_;refine aW.cons rfl (λK hK=>?_) aW.nil;refine uq w2 (by rfl) _ _ 32 (by rfl) (tb+1) 9 iS (.string ⟨#[]⟩) 16 underlying32 zO.out ŗ Ν hS2 (by rfl) (.slice a1 n1 c1) n1 (((full (rows.take k)).map Prod.fst).map encStr) (by rfl) oC.out (by repeat (first|exact Below.refl _ _|with_reducible apply bN|with_reducible apply fB)) _ _ _ _ (by rfl) (by first|exact heap_alloc_new _ _|exact J7 _ _ _|exact J8 _ _ _) (by rfl) (by omega) (by decide) yw ?_;intro g7 gT w7 cZ iK qN;obtain⟨m1,m2,m3,m4,m5⟩:=HT2.out.mid yw qN iK;have Aw:Hid (w7.ownsRow (tb+1) 9 1 (.slice a2 n2 c2) n2 (BX.map encStr)):=by rw[Ee.out] at m2;exact m2
        have FR:=È m5;have FJ:=È m3;have D8:=È cZ;have vg:=È iK;have xH:=È qN;have rE:Hid (∀z,Below w7.heap.size w7 z->(z.cell? ⟨tb,2,none⟩=some (.slice a1 n1 c1)/\z.cell? ⟨tb,3,none⟩=some (.slice a2 n2 c2)/\z.cell? ⟨wr.heap.size,0,none⟩=some (.string nm))):=λz hz=>by
         have q1:=(hz.block _ (aC m1)).trans m1;have q2:=(hz.block _ (aC (HT2.out.other qN iK Av.out (by decide)))).trans (HT2.out.other qN iK Av.out (by decide));exact⟨ak q1 2,ak q1 3,ak q2 0⟩
        clear cZ iK qN m1 m2 m3 m5;refine hK.out _ _ (rE.out _ (Below.refl _ _)) ?_;clear hK K;try simp only[Act.put]
        refine kW (i:=11) (v:=.pointer (some ⟨tb,2,none⟩)) rfl (by kernel_rfl) (by kernel_rfl) (by kernel_rfl) (by kernel_rfl) (λ_ _ _ h=>h) (Or.inl ⟨by rfl,?_⟩) (λ_=>rE.out _ (Below.refl _ _)) ?_
        ·intro w _;go_simp
        try simp only[Act.put]
        refine dJ (rs:=[10]) (by kernel_rfl) (by simp) ?_;refine aW.cons rfl (λK hK=>?_) aW.nil;refine uq w7 (by rfl) _ _ 32 (by rfl) (tb+1) 9 iS (.string ⟨#[]⟩) 16 underlying32 zO.out ŗ Ν hS2 (by rfl) (.slice a2 n2 c2) n2 (BX.map encStr) (by rfl) Aw.out (by repeat (first|exact Below.refl _ _|with_reducible apply bN|with_reducible apply fB)) _ _ _ _ (by rfl) (by first|exact FR.out _ _ (by simp) (heap_alloc_new _ _)|exact FR.out _ _ (by simp) (J7 _ _ _)|exact FR.out _ _ (by simp) (J8 _ _ _)) (by rfl) (by omega) (by decide) FJ.out ?_;intro g8 tN w8 vK nQ qO;have uw:=HT2.out.last yw xH.out vg.out qO nQ;have MN:=HT2.out.more (x:=nm.data.toList) (y:=x.data.toList) yw xH.out (by rw[HG.out.1,y8 nm];exact D8.out) vg.out qO (by rw[Ee.out,y8 x];exact vK) nQ;have GQ:=È MN;have Ye:w8.cell? ⟨tb,2,none⟩=some (.slice a1 n1 c1):=ak uw 2;have Yf:w8.cell? ⟨tb,3,none⟩=some (.slice a2 n2 c2):=ak uw 3;have f8:∀q,w8.frozen? ⟨tb,q,none⟩=false:=λq=>by simp[World.frozen?,uw]
        have MO:Hid ((w8.cell? ⟨tb,2,none⟩=some (.slice a1 n1 c1)/\w8.cell? ⟨tb,3,none⟩=some (.slice a2 n2 c2)/\w8.cell? ⟨wr.heap.size,0,none⟩=some (.string nm))):=by
         have q1:=uw;have q2:=(show zS _ w8 _ _ from nQ).other (bK Aw.out qO) ((qO.block _ (aC (HT2.out.other xH.out vg.out Av.out (by decide)))).trans (HT2.out.other xH.out vg.out Av.out (by decide))) (by decide);exact⟨ak q1 2,ak q1 3,ak q2 0⟩
        clear vK nQ qO MN;refine hK.out _ _ MO.out ?_;clear hK K;try simp only[Act.put]
        refine dJ (rs:=[12]) (by kernel_rfl) (by simp) ?_;refine aW.last rfl (by kernel_rfl) (λK hK=>?_) aW.nil;go_simp
        refine hK.out _ _ ?_;clear hK K;try simp only[Act.put]
        refine kW (i:=13) (v:=.pointer (some ⟨tb,3,none⟩)) rfl (by kernel_rfl) (by kernel_rfl) (by kernel_rfl) (by kernel_rfl) (λ_ _ _ h=>h) (Or.inl ⟨by rfl,?_⟩) (λ_=>absurd ‹_› (by decide)) ?_
        ·intro w _;go_simp
        try simp only[Act.put]
        obtain⟨Z8,Ay⟩:∃Z8,Z8=w8.setCell ⟨tb,2,none⟩ (.slice (some ⟨g7,0,none⟩) (n1+1) gT):=⟨_,rfl⟩;have FT:Z8.heap[tb]? = some (.cells #[.int .i64 f,.int .i64 s,.slice (some ⟨g7,0,none⟩) (n1+1) gT,.slice a2 n2 c2] 78 (0,0)):=by rw[Ay];exact (dU uw 2 _).trans (by rfl)
        have c93:Z8.cell? ⟨tb,3,none⟩=some (.slice a2 n2 c2):=ak FT 3;have f9:∀q,Z8.frozen? ⟨tb,q,none⟩=false:=λq=>by simp[World.frozen?,FT]
        rw[<-Ay];have MP:=È Ay;clear Ay FT uw Ye Yf f8;refine dJ (rs:=[14]) (by kernel_rfl) (by simp) ?_;refine aW.last rfl (by kernel_rfl) (λK hK=>?_) aW.nil;go_simp
        refine hK.out _ _ ?_;clear hK K;refine fD (by kernel_rfl) ?_ _;have ru:Hid (BU w (Z8.setCell ⟨tb,3,none⟩ (.slice (some ⟨g8,0,none⟩) (n2+1) tN)) tb f s rows (k+1) (.string nm) (.slice (some ⟨g7,0,none⟩) (n1+1) gT) (.slice (some ⟨g8,0,none⟩) (n2+1) tN)):=by
         obtain⟨j1,j2,j3⟩:=GQ.out;rw[MP.out];have Ü:full (rows.take (k+1))=full (rows.take k) ++ [rows[k]]:=by rw[oJ.out,if_pos hz]
         have e1:(full (rows.take (k+1))).map Prod.fst=(full (rows.take k)).map Prod.fst ++ [nm.data.toList]:=by rw[Ü,List.map_append,vX.out.1];simp
         have e2:((full (rows.take (k+1))).map λr=>fI r.2)=BX ++ [x.data.toList]:=by rw[Ü,List.map_append,HXC.out,XI.out];simp
         have hw8:=j3.size;refine⟨by omega,by rw[HAH.out],iq.out,?_,?_,?_,?_⟩
         ·rw[Below.heap_setCell _ _ _ _ (by show w.heap.size≠tb;omega),Below.heap_setCell _ _ _ _ (by show w.heap.size≠tb;omega),j3.block _ (by omega)];exact rP.out
         ·rw[e1,e2];rw[HG.out.1,Ee.out] at j1;exact j1
         ·exact ((kV.out.trans (j3.mono (by omega))).setCell (by show w.heap.size<=tb;omega) _).setCell (by show w.heap.size<=tb;omega) _
         ·simp
          omega
        clear GQ MP D8 vg xH Aw FJ FR rE MO;go_wp2;go_roundw;case rel=>exact⟨k+1,_,_,by go_num,ru.out⟩
        case measure=>simp[intOf]<;>omega
      ·go_simp
       refine hK.out _ _ (BS.out _ (by repeat (first|exact Below.refl _ _|with_reducible apply bN|with_reducible apply fB))) ?_;clear hK K;try simp only[Act.put]
       refine dJ (rs:=[4]) (by kernel_rfl) (by simp) ?_;refine aW.cons rfl (λK hK=>?_) aW.nil;go_simp
       refine hK.out _ _ (BS.out _ (by repeat (first|exact Below.refl _ _|with_reducible apply bN|with_reducible apply fB))) ?_;clear hK K;try simp only[Act.put]
       refine dJ (rs:=[5]) (by kernel_rfl) (by simp) ?_;refine aW.cons rfl (λK hK=>?_) aW.nil;refine uq w2 (by rfl) _ _ 32 (by rfl) (tb+1) 9 iS (.string ⟨#[]⟩) 16 underlying32 zO.out ŗ Ν hS2 (by rfl) (.slice a1 n1 c1) n1 (((full (rows.take k)).map Prod.fst).map encStr) (by rfl) oC.out (by repeat (first|exact Below.refl _ _|with_reducible apply bN|with_reducible apply fB)) _ _ _ _ (by rfl) (by first|exact heap_alloc_new _ _|exact J7 _ _ _|exact J8 _ _ _) (by rfl) (by omega) (by decide) yw ?_;intro g7 gT w7 cZ iK qN;obtain⟨m1,m2,m3,m4,m5⟩:=HT2.out.mid yw qN iK;have Aw:Hid (w7.ownsRow (tb+1) 9 1 (.slice a2 n2 c2) n2 (BX.map encStr)):=by rw[Ee.out] at m2;exact m2
       have FR:=È m5;have FJ:=È m3;have D8:=È cZ;have vg:=È iK;have xH:=È qN;have rE:Hid (∀z,Below w7.heap.size w7 z->(z.cell? ⟨tb,2,none⟩=some (.slice a1 n1 c1)/\z.cell? ⟨tb,3,none⟩=some (.slice a2 n2 c2)/\z.cell? ⟨wr.heap.size,0,none⟩=some (.string nm))):=λz hz=>by
        have q1:=(hz.block _ (aC m1)).trans m1;have q2:=(hz.block _ (aC (HT2.out.other qN iK Av.out (by decide)))).trans (HT2.out.other qN iK Av.out (by decide));exact⟨ak q1 2,ak q1 3,ak q2 0⟩
       clear cZ iK qN m1 m2 m3 m5;refine hK.out _ _ (rE.out _ (Below.refl _ _)) ?_;clear hK K;try simp only[Act.put]
       refine kW (i:=11) (v:=.pointer (some ⟨tb,2,none⟩)) rfl (by kernel_rfl) (by kernel_rfl) (by kernel_rfl) (by kernel_rfl) (λ_ _ _ h=>h) (Or.inl ⟨by rfl,?_⟩) (λ_=>rE.out _ (Below.refl _ _)) ?_
       ·intro w _;go_simp
       try simp only[Act.put]
       refine dJ (rs:=[10]) (by kernel_rfl) (by simp) ?_;refine aW.cons rfl (λK hK=>?_) aW.nil;refine uq w7 (by rfl) _ _ 32 (by rfl) (tb+1) 9 iS (.string ⟨#[]⟩) 16 underlying32 zO.out ŗ Ν hS2 (by rfl) (.slice a2 n2 c2) n2 (BX.map encStr) (by rfl) Aw.out (by repeat (first|exact Below.refl _ _|with_reducible apply bN|with_reducible apply fB)) _ _ _ _ (by rfl) (by first|exact FR.out _ _ (by simp) (heap_alloc_new _ _)|exact FR.out _ _ (by simp) (J7 _ _ _)|exact FR.out _ _ (by simp) (J8 _ _ _)) (by rfl) (by omega) (by decide) FJ.out ?_;intro g8 tN w8 vK nQ qO;have uw:=HT2.out.last yw xH.out vg.out qO nQ;have MN:=HT2.out.more (x:=nm.data.toList) (y:=x.data.toList) yw xH.out (by rw[HG.out.1,y8 nm];exact D8.out) vg.out qO (by rw[Ee.out,y8 x];exact vK) nQ;have GQ:=È MN;have Ye:w8.cell? ⟨tb,2,none⟩=some (.slice a1 n1 c1):=ak uw 2;have Yf:w8.cell? ⟨tb,3,none⟩=some (.slice a2 n2 c2):=ak uw 3;have f8:∀q,w8.frozen? ⟨tb,q,none⟩=false:=λq=>by simp[World.frozen?,uw]
       have MO:Hid ((w8.cell? ⟨tb,2,none⟩=some (.slice a1 n1 c1)/\w8.cell? ⟨tb,3,none⟩=some (.slice a2 n2 c2)/\w8.cell? ⟨wr.heap.size,0,none⟩=some (.string nm))):=by
        have q1:=uw;have q2:=(show zS _ w8 _ _ from nQ).other (bK Aw.out qO) ((qO.block _ (aC (HT2.out.other xH.out vg.out Av.out (by decide)))).trans (HT2.out.other xH.out vg.out Av.out (by decide))) (by decide);exact⟨ak q1 2,ak q1 3,ak q2 0⟩
       clear vK nQ qO MN;refine hK.out _ _ MO.out ?_;clear hK K;try simp only[Act.put]
       refine dJ (rs:=[12]) (by kernel_rfl) (by simp) ?_;refine aW.last rfl (by kernel_rfl) (λK hK=>?_) aW.nil;go_simp
       refine hK.out _ _ ?_;clear hK K;try simp only[Act.put]
       refine kW (i:=13) (v:=.pointer (some ⟨tb,3,none⟩)) rfl (by kernel_rfl) (by kernel_rfl) (by kernel_rfl) (by kernel_rfl) (λ_ _ _ h=>h) (Or.inl ⟨by rfl,?_⟩) (λ_=>absurd ‹_› (by decide)) ?_
       ·intro w _;go_simp
       try simp only[Act.put]
       obtain⟨Z8,Ay⟩:∃Z8,Z8=w8.setCell ⟨tb,2,none⟩ (.slice (some ⟨g7,0,none⟩) (n1+1) gT):=⟨_,rfl⟩;have FT:Z8.heap[tb]? = some (.cells #[.int .i64 f,.int .i64 s,.slice (some ⟨g7,0,none⟩) (n1+1) gT,.slice a2 n2 c2] 78 (0,0)):=by rw[Ay];exact (dU uw 2 _).trans (by rfl)
       have c93:Z8.cell? ⟨tb,3,none⟩=some (.slice a2 n2 c2):=ak FT 3;have f9:∀q,Z8.frozen? ⟨tb,q,none⟩=false:=λq=>by simp[World.frozen?,FT]
       rw[<-Ay];have MP:=È Ay;clear Ay FT uw Ye Yf f8;refine dJ (rs:=[14]) (by kernel_rfl) (by simp) ?_;refine aW.last rfl (by kernel_rfl) (λK hK=>?_) aW.nil;go_simp
       refine hK.out _ _ ?_;clear hK K;refine fD (by kernel_rfl) ?_ _;have ru:Hid (BU w (Z8.setCell ⟨tb,3,none⟩ (.slice (some ⟨g8,0,none⟩) (n2+1) tN)) tb f s rows (k+1) (.string nm) (.slice (some ⟨g7,0,none⟩) (n1+1) gT) (.slice (some ⟨g8,0,none⟩) (n2+1) tN)):=by
        obtain⟨j1,j2,j3⟩:=GQ.out;rw[MP.out];have Ü:full (rows.take (k+1))=full (rows.take k) ++ [rows[k]]:=by rw[oJ.out,if_pos hz]
        have e1:(full (rows.take (k+1))).map Prod.fst=(full (rows.take k)).map Prod.fst ++ [nm.data.toList]:=by rw[Ü,List.map_append,vX.out.1];simp
        have e2:((full (rows.take (k+1))).map λr=>fI r.2)=BX ++ [x.data.toList]:=by rw[Ü,List.map_append,HXC.out,XI.out];simp
        have hw8:=j3.size;refine⟨by omega,by rw[HAH.out],iq.out,?_,?_,?_,?_⟩
        ·rw[Below.heap_setCell _ _ _ _ (by show w.heap.size≠tb;omega),Below.heap_setCell _ _ _ _ (by show w.heap.size≠tb;omega),j3.block _ (by omega)];exact rP.out
        ·rw[e1,e2];rw[HG.out.1,Ee.out] at j1;exact j1
        ·exact ((kV.out.trans (j3.mono (by omega))).setCell (by show w.heap.size<=tb;omega) _).setCell (by show w.heap.size<=tb;omega) _
        ·simp
         omega
       clear GQ MP D8 vg xH Aw FJ FR rE MO;go_wp2;go_roundw;case rel=>exact⟨k+1,_,_,by go_num,ru.out⟩
       case measure=>simp[intOf]<;>omega
     ·have hd:decide ((0:Int)<(nk:Int))=false:=by simp;omega
      have Ü:full (rows.take (k+1))=full (rows.take k):=by rw[oJ.out,if_neg hz]
      have ru:Hid (BU w w2 tb f s rows (k+1) (.string nm) (.slice a1 n1 c1) (.slice a2 n2 c2)):=by
       refine⟨by omega,by rw[HAH.out],iq.out,rP.out,?_,kV.out,by omega⟩;rw[Ü];exact ML.out
      clear Ü;go_wp2;go_roundw;case rel=>exact⟨k+1,_,_,by go_num,ru.out⟩
      case measure=>simp[intOf]<;>omega
    ·obtain⟨t,p,hv⟩:=iA.out.pos ĉ;have ė:0<rowAt f s rows k:=by
      have:0<=rowAt f s rows k:=RI ..;omega
     have Am:=È (abY w2 (HE.out.below kV.out hB).types (Nat.le_trans hB kV.out.size) (k:Int) v _ _ iA.out ė);obtain⟨hC,hA⟩:=aiu (f:=f) (s:=s) (rows:=rows) (by rw[HN.out];exact FP.out) Ą HM.out.ok ĉ;have HC:=È (And.intro hC hA);have FH:=È ĉ;have ą:w2.heap[w.heap.size]? = some (.cells #[.int .i64 0,.int .i64 0,.slice none 0 0,.slice none 0 0] 78 (0,0)):=(HB2.out.block _ (Nat.lt_of_lt_of_le (aC HM.out.res) j5.out.size)).trans ((j5.out.block _ (aC HM.out.res)).trans HM.out.res);have rP:=È ą;subst hv;clear hC hA ĉ ą uo;go_wp2_with fail;refine Calls.mono Am.out ?_;rintro e w3 ⟨pb,mm,rfl,ώ,Ρ,zz0,zz1,hcm⟩;have Az:=(ώ.block _ (aC rP.out)).trans rP.out;have HB3:=È (kV.out.trans (ώ.mono kV.out.size));have ñ:pb≠w.heap.size:=λe=>by
      subst e;have:=(ak Az 1).symm.trans zz1;simp at this
     have p0:w3.cell? ⟨w.heap.size,0,none⟩=some (.int .i64 0):=ak Az 0;have p1:w3.cell? ⟨w.heap.size,1,none⟩=some (.int .i64 0):=ak Az 1;have p2:w3.cell? ⟨w.heap.size,2,none⟩=some (.slice none 0 0):=ak Az 2;have p3:w3.cell? ⟨w.heap.size,3,none⟩=some (.slice none 0 0):=ak Az 3;have pf:∀k,w3.frozen? ⟨w.heap.size,k,none⟩=false:=λk=>by simp[World.frozen?,Az]
     have mM:Hid (aM ea w3 (.iface 126 (.pointer (some ⟨pb,0,none⟩))) (ko f s rows) (ER f s rows)/\w3.heap[w.heap.size]? = some (.cells #[.int .i64 0,.int .i64 0,.slice none 0 0,.slice none 0 0] 78 (0,0))/\pb≠w.heap.size):=by
      refine⟨?_,Az,ñ⟩;rw[HC.out.1,HC.out.2];exact .inr (.inr ⟨pb,mm,Ρ,rfl,zz0,zz1,hcm⟩)
     clear ώ zz0 zz1 hcm Am Az ñ;go_wp2;obtain⟨Z,hZ⟩:∃Z,Z=((((w3.setCell ⟨w.heap.size,0,none⟩ (.int .i64 0)).setCell ⟨w.heap.size,1,none⟩ (.int .i64 0)).setCell ⟨w.heap.size,2,none⟩ (.slice none 0 0)).setCell ⟨w.heap.size,3,none⟩ (.slice none 0 0)):=⟨_,rfl⟩;rw[<-hZ];have lZ:Z.heap[w.heap.size]? = some (.cells #[.int .i64 0,.int .i64 0,.slice none 0 0,.slice none 0 0] 78 (0,0)):=by rw[hZ];exact tQ mM.out.2.1 _ _ _ _
     have hzb:Below w.heap.size w Z:=by rw[hZ];exact pq HB3.out (Nat.le_refl _) _ _ _ _
     have hfz:aM ea Z (.iface 126 (.pointer (some ⟨pb,0,none⟩))) (ko f s rows) (ER f s rows):=by
      have hcl:∀o,Z.cell? ⟨pb,o,none⟩=w3.cell? ⟨pb,o,none⟩:=λo=>by
       have:Z.heap[pb]? = w3.heap[pb]?:=by
        rw[hZ,Below.heap_setCell _ _ _ _ mM.out.2.2,Below.heap_setCell _ _ _ _ mM.out.2.2,Below.heap_setCell _ _ _ _ mM.out.2.2,Below.heap_setCell _ _ _ _ mM.out.2.2]
       simp[World.cell?,this]
      rcases mM.out.1 with⟨h,_⟩|⟨m,_,h,_⟩|⟨pb',m,hm,h,c0,c1,hc⟩
      ·cases h
      ·simp at h
      ·obtain rfl:pb=pb':=by simpa using h
       exact .inr (.inr ⟨pb,m,hm,rfl,(hcl 0).trans c0,(hcl 1).trans c1,hc⟩)
     have z0:Z.cell? ⟨w.heap.size,0,none⟩=some (.int .i64 0):=ak lZ 0;have z1:Z.cell? ⟨w.heap.size,1,none⟩=some (.int .i64 0):=ak lZ 1;have z2:Z.cell? ⟨w.heap.size,2,none⟩=some (.slice none 0 0):=ak lZ 2;have z3:Z.cell? ⟨w.heap.size,3,none⟩=some (.slice none 0 0):=ak lZ 3;clear hZ lZ;refine bodyPost_ret (v:=.tuple #[.agg #[.int .i64 0,.int .i64 0,.slice none 0 0,.slice none 0 0],.iface 126 (.pointer (some ⟨pb,0,none⟩))]) (by simp[results,results44,go_sem,z0,z1,z2,z3]) rfl ?_;exact⟨_,hzb,hfz,.inr ⟨λh=>FH.out (HC.out.1.symm.trans h),rfl⟩⟩
   ·obtain rfl:k=n:=by have:=HM.out.le;have:=HN.out;omega
    obtain⟨hC,hA⟩:=SS (f:=f) (s:=s) (rows:=rows) (by rw[HN.out];exact FP.out) (by rw[HN.out];exact HM.out.ok);have HC:=È (And.intro hC hA);have aaR:=HM.out.two;have iQ:rows.take k=rows:=List.take_of_length_le (by rw[HN.out];omega);have Hr:=È iQ;have ϊ:=aaR.blk;generalize Ϻ:((full (rows.take k)).map Prod.fst).length=n1 at *;generalize Ϩ:((full (rows.take k)).map λr=>fI r.2).length=n2 at *;have HG:=È (And.intro Ϻ Ϩ);have t0:wr.cell? ⟨tb,0,none⟩=some (.int .i64 f):=ak ϊ 0;have t1:wr.cell? ⟨tb,1,none⟩=some (.int .i64 s):=ak ϊ 1;have t2:wr.cell? ⟨tb,2,none⟩=some (.slice a1 n1 c1):=ak ϊ 2;have t3:wr.cell? ⟨tb,3,none⟩=some (.slice a2 n2 c2):=ak ϊ 3;have p0:wr.cell? ⟨w.heap.size,0,none⟩=some (.int .i64 0):=ak HM.out.res 0;have p1:wr.cell? ⟨w.heap.size,1,none⟩=some (.int .i64 0):=ak HM.out.res 1;have p2:wr.cell? ⟨w.heap.size,2,none⟩=some (.slice none 0 0):=ak HM.out.res 2;have p3:wr.cell? ⟨w.heap.size,3,none⟩=some (.slice none 0 0):=ak HM.out.res 3;have pf:∀k,wr.frozen? ⟨w.heap.size,k,none⟩=false:=λk=>by simp[World.frozen?,HM.out.res]
    have HTW:=È aaR;have Ł:(k:Int)<=(k:Int):=Int.le_refl _;clear hC hA iQ Ϻ Ϩ ϊ aaR;go_wp2;obtain⟨Z,hZ⟩:∃Z,Z=((((wr.setCell ⟨w.heap.size,0,none⟩ (.int .i64 f)).setCell ⟨w.heap.size,1,none⟩ (.int .i64 s)).setCell ⟨w.heap.size,2,none⟩ (.slice a1 n1 c1)).setCell ⟨w.heap.size,3,none⟩ (.slice a2 n2 c2)):=⟨_,rfl⟩;rw[<-hZ];have lZ:Z.heap[w.heap.size]? = some (.cells #[.int .i64 f,.int .i64 s,.slice a1 n1 c1,.slice a2 n2 c2] 78 (0,0)):=by rw[hZ];exact tQ HM.out.res _ _ _ _
    have hzb:Below w.heap.size w Z:=by rw[hZ];exact pq HM.out.aI (Nat.le_refl _) _ _ _ _
    have z0:Z.cell? ⟨w.heap.size,0,none⟩=some (.int .i64 f):=ak lZ 0;have z1:Z.cell? ⟨w.heap.size,1,none⟩=some (.int .i64 s):=ak lZ 1;have z2:Z.cell? ⟨w.heap.size,2,none⟩=some (.slice a1 n1 c1):=ak lZ 2;have z3:Z.cell? ⟨w.heap.size,3,none⟩=some (.slice a2 n2 c2):=ak lZ 3;have o1:Z.ownsRow w.heap.size 9 1 (.slice a1 n1 c1) (full rows).length (((full rows).map Prod.fst).map encStr):=by
     have h:=kr (b:=w.heap.size) HTW.out.Bh (by omega);rw[hZ];rw[Hr.out] at h;rw[List.length_map] at h;exact qM h HM.out.res (by decide) _ _ _ _
    have o2:Z.ownsRow w.heap.size 9 1 (.slice a2 n2 c2) (full rows).length (((full rows).map λr=>fI r.2).map encStr):=by
     have h:=kr (b:=w.heap.size) HTW.out.Dr (by omega);rw[hZ];rw[Hr.out] at h;rw[List.length_map] at h;exact qM h HM.out.res (by decide) _ _ _ _
    clear hZ lZ;refine bodyPost_ret (v:=.tuple #[.agg #[.int .i64 f,.int .i64 s,.slice a1 n1 c1,.slice a2 n2 c2],.nilIface]) (by simp[results,results44,go_sem,z0,z1,z2,z3]) rfl ?_;exact⟨_,hzb,.inl ⟨rfl,HC.out.1⟩,.inl ⟨HC.out.1,_,_,rfl,o1,o2⟩⟩
open aF bS
structure qj(wE wr:World)(mb pb nb:Nat)(S:List Rw)(sv:List UInt8->Value):Prop where
 pm:rU wr mb nb wE.heap.size S sv
 var:wr.heap[pb]? = some (.cells #[.map (some mb)] 161 (0,0))
 aI:Below wE.heap.size wE wr
 len:∀r,r∈S->r.2.length<=120*nb/\r.1.length<=1000
theorem qj.below{wE wr z:World}{mb pb nb:Nat}{S:List Rw}{sv:List UInt8->Value}(h:qj wE wr mb pb nb S sv)(hb:Below wr.heap.size wr z):qj wE z mb pb nb S sv:=
 ⟨h.pm.below hb,(hb.block _ (aC h.var)).trans h.var,h.aI.trans (hb.mono h.aI.size),h.len⟩
theorem MQ(wE w:World)(la:Option Addr)(c:Nat)(F:List Rw)(hP:nH wE la F)(hF:∀r,r∈F->r.2 ≠ []/\r.2.length<=120/\r.1.length<=1000)(hn:F.length<=60)(mb pb nb:Nat)(S:List Rw)(sv:List UInt8->Value)(h:qj wE w mb pb nb S sv)(Ŗ:wE.heap.size<=mb)(ñ:wE.heap.size<=pb)(Α:nb<=100):
  Calls prog 85 #[.slice la F.length c,.pointer (some ⟨pb,0,none⟩)] w λe w'=>e = .returned (.tuple #[])/\∃nD,qj wE w' mb pb (nb+F.length) (gU S F) nD:=by
 have HP:Hid (nH wE la F):=hP;have HF:=È hF;have HMB:=È Ŗ;have Yg:=È ñ;have H0:Hid (qj wE w mb pb (nb+0) (gU S (F.take 0)) sv):=h;obtain⟨n,ϰ⟩:∃n,F.length=n:=⟨_,rfl⟩;rw[ϰ] at hn ⊢;have HN:=È ϰ;clear hP hF h ϰ Ŗ ñ;go_enter func85,ntmps85;go_wp2_with fail;go_loopw [4,7] (λ_ i wr=>∃(k:Nat) (sw:List UInt8->Value),k<=n/\i = .int .i64 k/\qj wE wr mb pb (nb+k) (gU S (F.take k)) sw) (λ_ i _=>n-(intOf i).toNat);case atStart=>exact⟨0,_,Nat.zero_le _,rfl,H0.out⟩
 case round=>
  obtain⟨k,sw,hk,rfl,ht⟩:=hrel;clear H0;by_cases ϙ:k<n
  ·have ť:k<F.length:=by have:=HN.out;omega
   have ϔ:F.take (k+1)=F.take k ++ [F[k]]:=List.take_succ_eq_append_getElem ť;obtain⟨Ò,á,hf3⟩:=HF.out F[k] (List.getElem_mem ť);have hPw:nH wr la F:=HP.out.below ht.aI;rcases hPw with hx|⟨b,o,rfl,hc⟩
   ·rw[hx] at ť;simp at ť
   ·obtain⟨c0,A,C,c1,hPk⟩:=hc k ť;rcases hPk with hx|⟨ab,ao,rfl,hcp⟩
    ·exact absurd hx Ò
    obtain⟨nm,ð⟩:∃nm:ByteArray,nm=⟨F[k].1.toArray⟩:=⟨_,rfl⟩;have c0':wr.cell? ⟨b,o+k*2,none⟩=some (.string nm):=by rw[ð];exact c0
    have ű:nm.data.toList=F[k].1:=by rw[ð]
    obtain⟨m,hm⟩:∃m,F[k].2.length=m:=⟨_,rfl⟩;rw[hm] at c1 á;have φ:0<m:=by
     rw[<-hm];cases he:F[k].2 with
     | nil=>exact absurd he Ò
     | cons=>simp
    obtain⟨W0,Ĺ⟩:∃W0,W0=wr.alloc (.cells #[.string nm,.slice (some ⟨ab,ao,none⟩) m C] 52):=⟨_,rfl⟩;have Ϛ:Below wr.heap.size wr W0:=by rw[Ĺ];exact (Below.refl _ _).alloc (Nat.le_refl _) _
    have XM:W0.heap.size=wr.heap.size+1:=by rw[Ĺ];simp
    have hkW:W0.heap[wr.heap.size]? = some (.cells #[.string nm,.slice (some ⟨ab,ao,none⟩) m C] 52 (0,0)):=by rw[Ĺ];exact heap_alloc_new _ _
    have htW:=ht.below Ϛ;have Ca:qj wE W0.drew mb pb (nb+k) (gU S (F.take k)) sw:=htW.below ((Below.refl _ _).drew);have ŭ:nm.size<=1000:=by
     have e:nm.size=F[k].1.length:=by rw[ð];simp[ByteArray.size]
     omega
    obtain⟨v0,old,MR,oZ⟩:=Ca.pm.look nm ŭ;have ϸ:W0.drew.ownsRow wE.heap.size 43 2 v0 old.length (aD old):=MR.own Ca.pm;have hol:old.length<=20000:=by
     rcases MR with⟨_,_,rfl⟩|⟨r,hr,_,_,rfl⟩
     ·exact Nat.zero_le _
     ·have:=(Ca.len r hr).1;omega
    have hvb:∀q cs t f,W0.drew.heap[q]? = some (.cells cs t f)->t≠43->some q≠v0.ownBlock:=λq cs t f hq ht' e=>by
     obtain⟨_,_,cur,hc⟩:=aH ϸ e.symm;rw[hq] at hc;injection hc with hc;injection hc with _ hc;exact ht' hc
    have MS:W0.drew.heap[pb]? = some (.cells #[.map (some mb)] 161 (0,0)):=Ca.var;have LX:W0.drew.heap[wr.heap.size]? = some (.cells #[.string nm,.slice (some ⟨ab,ao,none⟩) m C] 52 (0,0)):=hkW;have Ν:∀z:World,W0.drew.grownBy z v0.ownBlock->z.cell? ⟨pb,0,none⟩=some (.map (some mb))/\z.cell? ⟨wr.heap.size,0,none⟩=some (.string nm)/\z.cell? ⟨wr.heap.size,1,none⟩=some (.slice (some ⟨ab,ao,none⟩) m C)/\(Instr.lookup 161 (.map (some mb)) (.string nm) false).run prog z = .ok v0 z:=λz hz=>by
     have e1:=(hz.block pb (aC MS) (hvb pb _ _ _ MS (by decide))).trans MS;have e2:=(hz.block wr.heap.size (aC LX) (hvb wr.heap.size _ _ _ LX (by decide))).trans LX;obtain⟨D,hD,_⟩:=Ca.pm.map;refine⟨ak e1 0,ak e2 0,ak e2 1,oZ z (hz.block mb hD.lt λe=>?_)⟩;obtain⟨_,_,cur,hc⟩:=aH ϸ e.symm;exact Ca.pm.kG hc rfl
    have HSD:Hid ((λz:World=>z.cell? ⟨pb,0,none⟩=some (.map (some mb))/\z.cell? ⟨wr.heap.size,0,none⟩=some (.string nm)/\z.cell? ⟨wr.heap.size,1,none⟩=some (.slice (some ⟨ab,ao,none⟩) m C)/\(Instr.lookup 161 (.map (some mb)) (.string nm) false).run prog z = .ok v0 z) W0.drew):=Ν W0.drew ⟨rfl,rfl,rfl,Nat.le_refl _,λ_ _ _=>rfl⟩;have alR:Hid (∀z:World,W0.drew.grownBy z v0.ownBlock->z.cell? ⟨pb,0,none⟩=some (.map (some mb))/\z.cell? ⟨wr.heap.size,0,none⟩=some (.string nm)/\z.cell? ⟨wr.heap.size,1,none⟩=some (.slice (some ⟨ab,ao,none⟩) m C)/\(Instr.lookup 161 (.map (some mb)) (.string nm) false).run prog z = .ok v0 z):=Ν;have hbE:Below wE.heap.size wE W0.drew:=Ca.aI;have BG:Hid (wE.heap.size<=W0.drew.heap.size):=hbE.size;have ru:Hid (∀(w2:World) (sx:List UInt8->Value),rU w2 mb (nb+k+1) wE.heap.size (ku (gU S (F.take k)) (nm.data.toList,F[k].2)) sx->Below wE.heap.size W0.drew w2->(∀q,q<W0.drew.heap.size->some q≠v0.ownBlock->q≠mb->w2.heap[q]? = W0.drew.heap[q]?)->qj wE w2 mb pb (nb+(k+1)) (gU S (F.take (k+1))) sx):=λw2 sx g1 g2 g3=>by
     have e:ku (gU S (F.take k)) (nm.data.toList,F[k].2)=gU S (F.take (k+1)):=by rw[ϔ,Ug,ű]
     refine⟨by rw[<-e];exact g1,(g3 pb (aC MS) (hvb pb _ _ _ MS (by decide)) (Ca.pm.kG MS)).trans MS,hbE.trans g2,λr hr=>?_⟩;rw[<-e] at hr;rcases (kH Ca.pm.up).1 hr with⟨hr',_⟩|⟨q,hq,Ÿ,rfl⟩|⟨_,rfl⟩
     ·have:=Ca.len r hr';omega
     ·have:=Ca.len q hq;refine⟨?_,this.2⟩;show (q.2++F[k].2).length<=_;rw[List.length_append,hm];omega
     ·refine⟨?_,?_⟩
      ·show F[k].2.length<=_;rw[hm];omega
      ·show nm.data.toList.length<=_;rw[ű];exact hf3
    have HPM:Hid (rU W0.drew mb (nb+k) wE.heap.size (gU S (F.take k)) sw):=Ca.pm;have HFD:=È MR;have HOW:Hid (W0.drew.ownsRow wE.heap.size 43 2 v0 old.length (aD old)):=ϸ;have nT:Hid ((aD F[k].2).length=m*2):=by rw[lU,hm];exact rfl
    have jG:Hid (∀(j:Nat) u,(aD F[k].2)[j]? = some u->W0.drew.cell? ((⟨ab,ao,none⟩:Addr).add j)=some u):=CQ λj hj=>by
     obtain⟨e1,e2⟩:=hcp j hj;have hl:=World.block_lt_of_cell? wr ⟨ab,_,none⟩ e1;exact⟨(Ϛ.cell (p:=⟨ab,ao+j*2,none⟩) hl).trans e1,(Ϛ.cell (p:=⟨ab,ao+j*2+1,none⟩) hl).trans e2⟩
    have HM:=È hm;have vX:=È ŭ;have JW:Hid (nb+k<1000):=by show _<_;omega
    have PW:Hid (0<m):=φ;have AB:Hid (old.length+m<=maxLen):=by show _<=_;unfold maxLen;omega
    have FC:Hid ((old.length+m)*16<=140737488355328):=by show _<=_;omega
    have SC:(k:Int)<(n:Int):=by omega
    have ä:(0:Int)<=(k:Int):=by omega
    obtain⟨i0,hi,Ċ,Ā,Ć⟩:=info_parts Tryz.infoPt;clear hc ϔ Ò hf3 c0 hcp ð ű Ϛ XM hkW htW Ca MR oZ ϸ hvb MS LX Ν hbE ŭ hm ht φ á hol;go_wp2_with fail;rw[<-Ĺ];clear Ĺ;refine jw (S:=λz=>z.cell? ⟨pb,0,none⟩=some (.map (some mb))/\z.cell? ⟨wr.heap.size,0,none⟩=some (.string nm)/\z.cell? ⟨wr.heap.size,1,none⟩=some (.slice (some ⟨ab,ao,none⟩) m C)/\(Instr.lookup 161 (.map (some mb)) (.string nm) false).run prog z = .ok v0 z) (by kernel_rfl) 10 HSD.out (λύ=>?_);refine nJ 0 11 (.map (some mb)) ύ rfl rfl ?_ ?_
    ·intro w Å;obtain⟨nX,nY,oM,xI⟩:=Å;go_simp
    simp only[Act.put,acO,acP,acQ];refine dw 1 12 (.pointer (some ⟨wr.heap.size,0,none⟩)) ύ rfl rfl ?_ ?_
    ·intro w _;go_simp
    simp only[Act.put,acO,acP,acQ];refine nJ 2 13 (.string nm) ύ rfl rfl ?_ ?_
    ·intro w Å;obtain⟨nX,nY,oM,xI⟩:=Å;go_simp
    simp only[Act.put,acO,acP,acQ];refine nJ 3 14 (.map (some mb)) ύ rfl rfl ?_ ?_
    ·intro w Å;obtain⟨nX,nY,oM,xI⟩:=Å;go_simp
    simp only[Act.put,acO,acP,acQ];refine dw 4 15 (.pointer (some ⟨wr.heap.size,0,none⟩)) ύ rfl rfl ?_ ?_
    ·intro w _;go_simp
    simp only[Act.put,acO,acP,acQ];refine nJ 5 16 (.string nm) ύ rfl rfl ?_ ?_
    ·intro w Å;obtain⟨nX,nY,oM,xI⟩:=Å;go_simp
    simp only[Act.put,acO,acP,acQ];refine nJ 6 17 v0 ύ rfl rfl ?_ ?_
    ·intro w Å;obtain⟨nX,nY,oM,xI⟩:=Å;go_simp
    simp only[Act.put,acO,acP,acQ];refine dw 7 18 (.pointer (some ⟨wr.heap.size,1,none⟩)) ύ rfl rfl ?_ ?_
    ·intro w _;go_simp
    simp only[Act.put,acO,acP,acQ];refine nJ 8 19 (.slice (some ⟨ab,ao,none⟩) m C) ύ rfl rfl ?_ ?_
    ·intro w Å;obtain⟨nX,nY,oM,xI⟩:=Å;go_simp
    simp only[Act.put,acO,acP,acQ];refine vI 9 rfl λK hK=>?_
    refine step_append_lies _ (by rfl) _ _ 45 (by rfl) wE.heap.size 43 i0 (.agg #[.int .i64 0,.int .u64 0]) 2 16 underlying45 hi Ċ Ā Ć rfl (by decide) v0 old.length (aD old) (by rfl) HOW.out ⟨ab,ao,none⟩ m C (aD F[k].2) (by rfl) nT.out jG.out (Ad _) PW.out AB.out FC.out BG.out _ rfl ?_;intro g1 qh w1 ϲ aaS agn ũ;obtain⟨w2,ϻ,hpm,Ë,Γ,hold⟩:=HPM.out.put HMB.out BG.out nm vX.out JW.out F[k].2 (v':=.slice (some ⟨g1,0,none⟩) (old.length+m) qh) (g:=g1) HFD.out rfl (by rw[List.length_append,HM.out,oW];exact ϲ) aaS agn;have Yh:=È (alR.out w1 aaS);have alS:=È hpm;have alT:=È Ë;have Fw:=È hold;clear ϲ aaS agn ũ hpm Ë hold Γ;refine hK.out _ _ Yh.out ?_;clear hK K;try simp only[Act.put]
    refine rD 10 rfl λK hK=>?_
    go_simp
    refine hK.out _ _ ?_;clear hK K;refine fD (by kernel_rfl) ?_ _;clear ϻ;go_wp2;go_roundw;case rel=>exact⟨k+1,_,by omega,by go_num,ru.out w2 _ alS.out alT.out Fw.out⟩
    case measure=>simp[intOf]<;>omega
  ·obtain rfl:k=n:=by omega
   have iQ:F.take k=F:=by rw[<-HN.out];exact List.take_length
   rw[iQ] at ht;have HT:=È ht;clear ht;go_wp2;exact bodyPost_end (v:=.tuple #[]) (by simp[results,results85,go_sem]) rfl ⟨rfl,_,HT.out⟩
def uy:List (List UInt8×List (Int×Nat))->List UInt8->List (Int×Nat)
 | [],_=>[]
 | r::l,k=>if r.1=k then r.2 else uy l k
theorem Qd:∀ {l:List (List UInt8×List (Int×Nat))} {k:List UInt8},(∀j (hj:j<l.length),l[j].1≠k)->uy l k = []
 | [],_,_=>rfl
 | r::l,k,h=>by
  have h0:r.1≠k:=h 0 (by simp);rw[uy,if_neg h0];exact Qd λj hj=>by have:=h (j+1) (by simp;omega);simpa using this
theorem Yi:∀ {l:List (List UInt8×List (Int×Nat))} {k:List UInt8} {i:Nat} (hi:i<l.length),(∀j (hj:j<l.length),j<i->l[j].1≠k)->l[i].1=k->uy l k=l[i].2
 | [],_,_,hi,_,_=>by simp at hi
 | r::l,k,0,_,_,h=>by
  have:r.1=k:=h;rw[uy,if_pos this];rfl
 | r::l,k,i+1,hi,h1,h=>by
  have h0:r.1≠k:=h1 0 (by simp) (by omega);rw[uy,if_neg h0];exact Yi (i:=i) (by simpa using hi) (λj hj hji=>by have:=h1 (j+1) (by simp;omega) (by omega);simpa using this) (by simpa using h)
end Go.Proofs.YtololnhfgjbhjaaGreatDoor
