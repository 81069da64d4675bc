import Derived.Test.YtnjmhjdhfaboaaaGreatDoorBlkRowsGroup
import Derived.Test.YtnjmhjdhfaboaaaGreatDoorRegStoreGroup
import Derived.Deep.RegionLaw
set_option maxRecDepth 1000000
set_option maxHeartbeats 8000000
open Nat (le_refl le_trans lt_of_lt_of_le lt_or_ge not_lt_zero zero_add zero_le)
open List
namespace Go.Proofs.YtnjmhjdhfaboaaaGreatDoor
open Go.RowKit Go.Maps aR
theorem ϵ{p:Prop}(h:p):Go.RowKit.Hid p:=h
structure Ay(Y z:World)(v:Value)(g:Nat):Prop where
 os:z.os=Y.os
 tape:z.tape=Y.tape
 output:z.output=Y.output
 size:Y.heap.size<=z.heap.size
 blk:∀q,q<Y.heap.size->v.ownBlock≠some q->z.heap[q]? = Y.heap[q]?
 at':v.ownBlock=some g\/g=Y.heap.size
theorem Ay.below{Y z:World}{v:Value}{g b:Nat}(h:Ay Y z v g)(A:b<=Y.heap.size)(o:∀q,v.ownBlock=some q->b<=q):Below b Y z:=
 ⟨h.os,h.tape,h.output,h.size,λq D=>h.blk q fO (λe=>by have:=o q e;omega)⟩
theorem acz{w:World}{b:Nat}{v:Value}{t:TypeId}{o:Nat×Nat}(h:w.heap[b]? = some (.cells #[v] t o)):∀j u,[v][j]? = some u->w.cell? ((⟨b,0,none⟩:Addr).add j)=some u:=World.news_of_block h
theorem K5(w:World)(o p:Obj):((w.alloc o).alloc p).heap[w.heap.size]? = some o:=by rw[Below.heap_alloc _ _ _ vI];exact heap_alloc_new _ _
theorem K6(w:World)(o p:Obj):((w.alloc o).alloc p).heap[w.heap.size+1]? = some p:=by have:=heap_alloc_new (w.alloc o) p;simpa using this
theorem Zx{P:Program}{Y:World}{H:Array Oper}{o:Oper}{a:Act}{K:Act->World->Prop}{Q:Exit->Act->World->Prop}{E:Prop}(Ŀ:o.guard=none)(s x:Operand)(t:TypeId)
  (ho:o.op = .call { callee:=.builtin .append,args:=#[s,x],argTypes:=#[t,t] }) (D:Nat) (e:TypeId) (i:TypeInfo) (z:Value) (A:Nat) (ht:P.underlying t=some (.slice e)) (hi:P.info? e=some i) (hz:i.zero=some z) (Ŭ:i.size=1) (I:i.bytes=A) (J:z.cells.size=1)
  (v:Value) (n:Nat) (xs:List Value) (hs:a.eval s=v) (ό:Y.ownsRow D e 1 v n xs) (b:Nat) (u:Value) (t':TypeId) (fr:Nat×Nat) (Z:a.eval x = .slice (some ⟨b,0,none⟩) 1 1) (Ϲ:Y.heap[b]? = some (.cells #[u] t' fr)) (h1:u.oneCell'=true) (hn:n<=1000000) (U:A<=100) (W:D<=Y.heap.size)
  (h:∀g F w',w'.ownsRow D e 1 (.slice (some ⟨g,0,none⟩) (n+1) F) (n+1) (xs ++ [u])->Ay Y w' v g->K (a.put o.dst (.slice (some ⟨g,0,none⟩) (n+1) F)) w') :
  if Region.wanted o (yielded H a.tmps)=true then Oper.wp P o a Y K Q else E:=by
 refine step_append_lies _ Ŀ s x t ho D e i z 1 A ht hi hz Ŭ I J nQ v n xs hs ό ⟨b,0,none⟩ 1 1 [u] Z rfl (acz Ϲ) (λc R=>by simp at R;subst R;exact h1) fO (by unfold maxLen;omega) ?_ W _ rfl ?_
 ·have:(n+1)*A<=1000001*100:=Nat.mul_le_mul fO U;omega
 ·intro g F w' O G É _;exact h g F w' O ⟨G.os,G.tape,G.output,G.size,λq hq V=>G.block q hq (λe=>V e.symm),É⟩
theorem bQ{w z:World}(h:Below w.heap.size w z)(o:Obj):Below w.heap.size w (z.alloc o):=h.alloc h.size o
theorem dz{w z:World}(h:Below w.heap.size w z):Below w.heap.size w z.drew:=h.trans ⟨rfl,rfl,rfl,le_refl _,λ_ _=>rfl⟩
theorem aX{w z:World}{o:Nat}{e:TypeId}{q:Nat}{v:Value}{n:Nat}{xs:List Value}(h:w.ownsRow o e q v n xs)(D:Below w.heap.size w z):z.ownsRow o e q v n xs:=bC h λg A=>D.block g (aH h A).2.1
theorem rE{P:Program}{Y:World}{G:Array Oper}{o:Oper}{a:Act}{K:Act->World->Prop}{Q:Exit->Act->World->Prop}{E:Prop}(F:World)(Ŀ:o.guard=none)(s x:Operand)(t:TypeId)
  (ho:o.op = .call { callee:=.builtin .append,args:=#[s,x],argTypes:=#[t,t] }) (A:Nat) (e:TypeId) (i:TypeInfo) (z:Value) (q:Nat) (ht:P.underlying t=some (.slice e)) (hi:P.info? e=some i) (hz:i.zero=some z) (Ŭ:i.size=1) (H:i.bytes=q) (I:z.cells.size=1)
  (v:Value) (n:Nat) (xs:List Value) (hs:a.eval s=v) (ό:F.ownsRow A e 1 v n xs) (O:Below F.heap.size F Y) (b:Nat) (u:Value) (U:TypeId) (R:Nat×Nat) (hx:a.eval x = .slice (some ⟨b,0,none⟩) 1 1) (Ϲ:Y.heap[b]? = some (.cells #[u] U R)) (J:u.oneCell'=true) (Z:n<=1000000) (W:q<=100) (Ñ:A<=F.heap.size)
  (h:∀g D w',w'.ownsRow A e 1 (.slice (some ⟨g,0,none⟩) (n+1) D) (n+1) (xs ++ [u])->Ay Y w' v g->Below F.heap.size F Y->K (a.put o.dst (.slice (some ⟨g,0,none⟩) (n+1) D)) w') :
  if Region.wanted o (yielded G a.tmps)=true then Oper.wp P o a Y K Q else E:=
 Zx Ŀ s x t ho A e i z q ht hi hz Ŭ H I v n xs hs (aX ό O) b u U R hx Ϲ J Z W (le_trans Ñ O.size) λg D w' J V=>h g D w' J V O
theorem Tryz.infoStr3:(Tryz.prog.info? 9).map (λi=>(i.zero,i.size,i.bytes))=some (some (.string ⟨#[]⟩),1,16):=lG
structure vY(wr:World)(base tb:Nat)(f s:Int)(u1 u2:Value)(ss cs:List (List UInt8)):Prop where
 blk:wr.heap[tb]? = some (.cells #[.int .i64 f,.int .i64 s,u1,u2] 114 (0,0))
 low:tb<base
 Cj:wr.ownsRow base 9 1 u1 ss.length (ss.map encStr)
 Eh:wr.ownsRow base 9 1 u2 cs.length (cs.map encStr)
 apart:∀g,u1.ownBlock=some g->u2.ownBlock≠some g
theorem vY.below{wr z:World}{o G:Nat}{f s:Int}{F D:Value}{ss cs:List (List UInt8)}(h:vY wr o G f s F D ss cs)(q:Below wr.heap.size wr z):vY z o G f s F D ss cs:=
 ⟨(q.block _ (aC h.blk)).trans h.blk,h.low,bC h.Cj λg A=>q.block g (aH h.Cj A).2.1,bC h.Eh λg A=>q.block g (aH h.Eh A).2.1,h.apart⟩
theorem vY.more{H Y1 w7 Y2 O:World}{o G:Nat}{f s:Int}{V Q:Value}{ss cs:List (List UInt8)}(h:vY H o G f s V Q ss cs){x y:List UInt8}{A J F K:Nat}(Ñ:o<=H.heap.size)(h1:Below H.heap.size H Y1)(o7:w7.ownsRow o 9 1 (.slice (some ⟨A,0,none⟩) (ss.length+1) J) (ss.length+1) (ss.map encStr ++ [.string ⟨x.toArray⟩]))(G7:Ay Y1 w7 V A)(Y:Below w7.heap.size w7 Y2)
  (o8:O.ownsRow o 9 1 (.slice (some ⟨F,0,none⟩) (cs.length+1) K) (cs.length+1) (cs.map encStr ++ [.string ⟨y.toArray⟩])) (G8:Ay Y2 O Q F) :
  vY ((O.setCell ⟨G,2,none⟩ (.slice (some ⟨A,0,none⟩) (ss.length+1) J)).setCell ⟨G,3,none⟩ (.slice (some ⟨F,0,none⟩) (cs.length+1) K)) o G f s (.slice (some ⟨A,0,none⟩) (ss.length+1) J) (.slice (some ⟨F,0,none⟩) (cs.length+1) K) (ss ++ [x]) (cs ++ [y])/\O.heap[G]? = some (.cells #[.int .i64 f,.int .i64 s,V,Q] 114 (0,0))/\Below o H O:=by
 have Ó:=h.low;have l1:∀q,V.ownBlock=some q->o<=q/\q<H.heap.size:=λq D=>⟨(aH h.Cj D).1,(aH h.Cj D).2.1⟩
 have l2:∀q,Q.ownBlock=some q->o<=q/\q<H.heap.size:=λq D=>⟨(aH h.Eh D).1,(aH h.Eh D).2.1⟩
 have s1:=h1.size;have s2:=Y.size;have s7:=G7.size;have b1:=(h1.mono Ñ).trans (G7.below fO λq D=>(l1 q D).1);have b2:=(b1.trans (Y.mono fO)).trans (G8.below fO λq D=>(l2 q D).1);have ht:=(b2.block G Ó).trans h.blk;have hg7:=(aH (g:=A) o7 rfl).2.1;have R:Q.ownBlock≠some A:=by
  rcases G7.at' with e|e
  ·exact h.apart A e
  ·intro I;have:=(l2 A I).2;omega
 have o7':O.ownsRow o 9 1 (.slice (some ⟨A,0,none⟩) (ss.length+1) J) (ss.length+1) (ss.map encStr ++ [.string ⟨x.toArray⟩]):=bC o7 λg W=>by
  simp[Value.ownBlock] at W;subst W;exact (G8.blk A fO R).trans (Y.block A hg7)
 have arH:A≠F:=by
  rcases G8.at' with e|e
  ·intro I;subst I;exact R e
  ·omega
 have U:∀ {v:Value} {n:Nat} {xs:List Value} {z:World} (k:Nat) (u:Value),z.ownsRow o 9 1 v n xs->(z.setCell ⟨G,k,none⟩ u).ownsRow o 9 1 v n xs:=λk u ho=>bC ho λg W=>by
  have:=(aH ho W).1;exact Below.heap_setCell _ _ _ _ (by show g≠G;omega)
 refine⟨⟨?_,Ó,?_,?_,λg Z I=>?_⟩,ht,b2⟩
 ·have Z:=dw ht 2 (.slice (some ⟨A,0,none⟩) (ss.length+1) J);have I:=dw (Z.trans (by rfl)) 3 (.slice (some ⟨F,0,none⟩) (cs.length+1) K);exact I.trans (by rfl)
 ·have:=U 3 (.slice (some ⟨F,0,none⟩) (cs.length+1) K) (U 2 (.slice (some ⟨A,0,none⟩) (ss.length+1) J) o7');simpa [encStr] using this
 ·have:=U 3 (.slice (some ⟨F,0,none⟩) (cs.length+1) K) (U 2 (.slice (some ⟨A,0,none⟩) (ss.length+1) J) o8);simpa [encStr] using this
 ·simp[Value.ownBlock] at Z I;omega
theorem vY.mid{A G w7:World}{z F:Nat}{f s:Int}{J I:Value}{ss cs:List (List UInt8)}(h:vY A z F f s J I ss cs){Q:Nat}(V:z<=A.heap.size)(H:Below A.heap.size A G)(D:Ay G w7 J Q):
  w7.heap[F]? = some (.cells #[.int .i64 f,.int .i64 s,J,I] 114 (0,0))/\w7.ownsRow z 9 1 I cs.length (cs.map encStr)/\z<=w7.heap.size/\A.heap.size<=w7.heap.size/\∀q o,A.heap.size<=q->G.heap[q]? = some o->w7.heap[q]? = some o:=by
 have Y:=h.low;have R:=H.size;have U:=D.size;refine⟨?_,bC h.Eh λg O=>?_,fO,fO,λq o W K=>?_⟩
 ·rw[D.blk F fO (λe=>by have:=(aH h.Cj e).1;omega),H.block F fO];exact h.blk
 ·have:=(aH h.Eh O).2.1;rw[D.blk g fO (λe=>h.apart g e O),H.block g this]
 ·rw[D.blk q (aC K) (λe=>by have:=(aH h.Cj e).2.1;omega)];exact K
theorem vY.last{q G w7 H I:World}{o z:Nat}{f s:Int}{D A:Value}{ss cs:List (List UInt8)}(h:vY q o z f s D A ss cs){R O:Nat}(U:o<=q.heap.size)(Q:Below q.heap.size q G)(J:Ay G w7 D R)(F:Below w7.heap.size w7 H)(K:Ay H I A O):
  I.heap[z]? = some (.cells #[.int .i64 f,.int .i64 s,D,A] 114 (0,0)):=by
 have V:=h.mid U Q J;have Y:=h.low;have W:=F.size;rw[K.blk z fO (λe=>by have:=(aH h.Eh e).1;omega),F.block z fO];exact V.1
theorem Ay.other{Y z:World}{v:Value}{g:Nat}(G:Ay Y z v g){o n:Nat}{e:TypeId}{xs:List Value}(F:Y.ownsRow o e 1 v n xs){b:Nat}{cs:Array Value}{t:TypeId}{A:Nat×Nat}(q:Y.heap[b]? = some (.cells cs t A))(H:e≠t):z.heap[b]? = some (.cells cs t A):=by
 rw[G.blk b (aC q) (λJ=>by obtain⟨_,_,I,D⟩:=aH F J;exact iU D q H rfl)];exact q
theorem vY.other{q A w7:World}{o O:Nat}{f s:Int}{G J:Value}{ss cs:List (List UInt8)}(h:vY q o O f s G J ss cs){K:Nat}(F:Below q.heap.size q A)(H:Ay A w7 G K){b:Nat}{c:Array Value}{t:TypeId}{D:Nat×Nat}(z:q.heap[b]? = some (.cells c t D))(I:9≠t):w7.heap[b]? = some (.cells c t D):=
 H.other (aX h.Cj F) ((F.block b (aC z)).trans z) I
theorem xE{w:World}{q o:Nat}{v:Value}{xs:List Value}{rows:List (List UInt8×List (Int×Nat))}(h:w.ownsRow q 104 2 v rows.length xs)(F:eH w o xs rows):∃a c,v = .slice a rows.length c/\rW w a rows:=by
 obtain⟨_,A⟩:=h;rcases A with⟨hv,h0⟩|⟨g,cap,cur,hv,hg,hh,h1,A,h3,h4⟩
 ·exact⟨none,0,by rw[hv,h0],.inl (eq_nil_of_length_eq_zero h0)⟩
 ·refine⟨_,_,hv,.inr ⟨g,0,rfl,λk O=>?_⟩⟩;have z:∀j,j<rows.length*2->w.cell? ⟨g,j,none⟩=xs[j]?:=by
   intro j I;have G:w.cell? ⟨g,j,none⟩=cur[j]?:=by simp[World.cell?,hh]
   rw[G,<-Array.getElem?_toList,<-h4,List.getElem?_take_of_lt I]
  obtain⟨D,s,K,H⟩:=F.at k O;obtain⟨a,c,rfl,_,J,_⟩:=gT H;refine⟨?_,a,c,?_,J⟩
  ·rw[zero_add,z _ fO];exact D
  ·rw[zero_add,z _ fO];exact K
def afD(ea:Nat->Addr)(w w':World)(f s:Int)(rows:List (List UInt8×List (Int×Nat)))(e:Ending):Prop:=
 ∃v,Below w.heap.size w w'/\aL ea w' v (kG f s rows) (EP f s rows) /\
  ((kG f s rows=0/\∃u1 u2,e = .returned (.tuple #[.agg #[.int .i64 f,.int .i64 s,u1,u2],v])/\w'.ownsRow w.heap.size 9 1 u1 (full rows).length (((full rows).map Prod.fst).map encStr)/\w'.ownsRow w.heap.size 9 1 u2 (full rows).length (((full rows).map λr=>dU r.2).map encStr)) \/
   (kG f s rows≠0/\e = .returned (.tuple #[.agg #[.int .i64 0,.int .i64 0,.slice none 0 0,.slice none 0 0],v])))
structure CY(w wr:World)(tb:Nat)(f s:Int)(rows:List (List UInt8×List (Int×Nat)))(k:Nat)(v10 u1 u2:Value):Prop where
 le:k<=rows.length
 ah:v10 = .string ⟨(prev (rows.map Prod.fst) k).toArray⟩
 ok:∀j,j<k->rowAt f s rows j=0
 res:wr.heap[w.heap.size]? = some (.cells #[.int .i64 0,.int .i64 0,.slice none 0 0,.slice none 0 0] 114 (0,0))
 two:vY wr (tb+1) tb f s u1 u2 ((full (rows.take k)).map Prod.fst) ((full (rows.take k)).map λr=>dU r.2)
 aI:Below w.heap.size w wr
 siz:tb+1<=wr.heap.size
theorem uK{z:World}{b:Nat}{I G D q:Value}{t:TypeId}(h:z.heap[b]? = some (.cells #[I,G,D,q] t (0,0)))(o v1 A F:Value):((((z.setCell ⟨b,0,none⟩ o).setCell ⟨b,1,none⟩ v1).setCell ⟨b,2,none⟩ A).setCell ⟨b,3,none⟩ F).heap[b]? = some (.cells #[o,v1,A,F] t (0,0)):=by
 have J:=(dw h 0 o).trans (show _=some (Obj.cells #[o,G,D,q] t (0,0)) by rfl);have K:=(dw J 1 v1).trans (show _=some (Obj.cells #[o,v1,D,q] t (0,0)) by rfl);have H:=(dw K 2 A).trans (show _=some (Obj.cells #[o,v1,A,q] t (0,0)) by rfl);exact (dw H 3 F).trans (by rfl)
theorem pY{B:Nat}{w z:World}{b:Nat}(h:Below B w z)(o:B<=b)(A v1 D q:Value):Below B w ((((z.setCell ⟨b,0,none⟩ A).setCell ⟨b,1,none⟩ v1).setCell ⟨b,2,none⟩ D).setCell ⟨b,3,none⟩ q):=
 (((h.setCell o A).setCell o v1).setCell o D).setCell o q
theorem rF{z:World}{q:Nat}{e t:TypeId}{A:Nat}{v:Value}{n:Nat}{xs:List Value}{b:Nat}{cs:Array Value}{H:Nat×Nat}(h:z.ownsRow q e A v n xs)(G:z.heap[b]? = some (.cells cs t H))(I:e≠t)(D v1 O J:Value):((((z.setCell ⟨b,0,none⟩ D).setCell ⟨b,1,none⟩ v1).setCell ⟨b,2,none⟩ O).setCell ⟨b,3,none⟩ J).ownsRow q e A v n xs:=
 bC h λg Q=>by
  obtain⟨_,_,K,F⟩:=aH h Q;have o:g≠b:=iU F G I;rw[Below.heap_setCell _ _ _ _ o,Below.heap_setCell _ _ _ _ o,Below.heap_setCell _ _ _ _ o,Below.heap_setCell _ _ _ _ o]
theorem zI(x:ByteArray):(⟨x.data.toList.toArray⟩:ByteArray)=x:=by cases x;simp
theorem K7{B:Nat}{ea:Nat->Addr}(w:World)(E:oF B ea w)(hB:B<=w.heap.size)(f s:Int)(la:Option Addr)(c:Nat)(rows:List (List UInt8×List (Int×Nat)))(hP:rW w la rows)(ϻ:∀r,r∈rows->ni r.2/\r.1.length<=1000/\r.2.length<=1000)(hn:rows.length<=1000):
  Calls Tryz.prog 99 #[.int .i64 f,.int .i64 s,.slice la rows.length c] w λe w'=>afD ea w w' f s rows e:=by
 obtain⟨W,hW⟩:=bE (w.alloc (.cells #[.int .i64 0,.int .i64 0,.slice none 0 0,.slice none 0 0] 114));have Ϗ:Below w.heap.size w W:=by rw[hW];exact (Below.refl _ _).alloc (le_refl _) _
 have hx:W.heap[w.heap.size]? = some (.cells #[.int .i64 0,.int .i64 0,.slice none 0 0,.slice none 0 0] 114 (0,0)):=by rw[hW];exact heap_alloc_new _ _
 have hWs:W.heap.size=w.heap.size+1:=by rw[hW];simp
 have HW:=ϵ hW;have bN:=ϵ Ϗ;have HE:=ϵ E;have NW:=ϵ hWs;have HX:=ϵ hx;have HP:=ϵ hP;have mD:=ϵ ϻ;have kb:=(E.below Ϗ hB).sI.c1;clear hW Ϗ hx E hP ϻ hWs;obtain⟨n,ϛ⟩:=bE rows.length;have HN:=ϵ ϛ.symm;rw[<-ϛ] at hn ⊢;clear ϛ;go_enter Tryz.func99,Tryz.ntmps99;go_upto_region 1 with fail;rw[<-HW.out];by_cases Ϫ:pF f s≠0\/60<n
 ·have jJ:=ϵ (FZ W f s n fO Ϫ (ea 1) kb);obtain⟨hC,hA⟩:=Qv (f:=f) (s:=s) (rows:=rows) (by rw[HN.out];exact Ϫ);have HC:=ϵ (And.intro hC hA);have p0:W.cell? ⟨w.heap.size,0,none⟩=some (.int .i64 0):=ak HX.out 0;have p1:W.cell? ⟨w.heap.size,1,none⟩=some (.int .i64 0):=ak HX.out 1;have p2:W.cell? ⟨w.heap.size,2,none⟩=some (.slice none 0 0):=ak HX.out 2;have p3:W.cell? ⟨w.heap.size,3,none⟩=some (.slice none 0 0):=ak HX.out 3;have pf:∀k,W.frozen? ⟨w.heap.size,k,none⟩=false:=λk=>by simp[World.frozen?,HX.out]
  clear hC hA Ϫ;go_wp2_with fail;refine Calls.mono jJ.out ?_;rintro e w1 ⟨rfl,ϙ⟩;have bF:=ϙ;subst bF;go_wp2;obtain⟨Z,hZ⟩:=bE ((((w1.setCell ⟨w.heap.size,0,none⟩ (.int .i64 0)).setCell ⟨w.heap.size,1,none⟩ (.int .i64 0)).setCell ⟨w.heap.size,2,none⟩ (.slice none 0 0)).setCell ⟨w.heap.size,3,none⟩ (.slice none 0 0));rw[<-hZ];have nG:Z.heap[w.heap.size]? = some (.cells #[.int .i64 0,.int .i64 0,.slice none 0 0,.slice none 0 0] 114 (0,0)):=by rw[hZ];exact uK HX.out _ _ _ _
  have hzb:Below w.heap.size w Z:=by rw[hZ];exact pY bN.out (le_refl _) _ _ _ _
  have z0:Z.cell? ⟨w.heap.size,0,none⟩=some (.int .i64 0):=ak nG 0;have z1:Z.cell? ⟨w.heap.size,1,none⟩=some (.int .i64 0):=ak nG 1;have z2:Z.cell? ⟨w.heap.size,2,none⟩=some (.slice none 0 0):=ak nG 2;have z3:Z.cell? ⟨w.heap.size,3,none⟩=some (.slice none 0 0):=ak nG 3;clear hZ nG;refine bodyPost_ret (v:=.tuple #[.agg #[.int .i64 0,.int .i64 0,.slice none 0 0,.slice none 0 0],.iface 397 (.pointer (some (ea 1)))]) (by simp[results,Tryz.results99,go_sem,z0,z1,z2,z3]) rfl ?_;exact⟨_,hzb,by rw[HC.out.1,HC.out.2];exact aL.es 1 nQ nQ,.inr ⟨λh=>absurd (HC.out.1.symm.trans h) nQ,rfl⟩⟩
 ·have BI:=ϵ Ϫ;have Ō:pF f s=0:=Decidable.not_not.1 λh=>Ϫ (.inl h)
  have acy:n<=60:=by
   rcases lt_or_ge 60 n with h|h
   ·exact absurd (.inr h) Ϫ
   ·exact h
  have jJ:=ϵ (IW W f s n Ō acy);clear Ϫ;go_wp2_with fail;refine Calls.mono jJ.out ?_;rintro e w1 ⟨rfl,ϙ⟩;have bF:=ϙ;subst bF;clear jJ kb;obtain⟨W2,υ⟩:=bE (w1.alloc (.cells #[.int .i64 f,.int .i64 s,.slice none 0 0,.slice none 0 0] 114));have HW2:Hid (∀wx,wx=w1.alloc (.cells #[.int .i64 f,.int .i64 s,.slice none 0 0,.slice none 0 0] 114)->wx=W2):=λwx h=>h.trans υ.symm
  obtain⟨D,Ε⟩:=bE w1.heap.size;have h0:CY w W2 D f s rows 0 (.string ⟨#[]⟩) (.slice none 0 0) (.slice none 0 0):=by
   refine⟨zero_le _,rfl,λj h=>absurd h (not_lt_zero _),?_,⟨?_,Nat.lt_succ_self _,⟨rfl,.inl ⟨rfl,by simp[full]⟩⟩,⟨rfl,.inl ⟨rfl,by simp[full]⟩⟩,λg e=>by simp[Value.ownBlock] at e⟩,?_,?_⟩
   ·rw[υ,heap_alloc_old _ _ (aC HX.out)];exact HX.out
   ·rw[υ,Ε];exact heap_alloc_new _ _
   ·rw[υ];exact bN.out.alloc bN.out.size _
   ·rw[υ,Ε];simp
  have IK:=ϵ h0;have htw:w.heap.size<D:=by have:=NW.out;omega
  clear h0 υ;go_wp2_with fail;rw[HW2.out _ rfl,<-Ε];clear Ε HW2 HX bN HW NW;go_loopw [10,29] (λv10 i wr=>∃(k:Nat) (u1 u2:Value),i = .int .i64 (k:Int)/\CY w wr D f s rows k v10 u1 u2) (λ_ i _=>n-(intOf i).toNat);case atStart=>exact⟨0,_,_,rfl,IK.out⟩
  case round=>
   obtain⟨k,u1,u2,rfl,hm⟩:=hrel;have U:=ϵ hm;have hah:=hm.ah;obtain⟨R,Q,rfl⟩:=bA hm.two.Cj;obtain⟨J,O,rfl⟩:=bA hm.two.Eh;have Ϣ:=hm.siz;have Á:=hm.aI.size;subst hah;clear hm IK;by_cases ϥ:k<n
   ·have İ:k<rows.length:=by rw[HN.out];exact ϥ
    rcases HP.out with h0|⟨b,o,rfl,Ϭ⟩
    ·rw[h0] at İ;exact absurd İ (not_lt_zero _)
    obtain⟨e1,A,C,e2,į⟩:=Ϭ k İ;have Ô:b<w.heap.size:=World.block_lt_of_cell? w ⟨b,_,none⟩ e1;obtain⟨QW,Ī,Ĭ⟩:=mD.out _ (getElem_mem İ);obtain⟨nm,é⟩:=bE (⟨(rows[k].1).toArray⟩:ByteArray);obtain⟨ah,hah⟩:=bE (⟨(prev (rows.map Prod.fst) k).toArray⟩:ByteArray);rw[<-hah];have Y:wr.cell? ⟨b,o+k*2,none⟩=some (.string nm):=by rw[é];exact (U.out.aI.cell (p:=⟨b,_,none⟩) Ô).trans e1
    have q2:wr.cell? ⟨b,o+k*2+1,none⟩=some (.slice A rows[k].2.length C):=(U.out.aI.cell (p:=⟨b,_,none⟩) Ô).trans e2;have k0:(0:Int)<=k:=fO;have k1:(k:Int)<n:=fO;obtain⟨nk,ġ⟩:=bE (rows[k].2.length);have θ:rowAt f s rows k=pX f s ah.data.toList nm.data.toList rows[k].2:=by
     unfold rowAt;rw[hah,é,(rV İ).1,(rV İ).2]
    have Xc:=λ(WA:World) (hb:Below w.heap.size w WA)=>QU WA (HE.out.below hb hB) (le_trans hB hb.size) R J A ((full (rows.take k)).map Prod.fst).length Q ((full (rows.take k)).map λr=>dU r.2).length O C f s Ō nm ah (le_trans (m:=1000) (by rw[é];simpa [ByteArray.size] using Ī) nQ) rows[k].2 (į.below hb) QW Ĭ
    rw[<-ġ] at q2 Xc;rw[<-θ] at Xc;have wS:=ϵ (And.intro é hah);have QX:=ϵ ġ;have nP:=ϵ Xc;obtain⟨WA,hWA⟩:=bE (wr.alloc (.cells #[.string nm,.slice A nk C] 104));have sD:Below wr.heap.size wr WA:=by rw[hWA];exact (Below.refl _ _).alloc (le_refl _) _
    have Ä:WA.heap[wr.heap.size]? = some (.cells #[.string nm,.slice A nk C] 104 (0,0)):=by rw[hWA];exact heap_alloc_new _ _
    have jr:=U.out.two.below sD;have x0:WA.cell? ⟨D,0,none⟩=some (.int .i64 f):=ak jr.blk 0;have x1:WA.cell? ⟨D,1,none⟩=some (.int .i64 s):=ak jr.blk 1;have x2:WA.cell? ⟨D,2,none⟩=some (.slice R _ Q):=ak jr.blk 2;have x3:WA.cell? ⟨D,3,none⟩=some (.slice J _ O):=ak jr.blk 3;have y0:WA.cell? ⟨wr.heap.size,0,none⟩=some (.string nm):=ak Ä 0;have y1:WA.cell? ⟨wr.heap.size,1,none⟩=some (.slice A nk C):=ak Ä 1;have lS:Hid (∀wx,wx=wr.alloc (.cells #[.string nm,.slice A nk C] 104)->wx=WA):=λwx h=>h.trans hWA.symm
    have nR:=ϵ sD;have kQ:=ϵ Ä;have NT:=ϵ jr;clear e1 e2 į é hah ġ θ Xc sD Ä jr hWA Ϭ QW Ī Ĭ;go_upto_region 9 with fail;rw[lS.out _ rfl];generalize Ò:((full (rows.take k)).map Prod.fst).length=I at *;generalize ϫ:((full (rows.take k)).map λr=>dU r.2).length=G at *;have HG:=ϵ (And.intro Ò ϫ);clear Ò ϫ;go_wp2_with fail;refine Calls.mono (nP.out WA (U.out.aI.trans (nR.out.mono Á))) ?_;rintro e w2 ⟨x,v,AA,rfl,ϒ,ú,ĩ⟩;have HB2:=ϵ ϒ;have uV:Hid (aL ea w2 v (rowAt f s rows k) AA):=ú;have uU:Hid (rowAt f s rows k=0->x.data.toList=dU rows[k].2):=ĩ;have lI:=ϵ ((U.out.aI.trans (nR.out.mono Á)).trans (ϒ.mono (le_trans Á nR.out.size)));have η:wr.heap.size<w2.heap.size:=lt_of_lt_of_le (aC kQ.out) ϒ.size;clear ϒ ú ĩ nP x0 x1 x2 x3 y0 y1 Y q2;by_cases þ:rowAt f s rows k=0
    ·have hv:=uV.out.none þ;subst hv;have hx:=uU.out þ;have h2r:w2.heap[wr.heap.size]? = some (.cells #[.string nm,.slice A nk C] 104 (0,0)):=(HB2.out.block _ (aC kQ.out)).trans kQ.out;have h2t:=NT.out.below HB2.out;have y0:w2.cell? ⟨wr.heap.size,0,none⟩=some (.string nm):=ak h2r 0;have y1:w2.cell? ⟨wr.heap.size,1,none⟩=some (.slice A nk C):=ak h2r 1;have iD:Hid (∀j,j<k+1->rowAt f s rows j=0):=λj hj=>by
      rcases lt_or_ge j k with h|h
      ·exact U.out.ok j h
      ·obtain rfl:j=k:=fO;exact þ
     have ē:w2.heap[w.heap.size]? = some (.cells #[.int .i64 0,.int .i64 0,.slice none 0 0,.slice none 0 0] 114 (0,0)):=(HB2.out.block _ (lt_of_lt_of_le (aC U.out.res) nR.out.size)).trans ((nR.out.block _ (aC U.out.res)).trans U.out.res);have sU:=ϵ ē;have qH:Hid (full (rows.take (k+1))=if 0<nk then full (rows.take k) ++ [rows[k]] else full (rows.take k)):=by
      show _=_;rw[take_succ_eq_append_getElem İ,Y4,QX.out]
     have HAH:Hid (prev (rows.map Prod.fst) (k+1)=nm.data.toList):=by
      show _=_;rw[N8 (by simpa using İ),wS.out.1];simp
     have BK:=ϵ h2r;have Oa:=ϵ h2t;clear ē h2r h2t þ;by_cases hz:0<nk
     ·have hd:decide ((0:Int)<nk)=true:=rD;obtain⟨iS,hS,ĝ,œ,Κ⟩:=info_parts Tryz.infoStr3;have y8:=ϵ hS;have t2:w2.cell? ⟨D,2,none⟩=some (.slice R I Q):=ak Oa.out.blk 2;have t3:w2.cell? ⟨D,3,none⟩=some (.slice J G O):=ak Oa.out.blk 3;have ű:D<w2.heap.size:=aC Oa.out.blk;have Ú:I<=60/\G<=60:=by
       have h1:=HG.out.1;have h2:=HG.out.2;have h3:(full (rows.take k)).length<=(rows.take k).length:=length_filter_le ..;have h4:(rows.take k).length<=k:=rD;simp only[length_map] at h1 h2;omega
      have yQ:D+1<=w2.heap.size:=ű;clear hS;go_wp2_with fail;obtain⟨CZ,Xd⟩:∃CZ:List (List UInt8),CZ=((full (rows.take k)).map λr=>dU r.2):=⟨_,rfl⟩;have H:Hid (vY w2 (D+1) D f s (.slice R I Q) (.slice J G O) ((full (rows.take k)).map Prod.fst) CZ):=by rw[Xd];exact Oa.out
      have FY:Hid (CZ.length=G):=by rw[Xd];exact HG.out.2
      have Zd:=ϵ Xd;clear Xd;have nC:Hid (w2.ownsRow (D+1) 9 1 (.slice R I Q) I (((full (rows.take k)).map Prod.fst).map encStr)):=by have:=Oa.out.Cj;rw[HG.out.1] at this;exact this
      have KT:Hid (∀z,Below w2.heap.size w2 z->(z.cell? ⟨D,2,none⟩=some (.slice R I Q)/\z.cell? ⟨D,3,none⟩=some (.slice J G O)/\z.cell? ⟨wr.heap.size,0,none⟩=some (.string nm))):=λz hz=>by
       have Y:=(hz.block _ (aC Oa.out.blk)).trans Oa.out.blk;have q2:=(hz.block _ (aC BK.out)).trans BK.out;exact⟨ak Y 2,ak Y 3,ak q2 0⟩
      have HXC:Hid (x.data.toList=dU rows[k].2):=hx;clear hx;refine eU (S:=λw'=>(w'.cell? ⟨D,2,none⟩=some (.slice R I Q)/\w'.cell? ⟨D,3,none⟩=some (.slice J G O)/\w'.cell? ⟨wr.heap.size,0,none⟩=some (.string nm))) lG 12 ⟨t2,t3,y0⟩ (λϊ=>?_);refine jq (i:=0) (v:=.pointer (some ⟨D,2,none⟩)) rfl lG lG lG lG lG lG (λ_ _ _ h=>h) (Or.inl ⟨by rfl,?_⟩) ϊ ?_
      ·intro w ϡ;obtain⟨g2,g3,g4⟩:=ϡ;go_simp
      try simp only[Act.put]
      refine jq (i:=1) (v:=.slice R I Q) rfl lG lG lG lG lG lG (λ_ _ _ h=>h) (Or.inl ⟨by rfl,?_⟩) ϊ ?_
      ·intro w ϡ;obtain⟨g2,g3,g4⟩:=ϡ;go_simp
      try simp only[Act.put]
      refine jq (i:=2) (v:=.pointer (some ⟨wr.heap.size,0,none⟩)) rfl lG lG lG lG lG lG (λ_ _ _ h=>h) (Or.inl ⟨by rfl,?_⟩) ϊ ?_
      ·intro w ϡ;obtain⟨g2,g3,g4⟩:=ϡ;go_simp
      try simp only[Act.put]
      refine jq (i:=3) (v:=.string nm) rfl lG lG lG lG lG lG (λ_ _ _ h=>h) (Or.inl ⟨by rfl,?_⟩) ϊ ?_
      ·intro w ϡ;obtain⟨g2,g3,g4⟩:=ϡ;go_simp
      try simp only[Act.put]
      refine jq (i:=6) (v:=.pointer (some ⟨D,3,none⟩)) rfl lG lG lG lG lG lG (λ_ _ _ h=>h) (Or.inl ⟨by rfl,?_⟩) ϊ ?_
      ·intro w ϡ;obtain⟨g2,g3,g4⟩:=ϡ;go_simp
      try simp only[Act.put]
      refine jq (i:=7) (v:=.slice J G O) rfl lG lG lG lG lG lG (λ_ _ _ h=>h) (Or.inl ⟨by rfl,?_⟩) ϊ ?_
      ·intro w ϡ;obtain⟨g2,g3,g4⟩:=ϡ;go_simp
      try simp only[Act.put]
      refine jY (i:=8) (v:=.string x) rfl lG lG lG lG (λ_ _ _ h=>h) (Or.inl ⟨by rfl,?_⟩) (λ_=>ϊ) ?_
      ·intro w _;go_simp
      try simp only[Act.put]
      refine bU (rs:=[4,9]) lG vI ?_;refine aM.cons rfl (λK F=>?_) (aM.cons rfl (λK F=>?_) aM.nil)
      ·go_simp
       refine F.out _ _ (KT.out _ (by repeat (first|exact Below.refl _ _|with_reducible apply bQ|with_reducible apply dz))) ?_;clear F K;try simp only[Act.put]
       refine bU (rs:=[5,9]) lG vI ?_;refine aM.cons rfl (λK F=>?_) (aM.cons rfl (λK F=>?_) aM.nil)
       ·refine rE w2 (by rfl) _ _ 22 (by rfl) (D+1) 9 iS (.string ⟨#[]⟩) 16 Tryz.underlying22 y8.out ĝ œ Κ (by rfl) (.slice R I Q) I (((full (rows.take k)).map Prod.fst).map encStr) (by rfl) nC.out (by repeat (first|exact Below.refl _ _|with_reducible apply bQ|with_reducible apply dz)) _ _ _ _ (by rfl) (by first|exact heap_alloc_new _ _|exact K5 _ _ _|exact K6 _ _ _) (by rfl) fO nQ yQ ?_;intro g7 dR w7 bR eu rG;obtain⟨m1,m2,m3,m4,m5⟩:=H.out.mid yQ rG eu;have C8:Hid (w7.ownsRow (D+1) 9 1 (.slice J G O) G (CZ.map encStr)):=by rw[FY.out] at m2;exact m2
        have F8:=ϵ m5;have IL:=ϵ m3;have EX:=ϵ bR;have vZ:=ϵ eu;have yG:=ϵ rG;have sJ:Hid (∀z,Below w7.heap.size w7 z->(z.cell? ⟨D,2,none⟩=some (.slice R I Q)/\z.cell? ⟨D,3,none⟩=some (.slice J G O)/\z.cell? ⟨wr.heap.size,0,none⟩=some (.string nm))):=λz hz=>by
         have Y:=(hz.block _ (aC m1)).trans m1;have q2:=(hz.block _ (aC (H.out.other rG eu BK.out nQ))).trans (H.out.other rG eu BK.out nQ);exact⟨ak Y 2,ak Y 3,ak q2 0⟩
        clear bR eu rG m1 m2 m3 m5;refine F.out _ _ (sJ.out _ (Below.refl _ _)) ?_;clear F K;try simp only[Act.put]
        refine jY (i:=11) (v:=.pointer (some ⟨D,2,none⟩)) rfl lG lG lG lG (λ_ _ _ h=>h) (Or.inl ⟨by rfl,?_⟩) (λ_=>sJ.out _ (Below.refl _ _)) ?_
        ·intro w _;go_simp
        try simp only[Act.put]
        refine bU (rs:=[9]) lG vI ?_;refine aM.cons rfl (λK F=>?_) aM.nil;go_simp
        refine F.out _ _ (sJ.out _ (by repeat (first|exact Below.refl _ _|with_reducible apply bQ|with_reducible apply dz))) ?_;clear F K;try simp only[Act.put]
        refine bU (rs:=[10]) lG vI ?_;refine aM.cons rfl (λK F=>?_) aM.nil;refine rE w7 (by rfl) _ _ 22 (by rfl) (D+1) 9 iS (.string ⟨#[]⟩) 16 Tryz.underlying22 y8.out ĝ œ Κ (by rfl) (.slice J G O) G (CZ.map encStr) (by rfl) C8.out (by repeat (first|exact Below.refl _ _|with_reducible apply bQ|with_reducible apply dz)) _ _ _ _ (by rfl) (by exact heap_alloc_new _ _) (by rfl) fO nQ IL.out ?_;intro g8 uJ V xZ wh rH;have yH:=H.out.last yQ yG.out vZ.out rH wh;have Ob:=H.out.more (x:=nm.data.toList) (y:=x.data.toList) yQ yG.out (by rw[HG.out.1,zI nm];exact EX.out) vZ.out rH (by rw[FY.out,zI x];exact xZ) wh;have Io:=ϵ Ob;have Zy:V.cell? ⟨D,2,none⟩=some (.slice R I Q):=ak yH 2;have f8:∀q,V.frozen? ⟨D,q,none⟩=false:=λq=>by simp[World.frozen?,yH]
        have Oc:Hid ((V.cell? ⟨D,2,none⟩=some (.slice R I Q)/\V.cell? ⟨D,3,none⟩=some (.slice J G O)/\V.cell? ⟨wr.heap.size,0,none⟩=some (.string nm))):=by
         have Y:=yH;have q2:=(show Ay _ V _ _ from wh).other (aX C8.out rH) ((rH.block _ (aC (H.out.other yG.out vZ.out BK.out nQ))).trans (H.out.other yG.out vZ.out BK.out nQ)) nQ;exact⟨ak Y 2,ak Y 3,ak q2 0⟩
        clear xZ wh rH Ob;refine F.out _ _ Oc.out ?_;clear F K;try simp only[Act.put]
        refine bU (rs:=[12]) lG vI ?_;refine aM.last rfl lG (λK F=>?_) aM.nil;go_simp
        refine F.out _ _ ?_;clear F K;try simp only[Act.put]
        refine jY (i:=13) (v:=.pointer (some ⟨D,3,none⟩)) rfl lG lG lG lG (λ_ _ _ h=>h) (Or.inl ⟨by rfl,?_⟩) (λ_=>absurd ‹_› nQ) ?_
        ·intro w _;go_simp
        try simp only[Act.put]
        obtain⟨Z8,BL⟩:=bE (V.setCell ⟨D,2,none⟩ (.slice (some ⟨g7,0,none⟩) (I+1) dR));have F9:Z8.heap[D]? = some (.cells #[.int .i64 f,.int .i64 s,.slice (some ⟨g7,0,none⟩) (I+1) dR,.slice J G O] 114 (0,0)):=by rw[BL];exact (dw yH 2 _).trans (by rfl)
        have c93:Z8.cell? ⟨D,3,none⟩=some (.slice J G O):=ak F9 3;have f9:∀q,Z8.frozen? ⟨D,q,none⟩=false:=λq=>by simp[World.frozen?,F9]
        rw[<-BL];have Od:=ϵ BL;clear BL F9 yH Zy f8;refine bU (rs:=[14]) lG vI ?_;refine aM.last rfl lG (λK F=>?_) aM.nil;go_simp
        refine F.out _ _ ?_;clear F K;refine dA lG ?_ _;have jP:Hid (CY w (Z8.setCell ⟨D,3,none⟩ (.slice (some ⟨g8,0,none⟩) (G+1) uJ)) D f s rows (k+1) (.string nm) (.slice (some ⟨g7,0,none⟩) (I+1) dR) (.slice (some ⟨g8,0,none⟩) (G+1) uJ)):=by
         obtain⟨j1,j2,j3⟩:=Io.out;rw[Od.out];have Ň:full (rows.take (k+1))=full (rows.take k) ++ [rows[k]]:=by rw[qH.out,if_pos hz]
         have e1:(full (rows.take (k+1))).map Prod.fst=(full (rows.take k)).map Prod.fst ++ [nm.data.toList]:=by rw[Ň,map_append,wS.out.1];simp
         have e2:((full (rows.take (k+1))).map λr=>dU r.2)=CZ ++ [x.data.toList]:=by rw[Ň,map_append,HXC.out,Zd.out];simp
         have hw8:=j3.size;refine⟨fO,by rw[HAH.out],iD.out,?_,?_,?_,?_⟩
         ·rw[Below.heap_setCell _ _ _ _ (by show w.heap.size≠D;omega),Below.heap_setCell _ _ _ _ (by show w.heap.size≠D;omega),j3.block _ fO];exact sU.out
         ·rw[e1,e2];rw[HG.out.1,FY.out] at j1;exact j1
         ·exact ((lI.out.trans (j3.mono fO)).setCell (by show w.heap.size<=D;omega) _).setCell (by show w.heap.size<=D;omega) _
         ·simp
          omega
        clear Io Od EX vZ yG C8 IL F8 sJ Oc;go_wp2;go_roundw;case rel=>exact⟨k+1,_,_,by go_num,jP.out⟩
        case measure=>simp[intOf]<;>omega
       ·go_simp
        refine F.out _ _ (KT.out _ (by repeat (first|exact Below.refl _ _|with_reducible apply bQ|with_reducible apply dz))) ?_;clear F K;try simp only[Act.put]
        refine bU (rs:=[5]) lG vI ?_;refine aM.cons rfl (λK F=>?_) aM.nil;refine rE w2 (by rfl) _ _ 22 (by rfl) (D+1) 9 iS (.string ⟨#[]⟩) 16 Tryz.underlying22 y8.out ĝ œ Κ (by rfl) (.slice R I Q) I (((full (rows.take k)).map Prod.fst).map encStr) (by rfl) nC.out (by repeat (first|exact Below.refl _ _|with_reducible apply bQ|with_reducible apply dz)) _ _ _ _ (by rfl) (by first|exact heap_alloc_new _ _|exact K5 _ _ _|exact K6 _ _ _) (by rfl) fO nQ yQ ?_;intro g7 dR w7 bR eu rG;obtain⟨m1,m2,m3,m4,m5⟩:=H.out.mid yQ rG eu;have C8:Hid (w7.ownsRow (D+1) 9 1 (.slice J G O) G (CZ.map encStr)):=by rw[FY.out] at m2;exact m2
        have F8:=ϵ m5;have IL:=ϵ m3;have EX:=ϵ bR;have vZ:=ϵ eu;have yG:=ϵ rG;have sJ:Hid (∀z,Below w7.heap.size w7 z->(z.cell? ⟨D,2,none⟩=some (.slice R I Q)/\z.cell? ⟨D,3,none⟩=some (.slice J G O)/\z.cell? ⟨wr.heap.size,0,none⟩=some (.string nm))):=λz hz=>by
         have Y:=(hz.block _ (aC m1)).trans m1;have q2:=(hz.block _ (aC (H.out.other rG eu BK.out nQ))).trans (H.out.other rG eu BK.out nQ);exact⟨ak Y 2,ak Y 3,ak q2 0⟩
        clear bR eu rG m1 m2 m3 m5;refine F.out _ _ (sJ.out _ (Below.refl _ _)) ?_;clear F K;try simp only[Act.put]
        refine jY (i:=11) (v:=.pointer (some ⟨D,2,none⟩)) rfl lG lG lG lG (λ_ _ _ h=>h) (Or.inl ⟨by rfl,?_⟩) (λ_=>sJ.out _ (Below.refl _ _)) ?_
        ·intro w _;go_simp
        try simp only[Act.put]
        refine bU (rs:=[10]) lG vI ?_;refine aM.cons rfl (λK F=>?_) aM.nil;refine rE w7 (by rfl) _ _ 22 (by rfl) (D+1) 9 iS (.string ⟨#[]⟩) 16 Tryz.underlying22 y8.out ĝ œ Κ (by rfl) (.slice J G O) G (CZ.map encStr) (by rfl) C8.out (by repeat (first|exact Below.refl _ _|with_reducible apply bQ|with_reducible apply dz)) _ _ _ _ (by rfl) (by first|exact F8.out _ _ vI (heap_alloc_new _ _)|exact F8.out _ _ vI (K5 _ _ _)|exact F8.out _ _ vI (K6 _ _ _)) (by rfl) fO nQ IL.out ?_;intro g8 uJ V xZ wh rH;have yH:=H.out.last yQ yG.out vZ.out rH wh;have Ob:=H.out.more (x:=nm.data.toList) (y:=x.data.toList) yQ yG.out (by rw[HG.out.1,zI nm];exact EX.out) vZ.out rH (by rw[FY.out,zI x];exact xZ) wh;have Io:=ϵ Ob;have Zy:V.cell? ⟨D,2,none⟩=some (.slice R I Q):=ak yH 2;have f8:∀q,V.frozen? ⟨D,q,none⟩=false:=λq=>by simp[World.frozen?,yH]
        have Oc:Hid ((V.cell? ⟨D,2,none⟩=some (.slice R I Q)/\V.cell? ⟨D,3,none⟩=some (.slice J G O)/\V.cell? ⟨wr.heap.size,0,none⟩=some (.string nm))):=by
         have Y:=yH;have q2:=(show Ay _ V _ _ from wh).other (aX C8.out rH) ((rH.block _ (aC (H.out.other yG.out vZ.out BK.out nQ))).trans (H.out.other yG.out vZ.out BK.out nQ)) nQ;exact⟨ak Y 2,ak Y 3,ak q2 0⟩
        clear xZ wh rH Ob;refine F.out _ _ Oc.out ?_;clear F K;try simp only[Act.put]
        refine bU (rs:=[12]) lG vI ?_;refine aM.last rfl lG (λK F=>?_) aM.nil;go_simp
        refine F.out _ _ ?_;clear F K;try simp only[Act.put]
        refine jY (i:=13) (v:=.pointer (some ⟨D,3,none⟩)) rfl lG lG lG lG (λ_ _ _ h=>h) (Or.inl ⟨by rfl,?_⟩) (λ_=>absurd ‹_› nQ) ?_
        ·intro w _;go_simp
        try simp only[Act.put]
        obtain⟨Z8,BL⟩:=bE (V.setCell ⟨D,2,none⟩ (.slice (some ⟨g7,0,none⟩) (I+1) dR));have F9:Z8.heap[D]? = some (.cells #[.int .i64 f,.int .i64 s,.slice (some ⟨g7,0,none⟩) (I+1) dR,.slice J G O] 114 (0,0)):=by rw[BL];exact (dw yH 2 _).trans (by rfl)
        have c93:Z8.cell? ⟨D,3,none⟩=some (.slice J G O):=ak F9 3;have f9:∀q,Z8.frozen? ⟨D,q,none⟩=false:=λq=>by simp[World.frozen?,F9]
        rw[<-BL];have Od:=ϵ BL;clear BL F9 yH Zy f8;refine bU (rs:=[14]) lG vI ?_;refine aM.last rfl lG (λK F=>?_) aM.nil;go_simp
        refine F.out _ _ ?_;clear F K;refine dA lG ?_ _;have jP:Hid (CY w (Z8.setCell ⟨D,3,none⟩ (.slice (some ⟨g8,0,none⟩) (G+1) uJ)) D f s rows (k+1) (.string nm) (.slice (some ⟨g7,0,none⟩) (I+1) dR) (.slice (some ⟨g8,0,none⟩) (G+1) uJ)):=by
         obtain⟨j1,j2,j3⟩:=Io.out;rw[Od.out];have Ň:full (rows.take (k+1))=full (rows.take k) ++ [rows[k]]:=by rw[qH.out,if_pos hz]
         have e1:(full (rows.take (k+1))).map Prod.fst=(full (rows.take k)).map Prod.fst ++ [nm.data.toList]:=by rw[Ň,map_append,wS.out.1];simp
         have e2:((full (rows.take (k+1))).map λr=>dU r.2)=CZ ++ [x.data.toList]:=by rw[Ň,map_append,HXC.out,Zd.out];simp
         have hw8:=j3.size;refine⟨fO,by rw[HAH.out],iD.out,?_,?_,?_,?_⟩
         ·rw[Below.heap_setCell _ _ _ _ (by show w.heap.size≠D;omega),Below.heap_setCell _ _ _ _ (by show w.heap.size≠D;omega),j3.block _ fO];exact sU.out
         ·rw[e1,e2];rw[HG.out.1,FY.out] at j1;exact j1
         ·exact ((lI.out.trans (j3.mono fO)).setCell (by show w.heap.size<=D;omega) _).setCell (by show w.heap.size<=D;omega) _
         ·simp
          omega
        clear Io Od EX vZ yG C8 IL F8 sJ Oc;go_wp2;go_roundw;case rel=>exact⟨k+1,_,_,by go_num,jP.out⟩
        case measure=>simp[intOf]<;>omega
      ·go_simp
       refine F.out _ _ (KT.out _ (by repeat (first|exact Below.refl _ _|with_reducible apply bQ|with_reducible apply dz))) ?_;clear F K;try simp only[Act.put]
       refine bU (rs:=[4]) lG vI ?_;refine aM.cons rfl (λK F=>?_) aM.nil;go_simp
       refine F.out _ _ (KT.out _ (by repeat (first|exact Below.refl _ _|with_reducible apply bQ|with_reducible apply dz))) ?_;clear F K;try simp only[Act.put]
       refine bU (rs:=[5]) lG vI ?_;refine aM.cons rfl (λK F=>?_) aM.nil;refine rE w2 (by rfl) _ _ 22 (by rfl) (D+1) 9 iS (.string ⟨#[]⟩) 16 Tryz.underlying22 y8.out ĝ œ Κ (by rfl) (.slice R I Q) I (((full (rows.take k)).map Prod.fst).map encStr) (by rfl) nC.out (by repeat (first|exact Below.refl _ _|with_reducible apply bQ|with_reducible apply dz)) _ _ _ _ (by rfl) (by first|exact heap_alloc_new _ _|exact K5 _ _ _|exact K6 _ _ _) (by rfl) fO nQ yQ ?_;intro g7 dR w7 bR eu rG;obtain⟨m1,m2,m3,m4,m5⟩:=H.out.mid yQ rG eu;have C8:Hid (w7.ownsRow (D+1) 9 1 (.slice J G O) G (CZ.map encStr)):=by rw[FY.out] at m2;exact m2
       have F8:=ϵ m5;have IL:=ϵ m3;have EX:=ϵ bR;have vZ:=ϵ eu;have yG:=ϵ rG;have sJ:Hid (∀z,Below w7.heap.size w7 z->(z.cell? ⟨D,2,none⟩=some (.slice R I Q)/\z.cell? ⟨D,3,none⟩=some (.slice J G O)/\z.cell? ⟨wr.heap.size,0,none⟩=some (.string nm))):=λz hz=>by
        have Y:=(hz.block _ (aC m1)).trans m1;have q2:=(hz.block _ (aC (H.out.other rG eu BK.out nQ))).trans (H.out.other rG eu BK.out nQ);exact⟨ak Y 2,ak Y 3,ak q2 0⟩
       clear bR eu rG m1 m2 m3 m5;refine F.out _ _ (sJ.out _ (Below.refl _ _)) ?_;clear F K;try simp only[Act.put]
       refine jY (i:=11) (v:=.pointer (some ⟨D,2,none⟩)) rfl lG lG lG lG (λ_ _ _ h=>h) (Or.inl ⟨by rfl,?_⟩) (λ_=>sJ.out _ (Below.refl _ _)) ?_
       ·intro w _;go_simp
       try simp only[Act.put]
       refine bU (rs:=[10]) lG vI ?_;refine aM.cons rfl (λK F=>?_) aM.nil;refine rE w7 (by rfl) _ _ 22 (by rfl) (D+1) 9 iS (.string ⟨#[]⟩) 16 Tryz.underlying22 y8.out ĝ œ Κ (by rfl) (.slice J G O) G (CZ.map encStr) (by rfl) C8.out (by repeat (first|exact Below.refl _ _|with_reducible apply bQ|with_reducible apply dz)) _ _ _ _ (by rfl) (by first|exact F8.out _ _ vI (heap_alloc_new _ _)|exact F8.out _ _ vI (K5 _ _ _)|exact F8.out _ _ vI (K6 _ _ _)) (by rfl) fO nQ IL.out ?_;intro g8 uJ V xZ wh rH;have yH:=H.out.last yQ yG.out vZ.out rH wh;have Ob:=H.out.more (x:=nm.data.toList) (y:=x.data.toList) yQ yG.out (by rw[HG.out.1,zI nm];exact EX.out) vZ.out rH (by rw[FY.out,zI x];exact xZ) wh;have Io:=ϵ Ob;have Zy:V.cell? ⟨D,2,none⟩=some (.slice R I Q):=ak yH 2;have f8:∀q,V.frozen? ⟨D,q,none⟩=false:=λq=>by simp[World.frozen?,yH]
       have Oc:Hid ((V.cell? ⟨D,2,none⟩=some (.slice R I Q)/\V.cell? ⟨D,3,none⟩=some (.slice J G O)/\V.cell? ⟨wr.heap.size,0,none⟩=some (.string nm))):=by
        have Y:=yH;have q2:=(show Ay _ V _ _ from wh).other (aX C8.out rH) ((rH.block _ (aC (H.out.other yG.out vZ.out BK.out nQ))).trans (H.out.other yG.out vZ.out BK.out nQ)) nQ;exact⟨ak Y 2,ak Y 3,ak q2 0⟩
       clear xZ wh rH Ob;refine F.out _ _ Oc.out ?_;clear F K;try simp only[Act.put]
       refine bU (rs:=[12]) lG vI ?_;refine aM.last rfl lG (λK F=>?_) aM.nil;go_simp
       refine F.out _ _ ?_;clear F K;try simp only[Act.put]
       refine jY (i:=13) (v:=.pointer (some ⟨D,3,none⟩)) rfl lG lG lG lG (λ_ _ _ h=>h) (Or.inl ⟨by rfl,?_⟩) (λ_=>absurd ‹_› nQ) ?_
       ·intro w _;go_simp
       try simp only[Act.put]
       obtain⟨Z8,BL⟩:=bE (V.setCell ⟨D,2,none⟩ (.slice (some ⟨g7,0,none⟩) (I+1) dR));have F9:Z8.heap[D]? = some (.cells #[.int .i64 f,.int .i64 s,.slice (some ⟨g7,0,none⟩) (I+1) dR,.slice J G O] 114 (0,0)):=by rw[BL];exact (dw yH 2 _).trans (by rfl)
       have c93:Z8.cell? ⟨D,3,none⟩=some (.slice J G O):=ak F9 3;have f9:∀q,Z8.frozen? ⟨D,q,none⟩=false:=λq=>by simp[World.frozen?,F9]
       rw[<-BL];have Od:=ϵ BL;clear BL F9 yH Zy f8;refine bU (rs:=[14]) lG vI ?_;refine aM.last rfl lG (λK F=>?_) aM.nil;go_simp
       refine F.out _ _ ?_;clear F K;refine dA lG ?_ _;have jP:Hid (CY w (Z8.setCell ⟨D,3,none⟩ (.slice (some ⟨g8,0,none⟩) (G+1) uJ)) D f s rows (k+1) (.string nm) (.slice (some ⟨g7,0,none⟩) (I+1) dR) (.slice (some ⟨g8,0,none⟩) (G+1) uJ)):=by
        obtain⟨j1,j2,j3⟩:=Io.out;rw[Od.out];have Ň:full (rows.take (k+1))=full (rows.take k) ++ [rows[k]]:=by rw[qH.out,if_pos hz]
        have e1:(full (rows.take (k+1))).map Prod.fst=(full (rows.take k)).map Prod.fst ++ [nm.data.toList]:=by rw[Ň,map_append,wS.out.1];simp
        have e2:((full (rows.take (k+1))).map λr=>dU r.2)=CZ ++ [x.data.toList]:=by rw[Ň,map_append,HXC.out,Zd.out];simp
        have hw8:=j3.size;refine⟨fO,by rw[HAH.out],iD.out,?_,?_,?_,?_⟩
        ·rw[Below.heap_setCell _ _ _ _ (by show w.heap.size≠D;omega),Below.heap_setCell _ _ _ _ (by show w.heap.size≠D;omega),j3.block _ fO];exact sU.out
        ·rw[e1,e2];rw[HG.out.1,FY.out] at j1;exact j1
        ·exact ((lI.out.trans (j3.mono fO)).setCell (by show w.heap.size<=D;omega) _).setCell (by show w.heap.size<=D;omega) _
        ·simp
         omega
       clear Io Od EX vZ yG C8 IL F8 sJ Oc;go_wp2;go_roundw;case rel=>exact⟨k+1,_,_,by go_num,jP.out⟩
       case measure=>simp[intOf]<;>omega
     ·have hd:decide ((0:Int)<nk)=false:=rD;have Ň:full (rows.take (k+1))=full (rows.take k):=by rw[qH.out,if_neg hz]
      have jP:Hid (CY w w2 D f s rows (k+1) (.string nm) (.slice R I Q) (.slice J G O)):=by
       refine⟨fO,by rw[HAH.out],iD.out,sU.out,?_,lI.out,fO⟩;rw[Ň];exact Oa.out
      clear Ň;go_wp2;go_roundw;case rel=>exact⟨k+1,_,_,by go_num,jP.out⟩
      case measure=>simp[intOf]<;>omega
    ·obtain⟨t,p,hv⟩:=uV.out.pos þ;have Ě:0<rowAt f s rows k:=by
      have:0<=rowAt f s rows k:=TG ..;omega
     have ES:=ϵ (ad4 w2 (HE.out.below lI.out hB).types (le_trans hB lI.out.size) (k:Int) v _ _ uV.out Ě);obtain⟨hC,hA⟩:=aki (f:=f) (s:=s) (rows:=rows) (by rw[HN.out];exact BI.out) İ U.out.ok þ;have HC:=ϵ (And.intro hC hA);have KR:=ϵ þ;have ē:w2.heap[w.heap.size]? = some (.cells #[.int .i64 0,.int .i64 0,.slice none 0 0,.slice none 0 0] 114 (0,0)):=(HB2.out.block _ (lt_of_lt_of_le (aC U.out.res) nR.out.size)).trans ((nR.out.block _ (aC U.out.res)).trans U.out.res);have sU:=ϵ ē;subst hv;clear hC hA þ ē uU;go_wp2_with fail;refine Calls.mono ES.out ?_;rintro e w3 ⟨pb,mm,rfl,Ϛ,hmm,zz0,zz1,Ľ⟩;have BM:=(Ϛ.block _ (aC sU.out)).trans sU.out;have HB3:=ϵ (lI.out.trans (Ϛ.mono lI.out.size));have ı:pb≠w.heap.size:=λe=>by
      subst e;have:=(ak BM 1).symm.trans zz1;simp at this
     have p0:w3.cell? ⟨w.heap.size,0,none⟩=some (.int .i64 0):=ak BM 0;have p1:w3.cell? ⟨w.heap.size,1,none⟩=some (.int .i64 0):=ak BM 1;have p2:w3.cell? ⟨w.heap.size,2,none⟩=some (.slice none 0 0):=ak BM 2;have p3:w3.cell? ⟨w.heap.size,3,none⟩=some (.slice none 0 0):=ak BM 3;have pf:∀k,w3.frozen? ⟨w.heap.size,k,none⟩=false:=λk=>by simp[World.frozen?,BM]
     have qI:Hid (aL ea w3 (.iface 72 (.pointer (some ⟨pb,0,none⟩))) (kG f s rows) (EP f s rows)/\w3.heap[w.heap.size]? = some (.cells #[.int .i64 0,.int .i64 0,.slice none 0 0,.slice none 0 0] 114 (0,0))/\pb≠w.heap.size):=by
      refine⟨?_,BM,ı⟩;rw[HC.out.1,HC.out.2];exact .inr (.inr ⟨pb,mm,hmm,rfl,zz0,zz1,Ľ⟩)
     clear Ϛ zz0 zz1 Ľ ES BM ı;go_wp2;obtain⟨Z,hZ⟩:=bE ((((w3.setCell ⟨w.heap.size,0,none⟩ (.int .i64 0)).setCell ⟨w.heap.size,1,none⟩ (.int .i64 0)).setCell ⟨w.heap.size,2,none⟩ (.slice none 0 0)).setCell ⟨w.heap.size,3,none⟩ (.slice none 0 0));rw[<-hZ];have nG:Z.heap[w.heap.size]? = some (.cells #[.int .i64 0,.int .i64 0,.slice none 0 0,.slice none 0 0] 114 (0,0)):=by rw[hZ];exact uK qI.out.2.1 _ _ _ _
     have hzb:Below w.heap.size w Z:=by rw[hZ];exact pY HB3.out (le_refl _) _ _ _ _
     have hfz:aL ea Z (.iface 72 (.pointer (some ⟨pb,0,none⟩))) (kG f s rows) (EP f s rows):=by
      have hcl:∀o,Z.cell? ⟨pb,o,none⟩=w3.cell? ⟨pb,o,none⟩:=λo=>by
       have:Z.heap[pb]? = w3.heap[pb]?:=by
        rw[hZ,Below.heap_setCell _ _ _ _ qI.out.2.2,Below.heap_setCell _ _ _ _ qI.out.2.2,Below.heap_setCell _ _ _ _ qI.out.2.2,Below.heap_setCell _ _ _ _ qI.out.2.2]
       simp[World.cell?,this]
      rcases qI.out.1 with⟨h,_⟩|⟨m,_,h,_⟩|⟨pb',m,hm,h,c0,Q,hc⟩
      ·cases h
      ·simp at h
      ·obtain rfl:pb=pb':=by simpa using h
       exact .inr (.inr ⟨pb,m,hm,rfl,(hcl 0).trans c0,(hcl 1).trans Q,hc⟩)
     have z0:Z.cell? ⟨w.heap.size,0,none⟩=some (.int .i64 0):=ak nG 0;have z1:Z.cell? ⟨w.heap.size,1,none⟩=some (.int .i64 0):=ak nG 1;have z2:Z.cell? ⟨w.heap.size,2,none⟩=some (.slice none 0 0):=ak nG 2;have z3:Z.cell? ⟨w.heap.size,3,none⟩=some (.slice none 0 0):=ak nG 3;clear hZ nG;refine bodyPost_ret (v:=.tuple #[.agg #[.int .i64 0,.int .i64 0,.slice none 0 0,.slice none 0 0],.iface 72 (.pointer (some ⟨pb,0,none⟩))]) (by simp[results,Tryz.results99,go_sem,z0,z1,z2,z3]) rfl ?_;exact⟨_,hzb,hfz,.inr ⟨λh=>KR.out (HC.out.1.symm.trans h),rfl⟩⟩
   ·obtain rfl:k=n:=by have:=U.out.le;have:=HN.out;omega
    obtain⟨hC,hA⟩:=Mw (f:=f) (s:=s) (rows:=rows) (by rw[HN.out];exact BI.out) (by rw[HN.out];exact U.out.ok);have HC:=ϵ (And.intro hC hA);have acA:=U.out.two;have jr:rows.take k=rows:=take_of_length_le (by rw[HN.out];omega);have NT:=ϵ jr;have ϋ:=acA.blk;generalize Ò:((full (rows.take k)).map Prod.fst).length=I at *;generalize ϫ:((full (rows.take k)).map λr=>dU r.2).length=G at *;have HG:=ϵ (And.intro Ò ϫ);have t0:wr.cell? ⟨D,0,none⟩=some (.int .i64 f):=ak ϋ 0;have t1:wr.cell? ⟨D,1,none⟩=some (.int .i64 s):=ak ϋ 1;have t2:wr.cell? ⟨D,2,none⟩=some (.slice R I Q):=ak ϋ 2;have t3:wr.cell? ⟨D,3,none⟩=some (.slice J G O):=ak ϋ 3;have p0:wr.cell? ⟨w.heap.size,0,none⟩=some (.int .i64 0):=ak U.out.res 0;have p1:wr.cell? ⟨w.heap.size,1,none⟩=some (.int .i64 0):=ak U.out.res 1;have p2:wr.cell? ⟨w.heap.size,2,none⟩=some (.slice none 0 0):=ak U.out.res 2;have p3:wr.cell? ⟨w.heap.size,3,none⟩=some (.slice none 0 0):=ak U.out.res 3;have pf:∀k,wr.frozen? ⟨w.heap.size,k,none⟩=false:=λk=>by simp[World.frozen?,U.out.res]
    have HTW:=ϵ acA;clear hC hA jr Ò ϫ ϋ acA;go_wp2;obtain⟨Z,hZ⟩:=bE ((((wr.setCell ⟨w.heap.size,0,none⟩ (.int .i64 f)).setCell ⟨w.heap.size,1,none⟩ (.int .i64 s)).setCell ⟨w.heap.size,2,none⟩ (.slice R I Q)).setCell ⟨w.heap.size,3,none⟩ (.slice J G O));rw[<-hZ];have nG:Z.heap[w.heap.size]? = some (.cells #[.int .i64 f,.int .i64 s,.slice R I Q,.slice J G O] 114 (0,0)):=by rw[hZ];exact uK U.out.res _ _ _ _
    have hzb:Below w.heap.size w Z:=by rw[hZ];exact pY U.out.aI (le_refl _) _ _ _ _
    have z0:Z.cell? ⟨w.heap.size,0,none⟩=some (.int .i64 f):=ak nG 0;have z1:Z.cell? ⟨w.heap.size,1,none⟩=some (.int .i64 s):=ak nG 1;have z2:Z.cell? ⟨w.heap.size,2,none⟩=some (.slice R I Q):=ak nG 2;have z3:Z.cell? ⟨w.heap.size,3,none⟩=some (.slice J G O):=ak nG 3;have o1:Z.ownsRow w.heap.size 9 1 (.slice R I Q) (full rows).length (((full rows).map Prod.fst).map encStr):=by
     have h:=gD (b:=w.heap.size) HTW.out.Cj fO;rw[hZ];rw[NT.out] at h;rw[length_map] at h;exact rF h U.out.res nQ _ _ _ _
    have o2:Z.ownsRow w.heap.size 9 1 (.slice J G O) (full rows).length (((full rows).map λr=>dU r.2).map encStr):=by
     have h:=gD (b:=w.heap.size) HTW.out.Eh fO;rw[hZ];rw[NT.out] at h;rw[length_map] at h;exact rF h U.out.res nQ _ _ _ _
    clear hZ nG;refine bodyPost_ret (v:=.tuple #[.agg #[.int .i64 f,.int .i64 s,.slice R I Q,.slice J G O],.nilIface]) (by simp[results,Tryz.results99,go_sem,z0,z1,z2,z3]) rfl ?_;exact⟨_,hzb,.inl ⟨rfl,HC.out.1⟩,.inl ⟨HC.out.1,_,_,rfl,o1,o2⟩⟩
def uX:List (List UInt8×List (Int×Nat))->List UInt8->List (Int×Nat)
 | [],_=>[]
 | r::l,k=>if r.1=k then r.2 else uX l k
theorem QY:∀ {l:List (List UInt8×List (Int×Nat))} {k:List UInt8},(∀j (o:j<l.length),l[j].1≠k)->uX l k = []
 | [],_,_=>rfl
 | r::l,k,h=>by
  have q:r.1≠k:=h 0 vI;rw[uX,if_neg q];exact QY λj o=>by have:=h (j+1) rD;simpa using this
theorem Zz:∀ {l:List (List UInt8×List (Int×Nat))} {k:List UInt8} {i:Nat} (o:i<l.length),(∀j (q:j<l.length),j<i->l[j].1≠k)->l[i].1=k->uX l k=l[i].2
 | [],_,_,o,_,_=>by simp at o
 | r::l,k,0,_,_,h=>by
  have:r.1=k:=h;rw[uX,if_pos this];rfl
 | r::l,k,i+1,o,h1,h=>by
  have A:r.1≠k:=h1 0 vI fO;rw[uX,if_neg A];exact Zz (i:=i) (by simpa using o) (λj q z=>by have:=h1 (j+1) rD fO;simpa using this) (by simpa using h)
open aD bK
structure uL(wE wr:World)(mb pb nb:Nat)(S:List Rw)(sv:List UInt8->Value):Prop where
 pm:uH wr mb nb wE.heap.size S sv
 var:wr.heap[pb]? = some (.cells #[.map (some mb)] 256 (0,0))
 aI:Below wE.heap.size wE wr
 len:∀r,r∈S->r.2.length<=120*nb/\r.1.length<=1000
theorem uL.below{F wr z:World}{q D A:Nat}{S:List Rw}{G:List UInt8->Value}(h:uL F wr q D A S G)(o:Below wr.heap.size wr z):uL F z q D A S G:=
 ⟨h.pm.below o,(o.block _ (aC h.var)).trans h.var,h.aI.trans (o.mono h.aI.size),h.len⟩
theorem Oe(Q w:World)(la:Option Addr)(c:Nat)(F:List Rw)(hP:rW Q la F)(hF:∀r,r∈F->r.2 ≠ []/\r.2.length<=120/\r.1.length<=1000)(hn:F.length<=60)(G J nb:Nat)(S:List Rw)(sv:List UInt8->Value)(h:uL Q w G J nb S sv)(Ŋ:Q.heap.size<=G)(_:Q.heap.size<=J)(Ξ:nb<=100):
  Calls Tryz.prog 154 #[.slice la F.length c,.pointer (some ⟨J,0,none⟩)] w λe w'=>e = .returned (.tuple #[])/\∃nY,uL Q w' G J (nb+F.length) (jc S F) nY:=by
 have HP:Hid (rW Q la F):=hP;have HF:=ϵ hF;have HMB:=ϵ Ŋ;have H0:=ϵ h;obtain⟨n,ϛ⟩:=eD F.length;rw[ϛ] at hn ⊢;have HN:=ϵ ϛ;go_enter Tryz.func154,Tryz.ntmps154;go_wp2_with fail;go_loopw [4,7] (λ_ i wr=>∃(k:Nat) (sw:List UInt8->Value),k<=n/\i = .int .i64 k/\uL Q wr G J (nb+k) (jc S (F.take k)) sw) (λ_ i _=>n-(intOf i).toNat);case atStart=>exact⟨0,_,zero_le _,rfl,H0.out⟩
 case round=>
  obtain⟨k,sw,hk,rfl,ht⟩:=hrel;by_cases ϗ:k<n
  ·have õ:k<F.length:=by have:=HN.out;omega
   have ϖ:=take_succ_eq_append_getElem õ;obtain⟨ã,ú,hf3⟩:=HF.out F[k] (getElem_mem õ);have hPw:=HP.out.below ht.aI;rcases hPw with hx|⟨b,o,rfl,O⟩
   ·rw[hx] at õ;simp at õ
   ·obtain⟨c0,A,C,c1,hPk⟩:=O k õ;rcases hPk with hx|⟨V,W,rfl,hcp⟩
    ·exact absurd hx ã
    obtain⟨nm,é⟩:=bE (⟨F[k].1.toArray⟩:ByteArray);have c0':wr.cell? ⟨b,o+k*2,none⟩=some (.string nm):=by rw[é];exact c0
    have ŉ:nm.data.toList=F[k].1:=by rw[é]
    obtain⟨m,hm⟩:=eD (F[k].2.length);rw[hm] at c1 ú;have Š:0<m:=by
     rw[<-hm];cases he:F[k].2 with
     | nil=>exact absurd he ã
     | cons=>simp
    obtain⟨U,ù⟩:=bE (wr.alloc (.cells #[.string nm,.slice (some ⟨V,W,none⟩) m C] 104));have Ϗ:Below wr.heap.size wr U:=by rw[ù];exact (Below.refl _ _).alloc (le_refl _) _
    have Zh:U.heap.size=wr.heap.size+1:=by rw[ù];simp
    have hkW:U.heap[wr.heap.size]? = some (.cells #[.string nm,.slice (some ⟨V,W,none⟩) m C] 104 (0,0)):=by rw[ù];exact heap_alloc_new _ _
    have htW:=ht.below Ϗ;have I:=htW.below ((Below.refl _ _).drew);have á:nm.size<=1000:=by
     have e:nm.size=F[k].1.length:=by rw[é];simp[ByteArray.size]
     omega
    obtain⟨v0,H,Og,pV⟩:=I.pm.look nm á;have Ì:=Og.own I.pm;have hol:H.length<=20000:=by
     rcases Og with⟨_,_,rfl⟩|⟨r,hr,_,_,rfl⟩
     ·exact zero_le _
     ·have:=(I.len r hr).1;omega
    have Z:∀q cs t f,U.drew.heap[q]? = some (.cells cs t f)->t≠93->some q≠v0.ownBlock:=λq cs t f hq ht' e=>by
     obtain⟨_,_,cur,O⟩:=aH Ì e.symm;rw[hq] at O;injection O with O;injection O with _ O;exact ht' O
    have Oh:=I.var;have Qp:=hkW;have œ:∀z:World,U.drew.grownBy z v0.ownBlock->z.cell? ⟨J,0,none⟩=some (.map (some G))/\z.cell? ⟨wr.heap.size,0,none⟩=some (.string nm)/\z.cell? ⟨wr.heap.size,1,none⟩=some (.slice (some ⟨V,W,none⟩) m C)/\(Instr.lookup 256 (.map (some G)) (.string nm) false).run Tryz.prog z = .ok v0 z:=λz hz=>by
     have e1:=(hz.block J (aC Oh) (Z J _ _ _ Oh nQ)).trans Oh;have e2:=(hz.block wr.heap.size (aC Qp) (Z wr.heap.size _ _ _ Qp nQ)).trans Qp;obtain⟨D,hD,_⟩:=I.pm.map;refine⟨ak e1 0,ak e2 0,ak e2 1,pV z (hz.block G hD.lt λe=>?_)⟩;obtain⟨_,_,cur,O⟩:=aH Ì e.symm;exact I.pm.kR O rfl
    have HSD:=ϵ (œ U.drew ⟨rfl,rfl,rfl,le_refl _,λ_ _ _=>rfl⟩);have anN:=ϵ œ;have hbE:=I.aI;have CF:=ϵ hbE.size;have jP:Hid (∀(w2:World) (sx:List UInt8->Value),uH w2 G (nb+k+1) Q.heap.size (kI (jc S (F.take k)) (nm.data.toList,F[k].2)) sx->Below Q.heap.size U.drew w2->(∀q,q<U.drew.heap.size->some q≠v0.ownBlock->q≠G->w2.heap[q]? = U.drew.heap[q]?)->uL Q w2 G J (nb+(k+1)) (jc S (F.take (k+1))) sx):=λw2 sx g1 g2 g3=>by
     have e:kI (jc S (F.take k)) (nm.data.toList,F[k].2)=jc S (F.take (k+1)):=by rw[ϖ,VL,ŉ]
     refine⟨by rw[<-e];exact g1,(g3 J (aC Oh) (Z J _ _ _ Oh nQ) (I.pm.kR Oh)).trans Oh,hbE.trans g2,λr hr=>?_⟩;rw[<-e] at hr;rcases (kS I.pm.up).1 hr with⟨hr',_⟩|⟨q,hq,Ų,rfl⟩|⟨_,rfl⟩
     ·have:=I.len r hr';omega
     ·have:=I.len q hq;refine⟨?_,this.2⟩;show (q.2++F[k].2).length<=_;rw[length_append,hm];omega
     ·refine⟨?_,?_⟩
      ·show F[k].2.length<=_;rw[hm];omega
      ·show nm.data.toList.length<=_;rw[ŉ];exact hf3
    have HPM:=ϵ I.pm;have HFD:=ϵ Og;have HOW:=ϵ Ì;have qo:Hid ((aF F[k].2).length=m*2):=by rw[mO,hm];exact rfl
    have iV:Hid (∀(j:Nat) u,(aF F[k].2)[j]? = some u->U.drew.cell? ((⟨V,W,none⟩:Addr).add j)=some u):=DV λj hj=>by
     obtain⟨e1,e2⟩:=hcp j hj;have hl:=World.block_lt_of_cell? wr ⟨V,_,none⟩ e1;exact⟨(Ϗ.cell (p:=⟨V,W+j*2,none⟩) hl).trans e1,(Ϗ.cell (p:=⟨V,W+j*2+1,none⟩) hl).trans e2⟩
    have HM:=ϵ hm;have wS:=ϵ á;have KM:Hid (nb+k<1000):=by show _<_;omega
    have IK:=ϵ Š;have ZA:Hid (H.length+m<=maxLen):=by show _<=_;unfold maxLen;omega
    have CW:Hid ((H.length+m)*16<=140737488355328):=by show _<=_;omega
    have Ni:(k:Int)<n:=fO;have ä:(0:Int)<=k:=fO;obtain⟨i0,hi,î,ç,ï⟩:=info_parts Tryz.infoPt;clear O ϖ ã hf3 c0 hcp é ŉ Ϗ Zh hkW htW I Og pV Ì Z Oh Qp œ hbE á hm ht Š ú hol;go_wp2_with fail;rw[<-ù];refine eU (S:=λz=>z.cell? ⟨J,0,none⟩=some (.map (some G))/\z.cell? ⟨wr.heap.size,0,none⟩=some (.string nm)/\z.cell? ⟨wr.heap.size,1,none⟩=some (.slice (some ⟨V,W,none⟩) m C)/\(Instr.lookup 256 (.map (some G)) (.string nm) false).run Tryz.prog z = .ok v0 z) lG 10 HSD.out (λY=>?_);refine iF 0 11 (.map (some G)) Y rfl rfl ?_ ?_
    ·intro w R;obtain⟨iY,iZ,kg,lg⟩:=R;go_simp
    refine bJ 1 12 (.pointer (some ⟨wr.heap.size,0,none⟩)) Y rfl rfl ?_ ?_
    ·intro w _;go_simp
    refine iF 2 13 (.string nm) Y rfl rfl ?_ ?_
    ·intro w R;obtain⟨iY,iZ,kg,lg⟩:=R;go_simp
    refine iF 3 14 (.map (some G)) Y rfl rfl ?_ ?_
    ·intro w R;obtain⟨iY,iZ,kg,lg⟩:=R;go_simp
    refine bJ 4 15 (.pointer (some ⟨wr.heap.size,0,none⟩)) Y rfl rfl ?_ ?_
    ·intro w _;go_simp
    refine iF 5 16 (.string nm) Y rfl rfl ?_ ?_
    ·intro w R;obtain⟨iY,iZ,kg,lg⟩:=R;go_simp
    refine iF 6 17 v0 Y rfl rfl ?_ ?_
    ·intro w R;obtain⟨iY,iZ,kg,lg⟩:=R;go_simp
    refine bJ 7 18 (.pointer (some ⟨wr.heap.size,1,none⟩)) Y rfl rfl ?_ ?_
    ·intro w _;go_simp
    refine iF 8 19 (.slice (some ⟨V,W,none⟩) m C) Y rfl rfl ?_ ?_
    ·intro w R;obtain⟨iY,iZ,kg,lg⟩:=R;go_simp
    simp only[Act.put,setIfInBounds_toArray,set_cons_succ,set_cons_zero];refine lV 9 rfl λK hK=>?_
    refine step_append_lies _ (by rfl) _ _ 102 (by rfl) Q.heap.size 93 i0 (.agg #[.int .i64 0,.int .u64 0]) 2 16 Tryz.underlying102 hi î ç ï rfl nQ v0 H.length (aF H) (by rfl) HOW.out ⟨V,W,none⟩ m C (aF F[k].2) (by rfl) qo.out iV.out (Bu _) IK.out ZA.out CW.out CF.out _ rfl ?_;intro g1 xu w1 Ã ahD anO hlt1;obtain⟨w2,ϩ,hpm,Á,hsz2,hold⟩:=HPM.out.put HMB.out CF.out nm wS.out KM.out F[k].2 (v':=.slice (some ⟨g1,0,none⟩) (H.length+m) xu) (g:=g1) HFD.out rfl (by rw[length_append,HM.out,pQ];exact Ã) ahD anO;have QZ:=ϵ (anN.out w1 ahD);have anP:=ϵ hpm;have anQ:=ϵ Á;have KJ:=ϵ hold;refine hK.out _ _ QZ.out ?_;refine nX 10 rfl λK hK=>?_
    go_simp
    refine hK.out _ _ ?_;refine dA lG ?_ _;go_wp2;go_roundw;case rel=>exact⟨k+1,_,fO,by go_num,jP.out w2 _ anP.out anQ.out KJ.out⟩
    case measure=>simp[intOf]<;>omega
  ·obtain rfl:k=n:=fO;have jr:F.take k=F:=by rw[<-HN.out];exact take_length
   rw[jr] at ht;have HT:=ϵ ht;go_wp2;exact bodyPost_end (v:=.tuple #[]) (by simp[results,Tryz.results154,go_sem]) rfl ⟨rfl,_,HT.out⟩
end Go.Proofs.YtnjmhjdhfaboaaaGreatDoor
