import Derived.Test.YtnjmhjdhfaboaaaGreatDoorWA
import Derived.Test.YtnjmhjdhfaboaaaGreatDoorX
import Derived.Deep.RegionLaw
set_option maxRecDepth 1000000
set_option maxHeartbeats 8000000
open Nat (le_refl le_trans lt_of_lt_of_le lt_or_ge not_lt_zero zero_add zero_le)
open List
namespace Go.Proofs.YtnjmhjdhfaboaaaGreatDoor
open Go.RowKit Go.Maps aU
theorem ϸ{p:Prop}(h:p):Go.RowKit.Hid p:=h
structure Az(Y z:World)(v:Value)(g:Nat):Prop where
 os:z.os=Y.os
 tape:z.tape=Y.tape
 output:z.output=Y.output
 size:Y.heap.size<=z.heap.size
 blk:∀q,q<Y.heap.size->v.ownBlock≠some q->z.heap[q]? = Y.heap[q]?
 at':v.ownBlock=some g\/g=Y.heap.size
theorem Az.below{Y z:World}{v:Value}{g b:Nat}(h:Az Y z v g)(o:b<=Y.heap.size)(j:∀q,v.ownBlock=some q->b<=q):Below b Y z:=
 ⟨h.os,h.tape,h.output,h.size,λq A=>h.blk q fM (λe=>by have:=j q e;omega)⟩
theorem ac1{w:World}{b:Nat}{v:Value}{t:TypeId}{o:Nat×Nat}(h:w.heap[b]? = some (.cells #[v] t o)):∀j u,[v][j]? = some u->w.cell? ((⟨b,0,none⟩:Addr).add j)=some u:=World.news_of_block h
theorem Lb(w:World)(o p:Obj):((w.alloc o).alloc p).heap[w.heap.size]? = some o:=by rw[Below.heap_alloc _ _ _ rQ];exact heap_alloc_new _ _
theorem Lc(w:World)(o p:Obj):((w.alloc o).alloc p).heap[w.heap.size+1]? = some p:=by have:=heap_alloc_new (w.alloc o) p;simpa using this
theorem aac{P:Program}{Y:World}{J:Array Oper}{o:Oper}{a:Act}{K:Act->World->Prop}{Q:Exit->Act->World->Prop}{E:Prop}(Ō:o.guard=none)(s x:Operand)(t:TypeId)
  (Z:o.op = .call { callee:=.builtin .append,args:=#[s,x],argTypes:=#[t,t] }) (A:Nat) (e:TypeId) (i:TypeInfo) (z:Value) (j:Nat) (ht:P.underlying t=some (.slice e)) (W:P.info? e=some i) (hz:i.zero=some z) (Ű:i.size=1) (G:i.bytes=j) (I:z.cells.size=1)
  (v:Value) (n:Nat) (xs:List Value) (hs:a.eval s=v) (ό:Y.ownsRow A e 1 v n xs) (b:Nat) (u:Value) (t':TypeId) (R:Nat×Nat) (hx:a.eval x = .slice (some ⟨b,0,none⟩) 1 1) (Á:Y.heap[b]? = some (.cells #[u] t' R)) (U:u.oneCell'=true) (hn:n<=1000000) (V:j<=100) (Ô:A<=Y.heap.size)
  (h:∀g D w',w'.ownsRow A e 1 (.slice (some ⟨g,0,none⟩) (n+1) D) (n+1) (xs ++ [u])->Az Y w' v g->K (a.put o.dst (.slice (some ⟨g,0,none⟩) (n+1) D)) w') :
  if Region.wanted o (yielded J a.tmps)=true then Oper.wp P o a Y K Q else E:=by
 refine step_append_lies _ Ō s x t Z A e i z 1 j ht W hz Ű G I lJ v n xs hs ό ⟨b,0,none⟩ 1 1 [u] hx rfl (ac1 Á) (λc O=>by simp at O;subst O;exact U) fM (by unfold maxLen;omega) ?_ Ô _ rfl ?_
 ·have:(n+1)*j<=1000001*100:=Nat.mul_le_mul fM V;omega
 ·intro g D w' H F Ê _;exact h g D w' H ⟨F.os,F.tape,F.output,F.size,λq hq Ϙ=>F.block q hq (λe=>Ϙ e.symm),Ê⟩
theorem bP{w z:World}(h:Below w.heap.size w z)(o:Obj):Below w.heap.size w (z.alloc o):=h.alloc h.size o
theorem dA{w z:World}(h:Below w.heap.size w z):Below w.heap.size w z.drew:=h.trans ⟨rfl,rfl,rfl,le_refl _,λ_ _=>rfl⟩
theorem aX{w z:World}{j:Nat}{e:TypeId}{o:Nat}{v:Value}{n:Nat}{xs:List Value}(h:w.ownsRow j e o v n xs)(q:Below w.heap.size w z):z.ownsRow j e o v n xs:=bC h λg A=>q.block g (aH h A).2.1
theorem rF{P:Program}{Y:World}{J:Array Oper}{o:Oper}{a:Act}{K:Act->World->Prop}{Q:Exit->Act->World->Prop}{E:Prop}(D:World)(Ō:o.guard=none)(s x:Operand)(t:TypeId)
  (ho:o.op = .call { callee:=.builtin .append,args:=#[s,x],argTypes:=#[t,t] }) (q:Nat) (e:TypeId) (i:TypeInfo) (z:Value) (j:Nat) (ht:P.underlying t=some (.slice e)) (W:P.info? e=some i) (hz:i.zero=some z) (Ű:i.size=1) (H:i.bytes=j) (I:z.cells.size=1)
  (v:Value) (n:Nat) (xs:List Value) (hs:a.eval s=v) (ό:D.ownsRow q e 1 v n xs) (G:Below D.heap.size D Y) (b:Nat) (u:Value) (R:TypeId) (O:Nat×Nat) (hx:a.eval x = .slice (some ⟨b,0,none⟩) 1 1) (Á:Y.heap[b]? = some (.cells #[u] R O)) (F:u.oneCell'=true) (Z:n<=1000000) (V:j<=100) (Ô:q<=D.heap.size)
  (h:∀g A w',w'.ownsRow q e 1 (.slice (some ⟨g,0,none⟩) (n+1) A) (n+1) (xs ++ [u])->Az Y w' v g->Below D.heap.size D Y->K (a.put o.dst (.slice (some ⟨g,0,none⟩) (n+1) A)) w') :
  if Region.wanted o (yielded J a.tmps)=true then Oper.wp P o a Y K Q else E:=
 aac Ō s x t ho q e i z j ht W hz Ű H I v n xs hs (aX ό G) b u R O hx Á F Z V (le_trans Ô G.size) λg A w' F U=>h g A w' F U G
theorem Tryz.infoStr3:(Tryz.prog.info? 9).map (λi=>(i.zero,i.size,i.bytes))=some (some (.string ⟨#[]⟩),1,16):=iX
structure vX(wr:World)(base tb:Nat)(f s:Int)(u1 u2:Value)(ss cs:List (List UInt8)):Prop where
 blk:wr.heap[tb]? = some (.cells #[.int .i64 f,.int .i64 s,u1,u2] 114 (0,0))
 low:tb<base
 Cj:wr.ownsRow base 9 1 u1 ss.length (ss.map encStr)
 Ej:wr.ownsRow base 9 1 u2 cs.length (cs.map encStr)
 apart:∀g,u1.ownBlock=some g->u2.ownBlock≠some g
theorem vX.below{wr z:World}{j A:Nat}{f s:Int}{D F:Value}{ss cs:List (List UInt8)}(h:vX wr j A f s D F ss cs)(o:Below wr.heap.size wr z):vX z j A f s D F ss cs:=
 ⟨(o.block _ (aC h.blk)).trans h.blk,h.low,bC h.Cj λg q=>o.block g (aH h.Cj q).2.1,bC h.Ej λg q=>o.block g (aH h.Ej q).2.1,h.apart⟩
theorem vX.more{I Y1 w7 Y2 K:World}{j F:Nat}{f s:Int}{U Q:Value}{ss cs:List (List UInt8)}(h:vX I j F f s U Q ss cs){x y:List UInt8}{o G D J:Nat}(Ô:j<=I.heap.size)(h1:Below I.heap.size I Y1)(o7:w7.ownsRow j 9 1 (.slice (some ⟨o,0,none⟩) (ss.length+1) G) (ss.length+1) (ss.map encStr ++ [.string ⟨x.toArray⟩]))(W:Az Y1 w7 U o)(h2:Below w7.heap.size w7 Y2)
  (o8:K.ownsRow j 9 1 (.slice (some ⟨D,0,none⟩) (cs.length+1) J) (cs.length+1) (cs.map encStr ++ [.string ⟨y.toArray⟩])) (Y:Az Y2 K Q D) :
  vX ((K.setCell ⟨F,2,none⟩ (.slice (some ⟨o,0,none⟩) (ss.length+1) G)).setCell ⟨F,3,none⟩ (.slice (some ⟨D,0,none⟩) (cs.length+1) J)) j F f s (.slice (some ⟨o,0,none⟩) (ss.length+1) G) (.slice (some ⟨D,0,none⟩) (cs.length+1) J) (ss ++ [x]) (cs ++ [y])/\K.heap[F]? = some (.cells #[.int .i64 f,.int .i64 s,U,Q] 114 (0,0))/\Below j I K:=by
 have Ü:=h.low;have l1:∀q,U.ownBlock=some q->j<=q/\q<I.heap.size:=λq A=>⟨(aH h.Cj A).1,(aH h.Cj A).2.1⟩
 have l2:∀q,Q.ownBlock=some q->j<=q/\q<I.heap.size:=λq A=>⟨(aH h.Ej A).1,(aH h.Ej A).2.1⟩
 have s1:=h1.size;have s2:=h2.size;have s7:=W.size;have b1:=(h1.mono Ô).trans (W.below fM λq A=>(l1 q A).1);have b2:=(b1.trans (h2.mono fM)).trans (Y.below fM λq A=>(l2 q A).1);have ht:=(b2.block F Ü).trans h.blk;have hg7:=(aH (g:=o) o7 rfl).2.1;have O:Q.ownBlock≠some o:=by
  rcases W.at' with e|e
  ·exact h.apart o e
  ·intro H;have:=(l2 o H).2;omega
 have o7':K.ownsRow j 9 1 (.slice (some ⟨o,0,none⟩) (ss.length+1) G) (ss.length+1) (ss.map encStr ++ [.string ⟨x.toArray⟩]):=bC o7 λg R=>by
  simp[Value.ownBlock] at R;subst R;exact (Y.blk o fM O).trans (h2.block o hg7)
 have arZ:o≠D:=by
  rcases Y.at' with e|e
  ·intro H;subst H;exact O e
  ·omega
 have V:∀ {v:Value} {n:Nat} {xs:List Value} {z:World} (k:Nat) (u:Value),z.ownsRow j 9 1 v n xs->(z.setCell ⟨F,k,none⟩ u).ownsRow j 9 1 v n xs:=λk u ho=>bC ho λg R=>by
  have:=(aH ho R).1;exact Below.heap_setCell _ _ _ _ (by show g≠F;omega)
 refine⟨⟨?_,Ü,?_,?_,λg Z H=>?_⟩,ht,b2⟩
 ·have Z:=dw ht 2 (.slice (some ⟨o,0,none⟩) (ss.length+1) G);have H:=dw (Z.trans (by rfl)) 3 (.slice (some ⟨D,0,none⟩) (cs.length+1) J);exact H.trans (by rfl)
 ·have:=V 3 (.slice (some ⟨D,0,none⟩) (cs.length+1) J) (V 2 (.slice (some ⟨o,0,none⟩) (ss.length+1) G) o7');simpa [encStr] using this
 ·have:=V 3 (.slice (some ⟨D,0,none⟩) (cs.length+1) J) (V 2 (.slice (some ⟨o,0,none⟩) (ss.length+1) G) o8);simpa [encStr] using this
 ·simp[Value.ownBlock] at Z H;omega
theorem vX.mid{z F w7:World}{j D:Nat}{f s:Int}{H I:Value}{ss cs:List (List UInt8)}(h:vX z j D f s H I ss cs){O:Nat}(V:j<=z.heap.size)(G:Below z.heap.size z F)(A:Az F w7 H O):
  w7.heap[D]? = some (.cells #[.int .i64 f,.int .i64 s,H,I] 114 (0,0))/\w7.ownsRow j 9 1 I cs.length (cs.map encStr)/\j<=w7.heap.size/\z.heap.size<=w7.heap.size/\∀q o,z.heap.size<=q->F.heap[q]? = some o->w7.heap[q]? = some o:=by
 have W:=h.low;have R:=G.size;have U:=A.size;refine⟨?_,bC h.Ej λg J=>?_,fM,fM,λq o Q K=>?_⟩
 ·rw[A.blk D fM (λe=>by have:=(aH h.Cj e).1;omega),G.block D fM];exact h.blk
 ·have:=(aH h.Ej J).2.1;rw[A.blk g fM (λe=>h.apart g e J),G.block g this]
 ·rw[A.blk q (aC K) (λe=>by have:=(aH h.Cj e).2.1;omega)];exact K
theorem vX.last{q D w7 F H:World}{j o:Nat}{f s:Int}{z A:Value}{ss cs:List (List UInt8)}(h:vX q j o f s z A ss cs){K O:Nat}(U:j<=q.heap.size)(Q:Below q.heap.size q D)(I:Az D w7 z K)(G:Below w7.heap.size w7 F)(J:Az F H A O):
  H.heap[o]? = some (.cells #[.int .i64 f,.int .i64 s,z,A] 114 (0,0)):=by
 have R:=h.mid U Q I;have W:=h.low;have V:=G.size;rw[J.blk o fM (λe=>by have:=(aH h.Ej e).1;omega),G.block o fM];exact R.1
theorem Az.other{Y z:World}{v:Value}{g:Nat}(G:Az Y z v g){j n:Nat}{e:TypeId}{xs:List Value}(H:Y.ownsRow j e 1 v n xs){b:Nat}{cs:Array Value}{t:TypeId}{q:Nat×Nat}(o:Y.heap[b]? = some (.cells cs t q))(I:e≠t):z.heap[b]? = some (.cells cs t q):=by
 rw[G.blk b (aC o) (λD=>by obtain⟨_,_,A,F⟩:=aH H D;exact iV F o I rfl)];exact o
theorem vX.other{o q w7:World}{j I:Nat}{f s:Int}{F J:Value}{ss cs:List (List UInt8)}(h:vX o j I f s F J ss cs){H:Nat}(A:Below o.heap.size o q)(G:Az q w7 F H){b:Nat}{c:Array Value}{t:TypeId}{z:Nat×Nat}(D:o.heap[b]? = some (.cells c t z))(K:9≠t):w7.heap[b]? = some (.cells c t z):=
 G.other (aX h.Cj A) ((A.block b (aC D)).trans D) K
theorem xD{w:World}{q o:Nat}{v:Value}{xs:List Value}{rows:List (List UInt8×List (Int×Nat))}(h:w.ownsRow q 104 2 v rows.length xs)(J:eO w o xs rows):∃a c,v = .slice a rows.length c/\rX w a rows:=by
 obtain⟨_,z⟩:=h;rcases z with⟨hv,h0⟩|⟨g,cap,cur,hv,hg,hh,h1,z,h3,h4⟩
 ·exact⟨none,0,by rw[hv,h0],.inl (eq_nil_of_length_eq_zero h0)⟩
 ·refine⟨_,_,hv,.inr ⟨g,0,rfl,λk G=>?_⟩⟩;have A:∀j,j<rows.length*2->w.cell? ⟨g,j,none⟩=xs[j]?:=by
   intro j F;have D:w.cell? ⟨g,j,none⟩=cur[j]?:=by simp[World.cell?,hh]
   rw[D,<-Array.getElem?_toList,<-h4,List.getElem?_take_of_lt F]
  obtain⟨K,s,O,H⟩:=J.at k G;obtain⟨a,c,rfl,_,I,_⟩:=gT H;refine⟨?_,a,c,?_,I⟩
  ·rw[zero_add,A _ fM];exact K
  ·rw[zero_add,A _ fM];exact O
def af6(ea:Nat->Addr)(w w':World)(f s:Int)(rows:List (List UInt8×List (Int×Nat)))(e:Ending):Prop:=
 ∃v,Below w.heap.size w w'/\aM ea w' v (kJ f s rows) (ES f s rows) /\
  ((kJ f s rows=0/\∃u1 u2,e = .returned (.tuple #[.agg #[.int .i64 f,.int .i64 s,u1,u2],v])/\w'.ownsRow w.heap.size 9 1 u1 (full rows).length (((full rows).map Prod.fst).map encStr)/\w'.ownsRow w.heap.size 9 1 u2 (full rows).length (((full rows).map λr=>dZ r.2).map encStr)) \/
   (kJ f s rows≠0/\e = .returned (.tuple #[.agg #[.int .i64 0,.int .i64 0,.slice none 0 0,.slice none 0 0],v])))
structure CZ(w wr:World)(tb:Nat)(f s:Int)(rows:List (List UInt8×List (Int×Nat)))(k:Nat)(v10 u1 u2:Value):Prop where
 le:k<=rows.length
 ah:v10 = .string ⟨(prev (rows.map Prod.fst) k).toArray⟩
 ok:∀j,j<k->rowAt f s rows j=0
 res:wr.heap[w.heap.size]? = some (.cells #[.int .i64 0,.int .i64 0,.slice none 0 0,.slice none 0 0] 114 (0,0))
 two:vX wr (tb+1) tb f s u1 u2 ((full (rows.take k)).map Prod.fst) ((full (rows.take k)).map λr=>dZ r.2)
 aI:Below w.heap.size w wr
 siz:tb+1<=wr.heap.size
theorem uN{z:World}{b:Nat}{J F A o:Value}{t:TypeId}(h:z.heap[b]? = some (.cells #[J,F,A,o] t (0,0)))(j v1 q D:Value):((((z.setCell ⟨b,0,none⟩ j).setCell ⟨b,1,none⟩ v1).setCell ⟨b,2,none⟩ q).setCell ⟨b,3,none⟩ D).heap[b]? = some (.cells #[j,v1,q,D] t (0,0)):=by
 have G:=(dw h 0 j).trans (show _=some (Obj.cells #[j,F,A,o] t (0,0)) by rfl);have H:=(dw G 1 v1).trans (show _=some (Obj.cells #[j,v1,A,o] t (0,0)) by rfl);have I:=(dw H 2 q).trans (show _=some (Obj.cells #[j,v1,q,o] t (0,0)) by rfl);exact (dw I 3 D).trans (by rfl)
theorem qg{B:Nat}{w z:World}{b:Nat}(h:Below B w z)(j:B<=b)(o v1 q A:Value):Below B w ((((z.setCell ⟨b,0,none⟩ o).setCell ⟨b,1,none⟩ v1).setCell ⟨b,2,none⟩ q).setCell ⟨b,3,none⟩ A):=
 (((h.setCell j o).setCell j v1).setCell j q).setCell j A
theorem rG{z:World}{o:Nat}{e t:TypeId}{q:Nat}{v:Value}{n:Nat}{xs:List Value}{b:Nat}{cs:Array Value}{D:Nat×Nat}(h:z.ownsRow o e q v n xs)(F:z.heap[b]? = some (.cells cs t D))(O:e≠t)(I v1 J K:Value):((((z.setCell ⟨b,0,none⟩ I).setCell ⟨b,1,none⟩ v1).setCell ⟨b,2,none⟩ J).setCell ⟨b,3,none⟩ K).ownsRow o e q v n xs:=
 bC h λg H=>by
  obtain⟨_,_,A,G⟩:=aH h H;have j:g≠b:=iV G F O;rw[Below.heap_setCell _ _ _ _ j,Below.heap_setCell _ _ _ _ j,Below.heap_setCell _ _ _ _ j,Below.heap_setCell _ _ _ _ j]
theorem zJ(x:ByteArray):(⟨x.data.toList.toArray⟩:ByteArray)=x:=by cases x;simp
theorem Ld{B:Nat}{ea:Nat->Addr}(w:World)(E:oN B ea w)(hB:B<=w.heap.size)(f s:Int)(la:Option Addr)(c:Nat)(rows:List (List UInt8×List (Int×Nat)))(hP:rX w la rows)(Ϸ:∀r,r∈rows->nI r.2/\r.1.length<=1000/\r.2.length<=1000)(hn:rows.length<=1000):
  Calls Tryz.prog 99 #[.int .i64 f,.int .i64 s,.slice la rows.length c] w λe w'=>af6 ea w w' f s rows e:=by
 obtain⟨W,hW⟩:=bF (w.alloc (.cells #[.int .i64 0,.int .i64 0,.slice none 0 0,.slice none 0 0] 114));have Ϗ:Below w.heap.size w W:=by rw[hW];exact (Below.refl _ _).alloc (le_refl _) _
 have hx:W.heap[w.heap.size]? = some (.cells #[.int .i64 0,.int .i64 0,.slice none 0 0,.slice none 0 0] 114 (0,0)):=by rw[hW];exact heap_alloc_new _ _
 have hWs:W.heap.size=w.heap.size+1:=by rw[hW];simp
 have HW:=ϸ hW;have bQ:=ϸ Ϗ;have HE:=ϸ E;have FB:=ϸ hWs;have HX:=ϸ hx;have HP:=ϸ hP;have gX:=ϸ Ϸ;have kb:=(E.below Ϗ hB).sO.c1;clear hW Ϗ hx E hP Ϸ hWs;obtain⟨n,Ϝ⟩:=bF rows.length;have HN:=ϸ Ϝ.symm;rw[<-Ϝ] at hn ⊢;clear Ϝ;go_enter Tryz.func99,Tryz.ntmps99;go_upto_region 1 with fail;rw[<-HW.out];by_cases ϩ:pK f s≠0\/60<n
 ·have jM:=ϸ (F7 W f s n fM ϩ (ea 1) kb);obtain⟨hC,hA⟩:=QH (f:=f) (s:=s) (rows:=rows) (by rw[HN.out];exact ϩ);have HC:=ϸ (And.intro hC hA);have p0:W.cell? ⟨w.heap.size,0,none⟩=some (.int .i64 0):=ak HX.out 0;have p1:W.cell? ⟨w.heap.size,1,none⟩=some (.int .i64 0):=ak HX.out 1;have p2:W.cell? ⟨w.heap.size,2,none⟩=some (.slice none 0 0):=ak HX.out 2;have p3:W.cell? ⟨w.heap.size,3,none⟩=some (.slice none 0 0):=ak HX.out 3;have pf:∀k,W.frozen? ⟨w.heap.size,k,none⟩=false:=λk=>by simp[World.frozen?,HX.out]
  clear hC hA ϩ;go_wp2_with fail;refine Calls.mono jM.out ?_;rintro e w1 ⟨rfl,ϕ⟩;have aY:=ϕ;subst aY;go_wp2;obtain⟨Z,hZ⟩:=bF ((((w1.setCell ⟨w.heap.size,0,none⟩ (.int .i64 0)).setCell ⟨w.heap.size,1,none⟩ (.int .i64 0)).setCell ⟨w.heap.size,2,none⟩ (.slice none 0 0)).setCell ⟨w.heap.size,3,none⟩ (.slice none 0 0));rw[<-hZ];have nN:Z.heap[w.heap.size]? = some (.cells #[.int .i64 0,.int .i64 0,.slice none 0 0,.slice none 0 0] 114 (0,0)):=by rw[hZ];exact uN HX.out _ _ _ _
  have hzb:Below w.heap.size w Z:=by rw[hZ];exact qg bQ.out (le_refl _) _ _ _ _
  have z0:Z.cell? ⟨w.heap.size,0,none⟩=some (.int .i64 0):=ak nN 0;have z1:Z.cell? ⟨w.heap.size,1,none⟩=some (.int .i64 0):=ak nN 1;have z2:Z.cell? ⟨w.heap.size,2,none⟩=some (.slice none 0 0):=ak nN 2;have z3:Z.cell? ⟨w.heap.size,3,none⟩=some (.slice none 0 0):=ak nN 3;clear hZ nN;refine bodyPost_ret (v:=.tuple #[.agg #[.int .i64 0,.int .i64 0,.slice none 0 0,.slice none 0 0],.iface 397 (.pointer (some (ea 1)))]) (by simp[results,Tryz.results99,go_sem,z0,z1,z2,z3]) rfl ?_;exact⟨_,hzb,by rw[HC.out.1,HC.out.2];exact aM.es 1 lJ lJ,.inr ⟨λh=>absurd (HC.out.1.symm.trans h) lJ,rfl⟩⟩
 ·have BH:=ϸ ϩ;have Ŗ:pK f s=0:=Decidable.not_not.1 λh=>ϩ (.inl h)
  have ac0:n<=60:=by
   rcases lt_or_ge 60 n with h|h
   ·exact absurd (.inr h) ϩ
   ·exact h
  have jM:=ϸ (I7 W f s n Ŗ ac0);clear ϩ;go_wp2_with fail;refine Calls.mono jM.out ?_;rintro e w1 ⟨rfl,ϕ⟩;have aY:=ϕ;subst aY;clear jM kb;obtain⟨W2,ω⟩:=bF (w1.alloc (.cells #[.int .i64 f,.int .i64 s,.slice none 0 0,.slice none 0 0] 114));have HW2:Hid (∀wx,wx=w1.alloc (.cells #[.int .i64 f,.int .i64 s,.slice none 0 0,.slice none 0 0] 114)->wx=W2):=λwx h=>h.trans ω.symm
  obtain⟨D,Ι⟩:=bF w1.heap.size;have h0:CZ w W2 D f s rows 0 (.string ⟨#[]⟩) (.slice none 0 0) (.slice none 0 0):=by
   refine⟨zero_le _,rfl,λj h=>absurd h (not_lt_zero _),?_,⟨?_,Nat.lt_succ_self _,⟨rfl,.inl ⟨rfl,by simp[full]⟩⟩,⟨rfl,.inl ⟨rfl,by simp[full]⟩⟩,λg e=>by simp[Value.ownBlock] at e⟩,?_,?_⟩
   ·rw[ω,heap_alloc_old _ _ (aC HX.out)];exact HX.out
   ·rw[ω,Ι];exact heap_alloc_new _ _
   ·rw[ω];exact bQ.out.alloc bQ.out.size _
   ·rw[ω,Ι];simp
  have IY:=ϸ h0;have htw:w.heap.size<D:=by have:=FB.out;omega
  clear h0 ω;go_wp2_with fail;rw[HW2.out _ rfl,<-Ι];clear Ι HW2 HX bQ HW FB;go_loopw [10,29] (λv10 i wr=>∃(k:Nat) (u1 u2:Value),i = .int .i64 (k:Int)/\CZ w wr D f s rows k v10 u1 u2) (λ_ i _=>n-(intOf i).toNat);case atStart=>exact⟨0,_,_,rfl,IY.out⟩
  case round=>
   obtain⟨k,u1,u2,rfl,hm⟩:=hrel;have U:=ϸ hm;have hah:=hm.ah;obtain⟨R,Q,rfl⟩:=bB hm.two.Cj;obtain⟨J,O,rfl⟩:=bB hm.two.Ej;have Ϡ:=hm.siz;have Ã:=hm.aI.size;subst hah;clear hm IY;by_cases ϣ:k<n
   ·have Ĺ:k<rows.length:=by rw[HN.out];exact ϣ
    rcases HP.out with h0|⟨b,o,rfl,ϥ⟩
    ·rw[h0] at Ĺ;exact absurd Ĺ (not_lt_zero _)
    obtain⟨e1,A,C,e2,ĸ⟩:=ϥ k Ĺ;have Ú:b<w.heap.size:=World.block_lt_of_cell? w ⟨b,_,none⟩ e1;obtain⟨Rb,Ĳ,Ĵ⟩:=gX.out _ (getElem_mem Ĺ);obtain⟨nm,ì⟩:=bF (⟨(rows[k].1).toArray⟩:ByteArray);obtain⟨ah,hah⟩:=bF (⟨(prev (rows.map Prod.fst) k).toArray⟩:ByteArray);rw[<-hah];have Y:wr.cell? ⟨b,o+k*2,none⟩=some (.string nm):=by rw[ì];exact (U.out.aI.cell (p:=⟨b,_,none⟩) Ú).trans e1
    have q2:wr.cell? ⟨b,o+k*2+1,none⟩=some (.slice A rows[k].2.length C):=(U.out.aI.cell (p:=⟨b,_,none⟩) Ú).trans e2;have k0:(0:Int)<=k:=fM;have k1:(k:Int)<n:=fM;obtain⟨nk,Ĩ⟩:=bF (rows[k].2.length);have ν:rowAt f s rows k=qd f s ah.data.toList nm.data.toList rows[k].2:=by
     unfold rowAt;rw[hah,ì,(rW Ĺ).1,(rW Ĺ).2]
    have XF:=λ(WA:World) (hb:Below w.heap.size w WA)=>Q9 WA (HE.out.below hb hB) (le_trans hB hb.size) R J A ((full (rows.take k)).map Prod.fst).length Q ((full (rows.take k)).map λr=>dZ r.2).length O C f s Ŗ nm ah (le_trans (m:=1000) (by rw[ì];simpa [ByteArray.size] using Ĳ) lJ) rows[k].2 (ĸ.below hb) Rb Ĵ
    rw[<-Ĩ] at q2 XF;rw[<-ν] at XF;have wP:=ϸ (And.intro ì hah);have Rc:=ϸ Ĩ;have l9:=ϸ XF;obtain⟨WA,hWA⟩:=bF (wr.alloc (.cells #[.string nm,.slice A nk C] 104));have sN:Below wr.heap.size wr WA:=by rw[hWA];exact (Below.refl _ _).alloc (le_refl _) _
    have Æ:WA.heap[wr.heap.size]? = some (.cells #[.string nm,.slice A nk C] 104 (0,0)):=by rw[hWA];exact heap_alloc_new _ _
    have jB:=U.out.two.below sN;have x0:WA.cell? ⟨D,0,none⟩=some (.int .i64 f):=ak jB.blk 0;have x1:WA.cell? ⟨D,1,none⟩=some (.int .i64 s):=ak jB.blk 1;have x2:WA.cell? ⟨D,2,none⟩=some (.slice R _ Q):=ak jB.blk 2;have x3:WA.cell? ⟨D,3,none⟩=some (.slice J _ O):=ak jB.blk 3;have y0:WA.cell? ⟨wr.heap.size,0,none⟩=some (.string nm):=ak Æ 0;have y1:WA.cell? ⟨wr.heap.size,1,none⟩=some (.slice A nk C):=ak Æ 1;have lW:Hid (∀wx,wx=wr.alloc (.cells #[.string nm,.slice A nk C] 104)->wx=WA):=λwx h=>h.trans hWA.symm
    have oh:=ϸ sN;have kT:=ϸ Æ;have Oa:=ϸ jB;clear e1 e2 ĸ ì hah Ĩ ν XF sN Æ jB hWA ϥ Rb Ĳ Ĵ;go_upto_region 9 with fail;rw[lW.out _ rfl];generalize Ð:((full (rows.take k)).map Prod.fst).length=I at *;generalize ϭ:((full (rows.take k)).map λr=>dZ r.2).length=G at *;have HG:=ϸ (And.intro Ð ϭ);clear Ð ϭ;go_wp2_with fail;refine Calls.mono (l9.out WA (U.out.aI.trans (oh.out.mono Ã))) ?_;rintro e w2 ⟨x,v,AA,rfl,ϒ,ā,ı⟩;have HB2:=ϸ ϒ;have uU:Hid (aM ea w2 v (rowAt f s rows k) AA):=ā;have uT:Hid (rowAt f s rows k=0->x.data.toList=dZ rows[k].2):=ı;have lM:=ϸ ((U.out.aI.trans (oh.out.mono Ã)).trans (ϒ.mono (le_trans Ã oh.out.size)));have μ:wr.heap.size<w2.heap.size:=lt_of_lt_of_le (aC kT.out) ϒ.size;clear ϒ ā ı l9 x0 x1 x2 x3 y0 y1 Y q2;by_cases ă:rowAt f s rows k=0
    ·have hv:=uU.out.none ă;subst hv;have hx:=uT.out ă;have h2r:w2.heap[wr.heap.size]? = some (.cells #[.string nm,.slice A nk C] 104 (0,0)):=(HB2.out.block _ (aC kT.out)).trans kT.out;have h2t:=Oa.out.below HB2.out;have y0:w2.cell? ⟨wr.heap.size,0,none⟩=some (.string nm):=ak h2r 0;have y1:w2.cell? ⟨wr.heap.size,1,none⟩=some (.slice A nk C):=ak h2r 1;have fI:Hid (∀j,j<k+1->rowAt f s rows j=0):=λj hj=>by
      rcases lt_or_ge j k with h|h
      ·exact U.out.ok j h
      ·obtain rfl:j=k:=fM;exact ă
     have Ė:w2.heap[w.heap.size]? = some (.cells #[.int .i64 0,.int .i64 0,.slice none 0 0,.slice none 0 0] 114 (0,0)):=(HB2.out.block _ (lt_of_lt_of_le (aC U.out.res) oh.out.size)).trans ((oh.out.block _ (aC U.out.res)).trans U.out.res);have tq:=ϸ Ė;have qL:Hid (full (rows.take (k+1))=if 0<nk then full (rows.take k) ++ [rows[k]] else full (rows.take k)):=by
      show _=_;rw[take_succ_eq_append_getElem Ĺ,ZA,Rc.out]
     have HAH:Hid (prev (rows.map Prod.fst) (k+1)=nm.data.toList):=by
      show _=_;rw[Oh (by simpa using Ĺ),wP.out.1];simp
     have BJ:=ϸ h2r;have Oj:=ϸ h2t;clear Ė h2r h2t ă;by_cases hz:0<nk
     ·have hd:decide ((0:Int)<nk)=true:=oI;obtain⟨iS,hS,ĭ,ŗ,Η⟩:=info_parts Tryz.infoStr3;have y9:=ϸ hS;have t2:w2.cell? ⟨D,2,none⟩=some (.slice R I Q):=ak Oj.out.blk 2;have t3:w2.cell? ⟨D,3,none⟩=some (.slice J G O):=ak Oj.out.blk 3;have Ř:D<w2.heap.size:=aC Oj.out.blk;have Ù:I<=60/\G<=60:=by
       have h1:=HG.out.1;have h2:=HG.out.2;have h3:(full (rows.take k)).length<=(rows.take k).length:=length_filter_le ..;have h4:(rows.take k).length<=k:=oI;simp only[length_map] at h1 h2;omega
      have yR:D+1<=w2.heap.size:=Ř;clear hS;go_wp2_with fail;obtain⟨C8,XG⟩:∃C8:List (List UInt8),C8=((full (rows.take k)).map λr=>dZ r.2):=⟨_,rfl⟩;have H:Hid (vX w2 (D+1) D f s (.slice R I Q) (.slice J G O) ((full (rows.take k)).map Prod.fst) C8):=by rw[XG];exact Oj.out
      have F3:Hid (C8.length=G):=by rw[XG];exact HG.out.2
      have ZK:=ϸ XG;clear XG;have nL:Hid (w2.ownsRow (D+1) 9 1 (.slice R I Q) I (((full (rows.take k)).map Prod.fst).map encStr)):=by have:=Oj.out.Cj;rw[HG.out.1] at this;exact this
      have K3:Hid (∀z,Below w2.heap.size w2 z->(z.cell? ⟨D,2,none⟩=some (.slice R I Q)/\z.cell? ⟨D,3,none⟩=some (.slice J G O)/\z.cell? ⟨wr.heap.size,0,none⟩=some (.string nm))):=λz hz=>by
       have Y:=(hz.block _ (aC Oj.out.blk)).trans Oj.out.blk;have q2:=(hz.block _ (aC BJ.out)).trans BJ.out;exact⟨ak Y 2,ak Y 3,ak q2 0⟩
      have HXC:Hid (x.data.toList=dZ rows[k].2):=hx;clear hx;refine eX (S:=λw'=>(w'.cell? ⟨D,2,none⟩=some (.slice R I Q)/\w'.cell? ⟨D,3,none⟩=some (.slice J G O)/\w'.cell? ⟨wr.heap.size,0,none⟩=some (.string nm))) iX 12 ⟨t2,t3,y0⟩ (λϊ=>?_);refine jA (i:=0) (v:=.pointer (some ⟨D,2,none⟩)) rfl iX iX iX iX iX iX (λ_ _ _ h=>h) (Or.inl ⟨by rfl,?_⟩) ϊ ?_
      ·intro w Ϥ;obtain⟨g2,g3,g4⟩:=Ϥ;go_simp
      try simp only[Act.put]
      refine jA (i:=1) (v:=.slice R I Q) rfl iX iX iX iX iX iX (λ_ _ _ h=>h) (Or.inl ⟨by rfl,?_⟩) ϊ ?_
      ·intro w Ϥ;obtain⟨g2,g3,g4⟩:=Ϥ;go_simp
      try simp only[Act.put]
      refine jA (i:=2) (v:=.pointer (some ⟨wr.heap.size,0,none⟩)) rfl iX iX iX iX iX iX (λ_ _ _ h=>h) (Or.inl ⟨by rfl,?_⟩) ϊ ?_
      ·intro w Ϥ;obtain⟨g2,g3,g4⟩:=Ϥ;go_simp
      try simp only[Act.put]
      refine jA (i:=3) (v:=.string nm) rfl iX iX iX iX iX iX (λ_ _ _ h=>h) (Or.inl ⟨by rfl,?_⟩) ϊ ?_
      ·intro w Ϥ;obtain⟨g2,g3,g4⟩:=Ϥ;go_simp
      try simp only[Act.put]
      refine jA (i:=6) (v:=.pointer (some ⟨D,3,none⟩)) rfl iX iX iX iX iX iX (λ_ _ _ h=>h) (Or.inl ⟨by rfl,?_⟩) ϊ ?_
      ·intro w Ϥ;obtain⟨g2,g3,g4⟩:=Ϥ;go_simp
      try simp only[Act.put]
      refine jA (i:=7) (v:=.slice J G O) rfl iX iX iX iX iX iX (λ_ _ _ h=>h) (Or.inl ⟨by rfl,?_⟩) ϊ ?_
      ·intro w Ϥ;obtain⟨g2,g3,g4⟩:=Ϥ;go_simp
      try simp only[Act.put]
      refine jZ (i:=8) (v:=.string x) rfl iX iX iX iX (λ_ _ _ h=>h) (Or.inl ⟨by rfl,?_⟩) (λ_=>ϊ) ?_
      ·intro w _;go_simp
      try simp only[Act.put]
      refine bU (rs:=[4,9]) iX rQ ?_;refine aQ.cons rfl (λK F=>?_) (aQ.cons rfl (λK F=>?_) aQ.nil)
      ·go_simp
       refine F.out _ _ (K3.out _ (by repeat (first|exact Below.refl _ _|with_reducible apply bP|with_reducible apply dA))) ?_;clear F K;try simp only[Act.put]
       refine bU (rs:=[5,9]) iX rQ ?_;refine aQ.cons rfl (λK F=>?_) (aQ.cons rfl (λK F=>?_) aQ.nil)
       ·refine rF w2 (by rfl) _ _ 22 (by rfl) (D+1) 9 iS (.string ⟨#[]⟩) 16 Tryz.underlying22 y9.out ĭ ŗ Η (by rfl) (.slice R I Q) I (((full (rows.take k)).map Prod.fst).map encStr) (by rfl) nL.out (by repeat (first|exact Below.refl _ _|with_reducible apply bP|with_reducible apply dA)) _ _ _ _ (by rfl) (by first|exact heap_alloc_new _ _|exact Lb _ _ _|exact Lc _ _ _) (by rfl) fM lJ yR ?_;intro g7 dQ w7 bR dY rH;obtain⟨m1,m2,m3,m4,m5⟩:=H.out.mid yR rH dY;have C9:Hid (w7.ownsRow (D+1) 9 1 (.slice J G O) G (C8.map encStr)):=by rw[F3.out] at m2;exact m2
        have Ga:=ϸ m5;have IZ:=ϸ m3;have EZ:=ϸ bR;have vY:=ϸ dY;have yH:=ϸ rH;have sP:Hid (∀z,Below w7.heap.size w7 z->(z.cell? ⟨D,2,none⟩=some (.slice R I Q)/\z.cell? ⟨D,3,none⟩=some (.slice J G O)/\z.cell? ⟨wr.heap.size,0,none⟩=some (.string nm))):=λz hz=>by
         have Y:=(hz.block _ (aC m1)).trans m1;have q2:=(hz.block _ (aC (H.out.other rH dY BJ.out lJ))).trans (H.out.other rH dY BJ.out lJ);exact⟨ak Y 2,ak Y 3,ak q2 0⟩
        clear bR dY rH m1 m2 m3 m5;refine F.out _ _ (sP.out _ (Below.refl _ _)) ?_;clear F K;try simp only[Act.put]
        refine jZ (i:=11) (v:=.pointer (some ⟨D,2,none⟩)) rfl iX iX iX iX (λ_ _ _ h=>h) (Or.inl ⟨by rfl,?_⟩) (λ_=>sP.out _ (Below.refl _ _)) ?_
        ·intro w _;go_simp
        try simp only[Act.put]
        refine bU (rs:=[9]) iX rQ ?_;refine aQ.cons rfl (λK F=>?_) aQ.nil;go_simp
        refine F.out _ _ (sP.out _ (by repeat (first|exact Below.refl _ _|with_reducible apply bP|with_reducible apply dA))) ?_;clear F K;try simp only[Act.put]
        refine bU (rs:=[10]) iX rQ ?_;refine aQ.cons rfl (λK F=>?_) aQ.nil;refine rF w7 (by rfl) _ _ 22 (by rfl) (D+1) 9 iS (.string ⟨#[]⟩) 16 Tryz.underlying22 y9.out ĭ ŗ Η (by rfl) (.slice J G O) G (C8.map encStr) (by rfl) C9.out (by repeat (first|exact Below.refl _ _|with_reducible apply bP|with_reducible apply dA)) _ _ _ _ (by rfl) (by exact heap_alloc_new _ _) (by rfl) fM lJ IZ.out ?_;intro g8 uM V xX vZ rJ;have yI:=H.out.last yR yH.out vY.out rJ vZ;have Ol:=H.out.more (x:=nm.data.toList) (y:=x.data.toList) yR yH.out (by rw[HG.out.1,zJ nm];exact EZ.out) vY.out rJ (by rw[F3.out,zJ x];exact xX) vZ;have Iz:=ϸ Ol;have c82:V.cell? ⟨D,2,none⟩=some (.slice R I Q):=ak yI 2;have f8:∀q,V.frozen? ⟨D,q,none⟩=false:=λq=>by simp[World.frozen?,yI]
        have Om:Hid ((V.cell? ⟨D,2,none⟩=some (.slice R I Q)/\V.cell? ⟨D,3,none⟩=some (.slice J G O)/\V.cell? ⟨wr.heap.size,0,none⟩=some (.string nm))):=by
         have Y:=yI;have q2:=(show Az _ V _ _ from vZ).other (aX C9.out rJ) ((rJ.block _ (aC (H.out.other yH.out vY.out BJ.out lJ))).trans (H.out.other yH.out vY.out BJ.out lJ)) lJ;exact⟨ak Y 2,ak Y 3,ak q2 0⟩
        clear xX vZ rJ Ol;refine F.out _ _ Om.out ?_;clear F K;try simp only[Act.put]
        refine bU (rs:=[12]) iX rQ ?_;refine aQ.last rfl iX (λK F=>?_) aQ.nil;go_simp
        refine F.out _ _ ?_;clear F K;try simp only[Act.put]
        refine jZ (i:=13) (v:=.pointer (some ⟨D,3,none⟩)) rfl iX iX iX iX (λ_ _ _ h=>h) (Or.inl ⟨by rfl,?_⟩) (λ_=>absurd ‹_› lJ) ?_
        ·intro w _;go_simp
        try simp only[Act.put]
        obtain⟨Z8,BK⟩:=bF (V.setCell ⟨D,2,none⟩ (.slice (some ⟨g7,0,none⟩) (I+1) dQ));have Gb:Z8.heap[D]? = some (.cells #[.int .i64 f,.int .i64 s,.slice (some ⟨g7,0,none⟩) (I+1) dQ,.slice J G O] 114 (0,0)):=by rw[BK];exact (dw yI 2 _).trans (by rfl)
        have c93:Z8.cell? ⟨D,3,none⟩=some (.slice J G O):=ak Gb 3;have f9:∀q,Z8.frozen? ⟨D,q,none⟩=false:=λq=>by simp[World.frozen?,Gb]
        rw[<-BK];have Oo:=ϸ BK;clear BK Gb yI c82 f8;refine bU (rs:=[14]) iX rQ ?_;refine aQ.last rfl iX (λK F=>?_) aQ.nil;go_simp
        refine F.out _ _ ?_;clear F K;refine dz iX ?_ _;have jl:Hid (CZ w (Z8.setCell ⟨D,3,none⟩ (.slice (some ⟨g8,0,none⟩) (G+1) uM)) D f s rows (k+1) (.string nm) (.slice (some ⟨g7,0,none⟩) (I+1) dQ) (.slice (some ⟨g8,0,none⟩) (G+1) uM)):=by
         obtain⟨j1,j2,j3⟩:=Iz.out;rw[Oo.out];have Ł:full (rows.take (k+1))=full (rows.take k) ++ [rows[k]]:=by rw[qL.out,if_pos hz]
         have e1:(full (rows.take (k+1))).map Prod.fst=(full (rows.take k)).map Prod.fst ++ [nm.data.toList]:=by rw[Ł,map_append,wP.out.1];simp
         have e2:((full (rows.take (k+1))).map λr=>dZ r.2)=C8 ++ [x.data.toList]:=by rw[Ł,map_append,HXC.out,ZK.out];simp
         have hw8:=j3.size;refine⟨fM,by rw[HAH.out],fI.out,?_,?_,?_,?_⟩
         ·rw[Below.heap_setCell _ _ _ _ (by show w.heap.size≠D;omega),Below.heap_setCell _ _ _ _ (by show w.heap.size≠D;omega),j3.block _ fM];exact tq.out
         ·rw[e1,e2];rw[HG.out.1,F3.out] at j1;exact j1
         ·exact ((lM.out.trans (j3.mono fM)).setCell (by show w.heap.size<=D;omega) _).setCell (by show w.heap.size<=D;omega) _
         ·simp
          omega
        clear Iz Oo EZ vY yH C9 IZ Ga sP Om;go_wp2;go_roundw;case rel=>exact⟨k+1,_,_,rU,jl.out⟩
        case measure=>simp[intOf]<;>omega
       ·go_simp
        refine F.out _ _ (K3.out _ (by repeat (first|exact Below.refl _ _|with_reducible apply bP|with_reducible apply dA))) ?_;clear F K;try simp only[Act.put]
        refine bU (rs:=[5]) iX rQ ?_;refine aQ.cons rfl (λK F=>?_) aQ.nil;refine rF w2 (by rfl) _ _ 22 (by rfl) (D+1) 9 iS (.string ⟨#[]⟩) 16 Tryz.underlying22 y9.out ĭ ŗ Η (by rfl) (.slice R I Q) I (((full (rows.take k)).map Prod.fst).map encStr) (by rfl) nL.out (by repeat (first|exact Below.refl _ _|with_reducible apply bP|with_reducible apply dA)) _ _ _ _ (by rfl) (by first|exact heap_alloc_new _ _|exact Lb _ _ _|exact Lc _ _ _) (by rfl) fM lJ yR ?_;intro g7 dQ w7 bR dY rH;obtain⟨m1,m2,m3,m4,m5⟩:=H.out.mid yR rH dY;have C9:Hid (w7.ownsRow (D+1) 9 1 (.slice J G O) G (C8.map encStr)):=by rw[F3.out] at m2;exact m2
        have Ga:=ϸ m5;have IZ:=ϸ m3;have EZ:=ϸ bR;have vY:=ϸ dY;have yH:=ϸ rH;have sP:Hid (∀z,Below w7.heap.size w7 z->(z.cell? ⟨D,2,none⟩=some (.slice R I Q)/\z.cell? ⟨D,3,none⟩=some (.slice J G O)/\z.cell? ⟨wr.heap.size,0,none⟩=some (.string nm))):=λz hz=>by
         have Y:=(hz.block _ (aC m1)).trans m1;have q2:=(hz.block _ (aC (H.out.other rH dY BJ.out lJ))).trans (H.out.other rH dY BJ.out lJ);exact⟨ak Y 2,ak Y 3,ak q2 0⟩
        clear bR dY rH m1 m2 m3 m5;refine F.out _ _ (sP.out _ (Below.refl _ _)) ?_;clear F K;try simp only[Act.put]
        refine jZ (i:=11) (v:=.pointer (some ⟨D,2,none⟩)) rfl iX iX iX iX (λ_ _ _ h=>h) (Or.inl ⟨by rfl,?_⟩) (λ_=>sP.out _ (Below.refl _ _)) ?_
        ·intro w _;go_simp
        try simp only[Act.put]
        refine bU (rs:=[10]) iX rQ ?_;refine aQ.cons rfl (λK F=>?_) aQ.nil;refine rF w7 (by rfl) _ _ 22 (by rfl) (D+1) 9 iS (.string ⟨#[]⟩) 16 Tryz.underlying22 y9.out ĭ ŗ Η (by rfl) (.slice J G O) G (C8.map encStr) (by rfl) C9.out (by repeat (first|exact Below.refl _ _|with_reducible apply bP|with_reducible apply dA)) _ _ _ _ (by rfl) (by first|exact Ga.out _ _ rQ (heap_alloc_new _ _)|exact Ga.out _ _ rQ (Lb _ _ _)|exact Ga.out _ _ rQ (Lc _ _ _)) (by rfl) fM lJ IZ.out ?_;intro g8 uM V xX vZ rJ;have yI:=H.out.last yR yH.out vY.out rJ vZ;have Ol:=H.out.more (x:=nm.data.toList) (y:=x.data.toList) yR yH.out (by rw[HG.out.1,zJ nm];exact EZ.out) vY.out rJ (by rw[F3.out,zJ x];exact xX) vZ;have Iz:=ϸ Ol;have c82:V.cell? ⟨D,2,none⟩=some (.slice R I Q):=ak yI 2;have f8:∀q,V.frozen? ⟨D,q,none⟩=false:=λq=>by simp[World.frozen?,yI]
        have Om:Hid ((V.cell? ⟨D,2,none⟩=some (.slice R I Q)/\V.cell? ⟨D,3,none⟩=some (.slice J G O)/\V.cell? ⟨wr.heap.size,0,none⟩=some (.string nm))):=by
         have Y:=yI;have q2:=(show Az _ V _ _ from vZ).other (aX C9.out rJ) ((rJ.block _ (aC (H.out.other yH.out vY.out BJ.out lJ))).trans (H.out.other yH.out vY.out BJ.out lJ)) lJ;exact⟨ak Y 2,ak Y 3,ak q2 0⟩
        clear xX vZ rJ Ol;refine F.out _ _ Om.out ?_;clear F K;try simp only[Act.put]
        refine bU (rs:=[12]) iX rQ ?_;refine aQ.last rfl iX (λK F=>?_) aQ.nil;go_simp
        refine F.out _ _ ?_;clear F K;try simp only[Act.put]
        refine jZ (i:=13) (v:=.pointer (some ⟨D,3,none⟩)) rfl iX iX iX iX (λ_ _ _ h=>h) (Or.inl ⟨by rfl,?_⟩) (λ_=>absurd ‹_› lJ) ?_
        ·intro w _;go_simp
        try simp only[Act.put]
        obtain⟨Z8,BK⟩:=bF (V.setCell ⟨D,2,none⟩ (.slice (some ⟨g7,0,none⟩) (I+1) dQ));have Gb:Z8.heap[D]? = some (.cells #[.int .i64 f,.int .i64 s,.slice (some ⟨g7,0,none⟩) (I+1) dQ,.slice J G O] 114 (0,0)):=by rw[BK];exact (dw yI 2 _).trans (by rfl)
        have c93:Z8.cell? ⟨D,3,none⟩=some (.slice J G O):=ak Gb 3;have f9:∀q,Z8.frozen? ⟨D,q,none⟩=false:=λq=>by simp[World.frozen?,Gb]
        rw[<-BK];have Oo:=ϸ BK;clear BK Gb yI c82 f8;refine bU (rs:=[14]) iX rQ ?_;refine aQ.last rfl iX (λK F=>?_) aQ.nil;go_simp
        refine F.out _ _ ?_;clear F K;refine dz iX ?_ _;have jl:Hid (CZ w (Z8.setCell ⟨D,3,none⟩ (.slice (some ⟨g8,0,none⟩) (G+1) uM)) D f s rows (k+1) (.string nm) (.slice (some ⟨g7,0,none⟩) (I+1) dQ) (.slice (some ⟨g8,0,none⟩) (G+1) uM)):=by
         obtain⟨j1,j2,j3⟩:=Iz.out;rw[Oo.out];have Ł:full (rows.take (k+1))=full (rows.take k) ++ [rows[k]]:=by rw[qL.out,if_pos hz]
         have e1:(full (rows.take (k+1))).map Prod.fst=(full (rows.take k)).map Prod.fst ++ [nm.data.toList]:=by rw[Ł,map_append,wP.out.1];simp
         have e2:((full (rows.take (k+1))).map λr=>dZ r.2)=C8 ++ [x.data.toList]:=by rw[Ł,map_append,HXC.out,ZK.out];simp
         have hw8:=j3.size;refine⟨fM,by rw[HAH.out],fI.out,?_,?_,?_,?_⟩
         ·rw[Below.heap_setCell _ _ _ _ (by show w.heap.size≠D;omega),Below.heap_setCell _ _ _ _ (by show w.heap.size≠D;omega),j3.block _ fM];exact tq.out
         ·rw[e1,e2];rw[HG.out.1,F3.out] at j1;exact j1
         ·exact ((lM.out.trans (j3.mono fM)).setCell (by show w.heap.size<=D;omega) _).setCell (by show w.heap.size<=D;omega) _
         ·simp
          omega
        clear Iz Oo EZ vY yH C9 IZ Ga sP Om;go_wp2;go_roundw;case rel=>exact⟨k+1,_,_,rU,jl.out⟩
        case measure=>simp[intOf]<;>omega
      ·go_simp
       refine F.out _ _ (K3.out _ (by repeat (first|exact Below.refl _ _|with_reducible apply bP|with_reducible apply dA))) ?_;clear F K;try simp only[Act.put]
       refine bU (rs:=[4]) iX rQ ?_;refine aQ.cons rfl (λK F=>?_) aQ.nil;go_simp
       refine F.out _ _ (K3.out _ (by repeat (first|exact Below.refl _ _|with_reducible apply bP|with_reducible apply dA))) ?_;clear F K;try simp only[Act.put]
       refine bU (rs:=[5]) iX rQ ?_;refine aQ.cons rfl (λK F=>?_) aQ.nil;refine rF w2 (by rfl) _ _ 22 (by rfl) (D+1) 9 iS (.string ⟨#[]⟩) 16 Tryz.underlying22 y9.out ĭ ŗ Η (by rfl) (.slice R I Q) I (((full (rows.take k)).map Prod.fst).map encStr) (by rfl) nL.out (by repeat (first|exact Below.refl _ _|with_reducible apply bP|with_reducible apply dA)) _ _ _ _ (by rfl) (by first|exact heap_alloc_new _ _|exact Lb _ _ _|exact Lc _ _ _) (by rfl) fM lJ yR ?_;intro g7 dQ w7 bR dY rH;obtain⟨m1,m2,m3,m4,m5⟩:=H.out.mid yR rH dY;have C9:Hid (w7.ownsRow (D+1) 9 1 (.slice J G O) G (C8.map encStr)):=by rw[F3.out] at m2;exact m2
       have Ga:=ϸ m5;have IZ:=ϸ m3;have EZ:=ϸ bR;have vY:=ϸ dY;have yH:=ϸ rH;have sP:Hid (∀z,Below w7.heap.size w7 z->(z.cell? ⟨D,2,none⟩=some (.slice R I Q)/\z.cell? ⟨D,3,none⟩=some (.slice J G O)/\z.cell? ⟨wr.heap.size,0,none⟩=some (.string nm))):=λz hz=>by
        have Y:=(hz.block _ (aC m1)).trans m1;have q2:=(hz.block _ (aC (H.out.other rH dY BJ.out lJ))).trans (H.out.other rH dY BJ.out lJ);exact⟨ak Y 2,ak Y 3,ak q2 0⟩
       clear bR dY rH m1 m2 m3 m5;refine F.out _ _ (sP.out _ (Below.refl _ _)) ?_;clear F K;try simp only[Act.put]
       refine jZ (i:=11) (v:=.pointer (some ⟨D,2,none⟩)) rfl iX iX iX iX (λ_ _ _ h=>h) (Or.inl ⟨by rfl,?_⟩) (λ_=>sP.out _ (Below.refl _ _)) ?_
       ·intro w _;go_simp
       try simp only[Act.put]
       refine bU (rs:=[10]) iX rQ ?_;refine aQ.cons rfl (λK F=>?_) aQ.nil;refine rF w7 (by rfl) _ _ 22 (by rfl) (D+1) 9 iS (.string ⟨#[]⟩) 16 Tryz.underlying22 y9.out ĭ ŗ Η (by rfl) (.slice J G O) G (C8.map encStr) (by rfl) C9.out (by repeat (first|exact Below.refl _ _|with_reducible apply bP|with_reducible apply dA)) _ _ _ _ (by rfl) (by first|exact Ga.out _ _ rQ (heap_alloc_new _ _)|exact Ga.out _ _ rQ (Lb _ _ _)|exact Ga.out _ _ rQ (Lc _ _ _)) (by rfl) fM lJ IZ.out ?_;intro g8 uM V xX vZ rJ;have yI:=H.out.last yR yH.out vY.out rJ vZ;have Ol:=H.out.more (x:=nm.data.toList) (y:=x.data.toList) yR yH.out (by rw[HG.out.1,zJ nm];exact EZ.out) vY.out rJ (by rw[F3.out,zJ x];exact xX) vZ;have Iz:=ϸ Ol;have c82:V.cell? ⟨D,2,none⟩=some (.slice R I Q):=ak yI 2;have f8:∀q,V.frozen? ⟨D,q,none⟩=false:=λq=>by simp[World.frozen?,yI]
       have Om:Hid ((V.cell? ⟨D,2,none⟩=some (.slice R I Q)/\V.cell? ⟨D,3,none⟩=some (.slice J G O)/\V.cell? ⟨wr.heap.size,0,none⟩=some (.string nm))):=by
        have Y:=yI;have q2:=(show Az _ V _ _ from vZ).other (aX C9.out rJ) ((rJ.block _ (aC (H.out.other yH.out vY.out BJ.out lJ))).trans (H.out.other yH.out vY.out BJ.out lJ)) lJ;exact⟨ak Y 2,ak Y 3,ak q2 0⟩
       clear xX vZ rJ Ol;refine F.out _ _ Om.out ?_;clear F K;try simp only[Act.put]
       refine bU (rs:=[12]) iX rQ ?_;refine aQ.last rfl iX (λK F=>?_) aQ.nil;go_simp
       refine F.out _ _ ?_;clear F K;try simp only[Act.put]
       refine jZ (i:=13) (v:=.pointer (some ⟨D,3,none⟩)) rfl iX iX iX iX (λ_ _ _ h=>h) (Or.inl ⟨by rfl,?_⟩) (λ_=>absurd ‹_› lJ) ?_
       ·intro w _;go_simp
       try simp only[Act.put]
       obtain⟨Z8,BK⟩:=bF (V.setCell ⟨D,2,none⟩ (.slice (some ⟨g7,0,none⟩) (I+1) dQ));have Gb:Z8.heap[D]? = some (.cells #[.int .i64 f,.int .i64 s,.slice (some ⟨g7,0,none⟩) (I+1) dQ,.slice J G O] 114 (0,0)):=by rw[BK];exact (dw yI 2 _).trans (by rfl)
       have c93:Z8.cell? ⟨D,3,none⟩=some (.slice J G O):=ak Gb 3;have f9:∀q,Z8.frozen? ⟨D,q,none⟩=false:=λq=>by simp[World.frozen?,Gb]
       rw[<-BK];have Oo:=ϸ BK;clear BK Gb yI c82 f8;refine bU (rs:=[14]) iX rQ ?_;refine aQ.last rfl iX (λK F=>?_) aQ.nil;go_simp
       refine F.out _ _ ?_;clear F K;refine dz iX ?_ _;have jl:Hid (CZ w (Z8.setCell ⟨D,3,none⟩ (.slice (some ⟨g8,0,none⟩) (G+1) uM)) D f s rows (k+1) (.string nm) (.slice (some ⟨g7,0,none⟩) (I+1) dQ) (.slice (some ⟨g8,0,none⟩) (G+1) uM)):=by
        obtain⟨j1,j2,j3⟩:=Iz.out;rw[Oo.out];have Ł:full (rows.take (k+1))=full (rows.take k) ++ [rows[k]]:=by rw[qL.out,if_pos hz]
        have e1:(full (rows.take (k+1))).map Prod.fst=(full (rows.take k)).map Prod.fst ++ [nm.data.toList]:=by rw[Ł,map_append,wP.out.1];simp
        have e2:((full (rows.take (k+1))).map λr=>dZ r.2)=C8 ++ [x.data.toList]:=by rw[Ł,map_append,HXC.out,ZK.out];simp
        have hw8:=j3.size;refine⟨fM,by rw[HAH.out],fI.out,?_,?_,?_,?_⟩
        ·rw[Below.heap_setCell _ _ _ _ (by show w.heap.size≠D;omega),Below.heap_setCell _ _ _ _ (by show w.heap.size≠D;omega),j3.block _ fM];exact tq.out
        ·rw[e1,e2];rw[HG.out.1,F3.out] at j1;exact j1
        ·exact ((lM.out.trans (j3.mono fM)).setCell (by show w.heap.size<=D;omega) _).setCell (by show w.heap.size<=D;omega) _
        ·simp
         omega
       clear Iz Oo EZ vY yH C9 IZ Ga sP Om;go_wp2;go_roundw;case rel=>exact⟨k+1,_,_,rU,jl.out⟩
       case measure=>simp[intOf]<;>omega
     ·have hd:decide ((0:Int)<nk)=false:=oI;have Ł:full (rows.take (k+1))=full (rows.take k):=by rw[qL.out,if_neg hz]
      have jl:Hid (CZ w w2 D f s rows (k+1) (.string nm) (.slice R I Q) (.slice J G O)):=by
       refine⟨fM,by rw[HAH.out],fI.out,tq.out,?_,lM.out,fM⟩;rw[Ł];exact Oj.out
      clear Ł;go_wp2;go_roundw;case rel=>exact⟨k+1,_,_,rU,jl.out⟩
      case measure=>simp[intOf]<;>omega
    ·obtain⟨t,p,hv⟩:=uU.out.pos ă;have Ģ:0<rowAt f s rows k:=by
      have:0<=rowAt f s rows k:=Uh ..;omega
     have EU:=ϸ (aew w2 (HE.out.below lM.out hB).types (le_trans hB lM.out.size) (k:Int) v _ _ uU.out Ģ);obtain⟨hC,hA⟩:=akM (f:=f) (s:=s) (rows:=rows) (by rw[HN.out];exact BH.out) Ĺ U.out.ok ă;have HC:=ϸ (And.intro hC hA);have KY:=ϸ ă;have Ė:w2.heap[w.heap.size]? = some (.cells #[.int .i64 0,.int .i64 0,.slice none 0 0,.slice none 0 0] 114 (0,0)):=(HB2.out.block _ (lt_of_lt_of_le (aC U.out.res) oh.out.size)).trans ((oh.out.block _ (aC U.out.res)).trans U.out.res);have tq:=ϸ Ė;subst hv;clear hC hA ă Ė uT;go_wp2_with fail;refine Calls.mono EU.out ?_;rintro e w3 ⟨pb,mm,rfl,Ϛ,hmm,zz0,zz1,Ŋ⟩;have BL:=(Ϛ.block _ (aC tq.out)).trans tq.out;have HB3:=ϸ (lM.out.trans (Ϛ.mono lM.out.size));have ĺ:pb≠w.heap.size:=λe=>by
      subst e;have:=(ak BL 1).symm.trans zz1;simp at this
     have p0:w3.cell? ⟨w.heap.size,0,none⟩=some (.int .i64 0):=ak BL 0;have p1:w3.cell? ⟨w.heap.size,1,none⟩=some (.int .i64 0):=ak BL 1;have p2:w3.cell? ⟨w.heap.size,2,none⟩=some (.slice none 0 0):=ak BL 2;have p3:w3.cell? ⟨w.heap.size,3,none⟩=some (.slice none 0 0):=ak BL 3;have pf:∀k,w3.frozen? ⟨w.heap.size,k,none⟩=false:=λk=>by simp[World.frozen?,BL]
     have qM:Hid (aM ea w3 (.iface 72 (.pointer (some ⟨pb,0,none⟩))) (kJ f s rows) (ES f s rows)/\w3.heap[w.heap.size]? = some (.cells #[.int .i64 0,.int .i64 0,.slice none 0 0,.slice none 0 0] 114 (0,0))/\pb≠w.heap.size):=by
      refine⟨?_,BL,ĺ⟩;rw[HC.out.1,HC.out.2];exact .inr (.inr ⟨pb,mm,hmm,rfl,zz0,zz1,Ŋ⟩)
     clear Ϛ zz0 zz1 Ŋ EU BL ĺ;go_wp2;obtain⟨Z,hZ⟩:=bF ((((w3.setCell ⟨w.heap.size,0,none⟩ (.int .i64 0)).setCell ⟨w.heap.size,1,none⟩ (.int .i64 0)).setCell ⟨w.heap.size,2,none⟩ (.slice none 0 0)).setCell ⟨w.heap.size,3,none⟩ (.slice none 0 0));rw[<-hZ];have nN:Z.heap[w.heap.size]? = some (.cells #[.int .i64 0,.int .i64 0,.slice none 0 0,.slice none 0 0] 114 (0,0)):=by rw[hZ];exact uN qM.out.2.1 _ _ _ _
     have hzb:Below w.heap.size w Z:=by rw[hZ];exact qg HB3.out (le_refl _) _ _ _ _
     have hfz:aM ea Z (.iface 72 (.pointer (some ⟨pb,0,none⟩))) (kJ f s rows) (ES f s rows):=by
      have hcl:∀o,Z.cell? ⟨pb,o,none⟩=w3.cell? ⟨pb,o,none⟩:=λo=>by
       have:Z.heap[pb]? = w3.heap[pb]?:=by
        rw[hZ,Below.heap_setCell _ _ _ _ qM.out.2.2,Below.heap_setCell _ _ _ _ qM.out.2.2,Below.heap_setCell _ _ _ _ qM.out.2.2,Below.heap_setCell _ _ _ _ qM.out.2.2]
       simp[World.cell?,this]
      rcases qM.out.1 with⟨h,_⟩|⟨m,_,h,_⟩|⟨pb',m,hm,h,c0,Q,hc⟩
      ·cases h
      ·simp at h
      ·obtain rfl:pb=pb':=by simpa using h
       exact .inr (.inr ⟨pb,m,hm,rfl,(hcl 0).trans c0,(hcl 1).trans Q,hc⟩)
     have z0:Z.cell? ⟨w.heap.size,0,none⟩=some (.int .i64 0):=ak nN 0;have z1:Z.cell? ⟨w.heap.size,1,none⟩=some (.int .i64 0):=ak nN 1;have z2:Z.cell? ⟨w.heap.size,2,none⟩=some (.slice none 0 0):=ak nN 2;have z3:Z.cell? ⟨w.heap.size,3,none⟩=some (.slice none 0 0):=ak nN 3;clear hZ nN;refine bodyPost_ret (v:=.tuple #[.agg #[.int .i64 0,.int .i64 0,.slice none 0 0,.slice none 0 0],.iface 72 (.pointer (some ⟨pb,0,none⟩))]) (by simp[results,Tryz.results99,go_sem,z0,z1,z2,z3]) rfl ?_;exact⟨_,hzb,hfz,.inr ⟨λh=>KY.out (HC.out.1.symm.trans h),rfl⟩⟩
   ·obtain rfl:k=n:=by have:=U.out.le;have:=HN.out;omega
    obtain⟨hC,hA⟩:=MF (f:=f) (s:=s) (rows:=rows) (by rw[HN.out];exact BH.out) (by rw[HN.out];exact U.out.ok);have HC:=ϸ (And.intro hC hA);have ac2:=U.out.two;have jB:rows.take k=rows:=take_of_length_le (by rw[HN.out];omega);have Oa:=ϸ jB;have ϋ:=ac2.blk;generalize Ð:((full (rows.take k)).map Prod.fst).length=I at *;generalize ϭ:((full (rows.take k)).map λr=>dZ r.2).length=G at *;have HG:=ϸ (And.intro Ð ϭ);have t0:wr.cell? ⟨D,0,none⟩=some (.int .i64 f):=ak ϋ 0;have t1:wr.cell? ⟨D,1,none⟩=some (.int .i64 s):=ak ϋ 1;have t2:wr.cell? ⟨D,2,none⟩=some (.slice R I Q):=ak ϋ 2;have t3:wr.cell? ⟨D,3,none⟩=some (.slice J G O):=ak ϋ 3;have p0:wr.cell? ⟨w.heap.size,0,none⟩=some (.int .i64 0):=ak U.out.res 0;have p1:wr.cell? ⟨w.heap.size,1,none⟩=some (.int .i64 0):=ak U.out.res 1;have p2:wr.cell? ⟨w.heap.size,2,none⟩=some (.slice none 0 0):=ak U.out.res 2;have p3:wr.cell? ⟨w.heap.size,3,none⟩=some (.slice none 0 0):=ak U.out.res 3;have pf:∀k,wr.frozen? ⟨w.heap.size,k,none⟩=false:=λk=>by simp[World.frozen?,U.out.res]
    have HTW:=ϸ ac2;clear hC hA jB Ð ϭ ϋ ac2;go_wp2;obtain⟨Z,hZ⟩:=bF ((((wr.setCell ⟨w.heap.size,0,none⟩ (.int .i64 f)).setCell ⟨w.heap.size,1,none⟩ (.int .i64 s)).setCell ⟨w.heap.size,2,none⟩ (.slice R I Q)).setCell ⟨w.heap.size,3,none⟩ (.slice J G O));rw[<-hZ];have nN:Z.heap[w.heap.size]? = some (.cells #[.int .i64 f,.int .i64 s,.slice R I Q,.slice J G O] 114 (0,0)):=by rw[hZ];exact uN U.out.res _ _ _ _
    have hzb:Below w.heap.size w Z:=by rw[hZ];exact qg U.out.aI (le_refl _) _ _ _ _
    have z0:Z.cell? ⟨w.heap.size,0,none⟩=some (.int .i64 f):=ak nN 0;have z1:Z.cell? ⟨w.heap.size,1,none⟩=some (.int .i64 s):=ak nN 1;have z2:Z.cell? ⟨w.heap.size,2,none⟩=some (.slice R I Q):=ak nN 2;have z3:Z.cell? ⟨w.heap.size,3,none⟩=some (.slice J G O):=ak nN 3;have o1:Z.ownsRow w.heap.size 9 1 (.slice R I Q) (full rows).length (((full rows).map Prod.fst).map encStr):=by
     have h:=gD (b:=w.heap.size) HTW.out.Cj fM;rw[hZ];rw[Oa.out] at h;rw[length_map] at h;exact rG h U.out.res lJ _ _ _ _
    have o2:Z.ownsRow w.heap.size 9 1 (.slice J G O) (full rows).length (((full rows).map λr=>dZ r.2).map encStr):=by
     have h:=gD (b:=w.heap.size) HTW.out.Ej fM;rw[hZ];rw[Oa.out] at h;rw[length_map] at h;exact rG h U.out.res lJ _ _ _ _
    clear hZ nN;refine bodyPost_ret (v:=.tuple #[.agg #[.int .i64 f,.int .i64 s,.slice R I Q,.slice J G O],.nilIface]) (by simp[results,Tryz.results99,go_sem,z0,z1,z2,z3]) rfl ?_;exact⟨_,hzb,.inl ⟨rfl,HC.out.1⟩,.inl ⟨HC.out.1,_,_,rfl,o1,o2⟩⟩
def uW:List (List UInt8×List (Int×Nat))->List UInt8->List (Int×Nat)
 | [],_=>[]
 | r::l,k=>if r.1=k then r.2 else uW l k
theorem Rf:∀ {l:List (List UInt8×List (Int×Nat))} {k:List UInt8},(∀j (q:j<l.length),l[j].1≠k)->uW l k = []
 | [],_,_=>rfl
 | r::l,k,h=>by
  have o:r.1≠k:=h 0 rQ;rw[uW,if_neg o];exact Rf λj q=>by have:=h (j+1) oI;simpa using this
theorem aae:∀ {l:List (List UInt8×List (Int×Nat))} {k:List UInt8} {i:Nat} (o:i<l.length),(∀j (z:j<l.length),j<i->l[j].1≠k)->l[i].1=k->uW l k=l[i].2
 | [],_,_,o,_,_=>by simp at o
 | r::l,k,0,_,_,h=>by
  have:r.1=k:=h;rw[uW,if_pos this];rfl
 | r::l,k,i+1,o,h1,h=>by
  have q:r.1≠k:=h1 0 rQ fM;rw[uW,if_neg q];exact aae (i:=i) (by simpa using o) (λj z A=>by have:=h1 (j+1) oI fM;simpa using this) (by simpa using h)
open aD bH
structure uO(wE wr:World)(mb pb nb:Nat)(S:List Rw)(sv:List UInt8->Value):Prop where
 pm:uL wr mb nb wE.heap.size S sv
 var:wr.heap[pb]? = some (.cells #[.map (some mb)] 256 (0,0))
 aI:Below wE.heap.size wE wr
 len:∀r,r∈S->r.2.length<=120*nb/\r.1.length<=1000
theorem uO.below{F wr z:World}{o A q:Nat}{S:List Rw}{D:List UInt8->Value}(h:uO F wr o A q S D)(j:Below wr.heap.size wr z):uO F z o A q S D:=
 ⟨h.pm.below j,(j.block _ (aC h.var)).trans h.var,h.aI.trans (j.mono h.aI.size),h.len⟩
theorem Oq(Q w:World)(la:Option Addr)(c:Nat)(F:List Rw)(hP:rX Q la F)(hF:∀r,r∈F->r.2 ≠ []/\r.2.length<=120/\r.1.length<=1000)(hn:F.length<=60)(G J nb:Nat)(S:List Rw)(sv:List UInt8->Value)(h:uO Q w G J nb S sv)(ŕ:Q.heap.size<=G)(_:Q.heap.size<=J)(Τ:nb<=100):
  Calls Tryz.prog 154 #[.slice la F.length c,.pointer (some ⟨J,0,none⟩)] w λe w'=>e = .returned (.tuple #[])/\∃oC,uO Q w' G J (nb+F.length) (je S F) oC:=by
 have HP:Hid (rX Q la F):=hP;have HF:=ϸ hF;have HMB:=ϸ ŕ;have H0:=ϸ h;obtain⟨n,Ϝ⟩:=eB F.length;rw[Ϝ] at hn ⊢;have HN:=ϸ Ϝ;go_enter Tryz.func154,Tryz.ntmps154;go_wp2_with fail;go_loopw [4,7] (λ_ i wr=>∃(k:Nat) (sw:List UInt8->Value),k<=n/\i = .int .i64 k/\uO Q wr G J (nb+k) (je S (F.take k)) sw) (λ_ i _=>n-(intOf i).toNat);case atStart=>exact⟨0,_,zero_le _,rfl,H0.out⟩
 case round=>
  obtain⟨k,sw,hk,rfl,ht⟩:=hrel;by_cases ϗ:k<n
  ·have ù:k<F.length:=by have:=HN.out;omega
   have ϖ:=take_succ_eq_append_getElem ù;obtain⟨è,ā,hf3⟩:=HF.out F[k] (getElem_mem ù);have hPw:=HP.out.below ht.aI;rcases hPw with hx|⟨b,o,rfl,O⟩
   ·rw[hx] at ù;simp at ù
   ·obtain⟨c0,A,C,c1,hPk⟩:=O k ù;rcases hPk with hx|⟨V,W,rfl,hcp⟩
    ·exact absurd hx è
    obtain⟨nm,ì⟩:=bF (⟨F[k].1.toArray⟩:ByteArray);have c0':wr.cell? ⟨b,o+k*2,none⟩=some (.string nm):=by rw[ì];exact c0
    have Ŕ:nm.data.toList=F[k].1:=by rw[ì]
    obtain⟨m,hm⟩:=eB (F[k].2.length);rw[hm] at c1 ā;have Ţ:0<m:=by
     rw[<-hm];cases he:F[k].2 with
     | nil=>exact absurd he è
     | cons=>simp
    obtain⟨U,Ā⟩:=bF (wr.alloc (.cells #[.string nm,.slice (some ⟨V,W,none⟩) m C] 104));have Ϗ:Below wr.heap.size wr U:=by rw[Ā];exact (Below.refl _ _).alloc (le_refl _) _
    have ZO:U.heap.size=wr.heap.size+1:=by rw[Ā];simp
    have hkW:U.heap[wr.heap.size]? = some (.cells #[.string nm,.slice (some ⟨V,W,none⟩) m C] 104 (0,0)):=by rw[Ā];exact heap_alloc_new _ _
    have htW:=ht.below Ϗ;have H:=htW.below ((Below.refl _ _).drew);have â:nm.size<=1000:=by
     have e:nm.size=F[k].1.length:=by rw[ì];simp[ByteArray.size]
     omega
    obtain⟨v0,I,Ot,pY⟩:=H.pm.look nm â;have ϻ:=Ot.own H.pm;have hol:I.length<=20000:=by
     rcases Ot with⟨_,_,rfl⟩|⟨r,hr,_,_,rfl⟩
     ·exact zero_le _
     ·have:=(H.len r hr).1;omega
    have Y:∀q cs t f,U.drew.heap[q]? = some (.cells cs t f)->t≠93->some q≠v0.ownBlock:=λq cs t f hq ht' e=>by
     obtain⟨_,_,cur,O⟩:=aH ϻ e.symm;rw[hq] at O;injection O with O;injection O with _ O;exact ht' O
    have Ou:=H.var;have QC:=hkW;have ŗ:∀z:World,U.drew.grownBy z v0.ownBlock->z.cell? ⟨J,0,none⟩=some (.map (some G))/\z.cell? ⟨wr.heap.size,0,none⟩=some (.string nm)/\z.cell? ⟨wr.heap.size,1,none⟩=some (.slice (some ⟨V,W,none⟩) m C)/\(Instr.lookup 256 (.map (some G)) (.string nm) false).run Tryz.prog z = .ok v0 z:=λz hz=>by
     have e1:=(hz.block J (aC Ou) (Y J _ _ _ Ou lJ)).trans Ou;have e2:=(hz.block wr.heap.size (aC QC) (Y wr.heap.size _ _ _ QC lJ)).trans QC;obtain⟨D,hD,_⟩:=H.pm.map;refine⟨ak e1 0,ak e2 0,ak e2 1,pY z (hz.block G hD.lt λe=>?_)⟩;obtain⟨_,_,cur,O⟩:=aH ϻ e.symm;exact H.pm.kU O rfl
    have HSD:=ϸ (ŗ U.drew ⟨rfl,rfl,rfl,le_refl _,λ_ _ _=>rfl⟩);have aoa:=ϸ ŗ;have hbE:=H.aI;have CK:=ϸ hbE.size;have jl:Hid (∀(w2:World) (sx:List UInt8->Value),uL w2 G (nb+k+1) Q.heap.size (kK (je S (F.take k)) (nm.data.toList,F[k].2)) sx->Below Q.heap.size U.drew w2->(∀q,q<U.drew.heap.size->some q≠v0.ownBlock->q≠G->w2.heap[q]? = U.drew.heap[q]?)->uO Q w2 G J (nb+(k+1)) (je S (F.take (k+1))) sx):=λw2 sx g1 g2 g3=>by
     have e:kK (je S (F.take k)) (nm.data.toList,F[k].2)=je S (F.take (k+1)):=by rw[ϖ,Wq,Ŕ]
     refine⟨by rw[<-e];exact g1,(g3 J (aC Ou) (Y J _ _ _ Ou lJ) (H.pm.kU Ou)).trans Ou,hbE.trans g2,λr hr=>?_⟩;rw[<-e] at hr;rcases (kV H.pm.up).1 hr with⟨hr',_⟩|⟨q,hq,Ŵ,rfl⟩|⟨_,rfl⟩
     ·have:=H.len r hr';omega
     ·have:=H.len q hq;refine⟨?_,this.2⟩;show (q.2++F[k].2).length<=_;rw[length_append,hm];omega
     ·refine⟨?_,?_⟩
      ·show F[k].2.length<=_;rw[hm];omega
      ·show nm.data.toList.length<=_;rw[Ŕ];exact hf3
    have HPM:=ϸ H.pm;have HFD:=ϸ Ot;have HOW:=ϸ ϻ;have qy:Hid ((aF F[k].2).length=m*2):=by rw[mY,hm];exact rfl
    have gY:Hid (∀(j:Nat) u,(aF F[k].2)[j]? = some u->U.drew.cell? ((⟨V,W,none⟩:Addr).add j)=some u):=DX λj hj=>by
     obtain⟨e1,e2⟩:=hcp j hj;have hl:=World.block_lt_of_cell? wr ⟨V,_,none⟩ e1;exact⟨(Ϗ.cell (p:=⟨V,W+j*2,none⟩) hl).trans e1,(Ϗ.cell (p:=⟨V,W+j*2+1,none⟩) hl).trans e2⟩
    have HM:=ϸ hm;have wP:=ϸ â;have KT:Hid (nb+k<1000):=by show _<_;omega
    have IY:=ϸ Ţ;have HML:Hid (I.length+m<=maxLen):=by show _<=_;unfold maxLen;omega
    have KU:Hid ((I.length+m)*16<=140737488355328):=by show _<=_;omega
    have Nt:(k:Int)<n:=fM;have Ý:(0:Int)<=k:=fM;obtain⟨i0,hi,ò,å,ô⟩:=info_parts Tryz.infoPt;clear O ϖ è hf3 c0 hcp ì Ŕ Ϗ ZO hkW htW H Ot pY ϻ Y Ou QC ŗ hbE â hm ht Ţ ā hol;go_wp2_with fail;rw[<-Ā];refine eX (S:=λz=>z.cell? ⟨J,0,none⟩=some (.map (some G))/\z.cell? ⟨wr.heap.size,0,none⟩=some (.string nm)/\z.cell? ⟨wr.heap.size,1,none⟩=some (.slice (some ⟨V,W,none⟩) m C)/\(Instr.lookup 256 (.map (some G)) (.string nm) false).run Tryz.prog z = .ok v0 z) iX 10 HSD.out (λZ=>?_);refine iG 0 11 (.map (some G)) Z rfl rfl ?_ ?_
    ·intro w R;obtain⟨jc,jd,kr,lu⟩:=R;go_simp
    refine bK 1 12 (.pointer (some ⟨wr.heap.size,0,none⟩)) Z rfl rfl ?_ ?_
    ·intro w _;go_simp
    refine iG 2 13 (.string nm) Z rfl rfl ?_ ?_
    ·intro w R;obtain⟨jc,jd,kr,lu⟩:=R;go_simp
    refine iG 3 14 (.map (some G)) Z rfl rfl ?_ ?_
    ·intro w R;obtain⟨jc,jd,kr,lu⟩:=R;go_simp
    refine bK 4 15 (.pointer (some ⟨wr.heap.size,0,none⟩)) Z rfl rfl ?_ ?_
    ·intro w _;go_simp
    refine iG 5 16 (.string nm) Z rfl rfl ?_ ?_
    ·intro w R;obtain⟨jc,jd,kr,lu⟩:=R;go_simp
    refine iG 6 17 v0 Z rfl rfl ?_ ?_
    ·intro w R;obtain⟨jc,jd,kr,lu⟩:=R;go_simp
    refine bK 7 18 (.pointer (some ⟨wr.heap.size,1,none⟩)) Z rfl rfl ?_ ?_
    ·intro w _;go_simp
    refine iG 8 19 (.slice (some ⟨V,W,none⟩) m C) Z rfl rfl ?_ ?_
    ·intro w R;obtain⟨jc,jd,kr,lu⟩:=R;go_simp
    simp only[Act.put,setIfInBounds_toArray,set_cons_succ,set_cons_zero];refine lZ 9 rfl λK hK=>?_
    refine step_append_lies _ (by rfl) _ _ 102 (by rfl) Q.heap.size 93 i0 (.agg #[.int .i64 0,.int .u64 0]) 2 16 Tryz.underlying102 hi ò å ô rfl lJ v0 I.length (aF I) (by rfl) HOW.out ⟨V,W,none⟩ m C (aF F[k].2) (by rfl) qy.out gY.out (Br _) IY.out HML.out KU.out CK.out _ rfl ?_;intro g1 wZ w1 Ä ah3 aob hlt1;obtain⟨w2,Ϭ,hpm,Ã,hsz2,hold⟩:=HPM.out.put HMB.out CK.out nm wP.out KT.out F[k].2 (v':=.slice (some ⟨g1,0,none⟩) (I.length+m) wZ) (g:=g1) HFD.out rfl (by rw[length_append,HM.out,pV];exact Ä) ah3 aob;have Rh:=ϸ (aoa.out w1 ah3);have aoc:=ϸ hpm;have aod:=ϸ Ã;have KR:=ϸ hold;refine hK.out _ _ Rh.out ?_;refine oz 10 rfl λK hK=>?_
    go_simp
    refine hK.out _ _ ?_;refine dz iX ?_ _;go_wp2;go_roundw;case rel=>exact⟨k+1,_,fM,rU,jl.out w2 _ aoc.out aod.out KR.out⟩
    case measure=>simp[intOf]<;>omega
  ·obtain rfl:k=n:=fM;have jB:F.take k=F:=by rw[<-HN.out];exact take_length
   rw[jB] at ht;have HT:=ϸ ht;go_wp2;exact bodyPost_end (v:=.tuple #[]) (by simp[results,Tryz.results154,go_sem]) rfl ⟨rfl,_,HT.out⟩
