import Derived.Test.YtnjmhjdhfaboaaaGreatDoorWP
import Derived.Test.YtnjmhjdhfaboaaaGreatDoorWL
set_option maxRecDepth 1000000
set_option maxHeartbeats 4000000
open Nat (le_refl le_trans lt_of_lt_of_le not_lt_zero sub_self zero_add zero_le)
open List
open Go.Proofs.Tryz
namespace Go.Proofs.YtnjmhjdhfaboaaaGreatDoor
open Go.RowKit Go.Maps aV aD aU bH dF aR
theorem ϱ{p:Prop}(h:p):Go.RowKit.Hid p:=h
theorem Ņ{A:Type}(l:List A)(i:Nat)(a:A):l.toArray.setIfInBounds i a=(l.set i a).toArray:=setIfInBounds_toArray ..
theorem ņ{A:Type}{x:A}{l:List A}{i:Nat}{a:A}:(x::l).set (i+1) a=x::l.set i a:=set_cons_succ
theorem Ň{A:Type}{x:A}{l:List A}{a:A}:(x::l).set 0 a=a::l:=set_cons_zero
structure M6(B:Nat)(ea:Nat->Addr)(w:World):Prop where
 a:xH B ea w
 k:oN B ea w
theorem M6.below{B:Nat}{ea:Nat->Addr}{w w':World}(E:M6 B ea w){j:Nat}(h:Below j w w')(o:B<=j):M6 B ea w':=⟨E.a.below h o,E.k.below h o⟩
noncomputable def tJ(s:Int)(L:List Rw):List Int->List Bk
 | []=>[]
 | f::fs=>if kJ f s (jk s f L)=0 then (f,s,jk s f L)::tJ s L fs else []
noncomputable def xJ(s:Int)(L:List Rw):List Int->Int
 | []=>0
 | f::fs=>if kJ f s (jk s f L)=0 then xJ s L fs else 7
theorem OU{s:Int}{L:List Rw}:∀ {j:List Int},(∀f,f∈j->kJ f s (jk s f L)=0)->tJ s L j=j.map (λf=>(f,s,jk s f L))/\xJ s L j=0
 | [],_=>⟨rfl,rfl⟩
 | f::j,h=>by
  have o:=h f (mem_cons_self ..);obtain⟨q,z⟩:=OU λg A=>h g (mem_cons_of_mem _ A)
  exact⟨by rw[tJ,if_pos o,q];rfl,by rw[xJ,if_pos o,z]⟩
theorem R8{s:Int}{L:List Rw}{f:Int}{gs:List Int}(o:kJ f s (jk s f L)≠0):∀ {j:List Int},(∀f,f∈j->kJ f s (jk s f L)=0)->tJ s L (j++f::gs)=j.map (λf=>(f,s,jk s f L))/\xJ s L (j++f::gs)=7
 | [],_=>⟨by rw[nil_append,tJ,if_neg o];rfl,by rw[nil_append,xJ,if_neg o]⟩
 | g::j,h=>by
  have q:=h g (mem_cons_self ..);obtain⟨z,A⟩:=R8 o λg D=>h g (mem_cons_of_mem _ D)
  exact⟨by rw[cons_append,tJ,if_pos q,z];rfl,by rw[cons_append,xJ,if_pos q,A]⟩
structure wD(sb:Nat)(w z:World):Prop where
 size:w.heap.size<=z.heap.size
 block:∀(b:Nat) (o:Obj),w.heap[b]? = some o->(∀cs fr,o ≠ .cells cs 114 fr)->b≠sb->z.heap[b]? = some o
theorem wD.refl(j:Nat)(w:World):wD j w w:=⟨le_refl _,λ_ _ h _ _=>h⟩
theorem wD.kept{q:Nat}{w z y:World}(h:wD q w z){S:List Nat}(G:Kept S z y)(I:∀x,x∈S->x=q\/∃cs A,z.heap[x]? = some (.cells cs 114 A)):wD q w y:=⟨le_trans h.size G.size,λb o H D F=>by
 have j:=h.block b o H D F;refine (G.block b (Array.getElem?_eq_some_iff.1 j).1 λJ=>?_).trans j;rcases I b J with e|⟨cs,A,e⟩
 ·exact F e
 ·rw[j] at e;injection e with e;exact D _ _ e⟩
theorem wD.own{D:Nat}{w z:World}(h:wD D w z){j:Nat}{e:TypeId}{F:Nat}{v:Value}{n:Nat}{xs:List Value}(A:w.ownsRow j e F v n xs)(H:e≠114)(O:D<j):z.ownsRow j e F v n xs:=bC A λg I=>by
 obtain⟨K,_,G,q⟩:=aH A I;rw[q];exact h.block g _ q (λcs J o=>by injection o with _ o;exact H o) fM
theorem kg.alh{j K:Nat}{wr w':World}{o J:Nat}{I:Int->Bool}{R:Int->List Rw}{X:Int->List Value}{O:Int->Value}(h:kg j wr o J I R X O)(A:wD K wr w')(U:K<j)(hm:j<=o):kg j w' o J I R X O:=by
 refine⟨h.im.same ?_ λk F g W=>?_,λf V=>(h.rows f V).map λv n xs Y=>A.own Y lJ U⟩
 ·obtain⟨D,⟨es,q,H,_⟩,_⟩:=h.im.map;rw[H];exact A.block o _ H (λ_ _ e=>by cases e) fM
 ·obtain⟨h1,_,Q,G⟩:=aH (h.im.row k F) W;rw[G];exact A.block g _ G (λcs Z z=>by injection z with _ z;revert z;decide) fM
theorem Tryz.infoBk:(prog.info? 114).map (λi=>(i.zero,i.size,i.bytes))=some (some (.agg #[.int .i64 0,.int .i64 0,.slice none 0 0,.slice none 0 0]),4,64):=iX
theorem GA:∀(Bs:List Bk) (j:List (Value×Value)) (_:j.length=Bs.length) (b:Bk) (v:Value×Value),bM (Bs ++ [b]) (j ++ [v])=bM Bs j ++ [.int .i64 b.1,.int .i64 b.2.1,v.1,v.2]
 | [],[],_,_,_=>rfl
 | [],_::_,h,_,_=>by cases h
 | _::_,[],h,_,_=>by cases h
 | a::Bs,u::j,h,b,v=>by
  have:=GA Bs j (by simpa using h) b v;show _::_::_::_::bM (Bs ++ [b]) (j ++ [v])=_;rw[this];rfl
theorem Cr:∀(Bs:List Bk) (j:List (Value×Value)),j.length=Bs.length->(bM Bs j).length=Bs.length*4
 | [],[],_=>rfl
 | [],_::_,h=>by cases h
 | _::_,[],h=>by cases h
 | a::Bs,u::j,h=>by
  have:=Cr Bs j (by simpa using h);show (bM Bs j).length+4=(Bs.length+1)*4;omega
theorem jK.snoc{wr w7:World}{j:Nat}{Bs:List Bk}{o:List (Value×Value)}(G:o.length=Bs.length)
  (V:∀i (H:i<Bs.length) (A:i<o.length),wr.ownsRow j 9 1 o[i].1 Bs[i].2.2.length ((Bs[i].2.2.map Prod.fst).map encStr)/\wr.ownsRow j 9 1 o[i].2 Bs[i].2.2.length ((Bs[i].2.2.map λr=>dZ r.2).map encStr))
  (b:Bk) (v1 D:Value) (K:wr.ownsRow j 9 1 v1 b.2.2.length ((b.2.2.map Prod.fst).map encStr)) (O:wr.ownsRow j 9 1 D b.2.2.length ((b.2.2.map λr=>dZ r.2).map encStr))
  {g z:Nat} (Z:w7.ownsRow j 114 4 (.slice (some ⟨g,0,none⟩) (Bs.length+1) z) (Bs.length+1) (bM Bs o ++ [.int .i64 b.1,.int .i64 b.2.1,v1,D])) (R:∀(x:Nat) (cs:Array Value),wr.heap[x]? = some (Obj.cells cs 9 (0,0))->w7.heap[x]? = wr.heap[x]?) :
  jK w7 j (.slice (some ⟨g,0,none⟩) (Bs.length+1) z) (Bs ++ [b]) (g::(o.flatMap ownB++ownB (v1,D))):=by
 have F:∀v n xs,wr.ownsRow j 9 1 v n xs->w7.ownsRow j 9 1 v n xs:=λv n xs A=>bC A λq U=>by
  obtain⟨_,_,I,Q⟩:=aH A U;exact R q _ Q
 refine⟨o ++ [(v1,D)],by simp[G],?_,?_,λi H A=>?_⟩
 ·rw[flatMap_append];simp[Value.ownBlock]
 ·rw[GA _ _ G,length_append];exact Z
 ·by_cases e:i<Bs.length
  ·rw[getElem_append_left e,getElem_append_left fM];obtain⟨W,Y⟩:=V i e fM;exact⟨F _ _ _ W,F _ _ _ Y⟩
  ·have J:i=Bs.length:=by simp at H;omega
   subst J;rw[getElem_append_right (le_refl _),getElem_append_right fM];simp only[G,sub_self,getElem_cons_zero];exact⟨F _ _ _ K,F _ _ _ O⟩
theorem fE.blocks{w wr z:World}{q O J:Nat}{S:List Sr}{d:Dk}{Bs A:List Bk}{o keep:Int}{vB R:Value}{G F H D:List Nat}(h:fE w wr q O J S d Bs o keep vB G F H)(Q:Kept (q::H) wr z)(ϋ:z.heap[q]? = some (.cells #[.pointer (some ⟨O,0,none⟩),.pointer (some ⟨J,0,none⟩),.int .i64 o,.int .i64 keep,R] 141 (0,0)))(û:jK z w.heap.size R A D)(Z:∀x,x∈D->x∈H\/wr.heap.size<=x):fE w z q O J S d A o keep R G F D:=by
 have V:∀x,x∈G\/x∈F->x∉q::H:=λx j I=>by
  rcases mem_cons.1 I with rfl|I
  ·rcases j with j|j
   ·exact h.sG j
   ·exact h.sF j
  ·rcases j with j|j
   ·exact h.gH x j I
   ·exact h.fH x j I
 have K:∀x,x<wr.heap.size->x∉H->x∉D:=λx j W Y=>by
  rcases Z x Y with U|U
  ·exact W U
  ·omega
 have Ü:∀x,x∈q::H->w.heap.size<=x:=λx j=>by
  rcases mem_cons.1 j with rfl|j
  ·exact h.low
  ·exact (h.uZ.mem j).1
 exact
  {blk:=ϋ
   low:=h.low
   hd:=h.hd.kept Q λx j=>V x (.inl j)
   dk:=h.dk.same (h.aI.trans (Q.below h.aI.size Ü)) λx j=>Q.block x (h.dk.mem j).2 (V x (.inr j))
   uZ:=û
   sG:=h.sG
   sF:=h.sF
   sH:=K q (aC h.blk) h.sH
   gF:=h.gF
   gH:=λx j=>K x (h.hd.lt j) (h.gH x j)
   fH:=λx j=>K x (h.dk.mem j).2 (h.fH x j) }
theorem Kept.sub{S T:List Nat}{w z:World}(h:Kept S w z)(q:∀x,x∈S->x∈T):Kept T w z:=⟨h.os,h.tape,h.output,h.size,λx A o=>h.block x A λj=>o (q x j)⟩
theorem fE.lay{w z W w7:World}{o hb db:Nat}{S:List Sr}{d:Dk}{Bs:List Bk}{I keep:Int}{A:Value}{G F H:List Nat}(h:fE w z o hb db S d Bs I keep A G F H)(J:Below z.heap.size z W){D:List (Value×Value)}(hl:D.length=Bs.length)(Q:H=A.ownBlock.toList++D.flatMap ownB)
  (hr:∀i (U:i<Bs.length) (Y:i<D.length),z.ownsRow w.heap.size 9 1 D[i].1 Bs[i].2.2.length ((Bs[i].2.2.map Prod.fst).map encStr)/\z.ownsRow w.heap.size 9 1 D[i].2 Bs[i].2.2.length ((Bs[i].2.2.map λr=>dZ r.2).map encStr))
  (ho:z.ownsRow w.heap.size 114 4 A Bs.length (bM Bs D)) (b:Bk) (v1 O:Value) (h1:W.ownsRow z.heap.size 9 1 v1 b.2.2.length ((b.2.2.map Prod.fst).map encStr)) (h2:W.ownsRow z.heap.size 9 1 O b.2.2.length ((b.2.2.map λr=>dZ r.2).map encStr))
  {g q:Nat} (ό:w7.ownsRow w.heap.size 114 4 (.slice (some ⟨g,0,none⟩) (Bs.length+1) q) (Bs.length+1) (bM Bs D ++ [.int .i64 b.1,.int .i64 b.2.1,v1,O])) (Ċ:W.grownBy w7 A.ownBlock) (Ê:A.ownBlock=some g\/g=W.heap.size) :
  ∃H',fE w (w7.setCell ⟨o,4,none⟩ (.slice (some ⟨g,0,none⟩) (Bs.length+1) q)) o hb db S d (Bs ++ [b]) I keep (.slice (some ⟨g,0,none⟩) (Bs.length+1) q) G F H'/\Kept (o::A.ownBlock.toList) z (w7.setCell ⟨o,4,none⟩ (.slice (some ⟨g,0,none⟩) (Bs.length+1) q))/\∀x,x∈H'->x∈H\/z.heap.size<=x:=by
 have ZO:=lt_of_lt_of_le (aC h.blk) J.size;have ũ:some o≠A.ownBlock:=λe=>h.sH (by rw[Q,<-e];simp)
 have V:=(Ċ.block o ZO ũ).trans ((J.block o (aC h.blk)).trans h.blk);have K:∀(x:Nat) (cs:Array Value),W.heap[x]? = some (Obj.cells cs 9 (0,0))->w7.heap[x]? = W.heap[x]?:=λx cs j=>Ċ.block x (Array.getElem?_eq_some_iff.1 j).1 λe=>by
  obtain⟨_,ϗ,cur,hc⟩:=aH ho e.symm;rw[J.block x ϗ,hc] at j;injection j with j;injection j with _ j;revert j;decide
 have û:=jK.snoc (wr:=W) (w7:=w7) hl (λi U Y=>⟨aX (hr i U Y).1 J,aX (hr i U Y).2 J⟩) b v1 O (iC h1 h.aI.size) (iC h2 h.aI.size) ό K;have Z:∀x,x∈g::(D.flatMap ownB++ownB (v1,O))->x∈H\/z.heap.size<=x:=λx j=>by
  rcases mem_cons.1 j with rfl|j
  ·rcases Ê with e|e
   ·exact .inl (by rw[Q,e];simp)
   ·have:=J.size;exact .inr fM
  ·rcases mem_append.1 j with j|j
   ·exact .inl (by rw[Q];exact mem_append.2 (.inr j))
   ·rcases mem_append.1 j with j|j
    ·exact .inr (uY h1 j).1
    ·exact .inr (uY h2 j).1
 have Ķ:o∉g::(D.flatMap ownB++ownB (v1,O)):=λj=>by
  rcases Z o j with h3|h3
  ·exact h.sH h3
  ·have:=aC h.blk;omega
 have á:∀x,x≠o->(w7.setCell ⟨o,4,none⟩ (.slice (some ⟨g,0,none⟩) (Bs.length+1) q)).heap[x]? = w7.heap[x]?:=λx j=>Below.heap_setCell _ _ _ _ (by show x≠o;exact j)
 have R:Kept (o::A.ownBlock.toList) z (w7.setCell ⟨o,4,none⟩ (.slice (some ⟨g,0,none⟩) (Bs.length+1) q)):=by
  refine (((Kept.of_below J).trans (Kept.grown (S:=A.ownBlock.toList) Ċ λk R=>by rw[R];simp) λx j=>.inl (mem_cons_of_mem _ j)).setCell (p:=⟨o,4,none⟩) (.inl (mem_cons_self ..)) _)
 refine⟨_,h.blocks (R.sub λx j=>?_) ((dw V 4 _).trans rfl) (û.same λx j=>á x λe=>Ķ (e ▸ j)) Z,R,Z⟩
 ·rcases mem_cons.1 j with e|e
  ·exact mem_cons.2 (.inl e)
  ·exact mem_cons_of_mem _ (by rw[Q];exact mem_append.2 (.inl e))
theorem AQ{w:World}{o:Nat}{e:TypeId}{D:Nat}{g n z:Nat}{xs:List Value}(h:w.ownsRow o e D (.slice (some ⟨g,0,none⟩) n z) n xs):∀j u,xs[j]? = some u->w.cell? ((⟨g,0,none⟩:Addr).add j)=some u:=λj u q=>by
 rcases h.2 with⟨hv,_⟩|⟨g',cap',cur,hv,_,hh,_,_,_,hc⟩
 ·cases hv
 ·injection hv with hv _ _;injection hv with hv;injection hv with hv;subst hv;rw[Addr.add_lit,zero_add];have A:w.cell? ⟨g,j,none⟩=cur[j]?:=by simp[World.cell?,hh]
  rw[A,<-Array.getElem?_toList];rw[<-hc] at q;rw[List.getElem?_take] at q;split at q
  ·exact q
  ·cases q
theorem LK(w:World)(o:Nat)(v:Value)(n:Nat)(ss:List (List UInt8))(F:n=ss.length)(h:w.ownsRow o 9 1 v n (ss.map encStr))(hl:n<=10000):
  Calls prog 81 #[v] w λe w'=>∃v',e = .returned v'/\w'.ownsRow w.heap.size 9 1 v' n (ss.map encStr)/\Below w.heap.size w w':=by
 rcases h.2 with⟨rfl,h0⟩|⟨g,cap,cur,rfl,_⟩
 ·have Y:∀w,(binOp .eql 22 (.slice none 0 0) (.slice none 0 0)).run prog w = .ok (.bool true) w:=λw=>Lib.run_eql_slice_nil w _ _ none 0 0 0 0 underlying22
  have V:ss.map encStr = []:=by rw[eq_nil_of_length_eq_zero (F.symm.trans h0)];rfl
  rw[V,h0];go_enter func81,ntmps81;go_wp2;go_ret;exact⟨_,rfl,⟨rfl,.inl ⟨rfl,rfl⟩⟩,Below.refl _ _⟩
 ·have Y:∀w,(binOp .eql 22 (.slice (some ⟨g,0,none⟩) n cap) (.slice none 0 0)).run prog w = .ok (.bool false) w:=λw=>Lib.run_eql_slice_nil w _ _ (some ⟨g,0,none⟩) n cap 0 0 underlying22
  obtain⟨W,H,z,A,D⟩:=info_parts Tryz.infoStr2;have K:=ϱ H;have J:Hid (∀j u,(ss.map encStr)[j]? = some u->(w.alloc (.cells #[] 9)).cell? ((⟨g,0,none⟩:Addr).add j)=some u):=λj u R=>Lib.cell?_alloc_some _ (AQ h j u R)
  have I:Hid (∀u∈ss.map encStr,u.oneCell'=true):=λu U=>by obtain⟨x,_,rfl⟩:=mem_map.1 U;rfl
  have O:Hid ((ss.map encStr).length=n*1):=by show _=_;rw[length_map,Nat.mul_one,F]
  have Q:Hid ((w.alloc (.cells #[] 9)).ownsRow w.heap.size 9 1 (.slice (some ⟨w.heap.size,0,none⟩) 0 0) 0 []):=World.ownsRow_made w #[] 0 (le_refl _) (zero_le _) rfl;clear h H F;go_enter func81,ntmps81;go_wp2_with (at_builtin;refine mh rfl _ _ 22 rfl w.heap.size 9 W (.string ⟨#[]⟩) 1 16 underlying22 K.out z A D rfl lJ _ _ _ rfl Q.out _ n cap (ss.map encStr) rfl O.out (Or.inr ⟨g,0,rfl,J.out⟩) I.out fM lJ rQ ?_);intro v' w1 Z q _;have G:Hid (w1.ownsRow w.heap.size 9 1 v' n (ss.map encStr)/\Below w.heap.size w w1):=by
   refine⟨by simpa using Z,((Below.refl _ _).alloc (le_refl _) _).trans ⟨q.os,q.tape,q.output,q.size,λb hb=>q.block b oI λe=>?_⟩⟩;simp[Value.ownBlock] at e;omega
  go_wp2;go_ret;exact⟨v',rfl,G.out.1,G.out.2⟩
theorem Yf(w:World)(g o n q:Nat)(z:List Value)(Y:z.length=n*4)(V:∀j u,z[j]? = some u->w.cell? ((⟨g,o,none⟩:Addr).add j)=some u)(R:∀u∈z,u.oneCell'=true)(hl:n<=10000):
  Calls prog 102 #[.slice (some ⟨g,o,none⟩) n q] w λe w'=>∃v',e = .returned v'/\w'.ownsRow w.heap.size 114 4 v' n z/\Below w.heap.size w w':=by
 have q0:∀w,(binOp .eql 111 (.slice (some ⟨g,o,none⟩) n q) (.slice none 0 0)).run prog w = .ok (.bool false) w:=λw=>Lib.run_eql_slice_nil w _ _ (some ⟨g,o,none⟩) n q 0 0 underlying111
 obtain⟨Z,U,D,F,G⟩:=info_parts Tryz.infoBk;have K:=ϱ U;have J:Hid (∀j u,z[j]? = some u->(w.alloc (.cells #[] 114)).cell? ((⟨g,o,none⟩:Addr).add j)=some u):=λj u W=>Lib.cell?_alloc_some _ (V j u W)
 have I:=ϱ R;have O:=ϱ Y;have Q:Hid ((w.alloc (.cells #[] 114)).ownsRow w.heap.size 114 4 (.slice (some ⟨w.heap.size,0,none⟩) 0 0) 0 []):=World.ownsRow_made w #[] 0 (le_refl _) (zero_le _) rfl;go_enter func102,ntmps102;go_wp2_with (at_builtin;refine mh rfl _ _ 111 rfl w.heap.size 114 Z (.agg #[.int .i64 0,.int .i64 0,.slice none 0 0,.slice none 0 0]) 4 64 underlying111 K.out D F G rfl lJ _ _ _ rfl Q.out _ n q z rfl O.out (Or.inr ⟨g,o,rfl,J.out⟩) I.out fM lJ rQ ?_);intro v' w1 ό A _;have H:Hid (w1.ownsRow w.heap.size 114 4 v' n z/\Below w.heap.size w w1):=by
  refine⟨by simpa using ό,((Below.refl _ _).alloc (le_refl _) _).trans ⟨A.os,A.tape,A.output,A.size,λb hb=>A.block b oI λe=>?_⟩⟩;simp[Value.ownBlock] at e;omega
 go_wp2;go_ret;exact⟨v',rfl,H.out.1,H.out.2⟩
theorem AR:∀(m:Nat) (Bs:List Bk) (j:List (Value×Value)),j.length=Bs.length->(bM Bs j).drop (m*4)=bM (Bs.drop m) (j.drop m)
 | 0,_,_,_=>rQ
 | m+1,[],[],_=>by simp[bM]
 | _+1,[],_::_,h=>by cases h
 | _+1,_::_,[],h=>by cases h
 | m+1,a::Bs,u::j,h=>by
  have:=AR m Bs j (by simpa using h);rw[drop_succ_cons,drop_succ_cons,<-this,show (m+1)*4=m*4+4 by omega];rfl
theorem Ct:∀(Bs:List Bk) (o:List (Value×Value)),(∀v,v∈o->v.1.oneCell'=true/\v.2.oneCell'=true)->∀u∈bM Bs o,u.oneCell'=true
 | [],_,_,u,j=>by simp[bM] at j
 | _::_,[],_,u,j=>by simp[bM] at j
 | a::Bs,v::o,h,u,j=>by
  have q:=h v (mem_cons_self ..);have e:bM (a::Bs) (v::o) = [.int .i64 a.1,.int .i64 a.2.1,v.1,v.2]++bM Bs o:=rfl;rw[e] at j;rcases mem_append.1 j with j|j
  ·simp at j;rcases j with rfl|rfl|rfl|rfl
   ·rfl
   ·rfl
   ·exact q.1
   ·exact q.2
  ·exact Ct Bs o (λv z=>h v (mem_cons_of_mem _ z)) u j
theorem VJ{w:World}{j:Nat}{e:TypeId}{o:Nat}{v:Value}{n:Nat}{xs:List Value}(h:w.ownsRow j e o v n xs):v.oneCell'=true:=by
 obtain⟨a,c,rfl⟩:=bB h;rfl
theorem jK.one{wr:World}{j:Nat}{Bs:List Bk}{o:List (Value×Value)}(G:o.length=Bs.length)(F:∀i (q:i<Bs.length) (z:i<o.length),wr.ownsRow j 9 1 o[i].1 Bs[i].2.2.length ((Bs[i].2.2.map Prod.fst).map encStr)/\wr.ownsRow j 9 1 o[i].2 Bs[i].2.2.length ((Bs[i].2.2.map λr=>dZ r.2).map encStr)):∀v,v∈o->v.1.oneCell'=true/\v.2.oneCell'=true:=λv z=>by
 obtain⟨i,q,rfl⟩:=getElem_of_mem z;obtain⟨A,D⟩:=F i fM q;exact⟨VJ A,VJ D⟩
theorem R9(w wr:World)(o hb db:Nat)(S:List Sr)(d:Dk)(Bs:List Bk)(D:Int)(keep:Nat)(vB:Value)(G F H:List Nat)(h:fE w wr o hb db S d Bs D (keep:Int) vB G F H)(hk:1<=keep/\keep<=1000)(hn:Bs.length<=10000):
  Calls prog 69 #[.pointer (some ⟨o,0,none⟩)] wr λe w'=>e = .returned (.tuple #[])/\∃pG R,fE w w' o hb db S d (Bs.drop (Bs.length-keep)) D (keep:Int) pG G F R/\Kept [o] wr w'/\∀x,x∈R->x∈H\/wr.heap.size<=x:=by
 obtain⟨Q,Y,pI,Z,ë⟩:=h.uZ.ex;obtain⟨aB,cB,rfl⟩:=bB Z;obtain⟨J,W⟩:=bF Bs.length;have U:=ϱ h;have x3:=ak h.blk 3;have x4:wr.cell? ⟨o,4,none⟩=some (.slice aB J cB):=by rw[W];exact ak h.blk 4
 rw[<-W] at Z hn;by_cases ã:J<=keep
 ·have aL:Hid (∀q,fE w (wr.drewN q) o hb db S d (Bs.drop (Bs.length-keep)) D (keep:Int) (.slice aB Bs.length cB) G F H/\Kept [o] wr (wr.drewN q)):=λq=>by
   have V:Below wr.heap.size wr (wr.drewN q):=below_draws (Below.refl _ _) q;refine⟨?_,Kept.of_below V⟩;rw[show Bs.length-keep=0 by omega,drop_zero];exact h.below V
  obtain⟨t,ht⟩:=bF ((J:Int)-keep:Int);have e1:IntKind.i64.wrap ((J:Int)-(keep:Int))=t:=by rw[ht];exact IntWalk.i64_in _ fM
  have d1:decide ((0:Int)<t)=false:=decide_eq_false fM;go_enter func69,ntmps69;go_wp2_with fail;go_quiet (fail);go_wp2;go_end0;exact⟨rfl,_,H,(aL.out _).1,(aL.out _).2,λx A=>.inl A⟩
 ·obtain⟨m,hm⟩:∃m,J=m+keep:=⟨J-keep,fM⟩;have Ţ:0<m:=fM;obtain⟨g,rfl,hcB⟩:∃g,aB=some ⟨g,0,none⟩/\J<=cB:=by
   rcases Z.2 with⟨I,_⟩|⟨g,O,cur,I,_,_,hl,_⟩
   ·injection I with _ I _;omega
   ·injection I with ÿ _ ŉ;exact⟨g,ÿ,fM⟩
  have ſ:=AQ Z;have hdl:(bM (Bs.drop m) (Q.drop m)).length=keep*4:=by
   rw[Cr _ _ (by simp[Y]),length_drop,<-W];omega
  have hdc:∀z,Below wr.heap.size wr z->∀j u,(bM (Bs.drop m) (Q.drop m))[j]? = some u->z.cell? ((⟨g,m*4,none⟩:Addr).add j)=some u:=λz hz j u hj=>by
   rw[<-AR m Bs Q Y,List.getElem?_drop] at hj;have h1:=ſ (m*4+j) u hj;rw[Addr.add_lit,zero_add] at h1;rw[Addr.add_lit];exact (hz.cell (p:=⟨g,m*4+j,none⟩) (World.block_lt_of_cell? wr ⟨g,_,none⟩ h1)).trans h1
  have LA:Hid (∀q O,Calls prog 102 #[.slice (some ⟨g,m*4,none⟩) keep O] (wr.drewN q) λe w'=>∃v',e = .returned v'/\w'.ownsRow wr.heap.size 114 4 v' keep (bM (Bs.drop m) (Q.drop m))/\Below wr.heap.size wr w'):=λq O=>by
   have V:Below wr.heap.size wr (wr.drewN q):=below_draws (Below.refl _ _) q;refine (Yf (wr.drewN q) g (m*4) keep O _ hdl (hdc _ V) (Ct _ _ λv I=>jK.one Y ë v (mem_of_mem_drop I)) fM).mono ?_;rintro e w' ⟨v',rfl,h3,h4⟩;exact⟨v',rfl,h3,V.trans h4⟩
  have e1:IntKind.i64.wrap ((J:Int)-(keep:Int))=(m:Int):=by rw[IntWalk.i64_in _ fM];omega
  have d1:=decide_eq_true fM;have QW:=ϱ (And.intro Y (And.intro pI (And.intro ë W)));have m0:(0:Int)<=m:=fM;have m1:(m:Int)<=J:=fM;have m5:J-m=keep:=fM;clear h Z ë Y pI ã ſ hdl hdc W hm;go_enter func69,ntmps69;go_wp2_with fail;go_quiet (fail);go_wp2_with fail;refine Calls.mono (LA.out _ _) ?_;rintro e w1 ⟨v',rfl,ğ,ώ⟩;obtain⟨a',K,hv'⟩:=bB ğ;subst hv';have Õ:=(ώ.block _ (aC U.out.blk)).trans U.out.blk;have y4:=ak Õ 4;simp at y4;have yf:=aA Õ 4;have aL:Hid (∃R,fE w (w1.setCell ⟨o,4,none⟩ (.slice a' keep K)) o hb db S d (Bs.drop (Bs.length-keep)) D (keep:Int) (.slice a' keep K) G F R/\Kept [o] wr (w1.setCell ⟨o,4,none⟩ (.slice a' keep K))/\∀x,x∈R->x∈H\/wr.heap.size<=x):=by
   obtain⟨Y,pI,ë,W⟩:=QW.out;have ϖ:=U.out;have hem:Bs.length-keep=m:=fM;rw[hem];have ϓ:Kept [o] wr (w1.setCell ⟨o,4,none⟩ (.slice a' keep K)):=(Kept.of_below ώ).setCell (p:=⟨o,4,none⟩) (.inl (mem_singleton.2 rfl)) _;have á:∀x,x≠o->(w1.setCell ⟨o,4,none⟩ (.slice a' keep K)).heap[x]? = w1.heap[x]?:=λx A=>Below.heap_setCell _ _ _ _ (by show x≠o;exact A)
   have Á:∀x,x∈(Value.slice a' keep K).ownBlock.toList++(Q.drop m).flatMap ownB->x∈H\/wr.heap.size<=x:=λx A=>by
    rcases mem_append.1 A with A|A
    ·exact .inr (uY ğ A).1
    ·refine .inl ?_;rw[pI];refine mem_append.2 (.inr ?_);obtain⟨v,I,V⟩:=mem_flatMap.1 A;exact mem_flatMap.2 ⟨v,mem_of_mem_drop I,V⟩
   have Ķ:o∉(Value.slice a' keep K).ownBlock.toList++(Q.drop m).flatMap ownB:=λA=>by
    rcases Á o A with h3|h3
    ·exact ϖ.sH h3
    ·have:=aC ϖ.blk;omega
   have û:jK w1 w.heap.size (.slice a' keep K) (Bs.drop m) ((Value.slice a' keep K).ownBlock.toList++(Q.drop m).flatMap ownB):=by
    refine⟨Q.drop m,by simp[Y],rfl,?_,λi hi I=>?_⟩
    ·have e:(Bs.drop m).length=keep:=by rw[length_drop,<-W];omega
     rw[e];exact iC ğ ϖ.aI.size
    ·simp only[getElem_drop];obtain⟨r1,r2⟩:=ë (m+i) (by rw[length_drop] at hi;omega) (by rw[length_drop] at I;omega);exact⟨aX r1 ώ,aX r2 ώ⟩
   exact⟨_,ϖ.blocks (ϓ.sub λx A=>mem_cons.2 (.inl (mem_singleton.1 A))) ((dw Õ 4 _).trans rfl) (û.same λx A=>á x λe=>Ķ (e ▸ A)) Á,ϓ,Á⟩
  go_wp2;go_end0;obtain⟨R,q⟩:=aL.out;exact⟨rfl,_,R,q⟩
noncomputable def oV:List E->Dk->Dk×Int×Int
 | [],d=>(d,0,-1)
 | e::es,d=>if 0<ku d e.1 e.2.1 e.2.2 then (nQ d e.1 e.2.1 e.2.2,ku d e.1 e.2.1 e.2.2,JX e.1 e.2.1) else oV es (nQ d e.1 e.2.1 e.2.2)
theorem LM{es o:List E}{d j:Dk}(h:oV es d=(j,0,-1)):oV (es++o) d=oV o j:=by
 induction es generalizing d with
 | nil=>
  rw[oV] at h;injection h with h _;rw[nil_append,h]
 | cons e es ih=>
  rw[oV] at h;rw[cons_append,oV];split at h
  ·rename_i q;injection h with _ h;injection h with h _;omega
  ·rename_i q;rw[if_neg q];exact ih h
def fF(L:List Rw):List E:=L.flatMap λr=>r.2.map λp=>(r.1,p.1,p.2)
theorem aa4(L:List Rw)(r:Rw):fF (L ++ [r])=fF L++r.2.map λp=>(r.1,p.1,p.2):=by simp[fF]
theorem ags(L:List Rw)(k:Nat)(I:k<L.length)(q:Nat)(J:q<L[k].2.length):fF L=(fF (L.take k)++(L[k].2.take q).map λp=>(L[k].1,p.1,p.2))++((L[k].1,L[k].2[q].1,L[k].2[q].2)::((L[k].2.drop (q+1)).map λp=>(L[k].1,p.1,p.2))++fF (L.drop (k+1))):=by
 have z:L=L.take k++(L[k]::L.drop (k+1)):=by rw[getElem_cons_drop,take_append_drop]
 have o:∀A C:List Rw,fF (A++C)=fF A++fF C:=λA C=>flatMap_append ..
 have D:fF L=fF (L.take k)++fF (L[k]::L.drop (k+1)):=by rw[<-o,<-z]
 have F:fF (L[k]::L.drop (k+1))=(L[k].2.map λp=>(L[k].1,p.1,p.2))++fF (L.drop (k+1)):=flatMap_cons ..;have G:(L[k].2.map λp=>(L[k].1,p.1,p.2))=(L[k].2.take q).map (λp=>(L[k].1,p.1,p.2))++((L[k].1,L[k].2[q].1,L[k].2[q].2)::(L[k].2.drop (q+1)).map λp=>(L[k].1,p.1,p.2)):=by
  have H:L[k].2=L[k].2.take q++(L[k].2[q]::L[k].2.drop (q+1)):=by rw[getElem_cons_drop,take_append_drop]
  have j:=congrArg (List.map λp:Int×Nat=>(L[k].1,p.1,p.2)) H;rw[map_append,map_cons] at j;exact j
 rw[D,F,G];simp only[append_assoc,cons_append]
noncomputable def OV(es:List E)(d:Dk):Dk:=if d.off=true then d else (oV es ⟨[],false,d.waits,d.left⟩).1
noncomputable def Jp(es:List E)(d:Dk):Int:=if d.off=true then 10 else (oV es ⟨[],false,d.waits,d.left⟩).2.1
noncomputable def Sb(es:List E)(d:Dk):Int:=if d.off=true then -1 else (oV es ⟨[],false,d.waits,d.left⟩).2.2
def Yg(ea:Nat->Addr)(w wr:World)(sb hb db:Nat)(S:List Sr)(d':Dk)(Bs:List Bk)(span keep:Int)(vB:Value)(G F H:List Nat)(C A:Int)(e:Ending)(w':World):Prop:=
 ∃v F',e = .returned v/\aM ea w' v C A/\fE w w' sb hb db S d' Bs span keep vB G F' H/\Kept F wr w'/\∀x,x∈F'->x∈F\/wr.heap.size<=x
theorem Yh{B:Nat}{ea:Nat->Addr}(w V:World)(E0:xH B ea w)(hB:B<=w.heap.size)(sb R O:Nat)(S:List Sr)(d:Dk)(Bs:List Bk)(D keep:Int)(vB:Value)(G F H:List Nat)(h:fE w V sb R O S d Bs D keep vB G F H)(hn:S.length<=1000)(hc:bV S<=1000)(L:List Rw)(hL:L=rM 1099511627776 S):
  Calls prog 70 #[.agg #[.pointer (some ⟨R,0,none⟩),.pointer (some ⟨O,0,none⟩)]] V λe w'=>Yg ea w V sb R O S (OV (fF L) d) Bs D keep vB G F H (Jp (fF L) d) (Sb (fF L) d) e w':=by
 obtain⟨W1,ä⟩:=bF (V.alloc (.cells #[.pointer (some ⟨R,0,none⟩),.pointer (some ⟨O,0,none⟩)] 137));have Ϗ:Below V.heap.size V W1:=by rw[ä];exact (Below.refl _ _).alloc (le_refl _) _
 have ŭ:W1.heap[V.heap.size]? = some (.cells #[.pointer (some ⟨R,0,none⟩),.pointer (some ⟨O,0,none⟩)] 137 (0,0)):=by rw[ä];exact heap_alloc_new _ _
 have wB:=h.below Ϗ;have x0:=ak ŭ 0;have x1:=ak ŭ 1;simp at x0 x1;have tQ:∀x,x∈F->x<V.heap.size:=λx z=>(h.dk.mem z).2
 have HW1:=ϱ ä;have bQ:=ϱ Ϗ;have oU:=ϱ ŭ;have HST:=ϱ wB;have HE:=ϱ E0;by_cases Y:d.off=true
 ·have LA:=ϱ (RU w W1 (E0.w.below wB.aI hB) O d F wB.dk Y);have HF:Hid (OV (fF L) d=d/\Jp (fF L) d=10/\Sb (fF L) d = -1):=⟨if_pos Y,if_pos Y,if_pos Y⟩;clear ä Ϗ ŭ wB h E0 hL;go_enter func70,ntmps70;go_upto_region 1 with fail;rw[<-HW1.out];go_wp2_with fail;refine Calls.mono LA.out ?_;rintro e w2 ⟨rfl,Ë⟩;have ė:=Ë.symm;subst ė;go_wp2;go_ret;obtain⟨f1,f2,f3⟩:=HF.out;rw[f1,f2,f3];exact⟨_,F,rfl,.es 9 lJ lJ,HST.out,Kept.of_below bQ.out,λx z=>.inl z⟩
 ·have Θ:d.off=false:=by simpa using Y
  obtain⟨U,ū⟩:=bF (⟨[],false,d.waits,d.left⟩:Dk);have LA:=ϱ (adr w W1 O d F wB.dk Θ);rw[<-ū] at LA;have HF:Hid (OV (fF L) d=(oV (fF L) U).1/\Jp (fF L) d=(oV (fF L) U).2.1/\Sb (fF L) d=(oV (fF L) U).2.2):=by
   rw[ū];exact⟨if_neg Y,if_neg Y,if_neg Y⟩
  have HD1:Hid (U.L.length<=65536):=by show _<=_;rw[ū];exact zero_le _
  have HL:=ϱ hL;clear ä Ϗ ŭ wB h E0 hL ū Y Θ;go_enter func70,ntmps70;go_upto_region 1 with fail;rw[<-HW1.out];go_wp2_with fail;refine Calls.mono LA.out ?_;rintro e w2 ⟨rfl,ś,È⟩;have ajj:=HST.out.disk ś È (λx z=>.inl z);have ı:=(È.block _ (aC oU.out) (λz=>by have:=tQ _ z;omega)).trans oU.out;have y0:=ak ı 0;simp at y0;have jN:=ϱ (Gs w w2 R S G ajj.hd hn);have ajk:=ϱ ajj;have uT:=ϱ ı;have FQ:=ϱ ((Kept.of_below (S:=F) bQ.out).trans È λx z=>.inl z);go_wp2_with fail;refine Calls.mono jN.out ?_;rintro e w3 ⟨v3,rfl,Ϛ,Ŀ⟩;obtain⟨a5,OB,rfl⟩:=bB Ŀ;have ì:L.map Prod.fst=bZ S:=by rw[HL.out];unfold rM;rw[map_map];exact map_id _
  have EO:L.length=(bZ S).length:=by rw[<-ì,length_map]
  have hLk:∀k (hk:k<L.length),L[k].2=bN 0 1099511627776 (fG S L[k].1)/\∃l,l∈S/\l.key=L[k].1:=λk hk=>by
   have hL:=HL.out;subst hL;refine⟨by simp[rM],?_⟩;have:(rM 1099511627776 S)[k].1∈bZ S:=by rw[<-ì];exact mem_map.2 ⟨_,getElem_mem hk,rfl⟩
   obtain⟨l,hl,hk',_⟩:=ig.1 this;exact⟨l,hl,hk'⟩
  rw[<-EO,<-ì] at Ŀ;rw[<-EO];obtain⟨n,Ϝ⟩:=bF L.length;rw[<-Ϝ] at Ŀ ⊢;have Ù:n<=1000:=by
   rw[Ϝ,EO];exact le_trans (by unfold bZ;rw[length_map];exact length_filter_le _ _) hn
  have HN:=ϱ Ϝ;have Rt:=ϱ hLk;have K9:=ϱ Ŀ;have aoC:=ϱ (ajk.out.below Ϛ);have HX3:=ϱ ((Ϛ.block _ (aC uT.out)).trans uT.out);have yw:=ϱ (FQ.out.trans (Kept.of_below (S:=[]) Ϛ) (λx z=>by cases z));have ajm:=ϱ (aC uT.out);clear Ϛ Ŀ ì EO hLk Ϝ y0 jN ajk;go_wp2_with fail;go_loopw [19] (λi wr=>∃(k:Nat) (d':Dk) (Q:List Nat),k<=n/\i = .int .i64 (k:Int)/\fE w wr sb R O S d' Bs D keep vB G Q H/\oV (fF (L.take k)) U=(d',0,-1)/\Kept F w3 wr/\(∀x,x∈Q->x∈F\/w3.heap.size<=x)/\d'.L.length<=65536) (λi _=>n-(intOf i).toNat);case atStart=>exact⟨0,U,F,zero_le _,rfl,aoC.out,rfl,Kept.refl _ _,λx z=>.inl z,HD1.out⟩
  case round=>
   obtain⟨wk,hwk⟩:=bF wr;subst hwk;obtain⟨k,d',Q,hk,rfl,ϖ,ů,Ŏ,hF',hdl⟩:=hrel;have AU:=ϱ ϖ;have HAP:=ϱ ů;have AL:=ϱ Ŏ;have KX:=ϱ hF';have hF3:∀x,x∈F->x<w2.heap.size:=λx z=>by have:=tQ x z;have:=ajm.out;omega
   have π:=(Ŏ.block _ (aC HX3.out) (λz=>by have:=tQ _ z;omega)).trans HX3.out;by_cases ϣ:k<n
   ·have BN:k<L.length:=by rw[<-HN.out];exact ϣ
    obtain⟨I,Þ⟩:=bF (⟨(L[k].1).toArray⟩:ByteArray);have hxd:I.data.toList=L[k].1:=by rw[Þ]
    have ϟ:wk.ownsRow w2.heap.size 9 1 (.slice a5 n OB) n ((L.map Prod.fst).map encStr):=bC K9.out λg hg=>Ŏ.block g (aH K9.out hg).2.1 λz=>by
     have A:=(aH K9.out hg).1;have h2:=hF3 g z;omega
    obtain⟨g5,e5,ĵ⟩:∃g5,a5=some ⟨g5,0,none⟩/\wk.cell? ⟨g5,k,none⟩=some (.string I):=by
     rcases ϟ.2 with⟨_,hz⟩|⟨g,cap,cur,hv,_,hh,_,_,hs,hc⟩
     ·omega
     ·injection hv with hv;refine⟨g,hv,?_⟩;have e1:wk.cell? ⟨g,k,none⟩=cur[k]?:=by simp[World.cell?,hh]
      have e2:cur[k]? = (cur.toList.take (n*1))[k]?:=by rw[List.getElem?_take_of_lt fM];simp
      rw[e1,e2,hc,Þ];simp[BN,encStr]
    subst e5;obtain⟨hP1,l,hl,Ö⟩:=Rt.out k BN;obtain⟨P,hP⟩:=bF (L[k].2);have â:I.size<=1000:=by
     have e:I.size=L[k].1.length:=by rw[Þ];simp[ByteArray.size]
     obtain⟨_,_,_,_,Ê⟩:=ϖ.hd.ex;have:=Ê.len l hl;rw[e,<-Ö];exact this
    have k0:(0:Int)<=k:=fM;have k1:(k:Int)<n:=fM;have y0:=ak π 0;simp at y0;have uX:=ϱ (Gt w wk R S G ϖ.hd hc I â 0 1099511627776);rw[hxd,<-hP1,<-hP] at uX;have Z:=ϱ (And.intro hP (And.intro hP1 hxd));have HX5:=ϱ π;clear ϖ ů Ŏ hF' Þ hxd ϟ hP1 hl Ö hP π;go_wp2_with fail;refine Calls.mono uX.out ?_;rintro e w4 ⟨v4,rfl,lT,Ϻ⟩;obtain⟨a4,c4,rfl,_,Cq,JL⟩:=gT lT;have X6:∀p,p∈P->p.2<18446744073709551616:=λp hp=>by
     rw[Z.out.1,Z.out.2.1] at hp;obtain⟨A,h2⟩:=mem_filter.1 hp;obtain⟨l',hl',hp'⟩:=Gx A;exact (AU.out.hd.well.Kj l' hl' p hp').2.2
    obtain⟨m,hm⟩:=bF P.length;have VF:m<=1000:=by
     rw[hm,Z.out.1,Z.out.2.1];exact le_trans (length_filter_le _ _) (le_trans (vg S _) hc)
    rw[<-hm] at lT ⊢;have HM:=ϱ hm;have R6:=ϱ (And.intro Cq JL);have jm:=ϱ Ϻ;have RP:=ϱ X6;have aoD:=ϱ (AU.out.below Ϻ);have HX4:=ϱ ((Ϻ.block _ (aC HX5.out)).trans HX5.out);have HA0:Hid (oV (fF (L.take k)++(P.take 0).map λp=>(L[k].1,p.1,p.2)) U=(d',0,-1)):=by
     show _=_;rw[take_zero,map_nil,append_nil];exact HAP.out
    go_wp2_with fail;go_loopw [28] (λj wr=>∃(q:Nat) (J:Dk) (F2:List Nat),q<=m/\j = .int .i64 (q:Int)/\fE w wr sb R O S J Bs D keep vB G F2 H/\oV (fF (L.take k)++(P.take q).map λp=>(L[k].1,p.1,p.2)) U=(J,0,-1)/\Kept Q w4 wr/\(∀x,x∈F2->x∈Q\/w4.heap.size<=x)/\J.L.length<=65536) (λj _=>m-(intOf j).toNat);case atStart=>exact⟨0,d',Q,zero_le _,rfl,aoD.out,HA0.out,Kept.refl _ _,λx z=>.inl z,hdl⟩
    case round=>
     obtain⟨q,J,F2,hq,rfl,Ϡ,haz,Ĥ,hF2,adE⟩:=hrel;have fQ:=ϱ Ϡ;have HAZ:=ϱ haz;have LG:=ϱ Ĥ;have uU:=ϱ hF2;have aoE:∀x,x∈Q->x<wk.heap.size:=λx z=>(AU.out.dk.mem z).2
     have JE:V.heap.size∉Q:=λz=>by
      rcases KX.out _ z with A|A
      ·have:=tQ _ A;omega
      ·have:=ajm.out;have:=aC HX3.out;omega
     have hx6:=(Ĥ.block _ (aC HX4.out) JE).trans HX4.out;by_cases hqm:q<m
     ·have E8:q<P.length:=by rw[<-HM.out];exact hqm
      obtain⟨t,ht⟩:=bF (P[q].1);obtain⟨u,hu⟩:=bF (P[q].2);have J2:P ≠ []:=λe=>by rw[e] at E8;exact absurd E8 (not_lt_zero _)
      obtain⟨g4,hg4,adv,R7⟩:=R6.out.2 J2;subst hg4;obtain⟨b',o',e',ϥ⟩:∃b o,some (⟨g4,0,none⟩:Addr)=some ⟨b,o,none⟩/\∀k (hk:k<P.length),w4.cell? ⟨b,o+k*2,none⟩=some (.int .i64 P[k].1)/\w4.cell? ⟨b,o+k*2+1,none⟩=some (.int .u64 (P[k].2:Int)):=by
       rcases R6.out.1 with h|h
       ·exact absurd h J2
       ·exact h
      injection e' with e';injection e' with e1 e2;subst e1 e2;obtain⟨c0,c1⟩:=ϥ q E8;have û:=Ĥ.block g4 R7 (λz=>by have:=aoE _ z;omega);have z0:wr.cell? ⟨g4,q*2,none⟩=some (.int .i64 t):=by
       rw[ht,<-c0];simp[World.cell?,û]
      have z1:wr.cell? ⟨g4,q*2+1,none⟩=some (.int .u64 (u:Int)):=by
       rw[hu,<-c1];simp[World.cell?,û]
      have q0:(0:Int)<=q:=fM;have q1:(q:Int)<m:=fM;obtain⟨Z1,W⟩:=bF (wr.alloc (.cells #[.int .i64 t,.int .u64 (u:Int)] 93));have ug:Below wr.heap.size wr Z1:=by rw[W];exact (Below.refl _ _).alloc (le_refl _) _
      have Jo:Z1.heap[wr.heap.size]? = some (.cells #[.int .i64 t,.int .u64 (u:Int)] 93 (0,0)):=by rw[W];exact heap_alloc_new _ _
      have x0:=ak Jo 0;have x1:=ak Jo 1;simp at x0 x1;have y1:=ak ((ug.block _ (aC hx6)).trans hx6) 1;simp at y1;have hut:u<18446744073709551616:=by rw[hu];exact RP.out _ (getElem_mem E8)
      have HDA:=ϱ (OL w HE.out.w hB Z1 O J F2 (Ϡ.below ug).dk adE I fM t u hut);have HZ1:Hid (∀wx,wx=wr.alloc (.cells #[.int .i64 t,.int .u64 (u:Int)] 93)->wx=Z1):=λwx h=>h.trans W.symm
      have gZ:=ϱ (Ϡ.below ug);have oG:=ϱ ug;have E9:=ϱ (And.intro ht (And.intro hu E8));have VG:=ϱ (take_succ_eq_append_getElem E8);clear Ϡ haz Ĥ hF2 ht hu J2 adv R7 ϥ c0 c1 û W ug Jo hx6;go_upto_region 10 with fail;rw[HZ1.out _ rfl];go_wp2_with fail;refine Calls.mono HDA.out ?_;rintro e w6 ⟨v6,F6,rfl,hf6,hd6,OW,hn6⟩;have ajp:=gZ.out.disk hd6 OW hn6;have ajq:=(LG.out.trans (Kept.of_below (S:=[]) oG.out) (λx z=>by cases z)).trans OW uU.out;have hF6:∀x,x∈F6->x∈Q\/w4.heap.size<=x:=λx z=>by
       rcases hn6 x z with A|A
       ·exact uU.out x A
       ·exact .inr (le_trans (le_trans LG.out.size oG.out.size) A)
      have Ϝ:=yg J I.data.toList t u;by_cases þ:ku J I.data.toList t u=0
      ·obtain rfl:=hf6.none þ;have K:Hid (fE w w6 sb R O S (nQ J I.data.toList t u) Bs D keep vB G F6 H/\oV (fF (L.take k)++(P.take (q+1)).map λp=>(L[k].1,p.1,p.2)) U=(nQ J I.data.toList t u,0,-1)/\Kept Q w4 w6/\(∀x,x∈F6->x∈Q\/w4.heap.size<=x)/\(nQ J I.data.toList t u).L.length<=65536):=by
        refine⟨ajp,?_,ajq,hF6,adq _ _ _ _ adE⟩;obtain⟨e1,e2,_⟩:=E9.out;rw[VG.out,map_append,<-append_assoc,LM HAZ.out,map_cons,map_nil,<-e1,<-e2,<-Z.out.2.2,oV,if_neg (by show ¬ 0<ku J I.data.toList t u;omega)];rfl
       go_wp2;go_roundw;case rel=>exact⟨q+1,_,F6,fM,rU,K.out.1,K.out.2.1,K.out.2.2.1,K.out.2.2.2.1,K.out.2.2.2.2⟩
       case measure=>simp[intOf]<;>omega
      ·obtain⟨tv,pv,rfl⟩:=mq hf6 þ;have K:Hid (Yg ea w V sb R O S (OV (fF L) d) Bs D keep vB G F H (Jp (fF L) d) (Sb (fF L) d) (.returned (.iface tv (.pointer (some pv)))) w6):=by
        obtain⟨e1,e2,e3⟩:=E9.out;have LH:k<L.length:=by rw[<-HN.out];exact ϣ
        have hent:fF L=(fF (L.take k)++(P.take q).map λp=>(L[k].1,p.1,p.2))++((I.data.toList,t,u)::((P.drop (q+1)).map λp=>(L[k].1,p.1,p.2))++fF (L.drop (k+1))):=by
         have hP:=Z.out.1;subst hP;have h9:=ags L k LH q e3;rw[Z.out.2.2,e1,e2];exact h9
        obtain⟨f1,f2,f3⟩:=HF.out;have happ:oV (fF L) U=(nQ J I.data.toList t u,ku J I.data.toList t u,JX I.data.toList t):=by
         rw[hent,LM HAZ.out,cons_append,oV,if_pos (by show 0<ku J I.data.toList t u;omega)]
        rw[f1,f2,f3,happ];refine⟨_,F6,rfl,hf6,ajp,((yw.out.trans AL.out λx z=>.inl z).trans (Kept.of_below (S:=[]) jm.out) (λx z=>by cases z)).trans ajq λx z=>?_,λx z=>?_⟩
        ·rcases KX.out x z with A|A
         ·exact .inl A
         ·exact .inr (le_trans yw.out.size A)
        ·rcases hF6 x z with A|A
         ·rcases KX.out x A with h2|h2
          ·exact .inl h2
          ·exact .inr (le_trans yw.out.size h2)
         ·exact .inr (le_trans (le_trans (le_trans yw.out.size AL.out.size) jm.out.size) A)
       go_wp2;go_ret;exact K.out
     ·obtain rfl:q=m:=fM;have K:Hid (oV (fF (L.take (k+1))) U=(J,0,-1)/\Kept F w3 wr/\∀x,x∈F2->x∈F\/w3.heap.size<=x):=by
       have LH:k<L.length:=by rw[<-HN.out];exact ϣ
       refine⟨?_,(AL.out.trans (Kept.of_below (S:=[]) jm.out) (λx z=>by cases z)).trans Ĥ KX.out,λx z=>?_⟩
       ·have jB:P.take q=P:=by rw[HM.out];exact take_length
        rw[take_succ_eq_append_getElem LH,aa4,<-Z.out.1];have A:=haz;rw[jB] at A;exact A
       ·rcases hF2 x z with A|A
        ·exact KX.out x A
        ·exact .inr (le_trans (le_trans AL.out.size jm.out.size) A)
      go_wp2;go_roundw;case rel=>exact⟨k+1,J,F2,fM,rU,fQ.out,K.out.1,K.out.2.1,K.out.2.2,adE⟩
      case measure=>simp[intOf]<;>omega
   ·obtain rfl:k=n:=fM;have jB:L.take k=L:=by rw[HN.out];exact take_length
    rw[jB] at ů;have K:Hid (Yg ea w V sb R O S (OV (fF L) d) Bs D keep vB G F H (Jp (fF L) d) (Sb (fF L) d) (.returned .nilIface) wk):=by
     obtain⟨f1,f2,f3⟩:=HF.out;rw[f1,f2,f3,ů];refine⟨_,Q,rfl,.inl ⟨rfl,rfl⟩,ϖ,yw.out.trans Ŏ λx z=>.inl z,λx z=>?_⟩;rcases hF' x z with A|A
     ·exact .inl A
     ·exact .inr (le_trans yw.out.size A)
    go_wp2;go_ret;exact K.out
theorem GH{z wr:World}{o:Nat}{J:Option Addr}{n cB:Nat}{Bs:List Bk}{q:List (Value×Value)}(Y:z.ownsRow o 114 4 (.slice J n cB) n (bM Bs q))(hn:n=Bs.length)(Ϯ:q.length=Bs.length)
  (ë:∀i (hi:i<Bs.length) (Q:i<q.length),z.ownsRow o 9 1 q[i].1 Bs[i].2.2.length ((Bs[i].2.2.map Prod.fst).map encStr)/\z.ownsRow o 9 1 q[i].2 Bs[i].2.2.length ((Bs[i].2.2.map λr=>dZ r.2).map encStr)) (O:Below z.heap.size z wr) (k:Nat) (W:k<Bs.length) :
  ∃g F H G I,J=some ⟨g,0,none⟩/\wr.cell? ⟨g,k*4,none⟩=some (.int .i64 Bs[k].1)/\wr.cell? ⟨g,k*4+1,none⟩=some (.int .i64 Bs[k].2.1)/\wr.cell? ⟨g,k*4+2,none⟩=some (.slice F Bs[k].2.2.length H)/\wr.cell? ⟨g,k*4+3,none⟩=some (.slice G Bs[k].2.2.length I) /\
   wr.ownsRow o 9 1 (.slice F Bs[k].2.2.length H) Bs[k].2.2.length ((Bs[k].2.2.map Prod.fst).map encStr)/\wr.ownsRow o 9 1 (.slice G Bs[k].2.2.length I) Bs[k].2.2.length ((Bs[k].2.2.map λr=>dZ r.2).map encStr):=by
 have A:k<q.length:=fM;obtain⟨g,rfl⟩:∃g,J=some ⟨g,0,none⟩:=by
  rcases Y.2 with⟨Q,h0⟩|⟨g,cap,cur,Q,_⟩
  ·omega
  ·injection Q with V _ _;exact⟨g,V⟩
 have Ϧ:=AQ Y;obtain⟨b0,b1,b2,b3⟩:=zG Bs q Ϯ k W A;have D:∀j u,(bM Bs q)[j]? = some u->wr.cell? ⟨g,j,none⟩=some u:=λj u hj=>by
  have K:=Ϧ j u hj;rw[Addr.add_lit,zero_add] at K;exact (O.cell (p:=⟨g,j,none⟩) (World.block_lt_of_cell? z ⟨g,_,none⟩ K)).trans K
 obtain⟨R,U⟩:=ë k W A;obtain⟨F,H,V⟩:=bB R;obtain⟨G,I,ŉ⟩:=bB U;have Z:=D _ _ b2;have y3:=D _ _ b3;rw[V] at Z R;rw[ŉ] at y3 U;exact⟨g,F,H,G,I,rfl,D _ _ b0,D _ _ b1,Z,y3,aX R O,aX U O⟩
theorem zK{w:World}{j:Nat}{a:Option Addr}{n c:Nat}{ss:List (List UInt8)}(h:w.ownsRow j 9 1 (.slice a n c) n (ss.map encStr))(k:Nat)(q:k<ss.length)(z:k<n):∃g,a=some ⟨g,0,none⟩/\w.cell? ⟨g,k,none⟩=some (.string ⟨ss[k].toArray⟩):=by
 obtain⟨g,rfl⟩:∃g,a=some ⟨g,0,none⟩:=by
  rcases h.2 with⟨hv,h0⟩|⟨g,cap,cur,hv,_⟩
  ·omega
  ·injection hv with ÿ _ _;exact⟨g,ÿ⟩
 have o:=AQ h k (encStr ss[k]) (by simp[q]);rw[Addr.add_lit,zero_add] at o;exact⟨g,rfl,o⟩
theorem Sc(w o:World)(sb hb db:Nat)(S:List Sr)(d:Dk)(Bs:List Bk)(span keep:Int)(vB:Value)(G F H:List Nat)(h:fE w o sb hb db S d Bs span keep vB G F H)(hn:Bs.length<=1000)(hl:∀b,b∈Bs->b.2.2.length<=1000):
  Calls prog 51 #[.pointer (some ⟨sb,0,none⟩)] o λe w'=>∃v H',e = .returned v/\jK w' o.heap.size v Bs H'/\Below o.heap.size o w':=by
 obtain⟨vs,Ϯ,_,fT,ë⟩:=h.uZ.ex;obtain⟨aB,cB,rfl⟩:=bB fT;obtain⟨n,Ϝ⟩:=bF Bs.length;have x4:=ak h.blk 4;simp at x4;rw[<-Ϝ] at x4 fT hn;have VK:=ϱ fT;have Qx:=ϱ ë;have OX:=ϱ (And.intro Ϝ Ϯ);have CJ:=ϱ hl;obtain⟨iB,hIB,hB0,Β,Ż⟩:=info_parts Tryz.infoBk;have Gi:=ϱ hIB;have H0:Hid (jK o o.heap.size (.slice none 0 0) (Bs.take 0) []):=jK.nil _ _;clear h fT ë Ϝ Ϯ hl hIB;go_enter func51,ntmps51;go_wp2_with fail;go_loopw [3,11] (λl i wr=>∃(k:Nat) (H':List Nat),k<=n/\i = .int .i64 (k:Int)/\jK wr o.heap.size l (Bs.take k) H'/\Below o.heap.size o wr) (λ_ i _=>n-(intOf i).toNat);case atStart=>exact⟨0,[],zero_le _,rfl,H0.out,Below.refl _ _⟩
 case round=>
  obtain⟨k,H',hk,rfl,û,ϙ⟩:=hrel;clear H0;have EX:=ϱ û;have bA:=ϱ ϙ;by_cases ϣ:k<n
  ·obtain⟨Ϝ,Ϯ⟩:=OX.out;have ź:k<Bs.length:=fM;have hkV:k<vs.length:=fM;obtain⟨g,rfl⟩:∃g,aB=some ⟨g,0,none⟩:=by
    rcases VK.out.2 with⟨hv,h0⟩|⟨g,cap,cur,hv,_⟩
    ·omega
    ·injection hv with ÿ _ _;exact⟨g,ÿ⟩
   have Ϧ:=AQ VK.out;obtain⟨b0,b1,b2,b3⟩:=zG Bs vs Ϯ k ź hkV;have hc:∀j u,(bM Bs vs)[j]? = some u->wr.cell? ⟨g,j,none⟩=some u:=λj u hj=>by
    have R:=Ϧ j u hj;rw[Addr.add_lit,zero_add] at R;exact (ϙ.cell (p:=⟨g,j,none⟩) (World.block_lt_of_cell? o ⟨g,_,none⟩ R)).trans R
   obtain⟨f,hf⟩:=bF (Bs[k].1);obtain⟨s,hs⟩:=bF (Bs[k].2.1);obtain⟨r1,r2⟩:=Qx.out k ź hkV;obtain⟨p1,t1,ÿ⟩:=bB r1;obtain⟨p2,t2,ŉ⟩:=bB r2;obtain⟨m,hm⟩:=bF (Bs[k].2.2.length);obtain⟨N1,Ū⟩:=bF (Bs[k].2.2.map Prod.fst);obtain⟨N2,OY⟩:∃N2,N2=Bs[k].2.2.map λr=>dZ r.2:=⟨_,rfl⟩
   have Ĳ:m=N1.length:=by rw[Ū,length_map,hm]
   have Ĵ:m=N2.length:=by rw[OY,length_map,hm]
   rw[<-Ū] at r1;rw[<-OY] at r2;have y0:=hc _ _ b0;have y1:=hc _ _ b1;have y2:=hc _ _ b2;have y3:=hc _ _ b3;rw[<-hf] at y0;rw[<-hs] at y1;rw[ÿ] at y2 r1;rw[ŉ] at y3 r2;rw[<-hm] at y2 y3 r1 r2;have Ę:m<=1000:=by rw[hm];exact CJ.out _ (getElem_mem ź)
   obtain⟨W,hW⟩:=bF (wr.alloc (.cells #[.int .i64 f,.int .i64 s,.slice p1 m t1,.slice p2 m t2] 114));have Ϗ:Below wr.heap.size wr W:=by rw[hW];exact (Below.refl _ _).alloc (le_refl _) _
   have vw:W.heap[wr.heap.size]? = some (.cells #[.int .i64 f,.int .i64 s,.slice p1 m t1,.slice p2 m t2] 114 (0,0)):=by rw[hW];exact heap_alloc_new _ _
   have gZ:Hid (∀z,Below W.heap.size W z->z.cell? ⟨wr.heap.size,2,none⟩=some (.slice p1 m t1)/\z.cell? ⟨wr.heap.size,3,none⟩=some (.slice p2 m t2)):=λz I=>by
    have e1:=(I.block _ (aC vw)).trans vw;exact⟨ak e1 2,ak e1 3⟩
   have yV:Below o.heap.size o W:=ϙ.trans (Ϗ.mono ϙ.size);have mU:Hid (∀z,Below W.heap.size W z->Calls prog 81 #[.slice p1 m t1] z λe z'=>∃a' V,e = .returned (.slice a' m V)/\Below W.heap.size W z'/\z'.ownsRow W.heap.size 9 1 (.slice a' m V) m (N1.map encStr)):=λz I=>by
    refine (LK z _ _ m N1 Ĳ (bC r1 λg hg=>?_) fM).mono ?_
    ·exact (yV.trans (I.mono yV.size)).block g (aH r1 hg).2.1
    ·rintro e z' ⟨v',rfl,R,h2⟩;obtain⟨a',V,rfl⟩:=bB R;exact⟨a',V,rfl,I.trans (h2.mono I.size),iC R I.size⟩
   have wQ:Hid (∀z A D,Below W.heap.size W z->z.ownsRow W.heap.size 9 1 (.slice A m D) m (N1.map encStr)->Calls prog 81 #[.slice p2 m t2] z λe z'=>∃a' V,e = .returned (.slice a' m V)/\Below W.heap.size W z'/\z'.ownsRow W.heap.size 9 1 (.slice A m D) m (N1.map encStr)/\z'.ownsRow W.heap.size 9 1 (.slice a' m V) m (N2.map encStr)):=λz A D I h1'=>by
    refine (LK z _ _ m N2 Ĵ (bC r2 λg hg=>?_) fM).mono ?_
    ·exact (yV.trans (I.mono yV.size)).block g (aH r2 hg).2.1
    ·rintro e z' ⟨v',rfl,R,h2⟩;obtain⟨a',V,rfl⟩:=bB R;exact⟨a',V,rfl,I.trans (h2.mono I.size),aX h1' h2,iC R I.size⟩
   have HW:Hid (∀wx,wx=wr.alloc (.cells #[.int .i64 f,.int .i64 s,.slice p1 m t1,.slice p2 m t2] 114)->wx=W):=λwx h=>h.trans hW.symm
   have vC:=ϱ (And.intro vw (And.intro Ϗ yV));have HFS:=ϱ (And.intro hf (And.intro hs (And.intro hm ź)));have iI:=ϱ (And.intro Ū OY);have HB0:Hid (Below W.heap.size W W.drew):=dA (Below.refl _ _);have k0:(0:Int)<=k:=fM;have k1:(k:Int)<n:=fM;clear û ϙ Ϝ Ϯ Ϧ b0 b1 b2 b3 hc hf hs r1 r2 ÿ ŉ hm hW Ϗ vw yV Ū OY Ĳ Ĵ;go_upto_region 5 with fail;rw[HW.out _ rfl];refine eX (S:=λz=>z.cell? ⟨wr.heap.size,2,none⟩=some (.slice p1 m t1)/\z.cell? ⟨wr.heap.size,3,none⟩=some (.slice p2 m t2)) iX 7 (gZ.out _ HB0.out) (λϊ=>?_);refine bK 0 15 (.pointer (some ⟨wr.heap.size,2,none⟩)) ϊ rfl rfl ?_ ?_
   ·intro w _;go_simp
   refine iG 1 16 (.slice p1 m t1) ϊ rfl rfl ?_ ?_
   ·intro w Ϥ;obtain⟨jc,jd⟩:=Ϥ;go_simp
   refine bK 3 18 (.pointer (some ⟨wr.heap.size,3,none⟩)) ϊ rfl rfl ?_ ?_
   ·intro w _;go_simp
   refine iG 4 19 (.slice p2 m t2) ϊ rfl rfl ?_ ?_
   ·intro w Ϥ;obtain⟨jc,jd⟩:=Ϥ;go_simp
   refine lZ 2 rfl λK Y=>?_
   go_simp
   refine Calls.mono (mU.out _ HB0.out) ?_;rintro e w2 ⟨A,D,rfl,ϒ,Î⟩;refine Y.out _ _ (gZ.out _ ϒ) ?_;refine bK 6 21 (.pointer (some ⟨wr.heap.size,2,none⟩)) (gZ.out _ ϒ) rfl rfl ?_ ?_
   ·intro w _;go_simp
   refine lZ 5 rfl λK Y=>?_
   go_simp
   refine Calls.mono (wQ.out _ _ _ ϒ Î) ?_;rintro e w3 ⟨J,O,rfl,Ϛ,Ŀ,lT⟩;refine Y.out _ _ (gZ.out _ Ϛ) ?_;have hx3:=(Ϛ.block _ (aC vC.out.1)).trans vC.out.1;have j2:=ak hx3 2;simp at j2;have jf:∀q,w3.frozen? ⟨wr.heap.size,q,none⟩=false:=λq=>aA hx3 q
   have hx4:(w3.setCell ⟨wr.heap.size,2,none⟩ (.slice A m D)).heap[wr.heap.size]? = some (.cells #[.int .i64 f,.int .i64 s,.slice A m D,.slice p2 m t2] 114 (0,0)):=(dw hx3 2 _).trans rfl;have j3:=ak hx4 3;simp at j3;have jg:World.frozen? (w3.setCell ⟨wr.heap.size,2,none⟩ (.slice A m D)) ⟨wr.heap.size,3,none⟩=false:=aA hx4 3;have π:((w3.setCell ⟨wr.heap.size,2,none⟩ (.slice A m D)).setCell ⟨wr.heap.size,3,none⟩ (.slice J m O)).heap[wr.heap.size]? = some (.cells #[.int .i64 f,.int .i64 s,.slice A m D,.slice J m O] 114 (0,0)):=(dw hx4 3 _).trans rfl;refine oz 7 rfl λK Y=>?_
   go_simp
   refine Y.out _ _ ?_;refine oz 8 rfl λK Y=>?_
   go_simp
   refine Y.out _ _ ?_;refine oz 9 rfl λK Y=>?_
   go_simp
   refine Y.out _ _ ?_;refine dz iX ?_ _;obtain⟨Z,hZ⟩:=bF ((w3.setCell ⟨wr.heap.size,2,none⟩ (.slice A m D)).setCell ⟨wr.heap.size,3,none⟩ (.slice J m O));rw[<-hZ] at π ⊢;have z0:=ak π 0;have z1:=ak π 1;have z2:=ak π 2;have z3:=ak π 3;simp at z0 z1 z2 z3;have VA:=aC vC.out.1;have á:∀x,x≠wr.heap.size->Z.heap[x]? = w3.heap[x]?:=λx Q=>by
    rw[hZ,Below.heap_setCell _ _ _ _ (by show x≠wr.heap.size;exact Q),Below.heap_setCell _ _ _ _ (by show x≠wr.heap.size;exact Q)]
   have ug:Below wr.heap.size wr Z:=by
    have R:=vC.out.2.1.trans (Ϛ.mono vC.out.2.1.size);rw[hZ];exact (R.setCell (p:=⟨wr.heap.size,2,none⟩) (le_refl _) _).setCell (p:=⟨wr.heap.size,3,none⟩) (le_refl _) _
   have ajr:=iC (bC Ŀ λg hg=>á g (by have:=(aH Ŀ hg).1;omega)) vC.out.2.2.size;have ajs:=iC (bC lT λg hg=>á g (by have:=(aH lT hg).1;omega)) vC.out.2.2.size;obtain⟨us,y7,_,huo,U⟩:=(EX.out.same λx Q=>ug.block x (EX.out.mem Q).2).ex;have ϗ:(Bs.take k).length=k:=by rw[length_take];have:=HFS.out.2.2.2;omega
   rw[ϗ] at huo;have MJ:=ϱ (And.intro y7 (And.intro U (And.intro ajr ajs)));have oG:Hid (Below o.heap.size o Z):=bA.out.trans (ug.mono bA.out.size);have lC:Hid ((Z.alloc (.cells #[.int .i64 f,.int .i64 s,.slice A m D,.slice J m O] 114)).ownsRow o.heap.size 114 4 u3 k (bM (Bs.take k) us)):=huo.alloc _;have gY:Hid (∀i z,([.int .i64 f,.int .i64 s,.slice A m D,.slice J m O]:List Value)[i]? = some z->(Z.alloc (.cells #[.int .i64 f,.int .i64 s,.slice A m D,.slice J m O] 114)).cell? ((⟨Z.heap.size,0,none⟩:Addr).add i)=some z):=World.news_of_block (heap_alloc_new Z _);have ko:Hid (∀z∈([.int .i64 f,.int .i64 s,.slice A m D,.slice J m O]:List Value),z.oneCell'=true):=by
    intro z I;simp at I;rcases I with rfl|rfl|rfl|rfl<;>rfl
   have hZl:o.heap.size<=Z.heap.size:=oG.out.size;clear ϒ Î Ϛ Ŀ lT hx3 j2 jf hx4 j3 jg π hZ á ug ajr ajs y7 huo U ϗ VA mU wQ gZ ϊ HB0;go_wp2_with (at_builtin;refine wpList_append_lies _ rfl _ _ 111 rfl o.heap.size 114 iB (.agg #[.int .i64 0,.int .i64 0,.slice none 0 0,.slice none 0 0]) 4 64 underlying111 Gi.out hB0 Β Ż rfl lJ _ _ _ rfl lC.out ⟨Z.heap.size,0,none⟩ 1 1 [.int .i64 f,.int .i64 s,.slice A m D,.slice J m O] rfl rfl gY.out ko.out fM (by unfold maxLen;omega) fM oI _ rfl ?_);intro g7 dQ w7 bR dY qh _;have aL:Hid (∃GI,jK w7 o.heap.size (.slice (some ⟨g7,0,none⟩) (k+1) dQ) (Bs.take (k+1)) GI/\Below o.heap.size o w7):=by
    obtain⟨e1,e2,e3,e4⟩:=HFS.out;obtain⟨y7,U,h3,h4⟩:=MJ.out;have et:Bs.take (k+1)=Bs.take k ++ [Bs[k]]:=take_succ_eq_append_getElem e4;have ϗ:(Bs.take k).length=k:=by rw[length_take];omega
    have sN:Below Z.heap.size Z (Z.alloc (.cells #[.int .i64 f,.int .i64 s,.slice A m D,.slice J m O] 114)):=(Below.refl _ _).alloc (le_refl _) _;obtain⟨n1,n2⟩:=iI.out;have h3':Z.ownsRow o.heap.size 9 1 (.slice A m D) Bs[k].2.2.length ((Bs[k].2.2.map Prod.fst).map encStr):=by rw[<-n1,<-e3];exact h3
    have h4':Z.ownsRow o.heap.size 9 1 (.slice J m O) Bs[k].2.2.length ((Bs[k].2.2.map λr=>dZ r.2).map encStr):=by rw[<-n2,<-e3];exact h4
    have xX:w7.ownsRow o.heap.size 114 4 (.slice (some ⟨g7,0,none⟩) ((Bs.take k).length+1) dQ) ((Bs.take k).length+1) (bM (Bs.take k) us ++ [.int .i64 Bs[k].1,.int .i64 Bs[k].2.1,.slice A m D,.slice J m O]):=by
     rw[ϗ,<-e1,<-e2];exact bR
    have hs:=jK.snoc (wr:=Z.alloc (.cells #[.int .i64 f,.int .i64 s,.slice A m D,.slice J m O] 114)) (w7:=w7) y7 (λi hi hv=>⟨aX (U i hi hv).1 sN,aX (U i hi hv).2 sN⟩) Bs[k] (.slice A m D) (.slice J m O) (aX h3' sN) (aX h4' sN) xX (λx cs Q=>dY.block x (Array.getElem?_eq_some_iff.1 Q).1 λe=>by
     obtain⟨_,_,cur,hc⟩:=aH lC.out e.symm;rw[hc] at Q;injection Q with Q;injection Q with _ Q;revert Q;decide)
    rw[<-et,ϗ] at hs;refine⟨_,hs,(oG.out.trans (sN.mono oG.out.size)).trans ⟨dY.os,dY.tape,dY.output,dY.size,λb hb=>dY.block b oI λe=>?_⟩⟩;have:=(aH lC.out e.symm).1;omega
   obtain⟨GI,q1,q2⟩:=aL.out;have HQ:=ϱ (And.intro q1 q2);clear bR dY qh q1 q2 aL z0 z1 z2 z3;go_wp2;go_roundw;case rel=>exact⟨k+1,GI,fM,rU,HQ.out.1,HQ.out.2⟩
   case measure=>simp[intOf]<;>omega
  ·obtain rfl:k=n:=fM;have jB:Bs.take k=Bs:=by rw[OX.out.1];exact take_length
   rw[jB] at û;have aL:=ϱ (And.intro û ϙ);clear û ϙ jB EX bA;go_wp2;go_ret;exact⟨_,H',rfl,aL.out.1,aL.out.2⟩
theorem Tryz.sizeBk:(prog.info? 114).map (·.size)=some 4:=iX
def Fb:Value:=.agg #[.int .i64 0,.int .i64 0,.slice none 0 0,.slice none 0 0]
theorem OZ:Fb.cells.toList = [.int .i64 0,.int .i64 0,.slice none 0 0,.slice none 0 0]:=iX
theorem VL:Fb.cells.toList.length=4:=by rw[OZ];rfl
theorem agu:∀v∈Fb.cells.toList,v.oneCell'=true:=by
 rw[OZ];intro v j;simp only[mem_cons,not_mem_nil,or_false] at j;rcases j with rfl|rfl|rfl|rfl<;>rfl
theorem agv(w:World):(zeroValue 114).run prog w = .ok Fb w:=by
 obtain⟨i,o,j,_⟩:=info_parts Tryz.infoBk;simp[zeroValue,typeInfo,o,j,Fb]
theorem Sd(w:World)(g o c:Nat)(L:List Value)(z:w.heap[g]? = some (.cells L.toArray 114 (0,0)))(A:o+4<=L.length):
  ∃q,(∀j,(Builtin.clear_ #[111] j #[.slice (some ⟨g,o,none⟩) 1 c]).run prog w = .ok (.tuple #[]) q)/\q.heap[g]? = some (.cells (dV L o Fb.cells.toList).toArray 114 (0,0))/\kC g w q:=
 ⟨_,λj=>Py prog w 111 114 j Fb underlying111 agv agu g o c L 114 z (by rw[VL];exact A),setRow_heap w g _ _ 114 _ z,uG _ _ _⟩
theorem agw(F w:World)(J:w.heap=F.heap)(g o q A:Nat)(a:Addr)(z D:Nat)(L cs:List Value)(Q:F.heap[g]? = some (.cells L.toArray 114 (0,0)))(R:cs.length=Nat.min z q*4)
  (V:∀j v,cs[j]? = some v->F.cell? (a.add j)=some v) (W:o+cs.length<=L.length) (K:∀v∈cs,v.oneCell'=true) (U:kC g F w) :
  ∃I k,(∀H,(Builtin.copy_ #[111,111] H #[.slice (some ⟨g,o,none⟩) q A,.slice (some a) z D]).run prog w = .ok k I)/\I.heap[g]? = some (.cells (dV L o cs).toArray 114 (0,0))/\kC g F I:=by
 have G:w.heap[g]? = some (.cells L.toArray 114 (0,0)):=by rw[J];exact Q
 have O:∀p,w.cell? p=F.cell? p:=λp=>by unfold World.cell?;rw[J]
 exact⟨_,_,λH=>Fa prog w 111 111 H 114 g o q A a z D 4 L 114 cs underlying111 Tryz.sizeBk G R (λj v h=>(O _).trans (V j v h)) W K,setRow_heap w g _ _ 114 _ G,U.trans (uG _ _ _)⟩
theorem Yi(w:World)(g n j i:Nat)(L:List Value)(O:w.heap[g]? = some (.cells L.toArray 114 (0,0)))(hL:L.length=j*4)(U:n<=j)(R:j<=maxLen)(Q:n=i+2)(b c:Nat)(o:List Value)(V:o.length=4)
  (ľ:∀q u,o[q]? = some u->w.cell? ((⟨b,0,none⟩:Addr).add q)=some u) (K:∀u∈o,u.oneCell'=true) :
  Calls prog 73 #[.slice (some ⟨g,0,none⟩) n j,.int .i64 (i:Int),.int .i64 (n:Int),.slice (some ⟨b,0,none⟩) 1 c] w λe w'=>e = .returned (.slice (some ⟨g,0,none⟩) (i+1) j)/\kC g w w' /\
   w'.heap[g]? = some (.cells (dV (dV L (i*4) o) ((i+1)*4) Fb.cells.toList).toArray 114 (0,0)):=by
 have A:=ϱ (And.intro O (And.intro hL (And.intro R ľ)));have D:=ϱ (And.intro Q (And.intro U (And.intro K V)));obtain⟨W,H,G,Β,Ż⟩:=info_parts Tryz.infoBk;have I:=ϱ (And.intro H (And.intro G Β));have x2:i+1<n:=fM;have x3:¬ j=i:=fM;have x4:¬ j=i+1:=fM;have x5:n-(i+1)=1:=fM;have e3:(i:Int)+1<(n:Int):=fM;have i1:i<=j:=fM;have i2:n<=j:=fM;have i3:i<=n:=fM;go_enter func73,ntmps73;go_wp2_with (at_builtin;refine Gz rfl _ _ 111 rfl 114 W 4 underlying111 I.out.1 I.out.2.2 g i j (by rfl) L A.out.1 ⟨b,0,none⟩ 1 c o (by rfl) D.out.2.2.2 A.out.2.2.2 D.out.2.2.1 fM (by rw[D.out.2.2.2,A.out.2.1];omega) ?_);intro w1 Ð ğ;have J:=ϱ (And.intro Ð ğ);obtain⟨F,Ϭ,ϭ,Z⟩:∃F,(∀Y,(Builtin.clear_ #[111] Y #[.slice (some ⟨g,(i+1)*4,none⟩) 1 (j-(i+1))]).run prog w1 = .ok (.tuple #[]) F)/\F.heap[g]? = some (.cells (dV (dV L (i*4) o) ((i+1)*4) Fb.cells.toList).toArray 114 (0,0))/\kC g w1 F:=
  Sd w1 g ((i+1)*4) (j-(i+1)) (dV L (i*4) o) J.out.1 (by rw[vo _ _ _ (by rw[D.out.2.2.2,A.out.2.1];omega),A.out.2.1];omega)
 have z:=ϱ (And.intro ϭ Z);go_wp2;go_ret;exact⟨rfl,(J.out.2.trans z.out.2),z.out.1⟩
theorem Yj(w:World)(g n o i j:Nat)(L:List Value)(hg:w.heap[g]? = some (.cells L.toArray 114 (0,0)))(hL:L.length=o*4)(hn:n<=o)(hm:o<=maxLen)(hj:j=i+2)(hjn:j<n)(b c:Nat)(A:List Value)(hy:A.length=4)
  (ľ:∀q u,A[q]? = some u->w.cell? ((⟨b,0,none⟩:Addr).add q)=some u) (h1:∀u∈A,u.oneCell'=true) (J:∀u∈L.take (n*4),u.oneCell'=true) :
  Calls prog 73 #[.slice (some ⟨g,0,none⟩) n o,.int .i64 (i:Int),.int .i64 (j:Int),.slice (some ⟨b,0,none⟩) 1 c] w λe w'=>e = .returned (.slice (some ⟨g,0,none⟩) (n-1) o)/\kC g w w' /\
   w'.heap[g]? = some (.cells (dV (dV (dV L (i*4) A) ((i+1)*4) (((dV L (i*4) A).drop (j*4)).take ((n-j)*4))) ((n-1)*4) Fb.cells.toList).toArray 114 (0,0)):=by
 have G:=ϱ (And.intro hg (And.intro hL (And.intro hm ľ)));have D:=ϱ (And.intro hj (And.intro hn (And.intro h1 hy)));obtain⟨iB,hIB,hB0,Β,Ż⟩:=info_parts Tryz.infoBk;have hm':o<=9223372036854775807:=hm;have x2:¬ j=n:=fM;have x3:¬ o=i:=fM;have x4:¬ o=i+1:=fM;have x5:¬ o=j:=fM;have i1:i<=o:=fM;have i2:j<=o:=fM;have i3:i<=j:=fM;have i4:j<=n:=fM;obtain⟨m,Û⟩:=bF (n-1);have HT:Hid ((i:Int)+1+((n-j:Nat):Int)=(m:Int)):=show _=_ by omega
 have i5:m<=o:=fM;have i6:¬ o<m:=fM;have i7:i<=m:=fM;have i8:i+1<=m:=fM;have i9:i+1<=j:=fM;have y0:IntKind.i64.wrap ((i:Int)+1)=(i:Int)+1:=IntWalk.i64_in _ fM;have y1:(0:Int)<=i+1:=fM;have y2:(i:Int)+1<=(m:Int):=fM;have y3:((i:Int)+1).toNat=i+1:=fM;have i10:m<=n:=fM;have i11:n-m=1:=fM;have x6:¬ o=m:=fM;have Q:Hid (1=Nat.min 1 (m-i)/\n-j=Nat.min (n-j) (m-(i+1))/\m+1<=o/\i+2+(n-j)<=o):=⟨by show 1=min 1 (m-i);omega,by show n-j=min (n-j) (m-(i+1));omega,fM,fM⟩;rw[<-Û];have Y:=ϱ J;clear hg hL hm ľ hj hn h1 hy hIB hB0 Β Ż hjn Û J;go_enter func73,ntmps73;go_wp2_with fail;go_quiet (fail);rw[HT.out];obtain⟨w1,k1,arq,Ð,ğ⟩:∃w1 k1,(∀ty,(Builtin.copy_ #[111,111] ty #[.slice (some ⟨g,i*4,none⟩) (m-i) (o-i),.slice (some ⟨b,0,none⟩) 1 c]).run prog (w.drewN nq) = .ok k1 w1)/\w1.heap[g]? = some (.cells (dV L (i*4) A).toArray 114 (0,0))/\kC g w w1:=
  agw w (w.drewN nq) rfl g (i*4) (m-i) (o-i) ⟨b,0,none⟩ 1 c L A G.out.1 (by rw[<-Q.out.1];exact D.out.2.2.2) G.out.2.2.2 (by rw[D.out.2.2.2,G.out.2.1];omega) D.out.2.2.1 ⟨rfl,rfl,rfl,rfl,λ_ _=>rfl⟩
 obtain⟨H,R⟩:=bF (dV L (i*4) A);obtain⟨cs,V⟩:=bF ((H.drop (j*4)).take ((n-j)*4));have Ĳ:H.length=o*4:=by rw[R,vo _ _ _ (by rw[D.out.2.2.2,G.out.2.1];omega),G.out.2.1]
 have Ρ:cs.length=(n-j)*4:=by
  have:=D.out.2.1;rw[V,length_take,length_drop,Ĳ];omega
 have O:Hid (cs.length=Nat.min (n-j) (m-(i+1))*4/\(i+1)*4+cs.length<=H.length/\∀v∈cs,v.oneCell'=true):=by
  refine⟨by rw[<-Q.out.2.1];exact Ρ,?_,λv F=>?_⟩
  ·have:=Q.out.2.2.2;rw[Ρ,Ĳ];omega
  ·rw[V,R,aji L A i j n o G.out.2.1 D.out.2.1 D.out.1 i4 D.out.2.2.2] at F;exact Y.out v (mem_of_mem_drop F)
 have z:=Ð;rw[<-R] at z;have HS:Hid (∀q v,cs[q]? = some v->w1.cell? ((⟨g,j*4,none⟩:Addr).add q)=some v):=λq v F=>by
  rw[V,List.getElem?_take] at F;rw[Addr.add_lit,cell_of_row w1 g _ _ _ _ z];split at F
  ·rw[List.getElem?_drop] at F;simpa using F
  ·cases F
 have iZ:=ϱ (And.intro z ğ);have W:=ϱ (And.intro R (And.intro V Ĳ));go_wp2_with fail;go_region_law (refine M5 rfl (.tmp 103) (.tmp 106) 111 111 rfl 114 4 underlying111 Tryz.sizeBk g ((i+1)*4) (m-(i+1)) (o-(i+1)) ⟨g,j*4,none⟩ (n-j) (o-j) (by simp[Act.eval,Act.put]) (by simp[Act.eval,Act.put]) H 114 iZ.out.1 cs O.out.1 HS.out O.out.2.1 O.out.2.2 ?_;intro w2 k2 ϭ K);all_goals
  have Z:=iZ.out.2.trans ⟨K.os,K.tape,K.output,K.size,K.block⟩;obtain⟨U,ars,hg3,Ŀ⟩:∃U,(∀ty,(Builtin.clear_ #[111] ty #[.slice (some ⟨g,m*4,none⟩) 1 (o-m)]).run prog w2 = .ok (.tuple #[]) U)/\U.heap[g]? = some (.cells (dV (dV H ((i+1)*4) cs) (m*4) Fb.cells.toList).toArray 114 (0,0))/\kC g w2 U:=
   Sd w2 g (m*4) (o-m) (dV H ((i+1)*4) cs) ϭ (by have:=Q.out.2.2.1;rw[vo _ _ _ O.out.2.1,W.out.2.2];omega)
  have I:=ϱ (And.intro hg3 (Z.trans Ŀ));go_wp2;go_ret;exact⟨rfl,I.out.2,by rw[<-W.out.1,<-W.out.2.1];exact I.out.1⟩
theorem Yl(w:World)(A g n o i j:Nat)(xs:List Value)(R:w.ownsRow A 114 4 (.slice (some ⟨g,0,none⟩) n o) n xs)(J:j=i+2)(W:j<=n)(b c:Nat)(D:List Value)(G:D.length=4)
  (Q:∀q u,D[q]? = some u->w.cell? ((⟨b,0,none⟩:Addr).add q)=some u) (O:∀u∈D,u.oneCell'=true) (Y:∀u∈xs,u.oneCell'=true) :
  Calls prog 73 #[.slice (some ⟨g,0,none⟩) n o,.int .i64 (i:Int),.int .i64 (j:Int),.slice (some ⟨b,0,none⟩) 1 c] w λe w'=>e = .returned (.slice (some ⟨g,0,none⟩) (n-1) o)/\kC g w w' /\
   w'.ownsRow A 114 4 (.slice (some ⟨g,0,none⟩) (n-1) o) (n-1) (xs.take (i*4)++D++xs.drop (j*4)):=by
 rcases R.2 with⟨hv,_⟩|⟨g',cap',cur,hv,hb,hg,hnc,Ŋ,ϥ,htake⟩
 ·cases hv
 ·injection hv with ÿ ŉ hv3;injection ÿ with ÿ;injection ÿ with ÿ _ _;subst ÿ hv3;have hL:cur.toList.length=o*4:=by rw[Array.length_toList];exact ϥ
  have F:w.heap[g]? = some (.cells cur.toList.toArray 114 (0,0)):=by rw[Array.toArray_toList];exact hg
  have z:=agr cur.toList D Fb.cells.toList i n o hL hnc fM G VL;have U:(xs.take (i*4)++D++xs.drop (j*4)).length=(n-1)*4:=by
   have:=R.1;rw[length_append,length_append,length_take,length_drop,G];omega
  rw[htake,<-J,show n-i-2=n-j by omega] at z;by_cases I:j=n
  ·subst I;have V:i+1=j-1:=fM
   refine (Yi w g j o i cur.toList F hL hnc Ŋ J b c D G Q O).mono ?_;rintro e w' ⟨rfl,K,H⟩;rw[V] at H ⊢;refine⟨rfl,K,U,.inr ⟨g,o,_,rfl,hb,H,fM,Ŋ,?_,?_⟩⟩
   ·rw[sub_self,Nat.zero_mul,take_zero,OT] at z;rw[size_toArray];exact z.1
   ·rw[sub_self,Nat.zero_mul,take_zero,OT] at z;exact z.2
  ·refine (Yj w g n o i j cur.toList F hL hnc Ŋ J fM b c D G Q O (by rw[htake];exact Y)).mono ?_;rintro e w' ⟨rfl,K,H⟩;refine⟨rfl,K,U,.inr ⟨g,o,_,rfl,hb,H,fM,Ŋ,?_,?_⟩⟩
   ·rw[size_toArray];exact z.1
   ·exact z.2
theorem Cu:∀(A:List Bk) (a:List (Value×Value)) (_:a.length=A.length) (C:List Bk) (c:List (Value×Value)),bM (A++C) (a++c)=bM A a++bM C c
 | [],[],_,_,_=>rfl
 | [],_::_,h,_,_=>by cases h
 | _::_,[],h,_,_=>by cases h
 | b::A,v::a,h,C,c=>by
  have:=Cu A a (by simpa using h) C c;show _::_::_::_::bM (A++C) (a++c)=_;rw[this];rfl
theorem Sg(m:Nat)(Bs:List Bk)(j:List (Value×Value))(h:j.length=Bs.length)(o:m<=Bs.length):(bM Bs j).take (m*4)=bM (Bs.take m) (j.take m):=by
 have e:bM Bs j=bM (Bs.take m) (j.take m)++bM (Bs.drop m) (j.drop m):=by
  rw[<-Cu _ _ (by simp[h]),take_append_drop,take_append_drop]
 rw[e,take_left' (by rw[Cr _ _ (by simp[h]),length_take,Nat.min_eq_left o])]
theorem adF{wr w':World}{j g n H:Nat}{Bs:List Bk}{o:List (Value×Value)}(J:o.length=Bs.length)(hn:n=Bs.length)
  (V:∀i (hi:i<Bs.length) (hv:i<o.length),wr.ownsRow j 9 1 o[i].1 Bs[i].2.2.length ((Bs[i].2.2.map Prod.fst).map encStr)/\wr.ownsRow j 9 1 o[i].2 Bs[i].2.2.length ((Bs[i].2.2.map λr=>dZ r.2).map encStr))
  (ho:kC g wr w') {K:Array Value} (hg:wr.heap[g]? = some (.cells K 114 (0,0))) (i:Nat) (hi:i+2<=n) (b:Bk) (v:Value×Value)
  (Z:wr.ownsRow j 9 1 v.1 b.2.2.length ((b.2.2.map Prod.fst).map encStr)) (h2:wr.ownsRow j 9 1 v.2 b.2.2.length ((b.2.2.map λr=>dZ r.2).map encStr))
  (Y:w'.ownsRow j 114 4 (.slice (some ⟨g,0,none⟩) (n-1) H) (n-1) ((bM Bs o).take (i*4) ++ [.int .i64 b.1,.int .i64 b.2.1,v.1,v.2]++(bM Bs o).drop ((i+2)*4))) :
  jK w' j (.slice (some ⟨g,0,none⟩) (n-1) H) (Bs.take i++b::Bs.drop (i+2)) (g::(o.take i++v::o.drop (i+2)).flatMap ownB):=by
 subst hn;have G:∀ {u:Value} {m:Nat} {xs:List Value},wr.ownsRow j 9 1 u m xs->w'.ownsRow j 9 1 u m xs:=fun {u m xs} W=>by
  refine bC W λq hq=>ho.block q λe=>?_
  subst e;obtain⟨_,_,U,F⟩:=aH W hq;rw[hg] at F;injection F with F;injection F with _ F;revert F;decide
 have ϐ:(Bs.take i++b::Bs.drop (i+2)).length=Bs.length-1:=by
  rw[length_append,length_cons,length_take,length_drop];omega
 have Ψ:(o.take i++v::o.drop (i+2)).length=(Bs.take i++b::Bs.drop (i+2)).length:=by
  rw[length_append,length_append,length_cons,length_cons,length_take,length_drop,length_take,length_drop,J]
 refine⟨_,Ψ,rfl,?_,?_⟩
 ·rw[ϐ,Cu _ _ (by simp[J])];rw[Sg i Bs o J fM,AR (i+2) Bs o J,append_assoc] at Y;exact Y
 ·intro k hk O;rcases Nat.lt_trichotomy k i with z|z|z
  ·have A:(Bs.take i++b::Bs.drop (i+2))[k]=Bs[k]'fM:=by
    rw[getElem_append_left (by rw[length_take];omega),getElem_take]
   have D:(o.take i++v::o.drop (i+2))[k]=o[k]'fM:=by
    rw[getElem_append_left (by rw[length_take];omega),getElem_take]
   rw[A,D];obtain⟨Q,R⟩:=V k fM fM;exact⟨G Q,G R⟩
  ·subst z;have A:(Bs.take k++b::Bs.drop (k+2))[k]=b:=by
    rw[getElem_append_right (by rw[length_take];omega)];simp only[length_take,Nat.min_eq_left (show k<=Bs.length by omega),sub_self,getElem_cons_zero]
   have D:(o.take k++v::o.drop (k+2))[k]=v:=by
    rw[getElem_append_right (by rw[length_take];omega)];simp only[length_take,Nat.min_eq_left (show k<=o.length by omega),sub_self,getElem_cons_zero]
   rw[A,D];exact⟨G Z,G h2⟩
  ·have I:k+1<Bs.length:=fM;have A:(Bs.take i++b::Bs.drop (i+2))[k]? = Bs[k+1]?:=by
    rw[List.getElem?_append_right (by rw[length_take];omega),length_take,Nat.min_eq_left fM,show k-i=(k-i-1)+1 by omega,List.getElem?_cons_succ,List.getElem?_drop];congr 1;omega
   have D:(o.take i++v::o.drop (i+2))[k]? = o[k+1]?:=by
    rw[List.getElem?_append_right (by rw[length_take];omega),length_take,Nat.min_eq_left fM,show k-i=(k-i-1)+1 by omega,List.getElem?_cons_succ,List.getElem?_drop];congr 1;omega
   rw[List.getElem?_eq_getElem hk,List.getElem?_eq_getElem I,Option.some.injEq] at A;rw[List.getElem?_eq_getElem O,List.getElem?_eq_getElem fM,Option.some.injEq] at D;rw[A,D];obtain⟨Q,R⟩:=V (k+1) I fM;exact⟨G Q,G R⟩
def wS(b:Bk):List (List UInt8):=b.2.2.map Prod.fst
noncomputable def wT(b:Bk):List (List UInt8):=b.2.2.map λr=>dZ r.2
noncomputable def vD(a b:Bk):Int:=AB a.1 a.2.1 (wS a) (wT a) b.1 b.2.1 (wS b) (wT b)
noncomputable def aoI(a b:Bk):Int:=E5 a.1 a.2.1 (wS a) (wT a) b.1 b.2.1 (wS b) (wT b)
noncomputable def wG(a b:Bk):Bk:=(a.1,a.2.1+b.2.1,bJ (rowsOf (wS a) (wT a)) (rowsOf (wS b) (wT b)))
structure LP(ea:Nat->Addr)(w2 z:World)(a b:Bk)(p q:Int)(u1 u2 v3:Value):Prop where
 aI:Below w2.heap.size w2 z
 OC:aM ea z v3 (vD a b) (aoI a b)
 res:(vD a b=0/\p=(wG a b).1/\q=(wG a b).2.1/\z.ownsRow w2.heap.size 9 1 u1 (wG a b).2.2.length (((wG a b).2.2.map Prod.fst).map encStr)/\z.ownsRow w2.heap.size 9 1 u2 (wG a b).2.2.length (((wG a b).2.2.map λr=>dZ r.2).map encStr))\/(vD a b≠0/\p=0/\q=0/\u1 = .slice none 0 0/\u2 = .slice none 0 0)
theorem LP.below{ea:Nat->Addr}{F z G:World}{a b:Bk}{p q:Int}{o A D:Value}(h:LP ea F z a b p q o A D)(j:Below z.heap.size z G):LP ea F G a b p q o A D:=
 ⟨h.aI.trans (j.mono h.aI.size),h.OC.below j,h.res.imp (λg=>⟨g.1,g.2.1,g.2.2.1,aX g.2.2.2.1 j,aX g.2.2.2.2 j⟩) id⟩
theorem LP.uN{ea:Nat->Addr}{o z:World}{a b:Bk}{p q:Int}{A D F:Value}(h:LP ea o z a b p q A D F){c:Nat}{H I J:Value}{k:Int}(j:z.heap[c]? = some (.cells #[H,.int .i64 k,I,J] 114 (0,0)))(G:o.heap.size<=c)(K O Q R:Value):LP ea o ((((z.setCell ⟨c,0,none⟩ K).setCell ⟨c,1,none⟩ O).setCell ⟨c,2,none⟩ Q).setCell ⟨c,3,none⟩ R) a b p q A D F:=
 ⟨qg h.aI G _ _ _ _,zD h.OC j _ _ _ _,h.res.imp (λg=>⟨g.1,g.2.1,g.2.2.1,rG g.2.2.2.1 j lJ _ _ _ _,rG g.2.2.2.2 j lJ _ _ _ _⟩) id⟩
def Ym(ea:Nat->Addr)(w2 z:World)(a b:Bk)(v7 v9:Value):Prop:=
 ∃(jb:Nat) (p q:Int) (g1 g2:Option Addr) (n1 n2 c1 c2:Nat),v9 = .pointer (some ⟨jb,0,none⟩)/\z.heap[jb]? = some (.cells #[.int .i64 p,.int .i64 q,.slice g1 n1 c1,.slice g2 n2 c2] 114 (0,0))/\w2.heap.size<=jb/\LP ea w2 z a b p q (.slice g1 n1 c1) (.slice g2 n2 c2) v7
theorem adG{B:Nat}{ea:Nat->Addr}(wr z:World)(E:oN B ea z)(hB:B<=z.heap.size)(o:Below wr.heap.size wr z)(a b:Bk)(j:Nat)(v1 R G U:Value)(h1:wr.ownsRow j 9 1 v1 (wS a).length ((wS a).map encStr))(A:wr.ownsRow j 9 1 R (wT a).length ((wT a).map encStr))(h3:wr.ownsRow j 9 1 G (wS b).length ((wS b).map encStr))(h4:wr.ownsRow j 9 1 U (wT b).length ((wT b).map encStr))
  (Y:∀r,r∈a.2.2->r.1.length<=100000/\(dZ r.2).length<=10000) (Z:∀r,r∈b.2.2->r.1.length<=100000/\(dZ r.2).length<=10000) (H:a.2.2.length<=100000) (Τ:b.2.2.length<=100000) :
  Calls prog 72 #[.agg #[.int .i64 a.1,.int .i64 a.2.1,v1,R],.agg #[.int .i64 b.1,.int .i64 b.2.1,G,U]] z λe J=>∃p q V W n3 n4 k3 k4 G,e = .returned (.tuple #[.agg #[.int .i64 p,.int .i64 q,.slice V n3 k3,.slice W n4 k4],G])/\Below wr.heap.size wr J/\Below z.heap.size z J/\LP ea wr J a b p q (.slice V n3 k3) (.slice W n4 k4) G:=by
 refine (XP z E hB a.1 a.2.1 b.1 b.2.1 j j j j v1 R G U (wS a) (wT a) (wS b) (wT b) (aX h1 o) (aX A o) (aX h3 o) (aX h4 o) (λx F=>?_) (λx F=>?_) (λx F=>?_) (λx F=>?_) (by rw[wS,length_map];exact H) (by rw[wT,length_map];exact H) (by rw[wS,length_map];exact Τ) (by rw[wT,length_map];exact Τ)).mono ?_
 ·obtain⟨r,D,rfl⟩:=mem_map.1 F;exact (Y r D).1
 ·obtain⟨r,D,rfl⟩:=mem_map.1 F;exact (Y r D).2
 ·obtain⟨r,D,rfl⟩:=mem_map.1 F;exact (Z r D).1
 ·obtain⟨r,D,rfl⟩:=mem_map.1 F;exact (Z r D).2
 ·rintro e J ⟨v,I,vH,⟨K,u1,u2,rfl,o1,o2⟩|⟨K,rfl⟩⟩
  ·have A:=o.trans (I.mono o.size);have O:=iC o1 o.size;have Q:=iC o2 o.size;obtain⟨ua,uc,rfl⟩:=bB o1;obtain⟨ub,ud,rfl⟩:=bB o2;exact⟨_,_,_,_,_,_,_,_,_,rfl,A,I,A,vH,.inl ⟨K,rfl,rfl,O,Q⟩⟩
  ·have A:=o.trans (I.mono o.size);exact⟨_,_,_,_,_,_,_,_,_,rfl,A,I,A,vH,.inr ⟨K,rfl,rfl,rfl,rfl⟩⟩
theorem adH{w J wr Z w7:World}{q hb db:Nat}{S:List Sr}{d:Dk}{Bs:List Bk}{K keep:Int}{G F H:List Nat}{g n I:Nat}(R:fE w J q hb db S d Bs K keep (.slice (some ⟨g,0,none⟩) n I) G F H)(hn:n=Bs.length){A:List (Value×Value)}(Ϯ:A.length=Bs.length)(pI:H=(Value.slice (some ⟨g,0,none⟩) n I).ownBlock.toList++A.flatMap ownB)
  (fT:J.ownsRow w.heap.size 114 4 (.slice (some ⟨g,0,none⟩) n I) n (bM Bs A))
  (ë:∀i (Y:i<Bs.length) (z:i<A.length),J.ownsRow w.heap.size 9 1 A[i].1 Bs[i].2.2.length ((Bs[i].2.2.map Prod.fst).map encStr)/\J.ownsRow w.heap.size 9 1 A[i].2 Bs[i].2.2.length ((Bs[i].2.2.map λr=>dZ r.2).map encStr))
  (U:Below J.heap.size J wr) (hZ:Below wr.heap.size wr Z) (k:Nat) (hk:k+2<=n) (b:Bk) (V W:Value)
  (o1:Z.ownsRow wr.heap.size 9 1 V b.2.2.length ((b.2.2.map Prod.fst).map encStr)) (o2:Z.ownsRow wr.heap.size 9 1 W b.2.2.length ((b.2.2.map λr=>dZ r.2).map encStr)) (Q:kC g Z w7)
  (ό:w7.ownsRow w.heap.size 114 4 (.slice (some ⟨g,0,none⟩) (n-1) I) (n-1) ((bM Bs A).take (k*4) ++ [.int .i64 b.1,.int .i64 b.2.1,V,W]++(bM Bs A).drop ((k+2)*4))) :
  ∃H',fE w (w7.setCell ⟨q,4,none⟩ (.slice (some ⟨g,0,none⟩) (n-1) I)) q hb db S d (Bs.take k++b::Bs.drop (k+2)) K keep (.slice (some ⟨g,0,none⟩) (n-1) I) G F H'/\Kept (q::H) J (w7.setCell ⟨q,4,none⟩ (.slice (some ⟨g,0,none⟩) (n-1) I))/\∀x,x∈H'->x∈H\/J.heap.size<=x:=by
 have D:=U.trans (hZ.mono U.size);have O:g∈H:=by rw[pI];simp[Value.ownBlock]
 have hsg:q≠g:=λe=>R.sH (e ▸ O)
 have ę:=aC R.blk;obtain⟨_,ř,cur,ĵ⟩:=aH (aX fT D) (show _=some g from rfl);have J3:=(Q.block q hsg).trans (D.block q ę);have û:=adF Ϯ hn (λi Y z=>⟨aX (ë i Y z).1 D,aX (ë i Y z).2 D⟩) Q ĵ k hk b (V,W) (iC o1 (le_trans R.aI.size U.size)) (iC o2 (le_trans R.aI.size U.size)) ό;have Â:∀x,x∈g::(A.take k++(V,W)::A.drop (k+2)).flatMap ownB->x∈H\/wr.heap.size<=x:=λx o=>by
  rcases mem_cons.1 o with rfl|o
  ·exact .inl O
  ·obtain⟨v,z,j⟩:=mem_flatMap.1 o;rcases mem_append.1 z with z|z
   ·exact .inl (by rw[pI];exact mem_append.2 (.inr (mem_flatMap.2 ⟨v,mem_of_mem_take z,j⟩)))
   ·rcases mem_cons.1 z with rfl|z
    ·rcases mem_append.1 j with j|j
     ·exact .inr (uY o1 j).1
     ·exact .inr (uY o2 j).1
    ·exact .inl (by rw[pI];exact mem_append.2 (.inr (mem_flatMap.2 ⟨v,mem_of_mem_drop z,j⟩)))
 have á:∀x,x≠q->(w7.setCell ⟨q,4,none⟩ (.slice (some ⟨g,0,none⟩) (n-1) I)).heap[x]? = w7.heap[x]?:=λx o=>Dg (Ne.symm o) _ _
 have Ŏ:Kept (q::H) J (w7.setCell ⟨q,4,none⟩ (.slice (some ⟨g,0,none⟩) (n-1) I)):=
  ⟨Q.os.trans D.os,Q.tape.trans D.tape,Q.output.trans D.output,by
   have h1:=D.size;have h2:=Q.size;simp[World.setCell];omega,λx o hm=>by
   rw[á x λe=>hm (by simp[e]),Q.block x λe=>hm (by simp[e,O])];exact D.block x o⟩
 refine⟨_,R.blocks Ŏ ((dw (J3.trans R.blk) 4 _).trans rfl) (û.same λx o=>á x λe=>?_) λx o=>(Â x o).imp id λh=>le_trans U.size h,Ŏ,λx o=>(Â x o).imp id λh=>le_trans U.size h⟩;subst e;rcases Â x o with h|h
 ·exact R.sH h
 ·have:=U.size;omega
def agx(w wa:World)(sb hb db:Nat)(S:List Sr)(d:Dk)(Bs:List Bk)(span keep:Int)(vB:Value)(G F H:List Nat)(e:Ending)(w':World):Prop:=
 (∃(k:Nat) (hk:k+1<Bs.length) (pG:Value) (H':List Nat),(∀q (hq:q<k),vD (Bs[q]'fM) (Bs[q+1]'fM)≠0)/\vD (Bs[k]'fM) Bs[k+1]=0/\e = .returned (.tuple #[.bool true,.nilIface])/\fE w w' sb hb db S d (Bs.take k++wG (Bs[k]'fM) Bs[k+1]::Bs.drop (k+2)) span keep pG G F H'/\Kept (sb::H) wa w'/\(∀x,x∈H'->x∈H\/wa.heap.size<=x)) \/
 ((∀q (hq:q+1<Bs.length),vD (Bs[q]'fM) Bs[q+1]≠0)/\e = .returned (.tuple #[.bool false,.nilIface])/\fE w w' sb hb db S d Bs span keep vB G F H/\Below wa.heap.size wa w')
theorem Yn{B:Nat}{ea:Nat->Addr}(w wa:World)(E:oN B ea w)(hB:B<=w.heap.size)(o hb db:Nat)(S:List Sr)(d:Dk)(Bs:List Bk)(span keep:Int)(vB:Value)(G F H:List Nat)(h:fE w wa o hb db S d Bs span keep vB G F H)(hn:Bs.length<=100000)
  (Ϸ:∀b,b∈Bs->b.2.2.length<=100000/\∀r,r∈b.2.2->r.1.length<=100000/\(dZ r.2).length<=10000) :
  Calls prog 44 #[.pointer (some ⟨o,0,none⟩)] wa λe w'=>agx w wa o hb db S d Bs span keep vB G F H e w':=by
 obtain⟨vs,Ϯ,pI,fT,ë⟩:=h.uZ.ex;obtain⟨aB,Z,rfl⟩:=bB fT;obtain⟨n,Ϝ⟩:=bF Bs.length;have V:=ϱ h;have x4:=ak h.blk 4;simp at x4;rw[<-Ϝ] at x4 fT hn;have mF:=ϱ (And.intro Ϯ (And.intro pI (And.intro fT (And.intro ë Ϝ))));have HE:=ϱ E;have gX:=ϱ Ϸ;have qm:=aC h.blk;clear h E Ϯ pI fT ë Ϝ Ϸ;go_enter func44,ntmps44;go_wp2_with fail;go_loopw [4] (λii wr=>∃(i:Nat),1<=i/\(i<=n\/i=1)/\ii = .int .i64 (i:Int)/\Below wa.heap.size wa wr/\(∀q (hq:q+1<Bs.length),q+1<i->vD (Bs[q]'fM) Bs[q+1]≠0)) (λii _=>n-(intOf ii).toNat);case atStart=>exact⟨1,le_refl _,.inr rfl,rU,Below.refl _ _,λq _ hq=>fM⟩
 case round=>
  obtain⟨i,hi1,hin',rfl,ϙ,ϩ⟩:=hrel;have bA:=ϱ ϙ;have BH:=ϱ ϩ;have x4':=(ϙ.cell (p:=⟨o,4,none⟩) qm).trans x4;by_cases ϣ:i<n
  ·obtain⟨Ϯ,pI,fT,ë,Ϝ⟩:=mF.out;obtain⟨k,hki⟩:∃k,i=k+1:=⟨i-1,fM⟩;have ϓ:k<Bs.length:=fM;have È:i<Bs.length:=fM;obtain⟨g,p1,t1,p2,t2,rfl,c0,c1,c2,c3,r1,r2⟩:=GH fT Ϝ Ϯ ë ϙ k ϓ;obtain⟨g',p3,t3,p4,t4,hgg,c4,c5,c6,c7,r3,r4⟩:=GH fT Ϝ Ϯ ë ϙ i È;obtain rfl:g=g':=by injection hgg with hgg;injection hgg with hgg _ _
   obtain⟨a,ha⟩:=bF (Bs[k]);obtain⟨b,ϰ⟩:=bF (Bs[i]);rw[<-ha] at c0 c1 c2 c3 r1 r2;rw[<-ϰ] at c4 c5 c6 c7 r3 r4;obtain⟨f,hf⟩:=bF a.1;obtain⟨s,hs⟩:=bF a.2.1;obtain⟨f',hf'⟩:=bF b.1;obtain⟨s',hs'⟩:=bF b.2.1;obtain⟨m,hm⟩:=bF a.2.2.length;obtain⟨m',hm'⟩:=bF b.2.2.length;have adI:=ak ((ϙ.block _ qm).trans V.out.blk) 4;rw[<-Ϝ] at adI;have hia:=gX.out a (by rw[ha];exact getElem_mem ϓ);have Ζ:=gX.out b (by rw[ϰ];exact getElem_mem È);have Df:Hid (∀z,Below wr.heap.size wr z->Calls prog 72 #[.agg #[.int .i64 f,.int .i64 s,.slice p1 m t1,.slice p2 m t2],.agg #[.int .i64 f',.int .i64 s',.slice p3 m' t3,.slice p4 m' t4]] z λe z'=>∃p q J O R U I Q v3,e = .returned (.tuple #[.agg #[.int .i64 p,.int .i64 q,.slice J R I,.slice O U Q],v3])/\Below wr.heap.size wr z'/\Below z.heap.size z z'/\LP ea wr z' a b p q (.slice J R I) (.slice O U Q) v3):=λz W=>by
    have Gw:=(V.out.aI.trans (ϙ.mono V.out.aI.size)).trans (W.mono (le_trans V.out.aI.size ϙ.size));rw[hf,hs,hf',hs',hm,hm'];exact adG wr z (HE.out.below Gw hB) (le_trans hB Gw.size) W a b _ _ _ _ _ (by rw[wS,length_map];exact r1) (by rw[wT,length_map];exact r2) (by rw[wS,length_map];exact r3) (by rw[wT,length_map];exact r4) hia.2 Ζ.2 hia.1 Ζ.1
   rw[<-hf] at c0;rw[<-hs] at c1;rw[<-hm] at c2 c3;rw[<-hf'] at c4;rw[<-hs'] at c5;rw[<-hm'] at c6 c7;have ř:g<wr.heap.size:=World.block_lt_of_cell? wr ⟨g,_,none⟩ c0;have gZ:Hid (∀z,Below wr.heap.size wr z->z.cell? ⟨o,4,none⟩=some (.slice (some ⟨g,0,none⟩) n Z)/\z.cell? ⟨g,k*4,none⟩=some (.int .i64 f)/\z.cell? ⟨g,k*4+1,none⟩=some (.int .i64 s)/\z.cell? ⟨g,k*4+2,none⟩=some (.slice p1 m t1)/\z.cell? ⟨g,k*4+3,none⟩=some (.slice p2 m t2)/\z.cell? ⟨g,i*4,none⟩=some (.int .i64 f')/\z.cell? ⟨g,i*4+1,none⟩=some (.int .i64 s')/\z.cell? ⟨g,i*4+2,none⟩=some (.slice p3 m' t3)/\z.cell? ⟨g,i*4+3,none⟩=some (.slice p4 m' t4)):=λz W=>by
    have hc:∀q:Nat,z.cell? ⟨g,q,none⟩=wr.cell? ⟨g,q,none⟩:=λq=>W.cell (p:=⟨g,q,none⟩) ř
    exact⟨(W.cell (p:=⟨o,4,none⟩) (lt_of_lt_of_le qm ϙ.size)).trans adI,(hc _).trans c0,(hc _).trans c1,(hc _).trans c2,(hc _).trans c3,(hc _).trans c4,(hc _).trans c5,(hc _).trans c6,(hc _).trans c7⟩
   have HB0:Hid (Below wr.heap.size wr wr.drew):=dA (Below.refl _ _);have HKI:=ϱ (And.intro hki (And.intro ha (And.intro ϰ (And.intro ϓ È))));have y0:IntKind.i64.wrap ((i:Int)-1)=(k:Int):=by
    rw[IntWalk.i64_in _ fM];omega
   have k0:(0:Int)<=k:=fM;have k1:(k:Int)<n:=fM;have k2:(0:Int)<=i:=fM;have I:(i:Int)<n:=fM;have kn:k<n:=fM;clear ϙ ϩ Ϯ pI fT ë Ϝ c0 c1 c2 c3 c4 c5 c6 c7 r1 r2 r3 r4 ha ϰ hf hs hf' hs' hm hm' adI hia Ζ hki hgg;go_upto_region 4 with fail;clear x4';go_cut [5,6] from 16 to 34 (λv5 v6 wz=>Ym ea wr wz a b v6 v5);case first=>
    refine eX (S:=λz=>z.cell? ⟨o,4,none⟩=some (.slice (some ⟨g,0,none⟩) n Z)/\z.cell? ⟨g,k*4,none⟩=some (.int .i64 f)/\z.cell? ⟨g,k*4+1,none⟩=some (.int .i64 s)/\z.cell? ⟨g,k*4+2,none⟩=some (.slice p1 m t1)/\z.cell? ⟨g,k*4+3,none⟩=some (.slice p2 m t2)/\z.cell? ⟨g,i*4,none⟩=some (.int .i64 f')/\z.cell? ⟨g,i*4+1,none⟩=some (.int .i64 s')/\z.cell? ⟨g,i*4+2,none⟩=some (.slice p3 m' t3)/\z.cell? ⟨g,i*4+3,none⟩=some (.slice p4 m' t4)) iX 20 (gZ.out _ HB0.out) (λA=>?_);refine bK 0 17 (.pointer (some ⟨o,0,none⟩)) A rfl rfl ?_ ?_
    ·intro w _;go_simp
    try simp only[Act.put,Ņ,ņ,Ň]
    refine bK 1 18 (.pointer (some ⟨o,0,none⟩)) A rfl rfl ?_ ?_
    ·intro w _;go_simp
    try simp only[Act.put,Ņ,ņ,Ň]
    refine bK 2 19 (.pointer (some ⟨o,4,none⟩)) A rfl rfl ?_ ?_
    ·intro w _;go_simp
    try simp only[Act.put,Ņ,ņ,Ň]
    refine iG 3 20 (.slice (some ⟨g,0,none⟩) n Z) A rfl rfl ?_ ?_
    ·intro w Ϥ;obtain⟨jc,jd,kr,lu,oH,sQ,sS,jh7,jh8⟩:=Ϥ;go_simp
    try simp only[Act.put,Ņ,ņ,Ň]
    refine bK 4 21 (.int .i64 (i:Int)) A rfl rfl ?_ ?_
    ·intro w _;go_simp
    try simp only[Act.put,Ņ,ņ,Ň]
    refine bK 5 22 (.int .i64 (k:Int)) A rfl rfl ?_ ?_
    ·intro w _;go_simp
    try simp only[Act.put,Ņ,ņ,Ň]
    refine bK 6 23 (.pointer (some ⟨g,k*4,none⟩)) A rfl rfl ?_ ?_
    ·intro w _;go_simp
    try simp only[Act.put,Ņ,ņ,Ň]
    refine iG 7 24 (.agg #[.int .i64 f,.int .i64 s,.slice p1 m t1,.slice p2 m t2]) A rfl rfl ?_ ?_
    ·intro w Ϥ;obtain⟨jc,jd,kr,lu,oH,sQ,sS,jh7,jh8⟩:=Ϥ;go_simp
    try simp only[Act.put,Ņ,ņ,Ň]
    refine bK 8 25 (.pointer (some ⟨o,0,none⟩)) A rfl rfl ?_ ?_
    ·intro w _;go_simp
    try simp only[Act.put,Ņ,ņ,Ň]
    refine bK 9 26 (.pointer (some ⟨o,0,none⟩)) A rfl rfl ?_ ?_
    ·intro w _;go_simp
    try simp only[Act.put,Ņ,ņ,Ň]
    refine bK 10 27 (.pointer (some ⟨o,4,none⟩)) A rfl rfl ?_ ?_
    ·intro w _;go_simp
    try simp only[Act.put,Ņ,ņ,Ň]
    refine iG 11 28 (.slice (some ⟨g,0,none⟩) n Z) A rfl rfl ?_ ?_
    ·intro w Ϥ;obtain⟨jc,jd,kr,lu,oH,sQ,sS,jh7,jh8⟩:=Ϥ;go_simp
    try simp only[Act.put,Ņ,ņ,Ň]
    refine bK 12 29 (.int .i64 (i:Int)) A rfl rfl ?_ ?_
    ·intro w _;go_simp
    try simp only[Act.put,Ņ,ņ,Ň]
    refine bK 13 30 (.pointer (some ⟨g,i*4,none⟩)) A rfl rfl ?_ ?_
    ·intro w _;go_simp
    try simp only[Act.put,Ņ,ņ,Ň]
    refine iG 14 31 (.agg #[.int .i64 f',.int .i64 s',.slice p3 m' t3,.slice p4 m' t4]) A rfl rfl ?_ ?_
    ·intro w Ϥ;obtain⟨jc,jd,kr,lu,oH,sQ,sS,jh7,jh8⟩:=Ϥ;go_simp
    refine bU (rs:=[15,19]) iX rQ ?_;refine aQ.cons rfl (λK D=>?_) (aQ.cons rfl (λK D=>?_) aQ.nil)
    ·go_simp
     refine Calls.mono (Df.out _ HB0.out) ?_;rintro e w5 ⟨p,q,J,O,R,U,I,Q,v3,rfl,ç,hs5,Ć⟩;refine D.out _ _ (gZ.out _ ç) ?_;refine bK 16 16 (.tuple #[.agg #[.int .i64 p,.int .i64 q,.slice J R I,.slice O U Q],v3]) (gZ.out _ ç) rfl rfl ?_ ?_
     ·intro w _;go_simp
     refine bK 17 33 (.agg #[.int .i64 p,.int .i64 q,.slice J R I,.slice O U Q]) (gZ.out _ ç) rfl rfl ?_ ?_
     ·intro w _;go_simp
     refine bK 18 34 v3 (gZ.out _ ç) rfl rfl ?_ ?_
     ·intro w _;go_simp
     refine lZ 19 rfl λK D=>?_
     go_simp
     refine D.out _ _ (gZ.out _ (bP ç (.cells #[.int .i64 0,.int .i64 0,.slice none 0 0,.slice none 0 0] 114))) ?_;have Ĝ:(w5.alloc (.cells #[.int .i64 0,.int .i64 0,.slice none 0 0,.slice none 0 0] 114)).heap[w5.heap.size]? = some (.cells #[.int .i64 0,.int .i64 0,.slice none 0 0,.slice none 0 0] 114 (0,0)):=heap_alloc_new _ _;have qO:wr.heap.size<=w5.heap.size:=ç.size;have j0:=ak Ĝ 0;have j1:=ak Ĝ 1;have j2:=ak Ĝ 2;have j3:=ak Ĝ 3;simp at j0 j1 j2 j3;have jf:∀k,World.frozen? (w5.alloc (.cells #[.int .i64 0,.int .i64 0,.slice none 0 0,.slice none 0 0] 114)) ⟨w5.heap.size,k,none⟩=false:=λk=>aA Ĝ k
     refine oz 20 rfl λK D=>?_
     have Dh:=ϱ (show Ym ea wr _ a b v3 _ from ⟨_,p,q,J,O,R,U,I,Q,rfl,heap_alloc_new _ _,qO,Ć.below (bP (Below.refl _ _) _)⟩);go_simp
     refine D.out _ _ ?_;refine oz 21 rfl λK D=>?_
     go_simp
     refine D.out _ _ ?_;refine dz iX ?_ _;go_wp2_with fail;go_meet;case rel=>exact Dh.out
    ·go_simp
     refine D.out _ _ (gZ.out _ (bP HB0.out (.cells #[.int .i64 0,.int .i64 0,.slice none 0 0,.slice none 0 0] 114))) ?_;have Ĝ:(wr.drew.alloc (.cells #[.int .i64 0,.int .i64 0,.slice none 0 0,.slice none 0 0] 114)).heap[wr.heap.size]? = some (.cells #[.int .i64 0,.int .i64 0,.slice none 0 0,.slice none 0 0] 114 (0,0)):=heap_alloc_new _ _;have qO:wr.heap.size<=wr.heap.size:=le_refl _;refine lZ 15 rfl λK D=>?_
     go_simp
     refine Calls.mono (Df.out _ (bP HB0.out (.cells #[.int .i64 0,.int .i64 0,.slice none 0 0,.slice none 0 0] 114))) ?_;rintro e w5 ⟨p,q,J,O,R,U,I,Q,v3,rfl,ç,hs5,Ć⟩;refine D.out _ _ (gZ.out _ ç) ?_;clear D K;try simp only[Act.put,Ņ,ņ,Ň]
     have AV:=(hs5.block _ (aC Ĝ)).trans Ĝ;refine bK 16 16 (.tuple #[.agg #[.int .i64 p,.int .i64 q,.slice J R I,.slice O U Q],v3]) (gZ.out _ ç) rfl rfl ?_ ?_
     ·intro w _;go_simp
     try simp only[Act.put,Ņ,ņ,Ň]
     refine bK 17 33 (.agg #[.int .i64 p,.int .i64 q,.slice J R I,.slice O U Q]) (gZ.out _ ç) rfl rfl ?_ ?_
     ·intro w _;go_simp
     try simp only[Act.put,Ņ,ņ,Ň]
     refine bK 18 34 v3 (gZ.out _ ç) rfl rfl ?_ ?_
     ·intro w _;go_simp
     try simp only[Act.put,Ņ,ņ,Ň]
     have j0:=ak AV 0;have j1:=ak AV 1;have j2:=ak AV 2;have j3:=ak AV 3;simp at j0 j1 j2 j3;have jf:∀k,World.frozen? w5 ⟨wr.heap.size,k,none⟩=false:=λk=>aA AV k
     refine oz 20 rfl λK D=>?_
     have Dh:=ϱ (show Ym ea wr _ a b v3 _ from ⟨_,p,q,J,O,R,U,I,Q,rfl,_root_.Go.Proofs.YtnjmhjdhfaboaaaGreatDoor.uN AV _ _ _ _,qO,Ć.uN AV qO _ _ _ _⟩);go_simp
     refine D.out _ _ ?_;clear D K;try simp only[Act.put,Ņ,ņ,Ň]
     refine oz 21 rfl λK D=>?_
     go_simp
     refine D.out _ _ ?_;clear D K;try simp only[Act.put,Ņ,ņ,Ň]
     refine dz iX ?_ _;clear j0 j1 j2 j3 jf;go_wp2_with fail;go_meet;case rel=>exact Dh.out
   obtain⟨Y,p,q,J,O,R,U,I,Q,rfl,hj,qO,Ć⟩:=hcut;have J4:=Ć.OC;by_cases W:vD a b=0
   ·obtain rfl:=J4.none W;obtain⟨Ϯ,pI,fT,ë,Ϝ⟩:=mF.out;have hwc:Below wa.heap.size wa wc:=bA.out.trans (Ć.aI.mono bA.out.size);have Ji:Hid (∀z,Below wc.heap.size wc z->z.cell? ⟨o,4,none⟩=some (.slice (some ⟨g,0,none⟩) n Z)/\z.cell? ⟨Y,0,none⟩=some (.int .i64 p)/\z.cell? ⟨Y,1,none⟩=some (.int .i64 q)/\z.cell? ⟨Y,2,none⟩=some (.slice J R I)/\z.cell? ⟨Y,3,none⟩=some (.slice O U Q)):=λz W=>by
     have e0:=(W.block _ (lt_of_lt_of_le qm hwc.size)).trans ((hwc.block _ qm).trans V.out.blk);rw[<-Ϝ] at e0;have e1:=(W.block _ (aC hj)).trans hj;exact⟨ak e0 4,ak e1 0,ak e1 1,ak e1 2,ak e1 3⟩
    have Ï:Below wc.heap.size wc wc.drew:=dA (Below.refl _ _);have HWZ:Hid (Below wr.heap.size wr (wc.drew.alloc (.cells #[.int .i64 p,.int .i64 q,.slice J R I,.slice O U Q] 114))):=Ć.aI.trans ((bP Ï _).mono Ć.aI.size);have ajx:Below wa.heap.size wa (wc.drew.alloc (.cells #[.int .i64 p,.int .i64 q,.slice J R I,.slice O U Q] 114)):=bA.out.trans (HWZ.out.mono bA.out.size);obtain⟨j,hj2⟩:=bF (k+2);have HRP:Hid (Calls prog 73 #[.slice (some ⟨g,0,none⟩) n Z,.int .i64 (k:Int),.int .i64 (j:Int),.slice (some ⟨wc.heap.size,0,none⟩) 1 1] (wc.drew.alloc (.cells #[.int .i64 p,.int .i64 q,.slice J R I,.slice O U Q] 114)) λe w'=>e = .returned (.slice (some ⟨g,0,none⟩) (n-1) Z)/\kC g (wc.drew.alloc (.cells #[.int .i64 p,.int .i64 q,.slice J R I,.slice O U Q] 114)) w'/\w'.ownsRow w.heap.size 114 4 (.slice (some ⟨g,0,none⟩) (n-1) Z) (n-1) ((bM Bs vs).take (k*4) ++ [.int .i64 p,.int .i64 q,.slice J R I,.slice O U Q]++(bM Bs vs).drop (j*4))):=by
     refine Yl (wc.drew.alloc (.cells #[.int .i64 p,.int .i64 q,.slice J R I,.slice O U Q] 114)) w.heap.size g n Z k j (bM Bs vs) (aX fT ajx) hj2 (by have:=HKI.out.1;omega) wc.heap.size 1 [.int .i64 p,.int .i64 q,.slice J R I,.slice O U Q] rfl (World.news_of_block (heap_alloc_new wc.drew _)) (λz W=>?_) (Ct _ _ λv hv=>jK.one Ϯ ë v hv);simp at W;rcases W with rfl|rfl|rfl|rfl<;>rfl
    have tq:Hid (p=(wG a b).1/\q=(wG a b).2.1/\wc.ownsRow wr.heap.size 9 1 (.slice J R I) (wG a b).2.2.length (((wG a b).2.2.map Prod.fst).map encStr)/\wc.ownsRow wr.heap.size 9 1 (.slice O U Q) (wG a b).2.2.length (((wG a b).2.2.map λr=>dZ r.2).map encStr)):=by
     rcases Ć.res with h|h
     ·exact h.2
     ·exact absurd W h.1
    have IX:Hid (wr.heap.size<=Y/\Y<wc.heap.size/\Below wa.heap.size wa wc):=⟨qO,aC hj,hwc⟩;have HZ:Hid (vD a b=0):=W;have HJ2:=ϱ hj2;have ř:g<wa.heap.size:=(aH fT rfl).2.1;have hsg:o≠g:=λe=>V.out.sH (by rw[pI,e];simp[Value.ownBlock])
    have y5:IntKind.i64.wrap ((i:Int)+1)=(j:Int):=by
     have:=HKI.out.1;rw[IntWalk.i64_in _ fM];omega
    clear Ϯ pI fT ë Ϝ hwc ajx hj qO Ć J4 W hj2;go_upto_region 6 with fail;refine eX (S:=λz=>z.cell? ⟨o,4,none⟩=some (.slice (some ⟨g,0,none⟩) n Z)/\z.cell? ⟨Y,0,none⟩=some (.int .i64 p)/\z.cell? ⟨Y,1,none⟩=some (.int .i64 q)/\z.cell? ⟨Y,2,none⟩=some (.slice J R I)/\z.cell? ⟨Y,3,none⟩=some (.slice O U Q)) iX 14 (Ji.out _ Ï) (λA=>?_);refine bK 0 37 (.pointer (some ⟨o,0,none⟩)) A rfl rfl ?_ ?_
    ·intro w _;go_simp
    try simp only[Act.put,Ņ,ņ,Ň]
    refine bK 1 38 (.pointer (some ⟨o,0,none⟩)) A rfl rfl ?_ ?_
    ·intro w _;go_simp
    try simp only[Act.put,Ņ,ņ,Ň]
    refine bK 2 39 (.pointer (some ⟨o,0,none⟩)) A rfl rfl ?_ ?_
    ·intro w _;go_simp
    try simp only[Act.put,Ņ,ņ,Ň]
    refine bK 3 40 (.pointer (some ⟨o,4,none⟩)) A rfl rfl ?_ ?_
    ·intro w _;go_simp
    try simp only[Act.put,Ņ,ņ,Ň]
    refine iG 4 41 (.slice (some ⟨g,0,none⟩) n Z) A rfl rfl ?_ ?_
    ·intro w Ϥ;obtain⟨jc,jd,kr,lu,oH⟩:=Ϥ;go_simp
    try simp only[Act.put,Ņ,ņ,Ň]
    refine bK 5 42 (.int .i64 (i:Int)) A rfl rfl ?_ ?_
    ·intro w _;go_simp
    try simp only[Act.put,Ņ,ņ,Ň]
    refine bK 6 43 (.int .i64 (k:Int)) A rfl rfl ?_ ?_
    ·intro w _;go_simp
    refine bK 7 44 (.int .i64 (i:Int)) A rfl rfl ?_ ?_
    ·intro w _;go_simp
    refine bK 8 45 (.int .i64 (j:Int)) A rfl rfl ?_ ?_
    ·intro w _;go_simp
    refine iG 9 46 (.agg #[.int .i64 p,.int .i64 q,.slice J R I,.slice O U Q]) A rfl rfl ?_ ?_
    ·intro w Ϥ;obtain⟨jc,jd,kr,lu,oH⟩:=Ϥ;go_simp
    refine lZ 10 rfl λK D=>?_
    go_simp
    refine D.out _ _ (Ji.out _ (bP Ï _)) ?_;refine lZ 11 rfl λK D=>?_
    go_simp
    refine Calls.mono HRP.out ?_;rintro e w7 ⟨rfl,ho7,bR⟩;have J3:=(ho7.block o hsg).trans (((bP Ï _).block o (lt_of_lt_of_le qm IX.out.2.2.size)).trans (IX.out.2.2.block o qm));have J5:=(ho7.block Y λe=>by have:=IX.out.1;have:=bA.out.size;omega).trans ((bP Ï _).block Y IX.out.2.1);have ž:∀i,w7.cell? ⟨Y,i,none⟩=wc.cell? ⟨Y,i,none⟩:=λi=>by simp[World.cell?,J5]
    have ĭ:=Ji.out wc (Below.refl _ _);have hblk7:=J3.trans V.out.blk;rw[<-mF.out.2.2.2.2] at hblk7;have sP:Hid ((λz:World=>z.cell? ⟨o,4,none⟩=some (.slice (some ⟨g,0,none⟩) n Z)/\z.cell? ⟨Y,0,none⟩=some (.int .i64 p)/\z.cell? ⟨Y,1,none⟩=some (.int .i64 q)/\z.cell? ⟨Y,2,none⟩=some (.slice J R I)/\z.cell? ⟨Y,3,none⟩=some (.slice O U Q)) w7):=⟨ak hblk7 4,(ž _).trans ĭ.2.1,(ž _).trans ĭ.2.2.1,(ž _).trans ĭ.2.2.2.1,(ž _).trans ĭ.2.2.2.2⟩;have z4:=sP.out.1;have zf:=aA hblk7 4;have aL:Hid (∃H',fE w (w7.setCell ⟨o,4,none⟩ (.slice (some ⟨g,0,none⟩) (n-1) Z)) o hb db S d (Bs.take k++wG a b::Bs.drop (k+2)) span keep (.slice (some ⟨g,0,none⟩) (n-1) Z) G F H'/\Kept (o::H) wa (w7.setCell ⟨o,4,none⟩ (.slice (some ⟨g,0,none⟩) (n-1) Z))/\∀x,x∈H'->x∈H\/wa.heap.size<=x):=by
     obtain⟨Ϯ,pI,fT,ë,Ϝ⟩:=mF.out;obtain⟨r1,r2,r3,r4⟩:=tq.out;rw[r1,r2,HJ2.out] at bR;have ϖ:=V.out;rw[<-Ϝ] at ϖ pI;exact adH ϖ Ϝ Ϯ pI fT ë bA.out HWZ.out k (by have:=HKI.out.1;omega) (wG a b) _ _ (aX r3 (bP Ï _)) (aX r4 (bP Ï _)) ho7 bR
    refine D.out _ _ sP.out ?_;refine bK 12 49 (.pointer (some ⟨o,0,none⟩)) sP.out rfl rfl ?_ ?_
    ·intro w _;go_simp
    refine bK 13 50 (.pointer (some ⟨o,4,none⟩)) sP.out rfl rfl ?_ ?_
    ·intro w _;go_simp
    refine oz 14 rfl λK D=>?_
    go_simp
    refine D.out _ _ ?_;refine dz iX ?_ _;obtain⟨H',q1,q2,q3⟩:=aL.out;have HQ:=ϱ (And.intro q1 (And.intro q2 q3));go_wp2;go_ret2;obtain⟨e1,e2,e3,e4,e5⟩:=HKI.out;subst e1;refine .inl ⟨k,e5,.slice (some ⟨g,0,none⟩) (n-1) Z,H',λq hq=>BH.out q fM fM,?_,rfl,?_,HQ.out.2.1,HQ.out.2.2⟩
    ·rw[<-e2,<-e3];exact HZ.out
    ·rw[<-e2,<-e3];exact HQ.out.1
   ·obtain⟨tv,pv,rfl⟩:=mq J4 W;have Oz:=ϱ (bA.out.trans (Ć.aI.mono bA.out.size));have HZ:=ϱ W;go_wp2;go_roundw;case rel=>
     refine⟨i+1,fM,.inl fM,rU,Oz.out,λq hq hqi=>?_⟩;by_cases Ŵ:q+1<i
     ·exact BH.out q hq Ŵ
     ·obtain⟨e1,e2,e3,_,_⟩:=HKI.out;obtain rfl:q=k:=fM;subst e1;rw[<-e2,<-e3];exact HZ.out
    case measure=>simp[intOf]<;>omega
  ·have aL:Hid (∀q (hq:q+1<Bs.length),vD (Bs[q]'fM) Bs[q+1]≠0):=λq hq=>ϩ q hq (by have:=mF.out.2.2.2.2;omega)
   go_wp2;go_ret2;exact .inr ⟨aL.out,rfl,V.out.below bA.out,bA.out⟩
