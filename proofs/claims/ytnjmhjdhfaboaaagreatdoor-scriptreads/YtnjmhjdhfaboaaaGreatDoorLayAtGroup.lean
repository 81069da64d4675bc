import Derived.Test.YtnjmhjdhfaboaaaGreatDoorStAtGroup
import Derived.Test.YtnjmhjdhfaboaaaGreatDoorBlkBothGroup
set_option maxRecDepth 1000000
set_option maxHeartbeats 4000000
open Nat (le_refl le_trans lt_of_lt_of_le not_lt_zero sub_self zero_add zero_le)
open List
open Go.Proofs.Tryz
namespace Go.Proofs.YtnjmhjdhfaboaaaGreatDoor
open Go.RowKit Go.Maps aV aD aR bK dH aU
theorem ϰ{p:Prop}(h:p):Go.RowKit.Hid p:=h
theorem ĸ{A:Type}(l:List A)(i:Nat)(a:A):l.toArray.setIfInBounds i a=(l.set i a).toArray:=setIfInBounds_toArray ..
theorem Ĺ{A:Type}{x:A}{l:List A}{i:Nat}{a:A}:(x::l).set (i+1) a=x::l.set i a:=set_cons_succ
theorem ĺ{A:Type}{x:A}{l:List A}{a:A}:(x::l).set 0 a=a::l:=set_cons_zero
structure MU(B:Nat)(ea:Nat->Addr)(w:World):Prop where
 a:xI B ea w
 k:oF B ea w
theorem MU.below{B:Nat}{ea:Nat->Addr}{w w':World}(E:MU B ea w){o:Nat}(h:Below o w w')(q:B<=o):MU B ea w':=⟨E.a.below h q,E.k.below h q⟩
noncomputable def tu(s:Int)(L:List Rw):List Int->List Bk
 | []=>[]
 | f::fs=>if kG f s (je s f L)=0 then (f,s,je s f L)::tu s L fs else []
noncomputable def xK(s:Int)(L:List Rw):List Int->Int
 | []=>0
 | f::fs=>if kG f s (je s f L)=0 then xK s L fs else 7
theorem OD{s:Int}{L:List Rw}:∀ {o:List Int},(∀f,f∈o->kG f s (je s f L)=0)->tu s L o=o.map (λf=>(f,s,je s f L))/\xK s L o=0
 | [],_=>⟨rfl,rfl⟩
 | f::o,h=>by
  have q:=h f (mem_cons_self ..);obtain⟨z,A⟩:=OD λg D=>h g (mem_cons_of_mem _ D)
  exact⟨by rw[tu,if_pos q,z];rfl,by rw[xK,if_pos q,A]⟩
theorem RO{s:Int}{L:List Rw}{f:Int}{gs:List Int}(q:kG f s (je s f L)≠0):∀ {o:List Int},(∀f,f∈o->kG f s (je s f L)=0)->tu s L (o++f::gs)=o.map (λf=>(f,s,je s f L))/\xK s L (o++f::gs)=7
 | [],_=>⟨by rw[nil_append,tu,if_neg q];rfl,by rw[nil_append,xK,if_neg q]⟩
 | g::o,h=>by
  have z:=h g (mem_cons_self ..);obtain⟨A,D⟩:=RO q λg F=>h g (mem_cons_of_mem _ F)
  exact⟨by rw[cons_append,tu,if_pos z,A];rfl,by rw[cons_append,xK,if_pos z,D]⟩
structure wG(sb:Nat)(w z:World):Prop where
 size:w.heap.size<=z.heap.size
 block:∀(b:Nat) (o:Obj),w.heap[b]? = some o->(∀cs fr,o ≠ .cells cs 114 fr)->b≠sb->z.heap[b]? = some o
theorem wG.refl(o:Nat)(w:World):wG o w w:=⟨le_refl _,λ_ _ h _ _=>h⟩
theorem wG.kept{A:Nat}{w z y:World}(h:wG A w z){S:List Nat}(H:Kept S z y)(J:∀x,x∈S->x=A\/∃cs D,z.heap[x]? = some (.cells cs 114 D)):wG A w y:=⟨le_trans h.size H.size,λb o I F G=>by
 have q:=h.block b o I F G;refine (H.block b (Array.getElem?_eq_some_iff.1 q).1 λK=>?_).trans q;rcases J b K with e|⟨cs,D,e⟩
 ·exact G e
 ·rw[q] at e;injection e with e;exact F _ _ e⟩
theorem wG.own{F:Nat}{w z:World}(h:wG F w z){o:Nat}{e:TypeId}{G:Nat}{v:Value}{n:Nat}{xs:List Value}(D:w.ownsRow o e G v n xs)(I:e≠114)(Q:F<o):z.ownsRow o e G v n xs:=bC D λg J=>by
 obtain⟨O,_,H,A⟩:=aH D J;rw[A];exact h.block g _ A (λcs K q=>by injection q with _ q;exact I q) fO
theorem jZ.akL{o O:Nat}{wr w':World}{q K:Nat}{J:Int->Bool}{R:Int->List Rw}{X:Int->List Value}{Q:Int->Value}(h:jZ o wr q K J R X Q)(F:wG O wr w')(V:O<o)(hm:o<=q):jZ o w' q K J R X Q:=by
 refine⟨h.im.same ?_ λk G g Y=>?_,λf W=>(h.rows f W).map λv n xs Z=>F.own Z nQ V⟩
 ·obtain⟨D,⟨es,z,I,_⟩,_⟩:=h.im.map;rw[I];exact F.block q _ I (λ_ _ e=>by cases e) fO
 ·obtain⟨h1,_,U,H⟩:=aH (h.im.row k G) Y;rw[H];exact F.block g _ H (λcs fr A=>by injection A with _ A;revert A;decide) fO
theorem Tryz.infoBk:(prog.info? 114).map (λi=>(i.zero,i.size,i.bytes))=some (some (.agg #[.int .i64 0,.int .i64 0,.slice none 0 0,.slice none 0 0]),4,64):=lG
theorem Gy:∀(Bs:List Bk) (o:List (Value×Value)) (_:o.length=Bs.length) (b:Bk) (v:Value×Value),bM (Bs ++ [b]) (o ++ [v])=bM Bs o ++ [.int .i64 b.1,.int .i64 b.2.1,v.1,v.2]
 | [],[],_,_,_=>rfl
 | [],_::_,h,_,_=>by cases h
 | _::_,[],h,_,_=>by cases h
 | a::Bs,u::o,h,b,v=>by
  have:=Gy Bs o (by simpa using h) b v;show _::_::_::_::bM (Bs ++ [b]) (o ++ [v])=_;rw[this];rfl
theorem Cq:∀(Bs:List Bk) (o:List (Value×Value)),o.length=Bs.length->(bM Bs o).length=Bs.length*4
 | [],[],_=>rfl
 | [],_::_,h=>by cases h
 | _::_,[],h=>by cases h
 | a::Bs,u::o,h=>by
  have:=Cq Bs o (by simpa using h);show (bM Bs o).length+4=(Bs.length+1)*4;omega
theorem jH.snoc{wr w7:World}{o:Nat}{Bs:List Bk}{z:List (Value×Value)}(H:z.length=Bs.length)
  (W:∀i (I:i<Bs.length) (D:i<z.length),wr.ownsRow o 9 1 z[i].1 Bs[i].2.2.length ((Bs[i].2.2.map Prod.fst).map encStr)/\wr.ownsRow o 9 1 z[i].2 Bs[i].2.2.length ((Bs[i].2.2.map λr=>dU r.2).map encStr))
  (b:Bk) (v1 F:Value) (O:wr.ownsRow o 9 1 v1 b.2.2.length ((b.2.2.map Prod.fst).map encStr)) (Q:wr.ownsRow o 9 1 F b.2.2.length ((b.2.2.map λr=>dU r.2).map encStr))
  {g A:Nat} (ό:w7.ownsRow o 114 4 (.slice (some ⟨g,0,none⟩) (Bs.length+1) A) (Bs.length+1) (bM Bs z ++ [.int .i64 b.1,.int .i64 b.2.1,v1,F])) (U:∀(x:Nat) (cs:Array Value),wr.heap[x]? = some (Obj.cells cs 9 (0,0))->w7.heap[x]? = wr.heap[x]?) :
  jH w7 o (.slice (some ⟨g,0,none⟩) (Bs.length+1) A) (Bs ++ [b]) (g::(z.flatMap ownB++ownB (v1,F))):=by
 have G:∀v n xs,wr.ownsRow o 9 1 v n xs->w7.ownsRow o 9 1 v n xs:=λv n xs D=>bC D λq V=>by
  obtain⟨_,_,J,R⟩:=aH D V;exact U q _ R
 refine⟨z ++ [(v1,F)],by simp[H],?_,?_,λi I D=>?_⟩
 ·rw[flatMap_append];simp[Value.ownBlock]
 ·rw[Gy _ _ H,length_append];exact ό
 ·by_cases e:i<Bs.length
  ·rw[getElem_append_left e,getElem_append_left fO];obtain⟨Y,Z⟩:=W i e fO;exact⟨G _ _ _ Y,G _ _ _ Z⟩
  ·have K:i=Bs.length:=by simp at I;omega
   subst K;rw[getElem_append_right (le_refl _),getElem_append_right fO];simp only[H,sub_self,getElem_cons_zero];exact⟨G _ _ _ O,G _ _ _ Q⟩
theorem fE.blocks{w wr z:World}{A Q K:Nat}{S:List Sr}{d:Dk}{Bs D:List Bk}{q keep:Int}{vB U:Value}{G F H I:List Nat}(h:fE w wr A Q K S d Bs q keep vB G F H)(R:Kept (A::H) wr z)(ϋ:z.heap[A]? = some (.cells #[.pointer (some ⟨Q,0,none⟩),.pointer (some ⟨K,0,none⟩),.int .i64 q,.int .i64 keep,U] 141 (0,0)))(ö:jH z w.heap.size U D I)(hf:∀x,x∈I->x∈H\/wr.heap.size<=x):fE w z A Q K S d D q keep U G F I:=by
 have W:∀x,x∈G\/x∈F->x∉A::H:=λx o J=>by
  rcases mem_cons.1 J with rfl|J
  ·rcases o with o|o
   ·exact h.sG o
   ·exact h.sF o
  ·rcases o with o|o
   ·exact h.gH x o J
   ·exact h.fH x o J
 have O:∀x,x<wr.heap.size->x∉H->x∉I:=λx o Y Z=>by
  rcases hf x Z with V|V
  ·exact Y V
  ·omega
 have Ó:∀x,x∈A::H->w.heap.size<=x:=λx o=>by
  rcases mem_cons.1 o with rfl|o
  ·exact h.low
  ·exact (h.vg.mem o).1
 exact
  {blk:=ϋ
   low:=h.low
   hd:=h.hd.kept R λx o=>W x (.inl o)
   dk:=h.dk.same (h.aI.trans (R.below h.aI.size Ó)) λx o=>R.block x (h.dk.mem o).2 (W x (.inr o))
   vg:=ö
   sG:=h.sG
   sF:=h.sF
   sH:=O A (aC h.blk) h.sH
   gF:=h.gF
   gH:=λx o=>O x (h.hd.lt o) (h.gH x o)
   fH:=λx o=>O x (h.dk.mem o).2 (h.fH x o) }
theorem Kept.sub{S T:List Nat}{w z:World}(h:Kept S w z)(A:∀x,x∈S->x∈T):Kept T w z:=⟨h.os,h.tape,h.output,h.size,λx D q=>h.block x D λo=>q (A x o)⟩
theorem fE.lay{w A W w7:World}{q hb db:Nat}{S:List Sr}{d:Dk}{Bs:List Bk}{J keep:Int}{D:Value}{G F H:List Nat}(h:fE w A q hb db S d Bs J keep D G F H)(K:Below A.heap.size A W){I:List (Value×Value)}(hl:I.length=Bs.length)(R:H=D.ownBlock.toList++I.flatMap ownB)
  (hr:∀i (V:i<Bs.length) (Z:i<I.length),A.ownsRow w.heap.size 9 1 I[i].1 Bs[i].2.2.length ((Bs[i].2.2.map Prod.fst).map encStr)/\A.ownsRow w.heap.size 9 1 I[i].2 Bs[i].2.2.length ((Bs[i].2.2.map λr=>dU r.2).map encStr))
  (ho:A.ownsRow w.heap.size 114 4 D Bs.length (bM Bs I)) (b:Bk) (v1 Q:Value) (h1:W.ownsRow A.heap.size 9 1 v1 b.2.2.length ((b.2.2.map Prod.fst).map encStr)) (h2:W.ownsRow A.heap.size 9 1 Q b.2.2.length ((b.2.2.map λr=>dU r.2).map encStr))
  {g z:Nat} (ό:w7.ownsRow w.heap.size 114 4 (.slice (some ⟨g,0,none⟩) (Bs.length+1) z) (Bs.length+1) (bM Bs I ++ [.int .i64 b.1,.int .i64 b.2.1,v1,Q])) (ą:W.grownBy w7 D.ownBlock) (É:D.ownBlock=some g\/g=W.heap.size) :
  ∃H',fE w (w7.setCell ⟨q,4,none⟩ (.slice (some ⟨g,0,none⟩) (Bs.length+1) z)) q hb db S d (Bs ++ [b]) J keep (.slice (some ⟨g,0,none⟩) (Bs.length+1) z) G F H'/\Kept (q::D.ownBlock.toList) A (w7.setCell ⟨q,4,none⟩ (.slice (some ⟨g,0,none⟩) (Bs.length+1) z))/\∀x,x∈H'->x∈H\/A.heap.size<=x:=by
 have Zh:=lt_of_lt_of_le (aC h.blk) K.size;have Ť:some q≠D.ownBlock:=λe=>h.sH (by rw[R,<-e];simp)
 have Y:=(ą.block q Zh Ť).trans ((K.block q (aC h.blk)).trans h.blk);have O:∀(x:Nat) (cs:Array Value),W.heap[x]? = some (Obj.cells cs 9 (0,0))->w7.heap[x]? = W.heap[x]?:=λx cs o=>ą.block x (Array.getElem?_eq_some_iff.1 o).1 λe=>by
  obtain⟨_,ϗ,cur,hc⟩:=aH ho e.symm;rw[K.block x ϗ,hc] at o;injection o with o;injection o with _ o;revert o;decide
 have ö:=jH.snoc (wr:=W) (w7:=w7) hl (λi V Z=>⟨aX (hr i V Z).1 K,aX (hr i V Z).2 K⟩) b v1 Q (iA h1 h.aI.size) (iA h2 h.aI.size) ό O;have Ϲ:∀x,x∈g::(I.flatMap ownB++ownB (v1,Q))->x∈H\/A.heap.size<=x:=λx o=>by
  rcases mem_cons.1 o with rfl|o
  ·rcases É with e|e
   ·exact .inl (by rw[R,e];simp)
   ·have:=K.size;exact .inr fO
  ·rcases mem_append.1 o with o|o
   ·exact .inl (by rw[R];exact mem_append.2 (.inr o))
   ·rcases mem_append.1 o with o|o
    ·exact .inr (uZ h1 o).1
    ·exact .inr (uZ h2 o).1
 have Į:q∉g::(I.flatMap ownB++ownB (v1,Q)):=λo=>by
  rcases Ϲ q o with h3|h3
  ·exact h.sH h3
  ·have:=aC h.blk;omega
 have à:∀x,x≠q->(w7.setCell ⟨q,4,none⟩ (.slice (some ⟨g,0,none⟩) (Bs.length+1) z)).heap[x]? = w7.heap[x]?:=λx o=>Below.heap_setCell _ _ _ _ (by show x≠q;exact o)
 have U:Kept (q::D.ownBlock.toList) A (w7.setCell ⟨q,4,none⟩ (.slice (some ⟨g,0,none⟩) (Bs.length+1) z)):=by
  refine (((Kept.of_below K).trans (Kept.grown (S:=D.ownBlock.toList) ą λk U=>by rw[U];simp) λx o=>.inl (mem_cons_of_mem _ o)).setCell (p:=⟨q,4,none⟩) (.inl (mem_cons_self ..)) _)
 refine⟨_,h.blocks (U.sub λx o=>?_) ((dw Y 4 _).trans rfl) (ö.same λx o=>à x λe=>Į (e ▸ o)) Ϲ,U,Ϲ⟩
 ·rcases mem_cons.1 o with e|e
  ·exact mem_cons.2 (.inl e)
  ·exact mem_cons_of_mem _ (by rw[R];exact mem_append.2 (.inl e))
theorem AQ{w:World}{o:Nat}{e:TypeId}{D:Nat}{g n z:Nat}{xs:List Value}(h:w.ownsRow o e D (.slice (some ⟨g,0,none⟩) n z) n xs):∀j u,xs[j]? = some u->w.cell? ((⟨g,0,none⟩:Addr).add j)=some u:=λj u q=>by
 rcases h.2 with⟨hv,_⟩|⟨g',cap',cur,hv,_,hh,_,_,_,hc⟩
 ·cases hv
 ·injection hv with hv _ _;injection hv with hv;injection hv with hv;subst hv;rw[Addr.add_lit,zero_add];have A:w.cell? ⟨g,j,none⟩=cur[j]?:=by simp[World.cell?,hh]
  rw[A,<-Array.getElem?_toList];rw[<-hc] at q;rw[List.getElem?_take] at q;split at q
  ·exact q
  ·cases q
theorem LA(w:World)(o:Nat)(v:Value)(n:Nat)(ss:List (List UInt8))(F:n=ss.length)(h:w.ownsRow o 9 1 v n (ss.map encStr))(hl:n<=10000):
  Calls prog 81 #[v] w λe w'=>∃v',e = .returned v'/\w'.ownsRow w.heap.size 9 1 v' n (ss.map encStr)/\Below w.heap.size w w':=by
 rcases h.2 with⟨rfl,h0⟩|⟨g,cap,cur,rfl,_⟩
 ·have Y:∀w,(binOp .eql 22 (.slice none 0 0) (.slice none 0 0)).run prog w = .ok (.bool true) w:=λw=>Lib.run_eql_slice_nil w _ _ none 0 0 0 0 underlying22
  have V:ss.map encStr = []:=by rw[eq_nil_of_length_eq_zero (F.symm.trans h0)];rfl
  rw[V,h0];go_enter func81,ntmps81;go_wp2;go_ret;exact⟨_,rfl,⟨rfl,.inl ⟨rfl,rfl⟩⟩,Below.refl _ _⟩
 ·have Y:∀w,(binOp .eql 22 (.slice (some ⟨g,0,none⟩) n cap) (.slice none 0 0)).run prog w = .ok (.bool false) w:=λw=>Lib.run_eql_slice_nil w _ _ (some ⟨g,0,none⟩) n cap 0 0 underlying22
  obtain⟨W,H,z,A,D⟩:=info_parts Tryz.infoStr2;have K:=ϰ H;have J:Hid (∀j u,(ss.map encStr)[j]? = some u->(w.alloc (.cells #[] 9)).cell? ((⟨g,0,none⟩:Addr).add j)=some u):=λj u R=>Lib.cell?_alloc_some _ (AQ h j u R)
  have I:Hid (∀u∈ss.map encStr,u.oneCell'=true):=λu U=>by obtain⟨x,_,rfl⟩:=mem_map.1 U;rfl
  have O:Hid ((ss.map encStr).length=n*1):=by show _=_;rw[length_map,Nat.mul_one,F]
  have Q:Hid ((w.alloc (.cells #[] 9)).ownsRow w.heap.size 9 1 (.slice (some ⟨w.heap.size,0,none⟩) 0 0) 0 []):=World.ownsRow_made w #[] 0 (le_refl _) (zero_le _) rfl;clear h H F;go_enter func81,ntmps81;go_wp2_with (at_builtin;refine oO rfl _ _ 22 rfl w.heap.size 9 W (.string ⟨#[]⟩) 1 16 underlying22 K.out z A D rfl nQ _ _ _ rfl Q.out _ n cap (ss.map encStr) rfl O.out (Or.inr ⟨g,0,rfl,J.out⟩) I.out fO nQ vI ?_);intro v' w1 Z q _;have G:Hid (w1.ownsRow w.heap.size 9 1 v' n (ss.map encStr)/\Below w.heap.size w w1):=by
   refine⟨by simpa using Z,((Below.refl _ _).alloc (le_refl _) _).trans ⟨q.os,q.tape,q.output,q.size,λb hb=>q.block b rD λe=>?_⟩⟩;simp[Value.ownBlock] at e;omega
  go_wp2;go_ret;exact⟨v',rfl,G.out.1,G.out.2⟩
theorem XG(w:World)(g o n q:Nat)(z:List Value)(Y:z.length=n*4)(V:∀j u,z[j]? = some u->w.cell? ((⟨g,o,none⟩:Addr).add j)=some u)(R:∀u∈z,u.oneCell'=true)(hl:n<=10000):
  Calls prog 102 #[.slice (some ⟨g,o,none⟩) n q] w λe w'=>∃v',e = .returned v'/\w'.ownsRow w.heap.size 114 4 v' n z/\Below w.heap.size w w':=by
 have q0:∀w,(binOp .eql 111 (.slice (some ⟨g,o,none⟩) n q) (.slice none 0 0)).run prog w = .ok (.bool false) w:=λw=>Lib.run_eql_slice_nil w _ _ (some ⟨g,o,none⟩) n q 0 0 underlying111
 obtain⟨Z,U,D,F,G⟩:=info_parts Tryz.infoBk;have K:=ϰ U;have J:Hid (∀j u,z[j]? = some u->(w.alloc (.cells #[] 114)).cell? ((⟨g,o,none⟩:Addr).add j)=some u):=λj u W=>Lib.cell?_alloc_some _ (V j u W)
 have I:=ϰ R;have O:=ϰ Y;have Q:Hid ((w.alloc (.cells #[] 114)).ownsRow w.heap.size 114 4 (.slice (some ⟨w.heap.size,0,none⟩) 0 0) 0 []):=World.ownsRow_made w #[] 0 (le_refl _) (zero_le _) rfl;go_enter func102,ntmps102;go_wp2_with (at_builtin;refine oO rfl _ _ 111 rfl w.heap.size 114 Z (.agg #[.int .i64 0,.int .i64 0,.slice none 0 0,.slice none 0 0]) 4 64 underlying111 K.out D F G rfl nQ _ _ _ rfl Q.out _ n q z rfl O.out (Or.inr ⟨g,o,rfl,J.out⟩) I.out fO nQ vI ?_);intro v' w1 ό A _;have H:Hid (w1.ownsRow w.heap.size 114 4 v' n z/\Below w.heap.size w w1):=by
  refine⟨by simpa using ό,((Below.refl _ _).alloc (le_refl _) _).trans ⟨A.os,A.tape,A.output,A.size,λb hb=>A.block b rD λe=>?_⟩⟩;simp[Value.ownBlock] at e;omega
 go_wp2;go_ret;exact⟨v',rfl,H.out.1,H.out.2⟩
theorem AR:∀(m:Nat) (Bs:List Bk) (o:List (Value×Value)),o.length=Bs.length->(bM Bs o).drop (m*4)=bM (Bs.drop m) (o.drop m)
 | 0,_,_,_=>vI
 | m+1,[],[],_=>by simp[bM]
 | _+1,[],_::_,h=>by cases h
 | _+1,_::_,[],h=>by cases h
 | m+1,a::Bs,u::o,h=>by
  have:=AR m Bs o (by simpa using h);rw[drop_succ_cons,drop_succ_cons,<-this,show (m+1)*4=m*4+4 by omega];rfl
theorem Cr:∀(Bs:List Bk) (q:List (Value×Value)),(∀v,v∈q->v.1.oneCell'=true/\v.2.oneCell'=true)->∀u∈bM Bs q,u.oneCell'=true
 | [],_,_,u,o=>by simp[bM] at o
 | _::_,[],_,u,o=>by simp[bM] at o
 | a::Bs,v::q,h,u,o=>by
  have z:=h v (mem_cons_self ..);have e:bM (a::Bs) (v::q) = [.int .i64 a.1,.int .i64 a.2.1,v.1,v.2]++bM Bs q:=rfl;rw[e] at o;rcases mem_append.1 o with o|o
  ·simp at o;rcases o with rfl|rfl|rfl|rfl
   ·rfl
   ·rfl
   ·exact z.1
   ·exact z.2
  ·exact Cr Bs q (λv A=>h v (mem_cons_of_mem _ A)) u o
theorem Vh{w:World}{o:Nat}{e:TypeId}{q:Nat}{v:Value}{n:Nat}{xs:List Value}(h:w.ownsRow o e q v n xs):v.oneCell'=true:=by
 obtain⟨a,c,rfl⟩:=bA h;rfl
theorem jH.one{wr:World}{o:Nat}{Bs:List Bk}{q:List (Value×Value)}(H:q.length=Bs.length)(G:∀i (z:i<Bs.length) (A:i<q.length),wr.ownsRow o 9 1 q[i].1 Bs[i].2.2.length ((Bs[i].2.2.map Prod.fst).map encStr)/\wr.ownsRow o 9 1 q[i].2 Bs[i].2.2.length ((Bs[i].2.2.map λr=>dU r.2).map encStr)):∀v,v∈q->v.1.oneCell'=true/\v.2.oneCell'=true:=λv A=>by
 obtain⟨i,z,rfl⟩:=getElem_of_mem A;obtain⟨D,F⟩:=G i fO z;exact⟨Vh D,Vh F⟩
theorem RP(w wr:World)(o hb db:Nat)(S:List Sr)(d:Dk)(Bs:List Bk)(D:Int)(keep:Nat)(vB:Value)(G F H:List Nat)(h:fE w wr o hb db S d Bs D (keep:Int) vB G F H)(hk:1<=keep/\keep<=1000)(hn:Bs.length<=10000):
  Calls prog 69 #[.pointer (some ⟨o,0,none⟩)] wr λe w'=>e = .returned (.tuple #[])/\∃o9 R,fE w w' o hb db S d (Bs.drop (Bs.length-keep)) D (keep:Int) o9 G F R/\Kept [o] wr w'/\∀x,x∈R->x∈H\/wr.heap.size<=x:=by
 obtain⟨Q,Y,pq,Z,è⟩:=h.vg.ex;obtain⟨aB,cB,rfl⟩:=bA Z;obtain⟨J,W⟩:=bE Bs.length;have U:=ϰ h;have x3:=ak h.blk 3;have x4:wr.cell? ⟨o,4,none⟩=some (.slice aB J cB):=by rw[W];exact ak h.blk 4
 rw[<-W] at Z hn;by_cases ó:J<=keep
 ·have aQ:Hid (∀q,fE w (wr.drewN q) o hb db S d (Bs.drop (Bs.length-keep)) D (keep:Int) (.slice aB Bs.length cB) G F H/\Kept [o] wr (wr.drewN q)):=λq=>by
   have V:Below wr.heap.size wr (wr.drewN q):=below_draws (Below.refl _ _) q;refine⟨?_,Kept.of_below V⟩;rw[show Bs.length-keep=0 by omega,drop_zero];exact h.below V
  obtain⟨t,ht⟩:=bE ((J:Int)-keep:Int);have e1:IntKind.i64.wrap ((J:Int)-(keep:Int))=t:=by rw[ht];exact IntWalk.i64_in _ fO
  have d1:decide ((0:Int)<t)=false:=decide_eq_false fO;go_enter func69,ntmps69;go_wp2_with fail;go_quiet (fail);go_wp2;go_end0;exact⟨rfl,_,H,(aQ.out _).1,(aQ.out _).2,λx A=>.inl A⟩
 ·obtain⟨m,hm⟩:∃m,J=m+keep:=⟨J-keep,fO⟩;have Š:0<m:=fO;obtain⟨g,rfl,hcB⟩:∃g,aB=some ⟨g,0,none⟩/\J<=cB:=by
   rcases Z.2 with⟨I,_⟩|⟨g,O,cur,I,_,_,hl,_⟩
   ·injection I with _ I _;omega
   ·injection I with ā _ Ţ;exact⟨g,ā,fO⟩
  have Ž:=AQ Z;have hdl:(bM (Bs.drop m) (Q.drop m)).length=keep*4:=by
   rw[Cq _ _ (by simp[Y]),length_drop,<-W];omega
  have hdc:∀z,Below wr.heap.size wr z->∀j u,(bM (Bs.drop m) (Q.drop m))[j]? = some u->z.cell? ((⟨g,m*4,none⟩:Addr).add j)=some u:=λz hz j u hj=>by
   rw[<-AR m Bs Q Y,List.getElem?_drop] at hj;have h1:=Ž (m*4+j) u hj;rw[Addr.add_lit,zero_add] at h1;rw[Addr.add_lit];exact (hz.cell (p:=⟨g,m*4+j,none⟩) (World.block_lt_of_cell? wr ⟨g,_,none⟩ h1)).trans h1
  have Li:Hid (∀q O,Calls prog 102 #[.slice (some ⟨g,m*4,none⟩) keep O] (wr.drewN q) λe w'=>∃v',e = .returned v'/\w'.ownsRow wr.heap.size 114 4 v' keep (bM (Bs.drop m) (Q.drop m))/\Below wr.heap.size wr w'):=λq O=>by
   have V:Below wr.heap.size wr (wr.drewN q):=below_draws (Below.refl _ _) q;refine (XG (wr.drewN q) g (m*4) keep O _ hdl (hdc _ V) (Cr _ _ λv I=>jH.one Y è v (mem_of_mem_drop I)) fO).mono ?_;rintro e w' ⟨v',rfl,h3,h4⟩;exact⟨v',rfl,h3,V.trans h4⟩
  have e1:IntKind.i64.wrap ((J:Int)-(keep:Int))=(m:Int):=by rw[IntWalk.i64_in _ fO];omega
  have d1:=decide_eq_true fO;have QI:=ϰ (And.intro Y (And.intro pq (And.intro è W)));have m0:(0:Int)<=m:=fO;have m1:(m:Int)<=J:=fO;have m5:J-m=keep:=fO;clear h Z è Y pq ó Ž hdl hdc W hm;go_enter func69,ntmps69;go_wp2_with fail;go_quiet (fail);go_wp2_with fail;refine Calls.mono (Li.out _ _) ?_;rintro e w1 ⟨v',rfl,Ę,ώ⟩;obtain⟨a',K,hv'⟩:=bA Ę;subst hv';have Ö:=(ώ.block _ (aC U.out.blk)).trans U.out.blk;have y4:=ak Ö 4;simp at y4;have yf:=aA Ö 4;have aQ:Hid (∃R,fE w (w1.setCell ⟨o,4,none⟩ (.slice a' keep K)) o hb db S d (Bs.drop (Bs.length-keep)) D (keep:Int) (.slice a' keep K) G F R/\Kept [o] wr (w1.setCell ⟨o,4,none⟩ (.slice a' keep K))/\∀x,x∈R->x∈H\/wr.heap.size<=x):=by
   obtain⟨Y,pq,è,W⟩:=QI.out;have ϖ:=U.out;have hem:Bs.length-keep=m:=fO;rw[hem];have ϓ:Kept [o] wr (w1.setCell ⟨o,4,none⟩ (.slice a' keep K)):=(Kept.of_below ώ).setCell (p:=⟨o,4,none⟩) (.inl (mem_singleton.2 rfl)) _;have à:∀x,x≠o->(w1.setCell ⟨o,4,none⟩ (.slice a' keep K)).heap[x]? = w1.heap[x]?:=λx A=>Below.heap_setCell _ _ _ _ (by show x≠o;exact A)
   have Ϲ:∀x,x∈(Value.slice a' keep K).ownBlock.toList++(Q.drop m).flatMap ownB->x∈H\/wr.heap.size<=x:=λx A=>by
    rcases mem_append.1 A with A|A
    ·exact .inr (uZ Ę A).1
    ·refine .inl ?_;rw[pq];refine mem_append.2 (.inr ?_);obtain⟨v,I,V⟩:=mem_flatMap.1 A;exact mem_flatMap.2 ⟨v,mem_of_mem_drop I,V⟩
   have Į:o∉(Value.slice a' keep K).ownBlock.toList++(Q.drop m).flatMap ownB:=λA=>by
    rcases Ϲ o A with h3|h3
    ·exact ϖ.sH h3
    ·have:=aC ϖ.blk;omega
   have ö:jH w1 w.heap.size (.slice a' keep K) (Bs.drop m) ((Value.slice a' keep K).ownBlock.toList++(Q.drop m).flatMap ownB):=by
    refine⟨Q.drop m,by simp[Y],rfl,?_,λi hi I=>?_⟩
    ·have e:(Bs.drop m).length=keep:=by rw[length_drop,<-W];omega
     rw[e];exact iA Ę ϖ.aI.size
    ·simp only[getElem_drop];obtain⟨r1,r2⟩:=è (m+i) (by rw[length_drop] at hi;omega) (by rw[length_drop] at I;omega);exact⟨aX r1 ώ,aX r2 ώ⟩
   exact⟨_,ϖ.blocks (ϓ.sub λx A=>mem_cons.2 (.inl (mem_singleton.1 A))) ((dw Ö 4 _).trans rfl) (ö.same λx A=>à x λe=>Į (e ▸ A)) Ϲ,ϓ,Ϲ⟩
  go_wp2;go_end0;obtain⟨R,q⟩:=aQ.out;exact⟨rfl,_,R,q⟩
noncomputable def oK:List E->Dk->Dk×Int×Int
 | [],d=>(d,0,-1)
 | e::es,d=>if 0<ko d e.1 e.2.1 e.2.2 then (nI d e.1 e.2.1 e.2.2,ko d e.1 e.2.1 e.2.2,JJ e.1 e.2.1) else oK es (nI d e.1 e.2.1 e.2.2)
theorem LB{es q:List E}{d o:Dk}(h:oK es d=(o,0,-1)):oK (es++q) d=oK q o:=by
 induction es generalizing d with
 | nil=>
  rw[oK] at h;injection h with h _;rw[nil_append,h]
 | cons e es ih=>
  rw[oK] at h;rw[cons_append,oK];split at h
  ·rename_i z;injection h with _ h;injection h with h _;omega
  ·rename_i z;rw[if_neg z];exact ih h
def fF(L:List Rw):List E:=L.flatMap λr=>r.2.map λp=>(r.1,p.1,p.2)
theorem aav(L:List Rw)(r:Rw):fF (L ++ [r])=fF L++r.2.map λp=>(r.1,p.1,p.2):=by simp[fF]
theorem afP(L:List Rw)(k:Nat)(J:k<L.length)(q:Nat)(K:q<L[k].2.length):fF L=(fF (L.take k)++(L[k].2.take q).map λp=>(L[k].1,p.1,p.2))++((L[k].1,L[k].2[q].1,L[k].2[q].2)::((L[k].2.drop (q+1)).map λp=>(L[k].1,p.1,p.2))++fF (L.drop (k+1))):=by
 have D:L=L.take k++(L[k]::L.drop (k+1)):=by rw[getElem_cons_drop,take_append_drop]
 have z:∀A C:List Rw,fF (A++C)=fF A++fF C:=λA C=>flatMap_append ..
 have F:fF L=fF (L.take k)++fF (L[k]::L.drop (k+1)):=by rw[<-z,<-D]
 have G:fF (L[k]::L.drop (k+1))=(L[k].2.map λp=>(L[k].1,p.1,p.2))++fF (L.drop (k+1)):=flatMap_cons ..;have H:(L[k].2.map λp=>(L[k].1,p.1,p.2))=(L[k].2.take q).map (λp=>(L[k].1,p.1,p.2))++((L[k].1,L[k].2[q].1,L[k].2[q].2)::(L[k].2.drop (q+1)).map λp=>(L[k].1,p.1,p.2)):=by
  have I:L[k].2=L[k].2.take q++(L[k].2[q]::L[k].2.drop (q+1)):=by rw[getElem_cons_drop,take_append_drop]
  have o:=congrArg (List.map λp:Int×Nat=>(L[k].1,p.1,p.2)) I;rw[map_append,map_cons] at o;exact o
 rw[F,G,H];simp only[append_assoc,cons_append]
noncomputable def OE(es:List E)(d:Dk):Dk:=if d.off=true then d else (oK es ⟨[],false,d.waits,d.left⟩).1
noncomputable def Jg(es:List E)(d:Dk):Int:=if d.off=true then 10 else (oK es ⟨[],false,d.waits,d.left⟩).2.1
noncomputable def RQ(es:List E)(d:Dk):Int:=if d.off=true then -1 else (oK es ⟨[],false,d.waits,d.left⟩).2.2
def XH(ea:Nat->Addr)(w wr:World)(sb hb db:Nat)(S:List Sr)(d':Dk)(Bs:List Bk)(span keep:Int)(vB:Value)(G F H:List Nat)(C A:Int)(e:Ending)(w':World):Prop:=
 ∃v F',e = .returned v/\aL ea w' v C A/\fE w w' sb hb db S d' Bs span keep vB G F' H/\Kept F wr w'/\∀x,x∈F'->x∈F\/wr.heap.size<=x
theorem XI{B:Nat}{ea:Nat->Addr}(w V:World)(E0:xI B ea w)(hB:B<=w.heap.size)(sb R O:Nat)(S:List Sr)(d:Dk)(Bs:List Bk)(D keep:Int)(vB:Value)(G F H:List Nat)(h:fE w V sb R O S d Bs D keep vB G F H)(hn:S.length<=1000)(hc:bV S<=1000)(L:List Rw)(hL:L=rJ 1099511627776 S):
  Calls prog 70 #[.agg #[.pointer (some ⟨R,0,none⟩),.pointer (some ⟨O,0,none⟩)]] V λe w'=>XH ea w V sb R O S (OE (fF L) d) Bs D keep vB G F H (Jg (fF L) d) (RQ (fF L) d) e w':=by
 obtain⟨W1,â⟩:=bE (V.alloc (.cells #[.pointer (some ⟨R,0,none⟩),.pointer (some ⟨O,0,none⟩)] 137));have Ϗ:Below V.heap.size V W1:=by rw[â];exact (Below.refl _ _).alloc (le_refl _) _
 have Δ:W1.heap[V.heap.size]? = some (.cells #[.pointer (some ⟨R,0,none⟩),.pointer (some ⟨O,0,none⟩)] 137 (0,0)):=by rw[â];exact heap_alloc_new _ _
 have wD:=h.below Ϗ;have x0:=ak Δ 0;have x1:=ak Δ 1;simp at x0 x1;have tK:∀x,x∈F->x<V.heap.size:=λx z=>(h.dk.mem z).2
 have HW1:=ϰ â;have bN:=ϰ Ϗ;have oJ:=ϰ Δ;have HST:=ϰ wD;have HE:=ϰ E0;by_cases Y:d.off=true
 ·have Li:=ϰ (Rx w W1 (E0.w.below wD.aI hB) O d F wD.dk Y);have HF:Hid (OE (fF L) d=d/\Jg (fF L) d=10/\RQ (fF L) d = -1):=⟨if_pos Y,if_pos Y,if_pos Y⟩;clear â Ϗ Δ wD h E0 hL;go_enter func70,ntmps70;go_upto_region 1 with fail;rw[<-HW1.out];go_wp2_with fail;refine Calls.mono Li.out ?_;rintro e w2 ⟨rfl,Æ⟩;have ĕ:=Æ.symm;subst ĕ;go_wp2;go_ret;obtain⟨f1,f2,f3⟩:=HF.out;rw[f1,f2,f3];exact⟨_,F,rfl,.es 9 nQ nQ,HST.out,Kept.of_below bN.out,λx z=>.inl z⟩
 ·have Γ:d.off=false:=by simpa using Y
  obtain⟨U,Ŧ⟩:=bE (⟨[],false,d.waits,d.left⟩:Dk);have Li:=ϰ (acT w W1 O d F wD.dk Γ);rw[<-Ŧ] at Li;have HF:Hid (OE (fF L) d=(oK (fF L) U).1/\Jg (fF L) d=(oK (fF L) U).2.1/\RQ (fF L) d=(oK (fF L) U).2.2):=by
   rw[Ŧ];exact⟨if_neg Y,if_neg Y,if_neg Y⟩
  have HD1:Hid (U.L.length<=65536):=by show _<=_;rw[Ŧ];exact zero_le _
  have HL:=ϰ hL;clear â Ϗ Δ wD h E0 hL Ŧ Y Γ;go_enter func70,ntmps70;go_upto_region 1 with fail;rw[<-HW1.out];go_wp2_with fail;refine Calls.mono Li.out ?_;rintro e w2 ⟨rfl,Ś,Ç⟩;have aiN:=HST.out.disk Ś Ç (λx z=>.inl z);have ĩ:=(Ç.block _ (aC oJ.out) (λz=>by have:=tK _ z;omega)).trans oJ.out;have y0:=ak ĩ 0;simp at y0;have qJ:=ϰ (Gp w w2 R S G aiN.hd hn);have aiO:=ϰ aiN;have uU:=ϰ ĩ;have FN:=ϰ ((Kept.of_below (S:=F) bN.out).trans Ç λx z=>.inl z);go_wp2_with fail;refine Calls.mono qJ.out ?_;rintro e w3 ⟨v3,rfl,Ϛ,Ĵ⟩;obtain⟨a5,Oy,rfl⟩:=bA Ĵ;have é:L.map Prod.fst=bZ S:=by rw[HL.out];unfold rJ;rw[map_map];exact map_id _
  have EL:L.length=(bZ S).length:=by rw[<-é,length_map]
  have hLk:∀k (hk:k<L.length),L[k].2=bO 0 1099511627776 (fG S L[k].1)/\∃l,l∈S/\l.key=L[k].1:=λk hk=>by
   have hL:=HL.out;subst hL;refine⟨by simp[rJ],?_⟩;have:(rJ 1099511627776 S)[k].1∈bZ S:=by rw[<-é];exact mem_map.2 ⟨_,getElem_mem hk,rfl⟩
   obtain⟨l,hl,hk',_⟩:=ig.1 this;exact⟨l,hl,hk'⟩
  rw[<-EL,<-é] at Ĵ;rw[<-EL];obtain⟨n,ϛ⟩:=bE L.length;rw[<-ϛ] at Ĵ ⊢;have Ú:n<=1000:=by
   rw[ϛ,EL];exact le_trans (by unfold bZ;rw[length_map];exact length_filter_le _ _) hn
  have HN:=ϰ ϛ;have Ri:=ϰ hLk;have K3:=ϰ Ĵ;have aoe:=ϰ (aiO.out.below Ϛ);have HX3:=ϰ ((Ϛ.block _ (aC uU.out)).trans uU.out);have yw:=ϰ (FN.out.trans (Kept.of_below (S:=[]) Ϛ) (λx z=>by cases z));have aiQ:=ϰ (aC uU.out);clear Ϛ Ĵ é EL hLk ϛ y0 qJ aiO;go_wp2_with fail;go_loopw [19] (λi wr=>∃(k:Nat) (d':Dk) (Q:List Nat),k<=n/\i = .int .i64 (k:Int)/\fE w wr sb R O S d' Bs D keep vB G Q H/\oK (fF (L.take k)) U=(d',0,-1)/\Kept F w3 wr/\(∀x,x∈Q->x∈F\/w3.heap.size<=x)/\d'.L.length<=65536) (λi _=>n-(intOf i).toNat);case atStart=>exact⟨0,U,F,zero_le _,rfl,aoe.out,rfl,Kept.refl _ _,λx z=>.inl z,HD1.out⟩
  case round=>
   obtain⟨wk,hwk⟩:=bE wr;subst hwk;obtain⟨k,d',Q,hk,rfl,ϖ,Ū,Ł,hF',hdl⟩:=hrel;have AU:=ϰ ϖ;have HAP:=ϰ Ū;have AB:=ϰ Ł;have KP:=ϰ hF';have hF3:∀x,x∈F->x<w2.heap.size:=λx z=>by have:=tK x z;have:=aiQ.out;omega
   have κ:=(Ł.block _ (aC HX3.out) (λz=>by have:=tK _ z;omega)).trans HX3.out;by_cases ϥ:k<n
   ·have BP:k<L.length:=by rw[<-HN.out];exact ϥ
    obtain⟨I,Ü⟩:=bE (⟨(L[k].1).toArray⟩:ByteArray);have hxd:I.data.toList=L[k].1:=by rw[Ü]
    have Ϝ:wk.ownsRow w2.heap.size 9 1 (.slice a5 n Oy) n ((L.map Prod.fst).map encStr):=bC K3.out λg hg=>Ł.block g (aH K3.out hg).2.1 λz=>by
     have A:=(aH K3.out hg).1;have h2:=hF3 g z;omega
    obtain⟨g5,e5,ĭ⟩:∃g5,a5=some ⟨g5,0,none⟩/\wk.cell? ⟨g5,k,none⟩=some (.string I):=by
     rcases Ϝ.2 with⟨_,hz⟩|⟨g,cap,cur,hv,_,hh,_,_,hs,hc⟩
     ·omega
     ·injection hv with hv;refine⟨g,hv,?_⟩;have e1:wk.cell? ⟨g,k,none⟩=cur[k]?:=by simp[World.cell?,hh]
      have e2:cur[k]? = (cur.toList.take (n*1))[k]?:=by rw[List.getElem?_take_of_lt fO];simp
      rw[e1,e2,hc,Ü];simp[BP,encStr]
    subst e5;obtain⟨Ψ,l,hl,Ù⟩:=Ri.out k BP;obtain⟨P,hP⟩:=bE (L[k].2);have á:I.size<=1000:=by
     have e:I.size=L[k].1.length:=by rw[Ü];simp[ByteArray.size]
     obtain⟨_,_,_,_,É⟩:=ϖ.hd.ex;have:=É.len l hl;rw[e,<-Ù];exact this
    have k0:(0:Int)<=k:=fO;have k1:(k:Int)<n:=fO;have y0:=ak κ 0;simp at y0;have uY:=ϰ (Gq w wk R S G ϖ.hd hc I á 0 1099511627776);rw[hxd,<-Ψ,<-hP] at uY;have Z:=ϰ (And.intro hP (And.intro Ψ hxd));have HX5:=ϰ κ;clear ϖ Ū Ł hF' Ü hxd Ϝ Ψ hl Ù hP κ;go_wp2_with fail;refine Calls.mono uY.out ?_;rintro e w4 ⟨v4,rfl,lM,Ϻ⟩;obtain⟨a4,c4,rfl,_,Co,JE⟩:=gT lM;have Xx:∀p,p∈P->p.2<18446744073709551616:=λp hp=>by
     rw[Z.out.1,Z.out.2.1] at hp;obtain⟨A,h2⟩:=mem_filter.1 hp;obtain⟨l',hl',hp'⟩:=Gu A;exact (AU.out.hd.well.Ke l' hl' p hp').2.2
    obtain⟨m,hm⟩:=bE P.length;have Ve:m<=1000:=by
     rw[hm,Z.out.1,Z.out.2.1];exact le_trans (length_filter_le _ _) (le_trans (vo S _) hc)
    rw[<-hm] at lM ⊢;have HM:=ϰ hm;have RH:=ϰ (And.intro Co JE);have iQ:=ϰ Ϻ;have Rs:=ϰ Xx;have aof:=ϰ (AU.out.below Ϻ);have HX4:=ϰ ((Ϻ.block _ (aC HX5.out)).trans HX5.out);have HA0:Hid (oK (fF (L.take k)++(P.take 0).map λp=>(L[k].1,p.1,p.2)) U=(d',0,-1)):=by
     show _=_;rw[take_zero,map_nil,append_nil];exact HAP.out
    go_wp2_with fail;go_loopw [28] (λj wr=>∃(q:Nat) (J:Dk) (F2:List Nat),q<=m/\j = .int .i64 (q:Int)/\fE w wr sb R O S J Bs D keep vB G F2 H/\oK (fF (L.take k)++(P.take q).map λp=>(L[k].1,p.1,p.2)) U=(J,0,-1)/\Kept Q w4 wr/\(∀x,x∈F2->x∈Q\/w4.heap.size<=x)/\J.L.length<=65536) (λj _=>m-(intOf j).toNat);case atStart=>exact⟨0,d',Q,zero_le _,rfl,aof.out,HA0.out,Kept.refl _ _,λx z=>.inl z,hdl⟩
    case round=>
     obtain⟨q,J,F2,hq,rfl,Ϣ,haz,Ğ,hF2,ac4⟩:=hrel;have jy:=ϰ Ϣ;have HAZ:=ϰ haz;have Ls:=ϰ Ğ;have uV:=ϰ hF2;have aog:∀x,x∈Q->x<wk.heap.size:=λx z=>(AU.out.dk.mem z).2
     have Jw:V.heap.size∉Q:=λz=>by
      rcases KP.out _ z with A|A
      ·have:=tK _ A;omega
      ·have:=aiQ.out;have:=aC HX3.out;omega
     have hx6:=(Ğ.block _ (aC HX4.out) Jw).trans HX4.out;by_cases hqm:q<m
     ·have EZ:q<P.length:=by rw[<-HM.out];exact hqm
      obtain⟨t,ht⟩:=bE (P[q].1);obtain⟨u,hu⟩:=bE (P[q].2);have JM:P ≠ []:=λe=>by rw[e] at EZ;exact absurd EZ (not_lt_zero _)
      obtain⟨g4,hg4,acX,RI⟩:=RH.out.2 JM;subst hg4;obtain⟨b',o',e',Ϭ⟩:∃b o,some (⟨g4,0,none⟩:Addr)=some ⟨b,o,none⟩/\∀k (hk:k<P.length),w4.cell? ⟨b,o+k*2,none⟩=some (.int .i64 P[k].1)/\w4.cell? ⟨b,o+k*2+1,none⟩=some (.int .u64 (P[k].2:Int)):=by
       rcases RH.out.1 with h|h
       ·exact absurd h JM
       ·exact h
      injection e' with e';injection e' with e1 e2;subst e1 e2;obtain⟨c0,c1⟩:=Ϭ q EZ;have ö:=Ğ.block g4 RI (λz=>by have:=aog _ z;omega);have z0:wr.cell? ⟨g4,q*2,none⟩=some (.int .i64 t):=by
       rw[ht,<-c0];simp[World.cell?,ö]
      have z1:wr.cell? ⟨g4,q*2+1,none⟩=some (.int .u64 (u:Int)):=by
       rw[hu,<-c1];simp[World.cell?,ö]
      have q0:(0:Int)<=q:=fO;have q1:(q:Int)<m:=fO;obtain⟨Z1,W⟩:=bE (wr.alloc (.cells #[.int .i64 t,.int .u64 (u:Int)] 93));have tZ:Below wr.heap.size wr Z1:=by rw[W];exact (Below.refl _ _).alloc (le_refl _) _
      have Jd:Z1.heap[wr.heap.size]? = some (.cells #[.int .i64 t,.int .u64 (u:Int)] 93 (0,0)):=by rw[W];exact heap_alloc_new _ _
      have x0:=ak Jd 0;have x1:=ak Jd 1;simp at x0 x1;have y1:=ak ((tZ.block _ (aC hx6)).trans hx6) 1;simp at y1;have hut:u<18446744073709551616:=by rw[hu];exact Rs.out _ (getElem_mem EZ)
      have HDA:=ϰ (Ou w HE.out.w hB Z1 O J F2 (Ϣ.below tZ).dk ac4 I fO t u hut);have HZ1:Hid (∀wx,wx=wr.alloc (.cells #[.int .i64 t,.int .u64 (u:Int)] 93)->wx=Z1):=λwx h=>h.trans W.symm
      have gY:=ϰ (Ϣ.below tZ);have om:=ϰ tZ;have EY:=ϰ (And.intro ht (And.intro hu EZ));have Vf:=ϰ (take_succ_eq_append_getElem EZ);clear Ϣ haz Ğ hF2 ht hu JM acX RI Ϭ c0 c1 ö W tZ Jd hx6;go_upto_region 10 with fail;rw[HZ1.out _ rfl];go_wp2_with fail;refine Calls.mono HDA.out ?_;rintro e w6 ⟨v6,F6,rfl,hf6,hd6,OG,hn6⟩;have aiV:=gY.out.disk hd6 OG hn6;have aiW:=(Ls.out.trans (Kept.of_below (S:=[]) om.out) (λx z=>by cases z)).trans OG uV.out;have hF6:∀x,x∈F6->x∈Q\/w4.heap.size<=x:=λx z=>by
       rcases hn6 x z with A|A
       ·exact uV.out x A
       ·exact .inr (le_trans (le_trans Ls.out.size om.out.size) A)
      have ϛ:=yg J I.data.toList t u;by_cases ò:ko J I.data.toList t u=0
      ·obtain rfl:=hf6.none ò;have K:Hid (fE w w6 sb R O S (nI J I.data.toList t u) Bs D keep vB G F6 H/\oK (fF (L.take k)++(P.take (q+1)).map λp=>(L[k].1,p.1,p.2)) U=(nI J I.data.toList t u,0,-1)/\Kept Q w4 w6/\(∀x,x∈F6->x∈Q\/w4.heap.size<=x)/\(nI J I.data.toList t u).L.length<=65536):=by
        refine⟨aiV,?_,aiW,hF6,acS _ _ _ _ ac4⟩;obtain⟨e1,e2,_⟩:=EY.out;rw[Vf.out,map_append,<-append_assoc,LB HAZ.out,map_cons,map_nil,<-e1,<-e2,<-Z.out.2.2,oK,if_neg (by show ¬ 0<ko J I.data.toList t u;omega)];rfl
       go_wp2;go_roundw;case rel=>exact⟨q+1,_,F6,fO,by go_num,K.out.1,K.out.2.1,K.out.2.2.1,K.out.2.2.2.1,K.out.2.2.2.2⟩
       case measure=>simp[intOf]<;>omega
      ·obtain⟨tv,pv,rfl⟩:=lY hf6 ò;have K:Hid (XH ea w V sb R O S (OE (fF L) d) Bs D keep vB G F H (Jg (fF L) d) (RQ (fF L) d) (.returned (.iface tv (.pointer (some pv)))) w6):=by
        obtain⟨e1,e2,e3⟩:=EY.out;have Lu:k<L.length:=by rw[<-HN.out];exact ϥ
        have hent:fF L=(fF (L.take k)++(P.take q).map λp=>(L[k].1,p.1,p.2))++((I.data.toList,t,u)::((P.drop (q+1)).map λp=>(L[k].1,p.1,p.2))++fF (L.drop (k+1))):=by
         have hP:=Z.out.1;subst hP;have h9:=afP L k Lu q e3;rw[Z.out.2.2,e1,e2];exact h9
        obtain⟨f1,f2,f3⟩:=HF.out;have happ:oK (fF L) U=(nI J I.data.toList t u,ko J I.data.toList t u,JJ I.data.toList t):=by
         rw[hent,LB HAZ.out,cons_append,oK,if_pos (by show 0<ko J I.data.toList t u;omega)]
        rw[f1,f2,f3,happ];refine⟨_,F6,rfl,hf6,aiV,((yw.out.trans AB.out λx z=>.inl z).trans (Kept.of_below (S:=[]) iQ.out) (λx z=>by cases z)).trans aiW λx z=>?_,λx z=>?_⟩
        ·rcases KP.out x z with A|A
         ·exact .inl A
         ·exact .inr (le_trans yw.out.size A)
        ·rcases hF6 x z with A|A
         ·rcases KP.out x A with h2|h2
          ·exact .inl h2
          ·exact .inr (le_trans yw.out.size h2)
         ·exact .inr (le_trans (le_trans (le_trans yw.out.size AB.out.size) iQ.out.size) A)
       go_wp2;go_ret;exact K.out
     ·obtain rfl:q=m:=fO;have K:Hid (oK (fF (L.take (k+1))) U=(J,0,-1)/\Kept F w3 wr/\∀x,x∈F2->x∈F\/w3.heap.size<=x):=by
       have Lu:k<L.length:=by rw[<-HN.out];exact ϥ
       refine⟨?_,(AB.out.trans (Kept.of_below (S:=[]) iQ.out) (λx z=>by cases z)).trans Ğ KP.out,λx z=>?_⟩
       ·have jr:P.take q=P:=by rw[HM.out];exact take_length
        rw[take_succ_eq_append_getElem Lu,aav,<-Z.out.1];have A:=haz;rw[jr] at A;exact A
       ·rcases hF2 x z with A|A
        ·exact KP.out x A
        ·exact .inr (le_trans (le_trans AB.out.size iQ.out.size) A)
      go_wp2;go_roundw;case rel=>exact⟨k+1,J,F2,fO,by go_num,jy.out,K.out.1,K.out.2.1,K.out.2.2,ac4⟩
      case measure=>simp[intOf]<;>omega
   ·obtain rfl:k=n:=fO;have jr:L.take k=L:=by rw[HN.out];exact take_length
    rw[jr] at Ū;have K:Hid (XH ea w V sb R O S (OE (fF L) d) Bs D keep vB G F H (Jg (fF L) d) (RQ (fF L) d) (.returned .nilIface) wk):=by
     obtain⟨f1,f2,f3⟩:=HF.out;rw[f1,f2,f3,Ū];refine⟨_,Q,rfl,.inl ⟨rfl,rfl⟩,ϖ,yw.out.trans Ł λx z=>.inl z,λx z=>?_⟩;rcases hF' x z with A|A
     ·exact .inl A
     ·exact .inr (le_trans yw.out.size A)
    go_wp2;go_ret;exact K.out
theorem GA{z wr:World}{o:Nat}{J:Option Addr}{n cB:Nat}{Bs:List Bk}{q:List (Value×Value)}(Y:z.ownsRow o 114 4 (.slice J n cB) n (bM Bs q))(hn:n=Bs.length)(ϭ:q.length=Bs.length)
  (è:∀i (hi:i<Bs.length) (Q:i<q.length),z.ownsRow o 9 1 q[i].1 Bs[i].2.2.length ((Bs[i].2.2.map Prod.fst).map encStr)/\z.ownsRow o 9 1 q[i].2 Bs[i].2.2.length ((Bs[i].2.2.map λr=>dU r.2).map encStr)) (O:Below z.heap.size z wr) (k:Nat) (W:k<Bs.length) :
  ∃g F H G I,J=some ⟨g,0,none⟩/\wr.cell? ⟨g,k*4,none⟩=some (.int .i64 Bs[k].1)/\wr.cell? ⟨g,k*4+1,none⟩=some (.int .i64 Bs[k].2.1)/\wr.cell? ⟨g,k*4+2,none⟩=some (.slice F Bs[k].2.2.length H)/\wr.cell? ⟨g,k*4+3,none⟩=some (.slice G Bs[k].2.2.length I) /\
   wr.ownsRow o 9 1 (.slice F Bs[k].2.2.length H) Bs[k].2.2.length ((Bs[k].2.2.map Prod.fst).map encStr)/\wr.ownsRow o 9 1 (.slice G Bs[k].2.2.length I) Bs[k].2.2.length ((Bs[k].2.2.map λr=>dU r.2).map encStr):=by
 have A:k<q.length:=fO;obtain⟨g,rfl⟩:∃g,J=some ⟨g,0,none⟩:=by
  rcases Y.2 with⟨Q,h0⟩|⟨g,cap,cur,Q,_⟩
  ·omega
  ·injection Q with V _ _;exact⟨g,V⟩
 have Ϥ:=AQ Y;obtain⟨b0,b1,b2,b3⟩:=zC Bs q ϭ k W A;have D:∀j u,(bM Bs q)[j]? = some u->wr.cell? ⟨g,j,none⟩=some u:=λj u hj=>by
  have K:=Ϥ j u hj;rw[Addr.add_lit,zero_add] at K;exact (O.cell (p:=⟨g,j,none⟩) (World.block_lt_of_cell? z ⟨g,_,none⟩ K)).trans K
 obtain⟨R,U⟩:=è k W A;obtain⟨F,H,V⟩:=bA R;obtain⟨G,I,Ţ⟩:=bA U;have Z:=D _ _ b2;have y3:=D _ _ b3;rw[V] at Z R;rw[Ţ] at y3 U;exact⟨g,F,H,G,I,rfl,D _ _ b0,D _ _ b1,Z,y3,aX R O,aX U O⟩
theorem zJ{w:World}{o:Nat}{a:Option Addr}{n c:Nat}{ss:List (List UInt8)}(h:w.ownsRow o 9 1 (.slice a n c) n (ss.map encStr))(k:Nat)(z:k<ss.length)(A:k<n):∃g,a=some ⟨g,0,none⟩/\w.cell? ⟨g,k,none⟩=some (.string ⟨ss[k].toArray⟩):=by
 obtain⟨g,rfl⟩:∃g,a=some ⟨g,0,none⟩:=by
  rcases h.2 with⟨hv,h0⟩|⟨g,cap,cur,hv,_⟩
  ·omega
  ·injection hv with ā _ _;exact⟨g,ā⟩
 have q:=AQ h k (encStr ss[k]) (by simp[z]);rw[Addr.add_lit,zero_add] at q;exact⟨g,rfl,q⟩
theorem RS(w o:World)(sb hb db:Nat)(S:List Sr)(d:Dk)(Bs:List Bk)(span keep:Int)(vB:Value)(G F H:List Nat)(h:fE w o sb hb db S d Bs span keep vB G F H)(hn:Bs.length<=1000)(hl:∀b,b∈Bs->b.2.2.length<=1000):
  Calls prog 51 #[.pointer (some ⟨sb,0,none⟩)] o λe w'=>∃v H',e = .returned v/\jH w' o.heap.size v Bs H'/\Below o.heap.size o w':=by
 obtain⟨vs,ϭ,_,fP,è⟩:=h.vg.ex;obtain⟨aB,cB,rfl⟩:=bA fP;obtain⟨n,ϛ⟩:=bE Bs.length;have x4:=ak h.blk 4;simp at x4;rw[<-ϛ] at x4 fP hn;have Vi:=ϰ fP;have Qk:=ϰ è;have OH:=ϰ (And.intro ϛ ϭ);have CB:=ϰ hl;obtain⟨iB,hIB,hB0,χ,ź⟩:=info_parts Tryz.infoBk;have Gf:=ϰ hIB;have H0:Hid (jH o o.heap.size (.slice none 0 0) (Bs.take 0) []):=jH.nil _ _;clear h fP è ϛ ϭ hl hIB;go_enter func51,ntmps51;go_wp2_with fail;go_loopw [3,11] (λl i wr=>∃(k:Nat) (H':List Nat),k<=n/\i = .int .i64 (k:Int)/\jH wr o.heap.size l (Bs.take k) H'/\Below o.heap.size o wr) (λ_ i _=>n-(intOf i).toNat);case atStart=>exact⟨0,[],zero_le _,rfl,H0.out,Below.refl _ _⟩
 case round=>
  obtain⟨k,H',hk,rfl,ö,Ϙ⟩:=hrel;clear H0;have EU:=ϰ ö;have bq:=ϰ Ϙ;by_cases ϥ:k<n
  ·obtain⟨ϛ,ϭ⟩:=OH.out;have Ź:k<Bs.length:=fO;have hkV:k<vs.length:=fO;obtain⟨g,rfl⟩:∃g,aB=some ⟨g,0,none⟩:=by
    rcases Vi.out.2 with⟨hv,h0⟩|⟨g,cap,cur,hv,_⟩
    ·omega
    ·injection hv with ā _ _;exact⟨g,ā⟩
   have Ϥ:=AQ Vi.out;obtain⟨b0,b1,b2,b3⟩:=zC Bs vs ϭ k Ź hkV;have hc:∀j u,(bM Bs vs)[j]? = some u->wr.cell? ⟨g,j,none⟩=some u:=λj u hj=>by
    have R:=Ϥ j u hj;rw[Addr.add_lit,zero_add] at R;exact (Ϙ.cell (p:=⟨g,j,none⟩) (World.block_lt_of_cell? o ⟨g,_,none⟩ R)).trans R
   obtain⟨f,hf⟩:=bE (Bs[k].1);obtain⟨s,hs⟩:=bE (Bs[k].2.1);obtain⟨r1,r2⟩:=Qk.out k Ź hkV;obtain⟨p1,t1,ā⟩:=bA r1;obtain⟨p2,t2,Ţ⟩:=bA r2;obtain⟨m,hm⟩:=bE (Bs[k].2.2.length);obtain⟨N1,ť⟩:=bE (Bs[k].2.2.map Prod.fst);obtain⟨N2,OI⟩:∃N2,N2=Bs[k].2.2.map λr=>dU r.2:=⟨_,rfl⟩
   have Ī:m=N1.length:=by rw[ť,length_map,hm]
   have Ĭ:m=N2.length:=by rw[OI,length_map,hm]
   rw[<-ť] at r1;rw[<-OI] at r2;have y0:=hc _ _ b0;have y1:=hc _ _ b1;have y2:=hc _ _ b2;have y3:=hc _ _ b3;rw[<-hf] at y0;rw[<-hs] at y1;rw[ā] at y2 r1;rw[Ţ] at y3 r2;rw[<-hm] at y2 y3 r1 r2;have Ĝ:m<=1000:=by rw[hm];exact CB.out _ (getElem_mem Ź)
   obtain⟨W,hW⟩:=bE (wr.alloc (.cells #[.int .i64 f,.int .i64 s,.slice p1 m t1,.slice p2 m t2] 114));have Ϗ:Below wr.heap.size wr W:=by rw[hW];exact (Below.refl _ _).alloc (le_refl _) _
   have vC:W.heap[wr.heap.size]? = some (.cells #[.int .i64 f,.int .i64 s,.slice p1 m t1,.slice p2 m t2] 114 (0,0)):=by rw[hW];exact heap_alloc_new _ _
   have gY:Hid (∀z,Below W.heap.size W z->z.cell? ⟨wr.heap.size,2,none⟩=some (.slice p1 m t1)/\z.cell? ⟨wr.heap.size,3,none⟩=some (.slice p2 m t2)):=λz I=>by
    have e1:=(I.block _ (aC vC)).trans vC;exact⟨ak e1 2,ak e1 3⟩
   have yU:Below o.heap.size o W:=Ϙ.trans (Ϗ.mono Ϙ.size);have mH:Hid (∀z,Below W.heap.size W z->Calls prog 81 #[.slice p1 m t1] z λe z'=>∃a' V,e = .returned (.slice a' m V)/\Below W.heap.size W z'/\z'.ownsRow W.heap.size 9 1 (.slice a' m V) m (N1.map encStr)):=λz I=>by
    refine (LA z _ _ m N1 Ī (bC r1 λg hg=>?_) fO).mono ?_
    ·exact (yU.trans (I.mono yU.size)).block g (aH r1 hg).2.1
    ·rintro e z' ⟨v',rfl,R,h2⟩;obtain⟨a',V,rfl⟩:=bA R;exact⟨a',V,rfl,I.trans (h2.mono I.size),iA R I.size⟩
   have wT:Hid (∀z A D,Below W.heap.size W z->z.ownsRow W.heap.size 9 1 (.slice A m D) m (N1.map encStr)->Calls prog 81 #[.slice p2 m t2] z λe z'=>∃a' V,e = .returned (.slice a' m V)/\Below W.heap.size W z'/\z'.ownsRow W.heap.size 9 1 (.slice A m D) m (N1.map encStr)/\z'.ownsRow W.heap.size 9 1 (.slice a' m V) m (N2.map encStr)):=λz A D I h1'=>by
    refine (LA z _ _ m N2 Ĭ (bC r2 λg hg=>?_) fO).mono ?_
    ·exact (yU.trans (I.mono yU.size)).block g (aH r2 hg).2.1
    ·rintro e z' ⟨v',rfl,R,h2⟩;obtain⟨a',V,rfl⟩:=bA R;exact⟨a',V,rfl,I.trans (h2.mono I.size),aX h1' h2,iA R I.size⟩
   have HW:Hid (∀wx,wx=wr.alloc (.cells #[.int .i64 f,.int .i64 s,.slice p1 m t1,.slice p2 m t2] 114)->wx=W):=λwx h=>h.trans hW.symm
   have vD:=ϰ (And.intro vC (And.intro Ϗ yU));have HFS:=ϰ (And.intro hf (And.intro hs (And.intro hm Ź)));have iH:=ϰ (And.intro ť OI);have HB0:Hid (Below W.heap.size W W.drew):=dz (Below.refl _ _);have k0:(0:Int)<=k:=fO;have k1:(k:Int)<n:=fO;clear ö Ϙ ϛ ϭ Ϥ b0 b1 b2 b3 hc hf hs r1 r2 ā Ţ hm hW Ϗ vC yU ť OI Ī Ĭ;go_upto_region 5 with fail;rw[HW.out _ rfl];refine eU (S:=λz=>z.cell? ⟨wr.heap.size,2,none⟩=some (.slice p1 m t1)/\z.cell? ⟨wr.heap.size,3,none⟩=some (.slice p2 m t2)) lG 7 (gY.out _ HB0.out) (λϊ=>?_);refine bJ 0 15 (.pointer (some ⟨wr.heap.size,2,none⟩)) ϊ rfl rfl ?_ ?_
   ·intro w _;go_simp
   refine iF 1 16 (.slice p1 m t1) ϊ rfl rfl ?_ ?_
   ·intro w ϡ;obtain⟨iY,iZ⟩:=ϡ;go_simp
   refine bJ 3 18 (.pointer (some ⟨wr.heap.size,3,none⟩)) ϊ rfl rfl ?_ ?_
   ·intro w _;go_simp
   refine iF 4 19 (.slice p2 m t2) ϊ rfl rfl ?_ ?_
   ·intro w ϡ;obtain⟨iY,iZ⟩:=ϡ;go_simp
   refine lV 2 rfl λK Y=>?_
   go_simp
   refine Calls.mono (mH.out _ HB0.out) ?_;rintro e w2 ⟨A,D,rfl,ϒ,Î⟩;refine Y.out _ _ (gY.out _ ϒ) ?_;refine bJ 6 21 (.pointer (some ⟨wr.heap.size,2,none⟩)) (gY.out _ ϒ) rfl rfl ?_ ?_
   ·intro w _;go_simp
   refine lV 5 rfl λK Y=>?_
   go_simp
   refine Calls.mono (wT.out _ _ _ ϒ Î) ?_;rintro e w3 ⟨J,O,rfl,Ϛ,Ĵ,lM⟩;refine Y.out _ _ (gY.out _ Ϛ) ?_;have hx3:=(Ϛ.block _ (aC vD.out.1)).trans vD.out.1;have j2:=ak hx3 2;simp at j2;have jf:∀q,w3.frozen? ⟨wr.heap.size,q,none⟩=false:=λq=>aA hx3 q
   have hx4:(w3.setCell ⟨wr.heap.size,2,none⟩ (.slice A m D)).heap[wr.heap.size]? = some (.cells #[.int .i64 f,.int .i64 s,.slice A m D,.slice p2 m t2] 114 (0,0)):=(dw hx3 2 _).trans rfl;have j3:=ak hx4 3;simp at j3;have jg:World.frozen? (w3.setCell ⟨wr.heap.size,2,none⟩ (.slice A m D)) ⟨wr.heap.size,3,none⟩=false:=aA hx4 3;have κ:((w3.setCell ⟨wr.heap.size,2,none⟩ (.slice A m D)).setCell ⟨wr.heap.size,3,none⟩ (.slice J m O)).heap[wr.heap.size]? = some (.cells #[.int .i64 f,.int .i64 s,.slice A m D,.slice J m O] 114 (0,0)):=(dw hx4 3 _).trans rfl;refine nX 7 rfl λK Y=>?_
   go_simp
   refine Y.out _ _ ?_;refine nX 8 rfl λK Y=>?_
   go_simp
   refine Y.out _ _ ?_;refine nX 9 rfl λK Y=>?_
   go_simp
   refine Y.out _ _ ?_;refine dA lG ?_ _;obtain⟨Z,hZ⟩:=bE ((w3.setCell ⟨wr.heap.size,2,none⟩ (.slice A m D)).setCell ⟨wr.heap.size,3,none⟩ (.slice J m O));rw[<-hZ] at κ ⊢;have z0:=ak κ 0;have z1:=ak κ 1;have z2:=ak κ 2;have z3:=ak κ 3;simp at z0 z1 z2 z3;have Vj:=aC vD.out.1;have à:∀x,x≠wr.heap.size->Z.heap[x]? = w3.heap[x]?:=λx Q=>by
    rw[hZ,Below.heap_setCell _ _ _ _ (by show x≠wr.heap.size;exact Q),Below.heap_setCell _ _ _ _ (by show x≠wr.heap.size;exact Q)]
   have tZ:Below wr.heap.size wr Z:=by
    have R:=vD.out.2.1.trans (Ϛ.mono vD.out.2.1.size);rw[hZ];exact (R.setCell (p:=⟨wr.heap.size,2,none⟩) (le_refl _) _).setCell (p:=⟨wr.heap.size,3,none⟩) (le_refl _) _
   have aiX:=iA (bC Ĵ λg hg=>à g (by have:=(aH Ĵ hg).1;omega)) vD.out.2.2.size;have aiY:=iA (bC lM λg hg=>à g (by have:=(aH lM hg).1;omega)) vD.out.2.2.size;obtain⟨us,yZ,_,huo,U⟩:=(EU.out.same λx Q=>tZ.block x (EU.out.mem Q).2).ex;have ϗ:(Bs.take k).length=k:=by rw[length_take];have:=HFS.out.2.2.2;omega
   rw[ϗ] at huo;have ME:=ϰ (And.intro yZ (And.intro U (And.intro aiX aiY)));have om:Hid (Below o.heap.size o Z):=bq.out.trans (tZ.mono bq.out.size);have lJ:Hid ((Z.alloc (.cells #[.int .i64 f,.int .i64 s,.slice A m D,.slice J m O] 114)).ownsRow o.heap.size 114 4 u3 k (bM (Bs.take k) us)):=huo.alloc _;have iV:Hid (∀i z,([.int .i64 f,.int .i64 s,.slice A m D,.slice J m O]:List Value)[i]? = some z->(Z.alloc (.cells #[.int .i64 f,.int .i64 s,.slice A m D,.slice J m O] 114)).cell? ((⟨Z.heap.size,0,none⟩:Addr).add i)=some z):=World.news_of_block (heap_alloc_new Z _);have kH:Hid (∀z∈([.int .i64 f,.int .i64 s,.slice A m D,.slice J m O]:List Value),z.oneCell'=true):=by
    intro z I;simp at I;rcases I with rfl|rfl|rfl|rfl<;>rfl
   have hZl:o.heap.size<=Z.heap.size:=om.out.size;clear ϒ Î Ϛ Ĵ lM hx3 j2 jf hx4 j3 jg κ hZ à tZ aiX aiY yZ huo U ϗ Vj mH wT gY ϊ HB0;go_wp2_with (at_builtin;refine wpList_append_lies _ rfl _ _ 111 rfl o.heap.size 114 iB (.agg #[.int .i64 0,.int .i64 0,.slice none 0 0,.slice none 0 0]) 4 64 underlying111 Gf.out hB0 χ ź rfl nQ _ _ _ rfl lJ.out ⟨Z.heap.size,0,none⟩ 1 1 [.int .i64 f,.int .i64 s,.slice A m D,.slice J m O] rfl rfl iV.out kH.out fO (by unfold maxLen;omega) fO rD _ rfl ?_);intro g7 dR w7 bR eu qb _;have aQ:Hid (∃GD,jH w7 o.heap.size (.slice (some ⟨g7,0,none⟩) (k+1) dR) (Bs.take (k+1)) GD/\Below o.heap.size o w7):=by
    obtain⟨e1,e2,e3,e4⟩:=HFS.out;obtain⟨yZ,U,h3,h4⟩:=ME.out;have et:Bs.take (k+1)=Bs.take k ++ [Bs[k]]:=take_succ_eq_append_getElem e4;have ϗ:(Bs.take k).length=k:=by rw[length_take];omega
    have sD:Below Z.heap.size Z (Z.alloc (.cells #[.int .i64 f,.int .i64 s,.slice A m D,.slice J m O] 114)):=(Below.refl _ _).alloc (le_refl _) _;obtain⟨n1,n2⟩:=iH.out;have h3':Z.ownsRow o.heap.size 9 1 (.slice A m D) Bs[k].2.2.length ((Bs[k].2.2.map Prod.fst).map encStr):=by rw[<-n1,<-e3];exact h3
    have h4':Z.ownsRow o.heap.size 9 1 (.slice J m O) Bs[k].2.2.length ((Bs[k].2.2.map λr=>dU r.2).map encStr):=by rw[<-n2,<-e3];exact h4
    have xZ:w7.ownsRow o.heap.size 114 4 (.slice (some ⟨g7,0,none⟩) ((Bs.take k).length+1) dR) ((Bs.take k).length+1) (bM (Bs.take k) us ++ [.int .i64 Bs[k].1,.int .i64 Bs[k].2.1,.slice A m D,.slice J m O]):=by
     rw[ϗ,<-e1,<-e2];exact bR
    have hs:=jH.snoc (wr:=Z.alloc (.cells #[.int .i64 f,.int .i64 s,.slice A m D,.slice J m O] 114)) (w7:=w7) yZ (λi hi hv=>⟨aX (U i hi hv).1 sD,aX (U i hi hv).2 sD⟩) Bs[k] (.slice A m D) (.slice J m O) (aX h3' sD) (aX h4' sD) xZ (λx cs Q=>eu.block x (Array.getElem?_eq_some_iff.1 Q).1 λe=>by
     obtain⟨_,_,cur,hc⟩:=aH lJ.out e.symm;rw[hc] at Q;injection Q with Q;injection Q with _ Q;revert Q;decide)
    rw[<-et,ϗ] at hs;refine⟨_,hs,(om.out.trans (sD.mono om.out.size)).trans ⟨eu.os,eu.tape,eu.output,eu.size,λb hb=>eu.block b rD λe=>?_⟩⟩;have:=(aH lJ.out e.symm).1;omega
   obtain⟨GD,q1,q2⟩:=aQ.out;have HQ:=ϰ (And.intro q1 q2);clear bR eu qb q1 q2 aQ z0 z1 z2 z3;go_wp2;go_roundw;case rel=>exact⟨k+1,GD,fO,by go_num,HQ.out.1,HQ.out.2⟩
   case measure=>simp[intOf]<;>omega
  ·obtain rfl:k=n:=fO;have jr:Bs.take k=Bs:=by rw[OH.out.1];exact take_length
   rw[jr] at ö;have aQ:=ϰ (And.intro ö Ϙ);clear ö Ϙ jr EU bq;go_wp2;go_ret;exact⟨_,H',rfl,aQ.out.1,aQ.out.2⟩
theorem Tryz.sizeBk:(prog.info? 114).map (·.size)=some 4:=lG
def E9:Value:=.agg #[.int .i64 0,.int .i64 0,.slice none 0 0,.slice none 0 0]
theorem OJ:E9.cells.toList = [.int .i64 0,.int .i64 0,.slice none 0 0,.slice none 0 0]:=lG
theorem Vk:E9.cells.toList.length=4:=by rw[OJ];rfl
theorem afR:∀v∈E9.cells.toList,v.oneCell'=true:=by
 rw[OJ];intro v o;simp only[mem_cons,not_mem_nil,or_false] at o;rcases o with rfl|rfl|rfl|rfl<;>rfl
theorem afS(w:World):(zeroValue 114).run prog w = .ok E9 w:=by
 obtain⟨i,q,o,_⟩:=info_parts Tryz.infoBk;simp[zeroValue,typeInfo,q,o,E9]
theorem RU(w:World)(g o c:Nat)(L:List Value)(A:w.heap[g]? = some (.cells L.toArray 114 (0,0)))(D:o+4<=L.length):
  ∃z,(∀q,(Builtin.clear_ #[111] q #[.slice (some ⟨g,o,none⟩) 1 c]).run prog w = .ok (.tuple #[]) z)/\z.heap[g]? = some (.cells (dW L o E9.cells.toList).toArray 114 (0,0))/\kr g w z:=
 ⟨_,λq=>Pn prog w 111 114 q E9 underlying111 afS afR g o c L 114 A (by rw[Vk];exact D),setRow_heap w g _ _ 114 _ A,uy _ _ _⟩
theorem afT(F w:World)(J:w.heap=F.heap)(g o q A:Nat)(a:Addr)(z D:Nat)(L cs:List Value)(Q:F.heap[g]? = some (.cells L.toArray 114 (0,0)))(R:cs.length=Nat.min z q*4)
  (V:∀j v,cs[j]? = some v->F.cell? (a.add j)=some v) (W:o+cs.length<=L.length) (K:∀v∈cs,v.oneCell'=true) (U:kr g F w) :
  ∃I k,(∀H,(Builtin.copy_ #[111,111] H #[.slice (some ⟨g,o,none⟩) q A,.slice (some a) z D]).run prog w = .ok k I)/\I.heap[g]? = some (.cells (dW L o cs).toArray 114 (0,0))/\kr g F I:=by
 have G:w.heap[g]? = some (.cells L.toArray 114 (0,0)):=by rw[J];exact Q
 have O:∀p,w.cell? p=F.cell? p:=λp=>by unfold World.cell?;rw[J]
 exact⟨_,_,λH=>E5 prog w 111 111 H 114 g o q A a z D 4 L 114 cs underlying111 Tryz.sizeBk G R (λj v h=>(O _).trans (V j v h)) W K,setRow_heap w g _ _ 114 _ G,U.trans (uy _ _ _)⟩
theorem XJ(w:World)(g n o i:Nat)(L:List Value)(Q:w.heap[g]? = some (.cells L.toArray 114 (0,0)))(hL:L.length=o*4)(V:n<=o)(U:o<=maxLen)(R:n=i+2)(b c:Nat)(z:List Value)(W:z.length=4)
  (ĳ:∀q u,z[q]? = some u->w.cell? ((⟨b,0,none⟩:Addr).add q)=some u) (O:∀u∈z,u.oneCell'=true) :
  Calls prog 73 #[.slice (some ⟨g,0,none⟩) n o,.int .i64 (i:Int),.int .i64 (n:Int),.slice (some ⟨b,0,none⟩) 1 c] w λe w'=>e = .returned (.slice (some ⟨g,0,none⟩) (i+1) o)/\kr g w w' /\
   w'.heap[g]? = some (.cells (dW (dW L (i*4) z) ((i+1)*4) E9.cells.toList).toArray 114 (0,0)):=by
 have D:=ϰ (And.intro Q (And.intro hL (And.intro U ĳ)));have F:=ϰ (And.intro R (And.intro V (And.intro O W)));obtain⟨Y,I,H,χ,ź⟩:=info_parts Tryz.infoBk;have J:=ϰ (And.intro I (And.intro H χ));have x2:i+1<n:=fO;have x3:¬ o=i:=fO;have x4:¬ o=i+1:=fO;have x5:n-(i+1)=1:=fO;have e3:(i:Int)+1<(n:Int):=fO;have i1:i<=o:=fO;have i2:n<=o:=fO;have i3:i<=n:=fO;go_enter func73,ntmps73;go_wp2_with (at_builtin;refine Gx rfl _ _ 111 rfl 114 Y 4 underlying111 J.out.1 J.out.2.2 g i o (by rfl) L D.out.1 ⟨b,0,none⟩ 1 c z (by rfl) F.out.2.2.2 D.out.2.2.2 F.out.2.2.1 fO (by rw[F.out.2.2.2,D.out.2.1];omega) ?_);intro w1 Ò Ę;have K:=ϰ (And.intro Ò Ę);obtain⟨G,ϩ,ϫ,Î⟩:∃G,(∀Z,(Builtin.clear_ #[111] Z #[.slice (some ⟨g,(i+1)*4,none⟩) 1 (o-(i+1))]).run prog w1 = .ok (.tuple #[]) G)/\G.heap[g]? = some (.cells (dW (dW L (i*4) z) ((i+1)*4) E9.cells.toList).toArray 114 (0,0))/\kr g w1 G:=
  RU w1 g ((i+1)*4) (o-(i+1)) (dW L (i*4) z) K.out.1 (by rw[vw _ _ _ (by rw[F.out.2.2.2,D.out.2.1];omega),D.out.2.1];omega)
 have A:=ϰ (And.intro ϫ Î);go_wp2;go_ret;exact⟨rfl,(K.out.2.trans A.out.2),A.out.1⟩
theorem XK(w:World)(g n o i j:Nat)(L:List Value)(hg:w.heap[g]? = some (.cells L.toArray 114 (0,0)))(hL:L.length=o*4)(hn:n<=o)(hm:o<=maxLen)(hj:j=i+2)(hjn:j<n)(b c:Nat)(A:List Value)(hy:A.length=4)
  (ĳ:∀q u,A[q]? = some u->w.cell? ((⟨b,0,none⟩:Addr).add q)=some u) (h1:∀u∈A,u.oneCell'=true) (J:∀u∈L.take (n*4),u.oneCell'=true) :
  Calls prog 73 #[.slice (some ⟨g,0,none⟩) n o,.int .i64 (i:Int),.int .i64 (j:Int),.slice (some ⟨b,0,none⟩) 1 c] w λe w'=>e = .returned (.slice (some ⟨g,0,none⟩) (n-1) o)/\kr g w w' /\
   w'.heap[g]? = some (.cells (dW (dW (dW L (i*4) A) ((i+1)*4) (((dW L (i*4) A).drop (j*4)).take ((n-j)*4))) ((n-1)*4) E9.cells.toList).toArray 114 (0,0)):=by
 have G:=ϰ (And.intro hg (And.intro hL (And.intro hm ĳ)));have D:=ϰ (And.intro hj (And.intro hn (And.intro h1 hy)));obtain⟨iB,hIB,hB0,χ,ź⟩:=info_parts Tryz.infoBk;have hm':o<=9223372036854775807:=hm;have x2:¬ j=n:=fO;have x3:¬ o=i:=fO;have x4:¬ o=i+1:=fO;have x5:¬ o=j:=fO;have i1:i<=o:=fO;have i2:j<=o:=fO;have i3:i<=j:=fO;have i4:j<=n:=fO;obtain⟨m,Ý⟩:=bE (n-1);have HT:Hid ((i:Int)+1+((n-j:Nat):Int)=(m:Int)):=show _=_ by omega
 have i5:m<=o:=fO;have i6:¬ o<m:=fO;have i7:i<=m:=fO;have i8:i+1<=m:=fO;have i9:i+1<=j:=fO;have y0:IntKind.i64.wrap ((i:Int)+1)=(i:Int)+1:=IntWalk.i64_in _ fO;have y1:(0:Int)<=i+1:=fO;have y2:(i:Int)+1<=(m:Int):=fO;have y3:((i:Int)+1).toNat=i+1:=fO;have i10:m<=n:=fO;have i11:n-m=1:=fO;have x6:¬ o=m:=fO;have Q:Hid (1=Nat.min 1 (m-i)/\n-j=Nat.min (n-j) (m-(i+1))/\m+1<=o/\i+2+(n-j)<=o):=⟨by show 1=min 1 (m-i);omega,by show n-j=min (n-j) (m-(i+1));omega,fO,fO⟩;rw[<-Ý];have Y:=ϰ J;clear hg hL hm ĳ hj hn h1 hy hIB hB0 χ ź hjn Ý J;go_enter func73,ntmps73;go_wp2_with fail;go_quiet (fail);rw[HT.out];obtain⟨w1,k1,aq1,Ò,Ę⟩:∃w1 k1,(∀ty,(Builtin.copy_ #[111,111] ty #[.slice (some ⟨g,i*4,none⟩) (m-i) (o-i),.slice (some ⟨b,0,none⟩) 1 c]).run prog (w.drewN nq) = .ok k1 w1)/\w1.heap[g]? = some (.cells (dW L (i*4) A).toArray 114 (0,0))/\kr g w w1:=
  afT w (w.drewN nq) rfl g (i*4) (m-i) (o-i) ⟨b,0,none⟩ 1 c L A G.out.1 (by rw[<-Q.out.1];exact D.out.2.2.2) G.out.2.2.2 (by rw[D.out.2.2.2,G.out.2.1];omega) D.out.2.2.1 ⟨rfl,rfl,rfl,rfl,λ_ _=>rfl⟩
 obtain⟨H,R⟩:=bE (dW L (i*4) A);obtain⟨cs,V⟩:=bE ((H.drop (j*4)).take ((n-j)*4));have Ī:H.length=o*4:=by rw[R,vw _ _ _ (by rw[D.out.2.2.2,G.out.2.1];omega),G.out.2.1]
 have Ν:cs.length=(n-j)*4:=by
  have:=D.out.2.1;rw[V,length_take,length_drop,Ī];omega
 have O:Hid (cs.length=Nat.min (n-j) (m-(i+1))*4/\(i+1)*4+cs.length<=H.length/\∀v∈cs,v.oneCell'=true):=by
  refine⟨by rw[<-Q.out.2.1];exact Ν,?_,λv F=>?_⟩
  ·have:=Q.out.2.2.2;rw[Ν,Ī];omega
  ·rw[V,R,aiG L A i j n o G.out.2.1 D.out.2.1 D.out.1 i4 D.out.2.2.2] at F;exact Y.out v (mem_of_mem_drop F)
 have z:=Ò;rw[<-R] at z;have HS:Hid (∀q v,cs[q]? = some v->w1.cell? ((⟨g,j*4,none⟩:Addr).add q)=some v):=λq v F=>by
  rw[V,List.getElem?_take] at F;rw[Addr.add_lit,cell_of_row w1 g _ _ _ _ z];split at F
  ·rw[List.getElem?_drop] at F;simpa using F
  ·cases F
 have iX:=ϰ (And.intro z Ę);have W:=ϰ (And.intro R (And.intro V Ī));go_wp2_with fail;go_region_law (refine MR rfl (.tmp 103) (.tmp 106) 111 111 rfl 114 4 underlying111 Tryz.sizeBk g ((i+1)*4) (m-(i+1)) (o-(i+1)) ⟨g,j*4,none⟩ (n-j) (o-j) (by simp[Act.eval,Act.put]) (by simp[Act.eval,Act.put]) H 114 iX.out.1 cs O.out.1 HS.out O.out.2.1 O.out.2.2 ?_;intro w2 k2 ϫ K);all_goals
  have Z:=iX.out.2.trans ⟨K.os,K.tape,K.output,K.size,K.block⟩;obtain⟨U,aq2,hg3,Ĵ⟩:∃U,(∀ty,(Builtin.clear_ #[111] ty #[.slice (some ⟨g,m*4,none⟩) 1 (o-m)]).run prog w2 = .ok (.tuple #[]) U)/\U.heap[g]? = some (.cells (dW (dW H ((i+1)*4) cs) (m*4) E9.cells.toList).toArray 114 (0,0))/\kr g w2 U:=
   RU w2 g (m*4) (o-m) (dW H ((i+1)*4) cs) ϫ (by have:=Q.out.2.2.1;rw[vw _ _ _ O.out.2.1,W.out.2.2];omega)
  have I:=ϰ (And.intro hg3 (Z.trans Ĵ));go_wp2;go_ret;exact⟨rfl,I.out.2,by rw[<-W.out.1,<-W.out.2.1];exact I.out.1⟩
theorem XM(w:World)(A g n o i j:Nat)(xs:List Value)(R:w.ownsRow A 114 4 (.slice (some ⟨g,0,none⟩) n o) n xs)(J:j=i+2)(W:j<=n)(b c:Nat)(D:List Value)(G:D.length=4)
  (Q:∀q u,D[q]? = some u->w.cell? ((⟨b,0,none⟩:Addr).add q)=some u) (O:∀u∈D,u.oneCell'=true) (Y:∀u∈xs,u.oneCell'=true) :
  Calls prog 73 #[.slice (some ⟨g,0,none⟩) n o,.int .i64 (i:Int),.int .i64 (j:Int),.slice (some ⟨b,0,none⟩) 1 c] w λe w'=>e = .returned (.slice (some ⟨g,0,none⟩) (n-1) o)/\kr g w w' /\
   w'.ownsRow A 114 4 (.slice (some ⟨g,0,none⟩) (n-1) o) (n-1) (xs.take (i*4)++D++xs.drop (j*4)):=by
 rcases R.2 with⟨hv,_⟩|⟨g',cap',cur,hv,hb,hg,hnc,Ľ,Ϭ,htake⟩
 ·cases hv
 ·injection hv with ā Ţ hv3;injection ā with ā;injection ā with ā _ _;subst ā hv3;have hL:cur.toList.length=o*4:=by rw[Array.length_toList];exact Ϭ
  have F:w.heap[g]? = some (.cells cur.toList.toArray 114 (0,0)):=by rw[Array.toArray_toList];exact hg
  have z:=afO cur.toList D E9.cells.toList i n o hL hnc fO G Vk;have U:(xs.take (i*4)++D++xs.drop (j*4)).length=(n-1)*4:=by
   have:=R.1;rw[length_append,length_append,length_take,length_drop,G];omega
  rw[htake,<-J,show n-i-2=n-j by omega] at z;by_cases I:j=n
  ·subst I;have V:i+1=j-1:=fO
   refine (XJ w g j o i cur.toList F hL hnc Ľ J b c D G Q O).mono ?_;rintro e w' ⟨rfl,K,H⟩;rw[V] at H ⊢;refine⟨rfl,K,U,.inr ⟨g,o,_,rfl,hb,H,fO,Ľ,?_,?_⟩⟩
   ·rw[sub_self,Nat.zero_mul,take_zero,OA] at z;rw[size_toArray];exact z.1
   ·rw[sub_self,Nat.zero_mul,take_zero,OA] at z;exact z.2
  ·refine (XK w g n o i j cur.toList F hL hnc Ľ J fO b c D G Q O (by rw[htake];exact Y)).mono ?_;rintro e w' ⟨rfl,K,H⟩;refine⟨rfl,K,U,.inr ⟨g,o,_,rfl,hb,H,fO,Ľ,?_,?_⟩⟩
   ·rw[size_toArray];exact z.1
   ·exact z.2
theorem Ct:∀(A:List Bk) (a:List (Value×Value)) (_:a.length=A.length) (C:List Bk) (c:List (Value×Value)),bM (A++C) (a++c)=bM A a++bM C c
 | [],[],_,_,_=>rfl
 | [],_::_,h,_,_=>by cases h
 | _::_,[],h,_,_=>by cases h
 | b::A,v::a,h,C,c=>by
  have:=Ct A a (by simpa using h) C c;show _::_::_::_::bM (A++C) (a++c)=_;rw[this];rfl
theorem RV(m:Nat)(Bs:List Bk)(o:List (Value×Value))(h:o.length=Bs.length)(q:m<=Bs.length):(bM Bs o).take (m*4)=bM (Bs.take m) (o.take m):=by
 have e:bM Bs o=bM (Bs.take m) (o.take m)++bM (Bs.drop m) (o.drop m):=by
  rw[<-Ct _ _ (by simp[h]),take_append_drop,take_append_drop]
 rw[e,take_left' (by rw[Cq _ _ (by simp[h]),length_take,Nat.min_eq_left q])]
theorem ac5{wr w':World}{o g n I:Nat}{Bs:List Bk}{z:List (Value×Value)}(K:z.length=Bs.length)(hn:n=Bs.length)
  (W:∀i (hi:i<Bs.length) (hv:i<z.length),wr.ownsRow o 9 1 z[i].1 Bs[i].2.2.length ((Bs[i].2.2.map Prod.fst).map encStr)/\wr.ownsRow o 9 1 z[i].2 Bs[i].2.2.length ((Bs[i].2.2.map λr=>dU r.2).map encStr))
  (ho:kr g wr w') {O:Array Value} (hg:wr.heap[g]? = some (.cells O 114 (0,0))) (i:Nat) (hi:i+2<=n) (b:Bk) (v:Value×Value)
  (h1:wr.ownsRow o 9 1 v.1 b.2.2.length ((b.2.2.map Prod.fst).map encStr)) (h2:wr.ownsRow o 9 1 v.2 b.2.2.length ((b.2.2.map λr=>dU r.2).map encStr))
  (Z:w'.ownsRow o 114 4 (.slice (some ⟨g,0,none⟩) (n-1) I) (n-1) ((bM Bs z).take (i*4) ++ [.int .i64 b.1,.int .i64 b.2.1,v.1,v.2]++(bM Bs z).drop ((i+2)*4))) :
  jH w' o (.slice (some ⟨g,0,none⟩) (n-1) I) (Bs.take i++b::Bs.drop (i+2)) (g::(z.take i++v::z.drop (i+2)).flatMap ownB):=by
 subst hn;have H:∀ {u:Value} {m:Nat} {xs:List Value},wr.ownsRow o 9 1 u m xs->w'.ownsRow o 9 1 u m xs:=fun {u m xs} Y=>by
  refine bC Y λq hq=>ho.block q λe=>?_
  subst e;obtain⟨_,_,V,G⟩:=aH Y hq;rw[hg] at G;injection G with G;injection G with _ G;revert G;decide
 have ϑ:(Bs.take i++b::Bs.drop (i+2)).length=Bs.length-1:=by
  rw[length_append,length_cons,length_take,length_drop];omega
 have Τ:(z.take i++v::z.drop (i+2)).length=(Bs.take i++b::Bs.drop (i+2)).length:=by
  rw[length_append,length_append,length_cons,length_cons,length_take,length_drop,length_take,length_drop,K]
 refine⟨_,Τ,rfl,?_,?_⟩
 ·rw[ϑ,Ct _ _ (by simp[K])];rw[RV i Bs z K fO,AR (i+2) Bs z K,append_assoc] at Z;exact Z
 ·intro k hk Q;rcases Nat.lt_trichotomy k i with A|A|A
  ·have D:(Bs.take i++b::Bs.drop (i+2))[k]=Bs[k]'fO:=by
    rw[getElem_append_left (by rw[length_take];omega),getElem_take]
   have F:(z.take i++v::z.drop (i+2))[k]=z[k]'fO:=by
    rw[getElem_append_left (by rw[length_take];omega),getElem_take]
   rw[D,F];obtain⟨R,U⟩:=W k fO fO;exact⟨H R,H U⟩
  ·subst A;have D:(Bs.take k++b::Bs.drop (k+2))[k]=b:=by
    rw[getElem_append_right (by rw[length_take];omega)];simp only[length_take,Nat.min_eq_left (show k<=Bs.length by omega),sub_self,getElem_cons_zero]
   have F:(z.take k++v::z.drop (k+2))[k]=v:=by
    rw[getElem_append_right (by rw[length_take];omega)];simp only[length_take,Nat.min_eq_left (show k<=z.length by omega),sub_self,getElem_cons_zero]
   rw[D,F];exact⟨H h1,H h2⟩
  ·have J:k+1<Bs.length:=fO;have D:(Bs.take i++b::Bs.drop (i+2))[k]? = Bs[k+1]?:=by
    rw[List.getElem?_append_right (by rw[length_take];omega),length_take,Nat.min_eq_left fO,show k-i=(k-i-1)+1 by omega,List.getElem?_cons_succ,List.getElem?_drop];congr 1;omega
   have F:(z.take i++v::z.drop (i+2))[k]? = z[k+1]?:=by
    rw[List.getElem?_append_right (by rw[length_take];omega),length_take,Nat.min_eq_left fO,show k-i=(k-i-1)+1 by omega,List.getElem?_cons_succ,List.getElem?_drop];congr 1;omega
   rw[List.getElem?_eq_getElem hk,List.getElem?_eq_getElem J,Option.some.injEq] at D;rw[List.getElem?_eq_getElem Q,List.getElem?_eq_getElem fO,Option.some.injEq] at F;rw[D,F];obtain⟨R,U⟩:=W (k+1) J fO;exact⟨H R,H U⟩
def wV(b:Bk):List (List UInt8):=b.2.2.map Prod.fst
noncomputable def wW(b:Bk):List (List UInt8):=b.2.2.map λr=>dU r.2
noncomputable def vF(a b:Bk):Int:=AO a.1 a.2.1 (wV a) (wW a) b.1 b.2.1 (wV b) (wW b)
noncomputable def aok(a b:Bk):Int:=E8 a.1 a.2.1 (wV a) (wW a) b.1 b.2.1 (wV b) (wW b)
noncomputable def wI(a b:Bk):Bk:=(a.1,a.2.1+b.2.1,bI (rowsOf (wV a) (wW a)) (rowsOf (wV b) (wW b)))
structure LC(ea:Nat->Addr)(w2 z:World)(a b:Bk)(p q:Int)(u1 u2 v3:Value):Prop where
 aI:Below w2.heap.size w2 z
 OC:aL ea z v3 (vF a b) (aok a b)
 res:(vF a b=0/\p=(wI a b).1/\q=(wI a b).2.1/\z.ownsRow w2.heap.size 9 1 u1 (wI a b).2.2.length (((wI a b).2.2.map Prod.fst).map encStr)/\z.ownsRow w2.heap.size 9 1 u2 (wI a b).2.2.length (((wI a b).2.2.map λr=>dU r.2).map encStr))\/(vF a b≠0/\p=0/\q=0/\u1 = .slice none 0 0/\u2 = .slice none 0 0)
theorem LC.below{ea:Nat->Addr}{G z H:World}{a b:Bk}{p q:Int}{A D F:Value}(h:LC ea G z a b p q A D F)(o:Below z.heap.size z H):LC ea G H a b p q A D F:=
 ⟨h.aI.trans (o.mono h.aI.size),h.OC.below o,h.res.imp (λg=>⟨g.1,g.2.1,g.2.2.1,aX g.2.2.2.1 o,aX g.2.2.2.2 o⟩) id⟩
theorem LC.uK{ea:Nat->Addr}{A z:World}{a b:Bk}{p q:Int}{D F G:Value}(h:LC ea A z a b p q D F G){c:Nat}{I J K:Value}{k:Int}(o:z.heap[c]? = some (.cells #[I,.int .i64 k,J,K] 114 (0,0)))(H:A.heap.size<=c)(O Q R U:Value):LC ea A ((((z.setCell ⟨c,0,none⟩ O).setCell ⟨c,1,none⟩ Q).setCell ⟨c,2,none⟩ R).setCell ⟨c,3,none⟩ U) a b p q D F G:=
 ⟨pY h.aI H _ _ _ _,zF h.OC o _ _ _ _,h.res.imp (λg=>⟨g.1,g.2.1,g.2.2.1,rF g.2.2.2.1 o nQ _ _ _ _,rF g.2.2.2.2 o nQ _ _ _ _⟩) id⟩
def XO(ea:Nat->Addr)(w2 z:World)(a b:Bk)(v7 v9:Value):Prop:=
 ∃(jb:Nat) (p q:Int) (g1 g2:Option Addr) (n1 n2 c1 c2:Nat),v9 = .pointer (some ⟨jb,0,none⟩)/\z.heap[jb]? = some (.cells #[.int .i64 p,.int .i64 q,.slice g1 n1 c1,.slice g2 n2 c2] 114 (0,0))/\w2.heap.size<=jb/\LC ea w2 z a b p q (.slice g1 n1 c1) (.slice g2 n2 c2) v7
theorem ac6{B:Nat}{ea:Nat->Addr}(wr z:World)(E:oF B ea z)(hB:B<=z.heap.size)(A:Below wr.heap.size wr z)(a b:Bk)(o:Nat)(v1 U H V:Value)(h1:wr.ownsRow o 9 1 v1 (wV a).length ((wV a).map encStr))(D:wr.ownsRow o 9 1 U (wW a).length ((wW a).map encStr))(h3:wr.ownsRow o 9 1 H (wV b).length ((wV b).map encStr))(h4:wr.ownsRow o 9 1 V (wW b).length ((wW b).map encStr))
  (Z:∀r,r∈a.2.2->r.1.length<=100000/\(dU r.2).length<=10000) (hb:∀r,r∈b.2.2->r.1.length<=100000/\(dU r.2).length<=10000) (I:a.2.2.length<=100000) (Ξ:b.2.2.length<=100000) :
  Calls prog 72 #[.agg #[.int .i64 a.1,.int .i64 a.2.1,v1,U],.agg #[.int .i64 b.1,.int .i64 b.2.1,H,V]] z λe K=>∃p q W Y n3 n4 k3 k4 H,e = .returned (.tuple #[.agg #[.int .i64 p,.int .i64 q,.slice W n3 k3,.slice Y n4 k4],H])/\Below wr.heap.size wr K/\Below z.heap.size z K/\LC ea wr K a b p q (.slice W n3 k3) (.slice Y n4 k4) H:=by
 refine (XE z E hB a.1 a.2.1 b.1 b.2.1 o o o o v1 U H V (wV a) (wW a) (wV b) (wW b) (aX h1 A) (aX D A) (aX h3 A) (aX h4 A) (λx G=>?_) (λx G=>?_) (λx G=>?_) (λx G=>?_) (by rw[wV,length_map];exact I) (by rw[wW,length_map];exact I) (by rw[wV,length_map];exact Ξ) (by rw[wW,length_map];exact Ξ)).mono ?_
 ·obtain⟨r,F,rfl⟩:=mem_map.1 G;exact (Z r F).1
 ·obtain⟨r,F,rfl⟩:=mem_map.1 G;exact (Z r F).2
 ·obtain⟨r,F,rfl⟩:=mem_map.1 G;exact (hb r F).1
 ·obtain⟨r,F,rfl⟩:=mem_map.1 G;exact (hb r F).2
 ·rintro e K ⟨v,J,vJ,⟨O,u1,u2,rfl,o1,o2⟩|⟨O,rfl⟩⟩
  ·have D:=A.trans (J.mono A.size);have Q:=iA o1 A.size;have R:=iA o2 A.size;obtain⟨ua,uc,rfl⟩:=bA o1;obtain⟨ub,ud,rfl⟩:=bA o2;exact⟨_,_,_,_,_,_,_,_,_,rfl,D,J,D,vJ,.inl ⟨O,rfl,rfl,Q,R⟩⟩
  ·have D:=A.trans (J.mono A.size);exact⟨_,_,_,_,_,_,_,_,_,rfl,D,J,D,vJ,.inr ⟨O,rfl,rfl,rfl,rfl⟩⟩
theorem ac7{w K wr Z w7:World}{z hb db:Nat}{S:List Sr}{d:Dk}{Bs:List Bk}{O keep:Int}{G F H:List Nat}{g n J:Nat}(U:fE w K z hb db S d Bs O keep (.slice (some ⟨g,0,none⟩) n J) G F H)(hn:n=Bs.length){D:List (Value×Value)}(ϭ:D.length=Bs.length)(pq:H=(Value.slice (some ⟨g,0,none⟩) n J).ownBlock.toList++D.flatMap ownB)
  (fP:K.ownsRow w.heap.size 114 4 (.slice (some ⟨g,0,none⟩) n J) n (bM Bs D))
  (è:∀i (hi:i<Bs.length) (A:i<D.length),K.ownsRow w.heap.size 9 1 D[i].1 Bs[i].2.2.length ((Bs[i].2.2.map Prod.fst).map encStr)/\K.ownsRow w.heap.size 9 1 D[i].2 Bs[i].2.2.length ((Bs[i].2.2.map λr=>dU r.2).map encStr))
  (V:Below K.heap.size K wr) (hZ:Below wr.heap.size wr Z) (k:Nat) (hk:k+2<=n) (b:Bk) (W Y:Value)
  (o1:Z.ownsRow wr.heap.size 9 1 W b.2.2.length ((b.2.2.map Prod.fst).map encStr)) (o2:Z.ownsRow wr.heap.size 9 1 Y b.2.2.length ((b.2.2.map λr=>dU r.2).map encStr)) (R:kr g Z w7)
  (ό:w7.ownsRow w.heap.size 114 4 (.slice (some ⟨g,0,none⟩) (n-1) J) (n-1) ((bM Bs D).take (k*4) ++ [.int .i64 b.1,.int .i64 b.2.1,W,Y]++(bM Bs D).drop ((k+2)*4))) :
  ∃H',fE w (w7.setCell ⟨z,4,none⟩ (.slice (some ⟨g,0,none⟩) (n-1) J)) z hb db S d (Bs.take k++b::Bs.drop (k+2)) O keep (.slice (some ⟨g,0,none⟩) (n-1) J) G F H'/\Kept (z::H) K (w7.setCell ⟨z,4,none⟩ (.slice (some ⟨g,0,none⟩) (n-1) J))/\∀x,x∈H'->x∈H\/K.heap.size<=x:=by
 have I:=V.trans (hZ.mono V.size);have Q:g∈H:=by rw[pq];simp[Value.ownBlock]
 have hsg:z≠g:=λe=>U.sH (e ▸ Q)
 have Ĕ:=aC U.blk;obtain⟨_,Ŏ,cur,ĭ⟩:=aH (aX fP I) (show _=some g from rfl);have JN:=(R.block z hsg).trans (I.block z Ĕ);have ö:=ac5 ϭ hn (λi hi A=>⟨aX (è i hi A).1 I,aX (è i hi A).2 I⟩) R ĭ k hk b (W,Y) (iA o1 (le_trans U.aI.size V.size)) (iA o2 (le_trans U.aI.size V.size)) ό;have À:∀x,x∈g::(D.take k++(W,Y)::D.drop (k+2)).flatMap ownB->x∈H\/wr.heap.size<=x:=λx q=>by
  rcases mem_cons.1 q with rfl|q
  ·exact .inl Q
  ·obtain⟨v,A,o⟩:=mem_flatMap.1 q;rcases mem_append.1 A with A|A
   ·exact .inl (by rw[pq];exact mem_append.2 (.inr (mem_flatMap.2 ⟨v,mem_of_mem_take A,o⟩)))
   ·rcases mem_cons.1 A with rfl|A
    ·rcases mem_append.1 o with o|o
     ·exact .inr (uZ o1 o).1
     ·exact .inr (uZ o2 o).1
    ·exact .inl (by rw[pq];exact mem_append.2 (.inr (mem_flatMap.2 ⟨v,mem_of_mem_drop A,o⟩)))
 have à:∀x,x≠z->(w7.setCell ⟨z,4,none⟩ (.slice (some ⟨g,0,none⟩) (n-1) J)).heap[x]? = w7.heap[x]?:=λx q=>Dh (Ne.symm q) _ _
 have Ł:Kept (z::H) K (w7.setCell ⟨z,4,none⟩ (.slice (some ⟨g,0,none⟩) (n-1) J)):=
  ⟨R.os.trans I.os,R.tape.trans I.tape,R.output.trans I.output,by
   have h1:=I.size;have h2:=R.size;simp[World.setCell];omega,λx q hm=>by
   rw[à x λe=>hm (by simp[e]),R.block x λe=>hm (by simp[e,Q])];exact I.block x q⟩
 refine⟨_,U.blocks Ł ((dw (JN.trans U.blk) 4 _).trans rfl) (ö.same λx q=>à x λe=>?_) λx q=>(À x q).imp id λh=>le_trans V.size h,Ł,λx q=>(À x q).imp id λh=>le_trans V.size h⟩;subst e;rcases À x q with h|h
 ·exact U.sH h
 ·have:=V.size;omega
def afU(w wa:World)(sb hb db:Nat)(S:List Sr)(d:Dk)(Bs:List Bk)(span keep:Int)(vB:Value)(G F H:List Nat)(e:Ending)(w':World):Prop:=
 (∃(k:Nat) (hk:k+1<Bs.length) (o9:Value) (H':List Nat),(∀q (hq:q<k),vF (Bs[q]'fO) (Bs[q+1]'fO)≠0)/\vF (Bs[k]'fO) Bs[k+1]=0/\e = .returned (.tuple #[.bool true,.nilIface])/\fE w w' sb hb db S d (Bs.take k++wI (Bs[k]'fO) Bs[k+1]::Bs.drop (k+2)) span keep o9 G F H'/\Kept (sb::H) wa w'/\(∀x,x∈H'->x∈H\/wa.heap.size<=x)) \/
 ((∀q (hq:q+1<Bs.length),vF (Bs[q]'fO) Bs[q+1]≠0)/\e = .returned (.tuple #[.bool false,.nilIface])/\fE w w' sb hb db S d Bs span keep vB G F H/\Below wa.heap.size wa w')
theorem XP{B:Nat}{ea:Nat->Addr}(w wa:World)(E:oF B ea w)(hB:B<=w.heap.size)(o hb db:Nat)(S:List Sr)(d:Dk)(Bs:List Bk)(span keep:Int)(vB:Value)(G F H:List Nat)(h:fE w wa o hb db S d Bs span keep vB G F H)(hn:Bs.length<=100000)
  (ϻ:∀b,b∈Bs->b.2.2.length<=100000/\∀r,r∈b.2.2->r.1.length<=100000/\(dU r.2).length<=10000) :
  Calls prog 44 #[.pointer (some ⟨o,0,none⟩)] wa λe w'=>afU w wa o hb db S d Bs span keep vB G F H e w':=by
 obtain⟨vs,ϭ,pq,fP,è⟩:=h.vg.ex;obtain⟨aB,Z,rfl⟩:=bA fP;obtain⟨n,ϛ⟩:=bE Bs.length;have V:=ϰ h;have x4:=ak h.blk 4;simp at x4;rw[<-ϛ] at x4 fP hn;have pK:=ϰ (And.intro ϭ (And.intro pq (And.intro fP (And.intro è ϛ))));have HE:=ϰ E;have mD:=ϰ ϻ;have qc:=aC h.blk;clear h E ϭ pq fP è ϛ ϻ;go_enter func44,ntmps44;go_wp2_with fail;go_loopw [4] (λii wr=>∃(i:Nat),1<=i/\(i<=n\/i=1)/\ii = .int .i64 (i:Int)/\Below wa.heap.size wa wr/\(∀q (hq:q+1<Bs.length),q+1<i->vF (Bs[q]'fO) Bs[q+1]≠0)) (λii _=>n-(intOf ii).toNat);case atStart=>exact⟨1,le_refl _,.inr rfl,by go_num,Below.refl _ _,λq _ hq=>fO⟩
 case round=>
  obtain⟨i,hi1,hin',rfl,Ϙ,Ϫ⟩:=hrel;have bq:=ϰ Ϙ;have BI:=ϰ Ϫ;have x4':=(Ϙ.cell (p:=⟨o,4,none⟩) qc).trans x4;by_cases ϥ:i<n
  ·obtain⟨ϭ,pq,fP,è,ϛ⟩:=pK.out;obtain⟨k,hki⟩:∃k,i=k+1:=⟨i-1,fO⟩;have ϓ:k<Bs.length:=fO;have Ç:i<Bs.length:=fO;obtain⟨g,p1,t1,p2,t2,rfl,c0,c1,c2,c3,r1,r2⟩:=GA fP ϛ ϭ è Ϙ k ϓ;obtain⟨g',p3,t3,p4,t4,hgg,c4,c5,c6,c7,r3,r4⟩:=GA fP ϛ ϭ è Ϙ i Ç;obtain rfl:g=g':=by injection hgg with hgg;injection hgg with hgg _ _
   obtain⟨a,ha⟩:=bE (Bs[k]);obtain⟨b,Ê⟩:=bE (Bs[i]);rw[<-ha] at c0 c1 c2 c3 r1 r2;rw[<-Ê] at c4 c5 c6 c7 r3 r4;obtain⟨f,hf⟩:=bE a.1;obtain⟨s,hs⟩:=bE a.2.1;obtain⟨f',hf'⟩:=bE b.1;obtain⟨s',hs'⟩:=bE b.2.1;obtain⟨m,hm⟩:=bE a.2.2.length;obtain⟨m',hm'⟩:=bE b.2.2.length;have ac8:=ak ((Ϙ.block _ qc).trans V.out.blk) 4;rw[<-ϛ] at ac8;have hia:=mD.out a (by rw[ha];exact getElem_mem ϓ);have Β:=mD.out b (by rw[Ê];exact getElem_mem Ç);have Dg:Hid (∀z,Below wr.heap.size wr z->Calls prog 72 #[.agg #[.int .i64 f,.int .i64 s,.slice p1 m t1,.slice p2 m t2],.agg #[.int .i64 f',.int .i64 s',.slice p3 m' t3,.slice p4 m' t4]] z λe z'=>∃p q J O R U I Q v3,e = .returned (.tuple #[.agg #[.int .i64 p,.int .i64 q,.slice J R I,.slice O U Q],v3])/\Below wr.heap.size wr z'/\Below z.heap.size z z'/\LC ea wr z' a b p q (.slice J R I) (.slice O U Q) v3):=λz W=>by
    have Gt:=(V.out.aI.trans (Ϙ.mono V.out.aI.size)).trans (W.mono (le_trans V.out.aI.size Ϙ.size));rw[hf,hs,hf',hs',hm,hm'];exact ac6 wr z (HE.out.below Gt hB) (le_trans hB Gt.size) W a b _ _ _ _ _ (by rw[wV,length_map];exact r1) (by rw[wW,length_map];exact r2) (by rw[wV,length_map];exact r3) (by rw[wW,length_map];exact r4) hia.2 Β.2 hia.1 Β.1
   rw[<-hf] at c0;rw[<-hs] at c1;rw[<-hm] at c2 c3;rw[<-hf'] at c4;rw[<-hs'] at c5;rw[<-hm'] at c6 c7;have Ŏ:g<wr.heap.size:=World.block_lt_of_cell? wr ⟨g,_,none⟩ c0;have gY:Hid (∀z,Below wr.heap.size wr z->z.cell? ⟨o,4,none⟩=some (.slice (some ⟨g,0,none⟩) n Z)/\z.cell? ⟨g,k*4,none⟩=some (.int .i64 f)/\z.cell? ⟨g,k*4+1,none⟩=some (.int .i64 s)/\z.cell? ⟨g,k*4+2,none⟩=some (.slice p1 m t1)/\z.cell? ⟨g,k*4+3,none⟩=some (.slice p2 m t2)/\z.cell? ⟨g,i*4,none⟩=some (.int .i64 f')/\z.cell? ⟨g,i*4+1,none⟩=some (.int .i64 s')/\z.cell? ⟨g,i*4+2,none⟩=some (.slice p3 m' t3)/\z.cell? ⟨g,i*4+3,none⟩=some (.slice p4 m' t4)):=λz W=>by
    have hc:∀q:Nat,z.cell? ⟨g,q,none⟩=wr.cell? ⟨g,q,none⟩:=λq=>W.cell (p:=⟨g,q,none⟩) Ŏ
    exact⟨(W.cell (p:=⟨o,4,none⟩) (lt_of_lt_of_le qc Ϙ.size)).trans ac8,(hc _).trans c0,(hc _).trans c1,(hc _).trans c2,(hc _).trans c3,(hc _).trans c4,(hc _).trans c5,(hc _).trans c6,(hc _).trans c7⟩
   have HB0:Hid (Below wr.heap.size wr wr.drew):=dz (Below.refl _ _);have HKI:=ϰ (And.intro hki (And.intro ha (And.intro Ê (And.intro ϓ Ç))));have y0:IntKind.i64.wrap ((i:Int)-1)=(k:Int):=by
    rw[IntWalk.i64_in _ fO];omega
   have k0:(0:Int)<=k:=fO;have k1:(k:Int)<n:=fO;have k2:(0:Int)<=i:=fO;have I:(i:Int)<n:=fO;have kn:k<n:=fO;clear Ϙ Ϫ ϭ pq fP è ϛ c0 c1 c2 c3 c4 c5 c6 c7 r1 r2 r3 r4 ha Ê hf hs hf' hs' hm hm' ac8 hia Β hki hgg;go_upto_region 4 with fail;clear x4';go_cut [5,6] from 16 to 34 (λv5 v6 wz=>XO ea wr wz a b v6 v5);case first=>
    refine eU (S:=λz=>z.cell? ⟨o,4,none⟩=some (.slice (some ⟨g,0,none⟩) n Z)/\z.cell? ⟨g,k*4,none⟩=some (.int .i64 f)/\z.cell? ⟨g,k*4+1,none⟩=some (.int .i64 s)/\z.cell? ⟨g,k*4+2,none⟩=some (.slice p1 m t1)/\z.cell? ⟨g,k*4+3,none⟩=some (.slice p2 m t2)/\z.cell? ⟨g,i*4,none⟩=some (.int .i64 f')/\z.cell? ⟨g,i*4+1,none⟩=some (.int .i64 s')/\z.cell? ⟨g,i*4+2,none⟩=some (.slice p3 m' t3)/\z.cell? ⟨g,i*4+3,none⟩=some (.slice p4 m' t4)) lG 20 (gY.out _ HB0.out) (λA=>?_);refine bJ 0 17 (.pointer (some ⟨o,0,none⟩)) A rfl rfl ?_ ?_
    ·intro w _;go_simp
    try simp only[Act.put,ĸ,Ĺ,ĺ]
    refine bJ 1 18 (.pointer (some ⟨o,0,none⟩)) A rfl rfl ?_ ?_
    ·intro w _;go_simp
    try simp only[Act.put,ĸ,Ĺ,ĺ]
    refine bJ 2 19 (.pointer (some ⟨o,4,none⟩)) A rfl rfl ?_ ?_
    ·intro w _;go_simp
    try simp only[Act.put,ĸ,Ĺ,ĺ]
    refine iF 3 20 (.slice (some ⟨g,0,none⟩) n Z) A rfl rfl ?_ ?_
    ·intro w ϡ;obtain⟨iY,iZ,kg,lg,oh,sM,sN,jh7,jh8⟩:=ϡ;go_simp
    try simp only[Act.put,ĸ,Ĺ,ĺ]
    refine bJ 4 21 (.int .i64 (i:Int)) A rfl rfl ?_ ?_
    ·intro w _;go_simp
    try simp only[Act.put,ĸ,Ĺ,ĺ]
    refine bJ 5 22 (.int .i64 (k:Int)) A rfl rfl ?_ ?_
    ·intro w _;go_simp
    try simp only[Act.put,ĸ,Ĺ,ĺ]
    refine bJ 6 23 (.pointer (some ⟨g,k*4,none⟩)) A rfl rfl ?_ ?_
    ·intro w _;go_simp
    try simp only[Act.put,ĸ,Ĺ,ĺ]
    refine iF 7 24 (.agg #[.int .i64 f,.int .i64 s,.slice p1 m t1,.slice p2 m t2]) A rfl rfl ?_ ?_
    ·intro w ϡ;obtain⟨iY,iZ,kg,lg,oh,sM,sN,jh7,jh8⟩:=ϡ;go_simp
    try simp only[Act.put,ĸ,Ĺ,ĺ]
    refine bJ 8 25 (.pointer (some ⟨o,0,none⟩)) A rfl rfl ?_ ?_
    ·intro w _;go_simp
    try simp only[Act.put,ĸ,Ĺ,ĺ]
    refine bJ 9 26 (.pointer (some ⟨o,0,none⟩)) A rfl rfl ?_ ?_
    ·intro w _;go_simp
    try simp only[Act.put,ĸ,Ĺ,ĺ]
    refine bJ 10 27 (.pointer (some ⟨o,4,none⟩)) A rfl rfl ?_ ?_
    ·intro w _;go_simp
    try simp only[Act.put,ĸ,Ĺ,ĺ]
    refine iF 11 28 (.slice (some ⟨g,0,none⟩) n Z) A rfl rfl ?_ ?_
    ·intro w ϡ;obtain⟨iY,iZ,kg,lg,oh,sM,sN,jh7,jh8⟩:=ϡ;go_simp
    try simp only[Act.put,ĸ,Ĺ,ĺ]
    refine bJ 12 29 (.int .i64 (i:Int)) A rfl rfl ?_ ?_
    ·intro w _;go_simp
    try simp only[Act.put,ĸ,Ĺ,ĺ]
    refine bJ 13 30 (.pointer (some ⟨g,i*4,none⟩)) A rfl rfl ?_ ?_
    ·intro w _;go_simp
    try simp only[Act.put,ĸ,Ĺ,ĺ]
    refine iF 14 31 (.agg #[.int .i64 f',.int .i64 s',.slice p3 m' t3,.slice p4 m' t4]) A rfl rfl ?_ ?_
    ·intro w ϡ;obtain⟨iY,iZ,kg,lg,oh,sM,sN,jh7,jh8⟩:=ϡ;go_simp
    refine bU (rs:=[15,19]) lG vI ?_;refine aM.cons rfl (λK D=>?_) (aM.cons rfl (λK D=>?_) aM.nil)
    ·go_simp
     refine Calls.mono (Dg.out _ HB0.out) ?_;rintro e w5 ⟨p,q,J,O,R,U,I,Q,v3,rfl,ć,hs5,Ă⟩;refine D.out _ _ (gY.out _ ć) ?_;refine bJ 16 16 (.tuple #[.agg #[.int .i64 p,.int .i64 q,.slice J R I,.slice O U Q],v3]) (gY.out _ ć) rfl rfl ?_ ?_
     ·intro w _;go_simp
     refine bJ 17 33 (.agg #[.int .i64 p,.int .i64 q,.slice J R I,.slice O U Q]) (gY.out _ ć) rfl rfl ?_ ?_
     ·intro w _;go_simp
     refine bJ 18 34 v3 (gY.out _ ć) rfl rfl ?_ ?_
     ·intro w _;go_simp
     refine lV 19 rfl λK D=>?_
     go_simp
     refine D.out _ _ (gY.out _ (bQ ć (.cells #[.int .i64 0,.int .i64 0,.slice none 0 0,.slice none 0 0] 114))) ?_;have ė:(w5.alloc (.cells #[.int .i64 0,.int .i64 0,.slice none 0 0,.slice none 0 0] 114)).heap[w5.heap.size]? = some (.cells #[.int .i64 0,.int .i64 0,.slice none 0 0,.slice none 0 0] 114 (0,0)):=heap_alloc_new _ _;have qM:wr.heap.size<=w5.heap.size:=ć.size;have j0:=ak ė 0;have j1:=ak ė 1;have j2:=ak ė 2;have j3:=ak ė 3;simp at j0 j1 j2 j3;have jf:∀k,World.frozen? (w5.alloc (.cells #[.int .i64 0,.int .i64 0,.slice none 0 0,.slice none 0 0] 114)) ⟨w5.heap.size,k,none⟩=false:=λk=>aA ė k
     refine nX 20 rfl λK D=>?_
     have Di:=ϰ (show XO ea wr _ a b v3 _ from ⟨_,p,q,J,O,R,U,I,Q,rfl,heap_alloc_new _ _,qM,Ă.below (bQ (Below.refl _ _) _)⟩);go_simp
     refine D.out _ _ ?_;refine nX 21 rfl λK D=>?_
     go_simp
     refine D.out _ _ ?_;refine dA lG ?_ _;go_wp2_with fail;go_meet;case rel=>exact Di.out
    ·go_simp
     refine D.out _ _ (gY.out _ (bQ HB0.out (.cells #[.int .i64 0,.int .i64 0,.slice none 0 0,.slice none 0 0] 114))) ?_;have ė:(wr.drew.alloc (.cells #[.int .i64 0,.int .i64 0,.slice none 0 0,.slice none 0 0] 114)).heap[wr.heap.size]? = some (.cells #[.int .i64 0,.int .i64 0,.slice none 0 0,.slice none 0 0] 114 (0,0)):=heap_alloc_new _ _;have qM:wr.heap.size<=wr.heap.size:=le_refl _;refine lV 15 rfl λK D=>?_
     go_simp
     refine Calls.mono (Dg.out _ (bQ HB0.out (.cells #[.int .i64 0,.int .i64 0,.slice none 0 0,.slice none 0 0] 114))) ?_;rintro e w5 ⟨p,q,J,O,R,U,I,Q,v3,rfl,ć,hs5,Ă⟩;refine D.out _ _ (gY.out _ ć) ?_;clear D K;try simp only[Act.put,ĸ,Ĺ,ĺ]
     have AV:=(hs5.block _ (aC ė)).trans ė;refine bJ 16 16 (.tuple #[.agg #[.int .i64 p,.int .i64 q,.slice J R I,.slice O U Q],v3]) (gY.out _ ć) rfl rfl ?_ ?_
     ·intro w _;go_simp
     try simp only[Act.put,ĸ,Ĺ,ĺ]
     refine bJ 17 33 (.agg #[.int .i64 p,.int .i64 q,.slice J R I,.slice O U Q]) (gY.out _ ć) rfl rfl ?_ ?_
     ·intro w _;go_simp
     try simp only[Act.put,ĸ,Ĺ,ĺ]
     refine bJ 18 34 v3 (gY.out _ ć) rfl rfl ?_ ?_
     ·intro w _;go_simp
     try simp only[Act.put,ĸ,Ĺ,ĺ]
     have j0:=ak AV 0;have j1:=ak AV 1;have j2:=ak AV 2;have j3:=ak AV 3;simp at j0 j1 j2 j3;have jf:∀k,World.frozen? w5 ⟨wr.heap.size,k,none⟩=false:=λk=>aA AV k
     refine nX 20 rfl λK D=>?_
     have Di:=ϰ (show XO ea wr _ a b v3 _ from ⟨_,p,q,J,O,R,U,I,Q,rfl,_root_.Go.Proofs.YtnjmhjdhfaboaaaGreatDoor.uK AV _ _ _ _,qM,Ă.uK AV qM _ _ _ _⟩);go_simp
     refine D.out _ _ ?_;clear D K;try simp only[Act.put,ĸ,Ĺ,ĺ]
     refine nX 21 rfl λK D=>?_
     go_simp
     refine D.out _ _ ?_;clear D K;try simp only[Act.put,ĸ,Ĺ,ĺ]
     refine dA lG ?_ _;clear j0 j1 j2 j3 jf;go_wp2_with fail;go_meet;case rel=>exact Di.out
   obtain⟨Y,p,q,J,O,R,U,I,Q,rfl,hj,qM,Ă⟩:=hcut;have JO:=Ă.OC;by_cases W:vF a b=0
   ·obtain rfl:=JO.none W;obtain⟨ϭ,pq,fP,è,ϛ⟩:=pK.out;have hwc:Below wa.heap.size wa wc:=bq.out.trans (Ă.aI.mono bq.out.size);have Jf:Hid (∀z,Below wc.heap.size wc z->z.cell? ⟨o,4,none⟩=some (.slice (some ⟨g,0,none⟩) n Z)/\z.cell? ⟨Y,0,none⟩=some (.int .i64 p)/\z.cell? ⟨Y,1,none⟩=some (.int .i64 q)/\z.cell? ⟨Y,2,none⟩=some (.slice J R I)/\z.cell? ⟨Y,3,none⟩=some (.slice O U Q)):=λz W=>by
     have e0:=(W.block _ (lt_of_lt_of_le qc hwc.size)).trans ((hwc.block _ qc).trans V.out.blk);rw[<-ϛ] at e0;have e1:=(W.block _ (aC hj)).trans hj;exact⟨ak e0 4,ak e1 0,ak e1 1,ak e1 2,ak e1 3⟩
    have Ø:Below wc.heap.size wc wc.drew:=dz (Below.refl _ _);have HWZ:Hid (Below wr.heap.size wr (wc.drew.alloc (.cells #[.int .i64 p,.int .i64 q,.slice J R I,.slice O U Q] 114))):=Ă.aI.trans ((bQ Ø _).mono Ă.aI.size);have ai3:Below wa.heap.size wa (wc.drew.alloc (.cells #[.int .i64 p,.int .i64 q,.slice J R I,.slice O U Q] 114)):=bq.out.trans (HWZ.out.mono bq.out.size);obtain⟨j,hj2⟩:=bE (k+2);have HRP:Hid (Calls prog 73 #[.slice (some ⟨g,0,none⟩) n Z,.int .i64 (k:Int),.int .i64 (j:Int),.slice (some ⟨wc.heap.size,0,none⟩) 1 1] (wc.drew.alloc (.cells #[.int .i64 p,.int .i64 q,.slice J R I,.slice O U Q] 114)) λe w'=>e = .returned (.slice (some ⟨g,0,none⟩) (n-1) Z)/\kr g (wc.drew.alloc (.cells #[.int .i64 p,.int .i64 q,.slice J R I,.slice O U Q] 114)) w'/\w'.ownsRow w.heap.size 114 4 (.slice (some ⟨g,0,none⟩) (n-1) Z) (n-1) ((bM Bs vs).take (k*4) ++ [.int .i64 p,.int .i64 q,.slice J R I,.slice O U Q]++(bM Bs vs).drop (j*4))):=by
     refine XM (wc.drew.alloc (.cells #[.int .i64 p,.int .i64 q,.slice J R I,.slice O U Q] 114)) w.heap.size g n Z k j (bM Bs vs) (aX fP ai3) hj2 (by have:=HKI.out.1;omega) wc.heap.size 1 [.int .i64 p,.int .i64 q,.slice J R I,.slice O U Q] rfl (World.news_of_block (heap_alloc_new wc.drew _)) (λz W=>?_) (Cr _ _ λv hv=>jH.one ϭ è v hv);simp at W;rcases W with rfl|rfl|rfl|rfl<;>rfl
    have sU:Hid (p=(wI a b).1/\q=(wI a b).2.1/\wc.ownsRow wr.heap.size 9 1 (.slice J R I) (wI a b).2.2.length (((wI a b).2.2.map Prod.fst).map encStr)/\wc.ownsRow wr.heap.size 9 1 (.slice O U Q) (wI a b).2.2.length (((wI a b).2.2.map λr=>dU r.2).map encStr)):=by
     rcases Ă.res with h|h
     ·exact h.2
     ·exact absurd W h.1
    have IJ:Hid (wr.heap.size<=Y/\Y<wc.heap.size/\Below wa.heap.size wa wc):=⟨qM,aC hj,hwc⟩;have HZ:Hid (vF a b=0):=W;have HJ2:=ϰ hj2;have Ŏ:g<wa.heap.size:=(aH fP rfl).2.1;have hsg:o≠g:=λe=>V.out.sH (by rw[pq,e];simp[Value.ownBlock])
    have y5:IntKind.i64.wrap ((i:Int)+1)=(j:Int):=by
     have:=HKI.out.1;rw[IntWalk.i64_in _ fO];omega
    clear ϭ pq fP è ϛ hwc ai3 hj qM Ă JO W hj2;go_upto_region 6 with fail;refine eU (S:=λz=>z.cell? ⟨o,4,none⟩=some (.slice (some ⟨g,0,none⟩) n Z)/\z.cell? ⟨Y,0,none⟩=some (.int .i64 p)/\z.cell? ⟨Y,1,none⟩=some (.int .i64 q)/\z.cell? ⟨Y,2,none⟩=some (.slice J R I)/\z.cell? ⟨Y,3,none⟩=some (.slice O U Q)) lG 14 (Jf.out _ Ø) (λA=>?_);refine bJ 0 37 (.pointer (some ⟨o,0,none⟩)) A rfl rfl ?_ ?_
    ·intro w _;go_simp
    try simp only[Act.put,ĸ,Ĺ,ĺ]
    refine bJ 1 38 (.pointer (some ⟨o,0,none⟩)) A rfl rfl ?_ ?_
    ·intro w _;go_simp
    try simp only[Act.put,ĸ,Ĺ,ĺ]
    refine bJ 2 39 (.pointer (some ⟨o,0,none⟩)) A rfl rfl ?_ ?_
    ·intro w _;go_simp
    try simp only[Act.put,ĸ,Ĺ,ĺ]
    refine bJ 3 40 (.pointer (some ⟨o,4,none⟩)) A rfl rfl ?_ ?_
    ·intro w _;go_simp
    try simp only[Act.put,ĸ,Ĺ,ĺ]
    refine iF 4 41 (.slice (some ⟨g,0,none⟩) n Z) A rfl rfl ?_ ?_
    ·intro w ϡ;obtain⟨iY,iZ,kg,lg,oh⟩:=ϡ;go_simp
    try simp only[Act.put,ĸ,Ĺ,ĺ]
    refine bJ 5 42 (.int .i64 (i:Int)) A rfl rfl ?_ ?_
    ·intro w _;go_simp
    try simp only[Act.put,ĸ,Ĺ,ĺ]
    refine bJ 6 43 (.int .i64 (k:Int)) A rfl rfl ?_ ?_
    ·intro w _;go_simp
    refine bJ 7 44 (.int .i64 (i:Int)) A rfl rfl ?_ ?_
    ·intro w _;go_simp
    refine bJ 8 45 (.int .i64 (j:Int)) A rfl rfl ?_ ?_
    ·intro w _;go_simp
    refine iF 9 46 (.agg #[.int .i64 p,.int .i64 q,.slice J R I,.slice O U Q]) A rfl rfl ?_ ?_
    ·intro w ϡ;obtain⟨iY,iZ,kg,lg,oh⟩:=ϡ;go_simp
    refine lV 10 rfl λK D=>?_
    go_simp
    refine D.out _ _ (Jf.out _ (bQ Ø _)) ?_;refine lV 11 rfl λK D=>?_
    go_simp
    refine Calls.mono HRP.out ?_;rintro e w7 ⟨rfl,ho7,bR⟩;have JN:=(ho7.block o hsg).trans (((bQ Ø _).block o (lt_of_lt_of_le qc IJ.out.2.2.size)).trans (IJ.out.2.2.block o qc));have JQ:=(ho7.block Y λe=>by have:=IJ.out.1;have:=bq.out.size;omega).trans ((bQ Ø _).block Y IJ.out.2.1);have Ũ:∀i,w7.cell? ⟨Y,i,none⟩=wc.cell? ⟨Y,i,none⟩:=λi=>by simp[World.cell?,JQ]
    have ĝ:=Jf.out wc (Below.refl _ _);have hblk7:=JN.trans V.out.blk;rw[<-pK.out.2.2.2.2] at hblk7;have sJ:Hid ((λz:World=>z.cell? ⟨o,4,none⟩=some (.slice (some ⟨g,0,none⟩) n Z)/\z.cell? ⟨Y,0,none⟩=some (.int .i64 p)/\z.cell? ⟨Y,1,none⟩=some (.int .i64 q)/\z.cell? ⟨Y,2,none⟩=some (.slice J R I)/\z.cell? ⟨Y,3,none⟩=some (.slice O U Q)) w7):=⟨ak hblk7 4,(Ũ _).trans ĝ.2.1,(Ũ _).trans ĝ.2.2.1,(Ũ _).trans ĝ.2.2.2.1,(Ũ _).trans ĝ.2.2.2.2⟩;have z4:=sJ.out.1;have zf:=aA hblk7 4;have aQ:Hid (∃H',fE w (w7.setCell ⟨o,4,none⟩ (.slice (some ⟨g,0,none⟩) (n-1) Z)) o hb db S d (Bs.take k++wI a b::Bs.drop (k+2)) span keep (.slice (some ⟨g,0,none⟩) (n-1) Z) G F H'/\Kept (o::H) wa (w7.setCell ⟨o,4,none⟩ (.slice (some ⟨g,0,none⟩) (n-1) Z))/\∀x,x∈H'->x∈H\/wa.heap.size<=x):=by
     obtain⟨ϭ,pq,fP,è,ϛ⟩:=pK.out;obtain⟨r1,r2,r3,r4⟩:=sU.out;rw[r1,r2,HJ2.out] at bR;have ϖ:=V.out;rw[<-ϛ] at ϖ pq;exact ac7 ϖ ϛ ϭ pq fP è bq.out HWZ.out k (by have:=HKI.out.1;omega) (wI a b) _ _ (aX r3 (bQ Ø _)) (aX r4 (bQ Ø _)) ho7 bR
    refine D.out _ _ sJ.out ?_;refine bJ 12 49 (.pointer (some ⟨o,0,none⟩)) sJ.out rfl rfl ?_ ?_
    ·intro w _;go_simp
    refine bJ 13 50 (.pointer (some ⟨o,4,none⟩)) sJ.out rfl rfl ?_ ?_
    ·intro w _;go_simp
    refine nX 14 rfl λK D=>?_
    go_simp
    refine D.out _ _ ?_;refine dA lG ?_ _;obtain⟨H',q1,q2,q3⟩:=aQ.out;have HQ:=ϰ (And.intro q1 (And.intro q2 q3));go_wp2;go_ret2;obtain⟨e1,e2,e3,e4,e5⟩:=HKI.out;subst e1;refine .inl ⟨k,e5,.slice (some ⟨g,0,none⟩) (n-1) Z,H',λq hq=>BI.out q fO fO,?_,rfl,?_,HQ.out.2.1,HQ.out.2.2⟩
    ·rw[<-e2,<-e3];exact HZ.out
    ·rw[<-e2,<-e3];exact HQ.out.1
   ·obtain⟨tv,pv,rfl⟩:=lY JO W;have Oq:=ϰ (bq.out.trans (Ă.aI.mono bq.out.size));have HZ:=ϰ W;go_wp2;go_roundw;case rel=>
     refine⟨i+1,fO,.inl fO,by go_num,Oq.out,λq hq hqi=>?_⟩;by_cases Ų:q+1<i
     ·exact BI.out q hq Ų
     ·obtain⟨e1,e2,e3,_,_⟩:=HKI.out;obtain rfl:q=k:=fO;subst e1;rw[<-e2,<-e3];exact HZ.out
    case measure=>simp[intOf]<;>omega
  ·have aQ:Hid (∀q (hq:q+1<Bs.length),vF (Bs[q]'fO) Bs[q+1]≠0):=λq hq=>Ϫ q hq (by have:=pK.out.2.2.2.2;omega)
   go_wp2;go_ret2;exact .inr ⟨aQ.out,rfl,V.out.below bq.out,bq.out⟩
end Go.Proofs.YtnjmhjdhfaboaaaGreatDoor
