import Derived.Test.YtololnhfgjbhjaaGreatDoorStAtGroup
import Derived.Test.YtololnhfgjbhjaaGreatDoorBlkBothGroup
set_option maxRecDepth 1000000
set_option maxHeartbeats 4000000
open Go.Proofs.Tryz
namespace Go.Proofs.YtololnhfgjbhjaaGreatDoor
open Go.RowKit Go.Maps bB aF aV bS dY aY
theorem Ì{p:Prop}(h:p):Go.RowKit.Hid p:=h
theorem û{A:Type}(l:List A)(i:Nat)(a:A):l.toArray.setIfInBounds i a=(l.set i a).toArray:=List.setIfInBounds_toArray ..
theorem ü{A:Type}{x:A}{l:List A}{i:Nat}{a:A}:(x::l).set (i+1) a=x::l.set i a:=List.set_cons_succ
theorem ý{A:Type}{x:A}{l:List A}{a:A}:(x::l).set 0 a=a::l:=List.set_cons_zero
structure Dz(B:Nat)(ea:Nat->Addr)(w:World):Prop where
 a:zV B ea w
 k:oF B ea w
noncomputable def tV(s:Int)(L:List Rw):List Int->List Bk
 | []=>[]
 | f::fs=>if ko f s (iX s f L)=0 then (f,s,iX s f L)::tV s L fs else []
noncomputable def yB(s:Int)(L:List Rw):List Int->Int
 | []=>0
 | f::fs=>if ko f s (iX s f L)=0 then yB s L fs else 7
theorem Nc{s:Int}{L:List Rw}:∀ {fs:List Int},(∀f,f∈fs->ko f s (iX s f L)=0)->tV s L fs=fs.map (λf=>(f,s,iX s f L))/\yB s L fs=0
 | [],_=>⟨rfl,rfl⟩
 | f::fs,h=>by
  have h1:=h f (List.mem_cons_self ..);obtain⟨h2,h3⟩:=Nc λg hg=>h g (List.mem_cons_of_mem _ hg)
  exact⟨by rw[tV,if_pos h1,h2];rfl,by rw[yB,if_pos h1,h3]⟩
theorem QB{s:Int}{L:List Rw}{f:Int}{gs:List Int}(h0:ko f s (iX s f L)≠0):∀ {fs:List Int},(∀f,f∈fs->ko f s (iX s f L)=0)->tV s L (fs++f::gs)=fs.map (λf=>(f,s,iX s f L))/\yB s L (fs++f::gs)=7
 | [],_=>⟨by rw[List.nil_append,tV,if_neg h0];rfl,by rw[List.nil_append,yB,if_neg h0]⟩
 | g::fs,h=>by
  have h1:=h g (List.mem_cons_self ..);obtain⟨h2,h3⟩:=QB h0 λg hg=>h g (List.mem_cons_of_mem _ hg)
  exact⟨by rw[List.cons_append,tV,if_pos h1,h2];rfl,by rw[List.cons_append,yB,if_pos h1,h3]⟩
structure vM(sb:Nat)(w z:World):Prop where
 size:w.heap.size<=z.heap.size
 block:∀(b:Nat) (o:Obj),w.heap[b]? = some o->(∀cs fr,o ≠ .cells cs 78 fr)->b≠sb->z.heap[b]? = some o
theorem vM.refl(sb:Nat)(w:World):vM sb w w:=⟨Nat.le_refl _,λ_ _ h _ _=>h⟩
theorem vM.kept{sb:Nat}{w z y:World}(h:vM sb w z){S:List Nat}(hk:Kept S z y)(hS:∀x,x∈S->x=sb\/∃cs fr,z.heap[x]? = some (.cells cs 78 fr)):vM sb w y:=⟨Nat.le_trans h.size hk.size,λb o h1 h2 h3=>by
 have h4:=h.block b o h1 h2 h3;refine (hk.block b (Array.getElem?_eq_some_iff.1 h4).1 λhb=>?_).trans h4;rcases hS b hb with e|⟨cs,fr,e⟩
 ·exact h3 e
 ·rw[h4] at e;injection e with e;exact h2 _ _ e⟩
theorem vM.own{sb:Nat}{w z:World}(h:vM sb w z){base:Nat}{e:TypeId}{sz:Nat}{v:Value}{n:Nat}{xs:List Value}(ho:w.ownsRow base e sz v n xs)(he:e≠78)(hb:sb<base):z.ownsRow base e sz v n xs:=bL ho λg hg=>by
 obtain⟨h1,_,cur,hc⟩:=aH ho hg;rw[hc];exact h.block g _ hc (λcs fr e'=>by injection e' with _ e';exact he e') (by omega)
theorem jv.aiT{base sb:Nat}{wr w':World}{mb nb:Nat}{hs:Int->Bool}{R:Int->List Rw}{X:Int->List Value}{sv:Int->Value}(h:jv base wr mb nb hs R X sv)(hk:vM sb wr w')(hb:sb<base)(hm:base<=mb):jv base w' mb nb hs R X sv:=by
 refine⟨h.im.same ?_ λk hk' g hg=>?_,λf hf=>(h.rows f hf).map λv n xs hv=>hk.own hv (by decide) hb⟩
 ·obtain⟨D,⟨es,clock,he,_⟩,_⟩:=h.im.map;rw[he];exact hk.block mb _ he (λ_ _ e=>by cases e) (by omega)
 ·obtain⟨h1,_,cur,hc⟩:=aH (h.im.row k hk') hg;rw[hc];exact hk.block g _ hc (λcs fr e'=>by injection e' with _ e';revert e';decide) (by omega)
theorem Tryz.infoBk:(prog.info? 78).map (λi=>(i.zero,i.size,i.bytes))=some (some (.agg #[.int .i64 0,.int .i64 0,.slice none 0 0,.slice none 0 0]),4,64):=by kernel_rfl
theorem F3:∀(Bs:List Bk) (vs:List (Value×Value)) (_:vs.length=Bs.length) (b:Bk) (v:Value×Value),bQ (Bs ++ [b]) (vs ++ [v])=bQ Bs vs ++ [.int .i64 b.1,.int .i64 b.2.1,v.1,v.2]
 | [],[],_,_,_=>rfl
 | [],_::_,h,_,_=>by cases h
 | _::_,[],h,_,_=>by cases h
 | a::Bs,u::vs,h,b,v=>by
  have:=F3 Bs vs (by simpa using h) b v;show _::_::_::_::bQ (Bs ++ [b]) (vs ++ [v])=_;rw[this];rfl
theorem Bo:∀(Bs:List Bk) (vs:List (Value×Value)),vs.length=Bs.length->(bQ Bs vs).length=Bs.length*4
 | [],[],_=>rfl
 | [],_::_,h=>by cases h
 | _::_,[],h=>by cases h
 | a::Bs,u::vs,h=>by
  have:=Bo Bs vs (by simpa using h);show (bQ Bs vs).length+4=(Bs.length+1)*4;omega
theorem mo.snoc{wr w7:World}{base:Nat}{Bs:List Bk}{vs:List (Value×Value)}(hl:vs.length=Bs.length)
  (hr:∀i (hi:i<Bs.length) (hv:i<vs.length),wr.ownsRow base 9 1 vs[i].1 Bs[i].2.2.length ((Bs[i].2.2.map Prod.fst).map encStr)/\wr.ownsRow base 9 1 vs[i].2 Bs[i].2.2.length ((Bs[i].2.2.map λr=>fI r.2).map encStr))
  (b:Bk) (v1 v2:Value) (h1:wr.ownsRow base 9 1 v1 b.2.2.length ((b.2.2.map Prod.fst).map encStr)) (h2:wr.ownsRow base 9 1 v2 b.2.2.length ((b.2.2.map λr=>fI r.2).map encStr))
  {g cap:Nat} (ό:w7.ownsRow base 78 4 (.slice (some ⟨g,0,none⟩) (Bs.length+1) cap) (Bs.length+1) (bQ Bs vs ++ [.int .i64 b.1,.int .i64 b.2.1,v1,v2])) (he:∀(x:Nat) (cs:Array Value),wr.heap[x]? = some (Obj.cells cs 9 (0,0))->w7.heap[x]? = wr.heap[x]?) :
  mo w7 base (.slice (some ⟨g,0,none⟩) (Bs.length+1) cap) (Bs ++ [b]) (g::(vs.flatMap ownB++ownB (v1,v2))):=by
 have ϔ:∀v n xs,wr.ownsRow base 9 1 v n xs->w7.ownsRow base 9 1 v n xs:=λv n xs hv=>bL hv λq hq=>by
  obtain⟨_,_,cur,hc⟩:=aH hv hq;exact he q _ hc
 refine⟨vs ++ [(v1,v2)],by simp[hl],?_,?_,λi hi hv=>?_⟩
 ·rw[List.flatMap_append];simp[Value.ownBlock]
 ·rw[F3 _ _ hl,List.length_append];exact ό
 ·by_cases e:i<Bs.length
  ·rw[List.getElem_append_left e,List.getElem_append_left (by omega)];obtain⟨r1,r2⟩:=hr i e (by omega);exact⟨ϔ _ _ _ r1,ϔ _ _ _ r2⟩
  ·have e1:i=Bs.length:=by simp at hi;omega
   subst e1;rw[List.getElem_append_right (Nat.le_refl _),List.getElem_append_right (by omega)];simp only[hl,Nat.sub_self,List.getElem_cons_zero];exact⟨ϔ _ _ _ h1,ϔ _ _ _ h2⟩
theorem fK.blocks{w wr z:World}{sb hb db:Nat}{S:List Sr}{d:Dk}{Bs Bs':List Bk}{span keep:Int}{vB oH:Value}{G F H H':List Nat}(h:fK w wr sb hb db S d Bs span keep vB G F H)(hk:Kept (sb::H) wr z)(ϊ:z.heap[sb]? = some (.cells #[.pointer (some ⟨hb,0,none⟩),.pointer (some ⟨db,0,none⟩),.int .i64 span,.int .i64 keep,oH] 73 (0,0)))(Ι:mo z w.heap.size oH Bs' H')(hf:∀x,x∈H'->x∈H\/wr.heap.size<=x):fK w z sb hb db S d Bs' span keep oH G F H':=by
 have hn:∀x,x∈G\/x∈F->x∉sb::H:=λx hx hm=>by
  rcases List.mem_cons.1 hm with rfl|hm
  ·rcases hx with hx|hx
   ·exact h.sG hx
   ·exact h.sF hx
  ·rcases hx with hx|hx
   ·exact h.gH x hx hm
   ·exact h.fH x hx hm
 have hH:∀x,x<wr.heap.size->x∉H->x∉H':=λx hx h1 h2=>by
  rcases hf x h2 with h3|h3
  ·exact h1 h3
  ·omega
 have Ï:∀x,x∈sb::H->w.heap.size<=x:=λx hx=>by
  rcases List.mem_cons.1 hx with rfl|hx
  ·exact h.low
  ·exact (h.vL.mem hx).1
 exact
  {blk:=ϊ
   low:=h.low
   hd:=h.hd.kept hk λx hx=>hn x (.inl hx)
   dk:=h.dk.same (h.aI.trans (hk.below h.aI.size Ï)) λx hx=>hk.block x (h.dk.mem hx).2 (hn x (.inr hx))
   vL:=Ι
   sG:=h.sG
   sF:=h.sF
   sH:=hH sb (aC h.blk) h.sH
   gF:=h.gF
   gH:=λx hx=>hH x (h.hd.lt hx) (h.gH x hx)
   fH:=λx hx=>hH x (h.dk.mem hx).2 (h.fH x hx) }
theorem Kept.sub{S T:List Nat}{w z:World}(h:Kept S w z)(hs:∀x,x∈S->x∈T):Kept T w z:=⟨h.os,h.tape,h.output,h.size,λx hx hn=>h.block x hx λhm=>hn (hs x hm)⟩
theorem fK.lay{w wc W w7:World}{sb hb db:Nat}{S:List Sr}{d:Dk}{Bs:List Bk}{span keep:Int}{vB:Value}{G F H:List Nat}(h:fK w wc sb hb db S d Bs span keep vB G F H)(hW:Below wc.heap.size wc W){vs:List (Value×Value)}(hl:vs.length=Bs.length)(hH:H=vB.ownBlock.toList++vs.flatMap ownB)
  (hr:∀i (hi:i<Bs.length) (hv:i<vs.length),wc.ownsRow w.heap.size 9 1 vs[i].1 Bs[i].2.2.length ((Bs[i].2.2.map Prod.fst).map encStr)/\wc.ownsRow w.heap.size 9 1 vs[i].2 Bs[i].2.2.length ((Bs[i].2.2.map λr=>fI r.2).map encStr))
  (ho:wc.ownsRow w.heap.size 78 4 vB Bs.length (bQ Bs vs)) (b:Bk) (v1 v2:Value) (h1:W.ownsRow wc.heap.size 9 1 v1 b.2.2.length ((b.2.2.map Prod.fst).map encStr)) (h2:W.ownsRow wc.heap.size 9 1 v2 b.2.2.length ((b.2.2.map λr=>fI r.2).map encStr))
  {g cap:Nat} (ό:w7.ownsRow w.heap.size 78 4 (.slice (some ⟨g,0,none⟩) (Bs.length+1) cap) (Bs.length+1) (bQ Bs vs ++ [.int .i64 b.1,.int .i64 b.2.1,v1,v2])) (Ĝ:W.grownBy w7 vB.ownBlock) (Ϲ:vB.ownBlock=some g\/g=W.heap.size) :
  ∃H',fK w (w7.setCell ⟨sb,4,none⟩ (.slice (some ⟨g,0,none⟩) (Bs.length+1) cap)) sb hb db S d (Bs ++ [b]) span keep (.slice (some ⟨g,0,none⟩) (Bs.length+1) cap) G F H'/\Kept (sb::vB.ownBlock.toList) wc (w7.setCell ⟨sb,4,none⟩ (.slice (some ⟨g,0,none⟩) (Bs.length+1) cap))/\∀x,x∈H'->x∈H\/wc.heap.size<=x:=by
 have XM:sb<W.heap.size:=Nat.lt_of_lt_of_le (aC h.blk) hW.size;have ο:some sb≠vB.ownBlock:=λe=>h.sH (by rw[hH,<-e];simp)
 have hs7:w7.heap[sb]? = some (.cells #[.pointer (some ⟨hb,0,none⟩),.pointer (some ⟨db,0,none⟩),.int .i64 span,.int .i64 keep,vB] 73 (0,0)):=(Ĝ.block sb XM ο).trans ((hW.block sb (aC h.blk)).trans h.blk);have hstr:∀(x:Nat) (cs:Array Value),W.heap[x]? = some (Obj.cells cs 9 (0,0))->w7.heap[x]? = W.heap[x]?:=λx cs hx=>Ĝ.block x (Array.getElem?_eq_some_iff.1 hx).1 λe=>by
  obtain⟨_,ϙ,cur,hc⟩:=aH ho e.symm;rw[hW.block x ϙ,hc] at hx;injection hx with hx;injection hx with _ hx;revert hx;decide
 have Ι:=mo.snoc (wr:=W) (w7:=w7) hl (λi hi hv=>⟨bK (hr i hi hv).1 hW,bK (hr i hi hv).2 hW⟩) b v1 v2 (jQ h1 h.aI.size) (jQ h2 h.aI.size) ό hstr;have Ϸ:∀x,x∈g::(vs.flatMap ownB++ownB (v1,v2))->x∈H\/wc.heap.size<=x:=λx hx=>by
  rcases List.mem_cons.1 hx with rfl|hx
  ·rcases Ϲ with e|e
   ·exact .inl (by rw[hH,e];simp)
   ·have:=hW.size;exact .inr (by omega)
  ·rcases List.mem_append.1 hx with hx|hx
   ·exact .inl (by rw[hH];exact List.mem_append.2 (.inr hx))
   ·rcases List.mem_append.1 hx with hx|hx
    ·exact .inr (uz h1 hx).1
    ·exact .inr (uz h2 hx).1
 have hsn:sb∉g::(vs.flatMap ownB++ownB (v1,v2)):=λhx=>by
  rcases Ϸ sb hx with h3|h3
  ·exact h.sH h3
  ·have:=aC h.blk;omega
 have Ľ:∀x,x≠sb->(w7.setCell ⟨sb,4,none⟩ (.slice (some ⟨g,0,none⟩) (Bs.length+1) cap)).heap[x]? = w7.heap[x]?:=λx hx=>Below.heap_setCell _ _ _ _ (by show x≠sb;exact hx)
 have hk:Kept (sb::vB.ownBlock.toList) wc (w7.setCell ⟨sb,4,none⟩ (.slice (some ⟨g,0,none⟩) (Bs.length+1) cap)):=by
  refine (((Kept.of_below hW).trans (Kept.grown (S:=vB.ownBlock.toList) Ĝ λk hk=>by rw[hk];simp) λx hx=>.inl (List.mem_cons_of_mem _ hx)).setCell (p:=⟨sb,4,none⟩) (.inl (List.mem_cons_self ..)) _)
 refine⟨_,h.blocks (hk.sub λx hx=>?_) ((dU hs7 4 _).trans rfl) (Ι.same λx hx=>Ľ x λe=>hsn (e ▸ hx)) Ϸ,hk,Ϸ⟩
 ·rcases List.mem_cons.1 hx with e|e
  ·exact List.mem_cons.2 (.inl e)
  ·exact List.mem_cons_of_mem _ (by rw[hH];exact List.mem_append.2 (.inl e))
theorem Jb{w:World}{base:Nat}{e:TypeId}{sz:Nat}{g n cap:Nat}{xs:List Value}(h:w.ownsRow base e sz (.slice (some ⟨g,0,none⟩) n cap) n xs):∀j u,xs[j]? = some u->w.cell? ((⟨g,0,none⟩:Addr).add j)=some u:=λj u hj=>by
 rcases h.2 with⟨hv,_⟩|⟨g',cap',cur,hv,_,hh,_,_,_,hc⟩
 ·cases hv
 ·injection hv with hv _ _;injection hv with hv;injection hv with hv;subst hv;rw[Addr.add_lit,Nat.zero_add];have e1:w.cell? ⟨g,j,none⟩=cur[j]?:=by simp[World.cell?,hh]
  rw[e1,<-Array.getElem?_toList];rw[<-hc] at hj;rw[List.getElem?_take] at hj;split at hj
  ·exact hj
  ·cases hj
theorem VN(w:World)(g o n cap:Nat)(ys:List Value)(hy:ys.length=n*4)(hc:∀j u,ys[j]? = some u->w.cell? ((⟨g,o,none⟩:Addr).add j)=some u)(h1:∀u∈ys,u.oneCell'=true)(hl:n<=10000):
  Calls prog 47 #[.slice (some ⟨g,o,none⟩) n cap] w λe w'=>∃v',e = .returned v'/\w'.ownsRow w.heap.size 78 4 v' n ys/\Below w.heap.size w w':=by
 have q0:∀w,(binOp .eql 46 (.slice (some ⟨g,o,none⟩) n cap) (.slice none 0 0)).run prog w = .ok (.bool false) w:=λw=>Lib.run_eql_slice_nil w _ _ (some ⟨g,o,none⟩) n cap 0 0 underlying46
 obtain⟨iS,hI,hI0,Χ,hI2⟩:=info_parts Tryz.infoBk;have HI:=Ì hI;have HC:Hid (∀j u,ys[j]? = some u->(w.alloc (.cells #[] 78)).cell? ((⟨g,o,none⟩:Addr).add j)=some u):=λj u hj=>Lib.cell?_alloc_some _ (hc j u hj)
 have H1:=Ì h1;have HL:=Ì hy;have HO:Hid ((w.alloc (.cells #[] 78)).ownsRow w.heap.size 78 4 (.slice (some ⟨w.heap.size,0,none⟩) 0 0) 0 []):=World.ownsRow_made w #[] 0 (Nat.le_refl _) (Nat.zero_le _) rfl;clear hI hy hc h1;go_enter func47,ntmps47;go_wp2_with (at_builtin;refine lF rfl _ _ 46 rfl w.heap.size 78 iS (.agg #[.int .i64 0,.int .i64 0,.slice none 0 0,.slice none 0 0]) 4 64 underlying46 HI.out hI0 Χ hI2 rfl (by decide) _ _ _ rfl HO.out _ n cap ys rfl HL.out (Or.inr ⟨g,o,rfl,HC.out⟩) H1.out (by omega) (by decide) (by simp) ?_);intro v' w1 ό Ĝ _;have HW:Hid (w1.ownsRow w.heap.size 78 4 v' n ys/\Below w.heap.size w w1):=by
  refine⟨by simpa using ό,((Below.refl _ _).alloc (Nat.le_refl _) _).trans ⟨Ĝ.os,Ĝ.tape,Ĝ.output,Ĝ.size,λb hb=>Ĝ.block b (by simp;omega) λe=>?_⟩⟩;simp[Value.ownBlock] at e;omega
 clear ό Ĝ;go_wp2;go_ret;exact⟨v',rfl,HW.out.1,HW.out.2⟩
theorem zX:∀(m:Nat) (Bs:List Bk) (vs:List (Value×Value)),vs.length=Bs.length->(bQ Bs vs).drop (m*4)=bQ (Bs.drop m) (vs.drop m)
 | 0,_,_,_=>by simp
 | m+1,[],[],_=>by simp[bQ]
 | _+1,[],_::_,h=>by cases h
 | _+1,_::_,[],h=>by cases h
 | m+1,a::Bs,u::vs,h=>by
  have:=zX m Bs vs (by simpa using h);rw[List.drop_succ_cons,List.drop_succ_cons,<-this,show (m+1)*4=m*4+4 by omega];rfl
theorem Bp:∀(Bs:List Bk) (vs:List (Value×Value)),(∀v,v∈vs->v.1.oneCell'=true/\v.2.oneCell'=true)->∀u∈bQ Bs vs,u.oneCell'=true
 | [],_,_,u,hu=>by simp[bQ] at hu
 | _::_,[],_,u,hu=>by simp[bQ] at hu
 | a::Bs,v::vs,h,u,hu=>by
  have h1:=h v (List.mem_cons_self ..);have e:bQ (a::Bs) (v::vs) = [.int .i64 a.1,.int .i64 a.2.1,v.1,v.2]++bQ Bs vs:=rfl;rw[e] at hu;rcases List.mem_append.1 hu with hu|hu
  ·simp at hu;rcases hu with rfl|rfl|rfl|rfl
   ·rfl
   ·rfl
   ·exact h1.1
   ·exact h1.2
  ·exact Bp Bs vs (λv hv=>h v (List.mem_cons_of_mem _ hv)) u hu
theorem TB{w:World}{base:Nat}{e:TypeId}{sz:Nat}{v:Value}{n:Nat}{xs:List Value}(h:w.ownsRow base e sz v n xs):v.oneCell'=true:=by
 obtain⟨a,c,rfl⟩:=bM h;rfl
theorem mo.one{wr:World}{base:Nat}{Bs:List Bk}{vs:List (Value×Value)}(hl:vs.length=Bs.length)(hr:∀i (hi:i<Bs.length) (hv:i<vs.length),wr.ownsRow base 9 1 vs[i].1 Bs[i].2.2.length ((Bs[i].2.2.map Prod.fst).map encStr)/\wr.ownsRow base 9 1 vs[i].2 Bs[i].2.2.length ((Bs[i].2.2.map λr=>fI r.2).map encStr)):∀v,v∈vs->v.1.oneCell'=true/\v.2.oneCell'=true:=λv hv=>by
 obtain⟨i,hi,rfl⟩:=List.getElem_of_mem hv;obtain⟨h1,h2⟩:=hr i (by omega) hi;exact⟨TB h1,TB h2⟩
theorem QC(w wr:World)(sb hb db:Nat)(S:List Sr)(d:Dk)(Bs:List Bk)(span:Int)(keep:Nat)(vB:Value)(G F H:List Nat)(h:fK w wr sb hb db S d Bs span (keep:Int) vB G F H)(hk:1<=keep/\keep<=1000)(hn:Bs.length<=10000):
  Calls prog 24 #[.pointer (some ⟨sb,0,none⟩)] wr λe w'=>e = .returned (.tuple #[])/\∃oH H',fK w w' sb hb db S d (Bs.drop (Bs.length-keep)) span (keep:Int) oH G F H'/\Kept [sb] wr w'/\∀x,x∈H'->x∈H\/wr.heap.size<=x:=by
 obtain⟨vs,ϧ,nZ,gQ,í⟩:=h.vL.ex;obtain⟨aB,cB,rfl⟩:=bM gQ;obtain⟨nB,uG⟩:∃nB,nB=Bs.length:=⟨_,rfl⟩;have HST:=Ì h;have x3:wr.cell? ⟨sb,3,none⟩=some (.int .i64 (keep:Int)):=ak h.blk 3;have x4:wr.cell? ⟨sb,4,none⟩=some (.slice aB nB cB):=by rw[uG];exact ak h.blk 4
 rw[<-uG] at gQ hn;by_cases ă:nB<=keep
 ·have aQ:Hid (∀q,fK w (wr.drewN q) sb hb db S d (Bs.drop (Bs.length-keep)) span (keep:Int) (.slice aB Bs.length cB) G F H/\Kept [sb] wr (wr.drewN q)):=λq=>by
   have h2:Below wr.heap.size wr (wr.drewN q):=below_draws (Below.refl _ _) q;refine⟨?_,Kept.of_below h2⟩;rw[show Bs.length-keep=0 by omega,List.drop_zero];exact h.below h2
  obtain⟨t,ht⟩:∃t:Int,t=(nB:Int)-keep:=⟨_,rfl⟩;have e1:IntKind.i64.wrap ((nB:Int)-(keep:Int))=t:=by rw[ht];exact IntWalk.i64_in _ (by omega)
  have d1:decide ((0:Int)<t)=false:=decide_eq_false (by omega);clear h gQ í ϧ nZ ă uG ht;go_enter func24,ntmps24;go_wp2_with fail;go_quiet (fail);go_wp2;go_end0;exact⟨rfl,_,H,(aQ.out _).1,(aQ.out _).2,λx hx=>.inl hx⟩
 ·obtain⟨m,hm⟩:∃m,nB=m+keep:=⟨nB-keep,by omega⟩;have φ:0<m:=by omega
  obtain⟨g,rfl,hcB⟩:∃g,aB=some ⟨g,0,none⟩/\nB<=cB:=by
   rcases gQ.2 with⟨hv,_⟩|⟨g,cap,cur,hv,_,_,hl,_⟩
   ·injection hv with _ hv _;omega
   ·injection hv with ĝ _ ψ;exact⟨g,ĝ,by omega⟩
  have θ:=Jb gQ;have hdl:(bQ (Bs.drop m) (vs.drop m)).length=keep*4:=by
   rw[Bo _ _ (by simp[ϧ]),List.length_drop,<-uG];omega
  have hdc:∀z,Below wr.heap.size wr z->∀j u,(bQ (Bs.drop m) (vs.drop m))[j]? = some u->z.cell? ((⟨g,m*4,none⟩:Addr).add j)=some u:=λz hz j u hj=>by
   rw[<-zX m Bs vs ϧ,List.getElem?_drop] at hj;have h1:=θ (m*4+j) u hj;rw[Addr.add_lit,Nat.zero_add] at h1;rw[Addr.add_lit];exact (hz.cell (p:=⟨g,m*4+j,none⟩) (World.block_lt_of_cell? wr ⟨g,_,none⟩ h1)).trans h1
  have AL:Hid (∀q cap,Calls prog 47 #[.slice (some ⟨g,m*4,none⟩) keep cap] (wr.drewN q) λe w'=>∃v',e = .returned v'/\w'.ownsRow wr.heap.size 78 4 v' keep (bQ (Bs.drop m) (vs.drop m))/\Below wr.heap.size wr w'):=λq cap=>by
   have h2:Below wr.heap.size wr (wr.drewN q):=below_draws (Below.refl _ _) q;refine (VN (wr.drewN q) g (m*4) keep cap _ hdl (hdc _ h2) (Bp _ _ λv hv=>mo.one ϧ í v (List.mem_of_mem_drop hv)) (by omega)).mono ?_;rintro e w' ⟨v',rfl,h3,h4⟩;exact⟨v',rfl,h3,h2.trans h4⟩
  have e1:IntKind.i64.wrap ((nB:Int)-(keep:Int))=(m:Int):=by rw[IntWalk.i64_in _ (by omega)];omega
  have d1:decide ((0:Int)<(m:Int))=true:=decide_eq_true (by omega);have PU:=Ì (And.intro ϧ (And.intro nZ (And.intro í uG)));have m0:(0:Int)<=(m:Int):=by omega
  have m1:(m:Int)<=(nB:Int):=by omega
  have m2:(m:Int)<=(cB:Int):=by omega
  have m3:(nB:Int)<=(cB:Int):=by omega
  have m4:m≠cB:=by omega
  have m5:nB-m=keep:=by omega
  clear h gQ í ϧ nZ ă θ hdl hdc uG hm;go_enter func24,ntmps24;go_wp2_with fail;go_quiet (fail);go_wp2_with fail;refine Calls.mono (AL.out _ _) ?_;rintro e w1 ⟨v',rfl,Ę,Ϗ⟩;obtain⟨a',c',hv'⟩:=bM Ę;subst hv';have Ù:=(Ϗ.block _ (aC HST.out.blk)).trans HST.out.blk;have y4:=ak Ù 4;simp at y4;have yf:w1.frozen? ⟨sb,4,none⟩=false:=aA Ù 4;have aQ:Hid (∃H',fK w (w1.setCell ⟨sb,4,none⟩ (.slice a' keep c')) sb hb db S d (Bs.drop (Bs.length-keep)) span (keep:Int) (.slice a' keep c') G F H'/\Kept [sb] wr (w1.setCell ⟨sb,4,none⟩ (.slice a' keep c'))/\∀x,x∈H'->x∈H\/wr.heap.size<=x):=by
   obtain⟨ϧ,nZ,í,uG⟩:=PU.out;have ϔ:=HST.out;have hem:Bs.length-keep=m:=by omega
   rw[hem];have ϒ:Kept [sb] wr (w1.setCell ⟨sb,4,none⟩ (.slice a' keep c')):=(Kept.of_below Ϗ).setCell (p:=⟨sb,4,none⟩) (.inl (List.mem_singleton.2 rfl)) _;have Ľ:∀x,x≠sb->(w1.setCell ⟨sb,4,none⟩ (.slice a' keep c')).heap[x]? = w1.heap[x]?:=λx hx=>Below.heap_setCell _ _ _ _ (by show x≠sb;exact hx)
   have Ϸ:∀x,x∈(Value.slice a' keep c').ownBlock.toList++(vs.drop m).flatMap ownB->x∈H\/wr.heap.size<=x:=λx hx=>by
    rcases List.mem_append.1 hx with hx|hx
    ·exact .inr (uz Ę hx).1
    ·refine .inl ?_;rw[nZ];refine List.mem_append.2 (.inr ?_);obtain⟨v,hv,h2⟩:=List.mem_flatMap.1 hx;exact List.mem_flatMap.2 ⟨v,List.mem_of_mem_drop hv,h2⟩
   have hsn:sb∉(Value.slice a' keep c').ownBlock.toList++(vs.drop m).flatMap ownB:=λhx=>by
    rcases Ϸ sb hx with h3|h3
    ·exact ϔ.sH h3
    ·have:=aC ϔ.blk;omega
   have Ι:mo w1 w.heap.size (.slice a' keep c') (Bs.drop m) ((Value.slice a' keep c').ownBlock.toList++(vs.drop m).flatMap ownB):=by
    refine⟨vs.drop m,by simp[ϧ],rfl,?_,λi hi hv=>?_⟩
    ·have e:(Bs.drop m).length=keep:=by rw[List.length_drop,<-uG];omega
     rw[e];exact jQ Ę ϔ.aI.size
    ·simp only[List.getElem_drop];obtain⟨r1,r2⟩:=í (m+i) (by rw[List.length_drop] at hi;omega) (by rw[List.length_drop] at hv;omega);exact⟨bK r1 Ϗ,bK r2 Ϗ⟩
   exact⟨_,ϔ.blocks (ϒ.sub λx hx=>List.mem_cons.2 (.inl (List.mem_singleton.1 hx))) ((dU Ù 4 _).trans rfl) (Ι.same λx hx=>Ľ x λe=>hsn (e ▸ hx)) Ϸ,ϒ,Ϸ⟩
  clear Ę Ϗ Ù AL;dsimp only
  go_wp2;go_end0;obtain⟨H',q⟩:=aQ.out;exact⟨rfl,_,H',q⟩
noncomputable def mO:List E->Dk->Dk×Int×Int
 | [],d=>(d,0,-1)
 | e::es,d=>if 0<jD d e.1 e.2.1 e.2.2 then (mW d e.1 e.2.1 e.2.2,jD d e.1 e.2.1 e.2.2,FW e.1 e.2.1) else mO es (mW d e.1 e.2.1 e.2.2)
theorem Kn{es fs:List E}{d d':Dk}(h:mO es d=(d',0,-1)):mO (es++fs) d=mO fs d':=by
 induction es generalizing d with
 | nil=>
  rw[mO] at h;injection h with h _;rw[List.nil_append,h]
 | cons e es ih=>
  rw[mO] at h;rw[List.cons_append,mO];split at h
  ·rename_i h0;injection h with _ h;injection h with h _;omega
  ·rename_i h0;rw[if_neg h0];exact ih h
def fE(L:List Rw):List E:=L.flatMap λr=>r.2.map λp=>(r.1,p.1,p.2)
theorem Y0(L:List Rw)(r:Rw):fE (L ++ [r])=fE L++r.2.map λp=>(r.1,p.1,p.2):=by simp[fE]
theorem ad5(L:List Rw)(k:Nat)(hk:k<L.length)(q:Nat)(hq:q<L[k].2.length):fE L=(fE (L.take k)++(L[k].2.take q).map λp=>(L[k].1,p.1,p.2))++((L[k].1,L[k].2[q].1,L[k].2[q].2)::((L[k].2.drop (q+1)).map λp=>(L[k].1,p.1,p.2))++fE (L.drop (k+1))):=by
 have h1:L=L.take k++(L[k]::L.drop (k+1)):=by rw[List.getElem_cons_drop,List.take_append_drop]
 have h0:∀A C:List Rw,fE (A++C)=fE A++fE C:=λA C=>List.flatMap_append ..
 have h2:fE L=fE (L.take k)++fE (L[k]::L.drop (k+1)):=by rw[<-h0,<-h1]
 have h3:fE (L[k]::L.drop (k+1))=(L[k].2.map λp=>(L[k].1,p.1,p.2))++fE (L.drop (k+1)):=List.flatMap_cons ..;have h4:(L[k].2.map λp=>(L[k].1,p.1,p.2))=(L[k].2.take q).map (λp=>(L[k].1,p.1,p.2))++((L[k].1,L[k].2[q].1,L[k].2[q].2)::(L[k].2.drop (q+1)).map λp=>(L[k].1,p.1,p.2)):=by
  have h5:L[k].2=L[k].2.take q++(L[k].2[q]::L[k].2.drop (q+1)):=by rw[List.getElem_cons_drop,List.take_append_drop]
  have h6:=congrArg (List.map λp:Int×Nat=>(L[k].1,p.1,p.2)) h5;rw[List.map_append,List.map_cons] at h6;exact h6
 rw[h2,h3,h4];simp only[List.append_assoc,List.cons_append]
noncomputable def Ko(es:List E)(d:Dk):Dk:=if d.off=true then d else (mO es ⟨[],false,d.waits,d.left⟩).1
noncomputable def Il(es:List E)(d:Dk):Int:=if d.off=true then 10 else (mO es ⟨[],false,d.waits,d.left⟩).2.1
noncomputable def QD(es:List E)(d:Dk):Int:=if d.off=true then -1 else (mO es ⟨[],false,d.waits,d.left⟩).2.2
def VO(ea:Nat->Addr)(w wr:World)(sb hb db:Nat)(S:List Sr)(d':Dk)(Bs:List Bk)(span keep:Int)(vB:Value)(G F H:List Nat)(C A:Int)(e:Ending)(w':World):Prop:=
 ∃v F',e = .returned v/\aM ea w' v C A/\fK w w' sb hb db S d' Bs span keep vB G F' H/\Kept F wr w'/\∀x,x∈F'->x∈F\/wr.heap.size<=x
theorem VP{B:Nat}{ea:Nat->Addr}(w wa:World)(E0:zV B ea w)(hB:B<=w.heap.size)(sb hb db:Nat)(S:List Sr)(d:Dk)(Bs:List Bk)(span keep:Int)(vB:Value)(G F H:List Nat)(h:fK w wa sb hb db S d Bs span keep vB G F H)(hn:S.length<=1000)(hc:bT S<=1000)(L:List Rw)(hL:L=qP 1099511627776 S):
  Calls prog 25 #[.agg #[.pointer (some ⟨hb,0,none⟩),.pointer (some ⟨db,0,none⟩)]] wa λe w'=>VO ea w wa sb hb db S (Ko (fE L) d) Bs span keep vB G F H (Il (fE L) d) (QD (fE L) d) e w':=by
 obtain⟨W1,à⟩:∃W1,W1=wa.alloc (.cells #[.pointer (some ⟨hb,0,none⟩),.pointer (some ⟨db,0,none⟩)] 69):=⟨_,rfl⟩;have Ϛ:Below wa.heap.size wa W1:=by rw[à];exact (Below.refl _ _).alloc (Nat.le_refl _) _
 have ξ:W1.heap[wa.heap.size]? = some (.cells #[.pointer (some ⟨hb,0,none⟩),.pointer (some ⟨db,0,none⟩)] 69 (0,0)):=by rw[à];exact heap_alloc_new _ _
 have rX:=h.below Ϛ;have x0:=ak ξ 0;have x1:=ak ξ 1;simp at x0 x1;have sD:∀x,x∈F->x<wa.heap.size:=λx hx=>(h.dk.mem hx).2
 have HW1:=Ì à;have bV:=Ì Ϛ;have BM:=Ì ξ;have HST:=Ì rX;have HE:=Ì E0;by_cases Ő:d.off=true
 ·have AL:=Ì (Qr w W1 (E0.w.below rX.aI hB) db d F rX.dk Ő);have HF:Hid (Ko (fE L) d=d/\Il (fE L) d=10/\QD (fE L) d = -1):=⟨if_pos Ő,if_pos Ő,if_pos Ő⟩;clear à Ϛ ξ rX h E0 hL;go_enter func25,ntmps25;go_upto_region 1 with fail;rw[<-HW1.out];go_wp2_with fail;refine Calls.mono AL.out ?_;rintro e w2 ⟨rfl,Ã⟩;have ğ:=Ã.symm;subst ğ;dsimp only
  go_wp2;go_ret;obtain⟨f1,f2,f3⟩:=HF.out;rw[f1,f2,f3];exact⟨_,F,rfl,.es 9 (by decide) (by decide),HST.out,Kept.of_below bV.out,λx hx=>.inl hx⟩
 ·have ν:d.off=false:=by simpa using Ő
  obtain⟨d1,ĸ⟩:∃d1:Dk,d1=⟨[],false,d.waits,d.left⟩:=⟨_,rfl⟩;have AL:=Ì (aa4 w W1 db d F rX.dk ν);rw[<-ĸ] at AL;have HF:Hid (Ko (fE L) d=(mO (fE L) d1).1/\Il (fE L) d=(mO (fE L) d1).2.1/\QD (fE L) d=(mO (fE L) d1).2.2):=by
   rw[ĸ];exact⟨if_neg Ő,if_neg Ő,if_neg Ő⟩
  have HD1:Hid (d1.L.length<=65536):=by show _<=_;rw[ĸ];exact Nat.zero_le _
  have HL:=Ì hL;clear à Ϛ ξ rX h E0 hL ĸ Ő ν;go_enter func25,ntmps25;go_upto_region 1 with fail;rw[<-HW1.out];go_wp2_with fail;refine Calls.mono AL.out ?_;rintro e w2 ⟨rfl,ň,ϩ⟩;have abj:=HST.out.disk ň ϩ (λx hx=>.inl hx);have Ė:w2.heap[wa.heap.size]? = some (.cells #[.pointer (some ⟨hb,0,none⟩),.pointer (some ⟨db,0,none⟩)] 69 (0,0)):=(ϩ.block _ (aC BM.out) (λhx=>by have:=sD _ hx;omega)).trans BM.out;have y0:=ak Ė 0;simp at y0;have sP:=Ì (Fp w w2 hb S G abj.hd hn);have ag5:=Ì abj;have uo:=Ì Ė;have jc:Hid (Kept F wa w2):=(Kept.of_below (S:=F) bV.out).trans ϩ λx hx=>.inl hx
  clear ň ϩ abj Ė x0 x1 AL HST;dsimp only
  go_wp2_with fail;refine Calls.mono sP.out ?_;rintro e w3 ⟨v3,rfl,ώ,ř⟩;obtain⟨a5,MV,rfl⟩:=bM ř;have ð:L.map Prod.fst=cO S:=by rw[HL.out];unfold qP;rw[List.map_map];exact List.map_id _
  have BJ:L.length=(cO S).length:=by rw[<-ð,List.length_map]
  have hLk:∀k (hk:k<L.length),L[k].2=bI 0 1099511627776 (fF S L[k].1)/\∃l,l∈S/\l.key=L[k].1:=λk hk=>by
   have hL:=HL.out;subst hL;refine⟨by simp[qP],?_⟩;have:(qP 1099511627776 S)[k].1∈cO S:=by rw[<-ð];exact List.mem_map.2 ⟨_,List.getElem_mem hk,rfl⟩
   obtain⟨l,hl,hk',_⟩:=jh.1 this;exact⟨l,hl,hk'⟩
  rw[<-BJ,<-ð] at ř;rw[<-BJ];obtain⟨n,ϰ⟩:∃n,n=L.length:=⟨_,rfl⟩;rw[<-ϰ] at ř ⊢;have Í:n<=1000:=by
   rw[ϰ,BJ];exact Nat.le_trans (by unfold cO;rw[List.length_map];exact List.length_filter_le _ _) hn
  have HN:=Ì ϰ;have Pb:=Ì hLk;have JQ:=Ì ř;have ag6:=Ì (ag5.out.below ώ);have HX3:=Ì ((ώ.block _ (aC uo.out)).trans uo.out);have fG:Hid (Kept F wa w3):=jc.out.trans (Kept.of_below (S:=[]) ώ) (λx hx=>by cases hx);have ag8:Hid (wa.heap.size<w2.heap.size):=aC uo.out;have HS3:Hid (w2.heap.size<=w3.heap.size):=ώ.size;clear ώ ř ð BJ hLk ϰ y0 sP ag5;dsimp only
  go_wp2_with fail;go_loopw [19] (λi wr=>∃(k:Nat) (d':Dk) (F':List Nat),k<=n/\i = .int .i64 (k:Int)/\fK w wr sb hb db S d' Bs span keep vB G F' H/\mO (fE (L.take k)) d1=(d',0,-1)/\Kept F w3 wr/\(∀x,x∈F'->x∈F\/w3.heap.size<=x)/\d'.L.length<=65536) (λi _=>n-(intOf i).toNat);case atStart=>exact⟨0,d1,F,Nat.zero_le _,rfl,ag6.out,rfl,Kept.refl _ _,λx hx=>.inl hx,HD1.out⟩
  case round=>
   obtain⟨wk,hwk⟩:∃wk,wk=wr:=⟨_,rfl⟩;subst hwk;obtain⟨k,d',F',hk,rfl,ϔ,Ū,Š,hF',hdl⟩:=hrel;clear ag6;have uH:=Ì ϔ;have HAP:=Ì Ū;have vY:=Ì Š;have Ht:=Ì hF';have hF3:∀x,x∈F->x<w2.heap.size:=λx hx=>by have:=sD x hx;have:=ag8.out;omega
   have hx5:wk.heap[wa.heap.size]? = some (.cells #[.pointer (some ⟨hb,0,none⟩),.pointer (some ⟨db,0,none⟩)] 69 (0,0)):=(Š.block _ (aC HX3.out) (λhx=>by have:=sD _ hx;omega)).trans HX3.out;by_cases ϥ:k<n
   ·have AP:k<L.length:=by rw[<-HN.out];exact ϥ
    obtain⟨xk,â⟩:∃xk:ByteArray,xk=⟨(L[k].1).toArray⟩:=⟨_,rfl⟩;have hxd:xk.data.toList=L[k].1:=by rw[â]
    have ϛ:wk.ownsRow w2.heap.size 9 1 (.slice a5 n MV) n ((L.map Prod.fst).map encStr):=bL JQ.out λg hg=>Š.block g (aH JQ.out hg).2.1 λhx=>by
     have h1:=(aH JQ.out hg).1;have h2:=hF3 g hx;omega
    obtain⟨g5,e5,Ğ⟩:∃g5,a5=some ⟨g5,0,none⟩/\wk.cell? ⟨g5,k,none⟩=some (.string xk):=by
     rcases ϛ.2 with⟨_,hz⟩|⟨g,cap,cur,hv,_,hh,_,_,hs,hc⟩
     ·omega
     ·injection hv with hv;refine⟨g,hv,?_⟩;have e1:wk.cell? ⟨g,k,none⟩=cur[k]?:=by simp[World.cell?,hh]
      have e2:cur[k]? = (cur.toList.take (n*1))[k]?:=by rw[List.getElem?_take_of_lt (by omega)];simp
      rw[e1,e2,hc,â];simp[AP,encStr]
    subst e5;obtain⟨hP1,l,hl,ß⟩:=Pb.out k AP;obtain⟨P,hP⟩:∃P,P=L[k].2:=⟨_,rfl⟩;have ŭ:xk.size<=1000:=by
     have e:xk.size=L[k].1.length:=by rw[â];simp[ByteArray.size]
     obtain⟨_,_,_,_,Ϲ⟩:=ϔ.hd.ex;have:=Ϲ.len l hl;rw[e,<-ß];exact this
    have k0:(0:Int)<=(k:Int):=by omega
    have k1:(k:Int)<(n:Int):=by omega
    have y0:=ak hx5 0;simp at y0;have sK:=Ì (Fq w wk hb S G ϔ.hd hc xk ŭ 0 1099511627776);rw[hxd,<-hP1,<-hP] at sK;have F4:=Ì (And.intro hP (And.intro hP1 hxd));have HX5:=Ì hx5;clear ϔ Ū Š hF' â hxd ϛ hP1 hl ß hP hx5;go_wp2_with fail;refine Calls.mono sK.out ?_;rintro e w4 ⟨v4,rfl,nS,ϣ⟩;obtain⟨a4,c4,rfl,_,zW,yt⟩:=iF nS;have Qy:∀p,p∈P->p.2<18446744073709551616:=λp hp=>by
     rw[F4.out.1,F4.out.2.1] at hp;obtain⟨h1,h2⟩:=List.mem_filter.1 hp;obtain⟨l',hl',hp'⟩:=FX h1;exact (uH.out.hd.well.Jr l' hl' p hp').2.2
    obtain⟨m,hm⟩:∃m,m=P.length:=⟨_,rfl⟩;have Tx:m<=1000:=by
     rw[hm,F4.out.1,F4.out.2.1];exact Nat.le_trans (List.length_filter_le _ _) (Nat.le_trans (uD S _) hc)
    rw[<-hm] at nS ⊢;have HM:=Ì hm;have Qz:=Ì (And.intro zW yt);have fV:=Ì ϣ;have Qp:=Ì Qy;have ag9:=Ì (uH.out.below ϣ);have HX4:=Ì ((ϣ.block _ (aC HX5.out)).trans HX5.out);have HA0:Hid (mO (fE (L.take k)++(P.take 0).map λp=>(L[k].1,p.1,p.2)) d1=(d',0,-1)):=by
     show _=_;rw[List.take_zero,List.map_nil,List.append_nil];exact HAP.out
    clear nS ϣ zW yt Qy hm sK y0 Ğ;dsimp only
    go_wp2_with fail;go_loopw [28] (λj wr=>∃(q:Nat) (d2:Dk) (F2:List Nat),q<=m/\j = .int .i64 (q:Int)/\fK w wr sb hb db S d2 Bs span keep vB G F2 H/\mO (fE (L.take k)++(P.take q).map λp=>(L[k].1,p.1,p.2)) d1=(d2,0,-1)/\Kept F' w4 wr/\(∀x,x∈F2->x∈F'\/w4.heap.size<=x)/\d2.L.length<=65536) (λj _=>m-(intOf j).toNat);case atStart=>exact⟨0,d',F',Nat.zero_le _,rfl,ag9.out,HA0.out,Kept.refl _ _,λx hx=>.inl hx,hdl⟩
    case round=>
     obtain⟨q,d2,F2,hq,rfl,ϟ,haz,ć,hF2,abk⟩:=hrel;clear ag9 HA0;have gM:=Ì ϟ;have Tz:=Ì haz;have Ch:=Ì ć;have iA:=Ì hF2;have al8:∀x,x∈F'->x<wk.heap.size:=λx hx=>(uH.out.dk.mem hx).2
     have CO:wa.heap.size∉F':=λhx=>by
      rcases Ht.out _ hx with h1|h1
      ·have:=sD _ h1;omega
      ·have:=ag8.out;have:=aC HX3.out;have h5:w2.heap.size<=w3.heap.size:=HS3.out;omega
     have hx6:=(ć.block _ (aC HX4.out) CO).trans HX4.out;by_cases hqm:q<m
     ·have Ei:q<P.length:=by rw[<-HM.out];exact hqm
      obtain⟨t,ht⟩:∃t,t=P[q].1:=⟨_,rfl⟩;obtain⟨u,hu⟩:∃u,u=P[q].2:=⟨_,rfl⟩;have Ja:P ≠ []:=λe=>by rw[e] at Ei;exact absurd Ei (Nat.not_lt_zero _)
      obtain⟨g4,κ,aa8,QA⟩:=Qz.out.2 Ja;subst κ;obtain⟨b',o',e',Ϧ⟩:∃b o,some (⟨g4,0,none⟩:Addr)=some ⟨b,o,none⟩/\∀k (hk:k<P.length),w4.cell? ⟨b,o+k*2,none⟩=some (.int .i64 P[k].1)/\w4.cell? ⟨b,o+k*2+1,none⟩=some (.int .u64 (P[k].2:Int)):=by
       rcases Qz.out.1 with h|h
       ·exact absurd h Ja
       ·exact h
      injection e' with e';injection e' with e1 e2;subst e1 e2;obtain⟨c0,c1⟩:=Ϧ q Ei;have Ι:wr.heap[g4]? = w4.heap[g4]?:=ć.block g4 QA (λhx=>by have:=al8 _ hx;omega);have z0:wr.cell? ⟨g4,q*2,none⟩=some (.int .i64 t):=by
       rw[ht,<-c0];simp[World.cell?,Ι]
      have z1:wr.cell? ⟨g4,q*2+1,none⟩=some (.int .u64 (u:Int)):=by
       rw[hu,<-c1];simp[World.cell?,Ι]
      have q0:(0:Int)<=(q:Int):=by omega
      have q1:(q:Int)<(m:Int):=by omega
      obtain⟨Z1,hZ1⟩:∃Z1,Z1=wr.alloc (.cells #[.int .i64 t,.int .u64 (u:Int)] 43):=⟨_,rfl⟩;have xM:Below wr.heap.size wr Z1:=by rw[hZ1];exact (Below.refl _ _).alloc (Nat.le_refl _) _
      have Ij:Z1.heap[wr.heap.size]? = some (.cells #[.int .i64 t,.int .u64 (u:Int)] 43 (0,0)):=by rw[hZ1];exact heap_alloc_new _ _
      have x0:=ak Ij 0;have x1:=ak Ij 1;simp at x0 x1;have y1:=ak ((xM.block _ (aC hx6)).trans hx6) 1;simp at y1;have hut:u<18446744073709551616:=by rw[hu];exact Qp.out _ (List.getElem_mem Ei)
      have HDA:=Ì (M4 w HE.out.w hB Z1 db d2 F2 (ϟ.below xM).dk abk xk (by omega) t u hut);have HZ1:Hid (∀wx,wx=wr.alloc (.cells #[.int .i64 t,.int .u64 (u:Int)] 43)->wx=Z1):=λwx h=>h.trans hZ1.symm
      have jl:=Ì (ϟ.below xM);have M7:=Ì xM;have Ej:=Ì (And.intro ht (And.intro hu Ei));have Kk:Hid (P.take (q+1)=P.take q ++ [P[q]]):=List.take_succ_eq_append_getElem Ei;clear ϟ haz ć hF2 ht hu Ja aa8 QA Ϧ c0 c1 Ι hZ1 xM Ij hx6;go_upto_region 10 with fail;rw[HZ1.out _ rfl];go_wp2_with fail;refine Calls.mono HDA.out ?_;rintro e w6 ⟨v6,F6,rfl,Y3,hd6,Im,Yw⟩;have VQ:=jl.out.disk hd6 Im Yw;have VR:Kept F' w4 w6:=(Ch.out.trans (Kept.of_below (S:=[]) M7.out) (λx hx=>by cases hx)).trans Im iA.out;have hF6:∀x,x∈F6->x∈F'\/w4.heap.size<=x:=λx hx=>by
       rcases Yw x hx with h1|h1
       ·exact iA.out x h1
       ·exact .inr (Nat.le_trans (Nat.le_trans Ch.out.size M7.out.size) h1)
      have ϰ:=wS d2 xk.data.toList t u;by_cases ò:jD d2 xk.data.toList t u=0
      ·obtain rfl:=Y3.none ò;have aQ:Hid (fK w w6 sb hb db S (mW d2 xk.data.toList t u) Bs span keep vB G F6 H/\mO (fE (L.take k)++(P.take (q+1)).map λp=>(L[k].1,p.1,p.2)) d1=(mW d2 xk.data.toList t u,0,-1)/\Kept F' w4 w6/\(∀x,x∈F6->x∈F'\/w4.heap.size<=x)/\(mW d2 xk.data.toList t u).L.length<=65536):=by
        refine⟨VQ,?_,VR,hF6,aa3 _ _ _ _ abk⟩;obtain⟨e1,e2,_⟩:=Ej.out;rw[Kk.out,List.map_append,<-List.append_assoc,Kn Tz.out,List.map_cons,List.map_nil,<-e1,<-e2,<-F4.out.2.2,mO,if_neg (by show ¬ 0<jD d2 xk.data.toList t u;omega)];rfl
       clear Y3 hd6 Im Yw VQ VR hF6 ò ϰ x0 x1 y1 z0 z1 HDA;dsimp only
       go_wp2;go_roundw;case rel=>exact⟨q+1,_,F6,by omega,by go_num,aQ.out.1,aQ.out.2.1,aQ.out.2.2.1,aQ.out.2.2.2.1,aQ.out.2.2.2.2⟩
       case measure=>simp[intOf]<;>omega
      ·obtain⟨tv,pv,rfl⟩:=xL Y3 ò;have aQ:Hid (VO ea w wa sb hb db S (Ko (fE L) d) Bs span keep vB G F H (Il (fE L) d) (QD (fE L) d) (.returned (.iface tv (.pointer (some pv)))) w6):=by
        obtain⟨e1,e2,e3⟩:=Ej.out;have Kl:k<L.length:=by rw[<-HN.out];exact ϥ
        have hent:fE L=(fE (L.take k)++(P.take q).map λp=>(L[k].1,p.1,p.2))++((xk.data.toList,t,u)::((P.drop (q+1)).map λp=>(L[k].1,p.1,p.2))++fE (L.drop (k+1))):=by
         have hP:=F4.out.1;subst hP;have h9:=ad5 L k Kl q e3;rw[F4.out.2.2,e1,e2];exact h9
        obtain⟨f1,f2,f3⟩:=HF.out;have happ:mO (fE L) d1=(mW d2 xk.data.toList t u,jD d2 xk.data.toList t u,FW xk.data.toList t):=by
         rw[hent,Kn Tz.out,List.cons_append,mO,if_pos (by show 0<jD d2 xk.data.toList t u;omega)]
        rw[f1,f2,f3,happ];refine⟨_,F6,rfl,Y3,VQ,((fG.out.trans vY.out λx hx=>.inl hx).trans (Kept.of_below (S:=[]) fV.out) (λx hx=>by cases hx)).trans VR λx hx=>?_,λx hx=>?_⟩
        ·rcases Ht.out x hx with h1|h1
         ·exact .inl h1
         ·exact .inr (Nat.le_trans fG.out.size h1)
        ·rcases hF6 x hx with h1|h1
         ·rcases Ht.out x h1 with h2|h2
          ·exact .inl h2
          ·exact .inr (Nat.le_trans fG.out.size h2)
         ·exact .inr (Nat.le_trans (Nat.le_trans (Nat.le_trans fG.out.size vY.out.size) fV.out.size) h1)
       clear Y3 hd6 Im Yw VQ VR hF6 ò ϰ x0 x1 y1 z0 z1 HDA;dsimp only
       go_wp2;go_ret;exact aQ.out
     ·obtain rfl:q=m:=by omega
      have aQ:Hid (mO (fE (L.take (k+1))) d1=(d2,0,-1)/\Kept F w3 wr/\∀x,x∈F2->x∈F\/w3.heap.size<=x):=by
       have Kl:k<L.length:=by rw[<-HN.out];exact ϥ
       refine⟨?_,(vY.out.trans (Kept.of_below (S:=[]) fV.out) (λx hx=>by cases hx)).trans ć Ht.out,λx hx=>?_⟩
       ·have iQ:P.take q=P:=by rw[HM.out];exact List.take_length
        rw[List.take_succ_eq_append_getElem Kl,Y0,<-F4.out.1];have h1:=haz;rw[iQ] at h1;exact h1
       ·rcases hF2 x hx with h1|h1
        ·exact Ht.out x h1
        ·exact .inr (Nat.le_trans (Nat.le_trans vY.out.size fV.out.size) h1)
      clear ϟ haz ć hF2 hx6 Ch iA Tz;go_wp2;go_roundw;case rel=>exact⟨k+1,d2,F2,by omega,by go_num,gM.out,aQ.out.1,aQ.out.2.1,aQ.out.2.2,abk⟩
      case measure=>simp[intOf]<;>omega
   ·obtain rfl:k=n:=by omega
    have iQ:L.take k=L:=by rw[HN.out];exact List.take_length
    rw[iQ] at Ū;have aQ:Hid (VO ea w wa sb hb db S (Ko (fE L) d) Bs span keep vB G F H (Il (fE L) d) (QD (fE L) d) (.returned .nilIface) wk):=by
     obtain⟨f1,f2,f3⟩:=HF.out;rw[f1,f2,f3,Ū];refine⟨_,F',rfl,.inl ⟨rfl,rfl⟩,ϔ,fG.out.trans Š λx hx=>.inl hx,λx hx=>?_⟩;rcases hF' x hx with h1|h1
     ·exact .inl h1
     ·exact .inr (Nat.le_trans fG.out.size h1)
    clear ϔ Ū Š hF' hx5 iQ uH HAP vY Ht;go_wp2;go_ret;exact aQ.out
theorem Kq{wa wr:World}{base:Nat}{aB:Option Addr}{n cB:Nat}{Bs:List Bk}{vs:List (Value×Value)}(ho:wa.ownsRow base 78 4 (.slice aB n cB) n (bQ Bs vs))(hn:n=Bs.length)(ϧ:vs.length=Bs.length)
  (í:∀i (hi:i<Bs.length) (hv:i<vs.length),wa.ownsRow base 9 1 vs[i].1 Bs[i].2.2.length ((Bs[i].2.2.map Prod.fst).map encStr)/\wa.ownsRow base 9 1 vs[i].2 Bs[i].2.2.length ((Bs[i].2.2.map λr=>fI r.2).map encStr)) (hb:Below wa.heap.size wa wr) (k:Nat) (hk:k<Bs.length) :
  ∃g p1 t1 p2 t2,aB=some ⟨g,0,none⟩/\wr.cell? ⟨g,k*4,none⟩=some (.int .i64 Bs[k].1)/\wr.cell? ⟨g,k*4+1,none⟩=some (.int .i64 Bs[k].2.1)/\wr.cell? ⟨g,k*4+2,none⟩=some (.slice p1 Bs[k].2.2.length t1)/\wr.cell? ⟨g,k*4+3,none⟩=some (.slice p2 Bs[k].2.2.length t2) /\
   wr.ownsRow base 9 1 (.slice p1 Bs[k].2.2.length t1) Bs[k].2.2.length ((Bs[k].2.2.map Prod.fst).map encStr)/\wr.ownsRow base 9 1 (.slice p2 Bs[k].2.2.length t2) Bs[k].2.2.length ((Bs[k].2.2.map λr=>fI r.2).map encStr):=by
 have hkV:k<vs.length:=by omega
 obtain⟨g,rfl⟩:∃g,aB=some ⟨g,0,none⟩:=by
  rcases ho.2 with⟨hv,h0⟩|⟨g,cap,cur,hv,_⟩
  ·omega
  ·injection hv with ĝ _ _;exact⟨g,ĝ⟩
 have ϡ:=Jb ho;obtain⟨b0,b1,b2,b3⟩:=Dx Bs vs ϧ k hk hkV;have hc:∀j u,(bQ Bs vs)[j]? = some u->wr.cell? ⟨g,j,none⟩=some u:=λj u hj=>by
  have h1:=ϡ j u hj;rw[Addr.add_lit,Nat.zero_add] at h1;exact (hb.cell (p:=⟨g,j,none⟩) (World.block_lt_of_cell? wa ⟨g,_,none⟩ h1)).trans h1
 obtain⟨r1,r2⟩:=í k hk hkV;obtain⟨p1,t1,ĝ⟩:=bM r1;obtain⟨p2,t2,ψ⟩:=bM r2;have y2:=hc _ _ b2;have y3:=hc _ _ b3;rw[ĝ] at y2 r1;rw[ψ] at y3 r2;exact⟨g,p1,t1,p2,t2,rfl,hc _ _ b0,hc _ _ b1,y2,y3,bK r1 hb,bK r2 hb⟩
theorem y9{w:World}{base:Nat}{a:Option Addr}{n c:Nat}{ss:List (List UInt8)}(h:w.ownsRow base 9 1 (.slice a n c) n (ss.map encStr))(k:Nat)(hk:k<ss.length)(ϥ:k<n):∃g,a=some ⟨g,0,none⟩/\w.cell? ⟨g,k,none⟩=some (.string ⟨ss[k].toArray⟩):=by
 obtain⟨g,rfl⟩:∃g,a=some ⟨g,0,none⟩:=by
  rcases h.2 with⟨hv,h0⟩|⟨g,cap,cur,hv,_⟩
  ·omega
  ·injection hv with ĝ _ _;exact⟨g,ĝ⟩
 have h1:=Jb h k (encStr ss[k]) (by simp[hk]);rw[Addr.add_lit,Nat.zero_add] at h1;exact⟨g,rfl,h1⟩
theorem Tryz.sizeBk:(prog.info? 78).map (·.size)=some 4:=by kernel_rfl
def Em:Value:=.agg #[.int .i64 0,.int .i64 0,.slice none 0 0,.slice none 0 0]
theorem Nf:Em.cells.toList = [.int .i64 0,.int .i64 0,.slice none 0 0,.slice none 0 0]:=by kernel_rfl
theorem TD:Em.cells.toList.length=4:=by rw[Nf];rfl
theorem ad6:∀v∈Em.cells.toList,v.oneCell'=true:=by
 rw[Nf];intro v hv;simp only[List.mem_cons,List.not_mem_nil,or_false] at hv;rcases hv with rfl|rfl|rfl|rfl<;>rfl
theorem ad7(w:World):(zeroValue 78).run prog w = .ok Em w:=by
 obtain⟨i,hi,h0,_⟩:=info_parts Tryz.infoBk;simp[zeroValue,typeInfo,hi,h0,Em]
theorem QE(w:World)(g o c:Nat)(L:List Value)(hg:w.heap[g]? = some (.cells L.toArray 78 (0,0)))(ϕ:o+4<=L.length):
  ∃w2,(∀ty,(Builtin.clear_ #[46] ty #[.slice (some ⟨g,o,none⟩) 1 c]).run prog w = .ok (.tuple #[]) w2)/\w2.heap[g]? = some (.cells (dS L o Em.cells.toList).toArray 78 (0,0))/\jI g w w2:=
 ⟨_,λty=>NY prog w 46 78 ty Em underlying46 ad7 ad6 g o c L 78 hg (by rw[TD];exact ϕ),setRow_heap w g _ _ 78 _ hg,tF _ _ _⟩
theorem ad8(w0 w:World)(hw:w.heap=w0.heap)(g o dLen dCap:Nat)(a:Addr)(sLen sCap:Nat)(L cs:List Value)(hg:w0.heap[g]? = some (.cells L.toArray 78 (0,0)))(hn:cs.length=Nat.min sLen dLen*4)
  (Ĳ:∀j v,cs[j]? = some v->w0.cell? (a.add j)=some v) (ϕ:o+cs.length<=L.length) (h1:∀v∈cs,v.oneCell'=true) (ho:jI g w0 w) :
  ∃w2 k,(∀ty,(Builtin.copy_ #[46,46] ty #[.slice (some ⟨g,o,none⟩) dLen dCap,.slice (some a) sLen sCap]).run prog w = .ok k w2)/\w2.heap[g]? = some (.cells (dS L o cs).toArray 78 (0,0))/\jI g w0 w2:=by
 have hg':w.heap[g]? = some (.cells L.toArray 78 (0,0)):=by rw[hw];exact hg
 have hc:∀p,w.cell? p=w0.cell? p:=λp=>by unfold World.cell?;rw[hw]
 exact⟨_,_,λty=>El prog w 46 46 ty 78 g o dLen dCap a sLen sCap 4 L 78 cs underlying46 Tryz.sizeBk hg' hn (λj v h=>(hc _).trans (Ĳ j v h)) ϕ h1,setRow_heap w g _ _ 78 _ hg',ho.trans (tF _ _ _)⟩
theorem VT(w:World)(g n cap i:Nat)(L:List Value)(hg:w.heap[g]? = some (.cells L.toArray 78 (0,0)))(hL:L.length=cap*4)(hn:n<=cap)(hm:cap<=maxLen)(hj:n=i+2)(b c:Nat)(ys:List Value)(hy:ys.length=4)
  (Ĳ:∀q u,ys[q]? = some u->w.cell? ((⟨b,0,none⟩:Addr).add q)=some u) (h1:∀u∈ys,u.oneCell'=true) :
  Calls prog 27 #[.slice (some ⟨g,0,none⟩) n cap,.int .i64 (i:Int),.int .i64 (n:Int),.slice (some ⟨b,0,none⟩) 1 c] w λe w'=>e = .returned (.slice (some ⟨g,0,none⟩) (i+1) cap)/\jI g w w' /\
   w'.heap[g]? = some (.cells (dS (dS L (i*4) ys) ((i+1)*4) Em.cells.toList).toArray 78 (0,0)):=by
 have HM:=Ì (And.intro hg (And.intro hL (And.intro hm Ĳ)));have HN:=Ì (And.intro hj (And.intro hn (And.intro h1 hy)));obtain⟨iB,hIB,hB0,Ŷ,Ŭ⟩:=info_parts Tryz.infoBk;have Y4:=Ì (And.intro hIB (And.intro hB0 Ŷ));have hm':cap<=9223372036854775807:=hm;have x1:¬ i=n:=by omega
 have x2:i+1<n:=by omega
 have x3:¬ cap=i:=by omega
 have x4:¬ cap=i+1:=by omega
 have x5:n-(i+1)=1:=by omega
 have e3:(i:Int)+1<(n:Int):=by omega
 have i1:i<=cap:=by omega
 have i2:n<=cap:=by omega
 have i3:i<=n:=by omega
 have i4:i+1<=n:=by omega
 clear hg hL hm Ĳ hj hn h1 hy hIB hB0 Ŷ Ŭ;go_enter func27,ntmps27;go_wp2_with (at_builtin;refine FZ rfl _ _ 46 rfl 78 iB 4 underlying46 Y4.out.1 Y4.out.2.2 g i cap (by rfl) L HM.out.1 ⟨b,0,none⟩ 1 c ys (by rfl) HN.out.2.2.2 HM.out.2.2.2 HN.out.2.2.1 (by omega) (by rw[HN.out.2.2.2,HM.out.2.1];omega) ?_);intro w1 Ϻ Ę;have iG:=Ì (And.intro Ϻ Ę);clear Ϻ Ę;obtain⟨w2,ϻ,Ϩ,Î⟩:∃w2,(∀ty,(Builtin.clear_ #[46] ty #[.slice (some ⟨g,(i+1)*4,none⟩) 1 (cap-(i+1))]).run prog w1 = .ok (.tuple #[]) w2)/\w2.heap[g]? = some (.cells (dS (dS L (i*4) ys) ((i+1)*4) Em.cells.toList).toArray 78 (0,0))/\jI g w1 w2:=
  QE w1 g ((i+1)*4) (cap-(i+1)) (dS L (i*4) ys) iG.out.1 (by rw[uF _ _ _ (by rw[HN.out.2.2.2,HM.out.2.1];omega),HM.out.2.1];omega)
 have HG2:=Ì (And.intro Ϩ Î);clear Ϩ Î;go_wp2;go_ret;exact⟨rfl,(iG.out.2.trans HG2.out.2),HG2.out.1⟩
theorem VU(w:World)(g n cap i j:Nat)(L:List Value)(hg:w.heap[g]? = some (.cells L.toArray 78 (0,0)))(hL:L.length=cap*4)(hn:n<=cap)(hm:cap<=maxLen)(hj:j=i+2)(hjn:j<n)(b c:Nat)(ys:List Value)(hy:ys.length=4)
  (Ĳ:∀q u,ys[q]? = some u->w.cell? ((⟨b,0,none⟩:Addr).add q)=some u) (h1:∀u∈ys,u.oneCell'=true) (hL1:∀u∈L.take (n*4),u.oneCell'=true) :
  Calls prog 27 #[.slice (some ⟨g,0,none⟩) n cap,.int .i64 (i:Int),.int .i64 (j:Int),.slice (some ⟨b,0,none⟩) 1 c] w λe w'=>e = .returned (.slice (some ⟨g,0,none⟩) (n-1) cap)/\jI g w w' /\
   w'.heap[g]? = some (.cells (dS (dS (dS L (i*4) ys) ((i+1)*4) (((dS L (i*4) ys).drop (j*4)).take ((n-j)*4))) ((n-1)*4) Em.cells.toList).toArray 78 (0,0)):=by
 have HM:=Ì (And.intro hg (And.intro hL (And.intro hm Ĳ)));have HN:=Ì (And.intro hj (And.intro hn (And.intro h1 hy)));obtain⟨iB,hIB,hB0,Ŷ,Ŭ⟩:=info_parts Tryz.infoBk;have Y4:=Ì (And.intro hIB (And.intro hB0 Ŷ));have hm':cap<=9223372036854775807:=hm;have x1:¬ i=j:=by omega
 have x2:¬ j=n:=by omega
 have x3:¬ cap=i:=by omega
 have x4:¬ cap=i+1:=by omega
 have x5:¬ cap=j:=by omega
 have i1:i<=cap:=by omega
 have i2:j<=cap:=by omega
 have i3:i<=j:=by omega
 have i4:j<=n:=by omega
 obtain⟨m,Û⟩:∃m,m=n-1:=⟨_,rfl⟩;have HT:Hid ((i:Int)+1+((n-j:Nat):Int)=(m:Int)):=show _=_ by omega
 have i5:m<=cap:=by omega
 have i6:¬ cap<m:=by omega
 have i7:i<=m:=by omega
 have i8:i+1<=m:=by omega
 have i9:i+1<=j:=by omega
 have y0:IntKind.i64.wrap ((i:Int)+1)=(i:Int)+1:=IntWalk.i64_in _ (by omega);have y1:(0:Int)<=(i:Int)+1:=by omega
 have y2:(i:Int)+1<=(m:Int):=by omega
 have y3:((i:Int)+1).toNat=i+1:=by omega
 have i10:m<=n:=by omega
 have i11:n-m=1:=by omega
 have x6:¬ cap=m:=by omega
 have HP:Hid (1=Nat.min 1 (m-i)/\n-j=Nat.min (n-j) (m-(i+1))/\m+1<=cap/\i+2+(n-j)<=cap):=⟨by show 1=min 1 (m-i);omega,by show n-j=min (n-j) (m-(i+1));omega,by omega,by omega⟩;rw[<-Û];have Xa:=Ì Û;have HL1:=Ì hL1;clear hg hL hm Ĳ hj hn h1 hy hIB hB0 Ŷ Ŭ hjn Û hL1;go_enter func27,ntmps27;go_wp2_with fail;go_quiet (fail);rw[HT.out];obtain⟨w1,k1,aor,Ϻ,Ę⟩:∃w1 k1,(∀ty,(Builtin.copy_ #[46,46] ty #[.slice (some ⟨g,i*4,none⟩) (m-i) (cap-i),.slice (some ⟨b,0,none⟩) 1 c]).run prog (w.drewN nq) = .ok k1 w1)/\w1.heap[g]? = some (.cells (dS L (i*4) ys).toArray 78 (0,0))/\jI g w w1:=
  ad8 w (w.drewN nq) rfl g (i*4) (m-i) (cap-i) ⟨b,0,none⟩ 1 c L ys HM.out.1 (by rw[<-HP.out.1];exact HN.out.2.2.2) HM.out.2.2.2 (by rw[HN.out.2.2.2,HM.out.2.1];omega) HN.out.2.2.1 ⟨rfl,rfl,rfl,rfl,λ_ _=>rfl⟩
 obtain⟨L1,QF⟩:∃L1,L1=dS L (i*4) ys:=⟨_,rfl⟩;obtain⟨cs,Ϧ⟩:∃cs,cs=(L1.drop (j*4)).take ((n-j)*4):=⟨_,rfl⟩;have Ş:L1.length=cap*4:=by rw[QF,uF _ _ _ (by rw[HN.out.2.2.2,HM.out.2.1];omega),HM.out.2.1]
 have Δ:cs.length=(n-j)*4:=by
  have:=HN.out.2.1;rw[Ϧ,List.length_take,List.length_drop,Ş];omega
 have HC:Hid (cs.length=Nat.min (n-j) (m-(i+1))*4/\(i+1)*4+cs.length<=L1.length/\∀v∈cs,v.oneCell'=true):=by
  refine⟨by rw[<-HP.out.2.1];exact Δ,?_,λv hv=>?_⟩
  ·have:=HP.out.2.2.2;rw[Δ,Ş];omega
  ·rw[Ϧ,QF,ag4 L ys i j n cap HM.out.2.1 HN.out.2.1 HN.out.1 i4 HN.out.2.2.2] at hv;exact HL1.out v (List.mem_of_mem_drop hv)
 have hg1':=Ϻ;rw[<-QF] at hg1';have HS:Hid (∀q v,cs[q]? = some v->w1.cell? ((⟨g,j*4,none⟩:Addr).add q)=some v):=λq v hv=>by
  rw[Ϧ,List.getElem?_take] at hv;rw[Addr.add_lit,cell_of_row w1 g _ _ _ _ hg1'];split at hv
  ·rw[List.getElem?_drop] at hv;simpa using hv
  ·cases hv
 have iG:=Ì (And.intro hg1' Ę);have HE:=Ì (And.intro QF (And.intro Ϧ Ş));clear Ϻ Ę hg1' QF Ϧ Ş Δ;go_wp2_with fail;go_region_law (refine Li rfl (.tmp 103) (.tmp 106) 46 46 rfl 78 4 underlying46 Tryz.sizeBk g ((i+1)*4) (m-(i+1)) (cap-(i+1)) ⟨g,j*4,none⟩ (n-j) (cap-j) (by simp[Act.eval,Act.put]) (by simp[Act.eval,Act.put]) L1 78 iG.out.1 cs HC.out.1 HS.out HC.out.2.1 HC.out.2.2 ?_;intro w2 k2 Ϩ Î);all_goals
  have ahc:jI g w w2:=iG.out.2.trans ⟨Î.os,Î.tape,Î.output,Î.size,Î.block⟩;obtain⟨w3,aos,hg3,ř⟩:∃w3,(∀ty,(Builtin.clear_ #[46] ty #[.slice (some ⟨g,m*4,none⟩) 1 (cap-m)]).run prog w2 = .ok (.tuple #[]) w3)/\w3.heap[g]? = some (.cells (dS (dS L1 ((i+1)*4) cs) (m*4) Em.cells.toList).toArray 78 (0,0))/\jI g w2 w3:=
   QE w2 g (m*4) (cap-m) (dS L1 ((i+1)*4) cs) Ϩ (by have:=HP.out.2.2.1;rw[uF _ _ _ HC.out.2.1,HE.out.2.2];omega)
  have HG3:=Ì (And.intro hg3 (ahc.trans ř));clear Ϩ Î ahc hg3 ř;go_wp2;go_ret;exact⟨rfl,HG3.out.2,by rw[<-HE.out.1,<-HE.out.2.1];exact HG3.out.1⟩
theorem VW(w:World)(base g n cap i j:Nat)(xs:List Value)(ό:w.ownsRow base 78 4 (.slice (some ⟨g,0,none⟩) n cap) n xs)(hj:j=i+2)(hjn:j<=n)(b c:Nat)(ys:List Value)(hy:ys.length=4)
  (Ĳ:∀q u,ys[q]? = some u->w.cell? ((⟨b,0,none⟩:Addr).add q)=some u) (h1:∀u∈ys,u.oneCell'=true) (ξ:∀u∈xs,u.oneCell'=true) :
  Calls prog 27 #[.slice (some ⟨g,0,none⟩) n cap,.int .i64 (i:Int),.int .i64 (j:Int),.slice (some ⟨b,0,none⟩) 1 c] w λe w'=>e = .returned (.slice (some ⟨g,0,none⟩) (n-1) cap)/\jI g w w' /\
   w'.ownsRow base 78 4 (.slice (some ⟨g,0,none⟩) (n-1) cap) (n-1) (xs.take (i*4)++ys++xs.drop (j*4)):=by
 rcases ό.2 with⟨hv,_⟩|⟨g',cap',cur,hv,hb,hg,hnc,hcm,Ϧ,htake⟩
 ·cases hv
 ·injection hv with ĝ ψ hv3;injection ĝ with ĝ;injection ĝ with ĝ _ _;subst ĝ hv3;have hL:cur.toList.length=cap*4:=by rw[Array.length_toList];exact Ϧ
  have hg':w.heap[g]? = some (.cells cur.toList.toArray 78 (0,0)):=by rw[Array.toArray_toList];exact hg
  have Τ:=ad4 cur.toList ys Em.cells.toList i n cap hL hnc (by omega) hy TD;have ϐ:(xs.take (i*4)++ys++xs.drop (j*4)).length=(n-1)*4:=by
   have:=ό.1;rw[List.length_append,List.length_append,List.length_take,List.length_drop,hy];omega
  rw[htake,<-hj,show n-i-2=n-j by omega] at Τ;by_cases al9:j=n
  ·subst al9;have e0:i+1=j-1:=by omega
   refine (VT w g j cap i cur.toList hg' hL hnc hcm hj b c ys hy Ĳ h1).mono ?_;rintro e w' ⟨rfl,ho,μ⟩;rw[e0] at μ ⊢;refine⟨rfl,ho,ϐ,.inr ⟨g,cap,_,rfl,hb,μ,by omega,hcm,?_,?_⟩⟩
   ·rw[Nat.sub_self,Nat.zero_mul,List.take_zero,Nb] at Τ;rw[List.size_toArray];exact Τ.1
   ·rw[Nat.sub_self,Nat.zero_mul,List.take_zero,Nb] at Τ;exact Τ.2
  ·refine (VU w g n cap i j cur.toList hg' hL hnc hcm hj (by omega) b c ys hy Ĳ h1 (by rw[htake];exact ξ)).mono ?_;rintro e w' ⟨rfl,ho,μ⟩;refine⟨rfl,ho,ϐ,.inr ⟨g,cap,_,rfl,hb,μ,by omega,hcm,?_,?_⟩⟩
   ·rw[List.size_toArray];exact Τ.1
   ·exact Τ.2
theorem Bq:∀(A:List Bk) (a:List (Value×Value)) (_:a.length=A.length) (C:List Bk) (c:List (Value×Value)),bQ (A++C) (a++c)=bQ A a++bQ C c
 | [],[],_,_,_=>rfl
 | [],_::_,h,_,_=>by cases h
 | _::_,[],h,_,_=>by cases h
 | b::A,v::a,h,C,c=>by
  have:=Bq A a (by simpa using h) C c;show _::_::_::_::bQ (A++C) (a++c)=_;rw[this];rfl
theorem QG(m:Nat)(Bs:List Bk)(vs:List (Value×Value))(h:vs.length=Bs.length)(hm:m<=Bs.length):(bQ Bs vs).take (m*4)=bQ (Bs.take m) (vs.take m):=by
 have e:bQ Bs vs=bQ (Bs.take m) (vs.take m)++bQ (Bs.drop m) (vs.drop m):=by
  rw[<-Bq _ _ (by simp[h]),List.take_append_drop,List.take_append_drop]
 rw[e,List.take_left' (by rw[Bo _ _ (by simp[h]),List.length_take,Nat.min_eq_left hm])]
theorem abl{wr w':World}{base g n cap:Nat}{Bs:List Bk}{vs:List (Value×Value)}(hl:vs.length=Bs.length)(hn:n=Bs.length)
  (hr:∀i (hi:i<Bs.length) (hv:i<vs.length),wr.ownsRow base 9 1 vs[i].1 Bs[i].2.2.length ((Bs[i].2.2.map Prod.fst).map encStr)/\wr.ownsRow base 9 1 vs[i].2 Bs[i].2.2.length ((Bs[i].2.2.map λr=>fI r.2).map encStr))
  (ho:jI g wr w') {cur:Array Value} (hg:wr.heap[g]? = some (.cells cur 78 (0,0))) (i:Nat) (hi:i+2<=n) (b:Bk) (v:Value×Value)
  (h1:wr.ownsRow base 9 1 v.1 b.2.2.length ((b.2.2.map Prod.fst).map encStr)) (h2:wr.ownsRow base 9 1 v.2 b.2.2.length ((b.2.2.map λr=>fI r.2).map encStr))
  (ό:w'.ownsRow base 78 4 (.slice (some ⟨g,0,none⟩) (n-1) cap) (n-1) ((bQ Bs vs).take (i*4) ++ [.int .i64 b.1,.int .i64 b.2.1,v.1,v.2]++(bQ Bs vs).drop ((i+2)*4))) :
  mo w' base (.slice (some ⟨g,0,none⟩) (n-1) cap) (Bs.take i++b::Bs.drop (i+2)) (g::(vs.take i++v::vs.drop (i+2)).flatMap ownB):=by
 subst hn;have oV:∀ {u:Value} {m:Nat} {xs:List Value},wr.ownsRow base 9 1 u m xs->w'.ownsRow base 9 1 u m xs:=fun {u m xs} hu=>by
  refine bL hu λq hq=>ho.block q λe=>?_
  subst e;obtain⟨_,_,cur',hc⟩:=aH hu hq;rw[hg] at hc;injection hc with hc;injection hc with _ hc;revert hc;decide
 have ϐ:(Bs.take i++b::Bs.drop (i+2)).length=Bs.length-1:=by
  rw[List.length_append,List.length_cons,List.length_take,List.length_drop];omega
 have hlv:(vs.take i++v::vs.drop (i+2)).length=(Bs.take i++b::Bs.drop (i+2)).length:=by
  rw[List.length_append,List.length_append,List.length_cons,List.length_cons,List.length_take,List.length_drop,List.length_take,List.length_drop,hl]
 refine⟨_,hlv,rfl,?_,?_⟩
 ·rw[ϐ,Bq _ _ (by simp[hl])];rw[QG i Bs vs hl (by omega),zX (i+2) Bs vs hl,List.append_assoc] at ό;exact ό
 ·intro k hk hkv;rcases Nat.lt_trichotomy k i with hki|hki|hki
  ·have e1:(Bs.take i++b::Bs.drop (i+2))[k]=Bs[k]'(by omega):=by
    rw[List.getElem_append_left (by rw[List.length_take];omega),List.getElem_take]
   have e2:(vs.take i++v::vs.drop (i+2))[k]=vs[k]'(by omega):=by
    rw[List.getElem_append_left (by rw[List.length_take];omega),List.getElem_take]
   rw[e1,e2];obtain⟨r1,r2⟩:=hr k (by omega) (by omega);exact⟨oV r1,oV r2⟩
  ·subst hki;have e1:(Bs.take k++b::Bs.drop (k+2))[k]=b:=by
    rw[List.getElem_append_right (by rw[List.length_take];omega)];simp only[List.length_take,Nat.min_eq_left (show k<=Bs.length by omega),Nat.sub_self,List.getElem_cons_zero]
   have e2:(vs.take k++v::vs.drop (k+2))[k]=v:=by
    rw[List.getElem_append_right (by rw[List.length_take];omega)];simp only[List.length_take,Nat.min_eq_left (show k<=vs.length by omega),Nat.sub_self,List.getElem_cons_zero]
   rw[e1,e2];exact⟨oV h1,oV h2⟩
  ·have hk':k+1<Bs.length:=by omega
   have e1:(Bs.take i++b::Bs.drop (i+2))[k]? = Bs[k+1]?:=by
    rw[List.getElem?_append_right (by rw[List.length_take];omega),List.length_take,Nat.min_eq_left (by omega),show k-i=(k-i-1)+1 by omega,List.getElem?_cons_succ,List.getElem?_drop];congr 1;omega
   have e2:(vs.take i++v::vs.drop (i+2))[k]? = vs[k+1]?:=by
    rw[List.getElem?_append_right (by rw[List.length_take];omega),List.length_take,Nat.min_eq_left (by omega),show k-i=(k-i-1)+1 by omega,List.getElem?_cons_succ,List.getElem?_drop];congr 1;omega
   rw[List.getElem?_eq_getElem hk,List.getElem?_eq_getElem hk',Option.some.injEq] at e1;rw[List.getElem?_eq_getElem hkv,List.getElem?_eq_getElem (by omega),Option.some.injEq] at e2;rw[e1,e2];obtain⟨r1,r2⟩:=hr (k+1) hk' (by omega);exact⟨oV r1,oV r2⟩
def uI(b:Bk):List (List UInt8):=b.2.2.map Prod.fst
noncomputable def uJ(b:Bk):List (List UInt8):=b.2.2.map λr=>fI r.2
noncomputable def vN(a b:Bk):Int:=zT a.1 a.2.1 (uI a) (uJ a) b.1 b.2.1 (uI b) (uJ b)
noncomputable def ama(a b:Bk):Int:=Eh a.1 a.2.1 (uI a) (uJ a) b.1 b.2.1 (uI b) (uJ b)
noncomputable def vO(a b:Bk):Bk:=(a.1,a.2.1+b.2.1,bG (rowsOf (uI a) (uJ a)) (rowsOf (uI b) (uJ b)))
structure Kr(ea:Nat->Addr)(w2 z:World)(a b:Bk)(p q:Int)(u1 u2 v3:Value):Prop where
 aI:Below w2.heap.size w2 z
 MW:aM ea z v3 (vN a b) (ama a b)
 res:(vN a b=0/\p=(vO a b).1/\q=(vO a b).2.1/\z.ownsRow w2.heap.size 9 1 u1 (vO a b).2.2.length (((vO a b).2.2.map Prod.fst).map encStr)/\z.ownsRow w2.heap.size 9 1 u2 (vO a b).2.2.length (((vO a b).2.2.map λr=>fI r.2).map encStr))\/(vN a b≠0/\p=0/\q=0/\u1 = .slice none 0 0/\u2 = .slice none 0 0)
theorem Kr.below{ea:Nat->Addr}{w2 z z':World}{a b:Bk}{p q:Int}{u1 u2 v3:Value}(h:Kr ea w2 z a b p q u1 u2 v3)(hb:Below z.heap.size z z'):Kr ea w2 z' a b p q u1 u2 v3:=
 ⟨h.aI.trans (hb.mono h.aI.size),h.MW.below hb,h.res.imp (λg=>⟨g.1,g.2.1,g.2.2.1,bK g.2.2.2.1 hb,bK g.2.2.2.2 hb⟩) id⟩
theorem Kr.tQ{ea:Nat->Addr}{w2 z:World}{a b:Bk}{p q:Int}{u1 u2 v3:Value}(h:Kr ea w2 z a b p q u1 u2 v3){c:Nat}{p0 p2 p3:Value}{k:Int}(hz:z.heap[c]? = some (.cells #[p0,.int .i64 k,p2,p3] 78 (0,0)))(hb:w2.heap.size<=c)(x0 x1 x2 x3:Value):Kr ea w2 ((((z.setCell ⟨c,0,none⟩ x0).setCell ⟨c,1,none⟩ x1).setCell ⟨c,2,none⟩ x2).setCell ⟨c,3,none⟩ x3) a b p q u1 u2 v3:=
 ⟨pq h.aI hb _ _ _ _,yU h.MW hz _ _ _ _,h.res.imp (λg=>⟨g.1,g.2.1,g.2.2.1,qM g.2.2.2.1 hz (by decide) _ _ _ _,qM g.2.2.2.2 hz (by decide) _ _ _ _⟩) id⟩
def VX(ea:Nat->Addr)(w2 z:World)(a b:Bk)(v7 v9:Value):Prop:=
 ∃(jb:Nat) (p q:Int) (g1 g2:Option Addr) (n1 n2 c1 c2:Nat),v9 = .pointer (some ⟨jb,0,none⟩)/\z.heap[jb]? = some (.cells #[.int .i64 p,.int .i64 q,.slice g1 n1 c1,.slice g2 n2 c2] 78 (0,0))/\w2.heap.size<=jb/\Kr ea w2 z a b p q (.slice g1 n1 c1) (.slice g2 n2 c2) v7
theorem abm{B:Nat}{ea:Nat->Addr}(wr z:World)(E:oF B ea z)(hB:B<=z.heap.size)(hz:Below wr.heap.size wr z)(a b:Bk)(base:Nat)(v1 v2 v3 v4:Value)(h1:wr.ownsRow base 9 1 v1 (uI a).length ((uI a).map encStr))(h2:wr.ownsRow base 9 1 v2 (uJ a).length ((uJ a).map encStr))(h3:wr.ownsRow base 9 1 v3 (uI b).length ((uI b).map encStr))(h4:wr.ownsRow base 9 1 v4 (uJ b).length ((uJ b).map encStr))
  (ha:∀r,r∈a.2.2->r.1.length<=100000/\(fI r.2).length<=10000) (hb:∀r,r∈b.2.2->r.1.length<=100000/\(fI r.2).length<=10000) (hna:a.2.2.length<=100000) (Α:b.2.2.length<=100000) :
  Calls prog 26 #[.agg #[.int .i64 a.1,.int .i64 a.2.1,v1,v2],.agg #[.int .i64 b.1,.int .i64 b.2.1,v3,v4]] z λe z'=>∃p q g1 g2 n3 n4 k3 k4 v3,e = .returned (.tuple #[.agg #[.int .i64 p,.int .i64 q,.slice g1 n3 k3,.slice g2 n4 k4],v3])/\Below wr.heap.size wr z'/\Below z.heap.size z z'/\Kr ea wr z' a b p q (.slice g1 n3 k3) (.slice g2 n4 k4) v3:=by
 refine (Vq z E hB a.1 a.2.1 b.1 b.2.1 base base base base v1 v2 v3 v4 (uI a) (uJ a) (uI b) (uJ b) (bK h1 hz) (bK h2 hz) (bK h3 hz) (bK h4 hz) (λx hx=>?_) (λx hx=>?_) (λx hx=>?_) (λx hx=>?_) (by rw[uI,List.length_map];exact hna) (by rw[uJ,List.length_map];exact hna) (by rw[uI,List.length_map];exact Α) (by rw[uJ,List.length_map];exact Α)).mono ?_
 ·obtain⟨r,hr,rfl⟩:=List.mem_map.1 hx;exact (ha r hr).1
 ·obtain⟨r,hr,rfl⟩:=List.mem_map.1 hx;exact (ha r hr).2
 ·obtain⟨r,hr,rfl⟩:=List.mem_map.1 hx;exact (hb r hr).1
 ·obtain⟨r,hr,rfl⟩:=List.mem_map.1 hx;exact (hb r hr).2
 ·rintro e z' ⟨v,vT,tZ,⟨h0,u1,u2,rfl,o1,o2⟩|⟨h0,rfl⟩⟩
  ·have h2:=hz.trans (vT.mono hz.size);have Yo:=jQ o1 hz.size;have Yp:=jQ o2 hz.size;obtain⟨ua,uc,rfl⟩:=bM o1;obtain⟨ub,ud,rfl⟩:=bM o2;exact⟨_,_,_,_,_,_,_,_,_,rfl,h2,vT,h2,tZ,.inl ⟨h0,rfl,rfl,Yo,Yp⟩⟩
  ·have h2:=hz.trans (vT.mono hz.size);exact⟨_,_,_,_,_,_,_,_,_,rfl,h2,vT,h2,tZ,.inr ⟨h0,rfl,rfl,rfl,rfl⟩⟩
theorem abn{w wa wr Z w7:World}{sb hb db:Nat}{S:List Sr}{d:Dk}{Bs:List Bk}{span keep:Int}{G F H:List Nat}{g n cB:Nat}(ϔ:fK w wa sb hb db S d Bs span keep (.slice (some ⟨g,0,none⟩) n cB) G F H)(hn:n=Bs.length){vs:List (Value×Value)}(ϧ:vs.length=Bs.length)(nZ:H=(Value.slice (some ⟨g,0,none⟩) n cB).ownBlock.toList++vs.flatMap ownB)
  (gQ:wa.ownsRow w.heap.size 78 4 (.slice (some ⟨g,0,none⟩) n cB) n (bQ Bs vs))
  (í:∀i (hi:i<Bs.length) (hv:i<vs.length),wa.ownsRow w.heap.size 9 1 vs[i].1 Bs[i].2.2.length ((Bs[i].2.2.map Prod.fst).map encStr)/\wa.ownsRow w.heap.size 9 1 vs[i].2 Bs[i].2.2.length ((Bs[i].2.2.map λr=>fI r.2).map encStr))
  (ϝ:Below wa.heap.size wa wr) (hZ:Below wr.heap.size wr Z) (k:Nat) (hk:k+2<=n) (b:Bk) (u1 u2:Value)
  (o1:Z.ownsRow wr.heap.size 9 1 u1 b.2.2.length ((b.2.2.map Prod.fst).map encStr)) (o2:Z.ownsRow wr.heap.size 9 1 u2 b.2.2.length ((b.2.2.map λr=>fI r.2).map encStr)) (ho:jI g Z w7)
  (ό:w7.ownsRow w.heap.size 78 4 (.slice (some ⟨g,0,none⟩) (n-1) cB) (n-1) ((bQ Bs vs).take (k*4) ++ [.int .i64 b.1,.int .i64 b.2.1,u1,u2]++(bQ Bs vs).drop ((k+2)*4))) :
  ∃H',fK w (w7.setCell ⟨sb,4,none⟩ (.slice (some ⟨g,0,none⟩) (n-1) cB)) sb hb db S d (Bs.take k++b::Bs.drop (k+2)) span keep (.slice (some ⟨g,0,none⟩) (n-1) cB) G F H'/\Kept (sb::H) wa (w7.setCell ⟨sb,4,none⟩ (.slice (some ⟨g,0,none⟩) (n-1) cB))/\∀x,x∈H'->x∈H\/wa.heap.size<=x:=by
 have Kt:Below wa.heap.size wa Z:=ϝ.trans (hZ.mono ϝ.size);have hgH:g∈H:=by rw[nZ];simp[Value.ownBlock]
 have hsg:sb≠g:=λe=>ϔ.sH (e ▸ hgH)
 have Ĥ:sb<wa.heap.size:=aC ϔ.blk;obtain⟨_,ŝ,cur,Ğ⟩:=aH (bK gQ Kt) (show _=some g from rfl);have F7:w7.heap[sb]? = wa.heap[sb]?:=(ho.block sb hsg).trans (Kt.block sb Ĥ);have Ι:=abl ϧ hn (λi hi hv=>⟨bK (í i hi hv).1 Kt,bK (í i hi hv).2 Kt⟩) ho Ğ k hk b (u1,u2) (jQ o1 (Nat.le_trans ϔ.aI.size ϝ.size)) (jQ o2 (Nat.le_trans ϔ.aI.size ϝ.size)) ό;have Â:∀x,x∈g::(vs.take k++(u1,u2)::vs.drop (k+2)).flatMap ownB->x∈H\/wr.heap.size<=x:=λx hx=>by
  rcases List.mem_cons.1 hx with rfl|hx
  ·exact .inl hgH
  ·obtain⟨v,hv,hxv⟩:=List.mem_flatMap.1 hx;rcases List.mem_append.1 hv with hv|hv
   ·exact .inl (by rw[nZ];exact List.mem_append.2 (.inr (List.mem_flatMap.2 ⟨v,List.mem_of_mem_take hv,hxv⟩)))
   ·rcases List.mem_cons.1 hv with rfl|hv
    ·rcases List.mem_append.1 hxv with hxv|hxv
     ·exact .inr (uz o1 hxv).1
     ·exact .inr (uz o2 hxv).1
    ·exact .inl (by rw[nZ];exact List.mem_append.2 (.inr (List.mem_flatMap.2 ⟨v,List.mem_of_mem_drop hv,hxv⟩)))
 have Ľ:∀x,x≠sb->(w7.setCell ⟨sb,4,none⟩ (.slice (some ⟨g,0,none⟩) (n-1) cB)).heap[x]? = w7.heap[x]?:=λx hx=>Cb (Ne.symm hx) _ _
 have Š:Kept (sb::H) wa (w7.setCell ⟨sb,4,none⟩ (.slice (some ⟨g,0,none⟩) (n-1) cB)):=
  ⟨ho.os.trans Kt.os,ho.tape.trans Kt.tape,ho.output.trans Kt.output,by
   have h1:=Kt.size;have h2:=ho.size;simp[World.setCell];omega,λx hx hm=>by
   rw[Ľ x λe=>hm (by simp[e]),ho.block x λe=>hm (by simp[e,hgH])];exact Kt.block x hx⟩
 refine⟨_,ϔ.blocks Š ((dU (F7.trans ϔ.blk) 4 _).trans rfl) (Ι.same λx hx=>Ľ x λe=>?_) λx hx=>(Â x hx).imp id λh=>Nat.le_trans ϝ.size h,Š,λx hx=>(Â x hx).imp id λh=>Nat.le_trans ϝ.size h⟩;subst e;rcases Â x hx with h|h
 ·exact ϔ.sH h
 ·have:=ϝ.size;omega
def ad9(w wa:World)(sb hb db:Nat)(S:List Sr)(d:Dk)(Bs:List Bk)(span keep:Int)(vB:Value)(G F H:List Nat)(e:Ending)(w':World):Prop:=
 (∃(k:Nat) (hk:k+1<Bs.length) (oH:Value) (H':List Nat),(∀q (hq:q<k),vN (Bs[q]'(by omega)) (Bs[q+1]'(by omega))≠0)/\vN (Bs[k]'(by omega)) Bs[k+1]=0/\e = .returned (.tuple #[.bool true,.nilIface])/\fK w w' sb hb db S d (Bs.take k++vO (Bs[k]'(by omega)) Bs[k+1]::Bs.drop (k+2)) span keep oH G F H'/\Kept (sb::H) wa w'/\(∀x,x∈H'->x∈H\/wa.heap.size<=x)) \/
 ((∀q (hq:q+1<Bs.length),vN (Bs[q]'(by omega)) Bs[q+1]≠0)/\e = .returned (.tuple #[.bool false,.nilIface])/\fK w w' sb hb db S d Bs span keep vB G F H/\Below wa.heap.size wa w')
theorem VY{B:Nat}{ea:Nat->Addr}(w wa:World)(E:oF B ea w)(hB:B<=w.heap.size)(sb hb db:Nat)(S:List Sr)(d:Dk)(Bs:List Bk)(span keep:Int)(vB:Value)(G F H:List Nat)(h:fK w wa sb hb db S d Bs span keep vB G F H)(hn:Bs.length<=100000)
  (Ê:∀b,b∈Bs->b.2.2.length<=100000/\∀r,r∈b.2.2->r.1.length<=100000/\(fI r.2).length<=10000) :
  Calls prog 9 #[.pointer (some ⟨sb,0,none⟩)] wa λe w'=>ad9 w wa sb hb db S d Bs span keep vB G F H e w':=by
 obtain⟨vs,ϧ,nZ,gQ,í⟩:=h.vL.ex;obtain⟨aB,cB,rfl⟩:=bM gQ;obtain⟨n,ϰ⟩:∃n,n=Bs.length:=⟨_,rfl⟩;have HST:=Ì h;have x4:=ak h.blk 4;simp at x4;rw[<-ϰ] at x4 gQ hn;have oQ:=Ì (And.intro ϧ (And.intro nZ (And.intro gQ (And.intro í ϰ))));have HE:=Ì E;have oI:=Ì Ê;have pF:sb<wa.heap.size:=aC h.blk;clear h E ϧ nZ gQ í ϰ Ê;go_enter func9,ntmps9;go_wp2_with fail;go_loopw [4] (λii wr=>∃(i:Nat),1<=i/\(i<=n\/i=1)/\ii = .int .i64 (i:Int)/\Below wa.heap.size wa wr/\(∀q (hq:q+1<Bs.length),q+1<i->vN (Bs[q]'(by omega)) Bs[q+1]≠0)) (λii _=>n-(intOf ii).toNat);case atStart=>exact⟨1,Nat.le_refl _,.inr rfl,by go_num,Below.refl _ _,λq _ hq=>by omega⟩
 case round=>
  obtain⟨i,hi1,hin',rfl,ϝ,Ϣ⟩:=hrel;have bE:=Ì ϝ;have FP:=Ì Ϣ;have x4':=(ϝ.cell (p:=⟨sb,4,none⟩) pF).trans x4;by_cases ϥ:i<n
  ·obtain⟨ϧ,nZ,gQ,í,ϰ⟩:=oQ.out;obtain⟨k,hki⟩:∃k,i=k+1:=⟨i-1,by omega⟩;have ϒ:k<Bs.length:=by omega
   have ϩ:i<Bs.length:=by omega
   obtain⟨g,p1,t1,p2,t2,rfl,c0,c1,c2,c3,r1,r2⟩:=Kq gQ ϰ ϧ í ϝ k ϒ;obtain⟨g',p3,t3,p4,t4,hgg,c4,c5,c6,c7,r3,r4⟩:=Kq gQ ϰ ϧ í ϝ i ϩ;obtain rfl:g=g':=by injection hgg with hgg;injection hgg with hgg _ _
   obtain⟨a,ha⟩:∃a,a=Bs[k]:=⟨_,rfl⟩;obtain⟨b,hbe⟩:∃b,b=Bs[i]:=⟨_,rfl⟩;rw[<-ha] at c0 c1 c2 c3 r1 r2;rw[<-hbe] at c4 c5 c6 c7 r3 r4;obtain⟨f,hf⟩:∃f,f=a.1:=⟨_,rfl⟩;obtain⟨s,hs⟩:∃s,s=a.2.1:=⟨_,rfl⟩;obtain⟨f',hf'⟩:∃f',f'=b.1:=⟨_,rfl⟩;obtain⟨s',hs'⟩:∃s',s'=b.2.1:=⟨_,rfl⟩;obtain⟨m,hm⟩:∃m,m=a.2.2.length:=⟨_,rfl⟩;obtain⟨m',hm'⟩:∃m',m'=b.2.2.length:=⟨_,rfl⟩;have abo:=ak ((ϝ.block _ pF).trans HST.out.blk) 4;rw[<-ϰ] at abo;have hia:=oI.out a (by rw[ha];exact List.getElem_mem ϒ);have hib:=oI.out b (by rw[hbe];exact List.getElem_mem ϩ);have AJ:Hid (∀z,Below wr.heap.size wr z->Calls prog 26 #[.agg #[.int .i64 f,.int .i64 s,.slice p1 m t1,.slice p2 m t2],.agg #[.int .i64 f',.int .i64 s',.slice p3 m' t3,.slice p4 m' t4]] z λe z'=>∃p q g1 g2 n3 n4 k3 k4 v3,e = .returned (.tuple #[.agg #[.int .i64 p,.int .i64 q,.slice g1 n3 k3,.slice g2 n4 k4],v3])/\Below wr.heap.size wr z'/\Below z.heap.size z z'/\Kr ea wr z' a b p q (.slice g1 n3 k3) (.slice g2 n4 k4) v3):=λz hz=>by
    have FU:Below w.heap.size w z:=(HST.out.aI.trans (ϝ.mono HST.out.aI.size)).trans (hz.mono (Nat.le_trans HST.out.aI.size ϝ.size));rw[hf,hs,hf',hs',hm,hm'];exact abm wr z (HE.out.below FU hB) (Nat.le_trans hB FU.size) hz a b _ _ _ _ _ (by rw[uI,List.length_map];exact r1) (by rw[uJ,List.length_map];exact r2) (by rw[uI,List.length_map];exact r3) (by rw[uJ,List.length_map];exact r4) hia.2 hib.2 hia.1 hib.1
   rw[<-hf] at c0;rw[<-hs] at c1;rw[<-hm] at c2 c3;rw[<-hf'] at c4;rw[<-hs'] at c5;rw[<-hm'] at c6 c7;have ŝ:g<wr.heap.size:=World.block_lt_of_cell? wr ⟨g,_,none⟩ c0;have jl:Hid (∀z,Below wr.heap.size wr z->z.cell? ⟨sb,4,none⟩=some (.slice (some ⟨g,0,none⟩) n cB)/\z.cell? ⟨g,k*4,none⟩=some (.int .i64 f)/\z.cell? ⟨g,k*4+1,none⟩=some (.int .i64 s)/\z.cell? ⟨g,k*4+2,none⟩=some (.slice p1 m t1)/\z.cell? ⟨g,k*4+3,none⟩=some (.slice p2 m t2)/\z.cell? ⟨g,i*4,none⟩=some (.int .i64 f')/\z.cell? ⟨g,i*4+1,none⟩=some (.int .i64 s')/\z.cell? ⟨g,i*4+2,none⟩=some (.slice p3 m' t3)/\z.cell? ⟨g,i*4+3,none⟩=some (.slice p4 m' t4)):=λz hz=>by
    have hc:∀q:Nat,z.cell? ⟨g,q,none⟩=wr.cell? ⟨g,q,none⟩:=λq=>hz.cell (p:=⟨g,q,none⟩) ŝ
    exact⟨(hz.cell (p:=⟨sb,4,none⟩) (Nat.lt_of_lt_of_le pF ϝ.size)).trans abo,(hc _).trans c0,(hc _).trans c1,(hc _).trans c2,(hc _).trans c3,(hc _).trans c4,(hc _).trans c5,(hc _).trans c6,(hc _).trans c7⟩
   have HB0:Hid (Below wr.heap.size wr wr.drew):=fB (Below.refl _ _);have Y5:=Ì (And.intro hki (And.intro ha (And.intro hbe (And.intro ϒ ϩ))));have y0:IntKind.i64.wrap ((i:Int)-1)=(k:Int):=by
    rw[IntWalk.i64_in _ (by omega)];omega
   have k0:(0:Int)<=(k:Int):=by omega
   have k1:(k:Int)<(n:Int):=by omega
   have k2:(0:Int)<=(i:Int):=by omega
   have k3:(i:Int)<(n:Int):=by omega
   have kn:k<n:=by omega
   clear ϝ Ϣ ϧ nZ gQ í ϰ c0 c1 c2 c3 c4 c5 c6 c7 r1 r2 r3 r4 ha hbe hf hs hf' hs' hm hm' abo hia hib hki hgg;go_upto_region 4 with fail;clear x4';go_cut [5,6] from 16 to 34 (λv5 v6 wz=>VX ea wr wz a b v6 v5);case first=>
    refine jw (S:=λz=>z.cell? ⟨sb,4,none⟩=some (.slice (some ⟨g,0,none⟩) n cB)/\z.cell? ⟨g,k*4,none⟩=some (.int .i64 f)/\z.cell? ⟨g,k*4+1,none⟩=some (.int .i64 s)/\z.cell? ⟨g,k*4+2,none⟩=some (.slice p1 m t1)/\z.cell? ⟨g,k*4+3,none⟩=some (.slice p2 m t2)/\z.cell? ⟨g,i*4,none⟩=some (.int .i64 f')/\z.cell? ⟨g,i*4+1,none⟩=some (.int .i64 s')/\z.cell? ⟨g,i*4+2,none⟩=some (.slice p3 m' t3)/\z.cell? ⟨g,i*4+3,none⟩=some (.slice p4 m' t4)) (by kernel_rfl) 20 (jl.out _ HB0.out) (λύ=>?_);refine dw 0 17 (.pointer (some ⟨sb,0,none⟩)) ύ rfl rfl ?_ ?_
    ·intro w _;go_simp
    try simp only[Act.put,û,ü,ý]
    refine dw 1 18 (.pointer (some ⟨sb,0,none⟩)) ύ rfl rfl ?_ ?_
    ·intro w _;go_simp
    try simp only[Act.put,û,ü,ý]
    refine dw 2 19 (.pointer (some ⟨sb,4,none⟩)) ύ rfl rfl ?_ ?_
    ·intro w _;go_simp
    try simp only[Act.put,û,ü,ý]
    refine nJ 3 20 (.slice (some ⟨g,0,none⟩) n cB) ύ rfl rfl ?_ ?_
    ·intro w Å;obtain⟨nX,nY,oM,xI,Ik,jh5,jh6,jh7,jh8⟩:=Å;go_simp
    try simp only[Act.put,û,ü,ý]
    refine dw 4 21 (.int .i64 (i:Int)) ύ rfl rfl ?_ ?_
    ·intro w _;go_simp
    try simp only[Act.put,û,ü,ý]
    refine dw 5 22 (.int .i64 (k:Int)) ύ rfl rfl ?_ ?_
    ·intro w _;go_simp
    try simp only[Act.put,û,ü,ý]
    refine dw 6 23 (.pointer (some ⟨g,k*4,none⟩)) ύ rfl rfl ?_ ?_
    ·intro w _;go_simp
    try simp only[Act.put,û,ü,ý]
    refine nJ 7 24 (.agg #[.int .i64 f,.int .i64 s,.slice p1 m t1,.slice p2 m t2]) ύ rfl rfl ?_ ?_
    ·intro w Å;obtain⟨nX,nY,oM,xI,Ik,jh5,jh6,jh7,jh8⟩:=Å;go_simp
    try simp only[Act.put,û,ü,ý]
    refine dw 8 25 (.pointer (some ⟨sb,0,none⟩)) ύ rfl rfl ?_ ?_
    ·intro w _;go_simp
    try simp only[Act.put,û,ü,ý]
    refine dw 9 26 (.pointer (some ⟨sb,0,none⟩)) ύ rfl rfl ?_ ?_
    ·intro w _;go_simp
    try simp only[Act.put,û,ü,ý]
    refine dw 10 27 (.pointer (some ⟨sb,4,none⟩)) ύ rfl rfl ?_ ?_
    ·intro w _;go_simp
    try simp only[Act.put,û,ü,ý]
    refine nJ 11 28 (.slice (some ⟨g,0,none⟩) n cB) ύ rfl rfl ?_ ?_
    ·intro w Å;obtain⟨nX,nY,oM,xI,Ik,jh5,jh6,jh7,jh8⟩:=Å;go_simp
    try simp only[Act.put,û,ü,ý]
    refine dw 12 29 (.int .i64 (i:Int)) ύ rfl rfl ?_ ?_
    ·intro w _;go_simp
    try simp only[Act.put,û,ü,ý]
    refine dw 13 30 (.pointer (some ⟨g,i*4,none⟩)) ύ rfl rfl ?_ ?_
    ·intro w _;go_simp
    try simp only[Act.put,û,ü,ý]
    refine nJ 14 31 (.agg #[.int .i64 f',.int .i64 s',.slice p3 m' t3,.slice p4 m' t4]) ύ rfl rfl ?_ ?_
    ·intro w Å;obtain⟨nX,nY,oM,xI,Ik,jh5,jh6,jh7,jh8⟩:=Å;go_simp
    try simp only[Act.put,û,ü,ý]
    refine dJ (rs:=[15,19]) (by kernel_rfl) (by simp) ?_;refine aW.cons rfl (λK hK=>?_) (aW.cons rfl (λK hK=>?_) aW.nil)
    ·go_simp
     refine Calls.mono (AJ.out _ HB0.out) ?_;rintro e w5 ⟨p,q,g1,g2,n3,n4,k3,k4,v3,rfl,ô,hs5,ø⟩;dsimp only
     refine hK.out _ _ (jl.out _ ô) ?_;clear hK K;try simp only[Act.put,û,ü,ý]
     refine dw 16 16 (.tuple #[.agg #[.int .i64 p,.int .i64 q,.slice g1 n3 k3,.slice g2 n4 k4],v3]) (jl.out _ ô) rfl rfl ?_ ?_
     ·intro w _;go_simp
     try simp only[Act.put,û,ü,ý]
     refine dw 17 33 (.agg #[.int .i64 p,.int .i64 q,.slice g1 n3 k3,.slice g2 n4 k4]) (jl.out _ ô) rfl rfl ?_ ?_
     ·intro w _;go_simp
     try simp only[Act.put,û,ü,ý]
     refine dw 18 34 v3 (jl.out _ ô) rfl rfl ?_ ?_
     ·intro w _;go_simp
     try simp only[Act.put,û,ü,ý]
     refine vI 19 rfl λK hK=>?_
     go_simp
     refine hK.out _ _ (jl.out _ (bN ô (.cells #[.int .i64 0,.int .i64 0,.slice none 0 0,.slice none 0 0] 78))) ?_;clear hK K;try simp only[Act.put,û,ü,ý]
     have ġ:(w5.alloc (.cells #[.int .i64 0,.int .i64 0,.slice none 0 0,.slice none 0 0] 78)).heap[w5.heap.size]? = some (.cells #[.int .i64 0,.int .i64 0,.slice none 0 0,.slice none 0 0] 78 (0,0)):=heap_alloc_new _ _;have oN:wr.heap.size<=w5.heap.size:=ô.size;have j0:=ak ġ 0;have j1:=ak ġ 1;have j2:=ak ġ 2;have j3:=ak ġ 3;simp at j0 j1 j2 j3;have jf:∀k,World.frozen? (w5.alloc (.cells #[.int .i64 0,.int .i64 0,.slice none 0 0,.slice none 0 0] 78)) ⟨w5.heap.size,k,none⟩=false:=λk=>aA ġ k
     refine rD 20 rfl λK hK=>?_
     have Ce:=Ì (show VX ea wr _ a b v3 _ from ⟨_,p,q,g1,g2,n3,n4,k3,k4,rfl,heap_alloc_new _ _,oN,ø.below (bN (Below.refl _ _) _)⟩);go_simp
     refine hK.out _ _ ?_;clear hK K;try simp only[Act.put,û,ü,ý]
     refine rD 21 rfl λK hK=>?_
     go_simp
     refine hK.out _ _ ?_;clear hK K;try simp only[Act.put,û,ü,ý]
     refine fD (by kernel_rfl) ?_ _;clear j0 j1 j2 j3 jf;go_wp2_with fail;go_meet;case rel=>exact Ce.out
    ·go_simp
     refine hK.out _ _ (jl.out _ (bN HB0.out (.cells #[.int .i64 0,.int .i64 0,.slice none 0 0,.slice none 0 0] 78))) ?_;clear hK K;try simp only[Act.put,û,ü,ý]
     have ġ:(wr.drew.alloc (.cells #[.int .i64 0,.int .i64 0,.slice none 0 0,.slice none 0 0] 78)).heap[wr.heap.size]? = some (.cells #[.int .i64 0,.int .i64 0,.slice none 0 0,.slice none 0 0] 78 (0,0)):=heap_alloc_new _ _;have oN:wr.heap.size<=wr.heap.size:=Nat.le_refl _;refine vI 15 rfl λK hK=>?_
     go_simp
     refine Calls.mono (AJ.out _ (bN HB0.out (.cells #[.int .i64 0,.int .i64 0,.slice none 0 0,.slice none 0 0] 78))) ?_;rintro e w5 ⟨p,q,g1,g2,n3,n4,k3,k4,v3,rfl,ô,hs5,ø⟩;dsimp only
     refine hK.out _ _ (jl.out _ ô) ?_;clear hK K;try simp only[Act.put,û,ü,ý]
     have zY:=(hs5.block _ (aC ġ)).trans ġ;refine dw 16 16 (.tuple #[.agg #[.int .i64 p,.int .i64 q,.slice g1 n3 k3,.slice g2 n4 k4],v3]) (jl.out _ ô) rfl rfl ?_ ?_
     ·intro w _;go_simp
     try simp only[Act.put,û,ü,ý]
     refine dw 17 33 (.agg #[.int .i64 p,.int .i64 q,.slice g1 n3 k3,.slice g2 n4 k4]) (jl.out _ ô) rfl rfl ?_ ?_
     ·intro w _;go_simp
     try simp only[Act.put,û,ü,ý]
     refine dw 18 34 v3 (jl.out _ ô) rfl rfl ?_ ?_
     ·intro w _;go_simp
     try simp only[Act.put,û,ü,ý]
     have j0:=ak zY 0;have j1:=ak zY 1;have j2:=ak zY 2;have j3:=ak zY 3;simp at j0 j1 j2 j3;have jf:∀k,World.frozen? w5 ⟨wr.heap.size,k,none⟩=false:=λk=>aA zY k
     refine rD 20 rfl λK hK=>?_
     have Ce:=Ì (show VX ea wr _ a b v3 _ from ⟨_,p,q,g1,g2,n3,n4,k3,k4,rfl,_root_.Go.Proofs.YtololnhfgjbhjaaGreatDoor.tQ zY _ _ _ _,oN,ø.tQ zY oN _ _ _ _⟩);go_simp
     refine hK.out _ _ ?_;clear hK K;try simp only[Act.put,û,ü,ý]
     refine rD 21 rfl λK hK=>?_
     go_simp
     refine hK.out _ _ ?_;clear hK K;try simp only[Act.put,û,ü,ý]
     refine fD (by kernel_rfl) ?_ _;clear j0 j1 j2 j3 jf;go_wp2_with fail;go_meet;case rel=>exact Ce.out
   obtain⟨jb,p,q,g1,g2,n3,n4,k3,k4,rfl,hj,oN,ø⟩:=hcut;have DC:=ø.MW;by_cases hz:vN a b=0
   ·obtain rfl:=DC.none hz;obtain⟨ϧ,nZ,gQ,í,ϰ⟩:=oQ.out;have hwc:Below wa.heap.size wa wc:=bE.out.trans (ø.aI.mono bE.out.size);have FV:Hid (∀z,Below wc.heap.size wc z->z.cell? ⟨sb,4,none⟩=some (.slice (some ⟨g,0,none⟩) n cB)/\z.cell? ⟨jb,0,none⟩=some (.int .i64 p)/\z.cell? ⟨jb,1,none⟩=some (.int .i64 q)/\z.cell? ⟨jb,2,none⟩=some (.slice g1 n3 k3)/\z.cell? ⟨jb,3,none⟩=some (.slice g2 n4 k4)):=λz hz=>by
     have e0:=(hz.block _ (Nat.lt_of_lt_of_le pF hwc.size)).trans ((hwc.block _ pF).trans HST.out.blk);rw[<-ϰ] at e0;have e1:=(hz.block _ (aC hj)).trans hj;exact⟨ak e0 4,ak e1 0,ak e1 1,ak e1 2,ak e1 3⟩
    have É:Below wc.heap.size wc wc.drew:=fB (Below.refl _ _);have HWZ:Hid (Below wr.heap.size wr (wc.drew.alloc (.cells #[.int .i64 p,.int .i64 q,.slice g1 n3 k3,.slice g2 n4 k4] 78))):=ø.aI.trans ((bN É _).mono ø.aI.size);have ahi:Below wa.heap.size wa (wc.drew.alloc (.cells #[.int .i64 p,.int .i64 q,.slice g1 n3 k3,.slice g2 n4 k4] 78)):=bE.out.trans (HWZ.out.mono bE.out.size);obtain⟨j,hj2⟩:∃j,j=k+2:=⟨_,rfl⟩;have HRP:Hid (Calls prog 27 #[.slice (some ⟨g,0,none⟩) n cB,.int .i64 (k:Int),.int .i64 (j:Int),.slice (some ⟨wc.heap.size,0,none⟩) 1 1] (wc.drew.alloc (.cells #[.int .i64 p,.int .i64 q,.slice g1 n3 k3,.slice g2 n4 k4] 78)) λe w'=>e = .returned (.slice (some ⟨g,0,none⟩) (n-1) cB)/\jI g (wc.drew.alloc (.cells #[.int .i64 p,.int .i64 q,.slice g1 n3 k3,.slice g2 n4 k4] 78)) w'/\w'.ownsRow w.heap.size 78 4 (.slice (some ⟨g,0,none⟩) (n-1) cB) (n-1) ((bQ Bs vs).take (k*4) ++ [.int .i64 p,.int .i64 q,.slice g1 n3 k3,.slice g2 n4 k4]++(bQ Bs vs).drop (j*4))):=by
     refine VW (wc.drew.alloc (.cells #[.int .i64 p,.int .i64 q,.slice g1 n3 k3,.slice g2 n4 k4] 78)) w.heap.size g n cB k j (bQ Bs vs) (bK gQ ahi) hj2 (by have:=Y5.out.1;omega) wc.heap.size 1 [.int .i64 p,.int .i64 q,.slice g1 n3 k3,.slice g2 n4 k4] rfl (World.news_of_block (heap_alloc_new wc.drew _)) (λz hz=>?_) (Bp _ _ λv hv=>mo.one ϧ í v hv);simp at hz;rcases hz with rfl|rfl|rfl|rfl<;>rfl
    have rP:Hid (p=(vO a b).1/\q=(vO a b).2.1/\wc.ownsRow wr.heap.size 9 1 (.slice g1 n3 k3) (vO a b).2.2.length (((vO a b).2.2.map Prod.fst).map encStr)/\wc.ownsRow wr.heap.size 9 1 (.slice g2 n4 k4) (vO a b).2.2.length (((vO a b).2.2.map λr=>fI r.2).map encStr)):=by
     rcases ø.res with h|h
     ·exact h.2
     ·exact absurd hz h.1
    have Hw:Hid (wr.heap.size<=jb/\jb<wc.heap.size/\Below wa.heap.size wa wc):=⟨oN,aC hj,hwc⟩;have HZ:Hid (vN a b=0):=hz;have HJ2:=Ì hj2;have ŝ:g<wa.heap.size:=(aH gQ rfl).2.1;have hsg:sb≠g:=λe=>HST.out.sH (by rw[nZ,e];simp[Value.ownBlock])
    have y5:IntKind.i64.wrap ((i:Int)+1)=(j:Int):=by
     have:=Y5.out.1;rw[IntWalk.i64_in _ (by omega)];omega
    clear ϧ nZ gQ í ϰ hwc ahi hj oN ø DC hz hj2;go_upto_region 6 with fail;refine jw (S:=λz=>z.cell? ⟨sb,4,none⟩=some (.slice (some ⟨g,0,none⟩) n cB)/\z.cell? ⟨jb,0,none⟩=some (.int .i64 p)/\z.cell? ⟨jb,1,none⟩=some (.int .i64 q)/\z.cell? ⟨jb,2,none⟩=some (.slice g1 n3 k3)/\z.cell? ⟨jb,3,none⟩=some (.slice g2 n4 k4)) (by kernel_rfl) 14 (FV.out _ É) (λύ=>?_);refine dw 0 37 (.pointer (some ⟨sb,0,none⟩)) ύ rfl rfl ?_ ?_
    ·intro w _;go_simp
    try simp only[Act.put,û,ü,ý]
    refine dw 1 38 (.pointer (some ⟨sb,0,none⟩)) ύ rfl rfl ?_ ?_
    ·intro w _;go_simp
    try simp only[Act.put,û,ü,ý]
    refine dw 2 39 (.pointer (some ⟨sb,0,none⟩)) ύ rfl rfl ?_ ?_
    ·intro w _;go_simp
    try simp only[Act.put,û,ü,ý]
    refine dw 3 40 (.pointer (some ⟨sb,4,none⟩)) ύ rfl rfl ?_ ?_
    ·intro w _;go_simp
    try simp only[Act.put,û,ü,ý]
    refine nJ 4 41 (.slice (some ⟨g,0,none⟩) n cB) ύ rfl rfl ?_ ?_
    ·intro w Å;obtain⟨nX,nY,oM,xI,Ik⟩:=Å;go_simp
    try simp only[Act.put,û,ü,ý]
    refine dw 5 42 (.int .i64 (i:Int)) ύ rfl rfl ?_ ?_
    ·intro w _;go_simp
    try simp only[Act.put,û,ü,ý]
    refine dw 6 43 (.int .i64 (k:Int)) ύ rfl rfl ?_ ?_
    ·intro w _;go_simp
    try simp only[Act.put,û,ü,ý]
    refine dw 7 44 (.int .i64 (i:Int)) ύ rfl rfl ?_ ?_
    ·intro w _;go_simp
    try simp only[Act.put,û,ü,ý]
    refine dw 8 45 (.int .i64 (j:Int)) ύ rfl rfl ?_ ?_
    ·intro w _;go_simp
    try simp only[Act.put,û,ü,ý]
    refine nJ 9 46 (.agg #[.int .i64 p,.int .i64 q,.slice g1 n3 k3,.slice g2 n4 k4]) ύ rfl rfl ?_ ?_
    ·intro w Å;obtain⟨nX,nY,oM,xI,Ik⟩:=Å;go_simp
    try simp only[Act.put,û,ü,ý]
    refine vI 10 rfl λK hK=>?_
    go_simp
    refine hK.out _ _ (FV.out _ (bN É _)) ?_;clear hK K;try simp only[Act.put,û,ü,ý]
    refine vI 11 rfl λK hK=>?_
    go_simp
    refine Calls.mono HRP.out ?_;rintro e w7 ⟨rfl,ho7,cZ⟩;dsimp only
    have F7:w7.heap[sb]? = wa.heap[sb]?:=(ho7.block sb hsg).trans (((bN É _).block sb (Nat.lt_of_lt_of_le pF Hw.out.2.2.size)).trans (Hw.out.2.2.block sb pF));have F8:w7.heap[jb]? = wc.heap[jb]?:=(ho7.block jb λe=>by have:=Hw.out.1;have:=bE.out.size;omega).trans ((bN É _).block jb Hw.out.2.1);have ŵ:∀i,w7.cell? ⟨jb,i,none⟩=wc.cell? ⟨jb,i,none⟩:=λi=>by simp[World.cell?,F8]
    have ŗ:=FV.out wc (Below.refl _ _);have hblk7:=F7.trans HST.out.blk;rw[<-oQ.out.2.2.2.2] at hblk7;have rE:Hid ((λz:World=>z.cell? ⟨sb,4,none⟩=some (.slice (some ⟨g,0,none⟩) n cB)/\z.cell? ⟨jb,0,none⟩=some (.int .i64 p)/\z.cell? ⟨jb,1,none⟩=some (.int .i64 q)/\z.cell? ⟨jb,2,none⟩=some (.slice g1 n3 k3)/\z.cell? ⟨jb,3,none⟩=some (.slice g2 n4 k4)) w7):=⟨ak hblk7 4,(ŵ _).trans ŗ.2.1,(ŵ _).trans ŗ.2.2.1,(ŵ _).trans ŗ.2.2.2.1,(ŵ _).trans ŗ.2.2.2.2⟩;have z4:w7.cell? ⟨sb,4,none⟩=some (.slice (some ⟨g,0,none⟩) n cB):=rE.out.1;have zf:w7.frozen? ⟨sb,4,none⟩=false:=aA hblk7 4;have aQ:Hid (∃H',fK w (w7.setCell ⟨sb,4,none⟩ (.slice (some ⟨g,0,none⟩) (n-1) cB)) sb hb db S d (Bs.take k++vO a b::Bs.drop (k+2)) span keep (.slice (some ⟨g,0,none⟩) (n-1) cB) G F H'/\Kept (sb::H) wa (w7.setCell ⟨sb,4,none⟩ (.slice (some ⟨g,0,none⟩) (n-1) cB))/\∀x,x∈H'->x∈H\/wa.heap.size<=x):=by
     obtain⟨ϧ,nZ,gQ,í,ϰ⟩:=oQ.out;obtain⟨r1,r2,r3,r4⟩:=rP.out;rw[r1,r2,HJ2.out] at cZ;have ϔ:=HST.out;rw[<-ϰ] at ϔ nZ;exact abn ϔ ϰ ϧ nZ gQ í bE.out HWZ.out k (by have:=Y5.out.1;omega) (vO a b) _ _ (bK r3 (bN É _)) (bK r4 (bN É _)) ho7 cZ
    clear cZ ho7 F7 F8 ŵ ŗ hblk7;refine hK.out _ _ rE.out ?_;clear hK K;try simp only[Act.put]
    refine dw 12 49 (.pointer (some ⟨sb,0,none⟩)) rE.out rfl rfl ?_ ?_
    ·intro w _;go_simp
    try simp only[Act.put]
    refine dw 13 50 (.pointer (some ⟨sb,4,none⟩)) rE.out rfl rfl ?_ ?_
    ·intro w _;go_simp
    try simp only[Act.put]
    refine rD 14 rfl λK hK=>?_
    go_simp
    refine hK.out _ _ ?_;clear hK K;try simp only[Act.put,û,ü,ý]
    refine fD (by kernel_rfl) ?_ _;obtain⟨H',q1,q2,q3⟩:=aQ.out;have HQ:=Ì (And.intro q1 (And.intro q2 q3));clear z4 zf aQ q1 q2 q3;go_wp2;go_ret2;obtain⟨e1,e2,e3,e4,e5⟩:=Y5.out;subst e1;refine .inl ⟨k,e5,.slice (some ⟨g,0,none⟩) (n-1) cB,H',λq hq=>FP.out q (by omega) (by omega),?_,rfl,?_,HQ.out.2.1,HQ.out.2.2⟩
    ·rw[<-e2,<-e3];exact HZ.out
    ·rw[<-e2,<-e3];exact HQ.out.1
   ·obtain⟨tv,pv,rfl⟩:=xL DC hz;have Mq:Hid (Below wa.heap.size wa wc):=bE.out.trans (ø.aI.mono bE.out.size);have HZ:=Ì hz;clear hj oN ø DC hz;go_wp2;go_roundw;case rel=>
     refine⟨i+1,by omega,.inl (by omega),by go_num,Mq.out,λq hq hqi=>?_⟩;by_cases Ÿ:q+1<i
     ·exact FP.out q hq Ÿ
     ·obtain⟨e1,e2,e3,_,_⟩:=Y5.out;obtain rfl:q=k:=by omega
      subst e1;rw[<-e2,<-e3];exact HZ.out
    case measure=>simp[intOf]<;>omega
  ·have aQ:Hid (∀q (hq:q+1<Bs.length),vN (Bs[q]'(by omega)) Bs[q+1]≠0):=λq hq=>Ϣ q hq (by have:=oQ.out.2.2.2.2;omega)
   clear ϝ Ϣ;go_wp2;go_ret2;exact .inr ⟨aQ.out,rfl,HST.out.below bE.out,bE.out⟩
end Go.Proofs.YtololnhfgjbhjaaGreatDoor
