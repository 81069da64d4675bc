import Derived.Test.YtololnhfgjbhjaaGreatDoorStAtGroup
import Derived.Test.YtololnhfgjbhjaaGreatDoorBlkBothGroup
set_option maxRecDepth 1000000
set_option maxHeartbeats 4000000
open Go.Proofs.Tryz
namespace Go.Proofs.YtololnhfgjbhjaaGreatDoor
open Go.RowKit Go.Maps bN aG bD dH iw bG
theorem ϻ{p:Prop}(h:p):Go.RowKit.Hid p:=h
theorem ã{A:Type}(l:List A)(i:Nat)(a:A):l.toArray.setIfInBounds i a=(l.set i a).toArray:=List.setIfInBounds_toArray ..
theorem ä{A:Type}{x:A}{l:List A}{i:Nat}{a:A}:(x::l).set (i+1) a=x::l.set i a:=List.set_cons_succ
theorem å{A:Type}{x:A}{l:List A}{a:A}:(x::l).set 0 a=a::l:=List.set_cons_zero
structure Lx(B:Nat)(ea:Nat->Addr)(w:World):Prop where
 a:Jr B ea w
 k:oI B ea w
noncomputable def qA(s:Int)(L:List Rw):List Int->List Bk
 | []=>[]
 | f::fs=>if jS f s (gX s f L)=0 then (f,s,gX s f L)::qA s L fs else []
noncomputable def wV(s:Int)(L:List Rw):List Int->Int
 | []=>0
 | f::fs=>if jS f s (gX s f L)=0 then wV s L fs else 7
theorem Nl{s:Int}{L:List Rw}:∀ {fs:List Int},(∀f,f∈fs->jS f s (gX s f L)=0)->qA s L fs=fs.map (λf=>(f,s,gX s f L))/\wV s L fs=0
 | [],_=>⟨rfl,rfl⟩
 | f::fs,h=>by
  have h1:=h f (List.mem_cons_self ..);obtain⟨h2,h3⟩:=Nl λg hg=>h g (List.mem_cons_of_mem _ hg)
  exact⟨by rw[qA,if_pos h1,h2];rfl,by rw[wV,if_pos h1,h3]⟩
theorem QC{s:Int}{L:List Rw}{f:Int}{gs:List Int}(h0:jS f s (gX s f L)≠0):∀ {fs:List Int},(∀f,f∈fs->jS f s (gX s f L)=0)->qA s L (fs++f::gs)=fs.map (λf=>(f,s,gX s f L))/\wV s L (fs++f::gs)=7
 | [],_=>⟨by rw[List.nil_append,qA,if_neg h0];rfl,by rw[List.nil_append,wV,if_neg h0]⟩
 | g::fs,h=>by
  have h1:=h g (List.mem_cons_self ..);obtain⟨h2,h3⟩:=QC h0 λg hg=>h g (List.mem_cons_of_mem _ hg)
  exact⟨by rw[List.cons_append,qA,if_pos h1,h2];rfl,by rw[List.cons_append,wV,if_pos h1,h3]⟩
structure vV(sb:Nat)(w z:World):Prop where
 size:w.heap.size<=z.heap.size
 block:∀(b:Nat) (o:Obj),w.heap[b]? = some o->(∀cs fr,o ≠ .cells cs 78 fr)->b≠sb->z.heap[b]? = some o
theorem vV.refl(sb:Nat)(w:World):vV sb w w:=⟨Nat.le_refl _,λ_ _ h _ _=>h⟩
theorem vV.kept{sb:Nat}{w z y:World}(h:vV sb w z){S:List Nat}(hk:Kept S z y)(hS:∀x,x∈S->x=sb\/∃cs fr,z.heap[x]? = some (.cells cs 78 fr)):vV sb w y:=⟨Nat.le_trans h.size hk.size,λb o h1 h2 h3=>by
 have h4:=h.block b o h1 h2 h3;refine (hk.block b (Array.getElem?_eq_some_iff.1 h4).1 λhb=>?_).trans h4;rcases hS b hb with e|⟨cs,fr,e⟩
 ·exact h3 e
 ·rw[h4] at e;injection e with e;exact h2 _ _ e⟩
theorem vV.own{sb:Nat}{w z:World}(h:vV sb w z){base:Nat}{e:TypeId}{sz:Nat}{v:Value}{n:Nat}{xs:List Value}(ho:w.ownsRow base e sz v n xs)(he:e≠78)(hb:sb<base):z.ownsRow base e sz v n xs:=bA ho λg hg=>by
 obtain⟨h1,_,cur,hc⟩:=aF ho hg;rw[hc];exact h.block g _ hc (λcs fr e'=>by injection e' with _ e';exact he e') (by omega)
theorem jL.aje{base sb:Nat}{wr w':World}{mb nb:Nat}{hs:Int->Bool}{R:Int->List Rw}{X:Int->List Value}{sv:Int->Value}(h:jL base wr mb nb hs R X sv)(hk:vV sb wr w')(hb:sb<base)(hm:base<=mb):jL base w' mb nb hs R X sv:=by
 refine⟨h.im.same ?_ λk hk' g hg=>?_,λf hf=>(h.rows f hf).map λv n xs hv=>hk.own hv (by decide) hb⟩
 ·obtain⟨D,⟨es,clock,he,_⟩,_⟩:=h.im.map;rw[he];exact hk.block mb _ he (λ_ _ e=>by cases e) (by omega)
 ·obtain⟨h1,_,cur,hc⟩:=aF (h.im.row k hk') hg;rw[hc];exact hk.block g _ hc (λcs fr e'=>by injection e' with _ e';revert e';decide) (by omega)
theorem Tryz.infoBk:(prog.info? 78).map (λi=>(i.zero,i.size,i.bytes))=some (some (.agg #[.int .i64 0,.int .i64 0,.slice none 0 0,.slice none 0 0]),4,64):=by kernel_rfl
theorem Gr:∀(Bs:List Bk) (vs:List (Value×Value)) (_:vs.length=Bs.length) (b:Bk) (v:Value×Value),bO (Bs ++ [b]) (vs ++ [v])=bO Bs vs ++ [.int .i64 b.1,.int .i64 b.2.1,v.1,v.2]
 | [],[],_,_,_=>rfl
 | [],_::_,h,_,_=>by cases h
 | _::_,[],h,_,_=>by cases h
 | a::Bs,u::vs,h,b,v=>by
  have:=Gr Bs vs (by simpa using h) b v;show _::_::_::_::bO (Bs ++ [b]) (vs ++ [v])=_;rw[this];rfl
theorem BA:∀(Bs:List Bk) (vs:List (Value×Value)),vs.length=Bs.length->(bO Bs vs).length=Bs.length*4
 | [],[],_=>rfl
 | [],_::_,h=>by cases h
 | _::_,[],h=>by cases h
 | a::Bs,u::vs,h=>by
  have:=BA Bs vs (by simpa using h);show (bO Bs vs).length+4=(Bs.length+1)*4;omega
theorem jW.snoc{wr w7:World}{base:Nat}{Bs:List Bk}{vs:List (Value×Value)}(hl:vs.length=Bs.length)
  (hr:∀i (hi:i<Bs.length) (hv:i<vs.length),wr.ownsRow base 9 1 vs[i].1 Bs[i].2.2.length ((Bs[i].2.2.map Prod.fst).map encStr)/\wr.ownsRow base 9 1 vs[i].2 Bs[i].2.2.length ((Bs[i].2.2.map λr=>fG r.2).map encStr))
  (b:Bk) (v1 v2:Value) (h1:wr.ownsRow base 9 1 v1 b.2.2.length ((b.2.2.map Prod.fst).map encStr)) (h2:wr.ownsRow base 9 1 v2 b.2.2.length ((b.2.2.map λr=>fG r.2).map encStr))
  {g cap:Nat} (ό:w7.ownsRow base 78 4 (.slice (some ⟨g,0,none⟩) (Bs.length+1) cap) (Bs.length+1) (bO Bs vs ++ [.int .i64 b.1,.int .i64 b.2.1,v1,v2])) (he:∀(x:Nat) (cs:Array Value),wr.heap[x]? = some (Obj.cells cs 9 (0,0))->w7.heap[x]? = wr.heap[x]?) :
  jW w7 base (.slice (some ⟨g,0,none⟩) (Bs.length+1) cap) (Bs ++ [b]) (g::(vs.flatMap ownB++ownB (v1,v2))):=by
 have ϙ:∀v n xs,wr.ownsRow base 9 1 v n xs->w7.ownsRow base 9 1 v n xs:=λv n xs hv=>bA hv λq hq=>by
  obtain⟨_,_,cur,hc⟩:=aF hv hq;exact he q _ hc
 refine⟨vs ++ [(v1,v2)],by simp[hl],?_,?_,λi hi hv=>?_⟩
 ·rw[List.flatMap_append];simp[Value.ownBlock]
 ·rw[Gr _ _ hl,List.length_append];exact ό
 ·by_cases e:i<Bs.length
  ·rw[List.getElem_append_left e,List.getElem_append_left (by omega)];obtain⟨r1,r2⟩:=hr i e (by omega);exact⟨ϙ _ _ _ r1,ϙ _ _ _ r2⟩
  ·have e1:i=Bs.length:=by simp at hi;omega
   subst e1;rw[List.getElem_append_right (Nat.le_refl _),List.getElem_append_right (by omega)];simp only[hl,Nat.sub_self,List.getElem_cons_zero];exact⟨ϙ _ _ _ h1,ϙ _ _ _ h2⟩
theorem fP.blocks{w wr z:World}{sb hb db:Nat}{S:List Sr}{d:Dk}{Bs Gs:List Bk}{span keep:Int}{vB nS:Value}{G F H H':List Nat}(h:fP w wr sb hb db S d Bs span keep vB G F H)(hk:Kept (sb::H) wr z)(ϊ:z.heap[sb]? = some (.cells #[.pointer (some ⟨hb,0,none⟩),.pointer (some ⟨db,0,none⟩),.int .i64 span,.int .i64 keep,nS] 73 (0,0)))(ŋ:jW z w.heap.size nS Gs H')(hf:∀x,x∈H'->x∈H\/wr.heap.size<=x):fP w z sb hb db S d Gs span keep nS G F H':=by
 have hn:∀x,x∈G\/x∈F->x∉sb::H:=λx hx hm=>by
  rcases List.mem_cons.1 hm with rfl|hm
  ·rcases hx with hx|hx
   ·exact h.sG hx
   ·exact h.sF hx
  ·rcases hx with hx|hx
   ·exact h.gH x hx hm
   ·exact h.fH x hx hm
 have hH:∀x,x<wr.heap.size->x∉H->x∉H':=λx hx h1 h2=>by
  rcases hf x h2 with h3|h3
  ·exact h1 h3
  ·omega
 have Ò:∀x,x∈sb::H->w.heap.size<=x:=λx hx=>by
  rcases List.mem_cons.1 hx with rfl|hx
  ·exact h.low
  ·exact (h.uQ.mem hx).1
 exact
  {blk:=ϊ
   low:=h.low
   hd:=h.hd.kept hk λx hx=>hn x (.inl hx)
   dk:=h.dk.same (h.aH.trans (hk.below h.aH.size Ò)) λx hx=>hk.block x (h.dk.mem hx).2 (hn x (.inr hx))
   uQ:=ŋ
   sG:=h.sG
   sF:=h.sF
   sH:=hH sb (aC h.blk) h.sH
   gF:=h.gF
   gH:=λx hx=>hH x (h.hd.lt hx) (h.gH x hx)
   fH:=λx hx=>hH x (h.dk.mem hx).2 (h.fH x hx) }
theorem Kept.sub{S T:List Nat}{w z:World}(h:Kept S w z)(hs:∀x,x∈S->x∈T):Kept T w z:=⟨h.os,h.tape,h.output,h.size,λx hx hn=>h.block x hx λhm=>hn (hs x hm)⟩
theorem fP.lay{w wc W w7:World}{sb hb db:Nat}{S:List Sr}{d:Dk}{Bs:List Bk}{span keep:Int}{vB:Value}{G F H:List Nat}(h:fP w wc sb hb db S d Bs span keep vB G F H)(hW:Below wc.heap.size wc W){vs:List (Value×Value)}(hl:vs.length=Bs.length)(hH:H=vB.ownBlock.toList++vs.flatMap ownB)
  (hr:∀i (hi:i<Bs.length) (hv:i<vs.length),wc.ownsRow w.heap.size 9 1 vs[i].1 Bs[i].2.2.length ((Bs[i].2.2.map Prod.fst).map encStr)/\wc.ownsRow w.heap.size 9 1 vs[i].2 Bs[i].2.2.length ((Bs[i].2.2.map λr=>fG r.2).map encStr))
  (ho:wc.ownsRow w.heap.size 78 4 vB Bs.length (bO Bs vs)) (b:Bk) (v1 v2:Value) (h1:W.ownsRow wc.heap.size 9 1 v1 b.2.2.length ((b.2.2.map Prod.fst).map encStr)) (h2:W.ownsRow wc.heap.size 9 1 v2 b.2.2.length ((b.2.2.map λr=>fG r.2).map encStr))
  {g cap:Nat} (ό:w7.ownsRow w.heap.size 78 4 (.slice (some ⟨g,0,none⟩) (Bs.length+1) cap) (Bs.length+1) (bO Bs vs ++ [.int .i64 b.1,.int .i64 b.2.1,v1,v2])) (Ā:W.grownBy w7 vB.ownBlock) (Ϸ:vB.ownBlock=some g\/g=W.heap.size) :
  ∃H',fP w (w7.setCell ⟨sb,4,none⟩ (.slice (some ⟨g,0,none⟩) (Bs.length+1) cap)) sb hb db S d (Bs ++ [b]) span keep (.slice (some ⟨g,0,none⟩) (Bs.length+1) cap) G F H'/\Kept (sb::vB.ownBlock.toList) wc (w7.setCell ⟨sb,4,none⟩ (.slice (some ⟨g,0,none⟩) (Bs.length+1) cap))/\∀x,x∈H'->x∈H\/wc.heap.size<=x:=by
 have XY:sb<W.heap.size:=Nat.lt_of_lt_of_le (aC h.blk) hW.size;have ě:some sb≠vB.ownBlock:=λe=>h.sH (by rw[hH,<-e];simp)
 have hs7:w7.heap[sb]? = some (.cells #[.pointer (some ⟨hb,0,none⟩),.pointer (some ⟨db,0,none⟩),.int .i64 span,.int .i64 keep,vB] 73 (0,0)):=(Ā.block sb XY ě).trans ((hW.block sb (aC h.blk)).trans h.blk);have hstr:∀(x:Nat) (cs:Array Value),W.heap[x]? = some (Obj.cells cs 9 (0,0))->w7.heap[x]? = W.heap[x]?:=λx cs hx=>Ā.block x (Array.getElem?_eq_some_iff.1 hx).1 λe=>by
  obtain⟨_,ϗ,cur,hc⟩:=aF ho e.symm;rw[hW.block x ϗ,hc] at hx;injection hx with hx;injection hx with _ hx;revert hx;decide
 have ŋ:=jW.snoc (wr:=W) (w7:=w7) hl (λi hi hv=>⟨bM (hr i hi hv).1 hW,bM (hr i hi hv).2 hW⟩) b v1 v2 (iY h1 h.aH.size) (iY h2 h.aH.size) ό hstr;have ϱ:∀x,x∈g::(vs.flatMap ownB++ownB (v1,v2))->x∈H\/wc.heap.size<=x:=λx hx=>by
  rcases List.mem_cons.1 hx with rfl|hx
  ·rcases Ϸ with e|e
   ·exact .inl (by rw[hH,e];simp)
   ·have:=hW.size;exact .inr (by omega)
  ·rcases List.mem_append.1 hx with hx|hx
   ·exact .inl (by rw[hH];exact List.mem_append.2 (.inr hx))
   ·rcases List.mem_append.1 hx with hx|hx
    ·exact .inr (uP h1 hx).1
    ·exact .inr (uP h2 hx).1
 have hsn:sb∉g::(vs.flatMap ownB++ownB (v1,v2)):=λhx=>by
  rcases ϱ sb hx with h3|h3
  ·exact h.sH h3
  ·have:=aC h.blk;omega
 have đ:∀x,x≠sb->(w7.setCell ⟨sb,4,none⟩ (.slice (some ⟨g,0,none⟩) (Bs.length+1) cap)).heap[x]? = w7.heap[x]?:=λx hx=>Below.heap_setCell _ _ _ _ (by show x≠sb;exact hx)
 have hk:Kept (sb::vB.ownBlock.toList) wc (w7.setCell ⟨sb,4,none⟩ (.slice (some ⟨g,0,none⟩) (Bs.length+1) cap)):=by
  refine (((Kept.of_below hW).trans (Kept.grown (S:=vB.ownBlock.toList) Ā λk hk=>by rw[hk];simp) λx hx=>.inl (List.mem_cons_of_mem _ hx)).setCell (p:=⟨sb,4,none⟩) (.inl (List.mem_cons_self ..)) _)
 refine⟨_,h.blocks (hk.sub λx hx=>?_) ((eu hs7 4 _).trans rfl) (ŋ.same λx hx=>đ x λe=>hsn (e ▸ hx)) ϱ,hk,ϱ⟩
 ·rcases List.mem_cons.1 hx with e|e
  ·exact List.mem_cons.2 (.inl e)
  ·exact List.mem_cons_of_mem _ (by rw[hH];exact List.mem_append.2 (.inl e))
theorem Ac{w:World}{base:Nat}{e:TypeId}{sz:Nat}{g n cap:Nat}{xs:List Value}(h:w.ownsRow base e sz (.slice (some ⟨g,0,none⟩) n cap) n xs):∀j u,xs[j]? = some u->w.cell? ((⟨g,0,none⟩:Addr).add j)=some u:=λj u hj=>by
 rcases h.2 with⟨hv,_⟩|⟨g',cap',cur,hv,_,hh,_,_,_,hc⟩
 ·cases hv
 ·injection hv with hv _ _;injection hv with hv;injection hv with hv;subst hv;rw[Addr.add_lit,Nat.zero_add];have e1:w.cell? ⟨g,j,none⟩=cur[j]?:=by simp[World.cell?,hh]
  rw[e1,<-Array.getElem?_toList];rw[<-hc] at hj;rw[List.getElem?_take] at hj;split at hj
  ·exact hj
  ·cases hj
theorem KL(w:World)(base:Nat)(v:Value)(n:Nat)(ss:List (List UInt8))(hn:n=ss.length)(h:w.ownsRow base 9 1 v n (ss.map encStr))(hl:n<=10000):
  Calls prog 30 #[v] w λe w'=>∃v',e = .returned v'/\w'.ownsRow w.heap.size 9 1 v' n (ss.map encStr)/\Below w.heap.size w w':=by
 rcases h.2 with⟨rfl,h0⟩|⟨g,cap,cur,rfl,_⟩
 ·have q0:∀w,(binOp .eql 32 (.slice none 0 0) (.slice none 0 0)).run prog w = .ok (.bool true) w:=λw=>Lib.run_eql_slice_nil w _ _ none 0 0 0 0 underlying32
  have hz:ss.map encStr = []:=by rw[List.eq_nil_of_length_eq_zero (hn.symm.trans h0)];rfl
  rw[hz,h0];clear h;go_enter func30,ntmps30;go_wp2;go_ret;exact⟨_,rfl,⟨rfl,.inl ⟨rfl,rfl⟩⟩,Below.refl _ _⟩
 ·have q0:∀w,(binOp .eql 32 (.slice (some ⟨g,0,none⟩) n cap) (.slice none 0 0)).run prog w = .ok (.bool false) w:=λw=>Lib.run_eql_slice_nil w _ _ (some ⟨g,0,none⟩) n cap 0 0 underlying32
  obtain⟨iS,hI,hI0,hI1,hI2⟩:=info_parts Tryz.infoStr2;have HI:=ϻ hI;have HC:Hid (∀j u,(ss.map encStr)[j]? = some u->(w.alloc (.cells #[] 9)).cell? ((⟨g,0,none⟩:Addr).add j)=some u):=λj u hj=>Lib.cell?_alloc_some _ (Ac h j u hj)
  have H1:Hid (∀u∈ss.map encStr,u.oneCell'=true):=λu hu=>by obtain⟨x,_,rfl⟩:=List.mem_map.1 hu;rfl
  have HL:Hid ((ss.map encStr).length=n*1):=by show _=_;rw[List.length_map,Nat.mul_one,hn]
  have HO:Hid ((w.alloc (.cells #[] 9)).ownsRow w.heap.size 9 1 (.slice (some ⟨w.heap.size,0,none⟩) 0 0) 0 []):=World.ownsRow_made w #[] 0 (Nat.le_refl _) (Nat.zero_le _) rfl;clear h hI hn;go_enter func30,ntmps30;go_wp2_with (at_builtin;refine oC rfl _ _ 32 rfl w.heap.size 9 iS (.string ⟨#[]⟩) 1 16 underlying32 HI.out hI0 hI1 hI2 rfl (by decide) _ _ _ rfl HO.out _ n cap (ss.map encStr) rfl HL.out (Or.inr ⟨g,0,rfl,HC.out⟩) H1.out (by omega) (by decide) (by simp) ?_);intro v' w1 ό Ā _;have HW:Hid (w1.ownsRow w.heap.size 9 1 v' n (ss.map encStr)/\Below w.heap.size w w1):=by
   refine⟨by simpa using ό,((Below.refl _ _).alloc (Nat.le_refl _) _).trans ⟨Ā.os,Ā.tape,Ā.output,Ā.size,λb hb=>Ā.block b (by simp;omega) λe=>?_⟩⟩;simp[Value.ownBlock] at e;omega
  clear ό Ā;go_wp2;go_ret;exact⟨v',rfl,HW.out.1,HW.out.2⟩
theorem VO(w:World)(g o n cap:Nat)(ys:List Value)(hy:ys.length=n*4)(hc:∀j u,ys[j]? = some u->w.cell? ((⟨g,o,none⟩:Addr).add j)=some u)(h1:∀u∈ys,u.oneCell'=true)(hl:n<=10000):
  Calls prog 47 #[.slice (some ⟨g,o,none⟩) n cap] w λe w'=>∃v',e = .returned v'/\w'.ownsRow w.heap.size 78 4 v' n ys/\Below w.heap.size w w':=by
 have q0:∀w,(binOp .eql 46 (.slice (some ⟨g,o,none⟩) n cap) (.slice none 0 0)).run prog w = .ok (.bool false) w:=λw=>Lib.run_eql_slice_nil w _ _ (some ⟨g,o,none⟩) n cap 0 0 underlying46
 obtain⟨iS,hI,hI0,hI1,hI2⟩:=info_parts Tryz.infoBk;have HI:=ϻ hI;have HC:Hid (∀j u,ys[j]? = some u->(w.alloc (.cells #[] 78)).cell? ((⟨g,o,none⟩:Addr).add j)=some u):=λj u hj=>Lib.cell?_alloc_some _ (hc j u hj)
 have H1:=ϻ h1;have HL:=ϻ hy;have HO:Hid ((w.alloc (.cells #[] 78)).ownsRow w.heap.size 78 4 (.slice (some ⟨w.heap.size,0,none⟩) 0 0) 0 []):=World.ownsRow_made w #[] 0 (Nat.le_refl _) (Nat.zero_le _) rfl;clear hI hy hc h1;go_enter func47,ntmps47;go_wp2_with (at_builtin;refine oC rfl _ _ 46 rfl w.heap.size 78 iS (.agg #[.int .i64 0,.int .i64 0,.slice none 0 0,.slice none 0 0]) 4 64 underlying46 HI.out hI0 hI1 hI2 rfl (by decide) _ _ _ rfl HO.out _ n cap ys rfl HL.out (Or.inr ⟨g,o,rfl,HC.out⟩) H1.out (by omega) (by decide) (by simp) ?_);intro v' w1 ό Ā _;have HW:Hid (w1.ownsRow w.heap.size 78 4 v' n ys/\Below w.heap.size w w1):=by
  refine⟨by simpa using ό,((Below.refl _ _).alloc (Nat.le_refl _) _).trans ⟨Ā.os,Ā.tape,Ā.output,Ā.size,λb hb=>Ā.block b (by simp;omega) λe=>?_⟩⟩;simp[Value.ownBlock] at e;omega
 clear ό Ā;go_wp2;go_ret;exact⟨v',rfl,HW.out.1,HW.out.2⟩
theorem Ad:∀(m:Nat) (Bs:List Bk) (vs:List (Value×Value)),vs.length=Bs.length->(bO Bs vs).drop (m*4)=bO (Bs.drop m) (vs.drop m)
 | 0,_,_,_=>by simp
 | m+1,[],[],_=>by simp[bO]
 | _+1,[],_::_,h=>by cases h
 | _+1,_::_,[],h=>by cases h
 | m+1,a::Bs,u::vs,h=>by
  have:=Ad m Bs vs (by simpa using h);rw[List.drop_succ_cons,List.drop_succ_cons,<-this,show (m+1)*4=m*4+4 by omega];rfl
theorem BD:∀(Bs:List Bk) (vs:List (Value×Value)),(∀v,v∈vs->v.1.oneCell'=true/\v.2.oneCell'=true)->∀u∈bO Bs vs,u.oneCell'=true
 | [],_,_,u,hu=>by simp[bO] at hu
 | _::_,[],_,u,hu=>by simp[bO] at hu
 | a::Bs,v::vs,h,u,hu=>by
  have h1:=h v (List.mem_cons_self ..);have e:bO (a::Bs) (v::vs) = [.int .i64 a.1,.int .i64 a.2.1,v.1,v.2]++bO Bs vs:=rfl;rw[e] at hu;rcases List.mem_append.1 hu with hu|hu
  ·simp at hu;rcases hu with rfl|rfl|rfl|rfl
   ·rfl
   ·rfl
   ·exact h1.1
   ·exact h1.2
  ·exact BD Bs vs (λv hv=>h v (List.mem_cons_of_mem _ hv)) u hu
theorem TF{w:World}{base:Nat}{e:TypeId}{sz:Nat}{v:Value}{n:Nat}{xs:List Value}(h:w.ownsRow base e sz v n xs):v.oneCell'=true:=by
 obtain⟨a,c,rfl⟩:=bB h;rfl
theorem jW.one{wr:World}{base:Nat}{Bs:List Bk}{vs:List (Value×Value)}(hl:vs.length=Bs.length)(hr:∀i (hi:i<Bs.length) (hv:i<vs.length),wr.ownsRow base 9 1 vs[i].1 Bs[i].2.2.length ((Bs[i].2.2.map Prod.fst).map encStr)/\wr.ownsRow base 9 1 vs[i].2 Bs[i].2.2.length ((Bs[i].2.2.map λr=>fG r.2).map encStr)):∀v,v∈vs->v.1.oneCell'=true/\v.2.oneCell'=true:=λv hv=>by
 obtain⟨i,hi,rfl⟩:=List.getElem_of_mem hv;obtain⟨h1,h2⟩:=hr i (by omega) hi;exact⟨TF h1,TF h2⟩
theorem QD(w wr:World)(sb hb db:Nat)(S:List Sr)(d:Dk)(Bs:List Bk)(span:Int)(keep:Nat)(vB:Value)(G F H:List Nat)(h:fP w wr sb hb db S d Bs span (keep:Int) vB G F H)(hk:1<=keep/\keep<=1000)(hn:Bs.length<=10000):
  Calls prog 24 #[.pointer (some ⟨sb,0,none⟩)] wr λe w'=>e = .returned (.tuple #[])/\∃nS H',fP w w' sb hb db S d (Bs.drop (Bs.length-keep)) span (keep:Int) nS G F H'/\Kept [sb] wr w'/\∀x,x∈H'->x∈H\/wr.heap.size<=x:=by
 obtain⟨vs,ϥ,ou,gJ,ì⟩:=h.uQ.ex;obtain⟨aB,cB,rfl⟩:=bB gJ;obtain⟨nB,uS⟩:∃nB,nB=Bs.length:=⟨_,rfl⟩;have HST:=ϻ h;have x3:wr.cell? ⟨sb,3,none⟩=some (.int .i64 (keep:Int)):=ak h.blk 3;have x4:wr.cell? ⟨sb,4,none⟩=some (.slice aB nB cB):=by rw[uS];exact ak h.blk 4
 rw[<-uS] at gJ hn;by_cases ā:nB<=keep
 ·have aM:Hid (∀q,fP w (wr.drewN q) sb hb db S d (Bs.drop (Bs.length-keep)) span (keep:Int) (.slice aB Bs.length cB) G F H/\Kept [sb] wr (wr.drewN q)):=λq=>by
   have h2:Below wr.heap.size wr (wr.drewN q):=below_draws (Below.refl _ _) q;refine⟨?_,Kept.of_below h2⟩;rw[show Bs.length-keep=0 by omega,List.drop_zero];exact h.below h2
  obtain⟨t,ht⟩:∃t:Int,t=(nB:Int)-keep:=⟨_,rfl⟩;have e1:IntKind.i64.wrap ((nB:Int)-(keep:Int))=t:=by rw[ht];exact IntWalk.i64_in _ (by omega)
  have d1:decide ((0:Int)<t)=false:=decide_eq_false (by omega);clear h gJ ì ϥ ou ā uS ht;go_enter func24,ntmps24;go_wp2_with fail;go_quiet (fail);go_wp2;go_end0;exact⟨rfl,_,H,(aM.out _).1,(aM.out _).2,λx hx=>.inl hx⟩
 ·obtain⟨m,hm⟩:∃m,nB=m+keep:=⟨nB-keep,by omega⟩;have ω:0<m:=by omega
  obtain⟨g,rfl,hcB⟩:∃g,aB=some ⟨g,0,none⟩/\nB<=cB:=by
   rcases gJ.2 with⟨hv,_⟩|⟨g,cap,cur,hv,_,_,hl,_⟩
   ·injection hv with _ hv _;omega
   ·injection hv with ñ _ Ū;exact⟨g,ñ,by omega⟩
  have θ:=Ac gJ;have hdl:(bO (Bs.drop m) (vs.drop m)).length=keep*4:=by
   rw[BA _ _ (by simp[ϥ]),List.length_drop,<-uS];omega
  have hdc:∀z,Below wr.heap.size wr z->∀j u,(bO (Bs.drop m) (vs.drop m))[j]? = some u->z.cell? ((⟨g,m*4,none⟩:Addr).add j)=some u:=λz hz j u hj=>by
   rw[<-Ad m Bs vs ϥ,List.getElem?_drop] at hj;have h1:=θ (m*4+j) u hj;rw[Addr.add_lit,Nat.zero_add] at h1;rw[Addr.add_lit];exact (hz.cell (p:=⟨g,m*4+j,none⟩) (World.block_lt_of_cell? wr ⟨g,_,none⟩ h1)).trans h1
  have EB:Hid (∀q cap,Calls prog 47 #[.slice (some ⟨g,m*4,none⟩) keep cap] (wr.drewN q) λe w'=>∃v',e = .returned v'/\w'.ownsRow wr.heap.size 78 4 v' keep (bO (Bs.drop m) (vs.drop m))/\Below wr.heap.size wr w'):=λq cap=>by
   have h2:Below wr.heap.size wr (wr.drewN q):=below_draws (Below.refl _ _) q;refine (VO (wr.drewN q) g (m*4) keep cap _ hdl (hdc _ h2) (BD _ _ λv hv=>jW.one ϥ ì v (List.mem_of_mem_drop hv)) (by omega)).mono ?_;rintro e w' ⟨v',rfl,h3,h4⟩;exact⟨v',rfl,h3,h2.trans h4⟩
  have e1:IntKind.i64.wrap ((nB:Int)-(keep:Int))=(m:Int):=by rw[IntWalk.i64_in _ (by omega)];omega
  have d1:decide ((0:Int)<(m:Int))=true:=decide_eq_true (by omega);have PN:=ϻ (And.intro ϥ (And.intro ou (And.intro ì uS)));have m0:(0:Int)<=(m:Int):=by omega
  have m1:(m:Int)<=(nB:Int):=by omega
  have m2:(m:Int)<=(cB:Int):=by omega
  have m3:(nB:Int)<=(cB:Int):=by omega
  have m4:m≠cB:=by omega
  have m5:nB-m=keep:=by omega
  clear h gJ ì ϥ ou ā θ hdl hdc uS hm;go_enter func24,ntmps24;go_wp2_with fail;go_quiet (fail);go_wp2_with fail;refine Calls.mono (EB.out _ _) ?_;rintro e w1 ⟨v',rfl,Ē,Ϗ⟩;obtain⟨a',c',hv'⟩:=bB Ē;subst hv';have Õ:=(Ϗ.block _ (aC HST.out.blk)).trans HST.out.blk;have y4:=ak Õ 4;simp at y4;have yf:w1.frozen? ⟨sb,4,none⟩=false:=av Õ 4;have aM:Hid (∃H',fP w (w1.setCell ⟨sb,4,none⟩ (.slice a' keep c')) sb hb db S d (Bs.drop (Bs.length-keep)) span (keep:Int) (.slice a' keep c') G F H'/\Kept [sb] wr (w1.setCell ⟨sb,4,none⟩ (.slice a' keep c'))/\∀x,x∈H'->x∈H\/wr.heap.size<=x):=by
   obtain⟨ϥ,ou,ì,uS⟩:=PN.out;have ϙ:=HST.out;have hem:Bs.length-keep=m:=by omega
   rw[hem];have ϒ:Kept [sb] wr (w1.setCell ⟨sb,4,none⟩ (.slice a' keep c')):=(Kept.of_below Ϗ).setCell (p:=⟨sb,4,none⟩) (.inl (List.mem_singleton.2 rfl)) _;have đ:∀x,x≠sb->(w1.setCell ⟨sb,4,none⟩ (.slice a' keep c')).heap[x]? = w1.heap[x]?:=λx hx=>Below.heap_setCell _ _ _ _ (by show x≠sb;exact hx)
   have ϱ:∀x,x∈(Value.slice a' keep c').ownBlock.toList++(vs.drop m).flatMap ownB->x∈H\/wr.heap.size<=x:=λx hx=>by
    rcases List.mem_append.1 hx with hx|hx
    ·exact .inr (uP Ē hx).1
    ·refine .inl ?_;rw[ou];refine List.mem_append.2 (.inr ?_);obtain⟨v,hv,h2⟩:=List.mem_flatMap.1 hx;exact List.mem_flatMap.2 ⟨v,List.mem_of_mem_drop hv,h2⟩
   have hsn:sb∉(Value.slice a' keep c').ownBlock.toList++(vs.drop m).flatMap ownB:=λhx=>by
    rcases ϱ sb hx with h3|h3
    ·exact ϙ.sH h3
    ·have:=aC ϙ.blk;omega
   have ŋ:jW w1 w.heap.size (.slice a' keep c') (Bs.drop m) ((Value.slice a' keep c').ownBlock.toList++(vs.drop m).flatMap ownB):=by
    refine⟨vs.drop m,by simp[ϥ],rfl,?_,λi hi hv=>?_⟩
    ·have e:(Bs.drop m).length=keep:=by rw[List.length_drop,<-uS];omega
     rw[e];exact iY Ē ϙ.aH.size
    ·simp only[List.getElem_drop];obtain⟨r1,r2⟩:=ì (m+i) (by rw[List.length_drop] at hi;omega) (by rw[List.length_drop] at hv;omega);exact⟨bM r1 Ϗ,bM r2 Ϗ⟩
   exact⟨_,ϙ.blocks (ϒ.sub λx hx=>List.mem_cons.2 (.inl (List.mem_singleton.1 hx))) ((eu Õ 4 _).trans rfl) (ŋ.same λx hx=>đ x λe=>hsn (e ▸ hx)) ϱ,ϒ,ϱ⟩
  clear Ē Ϗ Õ EB;dsimp only
  go_wp2;go_end0;obtain⟨H',q⟩:=aM.out;exact⟨rfl,_,H',q⟩
noncomputable def pV:List E->Dk->Dk×Int×Int
 | [],d=>(d,0,-1)
 | e::es,d=>if 0<nE d e.1 e.2.1 e.2.2 then (uz d e.1 e.2.1 e.2.2,nE d e.1 e.2.1 e.2.2,Gj e.1 e.2.1) else pV es (uz d e.1 e.2.1 e.2.2)
theorem KM{es fs:List E}{d d':Dk}(h:pV es d=(d',0,-1)):pV (es++fs) d=pV fs d':=by
 induction es generalizing d with
 | nil=>
  rw[pV] at h;injection h with h _;rw[List.nil_append,h]
 | cons e es ih=>
  rw[pV] at h;rw[List.cons_append,pV];split at h
  ·rename_i h0;injection h with _ h;injection h with h _;omega
  ·rename_i h0;rw[if_neg h0];exact ih h
def gI(L:List Rw):List E:=L.flatMap λr=>r.2.map λp=>(r.1,p.1,p.2)
theorem Y7(L:List Rw)(r:Rw):gI (L ++ [r])=gI L++r.2.map λp=>(r.1,p.1,p.2):=by simp[gI]
theorem aej(L:List Rw)(k:Nat)(hk:k<L.length)(q:Nat)(hq:q<L[k].2.length):gI L=(gI (L.take k)++(L[k].2.take q).map λp=>(L[k].1,p.1,p.2))++((L[k].1,L[k].2[q].1,L[k].2[q].2)::((L[k].2.drop (q+1)).map λp=>(L[k].1,p.1,p.2))++gI (L.drop (k+1))):=by
 have h1:L=L.take k++(L[k]::L.drop (k+1)):=by rw[List.getElem_cons_drop,List.take_append_drop]
 have h0:∀A C:List Rw,gI (A++C)=gI A++gI C:=λA C=>List.flatMap_append ..
 have h2:gI L=gI (L.take k)++gI (L[k]::L.drop (k+1)):=by rw[<-h0,<-h1]
 have h3:gI (L[k]::L.drop (k+1))=(L[k].2.map λp=>(L[k].1,p.1,p.2))++gI (L.drop (k+1)):=List.flatMap_cons ..;have h4:(L[k].2.map λp=>(L[k].1,p.1,p.2))=(L[k].2.take q).map (λp=>(L[k].1,p.1,p.2))++((L[k].1,L[k].2[q].1,L[k].2[q].2)::(L[k].2.drop (q+1)).map λp=>(L[k].1,p.1,p.2)):=by
  have h5:L[k].2=L[k].2.take q++(L[k].2[q]::L[k].2.drop (q+1)):=by rw[List.getElem_cons_drop,List.take_append_drop]
  have h6:=congrArg (List.map λp:Int×Nat=>(L[k].1,p.1,p.2)) h5;rw[List.map_append,List.map_cons] at h6;exact h6
 rw[h2,h3,h4];simp only[List.append_assoc,List.cons_append]
noncomputable def KN(es:List E)(d:Dk):Dk:=if d.off=true then d else (pV es ⟨[],false,d.waits,d.left⟩).1
noncomputable def IX(es:List E)(d:Dk):Int:=if d.off=true then 10 else (pV es ⟨[],false,d.waits,d.left⟩).2.1
noncomputable def QE(es:List E)(d:Dk):Int:=if d.off=true then -1 else (pV es ⟨[],false,d.waits,d.left⟩).2.2
def VP(ea:Nat->Addr)(w wr:World)(sb hb db:Nat)(S:List Sr)(d':Dk)(Bs:List Bk)(span keep:Int)(vB:Value)(G F H:List Nat)(C A:Int)(e:Ending)(w':World):Prop:=
 ∃v F',e = .returned v/\aL ea w' v C A/\fP w w' sb hb db S d' Bs span keep vB G F' H/\Kept F wr w'/\∀x,x∈F'->x∈F\/wr.heap.size<=x
theorem VQ{B:Nat}{ea:Nat->Addr}(w wa:World)(E0:Jr B ea w)(hB:B<=w.heap.size)(sb hb db:Nat)(S:List Sr)(d:Dk)(Bs:List Bk)(span keep:Int)(vB:Value)(G F H:List Nat)(h:fP w wa sb hb db S d Bs span keep vB G F H)(hn:S.length<=1000)(hc:dY S<=1000)(L:List Rw)(hL:L=rD 1099511627776 S):
  Calls prog 25 #[.agg #[.pointer (some ⟨hb,0,none⟩),.pointer (some ⟨db,0,none⟩)]] wa λe w'=>VP ea w wa sb hb db S (KN (gI L) d) Bs span keep vB G F H (IX (gI L) d) (QE (gI L) d) e w':=by
 obtain⟨W1,á⟩:∃W1,W1=wa.alloc (.cells #[.pointer (some ⟨hb,0,none⟩),.pointer (some ⟨db,0,none⟩)] 69):=⟨_,rfl⟩;have Ϝ:Below wa.heap.size wa W1:=by rw[á];exact (Below.refl _ _).alloc (Nat.le_refl _) _
 have ξ:W1.heap[wa.heap.size]? = some (.cells #[.pointer (some ⟨hb,0,none⟩),.pointer (some ⟨db,0,none⟩)] 69 (0,0)):=by rw[á];exact heap_alloc_new _ _
 have sP:=h.below Ϝ;have x0:=ak ξ 0;have x1:=ak ξ 1;simp at x0 x1;have tq:∀x,x∈F->x<wa.heap.size:=λx hx=>(h.dk.mem hx).2
 have HW1:=ϻ á;have cK:=ϻ Ϝ;have Cb:=ϻ ξ;have HST:=ϻ sP;have HE:=ϻ E0;by_cases ι:d.off=true
 ·have EB:=ϻ (Qp w W1 (E0.w.below sP.aH hB) db d F sP.dk ι);have HF:Hid (KN (gI L) d=d/\IX (gI L) d=10/\QE (gI L) d = -1):=⟨if_pos ι,if_pos ι,if_pos ι⟩;clear á Ϝ ξ sP h E0 hL;go_enter func25,ntmps25;go_upto_region 1 with fail;rw[<-HW1.out];go_wp2_with fail;refine Calls.mono EB.out ?_;rintro e w2 ⟨rfl,Ñ⟩;have ģ:=Ñ.symm;subst ģ;dsimp only
  go_wp2;go_ret;obtain⟨f1,f2,f3⟩:=HF.out;rw[f1,f2,f3];exact⟨_,F,rfl,.es 9 (by decide) (by decide),HST.out,Kept.of_below cK.out,λx hx=>.inl hx⟩
 ·have ν:d.off=false:=by simpa using ι
  obtain⟨d1,Ħ⟩:∃d1:Dk,d1=⟨[],false,d.waits,d.left⟩:=⟨_,rfl⟩;have EB:=ϻ (abe w W1 db d F sP.dk ν);rw[<-Ħ] at EB;have HF:Hid (KN (gI L) d=(pV (gI L) d1).1/\IX (gI L) d=(pV (gI L) d1).2.1/\QE (gI L) d=(pV (gI L) d1).2.2):=by
   rw[Ħ];exact⟨if_neg ι,if_neg ι,if_neg ι⟩
  have HD1:Hid (d1.L.length<=65536):=by show _<=_;rw[Ħ];exact Nat.zero_le _
  have HL:=ϻ hL;clear á Ϝ ξ sP h E0 hL Ħ ι ν;go_enter func25,ntmps25;go_upto_region 1 with fail;rw[<-HW1.out];go_wp2_with fail;refine Calls.mono EB.out ?_;rintro e w2 ⟨rfl,Ŧ,ϩ⟩;have Gt:=HST.out.disk Ŧ ϩ (λx hx=>.inl hx);have ĩ:w2.heap[wa.heap.size]? = some (.cells #[.pointer (some ⟨hb,0,none⟩),.pointer (some ⟨db,0,none⟩)] 69 (0,0)):=(ϩ.block _ (aC Cb.out) (λhx=>by have:=tq _ hx;omega)).trans Cb.out;have y0:=ak ĩ 0;simp at y0;have pQ:=ϻ (FK w w2 hb S G Gt.hd hn);have aho:=ϻ Gt;have uK:=ϻ ĩ;have jr:Hid (Kept F wa w2):=(Kept.of_below (S:=F) cK.out).trans ϩ λx hx=>.inl hx
  clear Ŧ ϩ Gt ĩ x0 x1 EB HST;dsimp only
  go_wp2_with fail;refine Calls.mono pQ.out ?_;rintro e w3 ⟨v3,rfl,ώ,ĺ⟩;obtain⟨a5,M0,rfl⟩:=bB ĺ;have ď:L.map Prod.fst=cZ S:=by rw[HL.out];unfold rD;rw[List.map_map];exact List.map_id _
  have BX:L.length=(cZ S).length:=by rw[<-ď,List.length_map]
  have hLk:∀k (hk:k<L.length),L[k].2=bF 0 1099511627776 (dG S L[k].1)/\∃l,l∈S/\l.key=L[k].1:=λk hk=>by
   have hL:=HL.out;subst hL;refine⟨by simp[rD],?_⟩;have:(rD 1099511627776 S)[k].1∈cZ S:=by rw[<-ď];exact List.mem_map.2 ⟨_,List.getElem_mem hk,rfl⟩
   obtain⟨l,hl,hk',_⟩:=gU.1 this;exact⟨l,hl,hk'⟩
  rw[<-BX,<-ď] at ĺ;rw[<-BX];obtain⟨n,ϭ⟩:∃n,n=L.length:=⟨_,rfl⟩;rw[<-ϭ] at ĺ ⊢;have Ð:n<=1000:=by
   rw[ϭ,BX];exact Nat.le_trans (by unfold cZ;rw[List.length_map];exact List.length_filter_le _ _) hn
  have HN:=ϻ ϭ;have Pd:=ϻ hLk;have Kh:=ϻ ĺ;have ahp:=ϻ (aho.out.below ώ);have HX3:=ϻ ((ώ.block _ (aC uK.out)).trans uK.out);have fU:Hid (Kept F wa w3):=jr.out.trans (Kept.of_below (S:=[]) ώ) (λx hx=>by cases hx);have ahr:Hid (wa.heap.size<w2.heap.size):=aC uK.out;have HS3:Hid (w2.heap.size<=w3.heap.size):=ώ.size;clear ώ ĺ ď BX hLk ϭ y0 pQ aho;dsimp only
  go_wp2_with fail;go_loopw [19] (λi wr=>∃(k:Nat) (d':Dk) (F':List Nat),k<=n/\i = .int .i64 (k:Int)/\fP w wr sb hb db S d' Bs span keep vB G F' H/\pV (gI (L.take k)) d1=(d',0,-1)/\Kept F w3 wr/\(∀x,x∈F'->x∈F\/w3.heap.size<=x)/\d'.L.length<=65536) (λi _=>n-(intOf i).toNat);case atStart=>exact⟨0,d1,F,Nat.zero_le _,rfl,ahp.out,rfl,Kept.refl _ _,λx hx=>.inl hx,HD1.out⟩
  case round=>
   obtain⟨wk,hwk⟩:∃wk,wk=wr:=⟨_,rfl⟩;subst hwk;obtain⟨k,d',F',hk,rfl,ϙ,ř,Ś,hF',hdl⟩:=hrel;clear ahp;have xS:=ϻ ϙ;have HAP:=ϻ ř;have wD:=ϻ Ś;have Ip:=ϻ hF';have hF3:∀x,x∈F->x<w2.heap.size:=λx hx=>by have:=tq x hx;have:=ahr.out;omega
   have ŵ:wk.heap[wa.heap.size]? = some (.cells #[.pointer (some ⟨hb,0,none⟩),.pointer (some ⟨db,0,none⟩)] 69 (0,0)):=(Ś.block _ (aC HX3.out) (λhx=>by have:=tq _ hx;omega)).trans HX3.out;by_cases Ϧ:k<n
   ·have AZ:k<L.length:=by rw[<-HN.out];exact Ϧ
    obtain⟨xk,æ⟩:∃xk:ByteArray,xk=⟨(L[k].1).toArray⟩:=⟨_,rfl⟩;have hxd:xk.data.toList=L[k].1:=by rw[æ]
    have ϔ:wk.ownsRow w2.heap.size 9 1 (.slice a5 n M0) n ((L.map Prod.fst).map encStr):=bA Kh.out λg hg=>Ś.block g (aF Kh.out hg).2.1 λhx=>by
     have h1:=(aF Kh.out hg).1;have h2:=hF3 g hx;omega
    obtain⟨g5,e5,ö⟩:∃g5,a5=some ⟨g5,0,none⟩/\wk.cell? ⟨g5,k,none⟩=some (.string xk):=by
     rcases ϔ.2 with⟨_,hz⟩|⟨g,cap,cur,hv,_,hh,_,_,hs,hc⟩
     ·omega
     ·injection hv with hv;refine⟨g,hv,?_⟩;have e1:wk.cell? ⟨g,k,none⟩=cur[k]?:=by simp[World.cell?,hh]
      have e2:cur[k]? = (cur.toList.take (n*1))[k]?:=by rw[List.getElem?_take_of_lt (by omega)];simp
      rw[e1,e2,hc,æ];simp[AZ,encStr]
    subst e5;obtain⟨Ξ,l,hl,ß⟩:=Pd.out k AZ;obtain⟨P,hP⟩:∃P,P=L[k].2:=⟨_,rfl⟩;have ς:xk.size<=1000:=by
     have e:xk.size=L[k].1.length:=by rw[æ];simp[ByteArray.size]
     obtain⟨_,_,_,_,Ϸ⟩:=ϙ.hd.ex;have:=Ϸ.len l hl;rw[e,<-ß];exact this
    have k0:(0:Int)<=(k:Int):=by omega
    have k1:(k:Int)<(n:Int):=by omega
    have y0:=ak ŵ 0;simp at y0;have tH:=ϻ (FL w wk hb S G ϙ.hd hc xk ς 0 1099511627776);rw[hxd,<-Ξ,<-hP] at tH;have Gu:=ϻ (And.intro hP (And.intro Ξ hxd));have HX5:=ϻ ŵ;clear ϙ ř Ś hF' æ hxd ϔ Ξ hl ß hP ŵ;go_wp2_with fail;refine Calls.mono tH.out ?_;rintro e w4 ⟨v4,rfl,lY,Ϩ⟩;obtain⟨a4,c4,rfl,_,z8,yw⟩:=iF lY;have Qx:∀p,p∈P->p.2<18446744073709551616:=λp hp=>by
     rw[Gu.out.1,Gu.out.2.1] at hp;obtain⟨h1,h2⟩:=List.mem_filter.1 hp;obtain⟨l',hl',hp'⟩:=Gl h1;exact (xS.out.hd.well.JK l' hl' p hp').2.2
    obtain⟨m,hm⟩:∃m,m=P.length:=⟨_,rfl⟩;have TA:m<=1000:=by
     rw[hm,Gu.out.1,Gu.out.2.1];exact Nat.le_trans (List.length_filter_le _ _) (Nat.le_trans (xR S _) hc)
    rw[<-hm] at lY ⊢;have HM:=ϻ hm;have Qy:=ϻ (And.intro z8 yw);have gT:=ϻ Ϩ;have Qn:=ϻ Qx;have ahs:=ϻ (xS.out.below Ϩ);have HX4:=ϻ ((Ϩ.block _ (aC HX5.out)).trans HX5.out);have HA0:Hid (pV (gI (L.take k)++(P.take 0).map λp=>(L[k].1,p.1,p.2)) d1=(d',0,-1)):=by
     show _=_;rw[List.take_zero,List.map_nil,List.append_nil];exact HAP.out
    clear lY Ϩ z8 yw Qx hm tH y0 ö;dsimp only
    go_wp2_with fail;go_loopw [28] (λj wr=>∃(q:Nat) (d2:Dk) (F2:List Nat),q<=m/\j = .int .i64 (q:Int)/\fP w wr sb hb db S d2 Bs span keep vB G F2 H/\pV (gI (L.take k)++(P.take q).map λp=>(L[k].1,p.1,p.2)) d1=(d2,0,-1)/\Kept F' w4 wr/\(∀x,x∈F2->x∈F'\/w4.heap.size<=x)/\d2.L.length<=65536) (λj _=>m-(intOf j).toNat);case atStart=>exact⟨0,d',F',Nat.zero_le _,rfl,ahs.out,HA0.out,Kept.refl _ _,λx hx=>.inl hx,hdl⟩
    case round=>
     obtain⟨q,d2,F2,hq,rfl,ϟ,haz,Ĕ,hF2,abt⟩:=hrel;clear ahs HA0;have eH:=ϻ ϟ;have TD:=ϻ haz;have Cv:=ϻ Ĕ;have iN:=ϻ hF2;have amd:∀x,x∈F'->x<wk.heap.size:=λx hx=>(xS.out.dk.mem hx).2
     have Db:wa.heap.size∉F':=λhx=>by
      rcases Ip.out _ hx with h1|h1
      ·have:=tq _ h1;omega
      ·have:=ahr.out;have:=aC HX3.out;have h5:w2.heap.size<=w3.heap.size:=HS3.out;omega
     have hx6:=(Ĕ.block _ (aC HX4.out) Db).trans HX4.out;by_cases hqm:q<m
     ·have EC:q<P.length:=by rw[<-HM.out];exact hqm
      obtain⟨t,ht⟩:∃t,t=P[q].1:=⟨_,rfl⟩;obtain⟨u,hu⟩:∃u,u=P[q].2:=⟨_,rfl⟩;have Jt:P ≠ []:=λe=>by rw[e] at EC;exact absurd EC (Nat.not_lt_zero _)
      obtain⟨g4,κ,abj,Qz⟩:=Qy.out.2 Jt;subst κ;obtain⟨b',o',e',Ϥ⟩:∃b o,some (⟨g4,0,none⟩:Addr)=some ⟨b,o,none⟩/\∀k (hk:k<P.length),w4.cell? ⟨b,o+k*2,none⟩=some (.int .i64 P[k].1)/\w4.cell? ⟨b,o+k*2+1,none⟩=some (.int .u64 (P[k].2:Int)):=by
       rcases Qy.out.1 with h|h
       ·exact absurd h Jt
       ·exact h
      injection e' with e';injection e' with e1 e2;subst e1 e2;obtain⟨c0,c1⟩:=Ϥ q EC;have ŋ:wr.heap[g4]? = w4.heap[g4]?:=Ĕ.block g4 Qz (λhx=>by have:=amd _ hx;omega);have z0:wr.cell? ⟨g4,q*2,none⟩=some (.int .i64 t):=by
       rw[ht,<-c0];simp[World.cell?,ŋ]
      have z1:wr.cell? ⟨g4,q*2+1,none⟩=some (.int .u64 (u:Int)):=by
       rw[hu,<-c1];simp[World.cell?,ŋ]
      have q0:(0:Int)<=(q:Int):=by omega
      have q1:(q:Int)<(m:Int):=by omega
      obtain⟨Z1,hZ1⟩:∃Z1,Z1=wr.alloc (.cells #[.int .i64 t,.int .u64 (u:Int)] 43):=⟨_,rfl⟩;have tQ:Below wr.heap.size wr Z1:=by rw[hZ1];exact (Below.refl _ _).alloc (Nat.le_refl _) _
      have QA:Z1.heap[wr.heap.size]? = some (.cells #[.int .i64 t,.int .u64 (u:Int)] 43 (0,0)):=by rw[hZ1];exact heap_alloc_new _ _
      have x0:=ak QA 0;have x1:=ak QA 1;simp at x0 x1;have y1:=ak ((tQ.block _ (aC hx6)).trans hx6) 1;simp at y1;have hut:u<18446744073709551616:=by rw[hu];exact Qn.out _ (List.getElem_mem EC)
      have HDA:=ϻ (M9 w HE.out.w hB Z1 db d2 F2 (ϟ.below tQ).dk abt xk (by omega) t u hut);have HZ1:Hid (∀wx,wx=wr.alloc (.cells #[.int .i64 t,.int .u64 (u:Int)] 43)->wx=Z1):=λwx h=>h.trans hZ1.symm
      have gQ:=ϻ (ϟ.below tQ);have EF:=ϻ tQ;have ED:=ϻ (And.intro ht (And.intro hu EC));have TB:Hid (P.take (q+1)=P.take q ++ [P[q]]):=List.take_succ_eq_append_getElem EC;clear ϟ haz Ĕ hF2 ht hu Jt abj Qz Ϥ c0 c1 ŋ hZ1 tQ QA hx6;go_upto_region 10 with fail;rw[HZ1.out _ rfl];go_wp2_with fail;refine Calls.mono HDA.out ?_;rintro e w6 ⟨v6,F6,rfl,Y8,hd6,IY,YC⟩;have VR:=gQ.out.disk hd6 IY YC;have VT:Kept F' w4 w6:=(Cv.out.trans (Kept.of_below (S:=[]) EF.out) (λx hx=>by cases hx)).trans IY iN.out;have hF6:∀x,x∈F6->x∈F'\/w4.heap.size<=x:=λx hx=>by
       rcases YC x hx with h1|h1
       ·exact iN.out x h1
       ·exact .inr (Nat.le_trans (Nat.le_trans Cv.out.size EF.out.size) h1)
      have ϭ:=Bv d2 xk.data.toList t u;by_cases ô:nE d2 xk.data.toList t u=0
      ·obtain rfl:=Y8.none ô;have aM:Hid (fP w w6 sb hb db S (uz d2 xk.data.toList t u) Bs span keep vB G F6 H/\pV (gI (L.take k)++(P.take (q+1)).map λp=>(L[k].1,p.1,p.2)) d1=(uz d2 xk.data.toList t u,0,-1)/\Kept F' w4 w6/\(∀x,x∈F6->x∈F'\/w4.heap.size<=x)/\(uz d2 xk.data.toList t u).L.length<=65536):=by
        refine⟨VR,?_,VT,hF6,DW _ _ _ _ abt⟩;obtain⟨e1,e2,_⟩:=ED.out;rw[TB.out,List.map_append,<-List.append_assoc,KM TD.out,List.map_cons,List.map_nil,<-e1,<-e2,<-Gu.out.2.2,pV,if_neg (by show ¬ 0<nE d2 xk.data.toList t u;omega)];rfl
       clear Y8 hd6 IY YC VR VT hF6 ô ϭ x0 x1 y1 z0 z1 HDA;dsimp only
       go_wp2;go_roundw;case rel=>exact⟨q+1,_,F6,by omega,by go_num,aM.out.1,aM.out.2.1,aM.out.2.2.1,aM.out.2.2.2.1,aM.out.2.2.2.2⟩
       case measure=>simp[intOf]<;>omega
      ·obtain⟨tv,pv,rfl⟩:=vU Y8 ô;have aM:Hid (VP ea w wa sb hb db S (KN (gI L) d) Bs span keep vB G F H (IX (gI L) d) (QE (gI L) d) (.returned (.iface tv (.pointer (some pv)))) w6):=by
        obtain⟨e1,e2,e3⟩:=ED.out;have EG:k<L.length:=by rw[<-HN.out];exact Ϧ
        have hent:gI L=(gI (L.take k)++(P.take q).map λp=>(L[k].1,p.1,p.2))++((xk.data.toList,t,u)::((P.drop (q+1)).map λp=>(L[k].1,p.1,p.2))++gI (L.drop (k+1))):=by
         have hP:=Gu.out.1;subst hP;have h9:=aej L k EG q e3;rw[Gu.out.2.2,e1,e2];exact h9
        obtain⟨f1,f2,f3⟩:=HF.out;have happ:pV (gI L) d1=(uz d2 xk.data.toList t u,nE d2 xk.data.toList t u,Gj xk.data.toList t):=by
         rw[hent,KM TD.out,List.cons_append,pV,if_pos (by show 0<nE d2 xk.data.toList t u;omega)]
        rw[f1,f2,f3,happ];refine⟨_,F6,rfl,Y8,VR,((fU.out.trans wD.out λx hx=>.inl hx).trans (Kept.of_below (S:=[]) gT.out) (λx hx=>by cases hx)).trans VT λx hx=>?_,λx hx=>?_⟩
        ·rcases Ip.out x hx with h1|h1
         ·exact .inl h1
         ·exact .inr (Nat.le_trans fU.out.size h1)
        ·rcases hF6 x hx with h1|h1
         ·rcases Ip.out x h1 with h2|h2
          ·exact .inl h2
          ·exact .inr (Nat.le_trans fU.out.size h2)
         ·exact .inr (Nat.le_trans (Nat.le_trans (Nat.le_trans fU.out.size wD.out.size) gT.out.size) h1)
       clear Y8 hd6 IY YC VR VT hF6 ô ϭ x0 x1 y1 z0 z1 HDA;dsimp only
       go_wp2;go_ret;exact aM.out
     ·obtain rfl:q=m:=by omega
      have aM:Hid (pV (gI (L.take (k+1))) d1=(d2,0,-1)/\Kept F w3 wr/\∀x,x∈F2->x∈F\/w3.heap.size<=x):=by
       have EG:k<L.length:=by rw[<-HN.out];exact Ϧ
       refine⟨?_,(wD.out.trans (Kept.of_below (S:=[]) gT.out) (λx hx=>by cases hx)).trans Ĕ Ip.out,λx hx=>?_⟩
       ·have iO:P.take q=P:=by rw[HM.out];exact List.take_length
        rw[List.take_succ_eq_append_getElem EG,Y7,<-Gu.out.1];have h1:=haz;rw[iO] at h1;exact h1
       ·rcases hF2 x hx with h1|h1
        ·exact Ip.out x h1
        ·exact .inr (Nat.le_trans (Nat.le_trans wD.out.size gT.out.size) h1)
      clear ϟ haz Ĕ hF2 hx6 Cv iN TD;go_wp2;go_roundw;case rel=>exact⟨k+1,d2,F2,by omega,by go_num,eH.out,aM.out.1,aM.out.2.1,aM.out.2.2,abt⟩
      case measure=>simp[intOf]<;>omega
   ·obtain rfl:k=n:=by omega
    have iO:L.take k=L:=by rw[HN.out];exact List.take_length
    rw[iO] at ř;have aM:Hid (VP ea w wa sb hb db S (KN (gI L) d) Bs span keep vB G F H (IX (gI L) d) (QE (gI L) d) (.returned .nilIface) wk):=by
     obtain⟨f1,f2,f3⟩:=HF.out;rw[f1,f2,f3,ř];refine⟨_,F',rfl,.inl ⟨rfl,rfl⟩,ϙ,fU.out.trans Ś λx hx=>.inl hx,λx hx=>?_⟩;rcases hF' x hx with h1|h1
     ·exact .inl h1
     ·exact .inr (Nat.le_trans fU.out.size h1)
    clear ϙ ř Ś hF' ŵ iO xS HAP wD Ip;go_wp2;go_ret;exact aM.out
theorem KO{wa wr:World}{base:Nat}{aB:Option Addr}{n cB:Nat}{Bs:List Bk}{vs:List (Value×Value)}(ho:wa.ownsRow base 78 4 (.slice aB n cB) n (bO Bs vs))(hn:n=Bs.length)(ϥ:vs.length=Bs.length)
  (ì:∀i (hi:i<Bs.length) (hv:i<vs.length),wa.ownsRow base 9 1 vs[i].1 Bs[i].2.2.length ((Bs[i].2.2.map Prod.fst).map encStr)/\wa.ownsRow base 9 1 vs[i].2 Bs[i].2.2.length ((Bs[i].2.2.map λr=>fG r.2).map encStr)) (hb:Below wa.heap.size wa wr) (k:Nat) (hk:k<Bs.length) :
  ∃g p1 t1 p2 t2,aB=some ⟨g,0,none⟩/\wr.cell? ⟨g,k*4,none⟩=some (.int .i64 Bs[k].1)/\wr.cell? ⟨g,k*4+1,none⟩=some (.int .i64 Bs[k].2.1)/\wr.cell? ⟨g,k*4+2,none⟩=some (.slice p1 Bs[k].2.2.length t1)/\wr.cell? ⟨g,k*4+3,none⟩=some (.slice p2 Bs[k].2.2.length t2) /\
   wr.ownsRow base 9 1 (.slice p1 Bs[k].2.2.length t1) Bs[k].2.2.length ((Bs[k].2.2.map Prod.fst).map encStr)/\wr.ownsRow base 9 1 (.slice p2 Bs[k].2.2.length t2) Bs[k].2.2.length ((Bs[k].2.2.map λr=>fG r.2).map encStr):=by
 have Y9:k<vs.length:=by omega
 obtain⟨g,rfl⟩:∃g,aB=some ⟨g,0,none⟩:=by
  rcases ho.2 with⟨hv,h0⟩|⟨g,cap,cur,hv,_⟩
  ·omega
  ·injection hv with ñ _ _;exact⟨g,ñ⟩
 have ϡ:=Ac ho;obtain⟨b0,b1,b2,b3⟩:=yZ Bs vs ϥ k hk Y9;have hc:∀j u,(bO Bs vs)[j]? = some u->wr.cell? ⟨g,j,none⟩=some u:=λj u hj=>by
  have h1:=ϡ j u hj;rw[Addr.add_lit,Nat.zero_add] at h1;exact (hb.cell (p:=⟨g,j,none⟩) (World.block_lt_of_cell? wa ⟨g,_,none⟩ h1)).trans h1
 obtain⟨r1,r2⟩:=ì k hk Y9;obtain⟨p1,t1,ñ⟩:=bB r1;obtain⟨p2,t2,Ū⟩:=bB r2;have y2:=hc _ _ b2;have y3:=hc _ _ b3;rw[ñ] at y2 r1;rw[Ū] at y3 r2;exact⟨g,p1,t1,p2,t2,rfl,hc _ _ b0,hc _ _ b1,y2,y3,bM r1 hb,bM r2 hb⟩
theorem y9{w:World}{base:Nat}{a:Option Addr}{n c:Nat}{ss:List (List UInt8)}(h:w.ownsRow base 9 1 (.slice a n c) n (ss.map encStr))(k:Nat)(hk:k<ss.length)(Ϧ:k<n):∃g,a=some ⟨g,0,none⟩/\w.cell? ⟨g,k,none⟩=some (.string ⟨ss[k].toArray⟩):=by
 obtain⟨g,rfl⟩:∃g,a=some ⟨g,0,none⟩:=by
  rcases h.2 with⟨hv,h0⟩|⟨g,cap,cur,hv,_⟩
  ·omega
  ·injection hv with ñ _ _;exact⟨g,ñ⟩
 have h1:=Ac h k (encStr ss[k]) (by simp[hk]);rw[Addr.add_lit,Nat.zero_add] at h1;exact⟨g,rfl,h1⟩
theorem Gv(w wa:World)(sb hb db:Nat)(S:List Sr)(d:Dk)(Bs:List Bk)(span keep:Int)(vB:Value)(G F H:List Nat)(h:fP w wa sb hb db S d Bs span keep vB G F H)(hn:Bs.length<=1000)(hl:∀b,b∈Bs->b.2.2.length<=1000):
  Calls prog 11 #[.pointer (some ⟨sb,0,none⟩)] wa λe w'=>∃v H',e = .returned v/\jW w' wa.heap.size v Bs H'/\Below wa.heap.size wa w':=by
 obtain⟨vs,ϥ,_,gJ,ì⟩:=h.uQ.ex;obtain⟨aB,cB,rfl⟩:=bB gJ;obtain⟨n,ϭ⟩:∃n,n=Bs.length:=⟨_,rfl⟩;have x4:=ak h.blk 4;simp at x4;rw[<-ϭ] at x4 gJ hn;have KP:=ϻ gJ;have OW:=ϻ ì;have Nn:=ϻ (And.intro ϭ ϥ);have BN:=ϻ hl;obtain⟨iB,hIB,hB0,ť,Ŝ⟩:=info_parts Tryz.infoBk;have QF:=ϻ hIB;have H0:Hid (jW wa wa.heap.size (.slice none 0 0) (Bs.take 0) []):=jW.nil _ _;clear h gJ ì ϭ ϥ hl hIB;go_enter func11,ntmps11;go_wp2_with fail;go_loopw [3,11] (λl i wr=>∃(k:Nat) (H':List Nat),k<=n/\i = .int .i64 (k:Int)/\jW wr wa.heap.size l (Bs.take k) H'/\Below wa.heap.size wa wr) (λ_ i _=>n-(intOf i).toNat);case atStart=>exact⟨0,[],Nat.zero_le _,rfl,H0.out,Below.refl _ _⟩
 case round=>
  obtain⟨k,H',hk,rfl,ŋ,ϛ⟩:=hrel;clear H0;have MK:=ϻ ŋ;have bH:=ϻ ϛ;by_cases Ϧ:k<n
  ·obtain⟨ϭ,ϥ⟩:=Nn.out;have Ų:k<Bs.length:=by omega
   have Y9:k<vs.length:=by omega
   obtain⟨g,rfl⟩:∃g,aB=some ⟨g,0,none⟩:=by
    rcases KP.out.2 with⟨hv,h0⟩|⟨g,cap,cur,hv,_⟩
    ·omega
    ·injection hv with ñ _ _;exact⟨g,ñ⟩
   have ϡ:=Ac KP.out;obtain⟨b0,b1,b2,b3⟩:=yZ Bs vs ϥ k Ų Y9;have hc:∀j u,(bO Bs vs)[j]? = some u->wr.cell? ⟨g,j,none⟩=some u:=λj u hj=>by
    have h1:=ϡ j u hj;rw[Addr.add_lit,Nat.zero_add] at h1;exact (ϛ.cell (p:=⟨g,j,none⟩) (World.block_lt_of_cell? wa ⟨g,_,none⟩ h1)).trans h1
   obtain⟨f,hf⟩:∃f,f=Bs[k].1:=⟨_,rfl⟩;obtain⟨s,hs⟩:∃s,s=Bs[k].2.1:=⟨_,rfl⟩;obtain⟨r1,r2⟩:=OW.out k Ų Y9;obtain⟨p1,t1,ñ⟩:=bB r1;obtain⟨p2,t2,Ū⟩:=bB r2;obtain⟨m,hm⟩:∃m,m=Bs[k].2.2.length:=⟨_,rfl⟩;obtain⟨N1,Ť⟩:∃N1,N1=Bs[k].2.2.map Prod.fst:=⟨_,rfl⟩;obtain⟨N2,Np⟩:∃N2,N2=Bs[k].2.2.map λr=>fG r.2:=⟨_,rfl⟩
   have Œ:m=N1.length:=by rw[Ť,List.length_map,hm]
   have ē:m=N2.length:=by rw[Np,List.length_map,hm]
   rw[<-Ť] at r1;rw[<-Np] at r2;have y0:=hc _ _ b0;have y1:=hc _ _ b1;have y2:=hc _ _ b2;have y3:=hc _ _ b3;rw[<-hf] at y0;rw[<-hs] at y1;rw[ñ] at y2 r1;rw[Ū] at y3 r2;rw[<-hm] at y2 y3 r1 r2;have Ĥ:m<=1000:=by rw[hm];exact BN.out _ (List.getElem_mem Ų)
   obtain⟨W,hW⟩:∃W,W=wr.alloc (.cells #[.int .i64 f,.int .i64 s,.slice p1 m t1,.slice p2 m t2] 78):=⟨_,rfl⟩;have Ϝ:Below wr.heap.size wr W:=by rw[hW];exact (Below.refl _ _).alloc (Nat.le_refl _) _
   have Gw:W.heap[wr.heap.size]? = some (.cells #[.int .i64 f,.int .i64 s,.slice p1 m t1,.slice p2 m t2] 78 (0,0)):=by rw[hW];exact heap_alloc_new _ _
   have gQ:Hid (∀z,Below W.heap.size W z->z.cell? ⟨wr.heap.size,2,none⟩=some (.slice p1 m t1)/\z.cell? ⟨wr.heap.size,3,none⟩=some (.slice p2 m t2)):=λz hz=>by
    have e1:=(hz.block _ (aC Gw)).trans Gw;exact⟨ak e1 2,ak e1 3⟩
   have LA:Below wa.heap.size wa W:=ϛ.trans (Ϝ.mono ϛ.size);have ng:Hid (∀z,Below W.heap.size W z->Calls prog 30 #[.slice p1 m t1] z λe z'=>∃a' c',e = .returned (.slice a' m c')/\Below W.heap.size W z'/\z'.ownsRow W.heap.size 9 1 (.slice a' m c') m (N1.map encStr)):=λz hz=>by
    refine (KL z _ _ m N1 Œ (bA r1 λg hg=>?_) (by omega)).mono ?_
    ·exact (LA.trans (hz.mono LA.size)).block g (aF r1 hg).2.1
    ·rintro e z' ⟨v',rfl,h1,h2⟩;obtain⟨a',c',rfl⟩:=bB h1;exact⟨a',c',rfl,hz.trans (h2.mono hz.size),iY h1 hz.size⟩
   have xM:Hid (∀z a1 c1,Below W.heap.size W z->z.ownsRow W.heap.size 9 1 (.slice a1 m c1) m (N1.map encStr)->Calls prog 30 #[.slice p2 m t2] z λe z'=>∃a' c',e = .returned (.slice a' m c')/\Below W.heap.size W z'/\z'.ownsRow W.heap.size 9 1 (.slice a1 m c1) m (N1.map encStr)/\z'.ownsRow W.heap.size 9 1 (.slice a' m c') m (N2.map encStr)):=λz a1 c1 hz h1'=>by
    refine (KL z _ _ m N2 ē (bA r2 λg hg=>?_) (by omega)).mono ?_
    ·exact (LA.trans (hz.mono LA.size)).block g (aF r2 hg).2.1
    ·rintro e z' ⟨v',rfl,h1,h2⟩;obtain⟨a',c',rfl⟩:=bB h1;exact⟨a',c',rfl,hz.trans (h2.mono hz.size),bM h1' h2,iY h1 hz.size⟩
   have HW:Hid (∀wx,wx=wr.alloc (.cells #[.int .i64 f,.int .i64 s,.slice p1 m t1,.slice p2 m t2] 78)->wx=W):=λwx h=>h.trans hW.symm
   have Cy:=ϻ (And.intro Gw (And.intro Ϝ LA));have HFS:=ϻ (And.intro hf (And.intro hs (And.intro hm Ų)));have vM:=ϻ (And.intro Ť Np);have HB0:Hid (Below W.heap.size W W.drew):=fD (Below.refl _ _);have k0:(0:Int)<=(k:Int):=by omega
   have k1:(k:Int)<(n:Int):=by omega
   clear ŋ ϛ ϭ ϥ ϡ b0 b1 b2 b3 hc hf hs r1 r2 ñ Ū hm hW Ϝ Gw LA Ť Np Œ ē;go_upto_region 5 with fail;rw[HW.out _ rfl];clear y0 y1 y2 y3;refine jB (S:=λz=>z.cell? ⟨wr.heap.size,2,none⟩=some (.slice p1 m t1)/\z.cell? ⟨wr.heap.size,3,none⟩=some (.slice p2 m t2)) (by kernel_rfl) 7 (gQ.out _ HB0.out) (λύ=>?_);refine dK 0 15 (.pointer (some ⟨wr.heap.size,2,none⟩)) ύ rfl rfl ?_ ?_
   ·intro w _;go_simp
   try simp only[Act.put,ã,ä,å]
   refine nO 1 16 (.slice p1 m t1) ύ rfl rfl ?_ ?_
   ·intro w Ä;obtain⟨oh,om⟩:=Ä;go_simp
   try simp only[Act.put,ã,ä,å]
   refine dK 3 18 (.pointer (some ⟨wr.heap.size,3,none⟩)) ύ rfl rfl ?_ ?_
   ·intro w _;go_simp
   try simp only[Act.put,ã,ä,å]
   refine nO 4 19 (.slice p2 m t2) ύ rfl rfl ?_ ?_
   ·intro w Ä;obtain⟨oh,om⟩:=Ä;go_simp
   try simp only[Act.put,ã,ä,å]
   refine ru 2 rfl λK hK=>?_
   go_simp
   refine Calls.mono (ng.out _ HB0.out) ?_;rintro e w2 ⟨a1,c1,rfl,ϓ,Ã⟩;dsimp only
   refine hK.out _ _ (gQ.out _ ϓ) ?_;clear hK K;try simp only[Act.put,ã,ä,å]
   refine dK 6 21 (.pointer (some ⟨wr.heap.size,2,none⟩)) (gQ.out _ ϓ) rfl rfl ?_ ?_
   ·intro w _;go_simp
   try simp only[Act.put,ã,ä,å]
   refine ru 5 rfl λK hK=>?_
   go_simp
   refine Calls.mono (xM.out _ _ _ ϓ Ã) ?_;rintro e w3 ⟨a2,c2,rfl,ώ,ĺ,lY⟩;dsimp only
   refine hK.out _ _ (gQ.out _ ώ) ?_;clear hK K;try simp only[Act.put,ã,ä,å]
   have hx3:=(ώ.block _ (aC Cy.out.1)).trans Cy.out.1;have j2:=ak hx3 2;simp at j2;have jf:∀q,w3.frozen? ⟨wr.heap.size,q,none⟩=false:=λq=>av hx3 q
   have hx4:(w3.setCell ⟨wr.heap.size,2,none⟩ (.slice a1 m c1)).heap[wr.heap.size]? = some (.cells #[.int .i64 f,.int .i64 s,.slice a1 m c1,.slice p2 m t2] 78 (0,0)):=(eu hx3 2 _).trans rfl;have j3:=ak hx4 3;simp at j3;have jg:World.frozen? (w3.setCell ⟨wr.heap.size,2,none⟩ (.slice a1 m c1)) ⟨wr.heap.size,3,none⟩=false:=av hx4 3;have ŵ:((w3.setCell ⟨wr.heap.size,2,none⟩ (.slice a1 m c1)).setCell ⟨wr.heap.size,3,none⟩ (.slice a2 m c2)).heap[wr.heap.size]? = some (.cells #[.int .i64 f,.int .i64 s,.slice a1 m c1,.slice a2 m c2] 78 (0,0)):=(eu hx4 3 _).trans rfl;refine pU 7 rfl λK hK=>?_
   go_simp
   refine hK.out _ _ ?_;clear hK K;try simp only[Act.put,ã,ä,å]
   refine pU 8 rfl λK hK=>?_
   go_simp
   refine hK.out _ _ ?_;clear hK K;try simp only[Act.put,ã,ä,å]
   refine pU 9 rfl λK hK=>?_
   go_simp
   refine hK.out _ _ ?_;clear hK K;try simp only[Act.put,ã,ä,å]
   refine fB (by kernel_rfl) ?_ _;obtain⟨Z,hZ⟩:∃Z,Z=(w3.setCell ⟨wr.heap.size,2,none⟩ (.slice a1 m c1)).setCell ⟨wr.heap.size,3,none⟩ (.slice a2 m c2):=⟨_,rfl⟩;rw[<-hZ] at ŵ ⊢;have z0:=ak ŵ 0;have z1:=ak ŵ 1;have z2:=ak ŵ 2;have z3:=ak ŵ 3;simp at z0 z1 z2 z3;have Tw:wr.heap.size<W.heap.size:=aC Cy.out.1;have đ:∀x,x≠wr.heap.size->Z.heap[x]? = w3.heap[x]?:=λx hx=>by
    rw[hZ,Below.heap_setCell _ _ _ _ (by show x≠wr.heap.size;exact hx),Below.heap_setCell _ _ _ _ (by show x≠wr.heap.size;exact hx)]
   have tQ:Below wr.heap.size wr Z:=by
    have h1:Below wr.heap.size wr w3:=Cy.out.2.1.trans (ώ.mono Cy.out.2.1.size);rw[hZ];exact (h1.setCell (p:=⟨wr.heap.size,2,none⟩) (Nat.le_refl _) _).setCell (p:=⟨wr.heap.size,3,none⟩) (Nat.le_refl _) _
   have ahv:Z.ownsRow wa.heap.size 9 1 (.slice a1 m c1) m (N1.map encStr):=iY (bA ĺ λg hg=>đ g (by have:=(aF ĺ hg).1;omega)) Cy.out.2.2.size;have ahw:Z.ownsRow wa.heap.size 9 1 (.slice a2 m c2) m (N2.map encStr):=iY (bA lY λg hg=>đ g (by have:=(aF lY hg).1;omega)) Cy.out.2.2.size;obtain⟨us,P8,_,huo,hur⟩:=(MK.out.same λx hx=>tQ.block x (MK.out.mem hx).2).ex;have ϗ:(Bs.take k).length=k:=by rw[List.length_take];have:=HFS.out.2.2.2;omega
   rw[ϗ] at huo;have Lj:=ϻ (And.intro P8 (And.intro hur (And.intro ahv ahw)));have EF:Hid (Below wa.heap.size wa Z):=bH.out.trans (tQ.mono bH.out.size);have uL:Hid ((Z.alloc (.cells #[.int .i64 f,.int .i64 s,.slice a1 m c1,.slice a2 m c2] 78)).ownsRow wa.heap.size 78 4 u3 k (bO (Bs.take k) us)):=huo.alloc _;have jG:Hid (∀i z,([.int .i64 f,.int .i64 s,.slice a1 m c1,.slice a2 m c2]:List Value)[i]? = some z->(Z.alloc (.cells #[.int .i64 f,.int .i64 s,.slice a1 m c1,.slice a2 m c2] 78)).cell? ((⟨Z.heap.size,0,none⟩:Addr).add i)=some z):=World.news_of_block (heap_alloc_new Z _);have mZ:Hid (∀z∈([.int .i64 f,.int .i64 s,.slice a1 m c1,.slice a2 m c2]:List Value),z.oneCell'=true):=by
    intro z hz;simp at hz;rcases hz with rfl|rfl|rfl|rfl<;>rfl
   have hZl:wa.heap.size<=Z.heap.size:=EF.out.size;clear ϓ Ã ώ ĺ lY hx3 j2 jf hx4 j3 jg ŵ hZ đ tQ ahv ahw P8 huo hur ϗ Tw ng xM gQ ύ HB0;go_wp2_with (at_builtin;refine wpList_append_lies _ rfl _ _ 46 rfl wa.heap.size 78 iB (.agg #[.int .i64 0,.int .i64 0,.slice none 0 0,.slice none 0 0]) 4 64 underlying46 QF.out hB0 ť Ŝ rfl (by decide) _ _ _ rfl uL.out ⟨Z.heap.size,0,none⟩ 1 1 [.int .i64 f,.int .i64 s,.slice a1 m c1,.slice a2 m c2] rfl rfl jG.out mZ.out (by omega) (by unfold maxLen;omega) (by omega) (by simp;omega) _ rfl ?_);intro g7 fF w7 bT fT nC _;have aM:Hid (∃Gx,jW w7 wa.heap.size (.slice (some ⟨g7,0,none⟩) (k+1) fF) (Bs.take (k+1)) Gx/\Below wa.heap.size wa w7):=by
    obtain⟨e1,e2,e3,e4⟩:=HFS.out;obtain⟨P8,hur,h3,h4⟩:=Lj.out;have et:Bs.take (k+1)=Bs.take k ++ [Bs[k]]:=List.take_succ_eq_append_getElem e4;have ϗ:(Bs.take k).length=k:=by rw[List.length_take];omega
    have qF:Below Z.heap.size Z (Z.alloc (.cells #[.int .i64 f,.int .i64 s,.slice a1 m c1,.slice a2 m c2] 78)):=(Below.refl _ _).alloc (Nat.le_refl _) _;obtain⟨n1,n2⟩:=vM.out;have h3':Z.ownsRow wa.heap.size 9 1 (.slice a1 m c1) Bs[k].2.2.length ((Bs[k].2.2.map Prod.fst).map encStr):=by rw[<-n1,<-e3];exact h3
    have h4':Z.ownsRow wa.heap.size 9 1 (.slice a2 m c2) Bs[k].2.2.length ((Bs[k].2.2.map λr=>fG r.2).map encStr):=by rw[<-n2,<-e3];exact h4
    have rT:w7.ownsRow wa.heap.size 78 4 (.slice (some ⟨g7,0,none⟩) ((Bs.take k).length+1) fF) ((Bs.take k).length+1) (bO (Bs.take k) us ++ [.int .i64 Bs[k].1,.int .i64 Bs[k].2.1,.slice a1 m c1,.slice a2 m c2]):=by
     rw[ϗ,<-e1,<-e2];exact bT
    have hs:=jW.snoc (wr:=Z.alloc (.cells #[.int .i64 f,.int .i64 s,.slice a1 m c1,.slice a2 m c2] 78)) (w7:=w7) P8 (λi hi hv=>⟨bM (hur i hi hv).1 qF,bM (hur i hi hv).2 qF⟩) Bs[k] (.slice a1 m c1) (.slice a2 m c2) (bM h3' qF) (bM h4' qF) rT (λx cs hx=>fT.block x (Array.getElem?_eq_some_iff.1 hx).1 λe=>by
     obtain⟨_,_,cur,hc⟩:=aF uL.out e.symm;rw[hc] at hx;injection hx with hx;injection hx with _ hx;revert hx;decide)
    rw[<-et,ϗ] at hs;refine⟨_,hs,(EF.out.trans (qF.mono EF.out.size)).trans ⟨fT.os,fT.tape,fT.output,fT.size,λb hb=>fT.block b (by simp;omega) λe=>?_⟩⟩;have:=(aF uL.out e.symm).1;omega
   obtain⟨Gx,q1,q2⟩:=aM.out;have HQ:=ϻ (And.intro q1 q2);clear bT fT nC q1 q2 aM z0 z1 z2 z3;go_wp2;go_roundw;case rel=>exact⟨k+1,Gx,by omega,by go_num,HQ.out.1,HQ.out.2⟩
   case measure=>simp[intOf]<;>omega
  ·obtain rfl:k=n:=by omega
   have iO:Bs.take k=Bs:=by rw[Nn.out.1];exact List.take_length
   rw[iO] at ŋ;have aM:=ϻ (And.intro ŋ ϛ);clear ŋ ϛ iO MK bH;go_wp2;go_ret;exact⟨_,H',rfl,aM.out.1,aM.out.2⟩
theorem Tryz.sizeBk:(prog.info? 78).map (·.size)=some 4:=by kernel_rfl
def EJ:Value:=.agg #[.int .i64 0,.int .i64 0,.slice none 0 0,.slice none 0 0]
theorem Nq:EJ.cells.toList = [.int .i64 0,.int .i64 0,.slice none 0 0,.slice none 0 0]:=by kernel_rfl
theorem TG:EJ.cells.toList.length=4:=by rw[Nq];rfl
theorem ael:∀v∈EJ.cells.toList,v.oneCell'=true:=by
 rw[Nq];intro v hv;simp only[List.mem_cons,List.not_mem_nil,or_false] at hv;rcases hv with rfl|rfl|rfl|rfl<;>rfl
theorem aem(w:World):(zeroValue 78).run prog w = .ok EJ w:=by
 obtain⟨i,hi,h0,_⟩:=info_parts Tryz.infoBk;simp[zeroValue,typeInfo,hi,h0,EJ]
theorem QG(w:World)(g o c:Nat)(L:List Value)(hg:w.heap[g]? = some (.cells L.toArray 78 (0,0)))(ϕ:o+4<=L.length):
  ∃w2,(∀ty,(Builtin.clear_ #[46] ty #[.slice (some ⟨g,o,none⟩) 1 c]).run prog w = .ok (.tuple #[]) w2)/\w2.heap[g]? = some (.cells (dV L o EJ.cells.toList).toArray 78 (0,0))/\jT g w w2:=
 ⟨_,λty=>N9 prog w 46 78 ty EJ underlying46 aem ael g o c L 78 hg (by rw[TG];exact ϕ),setRow_heap w g _ _ 78 _ hg,uj _ _ _⟩
theorem aen(w0 w:World)(hw:w.heap=w0.heap)(g o dLen dCap:Nat)(a:Addr)(sLen sCap:Nat)(L cs:List Value)(hg:w0.heap[g]? = some (.cells L.toArray 78 (0,0)))(hn:cs.length=Nat.min sLen dLen*4)
  (ķ:∀j v,cs[j]? = some v->w0.cell? (a.add j)=some v) (ϕ:o+cs.length<=L.length) (h1:∀v∈cs,v.oneCell'=true) (ho:jT g w0 w) :
  ∃w2 k,(∀ty,(Builtin.copy_ #[46,46] ty #[.slice (some ⟨g,o,none⟩) dLen dCap,.slice (some a) sLen sCap]).run prog w = .ok k w2)/\w2.heap[g]? = some (.cells (dV L o cs).toArray 78 (0,0))/\jT g w0 w2:=by
 have hg':w.heap[g]? = some (.cells L.toArray 78 (0,0)):=by rw[hw];exact hg
 have hc:∀p,w.cell? p=w0.cell? p:=λp=>by unfold World.cell?;rw[hw]
 exact⟨_,_,λty=>EH prog w 46 46 ty 78 g o dLen dCap a sLen sCap 4 L 78 cs underlying46 Tryz.sizeBk hg' hn (λj v h=>(hc _).trans (ķ j v h)) ϕ h1,setRow_heap w g _ _ 78 _ hg',ho.trans (uj _ _ _)⟩
theorem VU(w:World)(g n cap i:Nat)(L:List Value)(hg:w.heap[g]? = some (.cells L.toArray 78 (0,0)))(hL:L.length=cap*4)(hn:n<=cap)(hm:cap<=maxLen)(hj:n=i+2)(b c:Nat)(ys:List Value)(hy:ys.length=4)
  (ķ:∀q u,ys[q]? = some u->w.cell? ((⟨b,0,none⟩:Addr).add q)=some u) (h1:∀u∈ys,u.oneCell'=true) :
  Calls prog 27 #[.slice (some ⟨g,0,none⟩) n cap,.int .i64 (i:Int),.int .i64 (n:Int),.slice (some ⟨b,0,none⟩) 1 c] w λe w'=>e = .returned (.slice (some ⟨g,0,none⟩) (i+1) cap)/\jT g w w' /\
   w'.heap[g]? = some (.cells (dV (dV L (i*4) ys) ((i+1)*4) EJ.cells.toList).toArray 78 (0,0)):=by
 have HM:=ϻ (And.intro hg (And.intro hL (And.intro hm ķ)));have HN:=ϻ (And.intro hj (And.intro hn (And.intro h1 hy)));obtain⟨iB,hIB,hB0,ť,Ŝ⟩:=info_parts Tryz.infoBk;have QF:=ϻ (And.intro hIB (And.intro hB0 ť));have hm':cap<=9223372036854775807:=hm;have x1:¬ i=n:=by omega
 have x2:i+1<n:=by omega
 have x3:¬ cap=i:=by omega
 have x4:¬ cap=i+1:=by omega
 have x5:n-(i+1)=1:=by omega
 have e3:(i:Int)+1<(n:Int):=by omega
 have i1:i<=cap:=by omega
 have i2:n<=cap:=by omega
 have i3:i<=n:=by omega
 have i4:i+1<=n:=by omega
 clear hg hL hm ķ hj hn h1 hy hIB hB0 ť Ŝ;go_enter func27,ntmps27;go_wp2_with (at_builtin;refine Gq rfl _ _ 46 rfl 78 iB 4 underlying46 QF.out.1 QF.out.2.2 g i cap (by rfl) L HM.out.1 ⟨b,0,none⟩ 1 c ys (by rfl) HN.out.2.2.2 HM.out.2.2.2 HN.out.2.2.1 (by omega) (by rw[HN.out.2.2.2,HM.out.2.1];omega) ?_);intro w1 À Ē;have iU:=ϻ (And.intro À Ē);clear À Ē;obtain⟨w2,É,ϧ,Ã⟩:∃w2,(∀ty,(Builtin.clear_ #[46] ty #[.slice (some ⟨g,(i+1)*4,none⟩) 1 (cap-(i+1))]).run prog w1 = .ok (.tuple #[]) w2)/\w2.heap[g]? = some (.cells (dV (dV L (i*4) ys) ((i+1)*4) EJ.cells.toList).toArray 78 (0,0))/\jT g w1 w2:=
  QG w1 g ((i+1)*4) (cap-(i+1)) (dV L (i*4) ys) iU.out.1 (by rw[uR _ _ _ (by rw[HN.out.2.2.2,HM.out.2.1];omega),HM.out.2.1];omega)
 have HG2:=ϻ (And.intro ϧ Ã);clear ϧ Ã;go_wp2;go_ret;exact⟨rfl,(iU.out.2.trans HG2.out.2),HG2.out.1⟩
theorem VW(w:World)(g n cap i j:Nat)(L:List Value)(hg:w.heap[g]? = some (.cells L.toArray 78 (0,0)))(hL:L.length=cap*4)(hn:n<=cap)(hm:cap<=maxLen)(hj:j=i+2)(hjn:j<n)(b c:Nat)(ys:List Value)(hy:ys.length=4)
  (ķ:∀q u,ys[q]? = some u->w.cell? ((⟨b,0,none⟩:Addr).add q)=some u) (h1:∀u∈ys,u.oneCell'=true) (hL1:∀u∈L.take (n*4),u.oneCell'=true) :
  Calls prog 27 #[.slice (some ⟨g,0,none⟩) n cap,.int .i64 (i:Int),.int .i64 (j:Int),.slice (some ⟨b,0,none⟩) 1 c] w λe w'=>e = .returned (.slice (some ⟨g,0,none⟩) (n-1) cap)/\jT g w w' /\
   w'.heap[g]? = some (.cells (dV (dV (dV L (i*4) ys) ((i+1)*4) (((dV L (i*4) ys).drop (j*4)).take ((n-j)*4))) ((n-1)*4) EJ.cells.toList).toArray 78 (0,0)):=by
 have HM:=ϻ (And.intro hg (And.intro hL (And.intro hm ķ)));have HN:=ϻ (And.intro hj (And.intro hn (And.intro h1 hy)));obtain⟨iB,hIB,hB0,ť,Ŝ⟩:=info_parts Tryz.infoBk;have QF:=ϻ (And.intro hIB (And.intro hB0 ť));have hm':cap<=9223372036854775807:=hm;have x1:¬ i=j:=by omega
 have x2:¬ j=n:=by omega
 have x3:¬ cap=i:=by omega
 have x4:¬ cap=i+1:=by omega
 have x5:¬ cap=j:=by omega
 have i1:i<=cap:=by omega
 have i2:j<=cap:=by omega
 have i3:i<=j:=by omega
 have i4:j<=n:=by omega
 obtain⟨m,Û⟩:∃m,m=n-1:=⟨_,rfl⟩;have HT:Hid ((i:Int)+1+((n-j:Nat):Int)=(m:Int)):=show _=_ by omega
 have i5:m<=cap:=by omega
 have i6:¬ cap<m:=by omega
 have i7:i<=m:=by omega
 have i8:i+1<=m:=by omega
 have i9:i+1<=j:=by omega
 have y0:IntKind.i64.wrap ((i:Int)+1)=(i:Int)+1:=IntWalk.i64_in _ (by omega);have y1:(0:Int)<=(i:Int)+1:=by omega
 have y2:(i:Int)+1<=(m:Int):=by omega
 have y3:((i:Int)+1).toNat=i+1:=by omega
 have i10:m<=n:=by omega
 have i11:n-m=1:=by omega
 have x6:¬ cap=m:=by omega
 have HP:Hid (1=Nat.min 1 (m-i)/\n-j=Nat.min (n-j) (m-(i+1))/\m+1<=cap/\i+2+(n-j)<=cap):=⟨by show 1=min 1 (m-i);omega,by show n-j=min (n-j) (m-(i+1));omega,by omega,by omega⟩;rw[<-Û];have Xh:=ϻ Û;have HL1:=ϻ hL1;clear hg hL hm ķ hj hn h1 hy hIB hB0 ť Ŝ hjn Û hL1;go_enter func27,ntmps27;go_wp2_with fail;go_quiet (fail);rw[HT.out];obtain⟨w1,k1,aoz,À,Ē⟩:∃w1 k1,(∀ty,(Builtin.copy_ #[46,46] ty #[.slice (some ⟨g,i*4,none⟩) (m-i) (cap-i),.slice (some ⟨b,0,none⟩) 1 c]).run prog (w.drewN nq) = .ok k1 w1)/\w1.heap[g]? = some (.cells (dV L (i*4) ys).toArray 78 (0,0))/\jT g w w1:=
  aen w (w.drewN nq) rfl g (i*4) (m-i) (cap-i) ⟨b,0,none⟩ 1 c L ys HM.out.1 (by rw[<-HP.out.1];exact HN.out.2.2.2) HM.out.2.2.2 (by rw[HN.out.2.2.2,HM.out.2.1];omega) HN.out.2.2.1 ⟨rfl,rfl,rfl,rfl,λ_ _=>rfl⟩
 obtain⟨L1,QH⟩:∃L1,L1=dV L (i*4) ys:=⟨_,rfl⟩;obtain⟨cs,Ϥ⟩:∃cs,cs=(L1.drop (j*4)).take ((n-j)*4):=⟨_,rfl⟩;have Œ:L1.length=cap*4:=by rw[QH,uR _ _ _ (by rw[HN.out.2.2.2,HM.out.2.1];omega),HM.out.2.1]
 have hlc:cs.length=(n-j)*4:=by
  have:=HN.out.2.1;rw[Ϥ,List.length_take,List.length_drop,Œ];omega
 have HC:Hid (cs.length=Nat.min (n-j) (m-(i+1))*4/\(i+1)*4+cs.length<=L1.length/\∀v∈cs,v.oneCell'=true):=by
  refine⟨by rw[<-HP.out.2.1];exact hlc,?_,λv hv=>?_⟩
  ·have:=HP.out.2.2.2;rw[hlc,Œ];omega
  ·rw[Ϥ,QH,ahm L ys i j n cap HM.out.2.1 HN.out.2.1 HN.out.1 i4 HN.out.2.2.2] at hv;exact HL1.out v (List.mem_of_mem_drop hv)
 have hg1':=À;rw[<-QH] at hg1';have HS:Hid (∀q v,cs[q]? = some v->w1.cell? ((⟨g,j*4,none⟩:Addr).add q)=some v):=λq v hv=>by
  rw[Ϥ,List.getElem?_take] at hv;rw[Addr.add_lit,cell_of_row w1 g _ _ _ _ hg1'];split at hv
  ·rw[List.getElem?_drop] at hv;simpa using hv
  ·cases hv
 have iU:=ϻ (And.intro hg1' Ē);have HE:=ϻ (And.intro QH (And.intro Ϥ Œ));clear À Ē hg1' QH Ϥ Œ hlc;go_wp2_with fail;go_region_law (refine Lv rfl (.tmp 103) (.tmp 106) 46 46 rfl 78 4 underlying46 Tryz.sizeBk g ((i+1)*4) (m-(i+1)) (cap-(i+1)) ⟨g,j*4,none⟩ (n-j) (cap-j) (by simp[Act.eval,Act.put]) (by simp[Act.eval,Act.put]) L1 78 iU.out.1 cs HC.out.1 HS.out HC.out.2.1 HC.out.2.2 ?_;intro w2 k2 ϧ Ã);all_goals
  have ahy:jT g w w2:=iU.out.2.trans ⟨Ã.os,Ã.tape,Ã.output,Ã.size,Ã.block⟩;obtain⟨w3,aoA,Φ,ĺ⟩:∃w3,(∀ty,(Builtin.clear_ #[46] ty #[.slice (some ⟨g,m*4,none⟩) 1 (cap-m)]).run prog w2 = .ok (.tuple #[]) w3)/\w3.heap[g]? = some (.cells (dV (dV L1 ((i+1)*4) cs) (m*4) EJ.cells.toList).toArray 78 (0,0))/\jT g w2 w3:=
   QG w2 g (m*4) (cap-m) (dV L1 ((i+1)*4) cs) ϧ (by have:=HP.out.2.2.1;rw[uR _ _ _ HC.out.2.1,HE.out.2.2];omega)
  have HG3:=ϻ (And.intro Φ (ahy.trans ĺ));clear ϧ Ã ahy Φ ĺ;go_wp2;go_ret;exact⟨rfl,HG3.out.2,by rw[<-HE.out.1,<-HE.out.2.1];exact HG3.out.1⟩
theorem VX(w:World)(base g n cap i j:Nat)(xs:List Value)(ό:w.ownsRow base 78 4 (.slice (some ⟨g,0,none⟩) n cap) n xs)(hj:j=i+2)(hjn:j<=n)(b c:Nat)(ys:List Value)(hy:ys.length=4)
  (ķ:∀q u,ys[q]? = some u->w.cell? ((⟨b,0,none⟩:Addr).add q)=some u) (h1:∀u∈ys,u.oneCell'=true) (ξ:∀u∈xs,u.oneCell'=true) :
  Calls prog 27 #[.slice (some ⟨g,0,none⟩) n cap,.int .i64 (i:Int),.int .i64 (j:Int),.slice (some ⟨b,0,none⟩) 1 c] w λe w'=>e = .returned (.slice (some ⟨g,0,none⟩) (n-1) cap)/\jT g w w' /\
   w'.ownsRow base 78 4 (.slice (some ⟨g,0,none⟩) (n-1) cap) (n-1) (xs.take (i*4)++ys++xs.drop (j*4)):=by
 rcases ό.2 with⟨hv,_⟩|⟨g',cap',cur,hv,hb,hg,hnc,hcm,Ϥ,htake⟩
 ·cases hv
 ·injection hv with ñ Ū hv3;injection ñ with ñ;injection ñ with ñ _ _;subst ñ hv3;have hL:cur.toList.length=cap*4:=by rw[Array.length_toList];exact Ϥ
  have hg':w.heap[g]? = some (.cells cur.toList.toArray 78 (0,0)):=by rw[Array.toArray_toList];exact hg
  have Τ:=aei cur.toList ys EJ.cells.toList i n cap hL hnc (by omega) hy TG;have ϐ:(xs.take (i*4)++ys++xs.drop (j*4)).length=(n-1)*4:=by
   have:=ό.1;rw[List.length_append,List.length_append,List.length_take,List.length_drop,hy];omega
  rw[htake,<-hj,show n-i-2=n-j by omega] at Τ;by_cases ame:j=n
  ·subst ame;have e0:i+1=j-1:=by omega
   refine (VU w g j cap i cur.toList hg' hL hnc hcm hj b c ys hy ķ h1).mono ?_;rintro e w' ⟨rfl,ho,μ⟩;rw[e0] at μ ⊢;refine⟨rfl,ho,ϐ,.inr ⟨g,cap,_,rfl,hb,μ,by omega,hcm,?_,?_⟩⟩
   ·rw[Nat.sub_self,Nat.zero_mul,List.take_zero,Nk] at Τ;rw[List.size_toArray];exact Τ.1
   ·rw[Nat.sub_self,Nat.zero_mul,List.take_zero,Nk] at Τ;exact Τ.2
  ·refine (VW w g n cap i j cur.toList hg' hL hnc hcm hj (by omega) b c ys hy ķ h1 (by rw[htake];exact ξ)).mono ?_;rintro e w' ⟨rfl,ho,μ⟩;refine⟨rfl,ho,ϐ,.inr ⟨g,cap,_,rfl,hb,μ,by omega,hcm,?_,?_⟩⟩
   ·rw[List.size_toArray];exact Τ.1
   ·exact Τ.2
theorem BF:∀(A:List Bk) (a:List (Value×Value)) (_:a.length=A.length) (C:List Bk) (c:List (Value×Value)),bO (A++C) (a++c)=bO A a++bO C c
 | [],[],_,_,_=>rfl
 | [],_::_,h,_,_=>by cases h
 | _::_,[],h,_,_=>by cases h
 | b::A,v::a,h,C,c=>by
  have:=BF A a (by simpa using h) C c;show _::_::_::_::bO (A++C) (a++c)=_;rw[this];rfl
theorem QI(m:Nat)(Bs:List Bk)(vs:List (Value×Value))(h:vs.length=Bs.length)(hm:m<=Bs.length):(bO Bs vs).take (m*4)=bO (Bs.take m) (vs.take m):=by
 have e:bO Bs vs=bO (Bs.take m) (vs.take m)++bO (Bs.drop m) (vs.drop m):=by
  rw[<-BF _ _ (by simp[h]),List.take_append_drop,List.take_append_drop]
 rw[e,List.take_left' (by rw[BA _ _ (by simp[h]),List.length_take,Nat.min_eq_left hm])]
theorem abu{wr w':World}{base g n cap:Nat}{Bs:List Bk}{vs:List (Value×Value)}(hl:vs.length=Bs.length)(hn:n=Bs.length)
  (hr:∀i (hi:i<Bs.length) (hv:i<vs.length),wr.ownsRow base 9 1 vs[i].1 Bs[i].2.2.length ((Bs[i].2.2.map Prod.fst).map encStr)/\wr.ownsRow base 9 1 vs[i].2 Bs[i].2.2.length ((Bs[i].2.2.map λr=>fG r.2).map encStr))
  (ho:jT g wr w') {cur:Array Value} (hg:wr.heap[g]? = some (.cells cur 78 (0,0))) (i:Nat) (hi:i+2<=n) (b:Bk) (v:Value×Value)
  (h1:wr.ownsRow base 9 1 v.1 b.2.2.length ((b.2.2.map Prod.fst).map encStr)) (h2:wr.ownsRow base 9 1 v.2 b.2.2.length ((b.2.2.map λr=>fG r.2).map encStr))
  (ό:w'.ownsRow base 78 4 (.slice (some ⟨g,0,none⟩) (n-1) cap) (n-1) ((bO Bs vs).take (i*4) ++ [.int .i64 b.1,.int .i64 b.2.1,v.1,v.2]++(bO Bs vs).drop ((i+2)*4))) :
  jW w' base (.slice (some ⟨g,0,none⟩) (n-1) cap) (Bs.take i++b::Bs.drop (i+2)) (g::(vs.take i++v::vs.drop (i+2)).flatMap ownB):=by
 subst hn;have oW:∀ {u:Value} {m:Nat} {xs:List Value},wr.ownsRow base 9 1 u m xs->w'.ownsRow base 9 1 u m xs:=fun {u m xs} hu=>by
  refine bA hu λq hq=>ho.block q λe=>?_
  subst e;obtain⟨_,_,cur',hc⟩:=aF hu hq;rw[hg] at hc;injection hc with hc;injection hc with _ hc;revert hc;decide
 have ϐ:(Bs.take i++b::Bs.drop (i+2)).length=Bs.length-1:=by
  rw[List.length_append,List.length_cons,List.length_take,List.length_drop];omega
 have hlv:(vs.take i++v::vs.drop (i+2)).length=(Bs.take i++b::Bs.drop (i+2)).length:=by
  rw[List.length_append,List.length_append,List.length_cons,List.length_cons,List.length_take,List.length_drop,List.length_take,List.length_drop,hl]
 refine⟨_,hlv,rfl,?_,?_⟩
 ·rw[ϐ,BF _ _ (by simp[hl])];rw[QI i Bs vs hl (by omega),Ad (i+2) Bs vs hl,List.append_assoc] at ό;exact ό
 ·intro k hk hkv;rcases Nat.lt_trichotomy k i with hki|hki|hki
  ·have e1:(Bs.take i++b::Bs.drop (i+2))[k]=Bs[k]'(by omega):=by
    rw[List.getElem_append_left (by rw[List.length_take];omega),List.getElem_take]
   have e2:(vs.take i++v::vs.drop (i+2))[k]=vs[k]'(by omega):=by
    rw[List.getElem_append_left (by rw[List.length_take];omega),List.getElem_take]
   rw[e1,e2];obtain⟨r1,r2⟩:=hr k (by omega) (by omega);exact⟨oW r1,oW r2⟩
  ·subst hki;have e1:(Bs.take k++b::Bs.drop (k+2))[k]=b:=by
    rw[List.getElem_append_right (by rw[List.length_take];omega)];simp only[List.length_take,Nat.min_eq_left (show k<=Bs.length by omega),Nat.sub_self,List.getElem_cons_zero]
   have e2:(vs.take k++v::vs.drop (k+2))[k]=v:=by
    rw[List.getElem_append_right (by rw[List.length_take];omega)];simp only[List.length_take,Nat.min_eq_left (show k<=vs.length by omega),Nat.sub_self,List.getElem_cons_zero]
   rw[e1,e2];exact⟨oW h1,oW h2⟩
  ·have hk':k+1<Bs.length:=by omega
   have e1:(Bs.take i++b::Bs.drop (i+2))[k]? = Bs[k+1]?:=by
    rw[List.getElem?_append_right (by rw[List.length_take];omega),List.length_take,Nat.min_eq_left (by omega),show k-i=(k-i-1)+1 by omega,List.getElem?_cons_succ,List.getElem?_drop];congr 1;omega
   have e2:(vs.take i++v::vs.drop (i+2))[k]? = vs[k+1]?:=by
    rw[List.getElem?_append_right (by rw[List.length_take];omega),List.length_take,Nat.min_eq_left (by omega),show k-i=(k-i-1)+1 by omega,List.getElem?_cons_succ,List.getElem?_drop];congr 1;omega
   rw[List.getElem?_eq_getElem hk,List.getElem?_eq_getElem hk',Option.some.injEq] at e1;rw[List.getElem?_eq_getElem hkv,List.getElem?_eq_getElem (by omega),Option.some.injEq] at e2;rw[e1,e2];obtain⟨r1,r2⟩:=hr (k+1) hk' (by omega);exact⟨oW r1,oW r2⟩
def uT(b:Bk):List (List UInt8):=b.2.2.map Prod.fst
noncomputable def uU(b:Bk):List (List UInt8):=b.2.2.map λr=>fG r.2
noncomputable def A8(a b:Bk):Int:=zW a.1 a.2.1 (uT a) (uU a) b.1 b.2.1 (uT b) (uU b)
noncomputable def amf(a b:Bk):Int:=EA a.1 a.2.1 (uT a) (uU a) b.1 b.2.1 (uT b) (uU b)
noncomputable def vW(a b:Bk):Bk:=(a.1,a.2.1+b.2.1,bC (rowsOf (uT a) (uU a)) (rowsOf (uT b) (uU b)))
structure KQ(ea:Nat->Addr)(w2 z:World)(a b:Bk)(p q:Int)(u1 u2 v3:Value):Prop where
 aH:Below w2.heap.size w2 z
 M4:aL ea z v3 (A8 a b) (amf a b)
 res:(A8 a b=0/\p=(vW a b).1/\q=(vW a b).2.1/\z.ownsRow w2.heap.size 9 1 u1 (vW a b).2.2.length (((vW a b).2.2.map Prod.fst).map encStr)/\z.ownsRow w2.heap.size 9 1 u2 (vW a b).2.2.length (((vW a b).2.2.map λr=>fG r.2).map encStr))\/(A8 a b≠0/\p=0/\q=0/\u1 = .slice none 0 0/\u2 = .slice none 0 0)
theorem KQ.below{ea:Nat->Addr}{w2 z z':World}{a b:Bk}{p q:Int}{u1 u2 v3:Value}(h:KQ ea w2 z a b p q u1 u2 v3)(hb:Below z.heap.size z z'):KQ ea w2 z' a b p q u1 u2 v3:=
 ⟨h.aH.trans (hb.mono h.aH.size),h.M4.below hb,h.res.imp (λg=>⟨g.1,g.2.1,g.2.2.1,bM g.2.2.2.1 hb,bM g.2.2.2.2 hb⟩) id⟩
theorem KQ.uy{ea:Nat->Addr}{w2 z:World}{a b:Bk}{p q:Int}{u1 u2 v3:Value}(h:KQ ea w2 z a b p q u1 u2 v3){c:Nat}{p0 p2 p3:Value}{k:Int}(hz:z.heap[c]? = some (.cells #[p0,.int .i64 k,p2,p3] 78 (0,0)))(hb:w2.heap.size<=c)(x0 x1 x2 x3:Value):KQ ea w2 ((((z.setCell ⟨c,0,none⟩ x0).setCell ⟨c,1,none⟩ x1).setCell ⟨c,2,none⟩ x2).setCell ⟨c,3,none⟩ x3) a b p q u1 u2 v3:=
 ⟨pE h.aH hb _ _ _ _,yX h.M4 hz _ _ _ _,h.res.imp (λg=>⟨g.1,g.2.1,g.2.2.1,rz g.2.2.2.1 hz (by decide) _ _ _ _,rz g.2.2.2.2 hz (by decide) _ _ _ _⟩) id⟩
def VY(ea:Nat->Addr)(w2 z:World)(a b:Bk)(v7 v9:Value):Prop:=
 ∃(jb:Nat) (p q:Int) (g1 g2:Option Addr) (n1 n2 c1 c2:Nat),v9 = .pointer (some ⟨jb,0,none⟩)/\z.heap[jb]? = some (.cells #[.int .i64 p,.int .i64 q,.slice g1 n1 c1,.slice g2 n2 c2] 78 (0,0))/\w2.heap.size<=jb/\KQ ea w2 z a b p q (.slice g1 n1 c1) (.slice g2 n2 c2) v7
theorem abv{B:Nat}{ea:Nat->Addr}(wr z:World)(E:oI B ea z)(hB:B<=z.heap.size)(hz:Below wr.heap.size wr z)(a b:Bk)(base:Nat)(v1 v2 v3 v4:Value)(h1:wr.ownsRow base 9 1 v1 (uT a).length ((uT a).map encStr))(h2:wr.ownsRow base 9 1 v2 (uU a).length ((uU a).map encStr))(h3:wr.ownsRow base 9 1 v3 (uT b).length ((uT b).map encStr))(h4:wr.ownsRow base 9 1 v4 (uU b).length ((uU b).map encStr))
  (ha:∀r,r∈a.2.2->r.1.length<=100000/\(fG r.2).length<=10000) (hb:∀r,r∈b.2.2->r.1.length<=100000/\(fG r.2).length<=10000) (hna:a.2.2.length<=100000) (Ŭ:b.2.2.length<=100000) :
  Calls prog 26 #[.agg #[.int .i64 a.1,.int .i64 a.2.1,v1,v2],.agg #[.int .i64 b.1,.int .i64 b.2.1,v3,v4]] z λe z'=>∃p q g1 g2 n3 n4 k3 k4 v3,e = .returned (.tuple #[.agg #[.int .i64 p,.int .i64 q,.slice g1 n3 k3,.slice g2 n4 k4],v3])/\Below wr.heap.size wr z'/\Below z.heap.size z z'/\KQ ea wr z' a b p q (.slice g1 n3 k3) (.slice g2 n4 k4) v3:=by
 refine (Vs z E hB a.1 a.2.1 b.1 b.2.1 base base base base v1 v2 v3 v4 (uT a) (uU a) (uT b) (uU b) (bM h1 hz) (bM h2 hz) (bM h3 hz) (bM h4 hz) (λx hx=>?_) (λx hx=>?_) (λx hx=>?_) (λx hx=>?_) (by rw[uT,List.length_map];exact hna) (by rw[uU,List.length_map];exact hna) (by rw[uT,List.length_map];exact Ŭ) (by rw[uU,List.length_map];exact Ŭ)).mono ?_
 ·obtain⟨r,hr,rfl⟩:=List.mem_map.1 hx;exact (ha r hr).1
 ·obtain⟨r,hr,rfl⟩:=List.mem_map.1 hx;exact (ha r hr).2
 ·obtain⟨r,hr,rfl⟩:=List.mem_map.1 hx;exact (hb r hr).1
 ·obtain⟨r,hr,rfl⟩:=List.mem_map.1 hx;exact (hb r hr).2
 ·rintro e z' ⟨v,wm,uE,⟨h0,u1,u2,rfl,o1,o2⟩|⟨h0,rfl⟩⟩
  ·have h2:=hz.trans (wm.mono hz.size);have Yv:=iY o1 hz.size;have Yw:=iY o2 hz.size;obtain⟨ua,uc,rfl⟩:=bB o1;obtain⟨ub,ud,rfl⟩:=bB o2;exact⟨_,_,_,_,_,_,_,_,_,rfl,h2,wm,h2,uE,.inl ⟨h0,rfl,rfl,Yv,Yw⟩⟩
  ·have h2:=hz.trans (wm.mono hz.size);exact⟨_,_,_,_,_,_,_,_,_,rfl,h2,wm,h2,uE,.inr ⟨h0,rfl,rfl,rfl,rfl⟩⟩
theorem abw{w wa wr Z w7:World}{sb hb db:Nat}{S:List Sr}{d:Dk}{Bs:List Bk}{span keep:Int}{G F H:List Nat}{g n cB:Nat}(ϙ:fP w wa sb hb db S d Bs span keep (.slice (some ⟨g,0,none⟩) n cB) G F H)(hn:n=Bs.length){vs:List (Value×Value)}(ϥ:vs.length=Bs.length)(ou:H=(Value.slice (some ⟨g,0,none⟩) n cB).ownBlock.toList++vs.flatMap ownB)
  (gJ:wa.ownsRow w.heap.size 78 4 (.slice (some ⟨g,0,none⟩) n cB) n (bO Bs vs))
  (ì:∀i (hi:i<Bs.length) (hv:i<vs.length),wa.ownsRow w.heap.size 9 1 vs[i].1 Bs[i].2.2.length ((Bs[i].2.2.map Prod.fst).map encStr)/\wa.ownsRow w.heap.size 9 1 vs[i].2 Bs[i].2.2.length ((Bs[i].2.2.map λr=>fG r.2).map encStr))
  (ϛ:Below wa.heap.size wa wr) (hZ:Below wr.heap.size wr Z) (k:Nat) (hk:k+2<=n) (b:Bk) (u1 u2:Value)
  (o1:Z.ownsRow wr.heap.size 9 1 u1 b.2.2.length ((b.2.2.map Prod.fst).map encStr)) (o2:Z.ownsRow wr.heap.size 9 1 u2 b.2.2.length ((b.2.2.map λr=>fG r.2).map encStr)) (ho:jT g Z w7)
  (ό:w7.ownsRow w.heap.size 78 4 (.slice (some ⟨g,0,none⟩) (n-1) cB) (n-1) ((bO Bs vs).take (k*4) ++ [.int .i64 b.1,.int .i64 b.2.1,u1,u2]++(bO Bs vs).drop ((k+2)*4))) :
  ∃H',fP w (w7.setCell ⟨sb,4,none⟩ (.slice (some ⟨g,0,none⟩) (n-1) cB)) sb hb db S d (Bs.take k++b::Bs.drop (k+2)) span keep (.slice (some ⟨g,0,none⟩) (n-1) cB) G F H'/\Kept (sb::H) wa (w7.setCell ⟨sb,4,none⟩ (.slice (some ⟨g,0,none⟩) (n-1) cB))/\∀x,x∈H'->x∈H\/wa.heap.size<=x:=by
 have KR:Below wa.heap.size wa Z:=ϛ.trans (hZ.mono ϛ.size);have hgH:g∈H:=by rw[ou];simp[Value.ownBlock]
 have hsg:sb≠g:=λe=>ϙ.sH (e ▸ hgH)
 have ĸ:sb<wa.heap.size:=aC ϙ.blk;obtain⟨_,ĝ,cur,ö⟩:=aF (bM gJ KR) (show _=some g from rfl);have Gy:w7.heap[sb]? = wa.heap[sb]?:=(ho.block sb hsg).trans (KR.block sb ĸ);have ŋ:=abu ϥ hn (λi hi hv=>⟨bM (ì i hi hv).1 KR,bM (ì i hi hv).2 KR⟩) ho ö k hk b (u1,u2) (iY o1 (Nat.le_trans ϙ.aH.size ϛ.size)) (iY o2 (Nat.le_trans ϙ.aH.size ϛ.size)) ό;have ϳ:∀x,x∈g::(vs.take k++(u1,u2)::vs.drop (k+2)).flatMap ownB->x∈H\/wr.heap.size<=x:=λx hx=>by
  rcases List.mem_cons.1 hx with rfl|hx
  ·exact .inl hgH
  ·obtain⟨v,hv,hxv⟩:=List.mem_flatMap.1 hx;rcases List.mem_append.1 hv with hv|hv
   ·exact .inl (by rw[ou];exact List.mem_append.2 (.inr (List.mem_flatMap.2 ⟨v,List.mem_of_mem_take hv,hxv⟩)))
   ·rcases List.mem_cons.1 hv with rfl|hv
    ·rcases List.mem_append.1 hxv with hxv|hxv
     ·exact .inr (uP o1 hxv).1
     ·exact .inr (uP o2 hxv).1
    ·exact .inl (by rw[ou];exact List.mem_append.2 (.inr (List.mem_flatMap.2 ⟨v,List.mem_of_mem_drop hv,hxv⟩)))
 have đ:∀x,x≠sb->(w7.setCell ⟨sb,4,none⟩ (.slice (some ⟨g,0,none⟩) (n-1) cB)).heap[x]? = w7.heap[x]?:=λx hx=>Cq (Ne.symm hx) _ _
 have Ś:Kept (sb::H) wa (w7.setCell ⟨sb,4,none⟩ (.slice (some ⟨g,0,none⟩) (n-1) cB)):=
  ⟨ho.os.trans KR.os,ho.tape.trans KR.tape,ho.output.trans KR.output,by
   have h1:=KR.size;have h2:=ho.size;simp[World.setCell];omega,λx hx hm=>by
   rw[đ x λe=>hm (by simp[e]),ho.block x λe=>hm (by simp[e,hgH])];exact KR.block x hx⟩
 refine⟨_,ϙ.blocks Ś ((eu (Gy.trans ϙ.blk) 4 _).trans rfl) (ŋ.same λx hx=>đ x λe=>?_) λx hx=>(ϳ x hx).imp id λh=>Nat.le_trans ϛ.size h,Ś,λx hx=>(ϳ x hx).imp id λh=>Nat.le_trans ϛ.size h⟩;subst e;rcases ϳ x hx with h|h
 ·exact ϙ.sH h
 ·have:=ϛ.size;omega
def aeo(w wa:World)(sb hb db:Nat)(S:List Sr)(d:Dk)(Bs:List Bk)(span keep:Int)(vB:Value)(G F H:List Nat)(e:Ending)(w':World):Prop:=
 (∃(k:Nat) (hk:k+1<Bs.length) (nS:Value) (H':List Nat),(∀q (hq:q<k),A8 (Bs[q]'(by omega)) (Bs[q+1]'(by omega))≠0)/\A8 (Bs[k]'(by omega)) Bs[k+1]=0/\e = .returned (.tuple #[.bool true,.nilIface])/\fP w w' sb hb db S d (Bs.take k++vW (Bs[k]'(by omega)) Bs[k+1]::Bs.drop (k+2)) span keep nS G F H'/\Kept (sb::H) wa w'/\(∀x,x∈H'->x∈H\/wa.heap.size<=x)) \/
 ((∀q (hq:q+1<Bs.length),A8 (Bs[q]'(by omega)) Bs[q+1]≠0)/\e = .returned (.tuple #[.bool false,.nilIface])/\fP w w' sb hb db S d Bs span keep vB G F H/\Below wa.heap.size wa w')
theorem VZ{B:Nat}{ea:Nat->Addr}(w wa:World)(E:oI B ea w)(hB:B<=w.heap.size)(sb hb db:Nat)(S:List Sr)(d:Dk)(Bs:List Bk)(span keep:Int)(vB:Value)(G F H:List Nat)(h:fP w wa sb hb db S d Bs span keep vB G F H)(hn:Bs.length<=100000)
  (Ï:∀b,b∈Bs->b.2.2.length<=100000/\∀r,r∈b.2.2->r.1.length<=100000/\(fG r.2).length<=10000) :
  Calls prog 9 #[.pointer (some ⟨sb,0,none⟩)] wa λe w'=>aeo w wa sb hb db S d Bs span keep vB G F H e w':=by
 obtain⟨vs,ϥ,ou,gJ,ì⟩:=h.uQ.ex;obtain⟨aB,cB,rfl⟩:=bB gJ;obtain⟨n,ϭ⟩:∃n,n=Bs.length:=⟨_,rfl⟩;have HST:=ϻ h;have x4:=ak h.blk 4;simp at x4;rw[<-ϭ] at x4 gJ hn;have wL:=ϻ (And.intro ϥ (And.intro ou (And.intro gJ (And.intro ì ϭ))));have HE:=ϻ E;have qB:=ϻ Ï;have pF:sb<wa.heap.size:=aC h.blk;clear h E ϥ ou gJ ì ϭ Ï;go_enter func9,ntmps9;go_wp2_with fail;go_loopw [4] (λii wr=>∃(i:Nat),1<=i/\(i<=n\/i=1)/\ii = .int .i64 (i:Int)/\Below wa.heap.size wa wr/\(∀q (hq:q+1<Bs.length),q+1<i->A8 (Bs[q]'(by omega)) Bs[q+1]≠0)) (λii _=>n-(intOf ii).toNat);case atStart=>exact⟨1,Nat.le_refl _,.inr rfl,by go_num,Below.refl _ _,λq _ hq=>by omega⟩
 case round=>
  obtain⟨i,hi1,hin',rfl,ϛ,Ϣ⟩:=hrel;have bH:=ϻ ϛ;have Gb:=ϻ Ϣ;have x4':=(ϛ.cell (p:=⟨sb,4,none⟩) pF).trans x4;by_cases Ϧ:i<n
  ·obtain⟨ϥ,ou,gJ,ì,ϭ⟩:=wL.out;obtain⟨k,hki⟩:∃k,i=k+1:=⟨i-1,by omega⟩;have ϒ:k<Bs.length:=by omega
   have ϩ:i<Bs.length:=by omega
   obtain⟨g,p1,t1,p2,t2,rfl,c0,c1,c2,c3,r1,r2⟩:=KO gJ ϭ ϥ ì ϛ k ϒ;obtain⟨g',p3,t3,p4,t4,hgg,c4,c5,c6,c7,r3,r4⟩:=KO gJ ϭ ϥ ì ϛ i ϩ;obtain rfl:g=g':=by injection hgg with hgg;injection hgg with hgg _ _
   obtain⟨a,ha⟩:∃a,a=Bs[k]:=⟨_,rfl⟩;obtain⟨b,hbe⟩:∃b,b=Bs[i]:=⟨_,rfl⟩;rw[<-ha] at c0 c1 c2 c3 r1 r2;rw[<-hbe] at c4 c5 c6 c7 r3 r4;obtain⟨f,hf⟩:∃f,f=a.1:=⟨_,rfl⟩;obtain⟨s,hs⟩:∃s,s=a.2.1:=⟨_,rfl⟩;obtain⟨f',hf'⟩:∃f',f'=b.1:=⟨_,rfl⟩;obtain⟨s',hs'⟩:∃s',s'=b.2.1:=⟨_,rfl⟩;obtain⟨m,hm⟩:∃m,m=a.2.2.length:=⟨_,rfl⟩;obtain⟨m',hm'⟩:∃m',m'=b.2.2.length:=⟨_,rfl⟩;have abx:=ak ((ϛ.block _ pF).trans HST.out.blk) 4;rw[<-ϭ] at abx;have hia:=qB.out a (by rw[ha];exact List.getElem_mem ϒ);have hib:=qB.out b (by rw[hbe];exact List.getElem_mem ϩ);have AR:Hid (∀z,Below wr.heap.size wr z->Calls prog 26 #[.agg #[.int .i64 f,.int .i64 s,.slice p1 m t1,.slice p2 m t2],.agg #[.int .i64 f',.int .i64 s',.slice p3 m' t3,.slice p4 m' t4]] z λe z'=>∃p q g1 g2 n3 n4 k3 k4 v3,e = .returned (.tuple #[.agg #[.int .i64 p,.int .i64 q,.slice g1 n3 k3,.slice g2 n4 k4],v3])/\Below wr.heap.size wr z'/\Below z.heap.size z z'/\KQ ea wr z' a b p q (.slice g1 n3 k3) (.slice g2 n4 k4) v3):=λz hz=>by
    have Gh:Below w.heap.size w z:=(HST.out.aH.trans (ϛ.mono HST.out.aH.size)).trans (hz.mono (Nat.le_trans HST.out.aH.size ϛ.size));rw[hf,hs,hf',hs',hm,hm'];exact abv wr z (HE.out.below Gh hB) (Nat.le_trans hB Gh.size) hz a b _ _ _ _ _ (by rw[uT,List.length_map];exact r1) (by rw[uU,List.length_map];exact r2) (by rw[uT,List.length_map];exact r3) (by rw[uU,List.length_map];exact r4) hia.2 hib.2 hia.1 hib.1
   rw[<-hf] at c0;rw[<-hs] at c1;rw[<-hm] at c2 c3;rw[<-hf'] at c4;rw[<-hs'] at c5;rw[<-hm'] at c6 c7;have ĝ:g<wr.heap.size:=World.block_lt_of_cell? wr ⟨g,_,none⟩ c0;have gQ:Hid (∀z,Below wr.heap.size wr z->z.cell? ⟨sb,4,none⟩=some (.slice (some ⟨g,0,none⟩) n cB)/\z.cell? ⟨g,k*4,none⟩=some (.int .i64 f)/\z.cell? ⟨g,k*4+1,none⟩=some (.int .i64 s)/\z.cell? ⟨g,k*4+2,none⟩=some (.slice p1 m t1)/\z.cell? ⟨g,k*4+3,none⟩=some (.slice p2 m t2)/\z.cell? ⟨g,i*4,none⟩=some (.int .i64 f')/\z.cell? ⟨g,i*4+1,none⟩=some (.int .i64 s')/\z.cell? ⟨g,i*4+2,none⟩=some (.slice p3 m' t3)/\z.cell? ⟨g,i*4+3,none⟩=some (.slice p4 m' t4)):=λz hz=>by
    have hc:∀q:Nat,z.cell? ⟨g,q,none⟩=wr.cell? ⟨g,q,none⟩:=λq=>hz.cell (p:=⟨g,q,none⟩) ĝ
    exact⟨(hz.cell (p:=⟨sb,4,none⟩) (Nat.lt_of_lt_of_le pF ϛ.size)).trans abx,(hc _).trans c0,(hc _).trans c1,(hc _).trans c2,(hc _).trans c3,(hc _).trans c4,(hc _).trans c5,(hc _).trans c6,(hc _).trans c7⟩
   have HB0:Hid (Below wr.heap.size wr wr.drew):=fD (Below.refl _ _);have Za:=ϻ (And.intro hki (And.intro ha (And.intro hbe (And.intro ϒ ϩ))));have y0:IntKind.i64.wrap ((i:Int)-1)=(k:Int):=by
    rw[IntWalk.i64_in _ (by omega)];omega
   have k0:(0:Int)<=(k:Int):=by omega
   have k1:(k:Int)<(n:Int):=by omega
   have k2:(0:Int)<=(i:Int):=by omega
   have k3:(i:Int)<(n:Int):=by omega
   have kn:k<n:=by omega
   clear ϛ Ϣ ϥ ou gJ ì ϭ c0 c1 c2 c3 c4 c5 c6 c7 r1 r2 r3 r4 ha hbe hf hs hf' hs' hm hm' abx hia hib hki hgg;go_upto_region 4 with fail;clear x4';go_cut [5,6] from 16 to 34 (λv5 v6 wz=>VY ea wr wz a b v6 v5);case first=>
    refine jB (S:=λz=>z.cell? ⟨sb,4,none⟩=some (.slice (some ⟨g,0,none⟩) n cB)/\z.cell? ⟨g,k*4,none⟩=some (.int .i64 f)/\z.cell? ⟨g,k*4+1,none⟩=some (.int .i64 s)/\z.cell? ⟨g,k*4+2,none⟩=some (.slice p1 m t1)/\z.cell? ⟨g,k*4+3,none⟩=some (.slice p2 m t2)/\z.cell? ⟨g,i*4,none⟩=some (.int .i64 f')/\z.cell? ⟨g,i*4+1,none⟩=some (.int .i64 s')/\z.cell? ⟨g,i*4+2,none⟩=some (.slice p3 m' t3)/\z.cell? ⟨g,i*4+3,none⟩=some (.slice p4 m' t4)) (by kernel_rfl) 20 (gQ.out _ HB0.out) (λύ=>?_);refine dK 0 17 (.pointer (some ⟨sb,0,none⟩)) ύ rfl rfl ?_ ?_
    ·intro w _;go_simp
    try simp only[Act.put,ã,ä,å]
    refine dK 1 18 (.pointer (some ⟨sb,0,none⟩)) ύ rfl rfl ?_ ?_
    ·intro w _;go_simp
    try simp only[Act.put,ã,ä,å]
    refine dK 2 19 (.pointer (some ⟨sb,4,none⟩)) ύ rfl rfl ?_ ?_
    ·intro w _;go_simp
    try simp only[Act.put,ã,ä,å]
    refine nO 3 20 (.slice (some ⟨g,0,none⟩) n cB) ύ rfl rfl ?_ ?_
    ·intro w Ä;obtain⟨oh,om,qH,xQ,IU,jh5,jh6,jh7,jh8⟩:=Ä;go_simp
    try simp only[Act.put,ã,ä,å]
    refine dK 4 21 (.int .i64 (i:Int)) ύ rfl rfl ?_ ?_
    ·intro w _;go_simp
    try simp only[Act.put,ã,ä,å]
    refine dK 5 22 (.int .i64 (k:Int)) ύ rfl rfl ?_ ?_
    ·intro w _;go_simp
    try simp only[Act.put,ã,ä,å]
    refine dK 6 23 (.pointer (some ⟨g,k*4,none⟩)) ύ rfl rfl ?_ ?_
    ·intro w _;go_simp
    try simp only[Act.put,ã,ä,å]
    refine nO 7 24 (.agg #[.int .i64 f,.int .i64 s,.slice p1 m t1,.slice p2 m t2]) ύ rfl rfl ?_ ?_
    ·intro w Ä;obtain⟨oh,om,qH,xQ,IU,jh5,jh6,jh7,jh8⟩:=Ä;go_simp
    try simp only[Act.put,ã,ä,å]
    refine dK 8 25 (.pointer (some ⟨sb,0,none⟩)) ύ rfl rfl ?_ ?_
    ·intro w _;go_simp
    try simp only[Act.put,ã,ä,å]
    refine dK 9 26 (.pointer (some ⟨sb,0,none⟩)) ύ rfl rfl ?_ ?_
    ·intro w _;go_simp
    try simp only[Act.put,ã,ä,å]
    refine dK 10 27 (.pointer (some ⟨sb,4,none⟩)) ύ rfl rfl ?_ ?_
    ·intro w _;go_simp
    try simp only[Act.put,ã,ä,å]
    refine nO 11 28 (.slice (some ⟨g,0,none⟩) n cB) ύ rfl rfl ?_ ?_
    ·intro w Ä;obtain⟨oh,om,qH,xQ,IU,jh5,jh6,jh7,jh8⟩:=Ä;go_simp
    try simp only[Act.put,ã,ä,å]
    refine dK 12 29 (.int .i64 (i:Int)) ύ rfl rfl ?_ ?_
    ·intro w _;go_simp
    try simp only[Act.put,ã,ä,å]
    refine dK 13 30 (.pointer (some ⟨g,i*4,none⟩)) ύ rfl rfl ?_ ?_
    ·intro w _;go_simp
    try simp only[Act.put,ã,ä,å]
    refine nO 14 31 (.agg #[.int .i64 f',.int .i64 s',.slice p3 m' t3,.slice p4 m' t4]) ύ rfl rfl ?_ ?_
    ·intro w Ä;obtain⟨oh,om,qH,xQ,IU,jh5,jh6,jh7,jh8⟩:=Ä;go_simp
    try simp only[Act.put,ã,ä,å]
    refine dJ (rs:=[15,19]) (by kernel_rfl) (by simp) ?_;refine aU.cons rfl (λK hK=>?_) (aU.cons rfl (λK hK=>?_) aU.nil)
    ·go_simp
     refine Calls.mono (AR.out _ HB0.out) ?_;rintro e w5 ⟨p,q,g1,g2,n3,n4,k3,k4,v3,rfl,î,Ż,ú⟩;dsimp only
     refine hK.out _ _ (gQ.out _ î) ?_;clear hK K;try simp only[Act.put,ã,ä,å]
     refine dK 16 16 (.tuple #[.agg #[.int .i64 p,.int .i64 q,.slice g1 n3 k3,.slice g2 n4 k4],v3]) (gQ.out _ î) rfl rfl ?_ ?_
     ·intro w _;go_simp
     try simp only[Act.put,ã,ä,å]
     refine dK 17 33 (.agg #[.int .i64 p,.int .i64 q,.slice g1 n3 k3,.slice g2 n4 k4]) (gQ.out _ î) rfl rfl ?_ ?_
     ·intro w _;go_simp
     try simp only[Act.put,ã,ä,å]
     refine dK 18 34 v3 (gQ.out _ î) rfl rfl ?_ ?_
     ·intro w _;go_simp
     try simp only[Act.put,ã,ä,å]
     refine ru 19 rfl λK hK=>?_
     go_simp
     refine hK.out _ _ (gQ.out _ (bE î (.cells #[.int .i64 0,.int .i64 0,.slice none 0 0,.slice none 0 0] 78))) ?_;clear hK K;try simp only[Act.put,ã,ä,å]
     have Ģ:(w5.alloc (.cells #[.int .i64 0,.int .i64 0,.slice none 0 0,.slice none 0 0] 78)).heap[w5.heap.size]? = some (.cells #[.int .i64 0,.int .i64 0,.slice none 0 0,.slice none 0 0] 78 (0,0)):=heap_alloc_new _ _;have oP:wr.heap.size<=w5.heap.size:=î.size;have j0:=ak Ģ 0;have j1:=ak Ģ 1;have j2:=ak Ģ 2;have j3:=ak Ģ 3;simp at j0 j1 j2 j3;have jf:∀k,World.frozen? (w5.alloc (.cells #[.int .i64 0,.int .i64 0,.slice none 0 0,.slice none 0 0] 78)) ⟨w5.heap.size,k,none⟩=false:=λk=>av Ģ k
     refine pU 20 rfl λK hK=>?_
     have Cr:=ϻ (show VY ea wr _ a b v3 _ from ⟨_,p,q,g1,g2,n3,n4,k3,k4,rfl,heap_alloc_new _ _,oP,ú.below (bE (Below.refl _ _) _)⟩);go_simp
     refine hK.out _ _ ?_;clear hK K;try simp only[Act.put,ã,ä,å]
     refine pU 21 rfl λK hK=>?_
     go_simp
     refine hK.out _ _ ?_;clear hK K;try simp only[Act.put,ã,ä,å]
     refine fB (by kernel_rfl) ?_ _;clear j0 j1 j2 j3 jf;go_wp2_with fail;go_meet;case rel=>exact Cr.out
    ·go_simp
     refine hK.out _ _ (gQ.out _ (bE HB0.out (.cells #[.int .i64 0,.int .i64 0,.slice none 0 0,.slice none 0 0] 78))) ?_;clear hK K;try simp only[Act.put,ã,ä,å]
     have Ģ:(wr.drew.alloc (.cells #[.int .i64 0,.int .i64 0,.slice none 0 0,.slice none 0 0] 78)).heap[wr.heap.size]? = some (.cells #[.int .i64 0,.int .i64 0,.slice none 0 0,.slice none 0 0] 78 (0,0)):=heap_alloc_new _ _;have oP:wr.heap.size<=wr.heap.size:=Nat.le_refl _;refine ru 15 rfl λK hK=>?_
     go_simp
     refine Calls.mono (AR.out _ (bE HB0.out (.cells #[.int .i64 0,.int .i64 0,.slice none 0 0,.slice none 0 0] 78))) ?_;rintro e w5 ⟨p,q,g1,g2,n3,n4,k3,k4,v3,rfl,î,Ż,ú⟩;dsimp only
     refine hK.out _ _ (gQ.out _ î) ?_;clear hK K;try simp only[Act.put,ã,ä,å]
     have Ae:=(Ż.block _ (aC Ģ)).trans Ģ;refine dK 16 16 (.tuple #[.agg #[.int .i64 p,.int .i64 q,.slice g1 n3 k3,.slice g2 n4 k4],v3]) (gQ.out _ î) rfl rfl ?_ ?_
     ·intro w _;go_simp
     try simp only[Act.put,ã,ä,å]
     refine dK 17 33 (.agg #[.int .i64 p,.int .i64 q,.slice g1 n3 k3,.slice g2 n4 k4]) (gQ.out _ î) rfl rfl ?_ ?_
     ·intro w _;go_simp
     try simp only[Act.put,ã,ä,å]
     refine dK 18 34 v3 (gQ.out _ î) rfl rfl ?_ ?_
     ·intro w _;go_simp
     try simp only[Act.put,ã,ä,å]
     have j0:=ak Ae 0;have j1:=ak Ae 1;have j2:=ak Ae 2;have j3:=ak Ae 3;simp at j0 j1 j2 j3;have jf:∀k,World.frozen? w5 ⟨wr.heap.size,k,none⟩=false:=λk=>av Ae k
     refine pU 20 rfl λK hK=>?_
     have Cr:=ϻ (show VY ea wr _ a b v3 _ from ⟨_,p,q,g1,g2,n3,n4,k3,k4,rfl,_root_.Go.Proofs.YtololnhfgjbhjaaGreatDoor.uy Ae _ _ _ _,oP,ú.uy Ae oP _ _ _ _⟩);go_simp
     refine hK.out _ _ ?_;clear hK K;try simp only[Act.put,ã,ä,å]
     refine pU 21 rfl λK hK=>?_
     go_simp
     refine hK.out _ _ ?_;clear hK K;try simp only[Act.put,ã,ä,å]
     refine fB (by kernel_rfl) ?_ _;clear j0 j1 j2 j3 jf;go_wp2_with fail;go_meet;case rel=>exact Cr.out
   obtain⟨jb,p,q,g1,g2,n3,n4,k3,k4,rfl,hj,oP,ú⟩:=hcut;have DX:=ú.M4;by_cases hz:A8 a b=0
   ·obtain rfl:=DX.none hz;obtain⟨ϥ,ou,gJ,ì,ϭ⟩:=wL.out;have hwc:Below wa.heap.size wa wc:=bH.out.trans (ú.aH.mono bH.out.size);have Gi:Hid (∀z,Below wc.heap.size wc z->z.cell? ⟨sb,4,none⟩=some (.slice (some ⟨g,0,none⟩) n cB)/\z.cell? ⟨jb,0,none⟩=some (.int .i64 p)/\z.cell? ⟨jb,1,none⟩=some (.int .i64 q)/\z.cell? ⟨jb,2,none⟩=some (.slice g1 n3 k3)/\z.cell? ⟨jb,3,none⟩=some (.slice g2 n4 k4)):=λz hz=>by
     have e0:=(hz.block _ (Nat.lt_of_lt_of_le pF hwc.size)).trans ((hwc.block _ pF).trans HST.out.blk);rw[<-ϭ] at e0;have e1:=(hz.block _ (aC hj)).trans hj;exact⟨ak e0 4,ak e1 0,ak e1 1,ak e1 2,ak e1 3⟩
    have Þ:Below wc.heap.size wc wc.drew:=fD (Below.refl _ _);have Nr:Hid (Below wr.heap.size wr (wc.drew.alloc (.cells #[.int .i64 p,.int .i64 q,.slice g1 n3 k3,.slice g2 n4 k4] 78))):=ú.aH.trans ((bE Þ _).mono ú.aH.size);have ahE:Below wa.heap.size wa (wc.drew.alloc (.cells #[.int .i64 p,.int .i64 q,.slice g1 n3 k3,.slice g2 n4 k4] 78)):=bH.out.trans (Nr.out.mono bH.out.size);obtain⟨j,hj2⟩:∃j,j=k+2:=⟨_,rfl⟩;have HRP:Hid (Calls prog 27 #[.slice (some ⟨g,0,none⟩) n cB,.int .i64 (k:Int),.int .i64 (j:Int),.slice (some ⟨wc.heap.size,0,none⟩) 1 1] (wc.drew.alloc (.cells #[.int .i64 p,.int .i64 q,.slice g1 n3 k3,.slice g2 n4 k4] 78)) λe w'=>e = .returned (.slice (some ⟨g,0,none⟩) (n-1) cB)/\jT g (wc.drew.alloc (.cells #[.int .i64 p,.int .i64 q,.slice g1 n3 k3,.slice g2 n4 k4] 78)) w'/\w'.ownsRow w.heap.size 78 4 (.slice (some ⟨g,0,none⟩) (n-1) cB) (n-1) ((bO Bs vs).take (k*4) ++ [.int .i64 p,.int .i64 q,.slice g1 n3 k3,.slice g2 n4 k4]++(bO Bs vs).drop (j*4))):=by
     refine VX (wc.drew.alloc (.cells #[.int .i64 p,.int .i64 q,.slice g1 n3 k3,.slice g2 n4 k4] 78)) w.heap.size g n cB k j (bO Bs vs) (bM gJ ahE) hj2 (by have:=Za.out.1;omega) wc.heap.size 1 [.int .i64 p,.int .i64 q,.slice g1 n3 k3,.slice g2 n4 k4] rfl (World.news_of_block (heap_alloc_new wc.drew _)) (λz hz=>?_) (BD _ _ λv hv=>jW.one ϥ ì v hv);simp at hz;rcases hz with rfl|rfl|rfl|rfl<;>rfl
    have sI:Hid (p=(vW a b).1/\q=(vW a b).2.1/\wc.ownsRow wr.heap.size 9 1 (.slice g1 n3 k3) (vW a b).2.2.length (((vW a b).2.2.map Prod.fst).map encStr)/\wc.ownsRow wr.heap.size 9 1 (.slice g2 n4 k4) (vW a b).2.2.length (((vW a b).2.2.map λr=>fG r.2).map encStr)):=by
     rcases ú.res with h|h
     ·exact h.2
     ·exact absurd hz h.1
    have Ir:Hid (wr.heap.size<=jb/\jb<wc.heap.size/\Below wa.heap.size wa wc):=⟨oP,aC hj,hwc⟩;have HZ:Hid (A8 a b=0):=hz;have HJ2:=ϻ hj2;have ĝ:g<wa.heap.size:=(aF gJ rfl).2.1;have hsg:sb≠g:=λe=>HST.out.sH (by rw[ou,e];simp[Value.ownBlock])
    have y5:IntKind.i64.wrap ((i:Int)+1)=(j:Int):=by
     have:=Za.out.1;rw[IntWalk.i64_in _ (by omega)];omega
    clear ϥ ou gJ ì ϭ hwc ahE hj oP ú DX hz hj2;go_upto_region 6 with fail;refine jB (S:=λz=>z.cell? ⟨sb,4,none⟩=some (.slice (some ⟨g,0,none⟩) n cB)/\z.cell? ⟨jb,0,none⟩=some (.int .i64 p)/\z.cell? ⟨jb,1,none⟩=some (.int .i64 q)/\z.cell? ⟨jb,2,none⟩=some (.slice g1 n3 k3)/\z.cell? ⟨jb,3,none⟩=some (.slice g2 n4 k4)) (by kernel_rfl) 14 (Gi.out _ Þ) (λύ=>?_);refine dK 0 37 (.pointer (some ⟨sb,0,none⟩)) ύ rfl rfl ?_ ?_
    ·intro w _;go_simp
    try simp only[Act.put,ã,ä,å]
    refine dK 1 38 (.pointer (some ⟨sb,0,none⟩)) ύ rfl rfl ?_ ?_
    ·intro w _;go_simp
    try simp only[Act.put,ã,ä,å]
    refine dK 2 39 (.pointer (some ⟨sb,0,none⟩)) ύ rfl rfl ?_ ?_
    ·intro w _;go_simp
    try simp only[Act.put,ã,ä,å]
    refine dK 3 40 (.pointer (some ⟨sb,4,none⟩)) ύ rfl rfl ?_ ?_
    ·intro w _;go_simp
    try simp only[Act.put,ã,ä,å]
    refine nO 4 41 (.slice (some ⟨g,0,none⟩) n cB) ύ rfl rfl ?_ ?_
    ·intro w Ä;obtain⟨oh,om,qH,xQ,IU⟩:=Ä;go_simp
    try simp only[Act.put,ã,ä,å]
    refine dK 5 42 (.int .i64 (i:Int)) ύ rfl rfl ?_ ?_
    ·intro w _;go_simp
    try simp only[Act.put,ã,ä,å]
    refine dK 6 43 (.int .i64 (k:Int)) ύ rfl rfl ?_ ?_
    ·intro w _;go_simp
    try simp only[Act.put,ã,ä,å]
    refine dK 7 44 (.int .i64 (i:Int)) ύ rfl rfl ?_ ?_
    ·intro w _;go_simp
    try simp only[Act.put,ã,ä,å]
    refine dK 8 45 (.int .i64 (j:Int)) ύ rfl rfl ?_ ?_
    ·intro w _;go_simp
    try simp only[Act.put,ã,ä,å]
    refine nO 9 46 (.agg #[.int .i64 p,.int .i64 q,.slice g1 n3 k3,.slice g2 n4 k4]) ύ rfl rfl ?_ ?_
    ·intro w Ä;obtain⟨oh,om,qH,xQ,IU⟩:=Ä;go_simp
    try simp only[Act.put,ã,ä,å]
    refine ru 10 rfl λK hK=>?_
    go_simp
    refine hK.out _ _ (Gi.out _ (bE Þ _)) ?_;clear hK K;try simp only[Act.put,ã,ä,å]
    refine ru 11 rfl λK hK=>?_
    go_simp
    refine Calls.mono HRP.out ?_;rintro e w7 ⟨rfl,ho7,bT⟩;dsimp only
    have Gy:w7.heap[sb]? = wa.heap[sb]?:=(ho7.block sb hsg).trans (((bE Þ _).block sb (Nat.lt_of_lt_of_le pF Ir.out.2.2.size)).trans (Ir.out.2.2.block sb pF));have Gz:w7.heap[jb]? = wc.heap[jb]?:=(ho7.block jb λe=>by have:=Ir.out.1;have:=bH.out.size;omega).trans ((bE Þ _).block jb Ir.out.2.1);have η:∀i,w7.cell? ⟨jb,i,none⟩=wc.cell? ⟨jb,i,none⟩:=λi=>by simp[World.cell?,Gz]
    have ī:=Gi.out wc (Below.refl _ _);have hblk7:=Gy.trans HST.out.blk;rw[<-wL.out.2.2.2.2] at hblk7;have ni:Hid ((λz:World=>z.cell? ⟨sb,4,none⟩=some (.slice (some ⟨g,0,none⟩) n cB)/\z.cell? ⟨jb,0,none⟩=some (.int .i64 p)/\z.cell? ⟨jb,1,none⟩=some (.int .i64 q)/\z.cell? ⟨jb,2,none⟩=some (.slice g1 n3 k3)/\z.cell? ⟨jb,3,none⟩=some (.slice g2 n4 k4)) w7):=⟨ak hblk7 4,(η _).trans ī.2.1,(η _).trans ī.2.2.1,(η _).trans ī.2.2.2.1,(η _).trans ī.2.2.2.2⟩;have z4:w7.cell? ⟨sb,4,none⟩=some (.slice (some ⟨g,0,none⟩) n cB):=ni.out.1;have zf:w7.frozen? ⟨sb,4,none⟩=false:=av hblk7 4;have aM:Hid (∃H',fP w (w7.setCell ⟨sb,4,none⟩ (.slice (some ⟨g,0,none⟩) (n-1) cB)) sb hb db S d (Bs.take k++vW a b::Bs.drop (k+2)) span keep (.slice (some ⟨g,0,none⟩) (n-1) cB) G F H'/\Kept (sb::H) wa (w7.setCell ⟨sb,4,none⟩ (.slice (some ⟨g,0,none⟩) (n-1) cB))/\∀x,x∈H'->x∈H\/wa.heap.size<=x):=by
     obtain⟨ϥ,ou,gJ,ì,ϭ⟩:=wL.out;obtain⟨r1,r2,r3,r4⟩:=sI.out;rw[r1,r2,HJ2.out] at bT;have ϙ:=HST.out;rw[<-ϭ] at ϙ ou;exact abw ϙ ϭ ϥ ou gJ ì bH.out Nr.out k (by have:=Za.out.1;omega) (vW a b) _ _ (bM r3 (bE Þ _)) (bM r4 (bE Þ _)) ho7 bT
    clear bT ho7 Gy Gz η ī hblk7;refine hK.out _ _ ni.out ?_;clear hK K;try simp only[Act.put]
    refine dK 12 49 (.pointer (some ⟨sb,0,none⟩)) ni.out rfl rfl ?_ ?_
    ·intro w _;go_simp
    try simp only[Act.put]
    refine dK 13 50 (.pointer (some ⟨sb,4,none⟩)) ni.out rfl rfl ?_ ?_
    ·intro w _;go_simp
    try simp only[Act.put]
    refine pU 14 rfl λK hK=>?_
    go_simp
    refine hK.out _ _ ?_;clear hK K;try simp only[Act.put,ã,ä,å]
    refine fB (by kernel_rfl) ?_ _;obtain⟨H',q1,q2,q3⟩:=aM.out;have HQ:=ϻ (And.intro q1 (And.intro q2 q3));clear z4 zf aM q1 q2 q3;go_wp2;go_ret2;obtain⟨e1,e2,e3,e4,e5⟩:=Za.out;subst e1;refine .inl ⟨k,e5,.slice (some ⟨g,0,none⟩) (n-1) cB,H',λq hq=>Gb.out q (by omega) (by omega),?_,rfl,?_,HQ.out.2.1,HQ.out.2.2⟩
    ·rw[<-e2,<-e3];exact HZ.out
    ·rw[<-e2,<-e3];exact HQ.out.1
   ·obtain⟨tv,pv,rfl⟩:=vU DX hz;have Mw:Hid (Below wa.heap.size wa wc):=bH.out.trans (ú.aH.mono bH.out.size);have HZ:=ϻ hz;clear hj oP ú DX hz;go_wp2;go_roundw;case rel=>
     refine⟨i+1,by omega,.inl (by omega),by go_num,Mw.out,λq hq hqi=>?_⟩;by_cases Ŷ:q+1<i
     ·exact Gb.out q hq Ŷ
     ·obtain⟨e1,e2,e3,_,_⟩:=Za.out;obtain rfl:q=k:=by omega
      subst e1;rw[<-e2,<-e3];exact HZ.out
    case measure=>simp[intOf]<;>omega
  ·have aM:Hid (∀q (hq:q+1<Bs.length),A8 (Bs[q]'(by omega)) Bs[q+1]≠0):=λq hq=>Ϣ q hq (by have:=wL.out.2.2.2.2;omega)
   clear ϛ Ϣ;go_wp2;go_ret2;exact .inr ⟨aM.out,rfl,HST.out.below bH.out,bH.out⟩
end Go.Proofs.YtololnhfgjbhjaaGreatDoor
