import Derived.Test.YtalliohkalnaeaaGreatDoorStAtGroup
import Derived.Test.YtalliohkalnaeaaGreatDoorBlkTwoGroup
import Derived.Test.YtalliohkalnaeaaGreatDoorPtMergeGroup
import Derived.Lib.SliceRun
import Derived.Test.YtalliohkalnaeaaGreatDoorWalRecGroup
import Derived.Test.YtalliohkalnaeaaGreatDoorJoinKeys
import Derived.Test.YtalliohkalnaeaaGreatDoorRowsAtGroup
import Derived.Test.YtalliohkalnaeaaGreatDoorHeadAtGroup
namespace Go.Proofs.YtalliohkalnaeaaGreatDoor
open Go.RowKit Go.Maps aF aZ dS
end Go.Proofs.YtalliohkalnaeaaGreatDoor
namespace Go.Proofs.YtalliohkalnaeaaGreatDoor
open Go.RowKit Go.Maps aZ aF dS
theorem Dw {z:World} {b c:Nat} (h:b≠c) (i:Nat) (v:Value):(z.setCell ⟨b,i,none⟩ v).heap[c]? = z.heap[c]?:=by
 simp[World.setCell,Array.getElem?_modify,h]
theorem Ry {ea:Nat->Addr} {z:World} {v:Value} {C A:Int} (hf:aY ea z v C A) {b:Nat} {p0 p2 p3:Value} {k:Int} (hz:z.heap[b]? = some (.cells #[p0,.int .i64 k,p2,p3] 90 (0,0))) (v0 v1 v2 v3:Value):aY ea ((((z.setCell ⟨b,0,none⟩ v0).setCell ⟨b,1,none⟩ v1).setCell ⟨b,2,none⟩ v2).setCell ⟨b,3,none⟩ v3) v C A:=by
 rcases hf with h | h | ⟨pb,m,hm,hv,c0,c1,hc⟩
 ·exact .inl h
 ·exact .inr (.inl h)
 ·have hne2:pb≠b:=fun e=>by
   rw[e,ak hz 1] at c1;simp at c1
  have hcc:∀ o,World.cell? ((((z.setCell ⟨b,0,none⟩ v0).setCell ⟨b,1,none⟩ v1).setCell ⟨b,2,none⟩ v2).setCell ⟨b,3,none⟩ v3) ⟨pb,o,none⟩=z.cell? ⟨pb,o,none⟩:=fun o=>by
   unfold World.cell?;rw[Dw (Ne.symm hne2),Dw (Ne.symm hne2),Dw (Ne.symm hne2),Dw (Ne.symm hne2)]
  exact .inr (.inr ⟨pb,m,hm,hv,(hcc 0).trans c0,(hcc 1).trans c1,hc⟩)
structure JJ (ea:Nat->Addr) (w2 z:World) (f t:Int) (M:List Rw) (p q:Int) (u1 u2 v3:Value):Prop where
 aM:Below w2.heap.size w2 z
 flt:aY ea z v3 (mF f t M) (BX f t M)
 res:(mF f t M=0/\p=f/\q=t/\z.ownsRow w2.heap.size 9 1 u1 M.length ((M.map Prod.fst).map encStr)/\z.ownsRow w2.heap.size 9 1 u2 M.length ((M.map fun r=>iJ r.2).map encStr))\/(mF f t M≠0/\p=0/\q=0/\u1 = .slice none 0 0/\u2 = .slice none 0 0)
theorem JJ.below {ea:Nat->Addr} {w2 z z':World} {f t:Int} {M:List Rw} {p q:Int} {u1 u2 v3:Value} (h:JJ ea w2 z f t M p q u1 u2 v3) (hb:Below z.heap.size z z'):JJ ea w2 z' f t M p q u1 u2 v3:=
 ⟨h.aM.trans (hb.mono h.aM.size),h.flt.below hb,h.res.imp (fun g=>⟨g.1,g.2.1,g.2.2.1,bT g.2.2.2.1 hb,bT g.2.2.2.2 hb⟩) id⟩
theorem JJ.Ii {ea:Nat->Addr} {w2 z:World} {f t:Int} {M:List Rw} {p q:Int} {u1 u2 v3:Value} (h:JJ ea w2 z f t M p q u1 u2 v3) {b:Nat} {p0 p2 p3:Value} {k:Int} (hz:z.heap[b]? = some (.cells #[p0,.int .i64 k,p2,p3] 90 (0,0))) (hb:w2.heap.size<=b) (x0 x1 x2 x3:Value):JJ ea w2 ((((z.setCell ⟨b,0,none⟩ x0).setCell ⟨b,1,none⟩ x1).setCell ⟨b,2,none⟩ x2).setCell ⟨b,3,none⟩ x3) f t M p q u1 u2 v3:=
 ⟨vT h.aM hb _ _ _ _,Ry h.flt hz _ _ _ _,h.res.imp (fun g=>⟨g.1,g.2.1,g.2.2.1,Az g.2.2.2.1 hz (by decide) _ _ _ _,Az g.2.2.2.2 hz (by decide) _ _ _ _⟩) id⟩
def Rz (ea:Nat->Addr) (w2 z:World) (f t:Int) (M:List Rw) (v7 v9:Value):Prop:=
 ∃ (jb:Nat) (p q:Int) (g1 g2:Option Addr) (n1 n2 c1 c2:Nat),v9 = .pointer (some ⟨jb,0,none⟩)/\z.heap[jb]? = some (.cells #[.int .i64 p,.int .i64 q,.slice g1 n1 c1,.slice g2 n2 c2] 90 (0,0))/\w2.heap.size<=jb/\JJ ea w2 z f t M p q (.slice g1 n1 c1) (.slice g2 n2 c2) v7
end Go.Proofs.YtalliohkalnaeaaGreatDoor
set_option maxRecDepth 1000000
set_option maxHeartbeats 4000000
namespace Go.Proofs.YtalliohkalnaeaaGreatDoor
open Go.RowKit Go.Maps bN aF aZ dS iO bG
structure XG (B:Nat) (ea:Nat->Addr) (w:World):Prop where
 a:Fb B ea w
 k:qA B ea w
noncomputable def rY (s:Int) (L:List Rw):List Int->List Bk
 | []=>[]
 | f::fs=>if mF f s (gZ s f L)=0 then (f,s,gZ s f L)::rY s L fs else []
noncomputable def yL (s:Int) (L:List Rw):List Int->Int
 | []=>0
 | f::fs=>if mF f s (gZ s f L)=0 then yL s L fs else 7
theorem JK {s:Int} {L:List Rw}:∀ {fs:List Int},(∀ f,f∈fs->mF f s (gZ s f L)=0)->rY s L fs=fs.map (fun f=>(f,s,gZ s f L))/\yL s L fs=0
 | [],_=>⟨rfl,rfl⟩
 | f::fs,h=>by
  have h1:=h f (List.mem_cons_self ..);obtain⟨h2,h3⟩:=JK fun g hg=>h g (List.mem_cons_of_mem _ hg)
  exact⟨by rw[rY,if_pos h1,h2];rfl,by rw[yL,if_pos h1,h3]⟩
theorem M5 {s:Int} {L:List Rw} {f:Int} {gs:List Int} (h0:mF f s (gZ s f L)≠0):∀ {fs:List Int},(∀ f,f∈fs->mF f s (gZ s f L)=0)->rY s L (fs++f::gs)=fs.map (fun f=>(f,s,gZ s f L))/\yL s L (fs++f::gs)=7
 | [],_=>⟨by rw[List.nil_append,rY,if_neg h0];rfl,by rw[List.nil_append,yL,if_neg h0]⟩
 | g::fs,h=>by
  have h1:=h g (List.mem_cons_self ..);obtain⟨h2,h3⟩:=M5 h0 fun g hg=>h g (List.mem_cons_of_mem _ hg)
  exact⟨by rw[List.cons_append,rY,if_pos h1,h2];rfl,by rw[List.cons_append,yL,if_pos h1,h3]⟩
structure rZ (sb:Nat) (w z:World):Prop where
 size:w.heap.size<=z.heap.size
 block:∀ (b:Nat) (o:Obj),w.heap[b]? = some o->(∀ cs fr,o ≠ .cells cs 90 fr)->b≠sb->z.heap[b]? = some o
theorem rZ.refl (sb:Nat) (w:World):rZ sb w w:=⟨Nat.le_refl _,fun _ _ h _ _=>h⟩
theorem rZ.kept {sb:Nat} {w z y:World} (h:rZ sb w z) {S:List Nat} (hk:Kept S z y) (hS:∀ x,x∈S->x=sb\/∃ cs fr,z.heap[x]? = some (.cells cs 90 fr)):rZ sb w y:=⟨Nat.le_trans h.size hk.size,fun b o h1 h2 h3=>by
 have h4:=h.block b o h1 h2 h3;refine (hk.block b (Array.getElem?_eq_some_iff.1 h4).1 fun hb=>?_).trans h4;rcases hS b hb with e | ⟨cs,fr,e⟩
 ·exact h3 e
 ·rw[h4] at e;injection e with e;exact h2 _ _ e⟩
theorem rZ.own {sb:Nat} {w z:World} (h:rZ sb w z) {base:Nat} {e:TypeId} {sz:Nat} {v:Value} {n:Nat} {xs:List Value} (ho:w.ownsRow base e sz v n xs) (he:e≠90) (hb:sb<base):z.ownsRow base e sz v n xs:=bL ho fun g hg=>by
 obtain⟨h1,_,cur,hc⟩:=aJ ho hg;rw[hc];exact h.block g _ hc (fun cs fr e'=>by injection e' with _ e';exact he e') (by omega)
theorem iV.aeT {base sb:Nat} {wr w':World} {mb nb:Nat} {hs:Int->Bool} {R:Int->List Rw} {X:Int->List Value} {sv:Int->Value} (h:iV base wr mb nb hs R X sv) (hk:rZ sb wr w') (hb:sb<base) (hm:base<=mb):iV base w' mb nb hs R X sv:=by
 refine⟨h.im.same ?_ fun k hk' g hg=>?_,fun f hf=>(h.rows f hf).map fun v n xs hv=>hk.own hv (by decide) hb⟩
 ·obtain⟨D,⟨es,clock,he,_⟩,_⟩:=h.im.map;rw[he];exact hk.block mb _ he (fun _ _ e=>by cases e) (by omega)
 ·obtain⟨h1,_,cur,hc⟩:=aJ (h.im.row k hk') hg;rw[hc];exact hk.block g _ hc (fun cs fr e'=>by injection e' with _ e';revert e';decide) (by omega)
theorem Tryz.infoBk:(Tryz.prog.info? 90).map (fun i=>(i.zero,i.size,i.bytes))=some (some (.agg #[.int .i64 0,.int .i64 0,.slice none 0 0,.slice none 0 0]),4,64):=by kernel_rfl
theorem CZ:∀ (Bs:List Bk) (vs:List (Value×Value)) (_:vs.length=Bs.length) (b:Bk) (v:Value×Value),dx (Bs ++ [b]) (vs ++ [v])=dx Bs vs ++ [.int .i64 b.1,.int .i64 b.2.1,v.1,v.2]
 | [],[],_,_,_=>rfl
 | [],_::_,h,_,_=>by cases h
 | _::_,[],h,_,_=>by cases h
 | a::Bs,u::vs,h,b,v=>by
  have:=CZ Bs vs (by simpa using h) b v;show _::_::_::_::dx (Bs ++ [b]) (vs ++ [v])=_;rw[this];rfl
theorem Ez:∀ (Bs:List Bk) (vs:List (Value×Value)),vs.length=Bs.length->(dx Bs vs).length=Bs.length*4
 | [],[],_=>rfl
 | [],_::_,h=>by cases h
 | _::_,[],h=>by cases h
 | a::Bs,u::vs,h=>by
  have:=Ez Bs vs (by simpa using h);show (dx Bs vs).length+4=(Bs.length+1)*4;omega
theorem jK.snoc {wr w7:World} {base:Nat} {Bs:List Bk} {vs:List (Value×Value)} (hl:vs.length=Bs.length)
  (hr:∀ i (hi:i<Bs.length) (hv:i<vs.length),wr.ownsRow base 9 1 vs[i].1 Bs[i].2.2.length ((Bs[i].2.2.map Prod.fst).map encStr)/\wr.ownsRow base 9 1 vs[i].2 Bs[i].2.2.length ((Bs[i].2.2.map fun r=>iJ r.2).map encStr))
  (b:Bk) (v1 v2:Value) (h1:wr.ownsRow base 9 1 v1 b.2.2.length ((b.2.2.map Prod.fst).map encStr)) (h2:wr.ownsRow base 9 1 v2 b.2.2.length ((b.2.2.map fun r=>iJ r.2).map encStr))
  {g cap:Nat} (hown:w7.ownsRow base 90 4 (.slice (some ⟨g,0,none⟩) (Bs.length+1) cap) (Bs.length+1) (dx Bs vs ++ [.int .i64 b.1,.int .i64 b.2.1,v1,v2])) (he:∀ (x:Nat) (cs:Array Value),wr.heap[x]? = some (Obj.cells cs 9 (0,0))->w7.heap[x]? = wr.heap[x]?) :
  jK w7 base (.slice (some ⟨g,0,none⟩) (Bs.length+1) cap) (Bs ++ [b]) (g::(vs.flatMap ownB++ownB (v1,v2))):=by
 have hst:∀ v n xs,wr.ownsRow base 9 1 v n xs->w7.ownsRow base 9 1 v n xs:=fun v n xs hv=>bL hv fun q hq=>by
  obtain⟨_,_,cur,hc⟩:=aJ hv hq;exact he q _ hc
 refine⟨vs ++ [(v1,v2)],by simp[hl],?_,?_,fun i hi hv=>?_⟩
 ·rw[List.flatMap_append];simp[Value.ownBlock]
 ·rw[CZ _ _ hl,List.length_append];exact hown
 ·by_cases e:i<Bs.length
  ·rw[List.getElem_append_left e,List.getElem_append_left (by omega)];obtain⟨r1,r2⟩:=hr i e (by omega);exact⟨hst _ _ _ r1,hst _ _ _ r2⟩
  ·have e1:i=Bs.length:=by simp at hi;omega
   subst e1;rw[List.getElem_append_right (Nat.le_refl _),List.getElem_append_right (by omega)];simp only[hl,Nat.sub_self,List.getElem_cons_zero];exact⟨hst _ _ _ h1,hst _ _ _ h2⟩
theorem eH.blocks {w wr z:World} {sb hb db:Nat} {S:List Sr} {d:Dk} {Bs Bs':List Bk} {span keep:Int} {vB uE:Value} {G F H H':List Nat} (h:eH w wr sb hb db S d Bs span keep vB G F H) (hk:Kept (sb::H) wr z) (hblk:z.heap[sb]? = some (.cells #[.pointer (some ⟨hb,0,none⟩),.pointer (some ⟨db,0,none⟩),.int .i64 span,.int .i64 keep,uE] 78 (0,0))) (hbk:jK z w.heap.size uE Bs' H') (hf:∀ x,x∈H'->x∈H\/wr.heap.size<=x):eH w z sb hb db S d Bs' span keep uE G F H':=by
 have hn:∀ x,x∈G\/x∈F->x∉sb::H:=fun x hx hm=>by
  rcases List.mem_cons.1 hm with rfl | hm
  ·rcases hx with hx | hx
   ·exact h.sG hx
   ·exact h.sF hx
  ·rcases hx with hx | hx
   ·exact h.gH x hx hm
   ·exact h.fH x hx hm
 have hH:∀ x,x<wr.heap.size->x∉H->x∉H':=fun x hx h1 h2=>by
  rcases hf x h2 with h3 | h3
  ·exact h1 h3
  ·omega
 have hlow:∀ x,x∈sb::H->w.heap.size<=x:=fun x hx=>by
  rcases List.mem_cons.1 hx with rfl | hx
  ·exact h.low
  ·exact (h.rT.mem hx).1
 exact
  {blk:=hblk
   low:=h.low
   hd:=h.hd.kept hk fun x hx=>hn x (.inl hx)
   dk:=h.dk.same (h.aM.trans (hk.below h.aM.size hlow)) fun x hx=>hk.block x (h.dk.mem hx).2 (hn x (.inr hx))
   rT:=hbk
   sG:=h.sG
   sF:=h.sF
   sH:=hH sb (aI h.blk) h.sH
   gF:=h.gF
   gH:=fun x hx=>hH x (h.hd.lt hx) (h.gH x hx)
   fH:=fun x hx=>hH x (h.dk.mem hx).2 (h.fH x hx) }
theorem Kept.sub {S T:List Nat} {w z:World} (h:Kept S w z) (hs:∀ x,x∈S->x∈T):Kept T w z:=⟨h.os,h.tape,h.output,h.size,fun x hx hn=>h.block x hx fun hm=>hn (hs x hm)⟩
theorem eH.lay {w wc W w7:World} {sb hb db:Nat} {S:List Sr} {d:Dk} {Bs:List Bk} {span keep:Int} {vB:Value} {G F H:List Nat} (h:eH w wc sb hb db S d Bs span keep vB G F H) (hW:Below wc.heap.size wc W) {vs:List (Value×Value)} (hl:vs.length=Bs.length) (hH:H=vB.ownBlock.toList++vs.flatMap ownB)
  (hr:∀ i (hi:i<Bs.length) (hv:i<vs.length),wc.ownsRow w.heap.size 9 1 vs[i].1 Bs[i].2.2.length ((Bs[i].2.2.map Prod.fst).map encStr)/\wc.ownsRow w.heap.size 9 1 vs[i].2 Bs[i].2.2.length ((Bs[i].2.2.map fun r=>iJ r.2).map encStr))
  (ho:wc.ownsRow w.heap.size 90 4 vB Bs.length (dx Bs vs)) (b:Bk) (v1 v2:Value) (h1:W.ownsRow wc.heap.size 9 1 v1 b.2.2.length ((b.2.2.map Prod.fst).map encStr)) (h2:W.ownsRow wc.heap.size 9 1 v2 b.2.2.length ((b.2.2.map fun r=>iJ r.2).map encStr))
  {g cap:Nat} (hown:w7.ownsRow w.heap.size 90 4 (.slice (some ⟨g,0,none⟩) (Bs.length+1) cap) (Bs.length+1) (dx Bs vs ++ [.int .i64 b.1,.int .i64 b.2.1,v1,v2])) (hgr:W.grownBy w7 vB.ownBlock) (hat:vB.ownBlock=some g\/g=W.heap.size) :
  ∃ H',eH w (w7.setCell ⟨sb,4,none⟩ (.slice (some ⟨g,0,none⟩) (Bs.length+1) cap)) sb hb db S d (Bs ++ [b]) span keep (.slice (some ⟨g,0,none⟩) (Bs.length+1) cap) G F H'/\Kept (sb::vB.ownBlock.toList) wc (w7.setCell ⟨sb,4,none⟩ (.slice (some ⟨g,0,none⟩) (Bs.length+1) cap))/\∀ x,x∈H'->x∈H\/wc.heap.size<=x:=by
 have hsW:sb<W.heap.size:=Nat.lt_of_lt_of_le (aI h.blk) hW.size;have hsv:some sb≠vB.ownBlock:=fun e=>h.sH (by rw[hH,<-e];simp)
 have hs7:w7.heap[sb]? = some (.cells #[.pointer (some ⟨hb,0,none⟩),.pointer (some ⟨db,0,none⟩),.int .i64 span,.int .i64 keep,vB] 78 (0,0)):=(hgr.block sb hsW hsv).trans ((hW.block sb (aI h.blk)).trans h.blk);have hstr:∀ (x:Nat) (cs:Array Value),W.heap[x]? = some (Obj.cells cs 9 (0,0))->w7.heap[x]? = W.heap[x]?:=fun x cs hx=>hgr.block x (Array.getElem?_eq_some_iff.1 hx).1 fun e=>by
  obtain⟨_,hlt,cur,hc⟩:=aJ ho e.symm;rw[hW.block x hlt,hc] at hx;injection hx with hx;injection hx with _ hx;revert hx;decide
 have hbk:=jK.snoc (wr:=W) (w7:=w7) hl (fun i hi hv=>⟨bT (hr i hi hv).1 hW,bT (hr i hi hv).2 hW⟩) b v1 v2 (jr h1 h.aM.size) (jr h2 h.aM.size) hown hstr;have hnew:∀ x,x∈g::(vs.flatMap ownB++ownB (v1,v2))->x∈H\/wc.heap.size<=x:=fun x hx=>by
  rcases List.mem_cons.1 hx with rfl | hx
  ·rcases hat with e | e
   ·exact .inl (by rw[hH,e];simp)
   ·have:=hW.size;exact .inr (by omega)
  ·rcases List.mem_append.1 hx with hx | hx
   ·exact .inl (by rw[hH];exact List.mem_append.2 (.inr hx))
   ·rcases List.mem_append.1 hx with hx | hx
    ·exact .inr (vV h1 hx).1
    ·exact .inr (vV h2 hx).1
 have hsn:sb∉g::(vs.flatMap ownB++ownB (v1,v2)):=fun hx=>by
  rcases hnew sb hx with h3 | h3
  ·exact h.sH h3
  ·have:=aI h.blk;omega
 have hoth:∀ x,x≠sb->(w7.setCell ⟨sb,4,none⟩ (.slice (some ⟨g,0,none⟩) (Bs.length+1) cap)).heap[x]? = w7.heap[x]?:=fun x hx=>Below.heap_setCell _ _ _ _ (by show x≠sb;exact hx)
 have hk:Kept (sb::vB.ownBlock.toList) wc (w7.setCell ⟨sb,4,none⟩ (.slice (some ⟨g,0,none⟩) (Bs.length+1) cap)):=by
  refine (((Kept.of_below hW).trans (Kept.grown (S:=vB.ownBlock.toList) hgr fun k hk=>by rw[hk];simp) fun x hx=>.inl (List.mem_cons_of_mem _ hx)).setCell (p:=⟨sb,4,none⟩) (.inl (List.mem_cons_self ..)) _)
 refine⟨_,h.blocks (hk.sub fun x hx=>?_) ((dP hs7 4 _).trans rfl) (hbk.same fun x hx=>hoth x fun e=>hsn (e ▸ hx)) hnew,hk,hnew⟩
 ·rcases List.mem_cons.1 hx with e | e
  ·exact List.mem_cons.2 (.inl e)
  ·exact List.mem_cons_of_mem _ (by rw[hH];exact List.mem_append.2 (.inl e))
end Go.Proofs.YtalliohkalnaeaaGreatDoor
namespace Go.Proofs.YtalliohkalnaeaaGreatDoor
open Go.RowKit Go.Maps bN aF aZ dS iO bG
theorem xD {w:World} {base:Nat} {e:TypeId} {sz:Nat} {g n cap:Nat} {xs:List Value} (h:w.ownsRow base e sz (.slice (some ⟨g,0,none⟩) n cap) n xs):∀ j u,xs[j]? = some u->w.cell? ((⟨g,0,none⟩:Addr).add j)=some u:=fun j u hj=>by
 rcases h.2 with⟨hv,_⟩|⟨g',cap',cur,hv,_,hh,_,_,_,hc⟩
 ·cases hv
 ·injection hv with hv _ _;injection hv with hv;injection hv with hv;subst hv;rw[Addr.add_lit,Nat.zero_add];have e1:w.cell? ⟨g,j,none⟩=cur[j]?:=by simp[World.cell?,hh]
  rw[e1,<-Array.getElem?_toList];rw[<-hc] at hj;rw[List.getElem?_take] at hj;split at hj
  ·exact hj
  ·cases hj
theorem GD (w:World) (base:Nat) (v:Value) (n:Nat) (ss:List (List UInt8)) (hn:n=ss.length) (h:w.ownsRow base 9 1 v n (ss.map encStr)) (hl:n<=10000) :
  Calls Tryz.prog 39 #[v] w fun e w'=>∃ v',e = .returned v'/\w'.ownsRow w.heap.size 9 1 v' n (ss.map encStr)/\Below w.heap.size w w':=by
 rcases h.2 with⟨rfl,h0⟩|⟨g,cap,cur,rfl,_⟩
 ·have q0:∀ w,(binOp .eql 48 (.slice none 0 0) (.slice none 0 0)).run Tryz.prog w = .ok (.bool true) w:=fun w=>Lib.run_eql_slice_nil w _ _ none 0 0 0 0 Tryz.underlying48
  have hz:ss.map encStr = []:=by rw[List.eq_nil_of_length_eq_zero (hn.symm.trans h0)];rfl
  rw[hz,h0];clear h;go_enter Tryz.func39,Tryz.ntmps39;go_wp2;go_ret;exact⟨_,rfl,⟨rfl,.inl ⟨rfl,rfl⟩⟩,Below.refl _ _⟩
 ·have q0:∀ w,(binOp .eql 48 (.slice (some ⟨g,0,none⟩) n cap) (.slice none 0 0)).run Tryz.prog w = .ok (.bool false) w:=fun w=>Lib.run_eql_slice_nil w _ _ (some ⟨g,0,none⟩) n cap 0 0 Tryz.underlying48
  obtain⟨iS,hI,hI0,hI1,hI2⟩:=info_parts Tryz.infoStr2;have HI:=(show Hid _ from hI);have HC:Hid (∀ j u,(ss.map encStr)[j]? = some u->(w.alloc (.cells #[] 9)).cell? ((⟨g,0,none⟩:Addr).add j)=some u):=fun j u hj=>Lib.cell?_alloc_some _ (xD h j u hj)
  have H1:Hid (∀ u∈ss.map encStr,u.oneCell'=true):=fun u hu=>by obtain⟨x,_,rfl⟩:=List.mem_map.1 hu;rfl
  have HL:Hid ((ss.map encStr).length=n*1):=by show _=_;rw[List.length_map,Nat.mul_one,hn]
  have HO:Hid ((w.alloc (.cells #[] 9)).ownsRow w.heap.size 9 1 (.slice (some ⟨w.heap.size,0,none⟩) 0 0) 0 []):=World.ownsRow_made w #[] 0 (Nat.le_refl _) (Nat.zero_le _) rfl;clear h hI hn;go_enter Tryz.func39,Tryz.ntmps39;go_wp2_with (at_builtin;refine mh rfl _ _ 48 rfl w.heap.size 9 iS (.string ⟨#[]⟩) 1 16 Tryz.underlying48 HI.out hI0 hI1 hI2 rfl (by decide) _ _ _ rfl HO.out _ n cap (ss.map encStr) rfl HL.out (Or.inr ⟨g,0,rfl,HC.out⟩) H1.out (by omega) (by decide) (by simp) ?_);intro v' w1 hown hgr _;have HW:Hid (w1.ownsRow w.heap.size 9 1 v' n (ss.map encStr)/\Below w.heap.size w w1):=by
   refine⟨by simpa using hown,((Below.refl _ _).alloc (Nat.le_refl _) _).trans ⟨hgr.os,hgr.tape,hgr.output,hgr.size,fun b hb=>hgr.block b (by simp;omega) fun e=>?_⟩⟩;simp[Value.ownBlock] at e;omega
  clear hown hgr;go_wp2;go_ret;exact⟨v',rfl,HW.out.1,HW.out.2⟩
theorem RB (w:World) (g o n cap:Nat) (ys:List Value) (hy:ys.length=n*4) (hc:∀ j u,ys[j]? = some u->w.cell? ((⟨g,o,none⟩:Addr).add j)=some u) (h1:∀ u∈ys,u.oneCell'=true) (hl:n<=10000) :
  Calls Tryz.prog 64 #[.slice (some ⟨g,o,none⟩) n cap] w fun e w'=>∃ v',e = .returned v'/\w'.ownsRow w.heap.size 90 4 v' n ys/\Below w.heap.size w w':=by
 have q0:∀ w,(binOp .eql 55 (.slice (some ⟨g,o,none⟩) n cap) (.slice none 0 0)).run Tryz.prog w = .ok (.bool false) w:=fun w=>Lib.run_eql_slice_nil w _ _ (some ⟨g,o,none⟩) n cap 0 0 Tryz.underlying55
 obtain⟨iS,hI,hI0,hI1,hI2⟩:=info_parts Tryz.infoBk;have HI:=(show Hid _ from hI);have HC:Hid (∀ j u,ys[j]? = some u->(w.alloc (.cells #[] 90)).cell? ((⟨g,o,none⟩:Addr).add j)=some u):=fun j u hj=>Lib.cell?_alloc_some _ (hc j u hj)
 have H1:=(show Hid _ from h1);have HL:=(show Hid _ from hy);have HO:Hid ((w.alloc (.cells #[] 90)).ownsRow w.heap.size 90 4 (.slice (some ⟨w.heap.size,0,none⟩) 0 0) 0 []):=World.ownsRow_made w #[] 0 (Nat.le_refl _) (Nat.zero_le _) rfl;clear hI hy hc h1;go_enter Tryz.func64,Tryz.ntmps64;go_wp2_with (at_builtin;refine mh rfl _ _ 55 rfl w.heap.size 90 iS (.agg #[.int .i64 0,.int .i64 0,.slice none 0 0,.slice none 0 0]) 4 64 Tryz.underlying55 HI.out hI0 hI1 hI2 rfl (by decide) _ _ _ rfl HO.out _ n cap ys rfl HL.out (Or.inr ⟨g,o,rfl,HC.out⟩) H1.out (by omega) (by decide) (by simp) ?_);intro v' w1 hown hgr _;have HW:Hid (w1.ownsRow w.heap.size 90 4 v' n ys/\Below w.heap.size w w1):=by
  refine⟨by simpa using hown,((Below.refl _ _).alloc (Nat.le_refl _) _).trans ⟨hgr.os,hgr.tape,hgr.output,hgr.size,fun b hb=>hgr.block b (by simp;omega) fun e=>?_⟩⟩;simp[Value.ownBlock] at e;omega
 clear hown hgr;go_wp2;go_ret;exact⟨v',rfl,HW.out.1,HW.out.2⟩
end Go.Proofs.YtalliohkalnaeaaGreatDoor
namespace Go.Proofs.YtalliohkalnaeaaGreatDoor
open Go.RowKit Go.Maps bN aF aZ dS iO bG
theorem C8:∀ (m:Nat) (Bs:List Bk) (vs:List (Value×Value)),vs.length=Bs.length->(dx Bs vs).drop (m*4)=dx (Bs.drop m) (vs.drop m)
 | 0,_,_,_=>by simp
 | m+1,[],[],_=>by simp[dx]
 | _+1,[],_::_,h=>by cases h
 | _+1,_::_,[],h=>by cases h
 | m+1,a::Bs,u::vs,h=>by
  have:=C8 m Bs vs (by simpa using h);rw[List.drop_succ_cons,List.drop_succ_cons,<-this,show (m+1)*4=m*4+4 by omega];rfl
theorem EA:∀ (Bs:List Bk) (vs:List (Value×Value)),(∀ v,v∈vs->v.1.oneCell'=true/\v.2.oneCell'=true)->∀ u∈dx Bs vs,u.oneCell'=true
 | [],_,_,u,hu=>by simp[dx] at hu
 | _::_,[],_,u,hu=>by simp[dx] at hu
 | a::Bs,v::vs,h,u,hu=>by
  have h1:=h v (List.mem_cons_self ..);have e:dx (a::Bs) (v::vs) = [.int .i64 a.1,.int .i64 a.2.1,v.1,v.2]++dx Bs vs:=rfl;rw[e] at hu;rcases List.mem_append.1 hu with hu | hu
  ·simp at hu;rcases hu with rfl | rfl | rfl | rfl
   ·rfl
   ·rfl
   ·exact h1.1
   ·exact h1.2
  ·exact EA Bs vs (fun v hv=>h v (List.mem_cons_of_mem _ hv)) u hu
theorem Po {w:World} {base:Nat} {e:TypeId} {sz:Nat} {v:Value} {n:Nat} {xs:List Value} (h:w.ownsRow base e sz v n xs):v.oneCell'=true:=by
 obtain⟨a,c,rfl⟩:=bO h;rfl
theorem jK.one {wr:World} {base:Nat} {Bs:List Bk} {vs:List (Value×Value)} (hl:vs.length=Bs.length) (hr:∀ i (hi:i<Bs.length) (hv:i<vs.length),wr.ownsRow base 9 1 vs[i].1 Bs[i].2.2.length ((Bs[i].2.2.map Prod.fst).map encStr)/\wr.ownsRow base 9 1 vs[i].2 Bs[i].2.2.length ((Bs[i].2.2.map fun r=>iJ r.2).map encStr)):∀ v,v∈vs->v.1.oneCell'=true/\v.2.oneCell'=true:=fun v hv=>by
 obtain⟨i,hi,rfl⟩:=List.getElem_of_mem hv;obtain⟨h1,h2⟩:=hr i (by omega) hi;exact⟨Po h1,Po h2⟩
theorem M6 (w wr:World) (sb hb db:Nat) (S:List Sr) (d:Dk) (Bs:List Bk) (span:Int) (keep:Nat) (vB:Value) (G F H:List Nat) (h:eH w wr sb hb db S d Bs span (keep:Int) vB G F H) (hk:1<=keep/\keep<=1000) (hn:Bs.length<=10000) :
  Calls Tryz.prog 35 #[.pointer (some ⟨sb,0,none⟩)] wr fun e w'=>e = .returned (.tuple #[])/\∃ uE H',eH w w' sb hb db S d (Bs.drop (Bs.length-keep)) span (keep:Int) uE G F H'/\Kept [sb] wr w'/\∀ x,x∈H'->x∈H\/wr.heap.size<=x:=by
 obtain⟨vs,hvl,zw,jF,hor⟩:=h.rT.ex;obtain⟨aB,cB,rfl⟩:=bO jF;obtain⟨nB,qM⟩:∃ nB,nB=Bs.length:=⟨_,rfl⟩;have HST:=(show Hid _ from h);have x3:wr.cell? ⟨sb,3,none⟩=some (.int .i64 (keep:Int)):=ak h.blk 3;have x4:wr.cell? ⟨sb,4,none⟩=some (.slice aB nB cB):=by rw[qM];exact ak h.blk 4
 rw[<-qM] at jF hn;by_cases hle:nB<=keep
 ·have aU:Hid (∀ q,eH w (wr.drewN q) sb hb db S d (Bs.drop (Bs.length-keep)) span (keep:Int) (.slice aB Bs.length cB) G F H/\Kept [sb] wr (wr.drewN q)):=fun q=>by
   have h2:Below wr.heap.size wr (wr.drewN q):=below_draws (Below.refl _ _) q;refine⟨?_,Kept.of_below h2⟩;rw[show Bs.length-keep=0 by omega,List.drop_zero];exact h.below h2
  obtain⟨t,ht⟩:∃ t:Int,t=(nB:Int)-keep:=⟨_,rfl⟩;have e1:IntKind.i64.wrap ((nB:Int)-(keep:Int))=t:=by rw[ht];exact IntWalk.i64_in _ (by omega)
  have d1:decide ((0:Int)<t)=false:=decide_eq_false (by omega);clear h jF hor hvl zw hle qM ht;go_enter Tryz.func35,Tryz.ntmps35;go_wp2_with fail;go_quiet (fail);go_wp2;go_end0;exact⟨rfl,_,H,(aU.out _).1,(aU.out _).2,fun x hx=>.inl hx⟩
 ·obtain⟨m,hm⟩:∃ m,nB=m+keep:=⟨nB-keep,by omega⟩;have hm0:0<m:=by omega
  obtain⟨g,rfl,hcB⟩:∃ g,aB=some ⟨g,0,none⟩/\nB<=cB:=by
   rcases jF.2 with⟨hv,_⟩|⟨g,cap,cur,hv,_,_,hl,_⟩
   ·injection hv with _ hv _;omega
   ·injection hv with hv1 _ hv2;exact⟨g,hv1,by omega⟩
  have hcells:=xD jF;have hdl:(dx (Bs.drop m) (vs.drop m)).length=keep*4:=by
   rw[Ez _ _ (by simp[hvl]),List.length_drop,<-qM];omega
  have hdc:∀ z,Below wr.heap.size wr z->∀ j u,(dx (Bs.drop m) (vs.drop m))[j]? = some u->z.cell? ((⟨g,m*4,none⟩:Addr).add j)=some u:=fun z hz j u hj=>by
   rw[<-C8 m Bs vs hvl,List.getElem?_drop] at hj;have h1:=hcells (m*4+j) u hj;rw[Addr.add_lit,Nat.zero_add] at h1;rw[Addr.add_lit];exact (hz.cell (p:=⟨g,m*4+j,none⟩) (World.block_lt_of_cell? wr ⟨g,_,none⟩ h1)).trans h1
  have Bh:Hid (∀ q cap,Calls Tryz.prog 64 #[.slice (some ⟨g,m*4,none⟩) keep cap] (wr.drewN q) fun e w'=>∃ v',e = .returned v'/\w'.ownsRow wr.heap.size 90 4 v' keep (dx (Bs.drop m) (vs.drop m))/\Below wr.heap.size wr w'):=fun q cap=>by
   have h2:Below wr.heap.size wr (wr.drewN q):=below_draws (Below.refl _ _) q;refine (RB (wr.drewN q) g (m*4) keep cap _ hdl (hdc _ h2) (EA _ _ fun v hv=>jK.one hvl hor v (List.mem_of_mem_drop hv)) (by omega)).mono ?_;rintro e w' ⟨v',rfl,h3,h4⟩;exact⟨v',rfl,h3,h2.trans h4⟩
  have e1:IntKind.i64.wrap ((nB:Int)-(keep:Int))=(m:Int):=by rw[IntWalk.i64_in _ (by omega)];omega
  have d1:decide ((0:Int)<(m:Int))=true:=decide_eq_true (by omega);have Mc:=(show Hid _ from And.intro hvl (And.intro zw (And.intro hor qM)));have m0:(0:Int)<=(m:Int):=by omega
  have m1:(m:Int)<=(nB:Int):=by omega
  have m2:(m:Int)<=(cB:Int):=by omega
  have m3:(nB:Int)<=(cB:Int):=by omega
  have m4:m≠cB:=by omega
  have m5:nB-m=keep:=by omega
  clear h jF hor hvl zw hle hcells hdl hdc qM hm;go_enter Tryz.func35,Tryz.ntmps35;go_wp2_with fail;go_quiet (fail);go_wp2_with fail;refine Calls.mono (Bh.out _ _) ?_;rintro e w1 ⟨v',rfl,ho1,hb1⟩;obtain⟨a',c',hv'⟩:=bO ho1;subst hv';have hs1:=(hb1.block _ (aI HST.out.blk)).trans HST.out.blk;have y4:=ak hs1 4;simp at y4;have yf:w1.frozen? ⟨sb,4,none⟩=false:=av hs1 4;have aU:Hid (∃ H',eH w (w1.setCell ⟨sb,4,none⟩ (.slice a' keep c')) sb hb db S d (Bs.drop (Bs.length-keep)) span (keep:Int) (.slice a' keep c') G F H'/\Kept [sb] wr (w1.setCell ⟨sb,4,none⟩ (.slice a' keep c'))/\∀ x,x∈H'->x∈H\/wr.heap.size<=x):=by
   obtain⟨hvl,zw,hor,qM⟩:=Mc.out;have hst:=HST.out;have hem:Bs.length-keep=m:=by omega
   rw[hem];have hk1:Kept [sb] wr (w1.setCell ⟨sb,4,none⟩ (.slice a' keep c')):=(Kept.of_below hb1).setCell (p:=⟨sb,4,none⟩) (.inl (List.mem_singleton.2 rfl)) _;have hoth:∀ x,x≠sb->(w1.setCell ⟨sb,4,none⟩ (.slice a' keep c')).heap[x]? = w1.heap[x]?:=fun x hx=>Below.heap_setCell _ _ _ _ (by show x≠sb;exact hx)
   have hnew:∀ x,x∈(Value.slice a' keep c').ownBlock.toList++(vs.drop m).flatMap ownB->x∈H\/wr.heap.size<=x:=fun x hx=>by
    rcases List.mem_append.1 hx with hx | hx
    ·exact .inr (vV ho1 hx).1
    ·refine .inl ?_;rw[zw];refine List.mem_append.2 (.inr ?_);obtain⟨v,hv,h2⟩:=List.mem_flatMap.1 hx;exact List.mem_flatMap.2 ⟨v,List.mem_of_mem_drop hv,h2⟩
   have hsn:sb∉(Value.slice a' keep c').ownBlock.toList++(vs.drop m).flatMap ownB:=fun hx=>by
    rcases hnew sb hx with h3 | h3
    ·exact hst.sH h3
    ·have:=aI hst.blk;omega
   have hbk:jK w1 w.heap.size (.slice a' keep c') (Bs.drop m) ((Value.slice a' keep c').ownBlock.toList++(vs.drop m).flatMap ownB):=by
    refine⟨vs.drop m,by simp[hvl],rfl,?_,fun i hi hv=>?_⟩
    ·have e:(Bs.drop m).length=keep:=by rw[List.length_drop,<-qM];omega
     rw[e];exact jr ho1 hst.aM.size
    ·simp only[List.getElem_drop];obtain⟨r1,r2⟩:=hor (m+i) (by rw[List.length_drop] at hi;omega) (by rw[List.length_drop] at hv;omega);exact⟨bT r1 hb1,bT r2 hb1⟩
   exact⟨_,hst.blocks (hk1.sub fun x hx=>List.mem_cons.2 (.inl (List.mem_singleton.1 hx))) ((dP hs1 4 _).trans rfl) (hbk.same fun x hx=>hoth x fun e=>hsn (e ▸ hx)) hnew,hk1,hnew⟩
  clear ho1 hb1 hs1 Bh;dsimp only
  go_wp2;go_end0;obtain⟨H',q⟩:=aU.out;exact⟨rfl,_,H',q⟩
end Go.Proofs.YtalliohkalnaeaaGreatDoor
namespace Go.Proofs.YtalliohkalnaeaaGreatDoor
open Go.RowKit Go.Maps bN aF aZ dS iO bG
noncomputable def oF:List E->Dk->Dk×Int×Int
 | [],d=>(d,0,-1)
 | e::es,d=>if 0<jh d e.1 e.2.1 e.2.2 then (kY d e.1 e.2.1 e.2.2,jh d e.1 e.2.1 e.2.2,CR e.1 e.2.1) else oF es (kY d e.1 e.2.1 e.2.2)
theorem GH {es fs:List E} {d d':Dk} (h:oF es d=(d',0,-1)):oF (es++fs) d=oF fs d':=by
 induction es generalizing d with
 | nil=>
  rw[oF] at h;injection h with h _;rw[List.nil_append,h]
 | cons e es ih=>
  rw[oF] at h;rw[List.cons_append,oF];split at h
  ·rename_i h0;injection h with _ h;injection h with h _;omega
  ·rename_i h0;rw[if_neg h0];exact ih h
def eX (L:List Rw):List E:=L.flatMap fun r=>r.2.map fun p=>(r.1,p.1,p.2)
theorem Vd (L:List Rw) (r:Rw):eX (L ++ [r])=eX L++r.2.map fun p=>(r.1,p.1,p.2):=by simp[eX]
theorem aam (L:List Rw) (k:Nat) (hk:k<L.length) (q:Nat) (hq:q<L[k].2.length):eX L=(eX (L.take k)++(L[k].2.take q).map fun p=>(L[k].1,p.1,p.2))++((L[k].1,L[k].2[q].1,L[k].2[q].2)::((L[k].2.drop (q+1)).map fun p=>(L[k].1,p.1,p.2))++eX (L.drop (k+1))):=by
 have h1:L=L.take k++(L[k]::L.drop (k+1)):=by rw[List.getElem_cons_drop,List.take_append_drop]
 have h0:∀ A C:List Rw,eX (A++C)=eX A++eX C:=fun A C=>List.flatMap_append ..
 have h2:eX L=eX (L.take k)++eX (L[k]::L.drop (k+1)):=by rw[<-h0,<-h1]
 have h3:eX (L[k]::L.drop (k+1))=(L[k].2.map fun p=>(L[k].1,p.1,p.2))++eX (L.drop (k+1)):=List.flatMap_cons ..;have h4:(L[k].2.map fun p=>(L[k].1,p.1,p.2))=(L[k].2.take q).map (fun p=>(L[k].1,p.1,p.2))++((L[k].1,L[k].2[q].1,L[k].2[q].2)::(L[k].2.drop (q+1)).map fun p=>(L[k].1,p.1,p.2)):=by
  have h5:L[k].2=L[k].2.take q++(L[k].2[q]::L[k].2.drop (q+1)):=by rw[List.getElem_cons_drop,List.take_append_drop]
  have h6:=congrArg (List.map fun p:Int×Nat=>(L[k].1,p.1,p.2)) h5;rw[List.map_append,List.map_cons] at h6;exact h6
 rw[h2,h3,h4];simp only[List.append_assoc,List.cons_append]
noncomputable def M7 (es:List E) (d:Dk):Dk:=if d.off=true then d else (oF es ⟨[],false,d.waits,d.left⟩).1
noncomputable def EB (es:List E) (d:Dk):Int:=if d.off=true then 10 else (oF es ⟨[],false,d.waits,d.left⟩).2.1
noncomputable def M8 (es:List E) (d:Dk):Int:=if d.off=true then -1 else (oF es ⟨[],false,d.waits,d.left⟩).2.2
def RD (ea:Nat->Addr) (w wr:World) (sb hb db:Nat) (S:List Sr) (d':Dk) (Bs:List Bk) (span keep:Int) (vB:Value) (G F H:List Nat) (C A:Int) (e:Ending) (w':World):Prop:=
 ∃ v F',e = .returned v/\aY ea w' v C A/\eH w w' sb hb db S d' Bs span keep vB G F' H/\Kept F wr w'/\∀ x,x∈F'->x∈F\/wr.heap.size<=x
theorem RF {B:Nat} {ea:Nat->Addr} (w wa:World) (E0:Fb B ea w) (hB:B<=w.heap.size) (sb hb db:Nat) (S:List Sr) (d:Dk) (Bs:List Bk) (span keep:Int) (vB:Value) (G F H:List Nat) (h:eH w wa sb hb db S d Bs span keep vB G F H) (hn:S.length<=1000) (hc:dG S<=1000) (L:List Rw) (hL:L=rU 1099511627776 S) :
  Calls Tryz.prog 36 #[.agg #[.pointer (some ⟨hb,0,none⟩),.pointer (some ⟨db,0,none⟩)]] wa fun e w'=>RD ea w wa sb hb db S (M7 (eX L) d) Bs span keep vB G F H (EB (eX L) d) (M8 (eX L) d) e w':=by
 obtain⟨W1,hW1⟩:∃ W1,W1=wa.alloc (.cells #[.pointer (some ⟨hb,0,none⟩),.pointer (some ⟨db,0,none⟩)] 74):=⟨_,rfl⟩;have hbW:Below wa.heap.size wa W1:=by rw[hW1];exact (Below.refl _ _).alloc (Nat.le_refl _) _
 have hx1:W1.heap[wa.heap.size]? = some (.cells #[.pointer (some ⟨hb,0,none⟩),.pointer (some ⟨db,0,none⟩)] 74 (0,0)):=by rw[hW1];exact heap_alloc_new _ _
 have pz:=h.below hbW;have x0:=ak hx1 0;have x1:=ak hx1 1;simp at x0 x1;have mZ:∀ x,x∈F->x<wa.heap.size:=fun x hx=>(h.dk.mem hx).2
 have HW1:=(show Hid _ from hW1);have cK:=(show Hid _ from hbW);have Ti:=(show Hid _ from hx1);have HST:=(show Hid _ from pz);have HE:=(show Hid _ from E0);by_cases hoff:d.off=true
 ·have Bh:=(show Hid _ from MJ w W1 (E0.w.below pz.aM hB) db d F pz.dk hoff);have HF:Hid (M7 (eX L) d=d/\EB (eX L) d=10/\M8 (eX L) d = -1):=⟨if_pos hoff,if_pos hoff,if_pos hoff⟩;clear hW1 hbW hx1 pz h E0 hL;go_enter Tryz.func36,Tryz.ntmps36;go_upto_region 1 with fail;rw[<-HW1.out];go_wp2_with fail;refine Calls.mono Bh.out ?_;rintro e w2 ⟨rfl,hw2⟩;have hw3:=hw2.symm;subst hw3;dsimp only
  go_wp2;go_ret;obtain⟨f1,f2,f3⟩:=HF.out;rw[f1,f2,f3];exact⟨_,F,rfl,.es 9 (by decide) (by decide),HST.out,Kept.of_below cK.out,fun x hx=>.inl hx⟩
 ·have hof:d.off=false:=by simpa using hoff
  obtain⟨d1,hd1⟩:∃ d1:Dk,d1=⟨[],false,d.waits,d.left⟩:=⟨_,rfl⟩;have Bh:=(show Hid _ from Xm w W1 db d F pz.dk hof);rw[<-hd1] at Bh;have HF:Hid (M7 (eX L) d=(oF (eX L) d1).1/\EB (eX L) d=(oF (eX L) d1).2.1/\M8 (eX L) d=(oF (eX L) d1).2.2):=by
   rw[hd1];exact⟨if_neg hoff,if_neg hoff,if_neg hoff⟩
  have HD1:Hid (d1.L.length<=65536):=by show _<=_;rw[hd1];exact Nat.zero_le _
  have HL:=(show Hid _ from hL);clear hW1 hbW hx1 pz h E0 hL hd1 hoff hof;go_enter Tryz.func36,Tryz.ntmps36;go_upto_region 1 with fail;rw[<-HW1.out];go_wp2_with fail;refine Calls.mono Bh.out ?_;rintro e w2 ⟨rfl,hd2,hk2⟩;have C9:=HST.out.disk hd2 hk2 (fun x hx=>.inl hx);have hx2:w2.heap[wa.heap.size]? = some (.cells #[.pointer (some ⟨hb,0,none⟩),.pointer (some ⟨db,0,none⟩)] 74 (0,0)):=(hk2.block _ (aI Ti.out) (fun hx=>by have:=mZ _ hx;omega)).trans Ti.out;have y0:=ak hx2 0;simp at y0;have nu:=(show Hid _ from Cq w w2 hb S G C9.hd hn);have adq:=(show Hid _ from C9);have BS:=(show Hid _ from hx2);have iA:Hid (Kept F wa w2):=(Kept.of_below (S:=F) cK.out).trans hk2 fun x hx=>.inl hx
  clear hd2 hk2 C9 hx2 x0 x1 Bh HST;dsimp only
  go_wp2_with fail;refine Calls.mono nu.out ?_;rintro e w3 ⟨v3,rfl,hb3,ho3⟩;obtain⟨a5,UR,rfl⟩:=bO ho3;have hnm:L.map Prod.fst=bU S:=by rw[HL.out];unfold rU;rw[List.map_map];exact List.map_id _
  have yZ:L.length=(bU S).length:=by rw[<-hnm,List.length_map]
  have hLk:∀ k (hk:k<L.length),L[k].2=bI 0 1099511627776 (gP S L[k].1)/\∃ l,l∈S/\l.key=L[k].1:=fun k hk=>by
   have hL:=HL.out;subst hL;refine⟨by simp[rU],?_⟩;have:(rU 1099511627776 S)[k].1∈bU S:=by rw[<-hnm];exact List.mem_map.2 ⟨_,List.getElem_mem hk,rfl⟩
   obtain⟨l,hl,hk',_⟩:=jk.1 this;exact⟨l,hl,hk'⟩
  rw[<-yZ,<-hnm] at ho3;rw[<-yZ];obtain⟨n,hnn⟩:∃ n,n=L.length:=⟨_,rfl⟩;rw[<-hnn] at ho3 ⊢;have hn1:n<=1000:=by
   rw[hnn,yZ];exact Nat.le_trans (by unfold bU;rw[List.length_map];exact List.length_filter_le _ _) hn
  have HN:=(show Hid _ from hnn);have Lp:=(show Hid _ from hLk);have Lm:=(show Hid _ from ho3);have adr:=(show Hid _ from adq.out.below hb3);have HX3:=(show Hid _ from (hb3.block _ (aI BS.out)).trans BS.out);have eB:Hid (Kept F wa w3):=iA.out.trans (Kept.of_below (S:=[]) hb3) (fun x hx=>by cases hx);have adt:Hid (wa.heap.size<w2.heap.size):=aI BS.out;have Ve:Hid (w2.heap.size<=w3.heap.size):=hb3.size;clear hb3 ho3 hnm yZ hLk hnn y0 nu adq;dsimp only
  go_wp2_with fail;go_loopw [19] (fun i wr=>∃ (k:Nat) (d':Dk) (F':List Nat),k<=n/\i = .int .i64 (k:Int)/\eH w wr sb hb db S d' Bs span keep vB G F' H/\oF (eX (L.take k)) d1=(d',0,-1)/\Kept F w3 wr/\(∀ x,x∈F'->x∈F\/w3.heap.size<=x)/\d'.L.length<=65536) (fun i _=>n-(intOf i).toNat);case atStart=>exact⟨0,d1,F,Nat.zero_le _,rfl,adr.out,rfl,Kept.refl _ _,fun x hx=>.inl hx,HD1.out⟩
  case round=>
   obtain⟨wk,hwk⟩:∃ wk,wk=wr:=⟨_,rfl⟩;subst hwk;obtain⟨k,d',F',hk,rfl,hst,hap,hkp,hF',hdl⟩:=hrel;clear adr;have pW:=(show Hid _ from hst);have YW:=(show Hid _ from hap);have sw:=(show Hid _ from hkp);have Em:=(show Hid _ from hF');have hF3:∀ x,x∈F->x<w2.heap.size:=fun x hx=>by have:=mZ x hx;have:=adt.out;omega
   have hx5:wk.heap[wa.heap.size]? = some (.cells #[.pointer (some ⟨hb,0,none⟩),.pointer (some ⟨db,0,none⟩)] 74 (0,0)):=(hkp.block _ (aI HX3.out) (fun hx=>by have:=mZ _ hx;omega)).trans HX3.out;by_cases hkn:k<n
   ·have xZ:k<L.length:=by rw[<-HN.out];exact hkn
    obtain⟨xk,hxk⟩:∃ xk:ByteArray,xk=⟨(L[k].1).toArray⟩:=⟨_,rfl⟩;have hxd:xk.data.toList=L[k].1:=by rw[hxk]
    have hrow:wk.ownsRow w2.heap.size 9 1 (.slice a5 n UR) n ((L.map Prod.fst).map encStr):=bL Lm.out fun g hg=>hkp.block g (aJ Lm.out hg).2.1 fun hx=>by
     have h1:=(aJ Lm.out hg).1;have h2:=hF3 g hx;omega
    obtain⟨g5,e5,hgc⟩:∃ g5,a5=some ⟨g5,0,none⟩/\wk.cell? ⟨g5,k,none⟩=some (.string xk):=by
     rcases hrow.2 with⟨_,hz⟩|⟨g,cap,cur,hv,_,hh,_,_,hs,hc⟩
     ·omega
     ·injection hv with hv;refine⟨g,hv,?_⟩;have e1:wk.cell? ⟨g,k,none⟩=cur[k]?:=by simp[World.cell?,hh]
      have e2:cur[k]? = (cur.toList.take (n*1))[k]?:=by rw[List.getElem?_take_of_lt (by omega)];simp
      rw[e1,e2,hc,hxk];simp[xZ,encStr]
    subst e5;obtain⟨hP1,l,hl,hlk⟩:=Lp.out k xZ;obtain⟨P,hP⟩:∃ P,P=L[k].2:=⟨_,rfl⟩;have hns:xk.size<=1000:=by
     have e:xk.size=L[k].1.length:=by rw[hxk];simp[ByteArray.size]
     obtain⟨_,_,_,_,hat⟩:=hst.hd.ex;have:=hat.len l hl;rw[e,<-hlk];exact this
    have k0:(0:Int)<=(k:Int):=by omega
    have k1:(k:Int)<(n:Int):=by omega
    have y0:=ak hx5 0;simp at y0;have pK:=(show Hid _ from Cr w wk hb S G hst.hd hc xk hns 0 1099511627776);rw[hxd,<-hP1,<-hP] at pK;have Da:=(show Hid _ from And.intro hP (And.intro hP1 hxd));have HX5:=(show Hid _ from hx5);clear hst hap hkp hF' hxk hxd hrow hP1 hl hlk hP hx5;go_wp2_with fail;refine Calls.mono pK.out ?_;rintro e w4 ⟨v4,rfl,kK,hb4⟩;obtain⟨a4,c4,rfl,_,xB,uS⟩:=iq kK;have MS:∀ p,p∈P->p.2<18446744073709551616:=fun p hp=>by
     rw[Da.out.1,Da.out.2.1] at hp;obtain⟨h1,h2⟩:=List.mem_filter.1 hp;obtain⟨l',hl',hp'⟩:=CS h1;exact (pW.out.hd.well.Iy l' hl' p hp').2.2
    obtain⟨m,hm⟩:∃ m,m=P.length:=⟨_,rfl⟩;have Pj:m<=1000:=by
     rw[hm,Da.out.1,Da.out.2.1];exact Nat.le_trans (List.length_filter_le _ _) (Nat.le_trans (uy S _) hc)
    rw[<-hm] at kK ⊢;have HM:=(show Hid _ from hm);have MU:=(show Hid _ from And.intro xB uS);have eY:=(show Hid _ from hb4);have MH:=(show Hid _ from MS);have adu:=(show Hid _ from pW.out.below hb4);have HX4:=(show Hid _ from (hb4.block _ (aI HX5.out)).trans HX5.out);have HA0:Hid (oF (eX (L.take k)++(P.take 0).map fun p=>(L[k].1,p.1,p.2)) d1=(d',0,-1)):=by
     show _=_;rw[List.take_zero,List.map_nil,List.append_nil];exact YW.out
    clear kK hb4 xB uS MS hm pK y0 hgc;dsimp only
    go_wp2_with fail;go_loopw [28] (fun j wr=>∃ (q:Nat) (d2:Dk) (F2:List Nat),q<=m/\j = .int .i64 (q:Int)/\eH w wr sb hb db S d2 Bs span keep vB G F2 H/\oF (eX (L.take k)++(P.take q).map fun p=>(L[k].1,p.1,p.2)) d1=(d2,0,-1)/\Kept F' w4 wr/\(∀ x,x∈F2->x∈F'\/w4.heap.size<=x)/\d2.L.length<=65536) (fun j _=>m-(intOf j).toNat);case atStart=>exact⟨0,d',F',Nat.zero_le _,rfl,adu.out,HA0.out,Kept.refl _ _,fun x hx=>.inl hx,hdl⟩
    case round=>
     obtain⟨q,d2,F2,hq,rfl,hsz,haz,hkz,hF2,XH⟩:=hrel;clear adu HA0;have fZ:=(show Hid _ from hsz);have Pm:=(show Hid _ from haz);have zn:=(show Hid _ from hkz);have iT:=(show Hid _ from hF2);have ahR:∀ x,x∈F'->x<wk.heap.size:=fun x hx=>(pW.out.dk.mem hx).2
     have zS:wa.heap.size∉F':=fun hx=>by
      rcases Em.out _ hx with h1 | h1
      ·have:=mZ _ h1;omega
      ·have:=adt.out;have:=aI HX3.out;have h5:w2.heap.size<=w3.heap.size:=Ve.out;omega
     have hx6:=(hkz.block _ (aI HX4.out) zS).trans HX4.out;by_cases hqm:q<m
     ·have Bj:q<P.length:=by rw[<-HM.out];exact hqm
      obtain⟨t,ht⟩:∃ t,t=P[q].1:=⟨_,rfl⟩;obtain⟨u,hu⟩:∃ u,u=P[q].2:=⟨_,rfl⟩;have Fe:P ≠ []:=fun e=>by rw[e] at Bj;exact absurd Bj (Nat.not_lt_zero _)
      obtain⟨g4,hg4,Xq,MV⟩:=MU.out.2 Fe;subst hg4;obtain⟨b',o',e',hcs⟩:∃ b o,some (⟨g4,0,none⟩:Addr)=some ⟨b,o,none⟩/\∀ k (hk:k<P.length),w4.cell? ⟨b,o+k*2,none⟩=some (.int .i64 P[k].1)/\w4.cell? ⟨b,o+k*2+1,none⟩=some (.int .u64 (P[k].2:Int)):=by
       rcases MU.out.1 with h | h
       ·exact absurd h Fe
       ·exact h
      injection e' with e';injection e' with e1 e2;subst e1 e2;obtain⟨c0,c1⟩:=hcs q Bj;have hbk:wr.heap[g4]? = w4.heap[g4]?:=hkz.block g4 MV (fun hx=>by have:=ahR _ hx;omega);have z0:wr.cell? ⟨g4,q*2,none⟩=some (.int .i64 t):=by
       rw[ht,<-c0];simp[World.cell?,hbk]
      have z1:wr.cell? ⟨g4,q*2+1,none⟩=some (.int .u64 (u:Int)):=by
       rw[hu,<-c1];simp[World.cell?,hbk]
      have q0:(0:Int)<=(q:Int):=by omega
      have q1:(q:Int)<(m:Int):=by omega
      obtain⟨Z1,hZ1⟩:∃ Z1,Z1=wr.alloc (.cells #[.int .i64 t,.int .u64 (u:Int)] 39):=⟨_,rfl⟩;have pV:Below wr.heap.size wr Z1:=by rw[hZ1];exact (Below.refl _ _).alloc (Nat.le_refl _) _
      have MW:Z1.heap[wr.heap.size]? = some (.cells #[.int .i64 t,.int .u64 (u:Int)] 39 (0,0)):=by rw[hZ1];exact heap_alloc_new _ _
      have x0:=ak MW 0;have x1:=ak MW 1;simp at x0 x1;have y1:=ak ((pV.block _ (aI hx6)).trans hx6) 1;simp at y1;have hut:u<18446744073709551616:=by rw[hu];exact MH.out _ (List.getElem_mem Bj)
      have HDA:=(show Hid _ from Ju w HE.out.w hB Z1 db d2 F2 (hsz.below pV).dk XH xk (by omega) t u hut);have HZ1:Hid (∀ wx,wx=wr.alloc (.cells #[.int .i64 t,.int .u64 (u:Int)] 39)->wx=Z1):=fun wx h=>h.trans hZ1.symm
      have qN:=(show Hid _ from hsz.below pV);have Bo:=(show Hid _ from pV);have Bl:=(show Hid _ from And.intro ht (And.intro hu Bj));have Pk:Hid (P.take (q+1)=P.take q ++ [P[q]]):=List.take_succ_eq_append_getElem Bj;clear hsz haz hkz hF2 ht hu Fe Xq MV hcs c0 c1 hbk hZ1 pV MW hx6;go_upto_region 10 with fail;rw[HZ1.out _ rfl];go_wp2_with fail;refine Calls.mono HDA.out ?_;rintro e w6 ⟨v6,F6,rfl,Vf,hd6,yj,Ur⟩;have AB:=qN.out.disk hd6 yj Ur;have RG:Kept F' w4 w6:=(zn.out.trans (Kept.of_below (S:=[]) Bo.out) (fun x hx=>by cases hx)).trans yj iT.out;have Zd:∀ x,x∈F6->x∈F'\/w4.heap.size<=x:=fun x hx=>by
       rcases Ur x hx with h1 | h1
       ·exact iT.out x h1
       ·exact .inr (Nat.le_trans (Nat.le_trans zn.out.size Bo.out.size) h1)
      have hnn:=tJ d2 xk.data.toList t u;by_cases hc0:jh d2 xk.data.toList t u=0
      ·obtain rfl:=Vf.none hc0;have aU:Hid (eH w w6 sb hb db S (kY d2 xk.data.toList t u) Bs span keep vB G F6 H/\oF (eX (L.take k)++(P.take (q+1)).map fun p=>(L[k].1,p.1,p.2)) d1=(kY d2 xk.data.toList t u,0,-1)/\Kept F' w4 w6/\(∀ x,x∈F6->x∈F'\/w4.heap.size<=x)/\(kY d2 xk.data.toList t u).L.length<=65536):=by
        refine⟨AB,?_,RG,Zd,Xl _ _ _ _ XH⟩;obtain⟨e1,e2,_⟩:=Bl.out;rw[Pk.out,List.map_append,<-List.append_assoc,GH Pm.out,List.map_cons,List.map_nil,<-e1,<-e2,<-Da.out.2.2,oF,if_neg (by show ¬ 0<jh d2 xk.data.toList t u;omega)];rfl
       clear Vf hd6 yj Ur AB RG Zd hc0 hnn x0 x1 y1 z0 z1 HDA;dsimp only
       go_wp2;go_roundw;case rel=>exact⟨q+1,_,F6,by omega,by go_num,aU.out.1,aU.out.2.1,aU.out.2.2.1,aU.out.2.2.2.1,aU.out.2.2.2.2⟩
       case measure=>simp[intOf]<;>omega
      ·obtain⟨tv,pv,rfl⟩:=uw Vf hc0;have aU:Hid (RD ea w wa sb hb db S (M7 (eX L) d) Bs span keep vB G F H (EB (eX L) d) (M8 (eX L) d) (.returned (.iface tv (.pointer (some pv)))) w6):=by
        obtain⟨e1,e2,e3⟩:=Bl.out;have Gw:k<L.length:=by rw[<-HN.out];exact hkn
        have hent:eX L=(eX (L.take k)++(P.take q).map fun p=>(L[k].1,p.1,p.2))++((xk.data.toList,t,u)::((P.drop (q+1)).map fun p=>(L[k].1,p.1,p.2))++eX (L.drop (k+1))):=by
         have hP:=Da.out.1;subst hP;have h9:=aam L k Gw q e3;rw[Da.out.2.2,e1,e2];exact h9
        obtain⟨f1,f2,f3⟩:=HF.out;have happ:oF (eX L) d1=(kY d2 xk.data.toList t u,jh d2 xk.data.toList t u,CR xk.data.toList t):=by
         rw[hent,GH Pm.out,List.cons_append,oF,if_pos (by show 0<jh d2 xk.data.toList t u;omega)]
        rw[f1,f2,f3,happ];refine⟨_,F6,rfl,Vf,AB,((eB.out.trans sw.out fun x hx=>.inl hx).trans (Kept.of_below (S:=[]) eY.out) (fun x hx=>by cases hx)).trans RG fun x hx=>?_,fun x hx=>?_⟩
        ·rcases Em.out x hx with h1 | h1
         ·exact .inl h1
         ·exact .inr (Nat.le_trans eB.out.size h1)
        ·rcases Zd x hx with h1 | h1
         ·rcases Em.out x h1 with h2 | h2
          ·exact .inl h2
          ·exact .inr (Nat.le_trans eB.out.size h2)
         ·exact .inr (Nat.le_trans (Nat.le_trans (Nat.le_trans eB.out.size sw.out.size) eY.out.size) h1)
       clear Vf hd6 yj Ur AB RG Zd hc0 hnn x0 x1 y1 z0 z1 HDA;dsimp only
       go_wp2;go_ret;exact aU.out
     ·obtain rfl:q=m:=by omega
      have aU:Hid (oF (eX (L.take (k+1))) d1=(d2,0,-1)/\Kept F w3 wr/\∀ x,x∈F2->x∈F\/w3.heap.size<=x):=by
       have Gw:k<L.length:=by rw[<-HN.out];exact hkn
       refine⟨?_,(sw.out.trans (Kept.of_below (S:=[]) eY.out) (fun x hx=>by cases hx)).trans hkz Em.out,fun x hx=>?_⟩
       ·have gU:P.take q=P:=by rw[HM.out];exact List.take_length
        rw[List.take_succ_eq_append_getElem Gw,Vd,<-Da.out.1];have h1:=haz;rw[gU] at h1;exact h1
       ·rcases hF2 x hx with h1 | h1
        ·exact Em.out x h1
        ·exact .inr (Nat.le_trans (Nat.le_trans sw.out.size eY.out.size) h1)
      clear hsz haz hkz hF2 hx6 zn iT Pm;go_wp2;go_roundw;case rel=>exact⟨k+1,d2,F2,by omega,by go_num,fZ.out,aU.out.1,aU.out.2.1,aU.out.2.2,XH⟩
      case measure=>simp[intOf]<;>omega
   ·obtain rfl:k=n:=by omega
    have gU:L.take k=L:=by rw[HN.out];exact List.take_length
    rw[gU] at hap;have aU:Hid (RD ea w wa sb hb db S (M7 (eX L) d) Bs span keep vB G F H (EB (eX L) d) (M8 (eX L) d) (.returned .nilIface) wk):=by
     obtain⟨f1,f2,f3⟩:=HF.out;rw[f1,f2,f3,hap];refine⟨_,F',rfl,.inl ⟨rfl,rfl⟩,hst,eB.out.trans hkp fun x hx=>.inl hx,fun x hx=>?_⟩;rcases hF' x hx with h1 | h1
     ·exact .inl h1
     ·exact .inr (Nat.le_trans eB.out.size h1)
    clear hst hap hkp hF' hx5 gU pW YW sw Em;go_wp2;go_ret;exact aU.out
end Go.Proofs.YtalliohkalnaeaaGreatDoor
namespace Go.Proofs.YtalliohkalnaeaaGreatDoor
open Go.RowKit Go.Maps bN aF aZ dS iO bG
theorem Vg {wa wr:World} {base:Nat} {aB:Option Addr} {n cB:Nat} {Bs:List Bk} {vs:List (Value×Value)} (ho:wa.ownsRow base 90 4 (.slice aB n cB) n (dx Bs vs)) (hn:n=Bs.length) (hvl:vs.length=Bs.length)
  (hor:∀ i (hi:i<Bs.length) (hv:i<vs.length),wa.ownsRow base 9 1 vs[i].1 Bs[i].2.2.length ((Bs[i].2.2.map Prod.fst).map encStr)/\wa.ownsRow base 9 1 vs[i].2 Bs[i].2.2.length ((Bs[i].2.2.map fun r=>iJ r.2).map encStr)) (hb:Below wa.heap.size wa wr) (k:Nat) (hk:k<Bs.length) :
  ∃ g p1 t1 p2 t2,aB=some ⟨g,0,none⟩/\wr.cell? ⟨g,k*4,none⟩=some (.int .i64 Bs[k].1)/\wr.cell? ⟨g,k*4+1,none⟩=some (.int .i64 Bs[k].2.1)/\wr.cell? ⟨g,k*4+2,none⟩=some (.slice p1 Bs[k].2.2.length t1)/\wr.cell? ⟨g,k*4+3,none⟩=some (.slice p2 Bs[k].2.2.length t2) /\
   wr.ownsRow base 9 1 (.slice p1 Bs[k].2.2.length t1) Bs[k].2.2.length ((Bs[k].2.2.map Prod.fst).map encStr)/\wr.ownsRow base 9 1 (.slice p2 Bs[k].2.2.length t2) Bs[k].2.2.length ((Bs[k].2.2.map fun r=>iJ r.2).map encStr):=by
 have Vh:k<vs.length:=by omega
 obtain⟨g,rfl⟩:∃ g,aB=some ⟨g,0,none⟩:=by
  rcases ho.2 with⟨hv,h0⟩|⟨g,cap,cur,hv,_⟩
  ·omega
  ·injection hv with hv1 _ _;exact⟨g,hv1⟩
 have hcell:=xD ho;obtain⟨b0,b1,b2,b3⟩:=vR Bs vs hvl k hk Vh;have hc:∀ j u,(dx Bs vs)[j]? = some u->wr.cell? ⟨g,j,none⟩=some u:=fun j u hj=>by
  have h1:=hcell j u hj;rw[Addr.add_lit,Nat.zero_add] at h1;exact (hb.cell (p:=⟨g,j,none⟩) (World.block_lt_of_cell? wa ⟨g,_,none⟩ h1)).trans h1
 obtain⟨r1,r2⟩:=hor k hk Vh;obtain⟨p1,t1,hv1⟩:=bO r1;obtain⟨p2,t2,hv2⟩:=bO r2;have y2:=hc _ _ b2;have y3:=hc _ _ b3;rw[hv1] at y2 r1;rw[hv2] at y3 r2;exact⟨g,p1,t1,p2,t2,rfl,hc _ _ b0,hc _ _ b1,y2,y3,bT r1 hb,bT r2 hb⟩
theorem vX {w:World} {base:Nat} {a:Option Addr} {n c:Nat} {ss:List (List UInt8)} (h:w.ownsRow base 9 1 (.slice a n c) n (ss.map encStr)) (k:Nat) (hk:k<ss.length) (hkn:k<n):∃ g,a=some ⟨g,0,none⟩/\w.cell? ⟨g,k,none⟩=some (.string ⟨ss[k].toArray⟩):=by
 obtain⟨g,rfl⟩:∃ g,a=some ⟨g,0,none⟩:=by
  rcases h.2 with⟨hv,h0⟩|⟨g,cap,cur,hv,_⟩
  ·omega
  ·injection hv with hv1 _ _;exact⟨g,hv1⟩
 have h1:=xD h k (encStr ss[k]) (by simp[hk]);rw[Addr.add_lit,Nat.zero_add] at h1;exact⟨g,rfl,h1⟩
end Go.Proofs.YtalliohkalnaeaaGreatDoor
namespace Go.Proofs.YtalliohkalnaeaaGreatDoor
open Go.RowKit Go.Maps bN aF aZ dS iO bG
theorem M9 (w wa:World) (sb hb db:Nat) (S:List Sr) (d:Dk) (Bs:List Bk) (span keep:Int) (vB:Value) (G F H:List Nat) (h:eH w wa sb hb db S d Bs span keep vB G F H) (hn:Bs.length<=1000) (hl:∀ b,b∈Bs->b.2.2.length<=1000) :
  Calls Tryz.prog 16 #[.pointer (some ⟨sb,0,none⟩)] wa fun e w'=>∃ v H',e = .returned v/\jK w' wa.heap.size v Bs H'/\Below wa.heap.size wa w':=by
 obtain⟨vs,hvl,_,jF,hor⟩:=h.rT.ex;obtain⟨aB,cB,rfl⟩:=bO jF;obtain⟨n,hnn⟩:∃ n,n=Bs.length:=⟨_,rfl⟩;have x4:=ak h.blk 4;simp at x4;rw[<-hnn] at x4 jF hn;have Pp:=(show Hid _ from jF);have K3:=(show Hid _ from hor);have JL:=(show Hid _ from And.intro hnn hvl);have yR:=(show Hid _ from hl);obtain⟨iB,hIB,hB0,hB1,hB2⟩:=info_parts Tryz.infoBk;have HIB:=(show Hid _ from hIB);have H0:Hid (jK wa wa.heap.size (.slice none 0 0) (Bs.take 0) []):=jK.nil _ _;clear h jF hor hnn hvl hl hIB;go_enter Tryz.func16,Tryz.ntmps16;go_wp2_with fail;go_loopw [3,11] (fun l i wr=>∃ (k:Nat) (H':List Nat),k<=n/\i = .int .i64 (k:Int)/\jK wr wa.heap.size l (Bs.take k) H'/\Below wa.heap.size wa wr) (fun _ i _=>n-(intOf i).toNat);case atStart=>exact⟨0,[],Nat.zero_le _,rfl,H0.out,Below.refl _ _⟩
 case round=>
  obtain⟨k,H',hk,rfl,hbk,hbr⟩:=hrel;clear H0;have Uf:=(show Hid _ from hbk);have bq:=(show Hid _ from hbr);by_cases hkn:k<n
  ·obtain⟨hnn,hvl⟩:=JL.out;have hkB:k<Bs.length:=by omega
   have Vh:k<vs.length:=by omega
   obtain⟨g,rfl⟩:∃ g,aB=some ⟨g,0,none⟩:=by
    rcases Pp.out.2 with⟨hv,h0⟩|⟨g,cap,cur,hv,_⟩
    ·omega
    ·injection hv with hv1 _ _;exact⟨g,hv1⟩
   have hcell:=xD Pp.out;obtain⟨b0,b1,b2,b3⟩:=vR Bs vs hvl k hkB Vh;have hc:∀ j u,(dx Bs vs)[j]? = some u->wr.cell? ⟨g,j,none⟩=some u:=fun j u hj=>by
    have h1:=hcell j u hj;rw[Addr.add_lit,Nat.zero_add] at h1;exact (hbr.cell (p:=⟨g,j,none⟩) (World.block_lt_of_cell? wa ⟨g,_,none⟩ h1)).trans h1
   obtain⟨f,hf⟩:∃ f,f=Bs[k].1:=⟨_,rfl⟩;obtain⟨s,hs⟩:∃ s,s=Bs[k].2.1:=⟨_,rfl⟩;obtain⟨r1,r2⟩:=K3.out k hkB Vh;obtain⟨p1,t1,hv1⟩:=bO r1;obtain⟨p2,t2,hv2⟩:=bO r2;obtain⟨m,hm⟩:∃ m,m=Bs[k].2.2.length:=⟨_,rfl⟩;obtain⟨N1,hN1⟩:∃ N1,N1=Bs[k].2.2.map Prod.fst:=⟨_,rfl⟩;obtain⟨N2,JM⟩:∃ N2,N2=Bs[k].2.2.map fun r=>iJ r.2:=⟨_,rfl⟩
   have hl1:m=N1.length:=by rw[hN1,List.length_map,hm]
   have hl2:m=N2.length:=by rw[JM,List.length_map,hm]
   rw[<-hN1] at r1;rw[<-JM] at r2;have y0:=hc _ _ b0;have y1:=hc _ _ b1;have y2:=hc _ _ b2;have y3:=hc _ _ b3;rw[<-hf] at y0;rw[<-hs] at y1;rw[hv1] at y2 r1;rw[hv2] at y3 r2;rw[<-hm] at y2 y3 r1 r2;have hm1:m<=1000:=by rw[hm];exact yR.out _ (List.getElem_mem hkB)
   obtain⟨W,hW⟩:∃ W,W=wr.alloc (.cells #[.int .i64 f,.int .i64 s,.slice p1 m t1,.slice p2 m t2] 90):=⟨_,rfl⟩;have hbW:Below wr.heap.size wr W:=by rw[hW];exact (Below.refl _ _).alloc (Nat.le_refl _) _
   have Db:W.heap[wr.heap.size]? = some (.cells #[.int .i64 f,.int .i64 s,.slice p1 m t1,.slice p2 m t2] 90 (0,0)):=by rw[hW];exact heap_alloc_new _ _
   have qN:Hid (∀ z,Below W.heap.size W z->z.cell? ⟨wr.heap.size,2,none⟩=some (.slice p1 m t1)/\z.cell? ⟨wr.heap.size,3,none⟩=some (.slice p2 m t2)):=fun z hz=>by
    have e1:=(hz.block _ (aI Db)).trans Db;exact⟨ak e1 2,ak e1 3⟩
   have Ij:Below wa.heap.size wa W:=hbr.trans (hbW.mono hbr.size);have wZ:Hid (∀ z,Below W.heap.size W z->Calls Tryz.prog 39 #[.slice p1 m t1] z fun e z'=>∃ a' c',e = .returned (.slice a' m c')/\Below W.heap.size W z'/\z'.ownsRow W.heap.size 9 1 (.slice a' m c') m (N1.map encStr)):=fun z hz=>by
    refine (GD z _ _ m N1 hl1 (bL r1 fun g hg=>?_) (by omega)).mono ?_
    ·exact (Ij.trans (hz.mono Ij.size)).block g (aJ r1 hg).2.1
    ·rintro e z' ⟨v',rfl,h1,h2⟩;obtain⟨a',c',rfl⟩:=bO h1;exact⟨a',c',rfl,hz.trans (h2.mono hz.size),jr h1 hz.size⟩
   have Gv:Hid (∀ z a1 c1,Below W.heap.size W z->z.ownsRow W.heap.size 9 1 (.slice a1 m c1) m (N1.map encStr)->Calls Tryz.prog 39 #[.slice p2 m t2] z fun e z'=>∃ a' c',e = .returned (.slice a' m c')/\Below W.heap.size W z'/\z'.ownsRow W.heap.size 9 1 (.slice a1 m c1) m (N1.map encStr)/\z'.ownsRow W.heap.size 9 1 (.slice a' m c') m (N2.map encStr)):=fun z a1 c1 hz h1'=>by
    refine (GD z _ _ m N2 hl2 (bL r2 fun g hg=>?_) (by omega)).mono ?_
    ·exact (Ij.trans (hz.mono Ij.size)).block g (aJ r2 hg).2.1
    ·rintro e z' ⟨v',rfl,h1,h2⟩;obtain⟨a',c',rfl⟩:=bO h1;exact⟨a',c',rfl,hz.trans (h2.mono hz.size),bT h1' h2,jr h1 hz.size⟩
   have HW:Hid (∀ wx,wx=wr.alloc (.cells #[.int .i64 f,.int .i64 s,.slice p1 m t1,.slice p2 m t2] 90)->wx=W):=fun wx h=>h.trans hW.symm
   have zx:=(show Hid _ from And.intro Db (And.intro hbW Ij));have HFS:=(show Hid _ from And.intro hf (And.intro hs (And.intro hm hkB)));have rJ:=(show Hid _ from And.intro hN1 JM);have HB0:Hid (Below W.heap.size W W.drew):=iC (Below.refl _ _);have k0:(0:Int)<=(k:Int):=by omega
   have k1:(k:Int)<(n:Int):=by omega
   clear hbk hbr hnn hvl hcell b0 b1 b2 b3 hc hf hs r1 r2 hv1 hv2 hm hW hbW Db Ij hN1 JM hl1 hl2;go_upto_region 5 with fail;rw[HW.out _ rfl];clear y0 y1 y2 y3;refine l5 (S:=fun z=>z.cell? ⟨wr.heap.size,2,none⟩=some (.slice p1 m t1)/\z.cell? ⟨wr.heap.size,3,none⟩=some (.slice p2 m t2)) (by kernel_rfl) 7 (qN.out _ HB0.out) (fun hHeld=>?_);refine bD (i:=0) (d:=some 15) (v:=.pointer (some ⟨wr.heap.size,2,none⟩)) rfl rfl (by kernel_rfl) (by kernel_rfl) (by kernel_rfl) (by kernel_rfl) (fun _ _ _ h=>h) (Or.inl ⟨by rfl,?_⟩) (fun _=>hHeld) ?_
   ·intro w _;go_simp
   try simp only[Act.put,List.setIfInBounds_toArray,List.set_cons_succ,List.set_cons_zero]
   refine jC (i:=1) (d:=some 16) (v:=.slice p1 m t1) rfl rfl (by kernel_rfl) (by kernel_rfl) (by kernel_rfl) (by kernel_rfl) (by kernel_rfl) (by kernel_rfl) (fun _ _ _ h=>h) (Or.inl ⟨by rfl,?_⟩) hHeld ?_
   ·intro w hSw;obtain⟨JA,JB⟩:=hSw;go_simp
   try simp only[Act.put,List.setIfInBounds_toArray,List.set_cons_succ,List.set_cons_zero]
   refine bD (i:=3) (d:=some 18) (v:=.pointer (some ⟨wr.heap.size,3,none⟩)) rfl rfl (by kernel_rfl) (by kernel_rfl) (by kernel_rfl) (by kernel_rfl) (fun _ _ _ h=>h) (Or.inl ⟨by rfl,?_⟩) (fun _=>hHeld) ?_
   ·intro w _;go_simp
   try simp only[Act.put,List.setIfInBounds_toArray,List.set_cons_succ,List.set_cons_zero]
   refine jC (i:=4) (d:=some 19) (v:=.slice p2 m t2) rfl rfl (by kernel_rfl) (by kernel_rfl) (by kernel_rfl) (by kernel_rfl) (by kernel_rfl) (by kernel_rfl) (fun _ _ _ h=>h) (Or.inl ⟨by rfl,?_⟩) hHeld ?_
   ·intro w hSw;obtain⟨JA,JB⟩:=hSw;go_simp
   try simp only[Act.put,List.setIfInBounds_toArray,List.set_cons_succ,List.set_cons_zero]
   refine aX (rs:=[2]) (by kernel_rfl) (by simp) ?_;refine aA.cons rfl (fun K hK=>?_) aA.nil;go_simp
   refine Calls.mono (wZ.out _ HB0.out) ?_;rintro e w2 ⟨a1,c1,rfl,hb2,ho2⟩;dsimp only
   refine hK.out _ _ (qN.out _ hb2) ?_;clear hK K;try simp only[Act.put,List.setIfInBounds_toArray,List.set_cons_succ,List.set_cons_zero]
   refine bD (i:=6) (d:=some 21) (v:=.pointer (some ⟨wr.heap.size,2,none⟩)) rfl rfl (by kernel_rfl) (by kernel_rfl) (by kernel_rfl) (by kernel_rfl) (fun _ _ _ h=>h) (Or.inl ⟨by rfl,?_⟩) (fun _=>qN.out _ hb2) ?_
   ·intro w _;go_simp
   try simp only[Act.put,List.setIfInBounds_toArray,List.set_cons_succ,List.set_cons_zero]
   refine aX (rs:=[5]) (by kernel_rfl) (by simp) ?_;refine aA.cons rfl (fun K hK=>?_) aA.nil;go_simp
   refine Calls.mono (Gv.out _ _ _ hb2 ho2) ?_;rintro e w3 ⟨a2,c2,rfl,hb3,ho3,kK⟩;dsimp only
   refine hK.out _ _ (qN.out _ hb3) ?_;clear hK K;try simp only[Act.put,List.setIfInBounds_toArray,List.set_cons_succ,List.set_cons_zero]
   have hx3:=(hb3.block _ (aI zx.out.1)).trans zx.out.1;have j2:=ak hx3 2;simp at j2;have jf:∀ q,w3.frozen? ⟨wr.heap.size,q,none⟩=false:=fun q=>av hx3 q
   have hx4:(w3.setCell ⟨wr.heap.size,2,none⟩ (.slice a1 m c1)).heap[wr.heap.size]? = some (.cells #[.int .i64 f,.int .i64 s,.slice a1 m c1,.slice p2 m t2] 90 (0,0)):=(dP hx3 2 _).trans rfl;have j3:=ak hx4 3;simp at j3;have jg:World.frozen? (w3.setCell ⟨wr.heap.size,2,none⟩ (.slice a1 m c1)) ⟨wr.heap.size,3,none⟩=false:=av hx4 3;have hx5:((w3.setCell ⟨wr.heap.size,2,none⟩ (.slice a1 m c1)).setCell ⟨wr.heap.size,3,none⟩ (.slice a2 m c2)).heap[wr.heap.size]? = some (.cells #[.int .i64 f,.int .i64 s,.slice a1 m c1,.slice a2 m c2] 90 (0,0)):=(dP hx4 3 _).trans rfl;refine aX (rs:=[7]) (by kernel_rfl) (by simp) ?_;refine aA.last rfl (by kernel_rfl) (fun K hK=>?_) aA.nil;go_simp
   refine hK.out _ _ ?_;clear hK K;try simp only[Act.put,List.setIfInBounds_toArray,List.set_cons_succ,List.set_cons_zero]
   refine aX (rs:=[8]) (by kernel_rfl) (by simp) ?_;refine aA.last rfl (by kernel_rfl) (fun K hK=>?_) aA.nil;go_simp
   refine hK.out _ _ ?_;clear hK K;try simp only[Act.put,List.setIfInBounds_toArray,List.set_cons_succ,List.set_cons_zero]
   refine aX (rs:=[9]) (by kernel_rfl) (by simp) ?_;refine aA.last rfl (by kernel_rfl) (fun K hK=>?_) aA.nil;go_simp
   refine hK.out _ _ ?_;clear hK K;try simp only[Act.put,List.setIfInBounds_toArray,List.set_cons_succ,List.set_cons_zero]
   refine jl (by kernel_rfl) ?_ _;obtain⟨Z,hZ⟩:∃ Z,Z=(w3.setCell ⟨wr.heap.size,2,none⟩ (.slice a1 m c1)).setCell ⟨wr.heap.size,3,none⟩ (.slice a2 m c2):=⟨_,rfl⟩;rw[<-hZ] at hx5 ⊢;have z0:=ak hx5 0;have z1:=ak hx5 1;have z2:=ak hx5 2;have z3:=ak hx5 3;simp at z0 z1 z2 z3;have Pf:wr.heap.size<W.heap.size:=aI zx.out.1;have hoth:∀ x,x≠wr.heap.size->Z.heap[x]? = w3.heap[x]?:=fun x hx=>by
    rw[hZ,Below.heap_setCell _ _ _ _ (by show x≠wr.heap.size;exact hx),Below.heap_setCell _ _ _ _ (by show x≠wr.heap.size;exact hx)]
   have pV:Below wr.heap.size wr Z:=by
    have h1:Below wr.heap.size wr w3:=zx.out.2.1.trans (hb3.mono zx.out.2.1.size);rw[hZ];exact (h1.setCell (p:=⟨wr.heap.size,2,none⟩) (Nat.le_refl _) _).setCell (p:=⟨wr.heap.size,3,none⟩) (Nat.le_refl _) _
   have adz:Z.ownsRow wa.heap.size 9 1 (.slice a1 m c1) m (N1.map encStr):=jr (bL ho3 fun g hg=>hoth g (by have:=(aJ ho3 hg).1;omega)) zx.out.2.2.size;have adA:Z.ownsRow wa.heap.size 9 1 (.slice a2 m c2) m (N2.map encStr):=jr (bL kK fun g hg=>hoth g (by have:=(aJ kK hg).1;omega)) zx.out.2.2.size;obtain⟨us,Ze,_,huo,hur⟩:=(Uf.out.same fun x hx=>pV.block x (Uf.out.mem hx).2).ex;have hlt:(Bs.take k).length=k:=by rw[List.length_take];have:=HFS.out.2.2.2;omega
   rw[hlt] at huo;have Ib:=(show Hid _ from And.intro Ze (And.intro hur (And.intro adz adA)));have Bo:Hid (Below wa.heap.size wa Z):=bq.out.trans (pV.mono bq.out.size);have zk:Hid ((Z.alloc (.cells #[.int .i64 f,.int .i64 s,.slice a1 m c1,.slice a2 m c2] 90)).ownsRow wa.heap.size 90 4 u3 k (dx (Bs.take k) us)):=huo.alloc _;have kW:Hid (∀ i z,([.int .i64 f,.int .i64 s,.slice a1 m c1,.slice a2 m c2]:List Value)[i]? = some z->(Z.alloc (.cells #[.int .i64 f,.int .i64 s,.slice a1 m c1,.slice a2 m c2] 90)).cell? ((⟨Z.heap.size,0,none⟩:Addr).add i)=some z):=World.news_of_block (heap_alloc_new Z _);have rE:Hid (∀ z∈([.int .i64 f,.int .i64 s,.slice a1 m c1,.slice a2 m c2]:List Value),z.oneCell'=true):=by
    intro z hz;simp at hz;rcases hz with rfl | rfl | rfl | rfl<;>rfl
   have hZl:wa.heap.size<=Z.heap.size:=Bo.out.size;clear hb2 ho2 hb3 ho3 kK hx3 j2 jf hx4 j3 jg hx5 hZ hoth pV adz adA Ze huo hur hlt Pf wZ Gv qN hHeld HB0;go_wp2_with (at_builtin;refine wpList_append_lies _ rfl _ _ 55 rfl wa.heap.size 90 iB (.agg #[.int .i64 0,.int .i64 0,.slice none 0 0,.slice none 0 0]) 4 64 Tryz.underlying55 HIB.out hB0 hB1 hB2 rfl (by decide) _ _ _ rfl zk.out ⟨Z.heap.size,0,none⟩ 1 1 [.int .i64 f,.int .i64 s,.slice a1 m c1,.slice a2 m c2] rfl rfl kW.out rE.out (by omega) (by unfold maxLen;omega) (by omega) (by simp;omega) _ rfl ?_);intro g7 gD w7 dD fE oZ _;have aU:Hid (∃ Dc,jK w7 wa.heap.size (.slice (some ⟨g7,0,none⟩) (k+1) gD) (Bs.take (k+1)) Dc/\Below wa.heap.size wa w7):=by
    obtain⟨e1,e2,e3,e4⟩:=HFS.out;obtain⟨Ze,hur,h3,h4⟩:=Ib.out;have et:Bs.take (k+1)=Bs.take k ++ [Bs[k]]:=List.take_succ_eq_append_getElem e4;have hlt:(Bs.take k).length=k:=by rw[List.length_take];omega
    have tY:Below Z.heap.size Z (Z.alloc (.cells #[.int .i64 f,.int .i64 s,.slice a1 m c1,.slice a2 m c2] 90)):=(Below.refl _ _).alloc (Nat.le_refl _) _;obtain⟨n1,n2⟩:=rJ.out;have h3':Z.ownsRow wa.heap.size 9 1 (.slice a1 m c1) Bs[k].2.2.length ((Bs[k].2.2.map Prod.fst).map encStr):=by rw[<-n1,<-e3];exact h3
    have h4':Z.ownsRow wa.heap.size 9 1 (.slice a2 m c2) Bs[k].2.2.length ((Bs[k].2.2.map fun r=>iJ r.2).map encStr):=by rw[<-n2,<-e3];exact h4
    have tK:w7.ownsRow wa.heap.size 90 4 (.slice (some ⟨g7,0,none⟩) ((Bs.take k).length+1) gD) ((Bs.take k).length+1) (dx (Bs.take k) us ++ [.int .i64 Bs[k].1,.int .i64 Bs[k].2.1,.slice a1 m c1,.slice a2 m c2]):=by
     rw[hlt,<-e1,<-e2];exact dD
    have hs:=jK.snoc (wr:=Z.alloc (.cells #[.int .i64 f,.int .i64 s,.slice a1 m c1,.slice a2 m c2] 90)) (w7:=w7) Ze (fun i hi hv=>⟨bT (hur i hi hv).1 tY,bT (hur i hi hv).2 tY⟩) Bs[k] (.slice a1 m c1) (.slice a2 m c2) (bT h3' tY) (bT h4' tY) tK (fun x cs hx=>fE.block x (Array.getElem?_eq_some_iff.1 hx).1 fun e=>by
     obtain⟨_,_,cur,hc⟩:=aJ zk.out e.symm;rw[hc] at hx;injection hx with hx;injection hx with _ hx;revert hx;decide)
    rw[<-et,hlt] at hs;refine⟨_,hs,(Bo.out.trans (tY.mono Bo.out.size)).trans ⟨fE.os,fE.tape,fE.output,fE.size,fun b hb=>fE.block b (by simp;omega) fun e=>?_⟩⟩;have:=(aJ zk.out e.symm).1;omega
   obtain⟨Dc,q1,q2⟩:=aU.out;have HQ:=(show Hid _ from And.intro q1 q2);clear dD fE oZ q1 q2 aU z0 z1 z2 z3;go_wp2;go_roundw;case rel=>exact⟨k+1,Dc,by omega,by go_num,HQ.out.1,HQ.out.2⟩
   case measure=>simp[intOf]<;>omega
  ·obtain rfl:k=n:=by omega
   have gU:Bs.take k=Bs:=by rw[JL.out.1];exact List.take_length
   rw[gU] at hbk;have aU:=(show Hid _ from And.intro hbk hbr);clear hbk hbr gU Uf bq;go_wp2;go_ret;exact⟨_,H',rfl,aU.out.1,aU.out.2⟩
end Go.Proofs.YtalliohkalnaeaaGreatDoor
