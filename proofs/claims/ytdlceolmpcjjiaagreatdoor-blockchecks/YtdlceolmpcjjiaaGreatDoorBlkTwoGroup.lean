import Derived.Test.YtdlceolmpcjjiaaGreatDoorBlkRows
import Derived.Deep.RegionLaw
import Derived.Deep.AppendLies
import Derived.Test.YtdlceolmpcjjiaaGreatDoorRowsDef
import Derived.Deep.RegionHeld
namespace Go.Proofs.YtdlceolmpcjjiaaGreatDoor
section
variable {P:Program} {ops:Array Oper} {Q:Exit->Act->World->Prop} {md:Region.Mode} {S:World->Prop} {st:Nat}
abbrev WI (S:World->Prop) (st i:Nat) (up:Array Bool) (w:World):Prop:=i≠st->up.getD st true=false->S w
def wpAnyS (P:Program) (md:Region.Mode) (ops:Array Oper) (Q:Exit->Act->World->Prop) (S:World->Prop) (st:Nat):Nat->Array Bool->Act->World->Prop
 | 0,up,a,w=>Region.ready md ops up = []/\Q .normal a w
 | n+1,up,a,w=>(Region.ready md ops up = []->Q .normal a w)/\∀ i∈Region.ready md ops up,wpOp P ops Q i (fun b z=>WI S st i up z/\wpAnyS P md ops Q S st n (up.setIfInBounds i true) b z) a w
theorem RL (n:Nat):∀ (up:Array Bool) (a:Act) (w:World),wpAnyS P md ops Q S st n up a w->wpAny P md ops Q n up a w:=by
 induction n with
 | zero=>exact fun _ _ _ h=>h
 | succ n ih=>exact fun up _ _ h=>And.imp_right (fun g i hi=>wpOp_mono (fun b z k=>ih _ b z k.2) (g i hi)) h
theorem ZA {up:Array Bool} {i:Nat}:(up.setIfInBounds i true).getD i true=true:=by
 rcases Nat.lt_or_ge i up.size with h | h<;>simp[h]
theorem abQ {up:Array Bool} {i:Nat} (h:up.getD i true=false):up.getD i false=false:=by
 rcases Nat.lt_or_ge i up.size with g | g
 ·simpa [g] using h
 ·simp[g]
def waitsFor (md:Region.Mode) (ops:Array Oper) (st i:Nat):Bool:=match ops[st]? with
 | some o=>o.after.toList.any fun e=>Region.binds md e&&e.on==i
 | none=>false
theorem J5 {i j:Nat} {up:Array Bool} {o:Oper} (ho:ops[j]? = some o) (hw:∃ e∈o.after,Region.binds md e=true/\e.on=i) (hi:up.getD i true=false):j∉Region.ready md ops up:=fun hr=>by
 obtain⟨_,o',ho',hall⟩:=mem_ready.1 hr;obtain rfl:o'=o:=Option.some.inj (ho'.symm.trans ho);obtain⟨e,he,hb,rfl⟩:=hw;have:=hall e he hb;rw[abQ hi] at this;cases this
theorem Um {i:Nat} {up:Array Bool} (hw:waitsFor md ops st i=true) (hi:up.getD i true=false):st∉Region.ready md ops up:=by
 unfold waitsFor at hw;split at hw
 ·rename_i o ho;obtain⟨e,he,hb⟩:=List.any_eq_true.1 hw;simp only[Bool.and_eq_true,beq_iff_eq] at hb;exact J5 ho ⟨e,by simpa using he,hb.1,hb.2⟩ hi
 ·cases hw
theorem DL {i:Nat} {oi:Oper} {v:Value} (wt:Bool) (hi:ops[i]? = some oi) (hs:Region.noSelect ops=true) (hne:st≠i) (hQ:∀ c a w,Q (.panic c) (a.put oi.dst v) w->Q (.panic c) a w)
  (hw:wt=true->waitsFor md ops st i=true) (n:Nat):∀ (up:Array Bool) (a:Act) (w:World),
   (∀ j oj,ops[j]? = some oj->j≠i->up.getD j true=false->(∀ e∈oj.after,Region.binds md e=true->e.on≠i)->oi.apart ops oj=true) ->
   i∈Region.ready md ops up->YieldsIf P ops (fun z=>wt=true->S z) oi v a->(wt=true->up.getD st true=false)->(up.getD st true=false->S w) ->
   wpAnyS P md ops Q S st n (up.setIfInBounds i true) (a.put oi.dst v) w->wpAnyS P md ops Q S st (n+1) up a w:=by
 induction n with
 | zero=>
  refine fun up a w _ hr hy h1 h2 rest=>⟨fun e=>absurd hr (by rw[e];exact List.not_mem_nil),fun j hj=>?_⟩
  rcases Decidable.em (j=i) with rfl | hji
  ·exact hy.wpOp hi (fun h=>h2 (h1 h)) ⟨fun _=>h2,rest⟩
  ·exact absurd (ready_mono hj hji) (by rw[rest.1];exact List.not_mem_nil)
 | succ n ih=>
  refine fun up a w hap hr hy h1 h2 rest=>⟨fun e=>absurd hr (by rw[e];exact List.not_mem_nil),fun j hj=>?_⟩
  rcases Decidable.em (j=i) with rfl | hji
  ·exact hy.wpOp hi (fun h=>h2 (h1 h)) ⟨fun _=>h2,rest⟩
  have hiu:=(mem_ready.1 hr).1;obtain⟨Z9,oj,hoj,_⟩:=mem_ready.1 hj;have hnw:∀ e∈oj.after,Region.binds md e=true->e.on≠i:=fun e he hb hon=>J5 hoj ⟨e,he,hb,hon⟩ hiu hj
  have hus:(up.setIfInBounds i true).getD st true=up.getD st true:=getD_set_ne true (Ne.symm hne);have key:=wpOp_putIf hoj (hap j oj hoj hji Z9 hnw) (fun cs b=>Region.noSelect_spec hs i oi cs b hi) (fun cs b=>Region.noSelect_spec hs j oj cs b hoj) hQ hy (rest.2 j (ready_mono hj hji));refine wpOp_mono (fun b z k=>?_) key;obtain⟨hyz,Nh,hgo⟩:=k;have hz:(up.setIfInBounds j true).getD st true=false->S z:=fun hst=>by
   rcases Decidable.em (j=st) with rfl | hjs
   ·rw[ZA] at hst;cases hst
   ·exact Nh hjs (by rw[hus,<-getD_set_ne true hjs];exact hst)
  refine⟨fun hjs hst=>Nh hjs (by rw[hus];exact hst),ih _ b z (fun q oq hq hqi hqu XV=>hap q oq hq hqi ?_ XV) (ready_mono hr (Ne.symm hji)) hyz (fun h=>?_) hz ?_⟩
  ·rcases Decidable.em (j=q) with rfl | hjq
   ·exact Z9
   ·rwa [getD_set_ne true hjq] at hqu
  ·have hjs:j≠st:=fun e=>Um (hw h) hiu (by rw[<-e];exact hj)
   rw[getD_set_ne true hjs];exact h1 h
  ·rw[Array.setIfInBounds_comm _ _ hji];exact hgo
theorem gW {i:Nat} {oi:Oper} {v:Value} {n:Nat} {up:Array Bool} {a:Act} {w:World} (hi:ops[i]? = some oi) (hs:Region.noSelect ops=true) (hf:Region.free md ops up i=true) (hr:(Region.ready md ops up).contains i=true) (hw:waitsFor md ops st i=true) (hne:(st==i)=false) (hst:up.getD st true=false)
  (hQ:∀ c a w,Q (.panic c) (a.put oi.dst v) w->Q (.panic c) a w) (hy:YieldsIf P ops S oi v a) (hS:S w) (h:wpAnyS P md ops Q S st n (up.setIfInBounds i true) (a.put oi.dst v) w):wpAnyS P md ops Q S st (n+1) up a w:=
 DL true hi hs (by simpa using hne) hQ (fun _=>hw) n up a w (Region.free_spec hi hf) (by simpa using hr) (hy.imp (fun g=>⟨g.1,fun z hz=>g.2 z (hz rfl)⟩) id) (fun _=>hst) (fun _=>hS) h
theorem bW {i:Nat} {oi:Oper} {v:Value} {n:Nat} {up:Array Bool} {a:Act} {w:World} (hi:ops[i]? = some oi) (hs:Region.noSelect ops=true) (hf:Region.free md ops up i=true) (hr:(Region.ready md ops up).contains i=true) (hne:(st==i)=false)
  (hQ:∀ c a w,Q (.panic c) (a.put oi.dst v) w->Q (.panic c) a w) (hy:YieldsIf P ops (fun _=>True) oi v a) (hS:up.getD st true=false->S w) (h:wpAnyS P md ops Q S st n (up.setIfInBounds i true) (a.put oi.dst v) w):wpAnyS P md ops Q S st (n+1) up a w:=
 DL false hi hs (by simpa using hne) hQ (fun e=>by cases e) n up a w (Region.free_spec hi hf) (by simpa using hr) (hy.imp (fun g=>⟨g.1,fun z _=>g.2 z trivial⟩) id) (fun e=>by cases e) hS h
def aC (P:Program) (md:Region.Mode) (ops:Array Oper) (Q:Exit->Act->World->Prop) (S:World->Prop) (st n:Nat) (up:Array Bool) (a:Act) (w:World) (rs:List Nat):Prop:=
 ∀ i∈rs,wpOp P ops Q i (fun b z=>WI S st i up z/\wpAnyS P md ops Q S st n (up.setIfInBounds i true) b z) a w
theorem aC.nil {n:Nat} {up:Array Bool} {a:Act} {w:World}:aC P md ops Q S st n up a w []:=fun _ h=>absurd h List.not_mem_nil
theorem aC.step {n:Nat} {up:Array Bool} {a:Act} {w:World} {i:Nat} {o:Oper} {rs:List Nat} (ho:ops[i]? = some o)
  (h:∀ K:Act->World->Prop,Shut (∀ b z,WI S st i up z->wpAnyS P md ops Q S st n (up.setIfInBounds i true) b z->K b z)->if Region.wanted o (yielded ops a.tmps)=true then Oper.wp P o a w K Q else K (a.put o.dst undef) w)
  (hs:aC P md ops Q S st n up a w rs):aC P md ops Q S st n up a w (i::rs):=fun j hj=>(List.mem_cons.1 hj).elim (fun e=>by
   rw[e];exact wpOp_step ho fun K hK=>h K fun b z h1 h2=>hK b z ⟨h1,h2⟩) (hs j)
theorem aC.cons {n:Nat} {up:Array Bool} {a:Act} {w:World} {i:Nat} {o:Oper} {rs:List Nat} (ho:ops[i]? = some o)
  (h:∀ K:Act->World->Prop,Shut (∀ b z,S z->wpAnyS P md ops Q S st n (up.setIfInBounds i true) b z->K b z)->if Region.wanted o (yielded ops a.tmps)=true then Oper.wp P o a w K Q else K (a.put o.dst undef) w)
  (hs:aC P md ops Q S st n up a w rs):aC P md ops Q S st n up a w (i::rs):=.step ho (fun K hK=>h K fun b z h1 h2=>hK.out b z (fun _ _=>h1) h2) hs
theorem aC.last {n:Nat} {up:Array Bool} {a:Act} {w:World} {i:Nat} {o:Oper} {rs:List Nat} (ho:ops[i]? = some o) (hst:(i==st||up.getD st true)=true)
  (h:∀ K:Act->World->Prop,Shut (∀ b z,wpAnyS P md ops Q S st n (up.setIfInBounds i true) b z->K b z)->if Region.wanted o (yielded ops a.tmps)=true then Oper.wp P o a w K Q else K (a.put o.dst undef) w)
  (hs:aC P md ops Q S st n up a w rs):aC P md ops Q S st n up a w (i::rs):=.step ho (fun K hK=>h K fun b z h2=>hK.out b z (fun h3 h4=>by
   rw[h4] at hst;exact absurd (by simpa using hst) h3) h2) hs
theorem fQ {up:Array Bool} {a:Act} {w:World} (hr:Region.ready md ops up = []) (h:Q .normal a w) (n:Nat):wpAnyS P md ops Q S st n up a w:=by
 cases n with
 | zero=>exact⟨hr,h⟩
 | succ n=>exact⟨fun _=>h,fun i hi=>absurd hi (by rw[hr];exact List.not_mem_nil)⟩
theorem aI {rs:List Nat} {n:Nat} {up:Array Bool} {a:Act} {w:World} (hr:Region.ready md ops up=rs) (hne:rs ≠ []) (h:aC P md ops Q S st n up a w rs):wpAnyS P md ops Q S st (n+1) up a w:=
 ⟨fun e=>absurd (hr.symm.trans e) hne,fun i hi=>h i (hr ▸ hi)⟩
theorem mM {id:Nat} {a:Act} {w:World} (hm:P.follows .mixedOrders=true) (st:Nat) (hS:S w.drew) (h:S w.drew->wpAnyS P .any ops Q S st ops.size (Array.replicate ops.size false) a w.drew):(Code.region id ops true).wp P Q a w:=wp_region_any hm (RL _ _ _ _ (h hS))
end
end Go.Proofs.YtdlceolmpcjjiaaGreatDoor
set_option maxRecDepth 1000000
set_option maxHeartbeats 8000000
namespace Go.Proofs.YtdlceolmpcjjiaaGreatDoor
open Go.RowKit Go.Maps bT
structure pI (Y z:World) (v:Value) (g:Nat):Prop where
 os:z.os=Y.os
 tape:z.tape=Y.tape
 output:z.output=Y.output
 size:Y.heap.size<=z.heap.size
 blk:∀ q,q<Y.heap.size->v.ownBlock≠some q->z.heap[q]? = Y.heap[q]?
 at':v.ownBlock=some g\/g=Y.heap.size
theorem pI.below {Y z:World} {v:Value} {g b:Nat} (h:pI Y z v g) (hb:b<=Y.heap.size) (hv:∀ q,v.ownBlock=some q->b<=q):Below b Y z:=
 ⟨h.os,h.tape,h.output,h.size,fun q hq=>h.blk q (by omega) (fun e=>by have:=hv q e;omega)⟩
theorem WJ {w:World} {b:Nat} {v:Value} {t:TypeId} {fr:Nat×Nat} (h:w.heap[b]? = some (.cells #[v] t fr)):∀ j u,[v][j]? = some u->w.cell? ((⟨b,0,none⟩:Addr).add j)=some u:=World.news_of_block h
theorem Ie (w:World) (o p:Obj):((w.alloc o).alloc p).heap[w.heap.size]? = some o:=by rw[Below.heap_alloc _ _ _ (by simp)];exact heap_alloc_new _ _
theorem Ig (w:World) (o p:Obj):((w.alloc o).alloc p).heap[w.heap.size+1]? = some p:=by have:=heap_alloc_new (w.alloc o) p;simpa using this
theorem Un {P:Program} {Y:World} {ops:Array Oper} {o:Oper} {a:Act} {K:Act->World->Prop} {Q:Exit->Act->World->Prop} {E:Prop} (hgd:o.guard=none) (s x:Operand) (t:TypeId)
  (ho:o.op = .call { callee:=.builtin .append,args:=#[s,x],argTypes:=#[t,t] }) (base:Nat) (e:TypeId) (i:TypeInfo) (z:Value) (bytes:Nat) (ht:P.underlying t=some (.slice e)) (hi:P.info? e=some i) (hz:i.zero=some z) (hsize:i.size=1) (hby:i.bytes=bytes) (hzs:z.cells.size=1)
  (v:Value) (n:Nat) (xs:List Value) (hs:a.eval s=v) (hown:Y.ownsRow base e 1 v n xs) (b:Nat) (u:Value) (t':TypeId) (fr:Nat×Nat) (hx:a.eval x = .slice (some ⟨b,0,none⟩) 1 1) (hnew:Y.heap[b]? = some (.cells #[u] t' fr)) (h1:u.oneCell'=true) (hn:n<=1000000) (hb:bytes<=100) (hbase:base<=Y.heap.size)
  (h:∀ g cap w',w'.ownsRow base e 1 (.slice (some ⟨g,0,none⟩) (n+1) cap) (n+1) (xs ++ [u])->pI Y w' v g->K (a.put o.dst (.slice (some ⟨g,0,none⟩) (n+1) cap)) w') :
  if Region.wanted o (yielded ops a.tmps)=true then Oper.wp P o a Y K Q else E:=by
 refine step_append_lies _ hgd s x t ho base e i z 1 bytes ht hi hz hsize hby hzs (by decide) v n xs hs hown ⟨b,0,none⟩ 1 1 [u] hx rfl (WJ hnew) (fun c hc=>by simp at hc;subst hc;exact h1) (by omega) (by unfold maxLen;omega) ?_ hbase _ rfl ?_
 ·have:(n+1)*bytes<=1000001*100:=Nat.mul_le_mul (by omega) hb;omega
 ·intro g cap w' ho' hg hat _;exact h g cap w' ho' ⟨hg.os,hg.tape,hg.output,hg.size,fun q hq hne=>hg.block q hq (fun e=>hne e.symm),hat⟩
theorem aU {w z:World} (h:Below w.heap.size w z) (o:Obj):Below w.heap.size w (z.alloc o):=h.alloc h.size o
theorem dW {w z:World} (h:Below w.heap.size w z):Below w.heap.size w z.drew:=h.trans ⟨rfl,rfl,rfl,Nat.le_refl _,fun _ _=>rfl⟩
theorem bN {w z:World} {base:Nat} {e:TypeId} {sz:Nat} {v:Value} {n:Nat} {xs:List Value} (h:w.ownsRow base e sz v n xs) (hb:Below w.heap.size w z):z.ownsRow base e sz v n xs:=dB h fun g hg=>hb.block g (bE h hg).2.1
theorem mF {P:Program} {Y:World} {ops:Array Oper} {o:Oper} {a:Act} {K:Act->World->Prop} {Q:Exit->Act->World->Prop} {E:Prop} (w2:World) (hgd:o.guard=none) (s x:Operand) (t:TypeId)
  (ho:o.op = .call { callee:=.builtin .append,args:=#[s,x],argTypes:=#[t,t] }) (base:Nat) (e:TypeId) (i:TypeInfo) (z:Value) (bytes:Nat) (ht:P.underlying t=some (.slice e)) (hi:P.info? e=some i) (hz:i.zero=some z) (hsize:i.size=1) (hby:i.bytes=bytes) (hzs:z.cells.size=1)
  (v:Value) (n:Nat) (xs:List Value) (hs:a.eval s=v) (hown:w2.ownsRow base e 1 v n xs) (hY:Below w2.heap.size w2 Y) (b:Nat) (u:Value) (t':TypeId) (fr:Nat×Nat) (hx:a.eval x = .slice (some ⟨b,0,none⟩) 1 1) (hnew:Y.heap[b]? = some (.cells #[u] t' fr)) (h1:u.oneCell'=true) (hn:n<=1000000) (hb:bytes<=100) (hbase:base<=w2.heap.size)
  (h:∀ g cap w',w'.ownsRow base e 1 (.slice (some ⟨g,0,none⟩) (n+1) cap) (n+1) (xs ++ [u])->pI Y w' v g->Below w2.heap.size w2 Y->K (a.put o.dst (.slice (some ⟨g,0,none⟩) (n+1) cap)) w') :
  if Region.wanted o (yielded ops a.tmps)=true then Oper.wp P o a Y K Q else E:=
 Un hgd s x t ho base e i z bytes ht hi hz hsize hby hzs v n xs hs (bN hown hY) b u t' fr hx hnew h1 hn hb (Nat.le_trans hbase hY.size) fun g cap w' h1 h2=>h g cap w' h1 h2 hY
theorem Tryz.infoStr3:(Tryz.prog.info? 9).map (fun i=>(i.zero,i.size,i.bytes))=some (some (.string ⟨#[]⟩),1,16):=by kernel_rfl
structure tL (wr:World) (base tb:Nat) (f s:Int) (u1 u2:Value) (ss cs:List (List UInt8)):Prop where
 blk:wr.heap[tb]? = some (.cells #[.int .i64 f,.int .i64 s,u1,u2] 25 (0,0))
 low:tb<base
 lZ:wr.ownsRow base 9 1 u1 ss.length (ss.map encStr)
 mO:wr.ownsRow base 9 1 u2 cs.length (cs.map encStr)
 apart:∀ g,u1.ownBlock=some g->u2.ownBlock≠some g
theorem tL.below {wr z:World} {base tb:Nat} {f s:Int} {u1 u2:Value} {ss cs:List (List UInt8)} (h:tL wr base tb f s u1 u2 ss cs) (hb:Below wr.heap.size wr z):tL z base tb f s u1 u2 ss cs:=
 ⟨(hb.block _ (aH h.blk)).trans h.blk,h.low,dB h.lZ fun g hg=>hb.block g (bE h.lZ hg).2.1,dB h.mO fun g hg=>hb.block g (bE h.mO hg).2.1,h.apart⟩
theorem tL.more {w2 Y1 w7 Y2 w8:World} {base tb:Nat} {f s:Int} {u1 u2:Value} {ss cs:List (List UInt8)} (h:tL w2 base tb f s u1 u2 ss cs) {x y:List UInt8} {g7 iW g8 kI:Nat} (hbase:base<=w2.heap.size) (h1:Below w2.heap.size w2 Y1) (o7:w7.ownsRow base 9 1 (.slice (some ⟨g7,0,none⟩) (ss.length+1) iW) (ss.length+1) (ss.map encStr ++ [.string ⟨x.toArray⟩])) (G7:pI Y1 w7 u1 g7) (h2:Below w7.heap.size w7 Y2)
  (o8:w8.ownsRow base 9 1 (.slice (some ⟨g8,0,none⟩) (cs.length+1) kI) (cs.length+1) (cs.map encStr ++ [.string ⟨y.toArray⟩])) (G8:pI Y2 w8 u2 g8) :
  tL ((w8.setCell ⟨tb,2,none⟩ (.slice (some ⟨g7,0,none⟩) (ss.length+1) iW)).setCell ⟨tb,3,none⟩ (.slice (some ⟨g8,0,none⟩) (cs.length+1) kI)) base tb f s (.slice (some ⟨g7,0,none⟩) (ss.length+1) iW) (.slice (some ⟨g8,0,none⟩) (cs.length+1) kI) (ss ++ [x]) (cs ++ [y])/\w8.heap[tb]? = some (.cells #[.int .i64 f,.int .i64 s,u1,u2] 25 (0,0))/\Below base w2 w8:=by
 have hlow:=h.low;have l1:∀ q,u1.ownBlock=some q->base<=q/\q<w2.heap.size:=fun q hq=>⟨(bE h.lZ hq).1,(bE h.lZ hq).2.1⟩
 have l2:∀ q,u2.ownBlock=some q->base<=q/\q<w2.heap.size:=fun q hq=>⟨(bE h.mO hq).1,(bE h.mO hq).2.1⟩
 have s1:=h1.size;have s2:=h2.size;have s7:=G7.size;have b1:Below base w2 w7:=(h1.mono hbase).trans (G7.below (by omega) fun q hq=>(l1 q hq).1);have b2:Below base w2 w8:=(b1.trans (h2.mono (by omega))).trans (G8.below (by omega) fun q hq=>(l2 q hq).1);have ht:w8.heap[tb]? = some (.cells #[.int .i64 f,.int .i64 s,u1,u2] 25 (0,0)):=(b2.block tb hlow).trans h.blk;have hg7:g7<w7.heap.size:=(bE (g:=g7) o7 rfl).2.1;have abS:u2.ownBlock≠some g7:=by
  rcases G7.at' with e | e
  ·exact h.apart g7 e
  ·intro e2;have:=(l2 g7 e2).2;omega
 have o7':w8.ownsRow base 9 1 (.slice (some ⟨g7,0,none⟩) (ss.length+1) iW) (ss.length+1) (ss.map encStr ++ [.string ⟨x.toArray⟩]):=dB o7 fun g hg=>by
  simp[Value.ownBlock] at hg;subst hg;exact (G8.blk g7 (by omega) abS).trans (h2.block g7 hg7)
 have ajY:g7≠g8:=by
  rcases G8.at' with e | e
  ·intro e2;subst e2;exact abS e
  ·omega
 have hset:∀ {v:Value} {n:Nat} {xs:List Value} {z:World} (k:Nat) (u:Value),z.ownsRow base 9 1 v n xs->(z.setCell ⟨tb,k,none⟩ u).ownsRow base 9 1 v n xs:=fun k u ho=>dB ho fun g hg=>by
  have:=(bE ho hg).1;exact Below.heap_setCell _ _ _ _ (by show g≠tb;omega)
 refine⟨⟨?_,hlow,?_,?_,fun g e1 e2=>?_⟩,ht,b2⟩
 ·have e1:=dN ht 2 (.slice (some ⟨g7,0,none⟩) (ss.length+1) iW);have e2:=dN (e1.trans (by rfl)) 3 (.slice (some ⟨g8,0,none⟩) (cs.length+1) kI);exact e2.trans (by rfl)
 ·have:=hset 3 (.slice (some ⟨g8,0,none⟩) (cs.length+1) kI) (hset 2 (.slice (some ⟨g7,0,none⟩) (ss.length+1) iW) o7');simpa [encStr] using this
 ·have:=hset 3 (.slice (some ⟨g8,0,none⟩) (cs.length+1) kI) (hset 2 (.slice (some ⟨g7,0,none⟩) (ss.length+1) iW) o8);simpa [encStr] using this
 ·simp[Value.ownBlock] at e1 e2;omega
theorem tL.mid {w2 Y1 w7:World} {base tb:Nat} {f s:Int} {u1 u2:Value} {ss cs:List (List UInt8)} (h:tL w2 base tb f s u1 u2 ss cs) {g7:Nat} (hbase:base<=w2.heap.size) (h1:Below w2.heap.size w2 Y1) (G7:pI Y1 w7 u1 g7) :
  w7.heap[tb]? = some (.cells #[.int .i64 f,.int .i64 s,u1,u2] 25 (0,0))/\w7.ownsRow base 9 1 u2 cs.length (cs.map encStr)/\base<=w7.heap.size/\w2.heap.size<=w7.heap.size/\∀ q o,w2.heap.size<=q->Y1.heap[q]? = some o->w7.heap[q]? = some o:=by
 have hlow:=h.low;have s1:=h1.size;have s7:=G7.size;refine⟨?_,dB h.mO fun g hg=>?_,by omega,by omega,fun q o hq ho=>?_⟩
 ·rw[G7.blk tb (by omega) (fun e=>by have:=(bE h.lZ e).1;omega),h1.block tb (by omega)];exact h.blk
 ·have:=(bE h.mO hg).2.1;rw[G7.blk g (by omega) (fun e=>h.apart g e hg),h1.block g this]
 ·rw[G7.blk q (aH ho) (fun e=>by have:=(bE h.lZ e).2.1;omega)];exact ho
theorem tL.last {w2 Y1 w7 Y2 w8:World} {base tb:Nat} {f s:Int} {u1 u2:Value} {ss cs:List (List UInt8)} (h:tL w2 base tb f s u1 u2 ss cs) {g7 g8:Nat} (hbase:base<=w2.heap.size) (h1:Below w2.heap.size w2 Y1) (G7:pI Y1 w7 u1 g7) (h2:Below w7.heap.size w7 Y2) (G8:pI Y2 w8 u2 g8) :
  w8.heap[tb]? = some (.cells #[.int .i64 f,.int .i64 s,u1,u2] 25 (0,0)):=by
 have hm:=h.mid hbase h1 G7;have hlow:=h.low;have s2:=h2.size;have s7:=hm.2.2.1;rw[G8.blk tb (by omega) (fun e=>by have:=(bE h.mO e).1;omega),h2.block tb (by omega)];exact hm.1
theorem pI.other {Y z:World} {v:Value} {g:Nat} (G:pI Y z v g) {base n:Nat} {e:TypeId} {xs:List Value} (ho:Y.ownsRow base e 1 v n xs) {b:Nat} {cs:Array Value} {t:TypeId} {fr:Nat×Nat} (hb:Y.heap[b]? = some (.cells cs t fr)) (hne:e≠t):z.heap[b]? = some (.cells cs t fr):=by
 rw[G.blk b (aH hb) (fun e1=>by obtain⟨_,_,cur,hc⟩:=bE ho e1;exact rU hc hb hne rfl)];exact hb
theorem tL.other {w2 Y1 w7:World} {base tb:Nat} {f s:Int} {u1 u2:Value} {ss cs:List (List UInt8)} (h:tL w2 base tb f s u1 u2 ss cs) {g7:Nat} (h1:Below w2.heap.size w2 Y1) (G7:pI Y1 w7 u1 g7) {b:Nat} {c:Array Value} {t:TypeId} {fr:Nat×Nat} (hb:w2.heap[b]? = some (.cells c t fr)) (hne:9≠t):w7.heap[b]? = some (.cells c t fr):=
 G7.other (bN h.lZ h1) ((h1.block b (aH hb)).trans hb) hne
end Go.Proofs.YtdlceolmpcjjiaaGreatDoor
namespace Go.Proofs.YtdlceolmpcjjiaaGreatDoor
open Go.RowKit Go.Maps bT
theorem BJ {w:World} {base base':Nat} {v:Value} {xs:List Value} {rows:List (List UInt8×List (Int×Nat))} (h:w.ownsRow base 61 2 v rows.length xs) (hr:iy w base' xs rows):∃ a c,v = .slice a rows.length c/\pG w a rows:=by
 obtain⟨_,h2⟩:=h;rcases h2 with⟨hv,h0⟩|⟨g,cap,cur,hv,hg,hh,h1,h2,h3,h4⟩
 ·exact⟨none,0,by rw[hv,h0],.inl (List.eq_nil_of_length_eq_zero h0)⟩
 ·refine⟨_,_,hv,.inr ⟨g,0,rfl,fun k hk=>?_⟩⟩;have hc:∀ j,j<rows.length*2->w.cell? ⟨g,j,none⟩=xs[j]?:=by
   intro j hj;have e0:w.cell? ⟨g,j,none⟩=cur[j]?:=by simp[World.cell?,hh]
   rw[e0,<-Array.getElem?_toList,<-h4,List.getElem?_take_of_lt hj]
  obtain⟨p0,s,p1,ho⟩:=hr.at k hk;obtain⟨a,c,rfl,_,hp,_⟩:=r9 ho;refine⟨?_,a,c,?_,hp⟩
  ·rw[Nat.zero_add,hc _ (by omega)];exact p0
  ·rw[Nat.zero_add,hc _ (by omega)];exact p1
def PN (ea:Nat->Addr) (w w':World) (f s:Int) (rows:List (List UInt8×List (Int×Nat))) (e:Ending):Prop:=
 ∃ v,Below w.heap.size w w'/\bB ea w' v (jN f s rows) (sG f s rows) /\
  ((jN f s rows=0/\∃ u1 u2,e = .returned (.tuple #[.agg #[.int .i64 f,.int .i64 s,u1,u2],v])/\w'.ownsRow w.heap.size 9 1 u1 (full rows).length (((full rows).map Prod.fst).map encStr)/\w'.ownsRow w.heap.size 9 1 u2 (full rows).length (((full rows).map fun r=>iL r.2).map encStr)) \/
   (jN f s rows≠0/\e = .returned (.tuple #[.agg #[.int .i64 0,.int .i64 0,.slice none 0 0,.slice none 0 0],v])))
structure Al (w wr:World) (tb:Nat) (f s:Int) (rows:List (List UInt8×List (Int×Nat))) (k:Nat) (v10 u1 u2:Value):Prop where
 le:k<=rows.length
 ah:v10 = .string ⟨(prev (rows.map Prod.fst) k).toArray⟩
 ok:∀ j,j<k->rowAt f s rows j=0
 res:wr.heap[w.heap.size]? = some (.cells #[.int .i64 0,.int .i64 0,.slice none 0 0,.slice none 0 0] 25 (0,0))
 two:tL wr (tb+1) tb f s u1 u2 ((full (rows.take k)).map Prod.fst) ((full (rows.take k)).map fun r=>iL r.2)
 aM:Below w.heap.size w wr
 jH:tb+1<=wr.heap.size
theorem om {z:World} {b:Nat} {p0 p1 p2 p3:Value} {t:TypeId} (h:z.heap[b]? = some (.cells #[p0,p1,p2,p3] t (0,0))) (v0 v1 v2 v3:Value):((((z.setCell ⟨b,0,none⟩ v0).setCell ⟨b,1,none⟩ v1).setCell ⟨b,2,none⟩ v2).setCell ⟨b,3,none⟩ v3).heap[b]? = some (.cells #[v0,v1,v2,v3] t (0,0)):=by
 have e1:=(dN h 0 v0).trans (show _=some (Obj.cells #[v0,p1,p2,p3] t (0,0)) by rfl);have e2:=(dN e1 1 v1).trans (show _=some (Obj.cells #[v0,v1,p2,p3] t (0,0)) by rfl);have e3:=(dN e2 2 v2).trans (show _=some (Obj.cells #[v0,v1,v2,p3] t (0,0)) by rfl);exact (dN e3 3 v3).trans (by rfl)
theorem gH {B:Nat} {w z:World} {b:Nat} (h:Below B w z) (hb:B<=b) (v0 v1 v2 v3:Value):Below B w ((((z.setCell ⟨b,0,none⟩ v0).setCell ⟨b,1,none⟩ v1).setCell ⟨b,2,none⟩ v2).setCell ⟨b,3,none⟩ v3):=
 (((h.setCell hb v0).setCell hb v1).setCell hb v2).setCell hb v3
theorem kS {z:World} {base:Nat} {e t:TypeId} {sz:Nat} {v:Value} {n:Nat} {xs:List Value} {b:Nat} {cs:Array Value} {fr:Nat×Nat} (h:z.ownsRow base e sz v n xs) (hb:z.heap[b]? = some (.cells cs t fr)) (hne:e≠t) (v0 v1 v2 v3:Value):((((z.setCell ⟨b,0,none⟩ v0).setCell ⟨b,1,none⟩ v1).setCell ⟨b,2,none⟩ v2).setCell ⟨b,3,none⟩ v3).ownsRow base e sz v n xs:=
 dB h fun g hg=>by
  obtain⟨_,_,cur,hc⟩:=bE h hg;have hgb:g≠b:=rU hc hb hne;rw[Below.heap_setCell _ _ _ _ hgb,Below.heap_setCell _ _ _ _ hgb,Below.heap_setCell _ _ _ _ hgb,Below.heap_setCell _ _ _ _ hgb]
theorem vg (x:ByteArray):(⟨x.data.toList.toArray⟩:ByteArray)=x:=by cases x;simp
theorem Ih {B:Nat} {ea:Nat->Addr} (w:World) (E:oh B ea w) (hB:B<=w.heap.size) (f s:Int) (la:Option Addr) (c:Nat) (rows:List (List UInt8×List (Int×Nat))) (hP:pG w la rows) (hin:∀ r,r∈rows->oU r.2/\r.1.length<=1000/\r.2.length<=1000) (hn:rows.length<=1000) :
  Calls Tryz.prog 15 #[.int .i64 f,.int .i64 s,.slice la rows.length c] w fun e w'=>PN ea w w' f s rows e:=by
 obtain⟨W,hW⟩:∃ W,W=w.alloc (.cells #[.int .i64 0,.int .i64 0,.slice none 0 0,.slice none 0 0] 25):=⟨_,rfl⟩;have hbW:Below w.heap.size w W:=by rw[hW];exact (Below.refl _ _).alloc (Nat.le_refl _) _
 have hx:W.heap[w.heap.size]? = some (.cells #[.int .i64 0,.int .i64 0,.slice none 0 0,.slice none 0 0] 25 (0,0)):=by rw[hW];exact heap_alloc_new _ _
 have hWs:W.heap.size=w.heap.size+1:=by rw[hW];simp
 have HW:=(show Hid _ from hW);have cZ:=(show Hid _ from hbW);have HE:=(show Hid _ from E);have CO:=(show Hid _ from hWs);have HX:=(show Hid _ from hx);have HP:Hid (pG w la rows):=hP;have jq:Hid (∀ r,r∈rows->oU r.2/\r.1.length<=1000/\r.2.length<=1000):=hin;have kb:=(E.below hbW hB).uq.c1;clear hW hbW hx E hP hin hWs;obtain⟨n,hnn⟩:∃ n,n=rows.length:=⟨_,rfl⟩;have HN:=(show Hid _ from hnn.symm);rw[<-hnn] at hn ⊢;clear hnn;go_enter Tryz.func15,Tryz.ntmps15;go_upto_region 1 with fail;rw[<-HW.out];by_cases hbad:gI f s≠0\/60<n
 ·have ql:=(show Hid _ from DF W f s n (by omega) hbad (ea 1) kb);obtain⟨hC,hA⟩:=Bz (f:=f) (s:=s) (rows:=rows) (by rw[HN.out];exact hbad);have HC:=(show Hid _ from And.intro hC hA);have p0:W.cell? ⟨w.heap.size,0,none⟩=some (.int .i64 0):=ak HX.out 0;have p1:W.cell? ⟨w.heap.size,1,none⟩=some (.int .i64 0):=ak HX.out 1;have p2:W.cell? ⟨w.heap.size,2,none⟩=some (.slice none 0 0):=ak HX.out 2;have p3:W.cell? ⟨w.heap.size,3,none⟩=some (.slice none 0 0):=ak HX.out 3;have pf:∀ k,W.frozen? ⟨w.heap.size,k,none⟩=false:=fun k=>by simp[World.frozen?,HX.out]
  clear hC hA hbad;go_wp2_with fail;refine Calls.mono ql.out ?_;rintro e w1 ⟨rfl,hw1⟩;have bA:=hw1;subst bA;go_wp2;obtain⟨Z,hZ⟩:∃ Z,Z=((((w1.setCell ⟨w.heap.size,0,none⟩ (.int .i64 0)).setCell ⟨w.heap.size,1,none⟩ (.int .i64 0)).setCell ⟨w.heap.size,2,none⟩ (.slice none 0 0)).setCell ⟨w.heap.size,3,none⟩ (.slice none 0 0)):=⟨_,rfl⟩;rw[<-hZ];have kQ:Z.heap[w.heap.size]? = some (.cells #[.int .i64 0,.int .i64 0,.slice none 0 0,.slice none 0 0] 25 (0,0)):=by rw[hZ];exact om HX.out _ _ _ _
  have hzb:Below w.heap.size w Z:=by rw[hZ];exact gH cZ.out (Nat.le_refl _) _ _ _ _
  have z0:Z.cell? ⟨w.heap.size,0,none⟩=some (.int .i64 0):=ak kQ 0;have z1:Z.cell? ⟨w.heap.size,1,none⟩=some (.int .i64 0):=ak kQ 1;have z2:Z.cell? ⟨w.heap.size,2,none⟩=some (.slice none 0 0):=ak kQ 2;have z3:Z.cell? ⟨w.heap.size,3,none⟩=some (.slice none 0 0):=ak kQ 3;clear hZ kQ;refine bodyPost_ret (v:=.tuple #[.agg #[.int .i64 0,.int .i64 0,.slice none 0 0,.slice none 0 0],.iface 313 (.pointer (some (ea 1)))]) (by simp[results,Tryz.results15,go_sem,z0,z1,z2,z3]) rfl ?_;exact⟨_,hzb,by rw[HC.out.1,HC.out.2];exact bB.es 1 (by decide) (by decide),.inr ⟨fun h=>absurd (HC.out.1.symm.trans h) (by decide),rfl⟩⟩
 ·have wY:=(show Hid _ from hbad);have hbd:gI f s=0:=Decidable.not_not.1 fun h=>hbad (.inl h)
  have DJ:n<=60:=by
   rcases Nat.lt_or_ge 60 n with h | h
   ·exact absurd (.inr h) hbad
   ·exact h
  have ql:=(show Hid _ from Fh W f s n hbd DJ);clear hbad;go_wp2_with fail;refine Calls.mono ql.out ?_;rintro e w1 ⟨rfl,hw1⟩;have bA:=hw1;subst bA;clear ql kb;obtain⟨W2,hW2⟩:∃ W2,W2=w1.alloc (.cells #[.int .i64 f,.int .i64 s,.slice none 0 0,.slice none 0 0] 25):=⟨_,rfl⟩;have HW2:Hid (∀ wx,wx=w1.alloc (.cells #[.int .i64 f,.int .i64 s,.slice none 0 0,.slice none 0 0] 25)->wx=W2):=fun wx h=>h.trans hW2.symm
  obtain⟨tb,htb⟩:∃ tb,tb=w1.heap.size:=⟨_,rfl⟩;have h0:Al w W2 tb f s rows 0 (.string ⟨#[]⟩) (.slice none 0 0) (.slice none 0 0):=by
   refine⟨Nat.zero_le _,rfl,fun j h=>absurd h (Nat.not_lt_zero _),?_,⟨?_,Nat.lt_succ_self _,⟨rfl,.inl ⟨rfl,by simp[full]⟩⟩,⟨rfl,.inl ⟨rfl,by simp[full]⟩⟩,fun g e=>by simp[Value.ownBlock] at e⟩,?_,?_⟩
   ·rw[hW2,heap_alloc_old _ _ (aH HX.out)];exact HX.out
   ·rw[hW2,htb];exact heap_alloc_new _ _
   ·rw[hW2];exact cZ.out.alloc cZ.out.size _
   ·rw[hW2,htb];simp
  have M9:=(show Hid _ from h0);have J6:w.heap.size<tb:=by have:=CO.out;omega
  clear h0 hW2;go_wp2_with fail;rw[HW2.out _ rfl,<-htb];clear htb HW2 HX cZ HW CO;go_loopw [10,29] (fun v10 i wr=>∃ (k:Nat) (u1 u2:Value),i = .int .i64 (k:Int)/\Al w wr tb f s rows k v10 u1 u2) (fun _ i _=>n-(intOf i).toNat);case atStart=>exact⟨0,_,_,rfl,M9.out⟩
  case round=>
   obtain⟨k,u1,u2,rfl,hm⟩:=hrel;have HM:=(show Hid _ from hm);have hah:=hm.ah;obtain⟨a1,c1,rfl⟩:=aW hm.two.lZ;obtain⟨a2,c2,rfl⟩:=aW hm.two.mO;have hsz:=hm.jH;have hbel:=hm.aM.size;subst hah;clear hm M9;by_cases hkn:k<n
   ·have hkr:k<rows.length:=by rw[HN.out];exact hkn
    rcases HP.out with h0 | ⟨b,o,rfl,hcs⟩
    ·rw[h0] at hkr;exact absurd hkr (Nat.not_lt_zero _)
    obtain⟨e1,A,C,e2,hpt⟩:=hcs k hkr;have hbl:b<w.heap.size:=World.block_lt_of_cell? w ⟨b,_,none⟩ e1;obtain⟨Ni,hl1,hl2⟩:=jq.out _ (List.getElem_mem hkr);obtain⟨nm,hnm⟩:∃ nm:ByteArray,nm=⟨(rows[k].1).toArray⟩:=⟨_,rfl⟩;obtain⟨ah,hah⟩:∃ ah:ByteArray,ah=⟨(prev (rows.map Prod.fst) k).toArray⟩:=⟨_,rfl⟩;rw[<-hah];have q1:wr.cell? ⟨b,o+k*2,none⟩=some (.string nm):=by rw[hnm];exact (HM.out.aM.cell (p:=⟨b,_,none⟩) hbl).trans e1
    have q2:wr.cell? ⟨b,o+k*2+1,none⟩=some (.slice A rows[k].2.length C):=(HM.out.aM.cell (p:=⟨b,_,none⟩) hbl).trans e2;have k0:(0:Int)<=(k:Int):=by omega
    have k1:(k:Int)<(n:Int):=by omega
    obtain⟨nk,hnk⟩:∃ nk,nk=rows[k].2.length:=⟨_,rfl⟩;have hsA:rowAt f s rows k=lI f s ah.data.toList nm.data.toList rows[k].2:=by
     unfold rowAt;rw[hah,hnm,(l9 hkr).1,(l9 hkr).2]
    have RN:=fun (WA:World) (hb:Below w.heap.size w WA)=>Nf WA (HE.out.below hb hB) (Nat.le_trans hB hb.size) a1 a2 A ((full (rows.take k)).map Prod.fst).length c1 ((full (rows.take k)).map fun r=>iL r.2).length c2 C f s hbd nm ah (Nat.le_trans (m:=1000) (by rw[hnm];simpa [ByteArray.size] using hl1) (by decide)) rows[k].2 (hpt.below hb) Ni hl2
    rw[<-hnk] at q2 RN;rw[<-hsA] at RN;have q9:=(show Hid _ from And.intro hnm hah);have Yh:=(show Hid _ from hnk);have pU:=(show Hid _ from RN);obtain⟨WA,Yi⟩:∃ WA,WA=wr.alloc (.cells #[.string nm,.slice A nk C] 61):=⟨_,rfl⟩;have pq:Below wr.heap.size wr WA:=by rw[Yi];exact (Below.refl _ _).alloc (Nat.le_refl _) _
    have hra:WA.heap[wr.heap.size]? = some (.cells #[.string nm,.slice A nk C] 61 (0,0)):=by rw[Yi];exact heap_alloc_new _ _
    have zu:=HM.out.two.below pq;have x0:WA.cell? ⟨tb,0,none⟩=some (.int .i64 f):=ak zu.blk 0;have x1:WA.cell? ⟨tb,1,none⟩=some (.int .i64 s):=ak zu.blk 1;have x2:WA.cell? ⟨tb,2,none⟩=some (.slice a1 _ c1):=ak zu.blk 2;have x3:WA.cell? ⟨tb,3,none⟩=some (.slice a2 _ c2):=ak zu.blk 3;have y0:WA.cell? ⟨wr.heap.size,0,none⟩=some (.string nm):=ak hra 0;have y1:WA.cell? ⟨wr.heap.size,1,none⟩=some (.slice A nk C):=ak hra 1;have kg:Hid (∀ wx,wx=wr.alloc (.cells #[.string nm,.slice A nk C] 61)->wx=WA):=fun wx h=>h.trans Yi.symm
    have gY:=(show Hid _ from pq);have mV:=(show Hid _ from hra);have Aj:=(show Hid _ from zu);clear e1 e2 hpt hnm hah hnk hsA RN pq hra zu Yi hcs Ni hl1 hl2;go_upto_region 9 with fail;rw[kg.out _ rfl];generalize hg1:((full (rows.take k)).map Prod.fst).length=n1 at *;generalize hg2:((full (rows.take k)).map fun r=>iL r.2).length=n2 at *;have HG:=(show Hid _ from And.intro hg1 hg2);clear hg1 hg2;go_wp2_with fail;refine Calls.mono (pU.out WA (HM.out.aM.trans (gY.out.mono hbel))) ?_;rintro e w2 ⟨x,v,AA,rfl,hb2,hf2,hx2⟩;have HB2:=(show Hid _ from hb2);have gP:Hid (bB ea w2 v (rowAt f s rows k) AA):=hf2;have jM:Hid (rowAt f s rows k=0->x.data.toList=iL rows[k].2):=hx2;have kH:=(show Hid _ from (HM.out.aM.trans (gY.out.mono hbel)).trans (hb2.mono (Nat.le_trans hbel gY.out.size)));have hs2:wr.heap.size<w2.heap.size:=Nat.lt_of_lt_of_le (aH mV.out) hb2.size;clear hb2 hf2 hx2 pU x0 x1 x2 x3 y0 y1 q1 q2;by_cases hs0:rowAt f s rows k=0
    ·have hv:=gP.out.none hs0;subst hv;have hx:=jM.out hs0;have h2r:w2.heap[wr.heap.size]? = some (.cells #[.string nm,.slice A nk C] 61 (0,0)):=(HB2.out.block _ (aH mV.out)).trans mV.out;have h2t:=Aj.out.below HB2.out;have y0:w2.cell? ⟨wr.heap.size,0,none⟩=some (.string nm):=ak h2r 0;have y1:w2.cell? ⟨wr.heap.size,1,none⟩=some (.slice A nk C):=ak h2r 1;have dH:Hid (∀ j,j<k+1->rowAt f s rows j=0):=fun j hj=>by
      rcases Nat.lt_or_ge j k with h | h
      ·exact HM.out.ok j h
      ·obtain rfl:j=k:=by omega
       exact hs0
     have hres:w2.heap[w.heap.size]? = some (.cells #[.int .i64 0,.int .i64 0,.slice none 0 0,.slice none 0 0] 25 (0,0)):=(HB2.out.block _ (Nat.lt_of_lt_of_le (aH HM.out.res) gY.out.size)).trans ((gY.out.block _ (aH HM.out.res)).trans HM.out.res);have wJ:=(show Hid _ from hres);have mh:Hid (full (rows.take (k+1))=if 0<nk then full (rows.take k) ++ [rows[k]] else full (rows.take k)):=by
      show _=_;rw[List.take_succ_eq_append_getElem hkr,JM,Yh.out]
     have Yj:Hid (prev (rows.map Prod.fst) (k+1)=nm.data.toList):=by
      show _=_;rw[J2 (by simpa using hkr),q9.out.1];simp
     have zw:=(show Hid _ from h2r);have J7:=(show Hid _ from h2t);clear hres h2r h2t hs0;by_cases hz:0<nk
     ·have hd:decide ((0:Int)<(nk:Int))=true:=by simp;omega
      obtain⟨iS,hS,hS0,hS1,hS2⟩:=info_parts Tryz.infoStr3;have Am:=(show Hid _ from hS);have t2:w2.cell? ⟨tb,2,none⟩=some (.slice a1 n1 c1):=ak J7.out.blk 2;have t3:w2.cell? ⟨tb,3,none⟩=some (.slice a2 n2 c2):=ak J7.out.blk 3;have htl:tb<w2.heap.size:=aH J7.out.blk;have hn1:n1<=60/\n2<=60:=by
       have h1:=HG.out.1;have h2:=HG.out.2;have h3:(full (rows.take k)).length<=(rows.take k).length:=List.length_filter_le ..;have h4:(rows.take k).length<=k:=by simp;omega
       simp only[List.length_map] at h1 h2;omega
      have wR:tb+1<=w2.heap.size:=htl;clear hS;go_wp2_with fail;obtain⟨Ao,RO⟩:∃ Ao:List (List UInt8),Ao=((full (rows.take k)).map fun r=>iL r.2):=⟨_,rfl⟩;have HT2:Hid (tL w2 (tb+1) tb f s (.slice a1 n1 c1) (.slice a2 n2 c2) ((full (rows.take k)).map Prod.fst) Ao):=by rw[RO];exact J7.out
      have zn:Hid (Ao.length=n2):=by rw[RO];exact HG.out.2
      have TR:=(show Hid _ from RO);clear RO;have sS:Hid (w2.ownsRow (tb+1) 9 1 (.slice a1 n1 c1) n1 (((full (rows.take k)).map Prod.fst).map encStr)):=by have:=J7.out.lZ;rw[HG.out.1] at this;exact this
      have qF:Hid (∀ z,Below w2.heap.size w2 z->(z.cell? ⟨tb,2,none⟩=some (.slice a1 n1 c1)/\z.cell? ⟨tb,3,none⟩=some (.slice a2 n2 c2)/\z.cell? ⟨wr.heap.size,0,none⟩=some (.string nm))):=fun z hz=>by
       have q1:=(hz.block _ (aH J7.out.blk)).trans J7.out.blk;have q2:=(hz.block _ (aH zw.out)).trans zw.out;exact⟨ak q1 2,ak q1 3,ak q2 0⟩
      have HXC:Hid (x.data.toList=iL rows[k].2):=hx;clear hx;refine mM (S:=fun w'=>(w'.cell? ⟨tb,2,none⟩=some (.slice a1 n1 c1)/\w'.cell? ⟨tb,3,none⟩=some (.slice a2 n2 c2)/\w'.cell? ⟨wr.heap.size,0,none⟩=some (.string nm))) (by kernel_rfl) 12 ⟨t2,t3,y0⟩ (fun hHeld=>?_);refine gW (i:=0) (v:=.pointer (some ⟨tb,2,none⟩)) rfl (by kernel_rfl) (by kernel_rfl) (by kernel_rfl) (by kernel_rfl) (by kernel_rfl) (by kernel_rfl) (fun _ _ _ h=>h) (Or.inl ⟨by rfl,?_⟩) hHeld ?_
      ·intro w hSw;obtain⟨g2,g3,g4⟩:=hSw;go_simp
      try simp only[Act.put]
      refine gW (i:=1) (v:=.slice a1 n1 c1) rfl (by kernel_rfl) (by kernel_rfl) (by kernel_rfl) (by kernel_rfl) (by kernel_rfl) (by kernel_rfl) (fun _ _ _ h=>h) (Or.inl ⟨by rfl,?_⟩) hHeld ?_
      ·intro w hSw;obtain⟨g2,g3,g4⟩:=hSw;go_simp
      try simp only[Act.put]
      refine gW (i:=2) (v:=.pointer (some ⟨wr.heap.size,0,none⟩)) rfl (by kernel_rfl) (by kernel_rfl) (by kernel_rfl) (by kernel_rfl) (by kernel_rfl) (by kernel_rfl) (fun _ _ _ h=>h) (Or.inl ⟨by rfl,?_⟩) hHeld ?_
      ·intro w hSw;obtain⟨g2,g3,g4⟩:=hSw;go_simp
      try simp only[Act.put]
      refine gW (i:=3) (v:=.string nm) rfl (by kernel_rfl) (by kernel_rfl) (by kernel_rfl) (by kernel_rfl) (by kernel_rfl) (by kernel_rfl) (fun _ _ _ h=>h) (Or.inl ⟨by rfl,?_⟩) hHeld ?_
      ·intro w hSw;obtain⟨g2,g3,g4⟩:=hSw;go_simp
      try simp only[Act.put]
      refine gW (i:=6) (v:=.pointer (some ⟨tb,3,none⟩)) rfl (by kernel_rfl) (by kernel_rfl) (by kernel_rfl) (by kernel_rfl) (by kernel_rfl) (by kernel_rfl) (fun _ _ _ h=>h) (Or.inl ⟨by rfl,?_⟩) hHeld ?_
      ·intro w hSw;obtain⟨g2,g3,g4⟩:=hSw;go_simp
      try simp only[Act.put]
      refine gW (i:=7) (v:=.slice a2 n2 c2) rfl (by kernel_rfl) (by kernel_rfl) (by kernel_rfl) (by kernel_rfl) (by kernel_rfl) (by kernel_rfl) (fun _ _ _ h=>h) (Or.inl ⟨by rfl,?_⟩) hHeld ?_
      ·intro w hSw;obtain⟨g2,g3,g4⟩:=hSw;go_simp
      try simp only[Act.put]
      refine bW (i:=8) (v:=.string x) rfl (by kernel_rfl) (by kernel_rfl) (by kernel_rfl) (by kernel_rfl) (fun _ _ _ h=>h) (Or.inl ⟨by rfl,?_⟩) (fun _=>hHeld) ?_
      ·intro w _;go_simp
      try simp only[Act.put]
      refine aI (rs:=[4,9]) (by kernel_rfl) (by simp) ?_;refine aC.cons rfl (fun K hK=>?_) (aC.cons rfl (fun K hK=>?_) aC.nil)
      ·go_simp
       refine hK.out _ _ (qF.out _ (by repeat (first | exact Below.refl _ _ | with_reducible apply aU | with_reducible apply dW))) ?_;clear hK K;try simp only[Act.put]
       refine aI (rs:=[5,9]) (by kernel_rfl) (by simp) ?_;refine aC.cons rfl (fun K hK=>?_) (aC.cons rfl (fun K hK=>?_) aC.nil)
       ·refine mF w2 (by rfl) _ _ 23 (by rfl) (tb+1) 9 iS (.string ⟨#[]⟩) 16 Tryz.underlying23 Am.out hS0 hS1 hS2 (by rfl) (.slice a1 n1 c1) n1 (((full (rows.take k)).map Prod.fst).map encStr) (by rfl) sS.out (by repeat (first | exact Below.refl _ _ | with_reducible apply aU | with_reducible apply dW)) _ _ _ _ (by rfl) (by first | exact heap_alloc_new _ _ | exact Ie _ _ _ | exact Ig _ _ _) (by rfl) (by omega) (by decide) wR ?_;intro g7 iW w7 dX iX qo;obtain⟨m1,m2,m3,m4,m5⟩:=HT2.out.mid wR qo iX;have DN:Hid (w7.ownsRow (tb+1) 9 1 (.slice a2 n2 c2) n2 (Ao.map encStr)):=by rw[zn.out] at m2;exact m2
        have DR:=(show Hid _ from m5);have Dz:=(show Hid _ from m3);have J8:=(show Hid _ from dX);have wh:=(show Hid _ from iX);have wm:=(show Hid _ from qo);have Ck:Hid (∀ z,Below w7.heap.size w7 z->(z.cell? ⟨tb,2,none⟩=some (.slice a1 n1 c1)/\z.cell? ⟨tb,3,none⟩=some (.slice a2 n2 c2)/\z.cell? ⟨wr.heap.size,0,none⟩=some (.string nm))):=fun z hz=>by
         have q1:=(hz.block _ (aH m1)).trans m1;have q2:=(hz.block _ (aH (HT2.out.other qo iX zw.out (by decide)))).trans (HT2.out.other qo iX zw.out (by decide));exact⟨ak q1 2,ak q1 3,ak q2 0⟩
        clear dX iX qo m1 m2 m3 m5;refine hK.out _ _ (Ck.out _ (Below.refl _ _)) ?_;clear hK K;try simp only[Act.put]
        refine bW (i:=11) (v:=.pointer (some ⟨tb,2,none⟩)) rfl (by kernel_rfl) (by kernel_rfl) (by kernel_rfl) (by kernel_rfl) (fun _ _ _ h=>h) (Or.inl ⟨by rfl,?_⟩) (fun _=>Ck.out _ (Below.refl _ _)) ?_
        ·intro w _;go_simp
        try simp only[Act.put]
        refine aI (rs:=[9]) (by kernel_rfl) (by simp) ?_;refine aC.cons rfl (fun K hK=>?_) aC.nil;go_simp
        refine hK.out _ _ (Ck.out _ (by repeat (first | exact Below.refl _ _ | with_reducible apply aU | with_reducible apply dW))) ?_;clear hK K;try simp only[Act.put]
        refine aI (rs:=[10]) (by kernel_rfl) (by simp) ?_;refine aC.cons rfl (fun K hK=>?_) aC.nil;refine mF w7 (by rfl) _ _ 23 (by rfl) (tb+1) 9 iS (.string ⟨#[]⟩) 16 Tryz.underlying23 Am.out hS0 hS1 hS2 (by rfl) (.slice a2 n2 c2) n2 (Ao.map encStr) (by rfl) DN.out (by repeat (first | exact Below.refl _ _ | with_reducible apply aU | with_reducible apply dW)) _ _ _ _ (by rfl) (by exact heap_alloc_new _ _) (by rfl) (by omega) (by decide) Dz.out ?_;intro g8 kI w8 ni lK jY;have sI:=HT2.out.last wR wm.out wh.out jY lK;have J9:=HT2.out.more (x:=nm.data.toList) (y:=x.data.toList) wR wm.out (by rw[HG.out.1,vg nm];exact J8.out) wh.out jY (by rw[zn.out,vg x];exact ni) lK;have ES:=(show Hid _ from J9);have Uq:w8.cell? ⟨tb,2,none⟩=some (.slice a1 n1 c1):=ak sI 2;have Ur:w8.cell? ⟨tb,3,none⟩=some (.slice a2 n2 c2):=ak sI 3;have f8:∀ q,w8.frozen? ⟨tb,q,none⟩=false:=fun q=>by simp[World.frozen?,sI]
        have Ap:Hid ((w8.cell? ⟨tb,2,none⟩=some (.slice a1 n1 c1)/\w8.cell? ⟨tb,3,none⟩=some (.slice a2 n2 c2)/\w8.cell? ⟨wr.heap.size,0,none⟩=some (.string nm))):=by
         have q1:=sI;have q2:=(show pI _ w8 _ _ from lK).other (bN DN.out jY) ((jY.block _ (aH (HT2.out.other wm.out wh.out zw.out (by decide)))).trans (HT2.out.other wm.out wh.out zw.out (by decide))) (by decide);exact⟨ak q1 2,ak q1 3,ak q2 0⟩
        clear ni lK jY J9;refine hK.out _ _ Ap.out ?_;clear hK K;try simp only[Act.put]
        refine aI (rs:=[12]) (by kernel_rfl) (by simp) ?_;refine aC.last rfl (by kernel_rfl) (fun K hK=>?_) aC.nil;go_simp
        refine hK.out _ _ ?_;clear hK K;try simp only[Act.put]
        refine bW (i:=13) (v:=.pointer (some ⟨tb,3,none⟩)) rfl (by kernel_rfl) (by kernel_rfl) (by kernel_rfl) (by kernel_rfl) (fun _ _ _ h=>h) (Or.inl ⟨by rfl,?_⟩) (fun _=>absurd ‹_› (by decide)) ?_
        ·intro w _;go_simp
        try simp only[Act.put]
        obtain⟨Z8,ru⟩:∃ Z8,Z8=w8.setCell ⟨tb,2,none⟩ (.slice (some ⟨g7,0,none⟩) (n1+1) iW):=⟨_,rfl⟩;have DT:Z8.heap[tb]? = some (.cells #[.int .i64 f,.int .i64 s,.slice (some ⟨g7,0,none⟩) (n1+1) iW,.slice a2 n2 c2] 25 (0,0)):=by rw[ru];exact (dN sI 2 _).trans (by rfl)
        have c93:Z8.cell? ⟨tb,3,none⟩=some (.slice a2 n2 c2):=ak DT 3;have f9:∀ q,Z8.frozen? ⟨tb,q,none⟩=false:=fun q=>by simp[World.frozen?,DT]
        rw[<-ru];have Fp:=(show Hid _ from ru);clear ru DT sI Uq Ur f8;refine aI (rs:=[14]) (by kernel_rfl) (by simp) ?_;refine aC.last rfl (by kernel_rfl) (fun K hK=>?_) aC.nil;go_simp
        refine hK.out _ _ ?_;clear hK K;refine fQ (by kernel_rfl) ?_ _;have fB:Hid (Al w (Z8.setCell ⟨tb,3,none⟩ (.slice (some ⟨g8,0,none⟩) (n2+1) kI)) tb f s rows (k+1) (.string nm) (.slice (some ⟨g7,0,none⟩) (n1+1) iW) (.slice (some ⟨g8,0,none⟩) (n2+1) kI)):=by
         obtain⟨j1,j2,j3⟩:=ES.out;rw[Fp.out];have hfl:full (rows.take (k+1))=full (rows.take k) ++ [rows[k]]:=by rw[mh.out,if_pos hz]
         have e1:(full (rows.take (k+1))).map Prod.fst=(full (rows.take k)).map Prod.fst ++ [nm.data.toList]:=by rw[hfl,List.map_append,q9.out.1];simp
         have e2:((full (rows.take (k+1))).map fun r=>iL r.2)=Ao ++ [x.data.toList]:=by rw[hfl,List.map_append,HXC.out,TR.out];simp
         have hw8:=j3.size;refine⟨by omega,by rw[Yj.out],dH.out,?_,?_,?_,?_⟩
         ·rw[Below.heap_setCell _ _ _ _ (by show w.heap.size≠tb;omega),Below.heap_setCell _ _ _ _ (by show w.heap.size≠tb;omega),j3.block _ (by omega)];exact wJ.out
         ·rw[e1,e2];rw[HG.out.1,zn.out] at j1;exact j1
         ·exact ((kH.out.trans (j3.mono (by omega))).setCell (by show w.heap.size<=tb;omega) _).setCell (by show w.heap.size<=tb;omega) _
         ·simp
          omega
        clear ES Fp J8 wh wm DN Dz DR Ck Ap;go_wp2;go_roundw;case rel=>exact⟨k+1,_,_,by go_num,fB.out⟩
        case measure=>simp[intOf]<;>omega
       ·go_simp
        refine hK.out _ _ (qF.out _ (by repeat (first | exact Below.refl _ _ | with_reducible apply aU | with_reducible apply dW))) ?_;clear hK K;try simp only[Act.put]
        refine aI (rs:=[5]) (by kernel_rfl) (by simp) ?_;refine aC.cons rfl (fun K hK=>?_) aC.nil;refine mF w2 (by rfl) _ _ 23 (by rfl) (tb+1) 9 iS (.string ⟨#[]⟩) 16 Tryz.underlying23 Am.out hS0 hS1 hS2 (by rfl) (.slice a1 n1 c1) n1 (((full (rows.take k)).map Prod.fst).map encStr) (by rfl) sS.out (by repeat (first | exact Below.refl _ _ | with_reducible apply aU | with_reducible apply dW)) _ _ _ _ (by rfl) (by first | exact heap_alloc_new _ _ | exact Ie _ _ _ | exact Ig _ _ _) (by rfl) (by omega) (by decide) wR ?_;intro g7 iW w7 dX iX qo;obtain⟨m1,m2,m3,m4,m5⟩:=HT2.out.mid wR qo iX;have DN:Hid (w7.ownsRow (tb+1) 9 1 (.slice a2 n2 c2) n2 (Ao.map encStr)):=by rw[zn.out] at m2;exact m2
        have DR:=(show Hid _ from m5);have Dz:=(show Hid _ from m3);have J8:=(show Hid _ from dX);have wh:=(show Hid _ from iX);have wm:=(show Hid _ from qo);have Ck:Hid (∀ z,Below w7.heap.size w7 z->(z.cell? ⟨tb,2,none⟩=some (.slice a1 n1 c1)/\z.cell? ⟨tb,3,none⟩=some (.slice a2 n2 c2)/\z.cell? ⟨wr.heap.size,0,none⟩=some (.string nm))):=fun z hz=>by
         have q1:=(hz.block _ (aH m1)).trans m1;have q2:=(hz.block _ (aH (HT2.out.other qo iX zw.out (by decide)))).trans (HT2.out.other qo iX zw.out (by decide));exact⟨ak q1 2,ak q1 3,ak q2 0⟩
        clear dX iX qo m1 m2 m3 m5;refine hK.out _ _ (Ck.out _ (Below.refl _ _)) ?_;clear hK K;try simp only[Act.put]
        refine bW (i:=11) (v:=.pointer (some ⟨tb,2,none⟩)) rfl (by kernel_rfl) (by kernel_rfl) (by kernel_rfl) (by kernel_rfl) (fun _ _ _ h=>h) (Or.inl ⟨by rfl,?_⟩) (fun _=>Ck.out _ (Below.refl _ _)) ?_
        ·intro w _;go_simp
        try simp only[Act.put]
        refine aI (rs:=[10]) (by kernel_rfl) (by simp) ?_;refine aC.cons rfl (fun K hK=>?_) aC.nil;refine mF w7 (by rfl) _ _ 23 (by rfl) (tb+1) 9 iS (.string ⟨#[]⟩) 16 Tryz.underlying23 Am.out hS0 hS1 hS2 (by rfl) (.slice a2 n2 c2) n2 (Ao.map encStr) (by rfl) DN.out (by repeat (first | exact Below.refl _ _ | with_reducible apply aU | with_reducible apply dW)) _ _ _ _ (by rfl) (by first | exact DR.out _ _ (by simp) (heap_alloc_new _ _) | exact DR.out _ _ (by simp) (Ie _ _ _) | exact DR.out _ _ (by simp) (Ig _ _ _)) (by rfl) (by omega) (by decide) Dz.out ?_;intro g8 kI w8 ni lK jY;have sI:=HT2.out.last wR wm.out wh.out jY lK;have J9:=HT2.out.more (x:=nm.data.toList) (y:=x.data.toList) wR wm.out (by rw[HG.out.1,vg nm];exact J8.out) wh.out jY (by rw[zn.out,vg x];exact ni) lK;have ES:=(show Hid _ from J9);have Uq:w8.cell? ⟨tb,2,none⟩=some (.slice a1 n1 c1):=ak sI 2;have Ur:w8.cell? ⟨tb,3,none⟩=some (.slice a2 n2 c2):=ak sI 3;have f8:∀ q,w8.frozen? ⟨tb,q,none⟩=false:=fun q=>by simp[World.frozen?,sI]
        have Ap:Hid ((w8.cell? ⟨tb,2,none⟩=some (.slice a1 n1 c1)/\w8.cell? ⟨tb,3,none⟩=some (.slice a2 n2 c2)/\w8.cell? ⟨wr.heap.size,0,none⟩=some (.string nm))):=by
         have q1:=sI;have q2:=(show pI _ w8 _ _ from lK).other (bN DN.out jY) ((jY.block _ (aH (HT2.out.other wm.out wh.out zw.out (by decide)))).trans (HT2.out.other wm.out wh.out zw.out (by decide))) (by decide);exact⟨ak q1 2,ak q1 3,ak q2 0⟩
        clear ni lK jY J9;refine hK.out _ _ Ap.out ?_;clear hK K;try simp only[Act.put]
        refine aI (rs:=[12]) (by kernel_rfl) (by simp) ?_;refine aC.last rfl (by kernel_rfl) (fun K hK=>?_) aC.nil;go_simp
        refine hK.out _ _ ?_;clear hK K;try simp only[Act.put]
        refine bW (i:=13) (v:=.pointer (some ⟨tb,3,none⟩)) rfl (by kernel_rfl) (by kernel_rfl) (by kernel_rfl) (by kernel_rfl) (fun _ _ _ h=>h) (Or.inl ⟨by rfl,?_⟩) (fun _=>absurd ‹_› (by decide)) ?_
        ·intro w _;go_simp
        try simp only[Act.put]
        obtain⟨Z8,ru⟩:∃ Z8,Z8=w8.setCell ⟨tb,2,none⟩ (.slice (some ⟨g7,0,none⟩) (n1+1) iW):=⟨_,rfl⟩;have DT:Z8.heap[tb]? = some (.cells #[.int .i64 f,.int .i64 s,.slice (some ⟨g7,0,none⟩) (n1+1) iW,.slice a2 n2 c2] 25 (0,0)):=by rw[ru];exact (dN sI 2 _).trans (by rfl)
        have c93:Z8.cell? ⟨tb,3,none⟩=some (.slice a2 n2 c2):=ak DT 3;have f9:∀ q,Z8.frozen? ⟨tb,q,none⟩=false:=fun q=>by simp[World.frozen?,DT]
        rw[<-ru];have Fp:=(show Hid _ from ru);clear ru DT sI Uq Ur f8;refine aI (rs:=[14]) (by kernel_rfl) (by simp) ?_;refine aC.last rfl (by kernel_rfl) (fun K hK=>?_) aC.nil;go_simp
        refine hK.out _ _ ?_;clear hK K;refine fQ (by kernel_rfl) ?_ _;have fB:Hid (Al w (Z8.setCell ⟨tb,3,none⟩ (.slice (some ⟨g8,0,none⟩) (n2+1) kI)) tb f s rows (k+1) (.string nm) (.slice (some ⟨g7,0,none⟩) (n1+1) iW) (.slice (some ⟨g8,0,none⟩) (n2+1) kI)):=by
         obtain⟨j1,j2,j3⟩:=ES.out;rw[Fp.out];have hfl:full (rows.take (k+1))=full (rows.take k) ++ [rows[k]]:=by rw[mh.out,if_pos hz]
         have e1:(full (rows.take (k+1))).map Prod.fst=(full (rows.take k)).map Prod.fst ++ [nm.data.toList]:=by rw[hfl,List.map_append,q9.out.1];simp
         have e2:((full (rows.take (k+1))).map fun r=>iL r.2)=Ao ++ [x.data.toList]:=by rw[hfl,List.map_append,HXC.out,TR.out];simp
         have hw8:=j3.size;refine⟨by omega,by rw[Yj.out],dH.out,?_,?_,?_,?_⟩
         ·rw[Below.heap_setCell _ _ _ _ (by show w.heap.size≠tb;omega),Below.heap_setCell _ _ _ _ (by show w.heap.size≠tb;omega),j3.block _ (by omega)];exact wJ.out
         ·rw[e1,e2];rw[HG.out.1,zn.out] at j1;exact j1
         ·exact ((kH.out.trans (j3.mono (by omega))).setCell (by show w.heap.size<=tb;omega) _).setCell (by show w.heap.size<=tb;omega) _
         ·simp
          omega
        clear ES Fp J8 wh wm DN Dz DR Ck Ap;go_wp2;go_roundw;case rel=>exact⟨k+1,_,_,by go_num,fB.out⟩
        case measure=>simp[intOf]<;>omega
      ·go_simp
       refine hK.out _ _ (qF.out _ (by repeat (first | exact Below.refl _ _ | with_reducible apply aU | with_reducible apply dW))) ?_;clear hK K;try simp only[Act.put]
       refine aI (rs:=[4]) (by kernel_rfl) (by simp) ?_;refine aC.cons rfl (fun K hK=>?_) aC.nil;go_simp
       refine hK.out _ _ (qF.out _ (by repeat (first | exact Below.refl _ _ | with_reducible apply aU | with_reducible apply dW))) ?_;clear hK K;try simp only[Act.put]
       refine aI (rs:=[5]) (by kernel_rfl) (by simp) ?_;refine aC.cons rfl (fun K hK=>?_) aC.nil;refine mF w2 (by rfl) _ _ 23 (by rfl) (tb+1) 9 iS (.string ⟨#[]⟩) 16 Tryz.underlying23 Am.out hS0 hS1 hS2 (by rfl) (.slice a1 n1 c1) n1 (((full (rows.take k)).map Prod.fst).map encStr) (by rfl) sS.out (by repeat (first | exact Below.refl _ _ | with_reducible apply aU | with_reducible apply dW)) _ _ _ _ (by rfl) (by first | exact heap_alloc_new _ _ | exact Ie _ _ _ | exact Ig _ _ _) (by rfl) (by omega) (by decide) wR ?_;intro g7 iW w7 dX iX qo;obtain⟨m1,m2,m3,m4,m5⟩:=HT2.out.mid wR qo iX;have DN:Hid (w7.ownsRow (tb+1) 9 1 (.slice a2 n2 c2) n2 (Ao.map encStr)):=by rw[zn.out] at m2;exact m2
       have DR:=(show Hid _ from m5);have Dz:=(show Hid _ from m3);have J8:=(show Hid _ from dX);have wh:=(show Hid _ from iX);have wm:=(show Hid _ from qo);have Ck:Hid (∀ z,Below w7.heap.size w7 z->(z.cell? ⟨tb,2,none⟩=some (.slice a1 n1 c1)/\z.cell? ⟨tb,3,none⟩=some (.slice a2 n2 c2)/\z.cell? ⟨wr.heap.size,0,none⟩=some (.string nm))):=fun z hz=>by
        have q1:=(hz.block _ (aH m1)).trans m1;have q2:=(hz.block _ (aH (HT2.out.other qo iX zw.out (by decide)))).trans (HT2.out.other qo iX zw.out (by decide));exact⟨ak q1 2,ak q1 3,ak q2 0⟩
       clear dX iX qo m1 m2 m3 m5;refine hK.out _ _ (Ck.out _ (Below.refl _ _)) ?_;clear hK K;try simp only[Act.put]
       refine bW (i:=11) (v:=.pointer (some ⟨tb,2,none⟩)) rfl (by kernel_rfl) (by kernel_rfl) (by kernel_rfl) (by kernel_rfl) (fun _ _ _ h=>h) (Or.inl ⟨by rfl,?_⟩) (fun _=>Ck.out _ (Below.refl _ _)) ?_
       ·intro w _;go_simp
       try simp only[Act.put]
       refine aI (rs:=[10]) (by kernel_rfl) (by simp) ?_;refine aC.cons rfl (fun K hK=>?_) aC.nil;refine mF w7 (by rfl) _ _ 23 (by rfl) (tb+1) 9 iS (.string ⟨#[]⟩) 16 Tryz.underlying23 Am.out hS0 hS1 hS2 (by rfl) (.slice a2 n2 c2) n2 (Ao.map encStr) (by rfl) DN.out (by repeat (first | exact Below.refl _ _ | with_reducible apply aU | with_reducible apply dW)) _ _ _ _ (by rfl) (by first | exact DR.out _ _ (by simp) (heap_alloc_new _ _) | exact DR.out _ _ (by simp) (Ie _ _ _) | exact DR.out _ _ (by simp) (Ig _ _ _)) (by rfl) (by omega) (by decide) Dz.out ?_;intro g8 kI w8 ni lK jY;have sI:=HT2.out.last wR wm.out wh.out jY lK;have J9:=HT2.out.more (x:=nm.data.toList) (y:=x.data.toList) wR wm.out (by rw[HG.out.1,vg nm];exact J8.out) wh.out jY (by rw[zn.out,vg x];exact ni) lK;have ES:=(show Hid _ from J9);have Uq:w8.cell? ⟨tb,2,none⟩=some (.slice a1 n1 c1):=ak sI 2;have Ur:w8.cell? ⟨tb,3,none⟩=some (.slice a2 n2 c2):=ak sI 3;have f8:∀ q,w8.frozen? ⟨tb,q,none⟩=false:=fun q=>by simp[World.frozen?,sI]
       have Ap:Hid ((w8.cell? ⟨tb,2,none⟩=some (.slice a1 n1 c1)/\w8.cell? ⟨tb,3,none⟩=some (.slice a2 n2 c2)/\w8.cell? ⟨wr.heap.size,0,none⟩=some (.string nm))):=by
        have q1:=sI;have q2:=(show pI _ w8 _ _ from lK).other (bN DN.out jY) ((jY.block _ (aH (HT2.out.other wm.out wh.out zw.out (by decide)))).trans (HT2.out.other wm.out wh.out zw.out (by decide))) (by decide);exact⟨ak q1 2,ak q1 3,ak q2 0⟩
       clear ni lK jY J9;refine hK.out _ _ Ap.out ?_;clear hK K;try simp only[Act.put]
       refine aI (rs:=[12]) (by kernel_rfl) (by simp) ?_;refine aC.last rfl (by kernel_rfl) (fun K hK=>?_) aC.nil;go_simp
       refine hK.out _ _ ?_;clear hK K;try simp only[Act.put]
       refine bW (i:=13) (v:=.pointer (some ⟨tb,3,none⟩)) rfl (by kernel_rfl) (by kernel_rfl) (by kernel_rfl) (by kernel_rfl) (fun _ _ _ h=>h) (Or.inl ⟨by rfl,?_⟩) (fun _=>absurd ‹_› (by decide)) ?_
       ·intro w _;go_simp
       try simp only[Act.put]
       obtain⟨Z8,ru⟩:∃ Z8,Z8=w8.setCell ⟨tb,2,none⟩ (.slice (some ⟨g7,0,none⟩) (n1+1) iW):=⟨_,rfl⟩;have DT:Z8.heap[tb]? = some (.cells #[.int .i64 f,.int .i64 s,.slice (some ⟨g7,0,none⟩) (n1+1) iW,.slice a2 n2 c2] 25 (0,0)):=by rw[ru];exact (dN sI 2 _).trans (by rfl)
       have c93:Z8.cell? ⟨tb,3,none⟩=some (.slice a2 n2 c2):=ak DT 3;have f9:∀ q,Z8.frozen? ⟨tb,q,none⟩=false:=fun q=>by simp[World.frozen?,DT]
       rw[<-ru];have Fp:=(show Hid _ from ru);clear ru DT sI Uq Ur f8;refine aI (rs:=[14]) (by kernel_rfl) (by simp) ?_;refine aC.last rfl (by kernel_rfl) (fun K hK=>?_) aC.nil;go_simp
       refine hK.out _ _ ?_;clear hK K;refine fQ (by kernel_rfl) ?_ _;have fB:Hid (Al w (Z8.setCell ⟨tb,3,none⟩ (.slice (some ⟨g8,0,none⟩) (n2+1) kI)) tb f s rows (k+1) (.string nm) (.slice (some ⟨g7,0,none⟩) (n1+1) iW) (.slice (some ⟨g8,0,none⟩) (n2+1) kI)):=by
        obtain⟨j1,j2,j3⟩:=ES.out;rw[Fp.out];have hfl:full (rows.take (k+1))=full (rows.take k) ++ [rows[k]]:=by rw[mh.out,if_pos hz]
        have e1:(full (rows.take (k+1))).map Prod.fst=(full (rows.take k)).map Prod.fst ++ [nm.data.toList]:=by rw[hfl,List.map_append,q9.out.1];simp
        have e2:((full (rows.take (k+1))).map fun r=>iL r.2)=Ao ++ [x.data.toList]:=by rw[hfl,List.map_append,HXC.out,TR.out];simp
        have hw8:=j3.size;refine⟨by omega,by rw[Yj.out],dH.out,?_,?_,?_,?_⟩
        ·rw[Below.heap_setCell _ _ _ _ (by show w.heap.size≠tb;omega),Below.heap_setCell _ _ _ _ (by show w.heap.size≠tb;omega),j3.block _ (by omega)];exact wJ.out
        ·rw[e1,e2];rw[HG.out.1,zn.out] at j1;exact j1
        ·exact ((kH.out.trans (j3.mono (by omega))).setCell (by show w.heap.size<=tb;omega) _).setCell (by show w.heap.size<=tb;omega) _
        ·simp
         omega
       clear ES Fp J8 wh wm DN Dz DR Ck Ap;go_wp2;go_roundw;case rel=>exact⟨k+1,_,_,by go_num,fB.out⟩
       case measure=>simp[intOf]<;>omega
     ·have hd:decide ((0:Int)<(nk:Int))=false:=by simp;omega
      have hfl:full (rows.take (k+1))=full (rows.take k):=by rw[mh.out,if_neg hz]
      have fB:Hid (Al w w2 tb f s rows (k+1) (.string nm) (.slice a1 n1 c1) (.slice a2 n2 c2)):=by
       refine⟨by omega,by rw[Yj.out],dH.out,wJ.out,?_,kH.out,by omega⟩;rw[hfl];exact J7.out
      clear hfl;go_wp2;go_roundw;case rel=>exact⟨k+1,_,_,by go_num,fB.out⟩
      case measure=>simp[intOf]<;>omega
    ·obtain⟨t,p,hv⟩:=gP.out.pos hs0;have hpos:0<rowAt f s rows k:=by
      have:0<=rowAt f s rows k:=OW ..;omega
     have vY:=(show Hid _ from X4 w2 (HE.out.below kH.out hB).types (Nat.le_trans hB kH.out.size) (k:Int) v _ _ gP.out hpos);obtain⟨hC,hA⟩:=X6 (f:=f) (s:=s) (rows:=rows) (by rw[HN.out];exact wY.out) hkr HM.out.ok hs0;have HC:=(show Hid _ from And.intro hC hA);have TY:=(show Hid _ from hs0);have hres:w2.heap[w.heap.size]? = some (.cells #[.int .i64 0,.int .i64 0,.slice none 0 0,.slice none 0 0] 25 (0,0)):=(HB2.out.block _ (Nat.lt_of_lt_of_le (aH HM.out.res) gY.out.size)).trans ((gY.out.block _ (aH HM.out.res)).trans HM.out.res);have wJ:=(show Hid _ from hres);subst hv;clear hC hA hs0 hres jM;go_wp2_with fail;refine Calls.mono vY.out ?_;rintro e w3 ⟨pb,mm,rfl,hb3,hmm,zz0,zz1,hcm⟩;have oW:=(hb3.block _ (aH wJ.out)).trans wJ.out;have HB3:=(show Hid _ from kH.out.trans (hb3.mono kH.out.size));have hpb:pb≠w.heap.size:=fun e=>by
      subst e;have:=(ak oW 1).symm.trans zz1;simp at this
     have p0:w3.cell? ⟨w.heap.size,0,none⟩=some (.int .i64 0):=ak oW 0;have p1:w3.cell? ⟨w.heap.size,1,none⟩=some (.int .i64 0):=ak oW 1;have p2:w3.cell? ⟨w.heap.size,2,none⟩=some (.slice none 0 0):=ak oW 2;have p3:w3.cell? ⟨w.heap.size,3,none⟩=some (.slice none 0 0):=ak oW 3;have pf:∀ k,w3.frozen? ⟨w.heap.size,k,none⟩=false:=fun k=>by simp[World.frozen?,oW]
     have J4:Hid (bB ea w3 (.iface 118 (.pointer (some ⟨pb,0,none⟩))) (jN f s rows) (sG f s rows)/\w3.heap[w.heap.size]? = some (.cells #[.int .i64 0,.int .i64 0,.slice none 0 0,.slice none 0 0] 25 (0,0))/\pb≠w.heap.size):=by
      refine⟨?_,oW,hpb⟩;rw[HC.out.1,HC.out.2];exact .inr (.inr ⟨pb,mm,hmm,rfl,zz0,zz1,hcm⟩)
     clear hb3 zz0 zz1 hcm vY oW hpb;go_wp2;obtain⟨Z,hZ⟩:∃ Z,Z=((((w3.setCell ⟨w.heap.size,0,none⟩ (.int .i64 0)).setCell ⟨w.heap.size,1,none⟩ (.int .i64 0)).setCell ⟨w.heap.size,2,none⟩ (.slice none 0 0)).setCell ⟨w.heap.size,3,none⟩ (.slice none 0 0)):=⟨_,rfl⟩;rw[<-hZ];have kQ:Z.heap[w.heap.size]? = some (.cells #[.int .i64 0,.int .i64 0,.slice none 0 0,.slice none 0 0] 25 (0,0)):=by rw[hZ];exact om J4.out.2.1 _ _ _ _
     have hzb:Below w.heap.size w Z:=by rw[hZ];exact gH HB3.out (Nat.le_refl _) _ _ _ _
     have hfz:bB ea Z (.iface 118 (.pointer (some ⟨pb,0,none⟩))) (jN f s rows) (sG f s rows):=by
      have hcl:∀ o,Z.cell? ⟨pb,o,none⟩=w3.cell? ⟨pb,o,none⟩:=fun o=>by
       have:Z.heap[pb]? = w3.heap[pb]?:=by
        rw[hZ,Below.heap_setCell _ _ _ _ J4.out.2.2,Below.heap_setCell _ _ _ _ J4.out.2.2,Below.heap_setCell _ _ _ _ J4.out.2.2,Below.heap_setCell _ _ _ _ J4.out.2.2]
       simp[World.cell?,this]
      rcases J4.out.1 with⟨h,_⟩|⟨m,_,h,_⟩|⟨pb',m,hm,h,c0,c1,hc⟩
      ·cases h
      ·simp at h
      ·obtain rfl:pb=pb':=by simpa using h
       exact .inr (.inr ⟨pb,m,hm,rfl,(hcl 0).trans c0,(hcl 1).trans c1,hc⟩)
     have z0:Z.cell? ⟨w.heap.size,0,none⟩=some (.int .i64 0):=ak kQ 0;have z1:Z.cell? ⟨w.heap.size,1,none⟩=some (.int .i64 0):=ak kQ 1;have z2:Z.cell? ⟨w.heap.size,2,none⟩=some (.slice none 0 0):=ak kQ 2;have z3:Z.cell? ⟨w.heap.size,3,none⟩=some (.slice none 0 0):=ak kQ 3;clear hZ kQ;refine bodyPost_ret (v:=.tuple #[.agg #[.int .i64 0,.int .i64 0,.slice none 0 0,.slice none 0 0],.iface 118 (.pointer (some ⟨pb,0,none⟩))]) (by simp[results,Tryz.results15,go_sem,z0,z1,z2,z3]) rfl ?_;exact⟨_,hzb,hfz,.inr ⟨fun h=>TY.out (HC.out.1.symm.trans h),rfl⟩⟩
   ·obtain rfl:k=n:=by have:=HM.out.le;have:=HN.out;omega
    obtain⟨hC,hA⟩:=Ev (f:=f) (s:=s) (rows:=rows) (by rw[HN.out];exact wY.out) (by rw[HN.out];exact HM.out.ok);have HC:=(show Hid _ from And.intro hC hA);have WK:=HM.out.two;have zu:rows.take k=rows:=List.take_of_length_le (by rw[HN.out];omega);have Aj:=(show Hid _ from zu);have hblk:=WK.blk;generalize hg1:((full (rows.take k)).map Prod.fst).length=n1 at *;generalize hg2:((full (rows.take k)).map fun r=>iL r.2).length=n2 at *;have HG:=(show Hid _ from And.intro hg1 hg2);have t0:wr.cell? ⟨tb,0,none⟩=some (.int .i64 f):=ak hblk 0;have t1:wr.cell? ⟨tb,1,none⟩=some (.int .i64 s):=ak hblk 1;have t2:wr.cell? ⟨tb,2,none⟩=some (.slice a1 n1 c1):=ak hblk 2;have t3:wr.cell? ⟨tb,3,none⟩=some (.slice a2 n2 c2):=ak hblk 3;have p0:wr.cell? ⟨w.heap.size,0,none⟩=some (.int .i64 0):=ak HM.out.res 0;have p1:wr.cell? ⟨w.heap.size,1,none⟩=some (.int .i64 0):=ak HM.out.res 1;have p2:wr.cell? ⟨w.heap.size,2,none⟩=some (.slice none 0 0):=ak HM.out.res 2;have p3:wr.cell? ⟨w.heap.size,3,none⟩=some (.slice none 0 0):=ak HM.out.res 3;have pf:∀ k,wr.frozen? ⟨w.heap.size,k,none⟩=false:=fun k=>by simp[World.frozen?,HM.out.res]
    have HTW:=(show Hid _ from WK);have hge:(k:Int)<=(k:Int):=Int.le_refl _;clear hC hA zu hg1 hg2 hblk WK;go_wp2;obtain⟨Z,hZ⟩:∃ Z,Z=((((wr.setCell ⟨w.heap.size,0,none⟩ (.int .i64 f)).setCell ⟨w.heap.size,1,none⟩ (.int .i64 s)).setCell ⟨w.heap.size,2,none⟩ (.slice a1 n1 c1)).setCell ⟨w.heap.size,3,none⟩ (.slice a2 n2 c2)):=⟨_,rfl⟩;rw[<-hZ];have kQ:Z.heap[w.heap.size]? = some (.cells #[.int .i64 f,.int .i64 s,.slice a1 n1 c1,.slice a2 n2 c2] 25 (0,0)):=by rw[hZ];exact om HM.out.res _ _ _ _
    have hzb:Below w.heap.size w Z:=by rw[hZ];exact gH HM.out.aM (Nat.le_refl _) _ _ _ _
    have z0:Z.cell? ⟨w.heap.size,0,none⟩=some (.int .i64 f):=ak kQ 0;have z1:Z.cell? ⟨w.heap.size,1,none⟩=some (.int .i64 s):=ak kQ 1;have z2:Z.cell? ⟨w.heap.size,2,none⟩=some (.slice a1 n1 c1):=ak kQ 2;have z3:Z.cell? ⟨w.heap.size,3,none⟩=some (.slice a2 n2 c2):=ak kQ 3;have o1:Z.ownsRow w.heap.size 9 1 (.slice a1 n1 c1) (full rows).length (((full rows).map Prod.fst).map encStr):=by
     have h:=dD (b:=w.heap.size) HTW.out.lZ (by omega);rw[hZ];rw[Aj.out] at h;rw[List.length_map] at h;exact kS h HM.out.res (by decide) _ _ _ _
    have o2:Z.ownsRow w.heap.size 9 1 (.slice a2 n2 c2) (full rows).length (((full rows).map fun r=>iL r.2).map encStr):=by
     have h:=dD (b:=w.heap.size) HTW.out.mO (by omega);rw[hZ];rw[Aj.out] at h;rw[List.length_map] at h;exact kS h HM.out.res (by decide) _ _ _ _
    clear hZ kQ;refine bodyPost_ret (v:=.tuple #[.agg #[.int .i64 f,.int .i64 s,.slice a1 n1 c1,.slice a2 n2 c2],.nilIface]) (by simp[results,Tryz.results15,go_sem,z0,z1,z2,z3]) rfl ?_;exact⟨_,hzb,.inl ⟨rfl,HC.out.1⟩,.inl ⟨HC.out.1,_,_,rfl,o1,o2⟩⟩
end Go.Proofs.YtdlceolmpcjjiaaGreatDoor
namespace Go.Proofs.YtdlceolmpcjjiaaGreatDoor
open Go.RowKit Go.Maps bT
def lU:List (List UInt8×List (Int×Nat))->List UInt8->List (Int×Nat)
 | [],_=>[]
 | r::l,k=>if r.1=k then r.2 else lU l k
theorem F7:∀ {l:List (List UInt8×List (Int×Nat))} {k:List UInt8},(∀ j (hj:j<l.length),l[j].1≠k)->lU l k = []
 | [],_,_=>rfl
 | r::l,k,h=>by
  have h0:r.1≠k:=h 0 (by simp);rw[lU,if_neg h0];exact F7 fun j hj=>by have:=h (j+1) (by simp;omega);simpa using this
theorem Nj:∀ {l:List (List UInt8×List (Int×Nat))} {k:List UInt8} {i:Nat} (hi:i<l.length),(∀ j (hj:j<l.length),j<i->l[j].1≠k)->l[i].1=k->lU l k=l[i].2
 | [],_,_,hi,_,_=>by simp at hi
 | r::l,k,0,_,_,h=>by
  have:r.1=k:=h;rw[lU,if_pos this];rfl
 | r::l,k,i+1,hi,h1,h=>by
  have h0:r.1≠k:=h1 0 (by simp) (by omega);rw[lU,if_neg h0];exact Nj (i:=i) (by simpa using hi) (fun j hj hji=>by have:=h1 (j+1) (by simp;omega) (by omega);simpa using this) (by simpa using h)
theorem zQ {B:Nat} {ea:Nat->Addr} (w:World) (E:oh B ea w) (hB:B<=w.heap.size) (f s:Int) (b1 b2:Nat) (v1 v2:Value) (ss cs:List (List UInt8)) (h1:w.ownsRow b1 9 1 v1 ss.length (ss.map encStr)) (h2:w.ownsRow b2 9 1 v2 cs.length (cs.map encStr)) (hss:∀ x,x∈ss->x.length<=100000) (hcs:∀ x,x∈cs->x.length<=10000) (hn:ss.length<=100000) (hm:cs.length<=100000) :
  Calls Tryz.prog 30 #[.agg #[.int .i64 f,.int .i64 s,v1,v2]] w fun e w'=>∃ v,e = .returned v/\Below w.heap.size w w'/\bB ea w' v (eZ f s ss cs) (kG f s ss cs):=by
 obtain⟨a1,c1,rfl⟩:=aW h1;obtain⟨a2,c2,rfl⟩:=aW h2;obtain⟨W,hW⟩:∃ W,W=w.alloc (.cells #[.int .i64 f,.int .i64 s,.slice a1 ss.length c1,.slice a2 cs.length c2] 25):=⟨_,rfl⟩;have hbW:Below w.heap.size w W:=by rw[hW];exact (Below.refl _ _).alloc (Nat.le_refl _) _
 have hx:W.heap[w.heap.size]? = some (.cells #[.int .i64 f,.int .i64 s,.slice a1 ss.length c1,.slice a2 cs.length c2] 25 (0,0)):=by rw[hW];exact heap_alloc_new _ _
 have x0:W.cell? ⟨w.heap.size,0,none⟩=some (.int .i64 f):=ak hx 0;have x1:W.cell? ⟨w.heap.size,1,none⟩=some (.int .i64 s):=ak hx 1;have x2:W.cell? ⟨w.heap.size,2,none⟩=some (.slice a1 ss.length c1):=ak hx 2;have x3:W.cell? ⟨w.heap.size,3,none⟩=some (.slice a2 cs.length c2):=ak hx 3;have HR:=(show Hid _ from xJ W (E.below hbW hB) (Nat.le_trans hB hbW.size) f s b1 b2 _ _ ss cs (dB h1 fun g hg=>hbW.block g (bE h1 hg).2.1) (dB h2 fun g hg=>hbW.block g (bE h2 hg).2.1) hss hcs hn hm);have HW:=(show Hid _ from hW);have cZ:=(show Hid _ from hbW);generalize hnn:ss.length=n at *;generalize hmm:cs.length=m at *;clear hW hbW hx E h1 h2 hss hcs hnn hmm;go_enter Tryz.func30,Tryz.ntmps30;go_upto_region 1 with fail;rw[<-HW.out];go_wp2_with fail;refine Calls.mono HR.out ?_;rintro e w1 ⟨x,v,rfl,hb1,hf1,_,_⟩;have HB1:=(show Hid _ from cZ.out.trans (hb1.mono cZ.out.size));have y7:=(show Hid _ from hf1);clear hb1 hf1;go_wp2;go_ret;exact⟨v,rfl,HB1.out,y7.out⟩
def abW (ea:Nat->Addr) (w w':World) (f s:Int) (ss cs:List (List UInt8)) (nm:List UInt8) (lo hi:Int) (e:Ending):Prop:=
 ∃ x v,e = .returned (.tuple #[x,v])/\Below w.heap.size w w'/\bB ea w' v (eZ f s ss cs) (kG f s ss cs)/\(eZ f s ss cs≠0->x = .slice none 0 0) /\
  (eZ f s ss cs=0->w'.ownsRow w.heap.size 71 2 x (aY lo hi (lU (rowsOf ss cs) nm)).length (aG (aY lo hi (lU (rowsOf ss cs) nm))))
theorem Nk {B:Nat} {ea:Nat->Addr} (w:World) (E:oh B ea w) (hB:B<=w.heap.size) (f s:Int) (b1 b2:Nat) (v1 v2:Value) (ss cs:List (List UInt8)) (h1:w.ownsRow b1 9 1 v1 ss.length (ss.map encStr)) (h2:w.ownsRow b2 9 1 v2 cs.length (cs.map encStr)) (hss:∀ x,x∈ss->x.length<=100000) (hcs:∀ x,x∈cs->x.length<=10000) (hn:ss.length<=100000) (hm:cs.length<=100000) (nm:ByteArray) (lo hi:Int) :
  Calls Tryz.prog 19 #[.agg #[.int .i64 f,.int .i64 s,v1,v2],.string nm,.int .i64 lo,.int .i64 hi] w fun e w'=>abW ea w w' f s ss cs nm.data.toList lo hi e:=by
 obtain⟨a1,c1,rfl⟩:=aW h1;obtain⟨a2,c2,rfl⟩:=aW h2;obtain⟨W,hW⟩:∃ W,W=w.alloc (.cells #[.int .i64 f,.int .i64 s,.slice a1 ss.length c1,.slice a2 cs.length c2] 25):=⟨_,rfl⟩;have hbW:Below w.heap.size w W:=by rw[hW];exact (Below.refl _ _).alloc (Nat.le_refl _) _
 have hx:W.heap[w.heap.size]? = some (.cells #[.int .i64 f,.int .i64 s,.slice a1 ss.length c1,.slice a2 cs.length c2] 25 (0,0)):=by rw[hW];exact heap_alloc_new _ _
 have x0:W.cell? ⟨w.heap.size,0,none⟩=some (.int .i64 f):=ak hx 0;have x1:W.cell? ⟨w.heap.size,1,none⟩=some (.int .i64 s):=ak hx 1;have x2:W.cell? ⟨w.heap.size,2,none⟩=some (.slice a1 ss.length c1):=ak hx 2;have x3:W.cell? ⟨w.heap.size,3,none⟩=some (.slice a2 cs.length c2):=ak hx 3;have HR:=(show Hid _ from xJ W (E.below hbW hB) (Nat.le_trans hB hbW.size) f s b1 b2 _ _ ss cs (dB h1 fun g hg=>hbW.block g (bE h1 hg).2.1) (dB h2 fun g hg=>hbW.block g (bE h2 hg).2.1) hss hcs hn hm);have HW:=(show Hid _ from hW);have cZ:=(show Hid _ from hbW);have HNS:=(show Hid _ from hn);clear hW hbW hx E h1 h2 hss hcs;go_enter Tryz.func19,Tryz.ntmps19;go_upto_region 1 with fail;rw[<-HW.out];go_wp2_with fail;refine Calls.mono HR.out ?_;rintro e w1 ⟨x,v,rfl,hb1,hf1,hok1,WL⟩;have HB1:=(show Hid _ from cZ.out.trans (hb1.mono cZ.out.size));have y7:=(show Hid _ from hf1);clear hb1 HR x0 x1 x2 x3;by_cases hz:eZ f s ss cs=0
 ·have hv:=hf1.none hz;subst hv;obtain⟨xs,hown,hrc⟩:=hok1 hz;have hlen:(rowsOf ss cs).length=ss.length:=mD (lF hz).2.2.1;have hpl:∀ r,r∈rowsOf ss cs->r.2.length<=120:=fun r hr=>(fE ((xQ hz).2.1.each r hr).2.1).1
  rw[<-hlen] at hown;obtain⟨la,cc,rfl,hP⟩:=BJ hown hrc;have HP:=(show Hid _ from And.intro hP hpl);have HZ:=(show Hid _ from hz);generalize hrows:rowsOf ss cs=rows at *;have hn2:rows.length<=100000:=by omega
  generalize hrn:rows.length=rn at *;have mW:=(show Hid _ from hrn);have HRW:=(show Hid _ from hrows);clear hown hrc hlen hpl hP hok1 WL hf1 hz hrn hrows hn hm HNS;go_wp2_with fail;go_loopw [24] (fun i wr=>∃ k:Nat,k<=rn/\i = .int .i64 (k:Int)/\Below w1.heap.size w1 wr/\∀ j (hj:j<rows.length),j<k->rows[j].1≠nm.data.toList) (fun i _=>rn-(intOf i).toNat);case atStart=>exact⟨0,Nat.zero_le _,rfl,Below.refl _ _,fun j _ h=>absurd h (Nat.not_lt_zero _)⟩
  case round=>
   obtain⟨k,hk,rfl,hbr,hne⟩:=hrel;have bK:=(show Hid _ from hbr);have C9:=(show Hid (∀ j (hj:j<rows.length),j<k->rows[j].1≠nm.data.toList) from hne);clear hbr hne;by_cases hkn:k<rn
   ·have hkr:k<rows.length:=by rw[mW.out];exact hkn
    rcases HP.out.1 with h0 | ⟨b,o,rfl,hcs⟩
    ·rw[h0] at hkr;exact absurd hkr (Nat.not_lt_zero _)
    obtain⟨e1,A,C,e2,hpt⟩:=hcs k hkr;have hbl:b<w1.heap.size:=World.block_lt_of_cell? w1 ⟨b,_,none⟩ e1;have hlp:=HP.out.2 _ (List.getElem_mem hkr);obtain⟨xk,hxk⟩:∃ xk:ByteArray,xk=⟨(rows[k].1).toArray⟩:=⟨_,rfl⟩;have q1:wr.cell? ⟨b,o+k*2,none⟩=some (.string xk):=by rw[hxk];exact (bK.out.cell (p:=⟨b,_,none⟩) hbl).trans e1
    have q2:wr.cell? ⟨b,o+k*2+1,none⟩=some (.slice A rows[k].2.length C):=(bK.out.cell (p:=⟨b,_,none⟩) hbl).trans e2;have k0:(0:Int)<=(k:Int):=by omega
    have k1:(k:Int)<(rn:Int):=by omega
    have pq:Below w1.heap.size w1 (wr.alloc (.cells #[.string xk,.slice A rows[k].2.length C] 61)):=bK.out.alloc bK.out.size _;have gY:=(show Hid _ from pq);have vR:=(show Hid _ from CF (wr.alloc (.cells #[.string xk,.slice A rows[k].2.length C] 61)) A C rows[k].2 lo hi (hpt.below pq) (by omega));have Us:=(show Hid _ from hxk);have hw1:=HB1.out.size;have hwr:=bK.out.size;generalize hlk:rows[k].2.length=nk at *;clear e1 e2 hpt pq hxk hlk hcs;by_cases hxe:xk=nm
    ·have hxq:(xk.toList==nm.toList)=true:=by rw[hxe];simp
     have HO:Hid (lU rows nm.data.toList=rows[k].2):=Nj hkr C9.out (by rw[<-hxe,Us.out]);clear hxe;go_wp2_with fail;refine Calls.mono vR.out ?_;rintro e w2 ⟨y,rfl,hown2,hb2⟩;have HB2:=(show Hid _ from HB1.out.trans ((gY.out.trans (hb2.mono gY.out.size)).mono hw1));have jO:Hid (w2.ownsRow w.heap.size 71 2 y (aY lo hi (lU rows nm.data.toList)).length (aG (aY lo hi (lU rows nm.data.toList)))):=by
      show World.ownsRow _ _ _ _ _ _ _;rw[HO.out];exact dD hown2 (by have:=gY.out.size;omega)
     clear hown2 hb2;go_wp2;go_ret2;refine⟨y,_,rfl,HB2.out,.inl ⟨rfl,HZ.out⟩,fun h=>absurd HZ.out h,fun _=>?_⟩;rw[HRW.out];exact jO.out
    ·have hxq:(xk.toList==nm.toList)=false:=by
      rw[beq_eq_false_iff_ne];intro h;rw[ByteArray.toList_eq,ByteArray.toList_eq] at h;exact hxe (ByteArray.ext (Array.ext' h))
     have fB:Hid (∀ j (hj:j<rows.length),j<k+1->rows[j].1≠nm.data.toList):=fun j hj hjk=>by
      rcases Nat.lt_or_ge j k with h | h
      ·exact C9.out j hj h
      ·obtain rfl:j=k:=by omega
       intro e;apply hxe;rw[Us.out];apply ByteArray.ext;apply Array.ext';simpa using e
     clear hxe;go_wp2;go_roundw;case rel=>exact⟨k+1,by omega,by go_num,gY.out,fB.out⟩
     case measure=>simp[intOf]<;>omega
   ·have hge:(rn:Int)<=(k:Int):=by omega
    have HO:Hid (lU rows nm.data.toList = []):=F7 fun j hj=>C9.out j hj (by have:=mW.out;omega)
    go_wp2;go_ret2;refine⟨_,_,rfl,HB1.out.trans (bK.out.mono HB1.out.size),.inl ⟨rfl,HZ.out⟩,fun h=>absurd HZ.out h,fun _=>?_⟩;rw[HRW.out,HO.out];exact⟨rfl,.inl ⟨rfl,rfl⟩⟩
 ·obtain⟨t,p,hv⟩:=hf1.pos hz;have hx:=WL hz;have HZ:=(show Hid _ from hz);subst hv hx;clear hf1 hok1 WL hz;go_wp2;go_ret2;exact⟨_,_,rfl,HB1.out,y7.out,fun _=>rfl,fun h=>absurd h HZ.out⟩
end Go.Proofs.YtdlceolmpcjjiaaGreatDoor
