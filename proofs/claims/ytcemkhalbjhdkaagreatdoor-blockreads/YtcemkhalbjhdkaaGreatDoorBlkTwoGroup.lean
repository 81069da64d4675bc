import Derived.Test.YtcemkhalbjhdkaaGreatDoorBlkRowsGroup
import Derived.Deep.RegionLaw
import Derived.Deep.AppendLies
import Derived.Deep.RegionHeld
import Derived.Test.YtcemkhalbjhdkaaGreatDoorPtListGroup
import Derived.Sort.EncStr
namespace Go.Proofs.YtcemkhalbjhdkaaGreatDoor
open Go.RowKit dQ
def Om (w:World) (la:Option Addr) (rows:List (List UInt8×List (Int×Nat))):Prop:=
 rows = []\/∃ b o,la=some ⟨b,o,none⟩/\∀ k (hk:k<rows.length),w.cell? ⟨b,o+k*2,none⟩=some (encStr rows[k].1)/\∃ A C,w.cell? ⟨b,o+k*2+1,none⟩=some (.slice A rows[k].2.length C)/\oH w A rows[k].2
end Go.Proofs.YtcemkhalbjhdkaaGreatDoor
namespace Go.Proofs.YtcemkhalbjhdkaaGreatDoor
section
variable {P:Program} {ops:Array Oper} {Q:Exit->Act->World->Prop} {md:Region.Mode} {S:World->Prop} {st:Nat}
abbrev Tg (S:World->Prop) (st i:Nat) (up:Array Bool) (w:World):Prop:=i≠st->up.getD st true=false->S w
def wpAnyS (P:Program) (md:Region.Mode) (ops:Array Oper) (Q:Exit->Act->World->Prop) (S:World->Prop) (st:Nat):Nat->Array Bool->Act->World->Prop
 | 0,up,a,w=>Region.ready md ops up = []/\Q .normal a w
 | n+1,up,a,w=>(Region.ready md ops up = []->Q .normal a w)/\∀ i∈Region.ready md ops up,wpOp P ops Q i (fun b z=>Tg S st i up z/\wpAnyS P md ops Q S st n (up.setIfInBounds i true) b z) a w
theorem Ol (n:Nat):∀ (up:Array Bool) (a:Act) (w:World),wpAnyS P md ops Q S st n up a w->wpAny P md ops Q n up a w:=by
 induction n with
 | zero=>exact fun _ _ _ h=>h
 | succ n ih=>exact fun up _ _ h=>And.imp_right (fun g i hi=>wpOp_mono (fun b z k=>ih _ b z k.2) (g i hi)) h
theorem Wj {up:Array Bool} {i:Nat}:(up.setIfInBounds i true).getD i true=true:=by
 rcases Nat.lt_or_ge i up.size with h | h<;>simp[h]
theorem Yx {up:Array Bool} {i:Nat} (h:up.getD i true=false):up.getD i false=false:=by
 rcases Nat.lt_or_ge i up.size with g | g
 ·simpa [g] using h
 ·simp[g]
def waitsFor (md:Region.Mode) (ops:Array Oper) (st i:Nat):Bool:=match ops[st]? with
 | some o=>o.after.toList.any fun e=>Region.binds md e&&e.on==i
 | none=>false
theorem Gy {i j:Nat} {up:Array Bool} {o:Oper} (ho:ops[j]? = some o) (hw:∃ e∈o.after,Region.binds md e=true/\e.on=i) (hi:up.getD i true=false):j∉Region.ready md ops up:=fun hr=>by
 obtain⟨_,o',ho',hall⟩:=mem_ready.1 hr;obtain rfl:o'=o:=Option.some.inj (ho'.symm.trans ho);obtain⟨e,he,hb,rfl⟩:=hw;have:=hall e he hb;rw[Yx hi] at this;cases this
theorem QA {i:Nat} {up:Array Bool} (hw:waitsFor md ops st i=true) (hi:up.getD i true=false):st∉Region.ready md ops up:=by
 unfold waitsFor at hw;split at hw
 ·rename_i o ho;obtain⟨e,he,hb⟩:=List.any_eq_true.1 hw;simp only[Bool.and_eq_true,beq_iff_eq] at hb;exact Gy ho ⟨e,by simpa using he,hb.1,hb.2⟩ hi
 ·cases hw
theorem AP {i:Nat} {oi:Oper} {v:Value} (wt:Bool) (hi:ops[i]? = some oi) (hs:Region.noSelect ops=true) (hne:st≠i) (hQ:∀ c a w,Q (.panic c) (a.put oi.dst v) w->Q (.panic c) a w)
  (hw:wt=true->waitsFor md ops st i=true) (n:Nat):∀ (up:Array Bool) (a:Act) (w:World),
   (∀ j oj,ops[j]? = some oj->j≠i->up.getD j true=false->(∀ e∈oj.after,Region.binds md e=true->e.on≠i)->oi.apart ops oj=true) ->
   i∈Region.ready md ops up->YieldsIf P ops (fun z=>wt=true->S z) oi v a->(wt=true->up.getD st true=false)->(up.getD st true=false->S w) ->
   wpAnyS P md ops Q S st n (up.setIfInBounds i true) (a.put oi.dst v) w->wpAnyS P md ops Q S st (n+1) up a w:=by
 induction n with
 | zero=>
  refine fun up a w _ hr hy h1 h2 rest=>⟨fun e=>absurd hr (by rw[e];exact List.not_mem_nil),fun j hj=>?_⟩
  rcases Decidable.em (j=i) with rfl | hji
  ·exact hy.wpOp hi (fun h=>h2 (h1 h)) ⟨fun _=>h2,rest⟩
  ·exact absurd (ready_mono hj hji) (by rw[rest.1];exact List.not_mem_nil)
 | succ n ih=>
  refine fun up a w hap hr hy h1 h2 rest=>⟨fun e=>absurd hr (by rw[e];exact List.not_mem_nil),fun j hj=>?_⟩
  rcases Decidable.em (j=i) with rfl | hji
  ·exact hy.wpOp hi (fun h=>h2 (h1 h)) ⟨fun _=>h2,rest⟩
  have hiu:=(mem_ready.1 hr).1;obtain⟨WM,oj,hoj,_⟩:=mem_ready.1 hj;have hnw:∀ e∈oj.after,Region.binds md e=true->e.on≠i:=fun e he hb hon=>Gy hoj ⟨e,he,hb,hon⟩ hiu hj
  have hus:(up.setIfInBounds i true).getD st true=up.getD st true:=getD_set_ne true (Ne.symm hne);have key:=wpOp_putIf hoj (hap j oj hoj hji WM hnw) (fun cs b=>Region.noSelect_spec hs i oi cs b hi) (fun cs b=>Region.noSelect_spec hs j oj cs b hoj) hQ hy (rest.2 j (ready_mono hj hji));refine wpOp_mono (fun b z k=>?_) key;obtain⟨hyz,U7,hgo⟩:=k;have hz:(up.setIfInBounds j true).getD st true=false->S z:=fun hst=>by
   rcases Decidable.em (j=st) with rfl | hjs
   ·rw[Wj] at hst;cases hst
   ·exact U7 hjs (by rw[hus,<-getD_set_ne true hjs];exact hst)
  refine⟨fun hjs hst=>U7 hjs (by rw[hus];exact hst),ih _ b z (fun q oq hq hqi hqu UG=>hap q oq hq hqi ?_ UG) (ready_mono hr (Ne.symm hji)) hyz (fun h=>?_) hz ?_⟩
  ·rcases Decidable.em (j=q) with rfl | hjq
   ·exact WM
   ·rwa [getD_set_ne true hjq] at hqu
  ·have hjs:j≠st:=fun e=>QA (hw h) hiu (by rw[<-e];exact hj)
   rw[getD_set_ne true hjs];exact h1 h
  ·rw[Array.setIfInBounds_comm _ _ hji];exact hgo
theorem fu {i:Nat} {oi:Oper} {v:Value} {n:Nat} {up:Array Bool} {a:Act} {w:World} (hi:ops[i]? = some oi) (hs:Region.noSelect ops=true) (hf:Region.free md ops up i=true) (hr:(Region.ready md ops up).contains i=true) (hw:waitsFor md ops st i=true) (hne:(st==i)=false) (hst:up.getD st true=false)
  (hQ:∀ c a w,Q (.panic c) (a.put oi.dst v) w->Q (.panic c) a w) (hy:YieldsIf P ops S oi v a) (hS:S w) (h:wpAnyS P md ops Q S st n (up.setIfInBounds i true) (a.put oi.dst v) w):wpAnyS P md ops Q S st (n+1) up a w:=
 AP true hi hs (by simpa using hne) hQ (fun _=>hw) n up a w (Region.free_spec hi hf) (by simpa using hr) (hy.imp (fun g=>⟨g.1,fun z hz=>g.2 z (hz rfl)⟩) id) (fun _=>hst) (fun _=>hS) h
theorem bq {i:Nat} {oi:Oper} {v:Value} {n:Nat} {up:Array Bool} {a:Act} {w:World} (hi:ops[i]? = some oi) (hs:Region.noSelect ops=true) (hf:Region.free md ops up i=true) (hr:(Region.ready md ops up).contains i=true) (hne:(st==i)=false)
  (hQ:∀ c a w,Q (.panic c) (a.put oi.dst v) w->Q (.panic c) a w) (hy:YieldsIf P ops (fun _=>True) oi v a) (hS:up.getD st true=false->S w) (h:wpAnyS P md ops Q S st n (up.setIfInBounds i true) (a.put oi.dst v) w):wpAnyS P md ops Q S st (n+1) up a w:=
 AP false hi hs (by simpa using hne) hQ (fun e=>by cases e) n up a w (Region.free_spec hi hf) (by simpa using hr) (hy.imp (fun g=>⟨g.1,fun z _=>g.2 z trivial⟩) id) (fun e=>by cases e) hS h
def aD (P:Program) (md:Region.Mode) (ops:Array Oper) (Q:Exit->Act->World->Prop) (S:World->Prop) (st n:Nat) (up:Array Bool) (a:Act) (w:World) (rs:List Nat):Prop:=
 ∀ i∈rs,wpOp P ops Q i (fun b z=>Tg S st i up z/\wpAnyS P md ops Q S st n (up.setIfInBounds i true) b z) a w
theorem aD.nil {n:Nat} {up:Array Bool} {a:Act} {w:World}:aD P md ops Q S st n up a w []:=fun _ h=>absurd h List.not_mem_nil
theorem aD.step {n:Nat} {up:Array Bool} {a:Act} {w:World} {i:Nat} {o:Oper} {rs:List Nat} (ho:ops[i]? = some o)
  (h:∀ K:Act->World->Prop,Shut (∀ b z,Tg S st i up z->wpAnyS P md ops Q S st n (up.setIfInBounds i true) b z->K b z)->if Region.wanted o (yielded ops a.tmps)=true then Oper.wp P o a w K Q else K (a.put o.dst undef) w)
  (hs:aD P md ops Q S st n up a w rs):aD P md ops Q S st n up a w (i::rs):=fun j hj=>(List.mem_cons.1 hj).elim (fun e=>by
   rw[e];exact wpOp_step ho fun K hK=>h K fun b z h1 h2=>hK b z ⟨h1,h2⟩) (hs j)
theorem aD.cons {n:Nat} {up:Array Bool} {a:Act} {w:World} {i:Nat} {o:Oper} {rs:List Nat} (ho:ops[i]? = some o)
  (h:∀ K:Act->World->Prop,Shut (∀ b z,S z->wpAnyS P md ops Q S st n (up.setIfInBounds i true) b z->K b z)->if Region.wanted o (yielded ops a.tmps)=true then Oper.wp P o a w K Q else K (a.put o.dst undef) w)
  (hs:aD P md ops Q S st n up a w rs):aD P md ops Q S st n up a w (i::rs):=.step ho (fun K hK=>h K fun b z h1 h2=>hK.out b z (fun _ _=>h1) h2) hs
theorem aD.last {n:Nat} {up:Array Bool} {a:Act} {w:World} {i:Nat} {o:Oper} {rs:List Nat} (ho:ops[i]? = some o) (hst:(i==st||up.getD st true)=true)
  (h:∀ K:Act->World->Prop,Shut (∀ b z,wpAnyS P md ops Q S st n (up.setIfInBounds i true) b z->K b z)->if Region.wanted o (yielded ops a.tmps)=true then Oper.wp P o a w K Q else K (a.put o.dst undef) w)
  (hs:aD P md ops Q S st n up a w rs):aD P md ops Q S st n up a w (i::rs):=.step ho (fun K hK=>h K fun b z h2=>hK.out b z (fun h3 h4=>by
   rw[h4] at hst;exact absurd (by simpa using hst) h3) h2) hs
theorem kI {up:Array Bool} {a:Act} {w:World} (hr:Region.ready md ops up = []) (h:Q .normal a w) (n:Nat):wpAnyS P md ops Q S st n up a w:=by
 cases n with
 | zero=>exact⟨hr,h⟩
 | succ n=>exact⟨fun _=>h,fun i hi=>absurd hi (by rw[hr];exact List.not_mem_nil)⟩
theorem aR {rs:List Nat} {n:Nat} {up:Array Bool} {a:Act} {w:World} (hr:Region.ready md ops up=rs) (hne:rs ≠ []) (h:aD P md ops Q S st n up a w rs):wpAnyS P md ops Q S st (n+1) up a w:=
 ⟨fun e=>absurd (hr.symm.trans e) hne,fun i hi=>h i (hr ▸ hi)⟩
theorem sH {id:Nat} {a:Act} {w:World} (hm:P.follows .mixedOrders=true) (st:Nat) (hS:S w.drew) (h:S w.drew->wpAnyS P .any ops Q S st ops.size (Array.replicate ops.size false) a w.drew):(Code.region id ops true).wp P Q a w:=wp_region_any hm (Ol _ _ _ _ (h hS))
end
end Go.Proofs.YtcemkhalbjhdkaaGreatDoor
set_option maxRecDepth 1000000
set_option maxHeartbeats 8000000
namespace Go.Proofs.YtcemkhalbjhdkaaGreatDoor
open Go.RowKit Go.Maps dQ
structure oF (Y z:World) (v:Value) (g:Nat):Prop where
 os:z.os=Y.os
 tape:z.tape=Y.tape
 output:z.output=Y.output
 size:Y.heap.size<=z.heap.size
 blk:∀ q,q<Y.heap.size->v.ownBlock≠some q->z.heap[q]? = Y.heap[q]?
 at':v.ownBlock=some g\/g=Y.heap.size
theorem oF.below {Y z:World} {v:Value} {g b:Nat} (h:oF Y z v g) (hb:b<=Y.heap.size) (hv:∀ q,v.ownBlock=some q->b<=q):Below b Y z:=
 ⟨h.os,h.tape,h.output,h.size,fun q hq=>h.blk q (by omega) (fun e=>by have:=hv q e;omega)⟩
theorem Ti {w:World} {b:Nat} {v:Value} {t:TypeId} {fr:Nat×Nat} (h:w.heap[b]? = some (.cells #[v] t fr)):∀ j u,[v][j]? = some u->w.cell? ((⟨b,0,none⟩:Addr).add j)=some u:=World.news_of_block h
theorem sI (w:World) (o p:Obj):((w.alloc o).alloc p).heap[w.heap.size]? = some o:=by rw[Below.heap_alloc _ _ _ (by simp)];exact heap_alloc_new _ _
theorem sJ (w:World) (o p:Obj):((w.alloc o).alloc p).heap[w.heap.size+1]? = some p:=by have:=heap_alloc_new (w.alloc o) p;simpa using this
theorem QB {P:Program} {Y:World} {ops:Array Oper} {o:Oper} {a:Act} {K:Act->World->Prop} {Q:Exit->Act->World->Prop} {E:Prop} (hgd:o.guard=none) (s x:Operand) (t:TypeId)
  (ho:o.op = .call { callee:=.builtin .append,args:=#[s,x],argTypes:=#[t,t] }) (base:Nat) (e:TypeId) (i:TypeInfo) (z:Value) (bytes:Nat) (ht:P.underlying t=some (.slice e)) (hi:P.info? e=some i) (hz:i.zero=some z) (hsize:i.size=1) (hby:i.bytes=bytes) (hzs:z.cells.size=1)
  (v:Value) (n:Nat) (xs:List Value) (hs:a.eval s=v) (hown:Y.ownsRow base e 1 v n xs) (b:Nat) (u:Value) (t':TypeId) (fr:Nat×Nat) (hx:a.eval x = .slice (some ⟨b,0,none⟩) 1 1) (hnew:Y.heap[b]? = some (.cells #[u] t' fr)) (h1:u.oneCell'=true) (hn:n<=1000000) (hb:bytes<=100) (hbase:base<=Y.heap.size)
  (h:∀ g cap w',w'.ownsRow base e 1 (.slice (some ⟨g,0,none⟩) (n+1) cap) (n+1) (xs ++ [u])->oF Y w' v g->K (a.put o.dst (.slice (some ⟨g,0,none⟩) (n+1) cap)) w') :
  if Region.wanted o (yielded ops a.tmps)=true then Oper.wp P o a Y K Q else E:=by
 refine step_append_lies _ hgd s x t ho base e i z 1 bytes ht hi hz hsize hby hzs (by decide) v n xs hs hown ⟨b,0,none⟩ 1 1 [u] hx rfl (Ti hnew) (fun c hc=>by simp at hc;subst hc;exact h1) (by omega) (by unfold maxLen;omega) ?_ hbase _ rfl ?_
 ·have:(n+1)*bytes<=1000001*100:=Nat.mul_le_mul (by omega) hb;omega
 ·intro g cap w' ho' hg hat _;exact h g cap w' ho' ⟨hg.os,hg.tape,hg.output,hg.size,fun q hq hne=>hg.block q hq (fun e=>hne e.symm),hat⟩
theorem dz {w z:World} (h:Below w.heap.size w z) (o:Obj):Below w.heap.size w (z.alloc o):=h.alloc h.size o
theorem cO {w z:World} (h:Below w.heap.size w z):Below w.heap.size w z.drew:=h.trans ⟨rfl,rfl,rfl,Nat.le_refl _,fun _ _=>rfl⟩
theorem dS {w z:World} {base:Nat} {e:TypeId} {sz:Nat} {v:Value} {n:Nat} {xs:List Value} (h:w.ownsRow base e sz v n xs) (hb:Below w.heap.size w z):z.ownsRow base e sz v n xs:=dN h fun g hg=>hb.block g (bL h hg).2.1
theorem iH {P:Program} {Y:World} {ops:Array Oper} {o:Oper} {a:Act} {K:Act->World->Prop} {Q:Exit->Act->World->Prop} {E:Prop} (w2:World) (hgd:o.guard=none) (s x:Operand) (t:TypeId)
  (ho:o.op = .call { callee:=.builtin .append,args:=#[s,x],argTypes:=#[t,t] }) (base:Nat) (e:TypeId) (i:TypeInfo) (z:Value) (bytes:Nat) (ht:P.underlying t=some (.slice e)) (hi:P.info? e=some i) (hz:i.zero=some z) (hsize:i.size=1) (hby:i.bytes=bytes) (hzs:z.cells.size=1)
  (v:Value) (n:Nat) (xs:List Value) (hs:a.eval s=v) (hown:w2.ownsRow base e 1 v n xs) (hY:Below w2.heap.size w2 Y) (b:Nat) (u:Value) (t':TypeId) (fr:Nat×Nat) (hx:a.eval x = .slice (some ⟨b,0,none⟩) 1 1) (hnew:Y.heap[b]? = some (.cells #[u] t' fr)) (h1:u.oneCell'=true) (hn:n<=1000000) (hb:bytes<=100) (hbase:base<=w2.heap.size)
  (h:∀ g cap w',w'.ownsRow base e 1 (.slice (some ⟨g,0,none⟩) (n+1) cap) (n+1) (xs ++ [u])->oF Y w' v g->Below w2.heap.size w2 Y->K (a.put o.dst (.slice (some ⟨g,0,none⟩) (n+1) cap)) w') :
  if Region.wanted o (yielded ops a.tmps)=true then Oper.wp P o a Y K Q else E:=
 QB hgd s x t ho base e i z bytes ht hi hz hsize hby hzs v n xs hs (dS hown hY) b u t' fr hx hnew h1 hn hb (Nat.le_trans hbase hY.size) fun g cap w' h1 h2=>h g cap w' h1 h2 hY
theorem Tryz.infoStr3:(Tryz.prog.info? 9).map (fun i=>(i.zero,i.size,i.bytes))=some (some (.string ⟨#[]⟩),1,16):=by kernel_rfl
structure oK (wr:World) (base tb:Nat) (f s:Int) (u1 u2:Value) (ss cs:List (List UInt8)):Prop where
 blk:wr.heap[tb]? = some (.cells #[.int .i64 f,.int .i64 s,u1,u2] 25 (0,0))
 low:tb<base
 kD:wr.ownsRow base 9 1 u1 ss.length (ss.map encStr)
 lu:wr.ownsRow base 9 1 u2 cs.length (cs.map encStr)
 apart:∀ g,u1.ownBlock=some g->u2.ownBlock≠some g
theorem oK.below {wr z:World} {base tb:Nat} {f s:Int} {u1 u2:Value} {ss cs:List (List UInt8)} (h:oK wr base tb f s u1 u2 ss cs) (hb:Below wr.heap.size wr z):oK z base tb f s u1 u2 ss cs:=
 ⟨(hb.block _ (aV h.blk)).trans h.blk,h.low,dN h.kD fun g hg=>hb.block g (bL h.kD hg).2.1,dN h.lu fun g hg=>hb.block g (bL h.lu hg).2.1,h.apart⟩
theorem oK.more {w2 Y1 w7 Y2 w8:World} {base tb:Nat} {f s:Int} {u1 u2:Value} {ss cs:List (List UInt8)} (h:oK w2 base tb f s u1 u2 ss cs) {x y:List UInt8} {g7 fG g8 jd:Nat} (hbase:base<=w2.heap.size) (h1:Below w2.heap.size w2 Y1) (o7:w7.ownsRow base 9 1 (.slice (some ⟨g7,0,none⟩) (ss.length+1) fG) (ss.length+1) (ss.map encStr ++ [.string ⟨x.toArray⟩])) (G7:oF Y1 w7 u1 g7) (h2:Below w7.heap.size w7 Y2)
  (o8:w8.ownsRow base 9 1 (.slice (some ⟨g8,0,none⟩) (cs.length+1) jd) (cs.length+1) (cs.map encStr ++ [.string ⟨y.toArray⟩])) (G8:oF Y2 w8 u2 g8) :
  oK ((w8.setCell ⟨tb,2,none⟩ (.slice (some ⟨g7,0,none⟩) (ss.length+1) fG)).setCell ⟨tb,3,none⟩ (.slice (some ⟨g8,0,none⟩) (cs.length+1) jd)) base tb f s (.slice (some ⟨g7,0,none⟩) (ss.length+1) fG) (.slice (some ⟨g8,0,none⟩) (cs.length+1) jd) (ss ++ [x]) (cs ++ [y])/\w8.heap[tb]? = some (.cells #[.int .i64 f,.int .i64 s,u1,u2] 25 (0,0))/\Below base w2 w8:=by
 have hlow:=h.low;have l1:∀ q,u1.ownBlock=some q->base<=q/\q<w2.heap.size:=fun q hq=>⟨(bL h.kD hq).1,(bL h.kD hq).2.1⟩
 have l2:∀ q,u2.ownBlock=some q->base<=q/\q<w2.heap.size:=fun q hq=>⟨(bL h.lu hq).1,(bL h.lu hq).2.1⟩
 have s1:=h1.size;have s2:=h2.size;have s7:=G7.size;have b1:Below base w2 w7:=(h1.mono hbase).trans (G7.below (by omega) fun q hq=>(l1 q hq).1);have b2:Below base w2 w8:=(b1.trans (h2.mono (by omega))).trans (G8.below (by omega) fun q hq=>(l2 q hq).1);have ht:w8.heap[tb]? = some (.cells #[.int .i64 f,.int .i64 s,u1,u2] 25 (0,0)):=(b2.block tb hlow).trans h.blk;have hg7:g7<w7.heap.size:=(bL (g:=g7) o7 rfl).2.1;have Yz:u2.ownBlock≠some g7:=by
  rcases G7.at' with e | e
  ·exact h.apart g7 e
  ·intro e2;have:=(l2 g7 e2).2;omega
 have o7':w8.ownsRow base 9 1 (.slice (some ⟨g7,0,none⟩) (ss.length+1) fG) (ss.length+1) (ss.map encStr ++ [.string ⟨x.toArray⟩]):=dN o7 fun g hg=>by
  simp[Value.ownBlock] at hg;subst hg;exact (G8.blk g7 (by omega) Yz).trans (h2.block g7 hg7)
 have afB:g7≠g8:=by
  rcases G8.at' with e | e
  ·intro e2;subst e2;exact Yz e
  ·omega
 have hset:∀ {v:Value} {n:Nat} {xs:List Value} {z:World} (k:Nat) (u:Value),z.ownsRow base 9 1 v n xs->(z.setCell ⟨tb,k,none⟩ u).ownsRow base 9 1 v n xs:=fun k u ho=>dN ho fun g hg=>by
  have:=(bL ho hg).1;exact Below.heap_setCell _ _ _ _ (by show g≠tb;omega)
 refine⟨⟨?_,hlow,?_,?_,fun g e1 e2=>?_⟩,ht,b2⟩
 ·have e1:=dx ht 2 (.slice (some ⟨g7,0,none⟩) (ss.length+1) fG);have e2:=dx (e1.trans (by rfl)) 3 (.slice (some ⟨g8,0,none⟩) (cs.length+1) jd);exact e2.trans (by rfl)
 ·have:=hset 3 (.slice (some ⟨g8,0,none⟩) (cs.length+1) jd) (hset 2 (.slice (some ⟨g7,0,none⟩) (ss.length+1) fG) o7');simpa [encStr] using this
 ·have:=hset 3 (.slice (some ⟨g8,0,none⟩) (cs.length+1) jd) (hset 2 (.slice (some ⟨g7,0,none⟩) (ss.length+1) fG) o8);simpa [encStr] using this
 ·simp[Value.ownBlock] at e1 e2;omega
theorem oK.mid {w2 Y1 w7:World} {base tb:Nat} {f s:Int} {u1 u2:Value} {ss cs:List (List UInt8)} (h:oK w2 base tb f s u1 u2 ss cs) {g7:Nat} (hbase:base<=w2.heap.size) (h1:Below w2.heap.size w2 Y1) (G7:oF Y1 w7 u1 g7) :
  w7.heap[tb]? = some (.cells #[.int .i64 f,.int .i64 s,u1,u2] 25 (0,0))/\w7.ownsRow base 9 1 u2 cs.length (cs.map encStr)/\base<=w7.heap.size/\w2.heap.size<=w7.heap.size/\∀ q o,w2.heap.size<=q->Y1.heap[q]? = some o->w7.heap[q]? = some o:=by
 have hlow:=h.low;have s1:=h1.size;have s7:=G7.size;refine⟨?_,dN h.lu fun g hg=>?_,by omega,by omega,fun q o hq ho=>?_⟩
 ·rw[G7.blk tb (by omega) (fun e=>by have:=(bL h.kD e).1;omega),h1.block tb (by omega)];exact h.blk
 ·have:=(bL h.lu hg).2.1;rw[G7.blk g (by omega) (fun e=>h.apart g e hg),h1.block g this]
 ·rw[G7.blk q (aV ho) (fun e=>by have:=(bL h.kD e).2.1;omega)];exact ho
theorem oK.last {w2 Y1 w7 Y2 w8:World} {base tb:Nat} {f s:Int} {u1 u2:Value} {ss cs:List (List UInt8)} (h:oK w2 base tb f s u1 u2 ss cs) {g7 g8:Nat} (hbase:base<=w2.heap.size) (h1:Below w2.heap.size w2 Y1) (G7:oF Y1 w7 u1 g7) (h2:Below w7.heap.size w7 Y2) (G8:oF Y2 w8 u2 g8) :
  w8.heap[tb]? = some (.cells #[.int .i64 f,.int .i64 s,u1,u2] 25 (0,0)):=by
 have hm:=h.mid hbase h1 G7;have hlow:=h.low;have s2:=h2.size;have s7:=hm.2.2.1;rw[G8.blk tb (by omega) (fun e=>by have:=(bL h.lu e).1;omega),h2.block tb (by omega)];exact hm.1
theorem oF.other {Y z:World} {v:Value} {g:Nat} (G:oF Y z v g) {base n:Nat} {e:TypeId} {xs:List Value} (ho:Y.ownsRow base e 1 v n xs) {b:Nat} {cs:Array Value} {t:TypeId} {fr:Nat×Nat} (hb:Y.heap[b]? = some (.cells cs t fr)) (hne:e≠t):z.heap[b]? = some (.cells cs t fr):=by
 rw[G.blk b (aV hb) (fun e1=>by obtain⟨_,_,cur,hc⟩:=bL ho e1;exact rW hc hb hne rfl)];exact hb
theorem oK.other {w2 Y1 w7:World} {base tb:Nat} {f s:Int} {u1 u2:Value} {ss cs:List (List UInt8)} (h:oK w2 base tb f s u1 u2 ss cs) {g7:Nat} (h1:Below w2.heap.size w2 Y1) (G7:oF Y1 w7 u1 g7) {b:Nat} {c:Array Value} {t:TypeId} {fr:Nat×Nat} (hb:w2.heap[b]? = some (.cells c t fr)) (hne:9≠t):w7.heap[b]? = some (.cells c t fr):=
 G7.other (dS h.kD h1) ((h1.block b (aV hb)).trans hb) hne
end Go.Proofs.YtcemkhalbjhdkaaGreatDoor
namespace Go.Proofs.YtcemkhalbjhdkaaGreatDoor
open Go.RowKit Go.Maps dQ
def Ml (ea:Nat->Addr) (w w':World) (f s:Int) (rows:List (List UInt8×List (Int×Nat))) (e:Ending):Prop:=
 ∃ v,Below w.heap.size w w'/\bD ea w' v (zF f s rows) (BX f s rows) /\
  ((zF f s rows=0/\∃ u1 u2,e = .returned (.tuple #[.agg #[.int .i64 f,.int .i64 s,u1,u2],v])/\w'.ownsRow w.heap.size 9 1 u1 (full rows).length (((full rows).map Prod.fst).map encStr)/\w'.ownsRow w.heap.size 9 1 u2 (full rows).length (((full rows).map fun r=>jw r.2).map encStr)) \/
   (zF f s rows≠0/\e = .returned (.tuple #[.agg #[.int .i64 0,.int .i64 0,.slice none 0 0,.slice none 0 0],v])))
structure yg (w wr:World) (tb:Nat) (f s:Int) (rows:List (List UInt8×List (Int×Nat))) (k:Nat) (v10 u1 u2:Value):Prop where
 le:k<=rows.length
 ah:v10 = .string ⟨(prev (rows.map Prod.fst) k).toArray⟩
 ok:∀ j,j<k->rowAt f s rows j=0
 res:wr.heap[w.heap.size]? = some (.cells #[.int .i64 0,.int .i64 0,.slice none 0 0,.slice none 0 0] 25 (0,0))
 two:oK wr (tb+1) tb f s u1 u2 ((full (rows.take k)).map Prod.fst) ((full (rows.take k)).map fun r=>jw r.2)
 bg:Below w.heap.size w wr
 tJ:tb+1<=wr.heap.size
theorem uq {z:World} {b:Nat} {p0 p1 p2 p3:Value} {t:TypeId} (h:z.heap[b]? = some (.cells #[p0,p1,p2,p3] t (0,0))) (v0 v1 v2 v3:Value):((((z.setCell ⟨b,0,none⟩ v0).setCell ⟨b,1,none⟩ v1).setCell ⟨b,2,none⟩ v2).setCell ⟨b,3,none⟩ v3).heap[b]? = some (.cells #[v0,v1,v2,v3] t (0,0)):=by
 have e1:=(dx h 0 v0).trans (show _=some (Obj.cells #[v0,p1,p2,p3] t (0,0)) by rfl);have e2:=(dx e1 1 v1).trans (show _=some (Obj.cells #[v0,v1,p2,p3] t (0,0)) by rfl);have e3:=(dx e2 2 v2).trans (show _=some (Obj.cells #[v0,v1,v2,p3] t (0,0)) by rfl);exact (dx e3 3 v3).trans (by rfl)
theorem iM {B:Nat} {w z:World} {b:Nat} (h:Below B w z) (hb:B<=b) (v0 v1 v2 v3:Value):Below B w ((((z.setCell ⟨b,0,none⟩ v0).setCell ⟨b,1,none⟩ v1).setCell ⟨b,2,none⟩ v2).setCell ⟨b,3,none⟩ v3):=
 (((h.setCell hb v0).setCell hb v1).setCell hb v2).setCell hb v3
theorem r9 {z:World} {base:Nat} {e t:TypeId} {sz:Nat} {v:Value} {n:Nat} {xs:List Value} {b:Nat} {cs:Array Value} {fr:Nat×Nat} (h:z.ownsRow base e sz v n xs) (hb:z.heap[b]? = some (.cells cs t fr)) (hne:e≠t) (v0 v1 v2 v3:Value):((((z.setCell ⟨b,0,none⟩ v0).setCell ⟨b,1,none⟩ v1).setCell ⟨b,2,none⟩ v2).setCell ⟨b,3,none⟩ v3).ownsRow base e sz v n xs:=
 dN h fun g hg=>by
  obtain⟨_,_,cur,hc⟩:=bL h hg;have hgb:g≠b:=rW hc hb hne;rw[Below.heap_setCell _ _ _ _ hgb,Below.heap_setCell _ _ _ _ hgb,Below.heap_setCell _ _ _ _ hgb,Below.heap_setCell _ _ _ _ hgb]
theorem jE (x:ByteArray):(⟨x.data.toList.toArray⟩:ByteArray)=x:=by cases x;simp
theorem Oo {B:Nat} {ea:Nat->Addr} (w:World) (E:oh B ea w) (hB:B<=w.heap.size) (f s:Int) (la:Option Addr) (c:Nat) (rows:List (List UInt8×List (Int×Nat))) (hP:Om w la rows) (hin:∀ r,r∈rows->Du r.2/\r.1.length<=1000/\r.2.length<=1000) (hn:rows.length<=1000) :
  Calls Tryz.prog 14 #[.int .i64 f,.int .i64 s,.slice la rows.length c] w fun e w'=>Ml ea w w' f s rows e:=by
 obtain⟨W,hW⟩:∃ W,W=w.alloc (.cells #[.int .i64 0,.int .i64 0,.slice none 0 0,.slice none 0 0] 25):=⟨_,rfl⟩;have hbW:Below w.heap.size w W:=by rw[hW];exact (Below.refl _ _).alloc (Nat.le_refl _) _
 have hx:W.heap[w.heap.size]? = some (.cells #[.int .i64 0,.int .i64 0,.slice none 0 0,.slice none 0 0] 25 (0,0)):=by rw[hW];exact heap_alloc_new _ _
 have hWs:W.heap.size=w.heap.size+1:=by rw[hW];simp
 have HW:=(show Hid _ from hW);have dO:=(show Hid _ from hbW);have HE:=(show Hid _ from E);have vF:=(show Hid _ from hWs);have HX:=(show Hid _ from hx);have HP:Hid (Om w la rows):=hP;have jQ:Hid (∀ r,r∈rows->Du r.2/\r.1.length<=1000/\r.2.length<=1000):=hin;have kb:=(E.below hbW hB).qZ.c1;clear hW hbW hx E hP hin hWs;obtain⟨n,hnn⟩:∃ n,n=rows.length:=⟨_,rfl⟩;have HN:=(show Hid _ from hnn.symm);rw[<-hnn] at hn ⊢;clear hnn;go_enter Tryz.func14,Tryz.ntmps14;go_upto_region 1 with fail;rw[<-HW.out];by_cases hbad:iy f s≠0\/60<n
 ·have nY:=(show Hid _ from AL W f s n (by omega) hbad (ea 1) kb);obtain⟨hC,hA⟩:=SG (f:=f) (s:=s) (rows:=rows) (by rw[HN.out];exact hbad);have HC:=(show Hid _ from And.intro hC hA);have p0:W.cell? ⟨w.heap.size,0,none⟩=some (.int .i64 0):=ak HX.out 0;have p1:W.cell? ⟨w.heap.size,1,none⟩=some (.int .i64 0):=ak HX.out 1;have p2:W.cell? ⟨w.heap.size,2,none⟩=some (.slice none 0 0):=ak HX.out 2;have p3:W.cell? ⟨w.heap.size,3,none⟩=some (.slice none 0 0):=ak HX.out 3;have pf:∀ k,W.frozen? ⟨w.heap.size,k,none⟩=false:=fun k=>by simp[World.frozen?,HX.out]
  clear hC hA hbad;go_wp2_with fail;refine Calls.mono nY.out ?_;rintro e w1 ⟨rfl,hw1⟩;have aQ:=hw1;subst aQ;go_wp2;obtain⟨Z,hZ⟩:∃ Z,Z=((((w1.setCell ⟨w.heap.size,0,none⟩ (.int .i64 0)).setCell ⟨w.heap.size,1,none⟩ (.int .i64 0)).setCell ⟨w.heap.size,2,none⟩ (.slice none 0 0)).setCell ⟨w.heap.size,3,none⟩ (.slice none 0 0)):=⟨_,rfl⟩;rw[<-hZ];have eZ:Z.heap[w.heap.size]? = some (.cells #[.int .i64 0,.int .i64 0,.slice none 0 0,.slice none 0 0] 25 (0,0)):=by rw[hZ];exact uq HX.out _ _ _ _
  have hzb:Below w.heap.size w Z:=by rw[hZ];exact iM dO.out (Nat.le_refl _) _ _ _ _
  have z0:Z.cell? ⟨w.heap.size,0,none⟩=some (.int .i64 0):=ak eZ 0;have z1:Z.cell? ⟨w.heap.size,1,none⟩=some (.int .i64 0):=ak eZ 1;have z2:Z.cell? ⟨w.heap.size,2,none⟩=some (.slice none 0 0):=ak eZ 2;have z3:Z.cell? ⟨w.heap.size,3,none⟩=some (.slice none 0 0):=ak eZ 3;clear hZ eZ;refine bodyPost_ret (v:=.tuple #[.agg #[.int .i64 0,.int .i64 0,.slice none 0 0,.slice none 0 0],.iface 311 (.pointer (some (ea 1)))]) (by simp[results,Tryz.results14,go_sem,z0,z1,z2,z3]) rfl ?_;exact⟨_,hzb,by rw[HC.out.1,HC.out.2];exact bD.es 1 (by decide) (by decide),.inr ⟨fun h=>absurd (HC.out.1.symm.trans h) (by decide),rfl⟩⟩
 ·have zI:=(show Hid _ from hbad);have hbd:iy f s=0:=Decidable.not_not.1 fun h=>hbad (.inl h)
  have CX:n<=60:=by
   rcases Nat.lt_or_ge 60 n with h | h
   ·exact absurd (.inr h) hbad
   ·exact h
  have nY:=(show Hid _ from Cg W f s n hbd CX);clear hbad;go_wp2_with fail;refine Calls.mono nY.out ?_;rintro e w1 ⟨rfl,hw1⟩;have aQ:=hw1;subst aQ;clear nY kb;obtain⟨W2,hW2⟩:∃ W2,W2=w1.alloc (.cells #[.int .i64 f,.int .i64 s,.slice none 0 0,.slice none 0 0] 25):=⟨_,rfl⟩;have HW2:Hid (∀ wx,wx=w1.alloc (.cells #[.int .i64 f,.int .i64 s,.slice none 0 0,.slice none 0 0] 25)->wx=W2):=fun wx h=>h.trans hW2.symm
  obtain⟨tb,htb⟩:∃ tb,tb=w1.heap.size:=⟨_,rfl⟩;have h0:yg w W2 tb f s rows 0 (.string ⟨#[]⟩) (.slice none 0 0) (.slice none 0 0):=by
   refine⟨Nat.zero_le _,rfl,fun j h=>absurd h (Nat.not_lt_zero _),?_,⟨?_,Nat.lt_succ_self _,⟨rfl,.inl ⟨rfl,by simp[full]⟩⟩,⟨rfl,.inl ⟨rfl,by simp[full]⟩⟩,fun g e=>by simp[Value.ownBlock] at e⟩,?_,?_⟩
   ·rw[hW2,heap_alloc_old _ _ (aV HX.out)];exact HX.out
   ·rw[hW2,htb];exact heap_alloc_new _ _
   ·rw[hW2];exact dO.out.alloc dO.out.size _
   ·rw[hW2,htb];simp
  have Gu:=(show Hid _ from h0);have htw:w.heap.size<tb:=by have:=vF.out;omega
  clear h0 hW2;go_wp2_with fail;rw[HW2.out _ rfl,<-htb];clear htb HW2 HX dO HW vF;go_loopw [10,29] (fun v10 i wr=>∃ (k:Nat) (u1 u2:Value),i = .int .i64 (k:Int)/\yg w wr tb f s rows k v10 u1 u2) (fun _ i _=>n-(intOf i).toNat);case atStart=>exact⟨0,_,_,rfl,Gu.out⟩
  case round=>
   obtain⟨k,u1,u2,rfl,hm⟩:=hrel;have HM:=(show Hid _ from hm);have hah:=hm.ah;obtain⟨a1,c1,rfl⟩:=bW hm.two.kD;obtain⟨a2,c2,rfl⟩:=bW hm.two.lu;have hsz:=hm.tJ;have hbel:=hm.bg.size;subst hah;clear hm Gu;by_cases hkn:k<n
   ·have hkr:k<rows.length:=by rw[HN.out];exact hkn
    rcases HP.out with h0 | ⟨b,o,rfl,hcs⟩
    ·rw[h0] at hkr;exact absurd hkr (Nat.not_lt_zero _)
    obtain⟨e1,A,C,e2,hpt⟩:=hcs k hkr;have hbl:b<w.heap.size:=World.block_lt_of_cell? w ⟨b,_,none⟩ e1;obtain⟨YA,hl1,hl2⟩:=jQ.out _ (List.getElem_mem hkr);obtain⟨nm,hnm⟩:∃ nm:ByteArray,nm=⟨(rows[k].1).toArray⟩:=⟨_,rfl⟩;obtain⟨ah,hah⟩:∃ ah:ByteArray,ah=⟨(prev (rows.map Prod.fst) k).toArray⟩:=⟨_,rfl⟩;rw[<-hah];have q1:wr.cell? ⟨b,o+k*2,none⟩=some (.string nm):=by rw[hnm];exact (HM.out.bg.cell (p:=⟨b,_,none⟩) hbl).trans e1
    have q2:wr.cell? ⟨b,o+k*2+1,none⟩=some (.slice A rows[k].2.length C):=(HM.out.bg.cell (p:=⟨b,_,none⟩) hbl).trans e2;have k0:(0:Int)<=(k:Int):=by omega
    have k1:(k:Int)<(n:Int):=by omega
    obtain⟨nk,hnk⟩:∃ nk,nk=rows[k].2.length:=⟨_,rfl⟩;have hsA:rowAt f s rows k=oJ f s ah.data.toList nm.data.toList rows[k].2:=by
     unfold rowAt;rw[hah,hnm,(u6 hkr).1,(u6 hkr).2]
    have Oq:=fun (WA:World) (hb:Below w.heap.size w WA)=>J9 WA (HE.out.below hb hB) (Nat.le_trans hB hb.size) a1 a2 A ((full (rows.take k)).map Prod.fst).length c1 ((full (rows.take k)).map fun r=>jw r.2).length c2 C f s hbd nm ah (Nat.le_trans (m:=1000) (by rw[hnm];simpa [ByteArray.size] using hl1) (by decide)) rows[k].2 (hpt.below hb) YA hl2
    rw[<-hnk] at q2 Oq;rw[<-hsA] at Oq;have wS:=(show Hid _ from And.intro hnm hah);have HNK:=(show Hid _ from hnk);have nO:=(show Hid _ from Oq);obtain⟨WA,U8⟩:∃ WA,WA=wr.alloc (.cells #[.string nm,.slice A nk C] 69):=⟨_,rfl⟩;have BP:Below wr.heap.size wr WA:=by rw[U8];exact (Below.refl _ _).alloc (Nat.le_refl _) _
    have hra:WA.heap[wr.heap.size]? = some (.cells #[.string nm,.slice A nk C] 69 (0,0)):=by rw[U8];exact heap_alloc_new _ _
    have uK:=HM.out.two.below BP;have x0:WA.cell? ⟨tb,0,none⟩=some (.int .i64 f):=ak uK.blk 0;have x1:WA.cell? ⟨tb,1,none⟩=some (.int .i64 s):=ak uK.blk 1;have x2:WA.cell? ⟨tb,2,none⟩=some (.slice a1 _ c1):=ak uK.blk 2;have x3:WA.cell? ⟨tb,3,none⟩=some (.slice a2 _ c2):=ak uK.blk 3;have y0:WA.cell? ⟨wr.heap.size,0,none⟩=some (.string nm):=ak hra 0;have y1:WA.cell? ⟨wr.heap.size,1,none⟩=some (.slice A nk C):=ak hra 1;have kG:Hid (∀ wx,wx=wr.alloc (.cells #[.string nm,.slice A nk C] 69)->wx=WA):=fun wx h=>h.trans U8.symm
    have ig:=(show Hid _ from BP);have mO:=(show Hid _ from hra);have Cb:=(show Hid _ from uK);clear e1 e2 hpt hnm hah hnk hsA Oq BP hra uK U8 hcs YA hl1 hl2;go_upto_region 9 with fail;rw[kG.out _ rfl];generalize hg1:((full (rows.take k)).map Prod.fst).length=n1 at *;generalize hg2:((full (rows.take k)).map fun r=>jw r.2).length=n2 at *;have HG:=(show Hid _ from And.intro hg1 hg2);clear hg1 hg2;go_wp2_with fail;refine Calls.mono (nO.out WA (HM.out.bg.trans (ig.out.mono hbel))) ?_;rintro e w2 ⟨x,v,AA,rfl,hb2,hf2,hx2⟩;have HB2:=(show Hid _ from hb2);have gH:Hid (bD ea w2 v (rowAt f s rows k) AA):=hf2;have Am:Hid (rowAt f s rows k=0->x.data.toList=jw rows[k].2):=hx2;have gK:=(show Hid _ from (HM.out.bg.trans (ig.out.mono hbel)).trans (hb2.mono (Nat.le_trans hbel ig.out.size)));have hs2:wr.heap.size<w2.heap.size:=Nat.lt_of_lt_of_le (aV mO.out) hb2.size;clear hb2 hf2 hx2 nO x0 x1 x2 x3 y0 y1 q1 q2;by_cases hs0:rowAt f s rows k=0
    ·have hv:=gH.out.none hs0;subst hv;have hx:=Am.out hs0;have h2r:w2.heap[wr.heap.size]? = some (.cells #[.string nm,.slice A nk C] 69 (0,0)):=(HB2.out.block _ (aV mO.out)).trans mO.out;have Ci:=Cb.out.below HB2.out;have y0:w2.cell? ⟨wr.heap.size,0,none⟩=some (.string nm):=ak h2r 0;have y1:w2.cell? ⟨wr.heap.size,1,none⟩=some (.slice A nk C):=ak h2r 1;have dD:Hid (∀ j,j<k+1->rowAt f s rows j=0):=fun j hj=>by
      rcases Nat.lt_or_ge j k with h | h
      ·exact HM.out.ok j h
      ·obtain rfl:j=k:=by omega
       exact hs0
     have hres:w2.heap[w.heap.size]? = some (.cells #[.int .i64 0,.int .i64 0,.slice none 0 0,.slice none 0 0] 25 (0,0)):=(HB2.out.block _ (Nat.lt_of_lt_of_le (aV HM.out.res) ig.out.size)).trans ((ig.out.block _ (aV HM.out.res)).trans HM.out.res);have mh:=(show Hid _ from hres);have lQ:Hid (full (rows.take (k+1))=if 0<nk then full (rows.take k) ++ [rows[k]] else full (rows.take k)):=by
      show _=_;rw[List.take_succ_eq_append_getElem hkr,P9,HNK.out]
     have U9:Hid (prev (rows.map Prod.fst) (k+1)=nm.data.toList):=by
      show _=_;rw[Gw (by simpa using hkr),wS.out.1];simp
     have wT:=(show Hid _ from h2r);have Gz:=(show Hid _ from Ci);clear hres h2r Ci hs0;by_cases hz:0<nk
     ·have hd:decide ((0:Int)<(nk:Int))=true:=by simp;omega
      obtain⟨iS,hS,hS0,hS1,hS2⟩:=info_parts Tryz.infoStr3;have rE:=(show Hid _ from hS);have t2:w2.cell? ⟨tb,2,none⟩=some (.slice a1 n1 c1):=ak Gz.out.blk 2;have t3:w2.cell? ⟨tb,3,none⟩=some (.slice a2 n2 c2):=ak Gz.out.blk 3;have htl:tb<w2.heap.size:=aV Gz.out.blk;have hn1:n1<=60/\n2<=60:=by
       have h1:=HG.out.1;have h2:=HG.out.2;have h3:(full (rows.take k)).length<=(rows.take k).length:=List.length_filter_le ..;have h4:(rows.take k).length<=k:=by simp;omega
       simp only[List.length_map] at h1 h2;omega
      have jV:tb+1<=w2.heap.size:=htl;clear hS;go_wp2_with fail;obtain⟨yh,Ot⟩:∃ yh:List (List UInt8),yh=((full (rows.take k)).map fun r=>jw r.2):=⟨_,rfl⟩;have HT2:Hid (oK w2 (tb+1) tb f s (.slice a1 n1 c1) (.slice a2 n2 c2) ((full (rows.take k)).map Prod.fst) yh):=by rw[Ot];exact Gz.out
      have nJ:Hid (yh.length=n2):=by rw[Ot];exact HG.out.2
      have Qf:=(show Hid _ from Ot);clear Ot;have uF:Hid (w2.ownsRow (tb+1) 9 1 (.slice a1 n1 c1) n1 (((full (rows.take k)).map Prod.fst).map encStr)):=by have:=Gz.out.kD;rw[HG.out.1] at this;exact this
      have AB:Hid (∀ z,Below w2.heap.size w2 z->(z.cell? ⟨tb,2,none⟩=some (.slice a1 n1 c1)/\z.cell? ⟨tb,3,none⟩=some (.slice a2 n2 c2)/\z.cell? ⟨wr.heap.size,0,none⟩=some (.string nm))):=fun z hz=>by
       have q1:=(hz.block _ (aV Gz.out.blk)).trans Gz.out.blk;have q2:=(hz.block _ (aV wT.out)).trans wT.out;exact⟨ak q1 2,ak q1 3,ak q2 0⟩
      have YB:Hid (x.data.toList=jw rows[k].2):=hx;clear hx;refine sH (S:=fun w'=>(w'.cell? ⟨tb,2,none⟩=some (.slice a1 n1 c1)/\w'.cell? ⟨tb,3,none⟩=some (.slice a2 n2 c2)/\w'.cell? ⟨wr.heap.size,0,none⟩=some (.string nm))) (by kernel_rfl) 12 ⟨t2,t3,y0⟩ (fun hHeld=>?_);refine fu (i:=0) (v:=.pointer (some ⟨tb,2,none⟩)) rfl (by kernel_rfl) (by kernel_rfl) (by kernel_rfl) (by kernel_rfl) (by kernel_rfl) (by kernel_rfl) (fun _ _ _ h=>h) (Or.inl ⟨by rfl,?_⟩) hHeld ?_
      ·intro w hSw;obtain⟨g2,g3,g4⟩:=hSw;go_simp
      try simp only[Act.put]
      refine fu (i:=1) (v:=.slice a1 n1 c1) rfl (by kernel_rfl) (by kernel_rfl) (by kernel_rfl) (by kernel_rfl) (by kernel_rfl) (by kernel_rfl) (fun _ _ _ h=>h) (Or.inl ⟨by rfl,?_⟩) hHeld ?_
      ·intro w hSw;obtain⟨g2,g3,g4⟩:=hSw;go_simp
      try simp only[Act.put]
      refine fu (i:=2) (v:=.pointer (some ⟨wr.heap.size,0,none⟩)) rfl (by kernel_rfl) (by kernel_rfl) (by kernel_rfl) (by kernel_rfl) (by kernel_rfl) (by kernel_rfl) (fun _ _ _ h=>h) (Or.inl ⟨by rfl,?_⟩) hHeld ?_
      ·intro w hSw;obtain⟨g2,g3,g4⟩:=hSw;go_simp
      try simp only[Act.put]
      refine fu (i:=3) (v:=.string nm) rfl (by kernel_rfl) (by kernel_rfl) (by kernel_rfl) (by kernel_rfl) (by kernel_rfl) (by kernel_rfl) (fun _ _ _ h=>h) (Or.inl ⟨by rfl,?_⟩) hHeld ?_
      ·intro w hSw;obtain⟨g2,g3,g4⟩:=hSw;go_simp
      try simp only[Act.put]
      refine fu (i:=6) (v:=.pointer (some ⟨tb,3,none⟩)) rfl (by kernel_rfl) (by kernel_rfl) (by kernel_rfl) (by kernel_rfl) (by kernel_rfl) (by kernel_rfl) (fun _ _ _ h=>h) (Or.inl ⟨by rfl,?_⟩) hHeld ?_
      ·intro w hSw;obtain⟨g2,g3,g4⟩:=hSw;go_simp
      try simp only[Act.put]
      refine fu (i:=7) (v:=.slice a2 n2 c2) rfl (by kernel_rfl) (by kernel_rfl) (by kernel_rfl) (by kernel_rfl) (by kernel_rfl) (by kernel_rfl) (fun _ _ _ h=>h) (Or.inl ⟨by rfl,?_⟩) hHeld ?_
      ·intro w hSw;obtain⟨g2,g3,g4⟩:=hSw;go_simp
      try simp only[Act.put]
      refine bq (i:=8) (v:=.string x) rfl (by kernel_rfl) (by kernel_rfl) (by kernel_rfl) (by kernel_rfl) (fun _ _ _ h=>h) (Or.inl ⟨by rfl,?_⟩) (fun _=>hHeld) ?_
      ·intro w _;go_simp
      try simp only[Act.put]
      refine aR (rs:=[4,9]) (by kernel_rfl) (by simp) ?_;refine aD.cons rfl (fun K hK=>?_) (aD.cons rfl (fun K hK=>?_) aD.nil)
      ·go_simp
       refine hK.out _ _ (AB.out _ (by repeat (first | exact Below.refl _ _ | with_reducible apply dz | with_reducible apply cO))) ?_;clear hK K;try simp only[Act.put]
       refine aR (rs:=[5,9]) (by kernel_rfl) (by simp) ?_;refine aD.cons rfl (fun K hK=>?_) (aD.cons rfl (fun K hK=>?_) aD.nil)
       ·refine iH w2 (by rfl) _ _ 23 (by rfl) (tb+1) 9 iS (.string ⟨#[]⟩) 16 Tryz.underlying23 rE.out hS0 hS1 hS2 (by rfl) (.slice a1 n1 c1) n1 (((full (rows.take k)).map Prod.fst).map encStr) (by rfl) uF.out (by repeat (first | exact Below.refl _ _ | with_reducible apply dz | with_reducible apply cO)) _ _ _ _ (by rfl) (by first | exact heap_alloc_new _ _ | exact sI _ _ _ | exact sJ _ _ _) (by rfl) (by omega) (by decide) jV ?_;intro g7 fG w7 eD jo jq;obtain⟨m1,m2,m3,m4,m5⟩:=HT2.out.mid jV jq jo;have qm:Hid (w7.ownsRow (tb+1) 9 1 (.slice a2 n2 c2) n2 (yh.map encStr)):=by rw[nJ.out] at m2;exact m2
        have oo:=(show Hid _ from m5);have og:=(show Hid _ from m3);have oV:=(show Hid _ from eD);have lJ:=(show Hid _ from jo);have lK:=(show Hid _ from jq);have mQ:Hid (∀ z,Below w7.heap.size w7 z->(z.cell? ⟨tb,2,none⟩=some (.slice a1 n1 c1)/\z.cell? ⟨tb,3,none⟩=some (.slice a2 n2 c2)/\z.cell? ⟨wr.heap.size,0,none⟩=some (.string nm))):=fun z hz=>by
         have q1:=(hz.block _ (aV m1)).trans m1;have q2:=(hz.block _ (aV (HT2.out.other jq jo wT.out (by decide)))).trans (HT2.out.other jq jo wT.out (by decide));exact⟨ak q1 2,ak q1 3,ak q2 0⟩
        clear eD jo jq m1 m2 m3 m5;refine hK.out _ _ (mQ.out _ (Below.refl _ _)) ?_;clear hK K;try simp only[Act.put]
        refine bq (i:=11) (v:=.pointer (some ⟨tb,2,none⟩)) rfl (by kernel_rfl) (by kernel_rfl) (by kernel_rfl) (by kernel_rfl) (fun _ _ _ h=>h) (Or.inl ⟨by rfl,?_⟩) (fun _=>mQ.out _ (Below.refl _ _)) ?_
        ·intro w _;go_simp
        try simp only[Act.put]
        refine aR (rs:=[9]) (by kernel_rfl) (by simp) ?_;refine aD.cons rfl (fun K hK=>?_) aD.nil;go_simp
        refine hK.out _ _ (mQ.out _ (by repeat (first | exact Below.refl _ _ | with_reducible apply dz | with_reducible apply cO))) ?_;clear hK K;try simp only[Act.put]
        refine aR (rs:=[10]) (by kernel_rfl) (by simp) ?_;refine aD.cons rfl (fun K hK=>?_) aD.nil;refine iH w7 (by rfl) _ _ 23 (by rfl) (tb+1) 9 iS (.string ⟨#[]⟩) 16 Tryz.underlying23 rE.out hS0 hS1 hS2 (by rfl) (.slice a2 n2 c2) n2 (yh.map encStr) (by rfl) qm.out (by repeat (first | exact Below.refl _ _ | with_reducible apply dz | with_reducible apply cO)) _ _ _ _ (by rfl) (by exact heap_alloc_new _ _) (by rfl) (by omega) (by decide) og.out ?_;intro g8 jd w8 iN gV fU;have iX:=HT2.out.last jV lK.out lJ.out fU gV;have tK:=HT2.out.more (x:=nm.data.toList) (y:=x.data.toList) jV lK.out (by rw[HG.out.1,jE nm];exact oV.out) lJ.out fU (by rw[nJ.out,jE x];exact iN) gV;have qG:=(show Hid _ from tK);have AQ:w8.cell? ⟨tb,2,none⟩=some (.slice a1 n1 c1):=ak iX 2;have AR:w8.cell? ⟨tb,3,none⟩=some (.slice a2 n2 c2):=ak iX 3;have f8:∀ q,w8.frozen? ⟨tb,q,none⟩=false:=fun q=>by simp[World.frozen?,iX]
        have l9:Hid ((w8.cell? ⟨tb,2,none⟩=some (.slice a1 n1 c1)/\w8.cell? ⟨tb,3,none⟩=some (.slice a2 n2 c2)/\w8.cell? ⟨wr.heap.size,0,none⟩=some (.string nm))):=by
         have q1:=iX;have q2:=(show oF _ w8 _ _ from gV).other (dS qm.out fU) ((fU.block _ (aV (HT2.out.other lK.out lJ.out wT.out (by decide)))).trans (HT2.out.other lK.out lJ.out wT.out (by decide))) (by decide);exact⟨ak q1 2,ak q1 3,ak q2 0⟩
        clear iN gV fU tK;refine hK.out _ _ l9.out ?_;clear hK K;try simp only[Act.put]
        refine aR (rs:=[12]) (by kernel_rfl) (by simp) ?_;refine aD.last rfl (by kernel_rfl) (fun K hK=>?_) aD.nil;go_simp
        refine hK.out _ _ ?_;clear hK K;try simp only[Act.put]
        refine bq (i:=13) (v:=.pointer (some ⟨tb,3,none⟩)) rfl (by kernel_rfl) (by kernel_rfl) (by kernel_rfl) (by kernel_rfl) (fun _ _ _ h=>h) (Or.inl ⟨by rfl,?_⟩) (fun _=>absurd ‹_› (by decide)) ?_
        ·intro w _;go_simp
        try simp only[Act.put]
        obtain⟨Z8,iY⟩:∃ Z8,Z8=w8.setCell ⟨tb,2,none⟩ (.slice (some ⟨g7,0,none⟩) (n1+1) fG):=⟨_,rfl⟩;have ou:Z8.heap[tb]? = some (.cells #[.int .i64 f,.int .i64 s,.slice (some ⟨g7,0,none⟩) (n1+1) fG,.slice a2 n2 c2] 25 (0,0)):=by rw[iY];exact (dx iX 2 _).trans (by rfl)
        have c93:Z8.cell? ⟨tb,3,none⟩=some (.slice a2 n2 c2):=ak ou 3;have f9:∀ q,Z8.frozen? ⟨tb,q,none⟩=false:=fun q=>by simp[World.frozen?,ou]
        rw[<-iY];have oW:=(show Hid _ from iY);clear iY ou iX AQ AR f8;refine aR (rs:=[14]) (by kernel_rfl) (by simp) ?_;refine aD.last rfl (by kernel_rfl) (fun K hK=>?_) aD.nil;go_simp
        refine hK.out _ _ ?_;clear hK K;refine kI (by kernel_rfl) ?_ _;have iD:Hid (yg w (Z8.setCell ⟨tb,3,none⟩ (.slice (some ⟨g8,0,none⟩) (n2+1) jd)) tb f s rows (k+1) (.string nm) (.slice (some ⟨g7,0,none⟩) (n1+1) fG) (.slice (some ⟨g8,0,none⟩) (n2+1) jd)):=by
         obtain⟨j1,j2,j3⟩:=qG.out;rw[oW.out];have hfl:full (rows.take (k+1))=full (rows.take k) ++ [rows[k]]:=by rw[lQ.out,if_pos hz]
         have e1:(full (rows.take (k+1))).map Prod.fst=(full (rows.take k)).map Prod.fst ++ [nm.data.toList]:=by rw[hfl,List.map_append,wS.out.1];simp
         have e2:((full (rows.take (k+1))).map fun r=>jw r.2)=yh ++ [x.data.toList]:=by rw[hfl,List.map_append,YB.out,Qf.out];simp
         have hw8:=j3.size;refine⟨by omega,by rw[U9.out],dD.out,?_,?_,?_,?_⟩
         ·rw[Below.heap_setCell _ _ _ _ (by show w.heap.size≠tb;omega),Below.heap_setCell _ _ _ _ (by show w.heap.size≠tb;omega),j3.block _ (by omega)];exact mh.out
         ·rw[e1,e2];rw[HG.out.1,nJ.out] at j1;exact j1
         ·exact ((gK.out.trans (j3.mono (by omega))).setCell (by show w.heap.size<=tb;omega) _).setCell (by show w.heap.size<=tb;omega) _
         ·simp
          omega
        clear qG oW oV lJ lK qm og oo mQ l9;go_wp2;go_roundw;case rel=>exact⟨k+1,_,_,by go_num,iD.out⟩
        case measure=>simp[intOf]<;>omega
       ·go_simp
        refine hK.out _ _ (AB.out _ (by repeat (first | exact Below.refl _ _ | with_reducible apply dz | with_reducible apply cO))) ?_;clear hK K;try simp only[Act.put]
        refine aR (rs:=[5]) (by kernel_rfl) (by simp) ?_;refine aD.cons rfl (fun K hK=>?_) aD.nil;refine iH w2 (by rfl) _ _ 23 (by rfl) (tb+1) 9 iS (.string ⟨#[]⟩) 16 Tryz.underlying23 rE.out hS0 hS1 hS2 (by rfl) (.slice a1 n1 c1) n1 (((full (rows.take k)).map Prod.fst).map encStr) (by rfl) uF.out (by repeat (first | exact Below.refl _ _ | with_reducible apply dz | with_reducible apply cO)) _ _ _ _ (by rfl) (by first | exact heap_alloc_new _ _ | exact sI _ _ _ | exact sJ _ _ _) (by rfl) (by omega) (by decide) jV ?_;intro g7 fG w7 eD jo jq;obtain⟨m1,m2,m3,m4,m5⟩:=HT2.out.mid jV jq jo;have qm:Hid (w7.ownsRow (tb+1) 9 1 (.slice a2 n2 c2) n2 (yh.map encStr)):=by rw[nJ.out] at m2;exact m2
        have oo:=(show Hid _ from m5);have og:=(show Hid _ from m3);have oV:=(show Hid _ from eD);have lJ:=(show Hid _ from jo);have lK:=(show Hid _ from jq);have mQ:Hid (∀ z,Below w7.heap.size w7 z->(z.cell? ⟨tb,2,none⟩=some (.slice a1 n1 c1)/\z.cell? ⟨tb,3,none⟩=some (.slice a2 n2 c2)/\z.cell? ⟨wr.heap.size,0,none⟩=some (.string nm))):=fun z hz=>by
         have q1:=(hz.block _ (aV m1)).trans m1;have q2:=(hz.block _ (aV (HT2.out.other jq jo wT.out (by decide)))).trans (HT2.out.other jq jo wT.out (by decide));exact⟨ak q1 2,ak q1 3,ak q2 0⟩
        clear eD jo jq m1 m2 m3 m5;refine hK.out _ _ (mQ.out _ (Below.refl _ _)) ?_;clear hK K;try simp only[Act.put]
        refine bq (i:=11) (v:=.pointer (some ⟨tb,2,none⟩)) rfl (by kernel_rfl) (by kernel_rfl) (by kernel_rfl) (by kernel_rfl) (fun _ _ _ h=>h) (Or.inl ⟨by rfl,?_⟩) (fun _=>mQ.out _ (Below.refl _ _)) ?_
        ·intro w _;go_simp
        try simp only[Act.put]
        refine aR (rs:=[10]) (by kernel_rfl) (by simp) ?_;refine aD.cons rfl (fun K hK=>?_) aD.nil;refine iH w7 (by rfl) _ _ 23 (by rfl) (tb+1) 9 iS (.string ⟨#[]⟩) 16 Tryz.underlying23 rE.out hS0 hS1 hS2 (by rfl) (.slice a2 n2 c2) n2 (yh.map encStr) (by rfl) qm.out (by repeat (first | exact Below.refl _ _ | with_reducible apply dz | with_reducible apply cO)) _ _ _ _ (by rfl) (by first | exact oo.out _ _ (by simp) (heap_alloc_new _ _) | exact oo.out _ _ (by simp) (sI _ _ _) | exact oo.out _ _ (by simp) (sJ _ _ _)) (by rfl) (by omega) (by decide) og.out ?_;intro g8 jd w8 iN gV fU;have iX:=HT2.out.last jV lK.out lJ.out fU gV;have tK:=HT2.out.more (x:=nm.data.toList) (y:=x.data.toList) jV lK.out (by rw[HG.out.1,jE nm];exact oV.out) lJ.out fU (by rw[nJ.out,jE x];exact iN) gV;have qG:=(show Hid _ from tK);have AQ:w8.cell? ⟨tb,2,none⟩=some (.slice a1 n1 c1):=ak iX 2;have AR:w8.cell? ⟨tb,3,none⟩=some (.slice a2 n2 c2):=ak iX 3;have f8:∀ q,w8.frozen? ⟨tb,q,none⟩=false:=fun q=>by simp[World.frozen?,iX]
        have l9:Hid ((w8.cell? ⟨tb,2,none⟩=some (.slice a1 n1 c1)/\w8.cell? ⟨tb,3,none⟩=some (.slice a2 n2 c2)/\w8.cell? ⟨wr.heap.size,0,none⟩=some (.string nm))):=by
         have q1:=iX;have q2:=(show oF _ w8 _ _ from gV).other (dS qm.out fU) ((fU.block _ (aV (HT2.out.other lK.out lJ.out wT.out (by decide)))).trans (HT2.out.other lK.out lJ.out wT.out (by decide))) (by decide);exact⟨ak q1 2,ak q1 3,ak q2 0⟩
        clear iN gV fU tK;refine hK.out _ _ l9.out ?_;clear hK K;try simp only[Act.put]
        refine aR (rs:=[12]) (by kernel_rfl) (by simp) ?_;refine aD.last rfl (by kernel_rfl) (fun K hK=>?_) aD.nil;go_simp
        refine hK.out _ _ ?_;clear hK K;try simp only[Act.put]
        refine bq (i:=13) (v:=.pointer (some ⟨tb,3,none⟩)) rfl (by kernel_rfl) (by kernel_rfl) (by kernel_rfl) (by kernel_rfl) (fun _ _ _ h=>h) (Or.inl ⟨by rfl,?_⟩) (fun _=>absurd ‹_› (by decide)) ?_
        ·intro w _;go_simp
        try simp only[Act.put]
        obtain⟨Z8,iY⟩:∃ Z8,Z8=w8.setCell ⟨tb,2,none⟩ (.slice (some ⟨g7,0,none⟩) (n1+1) fG):=⟨_,rfl⟩;have ou:Z8.heap[tb]? = some (.cells #[.int .i64 f,.int .i64 s,.slice (some ⟨g7,0,none⟩) (n1+1) fG,.slice a2 n2 c2] 25 (0,0)):=by rw[iY];exact (dx iX 2 _).trans (by rfl)
        have c93:Z8.cell? ⟨tb,3,none⟩=some (.slice a2 n2 c2):=ak ou 3;have f9:∀ q,Z8.frozen? ⟨tb,q,none⟩=false:=fun q=>by simp[World.frozen?,ou]
        rw[<-iY];have oW:=(show Hid _ from iY);clear iY ou iX AQ AR f8;refine aR (rs:=[14]) (by kernel_rfl) (by simp) ?_;refine aD.last rfl (by kernel_rfl) (fun K hK=>?_) aD.nil;go_simp
        refine hK.out _ _ ?_;clear hK K;refine kI (by kernel_rfl) ?_ _;have iD:Hid (yg w (Z8.setCell ⟨tb,3,none⟩ (.slice (some ⟨g8,0,none⟩) (n2+1) jd)) tb f s rows (k+1) (.string nm) (.slice (some ⟨g7,0,none⟩) (n1+1) fG) (.slice (some ⟨g8,0,none⟩) (n2+1) jd)):=by
         obtain⟨j1,j2,j3⟩:=qG.out;rw[oW.out];have hfl:full (rows.take (k+1))=full (rows.take k) ++ [rows[k]]:=by rw[lQ.out,if_pos hz]
         have e1:(full (rows.take (k+1))).map Prod.fst=(full (rows.take k)).map Prod.fst ++ [nm.data.toList]:=by rw[hfl,List.map_append,wS.out.1];simp
         have e2:((full (rows.take (k+1))).map fun r=>jw r.2)=yh ++ [x.data.toList]:=by rw[hfl,List.map_append,YB.out,Qf.out];simp
         have hw8:=j3.size;refine⟨by omega,by rw[U9.out],dD.out,?_,?_,?_,?_⟩
         ·rw[Below.heap_setCell _ _ _ _ (by show w.heap.size≠tb;omega),Below.heap_setCell _ _ _ _ (by show w.heap.size≠tb;omega),j3.block _ (by omega)];exact mh.out
         ·rw[e1,e2];rw[HG.out.1,nJ.out] at j1;exact j1
         ·exact ((gK.out.trans (j3.mono (by omega))).setCell (by show w.heap.size<=tb;omega) _).setCell (by show w.heap.size<=tb;omega) _
         ·simp
          omega
        clear qG oW oV lJ lK qm og oo mQ l9;go_wp2;go_roundw;case rel=>exact⟨k+1,_,_,by go_num,iD.out⟩
        case measure=>simp[intOf]<;>omega
      ·go_simp
       refine hK.out _ _ (AB.out _ (by repeat (first | exact Below.refl _ _ | with_reducible apply dz | with_reducible apply cO))) ?_;clear hK K;try simp only[Act.put]
       refine aR (rs:=[4]) (by kernel_rfl) (by simp) ?_;refine aD.cons rfl (fun K hK=>?_) aD.nil;go_simp
       refine hK.out _ _ (AB.out _ (by repeat (first | exact Below.refl _ _ | with_reducible apply dz | with_reducible apply cO))) ?_;clear hK K;try simp only[Act.put]
       refine aR (rs:=[5]) (by kernel_rfl) (by simp) ?_;refine aD.cons rfl (fun K hK=>?_) aD.nil;refine iH w2 (by rfl) _ _ 23 (by rfl) (tb+1) 9 iS (.string ⟨#[]⟩) 16 Tryz.underlying23 rE.out hS0 hS1 hS2 (by rfl) (.slice a1 n1 c1) n1 (((full (rows.take k)).map Prod.fst).map encStr) (by rfl) uF.out (by repeat (first | exact Below.refl _ _ | with_reducible apply dz | with_reducible apply cO)) _ _ _ _ (by rfl) (by first | exact heap_alloc_new _ _ | exact sI _ _ _ | exact sJ _ _ _) (by rfl) (by omega) (by decide) jV ?_;intro g7 fG w7 eD jo jq;obtain⟨m1,m2,m3,m4,m5⟩:=HT2.out.mid jV jq jo;have qm:Hid (w7.ownsRow (tb+1) 9 1 (.slice a2 n2 c2) n2 (yh.map encStr)):=by rw[nJ.out] at m2;exact m2
       have oo:=(show Hid _ from m5);have og:=(show Hid _ from m3);have oV:=(show Hid _ from eD);have lJ:=(show Hid _ from jo);have lK:=(show Hid _ from jq);have mQ:Hid (∀ z,Below w7.heap.size w7 z->(z.cell? ⟨tb,2,none⟩=some (.slice a1 n1 c1)/\z.cell? ⟨tb,3,none⟩=some (.slice a2 n2 c2)/\z.cell? ⟨wr.heap.size,0,none⟩=some (.string nm))):=fun z hz=>by
        have q1:=(hz.block _ (aV m1)).trans m1;have q2:=(hz.block _ (aV (HT2.out.other jq jo wT.out (by decide)))).trans (HT2.out.other jq jo wT.out (by decide));exact⟨ak q1 2,ak q1 3,ak q2 0⟩
       clear eD jo jq m1 m2 m3 m5;refine hK.out _ _ (mQ.out _ (Below.refl _ _)) ?_;clear hK K;try simp only[Act.put]
       refine bq (i:=11) (v:=.pointer (some ⟨tb,2,none⟩)) rfl (by kernel_rfl) (by kernel_rfl) (by kernel_rfl) (by kernel_rfl) (fun _ _ _ h=>h) (Or.inl ⟨by rfl,?_⟩) (fun _=>mQ.out _ (Below.refl _ _)) ?_
       ·intro w _;go_simp
       try simp only[Act.put]
       refine aR (rs:=[10]) (by kernel_rfl) (by simp) ?_;refine aD.cons rfl (fun K hK=>?_) aD.nil;refine iH w7 (by rfl) _ _ 23 (by rfl) (tb+1) 9 iS (.string ⟨#[]⟩) 16 Tryz.underlying23 rE.out hS0 hS1 hS2 (by rfl) (.slice a2 n2 c2) n2 (yh.map encStr) (by rfl) qm.out (by repeat (first | exact Below.refl _ _ | with_reducible apply dz | with_reducible apply cO)) _ _ _ _ (by rfl) (by first | exact oo.out _ _ (by simp) (heap_alloc_new _ _) | exact oo.out _ _ (by simp) (sI _ _ _) | exact oo.out _ _ (by simp) (sJ _ _ _)) (by rfl) (by omega) (by decide) og.out ?_;intro g8 jd w8 iN gV fU;have iX:=HT2.out.last jV lK.out lJ.out fU gV;have tK:=HT2.out.more (x:=nm.data.toList) (y:=x.data.toList) jV lK.out (by rw[HG.out.1,jE nm];exact oV.out) lJ.out fU (by rw[nJ.out,jE x];exact iN) gV;have qG:=(show Hid _ from tK);have AQ:w8.cell? ⟨tb,2,none⟩=some (.slice a1 n1 c1):=ak iX 2;have AR:w8.cell? ⟨tb,3,none⟩=some (.slice a2 n2 c2):=ak iX 3;have f8:∀ q,w8.frozen? ⟨tb,q,none⟩=false:=fun q=>by simp[World.frozen?,iX]
       have l9:Hid ((w8.cell? ⟨tb,2,none⟩=some (.slice a1 n1 c1)/\w8.cell? ⟨tb,3,none⟩=some (.slice a2 n2 c2)/\w8.cell? ⟨wr.heap.size,0,none⟩=some (.string nm))):=by
        have q1:=iX;have q2:=(show oF _ w8 _ _ from gV).other (dS qm.out fU) ((fU.block _ (aV (HT2.out.other lK.out lJ.out wT.out (by decide)))).trans (HT2.out.other lK.out lJ.out wT.out (by decide))) (by decide);exact⟨ak q1 2,ak q1 3,ak q2 0⟩
       clear iN gV fU tK;refine hK.out _ _ l9.out ?_;clear hK K;try simp only[Act.put]
       refine aR (rs:=[12]) (by kernel_rfl) (by simp) ?_;refine aD.last rfl (by kernel_rfl) (fun K hK=>?_) aD.nil;go_simp
       refine hK.out _ _ ?_;clear hK K;try simp only[Act.put]
       refine bq (i:=13) (v:=.pointer (some ⟨tb,3,none⟩)) rfl (by kernel_rfl) (by kernel_rfl) (by kernel_rfl) (by kernel_rfl) (fun _ _ _ h=>h) (Or.inl ⟨by rfl,?_⟩) (fun _=>absurd ‹_› (by decide)) ?_
       ·intro w _;go_simp
       try simp only[Act.put]
       obtain⟨Z8,iY⟩:∃ Z8,Z8=w8.setCell ⟨tb,2,none⟩ (.slice (some ⟨g7,0,none⟩) (n1+1) fG):=⟨_,rfl⟩;have ou:Z8.heap[tb]? = some (.cells #[.int .i64 f,.int .i64 s,.slice (some ⟨g7,0,none⟩) (n1+1) fG,.slice a2 n2 c2] 25 (0,0)):=by rw[iY];exact (dx iX 2 _).trans (by rfl)
       have c93:Z8.cell? ⟨tb,3,none⟩=some (.slice a2 n2 c2):=ak ou 3;have f9:∀ q,Z8.frozen? ⟨tb,q,none⟩=false:=fun q=>by simp[World.frozen?,ou]
       rw[<-iY];have oW:=(show Hid _ from iY);clear iY ou iX AQ AR f8;refine aR (rs:=[14]) (by kernel_rfl) (by simp) ?_;refine aD.last rfl (by kernel_rfl) (fun K hK=>?_) aD.nil;go_simp
       refine hK.out _ _ ?_;clear hK K;refine kI (by kernel_rfl) ?_ _;have iD:Hid (yg w (Z8.setCell ⟨tb,3,none⟩ (.slice (some ⟨g8,0,none⟩) (n2+1) jd)) tb f s rows (k+1) (.string nm) (.slice (some ⟨g7,0,none⟩) (n1+1) fG) (.slice (some ⟨g8,0,none⟩) (n2+1) jd)):=by
        obtain⟨j1,j2,j3⟩:=qG.out;rw[oW.out];have hfl:full (rows.take (k+1))=full (rows.take k) ++ [rows[k]]:=by rw[lQ.out,if_pos hz]
        have e1:(full (rows.take (k+1))).map Prod.fst=(full (rows.take k)).map Prod.fst ++ [nm.data.toList]:=by rw[hfl,List.map_append,wS.out.1];simp
        have e2:((full (rows.take (k+1))).map fun r=>jw r.2)=yh ++ [x.data.toList]:=by rw[hfl,List.map_append,YB.out,Qf.out];simp
        have hw8:=j3.size;refine⟨by omega,by rw[U9.out],dD.out,?_,?_,?_,?_⟩
        ·rw[Below.heap_setCell _ _ _ _ (by show w.heap.size≠tb;omega),Below.heap_setCell _ _ _ _ (by show w.heap.size≠tb;omega),j3.block _ (by omega)];exact mh.out
        ·rw[e1,e2];rw[HG.out.1,nJ.out] at j1;exact j1
        ·exact ((gK.out.trans (j3.mono (by omega))).setCell (by show w.heap.size<=tb;omega) _).setCell (by show w.heap.size<=tb;omega) _
        ·simp
         omega
       clear qG oW oV lJ lK qm og oo mQ l9;go_wp2;go_roundw;case rel=>exact⟨k+1,_,_,by go_num,iD.out⟩
       case measure=>simp[intOf]<;>omega
     ·have hd:decide ((0:Int)<(nk:Int))=false:=by simp;omega
      have hfl:full (rows.take (k+1))=full (rows.take k):=by rw[lQ.out,if_neg hz]
      have iD:Hid (yg w w2 tb f s rows (k+1) (.string nm) (.slice a1 n1 c1) (.slice a2 n2 c2)):=by
       refine⟨by omega,by rw[U9.out],dD.out,mh.out,?_,gK.out,by omega⟩;rw[hfl];exact Gz.out
      clear hfl;go_wp2;go_roundw;case rel=>exact⟨k+1,_,_,by go_num,iD.out⟩
      case measure=>simp[intOf]<;>omega
    ·obtain⟨t,p,hv⟩:=gH.out.pos hs0;have hpos:0<rowAt f s rows k:=by
      have:0<=rowAt f s rows k:=Le ..;omega
     have tF:=(show Hid _ from UN w2 (HE.out.below gK.out hB).types (Nat.le_trans hB gK.out.size) (k:Int) v _ _ gH.out hpos);obtain⟨hC,hA⟩:=ZX (f:=f) (s:=s) (rows:=rows) (by rw[HN.out];exact zI.out) hkr HM.out.ok hs0;have HC:=(show Hid _ from And.intro hC hA);have Qk:=(show Hid _ from hs0);have hres:w2.heap[w.heap.size]? = some (.cells #[.int .i64 0,.int .i64 0,.slice none 0 0,.slice none 0 0] 25 (0,0)):=(HB2.out.block _ (Nat.lt_of_lt_of_le (aV HM.out.res) ig.out.size)).trans ((ig.out.block _ (aV HM.out.res)).trans HM.out.res);have mh:=(show Hid _ from hres);subst hv;clear hC hA hs0 hres Am;go_wp2_with fail;refine Calls.mono tF.out ?_;rintro e w3 ⟨pb,mm,rfl,hb3,hmm,zz0,YC,hcm⟩;have nD:=(hb3.block _ (aV mh.out)).trans mh.out;have HB3:=(show Hid _ from gK.out.trans (hb3.mono gK.out.size));have hpb:pb≠w.heap.size:=fun e=>by
      subst e;have:=(ak nD 1).symm.trans YC;simp at this
     have p0:w3.cell? ⟨w.heap.size,0,none⟩=some (.int .i64 0):=ak nD 0;have p1:w3.cell? ⟨w.heap.size,1,none⟩=some (.int .i64 0):=ak nD 1;have p2:w3.cell? ⟨w.heap.size,2,none⟩=some (.slice none 0 0):=ak nD 2;have p3:w3.cell? ⟨w.heap.size,3,none⟩=some (.slice none 0 0):=ak nD 3;have pf:∀ k,w3.frozen? ⟨w.heap.size,k,none⟩=false:=fun k=>by simp[World.frozen?,nD]
     have Gx:Hid (bD ea w3 (.iface 116 (.pointer (some ⟨pb,0,none⟩))) (zF f s rows) (BX f s rows)/\w3.heap[w.heap.size]? = some (.cells #[.int .i64 0,.int .i64 0,.slice none 0 0,.slice none 0 0] 25 (0,0))/\pb≠w.heap.size):=by
      refine⟨?_,nD,hpb⟩;rw[HC.out.1,HC.out.2];exact .inr (.inr ⟨pb,mm,hmm,rfl,zz0,YC,hcm⟩)
     clear hb3 zz0 YC hcm tF nD hpb;go_wp2;obtain⟨Z,hZ⟩:∃ Z,Z=((((w3.setCell ⟨w.heap.size,0,none⟩ (.int .i64 0)).setCell ⟨w.heap.size,1,none⟩ (.int .i64 0)).setCell ⟨w.heap.size,2,none⟩ (.slice none 0 0)).setCell ⟨w.heap.size,3,none⟩ (.slice none 0 0)):=⟨_,rfl⟩;rw[<-hZ];have eZ:Z.heap[w.heap.size]? = some (.cells #[.int .i64 0,.int .i64 0,.slice none 0 0,.slice none 0 0] 25 (0,0)):=by rw[hZ];exact uq Gx.out.2.1 _ _ _ _
     have hzb:Below w.heap.size w Z:=by rw[hZ];exact iM HB3.out (Nat.le_refl _) _ _ _ _
     have hfz:bD ea Z (.iface 116 (.pointer (some ⟨pb,0,none⟩))) (zF f s rows) (BX f s rows):=by
      have hcl:∀ o,Z.cell? ⟨pb,o,none⟩=w3.cell? ⟨pb,o,none⟩:=fun o=>by
       have:Z.heap[pb]? = w3.heap[pb]?:=by
        rw[hZ,Below.heap_setCell _ _ _ _ Gx.out.2.2,Below.heap_setCell _ _ _ _ Gx.out.2.2,Below.heap_setCell _ _ _ _ Gx.out.2.2,Below.heap_setCell _ _ _ _ Gx.out.2.2]
       simp[World.cell?,this]
      rcases Gx.out.1 with⟨h,_⟩|⟨m,_,h,_⟩|⟨pb',m,hm,h,c0,c1,hc⟩
      ·cases h
      ·simp at h
      ·obtain rfl:pb=pb':=by simpa using h
       exact .inr (.inr ⟨pb,m,hm,rfl,(hcl 0).trans c0,(hcl 1).trans c1,hc⟩)
     have z0:Z.cell? ⟨w.heap.size,0,none⟩=some (.int .i64 0):=ak eZ 0;have z1:Z.cell? ⟨w.heap.size,1,none⟩=some (.int .i64 0):=ak eZ 1;have z2:Z.cell? ⟨w.heap.size,2,none⟩=some (.slice none 0 0):=ak eZ 2;have z3:Z.cell? ⟨w.heap.size,3,none⟩=some (.slice none 0 0):=ak eZ 3;clear hZ eZ;refine bodyPost_ret (v:=.tuple #[.agg #[.int .i64 0,.int .i64 0,.slice none 0 0,.slice none 0 0],.iface 116 (.pointer (some ⟨pb,0,none⟩))]) (by simp[results,Tryz.results14,go_sem,z0,z1,z2,z3]) rfl ?_;exact⟨_,hzb,hfz,.inr ⟨fun h=>Qk.out (HC.out.1.symm.trans h),rfl⟩⟩
   ·obtain rfl:k=n:=by have:=HM.out.le;have:=HN.out;omega
    obtain⟨hC,hA⟩:=Ma (f:=f) (s:=s) (rows:=rows) (by rw[HN.out];exact zI.out) (by rw[HN.out];exact HM.out.ok);have HC:=(show Hid _ from And.intro hC hA);have zf:=HM.out.two;have uK:rows.take k=rows:=List.take_of_length_le (by rw[HN.out];omega);have Cb:=(show Hid _ from uK);have hblk:=zf.blk;generalize hg1:((full (rows.take k)).map Prod.fst).length=n1 at *;generalize hg2:((full (rows.take k)).map fun r=>jw r.2).length=n2 at *;have HG:=(show Hid _ from And.intro hg1 hg2);have t0:wr.cell? ⟨tb,0,none⟩=some (.int .i64 f):=ak hblk 0;have t1:wr.cell? ⟨tb,1,none⟩=some (.int .i64 s):=ak hblk 1;have t2:wr.cell? ⟨tb,2,none⟩=some (.slice a1 n1 c1):=ak hblk 2;have t3:wr.cell? ⟨tb,3,none⟩=some (.slice a2 n2 c2):=ak hblk 3;have p0:wr.cell? ⟨w.heap.size,0,none⟩=some (.int .i64 0):=ak HM.out.res 0;have p1:wr.cell? ⟨w.heap.size,1,none⟩=some (.int .i64 0):=ak HM.out.res 1;have p2:wr.cell? ⟨w.heap.size,2,none⟩=some (.slice none 0 0):=ak HM.out.res 2;have p3:wr.cell? ⟨w.heap.size,3,none⟩=some (.slice none 0 0):=ak HM.out.res 3;have pf:∀ k,wr.frozen? ⟨w.heap.size,k,none⟩=false:=fun k=>by simp[World.frozen?,HM.out.res]
    have QC:=(show Hid _ from zf);have hge:(k:Int)<=(k:Int):=Int.le_refl _;clear hC hA uK hg1 hg2 hblk zf;go_wp2;obtain⟨Z,hZ⟩:∃ Z,Z=((((wr.setCell ⟨w.heap.size,0,none⟩ (.int .i64 f)).setCell ⟨w.heap.size,1,none⟩ (.int .i64 s)).setCell ⟨w.heap.size,2,none⟩ (.slice a1 n1 c1)).setCell ⟨w.heap.size,3,none⟩ (.slice a2 n2 c2)):=⟨_,rfl⟩;rw[<-hZ];have eZ:Z.heap[w.heap.size]? = some (.cells #[.int .i64 f,.int .i64 s,.slice a1 n1 c1,.slice a2 n2 c2] 25 (0,0)):=by rw[hZ];exact uq HM.out.res _ _ _ _
    have hzb:Below w.heap.size w Z:=by rw[hZ];exact iM HM.out.bg (Nat.le_refl _) _ _ _ _
    have z0:Z.cell? ⟨w.heap.size,0,none⟩=some (.int .i64 f):=ak eZ 0;have z1:Z.cell? ⟨w.heap.size,1,none⟩=some (.int .i64 s):=ak eZ 1;have z2:Z.cell? ⟨w.heap.size,2,none⟩=some (.slice a1 n1 c1):=ak eZ 2;have z3:Z.cell? ⟨w.heap.size,3,none⟩=some (.slice a2 n2 c2):=ak eZ 3;have o1:Z.ownsRow w.heap.size 9 1 (.slice a1 n1 c1) (full rows).length (((full rows).map Prod.fst).map encStr):=by
     have h:=iW (b:=w.heap.size) QC.out.kD (by omega);rw[hZ];rw[Cb.out] at h;rw[List.length_map] at h;exact r9 h HM.out.res (by decide) _ _ _ _
    have o2:Z.ownsRow w.heap.size 9 1 (.slice a2 n2 c2) (full rows).length (((full rows).map fun r=>jw r.2).map encStr):=by
     have h:=iW (b:=w.heap.size) QC.out.lu (by omega);rw[hZ];rw[Cb.out] at h;rw[List.length_map] at h;exact r9 h HM.out.res (by decide) _ _ _ _
    clear hZ eZ;refine bodyPost_ret (v:=.tuple #[.agg #[.int .i64 f,.int .i64 s,.slice a1 n1 c1,.slice a2 n2 c2],.nilIface]) (by simp[results,Tryz.results14,go_sem,z0,z1,z2,z3]) rfl ?_;exact⟨_,hzb,.inl ⟨rfl,HC.out.1⟩,.inl ⟨HC.out.1,_,_,rfl,o1,o2⟩⟩
end Go.Proofs.YtcemkhalbjhdkaaGreatDoor
namespace Go.Proofs.YtcemkhalbjhdkaaGreatDoor
open Go.RowKit Go.Maps dQ
theorem xJ {B:Nat} {ea:Nat->Addr} (w:World) (E:oh B ea w) (hB:B<=w.heap.size) (f s:Int) (b1 b2:Nat) (v1 v2:Value) (ss cs:List (List UInt8)) (h1:w.ownsRow b1 9 1 v1 ss.length (ss.map encStr)) (h2:w.ownsRow b2 9 1 v2 cs.length (cs.map encStr)) (hss:∀ x,x∈ss->x.length<=100000) (hcs:∀ x,x∈cs->x.length<=10000) (hn:ss.length<=100000) (hm:cs.length<=100000) :
  Calls Tryz.prog 27 #[.agg #[.int .i64 f,.int .i64 s,v1,v2]] w fun e w'=>∃ v,e = .returned v/\Below w.heap.size w w'/\bD ea w' v (iG f s ss cs) (lT f s ss cs):=by
 obtain⟨a1,c1,rfl⟩:=bW h1;obtain⟨a2,c2,rfl⟩:=bW h2;obtain⟨W,hW⟩:∃ W,W=w.alloc (.cells #[.int .i64 f,.int .i64 s,.slice a1 ss.length c1,.slice a2 cs.length c2] 25):=⟨_,rfl⟩;have hbW:Below w.heap.size w W:=by rw[hW];exact (Below.refl _ _).alloc (Nat.le_refl _) _
 have hx:W.heap[w.heap.size]? = some (.cells #[.int .i64 f,.int .i64 s,.slice a1 ss.length c1,.slice a2 cs.length c2] 25 (0,0)):=by rw[hW];exact heap_alloc_new _ _
 have x0:W.cell? ⟨w.heap.size,0,none⟩=some (.int .i64 f):=ak hx 0;have x1:W.cell? ⟨w.heap.size,1,none⟩=some (.int .i64 s):=ak hx 1;have x2:W.cell? ⟨w.heap.size,2,none⟩=some (.slice a1 ss.length c1):=ak hx 2;have x3:W.cell? ⟨w.heap.size,3,none⟩=some (.slice a2 cs.length c2):=ak hx 3;have HR:=(show Hid _ from Oj W (E.below hbW hB) (Nat.le_trans hB hbW.size) f s b1 b2 _ _ ss cs (dN h1 fun g hg=>hbW.block g (bL h1 hg).2.1) (dN h2 fun g hg=>hbW.block g (bL h2 hg).2.1) hss hcs hn hm);have HW:=(show Hid _ from hW);have dO:=(show Hid _ from hbW);generalize hnn:ss.length=n at *;generalize hmm:cs.length=m at *;clear hW hbW hx E h1 h2 hss hcs hnn hmm;go_enter Tryz.func27,Tryz.ntmps27;go_upto_region 1 with fail;rw[<-HW.out];go_wp2_with fail;refine Calls.mono HR.out ?_;rintro e w1 ⟨x,v,rfl,hb1,hf1,_,_⟩;have HB1:=(show Hid _ from dO.out.trans (hb1.mono dO.out.size));have BL:=(show Hid _ from hf1);clear hb1 hf1;go_wp2;go_ret;exact⟨v,rfl,HB1.out,BL.out⟩
end Go.Proofs.YtcemkhalbjhdkaaGreatDoor
