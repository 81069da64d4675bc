import Derived.Deep.RegionHeld
namespace Go.Proofs.YtcemkhalbjhdkaaGreatDoor
section
variable {P:Program} {ops:Array Oper} {Q:Exit->Act->World->Prop} {md:Region.Mode} {S:World->Prop} {st:Nat}
abbrev WQ (S:World->Prop) (st i:Nat) (up:Array Bool) (w:World):Prop:=i≠st->up.getD st true=false->S w
def wpAnyS (P:Program) (md:Region.Mode) (ops:Array Oper) (Q:Exit->Act->World->Prop) (S:World->Prop) (st:Nat):Nat->Array Bool->Act->World->Prop
 | 0,up,a,w=>Region.ready md ops up = []/\Q .normal a w
 | n+1,up,a,w=>(Region.ready md ops up = []->Q .normal a w)/\∀ i∈Region.ready md ops up,wpOp P ops Q i (fun b z=>WQ S st i up z/\wpAnyS P md ops Q S st n (up.setIfInBounds i true) b z) a w
theorem RU (n:Nat):∀ (up:Array Bool) (a:Act) (w:World),wpAnyS P md ops Q S st n up a w->wpAny P md ops Q n up a w:=by
 induction n with
 | zero=>exact fun _ _ _ h=>h
 | succ n ih=>exact fun up _ _ h=>And.imp_right (fun g i hi=>wpOp_mono (fun b z k=>ih _ b z k.2) (g i hi)) h
theorem ZH {up:Array Bool} {i:Nat}:(up.setIfInBounds i true).getD i true=true:=by
 rcases Nat.lt_or_ge i up.size with h | h<;>simp[h]
theorem abW {up:Array Bool} {i:Nat} (h:up.getD i true=false):up.getD i false=false:=by
 rcases Nat.lt_or_ge i up.size with g | g
 ·simpa [g] using h
 ·simp[g]
def waitsFor (md:Region.Mode) (ops:Array Oper) (st i:Nat):Bool:=match ops[st]? with
 | some o=>o.after.toList.any fun e=>Region.binds md e&&e.on==i
 | none=>false
theorem J9 {i j:Nat} {up:Array Bool} {o:Oper} (ho:ops[j]? = some o) (hw:∃ e∈o.after,Region.binds md e=true/\e.on=i) (hi:up.getD i true=false):j∉Region.ready md ops up:=fun hr=>by
 obtain⟨_,o',ho',hall⟩:=mem_ready.1 hr;obtain rfl:o'=o:=Option.some.inj (ho'.symm.trans ho);obtain⟨e,he,hb,rfl⟩:=hw;have:=hall e he hb;rw[abW hi] at this;cases this
theorem Ut {i:Nat} {up:Array Bool} (hw:waitsFor md ops st i=true) (hi:up.getD i true=false):st∉Region.ready md ops up:=by
 unfold waitsFor at hw;split at hw
 ·rename_i o ho;obtain⟨e,he,hb⟩:=List.any_eq_true.1 hw;simp only[Bool.and_eq_true,beq_iff_eq] at hb;exact J9 ho ⟨e,by simpa using he,hb.1,hb.2⟩ hi
 ·cases hw
theorem DT {i:Nat} {oi:Oper} {v:Value} (wt:Bool) (hi:ops[i]? = some oi) (hs:Region.noSelect ops=true) (hne:st≠i) (hQ:∀ c a w,Q (.panic c) (a.put oi.dst v) w->Q (.panic c) a w)
  (hw:wt=true->waitsFor md ops st i=true) (n:Nat):∀ (up:Array Bool) (a:Act) (w:World),
   (∀ j oj,ops[j]? = some oj->j≠i->up.getD j true=false->(∀ e∈oj.after,Region.binds md e=true->e.on≠i)->oi.apart ops oj=true) ->
   i∈Region.ready md ops up->YieldsIf P ops (fun z=>wt=true->S z) oi v a->(wt=true->up.getD st true=false)->(up.getD st true=false->S w) ->
   wpAnyS P md ops Q S st n (up.setIfInBounds i true) (a.put oi.dst v) w->wpAnyS P md ops Q S st (n+1) up a w:=by
 induction n with
 | zero=>
  refine fun up a w _ hr hy h1 h2 rest=>⟨fun e=>absurd hr (by rw[e];exact List.not_mem_nil),fun j hj=>?_⟩
  rcases Decidable.em (j=i) with rfl | hji
  ·exact hy.wpOp hi (fun h=>h2 (h1 h)) ⟨fun _=>h2,rest⟩
  ·exact absurd (ready_mono hj hji) (by rw[rest.1];exact List.not_mem_nil)
 | succ n ih=>
  refine fun up a w hap hr hy h1 h2 rest=>⟨fun e=>absurd hr (by rw[e];exact List.not_mem_nil),fun j hj=>?_⟩
  rcases Decidable.em (j=i) with rfl | hji
  ·exact hy.wpOp hi (fun h=>h2 (h1 h)) ⟨fun _=>h2,rest⟩
  have hiu:=(mem_ready.1 hr).1;obtain⟨hju,oj,hoj,_⟩:=mem_ready.1 hj;have hnw:∀ e∈oj.after,Region.binds md e=true->e.on≠i:=fun e he hb hon=>J9 hoj ⟨e,he,hb,hon⟩ hiu hj
  have hus:(up.setIfInBounds i true).getD st true=up.getD st true:=getD_set_ne true (Ne.symm hne);have key:=wpOp_putIf hoj (hap j oj hoj hji hju hnw) (fun cs b=>Region.noSelect_spec hs i oi cs b hi) (fun cs b=>Region.noSelect_spec hs j oj cs b hoj) hQ hy (rest.2 j (ready_mono hj hji));refine wpOp_mono (fun b z k=>?_) key;obtain⟨hyz,Np,hgo⟩:=k;have hz:(up.setIfInBounds j true).getD st true=false->S z:=fun hst=>by
   rcases Decidable.em (j=st) with rfl | hjs
   ·rw[ZH] at hst;cases hst
   ·exact Np hjs (by rw[hus,<-getD_set_ne true hjs];exact hst)
  refine⟨fun hjs hst=>Np hjs (by rw[hus];exact hst),ih _ b z (fun q oq hq hqi hqu X5=>hap q oq hq hqi ?_ X5) (ready_mono hr (Ne.symm hji)) hyz (fun h=>?_) hz ?_⟩
  ·rcases Decidable.em (j=q) with rfl | hjq
   ·exact hju
   ·rwa [getD_set_ne true hjq] at hqu
  ·have hjs:j≠st:=fun e=>Ut (hw h) hiu (by rw[<-e];exact hj)
   rw[getD_set_ne true hjs];exact h1 h
  ·rw[Array.setIfInBounds_comm _ _ hji];exact hgo
theorem gU {i:Nat} {oi:Oper} {v:Value} {n:Nat} {up:Array Bool} {a:Act} {w:World} (hi:ops[i]? = some oi) (hs:Region.noSelect ops=true) (hf:Region.free md ops up i=true) (hr:(Region.ready md ops up).contains i=true) (hw:waitsFor md ops st i=true) (hne:(st==i)=false) (hst:up.getD st true=false)
  (hQ:∀ c a w,Q (.panic c) (a.put oi.dst v) w->Q (.panic c) a w) (hy:YieldsIf P ops S oi v a) (hS:S w) (h:wpAnyS P md ops Q S st n (up.setIfInBounds i true) (a.put oi.dst v) w):wpAnyS P md ops Q S st (n+1) up a w:=
 DT true hi hs (by simpa using hne) hQ (fun _=>hw) n up a w (Region.free_spec hi hf) (by simpa using hr) (hy.imp (fun g=>⟨g.1,fun z hz=>g.2 z (hz rfl)⟩) id) (fun _=>hst) (fun _=>hS) h
theorem bV {i:Nat} {oi:Oper} {v:Value} {n:Nat} {up:Array Bool} {a:Act} {w:World} (hi:ops[i]? = some oi) (hs:Region.noSelect ops=true) (hf:Region.free md ops up i=true) (hr:(Region.ready md ops up).contains i=true) (hne:(st==i)=false)
  (hQ:∀ c a w,Q (.panic c) (a.put oi.dst v) w->Q (.panic c) a w) (hy:YieldsIf P ops (fun _=>True) oi v a) (hS:up.getD st true=false->S w) (h:wpAnyS P md ops Q S st n (up.setIfInBounds i true) (a.put oi.dst v) w):wpAnyS P md ops Q S st (n+1) up a w:=
 DT false hi hs (by simpa using hne) hQ (fun e=>by cases e) n up a w (Region.free_spec hi hf) (by simpa using hr) (hy.imp (fun g=>⟨g.1,fun z _=>g.2 z trivial⟩) id) (fun e=>by cases e) hS h
def aI (P:Program) (md:Region.Mode) (ops:Array Oper) (Q:Exit->Act->World->Prop) (S:World->Prop) (st n:Nat) (up:Array Bool) (a:Act) (w:World) (rs:List Nat):Prop:=
 ∀ i∈rs,wpOp P ops Q i (fun b z=>WQ S st i up z/\wpAnyS P md ops Q S st n (up.setIfInBounds i true) b z) a w
theorem aI.nil {n:Nat} {up:Array Bool} {a:Act} {w:World}:aI P md ops Q S st n up a w []:=fun _ h=>absurd h List.not_mem_nil
theorem aI.step {n:Nat} {up:Array Bool} {a:Act} {w:World} {i:Nat} {o:Oper} {rs:List Nat} (ho:ops[i]? = some o)
  (h:∀ K:Act->World->Prop,Shut (∀ b z,WQ S st i up z->wpAnyS P md ops Q S st n (up.setIfInBounds i true) b z->K b z)->if Region.wanted o (yielded ops a.tmps)=true then Oper.wp P o a w K Q else K (a.put o.dst undef) w)
  (hs:aI P md ops Q S st n up a w rs):aI P md ops Q S st n up a w (i::rs):=fun j hj=>(List.mem_cons.1 hj).elim (fun e=>by
   rw[e];exact wpOp_step ho fun K hK=>h K fun b z h1 h2=>hK b z ⟨h1,h2⟩) (hs j)
theorem aI.cons {n:Nat} {up:Array Bool} {a:Act} {w:World} {i:Nat} {o:Oper} {rs:List Nat} (ho:ops[i]? = some o)
  (h:∀ K:Act->World->Prop,Shut (∀ b z,S z->wpAnyS P md ops Q S st n (up.setIfInBounds i true) b z->K b z)->if Region.wanted o (yielded ops a.tmps)=true then Oper.wp P o a w K Q else K (a.put o.dst undef) w)
  (hs:aI P md ops Q S st n up a w rs):aI P md ops Q S st n up a w (i::rs):=.step ho (fun K hK=>h K fun b z h1 h2=>hK.out b z (fun _ _=>h1) h2) hs
theorem aI.last {n:Nat} {up:Array Bool} {a:Act} {w:World} {i:Nat} {o:Oper} {rs:List Nat} (ho:ops[i]? = some o) (hst:(i==st||up.getD st true)=true)
  (h:∀ K:Act->World->Prop,Shut (∀ b z,wpAnyS P md ops Q S st n (up.setIfInBounds i true) b z->K b z)->if Region.wanted o (yielded ops a.tmps)=true then Oper.wp P o a w K Q else K (a.put o.dst undef) w)
  (hs:aI P md ops Q S st n up a w rs):aI P md ops Q S st n up a w (i::rs):=.step ho (fun K hK=>h K fun b z h2=>hK.out b z (fun h3 h4=>by
   rw[h4] at hst;exact absurd (by simpa using hst) h3) h2) hs
theorem fP {up:Array Bool} {a:Act} {w:World} (hr:Region.ready md ops up = []) (h:Q .normal a w) (n:Nat):wpAnyS P md ops Q S st n up a w:=by
 cases n with
 | zero=>exact⟨hr,h⟩
 | succ n=>exact⟨fun _=>h,fun i hi=>absurd hi (by rw[hr];exact List.not_mem_nil)⟩
theorem bH {rs:List Nat} {n:Nat} {up:Array Bool} {a:Act} {w:World} (hr:Region.ready md ops up=rs) (hne:rs ≠ []) (h:aI P md ops Q S st n up a w rs):wpAnyS P md ops Q S st (n+1) up a w:=
 ⟨fun e=>absurd (hr.symm.trans e) hne,fun i hi=>h i (hr ▸ hi)⟩
theorem mJ {id:Nat} {a:Act} {w:World} (hm:P.follows .mixedOrders=true) (st:Nat) (hS:S w.drew) (h:S w.drew->wpAnyS P .any ops Q S st ops.size (Array.replicate ops.size false) a w.drew):(Code.region id ops true).wp P Q a w:=wp_region_any hm (RU _ _ _ _ (h hS))
end
end Go.Proofs.YtcemkhalbjhdkaaGreatDoor
