import Derived.Deep.RegionHeld
namespace Go.Proofs.YtololnhfgjbhjaaGreatDoor
section
variable {P:Program} {ops:Array Oper} {Q:Exit->Act->World->Prop} {md:Region.Mode} {S:World->Prop} {st:Nat}
abbrev aaP(S:World->Prop)(st i:Nat)(up:Array Bool)(w:World):Prop:=i≠st->up.getD st true=false->S w
def wpAnyS(P:Program)(md:Region.Mode)(ops:Array Oper)(Q:Exit->Act->World->Prop)(S:World->Prop)(st:Nat):Nat->Array Bool->Act->World->Prop
 | 0,up,a,w=>Region.ready md ops up = []/\Q .normal a w
 | n+1,up,a,w=>(Region.ready md ops up = []->Q .normal a w)/\∀i∈Region.ready md ops up,wpOp P ops Q i (λb z=>aaP S st i up z/\wpAnyS P md ops Q S st n (up.setIfInBounds i true) b z) a w
theorem Vm(n:Nat):∀(up:Array Bool) (a:Act) (w:World),wpAnyS P md ops Q S st n up a w->wpAny P md ops Q n up a w:=by
 induction n with
 | zero=>exact λ_ _ _ h=>h
 | succ n ih=>exact λup _ _ h=>And.imp_right (λg i hi=>wpOp_mono (λb z k=>ih _ b z k.2) (g i hi)) h
theorem adR{up:Array Bool}{i:Nat}:(up.setIfInBounds i true).getD i true=true:=by
 rcases Nat.lt_or_ge i up.size with h|h<;>simp[h]
theorem agf{up:Array Bool}{i:Nat}(h:up.getD i true=false):up.getD i false=false:=by
 rcases Nat.lt_or_ge i up.size with g|g
 ·simpa [g] using h
 ·simp[g]
def waitsFor(md:Region.Mode)(ops:Array Oper)(st i:Nat):Bool:=match ops[st]? with
 | some o=>o.after.toList.any λe=>Region.binds md e&&e.on==i
 | none=>false
theorem MK{i j:Nat}{up:Array Bool}{o:Oper}(ho:ops[j]? = some o)(hw:∃e∈o.after,Region.binds md e=true/\e.on=i)(hi:up.getD i true=false):j∉Region.ready md ops up:=λhr=>by
 obtain⟨_,o',ho',Ä⟩:=mem_ready.1 hr;obtain rfl:o'=o:=Option.some.inj (ho'.symm.trans ho);obtain⟨e,he,hb,rfl⟩:=hw;have:=Ä e he hb;rw[agf hi] at this;cases this
theorem Yc{i:Nat}{up:Array Bool}(hw:waitsFor md ops st i=true)(hi:up.getD i true=false):st∉Region.ready md ops up:=by
 unfold waitsFor at hw;split at hw
 ·rename_i o ho;obtain⟨e,he,hb⟩:=List.any_eq_true.1 hw;simp only[Bool.and_eq_true,beq_iff_eq] at hb;exact MK ho ⟨e,by simpa using he,hb.1,hb.2⟩ hi
 ·cases hw
theorem FQ{i:Nat}{oi:Oper}{v:Value}(wt:Bool)(hi:ops[i]? = some oi)(hs:Region.noSelect ops=true)(Ϙ:st≠i)(hQ:∀c a w,Q (.panic c) (a.put oi.dst v) w->Q (.panic c) a w)
  (hw:wt=true->waitsFor md ops st i=true) (n:Nat):∀(up:Array Bool) (a:Act) (w:World),
   (∀j oj,ops[j]? = some oj->j≠i->up.getD j true=false->(∀e∈oj.after,Region.binds md e=true->e.on≠i)->oi.apart ops oj=true) ->
   i∈Region.ready md ops up->YieldsIf P ops (λz=>wt=true->S z) oi v a->(wt=true->up.getD st true=false)->(up.getD st true=false->S w) ->
   wpAnyS P md ops Q S st n (up.setIfInBounds i true) (a.put oi.dst v) w->wpAnyS P md ops Q S st (n+1) up a w:=by
 induction n with
 | zero=>
  refine λup a w _ hr hy h1 h2 rest=>⟨λe=>absurd hr (by rw[e];exact List.not_mem_nil),λj hj=>?_⟩
  rcases Decidable.em (j=i) with rfl|hji
  ·exact hy.wpOp hi (λh=>h2 (h1 h)) ⟨λ_=>h2,rest⟩
  ·exact absurd (ready_mono hj hji) (by rw[rest.1];exact List.not_mem_nil)
 | succ n ih=>
  refine λup a w Ū hr hy h1 h2 rest=>⟨λe=>absurd hr (by rw[e];exact List.not_mem_nil),λj hj=>?_⟩
  rcases Decidable.em (j=i) with rfl|hji
  ·exact hy.wpOp hi (λh=>h2 (h1 h)) ⟨λ_=>h2,rest⟩
  have hiu:=(mem_ready.1 hr).1;obtain⟨hju,oj,hoj,_⟩:=mem_ready.1 hj;have hnw:∀e∈oj.after,Region.binds md e=true->e.on≠i:=λe he hb ι=>MK hoj ⟨e,he,hb,ι⟩ hiu hj
  have hus:(up.setIfInBounds i true).getD st true=up.getD st true:=getD_set_ne true (Ne.symm Ϙ);have key:=wpOp_putIf hoj (Ū j oj hoj hji hju hnw) (λcs b=>Region.noSelect_spec hs i oi cs b hi) (λcs b=>Region.noSelect_spec hs j oj cs b hoj) hQ hy (rest.2 j (ready_mono hj hji));refine wpOp_mono (λb z k=>?_) key;obtain⟨hyz,gQ,hgo⟩:=k;have hz:(up.setIfInBounds j true).getD st true=false->S z:=λϔ=>by
   rcases Decidable.em (j=st) with rfl|hjs
   ·rw[adR] at ϔ;cases ϔ
   ·exact gQ hjs (by rw[hus,<-getD_set_ne true hjs];exact ϔ)
  refine⟨λhjs ϔ=>gQ hjs (by rw[hus];exact ϔ),ih _ b z (λq oq hq hqi hqu hqn=>Ū q oq hq hqi ?_ hqn) (ready_mono hr (Ne.symm hji)) hyz (λh=>?_) hz ?_⟩
  ·rcases Decidable.em (j=q) with rfl|hjq
   ·exact hju
   ·rwa [getD_set_ne true hjq] at hqu
  ·have hjs:j≠st:=λe=>Yc (hw h) hiu (by rw[<-e];exact hj)
   rw[getD_set_ne true hjs];exact h1 h
  ·rw[Array.setIfInBounds_comm _ _ hji];exact hgo
theorem nP{i:Nat}{oi:Oper}{v:Value}{n:Nat}{up:Array Bool}{a:Act}{w:World}(hi:ops[i]? = some oi)(hs:Region.noSelect ops=true)(hf:Region.free md ops up i=true)(hr:(Region.ready md ops up).contains i=true)(hw:waitsFor md ops st i=true)(Ϙ:(st==i)=false)(ϔ:up.getD st true=false)
  (hQ:∀c a w,Q (.panic c) (a.put oi.dst v) w->Q (.panic c) a w) (hy:YieldsIf P ops S oi v a) (hS:S w) (h:wpAnyS P md ops Q S st n (up.setIfInBounds i true) (a.put oi.dst v) w):wpAnyS P md ops Q S st (n+1) up a w:=
 FQ true hi hs (by simpa using Ϙ) hQ (λ_=>hw) n up a w (Region.free_spec hi hf) (by simpa using hr) (hy.imp (λg=>⟨g.1,λz hz=>g.2 z (hz rfl)⟩) id) (λ_=>ϔ) (λ_=>hS) h
theorem kW{i:Nat}{oi:Oper}{v:Value}{n:Nat}{up:Array Bool}{a:Act}{w:World}(hi:ops[i]? = some oi)(hs:Region.noSelect ops=true)(hf:Region.free md ops up i=true)(hr:(Region.ready md ops up).contains i=true)(Ϙ:(st==i)=false)
  (hQ:∀c a w,Q (.panic c) (a.put oi.dst v) w->Q (.panic c) a w) (hy:YieldsIf P ops (λ_=>True) oi v a) (hS:up.getD st true=false->S w) (h:wpAnyS P md ops Q S st n (up.setIfInBounds i true) (a.put oi.dst v) w):wpAnyS P md ops Q S st (n+1) up a w:=
 FQ false hi hs (by simpa using Ϙ) hQ (λe=>by cases e) n up a w (Region.free_spec hi hf) (by simpa using hr) (hy.imp (λg=>⟨g.1,λz _=>g.2 z trivial⟩) id) (λe=>by cases e) hS h
def aW(P:Program)(md:Region.Mode)(ops:Array Oper)(Q:Exit->Act->World->Prop)(S:World->Prop)(st n:Nat)(up:Array Bool)(a:Act)(w:World)(rs:List Nat):Prop:=
 ∀i∈rs,wpOp P ops Q i (λb z=>aaP S st i up z/\wpAnyS P md ops Q S st n (up.setIfInBounds i true) b z) a w
theorem aW.nil{n:Nat}{up:Array Bool}{a:Act}{w:World}:aW P md ops Q S st n up a w []:=λ_ h=>absurd h List.not_mem_nil
theorem aW.step{n:Nat}{up:Array Bool}{a:Act}{w:World}{i:Nat}{o:Oper}{rs:List Nat}(ho:ops[i]? = some o)
  (h:∀K:Act->World->Prop,Shut (∀b z,aaP S st i up z->wpAnyS P md ops Q S st n (up.setIfInBounds i true) b z->K b z)->if Region.wanted o (yielded ops a.tmps)=true then Oper.wp P o a w K Q else K (a.put o.dst undef) w)
  (hs:aW P md ops Q S st n up a w rs):aW P md ops Q S st n up a w (i::rs):=λj hj=>(List.mem_cons.1 hj).elim (λe=>by
   rw[e];exact wpOp_step ho λK hK=>h K λb z h1 h2=>hK b z ⟨h1,h2⟩) (hs j)
theorem aW.cons{n:Nat}{up:Array Bool}{a:Act}{w:World}{i:Nat}{o:Oper}{rs:List Nat}(ho:ops[i]? = some o)
  (h:∀K:Act->World->Prop,Shut (∀b z,S z->wpAnyS P md ops Q S st n (up.setIfInBounds i true) b z->K b z)->if Region.wanted o (yielded ops a.tmps)=true then Oper.wp P o a w K Q else K (a.put o.dst undef) w)
  (hs:aW P md ops Q S st n up a w rs):aW P md ops Q S st n up a w (i::rs):=.step ho (λK hK=>h K λb z h1 h2=>hK.out b z (λ_ _=>h1) h2) hs
theorem aW.last{n:Nat}{up:Array Bool}{a:Act}{w:World}{i:Nat}{o:Oper}{rs:List Nat}(ho:ops[i]? = some o)(ϔ:(i==st||up.getD st true)=true)
  (h:∀K:Act->World->Prop,Shut (∀b z,wpAnyS P md ops Q S st n (up.setIfInBounds i true) b z->K b z)->if Region.wanted o (yielded ops a.tmps)=true then Oper.wp P o a w K Q else K (a.put o.dst undef) w)
  (hs:aW P md ops Q S st n up a w rs):aW P md ops Q S st n up a w (i::rs):=.step ho (λK hK=>h K λb z h2=>hK.out b z (λh3 h4=>by
   rw[h4] at ϔ;exact absurd (by simpa using ϔ) h3) h2) hs
theorem fD{up:Array Bool}{a:Act}{w:World}(hr:Region.ready md ops up = [])(h:Q .normal a w)(n:Nat):wpAnyS P md ops Q S st n up a w:=by
 cases n with
 | zero=>exact⟨hr,h⟩
 | succ n=>exact⟨λ_=>h,λi hi=>absurd hi (by rw[hr];exact List.not_mem_nil)⟩
theorem dJ{rs:List Nat}{n:Nat}{up:Array Bool}{a:Act}{w:World}(hr:Region.ready md ops up=rs)(Ϙ:rs ≠ [])(h:aW P md ops Q S st n up a w rs):wpAnyS P md ops Q S st (n+1) up a w:=
 ⟨λe=>absurd (hr.symm.trans e) Ϙ,λi hi=>h i (hr ▸ hi)⟩
theorem jw{id:Nat}{a:Act}{w:World}(hm:P.follows .mixedOrders=true)(st:Nat)(hS:S w.drew)(h:S w.drew->wpAnyS P .any ops Q S st ops.size (Array.replicate ops.size false) a w.drew):(Code.region id ops true).wp P Q a w:=wp_region_any hm (Vm _ _ _ _ (h hS))
end
section
variable {P:Program} {ops:Array Oper} {Q:Exit->Act->World->Prop} {md:Region.Mode} {S:World->Prop} {st:Nat}
theorem Qc{i:Nat}{oi:Oper}{d:Option Tmp}{v:Value}{n:Nat}{up:Array Bool}{a:Act}{w:World}(hi:ops[i]? = some oi)(hd:oi.dst=d)(hs:Region.noSelect ops=true)(hf:Region.free md ops up i=true)(hr:(Region.ready md ops up).contains i=true)(hw:waitsFor md ops st i=true)(Ϙ:(st==i)=false)(ϔ:up.getD st true=false)
  (hQ:∀c a w,Q (.panic c) (a.put d v) w->Q (.panic c) a w) (hy:YieldsIf P ops S oi v a) (hS:S w) (h:wpAnyS P md ops Q S st n (up.setIfInBounds i true) (a.put d v) w):wpAnyS P md ops Q S st (n+1) up a w:=by
 subst hd;exact nP hi hs hf hr hw Ϙ ϔ hQ hy hS h
theorem NR{i:Nat}{oi:Oper}{d:Option Tmp}{v:Value}{n:Nat}{up:Array Bool}{a:Act}{w:World}(hi:ops[i]? = some oi)(hd:oi.dst=d)(hs:Region.noSelect ops=true)(hf:Region.free md ops up i=true)(hr:(Region.ready md ops up).contains i=true)(Ϙ:(st==i)=false)
  (hQ:∀c a w,Q (.panic c) (a.put d v) w->Q (.panic c) a w) (hy:YieldsIf P ops (λ_=>True) oi v a) (hS:up.getD st true=false->S w) (h:wpAnyS P md ops Q S st n (up.setIfInBounds i true) (a.put d v) w):wpAnyS P md ops Q S st (n+1) up a w:=by
 subst hd;exact kW hi hs hf hr Ϙ hQ hy hS h
theorem nJ(i d:Nat)(v:Value){oi:Oper}{n:Nat}{up:Array Bool}{a:Act}{w:World}(hS:S w)(hi:ops[i]? = some oi)(hd:oi.dst=some d)(hy:∀w,S w->(execOp a.eval oi).run P w = .ok (.value v) w)(h:wpAnyS P md ops Q S st n (up.setIfInBounds i true) (a.put (some d) v) w)
  (hg:Region.wanted oi (yielded ops a.tmps)=true:=by rfl) (hs:Region.noSelect ops=true:=by kernel_rfl) (hf:Region.free md ops up i=true:=by kernel_rfl) (hr:(Region.ready md ops up).contains i=true:=by kernel_rfl) (hw:waitsFor md ops st i=true:=by kernel_rfl) (Ϙ:(st==i)=false:=by kernel_rfl) (ϔ:up.getD st true=false:=by kernel_rfl) (hQ:∀c a w,Q (.panic c) (a.put (some d) v) w->Q (.panic c) a w:=by exact λ_ _ _ h=>h):wpAnyS P md ops Q S st (n+1) up a w:=
 Qc hi hd hs hf hr hw Ϙ ϔ hQ (.inl ⟨hg,hy⟩) hS h
theorem dw(i d:Nat)(v:Value){oi:Oper}{n:Nat}{up:Array Bool}{a:Act}{w:World}(hS:S w)(hi:ops[i]? = some oi)(hd:oi.dst=some d)(hy:∀w,True->(execOp a.eval oi).run P w = .ok (.value v) w)(h:wpAnyS P md ops Q S st n (up.setIfInBounds i true) (a.put (some d) v) w)
  (hg:Region.wanted oi (yielded ops a.tmps)=true:=by rfl) (hs:Region.noSelect ops=true:=by kernel_rfl) (hf:Region.free md ops up i=true:=by kernel_rfl) (hr:(Region.ready md ops up).contains i=true:=by kernel_rfl) (Ϙ:(st==i)=false:=by kernel_rfl) (hQ:∀c a w,Q (.panic c) (a.put (some d) v) w->Q (.panic c) a w:=by exact λ_ _ _ h=>h):wpAnyS P md ops Q S st (n+1) up a w:=
 NR hi hd hs hf hr Ϙ hQ (.inl ⟨hg,hy⟩) (λ_=>hS) h
theorem vI(i:Nat){o:Oper}{n:Nat}{up:Array Bool}{a:Act}{w:World}(ho:ops[i]? = some o)(h:∀K:Act->World->Prop,Shut (∀b z,S z->wpAnyS P md ops Q S st n (up.setIfInBounds i true) b z->K b z)->if Region.wanted o (yielded ops a.tmps)=true then Oper.wp P o a w K Q else K (a.put o.dst undef) w)(hr:Region.ready md ops up = [i]:=by kernel_rfl):wpAnyS P md ops Q S st (n+1) up a w:=
 dJ hr (by simp) (.cons ho h .nil)
theorem rD(i:Nat){o:Oper}{n:Nat}{up:Array Bool}{a:Act}{w:World}(ho:ops[i]? = some o)(h:∀K:Act->World->Prop,Shut (∀b z,wpAnyS P md ops Q S st n (up.setIfInBounds i true) b z->K b z)->if Region.wanted o (yielded ops a.tmps)=true then Oper.wp P o a w K Q else K (a.put o.dst undef) w)(ϔ:(i==st||up.getD st true)=true:=by kernel_rfl)(hr:Region.ready md ops up = [i]:=by kernel_rfl):wpAnyS P md ops Q S st (n+1) up a w:=
 dJ hr (by simp) (.last ho ϔ h .nil)
end
end Go.Proofs.YtololnhfgjbhjaaGreatDoor
