import Derived.Deep.RegionHeld
open List
namespace Go.Proofs.YtnjmhjdhfaboaaaGreatDoor
section
variable {P:Program} {ops:Array Oper} {Q:Exit->Act->World->Prop} {md:Region.Mode} {S:World->Prop} {st:Nat}
abbrev acv(S:World->Prop)(st i:Nat)(up:Array Bool)(w:World):Prop:=i≠st->up.getD st true=false->S w
def wpAnyS(P:Program)(md:Region.Mode)(ops:Array Oper)(Q:Exit->Act->World->Prop)(S:World->Prop)(st:Nat):Nat->Array Bool->Act->World->Prop
 | 0,up,a,w=>Region.ready md ops up = []/\Q .normal a w
 | n+1,up,a,w=>(Region.ready md ops up = []->Q .normal a w)/\∀i∈Region.ready md ops up,wpOp P ops Q i (λb z=>acv S st i up z/\wpAnyS P md ops Q S st n (up.setIfInBounds i true) b z) a w
theorem Xa(n:Nat):∀(o:Array Bool) (a:Act) (w:World),wpAnyS P md ops Q S st n o a w->wpAny P md ops Q n o a w:=by
 induction n with
 | zero=>exact λ_ _ _ h=>h
 | succ n ih=>exact λo _ _ h=>And.imp_right (λg i q=>wpOp_mono (λb z k=>ih _ b z k.2) (g i q)) h
theorem afB{o:Array Bool}{i:Nat}:(o.setIfInBounds i true).getD i true=true:=by
 rcases Nat.lt_or_ge i o.size with h|h<;>simp[h]
theorem ahu{o:Array Bool}{i:Nat}(h:o.getD i true=false):o.getD i false=false:=by
 rcases Nat.lt_or_ge i o.size with g|g
 ·simpa [g] using h
 ·simp[g]
def waitsFor(md:Region.Mode)(ops:Array Oper)(st i:Nat):Bool:=match ops[st]? with
 | some o=>o.after.toList.any λe=>Region.binds md e&&e.on==i
 | none=>false
theorem N7{i j:Nat}{z:Array Bool}{o:Oper}(H:ops[j]? = some o)(K:∃e∈o.after,Region.binds md e=true/\e.on=i)(D:z.getD i true=false):j∉Region.ready md ops z:=λG=>by
 obtain⟨_,I,q,A⟩:=mem_ready.1 G;obtain rfl:I=o:=Option.some.inj (q.symm.trans H);obtain⟨e,J,F,rfl⟩:=K;have:=A e J F;rw[ahu D] at this;cases this
theorem Zv{i:Nat}{A:Array Bool}(q:waitsFor md ops st i=true)(D:A.getD i true=false):st∉Region.ready md ops A:=by
 unfold waitsFor at q;split at q
 ·rename_i o F;obtain⟨e,G,z⟩:=any_eq_true.1 q;simp only[Bool.and_eq_true,beq_iff_eq] at z;exact N7 F ⟨e,by simpa using G,z.1,z.2⟩ D
 ·cases q
theorem F7{i:Nat}{I:Oper}{v:Value}(wt:Bool)(hi:ops[i]? = some I)(hs:Region.noSelect ops=true)(ϕ:st≠i)(hQ:∀c a w,Q (.panic c) (a.put I.dst v) w->Q (.panic c) a w)
  (hw:wt=true->waitsFor md ops st i=true) (n:Nat):∀(D:Array Bool) (a:Act) (w:World),
   (∀j G,ops[j]? = some G->j≠i->D.getD j true=false->(∀e∈G.after,Region.binds md e=true->e.on≠i)->I.apart ops G=true) ->
   i∈Region.ready md ops D->YieldsIf P ops (λz=>wt=true->S z) I v a->(wt=true->D.getD st true=false)->(D.getD st true=false->S w) ->
   wpAnyS P md ops Q S st n (D.setIfInBounds i true) (a.put I.dst v) w->wpAnyS P md ops Q S st (n+1) D a w:=by
 induction n with
 | zero=>
  refine λD a w _ U Z Y K o=>⟨λe=>absurd U (by rw[e];exact not_mem_nil),λj J=>?_⟩
  rcases Decidable.em (j=i) with rfl|A
  ·exact Z.wpOp hi (λh=>K (Y h)) ⟨λ_=>K,o⟩
  ·exact absurd (ready_mono J A) (by rw[o.1];exact not_mem_nil)
 | succ n ih=>
  refine λD a w Ū U Z Y K o=>⟨λe=>absurd U (by rw[e];exact not_mem_nil),λj J=>?_⟩
  rcases Decidable.em (j=i) with rfl|A
  ·exact Z.wpOp hi (λh=>K (Y h)) ⟨λ_=>K,o⟩
  have V:=(mem_ready.1 U).1;obtain⟨W,G,F,_⟩:=mem_ready.1 J;have hnw:∀e∈G.after,Region.binds md e=true->e.on≠i:=λe he hb Θ=>N7 F ⟨e,he,hb,Θ⟩ V J
  have O:(D.setIfInBounds i true).getD st true=D.getD st true:=getD_set_ne true (Ne.symm ϕ);have key:=wpOp_putIf F (Ū j G F A W hnw) (λcs b=>Region.noSelect_spec hs i I cs b hi) (λcs b=>Region.noSelect_spec hs j G cs b F) hQ Z (o.2 j (ready_mono J A));refine wpOp_mono (λb z k=>?_) key;obtain⟨hyz,fP,hgo⟩:=k;have hz:(D.setIfInBounds j true).getD st true=false->S z:=λR=>by
   rcases Decidable.em (j=st) with rfl|H
   ·rw[afB] at R;cases R
   ·exact fP H (by rw[O,<-getD_set_ne true H];exact R)
  refine⟨λH R=>fP H (by rw[O];exact R),ih _ b z (λq oq hq hqi hqu BA=>Ū q oq hq hqi ?_ BA) (ready_mono U (Ne.symm A)) hyz (λh=>?_) hz ?_⟩
  ·rcases Decidable.em (j=q) with rfl|hjq
   ·exact W
   ·rwa [getD_set_ne true hjq] at hqu
  ·have H:j≠st:=λe=>Zv (hw h) V (by rw[<-e];exact J)
   rw[getD_set_ne true H];exact Y h
  ·rw[Array.setIfInBounds_comm _ _ A];exact hgo
theorem jq{i:Nat}{q:Oper}{v:Value}{n:Nat}{o:Array Bool}{a:Act}{w:World}(A:ops[i]? = some q)(H:Region.noSelect ops=true)(I:Region.free md ops o i=true)(G:(Region.ready md ops o).contains i=true)(U:waitsFor md ops st i=true)(K:(st==i)=false)(F:o.getD st true=false)
  (R:∀c a w,Q (.panic c) (a.put q.dst v) w->Q (.panic c) a w) (O:YieldsIf P ops S q v a) (D:S w) (h:wpAnyS P md ops Q S st n (o.setIfInBounds i true) (a.put q.dst v) w):wpAnyS P md ops Q S st (n+1) o a w:=
 F7 true A H (by simpa using K) R (λ_=>U) n o a w (Region.free_spec A I) (by simpa using G) (O.imp (λg=>⟨g.1,λz J=>g.2 z (J rfl)⟩) id) (λ_=>F) (λ_=>D) h
theorem jY{i:Nat}{q:Oper}{v:Value}{n:Nat}{o:Array Bool}{a:Act}{w:World}(A:ops[i]? = some q)(G:Region.noSelect ops=true)(H:Region.free md ops o i=true)(F:(Region.ready md ops o).contains i=true)(I:(st==i)=false)
  (K:∀c a w,Q (.panic c) (a.put q.dst v) w->Q (.panic c) a w) (J:YieldsIf P ops (λ_=>True) q v a) (D:o.getD st true=false->S w) (h:wpAnyS P md ops Q S st n (o.setIfInBounds i true) (a.put q.dst v) w):wpAnyS P md ops Q S st (n+1) o a w:=
 F7 false A G (by simpa using I) K (λe=>by cases e) n o a w (Region.free_spec A H) (by simpa using F) (J.imp (λg=>⟨g.1,λz _=>g.2 z trivial⟩) id) (λe=>by cases e) D h
def aM(P:Program)(md:Region.Mode)(ops:Array Oper)(Q:Exit->Act->World->Prop)(S:World->Prop)(st n:Nat)(up:Array Bool)(a:Act)(w:World)(rs:List Nat):Prop:=
 ∀i∈rs,wpOp P ops Q i (λb z=>acv S st i up z/\wpAnyS P md ops Q S st n (up.setIfInBounds i true) b z) a w
theorem aM.nil{n:Nat}{o:Array Bool}{a:Act}{w:World}:aM P md ops Q S st n o a w []:=λ_ h=>absurd h not_mem_nil
theorem aM.step{n:Nat}{q:Array Bool}{a:Act}{w:World}{i:Nat}{o:Oper}{rs:List Nat}(F:ops[i]? = some o)
  (h:∀K:Act->World->Prop,Shut (∀b z,acv S st i q z->wpAnyS P md ops Q S st n (q.setIfInBounds i true) b z->K b z)->if Region.wanted o (yielded ops a.tmps)=true then Oper.wp P o a w K Q else K (a.put o.dst undef) w)
  (D:aM P md ops Q S st n q a w rs):aM P md ops Q S st n q a w (i::rs):=λj H=>(mem_cons.1 H).elim (λe=>by
   rw[e];exact wpOp_step F λK I=>h K λb z G A=>I b z ⟨G,A⟩) (D j)
theorem aM.cons{n:Nat}{q:Array Bool}{a:Act}{w:World}{i:Nat}{o:Oper}{rs:List Nat}(F:ops[i]? = some o)
  (h:∀K:Act->World->Prop,Shut (∀b z,S z->wpAnyS P md ops Q S st n (q.setIfInBounds i true) b z->K b z)->if Region.wanted o (yielded ops a.tmps)=true then Oper.wp P o a w K Q else K (a.put o.dst undef) w)
  (D:aM P md ops Q S st n q a w rs):aM P md ops Q S st n q a w (i::rs):=.step F (λK H=>h K λb z G A=>H.out b z (λ_ _=>G) A) D
theorem aM.last{n:Nat}{q:Array Bool}{a:Act}{w:World}{i:Nat}{o:Oper}{rs:List Nat}(G:ops[i]? = some o)(A:(i==st||q.getD st true)=true)
  (h:∀K:Act->World->Prop,Shut (∀b z,wpAnyS P md ops Q S st n (q.setIfInBounds i true) b z->K b z)->if Region.wanted o (yielded ops a.tmps)=true then Oper.wp P o a w K Q else K (a.put o.dst undef) w)
  (F:aM P md ops Q S st n q a w rs):aM P md ops Q S st n q a w (i::rs):=.step G (λK J=>h K λb z D=>J.out b z (λH I=>by
   rw[I] at A;exact absurd (by simpa using A) H) D) F
theorem dA{q:Array Bool}{a:Act}{w:World}(o:Region.ready md ops q = [])(h:Q .normal a w)(n:Nat):wpAnyS P md ops Q S st n q a w:=by
 cases n with
 | zero=>exact⟨o,h⟩
 | succ n=>exact⟨λ_=>h,λi z=>absurd z (by rw[o];exact not_mem_nil)⟩
theorem bU{rs:List Nat}{n:Nat}{o:Array Bool}{a:Act}{w:World}(q:Region.ready md ops o=rs)(A:rs ≠ [])(h:aM P md ops Q S st n o a w rs):wpAnyS P md ops Q S st (n+1) o a w:=
 ⟨λe=>absurd (q.symm.trans e) A,λi z=>h i (q ▸ z)⟩
theorem eU{id:Nat}{a:Act}{w:World}(z:P.follows .mixedOrders=true)(o:Nat)(q:S w.drew)(h:S w.drew->wpAnyS P .any ops Q S o ops.size (Array.replicate ops.size false) a w.drew):(Code.region id ops true).wp P Q a w:=wp_region_any z (Xa _ _ _ _ (h q))
end
section
variable {P:Program} {ops:Array Oper} {Q:Exit->Act->World->Prop} {md:Region.Mode} {S:World->Prop} {st:Nat}
theorem QV{i:Nat}{q:Oper}{d:Option Tmp}{v:Value}{n:Nat}{o:Array Bool}{a:Act}{w:World}(z:ops[i]? = some q)(O:q.dst=d)(G:Region.noSelect ops=true)(H:Region.free md ops o i=true)(F:(Region.ready md ops o).contains i=true)(R:waitsFor md ops st i=true)(I:(st==i)=false)(D:o.getD st true=false)
  (K:∀c a w,Q (.panic c) (a.put d v) w->Q (.panic c) a w) (J:YieldsIf P ops S q v a) (A:S w) (h:wpAnyS P md ops Q S st n (o.setIfInBounds i true) (a.put d v) w):wpAnyS P md ops Q S st (n+1) o a w:=by
 subst O;exact jq z G H F R I D K J A h
theorem Pe{i:Nat}{q:Oper}{d:Option Tmp}{v:Value}{n:Nat}{o:Array Bool}{a:Act}{w:World}(z:ops[i]? = some q)(K:q.dst=d)(F:Region.noSelect ops=true)(G:Region.free md ops o i=true)(D:(Region.ready md ops o).contains i=true)(H:(st==i)=false)
  (J:∀c a w,Q (.panic c) (a.put d v) w->Q (.panic c) a w) (I:YieldsIf P ops (λ_=>True) q v a) (A:o.getD st true=false->S w) (h:wpAnyS P md ops Q S st n (o.setIfInBounds i true) (a.put d v) w):wpAnyS P md ops Q S st (n+1) o a w:=by
 subst K;exact jY z F G D H J I A h
theorem iF(i d:Nat)(v:Value){q:Oper}{n:Nat}{o:Array Bool}{a:Act}{w:World}(A:S w)(z:ops[i]? = some q)(O:q.dst=some d)(J:∀w,S w->(execOp a.eval q).run P w = .ok (.value v) w)(h:wpAnyS P md ops Q S st n (o.setIfInBounds i true) (a.put (some d) v) w)
  (R:Region.wanted q (yielded ops a.tmps)=true:=by rfl) (G:Region.noSelect ops=true:=by kernel_rfl) (H:Region.free md ops o i=true:=by kernel_rfl) (F:(Region.ready md ops o).contains i=true:=by kernel_rfl) (U:waitsFor md ops st i=true:=by kernel_rfl) (I:(st==i)=false:=by kernel_rfl) (D:o.getD st true=false:=by kernel_rfl) (K:∀c a w,Q (.panic c) (a.put (some d) v) w->Q (.panic c) a w:=by exact λ_ _ _ h=>h):wpAnyS P md ops Q S st (n+1) o a w:=
 QV z O G H F U I D K (.inl ⟨R,J⟩) A h
theorem bJ(i d:Nat)(v:Value){q:Oper}{n:Nat}{o:Array Bool}{a:Act}{w:World}(A:S w)(z:ops[i]? = some q)(K:q.dst=some d)(I:∀w,True->(execOp a.eval q).run P w = .ok (.value v) w)(h:wpAnyS P md ops Q S st n (o.setIfInBounds i true) (a.put (some d) v) w)
  (O:Region.wanted q (yielded ops a.tmps)=true:=by rfl) (F:Region.noSelect ops=true:=by kernel_rfl) (G:Region.free md ops o i=true:=by kernel_rfl) (D:(Region.ready md ops o).contains i=true:=by kernel_rfl) (H:(st==i)=false:=by kernel_rfl) (J:∀c a w,Q (.panic c) (a.put (some d) v) w->Q (.panic c) a w:=by exact λ_ _ _ h=>h):wpAnyS P md ops Q S st (n+1) o a w:=
 Pe z K F G D H J (.inl ⟨O,I⟩) (λ_=>A) h
theorem lV(i:Nat){o:Oper}{n:Nat}{q:Array Bool}{a:Act}{w:World}(D:ops[i]? = some o)(h:∀K:Act->World->Prop,Shut (∀b z,S z->wpAnyS P md ops Q S st n (q.setIfInBounds i true) b z->K b z)->if Region.wanted o (yielded ops a.tmps)=true then Oper.wp P o a w K Q else K (a.put o.dst undef) w)(A:Region.ready md ops q = [i]:=by kernel_rfl):wpAnyS P md ops Q S st (n+1) q a w:=
 bU A (by simp) (.cons D h .nil)
theorem nX(i:Nat){o:Oper}{n:Nat}{q:Array Bool}{a:Act}{w:World}(F:ops[i]? = some o)(h:∀K:Act->World->Prop,Shut (∀b z,wpAnyS P md ops Q S st n (q.setIfInBounds i true) b z->K b z)->if Region.wanted o (yielded ops a.tmps)=true then Oper.wp P o a w K Q else K (a.put o.dst undef) w)(A:(i==st||q.getD st true)=true:=by kernel_rfl)(D:Region.ready md ops q = [i]:=by kernel_rfl):wpAnyS P md ops Q S st (n+1) q a w:=
 bU D (by simp) (.last F A h .nil)
end
end Go.Proofs.YtnjmhjdhfaboaaaGreatDoor
