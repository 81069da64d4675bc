import Derived.Deep.RegionHeld
open List
namespace Go.Proofs.YtnjmhjdhfaboaaaGreatDoor
section
variable {P:Program} {ops:Array Oper} {Q:Exit->Act->World->Prop} {md:Region.Mode} {S:World->Prop} {st:Nat}
abbrev acY(S:World->Prop)(st i:Nat)(up:Array Bool)(w:World):Prop:=i≠st->up.getD st true=false->S w
def wpAnyS(P:Program)(md:Region.Mode)(ops:Array Oper)(Q:Exit->Act->World->Prop)(S:World->Prop)(st:Nat):Nat->Array Bool->Act->World->Prop
 | 0,up,a,w=>Region.ready md ops up = []/\Q .normal a w
 | n+1,up,a,w=>(Region.ready md ops up = []->Q .normal a w)/\∀i∈Region.ready md ops up,wpOp P ops Q i (λb z=>acY S st i up z/\wpAnyS P md ops Q S st n (up.setIfInBounds i true) b z) a w
theorem XD(n:Nat):∀(j:Array Bool) (a:Act) (w:World),wpAnyS P md ops Q S st n j a w->wpAny P md ops Q n j a w:=by
 induction n with
 | zero=>exact λ_ _ _ h=>h
 | succ n ih=>exact λj _ _ h=>And.imp_right (λg i o=>wpOp_mono (λb z k=>ih _ b z k.2) (g i o)) h
theorem af4{j:Array Bool}{i:Nat}:(j.setIfInBounds i true).getD i true=true:=by
 rcases Nat.lt_or_ge i j.size with h|h<;>simp[h]
theorem ahU{j:Array Bool}{i:Nat}(h:j.getD i true=false):j.getD i false=false:=by
 rcases Nat.lt_or_ge i j.size with g|g
 ·simpa [g] using h
 ·simp[g]
def waitsFor(md:Region.Mode)(ops:Array Oper)(st i:Nat):Bool:=match ops[st]? with
 | some o=>o.after.toList.any λe=>Region.binds md e&&e.on==i
 | none=>false
theorem Og{i j:Nat}{z:Array Bool}{o:Oper}(G:ops[j]? = some o)(I:∃e∈o.after,Region.binds md e=true/\e.on=i)(F:z.getD i true=false):j∉Region.ready md ops z:=λH=>by
 obtain⟨_,J,q,K⟩:=mem_ready.1 H;obtain rfl:J=o:=Option.some.inj (q.symm.trans G);obtain⟨e,D,A,rfl⟩:=I;have:=K e D A;rw[ahU F] at this;cases this
theorem Z7{i:Nat}{z:Array Bool}(j:waitsFor md ops st i=true)(D:z.getD i true=false):st∉Region.ready md ops z:=by
 unfold waitsFor at j;split at j
 ·rename_i o F;obtain⟨e,A,q⟩:=any_eq_true.1 j;simp only[Bool.and_eq_true,beq_iff_eq] at q;exact Og F ⟨e,by simpa using A,q.1,q.2⟩ D
 ·cases j
theorem F9{i:Nat}{J:Oper}{v:Value}(wt:Bool)(hi:ops[i]? = some J)(hs:Region.noSelect ops=true)(Ϙ:st≠i)(hQ:∀c a w,Q (.panic c) (a.put J.dst v) w->Q (.panic c) a w)
  (hw:wt=true->waitsFor md ops st i=true) (n:Nat):∀(F:Array Bool) (a:Act) (w:World),
   (∀j H,ops[j]? = some H->j≠i->F.getD j true=false->(∀e∈H.after,Region.binds md e=true->e.on≠i)->J.apart ops H=true) ->
   i∈Region.ready md ops F->YieldsIf P ops (λz=>wt=true->S z) J v a->(wt=true->F.getD st true=false)->(F.getD st true=false->S w) ->
   wpAnyS P md ops Q S st n (F.setIfInBounds i true) (a.put J.dst v) w->wpAnyS P md ops Q S st (n+1) F a w:=by
 induction n with
 | zero=>
  refine λF a w _ U Z Y K o=>⟨λe=>absurd U (by rw[e];exact not_mem_nil),λj I=>?_⟩
  rcases Decidable.em (j=i) with rfl|A
  ·exact Z.wpOp hi (λh=>K (Y h)) ⟨λ_=>K,o⟩
  ·exact absurd (ready_mono I A) (by rw[o.1];exact not_mem_nil)
 | succ n ih=>
  refine λF a w ů U Z Y K o=>⟨λe=>absurd U (by rw[e];exact not_mem_nil),λj I=>?_⟩
  rcases Decidable.em (j=i) with rfl|A
  ·exact Z.wpOp hi (λh=>K (Y h)) ⟨λ_=>K,o⟩
  have O:=(mem_ready.1 U).1;obtain⟨R,H,G,_⟩:=mem_ready.1 I;have hnw:∀e∈H.after,Region.binds md e=true->e.on≠i:=λe he hb Λ=>Og G ⟨e,he,hb,Λ⟩ O I
  have V:(F.setIfInBounds i true).getD st true=F.getD st true:=getD_set_ne true (Ne.symm Ϙ);have key:=wpOp_putIf G (ů j H G A R hnw) (λcs b=>Region.noSelect_spec hs i J cs b hi) (λcs b=>Region.noSelect_spec hs j H cs b G) hQ Z (o.2 j (ready_mono I A));refine wpOp_mono (λb z k=>?_) key;obtain⟨hyz,fT,hgo⟩:=k;have hz:(F.setIfInBounds j true).getD st true=false->S z:=λW=>by
   rcases Decidable.em (j=st) with rfl|D
   ·rw[af4] at W;cases W
   ·exact fT D (by rw[V,<-getD_set_ne true D];exact W)
  refine⟨λD W=>fT D (by rw[V];exact W),ih _ b z (λq oq hq hqi hqu Ah=>ů q oq hq hqi ?_ Ah) (ready_mono U (Ne.symm A)) hyz (λh=>?_) hz ?_⟩
  ·rcases Decidable.em (j=q) with rfl|hjq
   ·exact R
   ·rwa [getD_set_ne true hjq] at hqu
  ·have D:j≠st:=λe=>Z7 (hw h) O (by rw[<-e];exact I)
   rw[getD_set_ne true D];exact Y h
  ·rw[Array.setIfInBounds_comm _ _ A];exact hgo
theorem jA{i:Nat}{o:Oper}{v:Value}{n:Nat}{j:Array Bool}{a:Act}{w:World}(q:ops[i]? = some o)(H:Region.noSelect ops=true)(F:Region.free md ops j i=true)(G:(Region.ready md ops j).contains i=true)(I:waitsFor md ops st i=true)(R:(st==i)=false)(O:j.getD st true=false)
  (A:∀c a w,Q (.panic c) (a.put o.dst v) w->Q (.panic c) a w) (J:YieldsIf P ops S o v a) (D:S w) (h:wpAnyS P md ops Q S st n (j.setIfInBounds i true) (a.put o.dst v) w):wpAnyS P md ops Q S st (n+1) j a w:=
 F9 true q H (by simpa using R) A (λ_=>I) n j a w (Region.free_spec q F) (by simpa using G) (J.imp (λg=>⟨g.1,λz K=>g.2 z (K rfl)⟩) id) (λ_=>O) (λ_=>D) h
theorem jZ{i:Nat}{o:Oper}{v:Value}{n:Nat}{j:Array Bool}{a:Act}{w:World}(q:ops[i]? = some o)(H:Region.noSelect ops=true)(F:Region.free md ops j i=true)(G:(Region.ready md ops j).contains i=true)(J:(st==i)=false)
  (A:∀c a w,Q (.panic c) (a.put o.dst v) w->Q (.panic c) a w) (I:YieldsIf P ops (λ_=>True) o v a) (D:j.getD st true=false->S w) (h:wpAnyS P md ops Q S st n (j.setIfInBounds i true) (a.put o.dst v) w):wpAnyS P md ops Q S st (n+1) j a w:=
 F9 false q H (by simpa using J) A (λe=>by cases e) n j a w (Region.free_spec q F) (by simpa using G) (I.imp (λg=>⟨g.1,λz _=>g.2 z trivial⟩) id) (λe=>by cases e) D h
def aQ(P:Program)(md:Region.Mode)(ops:Array Oper)(Q:Exit->Act->World->Prop)(S:World->Prop)(st n:Nat)(up:Array Bool)(a:Act)(w:World)(rs:List Nat):Prop:=
 ∀i∈rs,wpOp P ops Q i (λb z=>acY S st i up z/\wpAnyS P md ops Q S st n (up.setIfInBounds i true) b z) a w
theorem aQ.nil{n:Nat}{j:Array Bool}{a:Act}{w:World}:aQ P md ops Q S st n j a w []:=λ_ h=>absurd h not_mem_nil
theorem aQ.step{n:Nat}{q:Array Bool}{a:Act}{w:World}{i:Nat}{o:Oper}{rs:List Nat}(H:ops[i]? = some o)
  (h:∀K:Act->World->Prop,Shut (∀b z,acY S st i q z->wpAnyS P md ops Q S st n (q.setIfInBounds i true) b z->K b z)->if Region.wanted o (yielded ops a.tmps)=true then Oper.wp P o a w K Q else K (a.put o.dst undef) w)
  (I:aQ P md ops Q S st n q a w rs):aQ P md ops Q S st n q a w (i::rs):=λj G=>(mem_cons.1 G).elim (λe=>by
   rw[e];exact wpOp_step H λK F=>h K λb z A D=>F b z ⟨A,D⟩) (I j)
theorem aQ.cons{n:Nat}{j:Array Bool}{a:Act}{w:World}{i:Nat}{o:Oper}{rs:List Nat}(F:ops[i]? = some o)
  (h:∀K:Act->World->Prop,Shut (∀b z,S z->wpAnyS P md ops Q S st n (j.setIfInBounds i true) b z->K b z)->if Region.wanted o (yielded ops a.tmps)=true then Oper.wp P o a w K Q else K (a.put o.dst undef) w)
  (G:aQ P md ops Q S st n j a w rs):aQ P md ops Q S st n j a w (i::rs):=.step F (λK D=>h K λb z q A=>D.out b z (λ_ _=>q) A) G
theorem aQ.last{n:Nat}{j:Array Bool}{a:Act}{w:World}{i:Nat}{o:Oper}{rs:List Nat}(H:ops[i]? = some o)(q:(i==st||j.getD st true)=true)
  (h:∀K:Act->World->Prop,Shut (∀b z,wpAnyS P md ops Q S st n (j.setIfInBounds i true) b z->K b z)->if Region.wanted o (yielded ops a.tmps)=true then Oper.wp P o a w K Q else K (a.put o.dst undef) w)
  (I:aQ P md ops Q S st n j a w rs):aQ P md ops Q S st n j a w (i::rs):=.step H (λK G=>h K λb z A=>G.out b z (λD F=>by
   rw[F] at q;exact absurd (by simpa using q) D) A) I
theorem dz{o:Array Bool}{a:Act}{w:World}(j:Region.ready md ops o = [])(h:Q .normal a w)(n:Nat):wpAnyS P md ops Q S st n o a w:=by
 cases n with
 | zero=>exact⟨j,h⟩
 | succ n=>exact⟨λ_=>h,λi q=>absurd q (by rw[j];exact not_mem_nil)⟩
theorem bU{rs:List Nat}{n:Nat}{j:Array Bool}{a:Act}{w:World}(o:Region.ready md ops j=rs)(z:rs ≠ [])(h:aQ P md ops Q S st n j a w rs):wpAnyS P md ops Q S st (n+1) j a w:=
 ⟨λe=>absurd (o.symm.trans e) z,λi q=>h i (o ▸ q)⟩
theorem eX{id:Nat}{a:Act}{w:World}(o:P.follows .mixedOrders=true)(q:Nat)(j:S w.drew)(h:S w.drew->wpAnyS P .any ops Q S q ops.size (Array.replicate ops.size false) a w.drew):(Code.region id ops true).wp P Q a w:=wp_region_any o (XD _ _ _ _ (h j))
end
section
variable {P:Program} {ops:Array Oper} {Q:Exit->Act->World->Prop} {md:Region.Mode} {S:World->Prop} {st:Nat}
theorem Ra{i:Nat}{o:Oper}{d:Option Tmp}{v:Value}{n:Nat}{j:Array Bool}{a:Act}{w:World}(F:ops[i]? = some o)(A:o.dst=d)(H:Region.noSelect ops=true)(D:Region.free md ops j i=true)(G:(Region.ready md ops j).contains i=true)(I:waitsFor md ops st i=true)(O:(st==i)=false)(K:j.getD st true=false)
  (q:∀c a w,Q (.panic c) (a.put d v) w->Q (.panic c) a w) (J:YieldsIf P ops S o v a) (z:S w) (h:wpAnyS P md ops Q S st n (j.setIfInBounds i true) (a.put d v) w):wpAnyS P md ops Q S st (n+1) j a w:=by
 subst A;exact jA F H D G I O K q J z h
theorem Pm{i:Nat}{o:Oper}{d:Option Tmp}{v:Value}{n:Nat}{j:Array Bool}{a:Act}{w:World}(F:ops[i]? = some o)(A:o.dst=d)(H:Region.noSelect ops=true)(D:Region.free md ops j i=true)(G:(Region.ready md ops j).contains i=true)(J:(st==i)=false)
  (q:∀c a w,Q (.panic c) (a.put d v) w->Q (.panic c) a w) (I:YieldsIf P ops (λ_=>True) o v a) (z:j.getD st true=false->S w) (h:wpAnyS P md ops Q S st n (j.setIfInBounds i true) (a.put d v) w):wpAnyS P md ops Q S st (n+1) j a w:=by
 subst A;exact jZ F H D G J q I z h
theorem iG(i d:Nat)(v:Value){o:Oper}{n:Nat}{j:Array Bool}{a:Act}{w:World}(z:S w)(G:ops[i]? = some o)(A:o.dst=some d)(K:∀w,S w->(execOp a.eval o).run P w = .ok (.value v) w)(h:wpAnyS P md ops Q S st n (j.setIfInBounds i true) (a.put (some d) v) w)
  (F:Region.wanted o (yielded ops a.tmps)=true:=by rfl) (I:Region.noSelect ops=true:=by kernel_rfl) (D:Region.free md ops j i=true:=by kernel_rfl) (H:(Region.ready md ops j).contains i=true:=by kernel_rfl) (J:waitsFor md ops st i=true:=by kernel_rfl) (R:(st==i)=false:=by kernel_rfl) (O:j.getD st true=false:=by kernel_rfl) (q:∀c a w,Q (.panic c) (a.put (some d) v) w->Q (.panic c) a w:=by exact λ_ _ _ h=>h):wpAnyS P md ops Q S st (n+1) j a w:=
 Ra G A I D H J R O q (.inl ⟨F,K⟩) z h
theorem bK(i d:Nat)(v:Value){j:Oper}{n:Nat}{o:Array Bool}{a:Act}{w:World}(z:S w)(G:ops[i]? = some j)(A:j.dst=some d)(J:∀w,True->(execOp a.eval j).run P w = .ok (.value v) w)(h:wpAnyS P md ops Q S st n (o.setIfInBounds i true) (a.put (some d) v) w)
  (F:Region.wanted j (yielded ops a.tmps)=true:=by rfl) (I:Region.noSelect ops=true:=by kernel_rfl) (D:Region.free md ops o i=true:=by kernel_rfl) (H:(Region.ready md ops o).contains i=true:=by kernel_rfl) (K:(st==i)=false:=by kernel_rfl) (q:∀c a w,Q (.panic c) (a.put (some d) v) w->Q (.panic c) a w:=by exact λ_ _ _ h=>h):wpAnyS P md ops Q S st (n+1) o a w:=
 Pm G A I D H K q (.inl ⟨F,J⟩) (λ_=>z) h
theorem lZ(i:Nat){o:Oper}{n:Nat}{j:Array Bool}{a:Act}{w:World}(q:ops[i]? = some o)(h:∀K:Act->World->Prop,Shut (∀b z,S z->wpAnyS P md ops Q S st n (j.setIfInBounds i true) b z->K b z)->if Region.wanted o (yielded ops a.tmps)=true then Oper.wp P o a w K Q else K (a.put o.dst undef) w)(A:Region.ready md ops j = [i]:=by kernel_rfl):wpAnyS P md ops Q S st (n+1) j a w:=
 bU A (by simp) (.cons q h .nil)
theorem oz(i:Nat){o:Oper}{n:Nat}{j:Array Bool}{a:Act}{w:World}(q:ops[i]? = some o)(h:∀K:Act->World->Prop,Shut (∀b z,wpAnyS P md ops Q S st n (j.setIfInBounds i true) b z->K b z)->if Region.wanted o (yielded ops a.tmps)=true then Oper.wp P o a w K Q else K (a.put o.dst undef) w)(D:(i==st||j.getD st true)=true:=by kernel_rfl)(A:Region.ready md ops j = [i]:=by kernel_rfl):wpAnyS P md ops Q S st (n+1) j a w:=
 bU A (by simp) (.last q D h .nil)
end
