/- Proved: tidegaugelaw3.StoreKeeps returns true for every number and every list of acts, and leaves its arguments and memory as they were, wherever the package variables that its row lists hold what the program's own initialisers lay (the tied card of the law StoreKeeps). -/
import Derived.Test.YtololnhfgjbhjaaGreatDoorStLaid
import Derived.Test.YtololnhfgjbhjaaGreatDoorKpMain
import Derived.Test.YtololnhfgjbhjaaGreatDoorTie
import Derived.Test.YtololnhfgjbhjaaGreatDoorCards
set_option maxRecDepth 100000
set_option maxHeartbeats 4000000
open Go.Proofs.Tryz
namespace Go.Proofs.YtololnhfgjbhjaaGreatDoor
open Go.ChangeShapes Go.WideShapes Go.ChangeAt Go.RowKit Go.Deep
theorem He(os:Os)(started:os.Started)(H:Type)(enc:TypeId×Value->H):
  ReturnsInHanded {} Tryz.checked os 3 .any (λw args=>(Rows.storeKeepsSpec.pre enc prog Tryz.f3 [] false w args/\laidMetH prog rG w)/\sizedMet enc prog Tryz.f3 (OpenSpec.ofChange Rows.storeKeepsSpec) false w args)
   (Rows.storeKeepsSpec.post enc prog Tryz.f3 false true false false):=by
 refine returnsInHanded_of_change_and (C:=Tryz.checked) (X:=λw _=>laidMetH prog rG w) (λ_ _ _ hh h=>h.of_heap hh) Tryz.own started (by kernel_rfl) func3
  (ChangeSpec.witness_shaped (enc:=enc) (C:=Tryz.checked) (os:=os) (X:=λw _=>laidMetH prog rG w) false (World.doorLaid prog 400 os) #[.int .i64 0,.slice none 0 0] 8 rfl (World.shaped_of_RefB (by kernel_rfl) (by kernel_rfl)) (by kernel_rfl) (by kernel_rfl) (by kernel_rfl) (Wn os _)) ?_
 intro W base args ds gs before hval0 hW _ _ hL _;have į:∀(j:Nat) t v,Tryz.f3.params[j]? = some t->args[j]? = some v->Value.okWide prog W .any base t v:=hval0;have hW':=hW;obtain⟨p,q,hA0,hV,rfl,hfz,Ű⟩:=hW;have hA:DataW.TrodAll enc prog W 0 (λ_=>true) true Tryz.f3.params.toList args.toList ds p:=hA0;rw[Tryz.params3] at hA į;obtain⟨v0,vs0,d0,ds0,p0,q0,hargs,rfl,rfl,h0,r0⟩:=trodAll_cons hA;obtain⟨v1,vs1,d1,ds1,p1,q1,rfl,rfl,rfl,h1,r1⟩:=trodAll_cons r0;obtain⟨rfl,rfl,rfl⟩:=trodAll_nil r1;obtain rfl:args=#[v0,v1]:=by cases args;simp_all
 obtain⟨rfl,rfl⟩:=trodVars_none hV;obtain⟨a1,len1,qx,rfl⟩:=okWide_slice underlying22 (į 1 22 v1 rfl rfl);have k1:=h1;have lt1:∀x∈p1,x.block<W.heap.size:=by obtain⟨m,hm⟩:=k1;exact DataW.trod_lt m _ _ _ hm
 obtain⟨n0,rfl,rfl,rfl,wn0⟩:=open_int underlying3 (į 0 3 v0 rfl rfl) h0;obtain⟨fuel1,Î⟩:=h1;simp only[Value.cells] at Î;obtain⟨A1,Ξ⟩:=abD Î;have l1:=WR underlying22 Î;obtain⟨ea,E⟩:=Rk hL;clear hA0 hval0;refine (Wo W E (Nat.le_refl _) n0 a1 len1 qx A1 Ξ l1).mono λe W' ⟨he,aH⟩=>?_
 subst he;exact⟨_,rfl,_,_,_,[],_,[],hW',trodAll_mk1 (shut_bool underlying4 _),(trodAll_cons_mk (shut_int underlying3 wn0) (trodAll_cons_mk (Below.trod Tryz.laidOut (by kernel_rfl) (of_decide_eq_true (by kernel_rfl)) k1 aH lt1) trodAll_mk0)),rfl,aH.frame _,λh=>by cases h⟩
theorem JF:joinedFacts prog 3 Tryz.f3 Rows.storeKeepsSpec Rows.storeKeepsRow=true:=by
 unfold joinedFacts;repeat' (with_reducible refine Bool.and_eq_true_iff.2 ⟨?_,?_⟩)
 all_goals (as_aux_lemma=>kernel_rfl)
theorem JG:Rows.StoreKeepsSaid:=
 OpenClaim.holds_of_wide 3 Tryz.f3 rfl rfl rfl rfl rfl rfl rfl ⟨rfl,rfl,rfl,rfl,rfl⟩ rfl rfl rfl rfl rfl (by as_aux_lemma=>kernel_rfl) func3 JF
  (of_decide_eq_true (by as_aux_lemma=>kernel_rfl)) (by unfold Func.isWrapper;rw[if_neg (of_decide_eq_false (by as_aux_lemma=>kernel_rfl))];exact⟨rfl,rfl⟩)
  (λos started H enc _=>He os started H enc)
theorem storeKeeps_card:Rows.StoreKeepsCardSaid:=
 Claim7.holds_tied_plain_at .later [] _ _ _ _
  JG (λ_ h=>by cases h) (by as_aux_lemma=>kernel_rfl) (λ_ h=>by cases h) storeKeeps_row_tie rfl ⟨rfl,rfl⟩ (by as_aux_lemma=>kernel_rfl) rfl
  (λf fn hf Ϲ=>by
   obtain rfl:f=3:=Option.some.inj ((show prog.funcNamed "tidegauge/tidegaugelaw3.StoreKeeps" = some 3 by as_aux_lemma=>kernel_rfl).symm.trans hf) |>.symm;obtain rfl:fn=Tryz.f3:=(Option.some.inj (func3.symm.trans Ϲ)).symm;exact⟨by as_aux_lemma=>kernel_rfl,λj t ht=>by
    rw[Tryz.params3] at ht;have h3:t=3\/t=22:=by
     rcases j with _|_|j
     ·exact .inl (by simpa using ht.symm)
     ·exact .inr (by simpa using ht.symm)
     ·simp at ht
    rcases h3 with rfl|rfl
    ·exact (show prog.wantsStandIn 3=false by as_aux_lemma=>kernel_rfl)
    ·exact (show prog.wantsStandIn 22=false by as_aux_lemma=>kernel_rfl)⟩)
  (by as_aux_lemma=>kernel_rfl)
#print axioms storeKeeps_card
end Go.Proofs.YtololnhfgjbhjaaGreatDoor
