/- Proved: tidegaugelaw2.BlockChecks returns true for every two blocks, every text and every two numbers, and leaves its arguments and memory as they were, wherever the package variables that its row lists hold what the program's own initialisers lay (the tied card of the law BlockChecks). -/
import Derived.Test.YtdlceolmpcjjiaaGreatDoorBlkEnvs
import Derived.Test.YtdlceolmpcjjiaaGreatDoorMBlkIn
import Derived.Test.YtdlceolmpcjjiaaGreatDoorChkMain
import Derived.ChangeMaps5
import Derived.Test.YtdlceolmpcjjiaaGreatDoorArgsIn
import Derived.Test.YtdlceolmpcjjiaaGreatDoorTie
import Derived.Test.YtdlceolmpcjjiaaGreatDoorCards
import Derived.SevenTiedAt
set_option maxRecDepth 100000
namespace Go.Proofs.YtdlceolmpcjjiaaGreatDoor
open Go.ChangeShapes Go.WideShapes Go.ChangeAt Go.RowKit Go.Deep
theorem Ej (os:Os) (started:os.Started) (H:Type) (enc:TypeId×Value->H) :
  ReturnsInHanded {} Tryz.checked os 6 .any (fun w args=>(Rows.blockChecksSpec.pre enc Tryz.prog Tryz.f6 [] false w args/\laidMetH Tryz.prog yM w)/\sizedMet enc Tryz.prog Tryz.f6 (OpenSpec.ofChange Rows.blockChecksSpec) false w args)
   (Rows.blockChecksSpec.post enc Tryz.prog Tryz.f6 false true false false):=by
 refine returnsInHanded_of_change_and (C:=Tryz.checked) (X:=fun w _=>laidMetH Tryz.prog yM w) (fun _ _ _ hh h=>h.of_heap hh) Tryz.own started (by kernel_rfl) Tryz.func6
  (ChangeSpec.witness_shaped (enc:=enc) (C:=Tryz.checked) (os:=os) (X:=fun w _=>laidMetH Tryz.prog yM w) false (World.doorLaid Tryz.prog 400 os) #[.agg #[.int .i64 0,.int .i64 0,.slice none 0 0,.slice none 0 0],.agg #[.int .i64 0,.int .i64 0,.slice none 0 0,.slice none 0 0],.string ⟨#[]⟩,.int .i64 0,.int .i64 0] 8 rfl (World.shaped_of_RefB (by kernel_rfl) (by kernel_rfl)) (by kernel_rfl) (by kernel_rfl) (by kernel_rfl) (ZJ os _)) ?_
 intro W base args ds gs before hval0 hW _ hwt hL _;have hval:∀ (j:Nat) t v,Tryz.f6.params[j]? = some t->args[j]? = some v->Value.okWide Tryz.prog W .any base t v:=hval0;have hW':=hW;obtain⟨p,q,hA0,hV,rfl,hfz,hnd⟩:=hW;have hA:DataW.TrodAll enc Tryz.prog W 0 (fun _=>true) true Tryz.f6.params.toList args.toList ds p:=hA0;rw[Tryz.params6] at hA hval;obtain⟨v0,vs0,d0,ds0,p0,q0,hargs,rfl,rfl,h0,r0⟩:=trodAll_cons hA;obtain⟨v1,vs1,d1,ds1,p1,q1,rfl,rfl,rfl,h1,r1⟩:=trodAll_cons r0;obtain⟨v2,vs2,d2,ds2,p2,q2,rfl,rfl,rfl,h2,r2⟩:=trodAll_cons r1;obtain⟨v3,vs3,d3,ds3,p3,q3,rfl,rfl,rfl,h3,r3⟩:=trodAll_cons r2;obtain⟨v4,vs4,d4,ds4,p4,q4,rfl,rfl,rfl,h4,r4⟩:=trodAll_cons r3;obtain⟨rfl,rfl,rfl⟩:=trodAll_nil r4;obtain rfl:args=#[v0,v1,v2,v3,v4]:=by cases args;simp_all
 obtain⟨rfl,rfl⟩:=trodVars_none hV;obtain⟨cz0,rfl,sz0⟩:=okWide_struct Tryz.underlying30 (hval 0 30 v0 rfl rfl);obtain⟨cz1,rfl,sz1⟩:=okWide_struct Tryz.underlying30 (hval 1 30 v1 rfl rfl);have k0:=h0;have k1:=h1;have lt0:∀ x∈p0,x.block<W.heap.size:=by obtain⟨m,hm⟩:=k0;exact DataW.trod_lt m _ _ _ hm
 have lt1:∀ x∈p1,x.block<W.heap.size:=by obtain⟨m,hm⟩:=k1;exact DataW.trod_lt m _ _ _ hm
 obtain⟨s2,rfl,rfl,rfl,ws2⟩:=Go.ChangeMaps.open_string Tryz.underlying9 (hval 2 9 v2 rfl rfl) h2;obtain⟨n3,rfl,rfl,rfl,wn3⟩:=open_int Tryz.underlying3 (hval 3 3 v3 rfl rfl) h3;obtain⟨n4,rfl,rfl,rfl,wn4⟩:=open_int Tryz.underlying3 (hval 4 3 v4 rfl rfl) h4;obtain⟨aje,hf0⟩:=h0;obtain⟨fuel1,hf1⟩:=h1;simp only[Value.cells] at hf0 hf1;have w0:∀ n,n∈d0.weights Tryz.prog 30->n<=reachBytes:=fun n hn=>of_decide_eq_true (List.all_eq_true.1 hwt n (DataW.weights_mem_each (j:=0) (t:=30) (by kernel_rfl) rfl n hn))
 obtain⟨f0,s0,a0,c0,b0,e0,X0,Y0,hM0⟩:=PW (sz0.trans (by kernel_rfl)) hf0 w0;have w1:∀ n,n∈d1.weights Tryz.prog 30->n<=reachBytes:=fun n hn=>of_decide_eq_true (List.all_eq_true.1 hwt n (DataW.weights_mem_each (j:=1) (t:=30) (by kernel_rfl) rfl n hn))
 obtain⟨f1,s1,a1,c1,b1,e1,X1,Y1,hM1⟩:=PW (sz1.trans (by kernel_rfl)) hf1 w1;obtain⟨⟨ea,E⟩,agH⟩:=RV hL;clear hA0 hval0;refine (O9 W E (Lib.tabBelow_of_tabIs agH) (Nat.le_refl _) hM0 hM1 s2 ws2 n3 n4).mono fun e W' ⟨he,aM⟩=>?_
 subst he;exact⟨_,rfl,_,_,_,[],_,[],hW',trodAll_mk1 (shut_bool Tryz.underlying4 _),(trodAll_cons_mk (Below.trod Tryz.laidOut (by kernel_rfl) (of_decide_eq_true (by kernel_rfl)) k0 aM lt0) (trodAll_cons_mk (Below.trod Tryz.laidOut (by kernel_rfl) (of_decide_eq_true (by kernel_rfl)) k1 aM lt1) (trodAll_cons_mk (Go.ChangeMaps.shut_string Tryz.underlying9 ws2) (trodAll_cons_mk (shut_int Tryz.underlying3 wn3) (trodAll_cons_mk (shut_int Tryz.underlying3 wn4) trodAll_mk0))))),rfl,aM.frame _,fun h=>by cases h⟩
theorem EF:Rows.BlockChecksSaid:=
 OpenClaim.holds_of_wide 6 Tryz.f6 rfl rfl rfl rfl rfl rfl rfl ⟨rfl,rfl,rfl,rfl,rfl⟩ rfl rfl rfl rfl rfl (by kernel_rfl) Tryz.func6 (by kernel_rfl)
  (of_decide_eq_true (by kernel_rfl)) (by unfold Func.isWrapper;rw[if_neg (of_decide_eq_false (by kernel_rfl))];exact⟨rfl,rfl⟩)
  (fun os started H enc _=>Ej os started H enc)
theorem blockChecks_card:Rows.BlockChecksCardSaid:=
 Claim7.holds_tied_plain_at .later [] _ _ _ _
  EF (fun _ h=>by cases h) (by kernel_rfl) (fun _ h=>by cases h) blockChecks_row_tie rfl ⟨rfl,rfl⟩ (by kernel_rfl) rfl
  (fun f fn hf hfn=>by
   obtain rfl:f=6:=Option.some.inj ((show Tryz.prog.funcNamed "tidegauge/tidegaugelaw2.BlockChecks" = some 6 by kernel_rfl).symm.trans hf) |>.symm;obtain rfl:fn=Tryz.f6:=(Option.some.inj (Tryz.func6.symm.trans hfn)).symm;exact⟨by kernel_rfl,fun j t ht=>by
    rw[Tryz.params6] at ht;have h3:t=30\/t=30\/t=9\/t=3\/t=3:=by
     rcases j with _ | _ | _ | _ | _ | j
     ·exact .inl (by simpa using ht.symm)
     ·exact .inr (.inl (by simpa using ht.symm))
     ·exact .inr (.inr (.inl (by simpa using ht.symm)))
     ·exact .inr (.inr (.inr (.inl (by simpa using ht.symm))))
     ·exact .inr (.inr (.inr (.inr (by simpa using ht.symm))))
     ·simp at ht
    rcases h3 with rfl | rfl | rfl | rfl | rfl
    ·exact (show Tryz.prog.wantsStandIn 30=false by kernel_rfl)
    ·exact (show Tryz.prog.wantsStandIn 30=false by kernel_rfl)
    ·exact (show Tryz.prog.wantsStandIn 9=false by kernel_rfl)
    ·exact (show Tryz.prog.wantsStandIn 3=false by kernel_rfl)
    ·exact (show Tryz.prog.wantsStandIn 3=false by kernel_rfl)⟩)
  (by kernel_rfl)
#print axioms blockChecks_card
end Go.Proofs.YtdlceolmpcjjiaaGreatDoor
