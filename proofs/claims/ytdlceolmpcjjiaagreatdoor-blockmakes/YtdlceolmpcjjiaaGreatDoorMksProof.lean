/- Proved: tidegaugelaw2.BlockMakes returns true for every two numbers, every list of rows, every text and every two numbers, and leaves its arguments and memory as they were, wherever the package variables that its row lists hold what the program's own initialisers lay (the tied card of the law BlockMakes). -/
import Derived.Test.YtdlceolmpcjjiaaGreatDoorBlkEnvs
import Derived.Test.YtdlceolmpcjjiaaGreatDoorRowsIn
import Derived.Test.YtdlceolmpcjjiaaGreatDoorMksMain
import Derived.ChangeMaps5
import Derived.Shelf.Vars
import Derived.Test.YtdlceolmpcjjiaaGreatDoorArgsIn
import Derived.Test.YtdlceolmpcjjiaaGreatDoorTie
import Derived.Test.YtdlceolmpcjjiaaGreatDoorCards
import Derived.SevenTiedAt
set_option maxRecDepth 100000
namespace Go.Proofs.YtdlceolmpcjjiaaGreatDoor
open Go.ChangeShapes Go.WideShapes Go.ChangeAt Go.RowKit Go.Deep
theorem CB (os:Os) (started:os.Started) (H:Type) (enc:TypeId×Value->H) :
  ReturnsInHanded {} Tryz.checked os 4 .any (fun w args=>(Rows.blockMakesSpec.pre enc Tryz.prog Tryz.f4 [] false w args/\laidMetH Tryz.prog wZ w)/\sizedMet enc Tryz.prog Tryz.f4 (OpenSpec.ofChange Rows.blockMakesSpec) false w args)
   (Rows.blockMakesSpec.post enc Tryz.prog Tryz.f4 false true false false):=by
 refine returnsInHanded_of_calls Tryz.own started (by kernel_rfl) (ChangeSpec.witness_shaped (enc:=enc) (C:=Tryz.checked) (os:=os) (X:=fun w _=>laidMetH Tryz.prog wZ w) false (Fw os) #[.int .i64 0,.int .i64 0,.slice none 0 0,.string ⟨#[]⟩,.int .i64 0,.int .i64 0] 8 (RV os) (IV os _) (by kernel_rfl) (by kernel_rfl) (by kernel_rfl) (Xt os _)) ?_;intro w tape i _ hsh _ hok hpre _;obtain⟨_,_,_,fn',hfn',_,_,_,_,hval0⟩:=hok;obtain rfl:fn'=Tryz.f4:=Option.some.inj (hfn'.symm.trans Tryz.func4);obtain⟨⟨⟨ds,gs,before,hw,_⟩,hx⟩,hz⟩:=hpre;have hW:=DataW.Whole.of_heap (w':=w.forCall tape i) (by rfl) hw;have hwt:=hz.weights hw;have hL:laidMetH Tryz.prog wZ (w.forCall tape i):=hx.of_heap (by rfl);suffices hS:Calls Tryz.prog 4 i.args (w.forCall tape i) fun e W'=>∃ v,e = .returned v/\Rows.blockMakesSpec.post enc Tryz.prog Tryz.f4 false true false false (w.forCall tape i) i.args v W' from hS.mono fun e W' ⟨v,he,hp⟩=>by
  subst he;exact ChangeSpec.post_blind hp
 clear hw hx hz hfn';generalize w.heap.size=base at hval0;generalize w.forCall tape i=W at *;generalize i.args=args at *;have hval:∀ (j:Nat) t v,Tryz.f4.params[j]? = some t->args[j]? = some v->Value.okWide Tryz.prog W .any base t v:=hval0;have hW':=hW;obtain⟨p,q,GH,hV,rfl,hfz,hnd⟩:=hW;have hA:DataW.TrodAll enc Tryz.prog W 0 (fun _=>true) true Tryz.f4.params.toList args.toList ds p:=GH;rw[Tryz.params4] at hA hval;obtain⟨v0,vs0,d0,ds0,p0,q0,hargs,rfl,rfl,h0,r0⟩:=trodAll_cons hA;obtain⟨v1,vs1,d1,ds1,p1,q1,rfl,rfl,rfl,h1,r1⟩:=trodAll_cons r0;obtain⟨v2,vs2,d2,ds2,p2,q2,rfl,rfl,rfl,h2,r2⟩:=trodAll_cons r1;obtain⟨v3,vs3,d3,ds3,p3,q3,rfl,rfl,rfl,h3,r3⟩:=trodAll_cons r2;obtain⟨v4,vs4,d4,ds4,p4,q4,rfl,rfl,rfl,h4,r4⟩:=trodAll_cons r3;obtain⟨v5,vs5,d5,ds5,p5,q5,rfl,rfl,rfl,h5,r5⟩:=trodAll_cons r4;obtain⟨rfl,rfl,rfl⟩:=trodAll_nil r5;obtain rfl:args=#[v0,v1,v2,v3,v4,v5]:=by cases args;simp_all
 obtain⟨rfl,rfl⟩:=trodVars_none hV;obtain⟨a2,len2,cap2,rfl⟩:=okWide_slice Tryz.underlying41 (hval 2 41 v2 rfl rfl);have k2:=h2;have lt2:∀ x∈p2,x.block<W.heap.size:=by obtain⟨m,hm⟩:=k2;exact DataW.trod_lt m _ _ _ hm
 obtain⟨n0,rfl,rfl,rfl,wn0⟩:=open_int Tryz.underlying3 (hval 0 3 v0 rfl rfl) h0;obtain⟨n1,rfl,rfl,rfl,wn1⟩:=open_int Tryz.underlying3 (hval 1 3 v1 rfl rfl) h1;obtain⟨s3,rfl,rfl,rfl,ws3⟩:=Go.ChangeMaps.open_string Tryz.underlying9 (hval 3 9 v3 rfl rfl) h3;obtain⟨n4,rfl,rfl,rfl,wn4⟩:=open_int Tryz.underlying3 (hval 4 3 v4 rfl rfl) h4;obtain⟨n5,rfl,rfl,rfl,wn5⟩:=open_int Tryz.underlying3 (hval 5 3 v5 rfl rfl) h5;obtain⟨fuel2,hf2⟩:=h2;simp only[Value.cells] at hf2;have w2:∀ n,n∈d2.weights Tryz.prog 41->n<=reachBytes:=fun n hn=>of_decide_eq_true (List.all_eq_true.1 hwt n (DataW.weights_mem_each (j:=2) (t:=41) (by kernel_rfl) rfl n hn))
 obtain⟨R2,hR2,hP2,hQ2⟩:=Xx hf2 w2;have l2:=XG Tryz.underlying41 hf2;obtain⟨⟨ea,E⟩,PW,Gq⟩:=PG hL;obtain⟨mx,hMX⟩:=cell_of_shapedOpen_int (g:=12) (t:=3) (zero:=#[.int .i64 0]) hsh (of_decide_eq_true (by kernel_rfl)) (by kernel_rfl) rfl (by kernel_rfl) (by kernel_rfl) Tryz.underlying3;subst hR2;clear GH hval0;refine (PV W E (Lib.tabBelow_of_tabIs PW) Gq (Nat.le_refl _) mx hMX n0 n1 a2 cap2 R2 hP2 hQ2 l2 s3 n4 n5).mono fun e W' ⟨he,bq⟩=>?_
 subst he;exact⟨_,rfl,_,_,_,[],_,[],hW',trodAll_mk1 (shut_bool Tryz.underlying4 _),(trodAll_cons_mk (shut_int Tryz.underlying3 wn0) (trodAll_cons_mk (shut_int Tryz.underlying3 wn1) (trodAll_cons_mk (Below.trod Tryz.laidOut (by kernel_rfl) (of_decide_eq_true (by kernel_rfl)) k2 bq lt2) (trodAll_cons_mk (Go.ChangeMaps.shut_string Tryz.underlying9 ws3) (trodAll_cons_mk (shut_int Tryz.underlying3 wn4) (trodAll_cons_mk (shut_int Tryz.underlying3 wn5) trodAll_mk0)))))),rfl,bq.frame _,fun h=>by cases h⟩
theorem D9:Rows.BlockMakesSaid:=
 OpenClaim.holds_of_wide 4 Tryz.f4 rfl rfl rfl rfl rfl rfl rfl ⟨rfl,rfl,rfl,rfl,rfl⟩ rfl rfl rfl rfl rfl (by kernel_rfl) Tryz.func4 (by kernel_rfl)
  (of_decide_eq_true (by kernel_rfl)) (by unfold Func.isWrapper;rw[if_neg (of_decide_eq_false (by kernel_rfl))];exact⟨rfl,rfl⟩)
  (fun os started H enc _=>CB os started H enc)
theorem blockMakes_card:Rows.BlockMakesCardSaid:=
 Claim7.holds_tied_plain_at .later [] _ _ _ _
  D9 (fun _ h=>by cases h) (by kernel_rfl) (fun _ h=>by cases h) blockMakes_row_tie rfl ⟨rfl,rfl⟩ (by kernel_rfl) rfl
  (fun f fn hf hfn=>by
   obtain rfl:f=4:=Option.some.inj ((show Tryz.prog.funcNamed "tidegauge/tidegaugelaw2.BlockMakes" = some 4 by kernel_rfl).symm.trans hf) |>.symm;obtain rfl:fn=Tryz.f4:=(Option.some.inj (Tryz.func4.symm.trans hfn)).symm;exact⟨by kernel_rfl,fun j t ht=>by
    rw[Tryz.params4] at ht;have h3:t=3\/t=3\/t=41\/t=9\/t=3\/t=3:=by
     rcases j with _ | _ | _ | _ | _ | _ | j
     ·exact .inl (by simpa using ht.symm)
     ·exact .inr (.inl (by simpa using ht.symm))
     ·exact .inr (.inr (.inl (by simpa using ht.symm)))
     ·exact .inr (.inr (.inr (.inl (by simpa using ht.symm))))
     ·exact .inr (.inr (.inr (.inr (.inl (by simpa using ht.symm)))))
     ·exact .inr (.inr (.inr (.inr (.inr (by simpa using ht.symm)))))
     ·simp at ht
    rcases h3 with rfl | rfl | rfl | rfl | rfl | rfl
    ·exact (show Tryz.prog.wantsStandIn 3=false by kernel_rfl)
    ·exact (show Tryz.prog.wantsStandIn 3=false by kernel_rfl)
    ·exact (show Tryz.prog.wantsStandIn 41=false by kernel_rfl)
    ·exact (show Tryz.prog.wantsStandIn 9=false by kernel_rfl)
    ·exact (show Tryz.prog.wantsStandIn 3=false by kernel_rfl)
    ·exact (show Tryz.prog.wantsStandIn 3=false by kernel_rfl)⟩)
  (by kernel_rfl)
#print axioms blockMakes_card
end Go.Proofs.YtdlceolmpcjjiaaGreatDoor
