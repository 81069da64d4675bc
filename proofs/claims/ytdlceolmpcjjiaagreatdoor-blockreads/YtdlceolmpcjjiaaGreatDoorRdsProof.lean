/- Proved: tidegaugelaw2.BlockReads returns true for every text, and leaves its arguments and memory as they were, wherever the package variables that its row lists hold what the program's own initialisers lay (the tied card of the law BlockReads). -/
import Derived.Test.YtdlceolmpcjjiaaGreatDoorBlkEnvs
import Derived.Test.YtdlceolmpcjjiaaGreatDoorBlkDocOfGroup
import Derived.ChangeMaps5
import Derived.Shelf.Vars
import Derived.Test.YtdlceolmpcjjiaaGreatDoorChecked
import Derived.Test.YtdlceolmpcjjiaaGreatDoorSlicesIn
import Derived.ProofKit
import Derived.Deep.SlicePairs
import Derived.OpenShut
import Derived.Test.YtdlceolmpcjjiaaGreatDoorTie
import Derived.Test.YtdlceolmpcjjiaaGreatDoorCards
import Derived.SevenTiedAt
set_option maxRecDepth 100000
namespace Go.Proofs.YtdlceolmpcjjiaaGreatDoor
open Go.ChangeShapes Go.WideShapes Go.ChangeAt Go.RowKit Go.Deep
theorem BA (os:Os) (started:os.Started) (H:Type) (enc:TypeId×Value->H) :
  ReturnsInHanded {} Tryz.checked os 3 .any (fun w args=>(Rows.blockReadsSpec.pre enc Tryz.prog Tryz.f3 [] false w args/\laidMetH Tryz.prog vY w)/\sizedMet enc Tryz.prog Tryz.f3 (OpenSpec.ofChange Rows.blockReadsSpec) false w args)
   (Rows.blockReadsSpec.post enc Tryz.prog Tryz.f3 false true false false):=by
 refine returnsInHanded_of_calls Tryz.own started (by kernel_rfl) (ChangeSpec.witness_shaped (enc:=enc) (C:=Tryz.checked) (os:=os) (X:=fun w _=>laidMetH Tryz.prog vY w) false (Ev os) #[.string ⟨#[]⟩] 8 (QL os) (Hu os _) (by kernel_rfl) (by kernel_rfl) (by kernel_rfl) (Wn os _)) ?_;intro w tape i _ hsh _ hok hpre _;obtain⟨_,_,_,fn',hfn',_,_,_,_,hval0⟩:=hok;obtain rfl:fn'=Tryz.f3:=Option.some.inj (hfn'.symm.trans Tryz.func3);obtain⟨⟨⟨ds,gs,before,hw,_⟩,hx⟩,hz⟩:=hpre;have hW:=DataW.Whole.of_heap (w':=w.forCall tape i) (by rfl) hw;have hwt:=hz.weights hw;have hL:laidMetH Tryz.prog vY (w.forCall tape i):=hx.of_heap (by rfl);suffices hS:Calls Tryz.prog 3 i.args (w.forCall tape i) fun e W'=>∃ v,e = .returned v/\Rows.blockReadsSpec.post enc Tryz.prog Tryz.f3 false true false false (w.forCall tape i) i.args v W' from hS.mono fun e W' ⟨v,he,hp⟩=>by
  subst he;exact ChangeSpec.post_blind hp
 clear hw hx hz hfn';generalize w.heap.size=base at hval0;generalize w.forCall tape i=W at *;generalize i.args=args at *;have hval:∀ (j:Nat) t v,Tryz.f3.params[j]? = some t->args[j]? = some v->Value.okWide Tryz.prog W .any base t v:=hval0;have hW':=hW;obtain⟨p,q,FZ,hV,rfl,hfz,hnd⟩:=hW;have hA:DataW.TrodAll enc Tryz.prog W 0 (fun _=>true) true Tryz.f3.params.toList args.toList ds p:=FZ;rw[Tryz.params3] at hA hval;obtain⟨v0,vs0,d0,ds0,p0,q0,hargs,rfl,rfl,h0,r0⟩:=trodAll_cons hA;obtain⟨rfl,rfl,rfl⟩:=trodAll_nil r0;obtain rfl:args=#[v0]:=by cases args;simp_all
 obtain⟨rfl,rfl⟩:=trodVars_none hV;obtain⟨s0,rfl,rfl,rfl,ws0⟩:=Go.ChangeMaps.open_string Tryz.underlying9 (hval 0 9 v0 rfl rfl) h0;obtain⟨⟨ea,E⟩,OM,FL⟩:=Ox hL;obtain⟨mx,hMX⟩:=cell_of_shapedOpen_int (g:=12) (t:=3) (zero:=#[.int .i64 0]) hsh (of_decide_eq_true (by kernel_rfl)) (by kernel_rfl) rfl (by kernel_rfl) (by kernel_rfl) Tryz.underlying3;clear FZ hval0;refine (Wt W E (Lib.tabBelow_of_tabIs OM) FL (Nat.le_refl _) mx hMX s0).mono fun e W' ⟨he,bg⟩=>?_
 subst he;exact⟨_,rfl,_,_,_,[],_,[],hW',trodAll_mk1 (shut_bool Tryz.underlying4 _),(trodAll_cons_mk (Go.ChangeMaps.shut_string Tryz.underlying9 ws0) trodAll_mk0),rfl,bg.frame _,fun h=>by cases h⟩
theorem Dg:Rows.BlockReadsSaid:=
 OpenClaim.holds_of_wide 3 Tryz.f3 rfl rfl rfl rfl rfl rfl rfl ⟨rfl,rfl,rfl,rfl,rfl⟩ rfl rfl rfl rfl rfl (by kernel_rfl) Tryz.func3 (by kernel_rfl)
  (of_decide_eq_true (by kernel_rfl)) (by unfold Func.isWrapper;rw[if_neg (of_decide_eq_false (by kernel_rfl))];exact⟨rfl,rfl⟩)
  (fun os started H enc _=>BA os started H enc)
theorem blockReads_card:Rows.BlockReadsCardSaid:=
 Claim7.holds_tied_plain_at .later [] _ _ _ _
  Dg (fun _ h=>by cases h) (by kernel_rfl) (fun _ h=>by cases h) blockReads_row_tie rfl ⟨rfl,rfl⟩ (by kernel_rfl) rfl
  (fun f fn hf hfn=>by
   obtain rfl:f=3:=Option.some.inj ((show Tryz.prog.funcNamed "tidegauge/tidegaugelaw2.BlockReads" = some 3 by kernel_rfl).symm.trans hf) |>.symm;obtain rfl:fn=Tryz.f3:=(Option.some.inj (Tryz.func3.symm.trans hfn)).symm;exact⟨by kernel_rfl,fun j t ht=>by
    rw[Tryz.params3] at ht;have h3:t=9:=by
     rcases j with _ | j
     ·exact (by simpa using ht.symm)
     ·simp at ht
    subst h3;exact (show Tryz.prog.wantsStandIn 9=false by kernel_rfl)⟩)
  (by kernel_rfl)
#print axioms blockReads_card
end Go.Proofs.YtdlceolmpcjjiaaGreatDoor
