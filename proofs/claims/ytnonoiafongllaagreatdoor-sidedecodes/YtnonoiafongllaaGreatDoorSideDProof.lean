/- Proved: tidegaugelaw3.SideDecodes returns true for every list of texts and every number of workers, on every schedule, without a data race, and leaves its arguments and memory as they were, wherever the package variables that its row lists hold what the program's own initialisers lay (the tied card of the law SideDecodes). -/
import Derived.Test.YtnonoiafongllaaGreatDoorWF
import Derived.Test.YtnonoiafongllaaGreatDoorTie
import Derived.Test.YtnonoiafongllaaGreatDoorCards
import Derived.Conc.LeavingOf
set_option maxRecDepth 100000
open Go.Proofs.Tryz
namespace Go.Proofs.YtnonoiafongllaaGreatDoor
open Px Go.ChangeShapes Go.WideShapes Go.ChangeAt Go.RowKit Go.Deep
theorem OC{W:World}(h:laidMetH prog lX W):(∃ea,Env W.heap.size ea W/\∀i,i<11->∃s:ByteArray,W.cell? (ea i)=some (.string s))/\Forms W/\Tab W:=by
 obtain⟨hL,H⟩:=NZ h;obtain⟨⟨ea,e,J⟩,hr⟩:=J8 hL.tail H;exact⟨⟨ea,e,λi I=>(J i I).imp λs h=>h.1⟩,V6 hr,aaP hL⟩
theorem Dc(os:Os)(I:os.Started)(H:Type)(enc:TypeId×Value->H):
  ReturnsInLeavingWide {} Tryz.checked os 4 .any (λw args=>(Rows.sideDecodesSpec.pre enc prog Tryz.f4 [] false w args/\laidMetH prog lX w)/\sizedMet enc prog Tryz.f4 (OpenSpec.ofChange Rows.sideDecodesSpec) false w args)
   (Rows.sideDecodesSpec.post enc prog Tryz.f4 false true false false):=by
 refine returnsInLeavingWide_of_good (C:=Tryz.checked) Tryz.own I
  (ChangeSpec.witness_shaped (enc:=enc) (C:=Tryz.checked) (os:=os) (X:=λw _=>laidMetH prog lX w) false (World.doorLaid prog 400 os) #[.slice none 0 0,.int .i64 0] 8 rfl (World.shaped_of_RefB bH bH) bH bH bH (QA os _)) ?_
 intro w J i _ í _ Ϥ hpre _;obtain⟨_,_,_,fn',M,_,_,_,_,δ⟩:=Ϥ;obtain rfl:fn'=Tryz.f4:=Option.some.inj (M.symm.trans func4);obtain⟨⟨⟨ds,gs,before,hw,_⟩,hx⟩,hz⟩:=hpre;have hW:=DataW.Whole.of_heap (w':=w.forCall J i) (by rfl) hw;have Ģ:=hz.weights hw;have hL:laidMetH prog lX (w.forCall J i):=hx.of_heap (by rfl);clear hw hx hz M;generalize w.heap.size=base at δ;generalize w.forCall J i=W at *;generalize i.args=args at *;have Å:∀(j:Nat) t v,Tryz.f4.params[j]? = some t->args[j]? = some v->Value.okWide prog W .any base t v:=δ;have hW':=hW;obtain⟨p,q,hA0,hV,rfl,hfz,ű⟩:=hW;have hA:DataW.TrodAll enc prog W 0 (λ_=>true) true Tryz.f4.params.toList args.toList ds p:=hA0;rw[Tryz.params4] at hA Å;obtain⟨v0,vs0,d0,ds0,p0,q0,Ŗ,rfl,rfl,h0,r0⟩:=trodAll_cons hA;obtain⟨v1,vs1,d1,ds1,p1,q1,rfl,rfl,rfl,h1,r1⟩:=trodAll_cons r0;obtain⟨rfl,rfl,rfl⟩:=trodAll_nil r1;obtain rfl:args=#[v0,v1]:=by cases args;simp_all
 obtain⟨rfl,rfl⟩:=trodVars_none hV;obtain⟨a0,aiv,Z,rfl⟩:=okWide_slice underlying26 (Å 0 26 v0 rfl rfl);have k0:=h0;have lt0:∀x∈p0,x.block<W.heap.size:=by obtain⟨m,hm⟩:=k0;exact DataW.trod_lt m _ _ _ hm
 obtain⟨n1,rfl,rfl,rfl,wn1⟩:=open_int underlying3 (Å 1 3 v1 rfl rfl) h1;obtain⟨ak1,ŧ⟩:=h0;simp only[Value.cells] at ŧ;have w0:∀n,n∈d0.weights prog 26->n<=reachBytes:=λn hn=>of_decide_eq_true (List.all_eq_true.1 Ģ n (DataW.weights_mem_each (j:=0) (t:=26) bH rfl n hn))
 obtain⟨S,hI⟩:=Dx.aaI ŧ w0;have å:=adK underlying26 (by rw[show prog.cellsOf 9=1 by kernel_rfl];decide) ŧ;have l0:=aaJ underlying26 ŧ;obtain⟨⟨ea,E,hs⟩,hF,hT⟩:=OC hL;clear hA0 δ;have L:=aaA í E hs hF hT;have rd:∀b,(∃xs t fr,W.heap[b]? = some (.cells xs t fr))->b<W.heap.size/\bJ W (Sz W) b:=λb ⟨xs,t,fr,e⟩=>
  ⟨(Array.getElem?_eq_some_iff.1 e).1,(Array.getElem?_eq_some_iff.1 e).1,λhs=>hs.2 ⟨xs,t,fr,e⟩,xs,t,fr,e⟩
 obtain⟨N,last,o,w',t',g1,g2,g3,v,e,⟨rfl,U,hos,Ø⟩,r⟩:=Dx.aaH L a0 aiv Z n1 S ⟨λad ha=>(å ad ha).imp (rd _) id,hI⟩ l0;refine⟨N,last,o,w',t',g1,g2,g3,.bool true,e,?_,r⟩;have Ϣ:W.heap.size<=w'.heap.size:=by
  rcases Nat.eq_zero_or_pos W.heap.size with h|h
  ·omega
  ·have h1:=U (W.heap.size-1) aV;rw[Array.getElem?_eq_getElem (show W.heap.size-1<W.heap.size by omega)] at h1;have:=(Array.getElem?_eq_some_iff.1 h1).1;omega
 have eB:Below W.heap.size W.blind w'.blind:=⟨hos,rfl,Ø,Ϣ,U⟩;exact⟨_,_,_,[],_,[],DataW.Whole.of_heap (by rfl) hW',trodAll_mk1 (shut_bool underlying4 _),(trodAll_cons_mk (Below.trod Tryz.laidOut bH (of_decide_eq_true bH) (k0.of_heap (by rfl)) eB lt0) (trodAll_cons_mk (shut_int underlying3 wn1) trodAll_mk0)),rfl,eB.frame _,λh=>by cases h⟩
theorem DZ:Rows.SideDecodesSaid:=
 OpenClaim.holds_of_wide_leaving 4 Tryz.f4 rfl rfl rfl rfl rfl rfl rfl ⟨rfl,rfl,rfl,rfl,rfl⟩ rfl rfl rfl rfl rfl bH func4 bH
  (of_decide_eq_true bH) (by unfold Func.isWrapper;rw[if_neg (of_decide_eq_false bH)];exact⟨rfl,rfl⟩)
  (λos e H enc _=>Dc os e H enc)
theorem sideDecodes_card:Rows.SideDecodesCardSaid:=by
 have h6:Claim7.isSixth { stood:=Rows.sideDecodesCard.stood }=false:=bH;have hn:=Claim7.new_of_sixth DZ Rows.sideDecodesCard.stood.harness Rows.sideDecodesCard.stood.looks rfl ⟨rfl,rfl⟩ bH h6
  (λf fn hf ē=>by
   obtain rfl:f=4:=Option.some.inj ((show prog.funcNamed "tidegauge/tidegaugelaw3.SideDecodes" = some 4 by kernel_rfl).symm.trans hf) |>.symm;obtain rfl:fn=Tryz.f4:=(Option.some.inj (func4.symm.trans ē)).symm;exact⟨bH,λj t ht=>by
    rw[Tryz.params4] at ht;have h3:t=26\/t=3:=by
     rcases j with _|_|j
     ·exact .inl (by simpa using ht.symm)
     ·exact .inr (by simpa using ht.symm)
     ·simp at ht
    rcases h3 with rfl|rfl
    ·exact (show prog.wantsStandIn 26=false by kernel_rfl)
    ·exact (show prog.wantsStandIn 3=false by kernel_rfl)⟩)
 have h1:Claim7.holdsOne Tryz.pinned (.plain (OpenSpec.ofChange Rows.sideDecodesSpec)) Rows.sideDecodesCard:=Claim7.tied_new_at .later Rows.sideDecodesCard.laidKinds true hn bH;exact⟨h1,λD h=>(by cases h),sideDecodes_row_tie,λh=>(by cases h),bH⟩
#print axioms sideDecodes_card
