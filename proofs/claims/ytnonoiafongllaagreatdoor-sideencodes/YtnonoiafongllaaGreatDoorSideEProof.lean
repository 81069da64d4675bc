/- Proved: tidegaugelaw3.SideEncodes returns true for every list of lists of points and every number of workers, on every schedule, without a data race, and leaves its arguments and memory as they were, wherever the package variables that its row lists hold what the program's own initialisers lay (the tied card of the law SideEncodes). -/
import Derived.Test.YtnonoiafongllaaGreatDoorSideIn
import Derived.Test.YtnonoiafongllaaGreatDoorArgsInGroup
import Derived.Test.YtnonoiafongllaaGreatDoorTie
import Derived.Test.YtnonoiafongllaaGreatDoorCards
import Derived.SevenTiedAt
import Derived.Shelf.Vars
import Derived.Conc.Holds
import Derived.Conc.LeavingOf
set_option maxRecDepth 100000
namespace Go.Proofs.YtnonoiafongllaaGreatDoor
open Go.ChangeShapes Go.WideShapes Go.ChangeAt Go.RowKit Go.Deep
theorem E9 {W:World} (h:laidMetH Tryz.prog jf W):(∃ ea,Env W.heap.size ea W/\∀ i,i<11->∃ s:ByteArray,W.cell? (ea i)=some (.string s))/\Forms W/\Tab W:=by
 obtain⟨hL,hH⟩:=Ey h;obtain⟨⟨ea,hE,hs⟩,hr⟩:=BK hL.tail hH;exact⟨⟨ea,hE,fun i hi=>(hs i hi).imp fun s h=>h.1⟩,Me hr,Ri hL⟩
theorem vO (os:Os) (started:os.Started) (H:Type) (enc:TypeId×Value->H) :
  ReturnsInLeavingWide {} Tryz.checked os 3 .any (fun w args=>(Rows.sideEncodesSpec.pre enc Tryz.prog Tryz.f3 [] false w args/\laidMetH Tryz.prog jf w)/\sizedMet enc Tryz.prog Tryz.f3 (OpenSpec.ofChange Rows.sideEncodesSpec) false w args)
   (Rows.sideEncodesSpec.post enc Tryz.prog Tryz.f3 false true false false):=by
 refine returnsInLeavingWide_of_good (C:=Tryz.checked) Tryz.own started
  (ChangeSpec.witness_shaped (enc:=enc) (C:=Tryz.checked) (os:=os) (X:=fun w _=>laidMetH Tryz.prog jf w) false (World.doorLaid Tryz.prog 400 os) #[.slice none 0 0,.int .i64 0] 8 rfl (World.shaped_of_RefB (by kernel_rfl) (by kernel_rfl)) (by kernel_rfl) (by kernel_rfl) (by kernel_rfl) (Gm os _)) ?_
 intro w tape i _ hsh _ hok hpre _;obtain⟨_,_,_,fn',hfn',_,_,_,_,hval0⟩:=hok;obtain rfl:fn'=Tryz.f3:=Option.some.inj (hfn'.symm.trans Tryz.func3);obtain⟨⟨⟨ds,gs,before,hw,_⟩,hx⟩,hz⟩:=hpre;have hW:=DataW.Whole.of_heap (w':=w.forCall tape i) (by rfl) hw;have hwt:=hz.weights hw;have hL:laidMetH Tryz.prog jf (w.forCall tape i):=hx.of_heap (by rfl);clear hw hx hz hfn';generalize w.heap.size=base at hval0;generalize w.forCall tape i=W at *;generalize i.args=args at *;have hval:∀ (j:Nat) t v,Tryz.f3.params[j]? = some t->args[j]? = some v->Value.okWide Tryz.prog W .any base t v:=hval0;have hW':=hW;obtain⟨p,q,Xh,hV,rfl,hfz,hnd⟩:=hW;have hA:DataW.TrodAll enc Tryz.prog W 0 (fun _=>true) true Tryz.f3.params.toList args.toList ds p:=Xh;rw[Tryz.params3] at hA hval;obtain⟨v0,vs0,d0,ds0,p0,q0,hargs,rfl,rfl,h0,r0⟩:=trodAll_cons hA;obtain⟨v1,vs1,d1,ds1,p1,q1,rfl,rfl,rfl,h1,r1⟩:=trodAll_cons r0;obtain⟨rfl,rfl,rfl⟩:=trodAll_nil r1;obtain rfl:args=#[v0,v1]:=by cases args;simp_all
 obtain⟨rfl,rfl⟩:=trodVars_none hV;obtain⟨a0,YG,cap0,rfl⟩:=okWide_slice Tryz.underlying22 (hval 0 22 v0 rfl rfl);have k0:=h0;have lt0:∀ x∈p0,x.block<W.heap.size:=by obtain⟨m,hm⟩:=k0;exact DataW.trod_lt m _ _ _ hm
 obtain⟨n1,rfl,rfl,rfl,wn1⟩:=open_int Tryz.underlying3 (hval 1 3 v1 rfl rfl) h1;obtain⟨aa3,hf0⟩:=h0;simp only[Value.cells] at hf0;have w0:∀ n,n∈d0.weights Tryz.prog 22->n<=reachBytes:=fun n hn=>of_decide_eq_true (List.all_eq_true.1 hwt n (DataW.weights_mem_each (j:=0) (t:=22) (by kernel_rfl) rfl n hn))
 obtain⟨la,nn,cc,T,B,hI,hb⟩:=Q7 hf0 w0;have hba:=LJ Tryz.underlying22 (by rw[show Tryz.prog.cellsOf 24=1 by kernel_rfl];decide) hf0;have l0:=Ra Tryz.underlying22 hf0;obtain⟨⟨ea,E,hs⟩,hF,hT⟩:=E9 hL;clear Xh hval0;have L:=Q9 hsh E hs hF hT;have rd:∀ b,(∃ xs t fr,W.heap[b]? = some (.cells xs t fr))->b<W.heap.size/\aY W (I6 W) b:=fun b ⟨xs,t,fr,e⟩=>
  ⟨(Array.getElem?_eq_some_iff.1 e).1,(Array.getElem?_eq_some_iff.1 e).1,fun hs=>hs.2 ⟨xs,t,fr,e⟩,xs,t,fr,e⟩
 obtain⟨N,last,o,w',t',g1,g2,g3,v,e,⟨rfl,hold,hos,hout⟩,r⟩:=Q6 L a0 YG cap0 n1 la nn cc T B ⟨fun ad ha=>(hba ad ha).imp (rd _) id,fun i hi ad ha=>(hb i hi ad ha).imp (rd _) id,hI⟩ l0;refine⟨N,last,o,w',t',g1,g2,g3,.bool true,e,?_,r⟩;have hsz:W.heap.size<=w'.heap.size:=by
  rcases Nat.eq_zero_or_pos W.heap.size with h | h
  ·omega
  ·have h1:=hold (W.heap.size-1) (by omega);rw[Array.getElem?_eq_getElem (show W.heap.size-1<W.heap.size by omega)] at h1;have:=(Array.getElem?_eq_some_iff.1 h1).1;omega
 have bU:Below W.heap.size W.blind w'.blind:=⟨hos,rfl,hout,hsz,hold⟩;exact⟨_,_,_,[],_,[],DataW.Whole.of_heap (by rfl) hW',trodAll_mk1 (shut_bool Tryz.underlying4 _),(trodAll_cons_mk (Below.trod Tryz.laidOut (by kernel_rfl) (of_decide_eq_true (by kernel_rfl)) (k0.of_heap (by rfl)) bU lt0) (trodAll_cons_mk (shut_int Tryz.underlying3 wn1) trodAll_mk0)),rfl,bU.frame _,fun h=>by cases h⟩
theorem wP:Rows.SideEncodesSaid:=
 OpenClaim.holds_of_wide_leaving 3 Tryz.f3 rfl rfl rfl rfl rfl rfl rfl ⟨rfl,rfl,rfl,rfl,rfl⟩ rfl rfl rfl rfl rfl (by kernel_rfl) Tryz.func3 (by kernel_rfl)
  (of_decide_eq_true (by kernel_rfl)) (by unfold Func.isWrapper;rw[if_neg (of_decide_eq_false (by kernel_rfl))];exact⟨rfl,rfl⟩)
  (fun os started H enc _=>vO os started H enc)
theorem sideEncodes_card:Rows.SideEncodesCardSaid:=by
 have h6:Claim7.isSixth { stood:=Rows.sideEncodesCard.stood }=false:=by kernel_rfl
 have hn:=Claim7.new_of_sixth wP Rows.sideEncodesCard.stood.harness Rows.sideEncodesCard.stood.looks rfl ⟨rfl,rfl⟩ (by kernel_rfl) h6
  (fun f fn hf hfn=>by
   obtain rfl:f=3:=Option.some.inj ((show Tryz.prog.funcNamed "tidegauge/tidegaugelaw3.SideEncodes" = some 3 by kernel_rfl).symm.trans hf) |>.symm;obtain rfl:fn=Tryz.f3:=(Option.some.inj (Tryz.func3.symm.trans hfn)).symm;exact⟨by kernel_rfl,fun j t ht=>by
    rw[Tryz.params3] at ht;have h3:t=22\/t=3:=by
     rcases j with _ | _ | j
     ·exact .inl (by simpa using ht.symm)
     ·exact .inr (by simpa using ht.symm)
     ·simp at ht
    rcases h3 with rfl | rfl
    ·exact (show Tryz.prog.wantsStandIn 22=false by kernel_rfl)
    ·exact (show Tryz.prog.wantsStandIn 3=false by kernel_rfl)⟩)
 have h1:Claim7.holdsOne Tryz.pinned (.plain (OpenSpec.ofChange Rows.sideEncodesSpec)) Rows.sideEncodesCard:=Claim7.tied_new_at .later Rows.sideEncodesCard.laidKinds true hn (by kernel_rfl);exact⟨h1,fun D h=>(by cases h),sideEncodes_row_tie,fun h=>(by cases h),by kernel_rfl⟩
#print axioms sideEncodes_card
end Go.Proofs.YtnonoiafongllaaGreatDoor
