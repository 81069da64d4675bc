import Derived.Test.YtdlceolmpcjjiaaGreatDoorLaid
import Derived.Test.YtdlceolmpcjjiaaGreatDoorRows1Group
namespace Go.Proofs.YtdlceolmpcjjiaaGreatDoor
open Go.ChangeShapes Go.WideShapes Go.ChangeAt Go.RowKit
theorem Tryz.cellsForm:Tryz.prog.cellsOf 272=4:=by kernel_rfl
theorem Tryz.cellsInt:Tryz.prog.cellsOf 3=1:=by kernel_rfl
theorem Tryz.cellsU64:Tryz.prog.cellsOf 69=1:=by kernel_rfl
theorem yI {H:Type} {enc:TypeId×Value->H} {W:World} {base:Nat} {sp:Nat->Bool} {hd:Bool} {fuel:Nat} {t:TypeId} {k:IntKind} {cs:List Value} {n:Int} {ps:List MemPlace}
  (ht:Tryz.prog.underlying t=some (.int k)) (h:DataW.trod enc Tryz.prog W base sp hd fuel t cs=some (.lit (.int k n),ps)):cs = [.int k n]:=by
 obtain⟨m,rfl,e,_⟩:=DataW.trod_int ht h;simp at e;rw[e.1]
theorem Ud {α:Type} {l:List α} (h:l.length=4):∃ a b c d,l = [a,b,c,d]:=by
 match l,h with
 | [a,b,c,d],_=>exact⟨a,b,c,d,rfl⟩
theorem KV {H:Type} {enc:TypeId×Value->H} {P:Program} {W:World} {base:Nat} {sp:Nat->Bool} {hd:Bool} {t e:TypeId} {fuel:Nat} {cs:List Value} {x:DataW H×List MemPlace} (ht:P.underlying t=some (.array 5 e)) (hce:P.cellsOf e=4)
  (h:DataW.trod enc P W base sp hd fuel t cs=some x) :
  ∃ y0 y1 y2 y3 y4 n,x.1 = .agg [y0.1,y1.1,y2.1,y3.1,y4.1]/\DataW.trod enc P W base sp hd n e ((cs.drop (0*4)).take 4)=some y0/\DataW.trod enc P W base sp hd n e ((cs.drop (1*4)).take 4)=some y1/\DataW.trod enc P W base sp hd n e ((cs.drop (2*4)).take 4)=some y2/\DataW.trod enc P W base sp hd n e ((cs.drop (3*4)).take 4)=some y3/\DataW.trod enc P W base sp hd n e ((cs.drop (4*4)).take 4)=some y4:=by
 cases fuel with
 | zero=>simp[DataW.trod] at h
 | succ n=>
  unfold DataW.trod at h;rw[ht] at h;have r5:List.range 5 = [0,1,2,3,4]:=rfl;simp only[r5,hce,List.mapM_cons,List.mapM_nil] at h;split at h
  ·generalize h0:DataW.trod enc P W base sp hd n e ((cs.drop (0*4)).take 4)=o0 at h;generalize h1:DataW.trod enc P W base sp hd n e ((cs.drop (1*4)).take 4)=o1 at h;generalize h2:DataW.trod enc P W base sp hd n e ((cs.drop (2*4)).take 4)=o2 at h;generalize h3:DataW.trod enc P W base sp hd n e ((cs.drop (3*4)).take 4)=o3 at h;generalize h4:DataW.trod enc P W base sp hd n e ((cs.drop (4*4)).take 4)=o4 at h;cases o0 with
   | none=>simp at h
   | some y0=>
    cases o1 with
    | none=>simp at h
    | some y1=>
     cases o2 with
     | none=>simp at h
     | some y2=>
      cases o3 with
      | none=>simp at h
      | some y3=>
       cases o4 with
       | none=>simp at h
       | some y4=>
        simp at h;exact⟨y0,y1,y2,y3,y4,n,by rw[<-h],h0,h1,h2,h3,h4⟩
  ·cases h
theorem vG {H:Type} {enc:TypeId×Value->H} {W:World} {base:Nat} {sp:Nat->Bool} {hd:Bool} {fuel:Nat} {cs:List Value} {m a wd sh:Int} {y:DataW H×List MemPlace}
  (h:DataW.trod enc Tryz.prog W base sp hd fuel 272 cs=some y) (hy:y.1 = .agg [.lit (.int .u64 m),.lit (.int .i64 a),.lit (.int .i64 wd),.lit (.int .i64 sh)]):cs = [.int .u64 m,.int .i64 a,.int .i64 wd,.int .i64 sh]:=by
 obtain⟨xs,n,-,rfl,hl,hlen,hf⟩:=DataW.trod_struct Tryz.underlying272 h;rw[Tryz.cellsForm] at hl;obtain⟨c0,c1,c2,c3,rfl⟩:=Ud hl;obtain⟨y0,y1,y2,y3,rfl⟩:=Ud hlen;simp at hy;obtain⟨e0,e1,e2,e3⟩:=hy;have f0:=hf 0 _ rfl;have f1:=hf 1 _ rfl;have f2:=hf 2 _ rfl;have f3:=hf 3 _ rfl;simp[Tryz.cellsInt,Tryz.cellsU64] at f0 f1 f2 f3;obtain⟨d0,p0⟩:=y0;obtain⟨d1,p1⟩:=y1;obtain⟨d2,p2⟩:=y2;obtain⟨d3,p3⟩:=y3;simp only at e0 e1 e2 e3;subst e0 e1 e2 e3;have g0:=yI Tryz.underlying69 f0;have g1:=yI Tryz.underlying3 f1;have g2:=yI Tryz.underlying3 f2;have g3:=yI Tryz.underlying3 f3;simp at g0 g1 g2 g3;rw[g0,g1,g2,g3]
theorem mM (l:List Value) (i j:Nat) (h:j<4) (v:List Value) (hv:(l.drop (i*4)).take 4=v):l[i*4+j]? = v[j]?:=by
 rw[<-hv,List.getElem?_take_of_lt h,List.getElem?_drop]
theorem RG {W:World} {r:List (String×DataW Unit)} (h:laidMet Tryz.prog (("tidegauge/wave.forms",Rows.laid_tidegauge_wave_forms)::r) W):Forms W:=by
 obtain⟨ps,⟨g0,t0,cs0,f0,p0,q0,hg0,ht0,hv0,hd0,_,e0⟩,_,hrows⟩:=h;obtain rfl:=Option.some.inj ((show Tryz.prog.globalNamed "tidegauge/wave.forms" = some 18 by kernel_rfl).symm.trans hg0);obtain rfl:=Option.some.inj ((show (Tryz.prog.globals[18]?).map (·.type)=some 298 by kernel_rfl).symm.trans ht0);have hcell:=fun i=>World.var?_cell hg0 hv0 i
 obtain⟨y0,y1,y2,y3,y4,n,hx,h0,h1,h2,h3,h4⟩:=KV Tryz.underlying298 Tryz.cellsForm hd0;simp only[Rows.laid_tidegauge_wave_forms,DataW.agg.injEq,List.cons.injEq] at hx;obtain⟨e0,e1,e2,e3,e4,-⟩:=hx;have c0:=vG h0 e0.symm;have c1:=vG h1 e1.symm;have c2:=vG h2 e2.symm;have c3:=vG h3 e3.symm;have c4:=vG h4 e4.symm;have key:∀ i j,i<5->j<4->cs0.toList[i*4+j]? = zY[i*4+j]?:=by
  intro i j hi hj;rcases (by omega:i=0\/i=1\/i=2\/i=3\/i=4) with rfl | rfl | rfl | rfl | rfl
  ·rw[mM _ 0 j hj _ c0];rcases (by omega:j=0\/j=1\/j=2\/j=3) with rfl | rfl | rfl | rfl<;>rfl
  ·rw[mM _ 1 j hj _ c1];rcases (by omega:j=0\/j=1\/j=2\/j=3) with rfl | rfl | rfl | rfl<;>rfl
  ·rw[mM _ 2 j hj _ c2];rcases (by omega:j=0\/j=1\/j=2\/j=3) with rfl | rfl | rfl | rfl<;>rfl
  ·rw[mM _ 3 j hj _ c3];rcases (by omega:j=0\/j=1\/j=2\/j=3) with rfl | rfl | rfl | rfl<;>rfl
  ·rw[mM _ 4 j hj _ c4];rcases (by omega:j=0\/j=1\/j=2\/j=3) with rfl | rfl | rfl | rfl<;>rfl
 intro i hi;rw[hcell i];have:=key (i / 4) (i % 4) (by omega) (by omega);rw[show i / 4*4+i % 4=i by omega] at this;simpa using this
end Go.Proofs.YtdlceolmpcjjiaaGreatDoor
