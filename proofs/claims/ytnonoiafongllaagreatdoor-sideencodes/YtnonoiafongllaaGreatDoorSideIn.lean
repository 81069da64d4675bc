import Derived.Test.YtnonoiafongllaaGreatDoorPxPoolEGroup
import Derived.Test.YtnonoiafongllaaGreatDoorArgsInGroup
import Derived.Test.YtnonoiafongllaaGreatDoorPtList
import Derived.Sort.EncStr
import Derived.Lib.SmallJoins
import Derived.SizedLaws
import Derived.Test.YtnonoiafongllaaGreatDoorErrAsGroup
import Derived.Test.YtnonoiafongllaaGreatDoorLaid
import Derived.Test.YtnonoiafongllaaGreatDoorMaskLibGroup
import Derived.Test.YtnonoiafongllaaGreatDoorRows1Group
namespace Go.Proofs.YtnonoiafongllaaGreatDoor
open Go.ChangeShapes Go.WideShapes Go.ChangeAt Go.RowKit
theorem Tryz.cellsForm:Tryz.prog.cellsOf 209=4:=by kernel_rfl
theorem Tryz.cellsInt:Tryz.prog.cellsOf 3=1:=by kernel_rfl
theorem Tryz.cellsU64:Tryz.prog.cellsOf 53=1:=by kernel_rfl
theorem sF {H:Type} {enc:TypeId×Value->H} {W:World} {base:Nat} {sp:Nat->Bool} {hd:Bool} {fuel:Nat} {t:TypeId} {k:IntKind} {cs:List Value} {n:Int} {ps:List MemPlace}
  (ht:Tryz.prog.underlying t=some (.int k)) (h:DataW.trod enc Tryz.prog W base sp hd fuel t cs=some (.lit (.int k n),ps)):cs = [.int k n]:=by
 obtain⟨m,rfl,e,_⟩:=DataW.trod_int ht h;simp at e;rw[e.1]
theorem Oq {α:Type} {l:List α} (h:l.length=4):∃ a b c d,l = [a,b,c,d]:=by
 match l,h with
 | [a,b,c,d],_=>exact⟨a,b,c,d,rfl⟩
theorem Ew {H:Type} {enc:TypeId×Value->H} {P:Program} {W:World} {base:Nat} {sp:Nat->Bool} {hd:Bool} {t e:TypeId} {fuel:Nat} {cs:List Value} {x:DataW H×List MemPlace} (ht:P.underlying t=some (.array 5 e)) (hce:P.cellsOf e=4)
  (h:DataW.trod enc P W base sp hd fuel t cs=some x) :
  ∃ y0 y1 y2 y3 y4 n,x.1 = .agg [y0.1,y1.1,y2.1,y3.1,y4.1]/\DataW.trod enc P W base sp hd n e ((cs.drop (0*4)).take 4)=some y0/\DataW.trod enc P W base sp hd n e ((cs.drop (1*4)).take 4)=some y1/\DataW.trod enc P W base sp hd n e ((cs.drop (2*4)).take 4)=some y2/\DataW.trod enc P W base sp hd n e ((cs.drop (3*4)).take 4)=some y3/\DataW.trod enc P W base sp hd n e ((cs.drop (4*4)).take 4)=some y4:=by
 cases fuel with
 | zero=>simp[DataW.trod] at h
 | succ n=>
  unfold DataW.trod at h;rw[ht] at h;have r5:List.range 5 = [0,1,2,3,4]:=rfl;simp only[r5,hce,List.mapM_cons,List.mapM_nil] at h;split at h
  ·generalize h0:DataW.trod enc P W base sp hd n e ((cs.drop (0*4)).take 4)=o0 at h;generalize h1:DataW.trod enc P W base sp hd n e ((cs.drop (1*4)).take 4)=o1 at h;generalize h2:DataW.trod enc P W base sp hd n e ((cs.drop (2*4)).take 4)=o2 at h;generalize h3:DataW.trod enc P W base sp hd n e ((cs.drop (3*4)).take 4)=o3 at h;generalize h4:DataW.trod enc P W base sp hd n e ((cs.drop (4*4)).take 4)=o4 at h;cases o0 with
   | none=>simp at h
   | some y0=>
    cases o1 with
    | none=>simp at h
    | some y1=>
     cases o2 with
     | none=>simp at h
     | some y2=>
      cases o3 with
      | none=>simp at h
      | some y3=>
       cases o4 with
       | none=>simp at h
       | some y4=>
        simp at h;exact⟨y0,y1,y2,y3,y4,n,by rw[<-h],h0,h1,h2,h3,h4⟩
  ·cases h
theorem o8 {H:Type} {enc:TypeId×Value->H} {W:World} {base:Nat} {sp:Nat->Bool} {hd:Bool} {fuel:Nat} {cs:List Value} {m a wd sh:Int} {y:DataW H×List MemPlace}
  (h:DataW.trod enc Tryz.prog W base sp hd fuel 209 cs=some y) (hy:y.1 = .agg [.lit (.int .u64 m),.lit (.int .i64 a),.lit (.int .i64 wd),.lit (.int .i64 sh)]):cs = [.int .u64 m,.int .i64 a,.int .i64 wd,.int .i64 sh]:=by
 obtain⟨xs,n,-,rfl,hl,hlen,hf⟩:=DataW.trod_struct Tryz.underlying209 h;rw[Tryz.cellsForm] at hl;obtain⟨c0,c1,c2,c3,rfl⟩:=Oq hl;obtain⟨y0,y1,y2,y3,rfl⟩:=Oq hlen;simp at hy;obtain⟨e0,e1,e2,e3⟩:=hy;have f0:=hf 0 _ rfl;have f1:=hf 1 _ rfl;have f2:=hf 2 _ rfl;have f3:=hf 3 _ rfl;simp[Tryz.cellsInt,Tryz.cellsU64] at f0 f1 f2 f3;obtain⟨d0,p0⟩:=y0;obtain⟨d1,p1⟩:=y1;obtain⟨d2,p2⟩:=y2;obtain⟨d3,p3⟩:=y3;simp only at e0 e1 e2 e3;subst e0 e1 e2 e3;have g0:=sF Tryz.underlying53 f0;have g1:=sF Tryz.underlying3 f1;have g2:=sF Tryz.underlying3 f2;have g3:=sF Tryz.underlying3 f3;simp at g0 g1 g2 g3;rw[g0,g1,g2,g3]
theorem jq (l:List Value) (i j:Nat) (h:j<4) (v:List Value) (hv:(l.drop (i*4)).take 4=v):l[i*4+j]? = v[j]?:=by
 rw[<-hv,List.getElem?_take_of_lt h,List.getElem?_drop]
theorem Me {W:World} {r:List (String×DataW Unit)} (h:laidMet Tryz.prog (("tidegauge/wave.forms",Rows.laid_tidegauge_wave_forms)::r) W):Forms W:=by
 obtain⟨ps,⟨g0,t0,cs0,f0,p0,q0,hg0,ht0,hv0,hd0,_,e0⟩,_,hrows⟩:=h;obtain rfl:=Option.some.inj ((show Tryz.prog.globalNamed "tidegauge/wave.forms" = some 12 by kernel_rfl).symm.trans hg0);obtain rfl:=Option.some.inj ((show (Tryz.prog.globals[12]?).map (·.type)=some 228 by kernel_rfl).symm.trans ht0);have hcell:=fun i=>World.var?_cell hg0 hv0 i
 obtain⟨y0,y1,y2,y3,y4,n,hx,h0,h1,h2,h3,h4⟩:=Ew Tryz.underlying228 Tryz.cellsForm hd0;simp only[Rows.laid_tidegauge_wave_forms,DataW.agg.injEq,List.cons.injEq] at hx;obtain⟨e0,e1,e2,e3,e4,-⟩:=hx;have c0:=o8 h0 e0.symm;have c1:=o8 h1 e1.symm;have c2:=o8 h2 e2.symm;have c3:=o8 h3 e3.symm;have c4:=o8 h4 e4.symm;have key:∀ i j,i<5->j<4->cs0.toList[i*4+j]? = gP[i*4+j]?:=by
  intro i j hi hj;rcases (by omega:i=0\/i=1\/i=2\/i=3\/i=4) with rfl | rfl | rfl | rfl | rfl
  ·rw[jq _ 0 j hj _ c0];rcases (by omega:j=0\/j=1\/j=2\/j=3) with rfl | rfl | rfl | rfl<;>rfl
  ·rw[jq _ 1 j hj _ c1];rcases (by omega:j=0\/j=1\/j=2\/j=3) with rfl | rfl | rfl | rfl<;>rfl
  ·rw[jq _ 2 j hj _ c2];rcases (by omega:j=0\/j=1\/j=2\/j=3) with rfl | rfl | rfl | rfl<;>rfl
  ·rw[jq _ 3 j hj _ c3];rcases (by omega:j=0\/j=1\/j=2\/j=3) with rfl | rfl | rfl | rfl<;>rfl
  ·rw[jq _ 4 j hj _ c4];rcases (by omega:j=0\/j=1\/j=2\/j=3) with rfl | rfl | rfl | rfl<;>rfl
 intro i hi;rw[hcell i];have:=key (i / 4) (i % 4) (by omega) (by omega);rw[show i / 4*4+i % 4=i by omega] at this;simpa using this
end Go.Proofs.YtnonoiafongllaaGreatDoor
namespace Go.Proofs.YtnonoiafongllaaGreatDoor
open Go.ChangeShapes Go.WideShapes Go.ChangeAt Go.RowKit Go.Deep
theorem Tryz.cellsU8:Tryz.prog.cellsOf 5=1:=by kernel_rfl
theorem mapM_at {α β:Type} (f:α->Option β):∀ (l:List α) (ys:List β),l.mapM f=some ys->ys.length=l.length/\∀ i (hi:i<l.length) (hj:i<ys.length),f l[i]=some ys[i]
 | [],ys,h=>by
  simp at h;subst h;exact⟨rfl,fun i hi=>absurd hi (by simp)⟩
 | a::r,ys,h=>by
  rw[List.mapM_cons] at h;cases ha:f a with
  | none=>rw[ha] at h;cases h
  | some b=>
   cases hr:r.mapM f with
   | none=>rw[ha,hr] at h;cases h
   | some zs=>
    rw[ha,hr] at h;have e:b::zs=ys:=by simpa using h
    subst e;obtain⟨h1,h2⟩:=mapM_at f r zs hr;refine⟨by simp[h1],fun i hi hj=>?_⟩;cases i with
    | zero=>exact ha
    | succ i=>exact h2 i (by simpa using hi) (by simpa using hj)
theorem Es {H:Type} {enc:TypeId×Value->H} {P:Program} {W:World} {base:Nat} {sp:Nat->Bool} {hd:Bool} {t e:TypeId} {N fuel:Nat} {cs:List Value} {x:DataW H×List MemPlace} (ht:P.underlying t=some (.array N e)) (hce:P.cellsOf e=1)
  (h:DataW.trod enc P W base sp hd fuel t cs=some x) :
  ∃ (ys:List (DataW H×List MemPlace)) (n:Nat),x.1 = .agg (ys.map (·.1))/\ys.length=N/\∀ i (_:i<N) (hj:i<ys.length),DataW.trod enc P W base sp hd n e ((cs.drop i).take 1)=some ys[i]:=by
 cases fuel with
 | zero=>simp[DataW.trod] at h
 | succ n=>
  unfold DataW.trod at h;rw[ht] at h;simp only[hce] at h;split at h
  ·cases hm:(List.range N).mapM (fun i=>DataW.trod enc P W base sp hd n e ((cs.drop (i*1)).take 1)) with
   | none=>rw[hm] at h;cases h
   | some ys=>
    rw[hm] at h;have e1:((DataW.agg (ys.map (·.1)),ys.flatMap (·.2)):DataW H×List MemPlace)=x:=by simpa using h
    obtain⟨h1,h2⟩:=mapM_at _ _ _ hm;refine⟨ys,n,by rw[<-e1],by simpa using h1,fun i hi hj=>?_⟩;have:=h2 i (by simpa using hi) hj;simpa using this
  ·cases h
theorem PI {H:Type} {enc:TypeId×Value->H} {W:World} {base:Nat} {sp:Nat->Bool} {hd:Bool} {fuel:Nat} {cs:List Value} {n:Int} {y:DataW H×List MemPlace}
  (h:DataW.trod enc Tryz.prog W base sp hd fuel 5 cs=some y) (hy:y.1 = .lit (.int .u8 n)):cs = [.int .u8 n]:=by
 obtain⟨d,ps⟩:=y;obtain rfl:d=_:=hy;obtain⟨m,rfl,e,_⟩:=DataW.trod_int Tryz.underlying5 h;simp at e;rw[e.1]
def vR:List (DataW Unit):=Lib.deBruijn64tab.map fun (n:Nat)=>.lit (.int .u8 (n:Int))
theorem LW:(Rows.laid_math_bits_deBruijn64tab:DataW Unit) = .agg vR:=by rfl
theorem Ri {W:World} {r:List (String×DataW Unit)} (h:laidMet Tryz.prog (("math/bits.deBruijn64tab",Rows.laid_math_bits_deBruijn64tab)::r) W):Tab W:=by
 obtain⟨ps,⟨g0,t0,cs0,f0,p0,q0,hg0,ht0,hv0,hd0,_,e0⟩,_,hrows⟩:=h;obtain rfl:=Option.some.inj ((show Tryz.prog.globalNamed "math/bits.deBruijn64tab" = some 13 by kernel_rfl).symm.trans hg0);obtain rfl:=Option.some.inj ((show (Tryz.prog.globals[13]?).map (·.type)=some 234 by kernel_rfl).symm.trans ht0);have hcell:=fun i=>World.var?_cell hg0 hv0 i
 obtain⟨ys,n,hx,hlen,hat⟩:=Es Tryz.underlying234 Tryz.cellsU8 hd0;rw[LW] at hx;have hx':vR=ys.map (·.1):=by simpa using hx
 have hl:Lib.deBruijn64tab.length=64:=by rfl
 intro j hj;have Rf:j<64:=by omega
 have hy:=hat j Rf (by omega);have hyv:(ys[j]'(by omega)).1 = .lit (.int .u8 ((Lib.deBruijn64tab.getD j 0:Nat):Int)):=by
  have h1:(ys.map (·.1))[j]? = vR[j]?:=by rw[hx']
  rw[List.getElem?_map,List.getElem?_eq_getElem (by omega)] at h1;unfold vR at h1;rw[List.getElem?_map,List.getElem?_eq_getElem hj] at h1;simp at h1;rw[h1];simp[hj]
 have hc:=PI hy hyv;rw[hcell j];have h2:((cs0.toList.drop j).take 1)[0]? = cs0.toList[j]?:=by rw[List.getElem?_take_of_lt (by omega),List.getElem?_drop];simp
 rw[hc] at h2;simpa using h2.symm
end Go.Proofs.YtnonoiafongllaaGreatDoor
namespace Go.Proofs.YtnonoiafongllaaGreatDoor
open Go.ChangeShapes Go.WideShapes Go.ChangeAt Go.RowKit Go.Deep
def jf:List (String×DataW Unit):=("math/bits.deBruijn64tab",Rows.laid_math_bits_deBruijn64tab)::("errors.errorType",Rows.laid_errors_errorType)::(Cc ++ [("tidegauge/wave.forms",Rows.laid_tidegauge_wave_forms)])
theorem Ey {W:World} (h:laidMetH Tryz.prog jf W):laidMet Tryz.prog (("math/bits.deBruijn64tab",Rows.laid_math_bits_deBruijn64tab)::(Cc ++ [("tidegauge/wave.forms",Rows.laid_tidegauge_wave_forms)])) W/\handlesMet Tryz.prog [("errors.errorType",Rows.laid_errors_errorType)] W:=by
 have e1:(jf.filter fun x=>x.2.handleName?.isNone)=("math/bits.deBruijn64tab",Rows.laid_math_bits_deBruijn64tab)::(Cc ++ [("tidegauge/wave.forms",Rows.laid_tidegauge_wave_forms)]):=by kernel_rfl
 have e2:(jf.filter fun x=>x.2.handleName?.isSome) = [("errors.errorType",Rows.laid_errors_errorType)]:=by kernel_rfl
 have h':=laidMetH_iff.1 h;rw[e1,e2] at h';exact h'
theorem Gm (os:Os) (args:Array Value):laidMetH Tryz.prog jf ((World.doorLaid Tryz.prog 400 os).forCall (fun _ _=>0) ⟨#[],args,[]⟩).memory:=
 laidMetH_of_parts3 (fuel:=8) (laidMet_of_run' 8 (by kernel_rfl) (by kernel_rfl)) (by kernel_rfl) (by kernel_rfl)
end Go.Proofs.YtnonoiafongllaaGreatDoor
namespace Go.Proofs.YtnonoiafongllaaGreatDoor
open Go.ChangeShapes Go.WideShapes Go.ChangeAt Go.RowKit Go.Deep Go.Maps
theorem wQ {H:Type} {P:Program} {e:TypeId}:∀ {l:List (DataW H)} {d:DataW H},d∈l->∀ {z:Nat},z∈d.weights P e->z∈DataW.weightsAll P e l
 | [],_,h,_,_=>absurd h List.not_mem_nil
 | c::r,d,h,z,hz=>by
  rw[DataW.weightsAll];rcases List.mem_cons.1 h with rfl | h
  ·exact List.mem_append.2 (.inl hz)
  ·exact List.mem_append.2 (.inr (wQ h hz))
theorem BH {H:Type} {P:Program} {t e:TypeId} (hu:P.underlying t=some (.slice e)) {l s:List (DataW H)} {d:DataW H} (hd:d∈l) {z:Nat} (hz:z∈d.weights P e):z∈(DataW.slice l s).weights P t:=by
 rw[DataW.weights,hu];exact List.mem_cons.2 (.inr (List.mem_append.2 (.inl (wQ hd hz))))
theorem En {H:Type} {P:Program} {t e:TypeId} (hu:P.underlying t=some (.slice e)) {l s:List (DataW H)}:(l.length+s.length)*P.bytesOf e∈(DataW.slice l s).weights P t:=by
 rw[DataW.weights,hu];exact List.mem_cons.2 (.inl rfl)
end Go.Proofs.YtnonoiafongllaaGreatDoor
namespace Go.Proofs.YtnonoiafongllaaGreatDoor
open Go Go.Conc Px Go.ChangeShapes Go.WideShapes Go.ChangeAt Go.RowKit Go.Deep
set_option maxRecDepth 100000
theorem add_block (a:Addr) (n:Nat):(a.add n).block=a.block:=by unfold Addr.add;split<;>rfl
theorem LJ {H:Type} {enc:TypeId×Value->H} {W:World} {hd:Bool} {fuel:Nat} {t e:TypeId} {a:Option Addr} {len cap:Nat} {x:DataW H×List MemPlace}
  (ht:Tryz.prog.underlying t=some (.slice e)) (he:Tryz.prog.cellsOf e≠0) (h:DataW.trod enc Tryz.prog W 0 (fun _=>true) hd fuel t [.slice a len cap]=some x) :
  ∀ ad,a=some ad->(∃ xs u z,W.heap[ad.block]? = some (.cells xs u z))\/(len=0/\cap=0):=by
 rcases open_slice ht h with⟨hcs,_⟩|⟨b,l,c,m,n,D,Pl,hcs,_,hl,_,hm,_,hx⟩
 ·simp at hcs;obtain⟨rfl,rfl,rfl⟩:=hcs;intro ad h;cases h
 ·simp at hcs;obtain⟨rfl,rfl,rfl⟩:=hcs;intro ad had;cases had;by_cases h0:cap=0
  ·exact .inr ⟨by omega,h0⟩
  ·obtain⟨cs',h1,_⟩:=hx 0 (by rw[hm];simp;omega);obtain⟨_,h2,h3⟩:=World.cells?_some h1;have h4:=h3 0 (by omega);obtain⟨v,hv⟩:∃ v,cs'[0]? = some v:=⟨cs'[0]'(by omega),by simp⟩;rw[hv] at h4;obtain⟨_,xs,u,z,h5⟩:=tu h4;rw[add_block,add_block] at h5;exact .inl ⟨xs,u,z,h5⟩
theorem Q7 {H:Type} {enc:TypeId×Value->H} {W:World} {hd:Bool} {fuel:Nat} {a:Option Addr} {len cap:Nat} {x:DataW H×List MemPlace}
  (h:DataW.trod enc Tryz.prog W 0 (fun _=>true) hd fuel 22 [.slice a len cap]=some x) (hw:∀ n,n∈x.1.weights Tryz.prog 22->n<=reachBytes) :
  ∃ la nn cc T B,sW W a len la nn cc T B/\∀ i,i<len->∀ ad,la i=some ad->(∃ xs u z,W.heap[ad.block]? = some (.cells xs u z))\/(nn i=0/\cc i=0):=by
 have hrb:=reachBytes_lt;have cp:Tryz.prog.cellsOf 24=1:=by kernel_rfl
 rcases open_slice Tryz.underlying22 h with⟨hcs,_⟩|⟨b,l,c,m,n,D,Pl,hcs,_,hl,_,hm,hxe,hx⟩
 ·simp at hcs;obtain⟨_,rfl,_⟩:=hcs;exact⟨fun _=>none,fun _=>0,fun _=>0,fun _ _=>0,fun _ _=>0,fun i hi=>absurd hi (Nat.not_lt_zero _),fun i hi=>absurd hi (Nat.not_lt_zero _)⟩
 ·simp at hcs;obtain⟨rfl,rfl,rfl⟩:=hcs;have hlm:len<=m:=by rw[hm];split<;>omega
  obtain⟨bb,oo,spot⟩:=b;have each:∀ i,i<len->∃ q:Option Addr×Nat×Nat×(Nat->Int)×(Nat->Nat),W.cell? ((⟨bb,oo,spot⟩:Addr).add i)=some (.slice q.1 q.2.1 q.2.2.1)/\gB W q.1 q.2.1 q.2.2.2.1 q.2.2.2.2/\q.2.1<=10000000000000 /\
    ∀ ad,q.1=some ad->(∃ xs u z,W.heap[ad.block]? = some (.cells xs u z))\/(q.2.1=0/\q.2.2.1=0):=by
   intro i hi;obtain⟨cs',h1,h2⟩:=hx i (by omega);rw[cp] at h1;obtain⟨_,hlen,hcell⟩:=World.cells?_some h1;have hwi:∀ z,z∈(D i).weights Tryz.prog 24->z<=reachBytes:=fun z hz=>hw z (by
    rw[hxe];exact BH Tryz.underlying22 (List.mem_map.2 ⟨i,List.mem_range.2 hi,rfl⟩) hz)
   match cs',hlen with
   | [v1],_=>
    obtain⟨a',l',c',hv⟩:∃ a' l' c',v1 = .slice a' l' c':=by
     rcases open_slice Tryz.underlying24 h2 with⟨hcs,_⟩|⟨b',l',c',m',n',D',Pl',hcs,_⟩
     ·simp at hcs;exact⟨_,_,_,hcs⟩
     ·simp at hcs;exact⟨_,_,_,hcs⟩
    subst hv;obtain⟨T,B,hT⟩:=I7 h2;have hw1:l'*16<=reachBytes:=by
     rcases open_slice Tryz.underlying24 h2 with⟨hcs,_⟩|⟨b2,l2,c2,m2,n2,D2,Pl2,hcs,_,hl2,_,hm2,hye,_⟩
     ·simp at hcs;rw[hcs.2.1];exact Nat.zero_le _
     ·simp at hcs;have UD:=congrArg Prod.fst hye;simp only at UD;have hmem:=hwi (((List.range l2).map D2).length+((List.range (m2-l2)).map fun j=>D2 (l2+j)).length |> fun z=>z*Tryz.prog.bytesOf 55) (by
       rw[UD];exact En Tryz.underlying24)
      have YE:Tryz.prog.bytesOf 55=16:=by kernel_rfl
      simp only[YE,List.length_map,List.length_range] at hmem;have:l'=l2:=hcs.2.1;omega
    have d0:=hcell 0 (by omega);rw[add_add] at d0;exact⟨(a',l',c',T,B),by simpa using d0,hT,by show l'<=_;omega,LJ Tryz.underlying24 (by rw[show Tryz.prog.cellsOf 55=2 by kernel_rfl];decide) h2⟩
  obtain⟨q,hq⟩:=choose_lt each;refine⟨fun i=>(q i).1,fun i=>(q i).2.1,fun i=>(q i).2.2.1,fun i=>(q i).2.2.2.1,fun i=>(q i).2.2.2.2,fun i hi=>?_,fun i hi=>(hq i hi).2.2.2⟩;have hspot:spot=none:=by
   have h3:=World.cell?_spot (hq 0 (by omega)).1;simpa [Addr.add] using h3
  subst hspot;refine⟨⟨bb,oo,rfl,?_⟩,(hq i hi).2.1,(hq i hi).2.2.1⟩;rw[<-(hq i hi).1];unfold Addr.add;split<;>simp_all
theorem Ob:((List.range 14).map fun g=>(((begin Tryz.prog (fun _ _=>0) default).world.heap[g]?).bind Obj.row?).map fun x=>x.1.size) = [some 1,some 1,some 1,some 1,some 1,some 1,some 1,some 1,some 1,some 1,some 1,some 1,some 20,some 64]:=by kernel_rfl
theorem Q8 (P:Program):(begin P (fun _ _=>0) default).world.heap[P.globals.size]? = some (.cells ((Array.range P.types.size).map fun t=>.int .u64 (Int.ofNat t)) 0):=by
 have h:∀ (a:Array Obj) (x y z u v:Obj),a.size=P.globals.size->(((((a.push x).push y).push z).push u).push v)[P.globals.size]? = some x:=by
  intro a x y z u v h;rw[<-h];simp only[Array.getElem?_push,Array.size_push];rw[if_neg (by omega),if_neg (by omega),if_neg (by omega),if_neg (by omega)];simp
 exact h _ _ _ _ _ _ (by simp)
theorem Oc (P:Program):(begin P (fun _ _=>0) default).world.heap.size=P.globals.size+5:=by
 simp[begin]
theorem Tryz.nglob:Tryz.prog.globals.size=14:=by kernel_rfl
def tF:List Nat:=[1,1,1,1,1,1,1,1,1,1,1,1,20,64]
theorem F6 {W:World} (hS:World.ShapedOpen Tryz.prog W) {g s:Nat} (hg:tF[g]? = some s):∃ cs t,W.heap[g]? = some (.cells cs t (0,0))/\cs.size=s:=by
 have hl:g<14:=by
  have:=(List.getElem?_eq_some_iff.1 hg).1;simpa [tF] using this
 have h1:=congrArg (fun l=>l[g]?) Ob;have h2:([some 1,some 1,some 1,some 1,some 1,some 1,some 1,some 1,some 1,some 1,some 1,some 1,some 20,some 64]:List (Option Nat))[g]? = some (some s):=by
  have e:([some 1,some 1,some 1,some 1,some 1,some 1,some 1,some 1,some 1,some 1,some 1,some 1,some 20,some 64]:List (Option Nat))=tF.map some:=rfl;rw[e,List.getElem?_map,hg];rfl
 rw[h2,List.getElem?_map,List.getElem?_range hl] at h1;have h3:(((begin Tryz.prog (fun _ _=>0) default).world.heap[g]?).bind Obj.row?).map (fun x=>x.1.size)=some s:=Option.some.inj h1;generalize hr:((begin Tryz.prog (fun _ _=>0) default).world.heap[g]?).bind Obj.row? = r at h3;cases r with
 | none=>cases h3
 | some p=>
  obtain⟨zero,t⟩:=p;obtain⟨cs,e,hs,_⟩:=hS.1 g zero t (by rw[Tryz.nglob];exact hl) hr;exact⟨cs,t,e,hs.trans (Option.some.inj h3)⟩
theorem F7 {W:World} (hS:World.ShapedOpen Tryz.prog W):W.heap[14]? = some (.cells ((Array.range Tryz.prog.types.size).map fun t=>.int .u64 (Int.ofNat t)) 0):=by
 have hb:=Q8 Tryz.prog;obtain⟨o,o0,h1,h2,h3⟩:=hS.2 Tryz.prog.globals.size (Nat.le_refl _) (by rw[Oc];omega);rw[hb] at h2;cases h2;rw[Nat.sub_self] at h3;rw[if_neg (show ¬ World.looseAt 0=true by decide)] at h3;subst h3;rw[Tryz.nglob] at h1;exact h1
def isInt:Value->Bool
 | .int _ _=>true
 | _=>false
theorem Od {l:List Value} (h:l.all isInt=true) {i:Nat} {v:Value} (e:l[i]? = some v):∃ k n,v = .int k n:=by
 have:=List.all_eq_true.1 h v (List.mem_of_getElem? e);cases v<;>first | exact⟨_,_,rfl⟩ | cases this
theorem Oe {W:World} {g:Nat} {xs:Array Value} {t:TypeId} {fr:Nat×Nat} (h:W.heap[g]? = some (.cells xs t fr)) (i:Nat):W.cell? ⟨g,i,none⟩=xs[i]?:=by simp[World.cell?,h]
theorem Em {W:World} (hS:World.ShapedOpen Tryz.prog W) {ea:Nat->Addr} (E:Env W.heap.size ea W) (hF:Forms W) (hT:Tab W) {b:Nat} (hb:b<=14) {xs:Array Value} {t:TypeId} {fr:Nat×Nat} (h:W.heap[b]? = some (.cells xs t fr)) {i:Nat} {v:Value} (hv:xs[i]? = some v) :
  (∃ k,k<11/\v = .iface 235 (.pointer (some (ea k))))\/v = .iface 192 (.agg #[.pointer (some ⟨14,28,none⟩)])\/∃ k n,v = .int k n:=by
 have sz:∀ s,tF[b]? = some s->i<s:=fun s hs=>by
  obtain⟨cs,t',e,hz⟩:=F6 hS hs;rw[h] at e;cases e;rw[<-hz];exact (Array.getElem?_eq_some_iff.1 hv).1
 have hc:W.cell? ⟨b,i,none⟩=some v:=(Oe h i).trans hv;have one:tF[b]? = some 1->∀ u,W.cell? ⟨b,0,none⟩=some u->v=u:=fun hs u hu=>by
  obtain rfl:i=0:=by have:=sz _ hs;omega
  exact Option.some.inj (hc.symm.trans hu)
 match b,hb,sz,hc,one,h with
 | 0,_,_,_,one,_=>exact .inl ⟨_,by decide,one rfl _ E.c0⟩
 | 1,_,_,_,one,_=>exact .inl ⟨_,by decide,one rfl _ E.c8⟩
 | 2,_,_,_,one,_=>exact .inl ⟨_,by decide,one rfl _ E.c2⟩
 | 3,_,_,_,one,_=>exact .inl ⟨_,by decide,one rfl _ E.c1⟩
 | 4,_,_,_,one,_=>exact .inl ⟨_,by decide,one rfl _ E.c3⟩
 | 5,_,_,_,one,_=>exact .inl ⟨_,by decide,one rfl _ E.c4⟩
 | 6,_,_,_,one,_=>exact .inl ⟨_,by decide,one rfl _ E.c5⟩
 | 7,_,_,_,one,_=>exact .inl ⟨_,by decide,one rfl _ E.c6⟩
 | 8,_,_,_,one,_=>exact .inl ⟨_,by decide,one rfl _ E.c7⟩
 | 9,_,_,_,one,_=>exact .inl ⟨_,by decide,one rfl _ E.c9⟩
 | 10,_,_,_,one,_=>exact .inl ⟨_,by decide,one rfl _ E.c10⟩
 | 11,_,_,_,one,_=>exact .inr (.inl (one rfl _ E.typ))
 | 12,_,sz,hc,_,_=>
  have h1:=hF i (sz _ rfl);exact .inr (.inr (Od (l:=gP) (by kernel_rfl) (h1.symm.trans hc)))
 | 13,_,sz,hc,_,_=>
  have h1:=hT i (sz _ rfl);exact .inr (.inr ⟨_,_,Option.some.inj (hc.symm.trans h1)⟩)
 | 14,_,_,_,_,h=>
  rw[F7 hS] at h;cases h;rw[Array.getElem?_map] at hv;cases hr:(Array.range Tryz.prog.types.size)[i]? with
  | none=>rw[hr] at hv;cases hv
  | some u=>rw[hr] at hv;exact .inr (.inr ⟨_,_,(Option.some.inj hv).symm⟩)
 | b+15,hb,_,_,_,_=>omega
theorem LK {W:World} (hS:World.ShapedOpen Tryz.prog W) {b:Nat} (hb:b<=14):∃ xs t fr,W.heap[b]? = some (.cells xs t fr):=by
 by_cases h:b=14
 ·subst h;exact⟨_,_,_,F7 hS⟩
 ·have hl:b<tF.length:=by simp[tF];omega
  obtain⟨cs,t,e,_⟩:=F6 hS (List.getElem?_eq_getElem hl);exact⟨_,_,_,e⟩
def Xg (ea:Nat->Addr):Nat->Prop:=fun b=>b<=14\/∃ i,i<11/\b=(ea i).block
def I6 (W:World):Nat->Prop:=fun b=>b<W.heap.size/\¬ ∃ xs t fr,W.heap[b]? = some (.cells xs t fr)
theorem Q9 {W:World} (hS:World.ShapedOpen Tryz.prog W) {ea:Nat->Addr} (E:Env W.heap.size ea W) (hs:∀ i,i<11->∃ s:ByteArray,W.cell? (ea i)=some (.string s)) (hF:Forms W) (hT:Tab W):eG W.heap.size (Xg ea) W (I6 W) ea:=by
 have rd:∀ b,(∃ xs t fr,W.heap[b]? = some (.cells xs t fr))->b<W.heap.size/\aY W (I6 W) b:=fun b h=>by
  obtain⟨xs,t,fr,e⟩:=h;have hl:=(Array.getElem?_eq_some_iff.1 e).1;exact⟨hl,hl,fun hs=>hs.2 ⟨xs,t,fr,e⟩,xs,t,fr,e⟩
 have YF:∀ i,i<11->14<(ea i).block:=fun i hi=>by
  refine Nat.lt_of_not_le fun hle=>?_
  obtain⟨s,hc⟩:=hs i hi;obtain⟨c,t,e⟩:=E.blk i hi;have hsp:=World.cell?_spot hc;have h2:c[(ea i).off]? = some (.string s):=by
   rw[<-hc];simp[World.cell?,e,hsp]
  rcases Em hS E hF hT hle e h2 with⟨_,_,h⟩ | h | ⟨_,_,h⟩<;>cases h
 have kk:∀ b,Xg ea b->b<W.heap.size/\aY W (I6 W) b:=by
  rintro b (hb | ⟨i,hi,rfl⟩)
  ·exact rd b (LK hS hb)
  ·obtain⟨c,t,e⟩:=E.blk i hi;exact rd _ ⟨_,_,_,e⟩
 exact
  {sw:=fun b h=>h.1
   zl:=Nat.le_refl _
   cl:=fun b hb=>(Classical.em (∃ xs t fr,W.heap[b]? = some (.cells xs t fr))).elim (fun h=>.inr (rd b h).2) fun h=>.inl ⟨hb,h⟩
   kk:=kk
   Pp:=fun b xs t fr _ hb e i v hv=>by
    rcases Em hS E hF hT hb e hv with⟨k,hk,rfl⟩ | rfl | ⟨_,_,rfl⟩
    ·exact .iface _ (.ptr (.inr ⟨k,hk,rfl⟩))
    ·exact Ef (.inl (Nat.le_refl _))
    ·exact .int _ _
   ke:=by
    rintro b ⟨hb | ⟨i,hi,rfl⟩,h14⟩
    ·omega
    ·obtain⟨c,t,e⟩:=E.blk i hi;refine⟨c,t,e,fun h0=>?_⟩;obtain⟨s,hc⟩:=hs i hi;have hsp:=World.cell?_spot hc;have h2:c[(ea i).off]? = some (.string s):=by
      rw[<-hc];simp[World.cell?,e,hsp]
     have:=(Array.getElem?_eq_some_iff.1 h2).1;omega
   oC:=fun g hg=>.inl (by have:=Pw hg;omega)
   Av:=fun g hg=>.inl (by
    have h:g ∈ [2,3,7,8,12,13]:=by simpa [qO,OO] using hg
    simp only[List.mem_cons,List.not_mem_nil,or_false] at h;omega)
   kG:=.inl (Nat.le_refl _)
   LA:=fun i hi=>.inr ⟨i,hi,rfl⟩
   Pt:=fun i hi=>⟨.inr ⟨i,hi,rfl⟩,YF i hi⟩
   env:=E
   forms:=hF
   tab:=hT }
end Go.Proofs.YtnonoiafongllaaGreatDoor
