/- Proved: tidegaugelaw2.BlockMakes returns true for every two numbers, every list of rows, every text and every two numbers, and leaves its arguments and memory as they were, wherever the package variables that its row lists hold what the program's own initialisers lay (the tied card of the law BlockMakes). -/
import Derived.Test.YtcemkhalbjhdkaaGreatDoorMksMain
import Derived.ChangeMaps5
import Derived.Shelf.Vars
import Derived.Test.YtcemkhalbjhdkaaGreatDoorArgsIn
import Derived.Test.YtcemkhalbjhdkaaGreatDoorTie
import Derived.Test.YtcemkhalbjhdkaaGreatDoorCards
import Derived.SevenTiedAt
import Derived.Test.YtcemkhalbjhdkaaGreatDoorBlkTxtGroup
import Derived.Lib.LaidTab
import Derived.Lay
import Derived.Test.YtcemkhalbjhdkaaGreatDoorErrAsGroup
import Derived.Test.YtcemkhalbjhdkaaGreatDoorLaid
import Derived.Test.YtcemkhalbjhdkaaGreatDoorMaskLibGroup
import Derived.Test.YtcemkhalbjhdkaaGreatDoorRows1Group
import Derived.Test.YtcemkhalbjhdkaaGreatDoorRowsDef
import Derived.Lib.SmallJoins
import Derived.SizedLaws
namespace Go.Proofs.YtcemkhalbjhdkaaGreatDoor
open Go.ChangeShapes Go.WideShapes Go.ChangeAt Go.RowKit Go.Deep
theorem RZ {H:Type} {enc:TypeId×Value->H} {W:World} {sp:Nat->Bool} {hd:Bool} {fuel:Nat} {a:Option Addr} {len cap:Nat} {x:DataW H×List MemPlace}
  (h:DataW.trod enc Tryz.prog W 0 sp hd fuel 48 [.slice a len cap]=some x):∃ T B,lZ W a len T B:=by
 rcases open_slice_pairs Tryz.underlying48 Tryz.underlying67 (by kernel_rfl) rfl rfl (by kernel_rfl) (by kernel_rfl) h with⟨hcs,_⟩|⟨b,l,c,m,n,V0,V1,D0,D1,P0,P1,hcs,_,hl,_,hm,_,hx⟩
 ·simp at hcs;obtain⟨_,rfl,_⟩:=hcs;exact⟨fun _=>0,fun _=>0,.inl rfl⟩
 ·simp at hcs;obtain⟨rfl,rfl,rfl⟩:=hcs;by_cases h0:len=0
  ·exact⟨fun _=>0,fun _=>0,.inl h0⟩
  ·have hlm:len<=m:=by rw[hm];split<;>omega
   obtain⟨bb,oo,spot⟩:=b;have hspot:spot=none:=by
    have:=(hx 0 (by omega)).1;simpa [Addr.add] using World.cell?_spot this
   subst hspot;have e0:∀ i,i<len->∃ u:Int,V0 i = .int .i64 u /\ -9223372036854775808<=u/\u<=9223372036854775807:=by
    intro i hi;obtain⟨u,e,_,hu⟩:=DataW.trod_int Tryz.underlying3 (hx i (by omega)).2.2.1;exact⟨u,by simpa using e,bounds_i64 hu⟩
   have e1:∀ i,i<len->∃ u:Nat,V1 i = .int .u64 (u:Int)/\u<18446744073709551616:=by
    intro i hi;obtain⟨u,e,_,hu⟩:=DataW.trod_int Tryz.underlying65 (hx i (by omega)).2.2.2;have hb:=bounds_u64 hu;refine⟨u.toNat,?_,by omega⟩;rw[Int.toNat_of_nonneg hb.1];simpa using e
   obtain⟨T,hT⟩:=choose_lt e0;obtain⟨B,hB⟩:=choose_lt e1;refine⟨T,B,.inr ⟨bb,oo,rfl,fun k hk=>?_⟩⟩;have hk':=hx k (by omega);refine⟨?_,?_,(hT k hk).2.1,(hT k hk).2.2,(hB k hk).2⟩
   ·rw[<-(hT k hk).1,<-hk'.1];simp[Addr.add];split<;>simp_all
   ·rw[<-(hB k hk).1,<-hk'.2.1];simp[Addr.add,Nat.add_assoc]
end Go.Proofs.YtcemkhalbjhdkaaGreatDoor
set_option maxRecDepth 100000
namespace Go.Proofs.YtcemkhalbjhdkaaGreatDoor
open Go.ChangeShapes Go.WideShapes Go.ChangeAt Go.RowKit Go.Deep Go.Maps
theorem Dv {H:Type} {P:Program} {e:TypeId}:∀ {l:List (DataW H)} {d:DataW H},d∈l->∀ {z:Nat},z∈d.weights P e->z∈DataW.weightsAll P e l
 | [],_,h,_,_=>absurd h List.not_mem_nil
 | c::r,d,h,z,hz=>by
  rw[DataW.weightsAll];rcases List.mem_cons.1 h with rfl | h
  ·exact List.mem_append.2 (.inl hz)
  ·exact List.mem_append.2 (.inr (Dv h hz))
theorem IX {H:Type} {P:Program} {t e:TypeId} (hu:P.underlying t=some (.slice e)) {l s:List (DataW H)} {d:DataW H} (hd:d∈l) {z:Nat} (hz:z∈d.weights P e):z∈(DataW.slice l s).weights P t:=by
 rw[DataW.weights,hu];exact List.mem_cons.2 (.inr (List.mem_append.2 (.inl (Dv hd hz))))
theorem MI {H:Type} {P:Program} {t e:TypeId} (hu:P.underlying t=some (.slice e)) {l s:List (DataW H)}:(l.length+s.length)*P.bytesOf e∈(DataW.slice l s).weights P t:=by
 rw[DataW.weights,hu];exact List.mem_cons.2 (.inl rfl)
theorem BZ {H:Type} {P:Program} {t:TypeId} {f0 f1:Field} (hu:P.underlying t=some (.struct #[f0,f1])) {d e:DataW H}:(DataW.agg [d,e]).weights P t=d.weights P f0.type++e.weights P f1.type:=by
 rw[DataW.weights,hu];simp[DataW.weightsEach]
theorem Xx {H:Type} {enc:TypeId×Value->H} {W:World} {sp:Nat->Bool} {hd:Bool} {fuel:Nat} {a:Option Addr} {len cap:Nat} {x:DataW H×List MemPlace}
  (h:DataW.trod enc Tryz.prog W 0 sp hd fuel 41 [.slice a len cap]=some x) (hw:∀ n,n∈x.1.weights Tryz.prog 41->n<=reachBytes):∃ rows:List (List UInt8×List (Int×Nat)),rows.length=len/\lW W a rows/\∀ r,r∈rows->jO r.2/\(r.2.length:Int)<=140737488355328/\(r.1.length:Int)<=140737488355328:=by
 have hrb:=reachBytes_lt;have ce:Tryz.prog.cellsOf 69=2:=by kernel_rfl
 have cp:Tryz.prog.cellsOf 48=1:=by kernel_rfl
 have cs1:Tryz.prog.cellsOf 9=1:=by kernel_rfl
 rcases open_slice Tryz.underlying41 h with⟨hcs,_⟩|⟨b,l,c,m,n,D,Pl,hcs,_,hl,_,hm,hxe,hx⟩
 ·simp at hcs;obtain⟨_,rfl,_⟩:=hcs;exact⟨[],rfl,.inl rfl,fun r hr=>absurd hr List.not_mem_nil⟩
 ·simp at hcs;obtain⟨rfl,rfl,rfl⟩:=hcs;by_cases h0:len=0
  ·exact⟨[],h0.symm,.inl rfl,fun r hr=>absurd hr List.not_mem_nil⟩
  ·have hlm:len<=m:=by rw[hm];split<;>omega
   obtain⟨bb,oo,spot⟩:=b;have each:∀ i,i<len->∃ q:List UInt8×List (Int×Nat)×Option Addr×Nat,W.cell? ((⟨bb,oo,spot⟩:Addr).add (i*2))=some (encStr q.1)/\W.cell? ((⟨bb,oo,spot⟩:Addr).add (i*2+1))=some (.slice q.2.2.1 q.2.1.length q.2.2.2)/\gM W q.2.2.1 q.2.1/\jO q.2.1/\(q.2.1.length:Int)<=140737488355328/\(q.1.length:Int)<=140737488355328:=by
    intro i hi;obtain⟨cs',h1,h2⟩:=hx i (by omega);rw[ce] at h1;obtain⟨_,hlen,hcell⟩:=World.cells?_some h1;obtain⟨y0,y1,k,hDe,_,g0,g1⟩:=trod_struct2 Tryz.underlying69 h2;have hwi:∀ z,z∈(D i).weights Tryz.prog 69->z<=reachBytes:=fun z hz=>hw z (by
     rw[hxe];exact IX Tryz.underlying41 (List.mem_map.2 ⟨i,List.mem_range.2 hi,rfl⟩) hz)
    have hDi:D i = .agg [y0.1,y1.1]:=congrArg Prod.fst hDe;rw[hDi] at hwi;match cs',hlen with
    | [v0,v1],_=>
     have g0':DataW.trod enc Tryz.prog W 0 sp hd k 9 [v0]=some y0:=by simpa [cs1] using g0
     have g1':DataW.trod enc Tryz.prog W 0 sp hd k 48 [v1]=some y1:=by simpa [cs1,cp] using g1
     obtain⟨s0,e0,hy0⟩:=DataW.trod_string Tryz.underlying9 g0';obtain⟨a',l',c',hv⟩:∃ a' l' c',v1 = .slice a' l' c':=by
      rcases open_slice Tryz.underlying48 g1' with⟨hcs,_⟩|⟨b',l',c',m',n',D',Pl',hcs,_⟩
      ·simp at hcs;exact⟨_,_,_,hcs⟩
      ·simp at hcs;exact⟨_,_,_,hcs⟩
     subst hv;obtain⟨T,B,hT⟩:=RZ g1';obtain⟨p1,p2,p3⟩:=WL hT;have hw1:l'*16<=reachBytes:=by
      rcases open_slice Tryz.underlying48 g1' with⟨hcs,_⟩|⟨b2,l2,c2,m2,n2,D2,Pl2,hcs,_,hl2,_,hm2,hye,_⟩
      ·simp at hcs;rw[hcs.2.1];exact Nat.zero_le _
      ·simp at hcs;have hmem:=hwi (((List.range l2).map D2).length+((List.range (m2-l2)).map fun j=>D2 (l2+j)).length |> fun z=>z*Tryz.prog.bytesOf 67) (by
        rw[BZ Tryz.underlying69,hye];exact List.mem_append.2 (.inr (MI Tryz.underlying48)))
       have Lj:Tryz.prog.bytesOf 67=16:=by kernel_rfl
       simp only[Lj,List.length_map,List.length_range] at hmem;have:l'=l2:=hcs.2.1;omega
     have hw0:s0.data.toList.length<=reachBytes:=hwi _ (by
      rw[BZ Tryz.underlying69,hy0.1];exact List.mem_append.2 (.inl (by simp[DataW.weights])))
     have d0:=hcell 0 (by omega);have d1:=hcell 1 (by omega);rw[add_add] at d0 d1;simp at e0;subst e0;refine⟨(s0.data.toList,eY T B l',a',c'),by simpa [encStr] using d0,by show _=some (Value.slice a' (eY T B l').length c');rw[p3];simpa using d1,p1,p2,by show ((eY T B l').length:Int)<=_;rw[p3];omega,by show (s0.data.toList.length:Int)<=_;omega⟩
   obtain⟨q,hq⟩:=choose_lt each;have hspot:spot=none:=by
    have:=(hq 0 (by omega)).1;simpa [Addr.add] using World.cell?_spot this
   subst hspot;refine⟨(List.range len).map fun i=>((q i).1,(q i).2.1),by simp,.inr ⟨bb,oo,rfl,fun k hk=>?_⟩,fun r hr=>?_⟩
   ·have hk':k<len:=by simpa using hk
    obtain⟨a0,a1,a2,_⟩:=hq k hk';have e:((List.range len).map fun i=>((q i).1,(q i).2.1))[k]=((q k).1,(q k).2.1):=by simp
    rw[e];refine⟨?_,(q k).2.2.1,(q k).2.2.2,?_,a2⟩
    ·rw[<-a0];simp[Addr.add];split<;>simp_all
    ·rw[<-a1];simp[Addr.add,Nat.add_assoc]
   ·obtain⟨i,hi,rfl⟩:=List.mem_map.1 hr;exact⟨(hq i (by simpa using hi)).2.2.2.1,(hq i (by simpa using hi)).2.2.2.2.1,(hq i (by simpa using hi)).2.2.2.2.2⟩
end Go.Proofs.YtcemkhalbjhdkaaGreatDoor
namespace Go.Proofs.YtcemkhalbjhdkaaGreatDoor
open Go.ChangeShapes Go.WideShapes Go.ChangeAt Go.RowKit
theorem Tryz.cellsForm:Tryz.prog.cellsOf 270=4:=by kernel_rfl
theorem Tryz.cellsInt:Tryz.prog.cellsOf 3=1:=by kernel_rfl
theorem Tryz.cellsU64:Tryz.prog.cellsOf 65=1:=by kernel_rfl
theorem zq {H:Type} {enc:TypeId×Value->H} {W:World} {base:Nat} {sp:Nat->Bool} {hd:Bool} {fuel:Nat} {t:TypeId} {k:IntKind} {cs:List Value} {n:Int} {ps:List MemPlace}
  (ht:Tryz.prog.underlying t=some (.int k)) (h:DataW.trod enc Tryz.prog W base sp hd fuel t cs=some (.lit (.int k n),ps)):cs = [.int k n]:=by
 obtain⟨m,rfl,e,_⟩:=DataW.trod_int ht h;simp at e;rw[e.1]
theorem Vi {α:Type} {l:List α} (h:l.length=4):∃ a b c d,l = [a,b,c,d]:=by
 match l,h with
 | [a,b,c,d],_=>exact⟨a,b,c,d,rfl⟩
theorem Ma {H:Type} {enc:TypeId×Value->H} {P:Program} {W:World} {base:Nat} {sp:Nat->Bool} {hd:Bool} {t e:TypeId} {fuel:Nat} {cs:List Value} {x:DataW H×List MemPlace} (ht:P.underlying t=some (.array 5 e)) (hce:P.cellsOf e=4)
  (h:DataW.trod enc P W base sp hd fuel t cs=some x) :
  ∃ y0 y1 y2 y3 y4 n,x.1 = .agg [y0.1,y1.1,y2.1,y3.1,y4.1]/\DataW.trod enc P W base sp hd n e ((cs.drop (0*4)).take 4)=some y0/\DataW.trod enc P W base sp hd n e ((cs.drop (1*4)).take 4)=some y1/\DataW.trod enc P W base sp hd n e ((cs.drop (2*4)).take 4)=some y2/\DataW.trod enc P W base sp hd n e ((cs.drop (3*4)).take 4)=some y3/\DataW.trod enc P W base sp hd n e ((cs.drop (4*4)).take 4)=some y4:=by
 cases fuel with
 | zero=>simp[DataW.trod] at h
 | succ n=>
  unfold DataW.trod at h;rw[ht] at h;have r5:List.range 5 = [0,1,2,3,4]:=rfl;simp only[r5,hce,List.mapM_cons,List.mapM_nil] at h;split at h
  ·generalize h0:DataW.trod enc P W base sp hd n e ((cs.drop (0*4)).take 4)=o0 at h;generalize h1:DataW.trod enc P W base sp hd n e ((cs.drop (1*4)).take 4)=o1 at h;generalize h2:DataW.trod enc P W base sp hd n e ((cs.drop (2*4)).take 4)=o2 at h;generalize h3:DataW.trod enc P W base sp hd n e ((cs.drop (3*4)).take 4)=o3 at h;generalize h4:DataW.trod enc P W base sp hd n e ((cs.drop (4*4)).take 4)=o4 at h;cases o0 with
   | none=>simp at h
   | some y0=>
    cases o1 with
    | none=>simp at h
    | some y1=>
     cases o2 with
     | none=>simp at h
     | some y2=>
      cases o3 with
      | none=>simp at h
      | some y3=>
       cases o4 with
       | none=>simp at h
       | some y4=>
        simp at h;exact⟨y0,y1,y2,y3,y4,n,by rw[<-h],h0,h1,h2,h3,h4⟩
  ·cases h
theorem wC {H:Type} {enc:TypeId×Value->H} {W:World} {base:Nat} {sp:Nat->Bool} {hd:Bool} {fuel:Nat} {cs:List Value} {m a wd sh:Int} {y:DataW H×List MemPlace}
  (h:DataW.trod enc Tryz.prog W base sp hd fuel 270 cs=some y) (hy:y.1 = .agg [.lit (.int .u64 m),.lit (.int .i64 a),.lit (.int .i64 wd),.lit (.int .i64 sh)]):cs = [.int .u64 m,.int .i64 a,.int .i64 wd,.int .i64 sh]:=by
 obtain⟨xs,n,-,rfl,hl,hlen,hf⟩:=DataW.trod_struct Tryz.underlying270 h;rw[Tryz.cellsForm] at hl;obtain⟨c0,c1,c2,c3,rfl⟩:=Vi hl;obtain⟨y0,y1,y2,y3,rfl⟩:=Vi hlen;simp at hy;obtain⟨e0,e1,e2,e3⟩:=hy;have f0:=hf 0 _ rfl;have f1:=hf 1 _ rfl;have f2:=hf 2 _ rfl;have f3:=hf 3 _ rfl;simp[Tryz.cellsInt,Tryz.cellsU64] at f0 f1 f2 f3;obtain⟨d0,p0⟩:=y0;obtain⟨d1,p1⟩:=y1;obtain⟨d2,p2⟩:=y2;obtain⟨d3,p3⟩:=y3;simp only at e0 e1 e2 e3;subst e0 e1 e2 e3;have g0:=zq Tryz.underlying65 f0;have g1:=zq Tryz.underlying3 f1;have g2:=zq Tryz.underlying3 f2;have g3:=zq Tryz.underlying3 f3;simp at g0 g1 g2 g3;rw[g0,g1,g2,g3]
theorem mW (l:List Value) (i j:Nat) (h:j<4) (v:List Value) (hv:(l.drop (i*4)).take 4=v):l[i*4+j]? = v[j]?:=by
 rw[<-hv,List.getElem?_take_of_lt h,List.getElem?_drop]
theorem SY {W:World} {r:List (String×DataW Unit)} (h:laidMet Tryz.prog (("tidegauge/wave.forms",Rows.laid_tidegauge_wave_forms)::r) W):Forms W:=by
 obtain⟨ps,⟨g0,t0,cs0,f0,p0,q0,hg0,ht0,hv0,hd0,_,e0⟩,_,hrows⟩:=h;obtain rfl:=Option.some.inj ((show Tryz.prog.globalNamed "tidegauge/wave.forms" = some 18 by kernel_rfl).symm.trans hg0);obtain rfl:=Option.some.inj ((show (Tryz.prog.globals[18]?).map (·.type)=some 296 by kernel_rfl).symm.trans ht0);have hcell:=fun i=>World.var?_cell hg0 hv0 i
 obtain⟨y0,y1,y2,y3,y4,n,hx,h0,h1,h2,h3,h4⟩:=Ma Tryz.underlying296 Tryz.cellsForm hd0;simp only[Rows.laid_tidegauge_wave_forms,DataW.agg.injEq,List.cons.injEq] at hx;obtain⟨e0,e1,e2,e3,e4,-⟩:=hx;have c0:=wC h0 e0.symm;have c1:=wC h1 e1.symm;have c2:=wC h2 e2.symm;have c3:=wC h3 e3.symm;have c4:=wC h4 e4.symm;have key:∀ i j,i<5->j<4->cs0.toList[i*4+j]? = AV[i*4+j]?:=by
  intro i j hi hj;rcases (by omega:i=0\/i=1\/i=2\/i=3\/i=4) with rfl | rfl | rfl | rfl | rfl
  ·rw[mW _ 0 j hj _ c0];rcases (by omega:j=0\/j=1\/j=2\/j=3) with rfl | rfl | rfl | rfl<;>rfl
  ·rw[mW _ 1 j hj _ c1];rcases (by omega:j=0\/j=1\/j=2\/j=3) with rfl | rfl | rfl | rfl<;>rfl
  ·rw[mW _ 2 j hj _ c2];rcases (by omega:j=0\/j=1\/j=2\/j=3) with rfl | rfl | rfl | rfl<;>rfl
  ·rw[mW _ 3 j hj _ c3];rcases (by omega:j=0\/j=1\/j=2\/j=3) with rfl | rfl | rfl | rfl<;>rfl
  ·rw[mW _ 4 j hj _ c4];rcases (by omega:j=0\/j=1\/j=2\/j=3) with rfl | rfl | rfl | rfl<;>rfl
 intro i hi;rw[hcell i];have:=key (i / 4) (i % 4) (by omega) (by omega);rw[show i / 4*4+i % 4=i by omega] at this;simpa using this
end Go.Proofs.YtcemkhalbjhdkaaGreatDoor
namespace Go.Proofs.YtcemkhalbjhdkaaGreatDoor
open Go.ChangeShapes Go.WideShapes Go.ChangeAt Go.RowKit Go.Deep
theorem Tryz.cellsU8:Tryz.prog.cellsOf 5=1:=by kernel_rfl
theorem mapM_at {α β:Type} (f:α->Option β):∀ (l:List α) (ys:List β),l.mapM f=some ys->ys.length=l.length/\∀ i (hi:i<l.length) (hj:i<ys.length),f l[i]=some ys[i]
 | [],ys,h=>by
  simp at h;subst h;exact⟨rfl,fun i hi=>absurd hi (by simp)⟩
 | a::r,ys,h=>by
  rw[List.mapM_cons] at h;cases ha:f a with
  | none=>rw[ha] at h;cases h
  | some b=>
   cases hr:r.mapM f with
   | none=>rw[ha,hr] at h;cases h
   | some zs=>
    rw[ha,hr] at h;have e:b::zs=ys:=by simpa using h
    subst e;obtain⟨h1,h2⟩:=mapM_at f r zs hr;refine⟨by simp[h1],fun i hi hj=>?_⟩;cases i with
    | zero=>exact ha
    | succ i=>exact h2 i (by simpa using hi) (by simpa using hj)
theorem LK {H:Type} {enc:TypeId×Value->H} {P:Program} {W:World} {base:Nat} {sp:Nat->Bool} {hd:Bool} {t e:TypeId} {N fuel:Nat} {cs:List Value} {x:DataW H×List MemPlace} (ht:P.underlying t=some (.array N e)) (hce:P.cellsOf e=1)
  (h:DataW.trod enc P W base sp hd fuel t cs=some x) :
  ∃ (ys:List (DataW H×List MemPlace)) (n:Nat),x.1 = .agg (ys.map (·.1))/\ys.length=N/\∀ i (_:i<N) (hj:i<ys.length),DataW.trod enc P W base sp hd n e ((cs.drop i).take 1)=some ys[i]:=by
 cases fuel with
 | zero=>simp[DataW.trod] at h
 | succ n=>
  unfold DataW.trod at h;rw[ht] at h;simp only[hce] at h;split at h
  ·cases hm:(List.range N).mapM (fun i=>DataW.trod enc P W base sp hd n e ((cs.drop (i*1)).take 1)) with
   | none=>rw[hm] at h;cases h
   | some ys=>
    rw[hm] at h;have e1:((DataW.agg (ys.map (·.1)),ys.flatMap (·.2)):DataW H×List MemPlace)=x:=by simpa using h
    obtain⟨h1,h2⟩:=mapM_at _ _ _ hm;refine⟨ys,n,by rw[<-e1],by simpa using h1,fun i hi hj=>?_⟩;have:=h2 i (by simpa using hi) hj;simpa using this
  ·cases h
theorem WE {H:Type} {enc:TypeId×Value->H} {W:World} {base:Nat} {sp:Nat->Bool} {hd:Bool} {fuel:Nat} {cs:List Value} {n:Int} {y:DataW H×List MemPlace}
  (h:DataW.trod enc Tryz.prog W base sp hd fuel 5 cs=some y) (hy:y.1 = .lit (.int .u8 n)):cs = [.int .u8 n]:=by
 obtain⟨d,ps⟩:=y;obtain rfl:d=_:=hy;obtain⟨m,rfl,e,_⟩:=DataW.trod_int Tryz.underlying5 h;simp at e;rw[e.1]
def Ci:List (DataW Unit):=Lib.deBruijn64tab.map fun (n:Nat)=>.lit (.int .u8 (n:Int))
theorem SB:(Rows.laid_math_bits_deBruijn64tab:DataW Unit) = .agg Ci:=by rfl
theorem XM {W:World} {r:List (String×DataW Unit)} (h:laidMet Tryz.prog (("math/bits.deBruijn64tab",Rows.laid_math_bits_deBruijn64tab)::r) W):Tab W:=by
 obtain⟨ps,⟨g0,t0,cs0,f0,p0,q0,hg0,ht0,hv0,hd0,_,e0⟩,_,hrows⟩:=h;obtain rfl:=Option.some.inj ((show Tryz.prog.globalNamed "math/bits.deBruijn64tab" = some 17 by kernel_rfl).symm.trans hg0);obtain rfl:=Option.some.inj ((show (Tryz.prog.globals[17]?).map (·.type)=some 295 by kernel_rfl).symm.trans ht0);have hcell:=fun i=>World.var?_cell hg0 hv0 i
 obtain⟨ys,n,hx,hlen,hat⟩:=LK Tryz.underlying295 Tryz.cellsU8 hd0;rw[SB] at hx;have hx':Ci=ys.map (·.1):=by simpa using hx
 have hl:Lib.deBruijn64tab.length=64:=by rfl
 intro j hj;have XJ:j<64:=by omega
 have hy:=hat j XJ (by omega);have hyv:(ys[j]'(by omega)).1 = .lit (.int .u8 ((Lib.deBruijn64tab.getD j 0:Nat):Int)):=by
  have h1:(ys.map (·.1))[j]? = Ci[j]?:=by rw[hx']
  rw[List.getElem?_map,List.getElem?_eq_getElem (by omega)] at h1;unfold Ci at h1;rw[List.getElem?_map,List.getElem?_eq_getElem hj] at h1;simp at h1;rw[h1];simp[hj]
 have hc:=WE hy hyv;rw[hcell j];have h2:((cs0.toList.drop j).take 1)[0]? = cs0.toList[j]?:=by rw[List.getElem?_take_of_lt (by omega),List.getElem?_drop];simp
 rw[hc] at h2;simpa using h2.symm
end Go.Proofs.YtcemkhalbjhdkaaGreatDoor
namespace Go.Proofs.YtcemkhalbjhdkaaGreatDoor
open Go.ChangeShapes Go.WideShapes Go.ChangeAt Go.RowKit Go.Deep
end Go.Proofs.YtcemkhalbjhdkaaGreatDoor
namespace Go.Proofs.YtcemkhalbjhdkaaGreatDoor
open Go.ChangeShapes Go.WideShapes Go.ChangeAt Go.RowKit Go.Deep
theorem Xr {W:World} {r:List (String×DataW Unit)} (h:laidMet Tryz.prog (("internal/strconv.uint64pow10",Rows.laid_internal_strconv_uint64pow10)::r) W):Lib.TabIs Tryz.prog W "internal/strconv.uint64pow10" .u64 Lib.pow10Tab:=by
 have e:(Rows.laid_internal_strconv_uint64pow10:DataW Unit)=Lib.tabData .u64 Lib.pow10Tab:=by rfl
 rw[e] at h;exact Lib.tabIs_of_head (g:=13) (t:=218) (e:=65) (n:=20) (by kernel_rfl) (by kernel_rfl) Tryz.underlying218 Tryz.underlying65 (by kernel_rfl) (by kernel_rfl) h
theorem Xt {W:World} (h:(∃ ea,Env W.heap.size ea W)/\Forms W/\Tab W):∃ ea,UD W.heap.size ea W:=by
 obtain⟨⟨ea,E⟩,hF,hT⟩:=h;exact⟨ea,E,⟨E.qy,E.c2,E.c3,hF,hT,hF.lt,hT.lt⟩⟩
def wX:List (String×DataW Unit):=("math/bits.deBruijn32tab",Rows.laid_math_bits_deBruijn32tab)::("math/bits.deBruijn64tab",Rows.laid_math_bits_deBruijn64tab)::("internal/strconv.uint64pow10",Rows.laid_internal_strconv_uint64pow10)::("unicode/utf8.acceptRanges",Rows.laid_unicode_utf8_acceptRanges)::("errors.errorType",Rows.laid_errors_errorType)::("strconv.ErrRange",Rows.laid_strconv_ErrRange)::("strconv.ErrSyntax",Rows.laid_strconv_ErrSyntax)::(IZ ++ [("tidegauge/wave.forms",Rows.laid_tidegauge_wave_forms),("unicode/utf8.first",Rows.laid_unicode_utf8_first)])
theorem Pp {W:World} (h:laidMetH Tryz.prog wX W):(∃ ea,UD W.heap.size ea W)/\Lib.TabIs Tryz.prog W "internal/strconv.uint64pow10" .u64 Lib.pow10Tab/\uV W:=by
 have e1:(wX.filter fun x=>x.2.handleName?.isNone)=("math/bits.deBruijn32tab",Rows.laid_math_bits_deBruijn32tab)::("math/bits.deBruijn64tab",Rows.laid_math_bits_deBruijn64tab)::("internal/strconv.uint64pow10",Rows.laid_internal_strconv_uint64pow10)::("unicode/utf8.acceptRanges",Rows.laid_unicode_utf8_acceptRanges)::("strconv.ErrRange",Rows.laid_strconv_ErrRange)::("strconv.ErrSyntax",Rows.laid_strconv_ErrSyntax)::(IZ ++ [("tidegauge/wave.forms",Rows.laid_tidegauge_wave_forms),("unicode/utf8.first",Rows.laid_unicode_utf8_first)]):=by kernel_rfl
 have e2:(wX.filter fun x=>x.2.handleName?.isSome) = [("errors.errorType",Rows.laid_errors_errorType)]:=by kernel_rfl
 have h':=laidMetH_iff.1 h;rw[e1,e2] at h';obtain⟨hL,hH⟩:=h';have hT:=XM hL.tail;have hP:=Xr hL.tail.tail;have hL:=hL.tail.tail.tail.tail;obtain⟨ar,sr,cr,dr,xr,pr,hL⟩:=gJ hL (g:=15) (by kernel_rfl) (by kernel_rfl) Tryz.underlying27 Tryz.rowES Tryz.underlying311 Tryz.underlying313 rfl rfl Tryz.underlying9 Tryz.cellsES Tryz.cellsStr;obtain⟨ay,sy,cy,dy,xy,py,hL⟩:=gJ hL (g:=14) (by kernel_rfl) (by kernel_rfl) Tryz.underlying27 Tryz.rowES Tryz.underlying311 Tryz.underlying313 rfl rfl Tryz.underlying9 Tryz.cellsES Tryz.cellsStr;obtain⟨hE,hr⟩:=Jk hL hH;exact⟨Xt ⟨hE,SY hr,hT⟩,hP,⟨_,_,cy⟩,⟨_,_,cr⟩⟩
noncomputable def Fu (os:Os):World:=(World.doorLaid Tryz.prog 400 os).layVars Tryz.prog [("unicode/utf8.first",Rows.laid_unicode_utf8_first)]
theorem RG (os:Os):(Fu os).os=os:=(World.layVars_os _ _ _).trans rfl
theorem IV (os:Os) (args:Array Value):((Fu os).forCall (fun _ _=>0) ⟨#[],args,[]⟩).Shaped Tryz.prog:=World.shaped_of_RefB (by kernel_rfl) (by kernel_rfl)
theorem Xu (os:Os) (args:Array Value):laidMetH Tryz.prog wX ((Fu os).forCall (fun _ _=>0) ⟨#[],args,[]⟩).memory:=
 laidMetH_of_parts3 (fuel:=8) (laidMet_of_run' 8 (by kernel_rfl) (by kernel_rfl)) (by kernel_rfl) (by kernel_rfl)
end Go.Proofs.YtcemkhalbjhdkaaGreatDoor
set_option maxRecDepth 100000
namespace Go.Proofs.YtcemkhalbjhdkaaGreatDoor
open Go.ChangeShapes Go.WideShapes Go.ChangeAt Go.RowKit Go.Deep
theorem CG (os:Os) (started:os.Started) (H:Type) (enc:TypeId×Value->H) :
  ReturnsInHanded {} Tryz.checked os 4 .any (fun w args=>(Rows.blockMakesSpec.pre enc Tryz.prog Tryz.f4 [] false w args/\laidMetH Tryz.prog wX w)/\sizedMet enc Tryz.prog Tryz.f4 (OpenSpec.ofChange Rows.blockMakesSpec) false w args)
   (Rows.blockMakesSpec.post enc Tryz.prog Tryz.f4 false true false false):=by
 refine returnsInHanded_of_calls Tryz.own started (by kernel_rfl) (ChangeSpec.witness_shaped (enc:=enc) (C:=Tryz.checked) (os:=os) (X:=fun w _=>laidMetH Tryz.prog wX w) false (Fu os) #[.int .i64 0,.int .i64 0,.slice none 0 0,.string ⟨#[]⟩,.int .i64 0,.int .i64 0] 8 (RG os) (IV os _) (by kernel_rfl) (by kernel_rfl) (by kernel_rfl) (Xu os _)) ?_;intro w tape i _ hsh _ hok hpre _;obtain⟨_,_,_,fn',hfn',_,_,_,_,hval0⟩:=hok;obtain rfl:fn'=Tryz.f4:=Option.some.inj (hfn'.symm.trans Tryz.func4);obtain⟨⟨⟨ds,gs,before,hw,_⟩,hx⟩,hz⟩:=hpre;have hW:=DataW.Whole.of_heap (w':=w.forCall tape i) (by rfl) hw;have hwt:=hz.weights hw;have hL:laidMetH Tryz.prog wX (w.forCall tape i):=hx.of_heap (by rfl);suffices hS:Calls Tryz.prog 4 i.args (w.forCall tape i) fun e W'=>∃ v,e = .returned v/\Rows.blockMakesSpec.post enc Tryz.prog Tryz.f4 false true false false (w.forCall tape i) i.args v W' from hS.mono fun e W' ⟨v,he,hp⟩=>by
  subst he;exact ChangeSpec.post_blind hp
 clear hw hx hz hfn';generalize w.heap.size=base at hval0;generalize w.forCall tape i=W at *;generalize i.args=args at *;have hval:∀ (j:Nat) t v,Tryz.f4.params[j]? = some t->args[j]? = some v->Value.okWide Tryz.prog W .any base t v:=hval0;have hW':=hW;obtain⟨p,q,GJ,hV,rfl,hfz,hnd⟩:=hW;have hA:DataW.TrodAll enc Tryz.prog W 0 (fun _=>true) true Tryz.f4.params.toList args.toList ds p:=GJ;rw[Tryz.params4] at hA hval;obtain⟨v0,vs0,d0,ds0,p0,q0,hargs,rfl,rfl,h0,r0⟩:=trodAll_cons hA;obtain⟨v1,vs1,d1,ds1,p1,q1,rfl,rfl,rfl,h1,r1⟩:=trodAll_cons r0;obtain⟨v2,vs2,d2,ds2,p2,q2,rfl,rfl,rfl,h2,r2⟩:=trodAll_cons r1;obtain⟨v3,vs3,d3,ds3,p3,q3,rfl,rfl,rfl,h3,r3⟩:=trodAll_cons r2;obtain⟨v4,vs4,d4,ds4,p4,q4,rfl,rfl,rfl,h4,r4⟩:=trodAll_cons r3;obtain⟨v5,vs5,d5,ds5,p5,q5,rfl,rfl,rfl,h5,r5⟩:=trodAll_cons r4;obtain⟨rfl,rfl,rfl⟩:=trodAll_nil r5;obtain rfl:args=#[v0,v1,v2,v3,v4,v5]:=by cases args;simp_all
 obtain⟨rfl,rfl⟩:=trodVars_none hV;obtain⟨a2,len2,cap2,rfl⟩:=okWide_slice Tryz.underlying41 (hval 2 41 v2 rfl rfl);have k2:=h2;have lt2:∀ x∈p2,x.block<W.heap.size:=by obtain⟨m,hm⟩:=k2;exact DataW.trod_lt m _ _ _ hm
 obtain⟨n0,rfl,rfl,rfl,wn0⟩:=open_int Tryz.underlying3 (hval 0 3 v0 rfl rfl) h0;obtain⟨n1,rfl,rfl,rfl,wn1⟩:=open_int Tryz.underlying3 (hval 1 3 v1 rfl rfl) h1;obtain⟨s3,rfl,rfl,rfl,ws3⟩:=Go.ChangeMaps.open_string Tryz.underlying9 (hval 3 9 v3 rfl rfl) h3;obtain⟨n4,rfl,rfl,rfl,wn4⟩:=open_int Tryz.underlying3 (hval 4 3 v4 rfl rfl) h4;obtain⟨n5,rfl,rfl,rfl,wn5⟩:=open_int Tryz.underlying3 (hval 5 3 v5 rfl rfl) h5;obtain⟨fuel2,hf2⟩:=h2;simp only[Value.cells] at hf2;have w2:∀ n,n∈d2.weights Tryz.prog 41->n<=reachBytes:=fun n hn=>of_decide_eq_true (List.all_eq_true.1 hwt n (DataW.weights_mem_each (j:=2) (t:=41) (by kernel_rfl) rfl n hn))
 obtain⟨R2,hR2,hP2,hQ2⟩:=Xx hf2 w2;have l2:=XL Tryz.underlying41 hf2;obtain⟨⟨ea,E⟩,PZ,Gs⟩:=Pp hL;obtain⟨mx,hMX⟩:=cell_of_shapedOpen_int (g:=12) (t:=3) (zero:=#[.int .i64 0]) hsh (of_decide_eq_true (by kernel_rfl)) (by kernel_rfl) rfl (by kernel_rfl) (by kernel_rfl) Tryz.underlying3;subst hR2;clear GJ hval0;refine (PY W E (Lib.tabBelow_of_tabIs PZ) Gs (Nat.le_refl _) mx hMX n0 n1 a2 cap2 R2 hP2 hQ2 l2 s3 n4 n5).mono fun e W' ⟨he,bq⟩=>?_
 subst he;exact⟨_,rfl,_,_,_,[],_,[],hW',trodAll_mk1 (shut_bool Tryz.underlying4 _),(trodAll_cons_mk (shut_int Tryz.underlying3 wn0) (trodAll_cons_mk (shut_int Tryz.underlying3 wn1) (trodAll_cons_mk (Below.trod Tryz.laidOut (by kernel_rfl) (of_decide_eq_true (by kernel_rfl)) k2 bq lt2) (trodAll_cons_mk (Go.ChangeMaps.shut_string Tryz.underlying9 ws3) (trodAll_cons_mk (shut_int Tryz.underlying3 wn4) (trodAll_cons_mk (shut_int Tryz.underlying3 wn5) trodAll_mk0)))))),rfl,bq.frame _,fun h=>by cases h⟩
theorem Eb:Rows.BlockMakesSaid:=
 OpenClaim.holds_of_wide 4 Tryz.f4 rfl rfl rfl rfl rfl rfl rfl ⟨rfl,rfl,rfl,rfl,rfl⟩ rfl rfl rfl rfl rfl (by kernel_rfl) Tryz.func4 (by kernel_rfl)
  (of_decide_eq_true (by kernel_rfl)) (by unfold Func.isWrapper;rw[if_neg (of_decide_eq_false (by kernel_rfl))];exact⟨rfl,rfl⟩)
  (fun os started H enc _=>CG os started H enc)
theorem blockMakes_card:Rows.BlockMakesCardSaid:=
 Claim7.holds_tied_plain_at .later [] _ _ _ _
  Eb (fun _ h=>by cases h) (by kernel_rfl) (fun _ h=>by cases h) blockMakes_row_tie rfl ⟨rfl,rfl⟩ (by kernel_rfl) rfl
  (fun f fn hf hfn=>by
   obtain rfl:f=4:=Option.some.inj ((show Tryz.prog.funcNamed "tidegauge/tidegaugelaw2.BlockMakes" = some 4 by kernel_rfl).symm.trans hf) |>.symm;obtain rfl:fn=Tryz.f4:=(Option.some.inj (Tryz.func4.symm.trans hfn)).symm;exact⟨by kernel_rfl,fun j t ht=>by
    rw[Tryz.params4] at ht;have h3:t=3\/t=3\/t=41\/t=9\/t=3\/t=3:=by
     rcases j with _ | _ | _ | _ | _ | _ | j
     ·exact .inl (by simpa using ht.symm)
     ·exact .inr (.inl (by simpa using ht.symm))
     ·exact .inr (.inr (.inl (by simpa using ht.symm)))
     ·exact .inr (.inr (.inr (.inl (by simpa using ht.symm))))
     ·exact .inr (.inr (.inr (.inr (.inl (by simpa using ht.symm)))))
     ·exact .inr (.inr (.inr (.inr (.inr (by simpa using ht.symm)))))
     ·simp at ht
    rcases h3 with rfl | rfl | rfl | rfl | rfl | rfl
    ·exact (show Tryz.prog.wantsStandIn 3=false by kernel_rfl)
    ·exact (show Tryz.prog.wantsStandIn 3=false by kernel_rfl)
    ·exact (show Tryz.prog.wantsStandIn 41=false by kernel_rfl)
    ·exact (show Tryz.prog.wantsStandIn 9=false by kernel_rfl)
    ·exact (show Tryz.prog.wantsStandIn 3=false by kernel_rfl)
    ·exact (show Tryz.prog.wantsStandIn 3=false by kernel_rfl)⟩)
  (by kernel_rfl)
#print axioms blockMakes_card
end Go.Proofs.YtcemkhalbjhdkaaGreatDoor
