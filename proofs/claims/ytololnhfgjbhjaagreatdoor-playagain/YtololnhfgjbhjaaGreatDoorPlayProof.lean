/- Proved: tidegaugelaw3.PlayAgain returns true for every two lists of numbers, and leaves its arguments and memory as they were, wherever the package variables that its row lists hold what the program's own initialisers lay (the tied card of the law PlayAgain). -/
import Derived.Test.YtololnhfgjbhjaaGreatDoorPlMain
import Derived.Test.YtololnhfgjbhjaaGreatDoorTie
import Derived.Test.YtololnhfgjbhjaaGreatDoorCards
import Derived.Test.YtololnhfgjbhjaaGreatDoorLaid
set_option maxRecDepth 100000
set_option maxHeartbeats 4000000
open Go.Proofs.Tryz
namespace Go.Proofs.YtololnhfgjbhjaaGreatDoor
open Go.ChangeShapes Go.WideShapes Go.ChangeAt Go.RowKit
theorem Tryz.cellsForm:prog.cellsOf 293=4:=by kernel_rfl
theorem Tryz.cellsInt:prog.cellsOf 3=1:=by kernel_rfl
theorem Tryz.cellsU64:prog.cellsOf 34=1:=by kernel_rfl
theorem CG{H:Type}{enc:TypeId×Value->H}{W:World}{base:Nat}{sp:Nat->Bool}{hd:Bool}{fuel:Nat}{t:TypeId}{k:IntKind}{cs:List Value}{n:Int}{ps:List MemPlace}
  (ht:prog.underlying t=some (.int k)) (h:DataW.trod enc prog W base sp hd fuel t cs=some (.lit (.int k n),ps)):cs = [.int k n]:=by
 obtain⟨m,rfl,e,_⟩:=DataW.trod_int ht h;simp at e;rw[e.1]
theorem abJ{α:Type}{l:List α}(h:l.length=4):∃a b c d,l = [a,b,c,d]:=by
 match l,h with
 | [a,b,c,d],_=>exact⟨a,b,c,d,rfl⟩
theorem Rt{H:Type}{enc:TypeId×Value->H}{P:Program}{W:World}{base:Nat}{sp:Nat->Bool}{hd:Bool}{t e:TypeId}{fuel:Nat}{cs:List Value}{x:DataW H×List MemPlace}(ht:P.underlying t=some (.array 5 e))(hce:P.cellsOf e=4)
  (h:DataW.trod enc P W base sp hd fuel t cs=some x) :
  ∃y0 y1 y2 y3 y4 n,x.1 = .agg [y0.1,y1.1,y2.1,y3.1,y4.1]/\DataW.trod enc P W base sp hd n e ((cs.drop (0*4)).take 4)=some y0/\DataW.trod enc P W base sp hd n e ((cs.drop (1*4)).take 4)=some y1/\DataW.trod enc P W base sp hd n e ((cs.drop (2*4)).take 4)=some y2/\DataW.trod enc P W base sp hd n e ((cs.drop (3*4)).take 4)=some y3/\DataW.trod enc P W base sp hd n e ((cs.drop (4*4)).take 4)=some y4:=by
 cases fuel with
 | zero=>simp[DataW.trod] at h
 | succ n=>
  unfold DataW.trod at h;rw[ht] at h;have r5:List.range 5 = [0,1,2,3,4]:=rfl;simp only[r5,hce,List.mapM_cons,List.mapM_nil] at h;split at h
  ·generalize h0:DataW.trod enc P W base sp hd n e ((cs.drop (0*4)).take 4)=o0 at h;generalize h1:DataW.trod enc P W base sp hd n e ((cs.drop (1*4)).take 4)=o1 at h;generalize h2:DataW.trod enc P W base sp hd n e ((cs.drop (2*4)).take 4)=o2 at h;generalize h3:DataW.trod enc P W base sp hd n e ((cs.drop (3*4)).take 4)=o3 at h;generalize h4:DataW.trod enc P W base sp hd n e ((cs.drop (4*4)).take 4)=o4 at h;cases o0 with
   | none=>simp at h
   | some y0=>
    cases o1 with
    | none=>simp at h
    | some y1=>
     cases o2 with
     | none=>simp at h
     | some y2=>
      cases o3 with
      | none=>simp at h
      | some y3=>
       cases o4 with
       | none=>simp at h
       | some y4=>
        simp at h;exact⟨y0,y1,y2,y3,y4,n,by rw[<-h],h0,h1,h2,h3,h4⟩
  ·cases h
theorem zu{H:Type}{enc:TypeId×Value->H}{W:World}{base:Nat}{sp:Nat->Bool}{hd:Bool}{fuel:Nat}{cs:List Value}{m a wd sh:Int}{y:DataW H×List MemPlace}
  (h:DataW.trod enc prog W base sp hd fuel 293 cs=some y) (hy:y.1 = .agg [.lit (.int .u64 m),.lit (.int .i64 a),.lit (.int .i64 wd),.lit (.int .i64 sh)]):cs = [.int .u64 m,.int .i64 a,.int .i64 wd,.int .i64 sh]:=by
 obtain⟨xs,n,-,rfl,hl,ϐ,hf⟩:=DataW.trod_struct underlying293 h;rw[Tryz.cellsForm] at hl;obtain⟨c0,c1,c2,c3,rfl⟩:=abJ hl;obtain⟨y0,y1,y2,y3,rfl⟩:=abJ ϐ;simp at hy;obtain⟨e0,e1,e2,e3⟩:=hy;have f0:=hf 0 _ rfl;have f1:=hf 1 _ rfl;have f2:=hf 2 _ rfl;have f3:=hf 3 _ rfl;simp[Tryz.cellsInt,Tryz.cellsU64] at f0 f1 f2 f3;obtain⟨d0,p0⟩:=y0;obtain⟨d1,p1⟩:=y1;obtain⟨d2,p2⟩:=y2;obtain⟨d3,p3⟩:=y3;simp only at e0 e1 e2 e3;subst e0 e1 e2 e3;have g0:=CG underlying34 f0;have g1:=CG underlying3 f1;have g2:=CG underlying3 f2;have g3:=CG underlying3 f3;simp at g0 g1 g2 g3;rw[g0,g1,g2,g3]
theorem pO(l:List Value)(i j:Nat)(h:j<4)(v:List Value)(hv:(l.drop (i*4)).take 4=v):l[i*4+j]? = v[j]?:=by
 rw[<-hv,List.getElem?_take_of_lt h,List.getElem?_drop]
theorem ZN{W:World}{r:List (String×DataW Unit)}(h:laidMet prog (("tidegauge/wave.forms",Rows.laid_tidegauge_wave_forms)::r) W):Forms W:=by
 obtain⟨ps,⟨g0,t0,cs0,f0,p0,q0,Ķ,Ě,À,hd0,_,e0⟩,_,hrows⟩:=h;obtain rfl:=Option.some.inj ((show prog.globalNamed "tidegauge/wave.forms" = some 13 by kernel_rfl).symm.trans Ķ);obtain rfl:=Option.some.inj ((show (prog.globals[13]?).map (·.type)=some 327 by kernel_rfl).symm.trans Ě);have ϡ:=λi=>World.var?_cell Ķ À i
 obtain⟨y0,y1,y2,y3,y4,n,hx,h0,h1,h2,h3,h4⟩:=Rt underlying327 Tryz.cellsForm hd0;simp only[Rows.laid_tidegauge_wave_forms,DataW.agg.injEq,List.cons.injEq] at hx;obtain⟨e0,e1,e2,e3,e4,-⟩:=hx;have c0:=zu h0 e0.symm;have c1:=zu h1 e1.symm;have c2:=zu h2 e2.symm;have c3:=zu h3 e3.symm;have c4:=zu h4 e4.symm;have key:∀i j,i<5->j<4->cs0.toList[i*4+j]? = ED[i*4+j]?:=by
  intro i j hi hj;rcases (by omega:i=0\/i=1\/i=2\/i=3\/i=4) with rfl|rfl|rfl|rfl|rfl
  ·rw[pO _ 0 j hj _ c0];rcases (by omega:j=0\/j=1\/j=2\/j=3) with rfl|rfl|rfl|rfl<;>rfl
  ·rw[pO _ 1 j hj _ c1];rcases (by omega:j=0\/j=1\/j=2\/j=3) with rfl|rfl|rfl|rfl<;>rfl
  ·rw[pO _ 2 j hj _ c2];rcases (by omega:j=0\/j=1\/j=2\/j=3) with rfl|rfl|rfl|rfl<;>rfl
  ·rw[pO _ 3 j hj _ c3];rcases (by omega:j=0\/j=1\/j=2\/j=3) with rfl|rfl|rfl|rfl<;>rfl
  ·rw[pO _ 4 j hj _ c4];rcases (by omega:j=0\/j=1\/j=2\/j=3) with rfl|rfl|rfl|rfl<;>rfl
 intro i hi;rw[ϡ i];have:=key (i / 4) (i % 4) (by omega) (by omega);rw[show i / 4*4+i % 4=i by omega] at this;simpa using this
open Go.Deep
theorem Tryz.cellsU8:prog.cellsOf 5=1:=by kernel_rfl
theorem mapM_at{α β:Type}(f:α->Option β):∀(l:List α) (ys:List β),l.mapM f=some ys->ys.length=l.length/\∀i (hi:i<l.length) (hj:i<ys.length),f l[i]=some ys[i]
 | [],ys,h=>by
  simp at h;subst h;exact⟨rfl,λi hi=>absurd hi (by simp)⟩
 | a::r,ys,h=>by
  rw[List.mapM_cons] at h;cases ha:f a with
  | none=>rw[ha] at h;cases h
  | some b=>
   cases hr:r.mapM f with
   | none=>rw[ha,hr] at h;cases h
   | some zs=>
    rw[ha,hr] at h;have e:b::zs=ys:=by simpa using h
    subst e;obtain⟨h1,h2⟩:=mapM_at f r zs hr;refine⟨by simp[h1],λi hi hj=>?_⟩;cases i with
    | zero=>exact ha
    | succ i=>exact h2 i (by simpa using hi) (by simpa using hj)
theorem Rm{H:Type}{enc:TypeId×Value->H}{P:Program}{W:World}{base:Nat}{sp:Nat->Bool}{hd:Bool}{t e:TypeId}{N fuel:Nat}{cs:List Value}{x:DataW H×List MemPlace}(ht:P.underlying t=some (.array N e))(hce:P.cellsOf e=1)
  (h:DataW.trod enc P W base sp hd fuel t cs=some x) :
  ∃(ys:List (DataW H×List MemPlace)) (n:Nat),x.1 = .agg (ys.map (·.1))/\ys.length=N/\∀i (_:i<N) (hj:i<ys.length),DataW.trod enc P W base sp hd n e ((cs.drop i).take 1)=some ys[i]:=by
 cases fuel with
 | zero=>simp[DataW.trod] at h
 | succ n=>
  unfold DataW.trod at h;rw[ht] at h;simp only[hce] at h;split at h
  ·cases hm:(List.range N).mapM (λi=>DataW.trod enc P W base sp hd n e ((cs.drop (i*1)).take 1)) with
   | none=>rw[hm] at h;cases h
   | some ys=>
    rw[hm] at h;have e1:((DataW.agg (ys.map (·.1)),ys.flatMap (·.2)):DataW H×List MemPlace)=x:=by simpa using h
    obtain⟨h1,h2⟩:=mapM_at _ _ _ hm;refine⟨ys,n,by rw[<-e1],by simpa using h1,λi hi hj=>?_⟩;have:=h2 i (by simpa using hi) hj;simpa using this
  ·cases h
theorem adp{H:Type}{enc:TypeId×Value->H}{W:World}{base:Nat}{sp:Nat->Bool}{hd:Bool}{fuel:Nat}{cs:List Value}{n:Int}{y:DataW H×List MemPlace}
  (h:DataW.trod enc prog W base sp hd fuel 5 cs=some y) (hy:y.1 = .lit (.int .u8 n)):cs = [.int .u8 n]:=by
 obtain⟨d,ps⟩:=y;obtain rfl:d=_:=hy;obtain⟨m,rfl,e,_⟩:=DataW.trod_int underlying5 h;simp at e;rw[e.1]
def Gi:List (DataW Unit):=Lib.deBruijn64tab.map λ(n:Nat)=>.lit (.int .u8 (n:Int))
theorem ZG:(Rows.laid_math_bits_deBruijn64tab:DataW Unit) = .agg Gi:=by rfl
theorem aep{W:World}{r:List (String×DataW Unit)}(h:laidMet prog (("math/bits.deBruijn64tab",Rows.laid_math_bits_deBruijn64tab)::r) W):Tab W:=by
 obtain⟨ps,⟨g0,t0,cs0,f0,p0,q0,Ķ,Ě,À,hd0,_,e0⟩,_,hrows⟩:=h;obtain rfl:=Option.some.inj ((show prog.globalNamed "math/bits.deBruijn64tab" = some 17 by kernel_rfl).symm.trans Ķ);obtain rfl:=Option.some.inj ((show (prog.globals[17]?).map (·.type)=some 351 by kernel_rfl).symm.trans Ě);have ϡ:=λi=>World.var?_cell Ķ À i
 obtain⟨ys,n,hx,ϐ,Ϲ⟩:=Rm underlying351 Tryz.cellsU8 hd0;rw[ZG] at hx;have hx':Gi=ys.map (·.1):=by simpa using hx
 have hl:Lib.deBruijn64tab.length=64:=by rfl
 intro j hj;have ael:j<64:=by omega
 have hy:=Ϲ j ael (by omega);have hyv:(ys[j]'(by omega)).1 = .lit (.int .u8 ((Lib.deBruijn64tab.getD j 0:Nat):Int)):=by
  have h1:(ys.map (·.1))[j]? = Gi[j]?:=by rw[hx']
  rw[List.getElem?_map,List.getElem?_eq_getElem (by omega)] at h1;unfold Gi at h1;rw[List.getElem?_map,List.getElem?_eq_getElem hj] at h1;simp at h1;rw[h1];simp[hj]
 have hc:=adp hy hyv;rw[ϡ j];have h2:((cs0.toList.drop j).take 1)[0]? = cs0.toList[j]?:=by rw[List.getElem?_take_of_lt (by omega),List.getElem?_drop];simp
 rw[hc] at h2;simpa using h2.symm
theorem aeg{W:World}{r:List (String×DataW Unit)}(h:laidMet prog (("internal/strconv.uint64pow10",Rows.laid_internal_strconv_uint64pow10)::r) W):Lib.TabIs prog W "internal/strconv.uint64pow10" .u64 Lib.pow10Tab:=by
 have e:(Rows.laid_internal_strconv_uint64pow10:DataW Unit)=Lib.tabData .u64 Lib.pow10Tab:=by rfl
 rw[e] at h;exact Lib.tabIs_of_head (g:=14) (t:=345) (e:=34) (n:=20) (by kernel_rfl) (by kernel_rfl) underlying345 underlying34 (by kernel_rfl) (by kernel_rfl) h
def tX:List (String×DataW Unit):=("math/bits.deBruijn32tab",Rows.laid_math_bits_deBruijn32tab)::("math/bits.deBruijn64tab",Rows.laid_math_bits_deBruijn64tab)::("internal/strconv.uint64pow10",Rows.laid_internal_strconv_uint64pow10)::("errors.errorType",Rows.laid_errors_errorType)::("strconv.ErrRange",Rows.laid_strconv_ErrRange)::("strconv.ErrSyntax",Rows.laid_strconv_ErrSyntax)::(TR ++ [("tidegauge/wave.forms",Rows.laid_tidegauge_wave_forms)])
theorem QW{W:World}(h:laidMetH prog tX W):∃ea,ahH W.heap.size ea W/\Env W.heap.size ea W:=by
 have e1:(tX.filter λx=>x.2.handleName?.isNone)=("math/bits.deBruijn32tab",Rows.laid_math_bits_deBruijn32tab)::("math/bits.deBruijn64tab",Rows.laid_math_bits_deBruijn64tab)::("internal/strconv.uint64pow10",Rows.laid_internal_strconv_uint64pow10)::("strconv.ErrRange",Rows.laid_strconv_ErrRange)::("strconv.ErrSyntax",Rows.laid_strconv_ErrSyntax)::(TR ++ [("tidegauge/wave.forms",Rows.laid_tidegauge_wave_forms)]):=by kernel_rfl
 have e2:(tX.filter λx=>x.2.handleName?.isSome) = [("errors.errorType",Rows.laid_errors_errorType)]:=by kernel_rfl
 have h':=laidMetH_iff.1 h;rw[e1,e2] at h';obtain⟨hL,hH⟩:=h';have ht:=Lx hH;have Ï:11<W.heap.size:=World.block_lt_of_cell? W ⟨11,0,none⟩ ht;have hT:=aep hL.tail;have hP:=aeg hL.tail.tail;have hL:=hL.tail.tail.tail;clear h e1 e2;obtain⟨ar,sr,cr,dr,xr,pr,hL⟩:=iD hL (g:=16) (by kernel_rfl) (by kernel_rfl) underlying26 Tryz.rowES underlying352 underlying354 rfl rfl underlying9 Tryz.cellsES Tryz.cellsStr;obtain⟨ay,sy,cy,dy,xy,py,hL⟩:=iD hL (g:=15) (by kernel_rfl) (by kernel_rfl) underlying26 Tryz.rowES underlying352 underlying354 rfl rfl underlying9 Tryz.cellsES Tryz.cellsStr;obtain⟨⟨ea,E⟩,hF0⟩:=Oi hL hH;have hF:=ZN hF0;have lt:∀ {g:Nat} {v:Value},W.cell? ⟨g,0,none⟩=some v->g<W.heap.size:=fun {g v} h=>World.block_lt_of_cell? W ⟨g,0,none⟩ h
 refine⟨ea,⟨⟨E.c1,E.c2,E.c3,E.c4,E.c10,λg hg=>?_⟩,⟨⟨⟨E.c0,E.c1,E.c2,E.c3,E.c4,E.c6,E.c7,λg hg=>?_⟩,⟨E.c0,E.c1,E.c2,E.c3,E.c4,E.c6,E.c9,hT,Lib.tabBelow_of_tabIs hP,⟨⟨_,_,cy⟩,⟨_,_,cr⟩⟩,?_⟩⟩,⟨⟨E.c0,E.c1,E.c4,E.c7,E.c8,ht,Ï⟩,E.c2,E.c3,hF,hT,hF.lt,hT.lt⟩⟩⟩,E⟩
 ·simp only[List.mem_cons,List.not_mem_nil,or_false] at hg;rcases hg with rfl|rfl|rfl|rfl|rfl
  ·exact lt E.c1
  ·exact lt E.c2
  ·exact lt E.c3
  ·exact lt E.c4
  ·exact lt E.c10
 ·simp only[List.mem_cons,List.not_mem_nil,or_false] at hg;rcases hg with rfl|rfl|rfl|rfl|rfl|rfl|rfl
  ·exact lt E.c0
  ·exact lt E.c1
  ·exact lt E.c2
  ·exact lt E.c3
  ·exact lt E.c4
  ·exact lt E.c6
  ·exact lt E.c7
 ·exact⟨lt E.c0,lt E.c1,lt E.c2,lt E.c3,lt E.c4,lt E.c6,lt E.c9,hT.lt,lt cy,lt cr⟩
theorem Zh(os:Os)(args:Array Value):laidMetH prog tX ((World.doorLaid prog 400 os).forCall (λ_ _=>0) ⟨#[],args,[]⟩).memory:=
 laidMetH_of_parts3 (fuel:=8) (laidMet_of_run' 8 (by kernel_rfl) (by kernel_rfl)) (by kernel_rfl) (by kernel_rfl)
theorem Jm(os:Os)(started:os.Started)(H:Type)(enc:TypeId×Value->H):
  ReturnsInHanded {} Tryz.checked os 4 .any (λw args=>(Rows.playAgainSpec.pre enc prog Tryz.f4 [] false w args/\laidMetH prog tX w)/\sizedMet enc prog Tryz.f4 (OpenSpec.ofChange Rows.playAgainSpec) false w args)
   (Rows.playAgainSpec.post enc prog Tryz.f4 false true false false):=by
 refine returnsInHanded_of_change_and (C:=Tryz.checked) (X:=λw _=>laidMetH prog tX w) (λ_ _ _ hh h=>h.of_heap hh) Tryz.own started (by kernel_rfl) func4
  (ChangeSpec.witness_shaped (enc:=enc) (C:=Tryz.checked) (os:=os) (X:=λw _=>laidMetH prog tX w) false (World.doorLaid prog 400 os) #[.slice none 0 0,.slice none 0 0] 8 rfl (World.shaped_of_RefB (by kernel_rfl) (by kernel_rfl)) (by kernel_rfl) (by kernel_rfl) (by kernel_rfl) (Zh os _)) ?_
 intro W base args ds gs before hval0 hW _ _ hL _;have Ĭ:∀(j:Nat) t v,Tryz.f4.params[j]? = some t->args[j]? = some v->Value.okWide prog W .any base t v:=hval0;have hW':=hW;obtain⟨p,q,hA0,hV,rfl,hfz,ű⟩:=hW;have hA:DataW.TrodAll enc prog W 0 (λ_=>true) true Tryz.f4.params.toList args.toList ds p:=hA0;rw[Tryz.params4] at hA Ĭ;obtain⟨v0,vs0,d0,ds0,p0,q0,hargs,rfl,rfl,h0,r0⟩:=trodAll_cons hA;obtain⟨v1,vs1,d1,ds1,p1,q1,rfl,rfl,rfl,h1,r1⟩:=trodAll_cons r0;obtain⟨rfl,rfl,rfl⟩:=trodAll_nil r1;obtain rfl:args=#[v0,v1]:=by cases args;simp_all
 obtain⟨rfl,rfl⟩:=trodVars_none hV;obtain⟨a0,amn,cap0,rfl⟩:=okWide_slice underlying55 (Ĭ 0 55 v0 rfl rfl);obtain⟨a1,len1,qh,rfl⟩:=okWide_slice underlying55 (Ĭ 1 55 v1 rfl rfl);have k0:=h0;have k1:=h1;have lt0:∀x∈p0,x.block<W.heap.size:=by obtain⟨m,hm⟩:=k0;exact DataW.trod_lt m _ _ _ hm
 have lt1:∀x∈p1,x.block<W.heap.size:=by obtain⟨m,hm⟩:=k1;exact DataW.trod_lt m _ _ _ hm
 obtain⟨aot,hf0⟩:=h0;obtain⟨fuel1,Ò⟩:=h1;simp only[Value.cells] at hf0 Ò;obtain⟨G0,hI0,hG0⟩:=Sm hf0;have l0:=WI underlying55 hf0;obtain⟨G1,Χ,hG1⟩:=Sm Ò;have l1:=WI underlying55 Ò;obtain⟨ea,EZ,E⟩:=QW hL;have kc1:=ahY underlying55 Ò;clear hA0 hval0;refine (Sb W EZ E (Nat.le_refl _) a0 amn cap0 G0 hI0 hG0 l0 a1 len1 qh G1 Χ hG1 l1 kc1).mono λe W' ⟨he,aI⟩=>?_
 subst he;exact⟨_,rfl,_,_,_,[],_,[],hW',trodAll_mk1 (shut_bool underlying4 _),(trodAll_cons_mk (Below.trod Tryz.laidOut (by kernel_rfl) (of_decide_eq_true (by kernel_rfl)) k0 aI lt0) (trodAll_cons_mk (Below.trod Tryz.laidOut (by kernel_rfl) (of_decide_eq_true (by kernel_rfl)) k1 aI lt1) trodAll_mk0)),rfl,aI.frame _,λh=>by cases h⟩
theorem KI:joinedFacts prog 4 Tryz.f4 Rows.playAgainSpec Rows.playAgainRow=true:=by
 unfold joinedFacts;repeat' (with_reducible refine Bool.and_eq_true_iff.2 ⟨?_,?_⟩)
 all_goals (as_aux_lemma=>kernel_rfl)
theorem KJ:Rows.PlayAgainSaid:=
 OpenClaim.holds_of_wide 4 Tryz.f4 rfl rfl rfl rfl rfl rfl rfl ⟨rfl,rfl,rfl,rfl,rfl⟩ rfl rfl rfl rfl rfl (by as_aux_lemma=>kernel_rfl) func4 KI
  (of_decide_eq_true (by as_aux_lemma=>kernel_rfl)) (by unfold Func.isWrapper;rw[if_neg (of_decide_eq_false (by as_aux_lemma=>kernel_rfl))];exact⟨rfl,rfl⟩)
  (λos started H enc _=>Jm os started H enc)
theorem playAgain_card:Rows.PlayAgainCardSaid:=
 Claim7.holds_tied_plain_at .later [] _ _ _ _
  KJ (λ_ h=>by cases h) (by as_aux_lemma=>kernel_rfl) (λ_ h=>by cases h) playAgain_row_tie rfl ⟨rfl,rfl⟩ (by as_aux_lemma=>kernel_rfl) rfl
  (λf fn hf ϴ=>by
   obtain rfl:f=4:=Option.some.inj ((show prog.funcNamed "tidegauge/tidegaugelaw3.PlayAgain" = some 4 by as_aux_lemma=>kernel_rfl).symm.trans hf) |>.symm;obtain rfl:fn=Tryz.f4:=(Option.some.inj (func4.symm.trans ϴ)).symm;exact⟨by as_aux_lemma=>kernel_rfl,λj t ht=>by
    rw[Tryz.params4] at ht;have h3:t=55\/t=55:=by
     rcases j with _|_|j
     ·exact .inl (by simpa using ht.symm)
     ·exact .inr (by simpa using ht.symm)
     ·simp at ht
    rcases h3 with rfl|rfl
    ·exact (show prog.wantsStandIn 55=false by as_aux_lemma=>kernel_rfl)
    ·exact (show prog.wantsStandIn 55=false by as_aux_lemma=>kernel_rfl)⟩)
  (by as_aux_lemma=>kernel_rfl)
#print axioms playAgain_card
end Go.Proofs.YtololnhfgjbhjaaGreatDoor
