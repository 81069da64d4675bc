import Derived.Test.YtololnhfgjbhjaaGreatDoorStSelGroup
import Derived.Test.YtololnhfgjbhjaaGreatDoorLaid
import Derived.Test.YtololnhfgjbhjaaGreatDoorArgsInGroup
open Go.Proofs.Tryz
namespace Go.Proofs.YtololnhfgjbhjaaGreatDoor
open Go.ChangeShapes Go.WideShapes Go.ChangeAt Go.RowKit
theorem Tryz.cellsForm:prog.cellsOf 293=4:=by kernel_rfl
theorem Tryz.cellsInt:prog.cellsOf 3=1:=by kernel_rfl
theorem Tryz.cellsU64:prog.cellsOf 34=1:=by kernel_rfl
theorem C8{H:Type}{enc:TypeId×Value->H}{W:World}{base:Nat}{sp:Nat->Bool}{hd:Bool}{fuel:Nat}{t:TypeId}{k:IntKind}{cs:List Value}{n:Int}{ps:List MemPlace}
  (ht:prog.underlying t=some (.int k)) (h:DataW.trod enc prog W base sp hd fuel t cs=some (.lit (.int k n),ps)):cs = [.int k n]:=by
 obtain⟨m,rfl,e,_⟩:=DataW.trod_int ht h;simp at e;rw[e.1]
theorem abY{α:Type}{l:List α}(h:l.length=4):∃a b c d,l = [a,b,c,d]:=by
 match l,h with
 | [a,b,c,d],_=>exact⟨a,b,c,d,rfl⟩
theorem RB{H:Type}{enc:TypeId×Value->H}{P:Program}{W:World}{base:Nat}{sp:Nat->Bool}{hd:Bool}{t e:TypeId}{fuel:Nat}{cs:List Value}{x:DataW H×List MemPlace}(ht:P.underlying t=some (.array 5 e))(hce:P.cellsOf e=4)
  (h:DataW.trod enc P W base sp hd fuel t cs=some x) :
  ∃y0 y1 y2 y3 y4 n,x.1 = .agg [y0.1,y1.1,y2.1,y3.1,y4.1]/\DataW.trod enc P W base sp hd n e ((cs.drop (0*4)).take 4)=some y0/\DataW.trod enc P W base sp hd n e ((cs.drop (1*4)).take 4)=some y1/\DataW.trod enc P W base sp hd n e ((cs.drop (2*4)).take 4)=some y2/\DataW.trod enc P W base sp hd n e ((cs.drop (3*4)).take 4)=some y3/\DataW.trod enc P W base sp hd n e ((cs.drop (4*4)).take 4)=some y4:=by
 cases fuel with
 | zero=>simp[DataW.trod] at h
 | succ n=>
  unfold DataW.trod at h;rw[ht] at h;have r5:List.range 5 = [0,1,2,3,4]:=rfl;simp only[r5,hce,List.mapM_cons,List.mapM_nil] at h;split at h
  ·generalize h0:DataW.trod enc P W base sp hd n e ((cs.drop (0*4)).take 4)=o0 at h;generalize h1:DataW.trod enc P W base sp hd n e ((cs.drop (1*4)).take 4)=o1 at h;generalize h2:DataW.trod enc P W base sp hd n e ((cs.drop (2*4)).take 4)=o2 at h;generalize h3:DataW.trod enc P W base sp hd n e ((cs.drop (3*4)).take 4)=o3 at h;generalize h4:DataW.trod enc P W base sp hd n e ((cs.drop (4*4)).take 4)=o4 at h;cases o0 with
   | none=>simp at h
   | some y0=>
    cases o1 with
    | none=>simp at h
    | some y1=>
     cases o2 with
     | none=>simp at h
     | some y2=>
      cases o3 with
      | none=>simp at h
      | some y3=>
       cases o4 with
       | none=>simp at h
       | some y4=>
        simp at h;exact⟨y0,y1,y2,y3,y4,n,by rw[<-h],h0,h1,h2,h3,h4⟩
  ·cases h
theorem zq{H:Type}{enc:TypeId×Value->H}{W:World}{base:Nat}{sp:Nat->Bool}{hd:Bool}{fuel:Nat}{cs:List Value}{m a wd sh:Int}{y:DataW H×List MemPlace}
  (h:DataW.trod enc prog W base sp hd fuel 293 cs=some y) (hy:y.1 = .agg [.lit (.int .u64 m),.lit (.int .i64 a),.lit (.int .i64 wd),.lit (.int .i64 sh)]):cs = [.int .u64 m,.int .i64 a,.int .i64 wd,.int .i64 sh]:=by
 obtain⟨xs,n,-,rfl,hl,ϐ,hf⟩:=DataW.trod_struct underlying293 h;rw[Tryz.cellsForm] at hl;obtain⟨c0,c1,c2,c3,rfl⟩:=abY hl;obtain⟨y0,y1,y2,y3,rfl⟩:=abY ϐ;simp at hy;obtain⟨e0,e1,e2,e3⟩:=hy;have f0:=hf 0 _ rfl;have f1:=hf 1 _ rfl;have f2:=hf 2 _ rfl;have f3:=hf 3 _ rfl;simp[Tryz.cellsInt,Tryz.cellsU64] at f0 f1 f2 f3;obtain⟨d0,p0⟩:=y0;obtain⟨d1,p1⟩:=y1;obtain⟨d2,p2⟩:=y2;obtain⟨d3,p3⟩:=y3;simp only at e0 e1 e2 e3;subst e0 e1 e2 e3;have g0:=C8 underlying34 f0;have g1:=C8 underlying3 f1;have g2:=C8 underlying3 f2;have g3:=C8 underlying3 f3;simp at g0 g1 g2 g3;rw[g0,g1,g2,g3]
theorem pO(l:List Value)(i j:Nat)(h:j<4)(v:List Value)(hv:(l.drop (i*4)).take 4=v):l[i*4+j]? = v[j]?:=by
 rw[<-hv,List.getElem?_take_of_lt h,List.getElem?_drop]
theorem ZW{W:World}{r:List (String×DataW Unit)}(h:laidMet prog (("tidegauge/wave.forms",Rows.laid_tidegauge_wave_forms)::r) W):Forms W:=by
 obtain⟨ps,⟨g0,t0,cs0,f0,p0,q0,ļ,Č,Â,hd0,_,e0⟩,_,hrows⟩:=h;obtain rfl:=Option.some.inj ((show prog.globalNamed "tidegauge/wave.forms" = some 13 by kernel_rfl).symm.trans ļ);obtain rfl:=Option.some.inj ((show (prog.globals[13]?).map (·.type)=some 327 by kernel_rfl).symm.trans Č);have ϡ:=λi=>World.var?_cell ļ Â i
 obtain⟨y0,y1,y2,y3,y4,n,hx,h0,h1,h2,h3,h4⟩:=RB underlying327 Tryz.cellsForm hd0;simp only[Rows.laid_tidegauge_wave_forms,DataW.agg.injEq,List.cons.injEq] at hx;obtain⟨e0,e1,e2,e3,e4,-⟩:=hx;have c0:=zq h0 e0.symm;have c1:=zq h1 e1.symm;have c2:=zq h2 e2.symm;have c3:=zq h3 e3.symm;have c4:=zq h4 e4.symm;have key:∀i j,i<5->j<4->cs0.toList[i*4+j]? = EY[i*4+j]?:=by
  intro i j hi hj;rcases (by omega:i=0\/i=1\/i=2\/i=3\/i=4) with rfl|rfl|rfl|rfl|rfl
  ·rw[pO _ 0 j hj _ c0];rcases (by omega:j=0\/j=1\/j=2\/j=3) with rfl|rfl|rfl|rfl<;>rfl
  ·rw[pO _ 1 j hj _ c1];rcases (by omega:j=0\/j=1\/j=2\/j=3) with rfl|rfl|rfl|rfl<;>rfl
  ·rw[pO _ 2 j hj _ c2];rcases (by omega:j=0\/j=1\/j=2\/j=3) with rfl|rfl|rfl|rfl<;>rfl
  ·rw[pO _ 3 j hj _ c3];rcases (by omega:j=0\/j=1\/j=2\/j=3) with rfl|rfl|rfl|rfl<;>rfl
  ·rw[pO _ 4 j hj _ c4];rcases (by omega:j=0\/j=1\/j=2\/j=3) with rfl|rfl|rfl|rfl<;>rfl
 intro i hi;rw[ϡ i];have:=key (i / 4) (i % 4) (by omega) (by omega);rw[show i / 4*4+i % 4=i by omega] at this;simpa using this
open Go.Deep
theorem Tryz.cellsU8:prog.cellsOf 5=1:=by kernel_rfl
theorem mapM_at{α β:Type}(f:α->Option β):∀(l:List α) (ys:List β),l.mapM f=some ys->ys.length=l.length/\∀i (hi:i<l.length) (hj:i<ys.length),f l[i]=some ys[i]
 | [],ys,h=>by
  simp at h;subst h;exact⟨rfl,λi hi=>absurd hi (by simp)⟩
 | a::r,ys,h=>by
  rw[List.mapM_cons] at h;cases ha:f a with
  | none=>rw[ha] at h;cases h
  | some b=>
   cases hr:r.mapM f with
   | none=>rw[ha,hr] at h;cases h
   | some zs=>
    rw[ha,hr] at h;have e:b::zs=ys:=by simpa using h
    subst e;obtain⟨h1,h2⟩:=mapM_at f r zs hr;refine⟨by simp[h1],λi hi hj=>?_⟩;cases i with
    | zero=>exact ha
    | succ i=>exact h2 i (by simpa using hi) (by simpa using hj)
theorem Rt{H:Type}{enc:TypeId×Value->H}{P:Program}{W:World}{base:Nat}{sp:Nat->Bool}{hd:Bool}{t e:TypeId}{N fuel:Nat}{cs:List Value}{x:DataW H×List MemPlace}(ht:P.underlying t=some (.array N e))(hce:P.cellsOf e=1)
  (h:DataW.trod enc P W base sp hd fuel t cs=some x) :
  ∃(ys:List (DataW H×List MemPlace)) (n:Nat),x.1 = .agg (ys.map (·.1))/\ys.length=N/\∀i (_:i<N) (hj:i<ys.length),DataW.trod enc P W base sp hd n e ((cs.drop i).take 1)=some ys[i]:=by
 cases fuel with
 | zero=>simp[DataW.trod] at h
 | succ n=>
  unfold DataW.trod at h;rw[ht] at h;simp only[hce] at h;split at h
  ·cases hm:(List.range N).mapM (λi=>DataW.trod enc P W base sp hd n e ((cs.drop (i*1)).take 1)) with
   | none=>rw[hm] at h;cases h
   | some ys=>
    rw[hm] at h;have e1:((DataW.agg (ys.map (·.1)),ys.flatMap (·.2)):DataW H×List MemPlace)=x:=by simpa using h
    obtain⟨h1,h2⟩:=mapM_at _ _ _ hm;refine⟨ys,n,by rw[<-e1],by simpa using h1,λi hi hj=>?_⟩;have:=h2 i (by simpa using hi) hj;simpa using this
  ·cases h
theorem adB{H:Type}{enc:TypeId×Value->H}{W:World}{base:Nat}{sp:Nat->Bool}{hd:Bool}{fuel:Nat}{cs:List Value}{n:Int}{y:DataW H×List MemPlace}
  (h:DataW.trod enc prog W base sp hd fuel 5 cs=some y) (hy:y.1 = .lit (.int .u8 n)):cs = [.int .u8 n]:=by
 obtain⟨d,ps⟩:=y;obtain rfl:d=_:=hy;obtain⟨m,rfl,e,_⟩:=DataW.trod_int underlying5 h;simp at e;rw[e.1]
def GL:List (DataW Unit):=Lib.deBruijn64tab.map λ(n:Nat)=>.lit (.int .u8 (n:Int))
theorem ZO:(Rows.laid_math_bits_deBruijn64tab:DataW Unit) = .agg GL:=by rfl
theorem aeK{W:World}{r:List (String×DataW Unit)}(h:laidMet prog (("math/bits.deBruijn64tab",Rows.laid_math_bits_deBruijn64tab)::r) W):Tab W:=by
 obtain⟨ps,⟨g0,t0,cs0,f0,p0,q0,ļ,Č,Â,hd0,_,e0⟩,_,hrows⟩:=h;obtain rfl:=Option.some.inj ((show prog.globalNamed "math/bits.deBruijn64tab" = some 17 by kernel_rfl).symm.trans ļ);obtain rfl:=Option.some.inj ((show (prog.globals[17]?).map (·.type)=some 351 by kernel_rfl).symm.trans Č);have ϡ:=λi=>World.var?_cell ļ Â i
 obtain⟨ys,n,hx,ϐ,Ϸ⟩:=Rt underlying351 Tryz.cellsU8 hd0;rw[ZO] at hx;have hx':GL=ys.map (·.1):=by simpa using hx
 have hl:Lib.deBruijn64tab.length=64:=by rfl
 intro j hj;have aeI:j<64:=by omega
 have hy:=Ϸ j aeI (by omega);have hyv:(ys[j]'(by omega)).1 = .lit (.int .u8 ((Lib.deBruijn64tab.getD j 0:Nat):Int)):=by
  have h1:(ys.map (·.1))[j]? = GL[j]?:=by rw[hx']
  rw[List.getElem?_map,List.getElem?_eq_getElem (by omega)] at h1;unfold GL at h1;rw[List.getElem?_map,List.getElem?_eq_getElem hj] at h1;simp at h1;rw[h1];simp[hj]
 have hc:=adB hy hyv;rw[ϡ j];have h2:((cs0.toList.drop j).take 1)[0]? = cs0.toList[j]?:=by rw[List.getElem?_take_of_lt (by omega),List.getElem?_drop];simp
 rw[hc] at h2;simpa using h2.symm
theorem aeG{W:World}{r:List (String×DataW Unit)}(h:laidMet prog (("internal/strconv.uint64pow10",Rows.laid_internal_strconv_uint64pow10)::r) W):Lib.TabIs prog W "internal/strconv.uint64pow10" .u64 Lib.pow10Tab:=by
 have e:(Rows.laid_internal_strconv_uint64pow10:DataW Unit)=Lib.tabData .u64 Lib.pow10Tab:=by rfl
 rw[e] at h;exact Lib.tabIs_of_head (g:=14) (t:=345) (e:=34) (n:=20) (by kernel_rfl) (by kernel_rfl) underlying345 underlying34 (by kernel_rfl) (by kernel_rfl) h
def TR:List (String×DataW Unit):=[("tidegauge/api.ErrText",Rows.laid_tidegauge_api_ErrText),("tidegauge/api.ErrBound",Rows.laid_tidegauge_api_ErrBound),("tidegauge/api.ErrShape",Rows.laid_tidegauge_api_ErrShape),("tidegauge/api.ErrName",Rows.laid_tidegauge_api_ErrName),("tidegauge/api.ErrNone",Rows.laid_tidegauge_api_ErrNone),("tidegauge/api.ErrFull",Rows.laid_tidegauge_api_ErrFull),("tidegauge/api.ErrOld",Rows.laid_tidegauge_api_ErrOld),("tidegauge/api.ErrSum",Rows.laid_tidegauge_api_ErrSum),("tidegauge/api.ErrOff",Rows.laid_tidegauge_api_ErrOff),("tidegauge/api.ErrKind",Rows.laid_tidegauge_api_ErrKind)]
def rG:List (String×DataW Unit):=("math/bits.deBruijn32tab",Rows.laid_math_bits_deBruijn32tab)::("math/bits.deBruijn64tab",Rows.laid_math_bits_deBruijn64tab)::("internal/strconv.uint64pow10",Rows.laid_internal_strconv_uint64pow10)::("errors.errorType",Rows.laid_errors_errorType)::("strconv.ErrRange",Rows.laid_strconv_ErrRange)::("strconv.ErrSyntax",Rows.laid_strconv_ErrSyntax)::(TR ++ [("tidegauge/wave.forms",Rows.laid_tidegauge_wave_forms)])
theorem Rk{W:World}(h:laidMetH prog rG W):∃ea,abE W.heap.size ea W:=by
 have e1:(rG.filter λx=>x.2.handleName?.isNone)=("math/bits.deBruijn32tab",Rows.laid_math_bits_deBruijn32tab)::("math/bits.deBruijn64tab",Rows.laid_math_bits_deBruijn64tab)::("internal/strconv.uint64pow10",Rows.laid_internal_strconv_uint64pow10)::("strconv.ErrRange",Rows.laid_strconv_ErrRange)::("strconv.ErrSyntax",Rows.laid_strconv_ErrSyntax)::(TR ++ [("tidegauge/wave.forms",Rows.laid_tidegauge_wave_forms)]):=by kernel_rfl
 have e2:(rG.filter λx=>x.2.handleName?.isSome) = [("errors.errorType",Rows.laid_errors_errorType)]:=by kernel_rfl
 have h':=laidMetH_iff.1 h;rw[e1,e2] at h';obtain⟨hL,hH⟩:=h';have ht:=Ws hH;have Ò:11<W.heap.size:=World.block_lt_of_cell? W ⟨11,0,none⟩ ht;have hT:=aeK hL.tail;have hP:=aeG hL.tail.tail;have hL:=hL.tail.tail.tail;clear h e1 e2 hH;obtain⟨ar,sr,cr,dr,xr,pr,hL⟩:=jA hL (g:=16) (by kernel_rfl) (by kernel_rfl) underlying26 Tryz.rowES underlying352 underlying354 rfl rfl underlying9 Tryz.cellsES Tryz.cellsStr;obtain⟨ay,sy,cy,dy,xy,py,hL⟩:=jA hL (g:=15) (by kernel_rfl) (by kernel_rfl) underlying26 Tryz.rowES underlying352 underlying354 rfl rfl underlying9 Tryz.cellsES Tryz.cellsStr;obtain⟨a0,s0,c0,d0,x0,p0,hL⟩:=jA hL (g:=8) (by kernel_rfl) (by kernel_rfl) underlying26 Tryz.rowES underlying352 underlying354 rfl rfl underlying9 Tryz.cellsES Tryz.cellsStr;obtain⟨a1,s1,c1,d1,x1,p1,hL⟩:=jA hL (g:=0) (by kernel_rfl) (by kernel_rfl) underlying26 Tryz.rowES underlying352 underlying354 rfl rfl underlying9 Tryz.cellsES Tryz.cellsStr;obtain⟨a2,s2,c2,d2,x2,p2,hL⟩:=jA hL (g:=3) (by kernel_rfl) (by kernel_rfl) underlying26 Tryz.rowES underlying352 underlying354 rfl rfl underlying9 Tryz.cellsES Tryz.cellsStr;obtain⟨a3,s3,c3,d3,x3,p3,hL⟩:=jA hL (g:=6) (by kernel_rfl) (by kernel_rfl) underlying26 Tryz.rowES underlying352 underlying354 rfl rfl underlying9 Tryz.cellsES Tryz.cellsStr;obtain⟨a4,s4,c4,d4,x4,p4,hL⟩:=jA hL (g:=2) (by kernel_rfl) (by kernel_rfl) underlying26 Tryz.rowES underlying352 underlying354 rfl rfl underlying9 Tryz.cellsES Tryz.cellsStr;obtain⟨a6,s6,c6,d6,x6,p6,hL⟩:=jA hL (g:=1) (by kernel_rfl) (by kernel_rfl) underlying26 Tryz.rowES underlying352 underlying354 rfl rfl underlying9 Tryz.cellsES Tryz.cellsStr;obtain⟨a7,s7,c7,d7,x7,p7,hL⟩:=jA hL (g:=4) (by kernel_rfl) (by kernel_rfl) underlying26 Tryz.rowES underlying352 underlying354 rfl rfl underlying9 Tryz.cellsES Tryz.cellsStr;obtain⟨a8,s8,c8,d8,x8,p8,hL⟩:=jA hL (g:=9) (by kernel_rfl) (by kernel_rfl) underlying26 Tryz.rowES underlying352 underlying354 rfl rfl underlying9 Tryz.cellsES Tryz.cellsStr;obtain⟨a9,s9,c9,d9,x9,p9,hL⟩:=jA hL (g:=7) (by kernel_rfl) (by kernel_rfl) underlying26 Tryz.rowES underlying352 underlying354 rfl rfl underlying9 Tryz.cellsES Tryz.cellsStr;obtain⟨a10,s10,c10,d10,x10,p10,hL⟩:=jA hL (g:=5) (by kernel_rfl) (by kernel_rfl) underlying26 Tryz.rowES underlying352 underlying354 rfl rfl underlying9 Tryz.cellsES Tryz.cellsStr;have hF:=ZW hL;have lt:∀ {g:Nat} {v:Value},W.cell? ⟨g,0,none⟩=some v->g<W.heap.size:=fun {g v} h=>World.block_lt_of_cell? W ⟨g,0,none⟩ h
 refine⟨λi=>([a0,a1,a2,a3,a4,a4,a6,a7,a8,a9,a10]:List Addr).getD i a0,⟨c1,c2,c3,c4,c10,λg hg=>?_⟩,⟨⟨⟨c0,c1,c2,c3,c4,c6,c7,λg hg=>?_⟩,⟨c0,c1,c2,c3,c4,c6,c9,hT,Lib.tabBelow_of_tabIs hP,⟨⟨_,_,cy⟩,⟨_,_,cr⟩⟩,?_⟩⟩,⟨⟨c0,c1,c4,c7,c8,ht,Ò⟩,c2,c3,hF,hT,hF.lt,hT.lt⟩⟩⟩
 ·simp only[List.mem_cons,List.not_mem_nil,or_false] at hg;rcases hg with rfl|rfl|rfl|rfl|rfl
  ·exact lt c1
  ·exact lt c2
  ·exact lt c3
  ·exact lt c4
  ·exact lt c10
 ·simp only[List.mem_cons,List.not_mem_nil,or_false] at hg;rcases hg with rfl|rfl|rfl|rfl|rfl|rfl|rfl
  ·exact lt c0
  ·exact lt c1
  ·exact lt c2
  ·exact lt c3
  ·exact lt c4
  ·exact lt c6
  ·exact lt c7
 ·exact⟨lt c0,lt c1,lt c2,lt c3,lt c4,lt c6,lt c9,hT.lt,lt cy,lt cr⟩
theorem Wn(os:Os)(args:Array Value):laidMetH prog rG ((World.doorLaid prog 400 os).forCall (λ_ _=>0) ⟨#[],args,[]⟩).memory:=
 laidMetH_of_parts3 (fuel:=8) (laidMet_of_run' 8 (by kernel_rfl) (by kernel_rfl)) (by kernel_rfl) (by kernel_rfl)
end Go.Proofs.YtololnhfgjbhjaaGreatDoor
