/- Proved: tidegaugelaw3.ScriptReads returns true for every list of texts, and leaves its arguments and memory as they were, wherever the package variables that its row lists hold what the program's own initialisers lay (the tied card of the law ScriptReads). -/
import Derived.Test.YtnjmhjdhfaboaaaGreatDoorScRds
import Derived.Test.YtnjmhjdhfaboaaaGreatDoorArgsInGroup
import Derived.Test.YtnjmhjdhfaboaaaGreatDoorTie
import Derived.Test.YtnjmhjdhfaboaaaGreatDoorCards
import Derived.Lay
import Derived.Test.YtnjmhjdhfaboaaaGreatDoorLaid
set_option maxHeartbeats 4000000
set_option maxRecDepth 100000
open List
open Go.Proofs.Tryz
theorem yE{p:Prop}(h:p:=by as_aux_lemma=>kernel_rfl):p:=h
namespace Go.Proofs.YtnjmhjdhfaboaaaGreatDoor
open Go.ChangeShapes Go.WideShapes Go.ChangeAt Go.RowKit
theorem Tryz.cellsForm:prog.cellsOf 308=4:=lG
theorem Tryz.cellsInt:prog.cellsOf 3=1:=lG
theorem Tryz.cellsU64:prog.cellsOf 91=1:=lG
theorem DN{H:Type}{enc:TypeId×Value->H}{W:World}{o:Nat}{A:Nat->Bool}{q:Bool}{fuel:Nat}{t:TypeId}{k:IntKind}{cs:List Value}{n:Int}{ps:List MemPlace}
  (z:prog.underlying t=some (.int k)) (h:DataW.trod enc prog W o A q fuel t cs=some (.lit (.int k n),ps)):cs = [.int k n]:=by
 obtain⟨m,rfl,e,_⟩:=DataW.trod_int z h;simp at e;rw[e.1]
theorem adO{o:Type}{l:List o}(h:l.length=4):∃a b c d,l = [a,b,c,d]:=by
 match l,h with
 | [a,b,c,d],_=>exact⟨a,b,c,d,rfl⟩
theorem Tm{H:Type}{enc:TypeId×Value->H}{P:Program}{W:World}{o:Nat}{z:Nat->Bool}{q:Bool}{t e:TypeId}{fuel:Nat}{cs:List Value}{x:DataW H×List MemPlace}(U:P.underlying t=some (.array 5 e))(Ą:P.cellsOf e=4)
  (h:DataW.trod enc P W o z q fuel t cs=some x) :
  ∃A D F G I n,x.1 = .agg [A.1,D.1,F.1,G.1,I.1]/\DataW.trod enc P W o z q n e ((cs.drop (0*4)).take 4)=some A/\DataW.trod enc P W o z q n e ((cs.drop (1*4)).take 4)=some D/\DataW.trod enc P W o z q n e ((cs.drop (2*4)).take 4)=some F/\DataW.trod enc P W o z q n e ((cs.drop (3*4)).take 4)=some G/\DataW.trod enc P W o z q n e ((cs.drop (4*4)).take 4)=some I:=by
 cases fuel with
 | zero=>simp[DataW.trod] at h
 | succ n=>
  unfold DataW.trod at h;rw[U] at h;have r5:List.range 5 = [0,1,2,3,4]:=rfl;simp only[r5,Ą,mapM_cons,mapM_nil] at h;split at h
  ·generalize J:DataW.trod enc P W o z q n e ((cs.drop (0*4)).take 4)=V at h;generalize K:DataW.trod enc P W o z q n e ((cs.drop (1*4)).take 4)=Y at h;generalize O:DataW.trod enc P W o z q n e ((cs.drop (2*4)).take 4)=Z at h;generalize Q:DataW.trod enc P W o z q n e ((cs.drop (3*4)).take 4)=o3 at h;generalize R:DataW.trod enc P W o z q n e ((cs.drop (4*4)).take 4)=o4 at h;cases V with
   | none=>simp at h
   | some A=>
    cases Y with
    | none=>simp at h
    | some D=>
     cases Z with
     | none=>simp at h
     | some F=>
      cases o3 with
      | none=>simp at h
      | some G=>
       cases o4 with
       | none=>simp at h
       | some I=>
        simp at h;exact⟨A,D,F,G,I,n,by rw[<-h],J,K,O,Q,R⟩
  ·cases h
theorem zZ{H:Type}{enc:TypeId×Value->H}{W:World}{o:Nat}{sp:Nat->Bool}{hd:Bool}{fuel:Nat}{cs:List Value}{m a wd Z:Int}{y:DataW H×List MemPlace}
  (h:DataW.trod enc prog W o sp hd fuel 308 cs=some y) (Y:y.1 = .agg [.lit (.int .u64 m),.lit (.int .i64 a),.lit (.int .i64 wd),.lit (.int .i64 Z)]):cs = [.int .u64 m,.int .i64 a,.int .i64 wd,.int .i64 Z]:=by
 obtain⟨xs,n,-,rfl,V,ϑ,q⟩:=DataW.trod_struct underlying308 h;rw[Tryz.cellsForm] at V;obtain⟨c0,c1,c2,c3,rfl⟩:=adO V;obtain⟨y0,y1,y2,y3,rfl⟩:=adO ϑ;simp at Y;obtain⟨z,A,D,F⟩:=Y;have G:=q 0 _ rfl;have I:=q 1 _ rfl;have J:=q 2 _ rfl;have K:=q 3 _ rfl;simp[Tryz.cellsInt,Tryz.cellsU64] at G I J K;obtain⟨d0,p0⟩:=y0;obtain⟨d1,p1⟩:=y1;obtain⟨d2,p2⟩:=y2;obtain⟨d3,p3⟩:=y3;simp only at z A D F;subst z A D F;have O:=DN underlying91 G;have Q:=DN underlying3 I;have R:=DN underlying3 J;have U:=DN underlying3 K;simp at O Q R U;rw[O,Q,R,U]
theorem ql(l:List Value)(i j:Nat)(h:j<4)(v:List Value)(o:(l.drop (i*4)).take 4=v):l[i*4+j]? = v[j]?:=by
 rw[<-o,List.getElem?_take_of_lt h,List.getElem?_drop]
theorem abL{W:World}{r:List (String×DataW Unit)}(h:laidMet prog (("tidegauge/wave.forms",Rows.laid_tidegauge_wave_forms)::r) W):Forms W:=by
 obtain⟨ps,⟨g0,t0,q,f0,p0,q0,G,ğ,æ,z,_,D⟩,_,ì⟩:=h;obtain rfl:=Option.some.inj ((show prog.globalNamed "tidegauge/wave.forms" = some 14 by kernel_rfl).symm.trans G);obtain rfl:=Option.some.inj ((show (prog.globals[14]?).map (·.type)=some 349 by kernel_rfl).symm.trans ğ);have Ϥ:=λi=>World.var?_cell G æ i
 obtain⟨y0,y1,y2,y3,y4,n,F,Y,Z,h2,h3,h4⟩:=Tm underlying349 Tryz.cellsForm z;simp only[Rows.laid_tidegauge_wave_forms,DataW.agg.injEq,List.cons.injEq] at F;obtain⟨D,Q,R,U,V,-⟩:=F;have H:=zZ Y D.symm;have I:=zZ Z Q.symm;have J:=zZ h2 R.symm;have K:=zZ h3 U.symm;have O:=zZ h4 V.symm;have A:∀i j,i<5->j<4->q.toList[i*4+j]? = FB[i*4+j]?:=by
  intro i j hi o;rcases (by omega:i=0\/i=1\/i=2\/i=3\/i=4) with rfl|rfl|rfl|rfl|rfl
  ·rw[ql _ 0 j o _ H];rcases (by omega:j=0\/j=1\/j=2\/j=3) with rfl|rfl|rfl|rfl<;>rfl
  ·rw[ql _ 1 j o _ I];rcases (by omega:j=0\/j=1\/j=2\/j=3) with rfl|rfl|rfl|rfl<;>rfl
  ·rw[ql _ 2 j o _ J];rcases (by omega:j=0\/j=1\/j=2\/j=3) with rfl|rfl|rfl|rfl<;>rfl
  ·rw[ql _ 3 j o _ K];rcases (by omega:j=0\/j=1\/j=2\/j=3) with rfl|rfl|rfl|rfl<;>rfl
  ·rw[ql _ 4 j o _ O];rcases (by omega:j=0\/j=1\/j=2\/j=3) with rfl|rfl|rfl|rfl<;>rfl
 intro i hi;rw[Ϥ i];have:=A (i / 4) (i % 4) fO fO;rw[show i / 4*4+i % 4=i by omega] at this;simpa using this
open Go.Deep
theorem Tryz.cellsU8:prog.cellsOf 5=1:=lG
theorem mapM_at{F G:Type}(f:F->Option G):∀(l:List F) (o:List G),l.mapM f=some o->o.length=l.length/\∀i (z:i<l.length) (D:i<o.length),f l[i]=some o[i]
 | [],o,h=>by
  simp at h;subst h;exact⟨rfl,λi z=>absurd z vI⟩
 | a::r,o,h=>by
  rw[mapM_cons] at h;cases q:f a with
  | none=>rw[q] at h;cases h
  | some b=>
   cases A:r.mapM f with
   | none=>rw[q,A] at h;cases h
   | some zs=>
    rw[q,A] at h;have e:b::zs=o:=by simpa using h
    subst e;obtain⟨H,I⟩:=mapM_at f r zs A;refine⟨by simp[H],λi z D=>?_⟩;cases i with
    | zero=>exact q
    | succ i=>exact I i (by simpa using z) (by simpa using D)
theorem Tf{H:Type}{enc:TypeId×Value->H}{P:Program}{W:World}{o:Nat}{D:Nat->Bool}{z:Bool}{t e:TypeId}{N fuel:Nat}{cs:List Value}{x:DataW H×List MemPlace}(O:P.underlying t=some (.array N e))(Q:P.cellsOf e=1)
  (h:DataW.trod enc P W o D z fuel t cs=some x) :
  ∃(q:List (DataW H×List MemPlace)) (n:Nat),x.1 = .agg (q.map (·.1))/\q.length=N/\∀i (_:i<N) (F:i<q.length),DataW.trod enc P W o D z n e ((cs.drop i).take 1)=some q[i]:=by
 cases fuel with
 | zero=>simp[DataW.trod] at h
 | succ n=>
  unfold DataW.trod at h;rw[O] at h;simp only[Q] at h;split at h
  ·cases A:(List.range N).mapM (λi=>DataW.trod enc P W o D z n e ((cs.drop (i*1)).take 1)) with
   | none=>rw[A] at h;cases h
   | some q=>
    rw[A] at h;have G:((DataW.agg (q.map (·.1)),q.flatMap (·.2)):DataW H×List MemPlace)=x:=by simpa using h
    obtain⟨I,J⟩:=mapM_at _ _ _ A;refine⟨q,n,by rw[<-G],by simpa using I,λi K F=>?_⟩;have:=J i (by simpa using K) F;simpa using this
  ·cases h
theorem afb{H:Type}{enc:TypeId×Value->H}{W:World}{o:Nat}{A:Nat->Bool}{q:Bool}{fuel:Nat}{cs:List Value}{n:Int}{y:DataW H×List MemPlace}
  (h:DataW.trod enc prog W o A q fuel 5 cs=some y) (z:y.1 = .lit (.int .u8 n)):cs = [.int .u8 n]:=by
 obtain⟨d,ps⟩:=y;obtain rfl:d=_:=z;obtain⟨m,rfl,e,_⟩:=DataW.trod_int underlying5 h;simp at e;rw[e.1]
def G9:List (DataW Unit):=Lib.deBruijn64tab.map λ(n:Nat)=>.lit (.int .u8 (n:Int))
theorem abC:(Rows.laid_math_bits_deBruijn64tab:DataW Unit) = .agg G9:=by rfl
theorem agv{W:World}{r:List (String×DataW Unit)}(h:laidMet prog (("math/bits.deBruijn64tab",Rows.laid_math_bits_deBruijn64tab)::r) W):Tab W:=by
 obtain⟨ps,⟨g0,t0,o,f0,p0,q0,K,V,U,A,_,Z⟩,_,ì⟩:=h;obtain rfl:=Option.some.inj ((show prog.globalNamed "math/bits.deBruijn64tab" = some 16 by kernel_rfl).symm.trans K);obtain rfl:=Option.some.inj ((show (prog.globals[16]?).map (·.type)=some 370 by kernel_rfl).symm.trans V);have Y:=λi=>World.var?_cell K U i
 obtain⟨G,n,J,ϑ,R⟩:=Tf underlying370 Tryz.cellsU8 A;rw[abC] at J;have D:G9=G.map (·.1):=by simpa using J
 have hl:Lib.deBruijn64tab.length=64:=by rfl
 intro j I;have z:j<64:=fO
 have Q:=R j z fO;have F:(G[j]'fO).1 = .lit (.int .u8 ((Lib.deBruijn64tab.getD j 0:Nat):Int)):=by
  have q:(G.map (·.1))[j]? = G9[j]?:=by rw[D]
  rw[List.getElem?_map,List.getElem?_eq_getElem fO] at q;unfold G9 at q;rw[List.getElem?_map,List.getElem?_eq_getElem I] at q;simp at q;rw[q];simp[I]
 have O:=afb Q F;rw[Y j];have H:((o.toList.drop j).take 1)[0]? = o.toList[j]?:=by rw[List.getElem?_take_of_lt fO,List.getElem?_drop];simp
 rw[O] at H;simpa using H.symm
theorem afF{W:World}{r:List (String×DataW Unit)}(h:laidMet prog (("internal/strconv.uint64pow10",Rows.laid_internal_strconv_uint64pow10)::r) W):Lib.TabIs prog W "internal/strconv.uint64pow10" .u64 Lib.pow10Tab:=by
 have e:(Rows.laid_internal_strconv_uint64pow10:DataW Unit)=Lib.tabData .u64 Lib.pow10Tab:=by rfl
 rw[e] at h;exact Lib.tabIs_of_head (g:=12) (t:=298) (e:=91) (n:=20) lG lG underlying298 underlying91 lG lG h
def Az:List (String×DataW Unit):=("math/bits.deBruijn32tab",Rows.laid_math_bits_deBruijn32tab)::("math/bits.deBruijn64tab",Rows.laid_math_bits_deBruijn64tab)::("internal/strconv.uint64pow10",Rows.laid_internal_strconv_uint64pow10)::("unicode/utf8.acceptRanges",Rows.laid_unicode_utf8_acceptRanges)::("errors.errorType",Rows.laid_errors_errorType)::("strconv.ErrRange",Rows.laid_strconv_ErrRange)::("strconv.ErrSyntax",Rows.laid_strconv_ErrSyntax)::(Vx ++ [("tidegauge/wave.forms",Rows.laid_tidegauge_wave_forms),("unicode/utf8.first",Rows.laid_unicode_utf8_first)])
noncomputable def La(os:Os):World:=(World.doorLaid prog 400 os).layVars prog [("unicode/utf8.first",Rows.laid_unicode_utf8_first)]
theorem ZF(os:Os):(La os).os=os:=(World.layVars_os _ _ _).trans rfl
theorem Pg(os:Os)(args:Array Value):((La os).forCall (λ_ _=>0) ⟨#[],args,[]⟩).Shaped prog:=World.shaped_of_RefB yE yE
theorem afG(os:Os)(args:Array Value):laidMetH prog Az ((La os).forCall (λ_ _=>0) ⟨#[],args,[]⟩).memory:=
 laidMetH_of_parts3 (fuel:=8) (laidMet_of_run3 8 yE yE yE) yE yE
open aD
theorem Ye{W:World}(h:laidMetH prog Az W)(U:Int)(o:W.cell? ⟨13,0,none⟩=some (.int .i64 U)):∃ea T,oH W.heap.size ea T W/\Env W.heap.size ea W/\T 0=text0/\∀m,T m ≠ []:=by
 have I:(Az.filter λx=>x.2.handleName?.isNone)=("math/bits.deBruijn32tab",Rows.laid_math_bits_deBruijn32tab)::("math/bits.deBruijn64tab",Rows.laid_math_bits_deBruijn64tab)::("internal/strconv.uint64pow10",Rows.laid_internal_strconv_uint64pow10)::("unicode/utf8.acceptRanges",Rows.laid_unicode_utf8_acceptRanges)::("strconv.ErrRange",Rows.laid_strconv_ErrRange)::("strconv.ErrSyntax",Rows.laid_strconv_ErrSyntax)::(Vx ++ [("tidegauge/wave.forms",Rows.laid_tidegauge_wave_forms),("unicode/utf8.first",Rows.laid_unicode_utf8_first)]):=lG;have J:(Az.filter λx=>x.2.handleName?.isSome) = [("errors.errorType",Rows.laid_errors_errorType)]:=lG;have K:=laidMetH_iff.1 h;rw[I,J] at K;obtain⟨hL,Q⟩:=K;have R:=Na Q;have Ó:11<W.heap.size:=World.block_lt_of_cell? W ⟨11,0,none⟩ R;have z:=agv hL.tail;have Z:=afF hL.tail.tail;have hL:=hL.tail.tail.tail.tail;clear h I J;obtain⟨ar,sr,G,dr,xr,pr,hL⟩:=gZ hL (g:=20) lG lG underlying25 Tryz.rowES underlying397 underlying399 rfl rfl underlying9 Tryz.cellsES Tryz.cellsStr;obtain⟨ay,sy,H,dy,xy,py,hL⟩:=gZ hL (g:=19) lG lG underlying25 Tryz.rowES underlying397 underlying399 rfl rfl underlying9 Tryz.cellsES Tryz.cellsStr;obtain⟨⟨ea,E,F⟩,D⟩:=OZ hL Q;have O:=abL D;have lt:∀ {g:Nat} {v:Value},W.cell? ⟨g,0,none⟩=some v->g<W.heap.size:=fun {g v} h=>World.block_lt_of_cell? W ⟨g,0,none⟩ h
 have hs:∀m,m<11->uN m ≠ []:=nQ;refine⟨ea,λm=>if m<11 then uN m else [0],⟨⟨⟨E.c1,E.c2,E.c3,E.c4,E.c10,λg q=>?_⟩,⟨⟨⟨E.c0,E.c1,E.c2,E.c3,E.c4,E.c6,E.c7,λg q=>?_⟩,⟨E.c0,E.c1,E.c2,E.c3,E.c4,E.c6,E.c9,z,Lib.tabBelow_of_tabIs Z,⟨⟨_,_,H⟩,⟨_,_,G⟩⟩,?_⟩⟩,⟨⟨E.c0,E.c1,E.c4,E.c7,E.c8,R,Ó⟩,E.c2,E.c3,O,z,O.lt,z.lt⟩⟩⟩,λm A=>?_,E.lt,⟨U,o⟩,lt o⟩,E,rfl,λm=>?_⟩
 ·simp only[mem_cons,not_mem_nil,or_false] at q;rcases q with rfl|rfl|rfl|rfl|rfl
  ·exact lt E.c1
  ·exact lt E.c2
  ·exact lt E.c3
  ·exact lt E.c4
  ·exact lt E.c10
 ·simp only[mem_cons,not_mem_nil,or_false] at q;rcases q with rfl|rfl|rfl|rfl|rfl|rfl|rfl
  ·exact lt E.c0
  ·exact lt E.c1
  ·exact lt E.c2
  ·exact lt E.c3
  ·exact lt E.c4
  ·exact lt E.c6
  ·exact lt E.c7
 ·exact⟨lt E.c0,lt E.c1,lt E.c2,lt E.c3,lt E.c4,lt E.c6,lt E.c9,z.lt,lt H,lt G⟩
 ·obtain⟨s,V,Y⟩:=F m A;rw[if_pos A,V];rw[<-Y];rfl
 ·dsimp only
  split
  ·rename_i A;exact hs m A
  ·simp
open Go.Maps
theorem Jp{H:Type}{P:Program}{e:TypeId}:∀ {l:List (DataW H)} {d:DataW H},d∈l->∀ {z:Nat},z∈d.weights P e->z∈DataW.weightsAll P e l
 | [],_,h,_,_=>absurd h not_mem_nil
 | c::r,d,h,z,hz=>by
  rw[DataW.weightsAll];rcases mem_cons.1 h with rfl|h
  ·exact mem_append.2 (.inl hz)
  ·exact mem_append.2 (.inr (Jp h hz))
theorem Pw{H:Type}{P:Program}{t e:TypeId}(q:P.underlying t=some (.slice e)){l s:List (DataW H)}{d:DataW H}(o:d∈l){z:Nat}(A:z∈d.weights P e):z∈(DataW.slice l s).weights P t:=by
 rw[DataW.weights,q];exact mem_cons.2 (.inr (mem_append.2 (.inl (Jp o A))))
theorem agl{H:Type}{enc:TypeId×Value->H}{W:World}{sp:Nat->Bool}{hd:Bool}{fuel:Nat}{a:Option Addr}{len J:Nat}{x:DataW H×List MemPlace}
  (h:DataW.trod enc prog W 0 sp hd fuel 22 [.slice a len J]=some x) (hw:∀n,n∈x.1.weights prog 22->n<=reachBytes):∃ss:List (List UInt8),ss.length=len/\uI W a ss/\∀y,y∈ss->(y.length:Int)<=140737488355328:=by
 have hrb:=reachBytes_lt;have ce:prog.cellsOf 9=1:=lG;rcases open_slice underlying22 h with⟨Ϭ,_⟩|⟨b,l,c,m,n,D,Pl,Ϭ,_,hl,_,hm,hxe,hx⟩
 ·simp at Ϭ;obtain⟨_,rfl,_⟩:=Ϭ;exact⟨[],rfl,λk F=>absurd F (Nat.not_lt_zero _),λr G=>absurd G not_mem_nil⟩
 ·simp at Ϭ;obtain⟨rfl,rfl,rfl⟩:=Ϭ;by_cases h0:len=0
  ·exact⟨[],h0.symm,λk F=>absurd F (Nat.not_lt_zero _),λr G=>absurd G not_mem_nil⟩
  ·have hlm:len<=m:=by rw[hm];split<;>omega
   obtain⟨Y,oo,o⟩:=b;have A:∀i,i<len->∃q:List UInt8,W.cell? ((⟨Y,oo,o⟩:Addr).add i)=some (encStr q)/\(q.length:Int)<=140737488355328:=by
    intro i Q;obtain⟨K,h1,h2⟩:=hx i fO;rw[ce] at h1;obtain⟨_,ϑ,Ϥ⟩:=World.cells?_some h1;match K,ϑ with
    | [v0],_=>
     obtain⟨I,Z,V⟩:=DataW.trod_string underlying9 h2;have O:D i = .lit (.string I.data.toList):=congrArg Prod.fst V.1;have hwi:I.data.toList.length<=reachBytes:=hw _ (by
      rw[hxe];exact Pw underlying22 (mem_map.2 ⟨i,mem_range.2 Q,rfl⟩) (by rw[O];simp[DataW.weights]))
     have d0:=Ϥ 0 fO;simp at Z;subst Z;refine⟨I.data.toList,by simpa [encStr,Addr.add] using d0,by show (I.data.toList.length:Int)<=_;omega⟩
   obtain⟨q,U⟩:=choose_lt A;have z:o=none:=by
    have:=(U 0 fO).1;simpa [Addr.add] using World.cell?_spot this
   subst z;refine⟨(List.range len).map q,vI,λk F=>?_,λr G=>?_⟩
   ·have R:k<len:=by simpa using F
    have a0:=(U k R).1;refine⟨Y,oo,rfl,?_⟩;have e:((List.range len).map q)[k]=q k:=vI;rw[e,<-a0];simp[Addr.add];split<;>simp_all
   ·obtain⟨i,Q,rfl⟩:=mem_map.1 G;exact (U i (by simpa using Q)).2
theorem GZ(os:Os)(A:os.Started)(H:Type)(enc:TypeId×Value->H):
  ReturnsInHanded {} Tryz.checked os 3 .any (λw args=>(Rows.scriptReadsSpec.pre enc prog Tryz.f3 [] false w args/\laidMetH prog Az w)/\sizedMet enc prog Tryz.f3 (OpenSpec.ofChange Rows.scriptReadsSpec) false w args)
   (Rows.scriptReadsSpec.post enc prog Tryz.f3 false true false false):=by
 refine returnsInHanded_of_calls Tryz.own A lG (ChangeSpec.witness_shaped (enc:=enc) (C:=Tryz.checked) (os:=os) (X:=λw _=>laidMetH prog Az w) false (La os) #[.slice none 0 0] 8 (ZF os) (Pg os _) lG lG lG (afG os _)) ?_;intro w o i _ δ _ ϲ J _;obtain⟨_,_,_,R,D,_,_,_,_,z⟩:=ϲ;obtain rfl:R=Tryz.f3:=Option.some.inj (D.symm.trans func3);obtain⟨⟨⟨ds,gs,K,hw,_⟩,hx⟩,hz⟩:=J;have hW:=DataW.Whole.of_heap (w':=w.forCall o i) (by rfl) hw;have hwt:=hz.weights hw;have hL:laidMetH prog Az (w.forCall o i):=hx.of_heap (by rfl);suffices hS:Calls prog 3 i.args (w.forCall o i) λe O=>∃v,e = .returned v/\Rows.scriptReadsSpec.post enc prog Tryz.f3 false true false false (w.forCall o i) i.args v O from hS.mono λe O ⟨v,he,hp⟩=>by
  subst he;exact ChangeSpec.post_blind hp
 clear hw hx hz D;generalize w.heap.size=G at z;generalize w.forCall o i=W at *;generalize i.args=args at *;have Ļ:∀(j:Nat) t v,Tryz.f3.params[j]? = some t->args[j]? = some v->Value.okWide prog W .any G t v:=z;have hW':=hW;obtain⟨p,q,BR,hV,rfl,hfz,ŉ⟩:=hW;have hA:DataW.TrodAll enc prog W 0 (λ_=>true) true Tryz.f3.params.toList args.toList ds p:=BR;rw[Tryz.params3] at hA Ļ;obtain⟨v0,vs0,d0,ds0,p0,q0,hargs,rfl,rfl,h0,r0⟩:=trodAll_cons hA;obtain⟨rfl,rfl,rfl⟩:=trodAll_nil r0;obtain rfl:args=#[v0]:=by cases args;simp_all
 obtain⟨rfl,rfl⟩:=trodVars_none hV;obtain⟨a0,Q,I,rfl⟩:=okWide_slice underlying22 (Ļ 0 22 v0 rfl rfl);have k0:=h0;have lt0:∀x∈p0,x.block<W.heap.size:=by obtain⟨m,hm⟩:=k0;exact DataW.trod_lt m _ _ _ hm
 obtain⟨aq3,F⟩:=h0;simp only[Value.cells] at F;have w0:∀n,n∈d0.weights prog 22->n<=reachBytes:=λn hn=>of_decide_eq_true (all_eq_true.1 hwt n (DataW.weights_mem_each (j:=0) (t:=22) lG rfl n hn))
 obtain⟨S0,ĝ,KU,V⟩:=agl F w0;have l0:=agu underlying22 F;obtain⟨mx,U⟩:=cell_of_shapedOpen_int (g:=13) (t:=3) (zero:=#[.int .i64 0]) δ (of_decide_eq_true lG) lG rfl lG lG underlying3;obtain⟨ea,T,EQ,E,Y,Z⟩:=Ye hL mx U;clear BR z;refine (Ul W EQ E Y Z (Nat.le_refl _) a0 Q I S0 ĝ KU V l0).mono λe O ⟨he,aI⟩=>?_
 subst he;exact⟨_,rfl,_,_,_,[],_,[],hW',trodAll_mk1 (shut_bool underlying4 _),(trodAll_cons_mk (Below.trod Tryz.laidOut lG (of_decide_eq_true lG) k0 aI lt0) trodAll_mk0),rfl,aI.frame _,λh=>by cases h⟩
theorem Hz:joinedFacts prog 3 Tryz.f3 Rows.scriptReadsSpec Rows.scriptReadsRow=true:=by
 unfold joinedFacts;repeat' (with_reducible refine Bool.and_eq_true_iff.2 ⟨?_,?_⟩)
 all_goals (as_aux_lemma=>kernel_rfl)
theorem H6:Rows.ScriptReadsSaid:=
 OpenClaim.holds_of_wide 3 Tryz.f3 rfl rfl rfl rfl rfl rfl rfl ⟨rfl,rfl,rfl,rfl,rfl⟩ rfl rfl rfl rfl rfl yE func3 Hz
  (of_decide_eq_true yE) (by unfold Func.isWrapper;rw[if_neg (of_decide_eq_false yE)];exact⟨rfl,rfl⟩)
  (λos o H enc _=>GZ os o H enc)
theorem scriptReads_card:Rows.ScriptReadsCardSaid:=
 Claim7.holds_tied_plain_at .later [] _ _ _ _
  H6 (λ_ h=>by cases h) yE (λ_ h=>by cases h) scriptReads_row_tie rfl ⟨rfl,rfl⟩ yE rfl
  (λf fn hf ľ=>by
   obtain rfl:f=3:=Option.some.inj ((show prog.funcNamed "tidegauge/tidegaugelaw3.ScriptReads" = some 3 by as_aux_lemma=>kernel_rfl).symm.trans hf) |>.symm;obtain rfl:fn=Tryz.f3:=(Option.some.inj (func3.symm.trans ľ)).symm;exact⟨yE,λj t ht=>by
    rw[Tryz.params3] at ht;have h3:t=22:=by
     rcases j with _|j
     ·exact (by simpa using ht.symm)
     ·simp at ht
    subst h3;exact (show prog.wantsStandIn 22=false by as_aux_lemma=>kernel_rfl)⟩)
  yE
#print axioms scriptReads_card
end Go.Proofs.YtnjmhjdhfaboaaaGreatDoor
