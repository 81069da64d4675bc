/- Proved: tidegaugelaw3.ScriptAgain returns true for every list of lines and number, and leaves its arguments and memory as they were, wherever the package variables that its row lists hold what the program's own initialisers lay (the tied card of the law ScriptAgain). -/
import Derived.Test.YtnjmhjdhfaboaaaGreatDoorWZ
import Derived.Test.YtnjmhjdhfaboaaaGreatDoorTie
import Derived.Test.YtnjmhjdhfaboaaaGreatDoorCards
import Derived.Lay
import Derived.Test.YtnjmhjdhfaboaaaGreatDoorB
set_option maxHeartbeats 4000000
set_option maxRecDepth 100000
open List
open Go.Proofs.Tryz
theorem vG{p:Prop}(h:p:=by as_aux_lemma=>kernel_rfl):p:=h
namespace Go.Proofs.YtnjmhjdhfaboaaaGreatDoor
open Go.ChangeShapes Go.WideShapes Go.ChangeAt Go.RowKit
theorem Tryz.cellsForm:prog.cellsOf 308=4:=iX
theorem Tryz.cellsInt:prog.cellsOf 3=1:=iX
theorem Tryz.cellsU64:prog.cellsOf 91=1:=iX
theorem DT{H:Type}{enc:TypeId×Value->H}{W:World}{j:Nat}{z:Nat->Bool}{o:Bool}{fuel:Nat}{t:TypeId}{k:IntKind}{cs:List Value}{n:Int}{ps:List MemPlace}
  (q:prog.underlying t=some (.int k)) (h:DataW.trod enc prog W j z o fuel t cs=some (.lit (.int k n),ps)):cs = [.int k n]:=by
 obtain⟨m,rfl,e,_⟩:=DataW.trod_int q h;simp at e;rw[e.1]
theorem aeg{j:Type}{l:List j}(h:l.length=4):∃a b c d,l = [a,b,c,d]:=by
 match l,h with
 | [a,b,c,d],_=>exact⟨a,b,c,d,rfl⟩
theorem TS{H:Type}{enc:TypeId×Value->H}{P:Program}{W:World}{j:Nat}{q:Nat->Bool}{o:Bool}{t e:TypeId}{fuel:Nat}{cs:List Value}{x:DataW H×List MemPlace}(R:P.underlying t=some (.array 5 e))(ĉ:P.cellsOf e=4)
  (h:DataW.trod enc P W j q o fuel t cs=some x) :
  ∃z A D F G n,x.1 = .agg [z.1,A.1,D.1,F.1,G.1]/\DataW.trod enc P W j q o n e ((cs.drop (0*4)).take 4)=some z/\DataW.trod enc P W j q o n e ((cs.drop (1*4)).take 4)=some A/\DataW.trod enc P W j q o n e ((cs.drop (2*4)).take 4)=some D/\DataW.trod enc P W j q o n e ((cs.drop (3*4)).take 4)=some F/\DataW.trod enc P W j q o n e ((cs.drop (4*4)).take 4)=some G:=by
 cases fuel with
 | zero=>simp[DataW.trod] at h
 | succ n=>
  unfold DataW.trod at h;rw[R] at h;have r5:List.range 5 = [0,1,2,3,4]:=rfl;simp only[r5,ĉ,mapM_cons,mapM_nil] at h;split at h
  ·generalize I:DataW.trod enc P W j q o n e ((cs.drop (0*4)).take 4)=U at h;generalize J:DataW.trod enc P W j q o n e ((cs.drop (1*4)).take 4)=V at h;generalize K:DataW.trod enc P W j q o n e ((cs.drop (2*4)).take 4)=Y at h;generalize O:DataW.trod enc P W j q o n e ((cs.drop (3*4)).take 4)=Z at h;generalize Q:DataW.trod enc P W j q o n e ((cs.drop (4*4)).take 4)=o4 at h;cases U with
   | none=>simp at h
   | some z=>
    cases V with
    | none=>simp at h
    | some A=>
     cases Y with
     | none=>simp at h
     | some D=>
      cases Z with
      | none=>simp at h
      | some F=>
       cases o4 with
       | none=>simp at h
       | some G=>
        simp at h;exact⟨z,A,D,F,G,n,by rw[<-h],I,J,K,O,Q⟩
  ·cases h
theorem zZ{H:Type}{enc:TypeId×Value->H}{W:World}{j:Nat}{sp:Nat->Bool}{hd:Bool}{fuel:Nat}{cs:List Value}{m a Z Y:Int}{y:DataW H×List MemPlace}
  (h:DataW.trod enc prog W j sp hd fuel 308 cs=some y) (V:y.1 = .agg [.lit (.int .u64 m),.lit (.int .i64 a),.lit (.int .i64 Z),.lit (.int .i64 Y)]):cs = [.int .u64 m,.int .i64 a,.int .i64 Z,.int .i64 Y]:=by
 obtain⟨xs,n,-,rfl,U,ϐ,o⟩:=DataW.trod_struct underlying308 h;rw[Tryz.cellsForm] at U;obtain⟨c0,c1,c2,c3,rfl⟩:=aeg U;obtain⟨y0,y1,y2,y3,rfl⟩:=aeg ϐ;simp at V;obtain⟨q,z,A,D⟩:=V;have F:=o 0 _ rfl;have G:=o 1 _ rfl;have I:=o 2 _ rfl;have J:=o 3 _ rfl;simp[Tryz.cellsInt,Tryz.cellsU64] at F G I J;obtain⟨d0,p0⟩:=y0;obtain⟨d1,p1⟩:=y1;obtain⟨d2,p2⟩:=y2;obtain⟨d3,p3⟩:=y3;simp only at q z A D;subst q z A D;have K:=DT underlying91 F;have O:=DT underlying3 G;have Q:=DT underlying3 I;have R:=DT underlying3 J;simp at K O Q R;rw[K,O,Q,R]
theorem qx(l:List Value)(i j:Nat)(h:j<4)(v:List Value)(o:(l.drop (i*4)).take 4=v):l[i*4+j]? = v[j]?:=by
 rw[<-o,List.getElem?_take_of_lt h,List.getElem?_drop]
theorem acf{W:World}{r:List (String×DataW Unit)}(h:laidMet prog (("tidegauge/wave.forms",Rows.laid_tidegauge_wave_forms)::r) W):Forms W:=by
 obtain⟨ps,⟨g0,t0,q,f0,p0,q0,G,ě,é,z,_,D⟩,_,ï⟩:=h;obtain rfl:=Option.some.inj ((show prog.globalNamed "tidegauge/wave.forms" = some 14 by kernel_rfl).symm.trans G);obtain rfl:=Option.some.inj ((show (prog.globals[14]?).map (·.type)=some 349 by kernel_rfl).symm.trans ě);have Ϧ:=λi=>World.var?_cell G é i
 obtain⟨y0,y1,y2,y3,y4,n,F,Y,Z,h2,h3,h4⟩:=TS underlying349 Tryz.cellsForm z;simp only[Rows.laid_tidegauge_wave_forms,DataW.agg.injEq,List.cons.injEq] at F;obtain⟨D,Q,R,U,V,-⟩:=F;have H:=zZ Y D.symm;have I:=zZ Z Q.symm;have J:=zZ h2 R.symm;have K:=zZ h3 U.symm;have O:=zZ h4 V.symm;have A:∀i j,i<5->j<4->q.toList[i*4+j]? = FD[i*4+j]?:=by
  intro i j hi o;rcases (by omega:i=0\/i=1\/i=2\/i=3\/i=4) with rfl|rfl|rfl|rfl|rfl
  ·rw[qx _ 0 j o _ H];rcases (by omega:j=0\/j=1\/j=2\/j=3) with rfl|rfl|rfl|rfl<;>rfl
  ·rw[qx _ 1 j o _ I];rcases (by omega:j=0\/j=1\/j=2\/j=3) with rfl|rfl|rfl|rfl<;>rfl
  ·rw[qx _ 2 j o _ J];rcases (by omega:j=0\/j=1\/j=2\/j=3) with rfl|rfl|rfl|rfl<;>rfl
  ·rw[qx _ 3 j o _ K];rcases (by omega:j=0\/j=1\/j=2\/j=3) with rfl|rfl|rfl|rfl<;>rfl
  ·rw[qx _ 4 j o _ O];rcases (by omega:j=0\/j=1\/j=2\/j=3) with rfl|rfl|rfl|rfl<;>rfl
 intro i hi;rw[Ϧ i];have:=A (i / 4) (i % 4) fM fM;rw[show i / 4*4+i % 4=i by omega] at this;simpa using this
open Go.Deep
theorem Tryz.cellsU8:prog.cellsOf 5=1:=iX
theorem mapM_at{D F:Type}(f:D->Option F):∀(l:List D) (j:List F),l.mapM f=some j->j.length=l.length/\∀i (q:i<l.length) (A:i<j.length),f l[i]=some j[i]
 | [],j,h=>by
  simp at h;subst h;exact⟨rfl,λi q=>absurd q rQ⟩
 | a::r,j,h=>by
  rw[mapM_cons] at h;cases o:f a with
  | none=>rw[o] at h;cases h
  | some b=>
   cases z:r.mapM f with
   | none=>rw[o,z] at h;cases h
   | some zs=>
    rw[o,z] at h;have e:b::zs=j:=by simpa using h
    subst e;obtain⟨G,H⟩:=mapM_at f r zs z;refine⟨by simp[G],λi q A=>?_⟩;cases i with
    | zero=>exact o
    | succ i=>exact H i (by simpa using q) (by simpa using A)
theorem TJ{H:Type}{enc:TypeId×Value->H}{P:Program}{W:World}{j:Nat}{A:Nat->Bool}{q:Bool}{t e:TypeId}{N fuel:Nat}{cs:List Value}{x:DataW H×List MemPlace}(K:P.underlying t=some (.array N e))(O:P.cellsOf e=1)
  (h:DataW.trod enc P W j A q fuel t cs=some x) :
  ∃(o:List (DataW H×List MemPlace)) (n:Nat),x.1 = .agg (o.map (·.1))/\o.length=N/\∀i (_:i<N) (D:i<o.length),DataW.trod enc P W j A q n e ((cs.drop i).take 1)=some o[i]:=by
 cases fuel with
 | zero=>simp[DataW.trod] at h
 | succ n=>
  unfold DataW.trod at h;rw[K] at h;simp only[O] at h;split at h
  ·cases z:(List.range N).mapM (λi=>DataW.trod enc P W j A q n e ((cs.drop (i*1)).take 1)) with
   | none=>rw[z] at h;cases h
   | some o=>
    rw[z] at h;have F:((DataW.agg (o.map (·.1)),o.flatMap (·.2)):DataW H×List MemPlace)=x:=by simpa using h
    obtain⟨G,I⟩:=mapM_at _ _ _ z;refine⟨o,n,by rw[<-F],by simpa using G,λi J D=>?_⟩;have:=I i (by simpa using J) D;simpa using this
  ·cases h
theorem afD{H:Type}{enc:TypeId×Value->H}{W:World}{j:Nat}{z:Nat->Bool}{o:Bool}{fuel:Nat}{cs:List Value}{n:Int}{y:DataW H×List MemPlace}
  (h:DataW.trod enc prog W j z o fuel 5 cs=some y) (q:y.1 = .lit (.int .u8 n)):cs = [.int .u8 n]:=by
 obtain⟨d,ps⟩:=y;obtain rfl:d=_:=q;obtain⟨m,rfl,e,_⟩:=DataW.trod_int underlying5 h;simp at e;rw[e.1]
def Hl:List (DataW Unit):=Lib.deBruijn64tab.map λ(n:Nat)=>.lit (.int .u8 (n:Int))
theorem ab3:(Rows.laid_math_bits_deBruijn64tab:DataW Unit) = .agg Hl:=by rfl
theorem agV{W:World}{r:List (String×DataW Unit)}(h:laidMet prog (("math/bits.deBruijn64tab",Rows.laid_math_bits_deBruijn64tab)::r) W):Tab W:=by
 obtain⟨ps,⟨g0,t0,o,f0,p0,q0,K,V,U,A,_,Z⟩,_,ï⟩:=h;obtain rfl:=Option.some.inj ((show prog.globalNamed "math/bits.deBruijn64tab" = some 16 by kernel_rfl).symm.trans K);obtain rfl:=Option.some.inj ((show (prog.globals[16]?).map (·.type)=some 370 by kernel_rfl).symm.trans V);have Y:=λi=>World.var?_cell K U i
 obtain⟨G,n,J,ϐ,R⟩:=TJ underlying370 Tryz.cellsU8 A;rw[ab3] at J;have D:Hl=G.map (·.1):=by simpa using J
 have hl:Lib.deBruijn64tab.length=64:=by rfl
 intro j I;have z:j<64:=fM
 have Q:=R j z fM;have F:(G[j]'fM).1 = .lit (.int .u8 ((Lib.deBruijn64tab.getD j 0:Nat):Int)):=by
  have q:(G.map (·.1))[j]? = Hl[j]?:=by rw[D]
  rw[List.getElem?_map,List.getElem?_eq_getElem fM] at q;unfold Hl at q;rw[List.getElem?_map,List.getElem?_eq_getElem I] at q;simp at q;rw[q];simp[I]
 have O:=afD Q F;rw[Y j];have H:((o.toList.drop j).take 1)[0]? = o.toList[j]?:=by rw[List.getElem?_take_of_lt fM,List.getElem?_drop];simp
 rw[O] at H;simpa using H.symm
theorem af8{W:World}{r:List (String×DataW Unit)}(h:laidMet prog (("internal/strconv.uint64pow10",Rows.laid_internal_strconv_uint64pow10)::r) W):Lib.TabIs prog W "internal/strconv.uint64pow10" .u64 Lib.pow10Tab:=by
 have e:(Rows.laid_internal_strconv_uint64pow10:DataW Unit)=Lib.tabData .u64 Lib.pow10Tab:=by rfl
 rw[e] at h;exact Lib.tabIs_of_head (g:=12) (t:=298) (e:=91) (n:=20) iX iX underlying298 underlying91 iX iX h
noncomputable def Lg(os:Os):World:=(World.doorLaid prog 400 os).layVars prog [("unicode/utf8.first",Rows.laid_unicode_utf8_first)]
theorem aaj(os:Os):(Lg os).os=os:=(World.layVars_os _ _ _).trans rfl
theorem Po(os:Os)(args:Array Value):((Lg os).forCall (λ_ _=>0) ⟨#[],args,[]⟩).Shaped prog:=World.shaped_of_RefB vG vG
open aD
def V5:List (String×DataW Unit):=[("tidegauge/api.ErrText",Rows.laid_tidegauge_api_ErrText),("tidegauge/api.ErrBound",Rows.laid_tidegauge_api_ErrBound),("tidegauge/api.ErrShape",Rows.laid_tidegauge_api_ErrShape),("tidegauge/api.ErrName",Rows.laid_tidegauge_api_ErrName),("tidegauge/api.ErrNone",Rows.laid_tidegauge_api_ErrNone),("tidegauge/api.ErrFull",Rows.laid_tidegauge_api_ErrFull),("tidegauge/api.ErrOld",Rows.laid_tidegauge_api_ErrOld),("tidegauge/api.ErrSum",Rows.laid_tidegauge_api_ErrSum),("tidegauge/api.ErrOff",Rows.laid_tidegauge_api_ErrOff),("tidegauge/api.ErrKind",Rows.laid_tidegauge_api_ErrKind)]
def Bb:List (String×DataW Unit):=("math/bits.deBruijn32tab",Rows.laid_math_bits_deBruijn32tab)::("math/bits.deBruijn64tab",Rows.laid_math_bits_deBruijn64tab)::("internal/strconv.uint64pow10",Rows.laid_internal_strconv_uint64pow10)::("unicode/utf8.acceptRanges",Rows.laid_unicode_utf8_acceptRanges)::("errors.errorType",Rows.laid_errors_errorType)::("strconv.ErrRange",Rows.laid_strconv_ErrRange)::("strconv.ErrSyntax",Rows.laid_strconv_ErrSyntax)::(V5 ++ [("tidegauge/wave.forms",Rows.laid_tidegauge_wave_forms),("unicode/utf8.first",Rows.laid_unicode_utf8_first)])
theorem YF{W:World}(h:laidMetH prog Bb W)(mx:Int)(H:W.cell? ⟨13,0,none⟩=some (.int .i64 mx)):∃ea T,oP W.heap.size ea T W:=by
 have e1:(Bb.filter λx=>x.2.handleName?.isNone)=("math/bits.deBruijn32tab",Rows.laid_math_bits_deBruijn32tab)::("math/bits.deBruijn64tab",Rows.laid_math_bits_deBruijn64tab)::("internal/strconv.uint64pow10",Rows.laid_internal_strconv_uint64pow10)::("unicode/utf8.acceptRanges",Rows.laid_unicode_utf8_acceptRanges)::("strconv.ErrRange",Rows.laid_strconv_ErrRange)::("strconv.ErrSyntax",Rows.laid_strconv_ErrSyntax)::(V5 ++ [("tidegauge/wave.forms",Rows.laid_tidegauge_wave_forms),("unicode/utf8.first",Rows.laid_unicode_utf8_first)]):=iX;have e2:(Bb.filter λx=>x.2.handleName?.isSome) = [("errors.errorType",Rows.laid_errors_errorType)]:=iX;have h':=laidMetH_iff.1 h;rw[e1,e2] at h';obtain⟨hL,hH⟩:=h';have ht:=YM hH;have Ü:11<W.heap.size:=World.block_lt_of_cell? W ⟨11,0,none⟩ ht;have O:=agV hL.tail;have hP:=af8 hL.tail.tail;have hL:=hL.tail.tail.tail.tail;clear h e1 e2 hH;obtain⟨ar,sr,cr,dr,xr,pr,hL⟩:=iY hL (g:=20) iX iX underlying25 Tryz.rowES underlying397 underlying399 rfl rfl underlying9 Tryz.cellsES Tryz.cellsStr;obtain⟨ay,sy,cy,dy,xy,py,hL⟩:=iY hL (g:=19) iX iX underlying25 Tryz.rowES underlying397 underlying399 rfl rfl underlying9 Tryz.cellsES Tryz.cellsStr;obtain⟨Y,s0,D,d0,x0,p0,hL⟩:=iY hL (g:=1) iX iX underlying25 Tryz.rowES underlying397 underlying399 rfl rfl underlying9 Tryz.cellsES Tryz.cellsStr;obtain⟨a1,s1,o,d1,x1,p1,hL⟩:=iY hL (g:=0) iX iX underlying25 Tryz.rowES underlying397 underlying399 rfl rfl underlying9 Tryz.cellsES Tryz.cellsStr;obtain⟨a2,s2,q,d2,x2,p2,hL⟩:=iY hL (g:=2) iX iX underlying25 Tryz.rowES underlying397 underlying399 rfl rfl underlying9 Tryz.cellsES Tryz.cellsStr;obtain⟨a3,s3,z,d3,x3,p3,hL⟩:=iY hL (g:=3) iX iX underlying25 Tryz.rowES underlying397 underlying399 rfl rfl underlying9 Tryz.cellsES Tryz.cellsStr;obtain⟨Z,s4,A,K,x4,p4,hL⟩:=iY hL (g:=4) iX iX underlying25 Tryz.rowES underlying397 underlying399 rfl rfl underlying9 Tryz.cellsES Tryz.cellsStr;obtain⟨a6,s6,J,d6,x6,p6,hL⟩:=iY hL (g:=6) iX iX underlying25 Tryz.rowES underlying397 underlying399 rfl rfl underlying9 Tryz.cellsES Tryz.cellsStr;obtain⟨a7,s7,R,d7,x7,p7,hL⟩:=iY hL (g:=7) iX iX underlying25 Tryz.rowES underlying397 underlying399 rfl rfl underlying9 Tryz.cellsES Tryz.cellsStr;obtain⟨a8,s8,c8,d8,x8,p8,hL⟩:=iY hL (g:=8) iX iX underlying25 Tryz.rowES underlying397 underlying399 rfl rfl underlying9 Tryz.cellsES Tryz.cellsStr;obtain⟨a9,s9,c9,d9,x9,p9,hL⟩:=iY hL (g:=9) iX iX underlying25 Tryz.rowES underlying397 underlying399 rfl rfl underlying9 Tryz.cellsES Tryz.cellsStr;obtain⟨Q,V,F,G,x10,p10,hL⟩:=iY hL (g:=10) iX iX underlying25 Tryz.rowES underlying397 underlying399 rfl rfl underlying9 Tryz.cellsES Tryz.cellsStr;have hF:=acf hL;have lt:∀ {g:Nat} {v:Value},W.cell? ⟨g,0,none⟩=some v->g<W.heap.size:=fun {g v} h=>World.block_lt_of_cell? W ⟨g,0,none⟩ h
 have j:∀ {a:Addr} {v:Value},W.cell? a=some v->a.block<W.heap.size:=fun {a v} h=>World.block_lt_of_cell? W a h
 refine⟨λi=>([Y,a1,a2,a3,Z,Z,a6,a7,a8,a9,Q]:List Addr).getD i Y,λi=>(([s0,s1,s2,s3,s4,s4,s6,s7,s8,s9,V]:List ByteArray).getD i s0).data.toList,⟨⟨⟨o,q,z,A,F,λg I=>?_⟩,⟨⟨⟨D,o,q,z,A,J,R,λg I=>?_⟩,⟨D,o,q,z,A,J,c9,O,Lib.tabBelow_of_tabIs hP,⟨⟨_,_,cy⟩,⟨_,_,cr⟩⟩,?_⟩⟩,⟨⟨D,o,A,R,c8,ht,Ü⟩,q,z,hF,O,hF.lt,O.lt⟩⟩⟩,λm U=>?_,λm U=>?_,⟨mx,H⟩,lt H⟩⟩
 ·simp only[mem_cons,not_mem_nil,or_false] at I;rcases I with rfl|rfl|rfl|rfl|rfl
  ·exact lt o
  ·exact lt q
  ·exact lt z
  ·exact lt A
  ·exact lt F
 ·simp only[mem_cons,not_mem_nil,or_false] at I;rcases I with rfl|rfl|rfl|rfl|rfl|rfl|rfl
  ·exact lt D
  ·exact lt o
  ·exact lt q
  ·exact lt z
  ·exact lt A
  ·exact lt J
  ·exact lt R
 ·exact⟨lt D,lt o,lt q,lt z,lt A,lt J,lt c9,O.lt,lt cy,lt cr⟩
 ·match m,U with
  | 0,_=>exact d0
  | 1,_=>exact d1
  | 2,_=>exact d2
  | 3,_=>exact d3
  | 4,_=>exact K
  | 5,_=>exact K
  | 6,_=>exact d6
  | 7,_=>exact d7
  | 8,_=>exact d8
  | 9,_=>exact d9
  | 10,_=>exact G
 ·match m,U with
  | 0,_=>exact j d0
  | 1,_=>exact j d1
  | 2,_=>exact j d2
  | 3,_=>exact j d3
  | 4,_=>exact j K
  | 5,_=>exact j K
  | 6,_=>exact j d6
  | 7,_=>exact j d7
  | 8,_=>exact j d8
  | 9,_=>exact j d9
  | 10,_=>exact j G
theorem agN(os:Os)(args:Array Value):laidMetH prog Bb ((Lg os).forCall (λ_ _=>0) ⟨#[],args,[]⟩).memory:=
 laidMetH_of_parts3 (fuel:=8) (laidMet_of_run3 8 vG vG vG) vG vG
theorem He(os:Os)(A:os.Started)(H:Type)(enc:TypeId×Value->H):
  ReturnsInHanded {} Tryz.checked os 4 .any (λw args=>(Rows.scriptAgainSpec.pre enc prog Tryz.f4 [] false w args/\laidMetH prog Bb w)/\sizedMet enc prog Tryz.f4 (OpenSpec.ofChange Rows.scriptAgainSpec) false w args)
   (Rows.scriptAgainSpec.post enc prog Tryz.f4 false true false false):=by
 refine returnsInHanded_of_calls Tryz.own A iX (ChangeSpec.witness_shaped (enc:=enc) (C:=Tryz.checked) (os:=os) (X:=λw _=>laidMetH prog Bb w) false (Lg os) #[.slice none 0 0,.int .i64 0] 8 (aaj os) (Po os _) iX iX iX (agN os _)) ?_;intro w o i _ ζ _ ϲ Ľ _;obtain⟨_,_,_,Q,D,_,_,_,_,z⟩:=ϲ;obtain rfl:Q=Tryz.f4:=Option.some.inj (D.symm.trans func4);obtain⟨⟨⟨ds,gs,J,Z,_⟩,hx⟩,hz⟩:=Ľ;have hW:=DataW.Whole.of_heap (w':=w.forCall o i) (by rfl) Z;have hwt:=hz.weights Z;have hL:laidMetH prog Bb (w.forCall o i):=hx.of_heap (by rfl);suffices hS:Calls prog 4 i.args (w.forCall o i) λe K=>∃v,e = .returned v/\Rows.scriptAgainSpec.post enc prog Tryz.f4 false true false false (w.forCall o i) i.args v K from hS.mono λe K ⟨v,Y,hp⟩=>by
  subst Y;exact ChangeSpec.post_blind hp
 clear Z hx hz D;generalize w.heap.size=G at z;generalize w.forCall o i=W at *;generalize i.args=args at *;have ķ:∀(j:Nat) t v,Tryz.f4.params[j]? = some t->args[j]? = some v->Value.okWide prog W .any G t v:=z;have U:=hW;obtain⟨p,q,VZ,hV,rfl,hfz,Ŕ⟩:=hW;have hA:DataW.TrodAll enc prog W 0 (λ_=>true) true Tryz.f4.params.toList args.toList ds p:=VZ;rw[Tryz.params4] at hA ķ;obtain⟨v0,vs0,d0,ds0,p0,q0,V,rfl,rfl,h0,r0⟩:=trodAll_cons hA;obtain⟨v1,vs1,d1,ds1,p1,q1,rfl,rfl,rfl,h1,r1⟩:=trodAll_cons r0;obtain⟨rfl,rfl,rfl⟩:=trodAll_nil r1;obtain rfl:args=#[v0,v1]:=by cases args;simp_all
 obtain⟨rfl,rfl⟩:=trodVars_none hV;obtain⟨a0,O,I,rfl⟩:=okWide_slice underlying33 (ķ 0 33 v0 rfl rfl);have k0:=h0;have lt0:∀x∈p0,x.block<W.heap.size:=by obtain⟨m,hm⟩:=k0;exact DataW.trod_lt m _ _ _ hm
 obtain⟨n1,rfl,rfl,rfl,wn1⟩:=open_int underlying3 (ķ 1 3 v1 rfl rfl) h1;obtain⟨aru,F⟩:=h0;simp only[Value.cells] at F;obtain⟨A0,K4⟩:=abQ F;have l0:=Qe underlying33 F;obtain⟨mx,R⟩:=cell_of_shapedOpen_int (g:=13) (t:=3) (zero:=#[.int .i64 0]) ζ (of_decide_eq_true iX) iX rfl iX iX underlying3;obtain⟨ea,T,EQ⟩:=YF hL mx R;clear VZ z;refine (UO W EQ (Nat.le_refl _) a0 O I A0 K4 l0 n1).mono λe K ⟨Y,aI⟩=>?_
 subst Y;exact⟨_,rfl,_,_,_,[],_,[],U,trodAll_mk1 (shut_bool underlying4 _),(trodAll_cons_mk (Below.trod Tryz.laidOut iX (of_decide_eq_true iX) k0 aI lt0) (trodAll_cons_mk (shut_int underlying3 wn1) trodAll_mk0)),rfl,aI.frame _,λh=>by cases h⟩
theorem Ie:joinedFacts prog 4 Tryz.f4 Rows.scriptAgainSpec Rows.scriptAgainRow=true:=by
 unfold joinedFacts;repeat' (with_reducible refine Bool.and_eq_true_iff.2 ⟨?_,?_⟩)
 all_goals (as_aux_lemma=>kernel_rfl)
theorem Ig:Rows.ScriptAgainSaid:=
 OpenClaim.holds_of_wide 4 Tryz.f4 rfl rfl rfl rfl rfl rfl rfl ⟨rfl,rfl,rfl,rfl,rfl⟩ rfl rfl rfl rfl rfl vG func4 Ie
  (of_decide_eq_true vG) (by unfold Func.isWrapper;rw[if_neg (of_decide_eq_false vG)];exact⟨rfl,rfl⟩)
  (λos j H enc _=>He os j H enc)
theorem scriptAgain_card:Rows.ScriptAgainCardSaid:=
 Claim7.holds_tied_plain_at .later [] _ _ _ _
  Ig (λ_ h=>by cases h) vG (λ_ h=>by cases h) scriptAgain_row_tie rfl ⟨rfl,rfl⟩ vG rfl
  (λf fn hf ŋ=>by
   obtain rfl:f=4:=Option.some.inj ((show prog.funcNamed "tidegauge/tidegaugelaw3.ScriptAgain" = some 4 by as_aux_lemma=>kernel_rfl).symm.trans hf) |>.symm;obtain rfl:fn=Tryz.f4:=(Option.some.inj (func4.symm.trans ŋ)).symm;exact⟨vG,λj t ht=>by
    rw[Tryz.params4] at ht;have h3:t=33\/t=3:=by
     rcases j with _|_|j
     ·exact .inl (by simpa using ht.symm)
     ·exact .inr (by simpa using ht.symm)
     ·simp at ht
    rcases h3 with rfl|rfl
    ·exact (show prog.wantsStandIn 33=false by as_aux_lemma=>kernel_rfl)
    ·exact (show prog.wantsStandIn 3=false by as_aux_lemma=>kernel_rfl)⟩)
  vG
#print axioms scriptAgain_card
