import Derived.Test.YtnonoiafongllaaGreatDoorWE
import Derived.Test.YtnonoiafongllaaGreatDoorB
import Derived.Lib.SmallJoins
import Derived.Test.YtnonoiafongllaaGreatDoorD
set_option maxRecDepth 100000
set_option maxHeartbeats 4000000
open Nat (le_refl le_trans lt_of_lt_of_le lt_or_ge not_lt_zero sub_self zero_add)
open List
open Go.Proofs.Tryz
namespace Go.Proofs.YtnonoiafongllaaGreatDoor
open Go.ChangeShapes Go.WideShapes Go.ChangeAt Go.RowKit
theorem Tryz.cellsForm:prog.cellsOf 209=4:=bH
theorem Tryz.cellsInt:prog.cellsOf 3=1:=bH
theorem Tryz.cellsU64:prog.cellsOf 53=1:=bH
theorem zK{H:Type}{enc:TypeId×Value->H}{W:World}{base:Nat}{U:Nat->Bool}{I:Bool}{fuel:Nat}{t:TypeId}{k:IntKind}{cs:List Value}{n:Int}{M:List MemPlace}
  (J:prog.underlying t=some (.int k)) (h:DataW.trod enc prog W base U I fuel t cs=some (.lit (.int k n),M)):cs = [.int k n]:=by
 obtain⟨m,rfl,e,_⟩:=DataW.trod_int J h;simp at e;rw[e.1]
theorem Ye{e:Type}{l:List e}(h:l.length=4):∃a b c d,l = [a,b,c,d]:=by
 match l,h with
 | [a,b,c,d],_=>exact⟨a,b,c,d,rfl⟩
theorem NY{H:Type}{enc:TypeId×Value->H}{P:Program}{W:World}{base:Nat}{J:Nat->Bool}{I:Bool}{t e:TypeId}{fuel:Nat}{cs:List Value}{x:DataW H×List MemPlace}(ht:P.underlying t=some (.array 5 e))(hce:P.cellsOf e=4)
  (h:DataW.trod enc P W base J I fuel t cs=some x) :
  ∃M U Z y3 y4 n,x.1 = .agg [M.1,U.1,Z.1,y3.1,y4.1]/\DataW.trod enc P W base J I n e ((cs.drop (0*4)).take 4)=some M/\DataW.trod enc P W base J I n e ((cs.drop (1*4)).take 4)=some U/\DataW.trod enc P W base J I n e ((cs.drop (2*4)).take 4)=some Z/\DataW.trod enc P W base J I n e ((cs.drop (3*4)).take 4)=some y3/\DataW.trod enc P W base J I n e ((cs.drop (4*4)).take 4)=some y4:=by
 cases fuel with
 | zero=>simp[DataW.trod] at h
 | succ n=>
  unfold DataW.trod at h;rw[ht] at h;have r5:List.range 5 = [0,1,2,3,4]:=rfl;simp only[r5,hce,mapM_cons,mapM_nil] at h;split at h
  ·generalize h0:DataW.trod enc P W base J I n e ((cs.drop (0*4)).take 4)=o0 at h;generalize h1:DataW.trod enc P W base J I n e ((cs.drop (1*4)).take 4)=o1 at h;generalize h2:DataW.trod enc P W base J I n e ((cs.drop (2*4)).take 4)=o2 at h;generalize h3:DataW.trod enc P W base J I n e ((cs.drop (3*4)).take 4)=o3 at h;generalize h4:DataW.trod enc P W base J I n e ((cs.drop (4*4)).take 4)=o4 at h;cases o0 with
   | none=>simp at h
   | some M=>
    cases o1 with
    | none=>simp at h
    | some U=>
     cases o2 with
     | none=>simp at h
     | some Z=>
      cases o3 with
      | none=>simp at h
      | some y3=>
       cases o4 with
       | none=>simp at h
       | some y4=>
        simp at h;exact⟨M,U,Z,y3,y4,n,by rw[<-h],h0,h1,h2,h3,h4⟩
  ·cases h
theorem vO{H:Type}{enc:TypeId×Value->H}{W:World}{base:Nat}{sp:Nat->Bool}{hd:Bool}{fuel:Nat}{cs:List Value}{m a wd sh:Int}{y:DataW H×List MemPlace}
  (h:DataW.trod enc prog W base sp hd fuel 209 cs=some y) (hy:y.1 = .agg [.lit (.int .u64 m),.lit (.int .i64 a),.lit (.int .i64 wd),.lit (.int .i64 sh)]):cs = [.int .u64 m,.int .i64 a,.int .i64 wd,.int .i64 sh]:=by
 obtain⟨xs,n,-,rfl,hl,ϕ,e⟩:=DataW.trod_struct underlying209 h;rw[Tryz.cellsForm] at hl;obtain⟨c0,c1,c2,c3,rfl⟩:=Ye hl;obtain⟨y0,y1,y2,y3,rfl⟩:=Ye ϕ;simp at hy;obtain⟨I,J,M,U⟩:=hy;have f0:=e 0 _ rfl;have Z:=e 1 _ rfl;have f2:=e 2 _ rfl;have f3:=e 3 _ rfl;simp[Tryz.cellsInt,Tryz.cellsU64] at f0 Z f2 f3;obtain⟨d0,p0⟩:=y0;obtain⟨d1,p1⟩:=y1;obtain⟨d2,p2⟩:=y2;obtain⟨d3,p3⟩:=y3;simp only at I J M U;subst I J M U;have g0:=zK underlying53 f0;have g1:=zK underlying3 Z;have g2:=zK underlying3 f2;have g3:=zK underlying3 f3;simp at g0 g1 g2 g3;rw[g0,g1,g2,g3]
theorem mF(l:List Value)(i j:Nat)(h:j<4)(v:List Value)(e:(l.drop (i*4)).take 4=v):l[i*4+j]? = v[j]?:=by
 rw[<-e,List.getElem?_take_of_lt h,List.getElem?_drop]
theorem V6{W:World}{r:List (String×DataW Unit)}(h:laidMet prog (("tidegauge/wave.forms",Rows.laid_tidegauge_wave_forms)::r) W):Forms W:=by
 obtain⟨ps,⟨g0,t0,cs0,f0,p0,q0,U,ď,ñ,H,_,J⟩,_,ō⟩:=h;obtain rfl:=Option.some.inj ((show prog.globalNamed "tidegauge/wave.forms" = some 12 by kernel_rfl).symm.trans U);obtain rfl:=Option.some.inj ((show (prog.globals[12]?).map (·.type)=some 228 by kernel_rfl).symm.trans ď);have Ϙ:=λi=>World.var?_cell U ñ i
 obtain⟨y0,y1,y2,y3,y4,n,M,h0,h1,h2,h3,h4⟩:=NY underlying228 Tryz.cellsForm H;simp only[Rows.laid_tidegauge_wave_forms,DataW.agg.injEq,List.cons.injEq] at M;obtain⟨J,e1,e2,e3,e4,-⟩:=M;have Z:=vO h0 J.symm;have c1:=vO h1 e1.symm;have c2:=vO h2 e2.symm;have c3:=vO h3 e3.symm;have c4:=vO h4 e4.symm;have I:∀i j,i<5->j<4->cs0.toList[i*4+j]? = fK[i*4+j]?:=by
  intro i j hi e;rcases (by omega:i=0\/i=1\/i=2\/i=3\/i=4) with rfl|rfl|rfl|rfl|rfl
  ·rw[mF _ 0 j e _ Z];rcases (by omega:j=0\/j=1\/j=2\/j=3) with rfl|rfl|rfl|rfl<;>rfl
  ·rw[mF _ 1 j e _ c1];rcases (by omega:j=0\/j=1\/j=2\/j=3) with rfl|rfl|rfl|rfl<;>rfl
  ·rw[mF _ 2 j e _ c2];rcases (by omega:j=0\/j=1\/j=2\/j=3) with rfl|rfl|rfl|rfl<;>rfl
  ·rw[mF _ 3 j e _ c3];rcases (by omega:j=0\/j=1\/j=2\/j=3) with rfl|rfl|rfl|rfl<;>rfl
  ·rw[mF _ 4 j e _ c4];rcases (by omega:j=0\/j=1\/j=2\/j=3) with rfl|rfl|rfl|rfl<;>rfl
 intro i hi;rw[Ϙ i];have:=I (i / 4) (i % 4) aV aV;rw[show i / 4*4+i % 4=i by omega] at this;simpa using this
open Go.Deep
theorem Tryz.cellsU8:prog.cellsOf 5=1:=bH
theorem mapM_at{U Z:Type}(f:U->Option Z):∀(l:List U) (H:List Z),l.mapM f=some H->H.length=l.length/\∀i (J:i<l.length) (M:i<H.length),f l[i]=some H[i]
 | [],H,h=>by
  simp at h;subst h;exact⟨rfl,λi J=>absurd J dY⟩
 | a::r,H,h=>by
  rw[mapM_cons] at h;cases I:f a with
  | none=>rw[I] at h;cases h
  | some b=>
   cases hr:r.mapM f with
   | none=>rw[I,hr] at h;cases h
   | some zs=>
    rw[I,hr] at h;have e:b::zs=H:=by simpa using h
    subst e;obtain⟨h1,h2⟩:=mapM_at f r zs hr;refine⟨by simp[h1],λi J M=>?_⟩;cases i with
    | zero=>exact I
    | succ i=>exact h2 i (by simpa using J) (by simpa using M)
theorem NU{H:Type}{enc:TypeId×Value->H}{P:Program}{W:World}{base:Nat}{Z:Nat->Bool}{M:Bool}{t e:TypeId}{N fuel:Nat}{cs:List Value}{x:DataW H×List MemPlace}(ht:P.underlying t=some (.array N e))(J:P.cellsOf e=1)
  (h:DataW.trod enc P W base Z M fuel t cs=some x) :
  ∃(I:List (DataW H×List MemPlace)) (n:Nat),x.1 = .agg (I.map (·.1))/\I.length=N/\∀i (_:i<N) (hj:i<I.length),DataW.trod enc P W base Z M n e ((cs.drop i).take 1)=some I[i]:=by
 cases fuel with
 | zero=>simp[DataW.trod] at h
 | succ n=>
  unfold DataW.trod at h;rw[ht] at h;simp only[J] at h;split at h
  ·cases U:(List.range N).mapM (λi=>DataW.trod enc P W base Z M n e ((cs.drop (i*1)).take 1)) with
   | none=>rw[U] at h;cases h
   | some I=>
    rw[U] at h;have e1:((DataW.agg (I.map (·.1)),I.flatMap (·.2)):DataW H×List MemPlace)=x:=by simpa using h
    obtain⟨h1,h2⟩:=mapM_at _ _ _ U;refine⟨I,n,by rw[<-e1],by simpa using h1,λi hi hj=>?_⟩;have:=h2 i (by simpa using hi) hj;simpa using this
  ·cases h
theorem Zq{H:Type}{enc:TypeId×Value->H}{W:World}{base:Nat}{M:Nat->Bool}{I:Bool}{fuel:Nat}{cs:List Value}{n:Int}{y:DataW H×List MemPlace}
  (h:DataW.trod enc prog W base M I fuel 5 cs=some y) (J:y.1 = .lit (.int .u8 n)):cs = [.int .u8 n]:=by
 obtain⟨d,U⟩:=y;obtain rfl:d=_:=J;obtain⟨m,rfl,e,_⟩:=DataW.trod_int underlying5 h;simp at e;rw[e.1]
def Dh:List (DataW Unit):=Lib.deBruijn64tab.map λ(n:Nat)=>.lit (.int .u8 (n:Int))
theorem VT:(Rows.laid_math_bits_deBruijn64tab:DataW Unit) = .agg Dh:=by rfl
theorem aaP{W:World}{r:List (String×DataW Unit)}(h:laidMet prog (("math/bits.deBruijn64tab",Rows.laid_math_bits_deBruijn64tab)::r) W):Tab W:=by
 obtain⟨ps,⟨g0,t0,cs0,f0,p0,q0,ô,ď,ñ,I,_,e0⟩,_,ō⟩:=h;obtain rfl:=Option.some.inj ((show prog.globalNamed "math/bits.deBruijn64tab" = some 13 by kernel_rfl).symm.trans ô);obtain rfl:=Option.some.inj ((show (prog.globals[13]?).map (·.type)=some 234 by kernel_rfl).symm.trans ď);have Ϙ:=λi=>World.var?_cell ô ñ i
 obtain⟨U,n,hx,ϕ,ϯ⟩:=NU underlying234 Tryz.cellsU8 I;rw[VT] at hx;have J:Dh=U.map (·.1):=by simpa using hx
 have hl:Lib.deBruijn64tab.length=64:=by rfl
 intro j hj;have H:j<64:=aV
 have hy:=ϯ j H aV;have M:(U[j]'aV).1 = .lit (.int .u8 ((Lib.deBruijn64tab.getD j 0:Nat):Int)):=by
  have e:(U.map (·.1))[j]? = Dh[j]?:=by rw[J]
  rw[List.getElem?_map,List.getElem?_eq_getElem aV] at e;unfold Dh at e;rw[List.getElem?_map,List.getElem?_eq_getElem hj] at e;simp at e;rw[e];simp[hj]
 have hc:=Zq hy M;rw[Ϙ j];have Z:((cs0.toList.drop j).take 1)[0]? = cs0.toList[j]?:=by rw[List.getElem?_take_of_lt aV,List.getElem?_drop];simp
 rw[hc] at Z;simpa using Z.symm
def lX:List (String×DataW Unit):=("math/bits.deBruijn64tab",Rows.laid_math_bits_deBruijn64tab)::("errors.errorType",Rows.laid_errors_errorType)::(Kt ++ [("tidegauge/wave.forms",Rows.laid_tidegauge_wave_forms)])
theorem NZ{W:World}(h:laidMetH prog lX W):laidMet prog (("math/bits.deBruijn64tab",Rows.laid_math_bits_deBruijn64tab)::(Kt ++ [("tidegauge/wave.forms",Rows.laid_tidegauge_wave_forms)])) W/\handlesMet prog [("errors.errorType",Rows.laid_errors_errorType)] W:=by
 have e:(lX.filter λx=>x.2.handleName?.isNone)=("math/bits.deBruijn64tab",Rows.laid_math_bits_deBruijn64tab)::(Kt ++ [("tidegauge/wave.forms",Rows.laid_tidegauge_wave_forms)]):=bH;have H:(lX.filter λx=>x.2.handleName?.isSome) = [("errors.errorType",Rows.laid_errors_errorType)]:=bH;have h':=laidMetH_iff.1 h;rw[e,H] at h';exact h'
theorem QA(os:Os)(args:Array Value):laidMetH prog lX ((World.doorLaid prog 400 os).forCall (λ_ _=>0) ⟨#[],args,[]⟩).memory:=
 laidMetH_of_parts3 (fuel:=8) (laidMet_of_run' 8 bH bH) bH bH
open Go.Maps
theorem D5{H:Type}{P:Program}{e:TypeId}:∀ {l:List (DataW H)} {d:DataW H},d∈l->∀ {z:Nat},z∈d.weights P e->z∈DataW.weightsAll P e l
 | [],_,h,_,_=>absurd h not_mem_nil
 | c::r,d,h,z,hz=>by
  rw[DataW.weightsAll];rcases mem_cons.1 h with rfl|h
  ·exact mem_append.2 (.inl hz)
  ·exact mem_append.2 (.inr (D5 h hz))
theorem J5{H:Type}{P:Program}{t e:TypeId}(J:P.underlying t=some (.slice e)){l s:List (DataW H)}{d:DataW H}(I:d∈l){z:Nat}(M:z∈d.weights P e):z∈(DataW.slice l s).weights P t:=by
 rw[DataW.weights,J];exact mem_cons.2 (.inr (mem_append.2 (.inl (D5 I M))))
open Go Go.Conc Px
theorem add_block(a:Addr)(n:Nat):(a.add n).block=a.block:=by unfold Addr.add;split<;>rfl
theorem adK{H:Type}{enc:TypeId×Value->H}{W:World}{hd:Bool}{fuel:Nat}{t e:TypeId}{a:Option Addr}{len cap:Nat}{x:DataW H×List MemPlace}
  (ht:prog.underlying t=some (.slice e)) (he:prog.cellsOf e≠0) (h:DataW.trod enc prog W 0 (λ_=>true) hd fuel t [.slice a len cap]=some x) :
  ∀ad,a=some ad->(∃M u z,W.heap[ad.block]? = some (.cells M u z))\/(len=0/\cap=0):=by
 rcases open_slice ht h with⟨ϡ,_⟩|⟨b,l,c,m,n,D,Pl,ϡ,_,hl,_,hm,_,hx⟩
 ·simp at ϡ;obtain⟨rfl,rfl,rfl⟩:=ϡ;intro ad h;cases h
 ·simp at ϡ;obtain⟨rfl,rfl,rfl⟩:=ϡ;intro ad J;cases J;by_cases h0:cap=0
  ·exact .inr ⟨aV,h0⟩
  ·obtain⟨I,h1,_⟩:=hx 0 (by rw[hm];simp;omega);obtain⟨_,h2,h3⟩:=World.cells?_some h1;have U:=h3 0 aV;obtain⟨v,hv⟩:∃v,I[0]? = some v:=⟨I[0]'aV,dY⟩;rw[hv] at U;obtain⟨_,M,u,z,Z⟩:=Az U;rw[add_block,add_block] at Z;exact .inl ⟨M,u,z,Z⟩
theorem XV:((List.range 14).map λg=>(((begin prog (λ_ _=>0) default).world.heap[g]?).bind Obj.row?).map λx=>x.1.size) = [some 1,some 1,some 1,some 1,some 1,some 1,some 1,some 1,some 1,some 1,some 1,some 1,some 20,some 64]:=bH
theorem aaz(P:Program):(begin P (λ_ _=>0) default).world.heap[P.globals.size]? = some (.cells ((Array.range P.types.size).map λt=>.int .u64 (Int.ofNat t)) 0):=by
 have h:∀(a:Array Obj) (x y z u v:Obj),a.size=P.globals.size->(((((a.push x).push y).push z).push u).push v)[P.globals.size]? = some x:=by
  intro a x y z u v h;rw[<-h];simp only[Array.getElem?_push,Array.size_push];rw[if_neg aV,if_neg aV,if_neg aV,if_neg aV];simp
 exact h _ _ _ _ _ _ dY
theorem XW(P:Program):(begin P (λ_ _=>0) default).world.heap.size=P.globals.size+5:=by
 simp[begin]
theorem Tryz.nglob:prog.globals.size=14:=bH
def AJ:List Nat:=[1,1,1,1,1,1,1,1,1,1,1,1,20,64]
theorem P9{W:World}(hS:World.ShapedOpen prog W){g s:Nat}(J:AJ[g]? = some s):∃cs t,W.heap[g]? = some (.cells cs t (0,0))/\cs.size=s:=by
 have hl:g<14:=by
  have:=(List.getElem?_eq_some_iff.1 J).1;simpa [AJ] using this
 have I:=congrArg (λl=>l[g]?) XV;have M:([some 1,some 1,some 1,some 1,some 1,some 1,some 1,some 1,some 1,some 1,some 1,some 1,some 20,some 64]:List (Option Nat))[g]? = some (some s):=by
  have e:([some 1,some 1,some 1,some 1,some 1,some 1,some 1,some 1,some 1,some 1,some 1,some 1,some 20,some 64]:List (Option Nat))=AJ.map some:=rfl;rw[e,List.getElem?_map,J];rfl
 rw[M,List.getElem?_map,List.getElem?_range hl] at I;have H:(((begin prog (λ_ _=>0) default).world.heap[g]?).bind Obj.row?).map (λx=>x.1.size)=some s:=Option.some.inj I;generalize hr:((begin prog (λ_ _=>0) default).world.heap[g]?).bind Obj.row? = r at H;cases r with
 | none=>cases H
 | some p=>
  obtain⟨zero,t⟩:=p;obtain⟨cs,e,U,_⟩:=hS.1 g zero t (by rw[Tryz.nglob];exact hl) hr;exact⟨cs,t,e,U.trans (Option.some.inj H)⟩
theorem Qa{W:World}(hS:World.ShapedOpen prog W):W.heap[14]? = some (.cells ((Array.range prog.types.size).map λt=>.int .u64 (Int.ofNat t)) 0):=by
 have J:=aaz prog;obtain⟨o,M,H,I,e⟩:=hS.2 prog.globals.size (le_refl _) (by rw[XW];omega);rw[J] at I;cases I;rw[sub_self] at e;rw[if_neg (show ¬ World.looseAt 0=true by decide)] at e;subst e;rw[Tryz.nglob] at H;exact H
def isInt:Value->Bool
 | .int _ _=>true
 | _=>false
theorem ND{l:List Value}(h:l.all isInt=true){i:Nat}{v:Value}(e:l[i]? = some v):∃k n,v = .int k n:=by
 have:=all_eq_true.1 h v (mem_of_getElem? e);cases v<;>first|exact⟨_,_,rfl⟩|cases this
theorem XY{W:World}{g:Nat}{e:Array Value}{t:TypeId}{H:Nat×Nat}(h:W.heap[g]? = some (.cells e t H))(i:Nat):W.cell? ⟨g,i,none⟩=e[i]?:=by simp[World.cell?,h]
theorem NG{W:World}(hS:World.ShapedOpen prog W){ea:Nat->Addr}(E:Env W.heap.size ea W)(hF:Forms W)(hT:Tab W){b:Nat}(U:b<=14){Z:Array Value}{t:TypeId}{fr:Nat×Nat}(h:W.heap[b]? = some (.cells Z t fr)){i:Nat}{v:Value}(H:Z[i]? = some v):
  (∃k,k<11/\v = .iface 235 (.pointer (some (ea k))))\/v = .iface 192 (.agg #[.pointer (some ⟨14,28,none⟩)])\/∃k n,v = .int k n:=by
 have I:∀s,AJ[b]? = some s->i<s:=λs M=>by
  obtain⟨cs,t',e,hz⟩:=P9 hS M;rw[h] at e;cases e;rw[<-hz];exact (Array.getElem?_eq_some_iff.1 H).1
 have hc:=(XY h i).trans H;have one:AJ[b]? = some 1->∀u,W.cell? ⟨b,0,none⟩=some u->v=u:=λM u hu=>by
  obtain rfl:i=0:=by have:=I _ M;omega
  exact Option.some.inj (hc.symm.trans hu)
 match b,U,I,hc,one,h with
 | 0,_,_,_,one,_=>exact .inl ⟨_,bM,one rfl _ E.c0⟩
 | 1,_,_,_,one,_=>exact .inl ⟨_,bM,one rfl _ E.c8⟩
 | 2,_,_,_,one,_=>exact .inl ⟨_,bM,one rfl _ E.c2⟩
 | 3,_,_,_,one,_=>exact .inl ⟨_,bM,one rfl _ E.c1⟩
 | 4,_,_,_,one,_=>exact .inl ⟨_,bM,one rfl _ E.c3⟩
 | 5,_,_,_,one,_=>exact .inl ⟨_,bM,one rfl _ E.c4⟩
 | 6,_,_,_,one,_=>exact .inl ⟨_,bM,one rfl _ E.c5⟩
 | 7,_,_,_,one,_=>exact .inl ⟨_,bM,one rfl _ E.c6⟩
 | 8,_,_,_,one,_=>exact .inl ⟨_,bM,one rfl _ E.c7⟩
 | 9,_,_,_,one,_=>exact .inl ⟨_,bM,one rfl _ E.c9⟩
 | 10,_,_,_,one,_=>exact .inl ⟨_,bM,one rfl _ E.c10⟩
 | 11,_,_,_,one,_=>exact .inr (.inl (one rfl _ E.typ))
 | 12,_,I,hc,_,_=>
  have J:=hF i (I _ rfl);exact .inr (.inr (ND (l:=fK) bH (J.symm.trans hc)))
 | 13,_,I,hc,_,_=>
  have J:=hT i (I _ rfl);exact .inr (.inr ⟨_,_,Option.some.inj (hc.symm.trans J)⟩)
 | 14,_,_,_,_,h=>
  rw[Qa hS] at h;cases h;rw[Array.getElem?_map] at H;cases hr:(Array.range prog.types.size)[i]? with
  | none=>rw[hr] at H;cases H
  | some u=>rw[hr] at H;exact .inr (.inr ⟨_,_,(Option.some.inj H).symm⟩)
 | b+15,U,_,_,_,_=>omega
theorem Vw{W:World}(hS:World.ShapedOpen prog W){b:Nat}(J:b<=14):∃I t H,W.heap[b]? = some (.cells I t H):=by
 by_cases h:b=14
 ·subst h;exact⟨_,_,_,Qa hS⟩
 ·have hl:b<AJ.length:=by simp[AJ];omega
  obtain⟨cs,t,e,_⟩:=P9 hS (List.getElem?_eq_getElem hl);exact⟨_,_,_,e⟩
def K00(ea:Nat->Addr):Nat->Prop:=λb=>b<=14\/∃i,i<11/\b=(ea i).block
def Sz(W:World):Nat->Prop:=λb=>b<W.heap.size/\¬ ∃xs t fr,W.heap[b]? = some (.cells xs t fr)
theorem aaA{W:World}(hS:World.ShapedOpen prog W){ea:Nat->Addr}(E:Env W.heap.size ea W)(U:∀i,i<11->∃s:ByteArray,W.cell? (ea i)=some (.string s))(hF:Forms W)(hT:Tab W):fU W.heap.size (K00 ea) W (Sz W) ea:=by
 have rd:∀b,(∃J t H,W.heap[b]? = some (.cells J t H))->b<W.heap.size/\bJ W (Sz W) b:=λb h=>by
  obtain⟨J,t,H,e⟩:=h;have hl:=(Array.getElem?_eq_some_iff.1 e).1;exact⟨hl,hl,λU=>U.2 ⟨J,t,H,e⟩,J,t,H,e⟩
 have Z:∀i,i<11->14<(ea i).block:=λi hi=>by
  refine Nat.lt_of_not_le λé=>?_
  obtain⟨s,hc⟩:=U i hi;obtain⟨c,t,e⟩:=E.blk i hi;have I:=World.cell?_spot hc;have h2:c[(ea i).off]? = some (.string s):=by
   rw[<-hc];simp[World.cell?,e,I]
  rcases NG hS E hF hT é e h2 with⟨_,_,h⟩|h|⟨_,_,h⟩<;>cases h
 have kk:∀b,K00 ea b->b<W.heap.size/\bJ W (Sz W) b:=by
  rintro b (M|⟨i,hi,rfl⟩)
  ·exact rd b (Vw hS M)
  ·obtain⟨c,t,e⟩:=E.blk i hi;exact rd _ ⟨_,_,_,e⟩
 exact
  {sw:=λb h=>h.1
   zl:=le_refl _
   cl:=λb M=>(Classical.em (∃J t H,W.heap[b]? = some (.cells J t H))).elim (λh=>.inr (rd b h).2) λh=>.inl ⟨M,h⟩
   kk:=kk
   Vu:=λb J t H _ M e i v hv=>by
    rcases NG hS E hF hT M e hv with⟨k,hk,rfl⟩|rfl|⟨_,_,rfl⟩
    ·exact .iface _ (.ptr (.inr ⟨k,hk,rfl⟩))
    ·exact CZ (.inl (le_refl _))
    ·exact .int _ _
   ke:=by
    rintro b ⟨M|⟨i,hi,rfl⟩,h14⟩
    ·omega
    ·obtain⟨c,t,e⟩:=E.blk i hi;refine⟨c,t,e,λh0=>?_⟩;obtain⟨s,hc⟩:=U i hi;have I:=World.cell?_spot hc;have h2:c[(ea i).off]? = some (.string s):=by
      rw[<-hc];simp[World.cell?,e,I]
     have:=(Array.getElem?_eq_some_iff.1 h2).1;omega
   uq:=λg hg=>.inl (by have:=afs hg;omega)
   FM:=λg hg=>.inl (by
    have h:g ∈ [2,3,7,8,12,13]:=by simpa [yI,YB] using hg
    simp only[mem_cons,not_mem_nil,or_false] at h;omega)
   kG:=.inl (le_refl _)
   Vv:=λi hi=>.inr ⟨i,hi,rfl⟩
   Zg:=λi hi=>⟨.inr ⟨i,hi,rfl⟩,Z i hi⟩
   env:=E
   forms:=hF
   tab:=hT }
end Go.Proofs.YtnonoiafongllaaGreatDoor
namespace Go.Proofs.YtnonoiafongllaaGreatDoor.Dx
open Go Go.Conc Px Go.RowKit
theorem okA(K:List Item):dR prog (rz K) P6=true:=bH
theorem okR(K:List Item):dR prog (rz K) AB=true:=bH
theorem okL(K:List Item):dR prog (rz K) NA=true:=bH
theorem okM(K:List Item):dR prog (rz K) Qf=true:=bH
theorem okX(K:List Item):dR prog (oD K) Qd=true:=bH
theorem J3:lg = .seq AB oN:=bH
theorem NC:rA = .seq NA yx:=bH
theorem ad2:Qe = .seq Qf VA:=bH
theorem qD{a:Act}(H:a.defers = [])(J:a.tmps.size=145):∃j:Nat->Value,a=⟨#[j 0,j 1,j 2,j 3,j 4,j 5,j 6,j 7,j 8,j 9,j 10,j 11,j 12,j 13,j 14,j 15,j 16,j 17,j 18,j 19,j 20,j 21,j 22,j 23,j 24,j 25,j 26,j 27,j 28,j 29,j 30,j 31,j 32,j 33,j 34,j 35,j 36,j 37,j 38,j 39,j 40,j 41,j 42,j 43,j 44,j 45,j 46,j 47,j 48,j 49,j 50,j 51,j 52,j 53,j 54,j 55,j 56,j 57,j 58,j 59,j 60,j 61,j 62,j 63,j 64,j 65,j 66,j 67,j 68,j 69,j 70,j 71,j 72,j 73,j 74,j 75,j 76,j 77,j 78,j 79,j 80,j 81,j 82,j 83,j 84,j 85,j 86,j 87,j 88,j 89,j 90,j 91,j 92,j 93,j 94,j 95,j 96,j 97,j 98,j 99,j 100,j 101,j 102,j 103,j 104,j 105,j 106,j 107,j 108,j 109,j 110,j 111,j 112,j 113,j 114,j 115,j 116,j 117,j 118,j 119,j 120,j 121,j 122,j 123,j 124,j 125,j 126,j 127,j 128,j 129,j 130,j 131,j 132,j 133,j 134,j 135,j 136,j 137,j 138,j 139,j 140,j 141,j 142,j 143,j 144],[]⟩/\∀(i:Nat) v,a.tmps[i]? = some v->j i=v:=by
 obtain⟨⟨l⟩,d⟩:=a;simp only at H;subst H;refine⟨λi=>l.getD i undef,?_,λi v h=>?_⟩
 ·have e:=XU l 145 (by simpa using J);have I:l.toArray=((List.range 145).map λi=>l.getD i undef).toArray:=congrArg _ e;exact congrArg (λt=>(⟨t,[]⟩:Act)) I
 ·have h:l[i]? = some v:=by simpa using h
  simp[getD_eq_getElem?_getD,h]
section
variable {z:Nat} {K0 Sw aI:Nat->Prop} {N:Nat} {Q:Machine->Outcome->World->Trace->Prop} {W W':World} {ea:Nat->Addr}
theorem NK{P:Program}{k:Ok}{hL:Array Obj}{B:Bl}{E:Nat->Prop}(O:Old z K0 W Sw)(M:Mn dL k Sw (bJ W Sw) W)(A:After dL P k Sw (bJ W Sw) W hL B W')(hf:∀b,b<W.heap.size->bJ W Sw b->z<=b\/W'.heap[b]? = W.heap[b]?)(H:∀b,b<W.heap.size->¬ E b->hL[b]? = (sD dL (bJ W Sw) z W.heap)[b]?):Px.Kept nF (λb=>XX z K0 W Sw b/\¬ E b) (Lw z Sw) W W':=by
 have J:∀b,Sw b->W'.heap[b]? = W.heap[b]?:=λb e=>A.fr.old b (O.sw b e) λZ=>Z.2.1 e
 have K:=A.abU (D:=Lw z Sw) M H λb e=>by
  rcases e with e|e
  ·rcases O.cl b e with h|h
   ·exact J b h
   ·exact (hf b (lt_of_lt_of_le e O.zl) h).resolve_left aV
  ·exact J b e
 exact⟨K.size,λp v I hv=>K.cell p v ⟨I.1.1,I.2⟩ (hv.mono λb h=>⟨h.1.1,h.2⟩).up,λb c t U e=>K.blk b c t U ⟨e.1.1,e.2⟩,K.dead,K.env⟩
theorem Zi{K:List Item}(L:fU z K0 W Sw ea):Mn dL (rz K) Sw (bJ W Sw) W where
 sw:=λ_ e=>e.2.1
 cells:=λ_ e=>e.2.2
 gl:=λg H=>(L.kk g (AL L (NI H))).2
 ex:=L.G.1
 G:=L.G.1.1
 kF:=rfl
 ct:=λ_ h=>h.elim
structure Bt(z:Nat)(W:World)(Sw:Nat->Prop)(ba:Option Addr)(n cp:Nat)(S:Nat->ByteArray):Prop where
 rb:∀ad,ba=some ad->(ad.block<z/\bJ W Sw ad.block)\/(n=0/\cp=0)
 ls:AO W ba n S
theorem Qh{w w':World}{H:Option Addr}{n:Nat}{S:Nat->ByteArray}(h:AO w H n S)(M:∀ad,H=some ad->w'.heap[ad.block]? = w.heap[ad.block]? \/ n=0):AO w' H n S:=λi U=>by
 obtain⟨⟨I,J,he,hc⟩,Z⟩:=h i U;have e:=(M _ he).resolve_right aV;exact⟨⟨I,J,he,by simpa only [World.cell?,e] using hc⟩,Z⟩
theorem Bt.kept{H:Option Addr}{n cp:Nat}{S:Nat->ByteArray}(h:Bt z W Sw H n cp S)(O:Old z K0 W Sw)(K:Px.Kept nF (XX z K0 W Sw) (Lw z Sw) W W')(g:uf W Sw aI):Bt z W' aI H n cp S where
 rb:=λad e=>(h.rb ad e).imp (λh=>⟨h.1,bJ.kR O K g.new h.2⟩) id
 ls:=Qh h.ls λad e=>(h.rb ad e).imp (λh=>K.dead _ (.inl h.1)) (·.1)
theorem Bt.lone{K:List Item}(M:Mn dL (rz K) Sw (bJ W Sw) W){e:Option Addr}{n cp:Nat}{S:Nat->ByteArray}(h:Bt z W Sw e n cp S)(U:Nat->Question->Nat)(d:Nat):AO (gI dL (bJ W Sw) z W U d) e n S:=λi Z=>by
 obtain⟨⟨H,I,J,hc⟩,hs⟩:=h.ls i Z;have hr:=((h.rb _ J).resolve_right aV).2;exact⟨⟨H,I,J,M.uS (p:=⟨H,I+i,none⟩) hr (.string _) hc⟩,hs⟩
def uw(X:Nat->Prop)(h:Array Obj)(v:Value)(n:Nat)(nn:Nat->Nat)(T:Nat->Nat->Int)(B:Nat->Nat->Nat):Prop:=
 ∃x y,v = .slice x n y/\(∀ad,x=some ad->X ad.block\/(n=0/\y=0))/\∀i,i<n->∃g a c,x=some ⟨g,0,none⟩/\iy h ⟨g,i,none⟩=some (.slice a (nn i) c)/\(∀ad,a=some ad->X ad.block\/(nn i=0/\c=0))/\adJ h a (nn i) (T i) (B i)
section
variable {v:Value} {n:Nat} {nn:Nat->Nat} {T:Nat->Nat->Int} {B:Nat->Nat->Nat}
theorem uw.pv{F:Fs}{X:Nat->Prop}{h:Array Obj}(l:uw X h v n nn T B):Pv F X v:=by
 obtain⟨x,y,rfl,e,_⟩:=l;exact wU e
theorem uw.mono{X Y:Nat->Prop}{h:Array Obj}(l:uw X h v n nn T B)(I:∀b,X b->Y b):uw Y h v n nn T B:=by
 obtain⟨x,y,rfl,J,M⟩:=l;refine⟨x,y,rfl,λad H=>(J ad H).imp (I _) id,λi hi=>?_⟩;obtain⟨g,a,c,e,U,Z,h5⟩:=M i hi;exact⟨g,a,c,e,U,λad H=>(Z ad H).imp (I _) id,h5⟩
theorem uw.keep{F:Fs}{X Y D:Nat->Prop}(l:uw X W.heap v n nn T B)(K:Px.Kept F X D W W')(I:∀b,X b->Y b):uw Y W'.heap v n nn T B:=by
 obtain⟨x,y,rfl,J,U⟩:=l;refine⟨x,y,rfl,λad H=>(J ad H).imp (I _) id,λi hi=>?_⟩;obtain⟨g,a,c,rfl,Z,e,h5⟩:=U i hi;have hg:=(J _ rfl).resolve_right λh=>aV;refine⟨g,a,c,rfl,K.cell ⟨g,i,none⟩ _ hg (wU e) Z,λad H=>(e ad H).imp (I _) id,?_⟩;rcases h5 with h|⟨b,o,rfl,h⟩
 ·exact .inl h
 ·have M:∀k,k<nn i->X b:=λk hk=>(e _ rfl).resolve_right λh=>aV;exact .inr ⟨b,o,rfl,λk hk=>⟨K.cell ⟨b,o+k*2,none⟩ _ (M k hk) (.int _ _) (h k hk).1,K.cell ⟨b,o+k*2+1,none⟩ _ (M k hk) (.int _ _) (h k hk).2.1,(h k hk).2.2⟩⟩
theorem uw.lone{K:List Item}(M:Mn dL (rz K) Sw (bJ W Sw) W)(l:uw (bJ W Sw) W.heap v n nn T B)(I:Nat->Question->Nat)(d:Nat):LsV (gI dL (bJ W Sw) z W I d) v n nn T B:=by
 obtain⟨x,y,rfl,J,U⟩:=l;refine⟨x,y,rfl,λi hi=>?_⟩;obtain⟨g,a,c,rfl,Z,e,h5⟩:=U i hi;have hg:=(J _ rfl).resolve_right λh=>aV;refine⟨g,a,c,rfl,M.uS (p:=⟨g,i,none⟩) hg (wU e).self Z,?_⟩;rcases h5 with h|⟨b,o,rfl,h⟩
 ·exact .inl h
 ·have H:∀k,k<nn i->bJ W Sw b:=λk hk=>(e _ rfl).resolve_right λh=>aV;exact .inr ⟨b,o,rfl,λk hk=>⟨M.uS (p:=⟨b,o+k*2,none⟩) (H k hk) (.int _ _) (h k hk).1,M.uS (p:=⟨b,o+k*2+1,none⟩) (H k hk) (.int _ _) (h k hk).2.1,(h k hk).2.2⟩⟩
theorem Zh.after{F:Fs}{P:Program}{k:Ok}{X Y:Nat->Prop}{hL:Array Obj}{Bl:Px.Bl}{base:Nat}(A:After F P k Sw X W hL Bl W')(l:Zh base hL v n nn T B)(U:∀b,Hb v b->Bl b b)(M:∀b,Bl b b->base<=b->(∃xs t z,hL[b]? = some (.cells xs t z))->Y b):uw Y W'.heap v n nn T B:=by
 obtain⟨x,y,rfl,I,h2⟩:=l;refine⟨x,y,rfl,λad e=>?_,λi hi=>?_⟩
 ·by_cases H:n=0/\y=0
  ·exact .inr H
  ·exact .inl (M _ (U _ (by subst e;exact .sl _ _ _ aV)) (I ad e).1 (I ad e).2)
 ·obtain⟨g,a,c,rfl,h3,J,h5⟩:=h2 i hi;have hg:=U _ (.sl _ _ _ (.inl aV));obtain⟨h6,h7⟩:=A.at (p:=⟨g,i,none⟩) hg h3 (.sl _ _ _);have Z:∀ad,a=some ad->Bl ad.block ad.block\/(nn i=0/\c=0):=λad e=>if H:nn i=0/\c=0 then .inr H else .inl (h7 _ (by subst e;exact .sl _ _ _ aV))
  refine⟨g,a,c,rfl,h6,λad e=>(Z ad e).imp (λh=>M _ h (J ad e).1 (J ad e).2) id,?_⟩;rcases h5 with h|⟨b,o,rfl,h⟩
  ·exact .inl h
  ·have Ñ:∀k,k<nn i->Bl b b:=λk hk=>(Z _ rfl).resolve_right λh=>aV;exact .inr ⟨b,o,rfl,λk hk=>⟨(A.at (p:=⟨b,o+k*2,none⟩) (Ñ k hk) (h k hk).1 (.int _ _)).1,(A.at (p:=⟨b,o+k*2+1,none⟩) (Ñ k hk) (h k hk).2.1 (.int _ _)).1,(h k hk).2.2⟩⟩
end
structure AP(z:Nat)(K0:Nat->Prop)(W:World)(Sw:Nat->Prop)(ea:Nat->Addr)(n:Nat)(wv:Int)(m:Nat)(cm:Int)(nn:Nat->Nat)(T:Nat->Nat->Int)(B:Nat->Nat->Nat)(out err:Value):Prop where
 e:(lT wv n≠0/\gW ea W err (lT wv n) (-1)/\out = .slice none 0 0)\/(lT wv n=0/\m<n/\gW ea W err cm m/\out = .slice none 0 0)\/(lT wv n=0/\m=n/\err = .nilIface/\uw (XX z K0 W Sw) W.heap out n nn T B)
 pe:Pv nF (XX z K0 W Sw) err
 ez:∀pb:Nat,err = .iface 77 (.pointer (some ⟨pb,0,none⟩))->¬ ru K0 pb
theorem AP.po{n:Nat}{M:Int}{m:Nat}{J:Int}{nn:Nat->Nat}{T:Nat->Nat->Int}{B:Nat->Nat->Nat}{H I:Value}{F:Fs}(h:AP z K0 W Sw ea n M m J nn T B H I):Pv F (XX z K0 W Sw) H:=by
 rcases h.e with⟨_,_,rfl⟩|⟨_,_,_,rfl⟩|⟨_,_,_,h⟩
 ·exact .dK _ _
 ·exact .dK _ _
 ·exact h.pv
theorem AP.kept{n:Nat}{wv:Int}{m:Nat}{Z:Int}{nn:Nat->Nat}{T:Nat->Nat->Int}{B:Nat->Nat->Nat}{J H:Value}(h:AP z K0 W Sw ea n wv m Z nn T B J H)(L:fU z K0 W Sw ea)(K:Px.Kept nF (XX z K0 W Sw) (Lw z Sw) W W')(g:uf W Sw aI):AP z K0 W' aI ea n wv m Z nn T B J H:=by
 have fv:∀ {C A:Int},gW ea W H C A->gW ea W' H C A:=by
  intro C A hf;rcases hf with I|I|⟨M,m,hm,he,c0,c1,hc⟩
  ·exact .inl I
  ·exact .inr (.inl I)
  ·have hp:XX z K0 W Sw M:=by
    have:=h.pe;rw[he] at this;cases this with
    | iface _ h=>cases h with|ptr h=>exact h
   exact .inr (.inr ⟨M,m,hm,he,K.cell ⟨M,0,none⟩ _ hp (.int _ _) c0,K.cell ⟨M,1,none⟩ _ hp (.iface _ (.ptr (L.eb m hm))) c1,hc⟩)
 refine⟨?_,h.pe.mono λb U=>U.kR L.toOld K g.new,h.ez⟩;rcases h.e with⟨I,h2,h3⟩|⟨I,h2,h3,h4⟩|⟨I,h2,h3,h4⟩
 ·exact .inl ⟨I,fv h2,h3⟩
 ·exact .inr (.inl ⟨I,h2,fv h3,h4⟩)
 ·exact .inr (.inr ⟨I,h2,h3,h4.keep K λb U=>U.kR L.toOld K g.new⟩)
theorem SE{K:List Item}(M:Mn (eU K0 W) (oD K) Sw (XX z K0 W Sw) W)(L:fU z K0 W Sw ea)(U:Nat->Question->Nat)(d:Nat){v:Value}{C A:Int}(h:gW ea W v C A)(hv:Pv nF (XX z K0 W Sw) v)(J:∀e:Nat,v = .iface 77 (.pointer (some ⟨e,0,none⟩))->¬ ru K0 e):gW ea (kZ (eU K0 W) (XX z K0 W Sw) W U d) v C A:=by
 rcases h with h|h|⟨e,m,H,rfl,Z,c1,hc⟩
 ·exact .inl h
 ·exact .inr (.inl h)
 ·have I:XX z K0 W Sw e:=by
   cases hv with
   | iface _ h=>cases h with|ptr h=>exact h
  exact .inr (.inr ⟨e,m,H,rfl,M.cell (p:=⟨e,0,none⟩) I (.int _ _) Z (J e rfl),M.cell (p:=⟨e,1,none⟩) I (Pv.self (.iface _ (.ptr (L.eb m H)))) c1 (J e rfl),hc⟩)
theorem VD{K:List Item}(M:Mn (eU K0 W) (oD K) Sw (XX z K0 W Sw) W)(L:fU z K0 W Sw ea)(J:Nat->Question->Nat)(d:Nat):Env W.heap.size ea (kZ (eU K0 W) (XX z K0 W Sw) W J d):=by
 have H:∀g i,g<=13->i<11->W.cell? ⟨g,0,none⟩=some (.iface 235 (.pointer (some (ea i))))->(kZ (eU K0 W) (XX z K0 W Sw) W J d).cell? ⟨g,0,none⟩=some (.iface 235 (.pointer (some (ea i)))):=λg i U I hc=>M.cell (L.xx (AL L U)) (Pv.self (.iface _ (.ptr (L.eb i I)))) hc (λh=>absurd h.2 (by show ¬ 14<g;omega))
 exact
  {c0:=H _ 0 bM aV L.env.c0
   c1:=H _ 1 bM aV L.env.c1
   c2:=H _ 2 bM aV L.env.c2
   c3:=H _ 3 bM aV L.env.c3
   c4:=H _ 4 bM aV L.env.c4
   c5:=H _ 5 bM aV L.env.c5
   c6:=H _ 6 bM aV L.env.c6
   c7:=H _ 7 bM aV L.env.c7
   c8:=H _ 8 bM aV L.env.c8
   c9:=H _ 9 bM aV L.env.c9
   c10:=H _ 10 bM aV L.env.c10
   typ:=M.cell (L.xx (AL L bM)) (CZ L.G).self L.env.typ (λh=>absurd h.2 bM)
   blk:=λi I=>by
    obtain⟨c,t,e⟩:=L.env.blk i I;exact⟨_,t,Fe (L.eb i I) (L.Zg i I) e⟩
   lt:=L.env.lt
   inj:=L.env.inj
   low:=L.env.low }
theorem X6{K:List Item}(M:Mn dL (rz K) Sw (bJ W Sw) W)(L:fU z K0 W Sw ea)(U:Nat->Question->Nat)(d:Nat):yQ W.heap.size ea (gI dL (bJ W Sw) z W U d)/\Forms (gI dL (bJ W Sw) z W U d)/\Tab (gI dL (bJ W Sw) z W U d):=by
 have rg:∀g,g<=13->bJ W Sw g:=λg hg=>(L.kk g (AL L hg)).2
 have I:∀g i,g<=13->i<11->W.cell? ⟨g,0,none⟩=some (.iface 235 (.pointer (some (ea i))))->(gI dL (bJ W Sw) z W U d).cell? ⟨g,0,none⟩=some (.iface 235 (.pointer (some (ea i)))):=λg i hg H hc=>M.uS (p:=⟨g,0,none⟩) (rg g hg) (Pv.self (.iface _ (.ptr (L.eb i H).1))) hc
 have E:=Vz L;refine⟨{ c0:=I _ 0 bM aV E.c0,c1:=I _ 1 bM aV E.c1,c4:=I _ 4 bM aV E.c4,c7:=I _ 7 bM aV E.c7,c8:=I _ 8 bM aV E.c8,typ:=M.uS (p:=⟨11,0,none⟩) (rg _ bM) (CZ L.G.1).self E.typ,low:=E.low },λi H=>?_,λi H=>?_⟩
 ·have h1:=L.forms i H;have:∃Z n,fK[i]? = some (.int Z n):=by
   have J:=H;obtain⟨Z,x,e⟩:=ND (l:=fK) bH (List.getElem?_eq_getElem J);exact⟨Z,x,by rw[List.getElem?_eq_getElem J,e]⟩
  obtain⟨Z,x,e⟩:=this;rw[e] at h1 ⊢;exact M.uS (p:=⟨12,i,none⟩) (rg 12 bM) (.int _ _) h1
 ·exact M.uS (p:=⟨13,i,none⟩) (rg 13 bM) (.int _ _) (L.tab i H)
end
end Go.Proofs.YtnonoiafongllaaGreatDoor.Dx
namespace Go.Proofs.YtnonoiafongllaaGreatDoor.Dx
open Go Go.Conc Px Go.RowKit
noncomputable def ad3:Code:=match Db with | .seq a _=>a|_=>.ret
noncomputable def SF:Code:=match yx with | .seq a _=>a|_=>.ret
noncomputable def ad4:Code:=match SF with | .seq a _=>a|_=>.ret
theorem ad5:Db = .seq ad3 Qe:=bH
theorem ad6:yx = .seq SF Db:=bH
theorem aaG:SF = .seq ad4 (.cond (.tmp 90) Qd .skip):=bH
section
variable {z:Nat} {K0 Sw aI:Nat->Prop} {N:Nat} {Q:Machine->Outcome->World->Trace->Prop} {W W':World} {ea:Nat->Addr}
theorem OA(L:fU z K0 W Sw ea)(J:Option Addr)(n cp:Nat)(S:Nat->ByteArray)(h:Bt z W Sw J n cp S)(hn:n<=110)(hS:∀i,i<n->(S i).size<=10000)(nn:Nat->Nat)(T:Nat->Nat->Int)(B:Nat->Nat->Nat)(hc:∀i,i<n->J4 (S i) (nn i) (T i) (B i))(U H:Value)
  (ho:uw (XX z K0 W Sw) W.heap U n nn T B) (hw:uw (XX z K0 W Sw) W.heap H n nn T B) (j:Nat->Value)
  (hT:∀W' Z todo,Px.Kept nF (XX z K0 W Sw) (Lw z Sw) W W'->(∀b,Sw b->b<W'.heap.size)->Z.tmps.getD 4 undef = .bool true->Z.defers = []->aM prog Q N Sw 0 W' (G { (base 4).at Z todo with mode:=.returning } [])) :
  aM prog Q N Sw 0 W (G ((base 4).at ⟨#[.slice J n cp,j 1,j 2,j 3,j 4,j 5,j 6,j 7,j 8,U,.nilIface,j 11,H,j 13,j 14,j 15,j 16,j 17,j 18,j 19,j 20,j 21,j 22,j 23,j 24,j 25,j 26,j 27,j 28,j 29,j 30,j 31,j 32,j 33,j 34,j 35,j 36,j 37,j 38,j 39,j 40,j 41,j 42,j 43,j 44,j 45,j 46,j 47,j 48,j 49,j 50,j 51,j 52,j 53,j 54,j 55,j 56,j 57,j 58,j 59,j 60,j 61,j 62,j 63,j 64,j 65,j 66,j 67,j 68,j 69,j 70,j 71,j 72,j 73,j 74,j 75,j 76,j 77,j 78,j 79,j 80,j 81,j 82,j 83,j 84,j 85,j 86,j 87,j 88,j 89,j 90,j 91,j 92,j 93,j 94,j 95,j 96,j 97,j 98,j 99,j 100,j 101,j 102,j 103,j 104,j 105,j 106,j 107,j 108,j 109,j 110,j 111,j 112,j 113,j 114,j 115,j 116,j 117,j 118,j 119,j 120,j 121,j 122,j 123,j 124,j 125,j 126,j 127,j 128,j 129,j 130,j 131,j 132,j 133,j 134,j 135,j 136,j 137,j 138,j 139,j 140,j 141,j 142,j 143,j 144],[]⟩ [.code Db]) []):=by
 have k:bR prog true (aM prog Q N Sw 0 W):=fB;have M:Mn dL (rz [.code VA]) Sw (bJ W Sw) W:=Zi L;have ho1:=ho.mono (Y:=bJ W Sw) λb h=>h.1
 have Ϻ:=hw.mono (Y:=bJ W Sw) λb h=>h.1
 have po:Pv dL (bJ W Sw) U:=ho1.pv;have pw:Pv dL (bJ W Sw) H:=Ϻ.pv;have p0:Pv dL (bJ W Sw) (.slice J n cp):=wU λad ha=>(h.rb ad ha).imp (·.2) id
 obtain⟨xo,yo,rfl,_⟩:=ho;obtain⟨xw,yw,rfl,_⟩:=hw;rw[ad5];refine k.seq ?_;simp only[ad3,Db,yx,rA,oN,lg,oP,uJ,oO,Tryz.f4,Option.getD_some];refine k.seq ?_;refine k.region ?_;refine k.op ?_;refine k.op (v:=.bool false) ?_;refine k.op ?_;refine k.op ?_;refine k.bi (v:=goInt n) ?_ ?_ ?_;rotate_left
 ·intro w;simp only[execOp];simp[go_sem]
 ·intro w;simp only[execOp];simp[go_sem]
 refine k.op ?_;refine k.bi (v:=goInt n) ?_ ?_ ?_;rotate_left
 ·intro w;simp only[execOp];simp[go_sem]
 ·intro w;simp only[execOp];simp[go_sem]
 refine k.op (v:=.bool false) ?_ (h:=by exact congrArg (λx=>some (Next.value (.bool x))) (show ((n:Int) != (n:Int))=false by simp));refine k.op (v:=.bool false) ?_;refine k.done ?_;refine k.no ?_;refine k.skip ?_;rw[ad2];refine k.seq ?_;refine aM.KH (DN [.code VA]) rfl (λ_ h=>h) M L.zl (c:=Qf) (okM _) ⟨_,_,rfl⟩ (.inr (by show (4:Nat)∈([4,5]:List Nat);decide)) rfl (λa h=>(W.heap.size<=h.size/\∀b,b<W.heap.size->h[b]? = (sD dL (bJ W Sw) z W.heap)[b]?)/\a.tmps.size=145) (λ_ _=>False) (λI d=>?_) (λaL Z W1 Bl hL â hd A hf hp=>?_) λaL Z todo W' Bl hL â hd A hf hp=>hp.elim
 ·have hs:(gI dL (bJ W Sw) z W I d).heap.size=W.heap.size:=Mn.KG;have e0:jn dL (bJ W Sw) (.slice J n cp) = .slice J n cp:=eD p0.self;have eo:jn dL (bJ W Sw) (.slice xo n yo) = .slice xo n yo:=eD po.self;have ew:jn dL (bJ W Sw) (.slice xw n yw) = .slice xw n yw:=eD pw.self;obtain⟨E1,E2,E3⟩:=X6 M L I d;have gl:∀a:Act,a.defers = []->a.tmps.size=145->a.tmps[0]? = some (.slice J n cp)->a.tmps[9]? = some (.slice xo n yo)->a.tmps[12]? = some (.slice xw n yw) ->
    Code.wp prog Qf (zA (λa w'=>a.defers = []/\a.tmps.size=145/\Below (gI dL (bJ W Sw) z W I d).heap.size (gI dL (bJ W Sw) z W I d) w') λ_ _=>False) a (gI dL (bJ W Sw) z W I d):=by
   intro a g1 g2 g3 g4 g5;obtain⟨j,rfl,hj⟩:=qD g1 g2;have h0:=hj 0 _ g3;have h9:=hj 9 _ g4;have h12:=hj 12 _ g5;clear hj g3 g4 g5;rw[h0,h9,h12];exact ad1 (gI dL (bJ W Sw) z W I d) E1 (by rw[hs];exact le_refl _) E2 E3 J n cp S (h.lone M I d) hn hS nn T B hc _ _ (ho1.lone M I d) (Ϻ.lone M I d) j
  refine Code.wp_mono (λe a w h=>?_) (gl _ rfl rfl (congrArg some e0) (congrArg some eo) (congrArg some ew));cases e with
  | normal=>exact⟨h.1,.inl ⟨rfl,⟨by rw[<-hs];exact h.2.2.size,λb hb=>h.2.2.block b (by rw[hs];exact hb)⟩,h.2.1⟩⟩
  | _=>exact h.elim
 ·obtain⟨⟨_,q2⟩,q3⟩:=hp;have K1:Px.Kept nF (XX z K0 W Sw) (Lw z Sw) W W1:=(NK (E:=λ_=>False) L.toOld M A hf (λb hb _=>q2 b hb)).all;obtain⟨j1,hj1,_⟩:=qD hd (â.1.symm.trans q3);rw[hj1];have k1:bR prog true (aM prog Q N Sw 0 W1):=fB;show aM prog Q N Sw 0 W1 (G ((base 4).at _ [.code VA]) []);simp only[VA,Qe,Db,yx,rA,oN,lg,oP,uJ,oO,Tryz.f4,Option.getD_some];refine k1.seq ?_;refine k1.region ?_;refine k1.op ?_;refine k1.done ?_;refine k1.ret ?_;exact hT W1 _ _ K1 A.sw rfl rfl
theorem NM(L:fU z K0 W Sw ea)(H:Value)(c a:Int)(uN:gW ea W H c a)(pe:Pv nF (XX z K0 W Sw) H)(ez:∀pb:Nat,H = .iface 77 (.pointer (some ⟨pb,0,none⟩))->¬ ru K0 pb)(I:Nat)(ä:XX z K0 W Sw I)(U:z<=I)(b0:W.cell? ⟨I,0,none⟩=some (.int .i64 c))(b1:W.cell? ⟨I,1,none⟩=some (.int .i64 a))(t:List Value)(ht:t.length=145)(t9:t[9]? = some (.slice none 0 0))(t10:t[10]? = some H)(t11:t[11]? = some (.pointer (some ⟨I,0,none⟩)))
  (hT:∀W' J todo,Px.Kept nF (XX z K0 W Sw) (Lw z Sw) W W'->(∀b,Sw b->b<W'.heap.size)->J.tmps.getD 4 undef = .bool true->J.defers = []->aM prog Q N Sw 0 W' (G { (base 4).at J todo with mode:=.returning } [])) :
  aM prog Q N Sw 0 W (G ((base 4).at ⟨t.toArray,[]⟩ [.code Qd,.code Db]) []):=by
 have M:Mn (eU K0 W) (oD [.code Db]) Sw (XX z K0 W Sw) W:=XX.mn L.toOld (λg hg=>L.xx (AL L (NI hg))) L.G;refine aM.code (wQ K0 W [.code Db]) M (c:=Qd) (okX _) ⟨_,_,rfl⟩ (.inr (by show (4:Nat)∈([4,5]:List Nat);decide)) rfl (λ_ _=>False) (λa h=>a.tmps[4]? = some (.bool true)/\∀b,b<W.heap.size->h[b]? = (lQ (eU K0 W) (XX z K0 W Sw) W.heap)[b]?) (λZ d=>?_) (λaL J W1 Bl hL â hd A hp=>hp.elim) λaL J todo W' Bl hL â hd A hp=>?_
 ·have Ϣ:(kZ (eU K0 W) (XX z K0 W Sw) W Z d).heap.size=W.heap.size:=Mn.size;have e2:jn (eU K0 W) (XX z K0 W Sw) H=H:=eD pe.up.self;have e3:jn (eU K0 W) (XX z K0 W Sw) (.slice none 0 0) = .slice none 0 0:=eD (.dK _ _);have e4:jn (eU K0 W) (XX z K0 W Sw) (.pointer (some ⟨I,0,none⟩)) = .pointer (some ⟨I,0,none⟩):=eD (Pv.self (.ptr ä));obtain⟨j,hj,uy⟩:=qD (a:=⟨(t.map (jn (eU K0 W) (XX z K0 W Sw))).toArray,[]⟩) rfl (by simpa using ht);have h9:=uy 9 (.slice none 0 0) (by simp[t9,e3]);have h10:=uy 10 H (by simp[t10,e2]);have h11:=uy 11 (.pointer (some ⟨I,0,none⟩)) (by simp[t11,e4]);rw[hj,h9,h10,h11];refine Code.wp_mono (λe a w h=>?_) (adZ (kZ (eU K0 W) (XX z K0 W Sw) W Z d) (by rw[Ϣ];exact VD M L Z d) H c a (SE M L Z d uN pe ez) I (M.cell (p:=⟨I,0,none⟩) ä (.int _ _) b0 (L.toOld.nc U)) (M.cell (p:=⟨I,1,none⟩) ä (.int _ _) b1 (L.toOld.nc U)) j);cases e with
  | ret=>exact⟨h.1,.inr ⟨rfl,h.2.1,λb hb=>h.2.2.block b (by rw[Ϣ];exact hb)⟩⟩
  | _=>exact h.elim
 ·obtain⟨p1,p3⟩:=hp;have hr:J.tmps.getD 4 undef = .bool true:=by
   rw[Array.getD_eq_getD_getElem?,(qx A â p1 (.bool _)).1,Option.getD_some]
  exact hT W' J todo (Old.after L.toOld M A p3) A.sw hr hd
end
end Go.Proofs.YtnonoiafongllaaGreatDoor.Dx
namespace Go.Proofs.YtnonoiafongllaaGreatDoor.Dx
open Go Go.Conc Px Go.RowKit
section
variable {z:Nat} {K0 Sw aI:Nat->Prop} {N:Nat} {Q:Machine->Outcome->World->Trace->Prop} {W W':World} {ea:Nat->Addr}
def PNf(size:Nat)(own:Array Obj)(ba:Option Addr)(n cp:Nat)(wv:Int)(out err:Value)(a:Act)(h:Array Obj):Prop:=
 (size<=h.size/\∀b,b<size->h[b]? = own[b]?)/\a.tmps.size=145/\a.tmps[0]? = some (.slice ba n cp)/\a.tmps[9]? = some out/\a.tmps[10]? = some err/\∃bx,size<=bx/\a.tmps[11]? = some (.pointer (some ⟨bx,0,none⟩))/\h[bx]? = some (.cells #[.int .i64 (lT wv n),.int .i64 (-1)] 32 (0,0))
theorem OB(L:fU z K0 W Sw ea)(ba:Option Addr)(n cp:Nat)(wv:Int)(S:Nat->ByteArray)(h:Bt z W Sw ba n cp S)(hn:n<=110)(hS:∀i,i<n->(S i).size<=10000)(nn:Nat->Nat)(T:Nat->Nat->Int)(B:Nat->Nat->Nat)(m:Nat)(U:Int)(Ń:FP n S nn T B m U)
  (I H:Value) (he:AP z K0 W Sw ea n wv m U nn T B I H) (M:Nat) (ä:XX z K0 W Sw M) (hbz:z<=M) (c a:Int) (b0:W.cell? ⟨M,0,none⟩=some (.int .i64 c)) (b1:W.cell? ⟨M,1,none⟩=some (.int .i64 a)) (hf:Zf n wv m U n c a) (J:Value) (hw:c=0->uw (XX z K0 W Sw) W.heap J n nn T B) (j:Nat->Value)
  (hT:∀W' Z todo,Px.Kept nF (XX z K0 W Sw) (Lw z Sw) W W'->(∀b,Sw b->b<W'.heap.size)->Z.tmps.getD 4 undef = .bool true->Z.defers = []->aM prog Q N Sw 0 W' (G { (base 4).at Z todo with mode:=.returning } [])) :
  aM prog Q N Sw 0 W (G ((base 4).at ⟨#[.slice ba n cp,j 1,j 2,j 3,j 4,j 5,j 6,j 7,j 8,I,H,.pointer (some ⟨M,0,none⟩),J,j 13,j 14,j 15,j 16,j 17,j 18,j 19,j 20,j 21,j 22,j 23,j 24,j 25,j 26,j 27,j 28,j 29,j 30,j 31,j 32,j 33,j 34,j 35,j 36,j 37,j 38,j 39,j 40,j 41,j 42,j 43,j 44,j 45,j 46,j 47,j 48,j 49,j 50,j 51,j 52,j 53,j 54,j 55,j 56,j 57,j 58,j 59,j 60,j 61,j 62,j 63,j 64,j 65,j 66,j 67,j 68,j 69,j 70,j 71,j 72,j 73,j 74,j 75,j 76,j 77,j 78,j 79,j 80,j 81,j 82,j 83,j 84,j 85,j 86,j 87,j 88,j 89,j 90,j 91,j 92,j 93,j 94,j 95,j 96,j 97,j 98,j 99,j 100,j 101,j 102,j 103,j 104,j 105,j 106,j 107,j 108,j 109,j 110,j 111,j 112,j 113,j 114,j 115,j 116,j 117,j 118,j 119,j 120,j 121,j 122,j 123,j 124,j 125,j 126,j 127,j 128,j 129,j 130,j 131,j 132,j 133,j 134,j 135,j 136,j 137,j 138,j 139,j 140,j 141,j 142,j 143,j 144],[]⟩ [.code yx]) []):=by
 have k:bR prog true (aM prog Q N Sw 0 W):=fB;have Ċ:m<n->0<U:=λhl=>by
  rw[(Ń.2.2 hl).2];exact (yA _).1
 rw[ad6];refine k.seq ?_;rw[aaG];refine k.seq ?_;simp only[ad4,SF,yx,rA,oN,lg,oP,uJ,oO,Tryz.f4,Option.getD_some];refine k.region ?_;refine k.op (v:=.pointer (some ⟨M,0,none⟩)) ?_;refine aM.load (v:=.int .i64 c) (ad:=⟨M,0,none⟩) isAgg3 b0 ä.1.2.1 ?_;by_cases hc:c=0
 ·subst hc;refine k.op (v:=.bool false) ?_ (h:=by exact congrArg (λx=>some (Next.value (.bool x))) (show decide ((0:Int)<0)=false by decide));refine k.done ?_;refine k.no ?_;refine k.skip ?_;obtain⟨he1,rfl,ho⟩:m=n/\H = .nilIface/\uw (XX z K0 W Sw) W.heap I n nn T B:=by
   rcases hf with⟨h1,h2,_⟩|⟨h1,h2,_,_⟩|⟨_,h1,h2,_⟩
   ·exact absurd h2.symm h1
   ·rcases he.e with⟨h,_⟩|⟨_,h,_⟩|⟨_,_,h5,h6⟩
    ·exact absurd h1 h
    ·omega
    ·exact⟨h2,h5,h6⟩
   ·have:=Ċ h1;omega
  have key:=OA (N:=N) (Q:=Q) L ba n cp S h hn hS nn T B (λi hi=>Ń.2.1 i aV) I J ho (hw rfl) (λi=>if i=11 then .pointer (some ⟨M,0,none⟩) else if i=88 then .pointer (some ⟨M,0,none⟩) else if i=89 then .int .i64 0 else if i=90 then .bool false else j i) hT;exact key
 ·have ì:0<c:=by
   rcases hf with⟨h1,h2,_⟩|⟨_,_,h,_⟩|⟨_,h1,h2,_⟩
   ·have:=Vq wv n;omega
   ·exact absurd h hc
   ·have:=Ċ h1;omega
  refine k.op (v:=.bool true) ?_ (h:=by exact congrArg (λx=>some (Next.value (.bool x))) (show decide ((0:Int)<c)=true from decide_eq_true ì));refine k.done ?_;refine k.yes ?_;obtain⟨uN,rfl⟩:gW ea W H c a/\I = .slice none 0 0:=by
   rcases hf with⟨h1,h2,h3⟩|⟨_,_,h,_⟩|⟨h0,h1,h2,h3⟩
   ·rcases he.e with⟨_,h4,h5⟩|⟨h4,_⟩|⟨h4,_⟩
    ·rw[h2,h3];exact⟨h4,h5⟩
    ·exact absurd h4 h1
    ·exact absurd h4 h1
   ·exact absurd h hc
   ·rcases he.e with⟨h4,_⟩|⟨_,_,h4,h5⟩|⟨_,h4,_⟩
    ·exact absurd h0 h4
    ·rw[h2,h3];exact⟨h4,h5⟩
    ·omega
  exact NM L H c a uN he.pe he.ez M ä hbz b0 b1 _ rfl rfl rfl rfl hT
theorem SG(L:fU z K0 W Sw ea)(Z:Option Addr)(n cp:Nat)(wv:Int)(S:Nat->ByteArray)(h:Bt z W Sw Z n cp S)(hn:n<=110)(hS:∀i,i<n->(S i).size<=10000)(nn:Nat->Nat)(T:Nat->Nat->Int)(B:Nat->Nat->Nat)(m:Nat)(cm:Int)(Ń:FP n S nn T B m cm)
  (J I:Value) (he:AP z K0 W Sw ea n wv m cm nn T B J I) (j:Nat->Value)
  (hT:∀W' aC todo,Px.Kept nF (XX z K0 W Sw) (Lw z Sw) W W'->(∀b,Sw b->b<W'.heap.size)->aC.tmps.getD 4 undef = .bool true->aC.defers = []->aM prog Q N Sw 0 W' (G { (base 4).at aC todo with mode:=.returning } [])) :
  aM prog Q N Sw 0 W (G ((base 4).at ⟨#[.slice Z n cp,.int .i64 wv,j 2,j 3,j 4,j 5,j 6,j 7,j 8,J,I,j 11,j 12,j 13,j 14,j 15,j 16,j 17,j 18,j 19,j 20,j 21,j 22,j 23,j 24,j 25,j 26,j 27,j 28,j 29,j 30,j 31,j 32,j 33,j 34,j 35,j 36,j 37,j 38,j 39,j 40,j 41,j 42,j 43,j 44,j 45,j 46,j 47,j 48,j 49,j 50,j 51,j 52,j 53,j 54,j 55,j 56,j 57,j 58,j 59,j 60,j 61,j 62,j 63,j 64,j 65,j 66,j 67,j 68,j 69,j 70,j 71,j 72,j 73,j 74,j 75,j 76,j 77,j 78,j 79,j 80,j 81,j 82,j 83,j 84,j 85,j 86,j 87,j 88,j 89,j 90,j 91,j 92,j 93,j 94,j 95,j 96,j 97,j 98,j 99,j 100,j 101,j 102,j 103,j 104,j 105,j 106,j 107,j 108,j 109,j 110,j 111,j 112,j 113,j 114,j 115,j 116,j 117,j 118,j 119,j 120,j 121,j 122,j 123,j 124,j 125,j 126,j 127,j 128,j 129,j 130,j 131,j 132,j 133,j 134,j 135,j 136,j 137,j 138,j 139,j 140,j 141,j 142,j 143,j 144],[]⟩ [.code lg]) []):=by
 have k:bR prog true (aM prog Q N Sw 0 W):=fB;rw[J3];refine k.seq ?_;have M:Mn dL (rz [.code oN]) Sw (bJ W Sw) W:=Zi L;have po:Pv dL (bJ W Sw) J:=he.po.mono λb h=>h.1
 have pe:Pv dL (bJ W Sw) I:=(he.pe.mono λb h=>h.1).up;have p0:Pv dL (bJ W Sw) (.slice Z n cp):=wU λad ha=>(h.rb ad ha).imp (·.2) id
 refine aM.KH (DN [.code oN]) rfl (λ_ h=>h) M L.zl (c:=AB) (okR _) ⟨_,_,rfl⟩ (.inr (by show (4:Nat)∈([4,5]:List Nat);decide)) rfl (PNf W.heap.size (sD dL (bJ W Sw) z W.heap) Z n cp wv J I) (λ_ _=>False) (λTp d=>?_) (λaL aC H Bl hL â hd A hf hp=>?_) λaL aC todo W' Bl hL â hd A hf hp=>hp.elim
 ·have hs:(gI dL (bJ W Sw) z W Tp d).heap.size=W.heap.size:=Mn.KG;have e0:jn dL (bJ W Sw) (.slice Z n cp) = .slice Z n cp:=eD p0.self;have e1:jn dL (bJ W Sw) (.int .i64 wv) = .int .i64 wv:=eD (.int _ _);have e2:jn dL (bJ W Sw) J=J:=eD po.self;have e3:jn dL (bJ W Sw) I=I:=eD pe.self;have key:=adS (gI dL (bJ W Sw) z W Tp d) Z n cp wv (λi=>if i=9 then J else if i=10 then I else jn dL (bJ W Sw) (j i));simp only[map_cons,map_nil,e0,e1,e2,e3];refine Code.wp_mono (λe a w h=>?_) key;cases e with
  | normal=>
   obtain⟨h1,h2,h3,h4,_,h6,h7,U,h8,h9,h10⟩:=h;exact⟨h1,.inl ⟨rfl,⟨by rw[<-hs];exact h2.size,λb hb=>h2.block b (by rw[hs];exact hb)⟩,h3,h4,h6,h7,U,by rw[<-hs];exact h8,h9,h10⟩⟩
  | _=>exact h.elim
 ·obtain⟨⟨q1,q2⟩,q3,q4,q6,q7,U,q8,q9,q10⟩:=hp;have K1:Px.Kept nF (XX z K0 W Sw) (Lw z Sw) W H:=(NK (E:=λ_=>False) L.toOld M A hf (λb hb _=>q2 b hb)).all;have L1:fU z K0 H Sw ea:=L.kept K1 .refl A.sw;have h1:=h.kept L.toOld K1 .refl;obtain⟨r11,Fw⟩:=qx A â q9 (.ptr _);have Ñ:Bl U U:=Fw _ (.ptr _);have ad7:bJ H Sw U:=A.rd Ñ ⟨_,_,_,q10⟩;have Ü:z<=U:=le_trans L.zl q8;have ait:=A.box Ñ q10;obtain⟨j1,hj1,uy⟩:=qD hd (â.1.symm.trans q3);have v0:=uy 0 _ (vD A â q4 p0);have v9:=uy 9 _ (vD A â q6 po);have v10:=uy 10 _ (vD A â q7 pe);have v11:=uy 11 _ r11;rw[hj1,v0,v9,v10,v11];have ũ:W.heap.size<=H.heap.size:=K1.size;have k1:bR prog true (aM prog Q N Sw 0 H):=fB;show aM prog Q N Sw 0 H (G ((base 4).at _ [.code oN]) []);have e17:=NC;simp only[rA,oN,lg,oP,uJ,oO,Tryz.f4,Option.getD_some] at e17 ⊢;refine k1.seq ?_;refine k1.region ?_;refine k1.op ?_;refine k1.done ?_;rw[e17];refine k1.seq ?_;have M1:Mn dL (rz [.code yx]) Sw (bJ H Sw) H:=Zi L1;have po1:Pv dL (bJ H Sw) J:=po.mono λb hb=>bJ.kR L.toOld K1 (λ_ h=>.inl h) hb
  have pe1:Pv dL (bJ H Sw) I:=pe.mono λb hb=>bJ.kR L.toOld K1 (λ_ h=>.inl h) hb
  have p01:Pv dL (bJ H Sw) (.slice Z n cp):=wU λad ha=>(h1.rb ad ha).imp (·.2) id
  refine aM.KH (DN [.code yx]) rfl (λ_ h=>h) M1 L1.zl (c:=NA) (okL _) ⟨_,_,rfl⟩ (.inr (by show (4:Nat)∈([4,5]:List Nat);decide)) rfl (PNt W.heap.size (sD dL (bJ H Sw) z H.heap) U Z n cp wv m cm nn T B J I) (λ_ _=>False) (λTp d=>?_) (λaL2 aC2 W2 Bl2 υ I7 Ρ A2 Đ ł=>?_) λaL aC todo W' Bl hL â hd A hf hp=>hp.elim
  ·have hs:(gI dL (bJ H Sw) z H Tp d).heap.size=H.heap.size:=Mn.KG;have e0:jn dL (bJ H Sw) (.slice Z n cp) = .slice Z n cp:=eD p01.self;have e2:jn dL (bJ H Sw) J=J:=eD po1.self;have e3:jn dL (bJ H Sw) I=I:=eD pe1.self;have e4:jn dL (bJ H Sw) (.pointer (some ⟨U,0,none⟩)) = .pointer (some ⟨U,0,none⟩):=eD (Pv.self (.ptr ad7));have e5:jn dL (bJ H Sw) (.slice none 0 0) = .slice none 0 0:=eD (.dK _ _);have ϡ:W.heap.size<=(gI dL (bJ H Sw) z H Tp d).heap.size:=by rw[hs];exact ũ
   have hLs:AO (C9 W.heap.size (gI dL (bJ H Sw) z H Tp d)) Z n S:=Qh (h1.lone M1 Tp d) λad ha=>(h1.rb ad ha).imp (λh=>I6 (lt_of_lt_of_le h.1 L.zl)) (·.1)
   have CQ:(gI dL (bJ H Sw) z H Tp d).heap[U]? = some (.cells #[.int .i64 (lT wv n),.int .i64 (-1)] 32 (0,0)):=by
    have:=Mn.ahm (F:=dL) (X:=bJ H Sw) (T:=Tp) (d:=d) ad7 Ü ait;have a1:jn dL (bJ H Sw) (.int .i64 (lT wv n)) = .int .i64 (lT wv n):=eD (.int _ _);have a2:jn dL (bJ H Sw) (.int .i64 (-1)) = .int .i64 (-1):=eD (.int _ _);simpa [a1,a2] using this
   have key:=adU (C9 W.heap.size (gI dL (bJ H Sw) z H Tp d)) (gI dL (bJ H Sw) z H Tp d) (Sy ϡ) U (by rw[yu ϡ];exact q8) wv Z n cp CQ S hLs hn hS nn T B m cm Ń (λi=>if i=9 then J else if i=10 then I else jn dL (bJ H Sw) (j1 i));rw[yu ϡ] at key;simp only[map_cons,map_nil,e0,e2,e3,e4,e5];refine Code.wp_mono (λe a w h=>?_) key;cases e with
   | normal=>
    obtain⟨g1,⟨g2,g3⟩,g4⟩:=h;exact⟨g1,.inl ⟨rfl,⟨g2,λb hb=>(g3 b hb).trans (I6 hb)⟩,g4⟩⟩
   | _=>exact h.elim
  ·obtain⟨⟨s1,s2⟩,s3,s0,s4,s5,s6,c,x,s8,s12,s7⟩:=ł;have K2:=NK (E:=λb=>W.heap.size<=b) L1.toOld M1 A2 Đ (λb hb hE=>s2 b (Nat.lt_of_not_le hE));have EL:Px.Kept nF (XX z K0 W Sw) (Lw z Sw) W W2:=K1.trans K2 (λb hb=>⟨hb.kR L.toOld K1 (λ_ h=>.inl h),Nat.not_le.2 hb.1.1⟩) λ_ h=>h
   have L2:fU z K0 W2 Sw ea:=L.kept EL .refl A2.sw;have ů:=he.kept L EL .refl;obtain⟨t11,ϔ⟩:=qx A2 I7 s6 (.ptr _);have ad8:Bl2 U U:=ϔ _ (.ptr _);have adX:XX z K0 W2 Sw U:=⟨A2.rd ad8 ⟨_,_,_,s8⟩,λh=>aV⟩;have ad9:=A2.box ad8 s8;obtain⟨j2,hj2,NN⟩:=qD Ρ (I7.1.symm.trans s3);have u0:=NN 0 _ (vD A2 I7 s0 p01);have u9:=NN 9 _ (vD A2 I7 s4 po1);have u10:=NN 10 _ (vD A2 I7 s5 pe1);have u11:=NN 11 _ t11;have hw:c=0->uw (XX z K0 W2 Sw) W2.heap (j2 12) n nn T B:=λh0=>by
    obtain⟨want,w1,w2⟩:=s7 h0;have hvd:Vd want:=by
     obtain⟨x1,y1,e,_⟩:=w2;rw[e];exact .sl _ _ _
    obtain⟨t12,aiu⟩:=qx A2 I7 w1 hvd;rw[NN 12 _ t12];exact w2.after A2 aiu λb h1 h2 h3=>⟨A2.rd h1 h3,λh=>by have:=L.zl;omega⟩
   rw[hj2,u0,u9,u10,u11];exact OB L2 Z n cp wv S (h.kept L.toOld EL .refl) hn hS nn T B m cm Ń J I ů U adX Ü c x (by simp[World.cell?,ad9]) (by simp[World.cell?,ad9]) s12 (j2 12) hw j2 λW' aC todo K3 s3 hr hd=>hT W' aC todo (L.toOld.trans EL K3 .refl) s3 hr hd
end
end Go.Proofs.YtnonoiafongllaaGreatDoor.Dx
namespace Go.Proofs.YtnonoiafongllaaGreatDoor.Dx
open Go Go.Conc Px Go.RowKit
theorem X7(S:Nat->ByteArray):∃(nn:Nat->Nat) (T:Nat->Nat->Int) (B:Nat->Nat->Nat),∀i,dx (S i).data.toList->J4 (S i) (nn i) (T i) (B i):=by
 have one:∀i,∃q:Nat×(Nat->Int)×(Nat->Nat),dx (S i).data.toList->J4 (S i) q.1 q.2.1 q.2.2:=λi=>by
  by_cases h:dx (S i).data.toList
  ·obtain⟨n,T,B,e,H,I,J⟩:=h;exact⟨(n,T,B),λ_=>⟨e,H,I,J⟩⟩
  ·exact⟨(0,λ_=>0,λ_=>0),λh'=>absurd h' h⟩
 obtain⟨q,M⟩:=Classical.axiomOfChoice one;exact⟨λi=>(q i).1,λi=>(q i).2.1,λi=>(q i).2.2,M⟩
theorem X8(n:Nat)(S:Nat->ByteArray):∃nn T B m,FP n S nn T B m (pJ (S m).data.toList):=by
 obtain⟨nn,T,B,h⟩:=X7 S;have:=Classical.propDecidable;obtain⟨m,H,J,I⟩:=qz (λi=>decide (dx (S i).data.toList)) n;exact⟨nn,T,B,m,H,λi e=>h i (of_decide_eq_true (J i e)),λhl=>⟨of_decide_eq_false (I hl),rfl⟩⟩
section
variable {z:Nat} {K0 Sw:Nat->Prop} {N:Nat} {Q:Machine->Outcome->World->Trace->Prop} {W:World} {ea:Nat->Addr}
theorem aea{W2:World}{lU:Nat->Prop}(L2:fU z K0 W2 lU ea){Ro:Nat->Prop}{W:World}{tk:Nat->Task Ro W}{n:Nat}{Z:Int}{v:Value}(hv:C8 z K0 W2 lU ea tk n Z v)(S:Nat->ByteArray)(hS:∀i,i<n->(tk i).s=S i){nn:Nat->Nat}{T:Nat->Nat->Int}{B:Nat->Nat->Nat}{m:Nat}(Ń:FP n S nn T B m (pJ (S m).data.toList)):
  ∃U J,v = .tuple #[U,J]/\AP z K0 W2 lU ea n Z m (pJ (S m).data.toList) nn T B U J:=by
 obtain⟨hm,Ϥ,ϛ⟩:=Ń;rcases hv with⟨h,rfl⟩|⟨h1,h2,h3,rfl⟩|⟨h1,h2,h3,m',S',hm',hok',afv,hv,hp⟩
 ·have I:lT Z n=3:=if_pos h;exact⟨_,_,rfl,.inl ⟨by rw[I];decide,by rw[I];exact .inr (.inl ⟨2,aV,rfl,rfl,rfl⟩),rfl⟩,.iface _ (.ptr (L2.eb 2 aV)),(λpb h=>by injection h with h1 _;exact absurd h1 bM)⟩
 ·have I:lT Z n=2:=by
   unfold lT;rw[if_neg aV,if_pos aV]
  exact⟨_,_,rfl,.inl ⟨by rw[I];decide,by rw[I];exact .inr (.inl ⟨1,aV,rfl,rfl,rfl⟩),rfl⟩,.iface _ (.ptr (L2.eb 1 aV)),(λpb h=>by injection h with h1 _;exact absurd h1 bM)⟩
 ·have I:lT Z n=0:=by
   unfold lT;rw[if_neg aV,if_neg aV]
  have is:∀i,i<m->dx (S i).data.toList:=λi H=>⟨nn i,T i,B i,(Ϥ i H).len,(Ϥ i H).ok,(Ϥ i H).b,(Ϥ i H).e⟩
  have hmm:m'=m:=by
   rcases Nat.lt_trichotomy m' m with h|h|h
   ·have b:=afv aV;rw[hS m' aV] at b;exact absurd (is m' h) b
   ·exact h
   ·have a:=hok' m h;rw[hS m aV] at a;exact absurd a (ϛ aV).1
  subst hmm;rcases hv with⟨rfl,u,rfl,hu,hs⟩|⟨hl,pb,rfl,hx,c0,c1⟩
  ·refine⟨_,_,rfl,.inr (.inr ⟨I,rfl,rfl,?_⟩),.nilIface,(λpb h=>by cases h)⟩;obtain⟨x,y,rfl,hc⟩:=hs;refine⟨x,y,rfl,λad ha=>if M:m'=0/\y=0 then .inr M else .inl (hu _ (by subst ha;exact .sl _ _ _ aV)).1,λi H=>?_⟩;obtain⟨g,rfl,hg⟩:=hc i H;obtain⟨n',T',B',q1,q2,q3,q4,a,c,q5,q6,q7⟩:=hp i H;have C:=Ϥ i H;rw[hS i H] at q4;obtain⟨e1,e2,e3⟩:=GV (T i) T' (B i) B' (nn i) n' C.len q1 C.ok q2 C.b q3 (C.e.symm.trans q4);subst e1;rw[q5] at hg;refine⟨g,a,c,rfl,hg,λad ha=>(q6 ad ha).imp (λh=>h.1.1) id,?_⟩;rcases Nat.eq_zero_or_pos (nn i) with M|M
   ·exact .inl M
   ·obtain⟨g',rfl,_⟩:=q7 0 M;refine .inr ⟨g',0,rfl,λk hk=>?_⟩;obtain⟨_,e,r1,r2⟩:=q7 k hk;cases e;have tk:=om (T i) k (C.ok k hk);rw[zero_add,e2 k hk,e3 k hk];rw[e2 k hk] at tk;exact⟨r1,r2,aV,aV,q3 k hk⟩
  ·rw[hS m' hl] at c1;refine⟨_,_,rfl,.inr (.inl ⟨I,hl,.inr (.inr ⟨pb,(pJ (S m').data.toList).toNat-1,?_,rfl,c0,?_,?_⟩),rfl⟩),.iface _ (.ptr hx.1),λpb' h=>by cases h;exact hx.2⟩
   ·have:=yA (S m').data.toList;omega
   ·rw[c1];unfold Da pJ;split
    ·rfl
    ·split<;>rfl
   ·have:=yA (S m').data.toList;omega
theorem VE(L:fU z K0 W Sw ea)(M:Option Addr)(n cp:Nat)(wv:Int)(S:Nat->ByteArray)(h:Bt z W Sw M n cp S)(hn:n<=110)(hS:∀i,i<n->(S i).size<=10000)(nn:Nat->Nat)(T:Nat->Nat->Int)(B:Nat->Nat->Nat)(m:Nat)(U:Int)(Ń:FP n S nn T B m U)
  (H e:Value) (he:AP z K0 W Sw ea n wv m U nn T B H e) (t:List Value) (ht:t.length=145) (t0:t[0]? = some (.slice M n cp)) (t1:t[1]? = some (.int .i64 wv)) (t9:t[9]? = some H) (t10:t[10]? = some e)
  (hT:∀W' J todo,Px.Kept nF (XX z K0 W Sw) (Lw z Sw) W W'->(∀b,Sw b->b<W'.heap.size)->J.tmps.getD 4 undef = .bool true->J.defers = []->aM prog Q N Sw 0 W' (G { (base 4).at J todo with mode:=.returning } [])) :
  aM prog Q N Sw 0 W (G ((base 4).at ⟨t.toArray,[]⟩ [.code lg]) []):=by
 obtain⟨j,hj,I⟩:=qD (a:=⟨t.toArray,[]⟩) rfl (by simpa using ht);have h0:=I 0 _ (by simpa using t0);have h1:=I 1 _ (by simpa using t1);have h9:=I 9 _ (by simpa using t9);have Z:=I 10 _ (by simpa using t10);rw[hj,h0,h1,h9,Z];exact SG L M n cp wv S h hn hS nn T B m U Ń H e he j hT
theorem SH(L:fU z K0 W Sw ea)(U:Option Addr)(n cp:Nat)(wv:Int)(S:Nat->ByteArray)(h:Bt z W Sw U n cp S)(hn:n<=110)(hS:∀i,i<n->(S i).size<=10000)
  (oa:Option Addr) (oc:Nat) (l:Lists W Sw oa n) (hl:∀i,i<n->(l.tk i).s=S i) (hN:1<=N) (P5:N<1000000) (j:Nat->Value)
  (hT:∀e W' aI I todo,e<=N+16->Px.Kept nF (XX z K0 W Sw) (Lw z Sw) W W'->(∀b,aI b->b<W'.heap.size)->uf W Sw aI->I.tmps.getD 4 undef = .bool true->I.defers = []->aM prog Q e aI 0 W' (G { (base 4).at I todo with mode:=.returning } [])) :
  aM prog Q N Sw 0 W (G ((base 4).at ⟨#[.slice U n cp,.int .i64 wv,j 2,j 3,j 4,j 5,j 6,.slice oa n oc,j 8,j 9,j 10,j 11,j 12,j 13,j 14,j 15,j 16,j 17,j 18,j 19,j 20,j 21,j 22,j 23,j 24,j 25,j 26,j 27,j 28,j 29,j 30,j 31,j 32,j 33,j 34,j 35,j 36,j 37,j 38,j 39,j 40,j 41,j 42,j 43,j 44,j 45,j 46,j 47,j 48,j 49,j 50,j 51,j 52,j 53,j 54,j 55,j 56,j 57,j 58,j 59,j 60,j 61,j 62,j 63,j 64,j 65,j 66,j 67,j 68,j 69,j 70,j 71,j 72,j 73,j 74,j 75,j 76,j 77,j 78,j 79,j 80,j 81,j 82,j 83,j 84,j 85,j 86,j 87,j 88,j 89,j 90,j 91,j 92,j 93,j 94,j 95,j 96,j 97,j 98,j 99,j 100,j 101,j 102,j 103,j 104,j 105,j 106,j 107,j 108,j 109,j 110,j 111,j 112,j 113,j 114,j 115,j 116,j 117,j 118,j 119,j 120,j 121,j 122,j 123,j 124,j 125,j 126,j 127,j 128,j 129,j 130,j 131,j 132,j 133,j 134,j 135,j 136,j 137,j 138,j 139,j 140,j 141,j 142,j 143,j 144],[]⟩ [.code oP]) []):=by
 have k:bR prog true (aM prog Q N Sw 0 W):=fB;simp only[oP,uJ,oO,Tryz.f4,Option.getD_some];refine k.seq ?_;refine k.region ?_;refine k.op ?_;refine k.op ?_;refine k.call 9 func13 rfl bH ?_;obtain⟨nn,T,B,m,Ń⟩:=X8 n S;refine SB L l (cp:=oc) wv hN P5 aV λe W2 lU v h1 h2 M s1 J hv=>?_
 have L2:fU z K0 W2 lU ea:=L.kept M J s1;obtain⟨out,Z,rfl,hE⟩:=aea L2 hv S hl Ń;have H:bR prog true (aM prog Q e lU 0 W2):=fB;rw[Frame.finish_at];simp only[List.getElem?_toArray,List.getElem?_cons_zero,List.getElem?_cons_succ,Option.bind_some,Go.Act.put,setIfInBounds_toArray,set_cons_zero,set_cons_succ];refine H.op ?_;refine H.op ?_;refine H.op ?_;refine H.op ?_;refine H.op ?_;refine H.done ?_;exact VE (N:=e) (Q:=Q) L2 U n cp wv S (h.kept L.toOld M J) hn hS nn T B m _ Ń out Z hE _ rfl rfl rfl rfl rfl (λW' I todo K3 s3 hr hd=>hT e W' lU I todo h2 (L.toOld.trans M K3 J) s3 J hr hd)
end
end Go.Proofs.YtnonoiafongllaaGreatDoor.Dx
namespace Go.Proofs.YtnonoiafongllaaGreatDoor.Dx
open Go Go.Conc Px Go.RowKit
theorem Qi(S:Nat->ByteArray):∀n i,i<n->(S i).size<=wW S n
 | 0,_,h=>absurd h (not_lt_zero _)
 | n+1,i,h=>by
  rw[wW];rcases lt_or_ge i n with e|e
  ·have:=Qi S n i e;omega
  ·obtain rfl:i=n:=aV;omega
def PNo(W:World)(own:Array Obj)(ba:Option Addr)(n cp:Nat)(wv:Int)(S:Nat->ByteArray)(a:Act)(h:Array Obj):Prop:=
 (W.heap.size<=h.size/\∀b,b<W.heap.size->h[b]? = own[b]?)/\a.tmps.size=145/\a.tmps[0]? = some (.slice ba n cp)/\a.tmps[1]? = some (.int .i64 wv)/\(∀i,i<n->(S i).size<=600) /\
 ∃oa oc,a.tmps[7]? = some (.slice oa n oc)/\P8 h oa/\∀i,i<n->∃g,oa=some ⟨g,0,none⟩/\iy h ⟨g,i,none⟩=some (.string (S i))
theorem aeb{W w w':World}{own:Array Obj}(M:w.heap.size=W.heap.size)(ho:w.heap=own){H:Option Addr}{n cp:Nat}{U:Int}{S:Nat->ByteArray}{a:Act}(h:PNa w H n cp U S a w'):PNo W own H n cp U S a w'.heap:=by
 obtain⟨_,Z,h2,h3,h4,ov,I,J,hI⟩:=h;refine⟨⟨by rw[<-M];exact J.size,λb hl=>by rw[<-ho];exact J.block b (by rw[M];exact hl)⟩,Z,h2,h3,λi e=>le_trans (Qi S n i e) h4,?_⟩;rcases hI.2 with⟨rfl,h0⟩|⟨g,cap,cur,rfl,_,hh,_,_,_,ht⟩
 ·subst h0;exact⟨none,0,I,(λad h=>by cases h),λi e=>absurd e (not_lt_zero _)⟩
 ·refine⟨some ⟨g,0,none⟩,cap,I,(λad h=>by cases h;exact⟨_,_,_,hh⟩),λi e=>⟨g,rfl,?_⟩⟩;have:cur[i]? = (strs (vS S) n)[i]?:=by rw[<-ht,List.getElem?_take_of_lt aV];simp
  rw[strs,List.getElem?_map,List.getElem?_eq_getElem (by simpa using e)] at this;simp only[iy,hh];simpa [vS] using this
section
variable {z:Nat} {K0 Sw:Nat->Prop} {N:Nat} {Q:Machine->Outcome->World->Trace->Prop} {W W':World} {ea:Nat->Addr}
theorem VF{K:List Item}{X:Nat->Prop}{hL:Array Obj}{Bl:Px.Bl}(A:After dL prog (rz K) Sw X W hL Bl W'){I:Option Addr}{n oc:Nat}{S:Nat->ByteArray}
  (Z:∀b,Hb (.slice I n oc) b->Bl b b) (hc:P8 hL I) (hS:∀i,i<n->(S i).size<=600)
  (ϯ:∀i,i<n->∃g,I=some ⟨g,0,none⟩/\iy hL ⟨g,i,none⟩=some (.string (S i))) :
  ∃l:Lists W' Sw I n,∀i,i<n->(l.tk i).s=S i:=by
 have e:∀i,i<n->((if h:(S i).size<=10000 then ⟨S i,h⟩ else ⟨⟨#[]⟩,bM⟩:Task (bJ W' Sw) W')).s=S i:=λi H=>by
  rw[dif_pos (by have:=hS i H;omega)]
 refine⟨⟨λi=>if h:(S i).size<=10000 then ⟨S i,h⟩ else ⟨⟨#[]⟩,bM⟩,λi H=>?_⟩,e⟩;obtain⟨g,rfl,U⟩:=ϯ i H;have J:Bl g g:=Z _ (.sl _ _ _ (.inl aV));refine⟨_,rfl,A.rd J (hc _ rfl),?_⟩;have M:(⟨g,0,none⟩:Addr).add i=⟨g,i,none⟩:=by unfold Addr.add;split<;>simp_all
 rw[e i H,M];exact (A.at (p:=⟨g,i,none⟩) J U (.string _)).1
theorem aec(L:fU z K0 W Sw ea)(M:Option Addr)(n cp:Nat)(wv:Int)(S:Nat->ByteArray)(h:Bt z W Sw M n cp S)(Ň:(n:Int)<=9223372036854775807)(hN:1<=N)(P5:N<100000)
  (hT:∀N' W' aI aC todo,Px.Kept nF (XX z K0 W Sw) (Lw z Sw) W W'->(∀b,aI b->b<W'.heap.size)->uf W Sw aI->aC.tmps.getD 4 undef = .bool true->aC.defers = []->aM prog Q N' aI 0 W' (G { (base 4).at aC todo with mode:=.returning } [])) :
  aM prog Q N Sw 0 W (G ((base 4).at ⟨([.slice M n cp,.int .i64 wv]++List.replicate 143 undef:List Value).toArray,[]⟩ [.code oO]) []):=by
 have k:bR prog true (aM prog Q N Sw 0 W):=fB;simp only[oO,Tryz.f4,Option.getD_some,List.replicate,cons_append,nil_append];refine k.seq ?_;refine k.region ?_;refine k.op ?_;refine k.done ?_;refine k.seq ?_;refine k.region ?_;refine k.call 22 func5 rfl bH ?_;refine adI L hN aV λN1 I J h1 h2 K1 s1 Z=>?_
 have L1:fU z K0 I J ea:=L.kept K1 Z s1;have H1:=h.kept L.toOld K1 Z;have H:bR prog true (aM prog Q N1 J 0 I):=fB;rw[Frame.finish_at];simp only[List.getElem?_toArray,List.getElem?_cons_zero,Option.bind_some,Go.Act.put,setIfInBounds_toArray,set_cons_zero,set_cons_succ];refine H.op ?_;refine H.done ?_;refine H.seq ?_;refine H.seq ?_;refine H.region ?_;refine H.op ?_;refine H.op ?_;refine H.op ?_;refine H.op ?_;refine H.bi (v:=goInt n) ?_ ?_ ?_;rotate_left
 ·intro w;simp only[execOp];simp[go_sem]
 ·intro w;simp only[execOp];simp[go_sem]
 by_cases al3:110<n
 ·refine H.op (v:=.bool true) ?_ (h:=by exact congrArg (λx=>some (Next.value (.bool x))) (decide_eq_true aV));refine H.op ?_;refine H.done ?_;refine H.yes ?_;refine H.seq ?_;refine H.region ?_;refine H.op ?_;refine H.op ?_;refine H.done ?_;refine H.ret ?_;exact hT N1 I J _ _ K1 s1 Z rfl rfl
 refine H.op (v:=.bool false) ?_ (h:=by exact congrArg (λx=>some (Next.value (.bool x))) (decide_eq_false aV));refine H.op ?_;refine H.done ?_;refine H.no ?_;refine H.skip ?_;refine H.seq ?_;refine H.region ?_;refine H.op ?_;refine H.done ?_;refine H.seq ?_;refine H.region ?_;refine H.op ?_;refine H.done ?_;refine H.seq ?_;have M1:Mn dL (rz [.code oP]) J (bJ I J) I:=Zi L1;refine aM.KH (DN [.code oP]) rfl (λ_ h=>h) M1 L1.zl (c:=P6) (okA _) ⟨_,_,rfl⟩ (.inr (by show (4:Nat)∈([4,5]:List Nat);decide)) rfl (PNo I (sD dL (bJ I J) z I.heap) M n cp wv S) (λa h=>a.tmps[4]? = some (.bool true)/\I.heap.size<=h.size/\∀b,b<I.heap.size->h[b]? = (sD dL (bJ I J) z I.heap)[b]?) (λTp d=>?_) (λaL aC W2 Bl hL â hd A hf hp=>?_) λaL aC todo W2 Bl hL â hd A hf hp=>?_
 ·have hs:(gI dL (bJ I J) z I Tp d).heap.size=I.heap.size:=Mn.KG;have e0:jn dL (bJ I J) (.slice M n cp) = .slice M n cp:=eD (wU λad ha=>(H1.rb ad ha).imp (·.2) id).self;have e1:jn dL (bJ I J) (.int .i64 wv) = .int .i64 wv:=eD (.int _ _);have e3:jn dL (bJ I J) (.int .i64 0) = .int .i64 0:=eD (.int _ _);have e4:jn dL (bJ I J) (.slice none 0 0) = .slice none 0 0:=eD (.dK _ _);have gl:∀a:Act,a.defers = []->a.tmps.size=145->a.tmps[0]? = some (.slice M n cp)->a.tmps[1]? = some (.int .i64 wv)->a.tmps[6]? = some (.int .i64 0)->a.tmps[7]? = some (.slice none 0 0) ->
    Code.wp prog P6 (zA (PNa (gI dL (bJ I J) z I Tp d) M n cp wv S) λa w'=>a.defers = []/\a.tmps[4]? = some (.bool true)/\Below (gI dL (bJ I J) z I Tp d).heap.size (gI dL (bJ I J) z I Tp d) w') a (gI dL (bJ I J) z I Tp d):=by
   intro a g1 g2 g3 g4 g6 g7;obtain⟨j,rfl,hj⟩:=qD g1 g2;have h0:=hj 0 _ g3;have h1:=hj 1 _ g4;have h6:=hj 6 _ g6;have h7:=hj 7 _ g7;clear hj g3 g4 g6 g7;rw[h0,h1,h6,h7];exact adQ (gI dL (bJ I J) z I Tp d) M n cp wv S (H1.lone M1 Tp d) aV j
  refine Code.wp_mono (λe a w h=>?_) (gl _ rfl rfl (congrArg some e0) (congrArg some e1) (congrArg some e3) (congrArg some e4));cases e with
  | normal=>exact⟨h.1,.inl ⟨rfl,aeb hs rfl h⟩⟩
  | ret=>exact⟨h.1,.inr ⟨rfl,h.2.1,by rw[<-hs];exact h.2.2.size,λb U=>h.2.2.block b (by rw[hs];exact U)⟩⟩
  | _=>exact h.elim
 ·obtain⟨⟨p1,p2⟩,q1,q2,q3,q4,oa,oc,q5,q6,q7⟩:=hp;have K2:Px.Kept nF (XX z K0 I J) (Lw z J) I W2:=(NK (E:=λ_=>False) L1.toOld M1 A hf (λb U _=>p2 b U)).all;have L2:fU z K0 W2 J ea:=L1.kept K2 .refl A.sw;have EL:Px.Kept nF (XX z K0 W Sw) (Lw z Sw) W W2:=L.toOld.trans K1 K2 Z;obtain⟨r7,Bj⟩:=qx A â q5 (.sl _ _ _);obtain⟨l,hl⟩:=VF A Bj q6 q4 q7;obtain⟨j,hj,uy⟩:=qD hd (â.1.symm.trans q1);have v0:=uy 0 _ (qx A â q2 (.sl _ _ _)).1;have v1:=uy 1 _ (qx A â q3 (.int _ _)).1;have v7:=uy 7 _ r7;rw[hj,v0,v1,v7];exact SH L2 M n cp wv S (H1.kept L1.toOld K2 .refl) aV (λi hi=>le_trans (q4 i hi) bM) oa oc l hl aV aV j λN' W' aI aC todo _ K3 s3 s4 hr hd=>hT N' W' aI aC todo (L.toOld.trans EL K3 Z) s3 ⟨λb U=>(s4.new b U).elim (Z.new b) λh=>.inr (le_trans EL.size h),λb U=>s4.old b (Z.old b U)⟩ hr hd
 ·obtain⟨p1,p2,p3⟩:=hp;have K2:Px.Kept nF (XX z K0 I J) (Lw z J) I W2:=(NK (E:=λ_=>False) L1.toOld M1 A hf (λb U _=>p3 b U)).all;have hr:=(qx A â p1 (.bool _)).1;exact hT N1 W2 J aC todo (L.toOld.trans K1 K2 Z) A.sw Z (by rw[Array.getD_eq_getD_getElem?,hr,Option.getD_some]) hd
theorem aaH(L:fU z K0 W Sw ea)(e:Option Addr)(n cp:Nat)(H:Int)(S:Nat->ByteArray)(h:Bt z W Sw e n cp S)(M:(n:Int)<=9223372036854775807):
  Px.Fin prog (Conc.Good prog λv W'=>v = .bool true/\(∀b,b<z->W'.heap[b]? = W.heap[b]?)/\W'.os=W.os/\W'.output=W.output) (solo (G (Frame.enter prog 4 #[.slice e n cp,.int .i64 H] .normal) []) W) #[]:=by
 refine aai ?_ L.sw rfl;rw[enter_at (n:=143) func4 rfl rfl];refine aec L e n cp H S h M (le_refl _) aV λU W' aI Z todo K s1 s2 hr J=>?_
 refine WU (v:=.bool true) (λw=>aeO rfl J rfl func4 ?_ (by show prog.inits.idxOf? 4=none;decide +kernel)) λd=>⟨rfl,λb I=>K.dead b (.inl I),K.env⟩
 rw[<-hr];exact resultsC_tmp (t:=4) rfl _
end
end Go.Proofs.YtnonoiafongllaaGreatDoor.Dx
namespace Go.Proofs.YtnonoiafongllaaGreatDoor.Dx
open Go Go.Conc Px Go.ChangeShapes Go.WideShapes Go.ChangeAt Go.RowKit Go.Deep
theorem aaI{H:Type}{enc:TypeId×Value->H}{W:World}{hd:Bool}{fuel:Nat}{a:Option Addr}{len cap:Nat}{x:DataW H×List MemPlace}
  (h:DataW.trod enc prog W 0 (λ_=>true) hd fuel 26 [.slice a len cap]=some x) (hw:∀n,n∈x.1.weights prog 26->n<=reachBytes):∃S,AO W a len S:=by
 have hrb:=reachBytes_lt;have ce:prog.cellsOf 9=1:=bH;rcases open_slice underlying26 h with⟨ϡ,_⟩|⟨b,l,c,m,n,D,Pl,ϡ,_,hl,_,hm,hxe,hx⟩
 ·simp at ϡ;obtain⟨_,rfl,_⟩:=ϡ;exact⟨λ_=>⟨#[]⟩,λi J=>absurd J (not_lt_zero _)⟩
 ·simp at ϡ;obtain⟨rfl,rfl,rfl⟩:=ϡ;have hlm:len<=m:=by rw[hm];split<;>omega
  obtain⟨bb,oo,e⟩:=b;have M:∀i,i<len->∃q:ByteArray,W.cell? ((⟨bb,oo,e⟩:Addr).add i)=some (.string q)/\q.size<=1000000000000000:=by
   intro i J;obtain⟨Z,h1,h2⟩:=hx i aV;rw[ce] at h1;obtain⟨_,ϕ,Ϙ⟩:=World.cells?_some h1;match Z,ϕ with
   | [v0],_=>
    obtain⟨U,e0,Ł⟩:=DataW.trod_string underlying9 h2;have hDi:D i = .lit (.string U.data.toList):=congrArg Prod.fst Ł.1;have hwi:U.data.toList.length<=reachBytes:=hw _ (by
     rw[hxe];exact J5 underlying26 (mem_map.2 ⟨i,mem_range.2 J,rfl⟩) (by rw[hDi];simp[DataW.weights]))
    have d0:=Ϙ 0 aV;simp at e0;subst e0;exact⟨U,by simpa [Addr.add] using d0,le_trans (show U.size<=U.data.toList.length from Nat.le_of_eq Array.length_toList.symm) aV⟩
  obtain⟨q,hq⟩:=choose_lt M;refine⟨q,λi J=>⟨?_,(hq i J).2⟩⟩;have I:e=none:=by simpa [Addr.add] using World.cell?_spot (hq 0 aV).1
  subst I;refine⟨bb,oo,rfl,?_⟩;rw[<-(hq i J).1];unfold Addr.add;split<;>simp_all
