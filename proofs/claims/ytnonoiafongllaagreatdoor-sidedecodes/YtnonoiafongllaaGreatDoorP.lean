import Derived.Test.YtnonoiafongllaaGreatDoorO
import Derived.Test.YtnonoiafongllaaGreatDoorChecked
set_option maxRecDepth 1000000
set_option maxHeartbeats 2000000
open Nat (le_trans lt_of_lt_of_le zero_add)
open List
open Go.Proofs.Tryz
theorem bM{p:Prop}(h:p:=by decide):p:=h
theorem bK{p:Prop}(h:p:=by kernel_rfl):p:=h
namespace Go.Proofs.YtnonoiafongllaaGreatDoor
abbrev lk:Go.Conc.Lib.WgLink:={ add:=55,done:=57,wait:=60,relMerge:=85,disable:=86,enable:=87,inBubble:=88,associate:=89,fatal:=90,uOr:=91,uAdd:=92,raceRead:=93,uLoad:=94,uStore:=95,disassociate:=96,semrelease:=97,acquire:=98,isAssociated:=99,uCas:=100,raceWrite:=101,semacquire:=102,orU64:=121,addU64:=122,loadU64:=123,storeU64:=124,casU64:=125,tWgP:=160,tUP:=125,tAssoc:=162,tWg:=115,tAU:=113,tU64:=53,tUint:=92,tU32:=90,tPU32:=166,tPAU:=217,tPU64:=219,tNoCopy:=109,tANoCopy:=110,tAlign64:=111 }
theorem eH:Go.Conc.Lib.WgLib prog lk:=
 ⟨func55,func57,func60,func85,func86,func87,func88,func89,func90,func91,func92,func93,func94,func95,func96,func97,func98,func99,func100,func101,func102,func121,func122,func123,func124,func125,underlying160,Tryz.runUnderlying160,sizeOf160,isAgg160,zeroValue160,underlying125,Tryz.runUnderlying125,sizeOf125,isAgg125,zeroValue125,underlying162,Tryz.runUnderlying162,sizeOf162,isAgg162,zeroValue162,underlying115,Tryz.runUnderlying115,sizeOf115,isAgg115,zeroValue115,underlying113,Tryz.runUnderlying113,sizeOf113,isAgg113,zeroValue113,underlying53,Tryz.runUnderlying53,sizeOf53,isAgg53,zeroValue53,underlying92,Tryz.runUnderlying92,sizeOf92,isAgg92,zeroValue92,underlying90,Tryz.runUnderlying90,sizeOf90,isAgg90,zeroValue90,underlying166,Tryz.runUnderlying166,sizeOf166,isAgg166,zeroValue166,underlying217,Tryz.runUnderlying217,sizeOf217,isAgg217,zeroValue217,underlying219,Tryz.runUnderlying219,sizeOf219,isAgg219,zeroValue219,underlying0,Tryz.runUnderlying0,sizeOf0,isAgg0,zeroValue0,underlying3,Tryz.runUnderlying3,sizeOf3,isAgg3,zeroValue3,underlying4,Tryz.runUnderlying4,sizeOf4,isAgg4,zeroValue4,underlying9,Tryz.runUnderlying9,sizeOf9,isAgg9,zeroValue9,underlying20,Tryz.runUnderlying20,sizeOf20,isAgg20,zeroValue20,underlying21,Tryz.runUnderlying21,sizeOf21,isAgg21,zeroValue21,bK,bK⟩
end Go.Proofs.YtnonoiafongllaaGreatDoor
namespace Px
open Go Go.Conc
theorem wm{P:Program}{m:Bool}{b:Frame}{a:Act}{k:List Item}{cs:List Frame}{w:World}{ops:Array Oper}{i:Nat}{rest:List Nat}{o:Oper}{I H t:TypeId}{x:Operand}{ad:Addr}{v:Value}(ho:ops[i]? = some o)(hw:Region.wanted o (yielded ops a.tmps)=true)(hb:b.kind ≠ .early)(ό:o.op = .convert I H x)
  (hx:a.eval x = .pointer (some ad)) (U:P.underlying I=some (.pointer t)) (M:P.underlying H=some .unsafePointer) (J:(P.info? t).map (λi=>decide (i.size=0))=some false) (hc:w.cell? ad=some v) :
  stepG P m (G (b.at a (.inRegion ops (i::rest)::k)) cs) w = .go (G (b.at (a.put o.dst (.pointer (some ad))) (.inRegion ops rest::k)) cs) w #[]:=by
 have e:execOp a.eval o=(do return .value (<-convert I H (.pointer (some ad)))):=by
  unfold execOp;rw[ό];simp only[hx]
 have Z:Sem.run P (execOp a.eval o) w = .ok (.value (.pointer (some ad))) w:=by
  rw[e];simp[run_convert_to_unsafe U M J hc,Result.andThen]
 have h2:(execOp a.eval o).events P w #[]=#[]:=by
  rw[e];simp[events_convert_to_unsafe U M J hc]
 rw[stepG_value ho hw hb Z];unfold listed;rw[h2,show seen P b.fn #[]=#[] from seen_none P _]
end Px
namespace Px
open Go Go.Conc
noncomputable def quiet(P:Program){A:Type}:Sem A->Option A
 | .pure a=>some a
 | .program k=>quiet P (k P)
 | _=>none
theorem Cc{P:Program}{A:Type}:∀ {s:Sem A} {a:A},quiet P s=some a->∀w,Sem.run P s w = .ok a w/\∀es,s.events P w es=es
 | .pure b,a,h,w=>by
  cases h;exact⟨rfl,λes=>Sem.events_pure' ..⟩
 | .program k,a,h,w=>by
  have:=Cc (s:=k P) h w;exact⟨this.1,this.2⟩
structure bR(P:Program)(m:Bool)(T:Goroutine->Prop):Prop where
 step:∀ {g g':Goroutine},g.status = .running->g'.status = .running->(∀w,stepG P m g w = .go g' w)->T g'->T g
def wo(P:Program)(S:Goroutine->Prop)(g:Goroutine):Prop:=∃q,xH P S q g
def Ee(P:Program)(d:Nat)(g:Goroutine):Prop:=∃q,QuitsD P q d g
def RunT(P:Program)(m:Bool)(Ro O:Nat->Prop)(S:aR)(w:World)(g:Goroutine):Prop:=∀w₁,Keep Ro O w w₁->Runs P m Ro S g w₁ O
theorem qp{P:Program}(S:Goroutine->Prop):bR P false (wo P S):=⟨λhr _ h ⟨q,e⟩=>⟨q+1,hr,.inr λw=>⟨_,h w,e⟩⟩⟩
theorem qw{P:Program}(d:Nat):bR P false (Ee P d):=⟨λhr _ h ⟨q,e⟩=>⟨q+1,.ctl hr h e⟩⟩
theorem dI{P:Program}(m:Bool)(Ro O:Nat->Prop)(S:aR)(w:World):bR P m (RunT P m Ro O S w):=⟨fun {g g'} _ hr h M w₁ hk=>by
 refine .step (λH I=>⟨g',H,_,h H,hr,.rest λe he=>by simp at he⟩) λH J U es I e=>?_
 rw[h H] at e;cases e;rw[nX];exact M H (hk.trans I)⟩
section
variable {P:Program} {m:Bool} {T:Goroutine->Prop} {b:Frame} {a a':Act} {k k':List Item} {cs:List Frame} {ops:Array Oper} {i:Nat} {rest:List Nat} {o:Oper} {v:Value} {d:Option Tmp} {x y:Code} {l:Nat} {f:FuncId} {fn:Func}
theorem bR.seq(c:bR P m T)(hn:T (G (b.at a (.code x :: .code y::k)) cs)):T (G (b.at a (.code (.seq x y)::k)) cs):=c.step rfl rfl (λ_=>stepG_seq) hn
theorem bR.skip(c:bR P m T)(hn:T (G (b.at a k) cs)):T (G (b.at a (.code .skip::k)) cs):=c.step rfl rfl (λ_=>stepG_skip) hn
theorem bR.block(c:bR P m T)(hn:T (G (b.at a (.code x :: .inBlock l::k)) cs)):T (G (b.at a (.code (.block l x)::k)) cs):=c.step rfl rfl (λ_=>stepG_block) hn
theorem bR.inBlock(c:bR P m T)(hn:T (G (b.at a k) cs)):T (G (b.at a (.inBlock l::k)) cs):=c.step rfl rfl (λ_=>stepG_inBlock) hn
theorem bR.loop(c:bR P m T)(hn:T (G (b.at a (.code x :: .inLoop x::k)) cs)):T (G (b.at a (.code (.loop x)::k)) cs):=c.step rfl rfl (λ_=>stepG_loop) hn
theorem bR.inLoop(c:bR P m T)(hn:T (G (b.at a (.code x :: .inLoop x::k)) cs)):T (G (b.at a (.inLoop x::k)) cs):=c.step rfl rfl (λ_=>stepG_inLoop) hn
theorem bR.exit(c:bR P m T)(hn:T (G (b.at a k') cs))(he:exitTo l k=some k':=by rfl):T (G (b.at a (.code (.exit l)::k)) cs):=c.step rfl rfl (λ_=>stepG_exit he) hn
theorem bR.region(c:bR P m T){n:Nat}{r:List Nat}(hn:T (G (b.at a (.inRegion ops r::k)) cs))(e:ops.size=n:=by (simp only[List.size_toArray,List.length_cons,List.length_nil,Nat.reduceAdd,Nat.zero_add];rfl))(hr:List.range n=r:=by (simp only[List.range,List.range.loop];rfl)):T (G (b.at a (.code (.region l ops false)::k)) cs):=by
 subst e hr;exact c.step rfl rfl (λ_=>stepG_region) hn
theorem bR.done(c:bR P m T)(hn:T (G (b.at a k) cs)):T (G (b.at a (.inRegion ops []::k)) cs):=c.step rfl rfl (λ_=>stepG_region_end) hn
theorem bR.yes(c:bR P m T){t:Operand}(hn:T (G (b.at a (.code x::k)) cs))(e:a.eval t = .bool true:=by rfl):T (G (b.at a (.code (.cond t x y)::k)) cs):=c.step rfl rfl (λ_=>(stepG_cond (t:=true) e)) hn
theorem bR.no(c:bR P m T){t:Operand}(hn:T (G (b.at a (.code y::k)) cs))(e:a.eval t = .bool false:=by rfl):T (G (b.at a (.code (.cond t x y)::k)) cs):=c.step rfl rfl (λ_=>(stepG_cond (t:=false) e)) hn
theorem bR.un(c:bR P m T)(hn:T (G (b.at a' (.inRegion ops rest::k)) cs))(H:ops[i]? = some o:=by (simp only[List.getElem?_toArray,List.getElem?_cons_zero,List.getElem?_cons_succ];rfl))(J:Region.wanted o (yielded ops a.tmps)=false:=by rfl)(e:o.dst=d:=by rfl)
  (I:a.put d undef=a':=by (simp only[Go.Act.put,List.setIfInBounds_toArray,List.set_cons_zero,List.set_cons_succ];rfl)):T (G (b.at a (.inRegion ops (i::rest)::k)) cs):=by
 subst e I;exact c.step rfl rfl (λ_=>stepG_unwanted H J) hn
def calm:Op->Bool
 | .call _=>false
 | .defer _=>false
 | .go _=>false
 | _=>true
theorem bR.op(c:bR P m T)(hn:T (G (b.at a' (.inRegion ops rest::k)) cs))(I:ops[i]? = some o:=by (simp only[List.getElem?_toArray,List.getElem?_cons_zero,List.getElem?_cons_succ];rfl))(M:Region.wanted o (yielded ops a.tmps)=true:=by rfl)(e:b.kind ≠ .early:=by decide)(_:calm o.op=true:=by rfl)
  (h:quiet P (execOp a.eval o)=some (.value v):=by rfl) (H:o.dst=d:=by rfl)
  (J:a.put d v=a':=by (simp only[Go.Act.put,Go.Act.eval,Array.getD_eq_getD_getElem?,List.getElem?_toArray,List.getElem?_cons_zero,List.getElem?_cons_succ,Option.getD_some,List.setIfInBounds_toArray,List.set_cons_zero,List.set_cons_succ,List.getElem_toArray,List.getElem_cons_zero,List.getElem_cons_succ];rfl)) :
  T (G (b.at a (.inRegion ops (i::rest)::k)) cs):=by
 subst H J;exact c.step rfl rfl (λw=>by rw[stepG_value I M e (Cc h w).1];unfold listed;rw[(Cc h w).2,seen_none]) hn
theorem bR.call(c:bR P m T)(n:Nat){xs:Array Operand}{I:Array TypeId}{J:Code}{l U:List Value}(M:P.funcs[f]? = some fn)(Z:fn.body=some J)(hm:(fn.name == "runtime.NumGoroutine")=false)(hn:T (G ((base f).at ⟨U.toArray,[]⟩ [.code J]) (b.at a (.inRegion ops (i::rest)::k)::cs)))
  (ho:ops[i]? = some o:=by (simp only[List.getElem?_toArray,List.getElem?_cons_zero,List.getElem?_cons_succ];rfl)) (hw:Region.wanted o (yielded ops a.tmps)=true:=by rfl) (hk:b.kind ≠ .early:=by decide) (ό:o.op = .call { callee:=.value (.func f),args:=xs,argTypes:=I }:=by rfl)
  (hl:xs.map a.eval=l.toArray:=by (simp only[List.map_toArray,List.map_cons,List.map_nil,Go.Act.eval,Array.getD_eq_getD_getElem?,List.getElem?_toArray,List.getElem?_cons_zero,List.getElem?_cons_succ,Option.getD_some];rfl)) (hz:fn.ntmps-l.length=n:=by rfl) (ht:l++List.replicate n undef=U:=by (simp only[List.replicate,List.cons_append,List.nil_append];rfl)) :
  T (G (b.at a (.inRegion ops (i::rest)::k)) cs):=by
 have H:fn.body.isNone=false:=by rw[Z];rfl
 have e:∀w,stepG P m (G (b.at a (.inRegion ops (i::rest)::k)) cs) w = .go (G ((base f).at ⟨U.toArray,[]⟩ [.code J]) (b.at a (.inRegion ops (i::rest)::k)::cs)) w:=λw=>by
  rw[stepG_enter ho hw hk (run_call_body ό M hm H),hl,enter_at M Z hz,ht];unfold listed;rw[events_call_body ό M hm H,seen_none]
 exact c.step rfl rfl e hn
theorem bR.ret(c:bR P m T)(hn:T (G { b.at a (.code .ret::k) with mode:=.returning } cs)):T (G (b.at a (.code .ret::k)) cs):=c.step rfl rfl (λ_=>stepG_ret') hn
theorem bR.fin(c:bR P m T)(hn:T (G { b.at a [] with mode:=.returning } cs)):T (G (b.at a []) cs):=c.step rfl rfl (λ_=>stepG_end) hn
section
variable {b₀:Frame} {a₀:Act} {td:List Item}
theorem bR.leave0(c:bR P m T)(H:P.funcs[b.fn]? = some fn)(hn:T (G (b₀.at a' (.inRegion ops rest::k)) cs))(hr:fn.results=#[]:=by rfl)(hk:b.kind = .normal:=by rfl)(e:a.defers = []:=by rfl)(I:(ops[i]?).bind (·.dst)=d:=by (simp only[List.getElem?_toArray,List.getElem?_cons_zero,List.getElem?_cons_succ,Option.bind_some];rfl))
  (J:a₀.put d (.tuple #[])=a':=by (simp only[Go.Act.put,List.setIfInBounds_toArray,List.set_cons_zero,List.set_cons_succ];rfl)):T (G { b.at a td with mode:=.returning } (b₀.at a₀ (.inRegion ops (i::rest)::k)::cs)):=by
 subst I J;exact c.step rfl rfl (λw=>by rw[stepG_leave hk e H (results_none hr _ P w) (events_results_none hr _ _),Frame.finish_at]) hn
theorem bR.leave1(c:bR P m T){t:Tmp}(H:P.funcs[b.fn]? = some fn)(hn:T (G (b₀.at a' (.inRegion ops rest::k)) cs))(hr:fn.results=#[.tmp t]:=by rfl)(hk:b.kind = .normal:=by rfl)(e:a.defers = []:=by rfl)(I:(ops[i]?).bind (·.dst)=d:=by (simp only[List.getElem?_toArray,List.getElem?_cons_zero,List.getElem?_cons_succ,Option.bind_some];rfl))
  (M:a.tmps.getD t undef=v:=by (simp only[Array.getD_eq_getD_getElem?,List.getElem?_toArray,List.getElem?_cons_zero,List.getElem?_cons_succ,Option.getD_some];rfl))
  (J:a₀.put d v=a':=by (simp only[Go.Act.put,List.setIfInBounds_toArray,List.set_cons_zero,List.set_cons_succ];rfl)):T (G { b.at a td with mode:=.returning } (b₀.at a₀ (.inRegion ops (i::rest)::k)::cs)):=by
 subst I M J;exact c.step rfl rfl (λw=>by rw[stepG_leave hk e H (results_tmp hr _ P w) (events_results_tmp hr _ _),Frame.finish_at]) hn
end
theorem bR.defer(c:bR P m T){H:Array Operand}{e:Array TypeId}{l:List Value}(hn:T (G (b.at ⟨a.tmps,dcall f l.toArray::a.defers⟩ (.inRegion ops rest::k)) cs))(J:ops[i]? = some o:=by (simp only[List.getElem?_toArray,List.getElem?_cons_zero,List.getElem?_cons_succ];rfl))(M:Region.wanted o (yielded ops a.tmps)=true:=by rfl)
  (hk:b.kind ≠ .early:=by decide) (U:o.op = .defer { callee:=.value (.func f),args:=H,argTypes:=e }:=by rfl) (hl:H.map a.eval=l.toArray:=by (simp only[List.map_toArray,List.map_cons,List.map_nil,Go.Act.eval,Array.getD_eq_getD_getElem?,List.getElem?_toArray,List.getElem?_cons_zero,List.getElem?_cons_succ,Option.getD_some];rfl)) (I:o.dst=none:=by rfl) :
  T (G (b.at a (.inRegion ops (i::rest)::k)) cs):=
 c.step rfl rfl (λw=>by rw[stepG_defer J M hk U,hl,I];rfl) hn
theorem bR.dcall(c:bR P m T)(n:Nat){H:Array Value}{I:List Deferred}{td:List Item}{J:Code}{l M:List Value}(Z:P.funcs[f]? = some fn)(U:fn.body=some J)(hm:(fn.name == "runtime.NumGoroutine")=false)(hn:T (G ((Conc.baseD f).at ⟨M.toArray,[]⟩ [.code J]) ({ b.at ⟨H,I⟩ td with mode:=.returning }::cs)))
  (hz:fn.ntmps-l.length=n:=by rfl) (ht:l++List.replicate n undef=M:=by (simp only[List.replicate,List.cons_append,List.nil_append];rfl)):T (G { b.at ⟨H,Conc.dcall f l.toArray::I⟩ td with mode:=.returning } cs):=by
 subst hz ht;refine c.step rfl rfl (λw=>?_) hn;have e:=stepG_unwind_enter (P:=P) (main:=m) (b:=b) (a:=⟨H,Conc.dcall f l.toArray::I⟩) (todo:=td) (cs:=cs) (w:=w) rfl Z hm U;rw[e];congr 3;have:l.toArray++Array.replicate (fn.ntmps-l.toArray.size) undef=(l++List.replicate (fn.ntmps-l.length) undef).toArray:=by
  apply Array.toList_inj.1;rw[Array.toList_append,Array.toList_replicate];simp
 rw[this]
theorem bR.entry(c:bR P m T){xs:Array Operand}{e:Array TypeId}(v:Value)(J:P.funcs[f]? = some fn)(M:(fn.name == "runtime.NumGoroutine")=false)(H:fn.body.isNone=true)(hx:Extern.findNext fn=none)(he:Extern.find fn=some λ_=>pure v)(hn:T (G (b.at a' (.inRegion ops rest::k)) cs))
  (U:ops[i]? = some o:=by (simp only[List.getElem?_toArray,List.getElem?_cons_zero,List.getElem?_cons_succ];rfl)) (hw:Region.wanted o (yielded ops a.tmps)=true:=by rfl) (hk:b.kind ≠ .early:=by decide) (ό:o.op = .call { callee:=.value (.func f),args:=xs,argTypes:=e }:=by rfl) (I:o.dst=d:=by rfl)
  (Z:a.put d v=a':=by (simp only[Go.Act.put,List.setIfInBounds_toArray,List.set_cons_zero,List.set_cons_succ];rfl)):T (G (b.at a (.inRegion ops (i::rest)::k)) cs):=by
 subst I Z;exact c.step rfl rfl (λw=>stepG_entry_pure v U hw hk ό J M H hx he) hn
end
theorem Ee.enable{P:Program}{b:Frame}{H:Array Value}{td:List Item}{cs:List Frame}{f:FuncId}{fn:Func}{e:List Deferred}(J:P.funcs[f]? = some fn)(M:(fn.name == "runtime.NumGoroutine")=false)(I:fn.body.isNone=true)(Z:Extern.findNext fn=none)(he:Extern.find fn=some (λ_=>do mark .enable;pure Extern.Race.none_))
  (h:Ee P 0 (G { b.at ⟨H,e⟩ td with mode:=.returning } cs)):Ee P 1 (G { b.at ⟨H,Conc.dcall f #[]::e⟩ td with mode:=.returning } cs):=by
 obtain⟨q,U⟩:=h;exact⟨q+1,QuitsD.unwind_mark .enable rfl eO rfl J M I Z he U⟩
end Px
namespace Px
open Go Go.Conc
def Gn(P:Program)(m:Bool)(Ro O:Nat->Prop)(S:aR)(F:World->Prop)(g:Goroutine):Prop:=RF P m Ro S F g O
section
variable {P:Program} {m:Bool} {Ro O:Nat->Prop} {S:aR} {F:World->Prop} {b:Frame} {a a':Act} {k:List Item} {cs:List Frame} {ops:Array Oper} {i:Nat} {rest:List Nat} {o:Oper} {v:Value} {d:Option Tmp}
theorem abE(hc:Cl Ro O F):bR P m (Gn P m Ro O S F):=⟨λ_ hr h hn=>RF.idle hc h hr hn⟩
theorem Gn.load(hc:Cl Ro O F){t:TypeId}{x:Operand}{ad:Addr}(I:∀w,Sem.run P (isAgg t) w = .ok false w)(H:∀w,F w->w.cell? ad=some v)(hr:Ro ad.block\/O ad.block)(hn:Gn P m Ro O S F (G (b.at a' (.inRegion ops rest::k)) cs))(U:ops[i]? = some o:=by (simp only[List.getElem?_toArray,List.getElem?_cons_zero,List.getElem?_cons_succ];rfl))
  (hw:Region.wanted o (yielded ops a.tmps)=true:=by rfl) (J:b.kind ≠ .early:=by decide) (ό:o.op = .load t x:=by rfl) (hx:a.eval x = .pointer (some ad):=by rfl) (M:o.dst=d:=by rfl)
  (Z:a.put d v=a':=by (simp only[Go.Act.put,List.setIfInBounds_toArray,List.set_cons_zero,List.set_cons_succ];rfl)):Gn P m Ro O S F (G (b.at a (.inRegion ops (i::rest)::k)) cs):=by
 subst M Z;have e:execOp a.eval o=(do return .value (<-Instr.loadAt t (Value.pointer (some ad)))):=by
  unfold execOp;rw[ό];simp only[hx]
 refine RF.reads hc (v:=v) U hw J (λw hF=>by rw[e];simp[go_sem,I,H w hF]) (λw hF x he=>?_) rfl rfl hn;rw[e] at he;simp[go_sem,I,H w hF] at he;subst he;exact .read hr
end
end Px
namespace Px
open Go Go.Conc
theorem uG{P:Program}(g o:Nat)(t:TypeId):∀(vs:List Value) (i:Nat) (cur:Array Value) (w:World) (es:Array Event),w.heap[g]? = some (.cells cur t (0,0))->o+i+vs.length<=cur.size->(∀v∈vs,v.oneCell'=true) ->
  ∀H∈(storeCells ⟨g,o,none⟩ vs i).events P w es,H∈es\/∃ad,H=⟨.cell ad,true,false⟩/\ad.block=g
 | [],_,_,_,_,_,_,_=>λH h=>.inl (by simpa [storeCells] using h)
 | v::rest,i,cur,w,es,hg,hl,h1=>λH h=>by
  have M:o+i<cur.size:=by simp at hl;omega
  have J:(⟨g,o,none⟩:Addr).add i=⟨g,o+i,none⟩:=by unfold Addr.add;split<;>simp_all
  have I:w.cell? ⟨g,o+i,none⟩=some cur[o+i]:=by simp[World.cell?,hg,M]
  have e:w.frozen? ⟨g,o+i,none⟩=false:=by simp[World.frozen?,hg]
  have Ϗ:(store ((⟨g,o,none⟩:Addr).add i) v).run P w = .ok () (w.setRow g (cur.setIfInBounds (o+i) v)):=by
   rw[J,Go.run_store P w _ v _ (h1 v eO),I];simp[e,setCell_eq_setRow w g (o+i) cur t (0,0) v hg]
  have Z:(store ((⟨g,o,none⟩:Addr).add i) v).events P w es=es.push ⟨.cell ⟨g,o+i,none⟩,true,false⟩:=by
   rw[J,Go.events_store P w es _ v _ (h1 v eO),I];simp only[e,Bool.false_eq_true,if_false];rfl
  simp only[storeCells,Sem.events_bind,Ϗ,Result.evThen_ok,Z] at h;rcases uG g o t rest (i+1) (cur.setIfInBounds (o+i) v) (w.setRow g (cur.setIfInBounds (o+i) v)) _ (setRow_heap w g cur _ t _ hg) (by simp at hl ⊢;omega) (λx U=>h1 x (by simp[U])) H h with h|h
  ·rcases Array.mem_push.1 h with h|rfl
   ·exact .inl h
   ·exact .inr ⟨_,rfl,rfl⟩
  ·exact .inr h
theorem Ce{P:Program}(a:Addr):∀(n i:Nat) (acc:Array Value) (w:World) (es:Array Event),(∀j,j<n->(w.cell? (a.add (i+j))).isSome) ->
  ∀e∈(loadCellsFrom a i n acc).events P w es,e∈es\/∃ad,e=⟨.cell ad,false,false⟩/\ad.block=a.block
 | 0,_,_,_,_,_=>λe h=>.inl (by simpa [loadCellsFrom] using h)
 | n+1,i,acc,w,es,hc=>λe h=>by
  simp only[loadCellsFrom,Sem.events_bind] at h;obtain⟨u,H⟩:=Option.isSome_iff_exists.1 (hc 0 bB);simp only[Nat.add_zero] at H;have hr:(load (a.add i)).run P w = .ok u w:=by simp[H]
  rw[hr] at h;rcases Ce a n (i+1) (acc.push u) w _ (λj I=>by have:=hc (j+1) bB;rwa [show i+(j+1)=i+1+j by omega] at this) e h with h|h
  ·rw[events_load,H] at h;rcases Array.mem_push.1 h with h|rfl
   ·exact .inl h
   ·exact .inr ⟨_,rfl,by unfold Addr.add;split<;>rfl⟩
  ·exact .inr h
section
variable {P:Program} {m:Bool} {Ro O:Nat->Prop} {S:aR} {w:World} {b:Frame} {a a':Act} {k:List Item} {cs:List Frame} {ops:Array Oper} {i:Nat} {rest:List Nat} {o:Oper} {v:Value} {d:Option Tmp}
theorem RunT.keep{g:Goroutine}{w':World}(h:RunT P m Ro O S w g)(hk:Keep Ro O w w'):RunT P m Ro O S w' g:=λw₁ e=>h w₁ (hk.trans e)
theorem RunT.step{g:Goroutine}(h:∀w₁,Keep Ro O w w₁->∃g' w' es,stepG P m g w₁ = .go g' w' es/\g'.status = .running/\nT Ro O w₁ w' es/\RunT P m Ro (grow O w₁ w') S w' g'):RunT P m Ro O S w g:=λw₁ J=>
 .step (λI H=>by obtain⟨g',w',es,e,hr,U,_⟩:=h I (J.trans H);exact⟨g',w',es,e,hr,U⟩) λI g' w' es H e=>by
  obtain⟨g'',w'',Z,M,_,U,hn⟩:=h I (J.trans H);rw[e] at M;cases M;exact hn _ (.refl ..)
theorem RunT.value(h:∀w₁,Keep Ro O w w₁->∃v w',Sem.run P (execOp a.eval o) w₁ = .ok (.value v) w'/\nT Ro O w₁ w' (Sem.events P (execOp a.eval o) w₁ #[])/\RunT P m Ro (grow O w₁ w') S w' (G (b.at (a.put d v) (.inRegion ops rest::k)) cs))
  (U:ops[i]? = some o:=by (simp only[List.getElem?_toArray,List.getElem?_cons_zero,List.getElem?_cons_succ];rfl)) (Z:Region.wanted o (yielded ops a.tmps)=true:=by rfl) (J:b.kind ≠ .early:=by decide) (M:o.dst=d:=by rfl):RunT P m Ro O S w (G (b.at a (.inRegion ops (i::rest)::k)) cs):=by
 subst M;refine .step λw₁ H=>?_
 obtain⟨v,w',hr,I,hn⟩:=h w₁ H;exact⟨_,w',_,stepG_value U Z J hr,rfl,{ I with evs:=λe he=>I.evs e (mem_listed he) },hn⟩
theorem RunT.none(h:∀w₁,Keep Ro O w w₁->∃w',Sem.run P (execOp a.eval o) w₁ = .ok .skip w'/\nT Ro O w₁ w' (Sem.events P (execOp a.eval o) w₁ #[])/\RunT P m Ro (grow O w₁ w') S w' (G (b.at a (.inRegion ops rest::k)) cs))
  (U:ops[i]? = some o:=by (simp only[List.getElem?_toArray,List.getElem?_cons_zero,List.getElem?_cons_succ];rfl)) (Z:Region.wanted o (yielded ops a.tmps)=true:=by rfl) (J:b.kind ≠ .early:=by decide) (M:o.dst = .none:=by rfl):RunT P m Ro O S w (G (b.at a (.inRegion ops (i::rest)::k)) cs):=by
 refine .step λw₁ H=>?_
 obtain⟨w',hr,I,hn⟩:=h w₁ H;exact⟨_,w',_,(stepG_none U Z J hr).trans (by rw[M];rfl),rfl,{ I with evs:=λe he=>I.evs e (mem_listed he) },hn⟩
theorem RunT.load{t:TypeId}{x:Operand}{ad:Addr}(J:∀w,Sem.run P (isAgg t) w = .ok false w)(I:∀w₁,Keep Ro O w w₁->w₁.cell? ad=some v)(hr:Ro ad.block\/O ad.block)(hn:RunT P m Ro O S w (G (b.at (a.put d v) (.inRegion ops rest::k)) cs))(Z:ops[i]? = some o:=by (simp only[List.getElem?_toArray,List.getElem?_cons_zero,List.getElem?_cons_succ];rfl))
  (hw:Region.wanted o (yielded ops a.tmps)=true:=by rfl) (M:b.kind ≠ .early:=by decide) (ό:o.op = .load t x:=by rfl) (hx:a.eval x = .pointer (some ad):=by rfl) (U:o.dst=d:=by rfl):RunT P m Ro O S w (G (b.at a (.inRegion ops (i::rest)::k)) cs):=by
 have e:execOp a.eval o=(do return .value (<-Instr.loadAt t (Value.pointer (some ad)))):=by
  unfold execOp;rw[ό];simp only[hx]
 refine RunT.value (λw₁ H=>⟨v,w₁,by rw[e];simp[go_sem,J,I w₁ H],nT.rest (λy he=>?_),by rw[nX];exact hn.keep H⟩) Z hw M U;rw[e] at he;simp[go_sem,J,I w₁ H] at he;subst he;exact .read hr
theorem RunT.aeF{t:TypeId}{x:Operand}{ad:Addr}{l:List Value}(Z:∀w,Sem.run P (isAgg t) w = .ok true w)(J:(P.info? t).map (·.size)=some l.length)(U:∀w₁,Keep Ro O w w₁->∀j u,l[j]? = some u->w₁.cell? (ad.add j)=some u)(hr:Ro ad.block\/O ad.block)(hn:RunT P m Ro O S w (G (b.at (a.put d (.agg l.toArray)) (.inRegion ops rest::k)) cs))
  (ho:ops[i]? = some o:=by (simp only[List.getElem?_toArray,List.getElem?_cons_zero,List.getElem?_cons_succ];rfl)) (hw:Region.wanted o (yielded ops a.tmps)=true:=by rfl) (hb:b.kind ≠ .early:=by decide) (ό:o.op = .load t x:=by rfl) (hx:a.eval x = .pointer (some ad):=by rfl) (hd:o.dst=d:=by rfl):RunT P m Ro O S w (G (b.at a (.inRegion ops (i::rest)::k)) cs):=by
 have e:execOp a.eval o=(do return .value (<-Instr.loadAt t (Value.pointer (some ad)))):=by
  unfold execOp;rw[ό];simp only[hx]
 obtain⟨I,M,Ν⟩:∃I,P.info? t=some I/\I.size=l.length:=by
  cases h:P.info? t with
  | none=>rw[h] at J;cases J
  | some I=>rw[h] at J;exact⟨I,rfl,by simpa using J⟩
 have hl:∀w₁,Keep Ro O w w₁->(loadCellsFrom ad 0 l.length #[]).run P w₁ = .ok l.toArray w₁:=λw₁ H=>run_loadCells_list w₁ ad l (U w₁ H)
 refine RunT.value (λw₁ H=>⟨.agg l.toArray,w₁,by rw[e];simp[go_sem,Instr.loadAt,loadVar,Z,Go.sizeOf,typeInfo,M,Ν,hl w₁ H],nT.rest (λy he=>?_),by rw[nX];exact hn.keep H⟩) ho hw hb hd;rw[e] at he;simp[go_sem,Instr.loadAt,loadVar,Z,Go.sizeOf,typeInfo,M,Ν] at he;rcases Ce ad _ 0 #[] w₁ #[] (λj hj=>by rw[zero_add,U w₁ H j _ (List.getElem?_eq_getElem hj)];rfl) y he with h|⟨ad',rfl,hb'⟩
 ·simp at h
 ·exact .read (by rw[hb'];exact hr)
theorem RunT.store{t tt:TypeId}{x y:Operand}{g off:Nat}{v:Value}{vs:List Value}(â:v.cells=vs.toArray)(U:∀u∈vs,u.oneCell'=true)(M:(P.info? t).map (·.size)=some vs.length)(hO:O g)
  (hn:∀w₁,Keep Ro O w w₁->∃cur,w₁.heap[g]? = some (.cells cur tt (0,0))/\off+vs.length<=cur.size/\RunT P m Ro O S (w₁.setRow g (cur.toList.take off++vs++cur.toList.drop (off+vs.length)).toArray) (G (b.at a (.inRegion ops rest::k)) cs))
  (ho:ops[i]? = some o:=by (simp only[List.getElem?_toArray,List.getElem?_cons_zero,List.getElem?_cons_succ];rfl)) (hw:Region.wanted o (yielded ops a.tmps)=true:=by rfl) (hb:b.kind ≠ .early:=by decide) (ό:o.op = .store t x y:=by rfl) (hx:a.eval x = .pointer (some ⟨g,off,.none⟩):=by rfl) (hy:a.eval y=v:=by rfl) (hd:o.dst = .none:=by rfl):RunT P m Ro O S w (G (b.at a (.inRegion ops (i::rest)::k)) cs):=by
 have e:execOp a.eval o=(do Instr.storeAt t (Value.pointer (some ⟨g,off,.none⟩)) v;return .skip):=by
  unfold execOp;rw[ό];simp only[hx,hy]
 obtain⟨I,Z,Ν⟩:∃I,P.info? t=some I/\I.size=vs.length:=by
  cases h:P.info? t with
  | none=>rw[h] at M;cases M
  | some I=>rw[h] at M;exact⟨I,rfl,by simpa using M⟩
 refine RunT.none (λw₁ J=>?_) ho hw hb hd;obtain⟨cur,hc,hl,hn⟩:=hn w₁ J;have Ϗ:=run_storeCells_at P g off tt vs 0 cur w₁ hc (by simpa using hl) U;simp only[Nat.add_zero] at Ϗ;have ι:grow O w₁ (w₁.setRow g (cur.toList.take off++vs++cur.toList.drop (off+vs.length)).toArray)=O:=by
  funext b;apply propext;constructor
  ·rintro (h|⟨h2,h3⟩)
   ·exact h
   ·rw[setRow_size] at h3;omega
  ·exact .inl
 refine⟨w₁.setRow g (cur.toList.take off++vs++cur.toList.drop (off+vs.length)).toArray,by rw[e];unfold Instr.storeAt storeVar;rw[â];simp[go_sem,Go.sizeOf,typeInfo,Z,Ν,Ϗ],⟨eO,λb _ H=>setRow_other _ _ _ _ (λe=>by subst e;exact H hO),rfl,rfl,rfl,λy he=>?_⟩,by rw[ι];exact hn⟩;rw[e] at he;unfold Instr.storeAt storeVar at he;rw[â] at he;simp[go_sem,Go.sizeOf,typeInfo,Z,Ν] at he;rcases uG g off tt vs 0 cur w₁ #[] hc (by simpa using hl) U y he with h|⟨ad',rfl,H⟩
 ·simp at h
 ·exact .write (.inl (by rw[H];exact hO))
theorem RunT.make{ob:Obj}{mk:Nat->Value}(ϳ:∀w,Sem.run P (execOp a.eval o) w = .ok (.value (mk w.heap.size)) (w.alloc ob))(U:∀w,Sem.events P (execOp a.eval o) w #[]=#[])
  (hn:∀w₁,Keep Ro O w w₁->RunT P m Ro (λb=>O b\/b=w₁.heap.size) S (w₁.alloc ob) (G (b.at (a.put d (mk w₁.heap.size)) (.inRegion ops rest::k)) cs))
  (J:ops[i]? = some o:=by (simp only[List.getElem?_toArray,List.getElem?_cons_zero,List.getElem?_cons_succ];rfl)) (M:Region.wanted o (yielded ops a.tmps)=true:=by rfl) (H:b.kind ≠ .early:=by decide) (I:o.dst=d:=by rfl):RunT P m Ro O S w (G (b.at a (.inRegion ops (i::rest)::k)) cs):=by
 refine RunT.value (λw₁ e=>⟨_,_,ϳ w₁,⟨by rw[World.size_alloc];omega,λb H _=>?_,rfl,rfl,rfl,λy he=>by rw[U] at he;simp at he⟩,?_⟩) J M H I
 ·show (w₁.heap.push ob)[b]? = _;rw[Array.getElem?_push,if_neg bB]
 ·have Z:grow O w₁ (w₁.alloc ob)=λb=>O b\/b=w₁.heap.size:=by
   funext b;apply propext;simp only[grow,World.size_alloc];constructor
   ·rintro (h|h)
    ·exact .inl h
    ·exact .inr bB
   ·rintro (h|h)
    ·exact .inl h
    ·exact .inr bB
  rw[Z];exact hn w₁ e
end
end Px
namespace Go.Proofs.YtnonoiafongllaaGreatDoor
open Go Go.Conc Px Go.ConcR.Gen
open Go.ConcR (WgAt stA smA rd wr mk DC0 Payload)
instance alm:Payload:=⟨3⟩
noncomputable def Uv:Code:=Tryz.f57.body.getD .skip
theorem oK(w:World)(g:Nat)(cs:Array Value):(w.setRow g cs).os=w.os/\(w.setRow g cs).output=w.output:=⟨rfl,rfl⟩
noncomputable def gp(Ro:Nat->Prop)(Wg cn:Nat)(eR:Value):Gp:=⟨prog,Ro,115,Wg,cn,eR⟩
theorem WS{Ro:Nat->Prop}{I cn:Nat}{eR:Value}{c:Frame}{cs:List Frame}{qt:Nat}(U:c.mode = .returning)(J:QuitsD prog qt 0 (G c cs)):
  wo prog (BR (gp Ro I cn eR)) (G ((baseD 57).at ⟨#[.pointer (some ⟨I,0,none⟩),undef,undef,undef],[]⟩ [.code Uv]) (c::cs)):=by
 have k:=qp (P:=prog) (BR (gp Ro I cn eR));simp only[Uv,Tryz.f57,Option.getD_some];refine k.region ?_;refine k.op ?_;refine k.call 115 func55 rfl bK ?_;repeat (first|refine k.seq ?_|refine k.done ?_|refine k.region ?_|refine k.op ?_|refine k.un ?_|refine k.yes ?_|refine k.no ?_|refine k.skip ?_)
 refine⟨0,rfl,λw st sm e=>?_⟩;obtain⟨v,M⟩:∃v,w.cell? ⟨I,0,none⟩=some v:=⟨_,e.cellSt⟩;refine⟨_,wm rfl rfl bM rfl rfl underlying160 underlying125 eH.room_tWg M,?_⟩;clear M e;walk_nrm;have k:=qp (P:=prog) (AtR0 (gp Ro I cn eR));change wo _ _ _;repeat (first|refine k.seq ?_|refine k.done ?_|refine k.region ?_|refine k.op ?_|refine k.un ?_|refine k.yes ?_|refine k.no ?_|refine k.skip ?_)
 refine⟨0,rfl,λw=>⟨_,stepG_markAt .releaseMerge eO rfl rfl bM rfl eH.f_relMerge (x_relMerge_n lk) (x_relMerge_b lk) (x_relMerge_x lk) (x_relMerge_f lk) (by simp[Act.eval,stA,gp,Gp.stA]),?_⟩⟩;walk_nrm;have k:=qp (P:=prog) (AtK1 (gp Ro I cn eR));change wo _ _ _;repeat (first|refine k.seq ?_|refine k.done ?_|refine k.region ?_|refine k.op ?_|refine k.un ?_|refine k.yes ?_|refine k.no ?_|refine k.skip ?_)
 refine⟨0,rfl,λw=>⟨_,stepG_mark0 .disable eO rfl rfl bM rfl eH.f_disable (x_disable_n lk) (x_disable_b lk) (x_disable_x lk) (x_disable_f lk),?_⟩⟩;walk_nrm;have k:=qp (P:=prog) (AtD1 (gp Ro I cn eR));change wo _ _ _;repeat (first|refine k.seq ?_|refine k.done ?_|refine k.region ?_|refine k.op ?_|refine k.un ?_|refine k.yes ?_|refine k.no ?_|refine k.skip ?_)
 refine k.defer ?_;repeat (first|refine k.seq ?_|refine k.done ?_|refine k.region ?_|refine k.op ?_|refine k.un ?_|refine k.yes ?_|refine k.no ?_|refine k.skip ?_)
 refine k.entry (.bool false) eH.f_inBubble (x_inBubble_n lk) (x_inBubble_b lk) (x_inBubble_x lk) (x_inBubble_f lk) ?_;repeat (first|refine k.seq ?_|refine k.done ?_|refine k.region ?_|refine k.op ?_|refine k.un ?_|refine k.yes ?_|refine k.no ?_|refine k.skip ?_)
 refine k.call 8 func92 rfl bK ?_;repeat (first|refine k.seq ?_|refine k.done ?_|refine k.region ?_|refine k.op ?_|refine k.un ?_|refine k.yes ?_|refine k.no ?_|refine k.skip ?_)
 refine⟨0,rfl,λw v H Ģ M e=>?_⟩;rw[show IntKind.u64.wrap (IntKind.u64.wrap (-1)*2 ^ min (Int.toNat 32) IntKind.u64.bits)=18446744069414584320 from by decide];have e0:IntKind.u64.wrap (ConcR.KK+18446744069414584320)=0:=bM
 have e1:IntKind.u64.wrap (ConcR.KK+1+18446744069414584320)=1:=bM;rcases Nat.eq_zero_or_pos v with rfl|hvp;obtain rfl|rfl:H=0\/H=1:=bB
 ·replace e:WgAt 115 I w ConcR.KK 0:=by simpa [Gp.at,gp] using e
  have z:((0:Nat):Int)*ConcR.KK+((0:Nat):Int)=0:=eO;rw[z];refine⟨_,(stepG_add_atomic rfl rfl bM rfl eH.f_addU64 (x_addU64_n lk) (x_addU64_b lk) (x_addU64_x lk) .u64 (x_addU64_f lk) rfl rfl e.cellSt (e.thaw 0)).trans (by rw[e0];rfl),λhl=>absurd hl.2 bM,λ_=>?_⟩;clear e;walk_nrm;have k:=qw (P:=prog) 1;change Ee prog 1 _;repeat (first|refine k.seq ?_|refine k.done ?_|refine k.region ?_|refine k.op ?_|refine k.un ?_|refine k.yes ?_|refine k.no ?_|refine k.skip ?_)
  refine k.ret ?_;refine k.leave1 func92 ?_;repeat (first|refine k.seq ?_|refine k.done ?_|refine k.region ?_|refine k.op ?_|refine k.un ?_|refine k.yes ?_|refine k.no ?_|refine k.skip ?_)
  refine k.ret ?_;refine Ee.enable eH.f_enable (x_enable_n lk) (x_enable_b lk) (x_enable_x lk) (x_enable_f lk) ?_;have k:=qw (P:=prog) 0;refine k.leave0 func55 ?_;refine k.done ?_;refine k.fin ?_;exact⟨_,QuitsD.leaveD rfl rfl func57 rfl U J⟩
 ·replace e:WgAt 115 I w (ConcR.KK+1) 0:=by simpa [Gp.at,gp] using e
  have z:((0:Nat):Int)*ConcR.KK+((1:Nat):Int)=1:=eO;rw[z];refine⟨_,(stepG_add_atomic rfl rfl bM rfl eH.f_addU64 (x_addU64_n lk) (x_addU64_b lk) (x_addU64_x lk) .u64 (x_addU64_f lk) rfl rfl e.cellSt (e.thaw 0)).trans (by rw[e1];rfl),λ_=>?_,λhl=>absurd ⟨rfl,rfl⟩ hl⟩;clear e;walk_nrm;have k:=qp (P:=prog) (AtD2 (gp Ro I cn eR));change wo _ _ _;repeat (first|refine k.seq ?_|refine k.done ?_|refine k.region ?_|refine k.op ?_|refine k.un ?_|refine k.yes ?_|refine k.no ?_|refine k.skip ?_)
  refine k.ret ?_;refine k.leave1 func92 ?_;repeat (first|refine k.seq ?_|refine k.done ?_|refine k.region ?_|refine k.op ?_|refine k.un ?_|refine k.yes ?_|refine k.no ?_|refine k.skip ?_)
  refine k.call 6 func94 rfl bK ?_;repeat (first|refine k.seq ?_|refine k.done ?_|refine k.region ?_|refine k.op ?_|refine k.un ?_|refine k.yes ?_|refine k.no ?_|refine k.skip ?_)
  refine⟨0,rfl,λw e=>⟨_,stepG_load_atomic rfl rfl bM rfl eH.f_loadU64 (x_loadU64_n lk) (x_loadU64_b lk) (x_loadU64_x lk) .u64 (x_loadU64_f lk) rfl (ConcR.WgAt.cellSt e),?_⟩⟩;clear e;walk_nrm;have k:=qp (P:=prog) (AtD3 (gp Ro I cn eR));change wo _ _ _;repeat (first|refine k.seq ?_|refine k.done ?_|refine k.region ?_|refine k.op ?_|refine k.un ?_|refine k.yes ?_|refine k.no ?_|refine k.skip ?_)
  refine k.ret ?_;refine k.leave1 func94 ?_;repeat (first|refine k.seq ?_|refine k.done ?_|refine k.region ?_|refine k.op ?_|refine k.un ?_|refine k.yes ?_|refine k.no ?_|refine k.skip ?_)
  refine k.call 7 func95 rfl bK ?_;repeat (first|refine k.seq ?_|refine k.done ?_|refine k.region ?_|refine k.op ?_|refine k.un ?_|refine k.yes ?_|refine k.no ?_|refine k.skip ?_)
  refine⟨0,rfl,λw e=>⟨_,stepG_store_atomic rfl rfl bM rfl eH.f_storeU64 (x_storeU64_n lk) (x_storeU64_b lk) (x_storeU64_x lk) (x_storeU64_f lk) rfl rfl (ConcR.WgAt.cellSt e) (ConcR.WgAt.thaw e 0),?_⟩⟩;clear e;walk_nrm;have k:=qp (P:=prog) (AtD4 (gp Ro I cn eR));change wo _ _ _;repeat (first|refine k.seq ?_|refine k.done ?_|refine k.region ?_|refine k.op ?_|refine k.un ?_|refine k.yes ?_|refine k.no ?_|refine k.skip ?_)
  refine k.fin ?_;refine k.leave0 func95 ?_;repeat (first|refine k.seq ?_|refine k.done ?_|refine k.region ?_|refine k.op ?_|refine k.un ?_|refine k.yes ?_|refine k.no ?_|refine k.skip ?_|refine k.block ?_|refine k.loop ?_)
  refine⟨0,rfl,mayWake_entry rfl rfl eH.f_semrelease (x_semrelease_b lk),λw e=>⟨_,(stepG_semrelease rfl rfl bM rfl eH.f_semrelease (x_semrelease_n lk) (x_semrelease_b lk) (x_semrelease_x lk) (x_semrelease_f lk) (by simp[Act.eval,smA];rfl) (ConcR.WgAt.cellSm e) (ConcR.WgAt.thaw e 1)).trans (by rfl),?_⟩⟩;clear e;walk_nrm;have k:=qw (P:=prog) 1;change Ee prog 1 _;repeat (first|refine k.seq ?_|refine k.done ?_|refine k.region ?_|refine k.op ?_|refine k.un ?_|refine k.yes ?_|refine k.no ?_|refine k.skip ?_|refine k.inBlock ?_|refine k.inLoop ?_|refine k.exit ?_)
  refine k.fin ?_;refine Ee.enable eH.f_enable (x_enable_n lk) (x_enable_b lk) (x_enable_x lk) (x_enable_f lk) ?_;have k:=qw (P:=prog) 0;refine k.leave0 func55 ?_;refine k.done ?_;refine k.fin ?_;exact⟨_,QuitsD.leaveD rfl rfl func57 rfl U J⟩
 ·obtain⟨S,hS⟩:=aJ ((v:Int)*ConcR.KK+(H:Int):Int);have eS:IntKind.u64.wrap (((v:Int)+1)*ConcR.KK+(H:Int)+18446744069414584320)=S:=by rw[hS,IntKind.wrap_u64];simp only[ConcR.KK];omega
  have Z:Int.fdiv S (2 ^ min (Int.toNat 32) IntKind.u64.bits)=(v:Int):=by
   rw[show (2:Int) ^ min (Int.toNat 32) IntKind.u64.bits=4294967296 from by decide,Int.fdiv_eq_ediv_of_nonneg _ bM,hS];simp only[ConcR.KK];omega
  have b1:IntKind.u64.wrap ↑(BitVec.ofInt IntKind.u64.bits S &&& BitVec.ofInt IntKind.u64.bits 2147483648).toNat=0:=by
   have:=ConcN.st_flag v H bB bB;rw[show (v:Int)*4294967296+(H:Int)=S from hS.symm] at this;exact this
  have b2:IntKind.u64.wrap ↑(BitVec.ofInt IntKind.u64.bits S &&& BitVec.ofInt IntKind.u64.bits 2147483647).toNat=(H:Int):=by
   have:=ConcN.st_waiters v H bB bB;rw[show (v:Int)*4294967296+(H:Int)=S from hS.symm] at this;exact this
  have c1:IntKind.i32.wrap (v:Int)=v:=by rw[IntKind.wrap_i32];omega
  have c2:IntKind.u32.wrap (H:Int)=H:=by rw[IntKind.wrap_u32];omega
  have e:WgAt 115 I w (((v:Int)+1)*ConcR.KK+(H:Int)) 0:=e;rw[<-hS];clear hS;refine⟨_,(stepG_add_atomic rfl rfl bM rfl eH.f_addU64 (x_addU64_n lk) (x_addU64_b lk) (x_addU64_x lk) .u64 (x_addU64_f lk) rfl rfl e.cellSt (e.thaw 0)).trans (by rw[eS];rfl),λhl=>absurd hl.1 bB,λ_=>?_⟩;clear e;walk_nrm;have k:=qw (P:=prog) 1;change Ee prog 1 _;refine k.op ?_;refine k.done ?_;refine k.ret ?_;refine k.leave1 func92 ?_;refine k.op ?_;refine k.done ?_;refine k.seq ?_;refine k.seq ?_;refine k.region ?_;refine k.op ?_;refine k.op (v:=.int .u64 0) ?_ (h:=by exact congrArg (λx=>some (Next.value (.int .u64 x))) b1);refine k.op ?_;refine k.op ?_;refine k.un ?_;refine k.un ?_;refine k.op ?_;refine k.done ?_;refine k.no ?_;refine k.skip ?_;refine k.seq ?_;refine k.region ?_;refine k.op ?_;refine k.op (v:=.int .u64 v) ?_ (h:=by exact congrArg (λx=>some (Next.value (.int .u64 x))) Z);refine k.op (v:=.int .i32 v) ?_ (h:=by exact congrArg (λx=>some (Next.value (.int .i32 x))) c1);refine k.op ?_;refine k.done ?_;refine k.seq ?_;refine k.region ?_;refine k.op ?_;refine k.op (v:=.int .u64 H) ?_ (h:=by exact congrArg (λx=>some (Next.value (.int .u64 x))) b2);clear Z b1 b2 c1 c2 eS;refine k.op ?_;refine k.op ?_;refine k.done ?_;obtain rfl|rfl:H=0\/H=1:=bB;all_goals
   refine k.seq ?_;refine k.seq ?_;refine k.region ?_;refine k.op ?_;refine k.op ?_;refine k.op ?_;refine k.op ?_;refine k.op ?_;refine k.un ?_;refine k.un ?_;refine k.un ?_;refine k.un ?_;refine k.op ?_;refine k.done ?_;refine k.no ?_;refine k.skip ?_;refine k.seq ?_;refine k.seq ?_;refine k.region ?_;refine k.op ?_;refine k.op (v:=.bool false) ?_ (h:=by exact congrArg (λx=>some (Next.value (.bool x))) (decide_eq_false bB));refine k.done ?_;refine k.no ?_;refine k.skip ?_;refine k.seq ?_;refine k.seq ?_;refine k.region ?_;refine k.op ?_;refine k.op ?_;refine k.op ?_;first
    | (refine k.un ?_;refine k.un ?_)
    | (refine k.op ?_;refine k.op ?_)
   refine k.op ?_;refine k.op ?_;refine k.un ?_;refine k.un ?_;refine k.un ?_;refine k.un ?_;refine k.op ?_;refine k.done ?_;refine k.no ?_;refine k.skip ?_;refine k.seq ?_;refine k.seq ?_;refine k.region ?_;refine k.op ?_;refine k.op (v:=.bool true) ?_ (h:=by exact congrArg (λx=>some (Next.value (.bool x))) (decide_eq_true bB));refine k.op ?_;refine k.un ?_;refine k.un ?_;refine k.op ?_;refine k.done ?_;refine k.yes ?_;refine k.ret ?_;refine Ee.enable eH.f_enable (x_enable_n lk) (x_enable_b lk) (x_enable_x lk) (x_enable_f lk) ?_;have k:=qw (P:=prog) 0;refine k.leave0 func55 ?_;refine k.done ?_;refine k.fin ?_;exact⟨_,QuitsD.leaveD rfl rfl func57 rfl U J⟩
end Go.Proofs.YtnonoiafongllaaGreatDoor
namespace Px
open Go Go.Conc
structure KN(Ro:Nat->Prop)(L:Nat)(h:Nat->Option Obj)(e:World)(w:World)(O:Nat->Prop):Prop where
 ro:∀b,Ro b->w.heap[b]? = h b
 own:∀b,O b->L<=b/\b<w.heap.size
 size:L<=w.heap.size
 env:w.os=e.os/\w.output=e.output
section
variable {P:Program} {m:Bool} {Ro O:Nat->Prop} {L:Nat} {h:Nat->Option Obj} {S:aR} {e w w₁:World} {g:Goroutine}
theorem KN.keep(k:KN Ro L h e w O)(hk:Keep Ro O w w₁):KN Ro L h e w₁ O:=
 ⟨λb H=>(hk.same b (.inl H)).trans (k.ro b H),λb H=>⟨(k.own b H).1,lt_of_lt_of_le (k.own b H).2 hk.size⟩,le_trans k.size hk.size,hk.env.1.trans k.env.1,hk.env.2.trans k.env.2⟩
theorem KN.none(k:KN Ro L h e w O):KN Ro L h e w λ_=>False:=⟨k.ro,λ_ h=>h.elim,k.size,k.env⟩
theorem KN.fine(J:∀b,Ro b->b<L)(k:KN Ro L h e w O){w':World}{es:Array Event}(I:nT Ro O w w' es):KN Ro L h e w' (grow O w w'):=by
 refine⟨λb H=>(I.old b (lt_of_lt_of_le (J b H) k.size) λZ=>?_).trans (k.ro b H),λb H=>?_,le_trans k.size I.size,I.os.trans k.env.1,I.output.trans k.env.2⟩
 ·have:=(k.own b Z).1;have:=J b H;omega
 ·rcases H with H|⟨M,U⟩
  ·exact⟨(k.own b H).1,lt_of_lt_of_le (k.own b H).2 I.size⟩
  ·exact⟨le_trans k.size M,U⟩
theorem Runs.know(U:∀b,Ro b->b<L)(hR:Runs P m Ro S g w O):KN Ro L h e w O->Runs P m Ro (λg w O=>S g w O/\KN Ro L h e w O) g w O:=by
 induction hR with
 | stop hs=>exact λk=>.stop λw₁ H=>⟨hs w₁ H,k.keep H⟩
 | step h1 _ ih=>
  refine λk=>.step h1 λw₁ g' w' es hk J=>ih w₁ g' w' es hk J ?_
  obtain⟨Z,w'',M,I,_,hf⟩:=h1 w₁ hk;rw[J] at I;cases I;exact (k.keep hk).fine U hf
theorem sS(O:Nat->Prop):Cl Ro O λw=>KN Ro L h e w λ_=>False:=λ_ _ hk k=>⟨λb H=>(hk.same b (.inl H)).trans (k.ro b H),λ_ h=>h.elim,le_trans k.size hk.size,hk.env.1.trans k.env.1,hk.env.2.trans k.env.2⟩
end
end Px
namespace Go.Proofs.YtnonoiafongllaaGreatDoor
open Go Go.Conc Px
noncomputable def KC:List Nat:=[19,31,38,39,49,61,62,63,64,65,78,80,103,104,105,106,107,108,109,110,111,116,120,126,127,128,129,130,131,132,134,135,136,137,138,139]
noncomputable def YB:List Nat:=[2,3,7,8,12,13]
noncomputable def yI:Ok:={ fn:=λf=>KC.contains f,gl:=λg=>YB.contains g }
noncomputable def LZ:Fs:={ fn:=λf=>KC.contains f=true,G:=prog.globals.size,bt:=1000000 }
noncomputable def KD(f:Nat):Bool:=match prog.funcs[f]? with
 | some fn=>!(fn.name == "runtime.NumGoroutine")&&(match fn.body with|some c=>dR prog yI c|none=>false)&&(prog.inits.idxOf? f).isNone
 | none=>false
theorem Z6:KC.all KD=true:=bK
theorem Pj{f:Nat}(h:KC.contains f=true):KD f=true:=all_eq_true.1 Z6 f (by simpa using h)
theorem Uw:Setup LZ prog yI where
 bodies:=λf e=>by
  have:=Pj e;unfold KD at this;cases h:prog.funcs[f]? with
  | none=>rw[h] at this;cases this
  | some fn=>
   rw[h] at this;simp only[Bool.and_eq_true] at this;obtain⟨⟨J,H⟩,_⟩:=this;cases I:fn.body with
   | none=>rw[I] at H;cases H
   | some c=>
    rw[I] at H;exact⟨fn,c,rfl,by simpa using J,I,H⟩
 fns:=λf e=>.inl e
 ext:=λf e=>e.elim
 mt:=λn hn=>by cases hn
 cm:=λh=>by cases h
 G:=rfl
 bt:=bK
 recs:=λf h=>h.elim
theorem zU:Base LZ prog yI where
 S:=Uw
 hin:=λf H=>by
  have:=Pj (H.resolve_right id);unfold KD at this;cases h:prog.funcs[f]? with
  | none=>rw[h] at this;cases this
  | some fn=>
   rw[h] at this;simp only[Bool.and_eq_true] at this;simpa using this.2
 trap:=⟨{ fn:=prog.funcs.size,tmps:=#[],todo:=[.call default default "fmt's door" default],defers:=[],mode:=.run,kind:=.normal,roundOf:=none },eO,rfl,λl=>by
  have e:prog.funcs[prog.funcs.size]? = none:=eO;have h : "fmt's door".startsWith "fmt's door" = true:=by decide +kernel
  simp only[Frame.raise,Frame.catches,e];exact h⟩
noncomputable def zV:Bool->Code|true=>Tryz.f59.body.getD .skip|false=>Tryz.f77.body.getD .skip
noncomputable def Cg(q:Bool):Code:=match zV q with | .seq _ (.seq _ (.seq _ (.seq (.seq _ (.block _ (.loop c))) _)))=>c|_=>.ret
noncomputable def L6(q:Bool):Code:=match zV q with | .seq _ (.seq _ (.seq _ (.seq (.seq _ (.block _ (.loop _))) c)))=>c|_=>.ret
def Ef(n:Nat)(c:Option Nat)(cr A next got:Nat)(j:Nat->Value):List Value:=[goInt n,.chan c,.chan (some cr),j 3,j 4,j 5,.slice none 0 0,.slice (some ⟨A,0,none⟩) n n,goInt next,goInt got,j 10,j 11,j 12,j 13,j 14,j 15,j 16,j 17,j 18,j 19,j 20,j 21,j 22,j 23,j 24,j 25,j 26,j 27,j 28,j 29,j 30,j 31,j 32,j 33,j 34,j 35,j 36]
noncomputable def qP(q:Bool)(L:List Value)(cs:List Frame):Goroutine:=G ((base (gF q)).at ⟨L.toArray,[]⟩ [.code (Cg q),.inLoop (Cg q),.inBlock 0,.code (L6 q)]) cs
noncomputable def sU(q:Bool)(n:Nat)(c:Option Nat)(cr A next got:Nat)(j:Nat->Value)(cs:List Frame): {g:Goroutine // got<n->∀m T,bR prog m T->T g->T (qP q (Ef n c cr A next got j) cs)}:=by
 cases q;all_goals
 apply Subtype.mk;intro hl m T k h;simp only[qP,Cg,L6,zV,Tryz.f59,Tryz.f77,gF,Ef,Option.getD_some];refine k.seq ?_;refine k.seq ?_;refine k.region ?_;refine k.op ?_;refine k.op ?_;refine k.op (v:=.bool true) ?_ (h:=by exact congrArg (λx=>some (Next.value (.bool x))) (decide_eq_true bB));refine k.done ?_;refine k.yes ?_;refine k.skip ?_;repeat (first|refine k.seq ?_|refine k.done ?_|refine k.region ?_|refine k.op ?_|refine k.un ?_|refine k.yes ?_|refine k.no ?_|refine k.skip ?_|refine k.block ?_|refine k.loop ?_|refine k.inBlock ?_|refine k.inLoop ?_|refine k.exit ?_)
 exact h
theorem Pm(q:Bool)(n:Nat)(c:Option Nat)(e A next got:Nat)(j:Nat->Value)(cs:List Frame)(m:Bool)(w:World):stepG prog m (sU q n c e A next got j cs).1 w = .comm (sU q n c e A next got j cs).1 #[⟨.chan c,some (goInt next),goInt 0⟩,⟨.chan (some e),none,.agg #[goInt 0,gZ q,.nilIface]⟩] true .select w #[]:=by
 obtain⟨t,I⟩:=aJ (tE q);obtain⟨v,H⟩:=aJ (gZ q);rw[<-H];cases q;all_goals
 refine Eq.trans (stepG_comm (cases:=#[⟨.chan c,some (goInt next),goInt 0⟩,⟨.chan (some e),none,.agg #[goInt 0,v,.nilIface]⟩]) (blocking:=true) (shape:=.select) (w':=w) rfl rfl bM ?_) ?_
 ·simp only[execOp];simp[go_sem,H,gZ]
 ·congr 1;unfold listed;simp[go_sem];rfl
theorem Eh{P:Program}{b:Frame}{a:Act}{ops:Array Oper}{i:Nat}{rest:List Nat}{k:List Item}{cs:List Frame}(cases:Array CommCase)(sh:CommShape)(e:Int)(v:Value)(ok:Bool):
  (G (b.at a (.inRegion ops (i::rest)::k)) cs).finishComm P cases sh e v ok=G (b.at (a.put ((ops[i]?).bind (·.dst)) (commResult cases sh e v ok)) (.inRegion ops rest::k)) cs:=by
 unfold Goroutine.finishComm G;rw[Frame.finish_at]
theorem Z7(x H y z e:Value):commResult #[⟨x,some y,z⟩,⟨H,none,e⟩] .select ((0:Nat):Int) undef false = .tuple #[goInt 0,.bool false,e]:=by
 simp[commResult]
theorem Z8(x e y z H v:Value):commResult #[⟨x,some y,z⟩,⟨e,none,H⟩] .select ((1:Nat):Int) v true = .tuple #[goInt 1,.bool true,v]:=by
 simp[commResult]
theorem KE{q:Bool}{T:Goroutine->Prop}{n:Nat}{c:Option Nat}{e A next got:Nat}{cs:List Frame}(H:∀j,T (qP q (Ef n c e A next got j) cs))(L:List Value)(hL:L=Ef n c e A next got λi=>L.getD i undef):T (G ((base (gF q)).at ⟨L.toArray,[]⟩ [.code (Cg q),.inLoop (Cg q),.inBlock 0,.code (L6 q)]) cs):=by
 rw[hL];exact H _
theorem Pn(q:Bool)(n cn H A next got:Nat)(hn:next+1<=n)(J:n<1000)(j:Nat->Value)(cs:List Frame)(x M y z U:Value)(m:Bool)(T:Goroutine->Prop)(k:bR prog m T)(e:∀j,T (qP q (Ef n (if next+1<n then some cn else none) H A (next+1) got j) cs)):
  T ((sU q n (some cn) H A next got j cs).1.finishComm prog #[⟨x,some y,z⟩,⟨M,none,U⟩] .select ((0:Nat):Int) undef false):=by
 cases q;all_goals
 have I:IntKind.i64.wrap ((next:Int)+1)=((next+1:Nat):Int):=by rw[IntKind.wrap_i64];omega
 simp only[sU,Eh,Z7];walk_nrm;refine k.op ?_;refine k.op ?_;refine k.op ?_;repeat (first|refine k.seq ?_|refine k.done ?_|refine k.yes ?_|refine k.no ?_|refine k.skip ?_|refine k.block ?_|refine k.loop ?_|refine k.inBlock ?_|refine k.inLoop ?_|refine k.exit ?_)
 refine k.region ?_;refine k.op ?_;refine k.op (v:=goInt ((next+1:Nat):Int)) ?_ (h:=by exact congrArg (λx=>some (Next.value (.int .i64 x))) I);refine k.op ?_;refine k.done ?_;refine k.seq ?_;refine k.region ?_;refine k.op ?_;refine k.op ?_;by_cases hl:next+1<n
 ·simp only[hl,if_true] at e;refine k.op (v:=.bool false) ?_ (h:=by exact congrArg (λx=>some (Next.value (.bool x))) (by simp;omega));repeat (first|refine k.done ?_|refine k.no ?_|refine k.skip ?_|refine k.inBlock ?_)
  refine k.inLoop ?_;refine KE e _ ?_;rfl
 ·simp only[hl,if_false] at e;refine k.op (v:=.bool true) ?_ (h:=by exact congrArg (λx=>some (Next.value (.bool x))) (by simp;omega));refine k.done ?_;refine k.yes ?_;refine k.region ?_;refine k.op ?_;repeat (first|refine k.done ?_|refine k.no ?_|refine k.skip ?_|refine k.inBlock ?_)
  refine k.inLoop ?_;refine KE e _ ?_;rfl
theorem L8(b o i:Nat):(⟨b,o,none⟩:Addr).add i=⟨b,o+i,none⟩:=by unfold Addr.add;split<;>simp_all
def oV(cur:Array Value)(off:Nat)(vs:List Value):Array Value:=(cur.toList.take off++vs++cur.toList.drop (off+vs.length)).toArray
theorem L9(q:Bool){Ro O:Nat->Prop}{S:aR}{w:World}(n:Nat)(c:Option Nat)(cr A next got i:Nat)(hi:i<n)(h63:n<1000)(hg:got+1<=n)(s e:Value)(hs:s.oneCell'=true)(he:e.oneCell'=true)(j:Nat->Value)(cs:List Frame)(x x' y z z':Value)(Ux:O A)
  (hA:∃cur,w.heap[A]? = some (.cells cur (tE q) (0,0))/\cur.size=3*n)
  (_:¬ Ro A) (ahi:∀b,Ro b->b<w.heap.size) (hOl:∀b,O b->b<w.heap.size)
  (hT:∀w' B cur,w.heap.size<=B->w.heap.size<=w'.heap.size->B<w'.heap.size->(∀b,Ro b\/O b->b≠A->w'.heap[b]? = w.heap[b]?)->w.heap[A]? = some (.cells cur (tE q) (0,0))->w'.heap[A]? = some (.cells (oV cur (3*i) [goInt i,s,e]) (tE q) (0,0))->(w'.os=w.os/\w'.output=w.output) ->
   ∀j,RunT prog true Ro (λb=>O b\/b=B) S w' (qP q (Ef n c cr A next (got+1) j) cs)) :
  RunT prog true Ro O S w ((sU q n c cr A next got j cs).1.finishComm prog #[⟨x,some y,z⟩,⟨x',none,z'⟩] .select ((1:Nat):Int) (.agg #[goInt i,s,e]) true):=by
 obtain⟨t,ht⟩:=aJ (tE q);obtain⟨v,hv⟩:=aJ (gZ q);rw[<-ht] at hA hT;cases q;all_goals
 have e1:IntKind.i64.wrap ((got:Int)+1)=((got+1:Nat):Int):=by rw[IntKind.wrap_i64];omega
 simp only[sU,Eh,Z8];walk_nrm;have k:=dI (P:=prog) true Ro O S w;refine k.op ?_;refine k.op ?_;refine k.op ?_;repeat (first|refine k.seq ?_|refine k.done ?_|refine k.yes ?_|refine k.no ?_|refine k.skip ?_|refine k.block ?_|refine k.loop ?_|refine k.inBlock ?_|refine k.inLoop ?_|refine k.exit ?_)
 refine k.region ?_;refine k.op ?_;refine RunT.make (ob:=.cells #[goInt 0,v,.nilIface] t) (mk:=λb=>.pointer (some ⟨b,0,none⟩)) ?_ ?_ (λw₁ h₁=>?_)
 ·intro w;simp only[execOp];simp[go_sem,ht,hv,tE,gZ]
 ·intro w;simp only[execOp];simp[go_sem]
 walk_nrm;have Ϣ:w₁.heap.size<(w₁.alloc (.cells #[goInt 0,v,.nilIface] t)).heap.size:=by rw[World.size_alloc];omega
 have ϻ:(w₁.alloc (.cells #[goInt 0,v,.nilIface] t)).heap[w₁.heap.size]? = some (.cells #[goInt 0,v,.nilIface] t (0,0)):=by
  show (w₁.heap.push _)[w₁.heap.size]? = _;rw[Array.getElem?_push,if_pos rfl]
 have hold:∀b,b<w₁.heap.size->(w₁.alloc (.cells #[goInt 0,v,.nilIface] t)).heap[b]? = w₁.heap[b]?:=λb hb=>by
  show (w₁.heap.push _)[b]? = _;rw[Array.getElem?_push,if_neg bB]
 obtain⟨w₂,ϭ⟩:=aJ (w₁.alloc (.cells #[goInt 0,v,.nilIface] t));have Fg:w₂.os=w₁.os/\w₂.output=w₁.output:=by rw[ϭ];exact⟨rfl,rfl⟩
 rw[<-ϭ] at Ϣ ϻ hold ⊢;clear ϭ;refine RunT.store (tt:=t) (off:=0) (vs:=[goInt i,s,e]) rfl ?_ ?_ (.inr rfl) (λw₃ J=>?_)
 ·intro u hu;simp only[mem_cons,not_mem_nil,or_false] at hu;rcases hu with rfl|rfl|rfl
  ·rfl
  ·exact hs
  ·exact he
 ·subst ht;kernel_rfl
 refine⟨_,(J.same _ (.inr (.inr rfl))).trans ϻ,eO,?_⟩;obtain⟨U,Ξ⟩:=aJ (w₃.setRow w₁.heap.size ((#[goInt 0,v,.nilIface]:Array Value).toList.take 0 ++ [goInt i,s,e]++(#[goInt 0,v,.nilIface]:Array Value).toList.drop (0 + [goInt i,s,e].length)).toArray);have YC:U.heap[w₁.heap.size]? = some (.cells #[goInt i,s,e] t (0,0)):=by
  rw[Ξ,setRow_heap _ _ _ _ _ _ ((J.same _ (.inr (.inr rfl))).trans ϻ)];rfl
 have Qz:∀b,b≠w₁.heap.size->U.heap[b]? = w₃.heap[b]?:=λb hb=>by rw[Ξ];exact setRow_other _ _ _ _ hb
 have aln:U.heap.size=w₃.heap.size:=by rw[Ξ,setRow_size]
 have abF:U.os=w₃.os/\U.output=w₃.output:=by rw[Ξ];exact oK _ _ _
 rw[<-Ξ];clear Ξ;have k:=dI (P:=prog) true Ro (λb=>O b\/b=w₁.heap.size) S U;refine k.done ?_;refine k.seq ?_;refine k.region ?_;refine k.op ?_;refine k.op ?_;refine RunT.load (v:=goInt i) (ad:=⟨w₁.heap.size,0,none⟩) isAgg3 (λw₅ I=>?_) (.inr (.inr rfl)) ?_
 ·simp only[World.cell?,(I.same _ (.inr (.inr rfl))).trans YC];rfl
 walk_nrm;refine RunT.aeF (l:=[goInt i,s,e]) (ad:=⟨w₁.heap.size,0,none⟩) ?_ ?_ (λw₅ I jj u hu=>?_) (.inr (.inr rfl)) ?_
 ·first|exact isAgg104|exact isAgg140
 ·kernel_rfl
 ·have hc5:=(I.same _ (.inr (.inr rfl))).trans YC;simpa [World.cell?,L8,hc5] using hu
 walk_nrm;refine RunT.value (λw₅ I=>⟨.pointer (some ⟨A,3*i,none⟩),w₅,?_,?_,?_⟩)
 ·simp only[execOp];simp[go_sem,hi,L8,Nat.mul_comm]
 ·refine nT.rest λev ó=>?_
  revert ó;simp only[execOp];simp[go_sem];rw[events_indexAt_slice _ ⟨A,0,none⟩ n n .i64 i ?_ ⟨bB,bB⟩];simp
  kernel_rfl
 rw[nX];walk_nrm;obtain⟨cur,hA,ϡ⟩:=hA;have hlA:A<w.heap.size:=hOl A Ux;have Ä:=h₁.size;have abH:∀b,Ro b\/O b->w₅.heap[b]? = w.heap[b]?:=λb hb=>by
  have ò:b<w.heap.size:=hb.elim (ahi b) (hOl b);rw[I.same b (hb.imp id .inl),Qz b bB,J.same b (hb.imp id .inl),hold b bB,h₁.same b hb]
 have hA5:w₅.heap[A]? = some (.cells cur t (0,0)):=(abH A (.inr Ux)).trans hA;refine RunT.store (g:=A) (tt:=t) (off:=3*i) (vs:=[goInt i,s,e]) rfl ?_ ?_ (.inl Ux) (λZ M=>⟨cur,(M.same _ (.inr (.inl Ux))).trans hA5,by simp;omega,?_⟩)
 ·intro u hu;simp only[mem_cons,not_mem_nil,or_false] at hu;rcases hu with rfl|rfl|rfl
  ·rfl
  ·exact hs
  ·exact he
 ·subst ht;kernel_rfl
 have hA6:=(M.same A (.inr (.inl Ux))).trans hA5;obtain⟨H,Ŭ⟩:=aJ (Z.setRow A (oV cur (3*i) [goInt i,s,e]));have hA7:H.heap[A]? = some (.cells (oV cur (3*i) [goInt i,s,e]) t (0,0)):=by rw[Ŭ,setRow_heap _ _ _ _ _ _ hA6]
 have aeG:∀b,b≠A->H.heap[b]? = Z.heap[b]?:=λb hb=>by rw[Ŭ];exact setRow_other _ _ _ _ hb
 have alo:H.heap.size=Z.heap.size:=by rw[Ŭ,setRow_size]
 have abI:H.os=Z.os/\H.output=Z.output:=by rw[Ŭ];exact oK _ _ _
 have env:H.os=w.os/\H.output=w.output:=⟨abI.1.trans (M.env.1.trans (I.env.1.trans (abF.1.trans (J.env.1.trans (Fg.1.trans h₁.env.1))))),abI.2.trans (M.env.2.trans (I.env.2.trans (abF.2.trans (J.env.2.trans (Fg.2.trans h₁.env.2)))))⟩;show RunT _ _ _ _ _ (Z.setRow A (oV cur (3*i) [goInt i,s,e])) _;rw[<-Ŭ];clear Ŭ;have k:=dI (P:=prog) true Ro (λb=>O b\/b=w₁.heap.size) S H;refine k.done ?_;refine k.region ?_;refine k.op ?_;refine k.op (v:=goInt ((got+1:Nat):Int)) ?_ (h:=by exact congrArg (λx=>some (Next.value (.int .i64 x))) e1);refine k.op ?_;repeat (first|refine k.done ?_|refine k.no ?_|refine k.skip ?_|refine k.inBlock ?_)
 refine k.inLoop ?_;have ş:=J.size;have hs5:=I.size;have hs6:=M.size;refine KE (hT H w₁.heap.size cur Ä bB bB (λb hb YD=>by rw[aeG b YD,M.same b (hb.imp id .inl),abH b hb]) hA hA7 env) _ ?_;rfl
theorem Uy(q:Bool)(n:Nat)(c:Option Nat)(H A next:Nat)(j:Nat->Value)(e:Frame)(cs:List Frame)(m:Bool)(T:Goroutine->Prop)(k:bR prog m T)(I:T (G (e.finish (.slice (some ⟨A,0,none⟩) n n)) cs)):T (qP q (Ef n c H A next n j) (e::cs)):=by
 cases q;all_goals
 refine k.seq ?_;refine k.seq ?_;refine k.region ?_;refine k.op ?_;refine k.op ?_;refine k.op (v:=.bool false) ?_ (h:=by exact congrArg (λx=>some (Next.value (.bool x))) (decide_eq_false bB));refine k.done ?_;refine k.no ?_;refine k.exit ?_;repeat (first|refine k.seq ?_|refine k.done ?_|refine k.region ?_|refine k.op ?_|refine k.un ?_|refine k.yes ?_|refine k.no ?_|refine k.skip ?_|refine k.block ?_|refine k.loop ?_|refine k.inBlock ?_|refine k.inLoop ?_|refine k.exit ?_)
 refine k.ret ?_;exact k.step rfl rfl (λw=>gP (v:=.slice (some ⟨A,0,none⟩) n n) rfl rfl rfl (by first|exact func59|exact func77) (by exact resultsC_tmp (t:=6) rfl _)) I
theorem Ma(q:Bool){Ro O:Nat->Prop}{S:aR}{w:World}(n cn cr:Nat)(h63:n<1000)(cs:List Frame)
  (hT:∀w₁ w' cur,Keep Ro O w w₁->w'.heap.size=w₁.heap.size+1->(∀b,b<w₁.heap.size->w'.heap[b]? = w₁.heap[b]?)->w'.heap[w₁.heap.size]? = some (.cells cur (tE q) (0,0))->cur.size=3*n->(w'.os=w₁.os/\w'.output=w₁.output) ->
   ∀j,RunT prog true Ro (λb=>O b\/b=w₁.heap.size) S w' (qP q (Ef n (some cn) cr w₁.heap.size 0 0 j) cs)) :
  RunT prog true Ro O S w (G ((base (gF q)).at ⟨([goInt n,.chan (some cn),.chan (some cr)]++List.replicate 34 undef:List Value).toArray,[]⟩ [.code (zV q)]) cs):=by
 have H:(prog.info? (tE q)).map (λi=>(i.zero,i.size,i.bytes))=some (some (.agg #[goInt 0,gZ q,.nilIface]),3,gB q):=by cases q<;>kernel_rfl
 have hu:prog.underlying (gR q)=some (.slice (tE q)):=by cases q<;>kernel_rfl
 obtain⟨I,hI,M⟩:=Option.map_eq_some_iff.1 H;simp only[Prod.mk.injEq] at M;obtain⟨M,hs,Z⟩:=M;have hr:∀w,(Instr.makeSlice (gR q) (goInt n) (goInt n)).run prog w = .ok (.slice (some ⟨w.heap.size,0,none⟩) n n) (w.alloc (.cells (madeCells #[goInt 0,gZ q,.nilIface] (n*3)) (tE q))):=λw=>by
  cases q;all_goals
  have:=run_make (P:=prog) w _ _ I _ hu hI M .i64 .i64 n n bB (Int.le_refl _) (by rw[Z];simp only[gB];omega) bB;simp only[Int.toNat_natCast,hs] at this;exact this
 have ó:∀w,(Instr.makeSlice (gR q) (goInt n) (goInt n)).events prog w #[]=#[]:=λw=>by cases q<;>exact events_make w _ _ I _ hu hI M .i64 .i64 n n bB (Int.le_refl _) (by rw[Z];simp only[gB];omega) bB (by rw[Z];simp only[gB];omega) _
 obtain⟨t,ht⟩:=aJ (tE q);obtain⟨v,hv⟩:=aJ (gZ q);rw[<-ht] at hT hr;rw[<-hv] at hr;cases q;all_goals
 simp only[zV,Tryz.f59,Tryz.f77,gF,Option.getD_some,List.replicate,cons_append,nil_append];have k:=dI (P:=prog) true Ro O S w;repeat (first|refine k.seq ?_|refine k.done ?_|refine k.region ?_|refine k.op ?_|refine k.un ?_|refine k.yes ?_|refine k.no ?_|refine k.skip ?_|refine k.block ?_|refine k.loop ?_|refine k.inBlock ?_|refine k.inLoop ?_|refine k.exit ?_)
 refine RunT.make (ob:=.cells (madeCells #[goInt 0,v,.nilIface] (n*3)) t) (mk:=λb=>.slice (some ⟨b,0,none⟩) n n) ?_ ?_ (λw₁ U=>?_)
 ·intro w;simp only[execOp];simp[go_sem];exact congrArg (λr=>Result.andThen r _) (hr w)
 ·intro w;simp only[execOp];simp[go_sem];exact ó w
 walk_nrm;obtain⟨e,J⟩:=aJ (w₁.alloc (.cells (madeCells #[goInt 0,v,.nilIface] (n*3)) t));have h1:e.heap.size=w₁.heap.size+1:=by rw[J,World.size_alloc]
 have h2:∀b,b<w₁.heap.size->e.heap[b]? = w₁.heap[b]?:=λb Z=>by
  rw[J];show (w₁.heap.push _)[b]? = _;rw[Array.getElem?_push,if_neg bB]
 have h3:e.heap[w₁.heap.size]? = some (.cells (madeCells #[goInt 0,v,.nilIface] (n*3)) t (0,0)):=by
  rw[J];show (w₁.heap.push _)[w₁.heap.size]? = _;rw[Array.getElem?_push,if_pos rfl]
 have Fg:e.os=w₁.os/\e.output=w₁.output:=by rw[J];exact⟨rfl,rfl⟩
 rw[<-J];clear J;have k:=dI (P:=prog) true Ro (λb=>O b\/b=w₁.heap.size) S e;refine k.op ?_;refine k.done ?_;refine k.seq ?_;refine k.region ?_;refine k.op ?_;refine k.done ?_;refine k.seq ?_;refine k.seq ?_;refine k.region ?_;refine k.op ?_;refine k.done ?_;refine k.block ?_;refine k.loop ?_;refine KE (hT w₁ e _ U h1 h2 h3 (by rw[size_madeCells,Nat.mul_comm]) Fg) _ ?_;rfl
open Go.ConcR.Gen
noncomputable def bot:Frame:={ (default:Frame) with fn:=prog.funcs.size,defers:=[],mode:=.panicking [goexitEntry] }
def eF:Bool->Nat|true=>56|false=>75
noncomputable def Mc:Bool->Code|true=>Tryz.f56.body.getD .skip|false=>Tryz.f75.body.getD .skip
noncomputable def YE(q:Bool):Array Oper:=match Mc q with | .seq _ (.region _ o _)=>o|_=>#[]
noncomputable def Ch(q:Bool)(Wg:Nat)(p1 p2 p3 p4 x y z u:Value):Frame:=(baseD (eF q)).at { tmps:=#[.pointer (some ⟨Wg,0,none⟩),p1,p2,p3,p4,x,y,z,u,undef],defers:=[dcall 57 #[.pointer (some ⟨Wg,0,none⟩)]] } [.inRegion (YE q) [4]]
theorem Rb(q:Bool)(T:Array Value)(td:List Item):QuitsD prog 2 0 (G { (baseD (eF q)).at ⟨T,[]⟩ td with mode:=.returning } [bot]):=by
 refine QuitsD.ctl (g':=G bot []) rfl (λw=>?_) ?_
 ·cases q<;>simp[G,stepG,unwind,doReturn,results,Frame.at,baseD,bot,eF,func56,Tryz.f56,func75,Tryz.f75,seen,GStep.after,goexitEntry]
 refine QuitsD.ctl (g':={ G bot [] with status:=.finished }) rfl (λw=>?_) ⟨rfl,rfl⟩;simp[G,stepG,unwind,bot,goexitEntry,Frame.catches];rfl
theorem xM(q:Bool)(Ro:Nat->Prop)(e cn:Nat)(H I J M x y z u U y' u':Value)(j:Nat->Value):
  wo prog (BR (gp Ro e cn (goInt 0))) ((G (nZ q U y' (.chan (some cn)) u' j) [Ch q e H I J M x y z u,bot]).finishComm prog #[⟨.chan (some cn),none,goInt 0⟩] (.recv true) (0:Nat) (goInt 0) false):=by
 cases q;all_goals
 have k:=qp (P:=prog) (BR (gp Ro e cn (goInt 0)));show wo _ _ (G ((base _).at { tmps:=#[U,y',.chan (some cn),u',j 4,j 5,j 6,j 7,j 8,j 9,j 10,.chan (some cn),.tuple #[goInt 0,.bool false],j 13,j 14,j 15,j 16,j 17,j 18,j 19,j 20,j 21,j 22,j 23,j 24,j 25,j 26,j 27,j 28],defers:=[] } [.inRegion #[{ dst:=some 12,op:=Op.recv 171 (Operand.tmp 11) true,type:=0,pos:= "each.go:49",after:=#[],guard:=none },{ dst:=some 13,op:=Op.extract (Operand.tmp 12) 1,type:=4,pos:= "each.go:49",after:=#[{ on:=0,ground:=Ground.data }],guard:=none }] [1],.code _,.inLoop _,.inBlock 0]) _);refine k.op ?_;refine k.done ?_;simp only[Cb,Jv,bdW,Tryz.f58,Tryz.f76];repeat (first|refine k.seq ?_|refine k.done ?_|refine k.region ?_|refine k.op ?_|refine k.un ?_|refine k.yes ?_|refine k.no ?_|refine k.skip ?_|refine k.exit ?_|refine k.inBlock ?_)
 refine k.fin ?_;show wo _ _ (G _ [Ch _ e H I J M x y z u,bot]);simp only[Ch,YE,Mc,Tryz.f56,Tryz.f75,Option.getD_some];refine k.leave0 (by first|exact func58|exact func76) ?_;refine k.done ?_;refine k.fin ?_;refine k.dcall (l:=[.pointer (some ⟨e,0,none⟩)]) 3 func57 rfl bK ?_;exact WS rfl (Rb _ _ _)
noncomputable def og(q:Bool)(Wg:Nat)(p1 p2 p3 p4:Value):Deferred:={ target:=.fn (.func (eF q)) #[.pointer (some ⟨Wg,0,none⟩),p1,p2,p3,p4],args:=#[] }
theorem Z9(q:Bool)(e:Nat)(H I J M:Value)(w:World):stepG prog false (born prog (og q e H I J M)) w = .go (G ((baseD (eF q)).at ⟨#[.pointer (some ⟨e,0,none⟩),H,I,J,M,undef,undef,undef,undef,undef],[]⟩ [.code (Mc q)]) [bot]) w #[]:=by
 cases q<;>simp[born,og,eF,stepG,unwind,callDeferred,invoke,callFunc,func56,Tryz.f56,func75,Tryz.f75,seen,GStep.after,G,Frame.enter,Frame.at,baseD,bot,Mc]
theorem Ei(q:Bool){Ro O:Nat->Prop}{F:World->Prop}(hc:Cl Ro O F)(M:Nat){e H I J:Addr}{x y z u:Value}(Z:∀w,F w->w.cell? e=some x)(h2:∀w,F w->w.cell? H=some y)(h3:∀w,F w->w.cell? I=some z)(h4:∀w,F w->w.cell? J=some u)(r1:Ro e.block)(r2:Ro H.block)(r3:Ro I.block)(r4:Ro J.block):
  RF prog false Ro (Ph q x y z u [Ch q M (.pointer (some e)) (.pointer (some H)) (.pointer (some I)) (.pointer (some J)) x y z u,bot]) F (born prog (og q M (.pointer (some e)) (.pointer (some H)) (.pointer (some I)) (.pointer (some J)))) O:=by
 have U:=Q9 q (O:=O) hc x y z u [Ch q M (.pointer (some e)) (.pointer (some H)) (.pointer (some I)) (.pointer (some J)) x y z u,bot];have k:=abE (P:=prog) (m:=false) (S:=Ph q x y z u [Ch q M (.pointer (some e)) (.pointer (some H)) (.pointer (some I)) (.pointer (some J)) x y z u,bot]) hc;cases q;all_goals
 refine RF.idle hc (Z9 _ M _ _ _ _) rfl ?_;simp only[Mc,Tryz.f56,Tryz.f75,Option.getD_some];change Gn _ _ _ _ _ _ _;refine k.seq ?_;refine k.region ?_;refine k.defer ?_;refine k.done ?_;refine k.region ?_;refine Gn.load hc ?_ Z (.inl r1) ?_;first|exact isAgg22|exact isAgg26
 refine Gn.load hc ?_ h2 (.inl r2) ?_;first|exact isAgg49|exact isAgg44
 refine Gn.load hc isAgg106 h3 (.inl r3) ?_;refine Gn.load hc ?_ h4 (.inl r4) ?_;first|exact isAgg107|exact isAgg141
 first|refine k.call 25 func58 rfl bK ?_|refine k.call 25 func76 rfl bK ?_
 simp only[wF] at U;first|rw[enter_at (n:=25) func58 rfl rfl] at U|rw[enter_at (n:=25) func76 rfl rfl] at U
 exact U
