import Derived.Test.YtnonoiafongllaaGreatDoorPxWork
import Derived.Test.YtnonoiafongllaaGreatDoorChecked
import Derived.Test.YtnonoiafongllaaGreatDoorPxInvGroup
import Derived.Conc.AppendEvents3
import Derived.Conc.AppendWalk
import Derived.Conc.SmallLaws
import Derived.Laws.CopyRow
import Derived.Test.YtnonoiafongllaaGreatDoorProg
import Derived.Laws.Tables
import Derived.Laws.MakeOwn
set_option maxRecDepth 100000
set_option maxHeartbeats 2000000
namespace Go.Proofs.YtnonoiafongllaaGreatDoor
abbrev lk:Go.Conc.Lib.WgLink:={ add:=55,done:=57,wait:=60,relMerge:=85,disable:=86,enable:=87,inBubble:=88,associate:=89,fatal:=90,uOr:=91,uAdd:=92,raceRead:=93,uLoad:=94,uStore:=95,disassociate:=96,semrelease:=97,acquire:=98,isAssociated:=99,uCas:=100,raceWrite:=101,semacquire:=102,orU64:=121,addU64:=122,loadU64:=123,storeU64:=124,casU64:=125,tWgP:=160,tUP:=125,tAssoc:=162,tWg:=115,tAU:=113,tU64:=53,tUint:=92,tU32:=90,tPU32:=166,tPAU:=217,tPU64:=219,tNoCopy:=109,tANoCopy:=110,tAlign64:=111 }
theorem bL:Go.Conc.Lib.WgLib Tryz.prog lk:=
 ⟨Tryz.func55,Tryz.func57,Tryz.func60,Tryz.func85,Tryz.func86,Tryz.func87,Tryz.func88,Tryz.func89,Tryz.func90,Tryz.func91,Tryz.func92,Tryz.func93,Tryz.func94,Tryz.func95,Tryz.func96,Tryz.func97,Tryz.func98,Tryz.func99,Tryz.func100,Tryz.func101,Tryz.func102,Tryz.func121,Tryz.func122,Tryz.func123,Tryz.func124,Tryz.func125,Tryz.underlying160,Tryz.runUnderlying160,Tryz.sizeOf160,Tryz.isAgg160,Tryz.zeroValue160,Tryz.underlying125,Tryz.runUnderlying125,Tryz.sizeOf125,Tryz.isAgg125,Tryz.zeroValue125,Tryz.underlying162,Tryz.runUnderlying162,Tryz.sizeOf162,Tryz.isAgg162,Tryz.zeroValue162,Tryz.underlying115,Tryz.runUnderlying115,Tryz.sizeOf115,Tryz.isAgg115,Tryz.zeroValue115,Tryz.underlying113,Tryz.runUnderlying113,Tryz.sizeOf113,Tryz.isAgg113,Tryz.zeroValue113,Tryz.underlying53,Tryz.runUnderlying53,Tryz.sizeOf53,Tryz.isAgg53,Tryz.zeroValue53,Tryz.underlying92,Tryz.runUnderlying92,Tryz.sizeOf92,Tryz.isAgg92,Tryz.zeroValue92,Tryz.underlying90,Tryz.runUnderlying90,Tryz.sizeOf90,Tryz.isAgg90,Tryz.zeroValue90,Tryz.underlying166,Tryz.runUnderlying166,Tryz.sizeOf166,Tryz.isAgg166,Tryz.zeroValue166,Tryz.underlying217,Tryz.runUnderlying217,Tryz.sizeOf217,Tryz.isAgg217,Tryz.zeroValue217,Tryz.underlying219,Tryz.runUnderlying219,Tryz.sizeOf219,Tryz.isAgg219,Tryz.zeroValue219,Tryz.underlying0,Tryz.runUnderlying0,Tryz.sizeOf0,Tryz.isAgg0,Tryz.zeroValue0,Tryz.underlying3,Tryz.runUnderlying3,Tryz.sizeOf3,Tryz.isAgg3,Tryz.zeroValue3,Tryz.underlying4,Tryz.runUnderlying4,Tryz.sizeOf4,Tryz.isAgg4,Tryz.zeroValue4,Tryz.underlying9,Tryz.runUnderlying9,Tryz.sizeOf9,Tryz.isAgg9,Tryz.zeroValue9,Tryz.underlying20,Tryz.runUnderlying20,Tryz.sizeOf20,Tryz.isAgg20,Tryz.zeroValue20,Tryz.underlying21,Tryz.runUnderlying21,Tryz.sizeOf21,Tryz.isAgg21,Tryz.zeroValue21,(by kernel_rfl),(by kernel_rfl)⟩
end Go.Proofs.YtnonoiafongllaaGreatDoor
namespace Px
open Go Go.Conc
theorem pK {P:Program} {m:Bool} {b:Frame} {a:Act} {k:List Item} {cs:List Frame} {w:World} {ops:Array Oper} {i:Nat} {rest:List Nat} {o:Oper} {src dst t:TypeId} {x:Operand} {ad:Addr} {v:Value} (ho:ops[i]? = some o) (hw:Region.wanted o (yielded ops a.tmps)=true) (hb:b.kind ≠ .early) (hop:o.op = .convert src dst x)
  (hx:a.eval x = .pointer (some ad)) (us:P.underlying src=some (.pointer t)) (ud:P.underlying dst=some .unsafePointer) (sz:(P.info? t).map (fun i=>decide (i.size=0))=some false) (hc:w.cell? ad=some v) :
  stepG P m (G (b.at a (.inRegion ops (i::rest)::k)) cs) w = .go (G (b.at (a.put o.dst (.pointer (some ad))) (.inRegion ops rest::k)) cs) w #[]:=by
 have e:execOp a.eval o=(do return .value (<-convert src dst (.pointer (some ad)))):=by
  unfold execOp;rw[hop];simp only[hx]
 have h1:Sem.run P (execOp a.eval o) w = .ok (.value (.pointer (some ad))) w:=by
  rw[e];simp[run_convert_to_unsafe us ud sz hc,Result.andThen]
 have h2:(execOp a.eval o).events P w #[]=#[]:=by
  rw[e];simp[events_convert_to_unsafe us ud sz hc]
 rw[stepG_value ho hw hb h1];unfold listed;rw[h2,show seen P b.fn #[]=#[] from seen_none P _]
end Px
namespace Px
open Go Go.Conc
noncomputable def quiet (P:Program) {A:Type}:Sem A->Option A
 | .pure a=>some a
 | .program k=>quiet P (k P)
 | _=>none
theorem uQ {P:Program} {A:Type}:∀ {s:Sem A} {a:A},quiet P s=some a->∀ w,Sem.run P s w = .ok a w/\∀ es,s.events P w es=es
 | .pure b,a,h,w=>by
  cases h;exact⟨rfl,fun es=>Sem.events_pure' ..⟩
 | .program k,a,h,w=>by
  have:=uQ (s:=k P) h w;exact⟨this.1,this.2⟩
structure aU (P:Program) (m:Bool) (T:Goroutine->Prop):Prop where
 step:∀ {g g':Goroutine},g.status = .running->g'.status = .running->(∀ w,stepG P m g w = .go g' w)->T g'->T g
def pO (P:Program) (S:Goroutine->Prop) (g:Goroutine):Prop:=∃ q,qo P S q g
def xk (P:Program) (d:Nat) (g:Goroutine):Prop:=∃ q,QuitsD P q d g
def RunT (P:Program) (m:Bool) (Ro O:Nat->Prop) (S:aF) (w:World) (g:Goroutine):Prop:=∀ w₁,Keep Ro O w w₁->Runs P m Ro S g w₁ O
theorem lC {P:Program} (S:Goroutine->Prop):aU P false (pO P S):=⟨fun hr _ h ⟨q,hq⟩=>⟨q+1,hr,.inr fun w=>⟨_,h w,hq⟩⟩⟩
theorem lD {P:Program} (d:Nat):aU P false (xk P d):=⟨fun hr _ h ⟨q,hq⟩=>⟨q+1,.ctl hr h hq⟩⟩
theorem bJ {P:Program} (m:Bool) (Ro O:Nat->Prop) (S:aF) (w:World):aU P m (RunT P m Ro O S w):=⟨fun {g g'} _ hr h ht w₁ hk=>by
 refine .step (fun w₂ hk2=>⟨g',w₂,_,h w₂,hr,.rest fun e he=>by simp at he⟩) fun w₂ g'' w'' es hk2 e=>?_
 rw[h w₂] at e;cases e;rw[jV];exact ht w₂ (hk.trans hk2)⟩
section
variable {P:Program} {m:Bool} {T:Goroutine->Prop} {b:Frame} {a a':Act} {k k':List Item} {cs:List Frame} {ops:Array Oper} {i:Nat} {rest:List Nat} {o:Oper} {v:Value} {d:Option Tmp} {x y:Code} {l:Nat} {f:FuncId} {fn:Func}
theorem aU.seq (c:aU P m T) (hn:T (G (b.at a (.code x :: .code y::k)) cs)):T (G (b.at a (.code (.seq x y)::k)) cs):=c.step rfl rfl (fun _=>stepG_seq) hn
theorem aU.skip (c:aU P m T) (hn:T (G (b.at a k) cs)):T (G (b.at a (.code .skip::k)) cs):=c.step rfl rfl (fun _=>stepG_skip) hn
theorem aU.block (c:aU P m T) (hn:T (G (b.at a (.code x :: .inBlock l::k)) cs)):T (G (b.at a (.code (.block l x)::k)) cs):=c.step rfl rfl (fun _=>stepG_block) hn
theorem aU.inBlock (c:aU P m T) (hn:T (G (b.at a k) cs)):T (G (b.at a (.inBlock l::k)) cs):=c.step rfl rfl (fun _=>stepG_inBlock) hn
theorem aU.loop (c:aU P m T) (hn:T (G (b.at a (.code x :: .inLoop x::k)) cs)):T (G (b.at a (.code (.loop x)::k)) cs):=c.step rfl rfl (fun _=>stepG_loop) hn
theorem aU.inLoop (c:aU P m T) (hn:T (G (b.at a (.code x :: .inLoop x::k)) cs)):T (G (b.at a (.inLoop x::k)) cs):=c.step rfl rfl (fun _=>stepG_inLoop) hn
theorem aU.exit (c:aU P m T) (hn:T (G (b.at a k') cs)) (he:exitTo l k=some k':=by rfl):T (G (b.at a (.code (.exit l)::k)) cs):=c.step rfl rfl (fun _=>stepG_exit he) hn
theorem aU.region (c:aU P m T) {n:Nat} {r:List Nat} (hn:T (G (b.at a (.inRegion ops r::k)) cs)) (hs:ops.size=n:=by (simp only[List.size_toArray,List.length_cons,List.length_nil,Nat.reduceAdd,Nat.zero_add];rfl)) (hr:List.range n=r:=by (simp only[List.range,List.range.loop];rfl)):T (G (b.at a (.code (.region l ops false)::k)) cs):=by
 subst hs hr;exact c.step rfl rfl (fun _=>stepG_region) hn
theorem aU.done (c:aU P m T) (hn:T (G (b.at a k) cs)):T (G (b.at a (.inRegion ops []::k)) cs):=c.step rfl rfl (fun _=>stepG_region_end) hn
theorem aU.yes (c:aU P m T) {t:Operand} (hn:T (G (b.at a (.code x::k)) cs)) (ht:a.eval t = .bool true:=by rfl):T (G (b.at a (.code (.cond t x y)::k)) cs):=c.step rfl rfl (fun _=>(stepG_cond (t:=true) ht)) hn
theorem aU.no (c:aU P m T) {t:Operand} (hn:T (G (b.at a (.code y::k)) cs)) (ht:a.eval t = .bool false:=by rfl):T (G (b.at a (.code (.cond t x y)::k)) cs):=c.step rfl rfl (fun _=>(stepG_cond (t:=false) ht)) hn
theorem aU.un (c:aU P m T) (hn:T (G (b.at a' (.inRegion ops rest::k)) cs)) (ho:ops[i]? = some o:=by (simp only[List.getElem?_toArray,List.getElem?_cons_zero,List.getElem?_cons_succ];rfl)) (hw:Region.wanted o (yielded ops a.tmps)=false:=by rfl) (hd:o.dst=d:=by rfl)
  (hp:a.put d undef=a':=by (simp only[Go.Act.put,List.setIfInBounds_toArray,List.set_cons_zero,List.set_cons_succ];rfl)):T (G (b.at a (.inRegion ops (i::rest)::k)) cs):=by
 subst hd hp;exact c.step rfl rfl (fun _=>stepG_unwanted ho hw) hn
def calm:Op->Bool
 | .call _=>false
 | .defer _=>false
 | .go _=>false
 | _=>true
theorem aU.op (c:aU P m T) (hn:T (G (b.at a' (.inRegion ops rest::k)) cs)) (ho:ops[i]? = some o:=by (simp only[List.getElem?_toArray,List.getElem?_cons_zero,List.getElem?_cons_succ];rfl)) (hw:Region.wanted o (yielded ops a.tmps)=true:=by rfl) (hb:b.kind ≠ .early:=by decide) (_:calm o.op=true:=by rfl)
  (h:quiet P (execOp a.eval o)=some (.value v):=by rfl) (hd:o.dst=d:=by rfl)
  (hp:a.put d v=a':=by (simp only[Go.Act.put,Go.Act.eval,Array.getD_eq_getD_getElem?,List.getElem?_toArray,List.getElem?_cons_zero,List.getElem?_cons_succ,Option.getD_some,List.setIfInBounds_toArray,List.set_cons_zero,List.set_cons_succ,List.getElem_toArray,List.getElem_cons_zero,List.getElem_cons_succ];rfl)) :
  T (G (b.at a (.inRegion ops (i::rest)::k)) cs):=by
 subst hd hp;exact c.step rfl rfl (fun w=>by rw[stepG_value ho hw hb (uQ h w).1];unfold listed;rw[(uQ h w).2,seen_none]) hn
theorem aU.call (c:aU P m T) (n:Nat) {xs:Array Operand} {ats:Array TypeId} {cd:Code} {l tm:List Value} (hf:P.funcs[f]? = some fn) (hb:fn.body=some cd) (hm:(fn.name == "runtime.NumGoroutine")=false) (hn:T (G ((base f).at ⟨tm.toArray,[]⟩ [.code cd]) (b.at a (.inRegion ops (i::rest)::k)::cs)))
  (ho:ops[i]? = some o:=by (simp only[List.getElem?_toArray,List.getElem?_cons_zero,List.getElem?_cons_succ];rfl)) (hw:Region.wanted o (yielded ops a.tmps)=true:=by rfl) (hk:b.kind ≠ .early:=by decide) (hop:o.op = .call { callee:=.value (.func f),args:=xs,argTypes:=ats }:=by rfl)
  (hl:xs.map a.eval=l.toArray:=by (simp only[List.map_toArray,List.map_cons,List.map_nil,Go.Act.eval,Array.getD_eq_getD_getElem?,List.getElem?_toArray,List.getElem?_cons_zero,List.getElem?_cons_succ,Option.getD_some];rfl)) (hz:fn.ntmps-l.length=n:=by rfl) (ht:l++List.replicate n undef=tm:=by (simp only[List.replicate,List.cons_append,List.nil_append];rfl)) :
  T (G (b.at a (.inRegion ops (i::rest)::k)) cs):=by
 have hb':fn.body.isNone=false:=by rw[hb];rfl
 have e:∀ w,stepG P m (G (b.at a (.inRegion ops (i::rest)::k)) cs) w = .go (G ((base f).at ⟨tm.toArray,[]⟩ [.code cd]) (b.at a (.inRegion ops (i::rest)::k)::cs)) w:=fun w=>by
  rw[stepG_enter ho hw hk (run_call_body hop hf hm hb'),hl,enter_at hf hb hz,ht];unfold listed;rw[events_call_body hop hf hm hb',seen_none]
 exact c.step rfl rfl e hn
theorem aU.ret (c:aU P m T) (hn:T (G { b.at a (.code .ret::k) with mode:=.returning } cs)):T (G (b.at a (.code .ret::k)) cs):=c.step rfl rfl (fun _=>stepG_ret') hn
theorem aU.fin (c:aU P m T) (hn:T (G { b.at a [] with mode:=.returning } cs)):T (G (b.at a []) cs):=c.step rfl rfl (fun _=>stepG_end) hn
section
variable {b₀:Frame} {a₀:Act} {td:List Item}
theorem aU.leave0 (c:aU P m T) (hf:P.funcs[b.fn]? = some fn) (hn:T (G (b₀.at a' (.inRegion ops rest::k)) cs)) (hr:fn.results=#[]:=by rfl) (hk:b.kind = .normal:=by rfl) (hd:a.defers = []:=by rfl) (ho:(ops[i]?).bind (·.dst)=d:=by (simp only[List.getElem?_toArray,List.getElem?_cons_zero,List.getElem?_cons_succ,Option.bind_some];rfl))
  (hp:a₀.put d (.tuple #[])=a':=by (simp only[Go.Act.put,List.setIfInBounds_toArray,List.set_cons_zero,List.set_cons_succ];rfl)):T (G { b.at a td with mode:=.returning } (b₀.at a₀ (.inRegion ops (i::rest)::k)::cs)):=by
 subst ho hp;exact c.step rfl rfl (fun w=>by rw[stepG_leave hk hd hf (results_none hr _ P w) (events_results_none hr _ _),Frame.finish_at]) hn
theorem aU.leave1 (c:aU P m T) {t:Tmp} (hf:P.funcs[b.fn]? = some fn) (hn:T (G (b₀.at a' (.inRegion ops rest::k)) cs)) (hr:fn.results=#[.tmp t]:=by rfl) (hk:b.kind = .normal:=by rfl) (hd:a.defers = []:=by rfl) (ho:(ops[i]?).bind (·.dst)=d:=by (simp only[List.getElem?_toArray,List.getElem?_cons_zero,List.getElem?_cons_succ,Option.bind_some];rfl))
  (hv:a.tmps.getD t undef=v:=by (simp only[Array.getD_eq_getD_getElem?,List.getElem?_toArray,List.getElem?_cons_zero,List.getElem?_cons_succ,Option.getD_some];rfl))
  (hp:a₀.put d v=a':=by (simp only[Go.Act.put,List.setIfInBounds_toArray,List.set_cons_zero,List.set_cons_succ];rfl)):T (G { b.at a td with mode:=.returning } (b₀.at a₀ (.inRegion ops (i::rest)::k)::cs)):=by
 subst ho hv hp;exact c.step rfl rfl (fun w=>by rw[stepG_leave hk hd hf (results_tmp hr _ P w) (events_results_tmp hr _ _),Frame.finish_at]) hn
end
theorem aU.defer (c:aU P m T) {xs:Array Operand} {ats:Array TypeId} {l:List Value} (hn:T (G (b.at ⟨a.tmps,dcall f l.toArray::a.defers⟩ (.inRegion ops rest::k)) cs)) (ho:ops[i]? = some o:=by (simp only[List.getElem?_toArray,List.getElem?_cons_zero,List.getElem?_cons_succ];rfl)) (hw:Region.wanted o (yielded ops a.tmps)=true:=by rfl)
  (hk:b.kind ≠ .early:=by decide) (hop:o.op = .defer { callee:=.value (.func f),args:=xs,argTypes:=ats }:=by rfl) (hl:xs.map a.eval=l.toArray:=by (simp only[List.map_toArray,List.map_cons,List.map_nil,Go.Act.eval,Array.getD_eq_getD_getElem?,List.getElem?_toArray,List.getElem?_cons_zero,List.getElem?_cons_succ,Option.getD_some];rfl)) (hd:o.dst=none:=by rfl) :
  T (G (b.at a (.inRegion ops (i::rest)::k)) cs):=
 c.step rfl rfl (fun w=>by rw[stepG_defer ho hw hk hop,hl,hd];rfl) hn
theorem aU.dcall (c:aU P m T) (n:Nat) {tmps:Array Value} {ds:List Deferred} {td:List Item} {cd:Code} {l tm:List Value} (hf:P.funcs[f]? = some fn) (hb:fn.body=some cd) (hm:(fn.name == "runtime.NumGoroutine")=false) (hn:T (G ((Conc.baseD f).at ⟨tm.toArray,[]⟩ [.code cd]) ({ b.at ⟨tmps,ds⟩ td with mode:=.returning }::cs)))
  (hz:fn.ntmps-l.length=n:=by rfl) (ht:l++List.replicate n undef=tm:=by (simp only[List.replicate,List.cons_append,List.nil_append];rfl)):T (G { b.at ⟨tmps,Conc.dcall f l.toArray::ds⟩ td with mode:=.returning } cs):=by
 subst hz ht;refine c.step rfl rfl (fun w=>?_) hn;have e:=stepG_unwind_enter (P:=P) (main:=m) (b:=b) (a:=⟨tmps,Conc.dcall f l.toArray::ds⟩) (todo:=td) (cs:=cs) (w:=w) rfl hf hm hb;rw[e];congr 3;have:l.toArray++Array.replicate (fn.ntmps-l.toArray.size) undef=(l++List.replicate (fn.ntmps-l.length) undef).toArray:=by
  apply Array.toList_inj.1;rw[Array.toList_append,Array.toList_replicate];simp
 rw[this]
theorem aU.entry (c:aU P m T) {xs:Array Operand} {ats:Array TypeId} (v:Value) (hf:P.funcs[f]? = some fn) (hm:(fn.name == "runtime.NumGoroutine")=false) (hb:fn.body.isNone=true) (hx:Extern.findNext fn=none) (he:Extern.find fn=some fun _=>pure v) (hn:T (G (b.at a' (.inRegion ops rest::k)) cs))
  (ho:ops[i]? = some o:=by (simp only[List.getElem?_toArray,List.getElem?_cons_zero,List.getElem?_cons_succ];rfl)) (hw:Region.wanted o (yielded ops a.tmps)=true:=by rfl) (hk:b.kind ≠ .early:=by decide) (hop:o.op = .call { callee:=.value (.func f),args:=xs,argTypes:=ats }:=by rfl) (hd:o.dst=d:=by rfl)
  (hp:a.put d v=a':=by (simp only[Go.Act.put,List.setIfInBounds_toArray,List.set_cons_zero,List.set_cons_succ];rfl)):T (G (b.at a (.inRegion ops (i::rest)::k)) cs):=by
 subst hd hp;exact c.step rfl rfl (fun w=>stepG_entry_pure v ho hw hk hop hf hm hb hx he) hn
end
theorem xk.enable {P:Program} {b:Frame} {tm:Array Value} {td:List Item} {cs:List Frame} {f:FuncId} {fn:Func} {ds:List Deferred} (hf:P.funcs[f]? = some fn) (hm:(fn.name == "runtime.NumGoroutine")=false) (hb:fn.body.isNone=true) (hx:Extern.findNext fn=none) (he:Extern.find fn=some (fun _=>do mark .enable;pure Extern.Race.none_))
  (h:xk P 0 (G { b.at ⟨tm,ds⟩ td with mode:=.returning } cs)):xk P 1 (G { b.at ⟨tm,Conc.dcall f #[]::ds⟩ td with mode:=.returning } cs):=by
 obtain⟨q,hq⟩:=h;exact⟨q+1,QuitsD.unwind_mark .enable rfl (by simp) rfl hf hm hb hx he hq⟩
end Px
namespace Px
open Go Go.Conc
def yX (P:Program) (m:Bool) (Ro O:Nat->Prop) (S:aF) (F:World->Prop) (g:Goroutine):Prop:=RF P m Ro S F g O
section
variable {P:Program} {m:Bool} {Ro O:Nat->Prop} {S:aF} {F:World->Prop} {b:Frame} {a a':Act} {k:List Item} {cs:List Frame} {ops:Array Oper} {i:Nat} {rest:List Nat} {o:Oper} {v:Value} {d:Option Tmp}
theorem Sd (hc:Cl Ro O F):aU P m (yX P m Ro O S F):=⟨fun _ hr h hn=>RF.idle hc h hr hn⟩
theorem yX.load (hc:Cl Ro O F) {t:TypeId} {x:Operand} {ad:Addr} (hag:∀ w,Sem.run P (isAgg t) w = .ok false w) (hv:∀ w,F w->w.cell? ad=some v) (hr:Ro ad.block\/O ad.block) (hn:yX P m Ro O S F (G (b.at a' (.inRegion ops rest::k)) cs)) (ho:ops[i]? = some o:=by (simp only[List.getElem?_toArray,List.getElem?_cons_zero,List.getElem?_cons_succ];rfl))
  (hw:Region.wanted o (yielded ops a.tmps)=true:=by rfl) (hb:b.kind ≠ .early:=by decide) (hop:o.op = .load t x:=by rfl) (hx:a.eval x = .pointer (some ad):=by rfl) (hd:o.dst=d:=by rfl)
  (hp:a.put d v=a':=by (simp only[Go.Act.put,List.setIfInBounds_toArray,List.set_cons_zero,List.set_cons_succ];rfl)):yX P m Ro O S F (G (b.at a (.inRegion ops (i::rest)::k)) cs):=by
 subst hd hp;have e:execOp a.eval o=(do return .value (<-Instr.loadAt t (Value.pointer (some ad)))):=by
  unfold execOp;rw[hop];simp only[hx]
 refine RF.reads hc (v:=v) ho hw hb (fun w hF=>by rw[e];simp[go_sem,hag,hv w hF]) (fun w hF x he=>?_) rfl rfl hn;rw[e] at he;simp[go_sem,hag,hv w hF] at he;subst he;exact .read hr
end
end Px
namespace Px
open Go Go.Conc
theorem nX {P:Program} (g o:Nat) (t:TypeId):∀ (vs:List Value) (i:Nat) (cur:Array Value) (w:World) (es:Array Event),w.heap[g]? = some (.cells cur t (0,0))->o+i+vs.length<=cur.size->(∀ v∈vs,v.oneCell'=true) ->
  ∀ ev∈(storeCells ⟨g,o,none⟩ vs i).events P w es,ev∈es\/∃ ad,ev=⟨.cell ad,true,false⟩/\ad.block=g
 | [],_,_,_,_,_,_,_=>fun ev h=>.inl (by simpa [storeCells] using h)
 | v::rest,i,cur,w,es,hg,hl,h1=>fun ev h=>by
  have hi:o+i<cur.size:=by simp at hl;omega
  have hadd:(⟨g,o,none⟩:Addr).add i=⟨g,o+i,none⟩:=by unfold Addr.add;split<;>simp_all
  have hcell:w.cell? ⟨g,o+i,none⟩=some cur[o+i]:=by simp[World.cell?,hg,hi]
  have hfro:w.frozen? ⟨g,o+i,none⟩=false:=by simp[World.frozen?,hg]
  have hst:(store ((⟨g,o,none⟩:Addr).add i) v).run P w = .ok () (w.setRow g (cur.setIfInBounds (o+i) v)):=by
   rw[hadd,Go.run_store P w _ v _ (h1 v (by simp)),hcell];simp[hfro,setCell_eq_setRow w g (o+i) cur t (0,0) v hg]
  have hev:(store ((⟨g,o,none⟩:Addr).add i) v).events P w es=es.push ⟨.cell ⟨g,o+i,none⟩,true,false⟩:=by
   rw[hadd,Go.events_store P w es _ v _ (h1 v (by simp)),hcell];simp only[hfro,Bool.false_eq_true,if_false];rfl
  simp only[storeCells,Sem.events_bind,hst,Result.evThen_ok,hev] at h;rcases nX g o t rest (i+1) (cur.setIfInBounds (o+i) v) (w.setRow g (cur.setIfInBounds (o+i) v)) _ (setRow_heap w g cur _ t _ hg) (by simp at hl ⊢;omega) (fun x hx=>h1 x (by simp[hx])) ev h with h | h
  ·rcases Array.mem_push.1 h with h | rfl
   ·exact .inl h
   ·exact .inr ⟨_,rfl,rfl⟩
  ·exact .inr h
theorem uR {P:Program} (a:Addr):∀ (n i:Nat) (acc:Array Value) (w:World) (es:Array Event),(∀ j,j<n->(w.cell? (a.add (i+j))).isSome) ->
  ∀ ev∈(loadCellsFrom a i n acc).events P w es,ev∈es\/∃ ad,ev=⟨.cell ad,false,false⟩/\ad.block=a.block
 | 0,_,_,_,_,_=>fun ev h=>.inl (by simpa [loadCellsFrom] using h)
 | n+1,i,acc,w,es,hc=>fun ev h=>by
  simp only[loadCellsFrom,Sem.events_bind] at h;obtain⟨u,hu⟩:=Option.isSome_iff_exists.1 (hc 0 (by omega));simp only[Nat.add_zero] at hu;have hr:(load (a.add i)).run P w = .ok u w:=by simp[hu]
  rw[hr] at h;rcases uR a n (i+1) (acc.push u) w _ (fun j hj=>by have:=hc (j+1) (by omega);rwa [show i+(j+1)=i+1+j by omega] at this) ev h with h | h
  ·rw[events_load,hu] at h;rcases Array.mem_push.1 h with h | rfl
   ·exact .inl h
   ·exact .inr ⟨_,rfl,by unfold Addr.add;split<;>rfl⟩
  ·exact .inr h
section
variable {P:Program} {m:Bool} {Ro O:Nat->Prop} {S:aF} {w:World} {b:Frame} {a a':Act} {k:List Item} {cs:List Frame} {ops:Array Oper} {i:Nat} {rest:List Nat} {o:Oper} {v:Value} {d:Option Tmp}
theorem RunT.keep {g:Goroutine} {w':World} (h:RunT P m Ro O S w g) (hk:Keep Ro O w w'):RunT P m Ro O S w' g:=fun w₁ h₁=>h w₁ (hk.trans h₁)
theorem RunT.step {g:Goroutine} (h:∀ w₁,Keep Ro O w w₁->∃ g' w' es,stepG P m g w₁ = .go g' w' es/\g'.status = .running/\jU Ro O w₁ w' es/\RunT P m Ro (grow O w₁ w') S w' g'):RunT P m Ro O S w g:=fun w₁ h₁=>
 .step (fun w₂ h₂=>by obtain⟨g',w',es,e,hr,hf,_⟩:=h w₂ (h₁.trans h₂);exact⟨g',w',es,e,hr,hf⟩) fun w₂ g' w' es h₂ e=>by
  obtain⟨g'',w'',es',e',_,hf,hn⟩:=h w₂ (h₁.trans h₂);rw[e] at e';cases e';exact hn _ (.refl ..)
theorem RunT.value (h:∀ w₁,Keep Ro O w w₁->∃ v w',Sem.run P (execOp a.eval o) w₁ = .ok (.value v) w'/\jU Ro O w₁ w' (Sem.events P (execOp a.eval o) w₁ #[])/\RunT P m Ro (grow O w₁ w') S w' (G (b.at (a.put d v) (.inRegion ops rest::k)) cs))
  (ho:ops[i]? = some o:=by (simp only[List.getElem?_toArray,List.getElem?_cons_zero,List.getElem?_cons_succ];rfl)) (hw:Region.wanted o (yielded ops a.tmps)=true:=by rfl) (hb:b.kind ≠ .early:=by decide) (hd:o.dst=d:=by rfl):RunT P m Ro O S w (G (b.at a (.inRegion ops (i::rest)::k)) cs):=by
 subst hd;refine .step fun w₁ h₁=>?_
 obtain⟨v,w',hr,hf,hn⟩:=h w₁ h₁;exact⟨_,w',_,stepG_value ho hw hb hr,rfl,{ hf with evs:=fun e he=>hf.evs e (mem_listed he) },hn⟩
theorem RunT.none (h:∀ w₁,Keep Ro O w w₁->∃ w',Sem.run P (execOp a.eval o) w₁ = .ok .skip w'/\jU Ro O w₁ w' (Sem.events P (execOp a.eval o) w₁ #[])/\RunT P m Ro (grow O w₁ w') S w' (G (b.at a (.inRegion ops rest::k)) cs))
  (ho:ops[i]? = some o:=by (simp only[List.getElem?_toArray,List.getElem?_cons_zero,List.getElem?_cons_succ];rfl)) (hw:Region.wanted o (yielded ops a.tmps)=true:=by rfl) (hb:b.kind ≠ .early:=by decide) (hd:o.dst = .none:=by rfl):RunT P m Ro O S w (G (b.at a (.inRegion ops (i::rest)::k)) cs):=by
 refine .step fun w₁ h₁=>?_
 obtain⟨w',hr,hf,hn⟩:=h w₁ h₁;exact⟨_,w',_,(stepG_none ho hw hb hr).trans (by rw[hd];rfl),rfl,{ hf with evs:=fun e he=>hf.evs e (mem_listed he) },hn⟩
theorem RunT.load {t:TypeId} {x:Operand} {ad:Addr} (hag:∀ w,Sem.run P (isAgg t) w = .ok false w) (hv:∀ w₁,Keep Ro O w w₁->w₁.cell? ad=some v) (hr:Ro ad.block\/O ad.block) (hn:RunT P m Ro O S w (G (b.at (a.put d v) (.inRegion ops rest::k)) cs)) (ho:ops[i]? = some o:=by (simp only[List.getElem?_toArray,List.getElem?_cons_zero,List.getElem?_cons_succ];rfl))
  (hw:Region.wanted o (yielded ops a.tmps)=true:=by rfl) (hb:b.kind ≠ .early:=by decide) (hop:o.op = .load t x:=by rfl) (hx:a.eval x = .pointer (some ad):=by rfl) (hd:o.dst=d:=by rfl):RunT P m Ro O S w (G (b.at a (.inRegion ops (i::rest)::k)) cs):=by
 have e:execOp a.eval o=(do return .value (<-Instr.loadAt t (Value.pointer (some ad)))):=by
  unfold execOp;rw[hop];simp only[hx]
 refine RunT.value (fun w₁ h₁=>⟨v,w₁,by rw[e];simp[go_sem,hag,hv w₁ h₁],jU.rest (fun y he=>?_),by rw[jV];exact hn.keep h₁⟩) ho hw hb hd;rw[e] at he;simp[go_sem,hag,hv w₁ h₁] at he;subst he;exact .read hr
theorem RunT.U9 {t:TypeId} {x:Operand} {ad:Addr} {l:List Value} (hag:∀ w,Sem.run P (isAgg t) w = .ok true w) (hsz:(P.info? t).map (·.size)=some l.length) (hv:∀ w₁,Keep Ro O w w₁->∀ j u,l[j]? = some u->w₁.cell? (ad.add j)=some u) (hr:Ro ad.block\/O ad.block) (hn:RunT P m Ro O S w (G (b.at (a.put d (.agg l.toArray)) (.inRegion ops rest::k)) cs))
  (ho:ops[i]? = some o:=by (simp only[List.getElem?_toArray,List.getElem?_cons_zero,List.getElem?_cons_succ];rfl)) (hw:Region.wanted o (yielded ops a.tmps)=true:=by rfl) (hb:b.kind ≠ .early:=by decide) (hop:o.op = .load t x:=by rfl) (hx:a.eval x = .pointer (some ad):=by rfl) (hd:o.dst=d:=by rfl):RunT P m Ro O S w (G (b.at a (.inRegion ops (i::rest)::k)) cs):=by
 have e:execOp a.eval o=(do return .value (<-Instr.loadAt t (Value.pointer (some ad)))):=by
  unfold execOp;rw[hop];simp only[hx]
 obtain⟨I,hI,hIs⟩:∃ I,P.info? t=some I/\I.size=l.length:=by
  cases h:P.info? t with
  | none=>rw[h] at hsz;cases hsz
  | some I=>rw[h] at hsz;exact⟨I,rfl,by simpa using hsz⟩
 have hl:∀ w₁,Keep Ro O w w₁->(loadCellsFrom ad 0 l.length #[]).run P w₁ = .ok l.toArray w₁:=fun w₁ h₁=>run_loadCells_list w₁ ad l (hv w₁ h₁)
 refine RunT.value (fun w₁ h₁=>⟨.agg l.toArray,w₁,by rw[e];simp[go_sem,Instr.loadAt,loadVar,hag,Go.sizeOf,typeInfo,hI,hIs,hl w₁ h₁],jU.rest (fun y he=>?_),by rw[jV];exact hn.keep h₁⟩) ho hw hb hd;rw[e] at he;simp[go_sem,Instr.loadAt,loadVar,hag,Go.sizeOf,typeInfo,hI,hIs] at he;rcases uR ad _ 0 #[] w₁ #[] (fun j hj=>by rw[Nat.zero_add,hv w₁ h₁ j _ (List.getElem?_eq_getElem hj)];rfl) y he with h | ⟨V9,rfl,hb'⟩
 ·simp at h
 ·exact .read (by rw[hb'];exact hr)
theorem RunT.store {t tt:TypeId} {x y:Operand} {g off:Nat} {v:Value} {vs:List Value} (hvs:v.cells=vs.toArray) (h1:∀ u∈vs,u.oneCell'=true) (hsz:(P.info? t).map (·.size)=some vs.length) (hO:O g)
  (hn:∀ w₁,Keep Ro O w w₁->∃ cur,w₁.heap[g]? = some (.cells cur tt (0,0))/\off+vs.length<=cur.size/\RunT P m Ro O S (w₁.setRow g (cur.toList.take off++vs++cur.toList.drop (off+vs.length)).toArray) (G (b.at a (.inRegion ops rest::k)) cs))
  (ho:ops[i]? = some o:=by (simp only[List.getElem?_toArray,List.getElem?_cons_zero,List.getElem?_cons_succ];rfl)) (hw:Region.wanted o (yielded ops a.tmps)=true:=by rfl) (hb:b.kind ≠ .early:=by decide) (hop:o.op = .store t x y:=by rfl) (hx:a.eval x = .pointer (some ⟨g,off,.none⟩):=by rfl) (hy:a.eval y=v:=by rfl) (hd:o.dst = .none:=by rfl):RunT P m Ro O S w (G (b.at a (.inRegion ops (i::rest)::k)) cs):=by
 have e:execOp a.eval o=(do Instr.storeAt t (Value.pointer (some ⟨g,off,.none⟩)) v;return .skip):=by
  unfold execOp;rw[hop];simp only[hx,hy]
 obtain⟨I,hI,hIs⟩:∃ I,P.info? t=some I/\I.size=vs.length:=by
  cases h:P.info? t with
  | none=>rw[h] at hsz;cases hsz
  | some I=>rw[h] at hsz;exact⟨I,rfl,by simpa using hsz⟩
 refine RunT.none (fun w₁ h₁=>?_) ho hw hb hd;obtain⟨cur,hc,hl,hn⟩:=hn w₁ h₁;have hst:=run_storeCells_at P g off tt vs 0 cur w₁ hc (by simpa using hl) h1;simp only[Nat.add_zero] at hst;have hgr:grow O w₁ (w₁.setRow g (cur.toList.take off++vs++cur.toList.drop (off+vs.length)).toArray)=O:=by
  funext b;apply propext;constructor
  ·rintro (h | ⟨h2,h3⟩)
   ·exact h
   ·rw[setRow_size] at h3;omega
  ·exact .inl
 refine⟨w₁.setRow g (cur.toList.take off++vs++cur.toList.drop (off+vs.length)).toArray,by rw[e];unfold Instr.storeAt storeVar;rw[hvs];simp[go_sem,Go.sizeOf,typeInfo,hI,hIs,hst],⟨by simp,fun b _ hb'=>setRow_other _ _ _ _ (fun e=>by subst e;exact hb' hO),rfl,rfl,rfl,fun y he=>?_⟩,by rw[hgr];exact hn⟩;rw[e] at he;unfold Instr.storeAt storeVar at he;rw[hvs] at he;simp[go_sem,Go.sizeOf,typeInfo,hI,hIs] at he;rcases nX g off tt vs 0 cur w₁ #[] hc (by simpa using hl) h1 y he with h | ⟨V9,rfl,hb'⟩
 ·simp at h
 ·exact .write (.inl (by rw[hb'];exact hO))
theorem RunT.make {ob:Obj} {mk:Nat->Value} (hrun:∀ w,Sem.run P (execOp a.eval o) w = .ok (.value (mk w.heap.size)) (w.alloc ob)) (hev:∀ w,Sem.events P (execOp a.eval o) w #[]=#[])
  (hn:∀ w₁,Keep Ro O w w₁->RunT P m Ro (fun b=>O b\/b=w₁.heap.size) S (w₁.alloc ob) (G (b.at (a.put d (mk w₁.heap.size)) (.inRegion ops rest::k)) cs))
  (ho:ops[i]? = some o:=by (simp only[List.getElem?_toArray,List.getElem?_cons_zero,List.getElem?_cons_succ];rfl)) (hw:Region.wanted o (yielded ops a.tmps)=true:=by rfl) (hb:b.kind ≠ .early:=by decide) (hd:o.dst=d:=by rfl):RunT P m Ro O S w (G (b.at a (.inRegion ops (i::rest)::k)) cs):=by
 refine RunT.value (fun w₁ h₁=>⟨_,_,hrun w₁,⟨by rw[World.size_alloc];omega,fun b hb _=>?_,rfl,rfl,rfl,fun y he=>by rw[hev] at he;simp at he⟩,?_⟩) ho hw hb hd
 ·show (w₁.heap.push ob)[b]? = _;rw[Array.getElem?_push,if_neg (by omega)]
 ·have hgr:grow O w₁ (w₁.alloc ob)=fun b=>O b\/b=w₁.heap.size:=by
   funext b;apply propext;simp only[grow,World.size_alloc];constructor
   ·rintro (h | h)
    ·exact .inl h
    ·exact .inr (by omega)
   ·rintro (h | h)
    ·exact .inl h
    ·exact .inr (by omega)
  rw[hgr];exact hn w₁ h₁
end
end Px
namespace Px
open Go Go.Conc
structure KN (Ro:Nat->Prop) (L:Nat) (h:Nat->Option Obj) (e:World) (w:World) (O:Nat->Prop):Prop where
 ro:∀ b,Ro b->w.heap[b]? = h b
 own:∀ b,O b->L<=b/\b<w.heap.size
 size:L<=w.heap.size
 env:w.os=e.os/\w.output=e.output
section
variable {P:Program} {m:Bool} {Ro O:Nat->Prop} {L:Nat} {h:Nat->Option Obj} {S:aF} {e w w₁:World} {g:Goroutine}
theorem KN.keep (k:KN Ro L h e w O) (hk:Keep Ro O w w₁):KN Ro L h e w₁ O:=
 ⟨fun b hb=>(hk.same b (.inl hb)).trans (k.ro b hb),fun b hb=>⟨(k.own b hb).1,Nat.lt_of_lt_of_le (k.own b hb).2 hk.size⟩,Nat.le_trans k.size hk.size,hk.env.1.trans k.env.1,hk.env.2.trans k.env.2⟩
theorem KN.none (k:KN Ro L h e w O):KN Ro L h e w fun _=>False:=⟨k.ro,fun _ h=>h.elim,k.size,k.env⟩
theorem KN.fine (dx:∀ b,Ro b->b<L) (k:KN Ro L h e w O) {w':World} {es:Array Event} (hf:jU Ro O w w' es):KN Ro L h e w' (grow O w w'):=by
 refine⟨fun b hb=>(hf.old b (Nat.lt_of_lt_of_le (dx b hb) k.size) fun ho=>?_).trans (k.ro b hb),fun b hb=>?_,Nat.le_trans k.size hf.size,hf.os.trans k.env.1,hf.output.trans k.env.2⟩
 ·have:=(k.own b ho).1;have:=dx b hb;omega
 ·rcases hb with hb | ⟨h1,h2⟩
  ·exact⟨(k.own b hb).1,Nat.lt_of_lt_of_le (k.own b hb).2 hf.size⟩
  ·exact⟨Nat.le_trans k.size h1,h2⟩
theorem Runs.know (dx:∀ b,Ro b->b<L) (hR:Runs P m Ro S g w O):KN Ro L h e w O->Runs P m Ro (fun g w O=>S g w O/\KN Ro L h e w O) g w O:=by
 induction hR with
 | stop hs=>exact fun k=>.stop fun w₁ h₁=>⟨hs w₁ h₁,k.keep h₁⟩
 | step h1 _ ih=>
  refine fun k=>.step h1 fun w₁ g' w' es hk ee=>ih w₁ g' w' es hk ee ?_
  obtain⟨g'',w'',es',e',_,hf⟩:=h1 w₁ hk;rw[ee] at e';cases e';exact (k.keep hk).fine dx hf
theorem yY (O:Nat->Prop):Cl Ro O fun w=>KN Ro L h e w fun _=>False:=fun _ _ hk k=>⟨fun b hb=>(hk.same b (.inl hb)).trans (k.ro b hb),fun _ h=>h.elim,Nat.le_trans k.size hk.size,hk.env.1.trans k.env.1,hk.env.2.trans k.env.2⟩
end
end Px
namespace Go.Proofs.YtnonoiafongllaaGreatDoor
open Go Go.Conc Px
noncomputable def Cj:List Nat:=[19,31,38,39,49,61,62,63,64,65,78,80,103,104,105,106,107,108,109,110,111,116,120,126,127,128,129,130,131,132,134,135,136,137,138,139]
noncomputable def OO:List Nat:=[2,3,7,8,12,13]
noncomputable def qO:Ok:={ fn:=fun f=>Cj.contains f,gl:=fun g=>OO.contains g }
noncomputable def Dp:Fs:={ fn:=fun f=>Cj.contains f=true,G:=Tryz.prog.globals.size,bt:=1000000 }
set_option maxRecDepth 1000000
noncomputable def Ck (f:Nat):Bool:=match Tryz.prog.funcs[f]? with
 | some fn=>!(fn.name == "runtime.NumGoroutine")&&(match fn.body with | some c=>cK Tryz.prog qO c | none=>false)&&(Tryz.prog.inits.idxOf? f).isNone
 | none=>false
theorem Qt:Cj.all Ck=true:=by kernel_rfl
theorem FT {f:Nat} (h:Cj.contains f=true):Ck f=true:=List.all_eq_true.1 Qt f (by simpa using h)
theorem Kr:Setup Dp Tryz.prog qO where
 bodies:=fun f hf=>by
  have:=FT hf;unfold Ck at this;cases h:Tryz.prog.funcs[f]? with
  | none=>rw[h] at this;cases this
  | some fn=>
   rw[h] at this;simp only[Bool.and_eq_true] at this;obtain⟨⟨h1,h2⟩,_⟩:=this;cases hb:fn.body with
   | none=>rw[hb] at h2;cases h2
   | some c=>
    rw[hb] at h2;exact⟨fn,c,rfl,by simpa using h1,hb,h2⟩
 fns:=fun f hf=>.inl hf
 ext:=fun f hf=>hf.elim
 mt:=fun n hn=>by cases hn
 cm:=fun h=>by cases h
 G:=rfl
 bt:=by kernel_rfl
 recs:=fun f h=>h.elim
theorem xV:Base Dp Tryz.prog qO where
 S:=Kr
 hin:=fun f hf=>by
  have:=FT (hf.resolve_right id);unfold Ck at this;cases h:Tryz.prog.funcs[f]? with
  | none=>rw[h] at this;cases this
  | some fn=>
   rw[h] at this;simp only[Bool.and_eq_true] at this;simpa using this.2
 trap:=⟨{ fn:=Tryz.prog.funcs.size,tmps:=#[],todo:=[.call default default "fmt's door" default],defers:=[],mode:=.run,kind:=.normal,roundOf:=none },by simp,rfl,fun l=>by
  have e:Tryz.prog.funcs[Tryz.prog.funcs.size]? = none:=by simp
  have h : "fmt's door".startsWith "fmt's door" = true:=by decide +kernel
  simp only[Frame.raise,Frame.catches,e];exact h⟩
end Go.Proofs.YtnonoiafongllaaGreatDoor
namespace Go.Proofs.YtnonoiafongllaaGreatDoor
open Go Go.Conc Px Go.ConcR.Gen
open Go.ConcR (WgAt stA smA rd wr mk DC0 Payload)
instance abq:Payload:=⟨3⟩
noncomputable def Kt:Code:=Tryz.f57.body.getD .skip
theorem kr (w:World) (g:Nat) (cs:Array Value):(w.setRow g cs).os=w.os/\(w.setRow g cs).output=w.output:=⟨rfl,rfl⟩
noncomputable def gp (Ro:Nat->Prop) (Wg cn:Nat) (eR:Value):Gp:=⟨Tryz.prog,Ro,115,Wg,cn,eR⟩
theorem M0 {Ro:Nat->Prop} {Wg cn:Nat} {eR:Value} {c:Frame} {cs:List Frame} {qt:Nat} (hcm:c.mode = .returning) (hT:QuitsD Tryz.prog qt 0 (G c cs)) :
  pO Tryz.prog (uJ (gp Ro Wg cn eR)) (G ((baseD 57).at ⟨#[.pointer (some ⟨Wg,0,none⟩),undef,undef,undef],[]⟩ [.code Kt]) (c::cs)):=by
 have k:=lC (P:=Tryz.prog) (uJ (gp Ro Wg cn eR));simp only[Kt,Tryz.f57,Option.getD_some];refine k.region ?_;refine k.op ?_;refine k.call 115 Tryz.func55 rfl (by kernel_rfl) ?_;repeat (first | refine k.seq ?_ | refine k.done ?_ | refine k.region ?_ | refine k.op ?_ | refine k.un ?_ | refine k.yes ?_ | refine k.no ?_ | refine k.skip ?_)
 refine⟨0,rfl,fun w st sm hw=>?_⟩;obtain⟨v,hv⟩:∃ v,w.cell? ⟨Wg,0,none⟩=some v:=⟨_,hw.cellSt⟩;refine⟨_,pK rfl rfl (by decide) rfl rfl Tryz.underlying160 Tryz.underlying125 bL.room_tWg hv,?_⟩;clear hv hw;walk_nrm;have k:=lC (P:=Tryz.prog) (AtR0 (gp Ro Wg cn eR));change pO _ _ _;repeat (first | refine k.seq ?_ | refine k.done ?_ | refine k.region ?_ | refine k.op ?_ | refine k.un ?_ | refine k.yes ?_ | refine k.no ?_ | refine k.skip ?_)
 refine⟨0,rfl,fun w=>⟨_,stepG_markAt .releaseMerge (by simp) rfl rfl (by decide) rfl bL.f_relMerge (x_relMerge_n lk) (x_relMerge_b lk) (x_relMerge_x lk) (x_relMerge_f lk) (by simp[Act.eval,stA,gp,Gp.stA]),?_⟩⟩;walk_nrm;have k:=lC (P:=Tryz.prog) (AtK1 (gp Ro Wg cn eR));change pO _ _ _;repeat (first | refine k.seq ?_ | refine k.done ?_ | refine k.region ?_ | refine k.op ?_ | refine k.un ?_ | refine k.yes ?_ | refine k.no ?_ | refine k.skip ?_)
 refine⟨0,rfl,fun w=>⟨_,stepG_mark0 .disable (by simp) rfl rfl (by decide) rfl bL.f_disable (x_disable_n lk) (x_disable_b lk) (x_disable_x lk) (x_disable_f lk),?_⟩⟩;walk_nrm;have k:=lC (P:=Tryz.prog) (AtD1 (gp Ro Wg cn eR));change pO _ _ _;repeat (first | refine k.seq ?_ | refine k.done ?_ | refine k.region ?_ | refine k.op ?_ | refine k.un ?_ | refine k.yes ?_ | refine k.no ?_ | refine k.skip ?_)
 refine k.defer ?_;repeat (first | refine k.seq ?_ | refine k.done ?_ | refine k.region ?_ | refine k.op ?_ | refine k.un ?_ | refine k.yes ?_ | refine k.no ?_ | refine k.skip ?_)
 refine k.entry (.bool false) bL.f_inBubble (x_inBubble_n lk) (x_inBubble_b lk) (x_inBubble_x lk) (x_inBubble_f lk) ?_;repeat (first | refine k.seq ?_ | refine k.done ?_ | refine k.region ?_ | refine k.op ?_ | refine k.un ?_ | refine k.yes ?_ | refine k.no ?_ | refine k.skip ?_)
 refine k.call 8 Tryz.func92 rfl (by kernel_rfl) ?_;repeat (first | refine k.seq ?_ | refine k.done ?_ | refine k.region ?_ | refine k.op ?_ | refine k.un ?_ | refine k.yes ?_ | refine k.no ?_ | refine k.skip ?_)
 refine⟨0,rfl,fun w v wt hwt hv hw=>?_⟩;rw[show IntKind.u64.wrap (IntKind.u64.wrap (-1)*2 ^ min (Int.toNat 32) IntKind.u64.bits)=18446744069414584320 from by decide];have e0:IntKind.u64.wrap (ConcR.KK+18446744069414584320)=0:=by decide
 have e1:IntKind.u64.wrap (ConcR.KK+1+18446744069414584320)=1:=by decide
 rcases Nat.eq_zero_or_pos v with rfl | hvp;obtain rfl | rfl:wt=0\/wt=1:=by omega
 ·replace hw:WgAt 115 Wg w ConcR.KK 0:=by simpa [Gp.at,gp] using hw
  have z:((0:Nat):Int)*ConcR.KK+((0:Nat):Int)=0:=by simp
  rw[z];refine⟨_,(stepG_add_atomic rfl rfl (by decide) rfl bL.f_addU64 (x_addU64_n lk) (x_addU64_b lk) (x_addU64_x lk) .u64 (x_addU64_f lk) rfl rfl hw.cellSt (hw.thaw 0)).trans (by rw[e0];rfl),fun hl=>absurd hl.2 (by decide),fun _=>?_⟩;clear hw;walk_nrm;have k:=lD (P:=Tryz.prog) 1;change xk Tryz.prog 1 _;repeat (first | refine k.seq ?_ | refine k.done ?_ | refine k.region ?_ | refine k.op ?_ | refine k.un ?_ | refine k.yes ?_ | refine k.no ?_ | refine k.skip ?_)
  refine k.ret ?_;refine k.leave1 Tryz.func92 ?_;repeat (first | refine k.seq ?_ | refine k.done ?_ | refine k.region ?_ | refine k.op ?_ | refine k.un ?_ | refine k.yes ?_ | refine k.no ?_ | refine k.skip ?_)
  refine k.ret ?_;refine xk.enable bL.f_enable (x_enable_n lk) (x_enable_b lk) (x_enable_x lk) (x_enable_f lk) ?_;have k:=lD (P:=Tryz.prog) 0;refine k.leave0 Tryz.func55 ?_;refine k.done ?_;refine k.fin ?_;exact⟨_,QuitsD.leaveD rfl rfl Tryz.func57 rfl hcm hT⟩
 ·replace hw:WgAt 115 Wg w (ConcR.KK+1) 0:=by simpa [Gp.at,gp] using hw
  have z:((0:Nat):Int)*ConcR.KK+((1:Nat):Int)=1:=by simp
  rw[z];refine⟨_,(stepG_add_atomic rfl rfl (by decide) rfl bL.f_addU64 (x_addU64_n lk) (x_addU64_b lk) (x_addU64_x lk) .u64 (x_addU64_f lk) rfl rfl hw.cellSt (hw.thaw 0)).trans (by rw[e1];rfl),fun _=>?_,fun hl=>absurd ⟨rfl,rfl⟩ hl⟩;clear hw;walk_nrm;have k:=lC (P:=Tryz.prog) (AtD2 (gp Ro Wg cn eR));change pO _ _ _;repeat (first | refine k.seq ?_ | refine k.done ?_ | refine k.region ?_ | refine k.op ?_ | refine k.un ?_ | refine k.yes ?_ | refine k.no ?_ | refine k.skip ?_)
  refine k.ret ?_;refine k.leave1 Tryz.func92 ?_;repeat (first | refine k.seq ?_ | refine k.done ?_ | refine k.region ?_ | refine k.op ?_ | refine k.un ?_ | refine k.yes ?_ | refine k.no ?_ | refine k.skip ?_)
  refine k.call 6 Tryz.func94 rfl (by kernel_rfl) ?_;repeat (first | refine k.seq ?_ | refine k.done ?_ | refine k.region ?_ | refine k.op ?_ | refine k.un ?_ | refine k.yes ?_ | refine k.no ?_ | refine k.skip ?_)
  refine⟨0,rfl,fun w hw=>⟨_,stepG_load_atomic rfl rfl (by decide) rfl bL.f_loadU64 (x_loadU64_n lk) (x_loadU64_b lk) (x_loadU64_x lk) .u64 (x_loadU64_f lk) rfl (ConcR.WgAt.cellSt hw),?_⟩⟩;clear hw;walk_nrm;have k:=lC (P:=Tryz.prog) (AtD3 (gp Ro Wg cn eR));change pO _ _ _;repeat (first | refine k.seq ?_ | refine k.done ?_ | refine k.region ?_ | refine k.op ?_ | refine k.un ?_ | refine k.yes ?_ | refine k.no ?_ | refine k.skip ?_)
  refine k.ret ?_;refine k.leave1 Tryz.func94 ?_;repeat (first | refine k.seq ?_ | refine k.done ?_ | refine k.region ?_ | refine k.op ?_ | refine k.un ?_ | refine k.yes ?_ | refine k.no ?_ | refine k.skip ?_)
  refine k.call 7 Tryz.func95 rfl (by kernel_rfl) ?_;repeat (first | refine k.seq ?_ | refine k.done ?_ | refine k.region ?_ | refine k.op ?_ | refine k.un ?_ | refine k.yes ?_ | refine k.no ?_ | refine k.skip ?_)
  refine⟨0,rfl,fun w hw=>⟨_,stepG_store_atomic rfl rfl (by decide) rfl bL.f_storeU64 (x_storeU64_n lk) (x_storeU64_b lk) (x_storeU64_x lk) (x_storeU64_f lk) rfl rfl (ConcR.WgAt.cellSt hw) (ConcR.WgAt.thaw hw 0),?_⟩⟩;clear hw;walk_nrm;have k:=lC (P:=Tryz.prog) (AtD4 (gp Ro Wg cn eR));change pO _ _ _;repeat (first | refine k.seq ?_ | refine k.done ?_ | refine k.region ?_ | refine k.op ?_ | refine k.un ?_ | refine k.yes ?_ | refine k.no ?_ | refine k.skip ?_)
  refine k.fin ?_;refine k.leave0 Tryz.func95 ?_;repeat (first | refine k.seq ?_ | refine k.done ?_ | refine k.region ?_ | refine k.op ?_ | refine k.un ?_ | refine k.yes ?_ | refine k.no ?_ | refine k.skip ?_ | refine k.block ?_ | refine k.loop ?_)
  refine⟨0,rfl,mayWake_entry rfl rfl bL.f_semrelease (x_semrelease_b lk),fun w hw=>⟨_,(stepG_semrelease rfl rfl (by decide) rfl bL.f_semrelease (x_semrelease_n lk) (x_semrelease_b lk) (x_semrelease_x lk) (x_semrelease_f lk) (by simp[Act.eval,smA];rfl) (ConcR.WgAt.cellSm hw) (ConcR.WgAt.thaw hw 1)).trans (by rfl),?_⟩⟩;clear hw;walk_nrm;have k:=lD (P:=Tryz.prog) 1;change xk Tryz.prog 1 _;repeat (first | refine k.seq ?_ | refine k.done ?_ | refine k.region ?_ | refine k.op ?_ | refine k.un ?_ | refine k.yes ?_ | refine k.no ?_ | refine k.skip ?_ | refine k.inBlock ?_ | refine k.inLoop ?_ | refine k.exit ?_)
  refine k.fin ?_;refine xk.enable bL.f_enable (x_enable_n lk) (x_enable_b lk) (x_enable_x lk) (x_enable_f lk) ?_;have k:=lD (P:=Tryz.prog) 0;refine k.leave0 Tryz.func55 ?_;refine k.done ?_;refine k.fin ?_;exact⟨_,QuitsD.leaveD rfl rfl Tryz.func57 rfl hcm hT⟩
 ·obtain⟨S,hS⟩:∃ S:Int,S=(v:Int)*ConcR.KK+(wt:Int):=⟨_,rfl⟩;have eS:IntKind.u64.wrap (((v:Int)+1)*ConcR.KK+(wt:Int)+18446744069414584320)=S:=by rw[hS,IntKind.wrap_u64];simp only[ConcR.KK];omega
  have a1:Int.fdiv S (2 ^ min (Int.toNat 32) IntKind.u64.bits)=(v:Int):=by
   rw[show (2:Int) ^ min (Int.toNat 32) IntKind.u64.bits=4294967296 from by decide,Int.fdiv_eq_ediv_of_nonneg _ (by decide),hS];simp only[ConcR.KK];omega
  have b1:IntKind.u64.wrap ↑(BitVec.ofInt IntKind.u64.bits S &&& BitVec.ofInt IntKind.u64.bits 2147483648).toNat=0:=by
   have:=ConcN.st_flag v wt (by omega) (by omega);rw[show (v:Int)*4294967296+(wt:Int)=S from hS.symm] at this;exact this
  have b2:IntKind.u64.wrap ↑(BitVec.ofInt IntKind.u64.bits S &&& BitVec.ofInt IntKind.u64.bits 2147483647).toNat=(wt:Int):=by
   have:=ConcN.st_waiters v wt (by omega) (by omega);rw[show (v:Int)*4294967296+(wt:Int)=S from hS.symm] at this;exact this
  have c1:IntKind.i32.wrap (v:Int)=(v:Int):=by rw[IntKind.wrap_i32];omega
  have c2:IntKind.u32.wrap (wt:Int)=(wt:Int):=by rw[IntKind.wrap_u32];omega
  have hw:WgAt 115 Wg w (((v:Int)+1)*ConcR.KK+(wt:Int)) 0:=hw;rw[<-hS];clear hS;refine⟨_,(stepG_add_atomic rfl rfl (by decide) rfl bL.f_addU64 (x_addU64_n lk) (x_addU64_b lk) (x_addU64_x lk) .u64 (x_addU64_f lk) rfl rfl hw.cellSt (hw.thaw 0)).trans (by rw[eS];rfl),fun hl=>absurd hl.1 (by omega),fun _=>?_⟩;clear hw;walk_nrm;have k:=lD (P:=Tryz.prog) 1;change xk Tryz.prog 1 _;refine k.op ?_;refine k.done ?_;refine k.ret ?_;refine k.leave1 Tryz.func92 ?_;refine k.op ?_;refine k.done ?_;refine k.seq ?_;refine k.seq ?_;refine k.region ?_;refine k.op ?_;refine k.op (v:=.int .u64 0) ?_ (h:=by exact congrArg (fun x=>some (Next.value (.int .u64 x))) b1);refine k.op ?_;refine k.op ?_;refine k.un ?_;refine k.un ?_;refine k.op ?_;refine k.done ?_;refine k.no ?_;refine k.skip ?_;refine k.seq ?_;refine k.region ?_;refine k.op ?_;refine k.op (v:=.int .u64 v) ?_ (h:=by exact congrArg (fun x=>some (Next.value (.int .u64 x))) a1);refine k.op (v:=.int .i32 v) ?_ (h:=by exact congrArg (fun x=>some (Next.value (.int .i32 x))) c1);refine k.op ?_;refine k.done ?_;refine k.seq ?_;refine k.region ?_;refine k.op ?_;refine k.op (v:=.int .u64 wt) ?_ (h:=by exact congrArg (fun x=>some (Next.value (.int .u64 x))) b2);clear a1 b1 b2 c1 c2 eS;refine k.op ?_;refine k.op ?_;refine k.done ?_;obtain rfl | rfl:wt=0\/wt=1:=by omega
  all_goals
   refine k.seq ?_;refine k.seq ?_;refine k.region ?_;refine k.op ?_;refine k.op ?_;refine k.op ?_;refine k.op ?_;refine k.op ?_;refine k.un ?_;refine k.un ?_;refine k.un ?_;refine k.un ?_;refine k.op ?_;refine k.done ?_;refine k.no ?_;refine k.skip ?_;refine k.seq ?_;refine k.seq ?_;refine k.region ?_;refine k.op ?_;refine k.op (v:=.bool false) ?_ (h:=by exact congrArg (fun x=>some (Next.value (.bool x))) (decide_eq_false (by omega)));refine k.done ?_;refine k.no ?_;refine k.skip ?_;refine k.seq ?_;refine k.seq ?_;refine k.region ?_;refine k.op ?_;refine k.op ?_;refine k.op ?_;first
    | (refine k.un ?_;refine k.un ?_)
    | (refine k.op ?_;refine k.op ?_)
   refine k.op ?_;refine k.op ?_;refine k.un ?_;refine k.un ?_;refine k.un ?_;refine k.un ?_;refine k.op ?_;refine k.done ?_;refine k.no ?_;refine k.skip ?_;refine k.seq ?_;refine k.seq ?_;refine k.region ?_;refine k.op ?_;refine k.op (v:=.bool true) ?_ (h:=by exact congrArg (fun x=>some (Next.value (.bool x))) (decide_eq_true (by omega)));refine k.op ?_;refine k.un ?_;refine k.un ?_;refine k.op ?_;refine k.done ?_;refine k.yes ?_;refine k.ret ?_;refine xk.enable bL.f_enable (x_enable_n lk) (x_enable_b lk) (x_enable_x lk) (x_enable_f lk) ?_;have k:=lD (P:=Tryz.prog) 0;refine k.leave0 Tryz.func55 ?_;refine k.done ?_;refine k.fin ?_;exact⟨_,QuitsD.leaveD rfl rfl Tryz.func57 rfl hcm hT⟩
end Go.Proofs.YtnonoiafongllaaGreatDoor
namespace Go.Proofs.YtnonoiafongllaaGreatDoor
open Go Go.Conc Px
set_option maxRecDepth 100000
set_option maxHeartbeats 2000000
noncomputable def sQ:Code:=Tryz.f59.body.getD .skip
noncomputable def rQ:Code:=match sQ with | .seq _ (.seq _ (.seq _ (.seq (.seq _ (.block _ (.loop c))) _)))=>c | _=>.ret
noncomputable def yZ:Code:=match sQ with | .seq _ (.seq _ (.seq _ (.seq (.seq _ (.block _ (.loop _))) c)))=>c | _=>.ret
def xq (n:Nat) (c:Option Nat) (cr A next got:Nat) (j:Nat->Value):List Value:=[goInt n,.chan c,.chan (some cr),j 3,j 4,j 5,.slice none 0 0,.slice (some ⟨A,0,none⟩) n n,goInt next,goInt got,j 10,j 11,j 12,j 13,j 14,j 15,j 16,j 17,j 18,j 19,j 20,j 21,j 22,j 23,j 24,j 25,j 26,j 27,j 28,j 29,j 30,j 31,j 32,j 33,j 34,j 35,j 36]
noncomputable def lZ (L:List Value) (cs:List Frame):Goroutine:=G ((base 59).at ⟨L.toArray,[]⟩ [.code rQ,.inLoop rQ,.inBlock 0,.code yZ]) cs
noncomputable def oI (n:Nat) (c:Option Nat) (cr A next got:Nat) (j:Nat->Value) (cs:List Frame) : {g:Goroutine // got<n->∀ m T,aU Tryz.prog m T->T g->T (lZ (xq n c cr A next got j) cs)}:=by
 apply Subtype.mk;intro hl m T k h;simp only[lZ,rQ,yZ,sQ,Tryz.f59,xq,Option.getD_some];refine k.seq ?_;refine k.seq ?_;refine k.region ?_;refine k.op ?_;refine k.op ?_;refine k.op (v:=.bool true) ?_ (h:=by exact congrArg (fun x=>some (Next.value (.bool x))) (decide_eq_true (by omega)));refine k.done ?_;refine k.yes ?_;refine k.skip ?_;repeat (first | refine k.seq ?_ | refine k.done ?_ | refine k.region ?_ | refine k.op ?_ | refine k.un ?_ | refine k.yes ?_ | refine k.no ?_ | refine k.skip ?_ | refine k.block ?_ | refine k.loop ?_ | refine k.inBlock ?_ | refine k.inLoop ?_ | refine k.exit ?_)
 exact h
theorem Qu (n:Nat) (c:Option Nat) (cr A next got:Nat) (j:Nat->Value) (cs:List Frame) (m:Bool) (w:World):stepG Tryz.prog m (oI n c cr A next got j cs).1 w = .comm (oI n c cr A next got j cs).1 #[⟨.chan c,some (goInt next),goInt 0⟩,⟨.chan (some cr),none,.agg #[goInt 0,.string ⟨#[]⟩,.nilIface]⟩] true .select w #[]:=by
 simp only[oI];refine Eq.trans (stepG_comm (cases:=#[⟨.chan c,some (goInt next),goInt 0⟩,⟨.chan (some cr),none,.agg #[goInt 0,.string ⟨#[]⟩,.nilIface]⟩]) (blocking:=true) (shape:=.select) (w':=w) (o:={ dst:=some 19,op:=Op.select #[{ chan:=.tmp 16,send:=some (.tmp 17),elem:=3 },{ chan:=.tmp 18,send:=none,elem:=104 }] true,type:=0,pos:= "each.go:60",after:=#[],guard:=none }) ?_ ?_ ?_ ?_) ?_
 ·rfl
 ·rfl
 ·decide
 ·simp only[execOp];simp[go_sem]
 ·congr 1;unfold listed;simp only[execOp];simp[go_sem];rfl
theorem xu {P:Program} {b:Frame} {a:Act} {ops:Array Oper} {i:Nat} {rest:List Nat} {k:List Item} {cs:List Frame} (cases:Array CommCase) (sh:CommShape) (kk:Int) (v:Value) (ok:Bool) :
  (G (b.at a (.inRegion ops (i::rest)::k)) cs).finishComm P cases sh kk v ok=G (b.at (a.put ((ops[i]?).bind (·.dst)) (commResult cases sh kk v ok)) (.inRegion ops rest::k)) cs:=by
 unfold Goroutine.finishComm G;rw[Frame.finish_at]
theorem Qv (x x' y z z':Value):commResult #[⟨x,some y,z⟩,⟨x',none,z'⟩] .select ((0:Nat):Int) undef false = .tuple #[goInt 0,.bool false,z']:=by
 simp[commResult]
theorem Qw (x x' y z z' v:Value):commResult #[⟨x,some y,z⟩,⟨x',none,z'⟩] .select ((1:Nat):Int) v true = .tuple #[goInt 1,.bool true,v]:=by
 simp[commResult]
theorem Cm {T:Goroutine->Prop} {n:Nat} {c:Option Nat} {cr A next got:Nat} {cs:List Frame} (hT:∀ j,T (lZ (xq n c cr A next got j) cs)) (L:List Value) (hL:L=xq n c cr A next got fun i=>L.getD i undef):T (G ((base 59).at ⟨L.toArray,[]⟩ [.code rQ,.inLoop rQ,.inBlock 0,.code yZ]) cs):=by
 rw[hL];exact hT _
theorem Qx (n cn cr A next got:Nat) (hn:next+1<=n) (h63:n<1000) (j:Nat->Value) (cs:List Frame) (x x' y z z':Value) (m:Bool) (T:Goroutine->Prop) (k:aU Tryz.prog m T) (hT:∀ j,T (lZ (xq n (if next+1<n then some cn else none) cr A (next+1) got j) cs)) :
  T ((oI n (some cn) cr A next got j cs).1.finishComm Tryz.prog #[⟨x,some y,z⟩,⟨x',none,z'⟩] .select ((0:Nat):Int) undef false):=by
 have e1:IntKind.i64.wrap ((next:Int)+1)=((next+1:Nat):Int):=by rw[IntKind.wrap_i64];omega
 simp only[oI,xu,Qv];walk_nrm;refine k.op ?_;refine k.op ?_;refine k.op ?_;repeat (first | refine k.seq ?_ | refine k.done ?_ | refine k.yes ?_ | refine k.no ?_ | refine k.skip ?_ | refine k.block ?_ | refine k.loop ?_ | refine k.inBlock ?_ | refine k.inLoop ?_ | refine k.exit ?_)
 refine k.region ?_;refine k.op ?_;refine k.op (v:=goInt ((next+1:Nat):Int)) ?_ (h:=by exact congrArg (fun x=>some (Next.value (.int .i64 x))) e1);refine k.op ?_;refine k.done ?_;refine k.seq ?_;refine k.region ?_;refine k.op ?_;refine k.op ?_;by_cases hl:next+1<n
 ·simp only[hl,if_true] at hT;refine k.op (v:=.bool false) ?_ (h:=by exact congrArg (fun x=>some (Next.value (.bool x))) (by simp;omega));repeat (first | refine k.done ?_ | refine k.no ?_ | refine k.skip ?_ | refine k.inBlock ?_)
  refine k.inLoop ?_;refine Cm hT _ ?_;rfl
 ·simp only[hl,if_false] at hT;refine k.op (v:=.bool true) ?_ (h:=by exact congrArg (fun x=>some (Next.value (.bool x))) (by simp;omega));refine k.done ?_;refine k.yes ?_;refine k.region ?_;refine k.op ?_;repeat (first | refine k.done ?_ | refine k.no ?_ | refine k.skip ?_ | refine k.inBlock ?_)
  refine k.inLoop ?_;refine Cm hT _ ?_;rfl
theorem Dq (b o i:Nat):(⟨b,o,none⟩:Addr).add i=⟨b,o+i,none⟩:=by unfold Addr.add;split<;>simp_all
def qP (cur:Array Value) (off:Nat) (vs:List Value):Array Value:=(cur.toList.take off++vs++cur.toList.drop (off+vs.length)).toArray
theorem M5 {Ro O:Nat->Prop} {S:aF} {w:World} (n:Nat) (c:Option Nat) (cr A next got i:Nat) (hi:i<n) (h63:n<1000) (hg:got+1<=n) (s:ByteArray) (e:Value) (he:e.oneCell'=true) (j:Nat->Value) (cs:List Frame) (x x' y z z':Value) (Ku:O A)
  (hA:∃ cur,w.heap[A]? = some (.cells cur 104 (0,0))/\cur.size=3*n)
  (_:¬ Ro A) (XA:∀ b,Ro b->b<w.heap.size) (Wh:∀ b,O b->b<w.heap.size)
  (hT:∀ w' B cur,w.heap.size<=B->w.heap.size<=w'.heap.size->B<w'.heap.size->(∀ b,Ro b\/O b->b≠A->w'.heap[b]? = w.heap[b]?)->w.heap[A]? = some (.cells cur 104 (0,0))->w'.heap[A]? = some (.cells (qP cur (3*i) [goInt i,.string s,e]) 104 (0,0))->(w'.os=w.os/\w'.output=w.output) ->
   ∀ j,RunT Tryz.prog true Ro (fun b=>O b\/b=B) S w' (lZ (xq n c cr A next (got+1) j) cs)) :
  RunT Tryz.prog true Ro O S w ((oI n c cr A next got j cs).1.finishComm Tryz.prog #[⟨x,some y,z⟩,⟨x',none,z'⟩] .select ((1:Nat):Int) (.agg #[goInt i,.string s,e]) true):=by
 have e1:IntKind.i64.wrap ((got:Int)+1)=((got+1:Nat):Int):=by rw[IntKind.wrap_i64];omega
 simp only[oI,xu,Qw];walk_nrm;have k:=bJ (P:=Tryz.prog) true Ro O S w;refine k.op ?_;refine k.op ?_;refine k.op ?_;repeat (first | refine k.seq ?_ | refine k.done ?_ | refine k.yes ?_ | refine k.no ?_ | refine k.skip ?_ | refine k.block ?_ | refine k.loop ?_ | refine k.inBlock ?_ | refine k.inLoop ?_ | refine k.exit ?_)
 refine k.region ?_;refine k.op ?_;refine RunT.make (ob:=.cells #[goInt 0,.string ⟨#[]⟩,.nilIface] 104) (mk:=fun b=>.pointer (some ⟨b,0,none⟩)) ?_ ?_ (fun w₁ h₁=>?_)
 ·intro w;simp only[execOp];simp[go_sem]
 ·intro w;simp only[execOp];simp[go_sem]
 walk_nrm;have hsz:w₁.heap.size<(w₁.alloc (.cells #[goInt 0,.string ⟨#[]⟩,.nilIface] 104)).heap.size:=by rw[World.size_alloc];omega
 have hnew:(w₁.alloc (.cells #[goInt 0,.string ⟨#[]⟩,.nilIface] 104)).heap[w₁.heap.size]? = some (.cells #[goInt 0,.string ⟨#[]⟩,.nilIface] 104 (0,0)):=by
  show (w₁.heap.push _)[w₁.heap.size]? = _;rw[Array.getElem?_push,if_pos rfl]
 have hold:∀ b,b<w₁.heap.size->(w₁.alloc (.cells #[goInt 0,.string ⟨#[]⟩,.nilIface] 104)).heap[b]? = w₁.heap[b]?:=fun b hb=>by
  show (w₁.heap.push _)[b]? = _;rw[Array.getElem?_push,if_neg (by omega)]
 obtain⟨w₂,hw2⟩:∃ w₂,w₂=w₁.alloc (.cells #[goInt 0,.string ⟨#[]⟩,.nilIface] 104):=⟨_,rfl⟩;have xW:w₂.os=w₁.os/\w₂.output=w₁.output:=by rw[hw2];exact⟨rfl,rfl⟩
 rw[<-hw2] at hsz hnew hold ⊢;clear hw2;refine RunT.store (tt:=104) (off:=0) (vs:=[goInt i,.string s,e]) rfl ?_ ?_ (.inr rfl) (fun w₃ h₃=>?_)
 ·intro u hu;simp only[List.mem_cons,List.not_mem_nil,or_false] at hu;rcases hu with rfl | rfl | rfl
  ·rfl
  ·rfl
  ·exact he
 ·kernel_rfl
 refine⟨_,(h₃.same _ (.inr (.inr rfl))).trans hnew,by simp,?_⟩;obtain⟨w₄,hw4⟩:∃ w₄,w₄=w₃.setRow w₁.heap.size ((#[goInt 0,.string ⟨#[]⟩,.nilIface]:Array Value).toList.take 0 ++ [goInt i,.string s,e]++(#[goInt 0,.string ⟨#[]⟩,.nilIface]:Array Value).toList.drop (0 + [goInt i,.string s,e].length)).toArray:=⟨_,rfl⟩;have OP:w₄.heap[w₁.heap.size]? = some (.cells #[goInt i,.string s,e] 104 (0,0)):=by
  rw[hw4,setRow_heap _ _ _ _ _ _ ((h₃.same _ (.inr (.inr rfl))).trans hnew)];rfl
 have Gl:∀ b,b≠w₁.heap.size->w₄.heap[b]? = w₃.heap[b]?:=fun b hb=>by rw[hw4];exact setRow_other _ _ _ _ hb
 have abr:w₄.heap.size=w₃.heap.size:=by rw[hw4,setRow_size]
 have Si:w₄.os=w₃.os/\w₄.output=w₃.output:=by rw[hw4];exact kr _ _ _
 rw[<-hw4];clear hw4;have k:=bJ (P:=Tryz.prog) true Ro (fun b=>O b\/b=w₁.heap.size) S w₄;refine k.done ?_;refine k.seq ?_;refine k.region ?_;refine k.op ?_;refine k.op ?_;refine RunT.load (v:=goInt i) (ad:=⟨w₁.heap.size,0,none⟩) Tryz.isAgg3 (fun w₅ h₅=>?_) (.inr (.inr rfl)) ?_
 ·simp only[World.cell?,(h₅.same _ (.inr (.inr rfl))).trans OP];rfl
 walk_nrm;refine RunT.U9 (l:=[goInt i,.string s,e]) (ad:=⟨w₁.heap.size,0,none⟩) Tryz.isAgg104 ?_ (fun w₅ h₅ jj u hu=>?_) (.inr (.inr rfl)) ?_
 ·kernel_rfl
 ·have Zf:=(h₅.same _ (.inr (.inr rfl))).trans OP;simpa [World.cell?,Dq,Zf] using hu
 walk_nrm;refine RunT.value (fun w₅ h₅=>⟨.pointer (some ⟨A,3*i,none⟩),w₅,?_,?_,?_⟩)
 ·simp only[execOp];simp[go_sem,hi,Dq,Nat.mul_comm]
 ·refine jU.rest fun ev hev=>?_
  revert hev;simp only[execOp];simp[go_sem];rw[events_indexAt_slice 70 ⟨A,0,none⟩ n n .i64 i (by kernel_rfl) ⟨by omega,by omega⟩];simp
 rw[jV];walk_nrm;obtain⟨cur,hA,hcs⟩:=hA;have hlA:A<w.heap.size:=Wh A Ku;have hs1:=h₁.size;have Sj:∀ b,Ro b\/O b->w₅.heap[b]? = w.heap[b]?:=fun b hb=>by
  have hbl:b<w.heap.size:=hb.elim (XA b) (Wh b);rw[h₅.same b (hb.imp id .inl),Gl b (by omega),h₃.same b (hb.imp id .inl),hold b (by omega),h₁.same b hb]
 have Wi:w₅.heap[A]? = some (.cells cur 104 (0,0)):=(Sj A (.inr Ku)).trans hA;refine RunT.store (g:=A) (tt:=104) (off:=3*i) (vs:=[goInt i,.string s,e]) rfl ?_ ?_ (.inl Ku) (fun w₆ h₆=>⟨cur,(h₆.same _ (.inr (.inl Ku))).trans Wi,by simp;omega,?_⟩)
 ·intro u hu;simp only[List.mem_cons,List.not_mem_nil,or_false] at hu;rcases hu with rfl | rfl | rfl
  ·rfl
  ·rfl
  ·exact he
 ·kernel_rfl
 have Zg:=(h₆.same A (.inr (.inl Ku))).trans Wi;obtain⟨w₇,hw7⟩:∃ w₇,w₇=w₆.setRow A (qP cur (3*i) [goInt i,.string s,e]):=⟨_,rfl⟩;have Zh:w₇.heap[A]? = some (.cells (qP cur (3*i) [goInt i,.string s,e]) 104 (0,0)):=by rw[hw7,setRow_heap _ _ _ _ _ _ Zg]
 have Va:∀ b,b≠A->w₇.heap[b]? = w₆.heap[b]?:=fun b hb=>by rw[hw7];exact setRow_other _ _ _ _ hb
 have abt:w₇.heap.size=w₆.heap.size:=by rw[hw7,setRow_size]
 have Sk:w₇.os=w₆.os/\w₇.output=w₆.output:=by rw[hw7];exact kr _ _ _
 have env:w₇.os=w.os/\w₇.output=w.output:=⟨Sk.1.trans (h₆.env.1.trans (h₅.env.1.trans (Si.1.trans (h₃.env.1.trans (xW.1.trans h₁.env.1))))),Sk.2.trans (h₆.env.2.trans (h₅.env.2.trans (Si.2.trans (h₃.env.2.trans (xW.2.trans h₁.env.2)))))⟩;show RunT _ _ _ _ _ (w₆.setRow A (qP cur (3*i) [goInt i,.string s,e])) _;rw[<-hw7];clear hw7;have k:=bJ (P:=Tryz.prog) true Ro (fun b=>O b\/b=w₁.heap.size) S w₇;refine k.done ?_;refine k.region ?_;refine k.op ?_;refine k.op (v:=goInt ((got+1:Nat):Int)) ?_ (h:=by exact congrArg (fun x=>some (Next.value (.int .i64 x))) e1);refine k.op ?_;repeat (first | refine k.done ?_ | refine k.no ?_ | refine k.skip ?_ | refine k.inBlock ?_)
 refine k.inLoop ?_;have hs3:=h₃.size;have hs5:=h₅.size;have hs6:=h₆.size;refine Cm (hT w₇ w₁.heap.size cur hs1 (by omega) (by omega) (fun b hb OQ=>by rw[Va b OQ,h₆.same b (hb.imp id .inl),Sj b hb]) hA Zh env) _ ?_;rfl
theorem Sl (n:Nat) (c:Option Nat) (cr A next:Nat) (j:Nat->Value) (cc:Frame) (cs:List Frame) (m:Bool) (T:Goroutine->Prop) (k:aU Tryz.prog m T) (hT:T (G (cc.finish (.slice (some ⟨A,0,none⟩) n n)) cs)):T (lZ (xq n c cr A next n j) (cc::cs)):=by
 simp only[lZ,rQ,yZ,sQ,Tryz.f59,xq,Option.getD_some];refine k.seq ?_;refine k.seq ?_;refine k.region ?_;refine k.op ?_;refine k.op ?_;refine k.op (v:=.bool false) ?_ (h:=by exact congrArg (fun x=>some (Next.value (.bool x))) (decide_eq_false (by omega)));refine k.done ?_;refine k.no ?_;refine k.exit ?_;repeat (first | refine k.seq ?_ | refine k.done ?_ | refine k.region ?_ | refine k.op ?_ | refine k.un ?_ | refine k.yes ?_ | refine k.no ?_ | refine k.skip ?_ | refine k.block ?_ | refine k.loop ?_ | refine k.inBlock ?_ | refine k.inLoop ?_ | refine k.exit ?_)
 refine k.ret ?_;exact k.step rfl rfl (fun w=>eX (v:=.slice (some ⟨A,0,none⟩) n n) rfl rfl rfl Tryz.func59 (by exact resultsC_tmp (t:=6) rfl _)) hT
theorem M6 {Ro O:Nat->Prop} {S:aF} {w:World} (n cn cr:Nat) (h63:n<1000) (cs:List Frame)
  (hT:∀ w₁ w' cur,Keep Ro O w w₁->w'.heap.size=w₁.heap.size+1->(∀ b,b<w₁.heap.size->w'.heap[b]? = w₁.heap[b]?)->w'.heap[w₁.heap.size]? = some (.cells cur 104 (0,0))->cur.size=3*n->(w'.os=w₁.os/\w'.output=w₁.output) ->
   ∀ j,RunT Tryz.prog true Ro (fun b=>O b\/b=w₁.heap.size) S w' (lZ (xq n (some cn) cr w₁.heap.size 0 0 j) cs)) :
  RunT Tryz.prog true Ro O S w (G ((base 59).at ⟨([goInt n,.chan (some cn),.chan (some cr)]++List.replicate 34 undef:List Value).toArray,[]⟩ [.code sQ]) cs):=by
 simp only[sQ,Tryz.f59,Option.getD_some,List.replicate,List.cons_append,List.nil_append];have k:=bJ (P:=Tryz.prog) true Ro O S w;repeat (first | refine k.seq ?_ | refine k.done ?_ | refine k.region ?_ | refine k.op ?_ | refine k.un ?_ | refine k.yes ?_ | refine k.no ?_ | refine k.skip ?_ | refine k.block ?_ | refine k.loop ?_ | refine k.inBlock ?_ | refine k.inLoop ?_ | refine k.exit ?_)
 have hinfo:(Tryz.prog.info? 104).map (fun i=>(i.zero,i.size,i.bytes))=some (some (.agg #[goInt 0,.string ⟨#[]⟩,.nilIface]),3,40):=by kernel_rfl
 have hu:Tryz.prog.underlying 70=some (.slice 104):=by kernel_rfl
 obtain⟨I,hI,hz⟩:=Option.map_eq_some_iff.1 hinfo;simp only[Prod.mk.injEq] at hz;obtain⟨hz,hs,hb⟩:=hz;have hr:∀ w,(Instr.makeSlice 70 (goInt n) (goInt n)).run Tryz.prog w = .ok (.slice (some ⟨w.heap.size,0,none⟩) n n) (w.alloc (.cells (madeCells #[goInt 0,.string ⟨#[]⟩,.nilIface] (n*3)) 104)):=fun w=>by
  have:=run_make (P:=Tryz.prog) w 70 104 I _ hu hI hz .i64 .i64 n n (by omega) (Int.le_refl _) (by rw[hb];omega) (by omega);simp only[Int.toNat_natCast,hs] at this;exact this
 have hev:∀ w,(Instr.makeSlice 70 (goInt n) (goInt n)).events Tryz.prog w #[]=#[]:=fun w=>events_make w 70 104 I _ hu hI hz .i64 .i64 n n (by omega) (Int.le_refl _) (by rw[hb];omega) (by omega) (by rw[hb];omega) _
 refine RunT.make (ob:=.cells (madeCells #[goInt 0,.string ⟨#[]⟩,.nilIface] (n*3)) 104) (mk:=fun b=>.slice (some ⟨b,0,none⟩) n n) ?_ ?_ (fun w₁ h₁=>?_)
 ·intro w;simp only[execOp];simp[go_sem];exact congrArg (fun r=>Result.andThen r _) (hr w)
 ·intro w;simp only[execOp];simp[go_sem];exact hev w
 walk_nrm;obtain⟨w₂,hw2⟩:∃ w₂,w₂=w₁.alloc (.cells (madeCells #[goInt 0,.string ⟨#[]⟩,.nilIface] (n*3)) 104):=⟨_,rfl⟩;have h1:w₂.heap.size=w₁.heap.size+1:=by rw[hw2,World.size_alloc]
 have h2:∀ b,b<w₁.heap.size->w₂.heap[b]? = w₁.heap[b]?:=fun b hb=>by
  rw[hw2];show (w₁.heap.push _)[b]? = _;rw[Array.getElem?_push,if_neg (by omega)]
 have h3:w₂.heap[w₁.heap.size]? = some (.cells (madeCells #[goInt 0,.string ⟨#[]⟩,.nilIface] (n*3)) 104 (0,0)):=by
  rw[hw2];show (w₁.heap.push _)[w₁.heap.size]? = _;rw[Array.getElem?_push,if_pos rfl]
 have xW:w₂.os=w₁.os/\w₂.output=w₁.output:=by rw[hw2];exact⟨rfl,rfl⟩
 rw[<-hw2];clear hw2 hr hev;have k:=bJ (P:=Tryz.prog) true Ro (fun b=>O b\/b=w₁.heap.size) S w₂;refine k.op ?_;refine k.done ?_;refine k.seq ?_;refine k.region ?_;refine k.op ?_;refine k.done ?_;refine k.seq ?_;refine k.seq ?_;refine k.region ?_;refine k.op ?_;refine k.done ?_;refine k.block ?_;refine k.loop ?_;refine Cm (hT w₁ w₂ _ h₁ h1 h2 h3 (by rw[size_madeCells,Nat.mul_comm]) xW) _ ?_;rfl
end Go.Proofs.YtnonoiafongllaaGreatDoor
namespace Go.Proofs.YtnonoiafongllaaGreatDoor
open Go Go.Conc Px Go.ConcR.Gen
noncomputable def bot:Frame:={ (default:Frame) with fn:=Tryz.prog.funcs.size,defers:=[],mode:=.panicking [goexitEntry] }
noncomputable def Dr:Code:=Tryz.f56.body.getD .skip
noncomputable def OT:Array Oper:=match Dr with | .seq _ (.region _ o _)=>o | _=>#[]
noncomputable def xX (Wg:Nat) (p1 p2 p3 p4 x y z u:Value):Frame:=(baseD 56).at { tmps:=#[.pointer (some ⟨Wg,0,none⟩),p1,p2,p3,p4,x,y,z,u,undef],defers:=[dcall 57 #[.pointer (some ⟨Wg,0,none⟩)]] } [.inRegion OT [4]]
theorem G9 (T:Array Value) (td:List Item):QuitsD Tryz.prog 2 0 (G { (baseD 56).at ⟨T,[]⟩ td with mode:=.returning } [bot]):=by
 refine QuitsD.ctl (g':=G bot []) rfl (fun w=>?_) ?_
 ·simp[G,stepG,unwind,doReturn,results,Frame.at,baseD,bot,Tryz.func56,Tryz.f56,seen,GStep.after,goexitEntry]
 refine QuitsD.ctl (g':={ G bot [] with status:=.finished }) rfl (fun w=>?_) ⟨rfl,rfl⟩;simp[G,stepG,unwind,bot,goexitEntry,Frame.catches];rfl
theorem Bp (Ro:Nat->Prop) (Wg cn:Nat) (p1 p2 p3 p4 x y z u x' y' u':Value) (j:Nat->Value) :
  pO Tryz.prog (uJ (gp Ro Wg cn (goInt 0))) ((G (nO x' y' (.chan (some cn)) u' j) [xX Wg p1 p2 p3 p4 x y z u,bot]).finishComm Tryz.prog #[⟨.chan (some cn),none,goInt 0⟩] (.recv true) (0:Nat) (goInt 0) false):=by
 have k:=lC (P:=Tryz.prog) (uJ (gp Ro Wg cn (goInt 0)));show pO _ _ (G ((base 58).at { tmps:=#[x',y',.chan (some cn),u',j 4,j 5,j 6,j 7,j 8,j 9,j 10,.chan (some cn),.tuple #[goInt 0,.bool false],j 13,j 14,j 15,j 16,j 17,j 18,j 19,j 20,j 21,j 22,j 23,j 24,j 25,j 26,j 27,j 28],defers:=[] } [.inRegion #[{ dst:=some 12,op:=Op.recv 171 (Operand.tmp 11) true,type:=0,pos:= "each.go:49",after:=#[],guard:=none },{ dst:=some 13,op:=Op.extract (Operand.tmp 12) 1,type:=4,pos:= "each.go:49",after:=#[{ on:=0,ground:=Ground.data }],guard:=none }] [1],.code nN,.inLoop uP,.inBlock 0]) _);refine k.op ?_;refine k.done ?_;simp only[nN,uP,Tryz.f58];repeat (first | refine k.seq ?_ | refine k.done ?_ | refine k.region ?_ | refine k.op ?_ | refine k.un ?_ | refine k.yes ?_ | refine k.no ?_ | refine k.skip ?_ | refine k.exit ?_ | refine k.inBlock ?_)
 refine k.fin ?_;show pO _ _ (G _ [xX Wg p1 p2 p3 p4 x y z u,bot]);simp only[xX,OT,Dr,Tryz.f56,Option.getD_some];refine k.leave0 Tryz.func58 ?_;refine k.done ?_;refine k.fin ?_;refine k.dcall (l:=[.pointer (some ⟨Wg,0,none⟩)]) 3 Tryz.func57 rfl (by kernel_rfl) ?_;exact M0 rfl (G9 _ _)
end Go.Proofs.YtnonoiafongllaaGreatDoor
namespace Go.Proofs.YtnonoiafongllaaGreatDoor
open Go Go.Conc Px
noncomputable def pQ (Wg:Nat) (p1 p2 p3 p4:Value):Deferred:={ target:=.fn (.func 56) #[.pointer (some ⟨Wg,0,none⟩),p1,p2,p3,p4],args:=#[] }
theorem Qy (Wg:Nat) (p1 p2 p3 p4:Value) (w:World):stepG Tryz.prog false (born Tryz.prog (pQ Wg p1 p2 p3 p4)) w = .go (G ((baseD 56).at ⟨#[.pointer (some ⟨Wg,0,none⟩),p1,p2,p3,p4,undef,undef,undef,undef,undef],[]⟩ [.code Dr]) [bot]) w #[]:=by
 simp[born,pQ,stepG,unwind,callDeferred,invoke,callFunc,Tryz.func56,Tryz.f56,seen,GStep.after,G,Frame.enter,Frame.at,baseD,bot,Dr]
theorem EM {Ro O:Nat->Prop} {F:World->Prop} (hc:Cl Ro O F) (Wg:Nat) {a1 a2 a3 a4:Addr} {x y z u:Value} (h1:∀ w,F w->w.cell? a1=some x) (h2:∀ w,F w->w.cell? a2=some y) (h3:∀ w,F w->w.cell? a3=some z) (h4:∀ w,F w->w.cell? a4=some u) (r1:Ro a1.block) (r2:Ro a2.block) (r3:Ro a3.block) (r4:Ro a4.block) :
  RF Tryz.prog false Ro (Kl x y z u [xX Wg (.pointer (some a1)) (.pointer (some a2)) (.pointer (some a3)) (.pointer (some a4)) x y z u,bot]) F (born Tryz.prog (pQ Wg (.pointer (some a1)) (.pointer (some a2)) (.pointer (some a3)) (.pointer (some a4)))) O:=by
 have k:=Sd (P:=Tryz.prog) (m:=false) (S:=Kl x y z u [xX Wg (.pointer (some a1)) (.pointer (some a2)) (.pointer (some a3)) (.pointer (some a4)) x y z u,bot]) hc;refine RF.idle hc (Qy Wg _ _ _ _) rfl ?_;simp only[Dr,Tryz.f56,Option.getD_some];change yX _ _ _ _ _ _ _;refine k.seq ?_;refine k.region ?_;refine k.defer ?_;refine k.done ?_;refine k.region ?_;refine yX.load hc Tryz.isAgg22 h1 (.inl r1) ?_;refine yX.load hc Tryz.isAgg49 h2 (.inl r2) ?_;refine yX.load hc Tryz.isAgg106 h3 (.inl r3) ?_;refine yX.load hc Tryz.isAgg107 h4 (.inl r4) ?_;refine k.call 25 Tryz.func58 rfl (by kernel_rfl) ?_;have:=G7 (O:=O) hc x y z u [xX Wg (.pointer (some a1)) (.pointer (some a2)) (.pointer (some a3)) (.pointer (some a4)) x y z u,bot];rw[enter_at (n:=25) Tryz.func58 rfl rfl] at this;exact this
end Go.Proofs.YtnonoiafongllaaGreatDoor
