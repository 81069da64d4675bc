import Derived.Test.YtnonoiafongllaaGreatDoorPxCommGroup
import Derived.Conc.WgGenN2
import Derived.Test.YtnonoiafongllaaGreatDoorPxRunsGroup
namespace Px
open Go Go.Conc
abbrev aF:=Goroutine->World->(Nat->Prop)->Prop
inductive aT
 | run (m:Bool) (S:aF) (g:Goroutine) (w:World) (O:Nat->Prop)
 | idle (g:Goroutine) (w:World) (O:Nat->Prop)
 | quit (q:Nat)
def aT.own:aT->Nat->Prop
 | .run _ _ _ _ O=>O
 | .idle _ _ O=>O
 | .quit _=>fun _=>False
section
variable {P:Program} {Ro:Nat->Prop}
inductive Bb (P:Program) (Ro:Nat->Prop):aT->aT->Prop
 | step {m:Bool} {S:aF} {g g':Goroutine} {w w₁ w':World} {O:Nat->Prop} {es:Array Event}:(¬ ∀ w₁,Keep Ro O w w₁->S g w₁ O)->Keep Ro O w w₁->stepG P m g w₁ = .go g' w' es->Bb P Ro (.run m S g' w' (grow O w₁ w')) (.run m S g w O)
 | kV {m:Bool} {S:aF} {g g':Goroutine} {w w':World} {O O':Nat->Prop}:Bb P Ro (.idle g' w' O') (.run m S g w O)
 | quit {q:Nat}:Bb P Ro (.quit q) (.quit (q+1))
theorem pG {g:Goroutine} {w:World} {O:Nat->Prop}:Acc (Bb P Ro) (.idle g w O):=⟨_,fun _ h=>nomatch h⟩
theorem C8 (q:Nat):Acc (Bb P Ro) (.quit q):=by
 induction q with
 | zero=>exact⟨_,fun _ h=>nomatch h⟩
 | succ q ih=>exact⟨_,fun _ h=>by cases h;exact ih⟩
theorem Runs.acc {m:Bool} {S:aF} {g:Goroutine} {w:World} {O:Nat->Prop} (h:Runs P m Ro S g w O):Acc (Bb P Ro) (.run m S g w O):=by
 induction h with
 | stop h=>
  refine⟨_,fun r hr=>?_⟩;cases hr with
  | step hn _ _=>exact absurd h hn
  | kV=>exact pG
 | step h1 h2 ih=>
  refine⟨_,fun r hr=>?_⟩;cases hr with
  | step _ hk hs=>exact ih _ _ _ _ hk hs
  | kV=>exact pG
end
inductive LL {α:Type _} (R:α->α->Prop):List α->List α->Prop
 | mk {l:List α} {j:Nat} {r r':α}:l[j]? = some r->R r' r->LL R (l.set j r') l
theorem MJ {α:Type _} {R:α->α->Prop} {a:α} (ha:Acc R a):∀ {l:List α},Acc (LL R) l->Acc (LL R) (a::l):=by
 induction ha with
 | intro a _ iha=>
  intro l hl;induction hl with
  | intro l hl' ihl=>
   refine⟨_,fun l' h=>?_⟩;generalize e:a::l=x at h;cases h with
   | @mk _ j r r' hj hr=>
    subst e;cases j with
    | zero=>
     simp only[List.getElem?_cons_zero,Option.some.injEq] at hj;subst hj;exact iha _ hr ⟨l,hl'⟩
    | succ j=>
     simp only[List.getElem?_cons_succ] at hj;exact ihl _ ⟨hj,hr⟩
theorem xM {α:Type _} {R:α->α->Prop}:∀ {l:List α},(∀ r∈l,Acc R r)->Acc (LL R) l
 | [],_=>⟨_,fun _ h=>by
   generalize e:([]:List α)=x at h;cases h with
   | mk hj _=>subst e;simp at hj⟩
 | a::l,h=>MJ (h a (List.mem_cons_self ..)) (xM fun r hr=>h r (List.mem_cons_of_mem _ hr))
def bD (rl:List aT) (j b:Nat):Prop:=∃ r,rl[j]? = some r/\r.own b
theorem kW {rl:List aT} {j:Nat} {r:aT} (hj:j<rl.length):bD (rl.set j r)=fun k b=>(k=j/\r.own b)\/(k≠j/\bD rl k b):=by
 funext k b;apply propext;unfold bD;by_cases hk:k=j
 ·subst hk;simp[List.getElem?_set_self hj]
 ·rw[List.getElem?_set_ne (Ne.symm hk)];simp[hk]
def Nt (Sw:Nat->Prop) (op:MemOp):Prop:=(∀ a,op.act ≠ .mark (.release a))/\∀ x,op.act.touch? = some x->nK Sw x.loc\/x.kind = .plain
def xO (Sw:Nat->Prop) (t:Trace):Prop:=(∀ a,NoRelease a t)/\∀ (i:Nat) x,touchAt t i=some x->nK Sw x.loc\/x.kind = .plain
theorem Nt.none {Sw:Nat->Prop} {op:MemOp} (h:∀ a,op.act ≠ .mark (.release a)) (ht:op.act.touch? = none):Nt Sw op:=⟨h,fun x hx=>by rw[ht] at hx;cases hx⟩
theorem xO.more {Sw aG:Nat->Prop} {t:Trace} (h:xO Sw t) (hs:∀ b,Sw b->aG b):xO aG t:=⟨h.1,fun i x hx=>(h.2 i x hx).imp (fun ⟨b,h1,h2⟩=>⟨b,h1,hs b h2⟩) id⟩
structure WI (Sw:Nat->Prop) (live:Nat->Prop) (D:Nat->Nat) (Ro:Nat->Prop) (rl:List aT) (W:World) (t:Trace):Prop where
 ap:Ap Sw W.heap.size (bD rl) Ro
 ti:TI Sw W.heap.size live (bD rl) Ro t rl.length
 deaf:∀ j,live j->Deaf t j=D j
 kX:xO Sw t
theorem kY {Sw:Nat->Prop} {t u:Trace} (h:xO Sw t) (hu:∀ op∈u,Nt Sw op):xO Sw (t++u):=by
 refine⟨fun a i hi=>?_,fun i x hx=>?_⟩;rotate_left
 ·obtain⟨op,ho,hx'⟩:=touch_of hx;rcases getElem?_append_cases ho with⟨_,ho'⟩|⟨_,hop⟩
  ·exact h.2 i x (by rw[touchAt_of ho'];exact hx')
  ·exact (hu op hop).2 x hx'
 unfold Trace.act? at hi;cases ho:(t++u)[i]? with
 | none=>rw[ho] at hi;cases hi
 | some op=>
  rw[ho] at hi;simp only[Option.map_some,Option.some.injEq] at hi;rcases getElem?_append_cases ho with⟨_,ho'⟩|⟨_,hop⟩
  ·exact h.1 a i (by rw[act?_of ho',hi])
  ·exact (hu op hop).1 a hi
theorem GR {Ro O:Nat->Prop} {e:Event} (h:jE Ro O e) {x:Touch} (hx:(MemAct.ofEvent e).touch? = some x):∃ b,blk x.loc=some b/\(O b\/(Ro b/\x.write=false)):=by
 cases h with
 | read h=>cases hx;exact⟨_,rfl,h.elim (fun h=>.inr ⟨h,rfl⟩) .inl⟩
 | write h=>cases hx;exact⟨_,rfl,.inl h⟩
 | ng h=>cases hx;exact⟨_,rfl,h.elim (fun h=>.inr ⟨h,rfl⟩) .inl⟩
 | kI h=>cases hx;exact⟨_,rfl,.inl h⟩
 | room=>cases hx
 | ext f=>cases hx
theorem GU {Ro O:Nat->Prop} {e:Event} (h:jE Ro O e):MemAct.ofEvent e ≠ .mark .disable/\MemAct.ofEvent e ≠ .mark .enable:=by
 cases h<;>exact⟨(fun h=>by cases h),(fun h=>by cases h)⟩
theorem JR {Ro O:Nat->Prop} {e:Event} (h:jE Ro O e) (a:Addr):MemAct.ofEvent e ≠ .mark (.release a):=by
 cases h<;>exact fun h=>by cases h
theorem GV {Ro O:Nat->Prop} {e:Event} (h:jE Ro O e) {x:Touch} (hx:(MemAct.ofEvent e).touch? = some x):x.kind = .plain:=by
 cases h<;>(cases hx;try rfl)
theorem WI.step {Sw live Ro:Nat->Prop} {D:Nat->Nat} {rl:List aT} {W w':World} {t:Trace} {j:Nat} {m m':Bool} {S S':aF} {g g':Goroutine} {w:World} {O:Nat->Prop} {es:Array Event} {fn:FuncId} {pos:String}
  (A:WI Sw live D Ro rl W t) (hj:rl[j]? = some (.run m S g w O)) (hl:live j) (hf:jU Ro O W w' es):WI Sw live D Ro (rl.set j (.run m' S' g' w' (grow O W w'))) w' (t++MemOp.ofEvents j fn pos es):=by
 have hlt:=(List.getElem?_eq_some_iff.1 hj).1;have e:bD (rl.set j (.run m' S' g' w' (grow O W w')))=vY (bD rl) j W.heap.size w'.heap.size:=by
  rw[kW hlt];funext k b;apply propext;unfold vY grow;constructor
  ·rintro (⟨rfl,h⟩|⟨_,h⟩)
   ·exact h.elim (fun h=>.inl ⟨_,hj,h⟩) fun h=>.inr ⟨rfl,h⟩
   ·exact .inl h
  ·rintro (h | ⟨rfl,h⟩)
   ·by_cases hk:k=j
    ·subst hk;obtain⟨r,hr,h⟩:=h;rw[hj] at hr;cases hr;exact .inl ⟨rfl,.inl h⟩
    ·exact .inr ⟨hk,h⟩
   ·exact .inl ⟨rfl,.inr h⟩
 have ops:∀ op∈MemOp.ofEvents j fn pos es,∃ e∈es,op=⟨j,fn,pos,MemAct.ofEvent e⟩:=by
  intro op hop;unfold MemOp.ofEvents at hop;split at hop
  ·simp at hop
  ·obtain⟨e,he,rfl⟩:=Array.mem_map.1 hop;exact⟨e,he,rfl⟩
 refine⟨?_,?_,fun k hk=>?_,kY A.kX fun op hop=>(by obtain⟨e,he,rfl⟩:=ops op hop;exact⟨JR (hf.evs e he),fun x hx=>.inr (GV (hf.evs e he) hx)⟩)⟩
 ·rw[e];exact A.ap.grow j hf.size
 ·rw[e,List.length_set];refine TI.step A.ap A.ti hl hlt hf.size fun op hop=>?_
  obtain⟨e,he,rfl⟩:=ops op hop;refine⟨rfl,fun x hx=>.inr ?_⟩;obtain⟨b,h1,h2⟩:=GR (hf.evs e he) hx;exact⟨b,h1,h2.imp (fun h=>h.imp (fun h=>⟨_,hj,h⟩) id) id⟩
 ·rw[ConcN.Deaf_still t k _ fun op hop=>?_]
  ·exact A.deaf k hk
  ·obtain⟨e,he,rfl⟩:=ops op hop;exact GU (hf.evs e he)
theorem keep_other {Sw Ro:Nat->Prop} {rl:List aT} {W w' wk:World} {j k:Nat} {m:Bool} {S:aF} {g:Goroutine} {w:World} {O:Nat->Prop} {r:aT} {es:Array Event} (A:Ap Sw W.heap.size (bD rl) Ro)
  (hj:rl[j]? = some (.run m S g w O)) (hk:rl[k]? = some r) (hne:k≠j) (hf:jU Ro O W w' es) (h:Keep Ro r.own wk W):Keep Ro r.own wk w':=by
 refine h.trans ⟨hf.size,fun b hb=>?_,hf.os,hf.output⟩;rcases hb with hb | hb
 ·exact hf.old b (A.pF _ hb) fun ho=>A.ro j b ⟨_,hj,ho⟩ hb
 ·exact hf.old b (A.lt k b ⟨_,hk,hb⟩) fun ho=>hne (A.own _ _ _ ⟨_,hk,hb⟩ ⟨_,hj,ho⟩)
theorem fG {Ro O:Nat->Prop} {w W:World} {r s d:Nat} (h:Keep Ro O w W) (hr:¬ Ro r) (ho:¬ O r):Keep Ro O w (sent (W.at d) r s):=by
 refine h.trans ⟨?_,fun b hb=>?_,rfl,rfl⟩
 ·show W.heap.size<=(W.heap.modify r _).size;simp
 ·show (W.heap.modify r _)[b]? = W.heap[b]?;rw[Array.getElem?_modify,if_neg];rintro rfl;exact hb.elim hr ho
theorem Bc {W:World} {r s d:Nat}:(sent (W.at d) r s).heap.size=W.heap.size:=by
 show (W.heap.modify r _).size=_;simp
theorem sO {W:World} {r s r' s' d:Nat} (h:iJ W r' s'):∃ s'',iJ (sent (W.at d) r s) r' s'':=by
 obtain⟨tm,h⟩:=h;by_cases e:r=r'
 ·subst e;refine⟨s+1,tm,?_⟩;show (W.heap.modify r _)[r]? = _;rw[Array.getElem?_modify,if_pos rfl,h];rfl
 ·refine⟨s',tm,?_⟩;show (W.heap.modify r _)[r']? = _;rw[Array.getElem?_modify,if_neg e,h]
end Px
namespace Px
open Go Go.Conc
def HO (t:Trace) (j:Nat):Prop:=∀ i,t.g? i=some j->t.counts i->Knows t 0 i
theorem HO.app {t u:Trace} {j:Nat} (h:HO t j) (hu:∀ op∈u,op.g=j->op.act.touch? = none):HO (t++u) j:=by
 intro i hg ⟨x,hx,hm⟩;obtain⟨op,ho,hx'⟩:=touch_of hx;rcases getElem?_append_cases ho with⟨hi,ho'⟩|⟨_,hou⟩
 ·refine (h i (by rw[Trace.g?,ho'] ;rw[Trace.g?,ho] at hg;exact hg) ⟨x,?_,hm.1,hm.2.imp id fun hh=>?_⟩).app u
  ·rw[act?_of ho'];exact hx'
  ·obtain⟨g,h1,h2⟩:=hh;exact⟨g,by rw[Trace.g?,ho'];rw[Trace.g?,ho] at h1;exact h1,by rw[<-h2];exact (deaf_old (Nat.le_of_lt hi)).symm⟩
 ·rw[Trace.g?,ho] at hg;rw[hu op hou (by simpa using hg)] at hx';cases hx'
structure Pl where
 P:Program
 Sw:Nat->Prop
 Ro:Nat->Prop
 h0:Nat->Option Obj
 J0:Nat
 dm:Nat
 cn:Nat
 cr:Nat
 n:Nat
 AtR:aF
 lT:Nat->aF
 dS:Nat->List Nat->aF
 Bd:Nat->Value->World->(Nat->Prop)->Prop
 eR:Value
 eS:Value
 e0:Value
 e1:Value
def Pl.sk (p:Pl):Option Nat->aF
 | none=>p.AtR
 | some i=>p.lT i
def Pl.live (p:Pl) (N j:Nat):Prop:=j=0\/(p.J0<=j/\j<N)
def Pl.D (p:Pl) (j:Nat):Nat:=if j=0 then p.dm else 0
def Pl.cR (p:Pl):CommCase:=⟨.chan (some p.cn),none,p.eR⟩
def Pl.cS (p:Pl) (v:Value):CommCase:=⟨.chan (some p.cr),some v,p.eS⟩
def Pl.cM (p:Pl) (next:Nat):Array CommCase:=#[⟨.chan (if next<p.n then some p.cn else none),some (goInt next),p.e0⟩,⟨.chan (some p.cr),none,p.e1⟩]
structure Pl.Ok (p:Pl):Prop where
 ne:p.cn≠p.cr
 j0:1<=p.J0
 dm:0<p.n->p.dm=0
 hR:∀ g w O,p.AtR g w O->∃ g1,stepG p.P false g w = .comm g1 #[p.cR] true (.recv true) w #[] /\
  ∀ i,i<p.n->∀ w',Keep p.Ro O w w'->Runs p.P false p.Ro (p.lT i) (g1.finishComm p.P #[p.cR] (.recv true) (0:Nat) (goInt i) true) w' O
 hS:∀ i g w O,p.lT i g w O->∃ g1 v,stepG p.P false g w = .comm g1 #[p.cS v] true .send w #[]/\(∀ w',Keep p.Ro O w w'->p.Bd i v w' O) /\
  ∀ w',Keep p.Ro (fun _=>False) w w'->Runs p.P false p.Ro p.AtR (g1.finishComm p.P #[p.cS v] .send (0:Nat) undef false) w' fun _=>False
 hM:∀ next got g w O,p.dS next got g w O->got.length<p.n->∃ g1,stepG p.P true g w = .comm g1 (p.cM next) true .select w #[] /\
  (next<p.n->∀ w',Keep p.Ro O w w'->Runs p.P true p.Ro (p.dS (next+1) got) (g1.finishComm p.P (p.cM next) .select (0:Nat) undef false) w' O) /\
  ∀ i v Oi w',i<next->i∉got->Keep p.Ro O w w'->p.Bd i v w' Oi->(∀ b,Oi b->¬ O b)->Runs p.P true p.Ro (p.dS next (i::got)) (g1.finishComm p.P (p.cM next) .select (1:Nat) v true) w' fun b=>O b\/Oi b
def Pk (P:Program) (m:Bool) (g:Goroutine) (w:World) (x:Goroutine):Prop:=∃ g1 cs sh,stepG P m g w = .comm g1 cs true sh w #[]/\x = { g1 with status:=.blocked,offers:=some (cs,sh) }
def mM (p:Pl) (next:Nat) (got:List Nat):aT->Goroutine->World->Prop
 | .run m S g w O,x,W=>m=true/\S=p.dS next got/\x=g/\x.status = .running/\Runs p.P true p.Ro S g w O/\Keep p.Ro O w W
 | .idle g w O,x,W=>got.length<p.n/\Pk p.P true g w x/\Keep p.Ro O w W/\∀ w₁,Keep p.Ro O w w₁->p.dS next got g w₁ O
 | .quit _,_,_=>False
def fO (p:Pl) (j:Nat) (tk:Option Nat):aT->Goroutine->World->Trace->Prop
 | .run m S g w O,x,W,_=>p.J0<=j/\m=false/\S=p.sk tk/\x=g/\x.status = .running/\Runs p.P false p.Ro S g w O/\Keep p.Ro O w W
 | .idle g w O,x,W,_=>p.J0<=j/\Pk p.P false g w x/\Keep p.Ro O w W/\∀ w₁,Keep p.Ro O w w₁->p.sk tk g w₁ O
 | .quit q,x,_,t=>j<p.J0/\QuitsD p.P q (Deaf t j) x/\HO t j
structure G2 (p:Pl) (gs:Array Goroutine) (W:World) (t:Trace) (rl:List aT) (tk:Nat->Option Nat) (next:Nat) (got:List Nat):Prop where
 len:rl.length=gs.size
 wi:WI p.Sw (p.live gs.size) p.D p.Ro rl W t
 sw:p.J0<gs.size->p.Sw p.cn/\p.Sw p.cr
 lU:p.J0<gs.size->∃ s,iJ W p.cn s
 chr:p.J0<gs.size->∃ s,iJ W p.cr s
 fx:∀ b,p.Sw b->b≠p.cn->b≠p.cr->W.heap[b]? = p.h0 b
 main:∃ r x,rl[0]? = some r/\gs[0]? = some x/\mM p next got r x W
 work:∀ j r x,j≠0->rl[j]? = some r->gs[j]? = some x->fO p j (tk j) r x W t
 lV:∀ j i,tk j=some i->p.J0<=j/\j<gs.size/\i<next/\i∉got
 tk1:∀ j j' i,tk j=some i->tk j'=some i->j=j'
 uG:∀ i,i<next->i∈got\/∃ j,tk j=some i
 gb:∀ i,i∈got->i<next
 gn:got.Nodup
 nn:next<=p.n
 one:0<p.n->p.J0<gs.size
 wait:∀ g w O,rl[0]? = some (.idle g w O)->∀ j g w O,j≠0->rl[j]? = some (.idle g w O)->tk j=none/\¬ next<p.n
section
variable {p:Pl} {gs:Array Goroutine} {W:World} {t:Trace} {rl:List aT} {tk:Nat->Option Nat} {next:Nat} {got:List Nat}
theorem Pk.cases {P:Program} {m:Bool} {g g1 x:Goroutine} {w:World} {cs:Array CommCase} {sh:CommShape} (h:Pk P m g w x) (hs:stepG P m g w = .comm g1 cs true sh w #[]):x = { g1 with status:=.blocked,offers:=some (cs,sh) }:=by
 obtain⟨g2,cs2,sh2,h2,h3⟩:=h;rw[hs] at h2;cases h2;exact h3
theorem fO.free (o:p.Ok) {j:Nat} {g x:Goroutine} {w:World} {O:Nat->Prop} (h:fO p j none (.idle g w O) x W t):∃ g1:Goroutine,x = { g1 with status:=.blocked,offers:=some (#[p.cR],.recv true) } /\
  ∀ i,i<p.n->∀ w',Keep p.Ro O w w'->Runs p.P false p.Ro (p.lT i) (g1.finishComm p.P #[p.cR] (.recv true) (0:Nat) (goInt i) true) w' O:=by
 obtain⟨_,h1,h2,h3⟩:=h;obtain⟨g1,h4,h5⟩:=o.hR _ _ _ (h3 w (.refl ..));exact⟨g1,h1.cases h4,h5⟩
theorem fO.busy (o:p.Ok) {j i:Nat} {g x:Goroutine} {w:World} {O:Nat->Prop} (h:fO p j (some i) (.idle g w O) x W t):∃ (g1:Goroutine) (v:Value),x = { g1 with status:=.blocked,offers:=some (#[p.cS v],.send) }/\(∀ w',Keep p.Ro O w w'->p.Bd i v w' O) /\
  ∀ w',Keep p.Ro (fun _=>False) w w'->Runs p.P false p.Ro p.AtR (g1.finishComm p.P #[p.cS v] .send (0:Nat) undef false) w' fun _=>False:=by
 obtain⟨_,h1,h2,h3⟩:=h;obtain⟨g1,v,h4,h5⟩:=o.hS _ _ _ _ (h3 w (.refl ..));exact⟨g1,v,h1.cases h4,h5⟩
theorem mM.parked (o:p.Ok) {g x:Goroutine} {w:World} {O:Nat->Prop} (h:mM p next got (.idle g w O) x W):∃ g1:Goroutine,x = { g1 with status:=.blocked,offers:=some (p.cM next,.select) } /\
  (next<p.n->∀ w',Keep p.Ro O w w'->Runs p.P true p.Ro (p.dS (next+1) got) (g1.finishComm p.P (p.cM next) .select (0:Nat) undef false) w' O) /\
  ∀ i v Oi w',i<next->i∉got->Keep p.Ro O w w'->p.Bd i v w' Oi->(∀ b,Oi b->¬ O b)->Runs p.P true p.Ro (p.dS next (i::got)) (g1.finishComm p.P (p.cM next) .select (1:Nat) v true) w' fun b=>O b\/Oi b:=by
 obtain⟨h0,h1,h2,h3⟩:=h;obtain⟨g1,h4,h5⟩:=o.hM _ _ _ _ _ (h3 w (.refl ..)) h0;exact⟨g1,h1.cases h4,h5⟩
theorem JU {c:CommCase} (h:c∈p.cM next):c.chan = .chan none\/c.chan = .chan (some p.cn)\/c.chan = .chan (some p.cr):=by
 simp only[Pl.cM,List.mem_toArray,List.mem_cons,List.not_mem_nil,or_false] at h;rcases h with rfl | rfl
 ·by_cases hn:next<p.n
  ·exact .inr (.inl (by simp[hn]))
  ·exact .inl (by simp[hn])
 ·exact .inr (.inr rfl)
theorem gU {P:Program} {q d:Nat} {x:Goroutine} (h:QuitsD P q d x):x.status = .running\/x.status = .finished:=by
 cases q with
 | zero=>exact .inr h.1
 | succ q=>exact h.elim (fun h=>.inr h.1) fun h=>.inl h.1
theorem G2.again (o:p.Ok) (h:G2 p gs W t rl tk next got) {w':World} (hn:p.J0<gs.size->∃ s,iJ w' p.cn s) (hr:p.J0<gs.size->∃ s,iJ w' p.cr s) {x:Goroutine} {j:Nat} (hx:gs[j]? = some x):x.again w'=x:=by
 by_cases hj:j=0
 ·subst hj;obtain⟨r,x',h1,h2,h3⟩:=h.main;rw[hx] at h2;cases h2;match r,h3 with
  | .run ..,⟨_,_,_,h4,_⟩=>exact gT (.inl h4)
  | .idle ..,h4=>
   have hJ:=h.one (Nat.lt_of_le_of_lt (Nat.zero_le _) h4.1);obtain⟨s,hn⟩:=hn hJ;obtain⟨s',hr⟩:=hr hJ;obtain⟨g1,rfl,_⟩:=mM.parked o h4;refine sN rfl rfl fun c hc=>?_
   rcases JU hc with h | h | h
   ·exact .inl h
   ·exact .inr ⟨_,_,h,hn⟩
   ·exact .inr ⟨_,_,h,hr⟩
 ·obtain⟨hlt,_⟩:=Array.getElem?_eq_some_iff.1 hx;obtain⟨r,hr'⟩:∃ r,rl[j]? = some r:=⟨rl[j]'(by rw[h.len];exact hlt),by simp⟩;have h3:=h.work j r x hj hr' hx;match r,h3 with
  | .run ..,⟨_,_,_,_,h4,_⟩=>exact gT (.inl h4)
  | .idle ..,h4=>
   have hJ:=Nat.lt_of_le_of_lt h4.1 hlt;obtain⟨s,hn⟩:=hn hJ;obtain⟨s',hr⟩:=hr hJ;revert h4;cases htk:tk j with
   | none=>
    intro h4;obtain⟨g1,rfl,_⟩:=fO.free o h4;refine sN rfl rfl fun c hc=>.inr ⟨_,_,?_,hn⟩
    simp only[List.mem_toArray,List.mem_cons,List.not_mem_nil,or_false] at hc;subst hc;rfl
   | some i=>
    intro h4;obtain⟨g1,v,rfl,_⟩:=fO.busy o h4;refine sN rfl rfl fun c hc=>.inr ⟨_,_,?_,hr⟩
    simp only[List.mem_toArray,List.mem_cons,List.not_mem_nil,or_false] at hc;subst hc;rfl
  | .quit _,⟨_,h4,_⟩=>exact gT (gU h4)
theorem G2.woken (o:p.Ok) (h:G2 p gs W t rl tk next got) {w':World} (hn:p.J0<gs.size->∃ s,iJ w' p.cn s) (hr:p.J0<gs.size->∃ s,iJ w' p.cr s) (g g':Goroutine):gs.map (woken p.P g g' w')=gs:=by
 apply Array.ext_getElem?;intro j;rw[Array.getElem?_map];cases hx:gs[j]? with
 | none=>rfl
 | some x=>
  simp only[Option.map_some,Conc.woken];rw[h.again o hn hr hx,ite_self]
end
end Px
namespace Px
open Go Go.Conc
section
variable {p:Pl} {gs gs':Array Goroutine} {W W':World} {t t':Trace} {rl rl':List aT} {tk tk':Nat->Option Nat} {next next':Nat} {got got':List Nat}
theorem mM.mono {r:aT} {x:Goroutine} (h:mM p next got r x W) (hk:Keep p.Ro r.own W W'):mM p next got r x W':=by
 match r,h with
 | .run ..,⟨a,b,c,d,e,f⟩=>exact⟨a,b,c,d,e,f.trans hk⟩
 | .idle ..,⟨a,b,c,d⟩=>exact⟨a,b,c.trans hk,d⟩
theorem fO.mono {j:Nat} {k:Option Nat} {r:aT} {x:Goroutine} (h:fO p j k r x W t) (hk:Keep p.Ro r.own W W') (hq:j<p.J0->Deaf t' j=Deaf t j/\(HO t j->HO t' j)):fO p j k r x W' t':=by
 match r,h with
 | .run ..,⟨a,b,c,d,e,f,g⟩=>exact⟨a,b,c,d,e,f,g.trans hk⟩
 | .idle ..,⟨a,b,c,d⟩=>exact⟨a,b,c.trans hk,d⟩
 | .quit _,⟨a,b,c⟩=>exact⟨a,by rw[(hq a).1];exact b,(hq a).2 c⟩
theorem G2.upd (D:Nat->Prop) (h:G2 p gs W t rl tk next got) (len:rl'.length=gs'.size) (size:gs'.size=gs.size) (wi:WI p.Sw (p.live gs.size) p.D p.Ro rl' W' t') (lU:p.J0<gs.size->∃ s,iJ W' p.cn s) (chr:p.J0<gs.size->∃ s,iJ W' p.cr s)
  (fx:∀ b,p.Sw b->b≠p.cn->b≠p.cr->W'.heap[b]? = W.heap[b]?) (same:∀ k,¬ D k->rl'[k]? = rl[k]? /\ gs'[k]? = gs[k]? /\ tk' k=tk k) (keep:∀ k r,¬ D k->rl[k]? = some r->Keep p.Ro r.own W W')
  (quits:∀ k,¬ D k->k≠0->k<p.J0->Deaf t' k=Deaf t k/\(HO t k->HO t' k)) (main:D 0->∃ r x,rl'[0]? = some r/\gs'[0]? = some x/\mM p next' got' r x W') (main':¬ D 0->next'=next/\got'=got)
  (work:∀ k r x,D k->k≠0->rl'[k]? = some r->gs'[k]? = some x->fO p k (tk' k) r x W' t')
  (lV:∀ j i,tk' j=some i->p.J0<=j/\j<gs.size/\i<next'/\i∉got') (tk1:∀ j j' i,tk' j=some i->tk' j'=some i->j=j') (uG:∀ i,i<next'->i∈got'\/∃ j,tk' j=some i)
  (gb:∀ i,i∈got'->i<next') (gn:got'.Nodup) (nn:next'<=p.n) (wait:∀ g w O,rl'[0]? = some (.idle g w O)->∀ j g w O,j≠0->rl'[j]? = some (.idle g w O)->tk' j=none/\¬ next'<p.n):G2 p gs' W' t' rl' tk' next' got' where
 len:=len
 wi:=by rw[size];exact wi
 sw:=by rw[size];exact h.sw
 lU:=by rw[size];exact lU
 chr:=by rw[size];exact chr
 fx:=fun b h1 h2 h3=>(fx b h1 h2 h3).trans (h.fx b h1 h2 h3)
 main:=by
  by_cases hD:D 0
  ·exact main hD
  ·obtain⟨r,x,h1,h2,h3⟩:=h.main;obtain⟨rfl,rfl⟩:=main' hD;obtain⟨e1,e2,_⟩:=same 0 hD;exact⟨r,x,e1.trans h1,e2.trans h2,h3.mono (keep 0 r hD h1)⟩
 work:=fun j r x hj hr hx=>by
  by_cases hD:D j
  ·exact work j r x hD hj hr hx
  ·obtain⟨e1,e2,e3⟩:=same j hD;rw[e1] at hr;rw[e2] at hx;rw[e3];exact (h.work j r x hj hr hx).mono (keep j r hD hr) (quits j hD hj)
 lV:=fun j i hi=>by rw[size];exact lV j i hi
 tk1:=tk1
 uG:=uG
 gb:=gb
 gn:=gn
 nn:=nn
 one:=by rw[size];exact h.one
 wait:=wait
theorem gD (Ro O:Nat->Prop) (W:World) (d:Nat):Keep Ro O W (W.at d):=⟨Nat.le_refl _,fun _ _=>rfl,rfl,rfl⟩
theorem G2.at (h:G2 p gs W t rl tk next got) (d:Nat):G2 p gs (W.at d) t rl tk next got:=
 h.upd (fun _=>False) h.len rfl ⟨h.wi.ap,h.wi.ti,h.wi.deaf,h.wi.kX⟩ h.lU h.chr (fun _ _ _ _=>rfl) (fun _ _=>⟨rfl,rfl,rfl⟩) (fun _ _ _ _=>gD _ _ _ _) (fun _ _ _ _=>⟨rfl,id⟩) (fun h=>h.elim) (fun _=>⟨rfl,rfl⟩) (fun _ _ _ h=>h.elim) h.lV h.tk1 h.uG h.gb h.gn h.nn h.wait
theorem mO {j k:Nat} {fn:FuncId} {pos:String} {es:Array Event} (hne:k≠j) (t:Trace):Deaf (t++MemOp.ofEvents j fn pos es) k=Deaf t k/\(HO t k->HO (t++MemOp.ofEvents j fn pos es) k):=by
 have hg:∀ op∈MemOp.ofEvents j fn pos es,op.g=j:=ConcR.g_of_ofEvents;exact⟨Deaf_other t (Ne.symm hne) _ hg,fun h=>h.app fun op hop e=>absurd (e.symm.trans (hg op hop)) hne⟩
theorem G2.own (h:G2 p gs W t rl tk next got) {j:Nat} {m:Bool} {S:aF} {g g':Goroutine} {w w':World} {O:Nat->Prop} {es:Array Event} (fn:FuncId) (pos:String) (hj:rl[j]? = some (.run m S g w O)) (hl:p.live gs.size j) (hf:jU p.Ro O W w' es)
  (hs:g'.status = .running) (hr:Runs p.P m p.Ro S g' w' (grow O W w')):G2 p (gs.setIfInBounds j g') w' (t++MemOp.ofEvents j fn pos es) (rl.set j (.run m S g' w' (grow O W w'))) tk next got:=by
 have hlt:=(List.getElem?_eq_some_iff.1 hj).1;have eT:j<gs.size:=h.len ▸ hlt;have old:∀ b,p.Sw b->w'.heap[b]? = W.heap[b]?:=fun b hb=>hf.old b (h.wi.ap.kU b hb) fun ho=>h.wi.ap.sw j b ⟨_,hj,ho⟩ hb
 have V4:∀ c s,p.Sw c->iJ W c s->iJ w' c s:=fun c s hc ⟨tm,e⟩=>⟨tm,(old c hc).trans e⟩
 have sm:∀ k,¬ k=j->(rl.set j (.run m S g' w' (grow O W w')))[k]? = rl[k]? /\ (gs.setIfInBounds j g')[k]? = gs[k]? /\ tk k=tk k:=fun k hk=>⟨List.getElem?_set_ne (Ne.symm hk),aV (Ne.symm hk) _,rfl⟩
 have hjj:(rl.set j (.run m S g' w' (grow O W w')))[j]? = some (.run m S g' w' (grow O W w')):=List.getElem?_set_self hlt;refine h.upd (· = j) (by simp[h.len]) (by simp) (h.wi.step hj hl hf) ?_ ?_ (fun b hb _ _=>old b hb) sm (fun k r hk hr=>keep_other h.wi.ap hj hr hk hf (.refl ..)) (fun k hk _ _=>mO hk t) ?_ (fun _=>⟨rfl,rfl⟩) ?_ h.lV h.tk1 h.uG h.gb h.gn h.nn ?_
 ·intro hJ;obtain⟨s,e⟩:=h.lU hJ;exact⟨s,V4 _ _ (h.sw hJ).1 e⟩
 ·intro hJ;obtain⟨s,e⟩:=h.chr hJ;exact⟨s,V4 _ _ (h.sw hJ).2 e⟩
 ·rintro rfl;obtain⟨r,x,h1,h2,h3⟩:=h.main;rw[hj] at h1;cases h1;obtain⟨rfl,rfl,rfl,h4,h5,h6⟩:=h3;exact⟨_,_,hjj,get_set_same eT _,rfl,rfl,rfl,hs,hr,.refl ..⟩
 ·rintro k r x rfl hk e1 e2;rw[hjj] at e1;cases e1;rw[get_set_same eT] at e2;cases e2;obtain⟨x,hx⟩:∃ x,gs[k]? = some x:=⟨gs[k],by simp[eT]⟩;obtain⟨a,rfl,rfl,rfl,h4,h5,h6⟩:=h.work k _ x hk hj hx;exact⟨a,rfl,rfl,rfl,hs,hr,.refl ..⟩
 ·intro g1 w1 O1 e1 k g2 w2 O2 hk e2;by_cases hk0:0=j
  ·subst hk0;rw[hjj] at e1;cases e1
  ·by_cases hkj:k=j
   ·subst hkj;rw[hjj] at e2;cases e2
   ·rw[(sm 0 hk0).1] at e1;rw[(sm k hkj).1] at e2;exact h.wait _ _ _ e1 _ _ _ _ hk e2
end
end Px
namespace Px
open Go Go.Conc
section
variable {p:Pl} {gs gs':Array Goroutine} {W W':World} {t:Trace} {rl:List aT} {tk:Nat->Option Nat} {next:Nat} {got:List Nat}
theorem lu {rl:List aT} {j:Nat} {r r':aT} (hj:rl[j]? = some r) (h:r'.own=r.own):bD (rl.set j r')=bD rl:=by
 rw[kW (List.getElem?_eq_some_iff.1 hj).1];funext k b;apply propext;constructor
 ·rintro (⟨rfl,hb⟩|⟨_,hb⟩)
  ·exact⟨_,hj,h ▸ hb⟩
  ·exact hb
 ·intro hb;by_cases hk:k=j
  ·subst hk;obtain⟨r2,h1,h2⟩:=hb;rw[hj] at h1;cases h1;exact .inl ⟨rfl,by rw[h];exact h2⟩
  ·exact .inr ⟨hk,hb⟩
theorem WI.pass {Sw live Ro:Nat->Prop} {D:Nat->Nat} {rl rl':List aT} {u:Trace} (A:WI Sw live D Ro rl W t) (len:rl'.length=rl.length) (size:W'.heap.size=W.heap.size) (hu:∀ op∈u,op.act.touch? = none/\op.g<rl.length) (hd:∀ k,live k->Deaf (t++u) k=Deaf t k) (hnr:∀ op∈u,∀ a,op.act ≠ .mark (.release a))
  {s r:Nat} (hs:live s) (hO:∀ g b,bD rl' g b->bD rl g b\/(g=r/\bD rl s b)) (one:∀ g g' b,bD rl' g b->bD rl' g' b->g=g') (hk:∀ i,Knows t s i->Knows (t++u) r i):WI Sw live D Ro rl' W' (t++u):=by
 have bk:∀ g b,bD rl' g b->∃ g',bD rl g' b:=fun g b h=>(hO g b h).elim (fun h=>⟨_,h⟩) fun h=>⟨_,h.2⟩
 refine⟨⟨one,fun g b h=>?_,fun g b h=>?_,A.ap.lS,fun g b h=>?_,fun b h=>?_,fun b h=>?_⟩,?_,fun k hk=>(hd k hk).trans (A.deaf k hk),kY A.kX fun op hop=>.none (hnr op hop) (hu op hop).1⟩
 ·obtain⟨g',h'⟩:=bk g b h;exact A.ap.ro _ _ h'
 ·obtain⟨g',h'⟩:=bk g b h;exact A.ap.sw _ _ h'
 ·obtain⟨g',h'⟩:=bk g b h;rw[size];exact A.ap.lt _ _ h'
 ·rw[size];exact A.ap.pF _ h
 ·rw[size];exact A.ap.kU _ h
 ·rw[size,len];refine A.ti.still (Nat.le_refl _) hu (fun g b hl h=>?_) fun g hl=>⟨g,hl,fun i h=>h.app u⟩
  rcases hO g b h with h | ⟨rfl,h⟩
  ·exact⟨g,hl,h,fun i h=>h.app u⟩
  ·exact⟨s,hs,h,hk⟩
theorem G2.leave (h:G2 p gs W t rl tk next got) {j q:Nat} {x:Goroutine} (hj:rl[j]? = some (.quit q)) (hx:gs[j]? = some x) (hr:x.status = .running):∃ g' es q',q=q'+1/\(∀ w,stepG p.P false x w = .go g' w es) /\
  ∀ fn pos,G2 p (gs.setIfInBounds j g') W (t++MemOp.ofEvents j fn pos es) (rl.set j (.quit q')) tk next got:=by
 have hlt:=(List.getElem?_eq_some_iff.1 hj).1;have eT:j<gs.size:=h.len ▸ hlt;have hj0:j≠0:=by
  rintro rfl;obtain⟨r,x,h1,_,h3⟩:=h.main;rw[hj] at h1;cases h1;exact h3
 obtain⟨hJ,hq,ho⟩:=h.work j _ x hj0 hj hx;cases q with
 | zero=>rw[hq.1] at hr;cases hr
 | succ q=>
  rcases hq with⟨h1,_⟩|⟨_,g',es,hm,hs,hq⟩
  ·rw[h1] at hr;cases hr
  ·refine⟨g',es,q,rfl,hs,fun fn pos=>?_⟩;have ops:∀ op∈MemOp.ofEvents j fn pos es,op.act.touch? = none/\op.g<rl.length:=by
    intro op hop;refine⟨?_,by rw[ConcR.g_of_ofEvents op hop];exact hlt⟩;unfold MemOp.ofEvents at hop;split at hop
    ·simp at hop
    ·obtain⟨e,he,rfl⟩:=Array.mem_map.1 hop;have:=hm e he;unfold Event.mute at this;split at this<;>first | rfl | cases this
   have Y2:∀ op∈MemOp.ofEvents j fn pos es,∀ a,op.act ≠ .mark (.release a):=by
    intro op hop a;unfold MemOp.ofEvents at hop;split at hop
    ·simp at hop
    ·obtain⟨e,he,rfl⟩:=Array.mem_map.1 hop;have:=hm e he;unfold Event.mute at this;split at this<;>first | exact fun h=>by cases h | cases this
   have sm:∀ k,¬ k=j->(rl.set j (.quit q))[k]? = rl[k]? /\ (gs.setIfInBounds j g')[k]? = gs[k]? /\ tk k=tk k:=fun k hk=>⟨List.getElem?_set_ne (Ne.symm hk),aV (Ne.symm hk) _,rfl⟩
   have nl:∀ k,p.live gs.size k->k≠j:=by
    rintro k (rfl | hk) rfl
    ·exact hj0 rfl
    ·omega
   have hjj:(rl.set j (.quit q))[j]? = some (.quit q):=List.getElem?_set_self hlt;refine h.upd (· = j) (by simp[h.len]) (by simp) ?_ h.lU h.chr (fun b hb _ _=>rfl) sm (fun k r hk hr=>.refl ..) (fun k hk _ _=>mO hk t) (fun e=>absurd e.symm hj0) (fun _=>⟨rfl,rfl⟩) ?_ h.lV h.tk1 h.uG h.gb h.gn h.nn ?_
   ·have e:bD (rl.set j (.quit q))=bD rl:=lu hj rfl;refine h.wi.pass (by simp) rfl ops (fun k hk=>(mO (nl k hk) t).1) Y2 (s:=0) (r:=0) (.inl rfl) (fun g b h=>.inl (by rw[<-e];exact h)) (by rw[e];exact h.wi.ap.own) fun i h=>h.app _
   ·rintro k r x' rfl hk e1 e2;rw[hjj] at e1;cases e1;rw[get_set_same eT] at e2;cases e2;refine⟨hJ,?_,ho.app fun op hop _=>(ops op hop).1⟩;rw[Deaf_own];exact hq
   ·intro g1 w1 O1 e1 k g2 w2 O2 hk e2;rw[(sm 0 (Ne.symm hj0)).1] at e1;by_cases hkj:k=j
    ·subst hkj;rw[hjj] at e2;cases e2
    ·rw[(sm k hkj).1] at e2;exact h.wait _ _ _ e1 _ _ _ _ hk e2
theorem uH (t:Trace) {s r c m:Nat} {x y:FuncId} {px py:String} (k:Nat):Deaf (t++hand s r c m x y px py) k=Deaf t k:=by
 refine ConcN.Deaf_still t k _ fun op hop=>?_
 simp only[hand,List.mem_toArray,List.mem_cons,List.not_mem_nil,or_false] at hop;rcases hop with rfl | rfl | rfl | rfl<;>exact⟨(fun h=>by cases h),(fun h=>by cases h)⟩
theorem FH {t:Trace} {s r c m:Nat} {x y:FuncId} {px py:String} {k:Nat} (h:HO t k):HO (t++hand s r c m x y px py) k:=
 h.app fun op hop _=>by
  simp only[hand,List.mem_toArray,List.mem_cons,List.not_mem_nil,or_false] at hop;rcases hop with rfl | rfl | rfl | rfl<;>rfl
theorem G2.kV (h:G2 p gs W t rl tk next got) {j:Nat} {m:Bool} {S:aF} {g x':Goroutine} {w:World} {O:Nat->Prop} (hj:rl[j]? = some (.run m S g w O)) (hst:∀ w₁,Keep p.Ro O w w₁->S g w₁ O) (hpk:Pk p.P m g W x') (hm:m=(j==0))
  (h0:j=0->got.length<p.n/\∀ k g w O,k≠0->rl[k]? = some (.idle g w O)->tk k=none/\¬ next<p.n) (h1:j≠0->(∃ g w O,rl[0]? = some (.idle g w O))->tk j=none/\¬ next<p.n) :
  G2 p (gs.setIfInBounds j x') W t (rl.set j (.idle g W O)) tk next got:=by
 have hlt:=(List.getElem?_eq_some_iff.1 hj).1;have eT:j<gs.size:=h.len ▸ hlt;obtain⟨x,hx⟩:∃ x,gs[j]? = some x:=⟨gs[j],by simp[eT]⟩;have sm:∀ k,¬ k=j->(rl.set j (.idle g W O))[k]? = rl[k]? /\ (gs.setIfInBounds j x')[k]? = gs[k]? /\ tk k=tk k:=fun k hk=>⟨List.getElem?_set_ne (Ne.symm hk),aV (Ne.symm hk) _,rfl⟩
 have hjj:(rl.set j (.idle g W O))[j]? = some (.idle g W O):=List.getElem?_set_self hlt;have e:bD (rl.set j (.idle g W O))=bD rl:=lu hj rfl;refine h.upd (· = j) (by simp[h.len]) (by simp) ⟨by rw[e];exact h.wi.ap,by rw[e,List.length_set];exact h.wi.ti,h.wi.deaf,h.wi.kX⟩ h.lU h.chr (fun b hb _ _=>rfl) sm (fun k r hk hr=>.refl ..) (fun k hk _ _=>⟨rfl,id⟩) ?_ (fun _=>⟨rfl,rfl⟩) ?_ h.lV h.tk1 h.uG h.gb h.gn h.nn ?_
 ·rintro rfl;obtain⟨r,x,h2,h3,h4⟩:=h.main;rw[hj] at h2;cases h2;obtain⟨rfl,rfl,rfl,h5,h6,h7⟩:=h4;exact⟨_,_,hjj,get_set_same eT _,(h0 rfl).1,hpk,.refl ..,fun w₁ hk=>hst w₁ (h7.trans hk)⟩
 ·rintro k r x2 rfl hk e1 e2;rw[hjj] at e1;cases e1;rw[get_set_same eT] at e2;cases e2;obtain⟨a,rfl,rfl,rfl,h4,h5,h6⟩:=h.work k _ x hk hj hx;exact⟨a,hpk,.refl ..,fun w₁ hk=>hst w₁ (h6.trans hk)⟩
 ·intro g1 w1 O1 e1 k g2 w2 O2 hk e2;by_cases hk0:0=j
  ·subst hk0;rw[(sm k hk).1] at e2;exact (h0 rfl).2 _ _ _ _ hk e2
  ·by_cases hkj:k=j
   ·subst hkj;rw[(sm 0 hk0).1] at e1;exact h1 hk ⟨_,_,_,e1⟩
   ·rw[(sm 0 hk0).1] at e1;rw[(sm k hkj).1] at e2;exact h.wait _ _ _ e1 _ _ _ _ hk e2
end
end Px
namespace Px
open Go Go.Conc
section
variable {p:Pl} {gs gs':Array Goroutine} {W W':World} {t:Trace} {rl:List aT} {tk:Nat->Option Nat} {next:Nat} {got:List Nat}
theorem JV {s r c m:Nat} {x y:FuncId} {px py:String}:∀ op∈hand s r c m x y px py,∀ a,op.act ≠ .mark (.release a):=by
 intro op hop a;simp only[hand,List.mem_toArray,List.mem_cons,List.not_mem_nil,or_false] at hop;rcases hop with rfl | rfl | rfl | rfl<;>exact fun h=>by cases h
theorem G2.both (h:G2 p gs W t rl tk next got) {j:Nat} {r0 rj a b:aT} (hj:j≠0) (hr0:rl[0]? = some r0) (kJ:rl[j]? = some rj) (hl:p.J0<=j) {s r c m:Nat} {fx fy:FuncId} {px py:String} (hsr:(s=0/\r=j)\/(s=j/\r=0))
  (hW:W'.heap.size=W.heap.size) {rs:aT} (hrs:rl[s]? = some rs) (Y3:∀ b',a.own b'->r0.own b'\/(r=0/\rs.own b')) (Y4:∀ b',b.own b'->rj.own b'\/(r=j/\rs.own b')) (hd:∀ b',a.own b'->¬ b.own b') (hm0:p.dm=0) :
  WI p.Sw (p.live gs.size) p.D p.Ro ((rl.set 0 a).set j b) W' (t++hand s r c m fx fy px py):=by
 have l0:=(List.getElem?_eq_some_iff.1 hr0).1;have lj:=(List.getElem?_eq_some_iff.1 kJ).1;have e:∀ k b',bD ((rl.set 0 a).set j b) k b'↔(k=j/\b.own b')\/(k=0/\a.own b')\/(k≠j/\k≠0/\bD rl k b'):=by
  intro k b';rw[kW (by simpa using lj),kW l0];constructor
  ·rintro (⟨h1,h2⟩|⟨h1,⟨h2,h3⟩|⟨h2,h3⟩⟩)
   ·exact .inl ⟨h1,h2⟩
   ·exact .inr (.inl ⟨h2,h3⟩)
   ·exact .inr (.inr ⟨h1,h2,h3⟩)
  ·rintro (⟨h1,h2⟩|⟨h2,h3⟩|⟨h1,h2,h3⟩)
   ·exact .inl ⟨h1,h2⟩
   ·exact .inr ⟨by omega,.inl ⟨h2,h3⟩⟩
   ·exact .inr ⟨h1,.inr ⟨h2,h3⟩⟩
 have ls:p.live gs.size s:=by rcases hsr with⟨rfl,_⟩|⟨rfl,_⟩;exact .inl rfl;exact .inr ⟨hl,h.len ▸ lj⟩
 have lr:p.live gs.size r:=by rcases hsr with⟨_,rfl⟩|⟨_,rfl⟩;exact .inr ⟨hl,h.len ▸ lj⟩;exact .inl rfl
 have hD:∀ k,p.D k=0:=fun k=>by unfold Pl.D;split;exact hm0;rfl
 have hs0:=(h.wi.deaf s ls).trans (hD s);have Xw:=(h.wi.deaf r lr).trans (hD r);have O0:∀ b',a.own b'->bD rl 0 b'\/(0=r/\bD rl s b'):=fun b' hb=>(Y3 b' hb).imp (fun h=>⟨_,hr0,h⟩) fun h=>⟨h.1.symm,_,hrs,h.2⟩
 have Oj:∀ b',b.own b'->bD rl j b'\/(j=r/\bD rl s b'):=fun b' hb=>(Y4 b' hb).imp (fun h=>⟨_,kJ,h⟩) fun h=>⟨h.1.symm,_,hrs,h.2⟩
 have two:∀ b',(a.own b'\/b.own b')->bD rl 0 b'\/bD rl j b':=by
  intro b' hb;have:bD rl s b'->bD rl 0 b'\/bD rl j b':=by rcases hsr with⟨rfl,_⟩|⟨rfl,_⟩;exact .inl;exact .inr
  rcases hb with hb | hb
  ·exact (O0 b' hb).elim .inl fun h=>this h.2
  ·exact (Oj b' hb).elim .inr fun h=>this h.2
 have out:∀ k b',k≠j->k≠0->bD rl k b'->¬ (a.own b'\/b.own b'):=fun k b' h1 h2 h3 hb=>(two b' hb).elim (fun h4=>h2 (h.wi.ap.own _ _ _ h3 h4)) fun h4=>h1 (h.wi.ap.own _ _ _ h3 h4)
 refine h.wi.pass (by simp) hW (GL ?_ ?_) (fun k _=>uH t k) JV ls (r:=r) (fun k b' hk=>?_) (fun k k' b' h1 h2=>?_) (GK hs0 Xw).1
 ·rcases hsr with⟨rfl,_⟩|⟨rfl,_⟩<;>assumption
 ·rcases hsr with⟨_,rfl⟩|⟨_,rfl⟩<;>assumption
 ·rcases (e k b').1 hk with⟨rfl,hb⟩|⟨rfl,hb⟩|⟨_,_,hb⟩
  ·exact Oj b' hb
  ·exact O0 b' hb
  ·exact .inl hb
 ·rcases (e k b').1 h1 with⟨rfl,hb⟩|⟨rfl,hb⟩|⟨n1,n2,hb⟩<;>rcases (e k' b').1 h2 with⟨rfl,hb'⟩|⟨rfl,hb'⟩|⟨n1',V5,hb'⟩
  ·rfl
  ·exact absurd hb (hd b' hb')
  ·exact absurd (.inr hb) (out _ _ n1' V5 hb')
  ·exact absurd hb' (hd b' hb)
  ·rfl
  ·exact absurd (.inl hb) (out _ _ n1' V5 hb')
  ·exact absurd (.inr hb') (out _ _ n1 n2 hb)
  ·exact absurd (.inl hb') (out _ _ n1 n2 hb)
  ·exact h.wi.ap.own _ _ _ hb hb'
theorem yP {α:Type _} {l:List α} {j:Nat} {a b:α} (hj:j≠0) (h0:0<l.length):((l.set 0 a).set j b)[0]? = some a:=by
 rw[List.getElem?_set_ne hj,List.getElem?_set_self h0]
theorem JW {α:Type _} {l:List α} {j:Nat} {a b:α} (h:j<l.length):((l.set 0 a).set j b)[j]? = some b:=List.getElem?_set_self (by simpa using h)
theorem JX {α:Type _} {l:List α} {j k:Nat} {a b:α} (hj:k≠j) (h0:k≠0):((l.set 0 a).set j b)[k]? = l[k]?:=by
 rw[List.getElem?_set_ne (Ne.symm hj),List.getElem?_set_ne (Ne.symm h0)]
theorem G2.number (o:p.Ok) (h:G2 p gs W t rl tk next got) {j:Nat} {r0 rj:aT} {x y:Goroutine} (hj:j≠0) (hr0:rl[0]? = some r0) (kJ:rl[j]? = some rj) (hl:p.J0<=j) (ht:tk j=none) (hn:next<p.n) {s d m:Nat} {fx fy:FuncId} {px py:String}
  (hs:gs'.size=gs.size) (hx:gs'[0]? = some x) (hy:gs'[j]? = some y) (hg:∀ k,k≠0->k≠j->gs'[k]? = gs[k]?) (xr:x.status = .running) (yr:y.status = .running)
  (rx:Runs p.P true p.Ro (p.dS (next+1) got) x (sent (W.at d) p.cn s) r0.own) (ry:Runs p.P false p.Ro (p.lT next) y (sent (W.at d) p.cn s) rj.own) :
  G2 p gs' (sent (W.at d) p.cn s) (t++hand 0 j p.cn m fx fy px py) ((rl.set 0 (.run true (p.dS (next+1) got) x (sent (W.at d) p.cn s) r0.own)).set j (.run false (p.lT next) y (sent (W.at d) p.cn s) rj.own)) (fun k=>if k=j then some next else tk k) (next+1) got:=by
 have l0:=(List.getElem?_eq_some_iff.1 hr0).1;have lj:=(List.getElem?_eq_some_iff.1 kJ).1;have nr:∀ c,p.Sw c->¬ p.Ro c:=fun c hc hr=>h.wi.ap.lS c hr hc
 have no:∀ (c k:Nat) (r:aT),p.Sw c->rl[k]? = some r->¬ r.own c:=fun c k r hc hk ho=>h.wi.ap.sw k c ⟨r,hk,ho⟩ hc
 have hJ:=Nat.lt_of_le_of_lt hl (h.len ▸ lj);obtain⟨qm,oh⟩:=h.sw hJ;obtain⟨s1,c1⟩:=h.lU hJ;obtain⟨s2,c2⟩:=h.chr hJ;have nt:∀ k,k≠j->(if k=j then some next else tk k)=tk k:=fun k hk=>if_neg hk
 refine h.upd (fun k=>k=0\/k=j) (by simp[h.len,hs]) hs (h.both hj hr0 kJ hl (.inl ⟨rfl,rfl⟩) Bc hr0 (fun b hb=>.inl hb) (fun b hb=>.inl hb) (fun b h1 h2=>hj (h.wi.ap.own j 0 b ⟨_,kJ,h2⟩ ⟨_,hr0,h1⟩)) (o.dm (Nat.lt_of_le_of_lt (Nat.zero_le _) hn))) (fun _=>sO c1) (fun _=>sO c2) (fun b _ hb _=>?_) (fun k hk=>?_)
  (fun k r _ hk=>fG (.refl ..) (nr _ qm) (no _ _ _ qm hk)) (fun k _ _ _=>⟨uH t k,FH⟩) (fun _=>⟨_,_,yP hj l0,hx,rfl,rfl,rfl,xr,rx,.refl ..⟩) (fun hk=>absurd (.inl rfl) hk) ?_ ?_ ?_ ?_ (fun i hi=>Nat.lt_succ_of_lt (h.gb i hi)) h.gn hn ?_
 ·show (W.heap.modify p.cn _)[b]? = _;rw[Array.getElem?_modify,if_neg (Ne.symm hb)]
 ·have h1:k≠0:=fun e=>hk (.inl e)
  have h2:k≠j:=fun e=>hk (.inr e)
  exact⟨JX h2 h1,hg k h1 h2,nt k h2⟩
 ·rintro k r z (rfl | rfl) hk e1 e2
  ·exact absurd rfl hk
  ·rw[JW lj] at e1;cases e1;rw[hy] at e2;cases e2;simp only[if_true];exact⟨hl,rfl,rfl,rfl,yr,ry,.refl ..⟩
 ·intro k i hi;by_cases hk:k=j
  ·subst hk;simp only[if_true,Option.some.injEq] at hi;subst hi;refine⟨hl,by rw[<-h.len];exact lj,Nat.lt_succ_self _,fun hm=>?_⟩;have:=h.gb _ hm;omega
  ·rw[nt k hk] at hi;obtain⟨a,b,c,d⟩:=h.lV k i hi;exact⟨a,b,Nat.lt_succ_of_lt c,d⟩
 ·intro k k' i h1 h2;by_cases hk:k=j<;>by_cases hk':k'=j
  ·rw[hk,hk']
  ·subst hk;simp only[if_true,Option.some.injEq] at h1;rw[nt k' hk'] at h2;have:=(h.lV k' i h2).2.2.1;omega
  ·subst hk';simp only[if_true,Option.some.injEq] at h2;rw[nt k hk] at h1;have:=(h.lV k i h1).2.2.1;omega
  ·rw[nt k hk] at h1;rw[nt k' hk'] at h2;exact h.tk1 _ _ _ h1 h2
 ·intro i hi;by_cases hin:i=next
  ·subst hin;exact .inr ⟨j,if_pos rfl⟩
  ·rcases h.uG i (by omega) with h1 | ⟨k,h1⟩
   ·exact .inl h1
   ·refine .inr ⟨k,?_⟩;rw[nt k (by rintro rfl;rw[ht] at h1;cases h1)];exact h1
 ·intro g1 w1 O1 e1;rw[yP hj l0] at e1;cases e1
theorem G2.result (o:p.Ok) (h:G2 p gs W t rl tk next got) {j i:Nat} {r0 rj:aT} {x y:Goroutine} (hj:j≠0) (hr0:rl[0]? = some r0) (kJ:rl[j]? = some rj) (hl:p.J0<=j) (ht:tk j=some i) {s d m:Nat} {fx fy:FuncId} {px py:String}
  (hs:gs'.size=gs.size) (hx:gs'[0]? = some x) (hy:gs'[j]? = some y) (hg:∀ k,k≠0->k≠j->gs'[k]? = gs[k]?) (xr:x.status = .running) (yr:y.status = .running)
  (rx:Runs p.P true p.Ro (p.dS next (i::got)) x (sent (W.at d) p.cr s) fun b=>r0.own b\/rj.own b) (ry:Runs p.P false p.Ro p.AtR y (sent (W.at d) p.cr s) fun _=>False) :
  G2 p gs' (sent (W.at d) p.cr s) (t++hand j 0 p.cr m fx fy px py) ((rl.set 0 (.run true (p.dS next (i::got)) x (sent (W.at d) p.cr s) fun b=>r0.own b\/rj.own b)).set j (.run false p.AtR y (sent (W.at d) p.cr s) fun _=>False)) (fun k=>if k=j then none else tk k) next (i::got):=by
 have l0:=(List.getElem?_eq_some_iff.1 hr0).1;have lj:=(List.getElem?_eq_some_iff.1 kJ).1;have nr:∀ c,p.Sw c->¬ p.Ro c:=fun c hc hr=>h.wi.ap.lS c hr hc
 have no:∀ (c k:Nat) (r:aT),p.Sw c->rl[k]? = some r->¬ r.own c:=fun c k r hc hk ho=>h.wi.ap.sw k c ⟨r,hk,ho⟩ hc
 have hJ:=Nat.lt_of_le_of_lt hl (h.len ▸ lj);obtain⟨qm,oh⟩:=h.sw hJ;obtain⟨s1,c1⟩:=h.lU hJ;obtain⟨s2,c2⟩:=h.chr hJ;obtain⟨_,_,hi,Y6⟩:=h.lV j i ht;have nt:∀ k,k≠j->(if k=j then none else tk k)=tk k:=fun k hk=>if_neg hk
 have nn:∀ k i',(if k=j then none else tk k)=some i'->k≠j/\tk k=some i':=by
  intro k i' h1;by_cases hk:k=j
  ·rw[if_pos hk] at h1;cases h1
  ·rw[nt k hk] at h1;exact⟨hk,h1⟩
 refine h.upd (fun k=>k=0\/k=j) (by simp[h.len,hs]) hs (h.both hj hr0 kJ hl (.inr ⟨rfl,rfl⟩) Bc kJ (fun b hb=>hb.imp id fun h=>⟨rfl,h⟩) (fun b hb=>hb.elim) (fun b _ h2=>h2) (o.dm (Nat.lt_of_lt_of_le (Nat.lt_of_le_of_lt (Nat.zero_le _) hi) h.nn))) (fun _=>sO c1) (fun _=>sO c2) (fun b _ _ hb=>?_) (fun k hk=>?_)
  (fun k r _ hk=>fG (.refl ..) (nr _ oh) (no _ _ _ oh hk)) (fun k _ _ _=>⟨uH t k,FH⟩) (fun _=>⟨_,_,yP hj l0,hx,rfl,rfl,rfl,xr,rx,.refl ..⟩) (fun hk=>absurd (.inl rfl) hk) ?_ ?_ ?_ ?_ ?_ ?_ h.nn ?_
 ·show (W.heap.modify p.cr _)[b]? = _;rw[Array.getElem?_modify,if_neg (Ne.symm hb)]
 ·have h1:k≠0:=fun e=>hk (.inl e)
  have h2:k≠j:=fun e=>hk (.inr e)
  exact⟨JX h2 h1,hg k h1 h2,nt k h2⟩
 ·rintro k r z (rfl | rfl) hk e1 e2
  ·exact absurd rfl hk
  ·rw[JW lj] at e1;cases e1;rw[hy] at e2;cases e2;simp only[if_true];exact⟨hl,rfl,rfl,rfl,yr,ry,.refl ..⟩
 ·intro k i' h1;obtain⟨hk,h1⟩:=nn k i' h1;obtain⟨a,b,c,d⟩:=h.lV k i' h1;refine⟨a,b,c,fun hm=>?_⟩;rcases List.mem_cons.1 hm with rfl | hm
  ·exact hk (h.tk1 _ _ _ h1 ht)
  ·exact d hm
 ·intro k k' i' h1 h2;exact h.tk1 _ _ _ (nn _ _ h1).2 (nn _ _ h2).2
 ·intro i' hi';rcases h.uG i' hi' with h1 | ⟨k,h1⟩
  ·exact .inl (List.mem_cons_of_mem _ h1)
  ·by_cases hk:k=j
   ·subst hk;rw[ht] at h1;cases h1;exact .inl (List.mem_cons_self ..)
   ·exact .inr ⟨k,(nt k hk).trans h1⟩
 ·intro i' hm;rcases List.mem_cons.1 hm with rfl | hm
  ·exact hi
  ·exact h.gb _ hm
 ·exact List.nodup_cons.2 ⟨Y6,h.gn⟩
 ·intro g1 w1 O1 e1;rw[yP hj l0] at e1;cases e1
end
end Px
namespace Px
open Go Go.Conc
def Fin (P:Program) (Q:Machine->Outcome->World->Trace->Prop) (m:Machine) (t:Trace):Prop:=∃ N last o w' t',runNT P (N+1) m t=(.ended o w',t')/\runN P N m = .next last/\step P last = .ended o w'/\Q last o w' t'
theorem ML {P:Program} {Q:Machine->Outcome->World->Trace->Prop} {m m':Machine} {t u:Trace} (h:stepT P m=(.next m',u)) (hf:Fin P Q m' (t++u)):Fin P Q m t:=by
 obtain⟨N,last,o,w',t',h1,h2,h3,h4⟩:=hf;refine⟨N+1,last,o,w',t',?_,?_,h3,h4⟩
 ·show (match stepT P m with | (.next m,ops)=>runNT P (N+1) m (t++ops) | (s,ops)=>(s,t++ops))=_;rw[h];exact h1
 ·show (match step P m with | .next m=>runN P N m | s=>s)=_;rw[show step P m = .next m' from congrArg Prod.fst h];exact h2
theorem MN {P:Program} {Q:Machine->Outcome->World->Trace->Prop} {m:Machine} {t u:Trace} {o:Outcome} {w':World} (h:stepT P m=(.ended o w',u)) (hq:Q m o w' (t++u)):Fin P Q m t:=
 ⟨0,m,o,w',t++u,by show (match stepT P m with | (.next m,ops)=>runNT P 0 m (t++ops) | (s,ops)=>(s,t++ops))=_;rw[h],rfl,congrArg Prod.fst h,hq⟩
def dM (P:Program) (Q:Machine->Outcome->World->Trace->Prop) (gs:Array Goroutine) (w:World) (t:Trace):Prop:=∀ sl,Fin P Q (crowd gs w sl) t
def eU (P:Program) (Q:Machine->Outcome->World->Trace->Prop) (gs:Array Goroutine) (w:World) (t:Trace) (i d:Nat) (sl:Option (Nat×Nat)):Prop:=(∃ gs' w' u,runT P (crowd gs (w.at d) sl) i=(.next (crowd gs' w' sl),u)/\dM P Q gs' w' (t++u)) \/
 ∃ o w' u,runT P (crowd gs (w.at d) sl) i=(.ended o w',u)/\∀ sl',Q (crowd gs w sl') o w' (t++u)
theorem zX {P:Program} {Q:Machine->Outcome->World->Trace->Prop} {gs:Array Goroutine} {w:World} {t:Trace} (aw:∀ g,g∈gs->awake g) (run:∃ (i:Nat) (g:Goroutine),gs[i]? = some g/\g.status = .running)
  (H:∀ (i:Nat) (g:Goroutine) (d:Nat) (sl:Option (Nat×Nat)),gs[i]? = some g->g.status = .running->eU P Q gs w t i d sl):dM P Q gs w t:=by
 intro sl;obtain⟨i,g,d,sl',h1,h2,h3⟩:=crowd_pick (P:=P) (w:=w) (sl:=sl) aw run;rcases H i g d sl' h1 h2 with⟨gs',w',u,h4,h5⟩|⟨o,w',u,h4,h5⟩
 ·exact ML (h3.trans h4) (h5 sl')
 ·exact MN (h3.trans h4) (h5 sl)
section
variable {p:Pl} {gs gs':Array Goroutine} {W W':World} {t:Trace} {rl:List aT} {tk:Nat->Option Nat} {next:Nat} {got:List Nat}
theorem oG {i hh hk r:Nat} {send:Bool} (hi:i<gs.size) (h:(hh,hk)∈partners (gs.setIfInBounds i ph) r send):hh≠i/\∃ g cs sh c,gs[hh]? = some g/\g.status = .blocked/\g.offers=some (cs,sh)/\cs[hk]? = some c/\c.send.isSome=send/\c.chan = .chan (some r):=by
 obtain⟨g,cs,sh,c,h1,h2,h3,h4,h5,h6⟩:=mem_partners.1 h;have hne:hh≠i:=by
  rintro rfl;rw[get_set_same hi] at h1;cases h1;cases h2
 exact⟨hne,g,cs,sh,c,by rwa [aV (Ne.symm hne)] at h1,h2,h3,h4,h5,h6⟩
theorem oH {i hh hk r:Nat} {send:Bool} {g:Goroutine} {cs:Array CommCase} {sh:CommShape} {c:CommCase} (hne:hh≠i) (h1:gs[hh]? = some g) (h2:g.status = .blocked) (h3:g.offers=some (cs,sh)) (h4:cs[hk]? = some c) (h5:c.send.isSome=send) (h6:c.chan = .chan (some r)) :
  (hh,hk)∈partners (gs.setIfInBounds i ph) r send:=mem_partners.2 ⟨g,cs,sh,c,by rw[aV (Ne.symm hne)];exact h1,h2,h3,h4,h5,h6⟩
theorem yQ {i hh hk:Nat} {g:Goroutine} {cs:Array CommCase} {sh:CommShape} {c:CommCase} {v:Value} (hne:hh≠i) (h1:gs[hh]? = some g) (h3:g.offers=some (cs,sh)) (h4:cs[hk]? = some c) (h5:c.send=some v):offeredValue (gs.setIfInBounds i ph) hh hk=v:=by
 unfold offeredValue;rw[aV (Ne.symm hne),h1];simp[h3,h4,h5]
theorem G2.who (h:G2 p gs W t rl tk next got) {k:Nat} {g:Goroutine} (hg:gs[k]? = some g) (hs:g.status = .blocked):∃ g0 w0 O,rl[k]? = some (.idle g0 w0 O)/\(k=0->mM p next got (.idle g0 w0 O) g W)/\(k≠0->fO p k (tk k) (.idle g0 w0 O) g W t):=by
 by_cases hk:k=0
 ·subst hk;obtain⟨r,x,h1,h2,h3⟩:=h.main;rw[hg] at h2;cases h2;match r,h3 with
  | .run ..,⟨_,_,_,h4,_⟩=>rw[hs] at h4;cases h4
  | .idle g0 w0 O,h4=>exact⟨_,_,_,h1,fun _=>h4,fun h=>absurd rfl h⟩
 ·obtain⟨hlt,_⟩:=Array.getElem?_eq_some_iff.1 hg;obtain⟨r,hr'⟩:∃ r,rl[k]? = some r:=⟨rl[k]'(by rw[h.len];exact hlt),by simp⟩;have h3:=h.work k r g hk hr' hg;match r,h3 with
  | .run ..,⟨_,_,_,_,h4,_⟩=>rw[hs] at h4;cases h4
  | .idle g0 w0 O,h4=>exact⟨_,_,_,hr',fun h=>absurd h hk,fun _=>h4⟩
  | .quit _,⟨_,h4,_⟩=>rcases gU h4 with h | h<;>(rw[hs] at h;cases h)
theorem G2.MO (h:G2 p gs W t rl tk next got):Acc (LL (Bb p.P p.Ro)) rl:=by
 refine xM fun r hr=>?_
 obtain⟨j,hj⟩:=List.mem_iff_getElem?.1 hr;have hlt:=(List.getElem?_eq_some_iff.1 hj).1;by_cases hj0:j=0
 ·subst hj0;obtain⟨r',x,h1,h2,h3⟩:=h.main;rw[hj] at h1;cases h1;match r,h3 with
  | .run ..,⟨h1,_,_,_,h4,_⟩=>subst h1;exact h4.acc
  | .idle ..,_=>exact pG
 ·obtain⟨x,hx⟩:∃ x,gs[j]? = some x:=⟨gs[j]'(by rw[<-h.len];exact hlt),by simp⟩;have h3:=h.work j r x hj0 hj hx;match r,h3 with
  | .run ..,⟨_,h1,_,_,_,h4,_⟩=>subst h1;exact h4.acc
  | .idle ..,_=>exact pG
  | .quit _,_=>exact C8 _
theorem G2.awake (h:G2 p gs W t rl tk next got):∀ g,g∈gs->awake g:=by
 intro g hg k e;obtain⟨j,hj⟩:=Array.mem_iff_getElem?.1 hg;have hlt:=(Array.getElem?_eq_some_iff.1 hj).1;by_cases hj0:j=0
 ·subst hj0;obtain⟨r',x,h1,h2,h3⟩:=h.main;rw[hj] at h2;cases h2;match r',h3 with
  | .run ..,⟨_,_,_,h4,_⟩=>rw[e] at h4;cases h4
  | .idle ..,⟨_,⟨_,_,_,_,h4⟩,_⟩=>rw[h4] at e;cases e
 ·obtain⟨r,hr⟩:∃ r,rl[j]? = some r:=⟨rl[j]'(by rw[h.len];exact hlt),by simp⟩;have h3:=h.work j r g hj0 hr hj;match r,h3 with
  | .run ..,⟨_,_,_,_,h4,_⟩=>rw[e] at h4;cases h4
  | .idle ..,⟨_,⟨_,_,_,_,h4⟩,_⟩=>rw[h4] at e;cases e
  | .quit _,⟨_,h4,_⟩=>rcases gU h4 with h | h<;>(rw[e] at h;cases h)
theorem G2.runs (o:p.Ok) (h:G2 p gs W t rl tk next got) (hg:got.length<p.n):∃ (i:Nat) (g:Goroutine),gs[i]? = some g/\g.status = .running:=by
 obtain⟨r,x,h1,h2,h3⟩:=h.main;match r,h3 with
 | .run ..,⟨_,_,_,h4,_⟩=>exact⟨0,x,h2,h4⟩
 | .idle g0 w0 O,_=>
  have hw:=h.wait _ _ _ h1;have key:∀ j,p.J0<=j->j<gs.size->0≠j->(tk j≠none\/next<p.n)->∃ (i:Nat) (g:Goroutine),gs[i]? = some g/\g.status = .running:=by
   intro j hJ hj hj0 ht;obtain⟨r,hr⟩:∃ r,rl[j]? = some r:=⟨rl[j]'(by rw[h.len];exact hj),by simp⟩;obtain⟨y,hy⟩:∃ y,gs[j]? = some y:=⟨gs[j],by simp[hj]⟩;have h3:=h.work j r y (Ne.symm hj0) hr hy;match r,h3 with
   | .run ..,⟨_,_,_,_,h4,_⟩=>exact⟨j,y,hy,h4⟩
   | .idle ..,_=>
    obtain⟨e1,e2⟩:=hw j _ _ _ (Ne.symm hj0) hr;exact ht.elim (fun h=>absurd e1 h) fun h=>absurd h e2
   | .quit _,⟨h4,_⟩=>omega
  by_cases hnn:next<p.n
  ·exact key p.J0 (Nat.le_refl _) (h.one (Nat.lt_of_le_of_lt (Nat.zero_le _) hg)) (by have:=o.j0;omega) (.inr hnn)
  ·have:∃ i,i<next/\i∉got:=by
    apply Classical.byContradiction;intro hno;have:=(List.nodup_range (n:=next)).length_le_of_subset (l₂:=got) fun i hi=>Classical.byContradiction fun hm=>hno ⟨i,List.mem_range.1 hi,hm⟩
    rw[List.length_range] at this;omega
   obtain⟨i,hi,hm⟩:=this;obtain⟨j,hj⟩:=(h.uG i hi).resolve_left hm;obtain⟨a,b,_⟩:=h.lV j i hj;exact key j a b (by have:=o.j0;omega) (.inl (by rw[hj];exact fun h=>by cases h))
theorem jv {α:Type _} {a x:α} {k:Nat} (h:#[a][k]? = some x):k=0/\x=a:=by
 match k with
 | 0=>exact⟨rfl,by simpa using h.symm⟩
 | k+1=>simp at h
theorem GX {k:Nat} {c:CommCase} (h:(p.cM next)[k]? = some c):(k=0/\c=⟨.chan (if next<p.n then some p.cn else none),some (goInt next),p.e0⟩)\/(k=1/\c=⟨.chan (some p.cr),none,p.e1⟩):=by
 match k with
 | 0=>exact .inl ⟨rfl,by simpa [Pl.cM] using h.symm⟩
 | 1=>exact .inr ⟨rfl,by simpa [Pl.cM] using h.symm⟩
 | k+2=>simp[Pl.cM] at h
theorem OE {i hh:Nat} {x y:Goroutine} (hi:i<gs.size) (hne:hh≠i) (hh':hh<gs.size):((gs.setIfInBounds hh y).setIfInBounds i x).size=gs.size/\((gs.setIfInBounds hh y).setIfInBounds i x)[i]? = some x/\((gs.setIfInBounds hh y).setIfInBounds i x)[hh]? = some y /\
  ∀ k,k≠i->k≠hh->((gs.setIfInBounds hh y).setIfInBounds i x)[k]? = gs[k]?:=
 ⟨by simp,get_set_same (by simpa using hi) _,by rw[aV (Ne.symm hne)];exact get_set_same hh' _,fun k h1 h2=>by rw[aV (Ne.symm h1),aV (Ne.symm h2)]⟩
variable {Q:Machine->Outcome->World->Trace->Prop}
def Next (p:Pl) (Q:Machine->Outcome->World->Trace->Prop) (N E:Nat):Prop:=∀ gs W t rl tk next got,G2 p gs W t rl tk next got->gs.size=N->(p.n-next)+(p.n-got.length)<E->dM p.P Q gs W t
theorem JY (o:p.Ok) (h:G2 p gs W t rl tk next got) (hg:got.length<p.n) {N:Nat} (hz:gs.size=N) (nx:Next p Q N ((p.n-next)+(p.n-got.length))) {g:Goroutine} {w:World} {O:Nat->Prop} {sl:Option (Nat×Nat)} (hj:rl[0]? = some (.run true (p.dS next got) g w O)) (hx:gs[0]? = some g) (hst:∀ w₁,Keep p.Ro O w w₁->p.dS next got g w₁ O) (hk:Keep p.Ro O w W)
  (kV:∀ x',G2 p (gs.setIfInBounds 0 x') W t (rl.set 0 (.idle g W O)) tk next got->dM p.P Q (gs.setIfInBounds 0 x') W t) :
  ∃ gs' w' u,runT p.P (crowd gs W sl) 0=(.next (crowd gs' w' sl),u)/\dM p.P Q gs' w' (t++u):=by
 obtain⟨hlt,_⟩:=Array.getElem?_eq_some_iff.1 hx;have hJ:=h.one (Nat.lt_of_le_of_lt (Nat.zero_le _) hg);obtain⟨qm,oh⟩:=h.sw hJ;obtain⟨s1,c1⟩:=h.lU hJ;obtain⟨s2,c2⟩:=h.chr hJ;obtain⟨g1,hs,hn,hr⟩:=o.hM _ _ _ _ _ (hst _ hk) hg;rw[ql hx (by exact hs)];have nor:∀ c,p.Sw c->¬ p.Ro c:=fun c hc hr=>h.wi.ap.lS c hr hc
 have wZ:∀ (c k:Nat) (r:aT),p.Sw c->rl[k]? = some r->¬ r.own c:=fun c k r hc hk ho=>h.wi.ap.sw k c ⟨r,hk,ho⟩ hc
 have hch:∀ (k:Nat) (c:CommCase),(p.cM next)[k]? = some c->c.chan = .chan none\/∃ r s,c.chan = .chan (some r)/\iJ W r s:=by
  intro k c hc;rcases JU (Array.mem_of_getElem? hc) with h | h | h
  ·exact .inl h
  ·exact .inr ⟨_,_,h,c1⟩
  ·exact .inr ⟨_,_,h,c2⟩
 rcases uF (P:=p.P) (gs:=gs.setIfInBounds 0 ph) (i:=0) (g:=g1) (dz:=p.cM next) (shape:=.select) (w:=W) (sl:=sl) hch with⟨e,hno⟩|⟨k,c,r,s,hh,hk',dd,hc,hcr,hch,hp,hw⟩
 ·refine⟨_,_,_,e,?_⟩;rw[set_set,Array.append_empty];refine kV _ (h.kV hj hst ⟨g1,_,_,hs,rfl⟩ rfl (fun _=>⟨hg,fun k g' w' O' hk0 hk'=>?_⟩) fun h=>absurd rfl h);obtain⟨y,hy⟩:∃ y,gs[k]? = some y:=⟨gs[k]'(by rw[<-h.len];exact (List.getElem?_eq_some_iff.1 hk').1),by simp⟩;have hf:=h.work k _ y hk0 hk' hy;cases htk:tk k with
  | none=>
   rw[htk] at hf;obtain⟨y1,rfl,_⟩:=fO.free o hf;refine⟨rfl,fun hnn=>?_⟩;have e:partners (gs.setIfInBounds 0 ph) p.cn false = []:=hno 0 ⟨.chan (if next<p.n then some p.cn else none),some (goInt next),p.e0⟩ p.cn (by simp[Pl.cM]) (by simp[hnn]);exact absurd (oH (send:=false) (hk:=0) hk0 hy rfl rfl rfl rfl rfl) (by rw[e];exact List.not_mem_nil)
  | some i=>
   rw[htk] at hf;obtain⟨y1,v,rfl,_⟩:=fO.busy o hf;have e:partners (gs.setIfInBounds 0 ph) p.cr true = []:=hno 1 ⟨.chan (some p.cr),none,p.e1⟩ p.cr (by simp[Pl.cM]) rfl;exact absurd (oH (send:=true) (hk:=0) hk0 hy rfl rfl rfl rfl rfl) (by rw[e];exact List.not_mem_nil)
 ·obtain⟨hne,y,cs,sh,c',hy,hyb,tL,rM,hsd,hcc⟩:=oG hlt hp;obtain⟨g0,w0,O',hy1,_,hy2⟩:=h.who hy hyb;have hf:=hy2 hne;have hylt:=(Array.getElem?_eq_some_iff.1 hy).1;rcases GX hc with⟨rfl,rfl⟩|⟨rfl,rfl⟩
  ·have hnn:next<p.n:=by
    apply Classical.byContradiction;intro hnn;rw[if_neg hnn] at hcr;cases hcr
   rw[if_pos hnn] at hcr;cases hcr;rcases hw with⟨v,hv,e⟩|⟨hv,_⟩
   ·cases hv;cases htk:tk hh with
    | some i=>
     rw[htk] at hf;obtain⟨y1,v,rfl,_⟩:=fO.busy o hf;cases tL;obtain⟨rfl,rfl⟩:=jv rM;cases hsd
    | none=>
     rw[htk] at hf;obtain⟨y1,rfl,hy3⟩:=fO.free o hf;cases tL;obtain⟨rfl,rfl⟩:=jv rM;refine⟨_,_,_,e,?_⟩;rw[oF hne hy rfl];obtain⟨z1,z2,z3,z4⟩:=OE (gs:=gs) (x:=g1.finishComm p.P (p.cM next) .select (0:Nat) undef false) (y:=served { y1 with status:=.blocked,offers:=some (#[p.cR],.recv true) } (commResult #[p.cR] (.recv true) (0:Nat) (goInt next) true)) hlt hne hylt;refine nx _ _ _ _ _ (next+1) got (h.number o hne hj hy1 hf.1 htk hnn z1 z2 z3 (fun k h1 h2=>z4 k h1 h2) rfl rfl ?_ ?_) (z1.trans hz) (by omega)
     ·exact hn hnn _ (fG (.refl ..) (nor _ qm) (wZ _ _ _ qm hj))
     ·exact hy3 next hnn _ (fG hf.2.2.1 (nor _ qm) (wZ _ _ _ qm hy1))
   ·cases hv
  ·cases hcr;rcases hw with⟨v,hv,_⟩|⟨_,e⟩
   ·cases hv
   ·cases htk:tk hh with
    | none=>
     rw[htk] at hf;obtain⟨y1,rfl,_⟩:=fO.free o hf;cases tL;obtain⟨rfl,rfl⟩:=jv rM;cases hsd
    | some i=>
     rw[htk] at hf;obtain⟨y1,v,rfl,hy3,hy4⟩:=fO.busy o hf;cases tL;obtain⟨rfl,rfl⟩:=jv rM;refine⟨_,_,_,e,?_⟩;obtain⟨_,_,hi,him⟩:=h.lV hh i htk;rw[oF hne hy rfl,yQ hne hy rfl rfl rfl];obtain⟨z1,z2,z3,z4⟩:=OE (gs:=gs) (x:=g1.finishComm p.P (p.cM next) .select (1:Nat) v true) (y:=served { y1 with status:=.blocked,offers:=some (#[p.cS v],.send) } (commResult #[p.cS v] .send (0:Nat) undef false)) hlt hne hylt;refine nx _ _ _ _ _ next (i::got) (h.result o hne hj hy1 hf.1 htk z1 z2 z3 (fun k h1 h2=>z4 k h1 h2) rfl rfl ?_ ?_) (z1.trans hz) (by simp only[List.length_cons];omega)
     ·exact hr i v O' _ hi him (fG (.refl ..) (nor _ oh) (wZ _ _ _ oh hj)) (hy3 _ (fG hf.2.2.1 (nor _ oh) (wZ _ _ _ oh hy1))) fun b h1 h2=>hne (h.wi.ap.own hh 0 b ⟨_,hy1,h1⟩ ⟨_,hj,h2⟩)
     ·exact hy4 _ (fG ⟨hf.2.2.1.size,fun b hb=>hf.2.2.1.same b (hb.imp id False.elim),hf.2.2.1.env⟩ (nor _ oh) id)
end
end Px
namespace Px
open Go Go.Conc
section
variable {p:Pl} {gs gs':Array Goroutine} {W W':World} {t:Trace} {rl:List aT} {tk:Nat->Option Nat} {next:Nat} {got:List Nat} {Q:Machine->Outcome->World->Trace->Prop}
theorem OG {j:Nat} {x y:Goroutine} (hj:j<gs.size) (hne:0≠j) (h0:0<gs.size):((gs.setIfInBounds 0 x).setIfInBounds j y).size=gs.size/\((gs.setIfInBounds 0 x).setIfInBounds j y)[0]? = some x/\((gs.setIfInBounds 0 x).setIfInBounds j y)[j]? = some y /\
  ∀ k,k≠0->k≠j->((gs.setIfInBounds 0 x).setIfInBounds j y)[k]? = gs[k]?:=
 ⟨by simp,by rw[aV (Ne.symm hne)];exact get_set_same h0 _,get_set_same (by simpa using hj) _,fun k h1 h2=>by rw[aV (Ne.symm h2),aV (Ne.symm h1)]⟩
theorem JZ (o:p.Ok) (h:G2 p gs W t rl tk next got) {N:Nat} (hz:gs.size=N) (nx:Next p Q N ((p.n-next)+(p.n-got.length))) {j:Nat} (hj0:j≠0) (hJ:p.J0<=j) (htj:tk j=none) {g:Goroutine} {w:World} {O:Nat->Prop} {sl:Option (Nat×Nat)} (hj:rl[j]? = some (.run false p.AtR g w O)) (hx:gs[j]? = some g) (hst:∀ w₁,Keep p.Ro O w w₁->p.AtR g w₁ O)
  (hk:Keep p.Ro O w W) (kV:∀ x',G2 p (gs.setIfInBounds j x') W t (rl.set j (.idle g W O)) tk next got->dM p.P Q (gs.setIfInBounds j x') W t):∃ gs' w' u,runT p.P (crowd gs W sl) j=(.next (crowd gs' w' sl),u)/\dM p.P Q gs' w' (t++u):=by
 obtain⟨hlt,_⟩:=Array.getElem?_eq_some_iff.1 hx;have hJs:=Nat.lt_of_le_of_lt hJ hlt;obtain⟨qm,oh⟩:=h.sw hJs;obtain⟨s1,c1⟩:=h.lU hJs;obtain⟨g1,hs,hn⟩:=o.hR _ _ _ (hst _ hk);have hm:(j==0)=false:=beq_eq_false_iff_ne.2 hj0;rw[ql hx (by rw[hm];exact hs)];have nor:∀ c,p.Sw c->¬ p.Ro c:=fun c hc hr=>h.wi.ap.lS c hr hc
 have wZ:∀ (c k:Nat) (r:aT),p.Sw c->rl[k]? = some r->¬ r.own c:=fun c k r hc hk ho=>h.wi.ap.sw k c ⟨r,hk,ho⟩ hc
 have hch:∀ (k:Nat) (c:CommCase),#[p.cR][k]? = some c->c.chan = .chan none\/∃ r s,c.chan = .chan (some r)/\iJ W r s:=by
  intro k c hc;obtain⟨rfl,rfl⟩:=jv hc;exact .inr ⟨_,_,rfl,c1⟩
 rcases uF (P:=p.P) (gs:=gs.setIfInBounds j ph) (i:=j) (g:=g1) (dz:=#[p.cR]) (shape:=.recv true) (w:=W) (sl:=sl) hch with⟨e,hno⟩|⟨k,c,r,s,hh,hk',dd,hc,hcr,hch,hp,hw⟩
 ·refine⟨_,_,_,e,?_⟩;rw[set_set,Array.append_empty];refine kV _ (h.kV hj hst ⟨g1,_,_,hs,rfl⟩ hm.symm (fun h=>absurd h hj0) fun _ ⟨g0,w0,O0,h0⟩=>⟨htj,fun hnn=>?_⟩);obtain⟨r0,x0,h1,h2,h3⟩:=h.main;rw[h0] at h1;cases h1;obtain⟨x1,rfl,_⟩:=mM.parked o h3;have e:partners (gs.setIfInBounds j ph) p.cn true = []:=hno 0 p.cR p.cn (by simp) rfl;exact absurd (oH (send:=true) (hk:=0) (r:=p.cn) (c:=⟨.chan (if next<p.n then some p.cn else none),some (goInt next),p.e0⟩) (Ne.symm hj0) h2 rfl rfl (by simp[Pl.cM]) rfl (by simp[hnn])) (by rw[e];exact List.not_mem_nil)
 ·obtain⟨hne,y,cs,sh,c',hy,hyb,tL,rM,hsd,hcc⟩:=oG hlt hp;obtain⟨rfl,rfl⟩:=jv hc;cases hcr;obtain⟨g0,w0,O',hy1,R6,R7⟩:=h.who hy hyb;have hylt:=(Array.getElem?_eq_some_iff.1 hy).1;by_cases hh0:hh=0
  ·subst hh0;have hf:=R6 rfl;obtain⟨y1,rfl,hy3,_⟩:=mM.parked o hf;cases tL;rcases hw with⟨v,hv,_⟩|⟨_,e⟩
   ·cases hv
   ·rcases GX rM with⟨rfl,rfl⟩|⟨rfl,rfl⟩
    ·have hnn:next<p.n:=by
      apply Classical.byContradiction;intro hnn;rw[if_neg hnn] at hcc;cases hcc
     refine⟨_,_,_,e,?_⟩;rw[oF hne hy rfl,yQ hne hy rfl rM rfl];obtain⟨z1,z2,z3,z4⟩:=OG (gs:=gs) (y:=g1.finishComm p.P #[p.cR] (.recv true) (0:Nat) (goInt next) true) (x:=served { y1 with status:=.blocked,offers:=some (p.cM next,.select) } (commResult (p.cM next) .select (0:Nat) undef false)) hlt hne hylt;have hl:=hf.1;refine nx _ _ _ _ _ (next+1) got (h.number o hj0 hy1 hj hJ htj hnn z1 z2 z3 z4 rfl rfl ?_ ?_) (z1.trans hz) (by omega)
     ·exact hy3 hnn _ (fG hf.2.2.1 (nor _ qm) (wZ _ _ _ qm hy1))
     ·exact hn next hnn _ (fG (.refl ..) (nor _ qm) (wZ _ _ _ qm hj))
    ·cases hsd
  ·have hf:=R7 hh0;cases htk:tk hh with
   | none=>
    rw[htk] at hf;obtain⟨y1,rfl,_⟩:=fO.free o hf;cases tL;obtain⟨rfl,rfl⟩:=jv rM;cases hsd
   | some i=>
    rw[htk] at hf;obtain⟨y1,v,rfl,_⟩:=fO.busy o hf;cases tL;obtain⟨rfl,rfl⟩:=jv rM;have MP:=Value.chan.inj hcc;exact absurd (Option.some.inj MP).symm o.ne
theorem J2 (o:p.Ok) (h:G2 p gs W t rl tk next got) {N:Nat} (hz:gs.size=N) (nx:Next p Q N ((p.n-next)+(p.n-got.length))) {j i:Nat} (hj0:j≠0) (hJ:p.J0<=j) (htj:tk j=some i) {g:Goroutine} {w:World} {O:Nat->Prop} {sl:Option (Nat×Nat)} (hj:rl[j]? = some (.run false (p.lT i) g w O)) (hx:gs[j]? = some g) (hst:∀ w₁,Keep p.Ro O w w₁->p.lT i g w₁ O)
  (hk:Keep p.Ro O w W) (kV:∀ x',G2 p (gs.setIfInBounds j x') W t (rl.set j (.idle g W O)) tk next got->dM p.P Q (gs.setIfInBounds j x') W t):∃ gs' w' u,runT p.P (crowd gs W sl) j=(.next (crowd gs' w' sl),u)/\dM p.P Q gs' w' (t++u):=by
 obtain⟨hlt,_⟩:=Array.getElem?_eq_some_iff.1 hx;have hJs:=Nat.lt_of_le_of_lt hJ hlt;obtain⟨qm,oh⟩:=h.sw hJs;obtain⟨s1,c1⟩:=h.chr hJs;obtain⟨g1,v,hs,hres,hn⟩:=o.hS _ _ _ _ (hst _ hk);have hm:(j==0)=false:=beq_eq_false_iff_ne.2 hj0;rw[ql hx (by rw[hm];exact hs)];have nor:∀ c,p.Sw c->¬ p.Ro c:=fun c hc hr=>h.wi.ap.lS c hr hc
 have wZ:∀ (c k:Nat) (r:aT),p.Sw c->rl[k]? = some r->¬ r.own c:=fun c k r hc hk ho=>h.wi.ap.sw k c ⟨r,hk,ho⟩ hc
 have hch:∀ (k:Nat) (c:CommCase),#[p.cS v][k]? = some c->c.chan = .chan none\/∃ r s,c.chan = .chan (some r)/\iJ W r s:=by
  intro k c hc;obtain⟨rfl,rfl⟩:=jv hc;exact .inr ⟨_,_,rfl,c1⟩
 rcases uF (P:=p.P) (gs:=gs.setIfInBounds j ph) (i:=j) (g:=g1) (dz:=#[p.cS v]) (shape:=.send) (w:=W) (sl:=sl) hch with⟨e,hno⟩|⟨k,c,r,s,hh,hk',dd,hc,hcr,hch,hp,hw⟩
 ·refine⟨_,_,_,e,?_⟩;rw[set_set,Array.append_empty];refine kV _ (h.kV hj hst ⟨g1,_,_,hs,rfl⟩ hm.symm (fun h=>absurd h hj0) fun _ ⟨g0,w0,O0,h0⟩=>?_);obtain⟨r0,x0,h1,h2,h3⟩:=h.main;rw[h0] at h1;cases h1;obtain⟨x1,rfl,_⟩:=mM.parked o h3;have e:partners (gs.setIfInBounds j ph) p.cr false = []:=hno 0 (p.cS v) p.cr (by simp) rfl;exact absurd (oH (send:=false) (hk:=1) (c:=⟨.chan (some p.cr),none,p.e1⟩) (Ne.symm hj0) h2 rfl rfl (by simp[Pl.cM]) rfl rfl) (by rw[e];exact List.not_mem_nil)
 ·obtain⟨hne,y,cs,sh,c',hy,hyb,tL,rM,hsd,hcc⟩:=oG hlt hp;obtain⟨rfl,rfl⟩:=jv hc;cases hcr;obtain⟨g0,w0,O',hy1,R6,R7⟩:=h.who hy hyb;have hylt:=(Array.getElem?_eq_some_iff.1 hy).1;by_cases hh0:hh=0
  ·subst hh0;have hf:=R6 rfl;obtain⟨y1,rfl,_,hy3⟩:=mM.parked o hf;cases tL;rcases hw with⟨v',hv,e⟩|⟨hv,_⟩
   ·cases hv;rcases GX rM with⟨rfl,rfl⟩|⟨rfl,rfl⟩
    ·cases hsd
    ·refine⟨_,_,_,e,?_⟩;rw[oF hne hy rfl];obtain⟨_,_,hi,him⟩:=h.lV j i htj;obtain⟨z1,z2,z3,z4⟩:=OG (gs:=gs) (y:=g1.finishComm p.P #[p.cS v] .send (0:Nat) undef false) (x:=served { y1 with status:=.blocked,offers:=some (p.cM next,.select) } (commResult (p.cM next) .select (1:Nat) v true)) hlt hne hylt;have hl:=hf.1;refine nx _ _ _ _ _ next (i::got) (h.result o hj0 hy1 hj hJ htj z1 z2 z3 z4 rfl rfl ?_ ?_) (z1.trans hz) (by simp only[List.length_cons];omega)
     ·exact hy3 i v O _ hi him (fG hf.2.2.1 (nor _ oh) (wZ _ _ _ oh hy1)) (hres _ (fG (.refl ..) (nor _ oh) (wZ _ _ _ oh hj))) fun b h1 h2=>hj0 (h.wi.ap.own j 0 b ⟨_,hj,h1⟩ ⟨_,hy1,h2⟩)
     ·exact hn _ (fG (.refl ..) (nor _ oh) id)
   ·cases hv
  ·have hf:=R7 hh0;cases htk:tk hh with
   | none=>
    rw[htk] at hf;obtain⟨y1,rfl,_⟩:=fO.free o hf;cases tL;obtain⟨rfl,rfl⟩:=jv rM;have MP:=Value.chan.inj hcc;exact absurd (Option.some.inj MP) o.ne
   | some i'=>
    rw[htk] at hf;obtain⟨y1,v',rfl,_⟩:=fO.busy o hf;cases tL;obtain⟨rfl,rfl⟩:=jv rM;cases hsd
theorem gather (o:p.Ok) {N:Nat} (Exit:∀ gs W t rl tk next got,G2 p gs W t rl tk next got->gs.size=N->got.length=p.n->∀ g w O,rl[0]? = some (.run true (p.dS next got) g w O)->gs[0]? = some g->(∀ w₁,Keep p.Ro O w w₁->p.dS next got g w₁ O)->Keep p.Ro O w W->∀ d sl,eU p.P Q gs W t 0 d sl) :
  ∀ E,Next p Q N E:=by
 intro E;induction E with
 | zero=>intro gs W t rl tk next got _ _ hE;omega
 | succ E R8=>
  intro gs W t rl tk next got h hz hE;have nx:∀ {next:Nat} {got:List Nat},(p.n-next)+(p.n-got.length)<E+1->Next p Q N ((p.n-next)+(p.n-got.length)):=fun hE gs W t rl tk next' got' h' hz' hE'=>R8 gs W t rl tk next' got' h' hz' (by omega)
  have acc:=h.MO;induction acc generalizing gs W t with
  | intro rl _ ih=>
   have hle:got.length<=p.n:=by
    have:=h.gn.length_le_of_subset (l₂:=List.range next) fun i hi=>List.mem_range.2 (h.gb i hi)
    rw[List.length_range] at this;exact Nat.le_trans this h.nn
   refine zX h.awake ?_ fun i g d sl hg hrun=>?_
   ·by_cases hlt:got.length<p.n
    ·exact h.runs o hlt
    ·obtain⟨r,x,h1,h2,h3⟩:=h.main;match r,h3 with
     | .run ..,⟨_,_,_,h4,_⟩=>exact⟨0,x,h2,h4⟩
     | .idle ..,h3=>exact absurd h3.1 hlt
   have hW:=h.at d;obtain⟨hlt,_⟩:=Array.getElem?_eq_some_iff.1 hg;obtain⟨r,hr⟩:∃ r,rl[i]? = some r:=⟨rl[i]'(by rw[h.len];exact hlt),by simp⟩;have own:∀ {m:Bool} {S:aF} {w:World} {O:Nat->Prop},m=(i==0)->p.live gs.size i->rl[i]? = some (.run m S g w O)->Runs p.P m p.Ro S g w O->Keep p.Ro O w W->(¬ ∀ w₁,Keep p.Ro O w w₁->S g w₁ O) ->
     ∃ gs' w' u,runT p.P (crowd gs (W.at d) sl) i=(.next (crowd gs' w' sl),u)/\dM p.P Q gs' w' (t++u):=by
    intro m S w O hm hl nL hR hk hns;cases hR with
    | stop hst=>exact absurd hst hns
    | step h1 h2=>
     have hkd:Keep p.Ro O w (W.at d):=hk.trans (gD ..);obtain⟨g',w',es,e1,e2,e3⟩:=h1 _ hkd;have hG:=hW.own g.frame.fn g.frame.place nL hl e3 e2 (h2 _ _ _ _ hkd e1);refine⟨_,_,_,runT_crowd_go hg (by rw[<-hm];exact e1),?_⟩;rw[h.woken o (w':=w') (fun hJ=>hG.lU (by simpa using hJ)) fun hJ=>hG.chr (by simpa using hJ)];exact ih _ (.mk nL (.step hns hkd e1)) _ _ _ hG (by simpa using hz)
   by_cases hi0:i=0
   ·subst hi0;obtain⟨r',x,h1,h2,h3⟩:=h.main;rw[hg] at h2;cases h2;match r',h3 with
    | .run m S g' w O,⟨e1,e2,e3,h4,h5,h6⟩=>
     subst e1 e2 e3;by_cases hst:∀ w₁,Keep p.Ro O w w₁->p.dS next got g w₁ O
     ·by_cases hne:got.length=p.n
      ·exact Exit _ _ _ _ _ _ _ h hz hne g w O h1 hg hst h6 d sl
      have hl:got.length<p.n:=by
       rcases Nat.lt_or_ge got.length p.n with h | h
       ·exact h
       ·exact absurd (by omega) hne
      exact .inl <| JY o hW hl hz (nx hE) h1 hg hst (h6.trans (gD ..)) fun x' hG=>ih _ (.mk h1 .kV) _ _ _ hG (by simpa using hz)
     ·exact .inl <| own rfl (.inl rfl) h1 h5 h6 hst
    | .idle ..,⟨_,⟨_,_,_,_,h4⟩,_⟩=>rw[h4] at hrun;cases hrun
   ·have h3:=h.work i r g hi0 hr hg;have hm:false=(i==0):=(beq_eq_false_iff_ne.2 hi0).symm;match r,h3 with
    | .run m S g' w O,⟨hJ,e1,e2,e3,h4,h5,h6⟩=>
     subst e1 e2 e3;by_cases hst:∀ w₁,Keep p.Ro O w w₁->p.sk (tk i) g w₁ O
     ·cases htk:tk i with
      | none=>
       rw[htk] at hst hr;exact .inl <| JZ o hW hz (nx hE) hi0 hJ htk hr hg hst (h6.trans (gD ..)) fun x' hG=>ih _ (.mk hr .kV) _ _ _ hG (by simpa using hz)
      | some k=>
       rw[htk] at hst hr;exact .inl <| J2 o hW hz (nx hE) hi0 hJ htk hr hg hst (h6.trans (gD ..)) fun x' hG=>ih _ (.mk hr .kV) _ _ _ hG (by simpa using hz)
     ·exact .inl <| own hm (.inr ⟨hJ,hlt⟩) hr h5 h6 hst
    | .idle ..,⟨_,⟨_,_,_,_,h4⟩,_⟩=>rw[h4] at hrun;cases hrun
    | .quit q,h3=>
     obtain⟨g',es,q',rfl,e1,hG⟩:=hW.leave hr hg hrun;have hG:=hG g.frame.fn g.frame.place;refine .inl ⟨_,_,_,runT_crowd_go hg (by rw[<-hm];exact e1 _),?_⟩;rw[h.woken o (w':=W.at d) hW.lU hW.chr];exact ih _ (.mk hr .quit) _ _ _ hG (by simpa using hz)
end
end Px
namespace Px
open Go Go.Conc
section
variable {p:Pl} {gs gs':Array Goroutine} {W W' w':World} {t u:Trace} {rl:List aT}
theorem TI.give {Sw aG:Nat->Prop} {n n' N:Nat} {live:Nat->Prop} {Own Own':Nat->Nat->Prop} {Ro:Nat->Prop} {g:Nat} (A:Ap Sw n Own Ro) (h:TI Sw n live Own Ro t N) (hg:live g) (hN:g<N) (hn:n<=n') (_:∀ b,Sw b->aG b) (s2:∀ b,aG b->Sw b\/(n<=b/\b<n'))
  (o1:∀ k b,Own' k b->vY Own g n n' k b) (o2:∀ k b,Own' k b->¬ aG b) (hu:∀ op∈u,OkG aG g (Own' g) Ro op):Ap aG n' Own' Ro/\TI aG n' live Own' Ro (t++u) N:=by
 have A1:=A.grow g hn;have T1:TI Sw n' live (vY Own g n n') Ro (t++u) N:=by
  refine TI.step A h hg hN hn fun op hop=>⟨(hu op hop).1,fun x hx=>?_⟩
  rcases (hu op hop).2 x hx with⟨⟨a,hl,hs⟩,h1,h2⟩|⟨b,hb,h1⟩
  ·rcases s2 _ hs with h3 | h3
   ·exact .inl ⟨⟨a,hl,h3⟩,h1,h2⟩
   ·exact .inr ⟨a,hl,.inl (.inr h3)⟩
  ·refine .inr ⟨b,hb,h1.imp (fun h1=>?_) id⟩;rcases o1 _ _ h1 with h2 | ⟨_,h2⟩
   ·exact .inl h2
   ·exact .inr h2
 refine⟨⟨fun k k' b h1 h2=>A1.own _ _ _ (o1 _ _ h1) (o1 _ _ h2),fun k b h1=>A1.ro _ _ (o1 _ _ h1),o2,fun b h1 h2=>?_,fun k b h1=>A1.lt _ _ (o1 _ _ h1),A1.pF,fun b h1=>?_⟩,fun i op x hi hx hs=>?_,fun k b hl ho=>T1.own k b hl (o1 _ _ ho),T1.ro,T1.fresh,T1.nr,T1.gs⟩
 ·rcases s2 b h2 with h3 | h3
  ·exact A.lS b h1 h3
  ·have:=A.pF b h1;omega
 ·rcases s2 b h1 with h3 | h3
  ·exact Nat.lt_of_lt_of_le (A.kU b h3) hn
  ·exact h3.2
 ·obtain⟨a,hl,hs⟩:=hs;rcases s2 _ hs with h3 | h3
  ·exact T1.quiet i op x hi hx ⟨a,hl,h3⟩
  ·rcases getElem?_append_cases hi with⟨_,hi'⟩|⟨_,hou⟩
   ·have:=h.fresh i x a (by rw[touchAt_of hi'];exact hx) hl;omega
   ·rcases (hu op hou).2 x hx with⟨_,h1,h2⟩|⟨b,hb,h1⟩
    ·exact⟨h1,fun e=>(hu op hou).1.trans (h2 e)⟩
    ·rw[hl] at hb;cases hb;rcases h1 with h1 | ⟨h1,_⟩
     ·exact absurd hs (o2 _ _ h1)
     ·have:=A.pF _ h1;omega
theorem fO.to {q:Pl} {j:Nat} {r:aT} {x:Goroutine} (hP:q.P=p.P) (dx:q.Ro=p.Ro) (hJ:q.J0=p.J0) (hR:q.AtR=p.AtR) (h:fO p j none r x W t):fO q j none r x W t:=by
 match r,h with
 | .run ..,⟨a,b,c,d,e,f,g⟩=>exact⟨hJ ▸ a,b,c.trans hR.symm,d,e,by rw[hP,dx];exact f,dx ▸ g⟩
 | .idle ..,⟨a,b,c,d⟩=>exact⟨hJ ▸ a,hP ▸ b,dx ▸ c,fun w₁ hk=>by show q.AtR _ _ _;rw[hR];exact d w₁ (dx ▸ hk)⟩
 | .quit _,⟨a,b,c⟩=>exact⟨hJ ▸ a,hP ▸ b,c⟩
theorem G2.turn (h:G2 p gs W t rl (fun _=>none) 0 []) {m:Bool} {S:aF} {g g':Goroutine} {w:World} {O O' aG X:Nat->Prop} {gK n':Nat} {M':Nat->List Nat->aF} (hr:rl[0]? = some (.run m S g w O)) (size:W.heap.size<=w'.heap.size) (gM:w'.os=W.os/\w'.output=W.output)
  (old:∀ b,b<W.heap.size->¬ O b->¬ X b->w'.heap[b]? = W.heap[b]?) (hX:∀ b,X b->p.Sw b/\b≠p.cn/\b≠p.cr) (s1:∀ b,p.Sw b->aG b) (s2:∀ b,aG b->p.Sw b\/(W.heap.size<=b/\b<w'.heap.size)) (o1:∀ b,O' b->grow O W w' b) (o2:∀ b,O' b->¬ aG b)
  (hu:∀ op∈u,OkG aG 0 O' p.Ro op) (hnr:∀ op∈u,Nt aG op) (hd:Deaf (t++u) 0=gK) (hs:g'.status = .running) (hR:Runs p.P true p.Ro (M' 0 []) g' w' O') (one:0<n'->p.J0<gs.size) (_:1<=p.J0) :
  G2 { p with Sw:=aG,h0:=fun b=>w'.heap[b]?,dm:=gK,n:=n',dS:=M' } (gs.setIfInBounds 0 g') w' (t++u) (rl.set 0 (.run true (M' 0 []) g' w' O')) (fun _=>none) 0 []:=by
 have hlt:=(List.getElem?_eq_some_iff.1 hr).1;have eT:0<gs.size:=h.len ▸ hlt;have e:bD (rl.set 0 (.run true (M' 0 []) g' w' O'))=fun k b=>(k=0/\O' b)\/(k≠0/\bD rl k b):=kW hlt
 obtain⟨A',T'⟩:=TI.give (u:=u) h.wi.ap h.wi.ti (g:=0) (.inl rfl) hlt size s1 s2 (Own':=bD (rl.set 0 (.run true (M' 0 []) g' w' O'))) (by
   rw[e];rintro k b (⟨rfl,hb⟩|⟨_,hb⟩)
   ·exact (o1 b hb).imp (fun h=>⟨_,hr,h⟩) fun h=>⟨rfl,h⟩
   ·exact .inl hb) (by
   rw[e];rintro k b (⟨rfl,hb⟩|⟨_,hb⟩) hsw
   ·exact o2 b hb hsw
   ·rcases s2 b hsw with h3 | h3
    ·exact h.wi.ap.sw _ _ hb h3
    ·have:=h.wi.ap.lt _ _ hb;omega) (by
   rw[e];intro op hop;refine⟨(hu op hop).1,fun x hx=>?_⟩;exact ((hu op hop).2 x hx).imp id fun ⟨b,h1,h2⟩=>⟨b,h1,h2.imp (fun h=>.inl ⟨rfl,h⟩) id⟩)
 have keep:∀ (b:Nat),b<W.heap.size->p.Ro b\/(∃ k,k≠0/\bD rl k b)\/b=p.cn/\p.Sw b\/b=p.cr/\p.Sw b->w'.heap[b]? = W.heap[b]?:=by
  intro b hb hc;refine old b hb ?_ ?_
  ·rcases hc with hc | ⟨k,hk,hc⟩|⟨_,hc⟩|⟨_,hc⟩
   ·exact fun ho=>h.wi.ap.ro 0 b ⟨_,hr,ho⟩ hc
   ·exact fun ho=>hk (h.wi.ap.own _ _ _ hc ⟨_,hr,ho⟩)
   ·exact fun ho=>h.wi.ap.sw 0 b ⟨_,hr,ho⟩ hc
   ·exact fun ho=>h.wi.ap.sw 0 b ⟨_,hr,ho⟩ hc
  ·intro hx;obtain⟨h1,h2,h3⟩:=hX b hx;rcases hc with hc | ⟨k,hk,hc⟩|⟨hc,_⟩|⟨hc,_⟩
   ·exact h.wi.ap.lS _ hc h1
   ·exact h.wi.ap.sw _ _ hc h1
   ·exact h2 hc
   ·exact h3 hc
 have hu0:∀ op∈u,op.g=0:=fun op hop=>(hu op hop).1
 constructor
 ·simp[h.len]
 ·refine⟨A',by rw[Array.size_setIfInBounds,List.length_set];exact T',fun j hj=>?_,kY (h.wi.kX.more s1) hnr⟩;by_cases hj0:j=0
  ·subst hj0;exact hd
  ·rw[Deaf_other t (Ne.symm hj0) u hu0];have:=h.wi.deaf j (by simpa [Pl.live] using hj);rw[this];simp[Pl.D,hj0]
 ·intro hJ;have:=h.sw (by simpa using hJ);exact⟨s1 _ this.1,s1 _ this.2⟩
 ·intro hJ;have hJ':p.J0<gs.size:=by simpa using hJ
  obtain⟨s,tm,hc⟩:=h.lU hJ';exact⟨s,tm,(keep _ (h.wi.ap.kU _ (h.sw hJ').1) (.inr (.inr (.inl ⟨rfl,(h.sw hJ').1⟩)))).trans hc⟩
 ·intro hJ;have hJ':p.J0<gs.size:=by simpa using hJ
  obtain⟨s,tm,hc⟩:=h.chr hJ';exact⟨s,tm,(keep _ (h.wi.ap.kU _ (h.sw hJ').2) (.inr (.inr (.inr ⟨rfl,(h.sw hJ').2⟩)))).trans hc⟩
 ·exact fun _ _ _ _=>rfl
 ·exact⟨_,_,List.getElem?_set_self hlt,get_set_same eT _,rfl,rfl,rfl,hs,hR,.refl ..⟩
 ·intro j r x hj e1 e2;rw[List.getElem?_set_ne (Ne.symm hj)] at e1;rw[aV (Ne.symm hj)] at e2;have hf:=h.work j r x hj e1 e2;refine fO.to (p:=p) rfl rfl rfl rfl (hf.mono ⟨size,fun b hb=>?_,gM⟩ fun _=>⟨Deaf_other t (Ne.symm hj) u hu0,fun ho=>ho.app fun op hop e=>absurd (e.symm.trans (hu0 op hop)) hj⟩);rcases hb with hb | hb
  ·exact keep b (h.wi.ap.pF _ hb) (.inl hb)
  ·exact keep b (h.wi.ap.lt _ _ ⟨_,e1,hb⟩) (.inr (.inl ⟨j,hj,_,e1,hb⟩))
 ·intro j i hi;cases hi
 ·intro j j' i hi;cases hi
 ·intro i hi;omega
 ·intro i hi;cases hi
 ·exact List.nodup_nil
 ·exact Nat.zero_le _
 ·intro hn;rw[Array.size_setIfInBounds];exact one hn
 ·intro g1 w1 O1 e1;rw[List.getElem?_set_self hlt] at e1;cases e1
end
end Px
namespace Px
open Go Go.Conc
section
variable {p:Pl} {gs gs':Array Goroutine} {W W' w':World} {t u:Trace} {rl:List aT}
def bear (N:Nat) (fn fc:FuncId) (pos:String):Trace:=#[⟨0,fn,pos,.go N⟩,⟨N,fc,pos,.start⟩]
theorem pI {N:Nat} {fn fc:FuncId} {pos:String}:∀ op∈bear N fn fc pos,op.act.touch? = none/\(op.g=0\/op.g=N)/\op.act ≠ .mark .disable/\op.act ≠ .mark .enable:=by
 intro op hop;simp only[bear,List.mem_toArray,List.mem_cons,List.not_mem_nil,or_false] at hop;rcases hop with rfl | rfl
 ·exact⟨rfl,.inl rfl,(fun h=>by cases h),(fun h=>by cases h)⟩
 ·exact⟨rfl,.inr rfl,(fun h=>by cases h),(fun h=>by cases h)⟩
theorem G2.born (h:G2 p gs W t rl (fun _=>none) 0 []) {m:Bool} {S:aF} {g g' c:Goroutine} {w:World} {O:Nat->Prop} {n':Nat} {M':Nat->List Nat->aF} (fn fc:FuncId) (pos:String) (hr:rl[0]? = some (.run m S g w O)) (hm:p.dm=0)
  (hs:g'.status = .running) (hR:Runs p.P true p.Ro (M' 0 []) g' W O) (hc:c.status = .running) (hC:Runs p.P false p.Ro p.AtR c W fun _=>False) (hJ:p.J0<=gs.size) (_:1<=p.J0) (hsw:p.Sw p.cn/\p.Sw p.cr) (hcn:∃ s,iJ W p.cn s) (hcr:∃ s,iJ W p.cr s) :
  G2 { p with n:=n',dS:=M' } ((gs.setIfInBounds 0 g').push c) W (t++bear gs.size fn fc pos) (rl.set 0 (.run true (M' 0 []) g' W O) ++ [.run false p.AtR c W fun _=>False]) (fun _=>none) 0 []:=by
 have hlt:=(List.getElem?_eq_some_iff.1 hr).1;have eT:0<gs.size:=h.len ▸ hlt;have hN:rl.length=gs.size:=h.len;have d0:Deaf t 0=0:=by
  have:=h.wi.deaf 0 (.inl rfl);rw[this];simp[Pl.D,hm]
 have dN:Deaf t gs.size=0:=ConcN.Deaf_absent fun i op hi e=>by
  have:=h.wi.ti.gs i op hi;omega
 have dk:∀ k,Deaf (t++bear gs.size fn fc pos) k=Deaf t k:=fun k=>ConcN.Deaf_still t k _ fun op hop=>(pI op hop).2.2
 have lk:∀ (k:Nat),k<gs.size->(rl.set 0 (.run true (M' 0 []) g' W O) ++ [.run false p.AtR c W fun _=>False])[k]? = (rl.set 0 (.run true (M' 0 []) g' W O))[k]?:=fun k hk=>List.getElem?_append_left (by simpa [hN] using hk)
 have lN:(rl.set 0 (.run true (M' 0 []) g' W O) ++ [.run false p.AtR c W fun _=>False])[gs.size]? = some (.run false p.AtR c W fun _=>False):=by
  rw[List.getElem?_append_right (by simp[hN])];simp[hN]
 have lo:∀ (k:Nat) r,(rl.set 0 (.run true (M' 0 []) g' W O) ++ [.run false p.AtR c W fun _=>False])[k]? = some r->k<gs.size\/k=gs.size:=by
  intro k r hk;have:=(List.getElem?_eq_some_iff.1 hk).1;simp[hN] at this;omega
 have e:bD (rl.set 0 (.run true (M' 0 []) g' W O) ++ [.run false p.AtR c W fun _=>False])=bD rl:=by
  have e0:bD (rl.set 0 (.run true (M' 0 []) g' W O))=bD rl:=lu hr rfl;rw[<-e0];funext k b;apply propext;constructor
  ·rintro⟨r,h1,h2⟩;rcases lo k r h1 with hk | rfl
   ·exact⟨r,(lk k hk).symm.trans h1,h2⟩
   ·rw[lN] at h1;cases h1;exact h2.elim
  ·rintro⟨r,h1,h2⟩;have hk:=(List.getElem?_eq_some_iff.1 h1).1;simp[hN] at hk;exact⟨r,(lk k hk).trans h1,h2⟩
 have gk:∀ (k:Nat),k<gs.size->((gs.setIfInBounds 0 g').push c)[k]? = (gs.setIfInBounds 0 g')[k]?:=fun k hk=>by
  rw[Array.getElem?_push,if_neg (by simp;omega)]
 have gN:((gs.setIfInBounds 0 g').push c)[gs.size]? = some c:=by
  rw[Array.getElem?_push,if_pos (by simp)]
 have sz:((gs.setIfInBounds 0 g').push c).size=gs.size+1:=by simp
 constructor
 ·simp[hN]
 ·refine⟨by rw[e];exact h.wi.ap,?_,fun j hj=>?_,kY h.wi.kX fun op hop=>.none (fun a=>?_) (pI op hop).1⟩
  ·rw[e,show (rl.set 0 (.run true (M' 0 []) g' W O) ++ [aT.run false p.AtR c W fun _=>False]).length=gs.size+1 by simp[hN],sz];refine TI.still (N:=gs.size) (by rw[<-hN];exact h.wi.ti) (by omega) (fun op hop=>⟨(pI op hop).1,by rcases (pI op hop).2.1 with h | h<;>omega⟩) (fun k b hl ho=>⟨k,?_,ho,fun i hk=>hk.app _⟩) fun k hl=>?_
   ·obtain⟨r,h1,_⟩:=ho;have:=(List.getElem?_eq_some_iff.1 h1).1;rcases hl with hl | ⟨hl,_⟩
    ·exact .inl hl
    ·exact .inr ⟨hl,by omega⟩
   ·rcases hl with rfl | ⟨hl,hk⟩
    ·exact⟨0,.inl rfl,fun i hk=>hk.app _⟩
    ·by_cases hkN:k=gs.size
     ·subst hkN;exact⟨0,.inl rfl,fun i hk=>ConcN.fork_knows ⟨rfl,rfl⟩ ⟨rfl,rfl⟩ d0 dN hk⟩
     ·exact⟨k,.inr ⟨hl,by omega⟩,fun i hk=>hk.app _⟩
  ·rw[dk];by_cases hj0:j=0
   ·subst hj0;rw[d0];simp[Pl.D,hm]
   ·by_cases iC:j=gs.size
    ·subst iC;rw[dN];simp[Pl.D,hj0]
    ·have:=h.wi.deaf j (by
      rcases hj with hj | ⟨hj,hk⟩
      ·exact .inl hj
      ·rw[sz] at hk;exact .inr ⟨hj,by omega⟩)
     rw[this];simp[Pl.D,hj0]
  ·simp only[bear,List.mem_toArray,List.mem_cons,List.not_mem_nil,or_false] at hop;rcases hop with rfl | rfl<;>exact fun h=>by cases h
 ·exact fun _=>hsw
 ·exact fun _=>hcn
 ·exact fun _=>hcr
 ·exact h.fx
 ·exact⟨_,_,(lk 0 eT).trans (List.getElem?_set_self hlt),(gk 0 eT).trans (get_set_same eT _),rfl,rfl,rfl,hs,hR,.refl ..⟩
 ·intro j r x hj e1 e2;rcases lo j r e1 with hk | rfl
  ·rw[lk j hk,List.getElem?_set_ne (Ne.symm hj)] at e1;rw[gk j hk,aV (Ne.symm hj)] at e2;refine fO.to (p:=p) rfl rfl rfl rfl ((h.work j r x hj e1 e2).mono (.refl ..) fun hjj=>⟨dk j,fun ho=>ho.app fun op hop _=>(pI op hop).1⟩)
  ·rw[lN] at e1;cases e1;rw[gN] at e2;cases e2;exact⟨hJ,rfl,rfl,rfl,hc,hC,.refl ..⟩
 ·intro j i hi;cases hi
 ·intro j j' i hi;cases hi
 ·intro i hi;omega
 ·intro i hi;cases hi
 ·exact List.nodup_nil
 ·exact Nat.zero_le _
 ·intro _;rw[sz];show p.J0<_;omega
 ·intro g1 w1 O1 e1;rw[lk 0 eT,List.getElem?_set_self hlt] at e1;cases e1
theorem G2.anew (h:G2 p gs W t rl (fun _=>none) 0 []) {g₀:Goroutine} {O':Nat->Prop} (hg:gs[0]? = some g₀) (hJ:p.J0=gs.size) (q:Pl) (hP:q.P=p.P) (hS:q.Sw=p.Sw) (hJ':q.J0=gs.size) (hd:q.dm=p.dm) (hn:q.n=0)
  (h0:q.h0=fun b=>W.heap[b]?) (r2:∀ b,q.Ro b->b<W.heap.size/\¬ p.Sw b) (o1:∀ b,O' b->b<W.heap.size/\¬ p.Sw b/\¬ q.Ro b) (hs:g₀.status = .running) (hR:Runs q.P true q.Ro (q.dS 0 []) g₀ W O') :
  G2 q gs W t (rl.set 0 (.run true (q.dS 0 []) g₀ W O')) (fun _=>none) 0 []:=by
 have eT:=(Array.getElem?_eq_some_iff.1 hg).1;have hlt:0<rl.length:=h.len ▸ eT;have e:bD (rl.set 0 (.run true (q.dS 0 []) g₀ W O'))=fun k b=>(k=0/\O' b)\/(k≠0/\bD rl k b):=kW hlt
 have gone:∀ k r,k≠0->rl[k]? = some r->(∃ n,r = .quit n)/\HO t k:=by
  intro k r hk0 h1;have hl:=(List.getElem?_eq_some_iff.1 h1).1;rw[h.len] at hl;have hf:=h.work k r gs[k] hk0 h1 (by simp[hl]);match r,hf with
  | .run ..,⟨a,_⟩=>omega
  | .idle ..,⟨a,_⟩=>omega
  | .quit n,⟨_,_,c⟩=>exact⟨⟨n,rfl⟩,c⟩
 have sub:∀ k b,bD (rl.set 0 (.run true (q.dS 0 []) g₀ W O')) k b->k=0/\O' b:=by
  intro k b hk;rw[e] at hk;rcases hk with⟨rfl,hb⟩|⟨hk,r,h1,h2⟩
  ·exact⟨rfl,hb⟩
  ·obtain⟨⟨n,rfl⟩,_⟩:=gone k r hk h1;exact h2.elim
 have lv:∀ k,q.live gs.size k->k=0:=by
  rintro k (hk | ⟨h1,h2⟩)
  ·exact hk
  ·omega
 have all:∀ b,¬ p.Sw b->∀ l,blk l=some b->∀ i a,touchAt t i=some a->a.loc=l->Knows t 0 i:=by
  intro b hb l hl i a ha hal;obtain⟨op,ho,hx⟩:=touch_of ha;by_cases hg0:op.g=0
  ·have:=knows_own ho;rwa [hg0] at this
  ·have hgl:=h.wi.ti.gs i op ho;obtain⟨r,hr⟩:∃ r,rl[op.g]? = some r:=⟨rl[op.g],by simp[hgl]⟩;refine (gone _ r hg0 hr).2 i (by rw[Trace.g?,ho];rfl) ⟨a,by rw[act?_of ho];exact hx,?_,.inl ?_⟩
   ·rw[hal];cases l<;>first | rfl | cases hl
   ·rcases h.wi.kX.2 i a ha with⟨b',h1,h2⟩ | h1
    ·rw[hal,hl] at h1;cases h1;exact absurd h2 hb
    ·rw[h1];exact fun h=>by cases h
 constructor
 ·simp[h.len]
 ·refine⟨⟨?_,?_,?_,?_,?_,?_,?_⟩,⟨?_,?_,?_,?_,?_,?_⟩,?_,by rw[hS];exact h.wi.kX⟩
  ·intro k k' b h1 h2;rw[(sub k b h1).1,(sub k' b h2).1]
  ·intro k b h1;exact (o1 b (sub k b h1).2).2.2
  ·intro k b h1;rw[hS];exact (o1 b (sub k b h1).2).2.1
  ·intro b hb;rw[hS];exact (r2 b hb).2
  ·intro k b h1;exact (o1 b (sub k b h1).2).1
  ·intro b hb;exact (r2 b hb).1
  ·rw[hS];exact h.wi.ap.kU
  ·rw[hS];exact h.wi.ti.quiet
  ·intro k b hl ho l hb;rw[(sub k b ho).1];exact all b (o1 b (sub k b ho).2).2.1 l hb
  ·intro k b hl hb l hlb;rw[lv k hl];exact fun i a ha e _=>all b (r2 b hb).2 l hlb i a ha e
  ·exact h.wi.ti.fresh
  ·exact h.wi.ti.nr
  ·rw[List.length_set];exact h.wi.ti.gs
  ·intro k hk;rw[lv k hk,h.wi.deaf 0 (.inl rfl)];simp[Pl.D,hd]
 ·intro hh;rw[hJ'] at hh;exact absurd hh (Nat.lt_irrefl _)
 ·intro hh;rw[hJ'] at hh;exact absurd hh (Nat.lt_irrefl _)
 ·intro hh;rw[hJ'] at hh;exact absurd hh (Nat.lt_irrefl _)
 ·intro b _ _ _;rw[h0]
 ·exact⟨_,_,List.getElem?_set_self hlt,hg,rfl,rfl,rfl,hs,hR,.refl ..⟩
 ·intro j r x hj e1 e2;rw[List.getElem?_set_ne (Ne.symm hj)] at e1;have hl:=(List.getElem?_eq_some_iff.1 e1).1;rw[h.len] at hl;have hf:=h.work j r x hj e1 e2;match r,hf with
  | .run ..,⟨a,_⟩=>omega
  | .idle ..,⟨a,_⟩=>omega
  | .quit _,⟨_,b,c⟩=>exact⟨by omega,by rw[hP];exact b,c⟩
 ·intro j i hi;cases hi
 ·intro j j' i hi;cases hi
 ·intro i hi;omega
 ·intro i hi;cases hi
 ·exact List.nodup_nil
 ·exact Nat.zero_le _
 ·intro hh;omega
 ·intro g1 w1 O1 e1;rw[List.getElem?_set_self hlt] at e1;cases e1
end
end Px
namespace Px
open Go Go.Conc
def Shut (w:World) (r s:Nat):Prop:=∃ tm,w.heap[r]? = some (.chan 0 #[] true s s tm)
theorem EJ {P:Program} {gs:Array Goroutine} {i r s:Nat} {g:Goroutine} {c:CommCase} {shape:CommShape} {w:World} {sl:Option (Nat×Nat)} (hs:c.send=none) (hr:c.chan = .chan (some r)) (hc:Shut w r s) (hp:partners gs r true = []) :
  ∃ d,communicate P { timers:=#[],alone:=none,slice:=sl } gs i g #[c] true shape w=(.next (crowd (gs.setIfInBounds i (g.finishComm P #[c] shape (0:Nat) c.zero false)) (w.at d) sl),#[⟨i,g.frame.fn,g.frame.place,.recvClosed r⟩]):=by
 obtain⟨tm,hc⟩:=hc;have hw:ways w gs c = [.closed]:=by
  unfold ways;simp only[hr,hc,hs,hp];simp
 obtain⟨a,d1,ha,GN⟩:=choose_lt (P:=P) (q:=.select 1) (w:=w) Nat.one_pos fun _ t=>yO Nat.one_pos t
 obtain⟨b,d2,hb,GQ⟩:=choose_lt (P:=P) (q:=.extern "which waiting goroutine is the partner" 1) (w:=w.at d1) Nat.one_pos fun _ t=>FE Nat.one_pos t
 have ha0:a=0:=by omega
 have hb0:b=0:=by omega
 subst ha0 hb0;refine⟨d2,?_⟩;unfold communicate;dsimp only
 rw[if_neg (by simp[hr,hc])];have hz:(#[c].zipIdx.toList.map fun (c,k)=>(k,c,ways w gs c)).filter (fun (_,_,ws)=>!ws.isEmpty) = [(0,c,[.closed])]:=by
  simp[hw]
 rw[hz];have hpick:Sem.run P (do
       let a <-choose (Question.select [(0,c,[Way.closed])].length)
       let b <-choose (Question.extern "which waiting goroutine is the partner" ([(0,c,[Way.closed])].getD a (0,default,[])).2.snd.length)
       pure (([(0,c,[Way.closed])].getD a (0,default,[])).fst,([(0,c,[Way.closed])].getD a (0,default,[])).2.fst,([(0,c,[Way.closed])].getD a (0,default,[])).2.snd.getD b Way.closed)) w = .ok (0,c,.closed) (w.at d2):=by
  rw[Sem.run_bind];show (Result.andThen (Sem.run P (choose (Question.select 1)) w) _)=_;rw[GN];simp only[Result.andThen_ok];rw[Sem.run_bind];show (Result.andThen (Sem.run P (choose (Question.extern "which waiting goroutine is the partner" 1)) (w.at d1)) _)=_;rw[GQ];rfl
 simp only[List.isEmpty_cons,Bool.false_eq_true,if_false,hpick,hr];rfl
theorem GY {w:World} {h:Goroutine} {c:CommCase} {sh:CommShape} {r s:Nat} (hs:h.status = .blocked) (ho:h.offers=some (#[c],sh)) (hr:c.chan = .chan (some r)) (hc:Shut w r s):h.again w = { h with status:=.running }:=by
 obtain⟨tm,hc⟩:=hc;obtain⟨fr,cl,st,dy,off⟩:=h;dsimp only at ho hs;subst ho hs;unfold Goroutine.again;dsimp only
 rw[if_pos (by simp[hr,hc])]
end Px
namespace Px
open Go Go.Conc
def Cl (Ro O:Nat->Prop) (F:World->Prop):Prop:=∀ w w₁,Keep Ro O w w₁->F w->F w₁
def RF (P:Program) (m:Bool) (Ro:Nat->Prop) (S:aF) (F:World->Prop) (g:Goroutine) (O:Nat->Prop):Prop:=∀ w,F w->Runs P m Ro S g w O
section
variable {P:Program} {m:Bool} {Ro O:Nat->Prop} {S:aF} {F:World->Prop} {b:Frame} {a:Act} {k:List Item} {cs:List Frame}
theorem jV {O:Nat->Prop} {w:World}:grow O w w=O:=by
 funext b;apply propext;exact⟨fun h=>h.elim id fun h=>by omega,.inl⟩
theorem jU.rest {w:World} {es:Array Event} (h:∀ e,e∈es->jE Ro O e):jU Ro O w w es:=⟨Nat.le_refl _,fun _ _ _=>rfl,rfl,rfl,rfl,by rw[jV];exact h⟩
theorem RF.go (hc:Cl Ro O F) {g g':Goroutine} {es:World->Array Event} (h:∀ w,F w->stepG P m g w = .go g' w (es w)) (he:∀ w,F w->∀ e,e∈es w->jE Ro O e) (hr:g'.status = .running) (hn:RF P m Ro S F g' O):RF P m Ro S F g O:=fun w hF=>
 .step (fun w₁ hk=>⟨g',w₁,_,h w₁ (hc w w₁ hk hF),hr,.rest (he w₁ (hc w w₁ hk hF))⟩) fun w₁ g'' w'' es hk e=>by
  rw[h w₁ (hc w w₁ hk hF)] at e;cases e;rw[jV];exact hn w₁ (hc w w₁ hk hF)
theorem RF.idle (hc:Cl Ro O F) {g g':Goroutine} (h:∀ w,stepG P m g w = .go g' w) (hr:g'.status = .running) (hn:RF P m Ro S F g' O):RF P m Ro S F g O:=
 .go hc (es:=fun _=>#[]) (fun w _=>h w) (fun _ _ e he=>by simp at he) hr hn
theorem RF.stop (hc:Cl Ro O F) {g:Goroutine} (h:∀ w,F w->S g w O):RF P m Ro S F g O:=fun w hF=>.stop fun w₁ hk=>h w₁ (hc w w₁ hk hF)
theorem Runs.bind {S':aF} {g:Goroutine} {w:World} (h:Runs P m Ro S g w O) (hn:∀ g w O,(∀ w₁,Keep Ro O w w₁->S g w₁ O)->Runs P m Ro S' g w O):Runs P m Ro S' g w O:=by
 induction h with
 | stop h=>exact hn _ _ _ h
 | step h1 h2 ih=>exact .step h1 ih
theorem RF.seq (hc:Cl Ro O F) {x y:Code} (hn:RF P m Ro S F (G (b.at a (.code x :: .code y::k)) cs) O):RF P m Ro S F (G (b.at a (.code (.seq x y)::k)) cs) O:=.idle hc (fun _=>stepG_seq) rfl hn
theorem RF.cond (hc:Cl Ro O F) {c:Operand} {x y:Code} {t:Bool} (ht:a.eval c = .bool t) (hn:RF P m Ro S F (G (b.at a (.code (if t=true then x else y)::k)) cs) O):RF P m Ro S F (G (b.at a (.code (.cond c x y)::k)) cs) O:=.idle hc (fun _=>stepG_cond ht) rfl hn
theorem RF.skip (hc:Cl Ro O F) (hn:RF P m Ro S F (G (b.at a k) cs) O):RF P m Ro S F (G (b.at a (.code .skip::k)) cs) O:=.idle hc (fun _=>stepG_skip) rfl hn
theorem RF.block (hc:Cl Ro O F) {id:Nat} {c:Code} (hn:RF P m Ro S F (G (b.at a (.code c :: .inBlock id::k)) cs) O):RF P m Ro S F (G (b.at a (.code (.block id c)::k)) cs) O:=.idle hc (fun _=>stepG_block) rfl hn
theorem RF.inBlock (hc:Cl Ro O F) {id:Nat} (hn:RF P m Ro S F (G (b.at a k) cs) O):RF P m Ro S F (G (b.at a (.inBlock id::k)) cs) O:=.idle hc (fun _=>stepG_inBlock) rfl hn
theorem RF.loop (hc:Cl Ro O F) {c:Code} (hn:RF P m Ro S F (G (b.at a (.code c :: .inLoop c::k)) cs) O):RF P m Ro S F (G (b.at a (.code (.loop c)::k)) cs) O:=.idle hc (fun _=>stepG_loop) rfl hn
theorem RF.inLoop (hc:Cl Ro O F) {c:Code} (hn:RF P m Ro S F (G (b.at a (.code c :: .inLoop c::k)) cs) O):RF P m Ro S F (G (b.at a (.inLoop c::k)) cs) O:=.idle hc (fun _=>stepG_inLoop) rfl hn
theorem RF.region (hc:Cl Ro O F) {id:Nat} {ops:Array Oper} (hn:RF P m Ro S F (G (b.at a (.inRegion ops (List.range ops.size)::k)) cs) O):RF P m Ro S F (G (b.at a (.code (.region id ops false)::k)) cs) O:=.idle hc (fun _=>stepG_region) rfl hn
theorem RF.lW (hc:Cl Ro O F) {ops:Array Oper} (hn:RF P m Ro S F (G (b.at a k) cs) O):RF P m Ro S F (G (b.at a (.inRegion ops []::k)) cs) O:=.idle hc (fun _=>stepG_region_end) rfl hn
theorem RF.value (hc:Cl Ro O F) {ops:Array Oper} {i:Nat} {rest:List Nat} {o:Oper} {v:Value} (ho:ops[i]? = some o) (hw:Region.wanted o (yielded ops a.tmps)=true) (hb:b.kind ≠ .early) (h:∀ w,F w->Sem.run P (execOp a.eval o) w = .ok (.value v) w)
  (he:∀ w,F w->∀ e,e∈listed P b.fn a o w->jE Ro O e) (hn:RF P m Ro S F (G (b.at (a.put o.dst v) (.inRegion ops rest::k)) cs) O):RF P m Ro S F (G (b.at a (.inRegion ops (i::rest)::k)) cs) O:=
 .go hc (fun w hF=>stepG_value ho hw hb (h w hF)) he rfl hn
theorem RF.enter (hc:Cl Ro O F) {ops:Array Oper} {i:Nat} {rest:List Nat} {o:Oper} {f:FuncId} {args:Array Value} (ho:ops[i]? = some o:=by simp only[List.getElem?_toArray,List.getElem?_cons_zero,List.getElem?_cons_succ] ;rfl) (hw:Region.wanted o (yielded ops a.tmps)=true:=by rfl) (hb:b.kind ≠ .early:=by decide) (h:∀ w,F w->Sem.run P (execOp a.eval o) w = .ok (.enter f args) w)
  (he:∀ w,F w->∀ e,e∈listed P b.fn a o w->jE Ro O e) (hn:RF P m Ro S F (G (Frame.enter P f args .normal) (b.at a (.inRegion ops (i::rest)::k)::cs)) O):RF P m Ro S F (G (b.at a (.inRegion ops (i::rest)::k)) cs) O:=
 .go hc (fun w hF=>stepG_enter ho hw hb (h w hF)) he rfl hn
end
theorem enter_at {P:Program} {f:FuncId} {fn:Func} {c:Code} {l:List Value} {n:Nat} (hf:P.funcs[f]? = some fn) (hb:fn.body=some c) (hn:fn.ntmps-l.length=n):Frame.enter P f l.toArray .normal=(base f).at { tmps:=(l++List.replicate n undef).toArray,defers:=[] } [.code c]:=by
 subst hn;unfold Frame.enter;rw[hf];simp only[Option.map_some,Option.getD_some,Option.bind_some,hb];rw[show l.toArray++Array.replicate (fn.ntmps-l.toArray.size) undef=(l++List.replicate (fn.ntmps-l.length) undef).toArray from by
  apply Array.toList_inj.1;rw[Array.toList_append,Array.toList_replicate];simp]
 rfl
theorem RF.pure {P:Program} {m:Bool} {Ro O:Nat->Prop} {S:aF} {F:World->Prop} {b:Frame} {a a':Act} {k:List Item} {cs:List Frame} (hc:Cl Ro O F) {ops:Array Oper} {i:Nat} {rest:List Nat} {o:Oper} {v:Value} (ho:ops[i]? = some o:=by simp only[List.getElem?_toArray,List.getElem?_cons_zero,List.getElem?_cons_succ] ;rfl) (hw:Region.wanted o (yielded ops a.tmps)=true:=by rfl) (hb:b.kind ≠ .early:=by decide) (h:∀ w,Sem.run P (execOp a.eval o) w = .ok (.value v) w:=by intro w;first | rfl | (simp only[Go.execOp];simp[go_sem];try rfl))
  (he:∀ w,listed P b.fn a o w=#[]:=by intro w;rfl) {d:Option Tmp} (hd:o.dst=d:=by rfl) (hp:a.put d v=a':=by simp only[Go.Act.put,Go.Act.eval,Array.getD_eq_getD_getElem?,List.getElem?_toArray,List.getElem?_cons_zero,List.getElem?_cons_succ,Option.getD_some,List.setIfInBounds_toArray,List.set_cons_zero,List.set_cons_succ,List.getElem_toArray,List.getElem_cons_zero,List.getElem_cons_succ] ;rfl) (hn:RF P m Ro S F (G (b.at a' (.inRegion ops rest::k)) cs) O):RF P m Ro S F (G (b.at a (.inRegion ops (i::rest)::k)) cs) O:=
 RF.value hc ho hw hb (fun w _=>h w) (fun w _ e hm=>by rw[he w] at hm;simp at hm) (by rw[hd,hp];exact hn)
theorem RF.reads {P:Program} {m:Bool} {Ro O:Nat->Prop} {S:aF} {F:World->Prop} {b:Frame} {a a':Act} {k:List Item} {cs:List Frame} (hc:Cl Ro O F) {ops:Array Oper} {i:Nat} {rest:List Nat} {o:Oper} {v:Value} (ho:ops[i]? = some o:=by simp only[List.getElem?_toArray,List.getElem?_cons_zero,List.getElem?_cons_succ] ;rfl) (hw:Region.wanted o (yielded ops a.tmps)=true:=by rfl) (hb:b.kind ≠ .early:=by decide) (h:∀ w,F w->Sem.run P (execOp a.eval o) w = .ok (.value v) w)
  (he:∀ w,F w->∀ e,e∈Sem.events P (execOp a.eval o) w #[]->jE Ro O e) {d:Option Tmp} (hd:o.dst=d:=by rfl) (hp:a.put d v=a':=by simp only[Go.Act.put,Go.Act.eval,Array.getD_eq_getD_getElem?,List.getElem?_toArray,List.getElem?_cons_zero,List.getElem?_cons_succ,Option.getD_some,List.setIfInBounds_toArray,List.set_cons_zero,List.set_cons_succ,List.getElem_toArray,List.getElem_cons_zero,List.getElem_cons_succ] ;rfl) (hn:RF P m Ro S F (G (b.at a' (.inRegion ops rest::k)) cs) O):RF P m Ro S F (G (b.at a (.inRegion ops (i::rest)::k)) cs) O:=
 RF.value hc ho hw hb h (fun w hF e hm=>he w hF e (mem_listed hm)) (by rw[hd,hp];exact hn)
theorem EK {P:Program} {f:FuncId} (args:Array Value) {fn:Func} (h:P.funcs[f]? = some fn) (hn:(fn.name == "runtime.NumGoroutine")=false) (hb:fn.body.isNone=false) (w:World) (es:Array Event):Sem.events P (callFunc f args) w es=es:=by
 unfold callFunc;rw[Sem.events_bind,events_program];simp only[show Sem.run P program w = .ok P w from rfl,Result.evThen,h,hn,hb,Bool.false_eq_true,if_false];exact Sem.events_pure' ..
end Px
namespace Px
open Go Go.Conc
def qo (P:Program) (S:Goroutine->Prop):Nat->Goroutine->Prop
 | 0,g=>g.status = .running/\S g
 | q+1,g=>g.status = .running/\(S g\/∀ w,∃ g',stepG P false g w = .go g' w/\qo P S q g')
theorem qo.running {P:Program} {S:Goroutine->Prop} {q:Nat} {g:Goroutine} (h:qo P S q g):g.status = .running:=by
 cases q<;>exact h.1
structure Dg where
 P:Program
 Sw:Nat->Prop
 Ro:Nat->Prop
 h0:Nat->Option Obj
 D:Nat->Nat
 L:Nat->Prop
 st:Nat->aF
 qt:Nat->Goroutine->Prop
 iw:Nat->aF
 T:Nat->Trace->Prop
structure Dg.Ok (p:Dg):Prop where
 tr:∀ j t u,p.T j t->(∀ op∈u,op.g=j->op.act.touch? = none)->p.T j (t++u)
def jl (p:Dg) (j:Nat):aT->Goroutine->World->Trace->Prop
 | .run m S g w O,x,W,_=>p.L j/\m=(j==0)/\S=p.st j/\x=g/\x.status = .running/\Runs p.P m p.Ro S g w O/\Keep p.Ro O w W
 | .idle g w O,x,W,_=>p.L j/\(x=g\/x = { g with status:=.running })/\(g.status = .running\/(j=0/\g.status = .blocked))/\Keep p.Ro O w W/\p.iw j g w O
 | .quit q,x,_,t=>j≠0/\p.T j t/\((¬ p.L j/\QuitsD p.P q (Deaf t j) x)\/(p.L j/\qo p.P (p.qt j) q x))
structure GD (p:Dg) (gs:Array Goroutine) (W:World) (t:Trace) (rl:List aT):Prop where
 len:rl.length=gs.size
 wi:WI p.Sw p.L p.D p.Ro rl W t
 fx:∀ b,p.Sw b->W.heap[b]? = p.h0 b
 fit:∀ j r x,rl[j]? = some r->gs[j]? = some x->jl p j r x W t
 pos:0<gs.size
section
variable {p:Dg} {gs gs':Array Goroutine} {W W':World} {t t' u:Trace} {rl rl':List aT}
theorem J3 {w:World} {x:Goroutine}:x.again w=x\/x.again w = { x with status:=.running }:=by
 unfold Goroutine.again;split
 ·dsimp only
  split
  ·exact .inr rfl
  ·exact .inl rfl
 ·exact .inr rfl
 ·exact .inr rfl
 ·exact .inl rfl
theorem jl.woken {j:Nat} {r:aT} {x:Goroutine} (h:jl p j r x W t) (g g':Goroutine) (w':World):jl p j r (Conc.woken p.P g g' w' x) W t:=by
 unfold Conc.woken;split
 ·match r,h with
  | .run ..,⟨a,b,c,d,e,f,k⟩=>rw[gT (.inl e)];exact⟨a,b,c,d,e,f,k⟩
  | .idle g0 w0 O,⟨a,b,c,d⟩=>
   refine⟨a,?_,c,d⟩;rcases J3 (w:=w') (x:=x) with e | e<;>rw[e]
   ·exact b
   ·rcases b with rfl | rfl
    ·exact .inr rfl
    ·exact .inr rfl
  | .quit q,⟨a,b,c⟩=>
   rw[gT (c.elim (fun h=>gU h.2) fun h=>.inl h.2.running)];exact⟨a,b,c⟩
 ·exact h
theorem jl.mono (o:p.Ok) {j:Nat} {r:aT} {x:Goroutine} (h:jl p j r x W t) (hk:Keep p.Ro r.own W W') (hu:∀ op∈u,op.g=j->op.act.touch? = none) (hd:¬ p.L j->Deaf (t++u) j=Deaf t j):jl p j r x W' (t++u):=by
 match r,h with
 | .run ..,⟨a,b,c,d,e,f,k⟩=>exact⟨a,b,c,d,e,f,k.trans hk⟩
 | .idle ..,⟨a,b,c,d,e⟩=>exact⟨a,b,c,d.trans hk,e⟩
 | .quit q,⟨a,b,c⟩=>exact⟨a,o.tr _ _ _ b hu,c.imp (fun h=>⟨h.1,by rw[hd h.1];exact h.2⟩) id⟩
theorem GD.one (o:p.Ok) (h:GD p gs W t rl) {j:Nat} {r':aT} {g g':Goroutine} (gw:Goroutine) (hj:j<gs.size) (wi:WI p.Sw p.L p.D p.Ro (rl.set j r') W' (t++u)) (fx:∀ b,p.Sw b->W'.heap[b]? = W.heap[b]?) (keep:∀ k r,k≠j->rl[k]? = some r->Keep p.Ro r.own W W') (hu:∀ op∈u,op.g=j)
  (fit:jl p j r' g' W' (t++u)):GD p ((gs.map (Conc.woken p.P g gw W')).setIfInBounds j g') W' (t++u) (rl.set j r'):=by
 have hlt:j<rl.length:=h.len ▸ hj;refine⟨by simp[h.len],wi,fun b hb=>(fx b hb).trans (h.fx b hb),fun k r x hr hx=>?_,by simpa using h.pos⟩;by_cases hk:k=j
 ·subst hk;rw[List.getElem?_set_self hlt] at hr;cases hr;rw[get_set_same (by simpa using hj)] at hx;cases hx;exact fit
 ·rw[List.getElem?_set_ne (Ne.symm hk)] at hr;rw[aV (Ne.symm hk),Array.getElem?_map] at hx;cases hg:gs[k]? with
  | none=>rw[hg] at hx;cases hx
  | some y=>
   rw[hg] at hx;simp only[Option.map_some,Option.some.injEq] at hx;subst hx;exact ((h.fit k r y hr hg).mono o (keep k r hk hr) (fun op hop e=>absurd (e.symm.trans (hu op hop)) hk) fun _=>Deaf_other t (Ne.symm hk) u hu).woken _ _ _
theorem GD.own (o:p.Ok) (h:GD p gs W t rl) {j:Nat} {m:Bool} {S:aF} {g g':Goroutine} {w w':World} {O:Nat->Prop} {es:Array Event} (fn:FuncId) (pos:String) (hj:rl[j]? = some (.run m S g w O)) (hf:jU p.Ro O W w' es) (hs:g'.status = .running) (hr:Runs p.P m p.Ro S g' w' (grow O W w')) :
  GD p ((gs.map (Conc.woken p.P g g' w')).setIfInBounds j g') w' (t++MemOp.ofEvents j fn pos es) (rl.set j (.run m S g' w' (grow O W w'))):=by
 have hlt:=(List.getElem?_eq_some_iff.1 hj).1;have eT:j<gs.size:=h.len ▸ hlt;obtain⟨x,hx⟩:∃ x,gs[j]? = some x:=⟨gs[j],by simp[eT]⟩;obtain⟨a,b,c,d,e,f,k⟩:=h.fit j _ x hj hx;exact h.one o g' eT (h.wi.step hj a hf) (fun b hb=>hf.old b (h.wi.ap.kU b hb) fun ho=>h.wi.ap.sw j b ⟨_,hj,ho⟩ hb) (fun k r hk hr=>keep_other h.wi.ap hj hr hk hf (.refl ..)) ConcR.g_of_ofEvents ⟨a,b,c,rfl,hs,hr,.refl ..⟩
theorem GD.at (o:p.Ok) (h:GD p gs W t rl) (d:Nat):GD p gs (W.at d) t rl:=
 ⟨h.len,⟨h.wi.ap,h.wi.ti,h.wi.deaf,h.wi.kX⟩,h.fx,fun j r x hr hx=>by
  have:=(h.fit j r x hr hx).mono o (u:=#[]) (gD _ _ _ d) (fun op hop=>by simp at hop) fun _=>by rw[Array.append_empty]
  rwa [Array.append_empty] at this,h.pos⟩
theorem GD.mute (o:p.Ok) (h:GD p gs W t rl) {j:Nat} {r r':aT} {g g':Goroutine} {es:Array Event} (fn:FuncId) (pos:String) (gw:Goroutine) (hj:rl[j]? = some r) (hown:r'.own=r.own) (hm:∀ e,e∈es->(MemAct.ofEvent e).touch? = none) (hnr:∀ e,e∈es->∀ a,MemAct.ofEvent e ≠ .mark (.release a)) (hd:p.L j->Deaf (t++MemOp.ofEvents j fn pos es) j=Deaf t j)
  (fit:jl p j r' g' W (t++MemOp.ofEvents j fn pos es)):GD p ((gs.map (Conc.woken p.P g gw W)).setIfInBounds j g') W (t++MemOp.ofEvents j fn pos es) (rl.set j r'):=by
 have hlt:=(List.getElem?_eq_some_iff.1 hj).1;have eT:j<gs.size:=h.len ▸ hlt;have e:bD (rl.set j r')=bD rl:=lu hj hown;have ops:∀ op∈MemOp.ofEvents j fn pos es,op.act.touch? = none/\op.g<rl.length:=by
  intro op hop;refine⟨?_,by rw[ConcR.g_of_ofEvents op hop];exact hlt⟩;unfold MemOp.ofEvents at hop;split at hop
  ·simp at hop
  ·obtain⟨e,he,rfl⟩:=Array.mem_map.1 hop;exact hm e he
 refine h.one o gw eT ?_ (fun _ _=>rfl) (fun _ _ _ _=>.refl ..) ConcR.g_of_ofEvents fit;refine⟨by rw[e];exact h.wi.ap,?_,fun k hk=>?_,kY h.wi.kX fun op hop=>.none (fun a=>?_) (ops op hop).1⟩
 ·rw[e,List.length_set];exact h.wi.ti.still (Nat.le_refl _) ops (fun g b hl ho=>⟨g,hl,ho,fun i hi=>hi.app _⟩) fun g hl=>⟨g,hl,fun i hi=>hi.app _⟩
 ·by_cases hkj:k=j
  ·subst hkj;rw[hd hk];exact h.wi.deaf k hk
  ·rw[Deaf_other t (Ne.symm hkj) _ ConcR.g_of_ofEvents];exact h.wi.deaf k hk
 ·unfold MemOp.ofEvents at hop;split at hop
  ·simp at hop
  ·obtain⟨e,he,rfl⟩:=Array.mem_map.1 hop;exact hnr e he a
theorem GD.silent (o:p.Ok) (h:GD p gs W t rl) {j q:Nat} {g:Goroutine} (hj:rl[j]? = some (.quit q)) (hg:gs[j]? = some g) (hr:g.status = .running) (hne:¬ (p.L j/\p.qt j g)):∃ g' es q',q=q'+1/\stepG p.P false g W = .go g' W es /\
  ∀ fn pos,GD p ((gs.map (Conc.woken p.P g g' W)).setIfInBounds j g') W (t++MemOp.ofEvents j fn pos es) (rl.set j (.quit q')):=by
 obtain⟨hj0,hT,hq⟩:=h.fit j _ g hj hg;cases q with
 | zero=>
  rcases hq with⟨_,hq⟩|⟨hl,hq⟩
  ·rw[hq.1] at hr;cases hr
  ·exact absurd ⟨hl,hq.2⟩ hne
 | succ q=>
  rcases hq with⟨hl,hq⟩|⟨hl,_,hq⟩
  ·rcases hq with⟨h1,_⟩|⟨_,g',es,hm,hs,hq⟩
   ·rw[h1] at hr;cases hr
   ·refine⟨g',es,q,rfl,hs W,fun fn pos=>?_⟩;have hm':∀ e,e∈es->(MemAct.ofEvent e).touch? = none:=by
     intro e he;have:=hm e he;unfold Event.mute at this;split at this<;>first | rfl | cases this
    have hnr:∀ e,e∈es->∀ a,MemAct.ofEvent e ≠ .mark (.release a):=by
     intro e he a;have:=hm e he;unfold Event.mute at this;split at this<;>first | exact fun h=>by cases h | cases this
    refine h.mute o fn pos g' hj rfl hm' hnr (fun h=>absurd h hl) ⟨hj0,o.tr _ _ _ hT fun op hop _=>?_,.inl ⟨hl,by rw[Deaf_own];exact hq⟩⟩;unfold MemOp.ofEvents at hop;split at hop
    ·simp at hop
    ·obtain⟨e,he,rfl⟩:=Array.mem_map.1 hop;exact hm' e he
  ·obtain⟨g',hs,hq⟩:=hq.resolve_left (fun h=>hne ⟨hl,h⟩) W;refine⟨g',#[],q,rfl,hs,fun fn pos=>?_⟩;have e0:t++MemOp.ofEvents j fn pos #[]=t:=by simp[MemOp.ofEvents]
   refine h.mute o fn pos g' hj rfl (fun e he=>by simp at he) (fun e he=>by simp at he) (fun _=>by rw[e0]) ⟨hj0,by rw[e0];exact hT,.inr ⟨hl,hq⟩⟩
theorem GD.MO (h:GD p gs W t rl):Acc (LL (Bb p.P p.Ro)) rl:=by
 refine xM fun r hr=>?_
 obtain⟨j,hj⟩:=List.mem_iff_getElem?.1 hr;have hlt:=(List.getElem?_eq_some_iff.1 hj).1;have h3:=h.fit j r (gs[j]'(by rw[<-h.len];exact hlt)) hj (by simp);match r,h3 with
 | .run ..,⟨_,_,_,_,_,h4,_⟩=>exact h4.acc
 | .idle ..,_=>exact pG
 | .quit _,_=>exact C8 _
theorem GD.awake (h:GD p gs W t rl):∀ g,g∈gs->awake g:=by
 intro g hg k e;obtain⟨j,hj⟩:=Array.mem_iff_getElem?.1 hg;have hlt:=(Array.getElem?_eq_some_iff.1 hj).1;obtain⟨r,hr⟩:∃ r,rl[j]? = some r:=⟨rl[j]'(by rw[h.len];exact hlt),by simp⟩;have h3:=h.fit j r g hr hj;match r,h3 with
 | .run ..,⟨_,_,_,_,h4,_⟩=>rw[e] at h4;cases h4
 | .idle ..,⟨_,h4,h5,_⟩=>
  rcases h4 with rfl | rfl
  ·rcases h5 with h5 | ⟨_,h5⟩<;>(rw[e] at h5;cases h5)
  ·cases e
 | .quit _,⟨_,_,h4⟩=>
  rcases h4 with⟨_,h4⟩|⟨_,h4⟩
  ·rcases gU h4 with h | h<;>(rw[e] at h;cases h)
  ·rw[h4.running] at e;cases e
def Da (p:Dg) (rl:List aT) (i:Nat) (g:Goroutine):Prop:=(∃ m g w O,rl[i]? = some (.run m (p.st i) g w O)/\∀ w₁,Keep p.Ro O w w₁->p.st i g w₁ O)\/(∃ g w O,rl[i]? = some (.idle g w O))\/((∃ q,rl[i]? = some (.quit q))/\p.L i/\p.qt i g)
theorem drive (o:p.Ok) {Q:Machine->Outcome->World->Trace->Prop} {N:Nat} (hrun:∀ gs W t rl,GD p gs W t rl->gs.size=N->∃ (i:Nat) (g:Goroutine),gs[i]? = some g/\g.status = .running)
  (Ev:∀ gs W t rl,GD p gs W t rl->gs.size=N->∀ i g d sl,gs[i]? = some g->g.status = .running->Da p rl i g->(i=0->∀ x',x'.status = .blocked->GD p (gs.setIfInBounds 0 x') (W.at d) t rl->dM p.P Q (gs.setIfInBounds 0 x') (W.at d) t)->eU p.P Q gs W t i d sl) :
  ∀ gs W t rl,GD p gs W t rl->gs.size=N->dM p.P Q gs W t:=by
 intro gs W t rl h hN;have acc:=h.MO;induction acc generalizing gs W t with
 | intro rl _ ih=>
  have main:∀ gs W t,GD p gs W t rl->gs.size=N->(∀ d x',gs[0]?.map (·.status)=some .running->x'.status = .blocked->GD p (gs.setIfInBounds 0 x') (W.at d) t rl->dM p.P Q (gs.setIfInBounds 0 x') (W.at d) t)->dM p.P Q gs W t:=by
   intro gs W t h hN J4;refine zX h.awake (hrun _ _ _ _ h hN) fun i g d sl hg hr=>?_
   have hW:=h.at o d;have hlt:=(Array.getElem?_eq_some_iff.1 hg).1;obtain⟨r,nL⟩:∃ r,rl[i]? = some r:=⟨rl[i]'(by rw[h.len];exact hlt),by simp⟩;have hf:=h.fit i r g nL hg;have ev:Da p rl i g->eU p.P Q gs W t i d sl:=fun hE=>Ev _ _ _ _ h hN i g d sl hg hr hE fun hi x' hx hG=>J4 d x' (by subst hi;rw[hg,<-hr];rfl) hx hG
   match r,hf with
   | .run m S g' w O,⟨_,e1,e2,e3,_,hR,hk⟩=>
    subst e1 e2 e3;by_cases hst:∀ w₁,Keep p.Ro O w w₁->p.st i g w₁ O
    ·exact ev (.inl ⟨_,_,_,_,nL,hst⟩)
    ·cases hR with
     | stop h=>exact absurd h hst
     | step h1 h2=>
      have hkd:Keep p.Ro O w (W.at d):=hk.trans (gD ..);obtain⟨g',w',es,s1,s2,s3⟩:=h1 _ hkd;refine .inl ⟨_,_,_,runT_crowd_go hg s1,ih _ (.mk nL (.step hst hkd s1)) _ _ _ (hW.own o _ _ nL s3 s2 (h2 _ _ _ _ hkd s1)) (by simpa using hN)⟩
   | .idle ..,_=>exact ev (.inr (.inl ⟨_,_,_,nL⟩))
   | .quit q,hf=>
    by_cases hq:p.L i/\p.qt i g
    ·exact ev (.inr (.inr ⟨⟨_,nL⟩,hq⟩))
    ·obtain⟨g',es,q',rfl,s1,hG⟩:=hW.silent o nL hg hr hq;have hm:(i==0)=false:=beq_eq_false_iff_ne.2 hf.1;refine .inl ⟨_,_,_,runT_crowd_go hg (by rw[hm];exact s1),ih _ (.mk nL .quit) _ _ _ (hG _ _) (by simpa using hN)⟩
  refine main gs W t h hN fun d x' _ hx hG=>main _ _ _ hG (by simpa using hN) fun d' x'' hr=>?_
  rw[get_set_same h.pos] at hr;simp only[Option.map_some,Option.some.injEq] at hr;rw[hx] at hr;cases hr
end
end Px
namespace Px
open Go Go.Conc
section
variable {p q:Dg} {gs:Array Goroutine} {W W':World} {t u:Trace} {rl:List aT}
theorem jl.to {k:Nat} {r:aT} {x:Goroutine} (hP:q.P=p.P) (dx:q.Ro=p.Ro) (hL:p.L k->q.L k) (hL':q.L k->p.L k) (hst:q.st k=p.st k) (Y9:q.qt k=p.qt k) (hiw:q.iw k=p.iw k) (hT:p.T k t->q.T k t) (h:jl p k r x W t):jl q k r x W t:=by
 match r,h with
 | .run ..,⟨a,b,c,d,e,f,g⟩=>exact⟨hL a,b,c.trans hst.symm,d,e,by rw[hP,dx];exact f,dx ▸ g⟩
 | .idle ..,⟨a,b,c,d,e⟩=>exact⟨hL a,b,c,dx ▸ d,by rw[hiw];exact e⟩
 | .quit _,⟨a,b,c⟩=>exact⟨a,hT b,c.imp (fun h=>⟨fun hq=>h.1 (hL' hq),hP ▸ h.2⟩) fun h=>⟨hL h.1,by rw[hP,Y9];exact h.2⟩⟩
theorem TI.fewer {Sw:Nat->Prop} {n N:Nat} {live vZ:Nat->Prop} {Own:Nat->Nat->Prop} {Ro:Nat->Prop} (h:TI Sw n live Own Ro t N) (hl:∀ k,vZ k->live k):TI Sw n vZ Own Ro t N:=
 ⟨h.quiet,fun g b hg=>h.own g b (hl g hg),fun g b hg=>h.ro g b (hl g hg),h.fresh,h.nr,h.gs⟩
theorem GD.event (oq:q.Ok) (h:GD p gs W t rl) (hP:q.P=p.P) (hS:q.Sw=p.Sw) (dx:q.Ro=p.Ro) {j:Nat} {r r':aT} {g g':Goroutine} (gw:Goroutine) (hj:rl[j]? = some r) (hl:p.L j) (hL':∀ k,q.L k->p.L k) (hL:∀ k,k≠j->p.L k->q.L k) (hst:∀ k,k≠j->q.st k=p.st k/\q.qt k=p.qt k/\q.iw k=p.iw k/\q.D k=p.D k)
  (hT:∀ k,k≠j->p.T k t->q.T k t) (size:W'.heap.size=W.heap.size) (old:∀ b,¬ p.Sw b->W'.heap[b]? = W.heap[b]?) (fx:∀ b,p.Sw b->W'.heap[b]? = q.h0 b) (own:∀ b,r'.own b->r.own b) (hu:∀ op∈u,OkG p.Sw j r'.own p.Ro op) (hnr:∀ op∈u,Nt p.Sw op) (hd:q.L j->Deaf (t++u) j=q.D j)
  (fit:jl q j r' g' W' (t++u)) (gM:W'.os=W.os/\W'.output=W.output:=by exact⟨rfl,rfl⟩):GD q ((gs.map (Conc.woken p.P g gw W')).setIfInBounds j g') W' (t++u) (rl.set j r'):=by
 have hlt:=(List.getElem?_eq_some_iff.1 hj).1;have eT:j<gs.size:=h.len ▸ hlt;have hu0:∀ op∈u,op.g=j:=fun op hop=>(hu op hop).1
 have e:bD (rl.set j r')=fun k b=>(k=j/\r'.own b)\/(k≠j/\bD rl k b):=kW hlt
 have e0:∀ k b,bD (rl.set j r') k b->bD rl k b:=by
  intro k b hk;rw[e] at hk;rcases hk with⟨rfl,hb⟩|⟨_,hb⟩
  ·exact⟨r,hj,own b hb⟩
  ·exact hb
 obtain⟨A',T'⟩:=TI.give (u:=u) (n':=W'.heap.size) h.wi.ap h.wi.ti hl hlt (Nat.le_of_eq size.symm) (fun b hb=>hb) (fun b hb=>.inl hb) (Own':=bD (rl.set j r')) (fun k b hk=>.inl (e0 k b hk)) (fun k b hk=>h.wi.ap.sw _ _ (e0 k b hk)) fun op hop=>⟨(hu op hop).1,fun x hx=>
  ((hu op hop).2 x hx).imp id fun ⟨b,h1,h2⟩=>⟨b,h1,h2.imp (fun h=>by rw[e];exact .inl ⟨rfl,h⟩) id⟩⟩
 have keep:∀ (k:Nat) (r2:aT),rl[k]? = some r2->Keep p.Ro r2.own W W':=fun k r2 hr=>⟨Nat.le_of_eq size.symm,fun b hb=>old b fun hsw=>hb.elim (fun hb=>h.wi.ap.lS b hb hsw) fun hb=>h.wi.ap.sw k b ⟨_,hr,hb⟩ hsw,gM⟩
 refine⟨by simp[h.len],?_,fun b hb=>fx b (hS ▸ hb),fun k r2 x hr hx=>?_,by simpa using h.pos⟩
 ·rw[hS,dx];refine⟨A',by rw[List.length_set];exact T'.fewer hL',fun k hk=>?_,kY h.wi.kX hnr⟩;by_cases hkj:k=j
  ·subst hkj;exact hd hk
  ·rw[Deaf_other t (Ne.symm hkj) u hu0,(hst k hkj).2.2.2];exact h.wi.deaf k (hL' k hk)
 ·by_cases hk:k=j
  ·subst hk;rw[List.getElem?_set_self hlt] at hr;cases hr;rw[get_set_same (by simpa using eT)] at hx;cases hx;exact fit
  ·rw[List.getElem?_set_ne (Ne.symm hk)] at hr;rw[aV (Ne.symm hk),Array.getElem?_map] at hx;cases hg:gs[k]? with
   | none=>rw[hg] at hx;cases hx
   | some y=>
    rw[hg] at hx;simp only[Option.map_some,Option.some.injEq] at hx;subst hx;obtain⟨s1,s2,s3,_⟩:=hst k hk;have f1:jl q k r2 y W t:=jl.to hP dx (hL k hk) (hL' k) s1 s2 s3 (hT k hk) (h.fit k r2 y hr hg);have f2:=f1.mono oq (u:=u) (W':=W') (dx ▸ keep k r2 hr) (fun op hop e=>absurd (e.symm.trans (hu0 op hop)) hk) fun _=>Deaf_other t (Ne.symm hk) u hu0
    have:=f2.woken g gw W';rwa [hP] at this
end
end Px
namespace Px
open Go Go.Conc
structure Gp where
 P:Program
 Ro:Nat->Prop
 ty:TypeId
 Wg:Nat
 cn:Nat
 eR:Value
def Gp.at (p:Gp) (w:World) (st sm:Int):Prop:=ConcR.WgAt p.ty p.Wg w st sm
def Gp.stA (p:Gp):Addr:=ConcR.stA p.Wg
def Gp.smA (p:Gp):Addr:=ConcR.smA p.Wg
def AtD4 (p:Gp) (g:Goroutine):Prop:=mayWake p.P g=true/\∀ w,p.at w 0 0->∃ g',stepG p.P false g w = .go g' (w.setCell p.smA (.int .u32 1)) (semEvents p.smA)/\∃ q,QuitsD p.P q 1 g'
def AtD3 (p:Gp) (g:Goroutine):Prop:=∀ w,p.at w 1 0->∃ g',stepG p.P false g w = .go g' (w.setCell p.stA (.int .u64 0)) #[ConcR.wr p.stA]/\∃ q,qo p.P (AtD4 p) q g'
def AtD2 (p:Gp) (g:Goroutine):Prop:=∀ w,p.at w 1 0->∃ g',stepG p.P false g w = .go g' w #[ConcR.rd p.stA]/\∃ q,qo p.P (AtD3 p) q g'
def AtD1 (p:Gp) (g:Goroutine):Prop:=∀ (w:World) (v wt:Nat),wt<=1->v<2147483647->p.at w (((v:Int)+1)*ConcR.KK+wt) 0->∃ g',stepG p.P false g w = .go g' (w.setCell p.stA (.int .u64 ((v:Int)*ConcR.KK+wt))) #[ConcR.rd p.stA,ConcR.wr p.stA] /\
 ((v=0/\wt=1)->∃ q,qo p.P (AtD2 p) q g')/\(¬ (v=0/\wt=1)->∃ q,QuitsD p.P q 1 g')
def AtK1 (p:Gp) (g:Goroutine):Prop:=∀ w,∃ g',stepG p.P false g w = .go g' w #[ConcR.mk .disable]/\∃ q,qo p.P (AtD1 p) q g'
def AtR0 (p:Gp) (g:Goroutine):Prop:=∀ w,∃ g',stepG p.P false g w = .go g' w #[ConcR.mk (.releaseMerge p.stA)]/\∃ q,qo p.P (AtK1 p) q g'
def uJ (p:Gp) (g:Goroutine):Prop:=∀ w st sm,p.at w st sm->∃ g',stepG p.P false g w = .go g' w #[]/\∃ q,qo p.P (AtR0 p) q g'
def mP (p:Gp) (g:Goroutine):Prop:=∀ w,∃ g1,stepG p.P false g w = .comm g1 #[⟨.chan (some p.cn),none,p.eR⟩] true (.recv true) w #[]/\∃ q,qo p.P (uJ p) q (g1.finishComm p.P #[⟨.chan (some p.cn),none,p.eR⟩] (.recv true) (0:Nat) p.eR false)
section
variable (p:Gp) (Nx:aF)
def uK:aF:=fun g w O=>∃ g',stepG p.P true g w = .go g' w #[ConcR.mk (.acquire p.stA)]/\g'.status = .running/\∀ w',Keep p.Ro O w w'->Nx g' w' O
def FI:aF:=fun g w O=>∀ st sm,p.at w st sm->∃ g',stepG p.P true g w = .go g' w #[]/\g'.status = .running/\Runs p.P true p.Ro (uK p Nx) g' w O
def Bf:aF:=fun g w O=>∃ g',stepG p.P true g w = .go g' w #[ConcR.mk .enable]/\g'.status = .running/\Runs p.P true p.Ro (FI p Nx) g' w O
def OH:aF:=fun g w O=>p.at w 0 0->∃ g',stepG p.P true g w = .go g' w #[ConcR.rd p.stA]/\g'.status = .running/\Runs p.P true p.Ro (Bf p Nx) g' w O
def Db:aF:=fun g w O=>g.status = .running/\g.offers=none/\(∀ st,p.at w st 0->stepG p.P true g w = .go { g with status:=.blocked } w) /\
 (p.at w 0 1->∃ g',stepG p.P true g w = .go g' (w.setCell p.smA (.int .u32 0)) (semEvents p.smA)/\g'.status = .running/\Runs p.P true p.Ro (OH p Nx) g' (w.setCell p.smA (.int .u32 0)) O)
def OI (sd:Array Event):aF:=fun g w O=>∃ g',stepG p.P true g w = .go g' w sd/\g'.status = .running/\Runs p.P true p.Ro (Db p Nx) g' w O
def OJ (sd:Array Event):aF:=fun g w O=>∀ st sm,p.at w st sm->∃ g',stepG p.P true g w = .go g' w #[]/\g'.status = .running/\Runs p.P true p.Ro (OI p Nx sd) g' w O
def J5 (sd:Array Event) (M1:aF) (vs:Nat):aF:=fun g w O=>∀ v:Nat,v<2147483648->p.at w ((v:Int)*ConcR.KK) 0 ->
 (v=vs->∃ g',stepG p.P true g w = .go g' (w.setCell p.stA (.int .u64 ((v:Int)*ConcR.KK+1))) #[ConcR.rd p.stA,ConcR.wr p.stA]/\g'.status = .running/\Runs p.P true p.Ro (OJ p Nx sd) g' (w.setCell p.stA (.int .u64 ((v:Int)*ConcR.KK+1))) O) /\
 (v≠vs->∃ g',stepG p.P true g w = .go g' w #[ConcR.rd p.stA]/\g'.status = .running/\Runs p.P true p.Ro M1 g' w O)
def MQ (sd:Array Event) (M1:aF):Prop:=∀ g w O,M1 g w O->∀ v:Nat,v<2147483648->p.at w ((v:Int)*ConcR.KK) 0->∃ g',stepG p.P true g w = .go g' w #[ConcR.rd p.stA]/\g'.status = .running /\
 (v=0->Runs p.P true p.Ro (Bf p Nx) g' w O)/\(v≠0->Runs p.P true p.Ro (J5 p Nx sd M1 v) g' w O)
def uL (M1:aF):aF:=fun g w O=>∃ g',stepG p.P true g w = .go g' w #[ConcR.mk .disable]/\g'.status = .running/\Runs p.P true p.Ro M1 g' w O
end
end Px
namespace Px
open Go Go.Conc
def Rl (a:Addr) (t:Trace) (j:Nat):Prop:=∃ r,ConcN.RelBy a t j r
theorem xQ {a:Addr} {t:Trace} {j:Nat} {y:MemOp} (h:Rl a t j) (hy:y.g=j->y.act.touch? = none\/((∀ x,y.act.touch? = some x->x.kind = .atomic)/\Deaf t j≠0)):Rl a (t++#[y]) j:=by
 obtain⟨r,h1,h2,h3,h4⟩:=h;obtain⟨z,hz,hzg⟩:∃ z,t[r]? = some z/\z.g=j:=by
  unfold Trace.g? at h2;cases hz:t[r]? with
  | none=>rw[hz] at h2;cases h2
  | some z=>rw[hz] at h2;exact⟨z,rfl,by simpa using h2⟩
 have hr:=(Array.getElem?_eq_some_iff.1 hz).1;have hz':(t++#[y])[r]? = some z:=by rw[Array.getElem?_append_left hr];exact hz
 refine⟨r,?_,?_,?_,fun i hi hg=>?_⟩
 ·unfold Trace.act? at h1 ⊢;rw[hz'];rw[hz] at h1;exact h1
 ·unfold Trace.g? at h2 ⊢;rw[hz'];rw[hz] at h2;exact h2
 ·obtain⟨g,g1,g2⟩:=h3;exact⟨g,by unfold Trace.g? at g1 ⊢;rw[hz'];rw[hz] at g1;exact g1,by rw[deaf_old (Nat.le_of_lt hr)];exact g2⟩
 ·rintro⟨x,hx,hm,hk⟩;obtain⟨op,ho,hx'⟩:=touch_of hx;rcases getElem?_append_cases ho with⟨hlt,ho'⟩|⟨hge,hop⟩
  ·refine h4 i hi (by unfold Trace.g? at hg ⊢;rw[ho'] ;rw[ho] at hg;exact hg) ⟨x,by rw[act?_of ho'];exact hx',hm,hk.imp id fun ⟨g,g1,g2⟩=>⟨g,by unfold Trace.g? at g1 ⊢;rw[ho'];rw[ho] at g1;exact g1,by rw[<-g2];exact (deaf_old (Nat.le_of_lt hlt)).symm⟩⟩
  ·simp only[List.mem_toArray,List.mem_cons,List.not_mem_nil,or_false] at hop;subst hop;have hi':i=t.size:=by
    have:=(Array.getElem?_eq_some_iff.1 ho).1;simp at this;omega
   subst hi';have hg':op.g=j:=by unfold Trace.g? at hg;rw[ho] at hg;simpa using hg
   rcases hy hg' with h0 | ⟨h0,hd⟩
   ·rw[h0] at hx';cases hx'
   ·rcases hk with hk | ⟨g,g1,g2⟩
    ·exact hk (h0 x hx')
    ·unfold Trace.g? at g1;rw[ho] at g1;simp only[Option.map_some,Option.some.injEq] at g1;rw[<-g1,hg',deaf_old (Nat.le_refl _)] at g2;exact hd g2
theorem FJ {a:Addr} {j:Nat}:∀ (l:List MemOp) {t:Trace},Rl a t j->(∀ op∈l,op.g=j->op.act.touch? = none)->Rl a (t++l.toArray) j
 | [],t,h,_=>by simpa using h
 | y::l,t,h,hl=>by
  have:=FJ l (xQ h fun e=>.inl (hl y (List.mem_cons_self ..) e)) fun op hop=>hl op (List.mem_cons_of_mem _ hop)
  rw[Array.append_assoc] at this;simpa using this
theorem Bh {a:Addr} {j:Nat} {t u:Trace} (h:Rl a t j) (hu:∀ op∈u,op.g=j->op.act.touch? = none):Rl a (t++u) j:=by
 have:=FJ (a:=a) u.toList h fun op hop=>hu op (Array.mem_toList_iff.1 hop)
 simpa using this
theorem J6 {a:Addr} {t:Trace} {j:Nat} {y:MemOp} (h:Rl a t j) (hj:j≠0) (hn:NoRelease a t) (hd:Deaf t 0=0) (hy:y.g=0/\y.act = .mark (.acquire a)):HO (t++#[y]) j:=by
 obtain⟨r,h1,h2,h3,h4⟩:=xQ h (y:=y) fun e=>absurd (e.symm.trans hy.1) hj
 have hq:(t++#[y])[t.size]? = some y:=by rw[Array.getElem?_append_right (Nat.le_refl _)];simp
 have hrq:r<t.size:=by
  unfold Trace.act? at h1;cases hz:(t++#[y])[r]? with
  | none=>rw[hz] at h1;cases h1
  | some z=>
   have hlt:=(Array.getElem?_eq_some_iff.1 hz).1;simp at hlt;rcases Nat.lt_or_ge r t.size with h | h
   ·exact h
   ·have:r=t.size:=by omega
    subst this;rw[hq] at hz;cases hz;rw[hq] at h1;simp[hy.2] at h1
 intro i hg hc;have hi:i<=r:=Nat.le_of_not_lt fun hlt=>h4 i hlt hg hc
 have e:HappensBefore (t++#[y]) r t.size:=.single (.inr ⟨.marked hrq (.inr h1) (by rw[act?_of hq,hy.2]) fun k hk1 hk2 e=>?_,h3,⟨0,by unfold Trace.g?;rw[hq];simp[hy.1],by rw[deaf_old (Nat.le_refl _)];exact hd⟩⟩)
 ·refine⟨t.size,y,hq,hy.1,.inr ?_⟩;rcases Nat.lt_or_ge i r with hlt | hge
  ·exact (Relation.TransGen.single (.inl ⟨hlt,j,hg,h2⟩)).trans e
  ·have:i=r:=by omega
   subst this;exact e
 ·refine hn k ?_;unfold Trace.act? at e ⊢;rwa [Array.getElem?_append_left hk2] at e
def Still (d:Nat):List Event->Prop
 | []=>True
 | e::es=>((MemAct.ofEvent e).touch? = none\/((∀ x,(MemAct.ofEvent e).touch? = some x->x.kind = .atomic)/\d≠0))/\Still (deafBehind d #[e]) es
theorem yR {a:Addr} {j:Nat} {fn:FuncId} {pos:String}:∀ (es:List Event) {t:Trace},Rl a t j->Still (Deaf t j) es->Rl a (t++(es.map fun e=>(⟨j,fn,pos,MemAct.ofEvent e⟩:MemOp)).toArray) j
 | [],t,h,_=>by simpa using h
 | e::es,t,h,hs=>by
  have h1:=xQ h (y:=⟨j,fn,pos,MemAct.ofEvent e⟩) fun _=>hs.1
  have hd:Deaf (t++#[⟨j,fn,pos,MemAct.ofEvent e⟩]) j=deafBehind (Deaf t j) #[e]:=by
   have:=Deaf_own t j fn pos #[e];simpa [MemOp.ofEvents] using this
  have:=yR (fn:=fn) (pos:=pos) es h1 (by rw[hd];exact hs.2);rw[Array.append_assoc] at this;simpa using this
end Px
namespace Px
open Go Go.Conc
noncomputable def Gp.dg (p:Gp) (Sw:Nat->Prop) (h0:Nat->Option Obj) (J0 N:Nat) (sg:Nat->Nat) (M:aF) (gF:aF) (dm:Nat):Dg where
 P:=p.P
 Sw:=Sw
 Ro:=p.Ro
 h0:=h0
 D:=fun j=>if j=0 then dm else if 4<=sg j then 1 else 0
 L:=fun j=>j=0\/(J0<=j/\j<N/\sg j<=7)
 st:=fun j=>if j=0 then M else fun g _ _=>sg j=0/\mP p g
 qt:=fun j g=>match sg j with
  | 1=>uJ p g
  | 2=>AtR0 p g
  | 3=>AtK1 p g
  | 4=>AtD1 p g
  | 5=>AtD2 p g
  | 6=>AtD3 p g
  | 7=>AtD4 p g
  | _=>False
 iw:=fun j g w O=>if j=0 then gF g w O else sg j=0/\mP p g
 T:=fun j t=>if J0<=j then 3<=sg j->Rl p.stA t j else HO t j
theorem Gp.jG (p:Gp) {Sw:Nat->Prop} {h0:Nat->Option Obj} {J0 N:Nat} {sg:Nat->Nat} {M:aF} {gF:aF} {dm:Nat}:(p.dg Sw h0 J0 N sg M gF dm).Ok where
 tr:=fun j t u h hu=>by
  show if J0<=j then 3<=sg j->Rl p.stA (t++u) j else HO (t++u) j
  have h:if J0<=j then 3<=sg j->Rl p.stA t j else HO t j:=h
  split at h
  ·rename_i hj;rw[if_pos hj];exact fun h2=>Bh (h h2) hu
  ·rename_i hj;rw[if_neg hj];exact h.app hu
theorem J7 {q:Dg} {gs:Array Goroutine} {W:World} {t:Trace} {rl:List aT} (h:GD q gs W t rl) {j:Nat} (hj:j≠0) (hlt:j<gs.size) (hl:q.L j):∃ (i:Nat) (g:Goroutine),gs[i]? = some g/\g.status = .running:=by
 obtain⟨r,hr⟩:∃ r,rl[j]? = some r:=⟨rl[j]'(by rw[h.len];exact hlt),by simp⟩;have hf:=h.fit j r gs[j] hr (by simp[hlt]);refine⟨j,gs[j],by simp[hlt],?_⟩;match r,hf with
 | .run ..,⟨_,_,_,_,h4,_⟩=>exact h4
 | .idle ..,⟨_,h4,h5,_⟩=>
  rcases h4 with h4 | h4
  ·rw[h4];exact h5.resolve_right fun h=>hj h.1
  ·rw[h4]
 | .quit _,⟨_,_,h4⟩=>exact (h4.resolve_left fun h=>h.1 hl).2.running
theorem Qj {a:Addr} {t:Trace} {j:Nat} {fn:FuncId} {pos:String} (hd:Deaf t j=0):Rl a (t++#[⟨j,fn,pos,.mark (.releaseMerge a)⟩]) j:=by
 have hq:(t++#[(⟨j,fn,pos,.mark (.releaseMerge a)⟩:MemOp)])[t.size]? = some ⟨j,fn,pos,.mark (.releaseMerge a)⟩:=by rw[Array.getElem?_append_right (Nat.le_refl _)];simp
 refine⟨t.size,by rw[act?_of hq],by unfold Trace.g?;rw[hq];rfl,⟨j,by unfold Trace.g?;rw[hq];rfl,by rw[deaf_old (Nat.le_refl _)];exact hd⟩,fun i hi hg=>?_⟩;unfold Trace.g? at hg;cases ho:(t++#[(⟨j,fn,pos,.mark (.releaseMerge a)⟩:MemOp)])[i]? with
 | none=>rw[ho] at hg;cases hg
 | some op=>
  have:=(Array.getElem?_eq_some_iff.1 ho).1;simp at this;omega
def upd (sg:Nat->Nat) (j s:Nat):Nat->Nat:=fun k=>if k=j then s else sg k
theorem jW (p:Gp) {Sw:Nat->Prop} {h0 h1:Nat->Option Obj} {J0 N s:Nat} {sg:Nat->Nat} {M:aF} {gF:aF} {dm:Nat} {gs:Array Goroutine} {W W':World} {t u:Trace} {rl:List aT} (h:GD (p.dg Sw h0 J0 N sg M gF dm) gs W t rl) {j q:Nat} {r:aT} {g g':Goroutine} (gw:Goroutine)
  (hj:rl[j]? = some r) (j0:1<=J0) (hJ:J0<=j) (hN:j<N) (hs:sg j<=7) (size:W'.heap.size=W.heap.size) (old:∀ b,¬ Sw b->W'.heap[b]? = W.heap[b]?) (fx:∀ b,Sw b->W'.heap[b]? = h1 b) (hu:∀ op∈u,OkG Sw j (fun _=>False) p.Ro op) (hnr:∀ op∈u,Nt Sw op) (hgt:sg j<=s)
  (hd:s<=7->Deaf (t++u) j=if 4<=s then 1 else 0) (hT:3<=s->Rl p.stA (t++u) j) (hq:(7<s/\QuitsD p.P q (Deaf (t++u) j) g')\/(s<=7/\qo p.P ((p.dg Sw h1 J0 N (upd sg j s) M gF dm).qt j) q g')) (gM:W'.os=W.os/\W'.output=W.output:=by exact⟨rfl,rfl⟩) :
  GD (p.dg Sw h1 J0 N (upd sg j s) M gF dm) ((gs.map (Conc.woken p.P g gw W')).setIfInBounds j g') W' (t++u) (rl.set j (.quit q)):=by
 have hj0:j≠0:=by omega
 have uj:upd sg j s j=s:=if_pos rfl;have uk:∀ k,k≠j->upd sg j s k=sg k:=fun k hk=>if_neg hk
 refine GD.event (p:=p.dg Sw h0 J0 N sg M gF dm) (q:=p.dg Sw h1 J0 N (upd sg j s) M gF dm) (r':=.quit q) p.jG h rfl rfl rfl gw hj (.inr ⟨hJ,hN,hs⟩) (fun k hk=>?_) (fun k hk hl=>?_) (fun k hk=>⟨?_,?_,?_,?_⟩) (fun k hk hT=>?_) size old fx (fun b hb=>hb.elim) hu hnr (fun hl=>?_) ⟨hj0,?_,?_⟩ gM
 ·rcases hk with hk | ⟨h1,h2,h3⟩
  ·exact .inl hk
  ·refine .inr ⟨h1,h2,?_⟩;by_cases hkj:k=j
   ·subst hkj;exact hs
   ·rwa [uk k hkj] at h3
 ·rcases hl with hl | ⟨h1,h2,h3⟩
  ·exact .inl hl
  ·exact .inr ⟨h1,h2,by rw[uk k hk];exact h3⟩
 ·simp only[Gp.dg,uk k hk]
 ·simp only[Gp.dg,uk k hk]
 ·simp only[Gp.dg,uk k hk]
 ·simp only[Gp.dg,uk k hk]
 ·show if J0<=k then 3<=upd sg j s k->Rl p.stA t k else HO t k
  rw[uk k hk];exact hT
 ·rcases hl with hl | ⟨_,_,hl⟩
  ·exact absurd hl hj0
  ·rw[uj] at hl;rw[hd hl];simp only[Gp.dg,if_neg hj0,uj]
 ·show if J0<=j then 3<=upd sg j s j->Rl p.stA (t++u) j else HO (t++u) j
  rw[if_pos hJ,uj];exact hT
 ·rcases hq with⟨h1,h2⟩|⟨h1,h2⟩
  ·refine .inl ⟨?_,h2⟩;rintro (h3 | ⟨_,_,h3⟩)
   ·exact hj0 h3
   ·rw[uj] at h3;omega
  ·exact .inr ⟨.inr ⟨hJ,hN,by rw[uj];exact h1⟩,h2⟩
end Px
namespace Px
open Go Go.Conc
section
variable (p:Gp) {Sw:Nat->Prop} {h0:Nat->Option Obj} {J0 N:Nat} {sg:Nat->Nat} {M:aF} {gF:aF} {dm:Nat} {gs:Array Goroutine} {W:World} {t:Trace} {rl:List aT} {Q:Machine->Outcome->World->Trace->Prop}
theorem ko {j:Nat} {fn:FuncId} {pos:String} {e:Event}:MemOp.ofEvents j fn pos #[e]=#[⟨j,fn,pos,MemAct.ofEvent e⟩]:=by simp[MemOp.ofEvents]
theorem wh {j:Nat} {g g':Goroutine} {W':World} {es:Array Event} {d:Nat} {sl:Option (Nat×Nat)} (hj:j≠0) (hg:gs[j]? = some g) (hs:stepG p.P false g (W.at d) = .go g' W' es) (hS:dM p.P Q ((gs.map (Conc.woken p.P g g' W')).setIfInBounds j g') W' (t++MemOp.ofEvents j g.frame.fn g.frame.place es)):eU p.P Q gs W t j d sl:=
 .inl ⟨_,_,_,runT_crowd_go hg (by rw[beq_eq_false_iff_ne.2 hj];exact hs),hS⟩
variable {p}
theorem U6 (h:GD (p.dg Sw h0 J0 N sg M gF dm) gs W t rl) (j0:1<=J0) {j:Nat} {g:Goroutine} (hJ:J0<=j) (hN:j<N) (hs:sg j=1) {q0:Nat} (hj:rl[j]? = some (.quit q0)) (hg:gs[j]? = some g) (hq:uJ p g) {st sm:Int} (hat:p.at W st sm) (nx:∀ gs' W' t' rl',GD (p.dg Sw h0 J0 N (upd sg j 2) M gF dm) gs' W' t' rl'->gs'.size=gs.size->dM p.P Q gs' W' t') (d:Nat) (sl:Option (Nat×Nat)):eU p.P Q gs W t j d sl:=by
 have hj0:j≠0:=by omega
 have hW:=h.at p.jG d;have hl:(p.dg Sw h0 J0 N sg M gF dm).L j:=.inr ⟨hJ,hN,by omega⟩;obtain⟨g',e1,q,e2⟩:=hq (W.at d) st sm hat
 have ops:∀ op∈MemOp.ofEvents j g.frame.fn g.frame.place #[],False:=by
  intro op hop;rw[show MemOp.ofEvents j g.frame.fn g.frame.place #[]=#[] by simp[MemOp.ofEvents]] at hop;simp at hop
 refine wh p hj0 hg e1 (nx _ _ _ _ (jW p (s:=2) (q:=q) hW g' hj j0 hJ hN (by omega) rfl (fun _ _=>rfl) hW.fx (fun op hop=>(ops op hop).elim) (fun op hop=>(ops op hop).elim) (by omega) ?_ (fun h=>by omega) (.inr ⟨by omega,by simpa only [Gp.dg,upd,if_true] using e2⟩)) (by simp));intro _;rw[Deaf_own,h.wi.deaf j hl];simp[Gp.dg,hj0,hs,deafBehind]
theorem U7 (h:GD (p.dg Sw h0 J0 N sg M gF dm) gs W t rl) (j0:1<=J0) {j:Nat} {g:Goroutine} (hJ:J0<=j) (hN:j<N) (hs:sg j=2) {q0:Nat} (hj:rl[j]? = some (.quit q0)) (hg:gs[j]? = some g) (hq:AtR0 p g) (nx:∀ gs' W' t' rl',GD (p.dg Sw h0 J0 N (upd sg j 3) M gF dm) gs' W' t' rl'->gs'.size=gs.size->dM p.P Q gs' W' t') (d:Nat) (sl:Option (Nat×Nat)):eU p.P Q gs W t j d sl:=by
 have hj0:j≠0:=by omega
 have hW:=h.at p.jG d;have hl:(p.dg Sw h0 J0 N sg M gF dm).L j:=.inr ⟨hJ,hN,by omega⟩;obtain⟨g',e1,q,e2⟩:=hq (W.at d);refine wh p hj0 hg e1 (nx _ _ _ _ (jW p (s:=3) (q:=q) hW g' hj j0 hJ hN (by omega) rfl (fun _ _=>rfl) hW.fx ?_ ?_ (by omega) ?_ ?_ ?_) (by simp))
 ·intro op hop;rw[ko] at hop;simp only[List.mem_toArray,List.mem_cons,List.not_mem_nil,or_false] at hop;subst hop;exact⟨rfl,fun x hx=>by cases hx⟩
 ·intro op hop;rw[ko] at hop;simp only[List.mem_toArray,List.mem_cons,List.not_mem_nil,or_false] at hop;subst hop;exact .none (fun a h=>by cases h) rfl
 ·intro _;rw[Deaf_own,h.wi.deaf j hl];simp[Gp.dg,hj0,hs,deafBehind,ConcR.mk]
 ·intro _;rw[ko];refine Qj ?_;rw[h.wi.deaf j hl];simp[Gp.dg,hj0,hs]
 ·exact .inr ⟨by omega,by simpa only [Gp.dg,upd,if_true] using e2⟩
theorem U8 (h:GD (p.dg Sw h0 J0 N sg M gF dm) gs W t rl) (j0:1<=J0) {j:Nat} {g:Goroutine} (hJ:J0<=j) (hN:j<N) (hs:sg j=3) {q0:Nat} (hj:rl[j]? = some (.quit q0)) (hg:gs[j]? = some g) (hq:AtK1 p g) (nx:∀ gs' W' t' rl',GD (p.dg Sw h0 J0 N (upd sg j 4) M gF dm) gs' W' t' rl'->gs'.size=gs.size->dM p.P Q gs' W' t') (d:Nat) (sl:Option (Nat×Nat)):eU p.P Q gs W t j d sl:=by
 have hj0:j≠0:=by omega
 have hW:=h.at p.jG d;obtain⟨_,hT,_⟩:=hW.fit j _ g hj hg;have hl:(p.dg Sw h0 J0 N sg M gF dm).L j:=.inr ⟨hJ,hN,by omega⟩;have hT:Rl p.stA t j:=by
  have:if J0<=j then 3<=sg j->Rl p.stA t j else HO t j:=hT
  rw[if_pos hJ] at this;exact this (by omega)
 obtain⟨g',e1,q,e2⟩:=hq (W.at d);have ops:∀ op∈MemOp.ofEvents j g.frame.fn g.frame.place #[ConcR.mk .disable],op.g=j/\op.act.touch? = none/\∀ a,op.act ≠ .mark (.release a):=by
  intro op hop;rw[ko] at hop;simp only[List.mem_toArray,List.mem_cons,List.not_mem_nil,or_false] at hop;subst hop;exact⟨rfl,rfl,fun a h=>by cases h⟩
 refine wh p hj0 hg e1 (nx _ _ _ _ (jW p (s:=4) (q:=q) hW g' hj j0 hJ hN (by omega) rfl (fun _ _=>rfl) hW.fx (fun op hop=>⟨(ops op hop).1,fun x hx=>by rw[(ops op hop).2.1] at hx;cases hx⟩) (fun op hop=>.none (ops op hop).2.2 (ops op hop).2.1) (by omega) ?_ ?_ ?_) (by simp))
 ·intro _;rw[Deaf_own,h.wi.deaf j hl];simp[Gp.dg,hj0,hs,deafBehind,ConcR.mk]
 ·intro _;exact Bh hT fun op hop _=>(ops op hop).2.1
 ·exact .inr ⟨by omega,by simpa only [Gp.dg,upd,if_true] using e2⟩
theorem yS (h:GD (p.dg Sw h0 J0 N sg M gF dm) gs W t rl) (j0:1<=J0) (hsw:Sw p.Wg) {j s q:Nat} {g g':Goroutine} {W':World} {es:Array Event} (hJ:J0<=j) (hN:j<N) (hs:4<=sg j) (hs6:sg j<=7) {q0:Nat} (hj:rl[j]? = some (.quit q0)) (hg:gs[j]? = some g) (d:Nat) (sl:Option (Nat×Nat)) (e1:stepG p.P false g (W.at d) = .go g' W' es)
  (size:W'.heap.size=W.heap.size) (old:∀ b,b≠p.Wg->W'.heap[b]? = W.heap[b]?) (hes:∀ e,e∈es->(∃ (a:Addr) (w:Bool),a.block=p.Wg/\e=⟨.cell a,w,true⟩)\/e=ConcR.mk .disable\/e=ConcR.mk .enable) (still:Still 1 es.toList) (hd1:deafBehind 1 es=1) (hgt:sg j<=s)
  (hq:(7<s/\QuitsD p.P q 1 g')\/(s<=7/\qo p.P ((p.dg Sw (fun b=>W'.heap[b]?) J0 N (upd sg j s) M gF dm).qt j) q g')) (nx:∀ gs' t' rl',GD (p.dg Sw (fun b=>W'.heap[b]?) J0 N (upd sg j s) M gF dm) gs' W' t' rl'->gs'.size=gs.size->gs'[0]? = gs[0]?.map (Conc.woken p.P g g' W')->rl'[0]? = rl[0]? -> dM p.P Q gs' W' t') (gM:W'.os=W.os/\W'.output=W.output:=by exact⟨rfl,rfl⟩):eU p.P Q gs W t j d sl:=by
 have hj0:j≠0:=by omega
 have hW:=h.at p.jG d;obtain⟨_,hT,_⟩:=hW.fit j _ g hj hg;have hl:(p.dg Sw h0 J0 N sg M gF dm).L j:=.inr ⟨hJ,hN,by omega⟩;have hT:Rl p.stA t j:=by
  have:if J0<=j then 3<=sg j->Rl p.stA t j else HO t j:=hT
  rw[if_pos hJ] at this;exact this (by omega)
 have dj:Deaf t j=1:=by
  rw[h.wi.deaf j hl];simp[Gp.dg,hj0,hs]
 have ops:∀ op∈MemOp.ofEvents j g.frame.fn g.frame.place es,∃ e∈es,op=⟨j,g.frame.fn,g.frame.place,MemAct.ofEvent e⟩:=by
  intro op hop;unfold MemOp.ofEvents at hop;split at hop
  ·simp at hop
  ·obtain⟨e,he,rfl⟩:=Array.mem_map.1 hop;exact⟨e,he,rfl⟩
 have dd:Deaf (t++MemOp.ofEvents j g.frame.fn g.frame.place es) j=1:=by rw[Deaf_own,dj,hd1]
 refine wh p hj0 hg e1 (nx _ _ _ (jW p (s:=s) (q:=q) hW g' hj j0 hJ hN hs6 size (fun b hb=>old b fun e=>hb (e ▸ hsw)) (fun _ _=>rfl) (fun op hop=>?_) (fun op hop=>?_) hgt (fun h6=>?_) (fun _=>?_) ?_ gM) (by simp) (by rw[aV hj0,Array.getElem?_map]) (List.getElem?_set_ne hj0))
 ·obtain⟨e,he,rfl⟩:=ops op hop;refine⟨rfl,fun x hx=>.inl ?_⟩;rcases hes e he with⟨b,w,hb,rfl⟩ | rfl | rfl
  ·cases w<;>(cases hx;exact⟨⟨_,rfl,by rw[hb];exact hsw⟩,(fun h=>by cases h),(fun h=>by cases h)⟩)
  ·cases hx
  ·cases hx
 ·obtain⟨e,he,rfl⟩:=ops op hop;rcases hes e he with⟨b,w,hb,rfl⟩ | rfl | rfl
  ·refine⟨fun a=>?_,fun x hx=>.inl ?_⟩
   ·cases w<;>exact fun h=>by cases h
   ·cases w<;>(cases hx;exact⟨_,rfl,by rw[hb];exact hsw⟩)
  ·exact .none (fun a h=>by cases h) rfl
  ·exact .none (fun a h=>by cases h) rfl
 ·rw[dd,if_pos (by omega)]
 ·have:=yR (fn:=g.frame.fn) (pos:=g.frame.place) es.toList hT (by rw[dj];exact still);unfold MemOp.ofEvents;split
  ·rw[Array.append_empty];exact hT
  ·have e:es.map (fun e=>(⟨j,g.frame.fn,g.frame.place,MemAct.ofEvent e⟩:MemOp))=(es.toList.map fun e=>(⟨j,g.frame.fn,g.frame.place,MemAct.ofEvent e⟩:MemOp)).toArray:=by apply Array.toList_inj.1;rw[Array.toList_map]
   rw[e];exact this
 ·rw[dd];exact hq
theorem Qk (h:GD (p.dg Sw h0 J0 N sg M gF dm) gs W t rl) (hi0:∀ g w O,gF g w O->g.offers=none) (j0:1<=J0) {j s:Nat} {r:aT} {g:Goroutine} (hJ:J0<=j) (hN:j<N) (hs:sg j=0) (hj:rl[j]? = some r) (hg:gs[j]? = some g) (hr:g.status = .running) (hev:Da (p.dg Sw h0 J0 N sg M gF dm) rl j g) (hsh:Shut W p.cn s)
  (nx:∀ gs' W' t' rl',W'.heap=W.heap->GD (p.dg Sw h0 J0 N (upd sg j 1) M gF dm) gs' W' t' rl'->gs'.size=gs.size->dM p.P Q gs' W' t') (d:Nat) (sl:Option (Nat×Nat)):eU p.P Q gs W t j d sl:=by
 have hj0:j≠0:=by omega
 have hlt:=(Array.getElem?_eq_some_iff.1 hg).1;have hl:(p.dg Sw h0 J0 N sg M gF dm).L j:=.inr ⟨hJ,hN,by omega⟩;have hA:mP p g:=by
  have hf:=h.fit j r g hj hg;rcases hev with⟨m,g0,w0,O,e,hst⟩|⟨g0,w0,O,e⟩|⟨_,_,this⟩
  ·rw[hj] at e;cases e;obtain⟨_,_,_,rfl,_,_,hk⟩:=hf;have:(if j=0 then M else fun g _ _=>sg j=0/\mP p g) g W O:=hst W hk;rw[if_neg hj0] at this;exact this.2
  ·rw[hj] at e;cases e;obtain⟨_,hx,hgs,_,hi⟩:=hf;have hi:if j=0 then gF g0 w0 O else sg j=0/\mP p g0:=hi
   rw[if_neg hj0] at hi;have hrun:=hgs.resolve_right fun h=>hj0 h.1
   rcases hx with rfl | rfl
   ·exact hi.2
   ·have:({ g0 with status:=.running }:Goroutine)=g0:=by
     obtain⟨a,b,c,d,e⟩:=g0;dsimp only at hrun;subst hrun;rfl
    rw[this];exact hi.2
  ·have:match sg j with | 1=>uJ p g | 2=>AtR0 p g | 3=>AtK1 p g | 4=>AtD1 p g | 5=>AtD2 p g | 6=>AtD3 p g | 7=>AtD4 p g | _=>False:=this
   rw[hs] at this;exact this.elim
 have hp:partners (gs.setIfInBounds j ph) p.cn true = []:=by
  apply List.eq_nil_iff_forall_not_mem.2;rintro⟨hh,hk⟩ hm;obtain⟨hne,x,cs,sh,c,hx,hb,ho,_⟩:=oG hlt hm;obtain⟨hxl,_⟩:=Array.getElem?_eq_some_iff.1 hx;obtain⟨r',hr'⟩:∃ r',rl[hh]? = some r':=⟨rl[hh]'(by rw[h.len];exact hxl),by simp⟩;have hf:=h.fit hh r' x hr' hx;match r',hf with
  | .run ..,⟨_,_,_,_,h4,_⟩=>rw[hb] at h4;cases h4
  | .idle g0 w0 O0,⟨_,h4,h5,_,hi⟩=>
   rcases h4 with rfl | rfl
   ·rcases h5 with h5 | ⟨rfl,_⟩
    ·rw[hb] at h5;cases h5
    ·have hi:if (0:Nat)=0 then gF x w0 O0 else sg 0=0/\mP p x:=hi
     rw[if_pos rfl] at hi;rw[hi0 x _ _ hi] at ho;cases ho
   ·cases hb
  | .quit _,⟨_,_,h4⟩=>
   rcases h4 with⟨_,h4⟩|⟨_,h4⟩
   ·rcases gU h4 with h | h<;>(rw[hb] at h;cases h)
   ·rw[h4.running] at hb;cases hb
 obtain⟨g1,e1,q,e2⟩:=hA (W.at d);have hm:(j==0)=false:=beq_eq_false_iff_ne.2 hj0;obtain⟨d',ec⟩:=EJ (P:=p.P) (gs:=gs.setIfInBounds j ph) (i:=j) (g:=g1) (c:=⟨.chan (some p.cn),none,p.eR⟩) (shape:=.recv true) (w:=W.at d) (sl:=sl) (s:=s) rfl rfl hsh hp;refine .inl ⟨_,_,_,(ql hg (by rw[hm];exact e1)).trans ec,?_⟩;rw[set_set];have hW:=(h.at p.jG d).at p.jG d';have u1:∀ op∈(#[⟨j,g1.frame.fn,g1.frame.place,.recvClosed p.cn⟩]:Trace),op.g=j/\op.act.touch? = none/\(op.act ≠ .mark .disable/\op.act ≠ .mark .enable)/\∀ a,op.act ≠ .mark (.release a):=by
  intro op hop;simp only[List.mem_toArray,List.mem_cons,List.not_mem_nil,or_false] at hop;subst hop;exact⟨rfl,rfl,⟨(fun h=>by cases h),(fun h=>by cases h)⟩,fun a h=>by cases h⟩
 have key:=jW p (s:=1) (q:=q) (u:=#[⟨j,g1.frame.fn,g1.frame.place,.recvClosed p.cn⟩]) (g:=g1) (g':=g1.finishComm p.P #[⟨.chan (some p.cn),none,p.eR⟩] (.recv true) (0:Nat) p.eR false) hW { g1 with status:=.blocked } hj j0 hJ hN (by omega) rfl (fun _ _=>rfl) hW.fx
  (fun op hop=>⟨(u1 op hop).1,fun x hx=>by rw[(u1 op hop).2.1] at hx;cases hx⟩) (fun op hop=>.none (u1 op hop).2.2.2 (u1 op hop).2.1) (by omega) (fun _=>by
   rw[ConcN.Deaf_still t j _ fun op hop=>(u1 op hop).2.2.1,h.wi.deaf j hl];simp[Gp.dg,hj0,hs]) (fun h=>by omega) (.inr ⟨by omega,by simpa only [Gp.dg,upd,if_true] using e2⟩)
 have hmap:gs.map (Conc.woken p.P g1 { g1 with status:=.blocked } ((W.at d).at d'))=gs:=by
  apply Array.ext_getElem?;intro k;rw[Array.getElem?_map];cases gs[k]? with
  | none=>rfl
  | some x=>simp[Conc.woken]
 rw[hmap] at key;exact nx _ _ _ _ rfl key (by simp)
end
end Px
namespace Px
open Go Go.Conc
section
variable {p:Gp} {Sw:Nat->Prop} {h0 h1:Nat->Option Obj} {J0 N:Nat} {sg:Nat->Nat} {M M':aF} {gF yT:aF} {dm gK:Nat} {gs:Array Goroutine} {W W':World} {t u:Trace} {rl:List aT} {Q:Machine->Outcome->World->Trace->Prop}
theorem sP (h:GD (p.dg Sw h0 J0 N sg M gF dm) gs W t rl) {r r':aT} {g g':Goroutine} (gw:Goroutine) (hj:rl[0]? = some r) (size:W'.heap.size=W.heap.size) (old:∀ b,¬ Sw b->W'.heap[b]? = W.heap[b]?) (fx:∀ b,Sw b->W'.heap[b]? = h1 b) (own:∀ b,r'.own b->r.own b)
  (hu:∀ op∈u,OkG Sw 0 r'.own p.Ro op) (hnr:∀ op∈u,Nt Sw op) (hd:Deaf (t++u) 0=gK) (fit:jl (p.dg Sw h1 J0 N sg M' yT gK) 0 r' g' W' (t++u)) (gM:W'.os=W.os/\W'.output=W.output:=by exact⟨rfl,rfl⟩) :
  GD (p.dg Sw h1 J0 N sg M' yT gK) ((gs.map (Conc.woken p.P g gw W')).setIfInBounds 0 g') W' (t++u) (rl.set 0 r'):=
 GD.event (p:=p.dg Sw h0 J0 N sg M gF dm) (q:=p.dg Sw h1 J0 N sg M' yT gK) p.jG h rfl rfl rfl gw hj (.inl rfl) (fun _ h=>h) (fun _ _ h=>h) (fun k hk=>⟨by simp only[Gp.dg,if_neg hk],rfl,by simp only[Gp.dg,if_neg hk],by simp only[Gp.dg,if_neg hk]⟩) (fun _ _ h=>h) size old fx own hu hnr (fun _=>by rw[hd];simp[Gp.dg]) fit gM
theorem Ql (h:GD (p.dg Sw h0 J0 N sg M gF dm) gs W t rl) (hsw:Sw p.Wg) {r:aT} {g g':Goroutine} {W':World} {O:Nat->Prop} {es:Array Event} (hj:rl[0]? = some r) (hO:r.own=O) (hg:gs[0]? = some g) (d:Nat) (sl:Option (Nat×Nat)) (e1:stepG p.P true g (W.at d) = .go g' W' es)
  (size:W'.heap.size=W.heap.size) (old:∀ b,b≠p.Wg->W'.heap[b]? = W.heap[b]?) (hes:∀ e,e∈es->(∀ x,(MemAct.ofEvent e).touch? = some x->nK Sw x.loc/\x.kind ≠ .plain)/\∀ a,MemAct.ofEvent e ≠ .mark (.release a)) (hd:deafBehind dm es=gK) (hr:g'.status = .running) (hR:Runs p.P true p.Ro M' g' W' O)
  (nx:∀ gs' t' rl',GD (p.dg Sw (fun b=>W'.heap[b]?) J0 N sg M' yT gK) gs' W' t' rl'->gs'.size=gs.size->(∃ gw,gs'[0]? = some gw)->dM p.P Q gs' W' t') (gM:W'.os=W.os/\W'.output=W.output:=by exact⟨rfl,rfl⟩):eU p.P Q gs W t 0 d sl:=by
 have hW:=h.at p.jG d;have ops:∀ op∈MemOp.ofEvents 0 g.frame.fn g.frame.place es,∃ e∈es,op=⟨0,g.frame.fn,g.frame.place,MemAct.ofEvent e⟩:=by
  intro op hop;unfold MemOp.ofEvents at hop;split at hop
  ·simp at hop
  ·obtain⟨e,he,rfl⟩:=Array.mem_map.1 hop;exact⟨e,he,rfl⟩
 have d0:Deaf t 0=dm:=(h.wi.deaf 0 (.inl rfl)).trans (by simp[Gp.dg]);refine .inl ⟨_,_,_,runT_crowd_go hg e1,nx _ _ _ (sP hW (g:=g) (g':=g') (r':=.run true M' g' W' O) (M':=M') (yT:=yT) (gK:=gK) g' hj size (fun b hb=>old b fun e=>hb (e ▸ hsw)) (fun _ _=>rfl) (fun _ h=>hO ▸ h) (fun op hop=>?_) (fun op hop=>?_) ?_ ?_ gM) (by simp) ?_⟩
 ·obtain⟨e,he,rfl⟩:=ops op hop;exact⟨rfl,fun x hx=>.inl ⟨((hes e he).1 x hx).1,((hes e he).1 x hx).2,fun _=>rfl⟩⟩
 ·obtain⟨e,he,rfl⟩:=ops op hop;exact⟨(hes e he).2,fun x hx=>.inl ((hes e he).1 x hx).1⟩
 ·rw[Deaf_own,d0,hd]
 ·exact⟨.inl rfl,rfl,by simp only[Gp.dg,if_true],rfl,hr,hR,.refl ..⟩
 ·exact⟨g',get_set_same (by simpa using h.pos) _⟩
end
end Px
namespace Px
open Go Go.Conc
theorem uM {p:Gp} {w:World} {st sm:Int} (h:p.at w st sm) (v:Int):p.at (w.setCell p.stA (.int .u64 v)) v sm/\(w.setCell p.stA (.int .u64 v)).heap.size=w.heap.size/\∀ b,b≠p.Wg->(w.setCell p.stA (.int .u64 v)).heap[b]? = w.heap[b]?:=by
 unfold Gp.at ConcR.WgAt ConcR.wgBlock at h ⊢;have hlt:=(Array.getElem?_eq_some_iff.1 h).1;have hm:∀ b:Nat,(w.setCell p.stA (.int .u64 v)).heap[b]? = (w.heap.modify p.Wg fun x=>match x with | .cells c elem frozen=>.cells (c.setIfInBounds 0 (.int .u64 v)) elem frozen | o=>o)[b]?:=fun b=>by simp[World.setCell,Gp.stA,ConcR.stA];rfl
 refine⟨?_,?_,fun b hb=>?_⟩
 ·rw[hm,Array.getElem?_modify,if_pos rfl,h];simp
 ·simp[World.setCell]
 ·rw[hm,Array.getElem?_modify,if_neg (Ne.symm hb)]
theorem Dc {p:Gp} {w:World} {st sm:Int} (h:p.at w st sm) (v:Int):p.at (w.setCell p.smA (.int .u32 v)) st v/\(w.setCell p.smA (.int .u32 v)).heap.size=w.heap.size/\∀ b,b≠p.Wg->(w.setCell p.smA (.int .u32 v)).heap[b]? = w.heap[b]?:=by
 unfold Gp.at ConcR.WgAt ConcR.wgBlock at h ⊢;have hlt:=(Array.getElem?_eq_some_iff.1 h).1;have hm:∀ b:Nat,(w.setCell p.smA (.int .u32 v)).heap[b]? = (w.heap.modify p.Wg fun x=>match x with | .cells c elem frozen=>.cells (c.setIfInBounds 1 (.int .u32 v)) elem frozen | o=>o)[b]?:=fun b=>by simp[World.setCell,Gp.smA,ConcR.smA];rfl
 refine⟨?_,?_,fun b hb=>?_⟩
 ·rw[hm,Array.getElem?_modify,if_pos rfl,h];simp
 ·simp[World.setCell]
 ·rw[hm,Array.getElem?_modify,if_neg (Ne.symm hb)]
end Px
namespace Px
open Go Go.Conc
def iN (f:Nat->Nat):Nat->Nat
 | 0=>0
 | n+1=>iN f n+f n
theorem uN {f f':Nat->Nat}:∀ N,(∀ k,k<N->f k=f' k)->iN f N=iN f' N
 | 0,_=>rfl
 | n+1,h=>by
  simp only[iN];rw[uN n fun k hk=>h k (by omega),h n (by omega)]
theorem xR {f f':Nat->Nat} {j:Nat} (h:∀ k,k≠j->f k=f' k):∀ N,j<N->iN f N+f' j=iN f' N+f j
 | n+1,hj=>by
  simp only[iN];by_cases e:j=n
  ·subst e;have:=uN (f:=f) (f':=f') j fun k hk=>h k (by omega)
   omega
  ·have:=xR h n (by omega);have:=h n (fun e'=>e e'.symm);omega
theorem FK {f:Nat->Nat} (h:∀ k,f k<=1):∀ N,iN f N<=N
 | 0=>Nat.le_refl _
 | n+1=>by
  simp only[iN];have:=FK h n;have:=h n;omega
theorem Df {f:Nat->Nat} {j:Nat}:∀ N,j<N->f j<=iN f N
 | n+1,hj=>by
  simp only[iN];by_cases e:j=n
  ·subst e;omega
  ·have:=Df (f:=f) n (by omega:j<n);omega
theorem Bj {f:Nat->Nat}:∀ N,(∀ k,k<N->f k=0)->iN f N=0
 | 0,_=>rfl
 | n+1,h=>by
  simp only[iN];rw[Bj n fun k hk=>h k (by omega),h n (by omega)]
def cnt (sg:Nat->Nat) (J0 N:Nat):Nat:=iN (fun j=>if J0<=j/\sg j<=4 then 1 else 0) N
def tot (sg:Nat->Nat) (J0 N:Nat):Nat:=iN (fun j=>if J0<=j then 8-sg j else 0) N
section
variable {sg:Nat->Nat} {J0 N j s:Nat}
theorem Qm (hJ:J0<=j) (hN:j<N) (h:sg j<s) (h7:s<=8):tot (upd sg j s) J0 N<tot sg J0 N:=by
 have:=xR (f:=fun k=>if J0<=k then 8-sg k else 0) (f':=fun k=>if J0<=k then 8-upd sg j s k else 0) (j:=j) (fun k hk=>by simp only[upd,if_neg hk]) N hN;simp only[hJ,if_true,upd] at this;show iN (fun k=>if J0<=k then 8-upd sg j s k else 0) N<iN _ N;simp only[upd];omega
theorem MU (hN:j<N) (h:sg j<=4↔s<=4):cnt (upd sg j s) J0 N=cnt sg J0 N:=by
 refine uN N fun k _=>?_
 by_cases hk:k=j
 ·subst hk;simp only[upd,if_true,h]
 ·simp only[upd,if_neg hk]
theorem Qn (hJ:J0<=j) (hN:j<N) (h:sg j<=4) (hs:4<s):cnt (upd sg j s) J0 N+1=cnt sg J0 N:=by
 have:=xR (f:=fun k=>if J0<=k/\sg k<=4 then 1 else 0) (f':=fun k=>if J0<=k/\upd sg j s k<=4 then 1 else 0) (j:=j) (fun k hk=>by simp only[upd,if_neg hk]) N hN;simp only[upd,if_true,hJ,h,true_and] at this;rw[if_neg (by omega)] at this;show iN (fun k=>if J0<=k/\upd sg j s k<=4 then 1 else 0) N+1=iN _ N;simp only[upd];omega
theorem J8:cnt sg J0 N<=N:=FK (fun k=>by split<;>omega) N
theorem FL (hJ:J0<=j) (hN:j<N) (h:sg j<=4):1<=cnt sg J0 N:=by
 have:=Df (f:=fun k=>if J0<=k/\sg k<=4 then 1 else 0) N hN;simp only[hJ,h,true_and,if_true] at this;exact this
theorem Dh (h:∀ k,J0<=k->k<N->4<sg k):cnt sg J0 N=0:=Bj N fun k hk=>by
 rw[if_neg];rintro⟨h1,h2⟩;have:=h k h1 hk;omega
theorem Di (h:cnt sg J0 N=0):∀ k,J0<=k->k<N->4<sg k:=by
 intro k h1 h2;rcases Nat.lt_or_ge 4 (sg k) with h3 | h3
 ·exact h3
 ·have:=FL h1 h2 h3;omega
theorem MV (h:1<=cnt sg J0 N):∃ k,J0<=k/\k<N/\sg k<=4:=by
 apply Classical.byContradiction;intro hn;have:=Dh (sg:=sg) (J0:=J0) (N:=N) fun k h1 h2=>by
  rcases Nat.lt_or_ge 4 (sg k) with h3 | h3
  ·exact h3
  ·exact absurd ⟨k,h1,h2,h3⟩ hn
 omega
end
inductive MS | qp | w1 | w2 (vs:Nat) | cb | wb | w3 | sl | w4 | en | ca | acq
section
variable (p:Gp) (Nx:aF) (sd:Array Event) (M1:aF)
def MS.stop:MS->aF
 | .qp=>uL p M1
 | .w1=>M1
 | .w2 vs=>J5 p Nx sd M1 vs
 | .cb=>OJ p Nx sd
 | .wb=>OI p Nx sd
 | .w3=>Db p Nx
 | .sl=>fun _ _ _=>False
 | .w4=>OH p Nx
 | .en=>Bf p Nx
 | .ca=>FI p Nx
 | .acq=>uK p Nx
def MS.dm:MS->Nat
 | .qp=>0
 | .ca=>0
 | .acq=>0
 | _=>1
def MS.iw:MS->aF
 | .sl=>fun g w O=>g.status = .blocked/\g.offers=none/\∀ w₁,Keep p.Ro O w w₁->Db p Nx { g with status:=.running } w₁ O
 | _=>fun _ _ _=>False
def MS.rank (c:Nat):MS->Nat
 | .qp=>11
 | .w1=>9
 | .w2 vs=>if vs=c then 8 else 10
 | .cb=>7
 | .wb=>6
 | .w3=>5
 | .sl=>4
 | .w4=>3
 | .en=>2
 | .ca=>1
 | .acq=>0
end
theorem MS.Qo (c:Nat) (m:MS):m.rank c<=11:=by cases m<;>simp only[MS.rank]<;>first | omega | (split<;>omega)
def Gp.sit (p:Gp) (sg:Nat->Nat) (J0 N:Nat) (W:World):MS->Prop
 | .qp | .w1=>(∀ j,J0<=j->j<N->sg j<=4\/sg j=8)/\p.at W ((cnt sg J0 N:Int)*ConcR.KK) 0
 | .w2 vs=>(∀ j,J0<=j->j<N->sg j<=4\/sg j=8)/\p.at W ((cnt sg J0 N:Int)*ConcR.KK) 0/\1<=vs
 | .cb | .wb | .w3=>((∀ j,J0<=j->j<N->sg j<=4\/sg j=8)/\1<=cnt sg J0 N/\p.at W ((cnt sg J0 N:Int)*ConcR.KK+1) 0)\/∃ l,J0<=l/\l<N/\(∀ j,J0<=j->j<N->j≠l->sg j=8)/\(((sg l=5\/sg l=6)/\p.at W 1 0)\/(sg l=7/\p.at W 0 0)\/(sg l=8/\p.at W 0 1))
 | .sl=>((∀ j,J0<=j->j<N->sg j<=4\/sg j=8)/\1<=cnt sg J0 N/\p.at W ((cnt sg J0 N:Int)*ConcR.KK+1) 0)\/∃ l,J0<=l/\l<N/\(∀ j,J0<=j->j<N->j≠l->sg j=8)/\(((sg l=5\/sg l=6)/\p.at W 1 0)\/(sg l=7/\p.at W 0 0))
 | .w4 | .en | .ca | .acq=>(∀ j,J0<=j->j<N->sg j=8)/\p.at W 0 0
theorem Gp.rP {p:Gp} {sg:Nat->Nat} {J0 N:Nat} {W W':World} {m:MS} (h:p.sit sg J0 N W m) (e:W'.heap[p.Wg]? = W.heap[p.Wg]?):p.sit sg J0 N W' m:=by
 have ha:∀ st sm,p.at W st sm->p.at W' st sm:=fun st sm h=>e.trans h
 cases m with
 | qp | w1=>exact⟨h.1,ha _ _ h.2⟩
 | w2=>exact⟨h.1,ha _ _ h.2.1,h.2.2⟩
 | cb | wb | w3=>exact h.imp (fun h=>⟨h.1,h.2.1,ha _ _ h.2.2⟩) fun ⟨l,a,b,c,d⟩=>⟨l,a,b,c,d.imp (fun h=>⟨h.1,ha _ _ h.2⟩) fun h=>h.imp (fun h=>⟨h.1,ha _ _ h.2⟩) fun h=>⟨h.1,ha _ _ h.2⟩⟩
 | sl=>exact h.imp (fun h=>⟨h.1,h.2.1,ha _ _ h.2.2⟩) fun ⟨l,a,b,c,d⟩=>⟨l,a,b,c,d.imp (fun h=>⟨h.1,ha _ _ h.2⟩) fun h=>⟨h.1,ha _ _ h.2⟩⟩
 | w4 | en | ca | acq=>exact⟨h.1,ha _ _ h.2⟩
end Px
namespace Px
open Go Go.Conc
structure Ctx (p:Gp) (Nx:aF) (sd:Array Event) (M1:aF) (Sw:Nat->Prop) (J0 N:Nat):Prop where
 w1:MQ p Nx sd M1
 V6:∀ e,e∈sd->(∀ x,(MemAct.ofEvent e).touch? = some x->nK Sw x.loc/\x.kind ≠ .plain)/\∀ a,MemAct.ofEvent e ≠ .mark (.release a)
 V7:deafBehind 1 sd=1
 wg:Sw p.Wg
 cn:Sw p.cn
 ne:p.cn≠p.Wg
 j0:1<=J0
 big:N<2147483647
section
variable {p:Gp} {Nx:aF} {sd:Array Event} {M1:aF} {Sw:Nat->Prop} {h0:Nat->Option Obj} {J0 N:Nat} {sg:Nat->Nat} {gs:Array Goroutine} {W:World} {t:Trace} {rl:List aT} {Q:Machine->Outcome->World->Trace->Prop} {ms:MS}
theorem wm {W:World} {a b:Int} {sm:Int} (h:p.at W a sm) (e:a=b):p.at W b sm:=e ▸ h
theorem oU {j s:Nat} (h:∀ k,J0<=k->k<N->sg k<=4\/sg k=8) (hs:s<=4\/s=8):∀ k,J0<=k->k<N->upd sg j s k<=4\/upd sg j s k=8:=by
 intro k h1 h2;unfold upd;split
 ·exact hs
 ·exact h k h1 h2
theorem wo {j s:Nat} (hJ:J0<=j) (hN:j<N) (h3:sg j<=4) (hs:s<=4) (h:p.sit sg J0 N W ms):p.sit (upd sg j s) J0 N W ms:=by
 have ce:cnt (upd sg j s) J0 N=cnt sg J0 N:=MU hN ⟨fun _=>hs,fun _=>h3⟩;have no:∀ l,J0<=l->l<N->(∀ k,J0<=k->k<N->k≠l->sg k=8)->5<=sg l->False:=by
  intro l _ _ hk h4;by_cases e:j=l
  ·subst e;omega
  ·have:=hk j hJ hN e;omega
 cases ms with
 | qp | w1=>exact⟨oU h.1 (.inl hs),by rw[ce];exact h.2⟩
 | w2=>exact⟨oU h.1 (.inl hs),by rw[ce];exact h.2.1,h.2.2⟩
 | cb | wb | w3=>
  rcases h with h | ⟨l,a,b,c,d⟩
  ·exact .inl ⟨oU h.1 (.inl hs),by rw[ce];exact h.2.1,by rw[ce];exact h.2.2⟩
  ·exact (no l a b c (by rcases d with⟨h | h,_⟩|⟨h,_⟩|⟨h,_⟩<;>omega)).elim
 | sl=>
  rcases h with h | ⟨l,a,b,c,d⟩
  ·exact .inl ⟨oU h.1 (.inl hs),by rw[ce];exact h.2.1,by rw[ce];exact h.2.2⟩
  ·exact (no l a b c (by rcases d with⟨h | h,_⟩|⟨h,_⟩<;>omega)).elim
 | w4 | en | ca | acq=>exact absurd (h.1 j hJ hN) (by omega)
theorem Qp {j:Nat} (hJ:J0<=j) (hN:j<N) (h3:sg j=4) (h:p.sit sg J0 N W ms):∃ v wt:Nat,wt<=1/\cnt sg J0 N=v+1/\p.at W (((v:Int)+1)*ConcR.KK+wt) 0 /\
  ∀ W',p.at W' ((v:Int)*ConcR.KK+wt) 0->p.sit (upd sg j (if v=0/\wt=1 then 5 else 8)) J0 N W' ms:=by
 have hc:=FL (N:=N) hJ hN (by omega:sg j<=4);have c1:∀ s,4<s->cnt (upd sg j s) J0 N=cnt sg J0 N-1:=fun s hs=>by
  have:=Qn (N:=N) hJ hN (by omega:sg j<=4) hs;omega
 have no:∀ l,J0<=l->l<N->(∀ k,J0<=k->k<N->k≠l->sg k=8)->5<=sg l->False:=by
  intro l _ _ hk h4;by_cases e:j=l
  ·subst e;omega
  ·have:=hk j hJ hN e;omega
 have w0:(∀ k,J0<=k->k<N->sg k<=4\/sg k=8)->p.at W ((cnt sg J0 N:Int)*ConcR.KK) 0->∃ v:Nat,cnt sg J0 N=v+1/\p.at W (((v:Int)+1)*ConcR.KK+(0:Nat)) 0/\∀ W',p.at W' ((v:Int)*ConcR.KK+(0:Nat)) 0->(∀ k,J0<=k->k<N->upd sg j 8 k<=4\/upd sg j 8 k=8)/\p.at W' ((cnt (upd sg j 8) J0 N:Int)*ConcR.KK) 0:=by
  intro h1 h2;refine⟨cnt sg J0 N-1,by omega,wm h2 (by unfold ConcR.KK;omega),fun W' h'=>⟨oU h1 (.inr rfl),wm h' (by rw[c1 8 (by omega)];unfold ConcR.KK;omega)⟩⟩
 have w1:(∀ k,J0<=k->k<N->sg k<=4\/sg k=8)->p.at W ((cnt sg J0 N:Int)*ConcR.KK+1) 0->∃ v:Nat,cnt sg J0 N=v+1/\p.at W (((v:Int)+1)*ConcR.KK+(1:Nat)) 0/\∀ W',p.at W' ((v:Int)*ConcR.KK+(1:Nat)) 0 ->
   (v≠0/\(∀ k,J0<=k->k<N->upd sg j 8 k<=4\/upd sg j 8 k=8)/\1<=cnt (upd sg j 8) J0 N/\p.at W' ((cnt (upd sg j 8) J0 N:Int)*ConcR.KK+1) 0)\/(v=0/\(∀ k,J0<=k->k<N->k≠j->upd sg j 5 k=8)/\upd sg j 5 j=5/\p.at W' 1 0):=by
  intro h1 h2;refine⟨cnt sg J0 N-1,by omega,wm h2 (by unfold ConcR.KK;omega),fun W' h'=>?_⟩;by_cases hv:cnt sg J0 N-1=0
  ·refine .inr ⟨hv,fun k a b hk=>?_,if_pos rfl,wm h' (by rw[hv];unfold ConcR.KK;omega)⟩;have h4:=Di (by rw[c1 5 (by omega)];exact hv) k a b;simp only[upd,if_neg hk] at h4 ⊢;exact (h1 k a b).resolve_left (by omega)
  ·exact .inl ⟨hv,oU h1 (.inr rfl),by rw[c1 8 (by omega)];omega,wm h' (by rw[c1 8 (by omega)];unfold ConcR.KK;omega)⟩
 cases ms with
 | qp | w1=>
  obtain⟨v,a,b,c⟩:=w0 h.1 h.2;exact⟨v,0,by omega,a,b,fun W' h'=>by rw[if_neg (by omega)];exact c W' h'⟩
 | w2 vs=>
  obtain⟨v,a,b,c⟩:=w0 h.1 h.2.1;exact⟨v,0,by omega,a,b,fun W' h'=>by rw[if_neg (by omega)];exact⟨(c W' h').1,(c W' h').2,h.2.2⟩⟩
 | cb | wb | w3=>
  rcases h with h | ⟨l,a,b,c,d⟩
  ·obtain⟨v,a,b,c⟩:=w1 h.1 h.2.2;refine⟨v,1,by omega,a,b,fun W' h'=>?_⟩;rcases c W' h' with⟨c1,c2⟩|⟨c1,c2,c3,c4⟩
   ·rw[if_neg (by omega)];exact .inl c2
   ·rw[if_pos ⟨c1,rfl⟩];exact .inr ⟨j,hJ,hN,c2,.inl ⟨.inl c3,c4⟩⟩
  ·exact (no l a b c (by rcases d with⟨h | h,_⟩|⟨h,_⟩|⟨h,_⟩<;>omega)).elim
 | sl=>
  rcases h with h | ⟨l,a,b,c,d⟩
  ·obtain⟨v,a,b,c⟩:=w1 h.1 h.2.2;refine⟨v,1,by omega,a,b,fun W' h'=>?_⟩;rcases c W' h' with⟨c1,c2⟩|⟨c1,c2,c3,c4⟩
   ·rw[if_neg (by omega)];exact .inl c2
   ·rw[if_pos ⟨c1,rfl⟩];exact .inr ⟨j,hJ,hN,c2,.inl ⟨.inl c3,c4⟩⟩
  ·exact (no l a b c (by rcases d with⟨h | h,_⟩|⟨h,_⟩<;>omega)).elim
 | w4 | en | ca | acq=>exact absurd (h.1 j hJ hN) (by omega)
theorem xS {j:Nat} (hJ:J0<=j) (hN:j<N) (h4:5<=sg j) (h6:sg j<=7) (h:p.sit sg J0 N W ms):(ms = .cb\/ms = .wb\/ms = .w3\/ms = .sl)/\(∀ k,J0<=k->k<N->k≠j->sg k=8)/\(((sg j=5\/sg j=6)/\p.at W 1 0)\/(sg j=7/\p.at W 0 0)):=by
 have key:∀ l,(∀ k,J0<=k->k<N->k≠l->sg k=8)->l=j:=by
  intro l hk;apply Classical.byContradiction;intro e;have:=hk j hJ hN (fun e'=>e e'.symm);omega
 cases ms with
 | qp | w1 | w2=>have:=h.1 j hJ hN;omega
 | cb | wb | w3=>
  rcases h with h | ⟨l,a,b,c,d⟩
  ·have:=h.1 j hJ hN;omega
  ·have:=key l c;subst this;exact⟨by simp,c,d.imp id fun h=>h.resolve_right fun h=>by omega⟩
 | sl=>
  rcases h with h | ⟨l,a,b,c,d⟩
  ·have:=h.1 j hJ hN;omega
  ·have:=key l c;subst this;exact⟨by simp,c,d⟩
 | w4 | en | ca | acq=>have:=h.1 j hJ hN;omega
theorem mQ {j s:Nat} (h:∀ k,J0<=k->k<N->k≠j->sg k=8):∀ k,J0<=k->k<N->k≠j->upd sg j s k=8:=fun k a b c=>by
 simp only[upd,if_neg c];exact h k a b c
theorem J9 {g:Goroutine} {w:World} {O:Nat->Prop} (h:ms.iw p Nx g w O):g.offers=none:=by
 cases ms<;>first | exact h.2.1 | exact h.elim
end
end Px
namespace Px
open Go Go.Conc
section
variable {p:Gp} {Nx:aF} {sd:Array Event} {M1:aF} {Sw:Nat->Prop} {h0:Nat->Option Obj} {J0 N s:Nat} {sg:Nat->Nat} {gs:Array Goroutine} {W:World} {t:Trace} {rl:List aT} {hh:Nat->Option Obj} {Q:Machine->Outcome->World->Trace->Prop} {ms:MS}
noncomputable abbrev nM (p:Gp) (Nx:aF) (sd:Array Event) (M1:aF) (Sw:Nat->Prop) (h0:Nat->Option Obj) (J0 N:Nat) (sg:Nat->Nat) (ms:MS):Dg:=p.dg Sw h0 J0 N sg (ms.stop p Nx sd M1) (ms.iw p Nx) ms.dm
def lX (p:Gp) (Sw:Nat->Prop) (hh:Nat->Option Obj) (s:Nat) (W:World):Prop:=Shut W p.cn s/\∀ b,Sw b->b≠p.cn->b≠p.Wg->W.heap[b]? = hh b
def Ch (p:Gp) (Nx:aF) (sd:Array Event) (M1:aF) (Sw:Nat->Prop) (J0 N s:Nat) (hh:Nat->Option Obj) (Q:Machine->Outcome->World->Trace->Prop) (E:Nat):Prop:=
 ∀ sg ms h0 gs W t rl,12*tot sg J0 N+ms.rank (cnt sg J0 N)<E->GD (nM p Nx sd M1 Sw h0 J0 N sg ms) gs W t rl->gs.size=N->p.sit sg J0 N W ms->lX p Sw hh s W->dM p.P Q gs W t
theorem GD.wake (h:GD (nM p Nx sd M1 Sw h0 J0 N sg .sl) gs W t rl) {x:Goroutine} (hx:gs[0]? = some x) (hr:x.status = .running):∃ rl',GD (nM p Nx sd M1 Sw h0 J0 N sg .w3) gs W t rl':=by
 have hlt:=(Array.getElem?_eq_some_iff.1 hx).1;have hll:0<rl.length:=h.len ▸ hlt;obtain⟨r,hr0⟩:∃ r,rl[0]? = some r:=⟨rl[0],by simp[hll]⟩;have key:∃ r',r'.own=r.own/\jl (nM p Nx sd M1 Sw h0 J0 N sg .w3) 0 r' x W t:=by
  match r,h.fit 0 r x hr0 hx with
  | .run m S g w O,⟨a,b,c,d,e,f,k⟩=>
   refine⟨.run m (Db p Nx) g w O,rfl,a,b,rfl,d,e,?_,k⟩;subst c;exact f.bind fun g w O hst=>.stop fun w₁ hk=>(hst w₁ hk).elim
  | .idle g w O,⟨a,b,_,d,e⟩=>
   have e:MS.iw p Nx .sl g w O:=e;refine⟨.run true (Db p Nx) x W O,rfl,a,rfl,rfl,rfl,hr,.stop fun w₁ hk=>?_,.refl ..⟩;have:=e.2.2 w₁ (d.trans hk);rcases b with rfl | rfl
   ·rw[e.1] at hr;cases hr
   ·exact this
  | .quit q,⟨a,_⟩=>exact absurd rfl a
 obtain⟨r',h1,h2⟩:=key;refine⟨rl.set 0 r',by simp[h.len],⟨by rw[lu hr0 h1];exact h.wi.ap,by rw[lu hr0 h1,List.length_set];exact h.wi.ti,h.wi.deaf,h.wi.kX⟩,h.fx,fun j r2 y e1 e2=>?_,h.pos⟩;by_cases hj:j=0
 ·subst hj;rw[List.getElem?_set_self hll] at e1;cases e1;rw[hx] at e2;cases e2;exact h2
 ·rw[List.getElem?_set_ne (Ne.symm hj)] at e1;exact jl.to (p:=nM p Nx sd M1 Sw h0 J0 N sg .sl) rfl rfl id id (by simp[Gp.dg,hj]) rfl (by simp[Gp.dg,hj]) id (h.fit j r2 y e1 e2)
theorem pJ {W W':World} (h:lX p Sw hh s W) (hne:p.cn≠p.Wg) (old:∀ x,x≠p.Wg->W'.heap[x]? = W.heap[x]?):lX p Sw hh s W':=by
 obtain⟨⟨tm,h⟩,hd⟩:=h;exact⟨⟨tm,(old _ hne).trans h⟩,fun b h1 h2 h3=>(old b h3).trans (hd b h1 h2 h3)⟩
theorem wu {W W':World} (h:lX p Sw hh s W) (hcn:Sw p.cn) (h1:∀ b,Sw b->W.heap[b]? = h0 b) (h2:∀ b,Sw b->W'.heap[b]? = h0 b):lX p Sw hh s W':=by
 have e:∀ b,Sw b->W'.heap[b]? = W.heap[b]?:=fun b hb=>(h2 b hb).trans (h1 b hb).symm
 obtain⟨⟨tm,h⟩,hd⟩:=h;exact⟨⟨tm,(e _ hcn).trans h⟩,fun b h1 h2 h3=>(e b h1).trans (hd b h1 h2 h3)⟩
theorem Ka (hs:p.sit sg J0 N W ms):∃ st sm,p.at W st sm:=by
 cases ms with
 | qp | w1=>exact⟨_,_,hs.2⟩
 | w2=>exact⟨_,_,hs.2.1⟩
 | cb | wb | w3=>
  rcases hs with h | ⟨_,_,_,_,h | h | h⟩
  ·exact⟨_,_,h.2.2⟩
  all_goals exact⟨_,_,h.2⟩
 | sl=>
  rcases hs with h | ⟨_,_,_,_,h | h⟩
  ·exact⟨_,_,h.2.2⟩
  all_goals exact⟨_,_,h.2⟩
 | w4 | en | ca | acq=>exact⟨_,_,hs.2⟩
theorem Kc (c:Ctx p Nx sd M1 Sw J0 N) (h:GD (nM p Nx sd M1 Sw h0 J0 N sg ms) gs W t rl) (hs:p.sit sg J0 N W ms) (hsh:lX p Sw hh s W) (hN:gs.size=N) {j:Nat} {g:Goroutine} (hg:gs[j]? = some g) (hr:g.status = .running) (hj0:j≠0) (hev:Da (nM p Nx sd M1 Sw h0 J0 N sg ms) rl j g)
  (nx:Ch p Nx sd M1 Sw J0 N s hh Q (12*tot sg J0 N+ms.rank (cnt sg J0 N))) (d:Nat) (sl:Option (Nat×Nat)):eU p.P Q gs W t j d sl:=by
 have hlt:=(Array.getElem?_eq_some_iff.1 hg).1;obtain⟨r,kJ⟩:∃ r,rl[j]? = some r:=⟨rl[j]'(by rw[h.len];exact hlt),by simp⟩;have hf:=h.fit j r g kJ hg;have hl:(nM p Nx sd M1 Sw h0 J0 N sg ms).L j:=by
  rcases hev with⟨m,g0,w0,O,e,hst⟩|⟨g0,w0,O,e⟩|⟨e,hl⟩
  ·rw[kJ] at e;cases e;exact hf.1
  ·rw[kJ] at e;cases e;exact hf.1
  ·exact hl.1
 obtain⟨hJ,iC,h6⟩:J0<=j/\j<N/\sg j<=7:=Or.resolve_left hl hj0;have q0:sg j≠0->(∃ q,rl[j]? = some (.quit q))/\(nM p Nx sd M1 Sw h0 J0 N sg ms).qt j g:=by
  intro hne;rcases hev with⟨m,g0,w0,O,e,hst⟩|⟨g0,w0,O,e⟩|⟨e,_,e'⟩
  ·have:=hst w0 (.refl ..);have:(if j=0 then ms.stop p Nx sd M1 else fun g _ _=>sg j=0/\mP p g) g0 w0 O:=this;rw[if_neg hj0] at this;exact absurd this.1 hne
  ·rw[kJ] at e;cases e;have:if j=0 then ms.iw p Nx g0 w0 O else sg j=0/\mP p g0:=hf.2.2.2.2
   rw[if_neg hj0] at this;exact absurd this.1 hne
  ·exact⟨e,e'⟩
 have less:∀ s',sg j<s'->s'<=8->∀ ms':MS,12*tot (upd sg j s') J0 N+ms'.rank (cnt (upd sg j s') J0 N)<12*tot sg J0 N+ms.rank (cnt sg J0 N):=by
  intro s' h1 h2 ms';have:=Qm hJ iC h1 h2;have:=MS.Qo (cnt (upd sg j s') J0 N) ms';omega
 have wa:∀ st sm,p.at W st sm->p.at (W.at d) st sm:=fun _ _ h=>h
 rcases (by omega:sg j=0\/sg j=1\/sg j=2\/sg j=3\/sg j=4\/sg j=5\/sg j=6\/sg j=7) with e | e | e | e | e | e | e | e
 ·refine Qk h (fun _ _ _=>J9) c.j0 hJ iC e kJ hg hr hev hsh.1 (fun gs' W' t' rl' hW hG hz=>?_) d sl;refine nx (upd sg j 1) ms h0 gs' W' t' rl' (less 1 (by omega) (by omega) ms) hG (hz.trans hN) (Gp.rP (wo hJ iC (by omega) (by omega) hs) (by rw[hW])) (pJ hsh c.ne fun x _=>by rw[hW])
 all_goals obtain⟨⟨qq,hqq⟩,qt⟩:=q0 (by omega)
 ·obtain⟨st,sm,hat⟩:=Ka hs;refine U6 h c.j0 hJ iC e hqq hg (by simpa only [Gp.dg,e] using qt) hat (fun gs' W' t' rl' hG hz=>?_) d sl;exact nx (upd sg j 2) ms h0 gs' W' t' rl' (less 2 (by omega) (by omega) ms) hG (hz.trans hN) (Gp.rP (wo hJ iC (by omega) (by omega) hs) ((hG.fx _ c.wg).trans (h.fx _ c.wg).symm)) (wu hsh c.cn h.fx hG.fx)
 ·refine U7 h c.j0 hJ iC e hqq hg (by simpa only [Gp.dg,e] using qt) (fun gs' W' t' rl' hG hz=>?_) d sl;exact nx (upd sg j 3) ms h0 gs' W' t' rl' (less 3 (by omega) (by omega) ms) hG (hz.trans hN) (Gp.rP (wo hJ iC (by omega) (by omega) hs) ((hG.fx _ c.wg).trans (h.fx _ c.wg).symm)) (wu hsh c.cn h.fx hG.fx)
 ·refine U8 h c.j0 hJ iC e hqq hg (by simpa only [Gp.dg,e] using qt) (fun gs' W' t' rl' hG hz=>?_) d sl;exact nx (upd sg j 4) ms h0 gs' W' t' rl' (less 4 (by omega) (by omega) ms) hG (hz.trans hN) (Gp.rP (wo hJ iC (by omega) (by omega) hs) ((hG.fx _ c.wg).trans (h.fx _ c.wg).symm)) (wu hsh c.cn h.fx hG.fx)
 ·obtain⟨v,wt,h1,h2,h3,h4⟩:=Qp hJ iC e hs;have hq:AtD1 p g:=by simpa only [Gp.dg,e] using qt
  have hb:=c.big;have hcl:=J8 (sg:=sg) (J0:=J0) (N:=N);obtain⟨g',e1,a4,a7⟩:=hq (W.at d) v wt h1 (by omega) (wa _ _ h3);obtain⟨b1,b2,b3⟩:=uM (wa _ _ h3) ((v:Int)*ConcR.KK+wt);have hs':=h4 _ b1;have hsh':lX p Sw hh s ((W.at d).setCell p.stA (.int .u64 ((v:Int)*ConcR.KK+wt))):=pJ (W:=W) hsh c.ne b3;by_cases hv:v=0/\wt=1
  ·rw[if_pos hv] at hs';obtain⟨q,hq⟩:=a4 hv;refine yS h c.j0 c.wg (s:=5) (q:=q) hJ iC (by omega) h6 hqq hg d sl e1 b2 b3 (fun x hx=>?_) ?_ rfl (by omega) (.inr ⟨by omega,by simpa only [Gp.dg,upd,if_true] using hq⟩) fun gs' t' rl' hG hz _ _=>nx (upd sg j 5) ms _ gs' _ t' rl' (less 5 (by omega) (by omega) ms) hG (hz.trans hN) hs' hsh'
   ·simp only[List.mem_toArray,List.mem_cons,List.not_mem_nil,or_false] at hx;rcases hx with rfl | rfl<;>exact .inl ⟨_,_,rfl,rfl⟩
   ·exact⟨.inr ⟨fun x hx=>by cases hx;rfl,Nat.succ_ne_zero _⟩,.inr ⟨fun x hx=>by cases hx;rfl,Nat.succ_ne_zero _⟩,trivial⟩
  ·rw[if_neg hv] at hs';obtain⟨q,hq⟩:=a7 hv;refine yS h c.j0 c.wg (s:=8) (q:=q) hJ iC (by omega) h6 hqq hg d sl e1 b2 b3 (fun x hx=>?_) ?_ rfl (by omega) (.inl ⟨by omega,hq⟩) fun gs' t' rl' hG hz _ _=>nx (upd sg j 8) ms _ gs' _ t' rl' (less 8 (by omega) (by omega) ms) hG (hz.trans hN) hs' hsh'
   ·simp only[List.mem_toArray,List.mem_cons,List.not_mem_nil,or_false] at hx;rcases hx with rfl | rfl<;>exact .inl ⟨_,_,rfl,rfl⟩
   ·exact⟨.inr ⟨fun x hx=>by cases hx;rfl,Nat.succ_ne_zero _⟩,.inr ⟨fun x hx=>by cases hx;rfl,Nat.succ_ne_zero _⟩,trivial⟩
 ·obtain⟨hm,ho,ha⟩:=xS hJ iC (by omega) h6 hs;have ha:=(ha.resolve_right fun h=>by omega).2;have hq:AtD2 p g:=by simpa only [Gp.dg,e] using qt
  obtain⟨g',e1,q,hq⟩:=hq (W.at d) (wa _ _ ha);refine yS h c.j0 c.wg (s:=6) (q:=q) hJ iC (by omega) h6 hqq hg d sl e1 rfl (fun _ _=>rfl) (fun x hx=>?_) ?_ rfl (by omega) (.inr ⟨by omega,by simpa only [Gp.dg,upd,if_true] using hq⟩) fun gs' t' rl' hG hz _ _=>nx (upd sg j 6) ms _ gs' _ t' rl' (less 6 (by omega) (by omega) ms) hG (hz.trans hN) ?_ hsh
  ·simp only[List.mem_toArray,List.mem_cons,List.not_mem_nil,or_false] at hx;subst hx;exact .inl ⟨_,_,rfl,rfl⟩
  ·exact⟨.inr ⟨fun x hx=>by cases hx;rfl,Nat.succ_ne_zero _⟩,trivial⟩
  ·rcases hm with rfl | rfl | rfl | rfl<;>exact .inr ⟨j,hJ,iC,mQ ho,.inl ⟨.inr (if_pos rfl),ha⟩⟩
 ·obtain⟨hm,ho,ha⟩:=xS hJ iC (by omega) h6 hs;have ha:=(ha.resolve_right fun h=>by omega).2;have hq:AtD3 p g:=by simpa only [Gp.dg,e] using qt
  obtain⟨g',e1,q,hq⟩:=hq (W.at d) (wa _ _ ha);obtain⟨b1,b2,b3⟩:=uM (wa _ _ ha) 0;have hsh':lX p Sw hh s ((W.at d).setCell p.stA (.int .u64 0)):=pJ (W:=W) hsh c.ne b3;refine yS h c.j0 c.wg (s:=7) (q:=q) hJ iC (by omega) h6 hqq hg d sl e1 b2 b3 (fun x hx=>?_) ?_ rfl (by omega) (.inr ⟨by omega,by simpa only [Gp.dg,upd,if_true] using hq⟩) fun gs' t' rl' hG hz _ _=>nx (upd sg j 7) ms _ gs' _ t' rl' (less 7 (by omega) (by omega) ms) hG (hz.trans hN) ?_ hsh'
  ·simp only[List.mem_toArray,List.mem_cons,List.not_mem_nil,or_false] at hx;subst hx;exact .inl ⟨_,_,rfl,rfl⟩
  ·exact⟨.inr ⟨fun x hx=>by cases hx;rfl,Nat.succ_ne_zero _⟩,trivial⟩
  ·rcases hm with rfl | rfl | rfl | rfl
   ·exact .inr ⟨j,hJ,iC,mQ ho,.inr (.inl ⟨if_pos rfl,b1⟩)⟩
   ·exact .inr ⟨j,hJ,iC,mQ ho,.inr (.inl ⟨if_pos rfl,b1⟩)⟩
   ·exact .inr ⟨j,hJ,iC,mQ ho,.inr (.inl ⟨if_pos rfl,b1⟩)⟩
   ·exact .inr ⟨j,hJ,iC,mQ ho,.inr ⟨if_pos rfl,b1⟩⟩
 ·obtain⟨hm,ho,ha⟩:=xS hJ iC (by omega) h6 hs;have ha:=(ha.resolve_left fun h=>by omega).2;have hq:AtD4 p g:=by simpa only [Gp.dg,e] using qt
  obtain⟨mw,hq⟩:=hq;obtain⟨g',e1,q,hq⟩:=hq (W.at d) (wa _ _ ha);obtain⟨b1,b2,b3⟩:=Dc (wa _ _ ha) 1;have hsh':lX p Sw hh s ((W.at d).setCell p.smA (.int .u32 1)):=pJ (W:=W) hsh c.ne b3;refine yS h c.j0 c.wg (s:=8) (q:=q) hJ iC (by omega) h6 hqq hg d sl e1 b2 b3 (fun x hx=>?_) ?_ rfl (by omega) (.inl ⟨by omega,hq⟩) fun gs' t' rl' hG hz hx0 hr0=>?_
  ·simp only[semEvents,List.mem_toArray,List.mem_cons,List.not_mem_nil,or_false] at hx;rcases hx with rfl | rfl | rfl | rfl
   ·exact .inr (.inl rfl)
   ·exact .inl ⟨_,_,rfl,rfl⟩
   ·exact .inl ⟨_,_,rfl,rfl⟩
   ·exact .inr (.inr rfl)
  ·exact⟨.inl rfl,.inr ⟨fun x hx=>by cases hx;rfl,Nat.succ_ne_zero _⟩,.inr ⟨fun x hx=>by cases hx;rfl,Nat.succ_ne_zero _⟩,.inl rfl,trivial⟩
  ·have fin:p.sit (upd sg j 8) J0 N ((W.at d).setCell p.smA (.int .u32 1)) .w3:=.inr ⟨j,hJ,iC,mQ ho,.inr (.inr ⟨if_pos rfl,b1⟩)⟩;rcases hm with rfl | rfl | rfl | rfl
   ·exact nx (upd sg j 8) .cb _ gs' _ t' rl' (less 8 (by omega) (by omega) _) hG (hz.trans hN) fin hsh'
   ·exact nx (upd sg j 8) .wb _ gs' _ t' rl' (less 8 (by omega) (by omega) _) hG (hz.trans hN) fin hsh'
   ·exact nx (upd sg j 8) .w3 _ gs' _ t' rl' (less 8 (by omega) (by omega) _) hG (hz.trans hN) fin hsh'
   ·obtain⟨x,hx⟩:∃ x,gs[0]? = some x:=⟨gs[0]'(h.pos),by simp[h.pos]⟩;have hll:0<rl.length:=h.len ▸ h.pos;obtain⟨r0,Xy⟩:∃ r,rl[0]? = some r:=⟨rl[0],by simp[hll]⟩;have hf0:=h.fit 0 r0 x Xy hx;have run:(Conc.woken p.P g g' ((W.at d).setCell p.smA (.int .u32 1)) x).status = .running:=by
     have hg':(g'.status != .blocked&&g'.status != .waiting)=true:=by
      rcases gU hq with h | h<;>rw[h]<;>rfl
     unfold Conc.woken;rw[Bool.and_assoc,mw,hg',Bool.and_self,if_pos rfl];match r0,hf0 with
     | .run ..,⟨_,_,_,_,h4,_⟩=>rw[gT (.inl h4)];exact h4
     | .idle g0 w0 O,⟨_,h4,_,_,h5⟩=>
      have h5:MS.iw p Nx .sl g0 w0 O:=h5;rcases h4 with rfl | rfl
      ·unfold Goroutine.again;rw[h5.1,h5.2.1]
      ·rw[gT (.inl rfl)]
     | .quit _,⟨h,_⟩=>exact absurd rfl h
    rw[hx] at hx0;obtain⟨Za,hG2⟩:=GD.wake (p:=p) (Nx:=Nx) (sd:=sd) (M1:=M1) hG hx0 run;exact nx (upd sg j 8) .w3 _ gs' _ t' Za (less 8 (by omega) (by omega) _) hG2 (hz.trans hN) fin hsh'
end
end Px
namespace Px
open Go Go.Conc
section
variable {p:Gp} {Nx:aF} {sd:Array Event} {M1:aF} {Sw:Nat->Prop} {h0:Nat->Option Obj} {J0 N s:Nat} {sg:Nat->Nat} {gs:Array Goroutine} {W:World} {t:Trace} {rl:List aT} {hh:Nat->Option Obj} {Q:Machine->Outcome->World->Trace->Prop} {ms:MS}
def yU (p:Gp) (Nx:aF) (sd:Array Event) (M1:aF) (Sw:Nat->Prop) (J0 N:Nat) (hh:Nat->Option Obj) (Q:Machine->Outcome->World->Trace->Prop):Prop:=
 ∀ sg h0 gs W t rl g w O d sl,GD (nM p Nx sd M1 Sw h0 J0 N sg .acq) gs W t rl->(∀ j,J0<=j->j<N->sg j=8)->p.at W 0 0->(∀ b,Sw b->b≠p.cn->b≠p.Wg->W.heap[b]? = hh b)->gs.size=N->gs[0]? = some g->rl[0]? = some (.run true (uK p Nx) g w O)->(∀ w₁,Keep p.Ro O w w₁->uK p Nx g w₁ O)->Keep p.Ro O w W->eU p.P Q gs W t 0 d sl
theorem yV (c:Ctx p Nx sd M1 Sw J0 N) {a:Addr} (ha:a.block=p.Wg) (w:Bool):(∀ x,(MemAct.ofEvent ⟨.cell a,w,true⟩).touch? = some x->nK Sw x.loc/\x.kind ≠ .plain)/\∀ b,MemAct.ofEvent ⟨.cell a,w,true⟩ ≠ .mark (.release b):=by
 refine⟨fun x hx=>?_,fun b=>?_⟩
 ·cases w<;>(cases hx;exact⟨⟨_,rfl,by rw[ha];exact c.wg⟩,fun h=>by cases h⟩)
 ·cases w<;>exact fun h=>by cases h
theorem zY {m:Mark} (h1:(MemAct.mark m).touch? = none) (h2:∀ b,m ≠ .release b):(∀ x,(MemAct.ofEvent (ConcR.mk m)).touch? = some x->nK Sw x.loc/\x.kind ≠ .plain)/\∀ b,MemAct.ofEvent (ConcR.mk m) ≠ .mark (.release b):=by
 refine⟨fun x hx=>?_,fun b e=>?_⟩
 ·have:(MemAct.mark m).touch? = some x:=hx;rw[h1] at this;cases this
 ·have:MemAct.mark m = .mark (.release b):=e;exact h2 b (MemAct.mark.inj this)
theorem Ke (c:Ctx p Nx sd M1 Sw J0 N) (la:yU p Nx sd M1 Sw J0 N hh Q) (h:GD (nM p Nx sd M1 Sw h0 J0 N sg ms) gs W t rl) (hs:p.sit sg J0 N W ms) (hsh:lX p Sw hh s W) (hN:gs.size=N) {g:Goroutine} (hg:gs[0]? = some g) (hr:g.status = .running) (hev:Da (nM p Nx sd M1 Sw h0 J0 N sg ms) rl 0 g)
  (d:Nat) (J4:∀ x',x'.status = .blocked->GD (nM p Nx sd M1 Sw h0 J0 N sg ms) (gs.setIfInBounds 0 x') (W.at d) t rl->dM p.P Q (gs.setIfInBounds 0 x') (W.at d) t) (nx:Ch p Nx sd M1 Sw J0 N s hh Q (12*tot sg J0 N+ms.rank (cnt sg J0 N))) (sl:Option (Nat×Nat)):eU p.P Q gs W t 0 d sl:=by
 have hlt:=(Array.getElem?_eq_some_iff.1 hg).1;have hll:0<rl.length:=h.len ▸ hlt;have less:∀ ms':MS,ms'.rank (cnt sg J0 N)<ms.rank (cnt sg J0 N)->12*tot sg J0 N+ms'.rank (cnt sg J0 N)<12*tot sg J0 N+ms.rank (cnt sg J0 N):=fun ms' h=>by omega
 have wa:∀ st sm,p.at W st sm->p.at (W.at d) st sm:=fun _ _ h=>h
 have aw:∀ st sm,p.at (W.at d) st sm->p.at W st sm:=fun _ _ h=>h
 have OL:∀ {g':Goroutine} {w':World},g'.status = .blocked->gs.map (Conc.woken p.P g g' w')=gs:=by
  intro g' w' hb;apply Array.ext_getElem?;intro k;rw[Array.getElem?_map];cases gs[k]? with
  | none=>rfl
  | some x=>simp[Conc.woken,hb]
 have Kg:∀ fn pos,t++MemOp.ofEvents 0 fn pos #[]=t:=fun fn pos=>by simp[MemOp.ofEvents]
 rcases hev with⟨m,g0,w0,O,e,hst⟩|⟨g0,w0,O,e⟩|⟨⟨_,e⟩,_⟩
 ·obtain⟨_,rfl,_,rfl,_,_,hk⟩:=h.fit 0 _ g e hg;have hk:Keep p.Ro O w0 W:=hk;have hkd:Keep p.Ro O w0 (W.at d):=hk.trans (gD ..);have hS:∀ w₁,Keep p.Ro O w0 w₁->ms.stop p Nx sd M1 g w₁ O:=hst;have hS':=hS _ hkd;have go:∀ (ms':MS) {g':Goroutine} {W':World} {es:Array Event},stepG p.P true g (W.at d) = .go g' W' es->W'.heap.size=W.heap.size->(∀ b,b≠p.Wg->W'.heap[b]? = W.heap[b]?) ->
    (∀ e,e∈es->(∀ x,(MemAct.ofEvent e).touch? = some x->nK Sw x.loc/\x.kind ≠ .plain)/\∀ a,MemAct.ofEvent e ≠ .mark (.release a))->deafBehind ms.dm es=ms'.dm->g'.status = .running->Runs p.P true p.Ro (ms'.stop p Nx sd M1) g' W' O->ms'.rank (cnt sg J0 N)<ms.rank (cnt sg J0 N)->p.sit sg J0 N W' ms'->∀ (gM:W'.os=W.os/\W'.output=W.output:=by exact⟨rfl,rfl⟩),eU p.P Q gs W t 0 d sl:=by
   intro ms' g' W' es e1 size old hes hd hr' hR Zb hs' gM;refine Ql (M':=ms'.stop p Nx sd M1) (yT:=ms'.iw p Nx) (gK:=ms'.dm) h c.wg e rfl hg d sl e1 size old hes hd hr' hR (fun gs' t' rl' hG hz _=>?_) gM;exact nx sg ms' _ gs' _ t' rl' (less ms' Zb) hG (hz.trans hN) hs' (pJ hsh c.ne old)
  have m1:∀ (m:Mark),(MemAct.mark m).touch? = none->(∀ b,m ≠ .release b)->∀ e,e∈#[ConcR.mk m]->(∀ x,(MemAct.ofEvent e).touch? = some x->nK Sw x.loc/\x.kind ≠ .plain)/\∀ a,MemAct.ofEvent e ≠ .mark (.release a):=by
   intro m h1 h2 e he;simp only[List.mem_toArray,List.mem_cons,List.not_mem_nil,or_false] at he;subst he;exact zY h1 h2
  have r1:∀ e,e∈#[ConcR.rd p.stA]->(∀ x,(MemAct.ofEvent e).touch? = some x->nK Sw x.loc/\x.kind ≠ .plain)/\∀ a,MemAct.ofEvent e ≠ .mark (.release a):=by
   intro e he;simp only[List.mem_toArray,List.mem_cons,List.not_mem_nil,or_false] at he;subst he;exact yV c rfl _
  have r2:∀ e,e∈#[ConcR.rd p.stA,ConcR.wr p.stA]->(∀ x,(MemAct.ofEvent e).touch? = some x->nK Sw x.loc/\x.kind ≠ .plain)/\∀ a,MemAct.ofEvent e ≠ .mark (.release a):=by
   intro e he;simp only[List.mem_toArray,List.mem_cons,List.not_mem_nil,or_false] at he;rcases he with rfl | rfl<;>exact yV c rfl _
  have hcl:=J8 (sg:=sg) (J0:=J0) (N:=N);have hb:=c.big;have Xz:(∀ j,J0<=j->j<N->sg j<=4\/sg j=8)->cnt sg J0 N=0->∀ j,J0<=j->j<N->sg j=8:=fun h1 h2 j a b=>(h1 j a b).resolve_left (by have:=Di h2 j a b;omega)
  cases ms with
  | qp=>
   obtain⟨g',e1,e2,e3⟩:=hS';exact go .w1 e1 rfl (fun _ _=>rfl) (m1 .disable rfl fun _ h=>by cases h) rfl e2 e3 (by simp[MS.rank]) hs
  | w1=>
   obtain⟨g',e1,e2,e3,e4⟩:=c.w1 _ _ _ hS' (cnt sg J0 N) (by omega) (wa _ _ hs.2);by_cases hv:cnt sg J0 N=0
   ·exact go .en e1 rfl (fun _ _=>rfl) r1 rfl e2 (e3 hv) (by simp[MS.rank]) ⟨Xz hs.1 hv,wm (wa _ _ hs.2) (by rw[hv];simp)⟩
   ·exact go (.w2 (cnt sg J0 N)) e1 rfl (fun _ _=>rfl) r1 rfl e2 (e4 hv) (by simp[MS.rank]) ⟨hs.1,wa _ _ hs.2,by omega⟩
  | w2 vs=>
   obtain⟨e1,e2⟩:=hS' (cnt sg J0 N) (by omega) (wa _ _ hs.2.1);by_cases hv:cnt sg J0 N=vs
   ·obtain⟨g',a1,a2,a3⟩:=e1 hv;obtain⟨b1,b2,b3⟩:=uM (wa _ _ hs.2.1) ((cnt sg J0 N:Int)*ConcR.KK+1);exact go .cb a1 b2 b3 r2 rfl a2 a3 (by simp[MS.rank,hv]) (.inl ⟨hs.1,by have:=hs.2.2;omega,b1⟩)
   ·obtain⟨g',a1,a2,a3⟩:=e2 hv;exact go .w1 a1 rfl (fun _ _=>rfl) r1 rfl a2 a3 (by simp[MS.rank,Ne.symm hv]) ⟨hs.1,wa _ _ hs.2.1⟩
  | cb=>
   obtain⟨st,sm,hat⟩:=Ka hs;obtain⟨g',a1,a2,a3⟩:=hS' st sm (wa _ _ hat);exact go .wb a1 rfl (fun _ _=>rfl) (fun e he=>by simp at he) rfl a2 a3 (by simp[MS.rank]) hs
  | wb=>
   obtain⟨g',a1,a2,a3⟩:=hS';exact go .w3 a1 rfl (fun _ _=>rfl) c.V6 c.V7 a2 a3 (by simp[MS.rank]) hs
  | w3=>
   obtain⟨a1,a2,a3,a4⟩:=hS';have GZ:p.sit sg J0 N W .sl->eU p.P Q gs W t 0 d sl:=by
    intro hs';have hat:∃ st,p.at (W.at d) st 0:=by
     rcases hs' with h | ⟨_,_,_,_,h | h⟩
     ·exact⟨_,wa _ _ h.2.2⟩
     ·exact⟨_,wa _ _ h.2⟩
     ·exact⟨_,wa _ _ h.2⟩
    obtain⟨st,hat⟩:=hat
    have e1:=a3 st hat
    refine .inl ⟨_,_,_,runT_crowd_go hg (by exact e1),?_⟩;have hW:=h.at (Gp.jG p) d;refine nx sg .sl h0 _ _ _ (rl.set 0 (.idle { g with status:=.blocked } (W.at d) O)) (less .sl (by simp[MS.rank])) ?_ (by simpa using hN) hs' hsh;refine sP (M':=MS.stop p Nx sd M1 .sl) (yT:=MS.iw p Nx .sl) (gK:=1) hW (r':=.idle { g with status:=.blocked } (W.at d) O) { g with status:=.blocked } e rfl (fun _ _=>rfl) hW.fx (fun _ h=>h) (fun op hop=>?_) (fun op hop=>?_) ?_ ⟨.inl rfl,.inl rfl,.inr ⟨rfl,rfl⟩,.refl ..,rfl,a2,fun w₁ hk₁=>?_⟩
    ·rw[show MemOp.ofEvents 0 g.frame.fn g.frame.place #[]=#[] by simp[MemOp.ofEvents]] at hop;simp at hop
    ·rw[show MemOp.ofEvents 0 g.frame.fn g.frame.place #[]=#[] by simp[MemOp.ofEvents]] at hop;simp at hop
    ·rw[Kg];exact (h.wi.deaf 0 (.inl rfl)).trans (by simp[Gp.dg,MS.dm])
    ·have eg:({ { g with status:=.blocked } with status:=.running }:Goroutine)=g:=by
      obtain⟨a,b,c',d',e'⟩:=g;dsimp only at a1;subst a1;rfl
     rw[eg];exact hS _ (hkd.trans hk₁)
   rcases hs with h1 | ⟨l,b1,b2,b3,h1 | h1 | h1⟩
   ·exact GZ (.inl h1)
   ·exact GZ (.inr ⟨l,b1,b2,b3,.inl h1⟩)
   ·exact GZ (.inr ⟨l,b1,b2,b3,.inr h1⟩)
   ·obtain⟨g',c1,c2,c3⟩:=a4 (wa _ _ h1.2);obtain⟨d1,d2,d3⟩:=Dc (wa _ _ h1.2) 0;refine go .w4 c1 d2 d3 (fun x hx=>?_) rfl c2 c3 (by simp[MS.rank]) ⟨fun j x y=>?_,d1⟩
    ·simp only[semEvents,List.mem_toArray,List.mem_cons,List.not_mem_nil,or_false] at hx;rcases hx with rfl | rfl | rfl | rfl
     ·exact zY rfl fun _ h=>by cases h
     ·exact yV c rfl _
     ·exact yV c rfl _
     ·exact zY rfl fun _ h=>by cases h
    ·by_cases hjl:j=l
     ·subst hjl;exact h1.1
     ·exact b3 j x y hjl
  | sl=>exact hS'.elim
  | w4=>
   obtain⟨g',a1,a2,a3⟩:=hS' (wa _ _ hs.2);exact go .en a1 rfl (fun _ _=>rfl) r1 rfl a2 a3 (by simp[MS.rank]) hs
  | en=>
   obtain⟨g',a1,a2,a3⟩:=hS';exact go .ca a1 rfl (fun _ _=>rfl) (m1 .enable rfl fun _ h=>by cases h) rfl a2 a3 (by simp[MS.rank]) hs
  | ca=>
   obtain⟨g',a1,a2,a3⟩:=hS' 0 0 (wa _ _ hs.2);exact go .acq a1 rfl (fun _ _=>rfl) (fun e he=>by simp at he) rfl a2 a3 (by simp[MS.rank]) hs
  | acq=>exact la sg h0 gs W t rl g w0 O d sl h hs.1 hs.2 hsh.2 hN hg e hS hk
 ·obtain⟨_,hx,_,hk,hi⟩:=h.fit 0 _ g e hg;have hi:ms.iw p Nx g0 w0 O:=hi;cases ms with
  | sl=>
   obtain⟨i1,i2,i3⟩:=hi;rcases hx with rfl | rfl
   ·rw[i1] at hr;cases hr
   ·have hkd:Keep p.Ro O w0 (W.at d):=hk.trans (gD ..);obtain⟨a1,a2,a3,_⟩:=i3 _ hkd;have hat:∃ st,p.at (W.at d) st 0:=by
     rcases hs with h | ⟨_,_,_,_,h | h⟩
     ·exact⟨_,wa _ _ h.2.2⟩
     ·exact⟨_,wa _ _ h.2⟩
     ·exact⟨_,wa _ _ h.2⟩
    obtain⟨st,hat⟩:=hat
    have e1:=a3 st hat
    have eg:({ { g0 with status:=.running } with status:=.blocked }:Goroutine)=g0:=by
     obtain⟨a,b,c',d',e'⟩:=g0;dsimp only at i1;subst i1;rfl
    rw[eg] at e1;refine .inl ⟨_,_,_,runT_crowd_go hg (by exact e1),?_⟩;rw[OL i1,Kg];refine J4 g0 i1 ?_;have hW:=h.at (Gp.jG p) d;have:=hW.mute (Gp.jG p) (j:=0) (r:=.idle g0 w0 O) (r':=.idle g0 w0 O) (g:={ g0 with status:=.running }) (g':=g0) (es:=#[]) 0 "" g0 e rfl (fun e he=>by simp at he) (fun e he=>by simp at he) (fun _=>by rw[Kg]) (by
     rw[Kg];exact⟨.inl rfl,.inl rfl,.inr ⟨rfl,i1⟩,hkd,i1,i2,i3⟩)
    have this:GD (nM p Nx sd M1 Sw h0 J0 N sg .sl) ((gs.map (Conc.woken p.P { g0 with status:=.running } g0 (W.at d))).setIfInBounds 0 g0) (W.at d) (t++MemOp.ofEvents 0 0 "" #[]) (rl.set 0 (.idle g0 w0 O)):=this;rw[OL i1,Kg] at this;have er:rl.set 0 (.idle g0 w0 O)=rl:=by
     apply List.ext_getElem?;intro k;by_cases hk0:k=0
     ·subst hk0;rw[List.getElem?_set_self hll];exact e.symm
     ·rw[List.getElem?_set_ne (Ne.symm hk0)]
    rw[er] at this;exact this
  | _=>exact hi.elim
 ·exact absurd rfl (h.fit 0 _ g e hg).1
theorem Kh (c:Ctx p Nx sd M1 Sw J0 N) (la:yU p Nx sd M1 Sw J0 N hh Q):∀ E,Ch p Nx sd M1 Sw J0 N s hh Q E:=by
 intro E;induction E with
 | zero=>intro sg ms h0 gs W t rl hE;omega
 | succ E R8=>
  intro sg ms h0 gs W t rl hE h hN hs hsh;have nx:Ch p Nx sd M1 Sw J0 N s hh Q (12*tot sg J0 N+ms.rank (cnt sg J0 N)):=fun Zc ms' h0' gs' W' t' rl' hE'=>R8 Zc ms' h0' gs' W' t' rl' (by omega)
  have same:∀ {W':World} {gs' t' rl'},GD (nM p Nx sd M1 Sw h0 J0 N sg ms) gs' W' t' rl'->p.sit sg J0 N W' ms/\lX p Sw hh s W':=fun hG=>⟨Gp.rP hs ((hG.fx _ c.wg).trans (h.fx _ c.wg).symm),wu hsh c.cn h.fx hG.fx⟩
  refine drive (Gp.jG p) (N:=N) (fun gs W t rl hG hz=>?_) (fun gs W t rl hG hz i g d sl hg hr hev J4=>?_) gs W t rl h hN
  ·obtain⟨hs',_⟩:=same hG;obtain⟨x,hx⟩:∃ x,gs[0]? = some x:=⟨gs[0]'hG.pos,by simp[hG.pos]⟩;have hll:0<rl.length:=hG.len ▸ hG.pos;obtain⟨r0,hr0⟩:∃ r,rl[0]? = some r:=⟨rl[0],by simp[hll]⟩;have hf0:=hG.fit 0 r0 x hr0 hx;by_cases hm:ms = .sl
   ·subst hm;have:∃ k,J0<=k/\k<N/\sg k<=7:=by
     rcases hs' with h | ⟨l,a,b,_,h⟩
     ·obtain⟨k,a,b,c⟩:=MV h.2.1;exact⟨k,a,b,by omega⟩
     ·exact⟨l,a,b,by rcases h with⟨h | h,_⟩|⟨h,_⟩<;>omega⟩
    obtain⟨k,a,b,c'⟩:=this;exact J7 hG (by have:=c.j0;omega) (hz ▸ b) (.inr ⟨a,b,c'⟩)
   ·match r0,hf0 with
    | .run ..,⟨_,_,_,_,h4,_⟩=>exact⟨0,x,hx,h4⟩
    | .idle g0 w0 O,⟨_,_,_,_,hi⟩=>
     have hi:ms.iw p Nx g0 w0 O:=hi;cases ms<;>first | exact absurd rfl hm | exact hi.elim
    | .quit _,⟨h,_⟩=>exact absurd rfl h
  ·obtain⟨hs',hsh'⟩:=same hG;by_cases hi:i=0
   ·subst hi;exact Ke c la hG hs' hsh' hz hg hr hev d (J4 rfl) nx sl
   ·exact Kc c hG hs' hsh' hz hg hr hi hev nx d sl
end
end Px
namespace Px
open Go Go.Conc
section
variable {p:Gp} {Nx:aF} {sd:Array Event} {M1:aF} {Sw:Nat->Prop} {J0 N:Nat} {hh:Nat->Option Obj} {Q:Machine->Outcome->World->Trace->Prop}
theorem Qq (q:Pl) (hP:q.P=p.P) (hS:q.Sw=Sw) (dx:q.Ro=p.Ro) (hJ:q.J0=N) (hd:q.dm=0) (hn:q.n=0) (hM:q.dS 0 []=Nx) (_:Ctx p Nx sd M1 Sw J0 N)
  (nx:∀ gs W t rl,G2 { q with h0:=fun b=>W.heap[b]? } gs W t rl (fun _=>none) 0 []->gs.size=N->p.at W 0 0->(∀ b,Sw b->b≠p.cn->b≠p.Wg->W.heap[b]? = hh b)->dM p.P Q gs W t):yU p Nx sd M1 Sw J0 N hh Q:=by
 intro sg h0 gs W t rl g w O d sl h h7 hat hdd hN hg e hst hk;have hll:0<rl.length:=h.len ▸ h.pos;obtain⟨g',e1,hr,hnx⟩:=hst (W.at d) (hk.trans (gD ..));refine .inl ⟨_,_,_,runT_crowd_go hg (by exact e1),?_⟩;have hW:=h.at (Gp.jG p) d;have d0:Deaf t 0=0:=(h.wi.deaf 0 (.inl rfl)).trans (by simp[Gp.dg,MS.dm]);have ops:∀ op∈MemOp.ofEvents 0 g.frame.fn g.frame.place #[ConcR.mk (.acquire p.stA)],op.g=0/\op.act = .mark (.acquire p.stA):=by
  intro op hop;rw[ko] at hop;simp only[List.mem_toArray,List.mem_cons,List.not_mem_nil,or_false] at hop;subst hop;exact⟨rfl,rfl⟩
 have hG:=sP (g:=g) (M':=Nx) (yT:=fun _ _ _=>False) (gK:=0) hW (r':=.run true Nx g' (W.at d) O) (u:=MemOp.ofEvents 0 g.frame.fn g.frame.place #[ConcR.mk (.acquire p.stA)]) g' e rfl (fun _ _=>rfl) hW.fx (fun _ h=>h)
  (fun op hop=>⟨(ops op hop).1,fun x hx=>by rw[(ops op hop).2] at hx;cases hx⟩) (fun op hop=>.none (fun a=>by rw[(ops op hop).2];exact fun h=>by cases h) (by rw[(ops op hop).2];rfl)) (by rw[Deaf_own,d0];rfl) ⟨.inl rfl,rfl,rfl,rfl,hr,.stop fun w₁ hk₁=>hnx w₁ hk₁,.refl ..⟩
 have key:∀ j,j≠0->j<gs.size->(¬ (p.dg Sw h0 J0 N sg Nx (fun _ _ _=>False) 0).L j)/\HO (t++MemOp.ofEvents 0 g.frame.fn g.frame.place #[ConcR.mk (.acquire p.stA)]) j:=by
  intro j hj hjl;have nl:¬ (p.dg Sw h0 J0 N sg (MS.stop p Nx sd M1 .acq) (MS.iw p Nx .acq) 0).L j:=by
   rintro (h1 | ⟨h1,h2,h3⟩)
   ·exact hj h1
   ·have:=h7 j h1 h2;omega
  refine⟨nl,?_⟩;obtain⟨r,hr⟩:∃ r,rl[j]? = some r:=⟨rl[j]'(by rw[h.len];exact hjl),by simp⟩;have hT:if J0<=j then 3<=sg j->Rl p.stA t j else HO t j:=by
   match r,h.fit j r gs[j] hr (by simp[hjl]) with
   | .run ..,⟨a,_⟩=>exact absurd a nl
   | .idle ..,⟨a,_⟩=>exact absurd a nl
   | .quit _,⟨_,a,_⟩=>exact a
  split at hT
  ·rename_i Zd;rw[ko];exact J6 (hT (by have:=h7 j Zd (hN ▸ hjl);omega)) hj (h.wi.kX.1 _) d0 ⟨rfl,rfl⟩
  ·exact hT.app fun op hop _=>by rw[(ops op hop).2];rfl
 refine nx _ _ _ (rl.set 0 (.run true Nx g' (W.at d) O)) ?_ (by simpa using hN) hat hdd;have sz:((gs.map (Conc.woken p.P g g' (W.at d))).setIfInBounds 0 g').size=N:=by simpa using hN
 constructor
 ·exact hG.len
 ·refine⟨?_,?_,fun j hj=>?_,by show xO q.Sw _;rw[hS];exact hG.wi.kX⟩
  ·show Ap q.Sw _ _ q.Ro;rw[hS,dx];exact hG.wi.ap
  ·show TI q.Sw _ _ _ q.Ro _ _;rw[hS,dx];refine hG.wi.ti.fewer fun k hk=>?_
   rcases hk with hk | ⟨h1,h2⟩
   ·exact .inl hk
   ·rw[sz] at h2;have h1:q.J0<=k:=h1;omega
  ·have hj0:j=0:=by
    rcases hj with hk | ⟨h1,h2⟩
    ·exact hk
    ·rw[sz] at h2;have h1:q.J0<=j:=h1;omega
   subst hj0;rw[hG.wi.deaf 0 (.inl rfl)];simp[Pl.D,Gp.dg,hd]
 ·intro hh;have hh:q.J0<_:=hh;omega
 ·intro hh;have hh:q.J0<_:=hh;omega
 ·intro hh;have hh:q.J0<_:=hh;omega
 ·exact fun _ _ _ _=>rfl
 ·refine⟨_,_,List.getElem?_set_self hll,get_set_same (by simpa using h.pos) _,rfl,hM.symm,rfl,hr,?_,.refl ..⟩;show Runs q.P true q.Ro Nx g' (W.at d) O;rw[hP,dx];exact .stop fun w₁ hk₁=>hnx w₁ hk₁
 ·intro j r x hj e1 e2;have hjl:j<gs.size:=by
   have:=(Array.getElem?_eq_some_iff.1 e2).1;simpa using this
  obtain⟨k1,k2⟩:=key j hj hjl;match r,hG.fit j r x e1 e2 with
  | .run ..,⟨a,_⟩=>exact absurd a k1
  | .idle ..,⟨a,_⟩=>exact absurd a k1
  | .quit _,⟨_,_,a⟩=>
   refine⟨by show j<q.J0;omega,?_,k2⟩;show QuitsD q.P _ _ _;rw[hP];exact (a.resolve_right fun h=>k1 h.1).2
 ·intro j i hi;cases hi
 ·intro j j' i hi;cases hi
 ·intro i hi;omega
 ·intro i hi;cases hi
 ·exact List.nodup_nil
 ·exact Nat.zero_le _
 ·intro hh;have hh:0<q.n:=hh;omega
 ·intro g1 w1 O1 e1;rw[List.getElem?_set_self hll] at e1;cases e1
end
end Px
namespace Px
open Go Go.Conc
def jc (c:Nat):Array Event:=#[⟨.obj c,false,true⟩,⟨.obj c,true,true⟩]
def V8 (p:Gp) (N1:aF):aF:=fun g w O=>mayWake p.P g=true/\∀ s,iJ w p.cn s->∃ g' w',stepG p.P true g w = .go g' w' (jc p.cn)/\Shut w' p.cn s/\w'.heap.size=w.heap.size/\(∀ b,b≠p.cn->w'.heap[b]? = w.heap[b]?)/\(w'.os=w.os/\w'.output=w.output)/\g'.status = .running/\Runs p.P true p.Ro N1 g' w' O
theorem FM {α:Type} {P:Nat->α->Prop}:∀ N,(∀ j,j<N->∃ r,P j r)->∃ l:List α,l.length=N/\∀ j r,l[j]? = some r->P j r
 | 0,_=>⟨[],rfl,fun j r h=>by simp at h⟩
 | N+1,h=>by
  obtain⟨l,h1,h2⟩:=FM N fun j hj=>h j (by omega)
  obtain⟨r,hr⟩:=h N (by omega);refine⟨l ++ [r],by simp[h1],fun j r' hj=>?_⟩;by_cases iC:j<N
  ·rw[List.getElem?_append_left (by omega)] at hj;exact h2 j r' hj
  ·rw[List.getElem?_append_right (by omega)] at hj;have:j-l.length=0:=by
    have:=(List.getElem?_eq_some_iff.1 hj).1;simp at this;omega
   rw[this] at hj;cases hj;have:j=N:=by omega
   rw[this];exact hr
theorem FN {J0:Nat}:∀ N,J0<=N->cnt (fun _=>0) J0 N=N-J0
 | 0,h=>by simp[cnt,iN]
 | N+1,h=>by
  by_cases e:J0=N+1
  ·subst e;exact (Dh fun k h1 h2=>by omega).trans (by omega)
  ·have:=FN (J0:=J0) N (by omega);unfold cnt at this ⊢;simp only[iN];rw[this];simp
   rw[if_pos (by omega)];omega
section
variable {p:Gp} {Nx:aF} {sd:Array Event} {M1:aF} {N:Nat} {Q:Machine->Outcome->World->Trace->Prop} {q:Pl} {gs:Array Goroutine} {W:World} {t:Trace} {rl:List aT} {tk:Nat->Option Nat} {next:Nat} {got:List Nat}
theorem Dj {hh:Nat->Option Obj} (hdd:∀ b,q.Sw b->b≠p.cn->b≠p.Wg->W.heap[b]? = hh b) (h:G2 q gs W t rl tk next got) (o:q.Ok) (hall:got.length=q.n) (hP:q.P=p.P) (dx:q.Ro=p.Ro) (hcn:q.cn=p.cn) (Ze:q.dm=0) (c:Ctx p Nx sd M1 q.Sw q.J0 N) (la:yU p Nx sd M1 q.Sw q.J0 N hh Q) (hN:gs.size=N) (hJ:q.J0<gs.size) (hat:p.at W (((N-q.J0:Nat):Int)*ConcR.KK) 0)
  (hC:∀ g w O,q.AtR g w O->mP p g/\∀ g1 cs sh w',stepG p.P false g w' = .comm g1 cs true sh w' #[]->mP p { g1 with status:=.running,offers:=some (cs,sh) }) {S:aF} {g:Goroutine} {w:World} {O:Nat->Prop} (hj:rl[0]? = some (.run true S g w O)) (hg:gs[0]? = some g) (d:Nat) (sl:Option (Nat×Nat)) (hst:V8 p (uL p M1) g (W.at d) O):eU p.P Q gs W t 0 d sl:=by
 obtain⟨s,hc⟩:=h.lU hJ;obtain⟨mw,hst⟩:=hst;obtain⟨g',W',e1,hsh,size,old,gM,hr,hR⟩:=hst s (by rw[<-hcn];exact hc);have size:W'.heap.size=W.heap.size:=size;have old:∀ b,b≠p.cn->W'.heap[b]? = W.heap[b]?:=old;have hnt:∀ j,tk j=none:=by
  intro j;cases hj:tk j with
  | none=>rfl
  | some i=>
   obtain⟨_,_,hi,hm⟩:=h.lV j i hj;have:(i::got).Nodup:=List.nodup_cons.2 ⟨hm,h.gn⟩;have:=this.length_le_of_subset (l₂:=List.range next) fun x hx=>List.mem_range.2 (by
    rcases List.mem_cons.1 hx with rfl | hx
    ·exact hi
    ·exact h.gb x hx)
   rw[List.length_range] at this;have:=h.nn;simp only[List.length_cons] at *;omega
 refine .inl ⟨_,_,_,runT_crowd_go hg (by exact e1),?_⟩;have u1:∀ op∈MemOp.ofEvents 0 g.frame.fn g.frame.place (jc p.cn),op=⟨0,g.frame.fn,g.frame.place,.access ⟨.obj p.cn,false,true⟩⟩\/op=⟨0,g.frame.fn,g.frame.place,.close p.cn⟩:=by
  intro op hop;simp only[MemOp.ofEvents,jc] at hop;simpa [MemAct.ofEvent] using hop
 have u0:∀ op∈MemOp.ofEvents 0 g.frame.fn g.frame.place (jc p.cn),op.g=0:=fun op hop=>by rcases u1 op hop with rfl | rfl<;>rfl
 have us:∀ k,Deaf (t++MemOp.ofEvents 0 g.frame.fn g.frame.place (jc p.cn)) k=Deaf t k:=fun k=>ConcN.Deaf_still t k _ fun op hop=>by
  rcases u1 op hop with rfl | rfl<;>exact⟨(fun h=>by cases h),fun h=>by cases h⟩
 have hwk:∀ x:Goroutine,Conc.woken p.P g g' W' x=x.again W':=fun x=>by
  unfold Conc.woken;rw[mw,hr];rfl
 have keep:∀ (k:Nat) (r:aT),rl[k]? = some r->Keep p.Ro r.own W W':=fun k r hk=>⟨Nat.le_of_eq size.symm,fun b hb=>old b fun e=>by
  subst e;rcases hb with hb | hb
  ·exact h.wi.ap.lS _ (by rw[dx];exact hb) c.cn
  ·exact h.wi.ap.sw k _ ⟨r,hk,hb⟩ c.cn,gM⟩
 have nd:(nM p Nx sd M1 q.Sw (fun b=>W'.heap[b]?) q.J0 N (fun _=>0) .qp).D=fun _=>0:=by
  funext j;simp[Gp.dg,MS.dm]
 have hs:=Gp.rP (W':=W') (show p.sit (fun _=>0) q.J0 N W .qp from ⟨fun _ _ _=>.inl (Nat.zero_le _),by rw[FN N (by omega)];exact hat⟩) (old _ (Ne.symm c.ne));obtain⟨rl',h1,h2⟩:=FM (P:=fun j r'=>(∀ b,r'.own b->bD rl j b)/\∃ x',((gs.map (Conc.woken p.P g g' W')).setIfInBounds 0 g')[j]? = some x'/\jl (nM p Nx sd M1 q.Sw (fun b=>W'.heap[b]?) q.J0 N (fun _=>0) .qp) j r' x' W' (t++MemOp.ofEvents 0 g.frame.fn g.frame.place (jc p.cn))) N fun j iC=>by
  by_cases hj0:j=0
  ·subst hj0;exact⟨.run true (uL p M1) g' W' O,fun b hb=>⟨_,hj,hb⟩,g',get_set_same (by simp;omega) _,.inl rfl,rfl,rfl,rfl,hr,hR,.refl ..⟩
  ·obtain⟨r,kJ⟩:∃ r,rl[j]? = some r:=⟨rl[j]'(by rw[h.len];omega),by simp⟩;obtain⟨x,hx⟩:∃ x,gs[j]? = some x:=⟨gs[j]'(by omega),by simp⟩;have hf:=h.work j r x hj0 kJ hx;rw[hnt j] at hf;have hx':((gs.map (Conc.woken p.P g g' W')).setIfInBounds 0 g')[j]? = some (x.again W'):=by
    rw[aV (Ne.symm hj0),Array.getElem?_map,hx,Option.map_some,hwk]
   have hm:(j==0)=false:=beq_eq_false_iff_ne.2 hj0;match r,hf with
   | .run m S g w O,⟨a,b,c',d',e,f,k⟩=>
    subst b c';refine⟨.run false (fun g _ _=>(0:Nat)=0/\mP p g) g w O,fun b hb=>⟨_,kJ,hb⟩,_,hx',.inr ⟨a,iC,Nat.zero_le _⟩,hm.symm,by simp[Gp.dg,hj0],by rw[gT (.inl e)];exact d',by rw[gT (.inl e)];exact e,?_,?_⟩
    ·have f:Runs p.P false p.Ro q.AtR g w O:=by rw[<-hP,<-dx];exact f
     exact f.bind fun g w O hst=>.stop fun w₁ hk=>⟨rfl,(hC g w₁ O (hst w₁ hk)).1⟩
    ·exact (dx ▸ k).trans (keep j _ kJ)
   | .idle g w O,⟨a,b,k,e⟩=>
    obtain⟨g1,e2,_⟩:=o.hR _ _ _ (e w (.refl ..));have Sb:=b.cases e2;have hag:x.again W' = { g1 with status:=.running,offers:=some (#[q.cR],.recv true) }:=by
     rw[GY (c:=q.cR) (sh:=.recv true) (r:=p.cn) (s:=s) (by rw[Sb]) (by rw[Sb]) (by show CommCase.chan _=_;simp only[Pl.cR,hcn]) hsh,Sb]
    refine⟨.idle (x.again W') W' O,fun b hb=>⟨_,kJ,hb⟩,_,hx',.inr ⟨a,iC,Nat.zero_le _⟩,.inl rfl,.inl (by rw[hag]),.refl ..,?_⟩;show if j=0 then _ else _
    rw[if_neg hj0,hag];exact⟨rfl,(hC g w O (e w (.refl ..))).2 g1 _ _ w (by rw[<-hP];exact e2)⟩
   | .quit n,⟨a,b,e⟩=>
    have ha:x.again W'=x:=gT (gU b);refine⟨.quit n,fun b hb=>hb.elim,_,hx',hj0,?_,.inl ⟨?_,?_⟩⟩
    ·show if q.J0<=j then _ else _
     rw[if_neg (by omega)];exact e.app fun op hop e=>absurd (e.symm.trans (u0 op hop)) hj0
    ·rintro (h1 | ⟨h1,_⟩)
     ·exact hj0 h1
     ·omega
    ·rw[ha,us];show QuitsD p.P _ _ _;rw[<-hP];exact b
 have ow:∀ k b,bD rl' k b->bD rl k b:=fun k b ⟨r,h3,h4⟩=>(h2 k r h3).1 b h4
 obtain⟨A',T'⟩:=TI.give (u:=MemOp.ofEvents 0 g.frame.fn g.frame.place (jc p.cn)) (n':=W'.heap.size) h.wi.ap h.wi.ti (g:=0) (.inl rfl) (by rw[h.len];omega) (Nat.le_of_eq size.symm) (fun b hb=>hb) (fun b hb=>.inl hb) (Own':=bD rl') (fun k b hk=>.inl (ow k b hk)) (fun k b hk=>h.wi.ap.sw _ _ (ow k b hk)) fun op hop=>⟨u0 op hop,fun x hx=>.inl (by
  rcases u1 op hop with rfl | rfl
  ·cases hx;exact⟨⟨_,rfl,c.cn⟩,(fun h=>by cases h),fun h=>by cases h⟩
  ·cases hx)⟩
 refine Kh (s:=s) c la _ (fun _=>0) .qp (fun b=>W'.heap[b]?) _ _ _ rl' (Nat.lt_succ_self _) ⟨by simp[h1,hN],⟨?_,?_,fun j hl=>?_,kY h.wi.kX fun op hop=>?_⟩,fun _ _=>rfl,fun j r x e2 e3=>?_,by simp;omega⟩ (by simpa using hN) hs ⟨hsh,fun b h1 h2 h3=>(old b h2).trans (hdd b h1 h2 h3)⟩
 ·rw[dx] at A';exact A'
 ·rw[dx] at T';rw[h1,<-hN,<-h.len];refine T'.fewer fun k hk=>?_
  rcases hk with hk | ⟨h3,h4,_⟩
  ·exact .inl hk
  ·exact .inr ⟨h3,h.len ▸ h4⟩
 ·rw[nd,us,h.wi.deaf j (by
   rcases hl with hk | ⟨h1,h2,_⟩
   ·exact .inl hk
   ·exact .inr ⟨h1,by omega⟩)]
  simp[Pl.D,Ze]
 ·rcases u1 op hop with rfl | rfl
  ·exact⟨(fun a h=>by cases h),fun x hx=>by cases hx;exact .inl ⟨_,rfl,c.cn⟩⟩
  ·exact .none (fun a h=>by cases h) rfl
 ·obtain⟨_,x',hx',hf⟩:=h2 j r e2;rw[hx'] at e3;cases e3;exact hf
end
end Px
namespace Px
open Go
variable {F:Fs} {P:Program} {k:Ok}
theorem G5 {F:Fs} {B:Bl}:∀ v:Value,∃ u,VR F B u v
 | .bool b=>⟨_,.bool b⟩
 | .nilFunc=>⟨_,.nilFunc⟩
 | .nilIface=>⟨_,.nilIface⟩
 | .pointer none=>⟨_,.bn⟩
 | .map none=>⟨_,.jP⟩
 | .chan none=>⟨_,.iV⟩
 | .slice none n c=>⟨_,.bG n c⟩
 | .func (.method _) _ _=>⟨_,.lI⟩
 | .agg c=>by
  have h:∀ (i:Nat) (hi:i<c.size),∃ u,VR F B u c[i]:=fun i hi=>G5 c[i]
  refine⟨.agg (Array.ofFn fun i:_root_.Fin c.size=>(h i.1 i.2).choose),.agg (by simp) fun i h1 h2=>?_⟩;rw[Array.getElem_ofFn];exact (h i h2).choose_spec
 | .int _ _ | .float _ _ | .complex _ _ _ | .string _ | .pointer (some _) | .slice (some _) _ _ | .map (some _) | .chan (some _) | .iface _ _ | .tuple _=>⟨_,.junk (by simp[JK])⟩
 | .func (.func _) _ _=>⟨_,.junk (by simp[JK])⟩
 | .func (.yield _) _ _=>⟨_,.junk (by simp[JK])⟩
 | .func (.methodOf _ _) _ _=>⟨_,.junk (by simp[JK])⟩
 | .func (.via _ _ _ _) _ _=>⟨_,.junk (by simp[JK])⟩
termination_by v=>sizeOf v
def ji (Ro:Nat->Prop):Bl:=fun a b=>a=b/\Ro a
open Classical in
noncomputable def jn (F:Fs) (Ro:Nat->Prop) (v:Value):Value:=if VR F (ji Ro) v v then v else (G5 (F:=F) (B:=ji Ro) v).choose
theorem Ci {Ro:Nat->Prop} (v:Value):VR F (ji Ro) (jn F Ro v) v:=by
 unfold jn;split
 ·assumption
 ·exact (G5 v).choose_spec
theorem bP {Ro:Nat->Prop} {v:Value} (h:VR F (ji Ro) v v):jn F Ro v=v:=if_pos h
open Classical in
noncomputable def xU (F:Fs) (Ro:Nat->Prop) (h:Array Obj):Array Obj:=h.mapIdx fun b o=>if Ro b then (match o with | .cells xs t _=>.cells (xs.map (jn F Ro)) t (0,xs.size) | o=>o) else o
theorem uO {Ro:Nat->Prop} {h:Array Obj}:(xU F Ro h).size=h.size:=by simp[xU]
theorem zZ {Ro:Nat->Prop} {h:Array Obj} {b:Nat} {xs:Array Value} {t:TypeId} {z:Nat×Nat} (hr:Ro b) (e:h[b]? = some (.cells xs t z)):(xU F Ro h)[b]? = some (.cells (xs.map (jn F Ro)) t (0,(xs.map (jn F Ro)).size)):=by
 unfold xU;rw[Array.getElem?_mapIdx,e];simp[hr]
theorem HR.jg {Ro:Nat->Prop} {h:Array Obj} {K:Cs} (hc:∀ b,Ro b->∃ xs t z,h[b]? = some (.cells xs t z)) (hG:F.G<h.size) (hcm:F.cm=false) (hct:∀ b,¬ F.cut b):HR F K h.size (ji Ro) (xU F Ro h) h where
 left:=by rintro a b b' ⟨rfl,_⟩ ⟨rfl,_⟩;rfl
 right:=by rintro a a' b ⟨rfl,_⟩ ⟨rfl,_⟩;rfl
 obj:=by
  rintro a b ⟨rfl,hr⟩;obtain⟨xs,t,z,e⟩:=hc a hr;exact⟨_,_,zZ hr e,e,.inl (.cells t ⟨by simp,fun i h1 h2=>by rw[Array.getElem_map];exact Ci _⟩ (.inr ⟨hcm,rfl⟩))⟩
 ro:=by
  rintro a b ⟨rfl,hr⟩ _;obtain⟨xs,t,z,e⟩:=hc a hr;exact⟨_,t,zZ hr e⟩
 base:=Nat.le_refl _
 lo:=by rw[uO];exact hG
 lo2:=hG
 rA:=fun _=>⟨uO,fun _ _ h=>h.1⟩
 co:=fun b hb=>absurd hb (hct b)
 mF:=fun _ b _ hb=>absurd hb (hct b)
def Lone (F:Fs) (Ro:Nat->Prop) (w w0:World):Prop:=∃ T d,w0=at_ w (xU F Ro w.heap) T d
theorem Lone.cell {Ro:Nat->Prop} {w w0:World} (h:Lone F Ro w w0) {p:Addr} {v:Value} (hr:Ro p.block) (hv:VR F (ji Ro) v v) (hc:w.cell? p=some v):w0.cell? p=some v:=by
 obtain⟨T,d,rfl⟩:=h;unfold World.cell? at hc ⊢;cases e:w.heap[p.block]? with
 | none=>rw[e] at hc;cases hc
 | some o=>
  rw[e] at hc;cases o with
  | cells xs t z=>
   have:=zZ (F:=F) hr e;simp only[at_,this];simp only at hc;split at hc
   ·cases hc
   ·rename_i hs;rw[if_neg hs,Array.getElem?_map,hc];simp[bP hv]
  | _=>cases hc
theorem Lone.size {Ro:Nat->Prop} {w w0:World} (h:Lone F Ro w w0):w0.heap.size=w.heap.size:=by
 obtain⟨T,d,rfl⟩:=h;exact uO
theorem FP {Y O:Nat->Prop} {w w':World}:grow (fun b=>Y b\/O b) w w'=fun b=>Y b\/grow O w w' b:=by
 funext b;apply propext;unfold grow;exact⟨fun h=>h.elim (fun h=>h.imp id .inl) fun h=>.inr (.inr h),fun h=>h.elim (fun h=>.inl (.inl h)) fun h=>h.imp .inr id⟩
theorem Runs.frame {m:Bool} {Ro xg Y O:Nat->Prop} {S:aF} {g:Goroutine} {w:World} (h:Runs P m xg S g w O) (hs:∀ b,xg b->Ro b\/Y b):Runs P m Ro (fun g w O1=>∃ O,O1=(fun b=>Y b\/O b)/\S g w O) g w fun b=>Y b\/O b:=by
 have hk:∀ {O:Nat->Prop} {w w₁:World},Keep Ro (fun b=>Y b\/O b) w w₁->Keep xg O w w₁:=fun h=>⟨h.size,fun b hb=>h.same b (by
  rcases hb with hb | hb
  ·exact (hs b hb).imp id .inl
  ·exact .inr (.inr hb)),h.env⟩
 have he:∀ {O:Nat->Prop} {e:Event},jE xg O e->jE Ro (fun b=>Y b\/O b) e:=fun {O e} h=>by
  cases h with
  | read h=>exact .read (h.elim (fun h=>(hs _ h).imp id .inl) fun h=>.inr (.inr h))
  | write h=>exact .write (.inr h)
  | ng h=>exact .ng (h.elim (fun h=>(hs _ h).imp id .inl) fun h=>.inr (.inr h))
  | kI h=>exact .kI (.inr h)
  | room=>exact .room
  | ext f=>exact .ext f
 induction h with
 | stop h=>exact .stop fun w₁ h₁=>⟨_,rfl,h w₁ (hk h₁)⟩
 | step h1 _ ih=>
  refine .step (fun w₁ h₁=>?_) fun w₁ g' w' es h₁ e=>?_
  ·obtain⟨g',w',es,e1,e2,e3⟩:=h1 w₁ (hk h₁);exact⟨g',w',es,e1,e2,e3.size,fun b hb hn=>e3.old b hb fun h=>hn (.inr h),e3.tape,e3.os,e3.output,fun e hm=>by rw[FP];exact he (e3.evs e hm)⟩
  ·rw[FP];exact ih w₁ g' w' es (hk h₁) e
end Px
namespace Px
open Go Go.Conc
variable {F:Fs} {P:Program} {k:Ok}
structure Base (F:Fs) (P:Program) (k:Ok):Prop where
 S:Setup F P k
 hin:∀ f,F.fk f->P.inits.idxOf? f=none
 trap:∃ fr:Frame,P.funcs[fr.fn]? = none/\fr.defers = []/\∀ l,(fr.raise l).catches P=true
structure Rd (F:Fs) (k:Ok) (Ro:Nat->Prop) (w:World):Prop where
 cells:∀ b,Ro b->∃ xs t z,w.heap[b]? = some (.cells xs t z)
 gl:∀ g,k.gl g=true->Ro g
 G:F.G<w.heap.size
 ex:∀ f,F.ex f->Ro F.G
 cm:F.cm=false
 jg:F.jg=false
 ct:∀ b,¬ F.cut b
theorem Rd.gb {Ro:Nat->Prop} {w:World} (h:Rd F k Ro w) (hG:F.G=P.globals.size):GB F P k (ji Ro):=⟨fun g hg=>⟨rfl,h.gl g hg⟩,fun f hf=>⟨hG,rfl,h.ex f hf⟩⟩
def Self (F:Fs) (Ro:Nat->Prop) (v:Value):Prop:=VR F (ji Ro) v v
theorem Rd.lt {Ro:Nat->Prop} {w:World} (h:Rd F k Ro w) {b:Nat} (hb:Ro b):b<w.heap.size:=by
 obtain⟨_,_,_,e⟩:=h.cells b hb;exact (Array.getElem?_eq_some_iff.1 e).1
inductive Pv (F:Fs) (Ro:Nat->Prop):Value->Prop
 | bool (b:Bool):Pv F Ro (.bool b)
 | int (k:IntKind) (n:Int):Pv F Ro (.int k n)
 | string (s:ByteArray):Pv F Ro (.string s)
 | bn:Pv F Ro (.pointer none)
 | ptr {a:Addr}:Ro a.block->Pv F Ro (.pointer (some a))
 | bG (n c:Nat):Pv F Ro (.slice none n c)
 | sl {a:Addr} (n c:Nat):Ro a.block->Pv F Ro (.slice (some a) n c)
 | sl0 (a:Addr):Pv F Ro (.slice (some a) 0 0)
 | func {f:Nat}:F.fn f->Pv F Ro (.func (.func f) #[] #[])
 | nilFunc:Pv F Ro .nilFunc
 | nilIface:Pv F Ro .nilIface
 | iface {v:Value} (t:TypeId):Pv F Ro v->Pv F Ro (.iface t v)
 | agg {xs:Array Value}:(∀ (i:Nat) (h:i<xs.size),Pv F Ro xs[i])->Pv F Ro (.agg xs)
theorem Pv.self {Ro:Nat->Prop} {v:Value} (h:Pv F Ro v):Self F Ro v:=by
 induction h with
 | bool b=>exact .bool b
 | int k n=>exact .int k n
 | string s=>exact .string s
 | bn=>exact .bn
 | ptr h=>exact .ptr ⟨⟨rfl,h⟩,rfl,rfl,fun _=>rfl⟩
 | bG n c=>exact .bG n c
 | sl n c h=>exact .sl n c ⟨⟨rfl,h⟩,rfl,rfl,fun _=>rfl⟩
 | sl0 a=>exact .sl0 a
 | func hf=>exact .func (.inl hf) rfl rfl (fun i h=>absurd h (Nat.not_lt_zero _)) fun i h=>absurd h (Nat.not_lt_zero _)
 | nilFunc=>exact .nilFunc
 | nilIface=>exact .nilIface
 | iface t _ ih=>exact .iface t ih
 | agg _ ih=>exact .agg rfl fun i h _=>ih i h
theorem Pv.mono {Ro xg:Nat->Prop} (hr:∀ b,Ro b->xg b) {v:Value} (h:Pv F Ro v):Pv F xg v:=by
 induction h with
 | bool b=>exact .bool b
 | int k n=>exact .int k n
 | string s=>exact .string s
 | bn=>exact .bn
 | ptr h=>exact .ptr (hr _ h)
 | bG n c=>exact .bG n c
 | sl n c h=>exact .sl n c (hr _ h)
 | sl0 a=>exact .sl0 a
 | func hf=>exact .func hf
 | nilFunc=>exact .nilFunc
 | nilIface=>exact .nilIface
 | iface t _ ih=>exact .iface t ih
 | agg _ ih=>exact .agg ih
theorem Pv.only {K:Cs} {base:Nat} {B:Bl} {Ro:Nat->Prop} {h h':Array Obj} (H:HR F K base B h h') (e:Ext (ji Ro) B) {t:TypeId} {x:Addr} (hr:Ro x.block) {v':Value} (hv:VR F B (.iface t (.pointer (some x))) v'):v' = .iface t (.pointer (some x)):=by
 cases hv with
 | iface _ h=>
  cases h with
  | @ptr _ z hb=>
   have h1:=hb.block;have:=H.left _ _ _ (e _ _ ⟨rfl,hr⟩) h1;obtain⟨b1,o1,s1⟩:=x;obtain⟨b2,o2,s2⟩:=z;have h2:=hb.off;have h3:=hb.spot;dsimp only at this h2 h3;subst this h2 h3;rfl
theorem Rd.hr {Ro:Nat->Prop} {w:World} (h:Rd F k Ro w):HR F (KK P k) w.heap.size (ji Ro) (xU F Ro w.heap) w.heap:=HR.jg h.cells h.G h.cm h.ct
theorem FQ {Ro:Nat->Prop} {l:List Value} (h:∀ v∈l,Self F Ro v):aH F (ji Ro) l.toArray l.toArray:=⟨rfl,fun i a _=>h _ (by simp at a;simp)⟩
theorem Ki (b:Base F P k) {m:Bool} {Ro:Nat->Prop} {w:World} (r:Rd F k Ro w) {f:FuncId} {cs:List Frame} {args:List Value} (hres:Gy P f) (hf:F.fn f) (ha:∀ v∈args,Self F Ro v) (Post:Value->Array Obj->Prop)
  (C:∀ w0,Lone F Ro w w0->Calls P f args.toArray w0 fun e w'=>∃ v,e = .returned v/\Post v w'.heap):Runs P m Ro (Gz F P k w.heap.size (ji Ro) f cs Post) (G (Frame.enter P f args.toArray .normal) cs) w fun _=>False:=
 transfer b.S r.jg (r.gb b.S.G) (fun _ _ h=>.inl (h.1 ▸ h.2)) (fun _ h=>r.lt h) (fun _ h=>h.elim) b.hin hres hf r.hr (FQ ha) Post b.trap (wL:=w) fun T d=>C _ ⟨T,d,rfl⟩
theorem eX {m:Bool} {fr c:Frame} {cs:List Frame} {fn:Func} {v:Value} {w:World} (hm:fr.mode = .returning) (hd:fr.defers = []) (hk:fr.kind = .normal) (hf:P.funcs[fr.fn]? = some fn) (hr:ResultsC P fn fr.tmps v):stepG P m (G fr (c::cs)) w = .go (G (c.finish v) cs) w:=by
 rw[jh (by rw[hm];exact fun h=>by cases h)];have h1:=(hr w).1;have h2:=(hr w).2;simp[unwind,doReturn,hd,hm,hk,hf,h1,h2,seen,GStep.after,G]
def MW (F:Fs) (P:Program) (k:Ok) (base:Nat) (Ro:Nat->Prop) (Post:Value->Array Obj->Prop) (v':Value) (w:World) (O:Nat->Prop):Prop:=∃ v B hL,VR F B v v'/\HR F (KK P k) base B hL w.heap/\Ext (ji Ro) B/\(∀ a b,B a b->ji Ro a b\/O b)/\Post v hL
theorem MX (b:Base F P k) {m:Bool} {Ro:Nat->Prop} {w:World} (r:Rd F k Ro w) {f:FuncId} {c:Frame} {cs:List Frame} {args:List Value} {S:aF} (hres:Gy P f) (hf:F.fn f) (ha:∀ v∈args,Self F Ro v) (Post:Value->Array Obj->Prop)
  (C:∀ w0,Lone F Ro w w0->Calls P f args.toArray w0 fun e w'=>∃ v,e = .returned v/\Post v w'.heap) (hn:∀ v' w' O,MW F P k w.heap.size Ro Post v' w' O->w.heap.size<=w'.heap.size->(∀ b,Ro b->w'.heap[b]? = w.heap[b]?)->Runs P m Ro S (G (c.finish v') cs) w' O):Runs P m Ro S (G (Frame.enter P f args.toArray .normal) (c::cs)) w fun _=>False:=by
 have key:=Ki b (m:=m) r (cs:=c::cs) hres hf ha Post C;have inv:∀ {g:Goroutine} {w0:World} {O:Nat->Prop},Runs P m Ro (Gz F P k w.heap.size (ji Ro) f (c::cs) Post) g w0 O->w.heap.size<=w0.heap.size->(∀ b,Ro b->w0.heap[b]? = w.heap[b]?)->(∀ b,O b->¬ Ro b)->Runs P m Ro S g w0 O:=by
  intro g w0 O h;induction h with
  | @stop g w0 O h=>
   intro hz hs ho;have st:∀ w₁,Keep Ro O w0 w₁->∃ v',stepG P m g w₁ = .go (G (c.finish v') cs) w₁/\MW F P k w.heap.size Ro Post v' w₁ O:=by
    intro w₁ hk;obtain⟨fr,fn,v,v',B,hL,rfl,hm,hd,hkd,hfn,hfu,hr,hv,H,he,ow,hp⟩:=h w₁ hk;exact⟨v',eX hm hd hkd (by rw[hfn];exact hfu) hr,v,B,hL,hv,H,he,ow,hp⟩
   refine .step (fun w₁ hk=>?_) fun w₁ g' w' es hk e=>?_
   ·obtain⟨v',e1,_⟩:=st w₁ hk;exact⟨_,_,_,e1,rfl,.rest fun e he=>by simp at he⟩
   ·obtain⟨v',e1,e2⟩:=st w₁ hk;rw[e1] at e;cases e;rw[jV];exact hn v' w₁ O e2 (Nat.le_trans hz hk.size) fun b hb=>(hk.same b (.inl hb)).trans (hs b hb)
  | @step g w0 O h1 h2 ih=>
   intro hz hs ho;refine .step h1 fun w₁ g' w' es hk e=>?_
   obtain⟨_,_,_,e1,_,hf⟩:=h1 w₁ hk;rw[e1] at e;cases e;have hz1:=Nat.le_trans hz hk.size;have hs1:∀ b,Ro b->w₁.heap[b]? = w.heap[b]?:=fun b hb=>(hk.same b (.inl hb)).trans (hs b hb)
   refine ih w₁ _ _ _ hk e1 (Nat.le_trans hz1 hf.size) (fun b hb=>?_) fun b hb hr=>?_
   ·have hlt:=Nat.lt_of_lt_of_le (r.lt hb) hz1;exact (hf.old b hlt fun h=>ho b h hb).trans (hs1 b hb)
   ·rcases hb with hb | hb
    ·exact ho b hb hr
    ·have:=r.lt hr;omega
 exact inv key (Nat.le_refl _) (fun _ _=>rfl) fun _ h=>h.elim
end Px
namespace Px
open Go Go.Conc
def Mine (Sw:Nat->Prop) (W:World):Nat->Prop:=fun b=>b<W.heap.size/\¬ Sw b
def z8:Nat->Prop:=fun _=>False
structure Al (P:Program) (Sw:Nat->Prop) (dm:Nat) (gs:Array Goroutine) (W:World) (t:Trace) (g:Goroutine):Prop where
 g2:∃ p rl,G2 p gs W t rl (fun _=>none) 0 []/\p.P=P/\p.Sw=Sw/\p.dm=dm/\p.J0=gs.size
 main:gs[0]? = some g
 run:g.status = .running
def Dk (P:Program) (Sw:Nat->Prop) (dm J0:Nat) (W:World) (S:aF):Pl where
 P:=P
 Sw:=Sw
 Ro:=z8
 h0:=fun b=>W.heap[b]?
 J0:=J0
 dm:=dm
 cn:=W.heap.size
 cr:=W.heap.size+1
 n:=0
 AtR:=fun _ _ _=>False
 lT:=fun _ _ _ _=>False
 dS:=fun _ _=>S
 Bd:=fun _ _ _ _=>False
 eR:=undef
 eS:=undef
 e0:=undef
 e1:=undef
theorem Kj {P:Program} {Sw:Nat->Prop} {dm J0:Nat} {W:World} {S:aF} (h:1<=J0):(Dk P Sw dm J0 W S).Ok where
 ne:=fun h=>by have:W.heap.size=W.heap.size+1:=h;omega
 j0:=h
 dm:=fun h=>absurd h (Nat.lt_irrefl _)
 hR:=fun _ _ _ h=>h.elim
 hS:=fun _ _ _ _ h=>h.elim
 hM:=fun _ _ _ _ _ _ h=>absurd h (Nat.not_lt_zero _)
section
variable {P:Program} {Sw aG:Nat->Prop} {dm gK:Nat} {gs:Array Goroutine} {W W':World} {t:Trace} {g g':Goroutine} {Q:Machine->Outcome->World->Trace->Prop} {S:aF}
theorem Al.own (A:Al P Sw dm gs W t g) {Ro O:Nat->Prop} (q:Pl) (hP:q.P=P) (hS:q.Sw=Sw) (hJ:q.J0=gs.size) (hd:q.dm=dm) (hn:q.n=0) (h0:q.h0=fun b=>W.heap[b]?) (dx:q.Ro=Ro) (r2:∀ b,Ro b->b<W.heap.size/\¬ Sw b) (o1:∀ b,O b->b<W.heap.size/\¬ Sw b/\¬ Ro b)
  (hR:Runs P true Ro (q.dS 0 []) g W O):∃ rl,rl[0]? = some (.run true (q.dS 0 []) g W O)/\G2 q gs W t rl (fun _=>none) 0 []:=by
 obtain⟨⟨p,rl,h,e1,e2,e3,e4⟩,hg,hr⟩:=A;have eT:=(Array.getElem?_eq_some_iff.1 hg).1;have hlt:0<rl.length:=h.len ▸ eT;refine⟨_,List.getElem?_set_self hlt,h.anew hg e4 q (hP.trans e1.symm) (hS.trans e2.symm) hJ (hd.trans e3.symm) hn h0 (fun b hb=>?_) (fun b hb=>?_) hr (by rw[hP,dx];exact hR)⟩
 ·rw[e2];exact r2 b (dx ▸ hb)
 ·rw[e2,dx];exact o1 b hb
theorem Al.at (A:Al P Sw dm gs W t g) (d:Nat):Al P Sw dm gs (W.at d) t g:=by
 obtain⟨⟨p,rl,h,e⟩,hg,hr⟩:=A;exact⟨⟨p,rl,h.at d,e⟩,hg,hr⟩
def OM (Sw:Nat->Prop) (W:World) (e:Event):Prop:=(∀ x,(MemAct.ofEvent e).touch? = some x->(nK Sw x.loc/\x.kind ≠ .plain)\/∃ b,blk x.loc=some b/\x.kind = .plain/\b<W.heap.size/\¬ Sw b)/\∀ a,MemAct.ofEvent e ≠ .mark (.release a)
theorem Al.step (A:Al P Sw dm gs W t g) {d:Nat} {sl:Option (Nat×Nat)} {es:Array Event} (e1:stepG P true g (W.at d) = .go g' W' es) (size:W.heap.size<=W'.heap.size) (gM:W'.os=W.os/\W'.output=W.output) (s1:∀ b,Sw b->aG b) (s2:∀ b,aG b->Sw b\/(W.heap.size<=b/\b<W'.heap.size)) (hes:∀ e,e∈es->OM aG W' e) (hd:deafBehind dm es=gK) (hr:g'.status = .running)
  (nx:∀ gs' t',Al P aG gK gs' W' t' g'->gs'.size=gs.size->dM P Q gs' W' t'):eU P Q gs W t 0 d sl:=by
 have eT:=(Array.getElem?_eq_some_iff.1 A.main).1;have A':=A.at d;obtain⟨rl,hrl,h⟩:=A'.own (Ro:=z8) (O:=Mine Sw W) (Dk P Sw dm gs.size W fun g' _ _=>g'=g) rfl rfl rfl rfl rfl rfl rfl (fun _ h=>h.elim) (fun b h=>⟨h.1,h.2,id⟩) (.stop fun _ _=>rfl);have hw:gs.map (Conc.woken P g g' W')=gs:=G2.woken (Kj (by omega)) h (fun h=>absurd h (Nat.lt_irrefl _)) (fun h=>absurd h (Nat.lt_irrefl _)) g g';have ops:∀ op∈MemOp.ofEvents 0 g.frame.fn g.frame.place es,∃ e∈es,op=⟨0,g.frame.fn,g.frame.place,MemAct.ofEvent e⟩:=by
  intro op hop;unfold MemOp.ofEvents at hop;split at hop
  ·simp at hop
  ·obtain⟨e,he,rfl⟩:=Array.mem_map.1 hop;exact⟨e,he,rfl⟩
 have Sc:∀ b,Sw b->b<W.heap.size:=fun b hb=>h.wi.ap.kU b hb
 have T:=h.turn (m:=true) (g':=g') (w':=W') (O':=Mine aG W') (aG:=aG) (X:=Sw) (gK:=gK) (n':=0) (u:=MemOp.ofEvents 0 g.frame.fn g.frame.place es) (M':=fun _ _ x _ _=>x=g') hrl size gM (fun b hb h1 h2=>absurd ⟨hb,h2⟩ h1) (fun b hb=>⟨hb,fun e=>by have:=Sc b hb;have:b=W.heap.size:=e;omega,fun e=>by have:=Sc b hb;have:b=W.heap.size+1:=e;omega⟩) s1 s2
  (fun b hb=>by
   by_cases hlt:b<W.heap.size
   ·exact .inl ⟨hlt,fun h=>hb.2 (s1 b h)⟩
   ·exact .inr ⟨Nat.le_of_not_lt hlt,hb.1⟩) (fun b hb=>hb.2) (fun op hop=>by
   obtain⟨e,he,rfl⟩:=ops op hop;refine⟨rfl,fun x hx=>?_⟩;rcases (hes e he).1 x hx with⟨h1,h2⟩|⟨b,h1,_,h2⟩
   ·exact .inl ⟨h1,h2,fun _=>rfl⟩
   ·exact .inr ⟨b,h1,.inl h2⟩) (fun op hop=>by
   obtain⟨e,he,rfl⟩:=ops op hop;exact⟨(hes e he).2,fun x hx=>((hes e he).1 x hx).imp (·.1) fun ⟨_,_,h,_⟩=>h⟩) (by rw[Deaf_own,h.wi.deaf 0 (.inl rfl)];exact hd) hr (.stop fun _ _=>rfl) (fun h=>absurd h (Nat.lt_irrefl _)) (by show 1<=gs.size;omega)
 refine .inl ⟨_,_,_,runT_crowd_go A.main (by exact e1),?_⟩;rw[hw];exact nx _ _ ⟨⟨_,_,T,rfl,rfl,rfl,by simp[Dk]⟩,get_set_same eT _,hr⟩ (by simp)
end
end Px
